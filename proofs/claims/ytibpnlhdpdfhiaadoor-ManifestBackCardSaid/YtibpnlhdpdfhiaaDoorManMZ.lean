/- Names of segments: what they tell. -/
import Derived.Test.YtibpnlhdpdfhiaaDoorTupMathZ
import Derived.Test.YtibpnlhdpdfhiaaDoorStrCallsZ
set_option linter.unusedVariables false
namespace Go.Proofs.YtibpnlhdpdfhiaaDoor
open Go.RowKit

/-! ### A number's name -/
def zerosL (n : Nat) : List UInt8 := List.replicate n 48
theorem repeat_zeros : ∀ n, Lib.repeatL [48] n = zerosL n
  | 0 => rfl
  | n + 1 => by unfold Lib.repeatL; rw [repeat_zeros n]; rfl
def nameM (n : Int) : List UInt8 := if 1 ≤ n ∧ n ≤ 999999 then 115 :: (zerosL (6 - (Lib.itoa n).length) ++ Lib.itoa n) else []
theorem dig_one (u : Nat) (h : u < 10) : Lib.nDigits u = 1 := Lib.nDigits_small h
theorem dig_le : ∀ (k u : Nat), u < 10 ^ (k + 1) → Lib.nDigits u ≤ k + 1
  | 0, u, h => by rw [Lib.nDigits_small (by simpa using h)]; exact Nat.le_refl _
  | k + 1, u, h => by
    by_cases h10 : u < 10
    · rw [Lib.nDigits_small h10]; omega
    · rw [Lib.nDigits_big h10]
      have := dig_le k (u / 10) (by rw [Nat.pow_succ] at h; omega)
      omega
theorem itoa_six (n : Int) (h0 : 1 ≤ n) : (Lib.itoa n).length ≤ 6 ↔ n ≤ 999999 := by
  obtain ⟨u, rfl⟩ : ∃ u : Nat, n = u := ⟨n.toNat, by omega⟩
  rw [Lib.itoa_nonneg, Lib.decDigits_length]
  constructor
  · intro h
    have h1 := Lib.lt_pow_nDigits u
    have h2 : 10 ^ Lib.nDigits u ≤ 10 ^ 6 := Nat.pow_le_pow_right (by decide) h
    have h3 : (10 : Nat) ^ 6 = 1000000 := by decide
    omega
  · intro h
    exact dig_le 5 u (by have h3 : (10 : Nat) ^ (5 + 1) = 1000000 := by decide
                         omega)
theorem itoa_pos (n : Int) (h0 : 1 ≤ n) : 1 ≤ (Lib.itoa n).length := by
  obtain ⟨u, rfl⟩ : ∃ u : Nat, n = u := ⟨n.toNat, by omega⟩
  rw [Lib.itoa_nonneg, Lib.decDigits_length]
  exact Lib.nDigits_pos u

/-! ### A name's number -/
def digC (c : UInt8) : Bool := decide (48 ≤ c.toNat ∧ c.toNat ≤ 57)
/-- The six digits behind the letter, where they are. -/
def segB (s : List UInt8) : Bool := decide (s.length = 7) && (decide (s.head? = some 115) && ((s.drop 1).all digC && decide (0 < valL 0 (s.drop 1))))
def segV (s : List UInt8) : Int := if segB s = true then (valL 0 (s.drop 1) : Nat) else 0
theorem val_lin : ∀ (l : List UInt8) (a : Nat), valL a l = a * 10 ^ l.length + valL 0 l
  | [], a => by simp [valL]
  | c :: l, a => by
    have h1 : valL a (c :: l) = valL (a * 10 + (c.toNat - 48)) l := rfl
    have h2 : valL 0 (c :: l) = valL (0 * 10 + (c.toNat - 48)) l := rfl
    rw [h1, h2, val_lin l (a * 10 + (c.toNat - 48)), val_lin l (0 * 10 + (c.toNat - 48)), List.length_cons, Nat.pow_succ, Nat.add_mul, Nat.zero_mul, Nat.zero_add, Nat.mul_assoc, Nat.mul_comm 10, Nat.add_assoc]
theorem valL_lt : ∀ (l : List UInt8), (∀ c ∈ l, digC c = true) → valL 0 l < 10 ^ l.length
  | [], _ => by simp [valL]
  | c :: l, h => by
    have hc := of_decide_eq_true (h c (List.mem_cons_self ..))
    have ih := valL_lt l (fun x hx => h x (List.mem_cons_of_mem _ hx))
    have h2 : valL 0 (c :: l) = valL (0 * 10 + (c.toNat - 48)) l := rfl
    rw [h2, val_lin, List.length_cons, Nat.pow_succ]
    have h9 : (0 * 10 + (c.toNat - 48)) * 10 ^ l.length ≤ 9 * 10 ^ l.length := Nat.mul_le_mul_right _ (by omega)
    omega
theorem val_inj : ∀ (l m : List UInt8), l.length = m.length → (∀ c ∈ l, digC c = true) → (∀ c ∈ m, digC c = true) → valL 0 l = valL 0 m → l = m
  | [], [], _, _, _, _ => rfl
  | [], _ :: _, h, _, _, _ => by simp at h
  | _ :: _, [], h, _, _, _ => by simp at h
  | c :: l, d :: m, hl, h1, h2, hv => by
    have hl' : l.length = m.length := by simpa using hl
    have hc := of_decide_eq_true (h1 c (List.mem_cons_self ..))
    have hd := of_decide_eq_true (h2 d (List.mem_cons_self ..))
    have g1 := valL_lt l (fun x hx => h1 x (List.mem_cons_of_mem _ hx))
    have g2 := valL_lt m (fun x hx => h2 x (List.mem_cons_of_mem _ hx))
    have e1 : valL 0 (c :: l) = valL (0 * 10 + (c.toNat - 48)) l := rfl
    have e2 : valL 0 (d :: m) = valL (0 * 10 + (d.toNat - 48)) m := rfl
    rw [e1, e2, val_lin l, val_lin m, ← hl'] at hv
    rw [← hl'] at g2
    generalize 10 ^ l.length = p at *
    have hp : 0 < p := by omega
    have hcd : c.toNat - 48 = d.toNat - 48 := by
      have a1 : (0 * 10 + (c.toNat - 48)) * p + valL 0 l = p * (c.toNat - 48) + valL 0 l := by rw [Nat.zero_mul, Nat.zero_add, Nat.mul_comm]
      have a2 : (0 * 10 + (d.toNat - 48)) * p + valL 0 m = p * (d.toNat - 48) + valL 0 m := by rw [Nat.zero_mul, Nat.zero_add, Nat.mul_comm]
      rw [a1, a2] at hv
      have b1 := Nat.mul_add_div hp (c.toNat - 48) (valL 0 l)
      have b2 := Nat.mul_add_div hp (d.toNat - 48) (valL 0 m)
      rw [hv, b2, Nat.div_eq_of_lt g1, Nat.div_eq_of_lt g2] at b1
      omega
    have hcd2 : c = d := UInt8.toNat_inj.1 (by omega)
    subst hcd2
    exact congrArg _ (val_inj l m hl' (fun x hx => h1 x (List.mem_cons_of_mem _ hx)) (fun x hx => h2 x (List.mem_cons_of_mem _ hx)) (by omega))
theorem val_zeros : ∀ n, valL 0 (zerosL n) = 0
  | 0 => rfl
  | n + 1 => by
    have : valL 0 (zerosL (n + 1)) = valL 0 (zerosL n) := rfl
    rw [this, val_zeros n]
theorem dec_all (u : Nat) : ∀ c ∈ Lib.decDigits u, digC c = true := fun c hc => decide_eq_true (dec_digit u c hc)
/-- The six digits of a number that has a name. -/
theorem six_all (n : Int) : ∀ k, 0 ≤ n → ∀ c ∈ zerosL k ++ Lib.itoa n, digC c = true := by
  intro k h0 c hc
  rcases List.mem_append.1 hc with h | h
  · rw [List.eq_of_mem_replicate h]; rfl
  · unfold Lib.itoa at h
    rw [if_neg (by omega)] at h
    exact dec_all _ c h
theorem six_val (n : Int) (k : Nat) (h0 : 0 ≤ n) : valL 0 (zerosL k ++ Lib.itoa n) = n.toNat := by
  unfold Lib.itoa
  rw [if_neg (by omega), valL_append, val_zeros, valL_dec]
theorem six_len (n : Int) (h0 : 1 ≤ n) (h1 : n ≤ 999999) : (zerosL (6 - (Lib.itoa n).length) ++ Lib.itoa n).length = 6 := by
  have := (itoa_six n h0).2 h1
  rw [List.length_append, zerosL, List.length_replicate]; omega
/-- What a name tells. -/
theorem seg_name (n : Int) (h0 : 1 ≤ n) (h1 : n ≤ 999999) : segB (nameM n) = true ∧ segV (nameM n) = n := by
  have e : nameM n = 115 :: (zerosL (6 - (Lib.itoa n).length) ++ Lib.itoa n) := by unfold nameM; rw [if_pos ⟨h0, h1⟩]
  have hb : segB (nameM n) = true := by
    rw [e]
    unfold segB
    simp only [List.length_cons, six_len n h0 h1, List.head?_cons, List.drop_succ_cons, List.drop_zero, Bool.and_eq_true, decide_eq_true_eq, List.all_eq_true, true_and]
    exact ⟨six_all n _ (by omega), by rw [six_val n _ (by omega)]; omega⟩
  refine ⟨hb, ?_⟩
  unfold segV
  rw [if_pos hb, e, List.drop_succ_cons, List.drop_zero, six_val n _ (by omega)]
  omega
theorem name_seg (s : List UInt8) (h : segB s = true) : nameM (segV s) = s ∧ 1 ≤ segV s ∧ segV s ≤ 999999 := by
  have hb := h
  unfold segB at h
  simp only [Bool.and_eq_true, decide_eq_true_eq, List.all_eq_true] at h
  obtain ⟨h7, hh, ha, hp⟩ := h
  have hv : segV s = (valL 0 (s.drop 1) : Nat) := by unfold segV; rw [if_pos hb]
  cases s with
  | nil => simp at h7
  | cons c r =>
    simp only [List.head?_cons, Option.some.injEq] at hh
    subst hh
    simp only [List.drop_succ_cons, List.drop_zero] at ha hp hv
    have hr : r.length = 6 := by simpa using h7
    have hlt := valL_lt r ha
    rw [hr] at hlt
    have h3 : (10 : Nat) ^ 6 = 1000000 := by decide
    have b0 : 1 ≤ segV (115 :: r) := by omega
    have b1 : segV (115 :: r) ≤ 999999 := by omega
    refine ⟨?_, b0, b1⟩
    unfold nameM
    rw [if_pos ⟨b0, b1⟩]
    congr 1
    refine val_inj _ _ (by rw [six_len _ b0 b1, hr]) (six_all _ _ (by omega)) ha ?_
    rw [six_val _ _ (by omega), hv]; omega

/-- Digits alone, whose number fits. -/
theorem pum_dig (M : Nat) : ∀ (l : List UInt8) (acc : Nat), (∀ c ∈ l, 48 ≤ c.toNat ∧ c.toNat ≤ 57) → valL acc l ≤ M → valL acc l < 1844674407370955162 → Lib.parseUintM M acc l = .ok (valL acc l)
  | [], acc, _, _, _ => rfl
  | c :: r, acc, h, h1, h2 => by
    have hc := h c (List.mem_cons_self ..)
    have hv : valL acc (c :: r) = valL (acc * 10 + (c.toNat - 48)) r := rfl
    have hge : ∀ (l : List UInt8) (a : Nat), a ≤ valL a l := by
      intro l
      induction l with
      | nil => intro a; exact Nat.le_refl _
      | cons x l ih => intro a; have := ih (a * 10 + (x.toNat - 48)); show a ≤ valL (a * 10 + (x.toNat - 48)) l; omega
    have g := hge r (acc * 10 + (c.toNat - 48))
    rw [hv] at h1 h2 ⊢
    unfold Lib.parseUintM
    rw [if_pos hc, if_neg (by omega), if_neg (by omega)]
    exact pum_dig M r _ (fun x hx => h x (List.mem_cons_of_mem _ hx)) h1 h2
theorem at_dig (l : List UInt8) (hl : l.length = 6) (h : ∀ c ∈ l, digC c = true) : Lib.atoiAll l = .ok (valL 0 l : Nat) := by
  have hlt := valL_lt l h
  rw [hl] at hlt
  have h3 : (10 : Nat) ^ 6 = 1000000 := by decide
  cases l with
  | nil => simp at hl
  | cons c r =>
    have hc := of_decide_eq_true (h c (List.mem_cons_self ..))
    have hp : Lib.parseMag (c :: r) = .ok (valL 0 (c :: r)) := by
      rw [← Lib.parseUintB_64]
      unfold Lib.parseUintB
      rw [if_neg (by simp), pum_dig _ _ 0 (fun x hx => of_decide_eq_true (h x hx)) (by omega) (by omega)]
    unfold Lib.atoiAll
    simp only [show ¬ (c.toNat = 43 ∨ c.toNat = 45) by omega, if_false, hp]
    rw [if_neg (by omega), if_neg (by omega), if_neg (by omega)]
def trimM (s : List UInt8) : List UInt8 := Lib.trimPrefix s [115]
theorem trim_len (s : List UInt8) : (trimM s).length ≤ s.length := by
  unfold trimM Lib.trimPrefix; split
  · simp
  · exact Nat.le_refl _
theorem trim_cons (r : List UInt8) : trimM (115 :: r) = r := by
  unfold trimM Lib.trimPrefix Lib.hasPrefix
  rw [if_pos (by simp)]; rfl
/-- Number of package manifest: what Atoi tells, if its name is that. -/
def numB (s : List UInt8) : Bool := atB (trimM s) && decide (nameM (atV (trimM s)) = s)
theorem num_seg (s : List UInt8) : numB s = segB s ∧ (segB s = true → atV (trimM s) = segV s) := by
  have key : segB s = true → atB (trimM s) = true ∧ atV (trimM s) = segV s := by
    intro h
    have hb := h
    unfold segB at h
    simp only [Bool.and_eq_true, decide_eq_true_eq, List.all_eq_true] at h
    obtain ⟨h7, hh, ha, hp⟩ := h
    have hv : segV s = (valL 0 (s.drop 1) : Nat) := by unfold segV; rw [if_pos hb]
    cases s with
    | nil => simp at h7
    | cons c r =>
      simp only [List.head?_cons, Option.some.injEq] at hh
      subst hh
      simp only [List.drop_succ_cons, List.drop_zero] at ha hp hv
      have e := at_dig r (by simpa using h7) ha
      rw [trim_cons]
      exact ⟨by unfold atB; rw [e], by unfold atV; rw [e, hv]⟩
  refine ⟨?_, fun h => (key h).2⟩
  cases hs : segB s with
  | true =>
    obtain ⟨k1, k2⟩ := key hs
    unfold numB
    rw [k1, k2, (name_seg s hs).1]; simp
  | false =>
    unfold numB
    rw [Bool.eq_false_iff]
    intro h
    simp only [Bool.and_eq_true, decide_eq_true_eq] at h
    obtain ⟨h1, h2⟩ := h
    by_cases hr : 1 ≤ atV (trimM s) ∧ atV (trimM s) ≤ 999999
    · have := (seg_name _ hr.1 hr.2).1
      rw [h2, hs] at this; cases this
    · have e : nameM (atV (trimM s)) = [] := by unfold nameM; rw [if_neg hr]
      rw [e] at h2
      subst h2
      exact absurd h1 (by decide)
end Go.Proofs.YtibpnlhdpdfhiaaDoor
