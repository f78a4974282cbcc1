/- Texts of backends as the reference reads them: what its parts tell where the text is a set's; pure. -/
import Derived.Test.YtgpchkobjgglhaaGreatDoorGnTextMZ
set_option linter.unusedVariables false
set_option linter.unusedSimpArgs false
namespace Go.Proofs.YtgpchkobjgglhaaGreatDoor
open Go.RowKit

theorem ndig_le : ∀ (k u : Nat), 1 ≤ k → u < 10 ^ k → (Lib.decDigits u).length ≤ k := by
  intro k
  induction k with
  | zero => intro u h; omega
  | succ k ih =>
    intro u _ h
    by_cases hu : u < 10
    · rw [Lib.decDigits_length, Lib.nDigits_small hu]; omega
    · rw [Nat.pow_succ] at h
      have h2 := ih (u / 10) (by
        cases k with
        | zero => simp at h; omega
        | succ k => omega) (by omega)
      rw [Lib.decDigits_length] at h2 ⊢
      rw [Lib.nDigits_big hu]; omega
theorem dec_head : ∀ (u : Nat) (c : UInt8) (r : List UInt8), Lib.decDigits u = c :: r → c.toNat = 48 → u = 0 := by
  intro u
  induction u using Nat.strongRecOn with
  | _ u ih =>
    intro c r h hc
    by_cases hu : u < 10
    · rw [Lib.decDigits_one hu] at h
      injection h with h1 h2
      rw [← h1, UInt8.toNat_ofNat'] at hc
      omega
    · rw [Lib.decDigits, dif_neg hu] at h
      cases hd : Lib.decDigits (u / 10) with
      | nil => exact absurd hd (dec_ne_nil _)
      | cons d q =>
        rw [hd, List.cons_append] at h
        injection h with h1 h2
        have := ih (u / 10) (by omega) d q hd (by rw [h1]; exact hc)
        omega
/-- What Number tells. -/
def NumIs (l : List UInt8) (n : Int) (b : Bool) : Prop := (-9223372036854775808 ≤ n ∧ n ≤ 9223372036854775807) ∧ ∀ x : Int, 0 ≤ x → x ≤ 65535 → l = Lib.itoa x → n = x ∧ b = true
/-- Is it a short numeral? -/
def NumL (l : List UInt8) : Prop := ∃ x : Int, 0 ≤ x ∧ x ≤ 65535 ∧ l = Lib.itoa x
theorem NumL.facts {l : List UInt8} (h : NumL l) : l ≠ [] ∧ l.length ≤ 5 ∧ l.head? ≠ some 45 ∧ (∀ c ∈ l, 48 ≤ c.toNat ∧ c.toNat ≤ 57) ∧ (l.head? = some 48 → l = [48]) := by
  obtain ⟨x, h0, h1, rfl⟩ := h
  obtain ⟨u, rfl⟩ : ∃ u : Nat, x = u := ⟨x.toNat, by omega⟩
  rw [Lib.itoa_nonneg]
  refine ⟨dec_ne_nil u, ndig_le 5 u (by decide) (by omega), fun h => ?_, dec_digit u, fun h => ?_⟩
  · cases hd : Lib.decDigits u with
    | nil => exact absurd hd (dec_ne_nil _)
    | cons c r =>
      rw [hd] at h
      have := dec_digit u c (by rw [hd]; exact List.mem_cons_self ..)
      simp only [List.head?_cons, Option.some.injEq] at h
      rw [h] at this
      exact absurd this.1 (by decide)
  · cases hd : Lib.decDigits u with
    | nil => exact absurd hd (dec_ne_nil _)
    | cons c r =>
      rw [hd] at h
      simp only [List.head?_cons, Option.some.injEq] at h
      have hu := dec_head u c r hd (by rw [h]; decide)
      rw [hu, Lib.decDigits_one (by decide)] at hd
      exact hd.symm
theorem numIs_bad {l : List UInt8} (h : ¬ NumL l) (n : Int) (b : Bool) (hn : -9223372036854775808 ≤ n ∧ n ≤ 9223372036854775807) : NumIs l n b :=
  ⟨hn, fun x h0 h1 e => absurd ⟨x, h0, h1, e⟩ h⟩
theorem numIs_good {l : List UInt8} (h : NumL l) : NumIs l (valL 0 l : Nat) true := by
  obtain ⟨x, h0, h1, rfl⟩ := h
  obtain ⟨u, rfl⟩ : ∃ u : Nat, x = u := ⟨x.toNat, by omega⟩
  have e : valL 0 (Lib.itoa (u : Int)) = u := by rw [Lib.itoa_nonneg, valL_dec]
  rw [e]
  exact ⟨by omega, fun y h2 h3 h4 => ⟨itoa_inj h4, rfl⟩⟩
/-- What ParseAddr tells. -/
def AdrIs (l : List UInt8) (a : Int) (b : Bool) : Prop := (0 ≤ a ∧ a ≤ 4294967295) ∧ ∀ x : Int, 0 ≤ x → x ≤ 4294967295 → l = addrL x → a = x ∧ b = true
def AdrL (l : List UInt8) (x : Int) : Prop := 0 ≤ x ∧ x ≤ 4294967295 ∧ l = addrL x
theorem oct_len (n : Int) (h0 : 0 ≤ n) (h1 : n ≤ 255) : (Lib.itoa n).length ≤ 3 := by
  obtain ⟨u, rfl⟩ : ∃ u : Nat, n = u := ⟨n.toNat, by omega⟩
  rw [Lib.itoa_nonneg]
  exact ndig_le 3 u (by decide) (by omega)
theorem adr_len {l : List UInt8} {x : Int} (h : AdrL l x) : l.length ≤ 15 := by
  obtain ⟨h0, h1, rfl⟩ := h
  rw [addrL_eq]
  have a := oct_len (x / 16777216) (by omega) (by omega)
  have b := oct_len (x / 65536 % 256) (by omega) (by omega)
  have c := oct_len (x / 256 % 256) (by omega) (by omega)
  have d := oct_len (x % 256) (by omega) (by omega)
  simp only [List.length_append, List.length_cons]
  omega
theorem adr_parts {l : List UInt8} {x : Int} (h : AdrL l x) : partsOf l 46 = (partsL x).map mkS := by
  obtain ⟨h0, h1, rfl⟩ := h
  have n46 : ∀ n, (46 : UInt8) ∉ Lib.itoa n := fun n => num_ne (itoa_num n) (by decide) (by decide)
  rw [addrL_eq, parts_first _ _ _ (n46 _), parts_first _ _ _ (n46 _), parts_first _ _ _ (n46 _), parts_last _ _ (n46 _)]
  rfl
/-- A text that is a set's. -/
def SetL (l : List UInt8) (B : List BkD) : Prop := B ≠ [] ∧ gmay B = true ∧ (∀ b ∈ B, adrOk b) ∧ l = bksL B
theorem setL_of {l : List UInt8} (h : gparB l = true) (hd : l ≠ [45]) : SetL l (gparL l) := by
  unfold gparB at h
  simp only [Bool.and_eq_true, decide_eq_true_eq] at h
  refine ⟨fun e => hd ?_, h.1, gparL_adr l, h.2.symm⟩
  rw [← h.2, e]; rfl
theorem setL_is {l : List UInt8} {B : List BkD} (h : SetL l B) : gparB l = true ∧ gparL l = B := by
  obtain ⟨h1, h2, h3, rfl⟩ := h
  exact ⟨gparB_text h2 h3, gparL_text h2 h3⟩
/-- What of a set's text is still to be read. -/
def restL (B : List BkD) (j : Nat) : List UInt8 := Lib.join ((B.drop j).map bkL) [44]
theorem rest_0 {B : List BkD} (h : B ≠ []) : restL B 0 = bksL B := by
  unfold restL bksL
  rw [if_neg h]; rfl
theorem cutL_not (c : UInt8) (a : List UInt8) (h : c ∉ a) : cutL a c = (a, []) ∧ cutB a c = false := by
  unfold cutL cutB Lib.cut
  rw [index_not c a h]
  simp
theorem cutB_at (c : UInt8) (a b : List UInt8) (h : c ∉ a) : cutB (a ++ c :: b) c = true := by
  unfold cutB Lib.cut
  rw [index_at c a b h]
  simp
theorem rest_cut {B : List BkD} {j : Nat} (hj : j < B.length) : (cutL (restL B j) 44).1 = bkL B[j] ∧ (cutB (restL B j) 44 = true → j + 1 < B.length ∧ (cutL (restL B j) 44).2 = restL B (j + 1)) ∧ (cutB (restL B j) 44 = false → j + 1 = B.length) := by
  unfold restL
  rw [List.drop_eq_getElem_cons hj, List.map_cons]
  cases hr : B.drop (j + 1) with
  | nil =>
    have hl : j + 1 = B.length := by
      have := congrArg List.length hr
      rw [List.length_drop, List.length_nil] at this; omega
    rw [List.map_nil, Lib.join_one]
    obtain ⟨h1, h2⟩ := cutL_not 44 (bkL B[j]) (bkL_no _)
    rw [h1, h2]
    exact ⟨rfl, (fun h => by cases h), (fun _ => hl)⟩
  | cons y r =>
    have hl : j + 1 < B.length := by
      have := congrArg List.length hr
      rw [List.length_drop, List.length_cons] at this; omega
    rw [List.map_cons, Lib.join_cons, joinTail_cons', cutL_at 44 _ _ (bkL_no _), cutB_at 44 _ _ (bkL_no _)]
    exact ⟨rfl, (fun _ => ⟨hl, rfl⟩), (fun h => by cases h)⟩
theorem bk_cut (b : BkD) : cutL (bkL b) 64 = (Lib.itoa b.id, addrL b.addr ++ 42 :: Lib.itoa b.weight) ∧ cutB (bkL b) 64 = true ∧ cutL (addrL b.addr ++ 42 :: Lib.itoa b.weight) 42 = (addrL b.addr, Lib.itoa b.weight) ∧ cutB (addrL b.addr ++ 42 :: Lib.itoa b.weight) 42 = true := by
  rw [bkL_eq]
  exact ⟨cutL_at _ _ _ (itoa_no _ (by decide) (by decide)), cutB_at _ _ _ (itoa_no _ (by decide) (by decide)), cutL_at _ _ _ (addrL_no _ (by decide) (by decide) (by decide)), cutB_at _ _ _ (addrL_no _ (by decide) (by decide) (by decide))⟩
end Go.Proofs.YtgpchkobjgglhaaGreatDoor
