/- A set of backends as text, and back; pure. -/
import Derived.Test.YtgpchkobjgglhaaGreatDoorTupBackMZ
import Derived.Test.YtgpchkobjgglhaaGreatDoorGnMZ
set_option linter.unusedVariables false
namespace Go.Proofs.YtgpchkobjgglhaaGreatDoor
open Go.RowKit

/-- One backend as text, a set as text. -/
def bkL (b : BkD) : List UInt8 := Lib.itoa b.id ++ [64] ++ addrL b.addr ++ [42] ++ Lib.itoa b.weight
def bksL (bs : List BkD) : List UInt8 := if bs = [] then [45] else Lib.join (bs.map bkL) [44]
def adrOk (b : BkD) : Prop := 0 ≤ b.addr ∧ b.addr ≤ 4294967295
def pOneK (l : List UInt8) : BkD := ⟨atV (cutL l 64).1, (paV (cutL (cutL l 64).2 42).1 : Nat), atV (cutL (cutL l 64).2 42).2⟩
def gparL (l : List UInt8) : List BkD := if l = [45] then [] else (partsOf l 44).map (fun p => pOneK p.data.toList)
def gparB (l : List UInt8) : Bool := gmay (gparL l) && decide (bksL (gparL l) = l)
theorem bkL_eq (b : BkD) : bkL b = Lib.itoa b.id ++ 64 :: (addrL b.addr ++ 42 :: Lib.itoa b.weight) := by unfold bkL; simp
theorem itoa_no (n : Int) {c : UInt8} (h1 : c ≠ 45) (h2 : c.toNat < 48 ∨ 57 < c.toNat) : c ∉ Lib.itoa n := num_ne (itoa_num n) h1 h2
theorem bkL_inj {a b : BkD} (ha : adrOk a) (hb : adrOk b) (h : bkL a = bkL b) : a = b := by
  rw [bkL_eq, bkL_eq] at h
  obtain ⟨h1, h2⟩ := split_at (itoa_no _ (by decide) (by decide)) (itoa_no _ (by decide) (by decide)) h
  obtain ⟨h3, h4⟩ := split_at (addrL_no _ (by decide) (by decide) (by decide)) (addrL_no _ (by decide) (by decide) (by decide)) h2
  cases a; cases b
  have e1 := itoa_inj h1
  have e2 := addrL_inj ha.1 ha.2 hb.1 hb.2 h3
  have e3 := itoa_inj h4
  simp only at e1 e2 e3
  rw [e1, e2, e3]
theorem bkL_no (b : BkD) : (44 : UInt8) ∉ bkL b := by
  rw [bkL_eq]
  simp only [List.mem_append, List.mem_cons, not_or]
  exact ⟨itoa_no _ (by decide) (by decide), by decide, addrL_no _ (by decide) (by decide) (by decide), by decide, itoa_no _ (by decide) (by decide)⟩
theorem joinTail_cons' (y : List UInt8) (r : List (List UInt8)) : Lib.joinTail [44] (y :: r) = 44 :: Lib.join (y :: r) [44] := by
  rw [Lib.join_cons]; simp [Lib.joinTail]
theorem parts_join : ∀ (x : List UInt8) (r : List (List UInt8)), (∀ y ∈ x :: r, (44 : UInt8) ∉ y) → partsOf (Lib.join (x :: r) [44]) 44 = (x :: r).map mkS
  | x, [], h => by rw [Lib.join_one]; exact parts_last _ _ (h x (List.mem_cons_self ..))
  | x, y :: r, h => by
    rw [Lib.join_cons, joinTail_cons', parts_first _ _ _ (h x (List.mem_cons_self ..)), parts_join y r (fun z hz => h z (List.mem_cons_of_mem _ hz))]
    rfl
theorem bksL_parts {bs : List BkD} (h : bs ≠ []) : partsOf (bksL bs) 44 = bs.map (fun b => mkS (bkL b)) := by
  unfold bksL
  rw [if_neg h]
  cases bs with
  | nil => exact absurd rfl h
  | cons x r =>
    rw [List.map_cons, parts_join _ _ (fun y hy => by
      rcases List.mem_cons.1 hy with rfl | hy
      · exact bkL_no x
      · obtain ⟨b, _, rfl⟩ := List.mem_map.1 hy
        exact bkL_no b)]
    rw [List.map_cons, List.map_cons, List.map_map]; rfl
theorem bksL_at {bs : List BkD} (h : bs ≠ []) : (64 : UInt8) ∈ bksL bs := by
  unfold bksL
  rw [if_neg h]
  cases bs with
  | nil => exact absurd rfl h
  | cons x r =>
    rw [List.map_cons, Lib.join_cons]
    refine List.mem_append_left _ ?_
    rw [bkL_eq]; simp
theorem bksL_not {bs : List BkD} (h : bs ≠ []) : bksL bs ≠ [45] := fun e => by
  have := bksL_at h
  rw [e] at this
  simp at this
theorem map_bkL_inj : ∀ {a b : List BkD}, (∀ x ∈ a, adrOk x) → (∀ x ∈ b, adrOk x) → a.map (fun b => mkS (bkL b)) = b.map (fun b => mkS (bkL b)) → a = b
  | [], [], _, _, _ => rfl
  | [], _ :: _, _, _, h => by simp at h
  | _ :: _, [], _, _, h => by simp at h
  | x :: a, y :: b, ha, hb, h => by
    rw [List.map_cons, List.map_cons, List.cons.injEq] at h
    rw [bkL_inj (ha x (List.mem_cons_self ..)) (hb y (List.mem_cons_self ..)) (mkS_inj h.1), map_bkL_inj (fun z hz => ha z (List.mem_cons_of_mem _ hz)) (fun z hz => hb z (List.mem_cons_of_mem _ hz)) h.2]
theorem bksL_inj {a b : List BkD} (ha : ∀ x ∈ a, adrOk x) (hb : ∀ x ∈ b, adrOk x) (h : bksL a = bksL b) : a = b := by
  by_cases h1 : a = []
  · subst h1
    by_cases h2 : b = []
    · exact h2.symm
    · exact absurd h.symm (bksL_not h2)
  · by_cases h2 : b = []
    · subst h2
      exact absurd h (bksL_not h1)
    · refine map_bkL_inj ha hb ?_
      rw [← bksL_parts h1, ← bksL_parts h2, h]
theorem pOneK_bk {b : BkD} (hm : mayKB b = true) (ha : adrOk b) : pOneK (bkL b) = b := by
  obtain ⟨m1, m2⟩ := (mayKB_iff _).1 hm
  have c1 : cutL (bkL b) 64 = (Lib.itoa b.id, addrL b.addr ++ 42 :: Lib.itoa b.weight) := by rw [bkL_eq]; exact cutL_at _ _ _ (itoa_no _ (by decide) (by decide))
  have c2 : cutL (addrL b.addr ++ 42 :: Lib.itoa b.weight) 42 = (addrL b.addr, Lib.itoa b.weight) := cutL_at _ _ _ (addrL_no _ (by decide) (by decide) (by decide))
  unfold pOneK
  rw [c1]
  simp only [c2]
  rw [(pa_addr b.addr ha.1 ha.2).1, atV_itoa _ m1.1 m1.2, atV_itoa _ (by omega) (by omega)]
theorem gparL_text {bs : List BkD} (hm : gmay bs = true) (ha : ∀ x ∈ bs, adrOk x) : gparL (bksL bs) = bs := by
  unfold gparL
  by_cases h : bs = []
  · subst h; rfl
  · rw [if_neg (bksL_not h), bksL_parts h, List.map_map]
    conv => rhs; rw [← List.map_id bs]
    refine List.map_congr_left (fun b hb => ?_)
    simp only [Function.comp, mkS_data, id]
    exact pOneK_bk (((gmayK_iff _).1 hm).2.1 b hb) (ha b hb)
theorem gparL_adr (l : List UInt8) : ∀ x ∈ gparL l, adrOk x := by
  intro x hx
  unfold gparL at hx
  split at hx
  · cases hx
  · obtain ⟨p, _, rfl⟩ := List.mem_map.1 hx
    refine ⟨Int.natCast_nonneg _, ?_⟩
    have := paV_lt (cutL (cutL p.data.toList 64).2 42).1
    show ((paV (cutL (cutL p.data.toList 64).2 42).1 : Nat) : Int) ≤ 4294967295
    omega
theorem gparB_text {bs : List BkD} (hm : gmay bs = true) (ha : ∀ x ∈ bs, adrOk x) : gparB (bksL bs) = true := by
  unfold gparB
  rw [gparL_text hm ha, hm]; simp
theorem gparB_not {bs : List BkD} (hm : gmay bs = false) (ha : ∀ x ∈ bs, adrOk x) : gparB (bksL bs) = false := by
  cases h : gparB (bksL bs) with
  | false => rfl
  | true =>
    unfold gparB at h
    simp only [Bool.and_eq_true, decide_eq_true_eq] at h
    have := bksL_inj (gparL_adr _) ha h.2
    rw [this, hm] at h
    exact absurd h.1 (by decide)
theorem bkL_len (b : BkD) (ok : BkOk b) : (bkL b).length ≤ 131 := by
  have h1 := Lib.itoa_length_le b.id ok.id.1 ok.id.2
  have h2 := Lib.itoa_length_le b.weight ok.weight.1 ok.weight.2
  have h3 := addrL_len b.addr ok.addr.1 ok.addr.2
  rw [bkL_eq]
  simp only [List.length_append, List.length_cons]
  omega
theorem lens_le : ∀ (L : List (List UInt8)) (n : Nat), (∀ l ∈ L, l.length ≤ n) → Lib.lens L ≤ n * L.length
  | [], n, _ => by simp [Lib.lens]
  | x :: r, n, h => by
    have h1 := h x (List.mem_cons_self ..)
    have h2 := lens_le r n (fun l hl => h l (List.mem_cons_of_mem _ hl))
    have e : Lib.lens (x :: r) = x.length + Lib.lens r := by simp [Lib.lens]
    rw [e, List.length_cons, Nat.mul_add]
    omega
theorem bksL_len (bs : List BkD) (ok : ∀ b ∈ bs, BkOk b) : (bksL bs).length ≤ 1 + 132 * bs.length := by
  unfold bksL
  by_cases h : bs = []
  · rw [if_pos h]; simp
  · rw [if_neg h]
    cases bs with
    | nil => exact absurd rfl h
    | cons x r =>
      rw [List.map_cons, Lib.join_cons, List.length_append, Lib.joinTail_length]
      have h1 := bkL_len x (ok x (List.mem_cons_self ..))
      have h2 := lens_le (r.map bkL) 131 (fun l hl => by
        obtain ⟨b, hb, rfl⟩ := List.mem_map.1 hl
        exact bkL_len b (ok b (List.mem_cons_of_mem _ hb)))
      simp only [List.length_map, List.length_cons, List.length_nil] at h2 ⊢
      omega
end Go.Proofs.YtgpchkobjgglhaaGreatDoor
