/- What is due when: rows, their order, heaps of them. -/
import Derived.Test.YtdjkjdeaglimeaaRowS
import Derived.Laws.Rows
set_option linter.unusedVariables false
namespace Go.Proofs.Ytdjkjdeaglimeaa
open Go.RowKit

/-- A key and its time. -/
structure QR where
  key : ByteArray
  time : Int
deriving DecidableEq
def q0 : QR := ⟨ByteArray.empty, 0⟩
def blB (a b : List UInt8) : Bool := Op.bytesLess a b
theorem bl_irrefl : ∀ a, blB a a = false
  | [] => rfl
  | x :: a => by
    have ih := bl_irrefl a
    simp only [blB, Op.bytesLess] at ih ⊢
    simp [ih]
theorem bl_trans : ∀ a b c, blB a b = true → blB b c = true → blB a c = true
  | a, b, [], _, h => by cases b <;> simp [blB, Op.bytesLess] at h
  | [], b, z :: c, _, _ => rfl
  | x :: a, [], z :: c, h, _ => by simp [blB, Op.bytesLess] at h
  | x :: a, y :: b, z :: c, h1, h2 => by
    have ih := bl_trans a b c
    simp only [blB, Op.bytesLess, Bool.or_eq_true, Bool.and_eq_true, decide_eq_true_eq, beq_iff_eq] at h1 h2 ih ⊢
    rcases h1 with h1 | ⟨rfl, h1⟩
    · rcases h2 with h2 | ⟨rfl, h2⟩
      · exact .inl (UInt8.lt_trans h1 h2)
      · exact .inl h1
    · rcases h2 with h2 | ⟨rfl, h2⟩
      · exact .inl h2
      · exact .inr ⟨rfl, ih h1 h2⟩
theorem bl_total : ∀ a b, blB a b = false → blB b a = false → a = b
  | [], [], _, _ => rfl
  | [], y :: b, h, _ => by simp [blB, Op.bytesLess] at h
  | x :: a, [], _, h => by simp [blB, Op.bytesLess] at h
  | x :: a, y :: b, h1, h2 => by
    have ih := bl_total a b
    simp only [blB, Op.bytesLess, Bool.or_eq_false_iff, Bool.and_eq_false_iff, decide_eq_false_iff_not, beq_eq_false_iff_ne] at h1 h2 ih
    have hxy : x = y := by
      have a1 := UInt8.not_lt.1 h1.1
      have a2 := UInt8.not_lt.1 h2.1
      exact UInt8.le_antisymm a2 a1
    subst hxy
    have g1 := h1.2.resolve_left (by simp)
    have g2 := h2.2.resolve_left (by simp)
    rw [ih g1 g2]
/-- By time, then key. -/
def ltQ (a b : QR) : Bool := decide (a.time < b.time) || (decide (a.time = b.time) && blB a.key.toList b.key.toList)
theorem ltQ_iff (a b : QR) : ltQ a b = true ↔ a.time < b.time ∨ (a.time = b.time ∧ blB a.key.toList b.key.toList = true) := by simp [ltQ]
theorem lt_irrefl (a : QR) : ltQ a a = false := by
  rw [Bool.eq_false_iff]; intro h
  rcases (ltQ_iff a a).1 h with h | ⟨_, h⟩
  · omega
  · rw [bl_irrefl] at h; cases h
theorem lt_trans' {a b c : QR} (h1 : ltQ a b = true) (h2 : ltQ b c = true) : ltQ a c = true := by
  rw [ltQ_iff] at h1 h2 ⊢
  rcases h1 with h1 | ⟨e1, h1⟩
  · rcases h2 with h2 | ⟨e2, h2⟩
    · exact .inl (by omega)
    · exact .inl (by omega)
  · rcases h2 with h2 | ⟨e2, h2⟩
    · exact .inl (by omega)
    · exact .inr ⟨by omega, bl_trans _ _ _ h1 h2⟩
theorem lt_asymm {a b : QR} (h : ltQ a b = true) : ltQ b a = false := by
  rw [Bool.eq_false_iff]; intro h2
  have := lt_trans' h h2
  rw [lt_irrefl] at this; cases this
theorem toList_inj {a b : ByteArray} (h : a.toList = b.toList) : a = b := by
  rw [Lib.toList_data, Lib.toList_data] at h
  exact ByteArray.ext (Array.ext' h)
theorem lt_total {a b : QR} (h1 : ltQ a b = false) (h2 : ltQ b a = false) : a = b := by
  have e : ¬ ltQ a b = true := by rw [h1]; decide
  have f : ¬ ltQ b a = true := by rw [h2]; decide
  rw [ltQ_iff] at e f
  have ht : a.time = b.time := by omega
  have hk : a.key.toList = b.key.toList := by
    refine bl_total _ _ ?_ ?_
    · rw [Bool.eq_false_iff]; intro h; exact e (.inr ⟨ht, h⟩)
    · rw [Bool.eq_false_iff]; intro h; exact f (.inr ⟨ht.symm, h⟩)
  obtain ⟨k, t⟩ := a
  obtain ⟨k2, t2⟩ := b
  simp only at ht hk
  rw [toList_inj hk, ht]
theorem nlt_trans {a b c : QR} (h1 : ltQ a b = false) (h2 : ltQ b c = false) : ltQ a c = false := by
  rw [Bool.eq_false_iff]; intro h
  cases hb : ltQ b a with
  | true => have := lt_trans' hb h; rw [h2] at this; cases this
  | false =>
    have := lt_total h1 hb
    subst this
    rw [h2] at h; cases h

/-! ### Two rows change places -/
def gq (l : List QR) (i : Nat) : QR := l.getD i q0
theorem gq_get (l : List QR) (i : Nat) (h : i < l.length) : gq l i = l[i] := by unfold gq; rw [List.getD_eq_getElem?_getD, List.getElem?_eq_getElem h]; rfl
def swapQ (l : List QR) (i j : Nat) : List QR := (l.set i (gq l j)).set j (gq l i)
theorem swapQ_length (l : List QR) (i j : Nat) : (swapQ l i j).length = l.length := by simp [swapQ]
theorem gq_set (l : List QR) (i m : Nat) (x : QR) (h : i < l.length) : gq (l.set i x) m = if m = i then x else gq l m := by
  unfold gq
  by_cases hm : m = i
  · subst hm; rw [if_pos rfl, List.getD_eq_getElem?_getD, List.getElem?_set_self h]; rfl
  · rw [if_neg hm, List.getD_eq_getElem?_getD, List.getElem?_set_ne (by omega), List.getD_eq_getElem?_getD]
theorem gq_swap (l : List QR) (i j m : Nat) (hi : i < l.length) (hj : j < l.length) : gq (swapQ l i j) m = if m = j then gq l i else if m = i then gq l j else gq l m := by
  unfold swapQ
  rw [gq_set _ _ _ _ (by simpa using hj), gq_set _ _ _ _ hi]
theorem perm_swap (l : List QR) (i j : Nat) (hi : i < l.length) (hj : j < l.length) : (swapQ l i j).Perm l := by
  unfold swapQ
  rw [gq_get l i hi, gq_get l j hj]
  exact List.set_set_perm hi hj

/-! ### Heaps -/
def par (k : Nat) : Nat := (k - 1) / 2
def HeapQ (N : Nat) (l : List QR) : Prop := ∀ k, 0 < k → k < N → ltQ (gq l k) (gq l (par k)) = false
def HeapUp (N j : Nat) (l : List QR) : Prop := (∀ k, 0 < k → k < N → k ≠ j → ltQ (gq l k) (gq l (par k)) = false) ∧ (∀ k, 0 < k → k < N → par k = j → 0 < j → ltQ (gq l k) (gq l (par j)) = false)
def HeapBut (N i : Nat) (l : List QR) : Prop := (∀ k, 0 < k → k < N → k ≠ i → par k ≠ i → ltQ (gq l k) (gq l (par k)) = false) ∧ (∀ k, 0 < k → k < N → par k = i → 0 < i → ltQ (gq l k) (gq l (par i)) = false)
theorem up_done {N j : Nat} {l : List QR} (h : HeapUp N j l) (hd : j = 0 ∨ ltQ (gq l j) (gq l (par j)) = false) : HeapQ N l := by
  intro k h0 hk
  by_cases e : k = j
  · subst e
    rcases hd with hd | hd
    · omega
    · exact hd
  · exact h.1 k h0 hk e
theorem up_step {N j : Nat} {l : List QR} (h : HeapUp N j l) (h0 : 0 < j) (hj : j < N) (hN : N ≤ l.length) (hlt : ltQ (gq l j) (gq l (par j)) = true) : HeapUp N (par j) (swapQ l (par j) j) := by
  have hp : par j < j := by unfold par; omega
  have g := gq_swap l (par j) j
  have gs := fun m => g m (by omega) (by omega)
  refine ⟨fun k k0 kN kp => ?_, fun k k0 kN kp p0 => ?_⟩
  · by_cases e : k = j
    · subst e
      rw [gs k, gs (par k), if_pos rfl, if_neg (by omega), if_pos rfl]
      exact lt_asymm hlt
    · by_cases e2 : par k = par j
      · rw [gs k, gs (par k), if_neg e, if_neg kp, if_neg (by omega), if_pos e2]
        have h1 := h.1 k k0 kN e
        rw [e2] at h1
        rw [Bool.eq_false_iff]; intro h2
        have := lt_trans' h2 hlt
        rw [h1] at this; cases this
      · by_cases e3 : par k = j
        · rw [gs k, gs (par k), if_neg e, if_neg kp, if_pos e3]
          exact h.2 k k0 kN e3 h0
        · rw [gs k, gs (par k), if_neg e, if_neg kp, if_neg e3, if_neg e2]
          exact h.1 k k0 kN e
  · have hpp : par (par j) < par j := by unfold par at p0 ⊢; omega
    have hpk : par k < k := by unfold par; omega
    rw [gs k, gs (par (par j)), if_neg (show par (par j) ≠ j by omega), if_neg (show par (par j) ≠ par j by omega)]
    by_cases e : k = j
    · rw [if_pos e]
      exact h.1 (par j) p0 (by omega) (by omega)
    · rw [if_neg e, if_neg (by omega)]
      have h1 := h.1 k k0 kN e
      rw [kp] at h1
      exact nlt_trans h1 (h.1 (par j) p0 (by omega) (by omega))
/-- The lesser child. -/
theorem down_step {N i j : Nat} {l : List QR} (h : HeapBut N i l) (hj : j < N) (j0 : 0 < j) (hpj : par j = i) (hN : N ≤ l.length) (hmin : ∀ k, 0 < k → k < N → par k = i → ltQ (gq l k) (gq l j) = false) (hlt : ltQ (gq l j) (gq l i) = true) :
    HeapBut N j (swapQ l i j) ∧ ltQ (gq (swapQ l i j) j) (gq (swapQ l i j) (par j)) = false := by
  have hij : i < j := by unfold par at hpj; omega
  have gs := fun m => gq_swap l i j m (by omega) (by omega)
  refine ⟨⟨fun k k0 kN kj kp => ?_, fun k k0 kN kp _ => ?_⟩, ?_⟩
  · by_cases e : k = i
    · subst e
      have hpk : par k < k := by unfold par; omega
      rw [gs k, gs (par k), if_neg kj, if_pos rfl, if_neg (by omega), if_neg (by omega)]
      exact h.2 j j0 hj hpj k0
    · by_cases e2 : par k = i
      · rw [gs k, gs (par k), if_neg kj, if_neg e, if_neg (by omega), if_pos e2]
        exact hmin k k0 kN e2
      · rw [gs k, gs (par k), if_neg kj, if_neg e, if_neg kp, if_neg e2]
        exact h.1 k k0 kN e e2
  · have hpk : par k < k := by unfold par; omega
    rw [gs k, gs (par j), if_neg (by omega), if_neg (by omega), hpj, if_neg (by omega), if_pos rfl]
    have := h.1 k k0 kN (by omega) (by omega)
    rwa [kp] at this
  · rw [gs j, gs (par j), if_pos rfl, hpj, if_neg (by omega), if_pos rfl]
    exact lt_asymm hlt
theorem down_done {N i : Nat} {l : List QR} (h : HeapBut N i l) (hc : ∀ k, 0 < k → k < N → par k = i → ltQ (gq l k) (gq l i) = false) (hp : i = 0 ∨ N ≤ i ∨ ltQ (gq l i) (gq l (par i)) = false) : HeapQ N l := by
  intro k k0 kN
  by_cases e : k = i
  · subst e
    rcases hp with hp | hp | hp
    · omega
    · omega
    · exact hp
  · by_cases e2 : par k = i
    · rw [e2]; exact hc k k0 kN e2
    · exact h.1 k k0 kN e e2
theorem but_up {N i : Nat} {l : List QR} (h : HeapBut N i l) (hc : ∀ k, 0 < k → k < N → par k = i → ltQ (gq l k) (gq l i) = false) : HeapUp N i l := by
  refine ⟨fun k k0 kN ki => ?_, h.2⟩
  by_cases e2 : par k = i
  · rw [e2]; exact hc k k0 kN e2
  · exact h.1 k k0 kN ki e2
theorem but_of {N i : Nat} {l l' : List QR} (h : HeapQ N l) (hs : ∀ m, m ≠ i → m < N → gq l' m = gq l m) : HeapBut N i l' := by
  refine ⟨fun k k0 kN ki kp => ?_, fun k k0 kN kp i0 => ?_⟩
  · have hpk : par k < k := by unfold par; omega
    rw [hs k ki kN, hs (par k) kp (by omega)]
    exact h k k0 kN
  · have hpk : par k < k := by unfold par; omega
    have hpi : par i < i := by unfold par; omega
    rw [hs k (by omega) kN, hs (par i) (by omega) (by omega)]
    have h1 := h k k0 kN
    rw [kp] at h1
    exact nlt_trans h1 (h i i0 (by omega))
theorem HeapQ.mono {N M : Nat} {l : List QR} (h : HeapQ N l) (hm : M ≤ N) : HeapQ M l := fun k k0 kM => h k k0 (by omega)
theorem HeapQ.same {N : Nat} {l l' : List QR} (h : HeapQ N l) (hs : ∀ m, m < N → gq l' m = gq l m) : HeapQ N l' := fun k k0 kN => by
  have hpk : par k < k := by unfold par; omega
  rw [hs k kN, hs (par k) (by omega)]; exact h k k0 kN
/-- The first is the least. -/
theorem heap_min {N : Nat} {l : List QR} (h : HeapQ N l) : ∀ k, k < N → ltQ (gq l k) (gq l 0) = false := by
  intro k
  induction k using Nat.strongRecOn with
  | ind k ih =>
    intro hk
    by_cases h0 : k = 0
    · subst h0; exact lt_irrefl _
    · have hp : par k < k := by unfold par; omega
      exact nlt_trans (h k (by omega) hk) (ih (par k) hp (by omega))
theorem push_up {l : List QR} {r : QR} (h : HeapQ l.length l) : HeapUp (l.length + 1) l.length (l ++ [r]) := by
  have hs : ∀ m, m < l.length → gq (l ++ [r]) m = gq l m := fun m hm => by
    unfold gq; rw [List.getD_eq_getElem?_getD, List.getElem?_append_left hm, List.getD_eq_getElem?_getD]
  refine ⟨fun k k0 kN kj => ?_, fun k k0 kN kp j0 => ?_⟩
  · have hpk : par k < k := by unfold par; omega
    rw [hs k (by omega), hs (par k) (by omega)]
    exact h k k0 (by omega)
  · have hpk : par k < k := by unfold par; omega
    omega
end Go.Proofs.Ytdjkjdeaglimeaa
