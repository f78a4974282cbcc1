/- GD: DueM, DueB, DueLess, DueS, DueSwap, DueUp, DueDown. -/
import Derived.Test.YtgpchkobjgglhaaGreatDoorGAZ
import Derived.Laws.Rows
import Derived.Test.YtgpchkobjgglhaaGreatDoorHAZ
import Derived.Maps.OwnSet
import Derived.Maps.OwnOps
import Derived.WideKeyEntry
import Derived.Deep.DeepCutAuto
import Derived.Deep.MidRow
import Derived.Handy
section
/- What is due when: rows, their order, heaps of them. -/
set_option linter.unusedVariables false
namespace Go.Proofs.YtgpchkobjgglhaaGreatDoor
open Go.RowKit

/-- A key and its time. -/
structure QR where
  key : ByteArray
  time : Int
deriving DecidableEq
def q0 : QR := ⟨ByteArray.empty, 0⟩
def blB (a b : List UInt8) : Bool := Op.bytesLess a b
theorem bl_irrefl : ∀ a, blB a a = false
  | [] => rfl
  | x :: a => by
    have ih := bl_irrefl a
    simp only [blB, Op.bytesLess] at ih ⊢
    simp [ih]
theorem bl_trans : ∀ a b c, blB a b = true → blB b c = true → blB a c = true
  | a, b, [], _, h => by cases b <;> simp [blB, Op.bytesLess] at h
  | [], b, z :: c, _, _ => rfl
  | x :: a, [], z :: c, h, _ => by simp [blB, Op.bytesLess] at h
  | x :: a, y :: b, z :: c, h1, h2 => by
    have ih := bl_trans a b c
    simp only [blB, Op.bytesLess, Bool.or_eq_true, Bool.and_eq_true, decide_eq_true_eq, beq_iff_eq] at h1 h2 ih ⊢
    rcases h1 with h1 | ⟨rfl, h1⟩
    · rcases h2 with h2 | ⟨rfl, h2⟩
      · exact .inl (UInt8.lt_trans h1 h2)
      · exact .inl h1
    · rcases h2 with h2 | ⟨rfl, h2⟩
      · exact .inl h2
      · exact .inr ⟨rfl, ih h1 h2⟩
theorem bl_total : ∀ a b, blB a b = false → blB b a = false → a = b
  | [], [], _, _ => rfl
  | [], y :: b, h, _ => by simp [blB, Op.bytesLess] at h
  | x :: a, [], _, h => by simp [blB, Op.bytesLess] at h
  | x :: a, y :: b, h1, h2 => by
    have ih := bl_total a b
    simp only [blB, Op.bytesLess, Bool.or_eq_false_iff, Bool.and_eq_false_iff, decide_eq_false_iff_not, beq_eq_false_iff_ne] at h1 h2 ih
    have hxy : x = y := by
      have a1 := UInt8.not_lt.1 h1.1
      have a2 := UInt8.not_lt.1 h2.1
      exact UInt8.le_antisymm a2 a1
    subst hxy
    have g1 := h1.2.resolve_left (by simp)
    have g2 := h2.2.resolve_left (by simp)
    rw [ih g1 g2]
/-- By time, then key. -/
def ltQ (a b : QR) : Bool := decide (a.time < b.time) || (decide (a.time = b.time) && blB a.key.toList b.key.toList)
theorem ltQ_iff (a b : QR) : ltQ a b = true ↔ a.time < b.time ∨ (a.time = b.time ∧ blB a.key.toList b.key.toList = true) := by simp [ltQ]
theorem lt_irrefl (a : QR) : ltQ a a = false := by
  rw [Bool.eq_false_iff]; intro h
  rcases (ltQ_iff a a).1 h with h | ⟨_, h⟩
  · omega
  · rw [bl_irrefl] at h; cases h
theorem lt_trans' {a b c : QR} (h1 : ltQ a b = true) (h2 : ltQ b c = true) : ltQ a c = true := by
  rw [ltQ_iff] at h1 h2 ⊢
  rcases h1 with h1 | ⟨e1, h1⟩
  · rcases h2 with h2 | ⟨e2, h2⟩
    · exact .inl (by omega)
    · exact .inl (by omega)
  · rcases h2 with h2 | ⟨e2, h2⟩
    · exact .inl (by omega)
    · exact .inr ⟨by omega, bl_trans _ _ _ h1 h2⟩
theorem lt_asymm {a b : QR} (h : ltQ a b = true) : ltQ b a = false := by
  rw [Bool.eq_false_iff]; intro h2
  have := lt_trans' h h2
  rw [lt_irrefl] at this; cases this
theorem toList_inj {a b : ByteArray} (h : a.toList = b.toList) : a = b := by
  rw [Lib.toList_data, Lib.toList_data] at h
  exact ByteArray.ext (Array.ext' h)
theorem lt_total {a b : QR} (h1 : ltQ a b = false) (h2 : ltQ b a = false) : a = b := by
  have e : ¬ ltQ a b = true := by rw [h1]; decide
  have f : ¬ ltQ b a = true := by rw [h2]; decide
  rw [ltQ_iff] at e f
  have ht : a.time = b.time := by omega
  have hk : a.key.toList = b.key.toList := by
    refine bl_total _ _ ?_ ?_
    · rw [Bool.eq_false_iff]; intro h; exact e (.inr ⟨ht, h⟩)
    · rw [Bool.eq_false_iff]; intro h; exact f (.inr ⟨ht.symm, h⟩)
  obtain ⟨k, t⟩ := a
  obtain ⟨k2, t2⟩ := b
  simp only at ht hk
  rw [toList_inj hk, ht]
theorem nlt_trans {a b c : QR} (h1 : ltQ a b = false) (h2 : ltQ b c = false) : ltQ a c = false := by
  rw [Bool.eq_false_iff]; intro h
  cases hb : ltQ b a with
  | true => have := lt_trans' hb h; rw [h2] at this; cases this
  | false =>
    have := lt_total h1 hb
    subst this
    rw [h2] at h; cases h

/-! ### Two rows change places -/
def gq (l : List QR) (i : Nat) : QR := l.getD i q0
theorem gq_get (l : List QR) (i : Nat) (h : i < l.length) : gq l i = l[i] := by unfold gq; rw [List.getD_eq_getElem?_getD, List.getElem?_eq_getElem h]; rfl
def swapQ (l : List QR) (i j : Nat) : List QR := (l.set i (gq l j)).set j (gq l i)
theorem swapQ_length (l : List QR) (i j : Nat) : (swapQ l i j).length = l.length := by simp [swapQ]
theorem gq_set (l : List QR) (i m : Nat) (x : QR) (h : i < l.length) : gq (l.set i x) m = if m = i then x else gq l m := by
  unfold gq
  by_cases hm : m = i
  · subst hm; rw [if_pos rfl, List.getD_eq_getElem?_getD, List.getElem?_set_self h]; rfl
  · rw [if_neg hm, List.getD_eq_getElem?_getD, List.getElem?_set_ne (by omega), List.getD_eq_getElem?_getD]
theorem gq_swap (l : List QR) (i j m : Nat) (hi : i < l.length) (hj : j < l.length) : gq (swapQ l i j) m = if m = j then gq l i else if m = i then gq l j else gq l m := by
  unfold swapQ
  rw [gq_set _ _ _ _ (by simpa using hj), gq_set _ _ _ _ hi]
theorem perm_swap (l : List QR) (i j : Nat) (hi : i < l.length) (hj : j < l.length) : (swapQ l i j).Perm l := by
  unfold swapQ
  rw [gq_get l i hi, gq_get l j hj]
  exact List.set_set_perm hi hj

/-! ### Heaps -/
def par (k : Nat) : Nat := (k - 1) / 2
def HeapQ (N : Nat) (l : List QR) : Prop := ∀ k, 0 < k → k < N → ltQ (gq l k) (gq l (par k)) = false
def HeapUp (N j : Nat) (l : List QR) : Prop := (∀ k, 0 < k → k < N → k ≠ j → ltQ (gq l k) (gq l (par k)) = false) ∧ (∀ k, 0 < k → k < N → par k = j → 0 < j → ltQ (gq l k) (gq l (par j)) = false)
def HeapBut (N i : Nat) (l : List QR) : Prop := (∀ k, 0 < k → k < N → k ≠ i → par k ≠ i → ltQ (gq l k) (gq l (par k)) = false) ∧ (∀ k, 0 < k → k < N → par k = i → 0 < i → ltQ (gq l k) (gq l (par i)) = false)
theorem up_done {N j : Nat} {l : List QR} (h : HeapUp N j l) (hd : j = 0 ∨ ltQ (gq l j) (gq l (par j)) = false) : HeapQ N l := by
  intro k h0 hk
  by_cases e : k = j
  · subst e
    rcases hd with hd | hd
    · omega
    · exact hd
  · exact h.1 k h0 hk e
theorem up_step {N j : Nat} {l : List QR} (h : HeapUp N j l) (h0 : 0 < j) (hj : j < N) (hN : N ≤ l.length) (hlt : ltQ (gq l j) (gq l (par j)) = true) : HeapUp N (par j) (swapQ l (par j) j) := by
  have hp : par j < j := by unfold par; omega
  have g := gq_swap l (par j) j
  have gs := fun m => g m (by omega) (by omega)
  refine ⟨fun k k0 kN kp => ?_, fun k k0 kN kp p0 => ?_⟩
  · by_cases e : k = j
    · subst e
      rw [gs k, gs (par k), if_pos rfl, if_neg (by omega), if_pos rfl]
      exact lt_asymm hlt
    · by_cases e2 : par k = par j
      · rw [gs k, gs (par k), if_neg e, if_neg kp, if_neg (by omega), if_pos e2]
        have h1 := h.1 k k0 kN e
        rw [e2] at h1
        rw [Bool.eq_false_iff]; intro h2
        have := lt_trans' h2 hlt
        rw [h1] at this; cases this
      · by_cases e3 : par k = j
        · rw [gs k, gs (par k), if_neg e, if_neg kp, if_pos e3]
          exact h.2 k k0 kN e3 h0
        · rw [gs k, gs (par k), if_neg e, if_neg kp, if_neg e3, if_neg e2]
          exact h.1 k k0 kN e
  · have hpp : par (par j) < par j := by unfold par at p0 ⊢; omega
    have hpk : par k < k := by unfold par; omega
    rw [gs k, gs (par (par j)), if_neg (show par (par j) ≠ j by omega), if_neg (show par (par j) ≠ par j by omega)]
    by_cases e : k = j
    · rw [if_pos e]
      exact h.1 (par j) p0 (by omega) (by omega)
    · rw [if_neg e, if_neg (by omega)]
      have h1 := h.1 k k0 kN e
      rw [kp] at h1
      exact nlt_trans h1 (h.1 (par j) p0 (by omega) (by omega))
/-- The lesser child. -/
theorem down_step {N i j : Nat} {l : List QR} (h : HeapBut N i l) (hj : j < N) (j0 : 0 < j) (hpj : par j = i) (hN : N ≤ l.length) (hmin : ∀ k, 0 < k → k < N → par k = i → ltQ (gq l k) (gq l j) = false) (hlt : ltQ (gq l j) (gq l i) = true) :
    HeapBut N j (swapQ l i j) ∧ ltQ (gq (swapQ l i j) j) (gq (swapQ l i j) (par j)) = false := by
  have hij : i < j := by unfold par at hpj; omega
  have gs := fun m => gq_swap l i j m (by omega) (by omega)
  refine ⟨⟨fun k k0 kN kj kp => ?_, fun k k0 kN kp _ => ?_⟩, ?_⟩
  · by_cases e : k = i
    · subst e
      have hpk : par k < k := by unfold par; omega
      rw [gs k, gs (par k), if_neg kj, if_pos rfl, if_neg (by omega), if_neg (by omega)]
      exact h.2 j j0 hj hpj k0
    · by_cases e2 : par k = i
      · rw [gs k, gs (par k), if_neg kj, if_neg e, if_neg (by omega), if_pos e2]
        exact hmin k k0 kN e2
      · rw [gs k, gs (par k), if_neg kj, if_neg e, if_neg kp, if_neg e2]
        exact h.1 k k0 kN e e2
  · have hpk : par k < k := by unfold par; omega
    rw [gs k, gs (par j), if_neg (by omega), if_neg (by omega), hpj, if_neg (by omega), if_pos rfl]
    have := h.1 k k0 kN (by omega) (by omega)
    rwa [kp] at this
  · rw [gs j, gs (par j), if_pos rfl, hpj, if_neg (by omega), if_pos rfl]
    exact lt_asymm hlt
theorem down_done {N i : Nat} {l : List QR} (h : HeapBut N i l) (hc : ∀ k, 0 < k → k < N → par k = i → ltQ (gq l k) (gq l i) = false) (hp : i = 0 ∨ N ≤ i ∨ ltQ (gq l i) (gq l (par i)) = false) : HeapQ N l := by
  intro k k0 kN
  by_cases e : k = i
  · subst e
    rcases hp with hp | hp | hp
    · omega
    · omega
    · exact hp
  · by_cases e2 : par k = i
    · rw [e2]; exact hc k k0 kN e2
    · exact h.1 k k0 kN e e2
theorem but_up {N i : Nat} {l : List QR} (h : HeapBut N i l) (hc : ∀ k, 0 < k → k < N → par k = i → ltQ (gq l k) (gq l i) = false) : HeapUp N i l := by
  refine ⟨fun k k0 kN ki => ?_, h.2⟩
  by_cases e2 : par k = i
  · rw [e2]; exact hc k k0 kN e2
  · exact h.1 k k0 kN ki e2
theorem but_of {N i : Nat} {l l' : List QR} (h : HeapQ N l) (hs : ∀ m, m ≠ i → m < N → gq l' m = gq l m) : HeapBut N i l' := by
  refine ⟨fun k k0 kN ki kp => ?_, fun k k0 kN kp i0 => ?_⟩
  · have hpk : par k < k := by unfold par; omega
    rw [hs k ki kN, hs (par k) kp (by omega)]
    exact h k k0 kN
  · have hpk : par k < k := by unfold par; omega
    have hpi : par i < i := by unfold par; omega
    rw [hs k (by omega) kN, hs (par i) (by omega) (by omega)]
    have h1 := h k k0 kN
    rw [kp] at h1
    exact nlt_trans h1 (h i i0 (by omega))
theorem HeapQ.mono {N M : Nat} {l : List QR} (h : HeapQ N l) (hm : M ≤ N) : HeapQ M l := fun k k0 kM => h k k0 (by omega)
theorem HeapQ.same {N : Nat} {l l' : List QR} (h : HeapQ N l) (hs : ∀ m, m < N → gq l' m = gq l m) : HeapQ N l' := fun k k0 kN => by
  have hpk : par k < k := by unfold par; omega
  rw [hs k kN, hs (par k) (by omega)]; exact h k k0 kN
/-- The first is the least. -/
theorem heap_min {N : Nat} {l : List QR} (h : HeapQ N l) : ∀ k, k < N → ltQ (gq l k) (gq l 0) = false := by
  intro k
  induction k using Nat.strongRecOn with
  | ind k ih =>
    intro hk
    by_cases h0 : k = 0
    · subst h0; exact lt_irrefl _
    · have hp : par k < k := by unfold par; omega
      exact nlt_trans (h k (by omega) hk) (ih (par k) hp (by omega))
theorem push_up {l : List QR} {r : QR} (h : HeapQ l.length l) : HeapUp (l.length + 1) l.length (l ++ [r]) := by
  have hs : ∀ m, m < l.length → gq (l ++ [r]) m = gq l m := fun m hm => by
    unfold gq; rw [List.getD_eq_getElem?_getD, List.getElem?_append_left hm, List.getD_eq_getElem?_getD]
  refine ⟨fun k k0 kN kj => ?_, fun k k0 kN kp j0 => ?_⟩
  · have hpk : par k < k := by unfold par; omega
    rw [hs k (by omega), hs (par k) (by omega)]
    exact h k k0 (by omega)
  · have hpk : par k < k := by unfold par; omega
    omega
end Go.Proofs.YtgpchkobjgglhaaGreatDoor

end

section
/- The queue of what is due, in memory. -/
set_option linter.unusedVariables false
set_option linter.unusedSimpArgs false
namespace Go.Proofs.YtgpchkobjgglhaaGreatDoor
open Go.RowKit

/-- Where a queue's rows and its places lie. -/
structure QH where
  a : Option Addr
  c : Nat
  mo : Option Nat
def qcl (r : QR) : List Value := [.string r.key, .int .i64 r.time]
def klB (k : ByteArray) : Lit := .string k.data.toList
def klQ (r : QR) : Lit := klB r.key
/-- The map tells where each key is. -/
structure PlQ (D : DataW Unit) (l : List QR) : Prop where
  tidy : Maps.Tidy D
  size : Maps.size D = l.length
  at_ : ∀ i, i < l.length → D.atKey (klQ (gq l i)) (.lit (.int .i64 0)) = .lit (.int .i64 i)
  has : ∀ k : ByteArray, Maps.has D (klB k) = l.any (fun r => decide (r.key = k))
def MapQ (w : World) (b : Nat) (h : QH) (l : List QR) : Prop :=
  match h.mo with
  | none => l = []
  | some mb => b < mb ∧ (∀ k, h.a.map (·.block) = some k → k ≠ mb) ∧ ∃ D : DataW Unit, w.ownsMap Tryz.prog 9 (plainElem Tryz.prog 3) mb l.length D ∧ PlQ D l
/-- The blocks of a queue. -/
def footQ (b : Nat) (h : QH) (k : Nat) : Prop := k = b ∨ h.a.map (·.block) = some k ∨ h.mo = some k
section
variable {w w' : World} {b : Nat} {h : QH} {l : List QR}
theorem ownsMap_touch {H : Type} {P : Program} {k : TypeId} {R : Value → Option (DataW H × List MemPlace)} {mb n : Nat} {D : DataW H} {S : Nat → Prop} (h : w.ownsMap P k R mb n D) (t : Touch w w' S) (hn : ¬ S mb) : w'.ownsMap P k R mb n D := by
  obtain ⟨es, clock, hb, r⟩ := h
  exact ⟨es, clock, t.keeps hb hn, r⟩
theorem ownsMap_tight {H : Type} {P : Program} {k : TypeId} {R : Value → Option (DataW H × List MemPlace)} {mb n : Nat} {D : DataW H} (h : w.ownsMap P k R mb n D) : w.ownsMap P k R mb (Maps.size D) D := by
  obtain ⟨es, clock, hb, F, hs, rfl⟩ := h
  exact ⟨es, clock, hb, F, by simp [Maps.size, length_sorted], rfl⟩
theorem own_block {a : Option Addr} {n c k : Nat} (h : (Value.slice a n c).ownBlock = some k) : a.map (·.block) = some k := by
  cases a with
  | none => simp [Value.ownBlock] at h
  | some x => simpa [Value.ownBlock] using h
end
end Go.Proofs.YtgpchkobjgglhaaGreatDoor

end

section
/- The queue's Less. -/
set_option linter.unusedVariables false
set_option linter.unusedSimpArgs false
namespace Go.Proofs.YtgpchkobjgglhaaGreatDoor
open Go.RowKit

end Go.Proofs.YtgpchkobjgglhaaGreatDoor

end

section
/- The queue's rows and places: what a store of an entry does; two rows change places. -/
set_option linter.unusedVariables false
set_option linter.unusedSimpArgs false
namespace Go.Proofs.YtgpchkobjgglhaaGreatDoor
open Go.RowKit Go.ChangeMaps Go.WideElems

theorem strKeyed : Maps.Keyed Tryz.prog 9 := Maps.string_keyed Tryz.underlying9
theorem strLaw : WideMaps.KeyLaw Tryz.prog 9 := WideMaps.string_law Tryz.underlying9
theorem keyQ {k : ByteArray} (h : k.size ≤ 281474976710656) : keyOf Tryz.prog 9 (.string k) = some (klB k) := WideMaps.keyOf_string_mk Tryz.underlying9 (by simp only [maxLen]; omega)
theorem elemQ (i : Int) (h0 : -9223372036854775808 ≤ i) (h1 : i ≤ 9223372036854775807) : plainElem (H := Unit) Tryz.prog 3 (.int .i64 i) = some (.lit (.int .i64 i), []) := plainElem_int Tryz.underlying3 (by simp [Lit.wf, IntKind.min, IntKind.max, IntKind.signed, IntKind.bits]; omega)
theorem zeroI (w : World) : (zeroValue 3).run Tryz.prog w = .ok (.int .i64 0) w := by kernel_rfl
theorem klB_inj {a b : ByteArray} (h : klB a = klB b) : a = b := by
  unfold klB at h
  simp only [Lit.string.injEq] at h
  exact ByteArray.ext (Array.ext' h)
theorem mem_gq {l : List QR} {r : QR} (h : r ∈ l) : ∃ i, i < l.length ∧ gq l i = r := by
  obtain ⟨i, hi, e⟩ := List.getElem_of_mem h
  exact ⟨i, hi, by rw [gq_get l i hi]; exact e⟩
theorem gq_mem (l : List QR) (i : Nat) (h : i < l.length) : gq l i ∈ l := by rw [gq_get l i h]; exact List.getElem_mem h
theorem nd_inj {l : List QR} (nd : (l.map QR.key).Nodup) {i j : Nat} (hi : i < l.length) (hj : j < l.length) (h : (gq l i).key = (gq l j).key) : i = j := by
  have hi' : i < (l.map QR.key).length := by simpa using hi
  have hj' : j < (l.map QR.key).length := by simpa using hj
  rw [gq_get l i hi, gq_get l j hj] at h
  exact (List.getElem_inj (h₀ := hi') (h₁ := hj') nd).1 (by simpa using h)
theorem has_key {D : DataW Unit} {l : List QR} (p : PlQ D l) {i : Nat} (hi : i < l.length) : Maps.has D (klQ (gq l i)) = true := by
  unfold klQ
  rw [p.has, List.any_eq_true]
  exact ⟨gq l i, gq_mem l i hi, by simp⟩
theorem any_perm {l l' : List QR} (h : l'.Perm l) (f : QR → Bool) : l'.any f = l.any f := by
  rw [Bool.eq_iff_iff, List.any_eq_true, List.any_eq_true]
  exact ⟨fun ⟨x, hx, hf⟩ => ⟨x, h.mem_iff.1 hx, hf⟩, fun ⟨x, hx, hf⟩ => ⟨x, h.mem_iff.2 hx, hf⟩⟩
theorem isKey (r : QR) : WideAt.IsKeyLit (klQ r) := trivial
theorem plQ_swap {D : DataW Unit} {l : List QR} (p : PlQ D l) (nd : (l.map QR.key).Nodup) {i j : Nat} (hi : i < l.length) (hj : j < l.length) :
    PlQ ((D.put (klQ (gq (swapQ l i j) i)) (.lit (.int .i64 i))).put (klQ (gq (swapQ l i j) j)) (.lit (.int .i64 j))) (swapQ l i j) := by
  have hp := perm_swap l i j hi hj
  have hln := swapQ_length l i j
  have gs := fun m => gq_swap l i j m hi hj
  have nd' : ((swapQ l i j).map QR.key).Nodup := (hp.map QR.key).nodup_iff.2 nd
  have hk : ∀ m, m < l.length → Maps.has D (klQ (gq (swapQ l i j) m)) = true := fun m hm => by
    unfold klQ
    rw [p.has, ← any_perm hp, List.any_eq_true]
    exact ⟨_, gq_mem _ m (by omega), by simp⟩
  have t1 := Maps.Tidy.put p.tidy (isKey (gq (swapQ l i j) i)) (.lit (.int .i64 i))
  have h1 : Maps.has (D.put (klQ (gq (swapQ l i j) i)) (.lit (.int .i64 i))) (klQ (gq (swapQ l i j) j)) = true := by
    by_cases e : klQ (gq (swapQ l i j) j) = klQ (gq (swapQ l i j) i)
    · rw [e]; exact Maps.has_put_same p.tidy.isMap (isKey _) _
    · rw [Maps.has_put_other e]; exact hk j hj
  refine ⟨Maps.Tidy.put t1 (isKey _) _, ?_, fun m hm => ?_, fun k => ?_⟩
  · rw [Maps.size_put t1, h1, if_pos rfl, Maps.size_put p.tidy, hk i hi, if_pos rfl, p.size, hln]
  · rw [hln] at hm
    by_cases e : m = j
    · subst e
      rw [Maps.atKey_put_same (Maps.Tidy.isMap t1) (isKey _)]
    · have n1 : klQ (gq (swapQ l i j) m) ≠ klQ (gq (swapQ l i j) j) := fun h => e (nd_inj nd' (by omega) (by omega) (klB_inj h))
      rw [Maps.atKey_put_other n1]
      by_cases e2 : m = i
      · subst e2
        rw [Maps.atKey_put_same p.tidy.isMap (isKey _)]
      · have n2 : klQ (gq (swapQ l i j) m) ≠ klQ (gq (swapQ l i j) i) := fun h => e2 (nd_inj nd' (by omega) (by omega) (klB_inj h))
        rw [Maps.atKey_put_other n2, gs m, if_neg e, if_neg e2]
        exact p.at_ m hm
  · rw [any_perm hp, ← p.has k]
    have : ∀ m, m < l.length → klB k = klQ (gq (swapQ l i j) m) → Maps.has D (klB k) = true := fun m hm e => by rw [e]; exact hk m hm
    by_cases e : klB k = klQ (gq (swapQ l i j) j)
    · rw [this j hj e, e]; exact Maps.has_put_same (Maps.Tidy.isMap t1) (isKey _) _
    · rw [Maps.has_put_other e]
      by_cases e2 : klB k = klQ (gq (swapQ l i j) i)
      · rw [this i hi e2, e2]; exact Maps.has_put_same p.tidy.isMap (isKey _) _
      · rw [Maps.has_put_other e2]
theorem two_one (s : ByteArray) (t : Int) : (#[Value.string s, Value.int .i64 t] : Array Value).all (·.oneCell') = true := by rw [← Array.all_toList]; rfl
/-- A whole row is stored. -/
theorem own_put {w : World} {base g n c : Nat} {T : TypeId} {l : List QR} (h : OwnS w base T 2 (.slice (some ⟨g, 0, none⟩) n c) (l.map qcl)) (i : Nat) (hi : i < l.length) (x : QR) :
    OwnS (w.setCells g (i * 2) (qcl x)) base T 2 (.slice (some ⟨g, 0, none⟩) n c) ((l.set i x).map qcl) := by
  have hi' : i < (l.map qcl).length := by simpa using hi
  have h1 := OwnS.stored h i hi' 0 (by omega) (.string x.key)
  rw [Nat.add_zero] at h1
  have hi2 : i < ((l.map qcl).set i ((l.map qcl)[i].set 0 (.string x.key))).length := by simpa using hi
  have h2 := OwnS.stored h1 i hi2 1 (by omega) (.int .i64 x.time)
  have e : ((l.map qcl).set i ((l.map qcl)[i].set 0 (.string x.key))).set i ((((l.map qcl).set i ((l.map qcl)[i].set 0 (.string x.key)))[i]).set 1 (.int .i64 x.time)) = (l.set i x).map qcl := by
    rw [List.set_set, List.map_set]
    simp [qcl]
  rw [e] at h2
  exact h2
theorem own_there {w : World} {base g n c : Nat} {T : TypeId} {l : List QR} (h : OwnS w base T 2 (.slice (some ⟨g, 0, none⟩) n c) (l.map qcl)) (i : Nat) (hi : i < l.length) : w.there g (i * 2) 2 := by
  obtain ⟨hl, hr, _⟩ := h.row'
  have hi' : i < (l.map qcl).length := by simpa using hi
  intro j hj
  refine ⟨?_, h.free _⟩
  have hq : (l.map qcl)[i] = qcl l[i] := by simp
  rcases (by omega : j = 0 ∨ j = 1) with rfl | rfl
  · have := RowS.cell hr i hi' 0 (.string l[i].key) (by rw [hq]; rfl)
    rw [Nat.zero_add] at this
    rw [this]; rfl
  · have := RowS.cell hr i hi' 1 (.int .i64 l[i].time) (by rw [hq]; rfl)
    rw [Nat.zero_add] at this
    rw [this]; rfl
theorem own_cell2 {w : World} {base g n c : Nat} {T : TypeId} {l : List QR} (h : OwnS w base T 2 (.slice (some ⟨g, 0, none⟩) n c) (l.map qcl)) (i : Nat) (hi : i < l.length) : w.cell? ⟨g, i * 2, none⟩ = some (.string (gq l i).key) ∧ w.cell? ⟨g, i * 2 + 1, none⟩ = some (.int .i64 (gq l i).time) := by
  obtain ⟨hl, hr, _⟩ := h.row'
  have hi' : i < (l.map qcl).length := by simpa using hi
  have e : (l.map qcl)[i] = qcl (gq l i) := by rw [List.getElem_map, gq_get l i hi]
  have h0 := RowS.cell hr i hi' 0 (.string (gq l i).key) (by rw [e]; rfl)
  have h1 := RowS.cell hr i hi' 1 (.int .i64 (gq l i).time) (by rw [e]; rfl)
  rw [Nat.zero_add, Nat.add_zero] at h0
  rw [Nat.zero_add] at h1
  exact ⟨h0, h1⟩
theorem touch_cells (w : World) (g : Nat) : ∀ (vs : List Value) (o : Nat), Touch w (w.setCells g o vs) (fun k => k = g) := by
  intro vs
  induction vs generalizing w with
  | nil => intro o; exact Touch.refl _ _
  | cons v r ih =>
    intro o
    exact ((Touch.refl w (fun k => k = g)).setCell ⟨g, o, none⟩ v (fun _ => rfl)).trans (ih _ (o + 1)) (fun _ _ h => h)
section
variable {P : Program} {ops : Array Oper} {Q : Exit → Act → World → Prop} {S : World → Prop} {N : Act → World → Prop}
/-- A struct is stored into the middle of a block. -/
theorem runN_storeM {i : Nat} {a : Act} {w : World} {o : Oper} (ho : ops[i]? = some o) (hd : o.dst = none) (hw : Region.wanted o (yielded ops a.tmps) = true) (ty : TypeId) (x y : Operand) (hop : o.op = .store ty x y)
    (g off : Nat) (cells : Array Value) (hx : a.eval x = .pointer (some ⟨g, off, none⟩)) (hy : a.eval y = .agg cells) (ht : w.there g off cells.size) (hi : (P.info? ty).map (·.size) = some cells.size) (h1 : cells.all (·.oneCell') = true)
    (h : S (w.setCells g off cells.toList) ∧ (S (w.setCells g off cells.toList) → N (a.put none undef) (w.setCells g off cells.toList))) : RunN P ops Q S i N a w := by
  refine ⟨o, ho, fun K' hK => ?_⟩
  rw [if_pos hw]
  unfold Oper.wp execOp
  simp only [hop, hx, hy, run_storeAt_mid w g off ty cells ht hi h1, Sem.run_bind, Sem.run_pure, Result.andThen_ok]
  have k3 := hK.out _ _ h.1 h.2
  rw [← hd] at k3
  exact k3
end
theorem gq_app (l : List QR) (r : QR) (m : Nat) (h : m < l.length) : gq (l ++ [r]) m = gq l m := by
  unfold gq; rw [List.getD_eq_getElem?_getD, List.getElem?_append_left h, List.getD_eq_getElem?_getD]
theorem gq_last (l : List QR) (r : QR) : gq (l ++ [r]) l.length = r := by
  unfold gq; rw [List.getD_eq_getElem?_getD, List.getElem?_append_right (Nat.le_refl _)]; simp
theorem plQ_nil : PlQ (.map []) [] := ⟨Maps.tidy_empty, rfl, fun i hi => by simp at hi, fun k => rfl⟩
theorem plQ_push {D : DataW Unit} {l : List QR} (p : PlQ D l) (r : QR) (hn : r.key ∉ l.map QR.key) : PlQ (D.put (klQ r) (.lit (.int .i64 l.length))) (l ++ [r]) := by
  have hf : Maps.has D (klQ r) = false := by
    unfold klQ; rw [p.has, Bool.eq_false_iff]; intro h
    rw [List.any_eq_true] at h
    obtain ⟨x, hx, e⟩ := h
    exact hn (List.mem_map.2 ⟨x, hx, of_decide_eq_true e⟩)
  refine ⟨Maps.Tidy.put p.tidy (isKey r) _, ?_, fun i hi => ?_, fun k => ?_⟩
  · rw [Maps.size_put p.tidy, hf, if_neg (by decide), p.size]; simp
  · by_cases e : i = l.length
    · subst e
      rw [gq_last, Maps.atKey_put_same p.tidy.isMap (isKey r)]
    · have hi' : i < l.length := by simp at hi; omega
      have hne : klQ (gq l i) ≠ klQ r := fun h => hn (List.mem_map.2 ⟨gq l i, gq_mem l i hi', klB_inj h⟩)
      rw [gq_app l r i hi', Maps.atKey_put_other hne]
      exact p.at_ i hi'
  · rw [List.any_append]
    by_cases e : klB k = klQ r
    · have ek : r.key = k := (klB_inj e).symm
      rw [e, Maps.has_put_same p.tidy.isMap (isKey r)]
      simp [ek]
    · have ek : ¬ r.key = k := fun h => e (by rw [← h]; rfl)
      rw [Maps.has_put_other e, p.has]
      simp [ek]
theorem plQ_pop {D : DataW Unit} {l : List QR} {r : QR} (p : PlQ D (l ++ [r])) (nd : ((l ++ [r]).map QR.key).Nodup) : PlQ (D.del (klQ r)) l := by
  have hr : r.key ∉ l.map QR.key := by
    rw [List.map_append, List.nodup_append] at nd
    intro h
    exact nd.2.2 _ h _ (by simp) rfl
  have hh : Maps.has D (klQ r) = true := by
    unfold klQ; rw [p.has, List.any_eq_true]; exact ⟨r, by simp, by simp⟩
  refine ⟨Maps.Tidy.del p.tidy _, ?_, fun i hi => ?_, fun k => ?_⟩
  · have := Maps.size_del (k := klQ r) p.tidy
    rw [hh, if_pos rfl, p.size] at this
    simp at this; omega
  · have hne : klQ (gq l i) ≠ klQ r := fun h => hr (List.mem_map.2 ⟨gq l i, gq_mem l i hi, klB_inj h⟩)
    rw [Maps.atKey_del_other hne]
    have := p.at_ i (by simp; omega)
    rwa [gq_app l r i hi] at this
  · by_cases e : klB k = klQ r
    · have ek : r.key = k := (klB_inj e).symm
      rw [e, Maps.has_del_same]
      symm
      rw [Bool.eq_false_iff]; intro h
      rw [List.any_eq_true] at h
      obtain ⟨x, hx, e2⟩ := h
      exact hr (List.mem_map.2 ⟨x, hx, by rw [of_decide_eq_true e2, ek]⟩)
    · have ek : ¬ r.key = k := fun h => e (by rw [← h]; rfl)
      rw [Maps.has_del_other e, p.has, List.any_append]
      simp [ek]
/-- The head of a row of the call's own is one. -/
theorem OwnS.front {w : World} {base g n c k : Nat} {E : TypeId} {L : List (List Value)} (h : OwnS w base E k (.slice (some ⟨g, 0, none⟩) n c) L) (m : Nat) (hm : m ≤ n) : OwnS w base E k (.slice (some ⟨g, 0, none⟩) m c) (L.take m) := by
  obtain ⟨hl, hr, _⟩ := h.row'
  obtain ⟨h1, h2⟩ := h.own
  have hl' : (L.take m).length = m := by simp; omega
  have he : ∀ l ∈ L.take m, l.length = k := fun l hl => h.each l (List.mem_of_mem_take hl)
  have hft : (L.take m).flatten = L.flatten.take (m * k) := by
    have hlen := flatten_length (L.take m) he
    rw [hl'] at hlen
    have e2 : L.flatten = (L.take m).flatten ++ (L.drop m).flatten := by rw [← List.flatten_append, List.take_append_drop]
    have e3 : ((L.take m).flatten ++ (L.drop m).flatten).take (m * k) = (L.take m).flatten := by
      rw [List.take_append_of_le_length (Nat.le_of_eq hlen.symm)]
      exact List.take_of_length_le (Nat.le_of_eq hlen)
    rw [← e2] at e3
    exact e3.symm
  refine ⟨⟨by rw [flatten_length _ he], ?_⟩, he⟩
  rcases h2 with ⟨h2, -⟩ | ⟨g2, cap2, cur, hv2, hb, hg, hc, hmx, hs, ht⟩
  · cases h2
  · simp only [Value.slice.injEq, Option.some.injEq, Addr.mk.injEq, and_true] at hv2
    obtain ⟨rfl, h3, rfl⟩ := hv2
    have hmk : m * k ≤ L.length * k := Nat.mul_le_mul_right k (by omega)
    refine .inr ⟨g, c, cur, by rw [hl'], hb, hg, by omega, hmx, hs, ?_⟩
    rw [hl', hft, ← ht, List.take_take]
    congr 1; omega
end Go.Proofs.YtgpchkobjgglhaaGreatDoor

end

section
/- The queue's Swap. -/
set_option linter.unusedVariables false
set_option linter.unusedSimpArgs false
namespace Go.Proofs.YtgpchkobjgglhaaGreatDoor
open Go.RowKit

end Go.Proofs.YtgpchkobjgglhaaGreatDoor

end

section
/- container/heap's up, over a queue. -/
set_option linter.unusedVariables false
set_option linter.unusedSimpArgs false
namespace Go.Proofs.YtgpchkobjgglhaaGreatDoor
open Go.RowKit

/-- A step that changes places among the first N rows. -/
def Moved (N : Nat) (l l' : List QR) : Prop := l'.Perm l ∧ ∀ m, N ≤ m → gq l' m = gq l m
theorem Moved.refl (N : Nat) (l : List QR) : Moved N l l := ⟨.refl _, fun _ _ => rfl⟩
theorem Moved.length {N : Nat} {l l' : List QR} (h : Moved N l l') : l'.length = l.length := h.1.length_eq
theorem Moved.trans {N : Nat} {l l' l'' : List QR} (h : Moved N l l') (h2 : Moved N l' l'') : Moved N l l'' := ⟨h2.1.trans h.1, fun m hm => (h2.2 m hm).trans (h.2 m hm)⟩
theorem Moved.swap {N : Nat} {l : List QR} (hN : N ≤ l.length) (i j : Nat) (hi : i < N) (hj : j < N) : Moved N l (swapQ l i j) :=
  ⟨perm_swap l i j (by omega) (by omega), fun m hm => by rw [gq_swap l i j m (by omega) (by omega), if_neg (by omega), if_neg (by omega)]⟩
end Go.Proofs.YtgpchkobjgglhaaGreatDoor

end

section
/- container/heap's down, over a queue. -/
set_option linter.unusedVariables false
set_option linter.unusedSimpArgs false
namespace Go.Proofs.YtgpchkobjgglhaaGreatDoor
open Go.RowKit

theorem down_end {N i m : Nat} {l : List QR} (hu : HeapBut N m l) (hw : m = i ∨ ltQ (gq l m) (gq l (par m)) = false) (hc : ∀ k, 0 < k → k < N → par k = m → ltQ (gq l k) (gq l m) = false) (him : i ≤ m) :
    (decide (i < m) = true → HeapQ N l) ∧ (decide (i < m) = false → HeapUp N i l) := by
  refine ⟨fun hd => ?_, fun hd => ?_⟩
  · have := of_decide_eq_true hd
    exact down_done hu hc (.inr (.inr (hw.resolve_left (by omega))))
  · have := of_decide_eq_false hd
    obtain rfl : m = i := by omega
    exact but_up hu hc
end Go.Proofs.YtgpchkobjgglhaaGreatDoor

end
