import Derived.Test.YtpjdcgjoepjmcaaGreatGAZ
import Derived.Laws.Rows
import Derived.Test.YtpjdcgjoepjmcaaGreatHAZ
import Derived.Maps.OwnSet
import Derived.Maps.OwnOps
import Derived.WideKeyEntry
import Derived.Deep.DeepCutAuto
import Derived.Deep.MidRow
import Derived.Handy
set_option linter.unusedVariables false
set_option linter.unusedSimpArgs false
section
namespace Go.Proofs.YtpjdcgjoepjmcaaGreat
open Go.RowKit
structure QR where
 key : ByteArray
 time : Int
deriving DecidableEq
def q0 : QR := ⟨ByteArray.empty, 0⟩
def blB (a b : List UInt8) : Bool := Op.bytesLess a b
theorem bl_irrefl : ∀ a, blB a a = false
 | [] => rfl
 | x :: a => by
   have ih := bl_irrefl a
   simp only [blB, Op.bytesLess] at ih ⊢
   simp [ih]
theorem bl_trans : ∀ a b c, blB a b = true → blB b c = true → blB a c = true
 | a, b, [], _, h => by cases b <;> simp [blB, Op.bytesLess] at h
 | [], b, z :: c, _, _ => rfl
 | x :: a, [], z :: c, h, _ => by simp [blB, Op.bytesLess] at h
 | x :: a, y :: b, z :: c, h1, h2 => by
   have ih := bl_trans a b c
   simp only [blB, Op.bytesLess, Bool.or_eq_true, Bool.and_eq_true, decide_eq_true_eq, beq_iff_eq] at h1 h2 ih ⊢
   rcases h1 with h1 | ⟨rfl, h1⟩
   ·rcases h2 with h2 | ⟨rfl, h2⟩
    ·exact .inl (UInt8.lt_trans h1 h2)
    ·exact .inl h1
   ·rcases h2 with h2 | ⟨rfl, h2⟩
    ·exact .inl h2
    ·exact .inr ⟨rfl, ih h1 h2⟩
theorem bl_total : ∀ a b, blB a b = false → blB b a = false → a = b
 | [], [], _, _ => rfl
 | [], y :: b, h, _ => by simp [blB, Op.bytesLess] at h
 | x :: a, [], _, h => by simp [blB, Op.bytesLess] at h
 | x :: a, y :: b, h1, h2 => by
   have ih := bl_total a b
   simp only [blB, Op.bytesLess, Bool.or_eq_false_iff, Bool.and_eq_false_iff, decide_eq_false_iff_not, beq_eq_false_iff_ne] at h1 h2 ih
   have hxy : x = y := by
    have a1 := UInt8.not_lt.1 h1.1
    have a2 := UInt8.not_lt.1 h2.1
    exact UInt8.le_antisymm a2 a1
   subst hxy
   have g1 := h1.2.resolve_left (by simp)
   have g2 := h2.2.resolve_left (by simp)
   rw [ih g1 g2]
def ltQ (a b : QR) : Bool := decide (a.time < b.time) || (decide (a.time = b.time) && blB a.key.toList b.key.toList)
theorem ltQ_iff (a b : QR) : ltQ a b = true ↔ a.time < b.time ∨ (a.time = b.time ∧ blB a.key.toList b.key.toList = true) := by simp [ltQ]
theorem lt_irrefl (a : QR) : ltQ a a = false := by
 rw [Bool.eq_false_iff]; intro h
 rcases (ltQ_iff a a).1 h with h | ⟨_, h⟩
 ·omega
 ·rw [bl_irrefl] at h; cases h
theorem lt_trans' {a b c : QR} (h1 : ltQ a b = true) (h2 : ltQ b c = true) : ltQ a c = true := by
 rw [ltQ_iff] at h1 h2 ⊢
 rcases h1 with h1 | ⟨e1, h1⟩
 ·rcases h2 with h2 | ⟨e2, h2⟩
  ·exact .inl (by omega)
  ·exact .inl (by omega)
 ·rcases h2 with h2 | ⟨e2, h2⟩
  ·exact .inl (by omega)
  ·exact .inr ⟨by omega, bl_trans _ _ _ h1 h2⟩
theorem lt_asymm {a b : QR} (h : ltQ a b = true) : ltQ b a = false := by
 rw [Bool.eq_false_iff]; intro h2
 have := lt_trans' h h2
 rw [lt_irrefl] at this; cases this
theorem toList_inj {a b : ByteArray} (h : a.toList = b.toList) : a = b := by
 rw [Lib.toList_data, Lib.toList_data] at h
 exact ByteArray.ext (Array.ext' h)
theorem lt_total {a b : QR} (h1 : ltQ a b = false) (h2 : ltQ b a = false) : a = b := by
 have e : ¬ ltQ a b = true := by rw [h1]; decide
 have f : ¬ ltQ b a = true := by rw [h2]; decide
 rw [ltQ_iff] at e f
 have ht : a.time = b.time := by omega
 have hk : a.key.toList = b.key.toList := by
  refine bl_total _ _ ?_ ?_
  ·rw [Bool.eq_false_iff]; intro h; exact e (.inr ⟨ht, h⟩)
  ·rw [Bool.eq_false_iff]; intro h; exact f (.inr ⟨ht.symm, h⟩)
 obtain ⟨k, t⟩ := a
 obtain ⟨k2, t2⟩ := b
 simp only at ht hk
 rw [toList_inj hk, ht]
theorem nlt_trans {a b c : QR} (h1 : ltQ a b = false) (h2 : ltQ b c = false) : ltQ a c = false := by
 rw [Bool.eq_false_iff]; intro h
 cases hb : ltQ b a with
 | true => have := lt_trans' hb h; rw [h2] at this; cases this
 | false =>
   have := lt_total h1 hb
   subst this
   rw [h2] at h; cases h
def gq (l : List QR) (i : Nat) : QR := l.getD i q0
theorem gq_get (l : List QR) (i : Nat) (h : i < l.length) : gq l i = l[i] := by unfold gq; rw [List.getD_eq_getElem?_getD, List.getElem?_eq_getElem h]; rfl
def swapQ (l : List QR) (i j : Nat) : List QR := (l.set i (gq l j)).set j (gq l i)
theorem swapQ_length (l : List QR) (i j : Nat) : (swapQ l i j).length = l.length := by simp [swapQ]
theorem gq_set (l : List QR) (i m : Nat) (x : QR) (h : i < l.length) : gq (l.set i x) m = if m = i then x else gq l m := by
 unfold gq
 by_cases hm : m = i
 ·subst hm; rw [if_pos rfl, List.getD_eq_getElem?_getD, List.getElem?_set_self h]; rfl
 ·rw [if_neg hm, List.getD_eq_getElem?_getD, List.getElem?_set_ne (by omega), List.getD_eq_getElem?_getD]
theorem gq_swap (l : List QR) (i j m : Nat) (hi : i < l.length) (hj : j < l.length) : gq (swapQ l i j) m = if m = j then gq l i else if m = i then gq l j else gq l m := by
 unfold swapQ
 rw [gq_set _ _ _ _ (by simpa using hj), gq_set _ _ _ _ hi]
theorem perm_swap (l : List QR) (i j : Nat) (hi : i < l.length) (hj : j < l.length) : (swapQ l i j).Perm l := by
 unfold swapQ
 rw [gq_get l i hi, gq_get l j hj]
 exact List.set_set_perm hi hj
def par (k : Nat) : Nat := (k - 1) / 2
def HeapQ (N : Nat) (l : List QR) : Prop := ∀ k, 0 < k → k < N → ltQ (gq l k) (gq l (par k)) = false
def HeapUp (N j : Nat) (l : List QR) : Prop := (∀ k, 0 < k → k < N → k ≠ j → ltQ (gq l k) (gq l (par k)) = false) ∧ (∀ k, 0 < k → k < N → par k = j → 0 < j → ltQ (gq l k) (gq l (par j)) = false)
def HeapBut (N i : Nat) (l : List QR) : Prop := (∀ k, 0 < k → k < N → k ≠ i → par k ≠ i → ltQ (gq l k) (gq l (par k)) = false) ∧ (∀ k, 0 < k → k < N → par k = i → 0 < i → ltQ (gq l k) (gq l (par i)) = false)
theorem up_done {N j : Nat} {l : List QR} (h : HeapUp N j l) (hd : j = 0 ∨ ltQ (gq l j) (gq l (par j)) = false) : HeapQ N l := by
 intro k h0 hk
 by_cases e : k = j
 ·subst e
  rcases hd with hd | hd
  ·omega
  ·exact hd
 ·exact h.1 k h0 hk e
theorem up_step {N j : Nat} {l : List QR} (h : HeapUp N j l) (h0 : 0 < j) (hj : j < N) (hN : N ≤ l.length) (hlt : ltQ (gq l j) (gq l (par j)) = true) : HeapUp N (par j) (swapQ l (par j) j) := by
 have hp : par j < j := by unfold par; omega
 have g := gq_swap l (par j) j
 have gs := fun m => g m (by omega) (by omega)
 refine ⟨fun k k0 kN kp => ?_, fun k k0 kN kp p0 => ?_⟩
 ·by_cases e : k = j
  ·subst e
   rw [gs k, gs (par k), if_pos rfl, if_neg (by omega), if_pos rfl]
   exact lt_asymm hlt
  ·by_cases e2 : par k = par j
   ·rw [gs k, gs (par k), if_neg e, if_neg kp, if_neg (by omega), if_pos e2]
    have h1 := h.1 k k0 kN e
    rw [e2] at h1
    rw [Bool.eq_false_iff]; intro h2
    have := lt_trans' h2 hlt
    rw [h1] at this; cases this
   ·by_cases e3 : par k = j
    ·rw [gs k, gs (par k), if_neg e, if_neg kp, if_pos e3]
     exact h.2 k k0 kN e3 h0
    ·rw [gs k, gs (par k), if_neg e, if_neg kp, if_neg e3, if_neg e2]
     exact h.1 k k0 kN e
 ·have hpp : par (par j) < par j := by unfold par at p0 ⊢; omega
  have hpk : par k < k := by unfold par; omega
  rw [gs k, gs (par (par j)), if_neg (show par (par j) ≠ j by omega), if_neg (show par (par j) ≠ par j by omega)]
  by_cases e : k = j
  ·rw [if_pos e]
   exact h.1 (par j) p0 (by omega) (by omega)
  ·rw [if_neg e, if_neg (by omega)]
   have h1 := h.1 k k0 kN e
   rw [kp] at h1
   exact nlt_trans h1 (h.1 (par j) p0 (by omega) (by omega))
theorem down_step {N i j : Nat} {l : List QR} (h : HeapBut N i l) (hj : j < N) (j0 : 0 < j) (hpj : par j = i) (hN : N ≤ l.length) (hmin : ∀ k, 0 < k → k < N → par k = i → ltQ (gq l k) (gq l j) = false) (hlt : ltQ (gq l j) (gq l i) = true) :
 HeapBut N j (swapQ l i j) ∧ ltQ (gq (swapQ l i j) j) (gq (swapQ l i j) (par j)) = false := by
 have hij : i < j := by unfold par at hpj; omega
 have gs := fun m => gq_swap l i j m (by omega) (by omega)
 refine ⟨⟨fun k k0 kN kj kp => ?_, fun k k0 kN kp _ => ?_⟩, ?_⟩
 ·by_cases e : k = i
  ·subst e
   have hpk : par k < k := by unfold par; omega
   rw [gs k, gs (par k), if_neg kj, if_pos rfl, if_neg (by omega), if_neg (by omega)]
   exact h.2 j j0 hj hpj k0
  ·by_cases e2 : par k = i
   ·rw [gs k, gs (par k), if_neg kj, if_neg e, if_neg (by omega), if_pos e2]
    exact hmin k k0 kN e2
   ·rw [gs k, gs (par k), if_neg kj, if_neg e, if_neg kp, if_neg e2]
    exact h.1 k k0 kN e e2
 ·have hpk : par k < k := by unfold par; omega
  rw [gs k, gs (par j), if_neg (by omega), if_neg (by omega), hpj, if_neg (by omega), if_pos rfl]
  have := h.1 k k0 kN (by omega) (by omega)
  rwa [kp] at this
 ·rw [gs j, gs (par j), if_pos rfl, hpj, if_neg (by omega), if_pos rfl]
  exact lt_asymm hlt
theorem down_done {N i : Nat} {l : List QR} (h : HeapBut N i l) (hc : ∀ k, 0 < k → k < N → par k = i → ltQ (gq l k) (gq l i) = false) (hp : i = 0 ∨ N ≤ i ∨ ltQ (gq l i) (gq l (par i)) = false) : HeapQ N l := by
 intro k k0 kN
 by_cases e : k = i
 ·subst e
  rcases hp with hp | hp | hp
  ·omega
  ·omega
  ·exact hp
 ·by_cases e2 : par k = i
  ·rw [e2]; exact hc k k0 kN e2
  ·exact h.1 k k0 kN e e2
theorem but_up {N i : Nat} {l : List QR} (h : HeapBut N i l) (hc : ∀ k, 0 < k → k < N → par k = i → ltQ (gq l k) (gq l i) = false) : HeapUp N i l := by
 refine ⟨fun k k0 kN ki => ?_, h.2⟩
 by_cases e2 : par k = i
 ·rw [e2]; exact hc k k0 kN e2
 ·exact h.1 k k0 kN ki e2
theorem but_of {N i : Nat} {l l' : List QR} (h : HeapQ N l) (hs : ∀ m, m ≠ i → m < N → gq l' m = gq l m) : HeapBut N i l' := by
 refine ⟨fun k k0 kN ki kp => ?_, fun k k0 kN kp i0 => ?_⟩
 ·have hpk : par k < k := by unfold par; omega
  rw [hs k ki kN, hs (par k) kp (by omega)]
  exact h k k0 kN
 ·have hpk : par k < k := by unfold par; omega
  have hpi : par i < i := by unfold par; omega
  rw [hs k (by omega) kN, hs (par i) (by omega) (by omega)]
  have h1 := h k k0 kN
  rw [kp] at h1
  exact nlt_trans h1 (h i i0 (by omega))
theorem HeapQ.mono {N M : Nat} {l : List QR} (h : HeapQ N l) (hm : M ≤ N) : HeapQ M l := fun k k0 kM => h k k0 (by omega)
theorem HeapQ.same {N : Nat} {l l' : List QR} (h : HeapQ N l) (hs : ∀ m, m < N → gq l' m = gq l m) : HeapQ N l' := fun k k0 kN => by
 have hpk : par k < k := by unfold par; omega
 rw [hs k kN, hs (par k) (by omega)]; exact h k k0 kN
theorem push_up {l : List QR} {r : QR} (h : HeapQ l.length l) : HeapUp (l.length + 1) l.length (l ++ [r]) := by
 have hs : ∀ m, m < l.length → gq (l ++ [r]) m = gq l m := fun m hm => by
  unfold gq; rw [List.getD_eq_getElem?_getD, List.getElem?_append_left hm, List.getD_eq_getElem?_getD]
 refine ⟨fun k k0 kN kj => ?_, fun k k0 kN kp j0 => ?_⟩
 ·have hpk : par k < k := by unfold par; omega
  rw [hs k (by omega), hs (par k) (by omega)]
  exact h k k0 (by omega)
 ·have hpk : par k < k := by unfold par; omega
  omega
end Go.Proofs.YtpjdcgjoepjmcaaGreat
end
section
namespace Go.Proofs.YtpjdcgjoepjmcaaGreat
open Go.RowKit
structure QH where
 a : Option Addr
 c : Nat
 mo : Option Nat
def qcl (r : QR) : List Value := [.string r.key, .int .i64 r.time]
def klB (k : ByteArray) : Lit := .string k.data.toList
def klQ (r : QR) : Lit := klB r.key
structure PlQ (D : DataW Unit) (l : List QR) : Prop where
 tidy : Maps.Tidy D
 size : Maps.size D = l.length
 at_ : ∀ i, i < l.length → D.atKey (klQ (gq l i)) (.lit (.int .i64 0)) = .lit (.int .i64 i)
 has : ∀ k : ByteArray, Maps.has D (klB k) = l.any (fun r => decide (r.key = k))
def MapQ (w : World) (b : Nat) (h : QH) (l : List QR) : Prop :=
 match h.mo with
 | none => l = []
 | some mb => b < mb ∧ (∀ k, h.a.map (·.block) = some k → k ≠ mb) ∧ ∃ D : DataW Unit, w.ownsMap Tryz.prog 9 (plainElem Tryz.prog 3) mb l.length D ∧ PlQ D l
structure QB (w : World) (b : Nat) (h : QH) (l : List QR) : Prop where
 head : w.heap[b]? = some (.cells #[.slice h.a l.length h.c, .map h.mo] 138 (0, 0))
 own : OwnS w (b + 1) 233 2 (.slice h.a l.length h.c) (l.map qcl)
 ok : ∀ r ∈ l, r.key.size ≤ 281474976710656 ∧ 0 ≤ r.time ∧ r.time ≤ 1099511627776
 nd : (l.map QR.key).Nodup
 len : l.length ≤ 1024
 map : MapQ w b h l
def footQ (b : Nat) (h : QH) (k : Nat) : Prop := k = b ∨ h.a.map (·.block) = some k ∨ h.mo = some k
section
variable {w w' : World} {b : Nat} {h : QH} {l : List QR}
theorem ownsMap_touch {H : Type} {P : Program} {k : TypeId} {R : Value → Option (DataW H × List MemPlace)} {mb n : Nat} {D : DataW H} {S : Nat → Prop} (h : w.ownsMap P k R mb n D) (t : Touch w w' S) (hn : ¬ S mb) : w'.ownsMap P k R mb n D := by
 obtain ⟨es, clock, hb, r⟩ := h
 exact ⟨es, clock, t.keeps hb hn, r⟩
theorem ownsMap_tight {H : Type} {P : Program} {k : TypeId} {R : Value → Option (DataW H × List MemPlace)} {mb n : Nat} {D : DataW H} (h : w.ownsMap P k R mb n D) : w.ownsMap P k R mb (Maps.size D) D := by
 obtain ⟨es, clock, hb, F, hs, rfl⟩ := h
 exact ⟨es, clock, hb, F, by simp [Maps.size, length_sorted], rfl⟩
theorem own_block {a : Option Addr} {n c k : Nat} (h : (Value.slice a n c).ownBlock = some k) : a.map (·.block) = some k := by
 cases a with
 | none => simp [Value.ownBlock] at h
 | some x => simpa [Value.ownBlock] using h
theorem QB.touch {S : Nat → Prop} (q : QB w b h l) (t : Touch w w' S) (hn : ∀ k, footQ b h k → ¬ S k) : QB w' b h l := by
 refine ⟨t.keeps q.head (hn b (.inl rfl)), q.own.touch t (fun x hx => hn x (.inr (.inl (own_block hx)))), q.ok, q.nd, q.len, ?_⟩
 have hm := q.map
 unfold MapQ at hm ⊢
 cases hh : h.mo with
 | none => rw [hh] at hm; exact hm
 | some mb =>
   rw [hh] at hm
   obtain ⟨h1, h2, D, h3, h4⟩ := hm
   exact ⟨h1, h2, D, ownsMap_touch h3 t (hn mb (.inr (.inr hh))), h4⟩
theorem QB.still (q : QB w b h l) (t : Touch w w' (fun _ => False)) : QB w' b h l := q.touch t (fun _ _ h => h)
theorem QB.footlt (q : QB w b h l) : ∀ k, footQ b h k → k < w.heap.size := by
 intro k hk
 rcases hk with rfl | hk | hk
 ·exact heap_lt q.head
 ·obtain ⟨hl, hr, hb⟩ := q.own.row'
  cases ha : h.a with
  | none => rw [ha] at hk; cases hk
  | some x =>
    rw [ha] at hk
    simp only [Option.map_some, Option.some.injEq] at hk
    have := (hb x ha).2
    omega
 ·have hm := q.map
  unfold MapQ at hm
  rw [hk] at hm
  obtain ⟨_, _, D, h3, _⟩ := hm
  exact h3.lt
theorem QB.cells (q : QB w b h l) : w.cell? ⟨b, 0, none⟩ = some (.slice h.a l.length h.c) ∧ w.cell? ⟨b, 1, none⟩ = some (.map h.mo) := ⟨cell_of_cells q.head 0, cell_of_cells q.head 1⟩
theorem QB.row (q : QB w b h l) : RowS w h.a l.length h.c 2 (l.map qcl) := by
 obtain ⟨_, hr, _⟩ := q.own.row'
 exact hr
theorem QB.at' (q : QB w b h l) (h0 : 0 < l.length) : ∃ g, h.a = some ⟨g, 0, none⟩ ∧ b < g ∧ g < w.heap.size := by
 rcases q.own.own.2 with ⟨hv, hn⟩ | ⟨g, cap, cur, hv, hb, hg, _⟩
 ·rw [List.length_map] at hn; omega
 ·simp only [Value.slice.injEq] at hv
  exact ⟨g, hv.1, hb, (Array.getElem?_eq_some_iff.1 hg).1⟩
theorem QB.cell2 (q : QB w b h l) {g : Nat} (ha : h.a = some ⟨g, 0, none⟩) (i : Nat) (hi : i < l.length) : w.cell? ⟨g, i * 2, none⟩ = some (.string (gq l i).key) ∧ w.cell? ⟨g, i * 2 + 1, none⟩ = some (.int .i64 (gq l i).time) := by
 have hr := q.row
 rw [ha] at hr
 have hi' : i < (l.map qcl).length := by simpa using hi
 have e : (l.map qcl)[i] = qcl (gq l i) := by rw [List.getElem_map, gq_get l i hi]
 have h0 := RowS.cell hr i hi' 0 (.string (gq l i).key) (by rw [e]; rfl)
 have h1 := RowS.cell hr i hi' 1 (.int .i64 (gq l i).time) (by rw [e]; rfl)
 rw [Nat.zero_add, Nat.add_zero] at h0
 rw [Nat.zero_add] at h1
 exact ⟨h0, h1⟩
end
theorem infoRow : (Tryz.prog.info? 233).map (·.size) = some 2 := by kernel_rfl
theorem infoRowB : (Tryz.prog.info? 233).map (fun i => (i.zero, i.size, i.bytes)) = some (some (.agg #[.string ByteArray.empty, .int .i64 0]), 2, 24) := by kernel_rfl
set_option maxRecDepth 20000 in
theorem klen_any (w : World) (b : Nat) (h : QH) (l : List QR) (q : QB w b h l) :
 Calls Tryz.prog 210 #[.pointer (some ⟨b, 0, none⟩)] w fun e w' => e = .returned (.int .i64 l.length) ∧ w = w' := by
 obtain ⟨c0, c1⟩ := q.cells
 go_enter Tryz.func210, Tryz.ntmps210
 go_wp2
 go_ret
 exact ⟨rfl, rfl⟩
end Go.Proofs.YtpjdcgjoepjmcaaGreat
end
section
namespace Go.Proofs.YtpjdcgjoepjmcaaGreat
open Go.RowKit
set_option maxRecDepth 20000 in
set_option maxHeartbeats 4000000 in
theorem kless_any (w1 : World) (b : Nat) (h : QH) (l : List QR) (q : QB w1 b h l) (i j : Nat) (hi : i < l.length) (hj : j < l.length) :
 Calls Tryz.prog 211 #[.pointer (some ⟨b, 0, none⟩), .int .i64 i, .int .i64 j] w1 fun e w' => e = .returned (.bool (ltQ (gq l i) (gq l j))) ∧ Touch w1 w' (fun _ => False) := by
 obtain ⟨g, ha, hg0, hg1⟩ := q.at' (by omega)
 have hcap := q.row.hcap
 have hmax := q.row.hmax
 have hlen := q.len
 have HC : RowKit.Hid (∀ W, Touch w1 W (fun _ => False) → W.cell? ⟨b, 0, none⟩ = some (.slice (some ⟨g, 0, none⟩) l.length h.c) ∧ W.cell? ⟨g, i * 2, none⟩ = some (.string (gq l i).key) ∧ W.cell? ⟨g, i * 2 + 1, none⟩ = some (.int .i64 (gq l i).time) ∧ W.cell? ⟨g, j * 2, none⟩ = some (.string (gq l j).key) ∧ W.cell? ⟨g, j * 2 + 1, none⟩ = some (.int .i64 (gq l j).time)) := Lib.hid (fun W t => by
  have q2 := q.still t
  have h0 := q2.cells.1
  rw [ha] at h0
  exact ⟨h0, (q2.cell2 ha i hi).1, (q2.cell2 ha i hi).2, (q2.cell2 ha j hj).1, (q2.cell2 ha j hj).2⟩)
 have HSZ : RowKit.Hid (b < g ∧ g < w1.heap.size) := Lib.hid ⟨hg0, hg1⟩
 have hiI : (i : Int) < l.length := by omega
 have hjI : (j : Int) < l.length := by omega
 have HLT := Lib.hid (ltQ_iff (gq l i) (gq l j))
 clear q ha hg0 hg1
 generalize l.length = n at *
 go_enter Tryz.func211, Tryz.ntmps211
 go_wp2_with fail
 go_cut [7, 8] (fun s7 s8 wx => ∃ A B, s7 = .pointer (some ⟨A, 0, none⟩) ∧ s8 = .pointer (some ⟨B, 0, none⟩) ∧ wx.heap[A]? = some (.cells #[.string (gq l i).key, .int .i64 (gq l i).time] 233 (0, 0)) ∧ wx.heap[B]? = some (.cells #[.string (gq l j).key, .int .i64 (gq l j).time] 233 (0, 0)) ∧ Touch w1 wx (fun _ => False))
 case first =>
  go_wp2_with fail
  have hS := (Touch.refl w1 (fun _ => False)).drew
  refine wp_region_tree (fun w' => Touch w1 w' (fun _ => False)) (.take 0 (.take 1 (.take 2 (.take 3 (.take 4 (.take 5 (.take 6 (.take 7 (.take 8 (.take 9 (.take 10 (.take 11 (.take 12 (.take 13 (.two 14 15 (.one 15 (.one 16 (.one 17 .fin))) (.one 14 (.one 16 (.one 17 .fin)))))))))))))))))) (by kernel_rfl) (by kernel_rfl) (by kernel_rfl) (by kernel_rfl) hS ?_
  repeat' (first
   | (with_reducible refine walkT_take ?_)
   | (with_reducible refine walkT_one ?_)
   | (with_reducible refine walkT_two ?_ ?_)
   | (with_reducible refine walkT_fin ?_)
   | ((with_reducible show TakeN _ _ _ _ _ _ _ _); ((refine takeN_take (v := ?_) (some _) rfl rfl (fun _ _ _ h => h) (by rfl) ?_ ?_; rotate_left; (focus (intro w' hw'; obtain ⟨c0, c1, c2, c3, c4⟩ := HC.out w' hw'; go_simp; (try with_reducible rfl))); (try simp only [Act.put, List.setIfInBounds_toArray, List.set_cons_zero, List.set_cons_succ]))))
   | ((with_reducible show RunN _ _ _ _ 14 _ _ _); ((have HAZ := Lib.hid hS.size; (try have HLB := Lib.hid (heap_lt HB.out)); refine runN_new 7 (fun W => .pointer (some ⟨W.heap.size, 0, none⟩)) #[.string ByteArray.empty, .int .i64 0] 233 rfl rfl (by rfl) (by intro W; go_simp <;> first | with_reducible rfl | rfl | exact ⟨rfl, rfl⟩) ?_; intro w7 hw7 hM7 hs7 t7; have hS := hS.trans t7 (fun _ _ h => h.elim); refine ⟨hS, fun _ => ?_⟩; clear hw7 hs7; have HA := Lib.hid hM7; (try have HB := Lib.hid (t7.keeps HB.out (fun h => h))); clear hM7 t7; (try simp only [Act.put, List.setIfInBounds_toArray, List.set_cons_zero, List.set_cons_succ]))))
   | ((with_reducible show RunN _ _ _ _ 15 _ _ _); ((have HBZ := Lib.hid hS.size; (try have HLA := Lib.hid (heap_lt HA.out)); refine runN_new 8 (fun W => .pointer (some ⟨W.heap.size, 0, none⟩)) #[.string ByteArray.empty, .int .i64 0] 233 rfl rfl (by rfl) (by intro W; go_simp <;> first | with_reducible rfl | rfl | exact ⟨rfl, rfl⟩) ?_; intro w7 hw7 hM7 hs7 t7; have hS := hS.trans t7 (fun _ _ h => h.elim); refine ⟨hS, fun _ => ?_⟩; clear hw7 hs7; have HB := Lib.hid hM7; (try have HA := Lib.hid (t7.keeps HA.out (fun h => h))); clear hM7 t7; (try simp only [Act.put, List.setIfInBounds_toArray, List.set_cons_zero, List.set_cons_succ]))))
   | ((with_reducible show RunN _ _ _ _ 16 _ _ _); ((refine runN_store rfl rfl (by rfl) 233 _ _ rfl _ #[.string (gq l i).key, .int .i64 (gq l i).time] rfl rfl _ _ HA.out infoRow rfl rfl ?_; intro w6 hM6 ht; refine ⟨hS.trans ht (fun k hk h => by have e : k = _ := h; have h9 := HAZ.out; omega), fun hS => ?_⟩; have HB := Lib.hid (ht.keeps HB.out (fun e => by first | (have h8 := HLA.out; omega) | (have h8 := HLB.out; omega))); have HA := Lib.hid hM6; clear hM6 ht; (try simp only [Act.put, List.setIfInBounds_toArray, List.set_cons_zero, List.set_cons_succ]))))
   | ((with_reducible show RunN _ _ _ _ 17 _ _ _); ((refine runN_store rfl rfl (by rfl) 233 _ _ rfl _ #[.string (gq l j).key, .int .i64 (gq l j).time] rfl rfl _ _ HB.out infoRow rfl rfl ?_; intro w6 hM6 ht; refine ⟨hS.trans ht (fun k hk h => by have e : k = _ := h; have h9 := HBZ.out; omega), fun hS => ?_⟩; have HA := Lib.hid (ht.keeps HA.out (fun e => by first | (have h8 := HLA.out; omega) | (have h8 := HLB.out; omega))); have HB := Lib.hid hM6; clear hM6 ht; (try simp only [Act.put, List.setIfInBounds_toArray, List.set_cons_zero, List.set_cons_succ])))))
  all_goals
   go_wp2_with fail
   go_meet
   exact ⟨_, _, rfl, rfl, HA.out, HB.out, hS⟩
 case rest =>
  obtain ⟨A, B, rfl, rfl, hA, hB, ht⟩ := hcut
  have d0 := cell_of_cells hA 0
  have d1 := cell_of_cells hA 1
  have d2 := cell_of_cells hB 0
  have d3 := cell_of_cells hB 1
  simp at d0 d1 d2 d3
  have HT := Lib.hid ht
  clear hA hB ht
  obtain ⟨⟨xk, xt⟩, hx⟩ : ∃ x, gq l i = x := ⟨_, rfl⟩
  obtain ⟨⟨yk, yt⟩, hy⟩ : ∃ x, gq l j = x := ⟨_, rfl⟩
  have HX := Lib.hid hx
  have HY := Lib.hid hy
  rw [hx] at d0 d1 HLT
  rw [hy] at d2 d3 HLT
  simp only at d0 d1 d2 d3
  clear hx hy
  by_cases h1 : xt < yt
  ·have HF : RowKit.Hid (ltQ ⟨xk, xt⟩ ⟨yk, yt⟩ = true) := Lib.hid (HLT.out.2 (.inl h1))
   go_wp2
   go_ret
   exact ⟨by rw [HX.out, HY.out, HF.out]; rfl, HT.out⟩
  ·by_cases h2 : xt = yt
   ·subst h2
    have hb : (xt == xt) = true := beq_self_eq_true xt
    obtain ⟨z, hz⟩ : ∃ z, Op.bytesLess xk.toList yk.toList = z := ⟨_, rfl⟩
    have HF : RowKit.Hid (ltQ ⟨xk, xt⟩ ⟨yk, xt⟩ = z) := Lib.hid (by rw [← hz]; simp [ltQ, blB])
    go_wp2
    go_ret
    exact ⟨by rw [HX.out, HY.out, HF.out, ← hz]; rfl, HT.out⟩
   ·have hb : (xt == yt) = false := beq_eq_false_iff_ne.2 h2
    have HF : RowKit.Hid (ltQ ⟨xk, xt⟩ ⟨yk, yt⟩ = false) := Lib.hid (by
     rw [Bool.eq_false_iff]; intro h
     rcases HLT.out.1 h with h | h
     ·exact h1 h
     ·exact h2 h.1)
    go_wp2
    go_ret
    exact ⟨by rw [HX.out, HY.out, HF.out]; rfl, HT.out⟩
end Go.Proofs.YtpjdcgjoepjmcaaGreat
end
section
namespace Go.Proofs.YtpjdcgjoepjmcaaGreat
open Go.RowKit Go.ChangeMaps Go.WideElems
theorem strKeyed : Maps.Keyed Tryz.prog 9 := Maps.string_keyed Tryz.underlying9
theorem strLaw : WideMaps.KeyLaw Tryz.prog 9 := WideMaps.string_law Tryz.underlying9
theorem keyQ {k : ByteArray} (h : k.size ≤ 281474976710656) : keyOf Tryz.prog 9 (.string k) = some (klB k) := WideMaps.keyOf_string_mk Tryz.underlying9 (by simp only [maxLen]; omega)
theorem elemQ (i : Int) (h0 : -9223372036854775808 ≤ i) (h1 : i ≤ 9223372036854775807) : plainElem (H := Unit) Tryz.prog 3 (.int .i64 i) = some (.lit (.int .i64 i), []) := plainElem_int Tryz.underlying3 (by simp [Lit.wf, IntKind.min, IntKind.max, IntKind.signed, IntKind.bits]; omega)
theorem zeroI (w : World) : (zeroValue 3).run Tryz.prog w = .ok (.int .i64 0) w := by kernel_rfl
theorem klB_inj {a b : ByteArray} (h : klB a = klB b) : a = b := by
 unfold klB at h
 simp only [Lit.string.injEq] at h
 exact ByteArray.ext (Array.ext' h)
theorem entry_two {w : World} {mb n : Nat} {D : DataW Unit} (ho : w.ownsMap Tryz.prog 9 (plainElem Tryz.prog 3) mb n D) (hn : n ≤ 4000) (k : ByteArray) (hk : k.size ≤ 281474976710656) (i : Nat) (hi : i ≤ 4000) :
 ∃ v0 st w1 w2, (Instr.mapEntry 134 (.map (some mb)) (.string k)).run Tryz.prog w = .ok (.tuple #[v0, .int .i64 st]) w1 ∧ Touch w w1 (fun x => x = mb) ∧
   (Instr.entryStore 134 (.map (some mb)) (.int .i64 st) (.int .i64 i)).run Tryz.prog w1 = .ok () w2 ∧ Touch w1 w2 (fun x => x = mb) ∧ w2.ownsMap Tryz.prog 9 (plainElem Tryz.prog 3) mb (n + 1) (D.put (klB k) (.lit (.int .i64 i))) := by
 obtain ⟨es, clock, hb, F, hs, hD⟩ := ho
 obtain ⟨v0, st, es1, clock1, h1, _, h2⟩ := WideElems.entry_then_store strLaw Tryz.underlying134 (fun u => zeroI u) hb F (keyQ hk)
 have hb1 : (setBlock w mb (.map es1 clock1)).heap[mb]? = some (.map es1 clock1) := heap_setBlock_same hb _
 obtain ⟨es', clock', h3, h4⟩ := h2 _ (.int .i64 i) hb1
 obtain ⟨w2, r1, r2, r3⟩ := World.ownsMap.store (w := w) (b := mb) (n := n) (D := D) ⟨es, clock, hb, F, hs, hD⟩ strKeyed Tryz.underlying134 (by simp only [maxLen]; omega) (keyQ hk) (elemQ i (by omega) (by omega))
 have e2 : w2 = setBlock w mb (.map es' clock') := by
  rw [h4] at r1
  simp only [Result.ok.injEq, true_and] at r1
  exact r1.symm
 have e3 : setBlock (setBlock w mb (.map es1 clock1)) mb (.map es' clock') = setBlock w mb (.map es' clock') := by
  unfold setBlock
  simp [Array.setIfInBounds_setIfInBounds]
 rw [e3] at h3
 refine ⟨v0, st, _, _, h1, ⟨rfl, rfl, rfl, by simp [setBlock], fun x _ hx => heap_setBlock_other hb _ hx⟩, h3, ⟨rfl, rfl, rfl, by simp [setBlock], fun x _ hx => ?_⟩, e2 ▸ r2⟩
 rw [heap_setBlock_other hb _ hx, heap_setBlock_other hb _ hx]
theorem gq_mem (l : List QR) (i : Nat) (h : i < l.length) : gq l i ∈ l := by rw [gq_get l i h]; exact List.getElem_mem h
theorem nd_inj {l : List QR} (nd : (l.map QR.key).Nodup) {i j : Nat} (hi : i < l.length) (hj : j < l.length) (h : (gq l i).key = (gq l j).key) : i = j := by
 have hi' : i < (l.map QR.key).length := by simpa using hi
 have hj' : j < (l.map QR.key).length := by simpa using hj
 rw [gq_get l i hi, gq_get l j hj] at h
 exact (List.getElem_inj (h₀ := hi') (h₁ := hj') nd).1 (by simpa using h)
theorem any_perm {l l' : List QR} (h : l'.Perm l) (f : QR → Bool) : l'.any f = l.any f := by
 rw [Bool.eq_iff_iff, List.any_eq_true, List.any_eq_true]
 exact ⟨fun ⟨x, hx, hf⟩ => ⟨x, h.mem_iff.1 hx, hf⟩, fun ⟨x, hx, hf⟩ => ⟨x, h.mem_iff.2 hx, hf⟩⟩
theorem isKey (r : QR) : WideAt.IsKeyLit (klQ r) := trivial
theorem plQ_swap {D : DataW Unit} {l : List QR} (p : PlQ D l) (nd : (l.map QR.key).Nodup) {i j : Nat} (hi : i < l.length) (hj : j < l.length) :
 PlQ ((D.put (klQ (gq (swapQ l i j) i)) (.lit (.int .i64 i))).put (klQ (gq (swapQ l i j) j)) (.lit (.int .i64 j))) (swapQ l i j) := by
 have hp := perm_swap l i j hi hj
 have hln := swapQ_length l i j
 have gs := fun m => gq_swap l i j m hi hj
 have nd' : ((swapQ l i j).map QR.key).Nodup := (hp.map QR.key).nodup_iff.2 nd
 have hk : ∀ m, m < l.length → Maps.has D (klQ (gq (swapQ l i j) m)) = true := fun m hm => by
  unfold klQ
  rw [p.has, ← any_perm hp, List.any_eq_true]
  exact ⟨_, gq_mem _ m (by omega), by simp⟩
 have t1 := Maps.Tidy.put p.tidy (isKey (gq (swapQ l i j) i)) (.lit (.int .i64 i))
 have h1 : Maps.has (D.put (klQ (gq (swapQ l i j) i)) (.lit (.int .i64 i))) (klQ (gq (swapQ l i j) j)) = true := by
  by_cases e : klQ (gq (swapQ l i j) j) = klQ (gq (swapQ l i j) i)
  ·rw [e]; exact Maps.has_put_same p.tidy.isMap (isKey _) _
  ·rw [Maps.has_put_other e]; exact hk j hj
 refine ⟨Maps.Tidy.put t1 (isKey _) _, ?_, fun m hm => ?_, fun k => ?_⟩
 ·rw [Maps.size_put t1, h1, if_pos rfl, Maps.size_put p.tidy, hk i hi, if_pos rfl, p.size, hln]
 ·rw [hln] at hm
  by_cases e : m = j
  ·subst e
   rw [Maps.atKey_put_same (Maps.Tidy.isMap t1) (isKey _)]
  ·have n1 : klQ (gq (swapQ l i j) m) ≠ klQ (gq (swapQ l i j) j) := fun h => e (nd_inj nd' (by omega) (by omega) (klB_inj h))
   rw [Maps.atKey_put_other n1]
   by_cases e2 : m = i
   ·subst e2
    rw [Maps.atKey_put_same p.tidy.isMap (isKey _)]
   ·have n2 : klQ (gq (swapQ l i j) m) ≠ klQ (gq (swapQ l i j) i) := fun h => e2 (nd_inj nd' (by omega) (by omega) (klB_inj h))
    rw [Maps.atKey_put_other n2, gs m, if_neg e, if_neg e2]
    exact p.at_ m hm
 ·rw [any_perm hp, ← p.has k]
  have : ∀ m, m < l.length → klB k = klQ (gq (swapQ l i j) m) → Maps.has D (klB k) = true := fun m hm e => by rw [e]; exact hk m hm
  by_cases e : klB k = klQ (gq (swapQ l i j) j)
  ·rw [this j hj e, e]; exact Maps.has_put_same (Maps.Tidy.isMap t1) (isKey _) _
  ·rw [Maps.has_put_other e]
   by_cases e2 : klB k = klQ (gq (swapQ l i j) i)
   ·rw [this i hi e2, e2]; exact Maps.has_put_same p.tidy.isMap (isKey _) _
   ·rw [Maps.has_put_other e2]
theorem two_one (s : ByteArray) (t : Int) : (#[Value.string s, Value.int .i64 t] : Array Value).all (·.oneCell') = true := by rw [← Array.all_toList]; rfl
theorem own_put {w : World} {base g n c : Nat} {T : TypeId} {l : List QR} (h : OwnS w base T 2 (.slice (some ⟨g, 0, none⟩) n c) (l.map qcl)) (i : Nat) (hi : i < l.length) (x : QR) :
 OwnS (w.setCells g (i * 2) (qcl x)) base T 2 (.slice (some ⟨g, 0, none⟩) n c) ((l.set i x).map qcl) := by
 have hi' : i < (l.map qcl).length := by simpa using hi
 have h1 := OwnS.stored h i hi' 0 (by omega) (.string x.key)
 rw [Nat.add_zero] at h1
 have hi2 : i < ((l.map qcl).set i ((l.map qcl)[i].set 0 (.string x.key))).length := by simpa using hi
 have h2 := OwnS.stored h1 i hi2 1 (by omega) (.int .i64 x.time)
 have e : ((l.map qcl).set i ((l.map qcl)[i].set 0 (.string x.key))).set i ((((l.map qcl).set i ((l.map qcl)[i].set 0 (.string x.key)))[i]).set 1 (.int .i64 x.time)) = (l.set i x).map qcl := by
  rw [List.set_set, List.map_set]
  simp [qcl]
 rw [e] at h2
 exact h2
theorem own_there {w : World} {base g n c : Nat} {T : TypeId} {l : List QR} (h : OwnS w base T 2 (.slice (some ⟨g, 0, none⟩) n c) (l.map qcl)) (i : Nat) (hi : i < l.length) : w.there g (i * 2) 2 := by
 obtain ⟨hl, hr, _⟩ := h.row'
 have hi' : i < (l.map qcl).length := by simpa using hi
 intro j hj
 refine ⟨?_, h.free _⟩
 have hq : (l.map qcl)[i] = qcl l[i] := by simp
 rcases (by omega : j = 0 ∨ j = 1) with rfl | rfl
 ·have := RowS.cell hr i hi' 0 (.string l[i].key) (by rw [hq]; rfl)
  rw [Nat.zero_add] at this
  rw [this]; rfl
 ·have := RowS.cell hr i hi' 1 (.int .i64 l[i].time) (by rw [hq]; rfl)
  rw [Nat.zero_add] at this
  rw [this]; rfl
theorem own_cell2 {w : World} {base g n c : Nat} {T : TypeId} {l : List QR} (h : OwnS w base T 2 (.slice (some ⟨g, 0, none⟩) n c) (l.map qcl)) (i : Nat) (hi : i < l.length) : w.cell? ⟨g, i * 2, none⟩ = some (.string (gq l i).key) ∧ w.cell? ⟨g, i * 2 + 1, none⟩ = some (.int .i64 (gq l i).time) := by
 obtain ⟨hl, hr, _⟩ := h.row'
 have hi' : i < (l.map qcl).length := by simpa using hi
 have e : (l.map qcl)[i] = qcl (gq l i) := by rw [List.getElem_map, gq_get l i hi]
 have h0 := RowS.cell hr i hi' 0 (.string (gq l i).key) (by rw [e]; rfl)
 have h1 := RowS.cell hr i hi' 1 (.int .i64 (gq l i).time) (by rw [e]; rfl)
 rw [Nat.zero_add, Nat.add_zero] at h0
 rw [Nat.zero_add] at h1
 exact ⟨h0, h1⟩
theorem touch_cells (w : World) (g : Nat) : ∀ (vs : List Value) (o : Nat), Touch w (w.setCells g o vs) (fun k => k = g) := by
 intro vs
 induction vs generalizing w with
 | nil => intro o; exact Touch.refl _ _
 | cons v r ih =>
   intro o
   exact ((Touch.refl w (fun k => k = g)).setCell ⟨g, o, none⟩ v (fun _ => rfl)).trans (ih _ (o + 1)) (fun _ _ h => h)
section
variable {P : Program} {ops : Array Oper} {Q : Exit → Act → World → Prop} {S : World → Prop} {N : Act → World → Prop}
theorem runN_storeM {i : Nat} {a : Act} {w : World} {o : Oper} (ho : ops[i]? = some o) (hd : o.dst = none) (hw : Region.wanted o (yielded ops a.tmps) = true) (ty : TypeId) (x y : Operand) (hop : o.op = .store ty x y)
 (g off : Nat) (cells : Array Value) (hx : a.eval x = .pointer (some ⟨g, off, none⟩)) (hy : a.eval y = .agg cells) (ht : w.there g off cells.size) (hi : (P.info? ty).map (·.size) = some cells.size) (h1 : cells.all (·.oneCell') = true)
 (h : S (w.setCells g off cells.toList) ∧ (S (w.setCells g off cells.toList) → N (a.put none undef) (w.setCells g off cells.toList))) : RunN P ops Q S i N a w := by
 refine ⟨o, ho, fun K' hK => ?_⟩
 rw [if_pos hw]
 unfold Oper.wp execOp
 simp only [hop, hx, hy, run_storeAt_mid w g off ty cells ht hi h1, Sem.run_bind, Sem.run_pure, Result.andThen_ok]
 have k3 := hK.out _ _ h.1 h.2
 rw [← hd] at k3
 exact k3
end
theorem gq_app (l : List QR) (r : QR) (m : Nat) (h : m < l.length) : gq (l ++ [r]) m = gq l m := by
 unfold gq; rw [List.getD_eq_getElem?_getD, List.getElem?_append_left h, List.getD_eq_getElem?_getD]
theorem gq_last (l : List QR) (r : QR) : gq (l ++ [r]) l.length = r := by
 unfold gq; rw [List.getD_eq_getElem?_getD, List.getElem?_append_right (Nat.le_refl _)]; simp
theorem plQ_nil : PlQ (.map []) [] := ⟨Maps.tidy_empty, rfl, fun i hi => by simp at hi, fun k => rfl⟩
theorem plQ_push {D : DataW Unit} {l : List QR} (p : PlQ D l) (r : QR) (hn : r.key ∉ l.map QR.key) : PlQ (D.put (klQ r) (.lit (.int .i64 l.length))) (l ++ [r]) := by
 have hf : Maps.has D (klQ r) = false := by
  unfold klQ; rw [p.has, Bool.eq_false_iff]; intro h
  rw [List.any_eq_true] at h
  obtain ⟨x, hx, e⟩ := h
  exact hn (List.mem_map.2 ⟨x, hx, of_decide_eq_true e⟩)
 refine ⟨Maps.Tidy.put p.tidy (isKey r) _, ?_, fun i hi => ?_, fun k => ?_⟩
 ·rw [Maps.size_put p.tidy, hf, if_neg (by decide), p.size]; simp
 ·by_cases e : i = l.length
  ·subst e
   rw [gq_last, Maps.atKey_put_same p.tidy.isMap (isKey r)]
  ·have hi' : i < l.length := by simp at hi; omega
   have hne : klQ (gq l i) ≠ klQ r := fun h => hn (List.mem_map.2 ⟨gq l i, gq_mem l i hi', klB_inj h⟩)
   rw [gq_app l r i hi', Maps.atKey_put_other hne]
   exact p.at_ i hi'
 ·rw [List.any_append]
  by_cases e : klB k = klQ r
  ·have ek : r.key = k := (klB_inj e).symm
   rw [e, Maps.has_put_same p.tidy.isMap (isKey r)]
   simp [ek]
  ·have ek : ¬ r.key = k := fun h => e (by rw [← h]; rfl)
   rw [Maps.has_put_other e, p.has]
   simp [ek]
theorem plQ_pop {D : DataW Unit} {l : List QR} {r : QR} (p : PlQ D (l ++ [r])) (nd : ((l ++ [r]).map QR.key).Nodup) : PlQ (D.del (klQ r)) l := by
 have hr : r.key ∉ l.map QR.key := by
  rw [List.map_append, List.nodup_append] at nd
  intro h
  exact nd.2.2 _ h _ (by simp) rfl
 have hh : Maps.has D (klQ r) = true := by
  unfold klQ; rw [p.has, List.any_eq_true]; exact ⟨r, by simp, by simp⟩
 refine ⟨Maps.Tidy.del p.tidy _, ?_, fun i hi => ?_, fun k => ?_⟩
 ·have := Maps.size_del (k := klQ r) p.tidy
  rw [hh, if_pos rfl, p.size] at this
  simp at this; omega
 ·have hne : klQ (gq l i) ≠ klQ r := fun h => hr (List.mem_map.2 ⟨gq l i, gq_mem l i hi, klB_inj h⟩)
  rw [Maps.atKey_del_other hne]
  have := p.at_ i (by simp; omega)
  rwa [gq_app l r i hi] at this
 ·by_cases e : klB k = klQ r
  ·have ek : r.key = k := (klB_inj e).symm
   rw [e, Maps.has_del_same]
   symm
   rw [Bool.eq_false_iff]; intro h
   rw [List.any_eq_true] at h
   obtain ⟨x, hx, e2⟩ := h
   exact hr (List.mem_map.2 ⟨x, hx, by rw [of_decide_eq_true e2, ek]⟩)
  ·have ek : ¬ r.key = k := fun h => e (by rw [← h]; rfl)
   rw [Maps.has_del_other e, p.has, List.any_append]
   simp [ek]
theorem OwnS.front {w : World} {base g n c k : Nat} {E : TypeId} {L : List (List Value)} (h : OwnS w base E k (.slice (some ⟨g, 0, none⟩) n c) L) (m : Nat) (hm : m ≤ n) : OwnS w base E k (.slice (some ⟨g, 0, none⟩) m c) (L.take m) := by
 obtain ⟨hl, hr, _⟩ := h.row'
 obtain ⟨h1, h2⟩ := h.own
 have hl' : (L.take m).length = m := by simp; omega
 have he : ∀ l ∈ L.take m, l.length = k := fun l hl => h.each l (List.mem_of_mem_take hl)
 have hft : (L.take m).flatten = L.flatten.take (m * k) := by
  have hlen := flatten_length (L.take m) he
  rw [hl'] at hlen
  have e2 : L.flatten = (L.take m).flatten ++ (L.drop m).flatten := by rw [← List.flatten_append, List.take_append_drop]
  have e3 : ((L.take m).flatten ++ (L.drop m).flatten).take (m * k) = (L.take m).flatten := by
   rw [List.take_append_of_le_length (Nat.le_of_eq hlen.symm)]
   exact List.take_of_length_le (Nat.le_of_eq hlen)
  rw [← e2] at e3
  exact e3.symm
 refine ⟨⟨by rw [flatten_length _ he], ?_⟩, he⟩
 rcases h2 with ⟨h2, -⟩ | ⟨g2, cap2, cur, hv2, hb, hg, hc, hmx, hs, ht⟩
 ·cases h2
 ·simp only [Value.slice.injEq, Option.some.injEq, Addr.mk.injEq, and_true] at hv2
  obtain ⟨rfl, h3, rfl⟩ := hv2
  have hmk : m * k ≤ L.length * k := Nat.mul_le_mul_right k (by omega)
  refine .inr ⟨g, c, cur, by rw [hl'], hb, hg, by omega, hmx, hs, ?_⟩
  rw [hl', hft, ← ht, List.take_take]
  congr 1; omega
def QStep (w w' : World) (b : Nat) (h : QH) (l' : List QR) : Prop :=
 ∃ h', QB w' b h' l' ∧ Touch w w' (footQ b h) ∧ ∀ k, footQ b h' k → footQ b h k ∨ w.heap.size ≤ k
theorem QStep.refl {w : World} {b : Nat} {h : QH} {l : List QR} (q : QB w b h l) : QStep w w b h l := ⟨h, q, Touch.refl _ _, fun _ hk => .inl hk⟩
theorem QStep.still {w w' : World} {b : Nat} {h : QH} {l : List QR} (q : QB w b h l) (t : Touch w w' (fun _ => False)) : QStep w w' b h l := ⟨h, q.still t, t.mono (fun _ _ h => h.elim), fun _ hk => .inl hk⟩
theorem QStep.trans {w w1 w2 : World} {b : Nat} {h h1 : QH} {l2 : List QR} (t : Touch w w1 (footQ b h)) (hf : ∀ k, footQ b h1 k → footQ b h k ∨ w.heap.size ≤ k) (s : QStep w1 w2 b h1 l2) : QStep w w2 b h l2 := by
 obtain ⟨h2, q2, t2, f2⟩ := s
 refine ⟨h2, q2, t.trans t2 (fun k hk hq => ?_), fun k hk => ?_⟩
 ·rcases hf k hq with h | h
  ·exact h
  ·omega
 ·rcases f2 k hk with h | h
  ·exact hf k h
  ·exact .inr (Nat.le_trans t.size h)
end Go.Proofs.YtpjdcgjoepjmcaaGreat
end
section
namespace Go.Proofs.YtpjdcgjoepjmcaaGreat
open Go.RowKit
set_option maxRecDepth 20000 in
set_option maxHeartbeats 8000000 in
theorem kswap_any (w1 : World) (b : Nat) (h : QH) (l : List QR) (q : QB w1 b h l) (i j : Nat) (hi : i < l.length) (hj : j < l.length) :
 Calls Tryz.prog 214 #[.pointer (some ⟨b, 0, none⟩), .int .i64 i, .int .i64 j] w1 fun e w' => e = .returned (.tuple #[]) ∧ QStep w1 w' b h (swapQ l i j) := by
 obtain ⟨g, ha, hg0, hg1⟩ := q.at' (by omega)
 obtain ⟨ha', hc, hmo⟩ := h
 simp only at ha
 subst ha
 have hcap := q.row.hcap
 have hmax := q.row.hmax
 have hlen := q.len
 have hmp := q.map
 obtain ⟨mb, rfl⟩ : ∃ mb, hmo = some mb := by
  cases hmo with
  | none => unfold MapQ at hmp; simp only at hmp; subst hmp; simp at hi
  | some mb => exact ⟨mb, rfl⟩
 unfold MapQ at hmp
 simp only at hmp
 obtain ⟨hm1, hm2, D, hD, hP⟩ := hmp
 have hgm : g ≠ mb := hm2 g rfl
 have hmlt := hD.lt
 have HC : RowKit.Hid (∀ W, Touch w1 W (fun k => k = g) → W.cell? ⟨b, 0, none⟩ = some (.slice (some ⟨g, 0, none⟩) l.length hc) ∧ W.cell? ⟨b, 1, none⟩ = some (.map (some mb))) := Lib.hid (fun W t => by
  have h9 := t.keeps q.head (fun e => by have e : b = g := e; omega)
  exact ⟨cell_of_cells h9 0, cell_of_cells h9 1⟩)
 have HOW := Lib.hid (OwnS.still q.own ((Touch.refl w1 (fun _ => False)).drew))
 have HHD := Lib.hid q.head
 have HDD := Lib.hid hD
 have HPP := Lib.hid hP
 have HQ := Lib.hid q
 have HSZ : RowKit.Hid (b < g ∧ g < w1.heap.size ∧ b < mb ∧ mb < w1.heap.size ∧ g ≠ mb) := Lib.hid ⟨hg0, hg1, hm1, hmlt, hgm⟩
 have HI := Lib.hid hi
 have HJ := Lib.hid hj
 have hiI : (i : Int) < l.length := by omega
 have hjI : (j : Int) < l.length := by omega
 have hin : i ≤ 1024 := by omega
 have hjn : j ≤ 1024 := by omega
 clear q hg0 hg1 hm1 hm2 hD hP hgm hmlt hi hj
 go_enter Tryz.func214, Tryz.ntmps214
 go_wp2_with fail
 go_cut [] (fun wx => OwnS wx (b + 1) 233 2 (.slice (some ⟨g, 0, none⟩) l.length hc) ((swapQ l i j).map qcl) ∧ Touch w1 wx (fun k => k = g))
 case first =>
  go_wp2_with fail
  have hS := (Touch.refl w1 (fun k => k = g)).drew
  refine wp_region_tree (fun w' => Touch w1 w' (fun k => k = g)) (.take 0 (.take 1 (.take 2 (.take 3 (.take 4 (.take 5 (.take 6 (.take 7 (.take 8 (.take 9 (.take 10 (.take 11 (.take 12 (.take 13 (.take 14 (.take 15 (.take 17 (.take 18 (.take 19 (.take 20 (.take 21 (.take 22 (.two 16 23 (.one 23 (.take 24 (.one 25 (.take 26 (.one 27 .fin))))) (.one 16 (.take 24 (.one 25 (.take 26 (.one 27 .fin)))))))))))))))))))))))))))) (by kernel_rfl) (by kernel_rfl) (by kernel_rfl) (by kernel_rfl) hS ?_
  repeat' (first
   | (with_reducible refine walkT_take ?_)
   | (with_reducible refine walkT_one ?_)
   | (with_reducible refine walkT_two ?_ ?_)
   | (with_reducible refine walkT_fin ?_)
   | ((with_reducible show TakeN _ _ _ _ _ _ _ _); ((refine takeN_take (v := ?_) (some _) rfl rfl (fun _ _ _ h => h) (by rfl) ?_ ?_; rotate_left; (focus (intro w' hw'; obtain ⟨c0, c1⟩ := HC.out w' hw'; go_simp; (try with_reducible rfl))); (try simp only [Act.put, List.setIfInBounds_toArray, List.set_cons_zero, List.set_cons_succ]))))
   | ((with_reducible show RunN _ _ _ _ 16 _ _ _); ((refine runN_do (v := .agg #[.string (gq l j).key, .int .i64 (gq l j).time]) (w' := w1.drew) (some 22) rfl rfl (by rfl) (by obtain ⟨k0, k1⟩ := own_cell2 HOW.out j HJ.out; go_simp; (try with_reducible rfl)) hS (fun hS => ?_); (try simp only [Act.put, List.setIfInBounds_toArray, List.set_cons_zero, List.set_cons_succ]))))
   | ((with_reducible show RunN _ _ _ _ 23 _ _ _); ((refine runN_do (v := .agg #[.string (gq l i).key, .int .i64 (gq l i).time]) (w' := w1.drew) (some 29) rfl rfl (by rfl) (by obtain ⟨k0, k1⟩ := own_cell2 HOW.out i HI.out; go_simp; (try with_reducible rfl)) hS (fun hS => ?_); (try simp only [Act.put, List.setIfInBounds_toArray, List.set_cons_zero, List.set_cons_succ]))))
   | ((with_reducible show RunN _ _ _ _ 25 _ _ _); ((refine runN_storeM rfl rfl (by rfl) 233 _ _ rfl g (i * 2) #[.string (gq l j).key, .int .i64 (gq l j).time] (by first | rfl | simp) rfl (own_there HOW.out i HI.out) infoRow (two_one _ _) ⟨hS.trans (touch_cells _ g _ _) (fun _ _ h => h), fun hS => ?_⟩; have HOW := Lib.hid (own_put HOW.out i HI.out (gq l j)); (try simp only [Act.put, List.setIfInBounds_toArray, List.set_cons_zero, List.set_cons_succ]))))
   | ((with_reducible show RunN _ _ _ _ 27 _ _ _); ((refine runN_storeM rfl rfl (by rfl) 233 _ _ rfl g (j * 2) #[.string (gq l i).key, .int .i64 (gq l i).time] (by first | rfl | simp) rfl (own_there HOW.out j (by rw [List.length_set]; exact HJ.out)) infoRow (two_one _ _) ⟨hS.trans (touch_cells _ g _ _) (fun _ _ h => h), fun hS => ?_⟩; have HOW := Lib.hid (own_put HOW.out j (by rw [List.length_set]; exact HJ.out) (gq l i)); (try simp only [Act.put, List.setIfInBounds_toArray, List.set_cons_zero, List.set_cons_succ])))))
  all_goals
   go_wp2_with fail
   go_meet
   exact ⟨HOW.out, hS⟩
 case rest =>
  rename World => w2
  obtain ⟨how, ht⟩ := hcut
  have HOW := Lib.hid how
  have HT := Lib.hid ht
  have hl9 := swapQ_length l i j
  have HD2 := Lib.hid (ownsMap_touch HDD.out (ht.drew) (fun e => by have := HSZ.out; have e : mb = g := e; omega))
  have hok : ∀ m, m < l.length → (gq (swapQ l i j) m).key.size ≤ 281474976710656 := fun m hm => by
   have h1 := gq_mem (swapQ l i j) m (by omega)
   exact (HQ.out.ok _ ((perm_swap l i j HI.out HJ.out).mem_iff.1 h1)).1
  obtain ⟨v3, s3, w3, w4, e1, t1, e2, t2, o4⟩ := entry_two HD2.out (by omega) (gq (swapQ l i j) i).key (hok i HI.out) i (by omega)
  obtain ⟨v5, s5, w5, w6, e3, t3, e4, t4, o6⟩ := entry_two o4 (by omega) (gq (swapQ l i j) j).key (hok j HJ.out) j (by omega)
  have HE1 := Lib.hid e1
  have HE2 := Lib.hid e2
  have HE3 := Lib.hid e3
  have HE4 := Lib.hid e4
  have HE1T := Lib.hid t1
  have HE2T := Lib.hid t2
  have HE3T := Lib.hid t3
  have HE4T := Lib.hid t4
  have HO6 := Lib.hid o6
  have HC2 : RowKit.Hid (∀ W, Touch w2 W (fun k => k = mb) → W.cell? ⟨b, 0, none⟩ = some (.slice (some ⟨g, 0, none⟩) l.length hc) ∧ W.cell? ⟨b, 1, none⟩ = some (.map (some mb)) ∧ W.cell? ⟨g, i * 2, none⟩ = some (.string (gq (swapQ l i j) i).key) ∧ W.cell? ⟨g, j * 2, none⟩ = some (.string (gq (swapQ l i j) j).key)) := Lib.hid (fun W t => by
   have h9 := t.keeps (ht.keeps HHD.out (fun e => by have := HSZ.out; have e : b = g := e; omega)) (fun e => by have := HSZ.out; have e : b = mb := e; omega)
   have ho := how.touch t (fun x hx e => by have := HSZ.out; have hx : some g = some x := hx; simp only [Option.some.injEq] at hx; have e : x = mb := e; omega)
   exact ⟨cell_of_cells h9 0, cell_of_cells h9 1, (own_cell2 ho i (by rw [hl9]; exact HI.out)).1, (own_cell2 ho j (by rw [hl9]; exact HJ.out)).1⟩)
  clear how ht e1 t1 e2 t2 o4 e3 t3 e4 t4 o6 hok HC
  go_wp2_with fail
  have hS := (Touch.refl w2 (fun k => k = mb)).drew
  refine wp_region_tree (fun w' => Touch w2 w' (fun k => k = mb)) (.take 0 (.take 1 (.take 2 (.take 3 (.take 4 (.take 5 (.take 6 (.take 7 (.take 8 (.take 9 (.take 10 (.take 11 (.take 12 (.take 13 (.take 14 (.take 15 (.take 16 (.take 17 (.take 18 (.take 19 (.take 20 (.take 21 (.take 22 (.take 23 (.take 24 (.take 25 (.one 26 (.take 27 (.one 28 (.one 29 (.take 30 (.one 31 .fin)))))))))))))))))))))))))))))))) (by kernel_rfl) (by kernel_rfl) (by kernel_rfl) (by kernel_rfl) hS ?_
  repeat' (first
   | (with_reducible refine walkT_take ?_)
   | (with_reducible refine walkT_one ?_)
   | (with_reducible refine walkT_two ?_ ?_)
   | (with_reducible refine walkT_fin ?_)
   | ((with_reducible show TakeN _ _ _ _ _ _ _ _); ((refine takeN_take (v := ?_) (some _) rfl rfl (fun _ _ _ h => h) (by rfl) ?_ ?_; rotate_left; (focus (intro w' hw'; obtain ⟨c0, c1, c2, c3⟩ := HC2.out w' hw'; go_simp; (try with_reducible rfl))); (try simp only [Act.put, List.setIfInBounds_toArray, List.set_cons_zero, List.set_cons_succ]))))
   | ((with_reducible show RunN _ _ _ _ 26 _ _ _); ((refine runN_do (v := .tuple #[v3, .int .i64 s3]) (w' := w3) (some 58) rfl rfl (by rfl) (by have q := HE1.out; go_simp; (try with_reducible rfl)) (hS.trans (HE1T.out) (fun _ _ h => h)) (fun hS => ?_); (try simp only [Act.put, List.setIfInBounds_toArray, List.set_cons_zero, List.set_cons_succ]))))
   | ((with_reducible show RunN _ _ _ _ 28 _ _ _); ((refine runN_skip0 none rfl rfl (by rfl) (w' := w4) (by have q := HE2.out; go_simp; (try with_reducible rfl)) (hS.trans (HE2T.out) (fun _ _ h => h)) (fun hS => ?_); (try simp only [Act.put, List.setIfInBounds_toArray, List.set_cons_zero, List.set_cons_succ]))))
   | ((with_reducible show RunN _ _ _ _ 29 _ _ _); ((refine runN_do (v := .tuple #[v5, .int .i64 s5]) (w' := w5) (some 60) rfl rfl (by rfl) (by have q := HE3.out; go_simp; (try with_reducible rfl)) (hS.trans (HE3T.out) (fun _ _ h => h)) (fun hS => ?_); (try simp only [Act.put, List.setIfInBounds_toArray, List.set_cons_zero, List.set_cons_succ]))))
   | ((with_reducible show RunN _ _ _ _ 31 _ _ _); ((refine runN_skip0 none rfl rfl (by rfl) (w' := w6) (by have q := HE4.out; go_simp; (try with_reducible rfl)) (hS.trans (HE4T.out) (fun _ _ h => h)) (fun hS => ?_); (try simp only [Act.put, List.setIfInBounds_toArray, List.set_cons_zero, List.set_cons_succ])))))
  all_goals
   go_wp2_with fail
   go_end0
   refine ⟨rfl, ⟨some ⟨g, 0, none⟩, hc, some mb⟩, ?_, ?_, fun k hk => .inl hk⟩
   ·have hp := perm_swap l i j HI.out HJ.out
    have hpq := plQ_swap HPP.out HQ.out.nd HI.out HJ.out
    have htg := ownsMap_tight HO6.out
    have e6 : Maps.size ((D.put (klB (gq (swapQ l i j) i).key) (DataW.lit (Lit.int .i64 i))).put (klB (gq (swapQ l i j) j).key) (DataW.lit (Lit.int .i64 j))) = (swapQ l i j).length := hpq.size
    rw [e6] at htg
    refine ⟨?_, ?_, fun r hr => HQ.out.ok r (hp.mem_iff.1 hr), (hp.map QR.key).nodup_iff.2 HQ.out.nd, by rw [hl9]; exact HQ.out.len, ?_⟩
    ·rw [hl9]
     exact hS.keeps (HT.out.keeps HHD.out (fun e => by have := HSZ.out; have e : b = g := e; omega)) (fun e => by have := HSZ.out; have e : b = mb := e; omega)
    ·rw [hl9]
     exact HOW.out.touch hS (fun x hx e => by have := HSZ.out; have hx : some g = some x := hx; simp only [Option.some.injEq] at hx; have e : x = mb := e; omega)
    ·exact ⟨HSZ.out.2.2.1, fun k hk => by have hk : some g = some k := hk; simp only [Option.some.injEq] at hk; have := HSZ.out; omega, _, htg, hpq⟩
   ·exact (HT.out.mono (fun k _ e => by have e : k = g := e; subst e; exact .inr (.inl rfl))).trans hS (fun k _ e => by have e : k = mb := e; subst e; exact .inr (.inr rfl))
end Go.Proofs.YtpjdcgjoepjmcaaGreat
end
section
namespace Go.Proofs.YtpjdcgjoepjmcaaGreat
open Go.RowKit
def Moved (N : Nat) (l l' : List QR) : Prop := l'.Perm l ∧ ∀ m, N ≤ m → gq l' m = gq l m
theorem Moved.refl (N : Nat) (l : List QR) : Moved N l l := ⟨.refl _, fun _ _ => rfl⟩
theorem Moved.length {N : Nat} {l l' : List QR} (h : Moved N l l') : l'.length = l.length := h.1.length_eq
theorem Moved.trans {N : Nat} {l l' l'' : List QR} (h : Moved N l l') (h2 : Moved N l' l'') : Moved N l l'' := ⟨h2.1.trans h.1, fun m hm => (h2.2 m hm).trans (h.2 m hm)⟩
theorem Moved.swap {N : Nat} {l : List QR} (hN : N ≤ l.length) (i j : Nat) (hi : i < N) (hj : j < N) : Moved N l (swapQ l i j) :=
 ⟨perm_swap l i j (by omega) (by omega), fun m hm => by rw [gq_swap l i j m (by omega) (by omega), if_neg (by omega), if_neg (by omega)]⟩
set_option maxRecDepth 20000 in
set_option maxHeartbeats 8000000 in
theorem up_any (w : World) (b : Nat) (h : QH) (l : List QR) (q : QB w b h l) (N j : Nat) (hN : N ≤ l.length) (hj : j < N) (hu : HeapUp N j l) :
 Calls Tryz.prog 180 #[.iface 219 (.pointer (some ⟨b, 0, none⟩)), .int .i64 j] w fun e w' => e = .returned (.tuple #[]) ∧ ∃ l', QStep w w' b h l' ∧ Moved N l l' ∧ HeapQ N l' := by
 have hl4 := q.len
 go_enter Tryz.func180, Tryz.ntmps180
 go_wp2_with fail
 go_loopw [1] (fun s1 wr => ∃ (m : Nat) (l1 : List QR), s1 = .int .i64 m ∧ m < N ∧ QStep w wr b h l1 ∧ Moved N l l1 ∧ HeapUp N m l1) (fun s1 _ => (intOf s1).toNat)
 case atStart => exact ⟨j, l, rfl, hj, QStep.refl q, Moved.refl N l, hu⟩
 case round =>
  obtain ⟨m, l1, rfl, hm, hs, hmv, hu1⟩ := hrel
  obtain ⟨h1, q1, t1, f1⟩ := hs
  have hlen := hmv.length
  have hpar : (par m : Nat) ≤ m := by unfold par; omega
  have e8 : ((m : Int) - 1).tdiv 2 = ((par m : Nat) : Int) := by
   unfold par
   by_cases h0 : m = 0
   ·subst h0; rfl
   ·rw [Int.tdiv_eq_ediv_of_nonneg (by omega)]; omega
  have HU := Lib.hid hu1
  have HQ := Lib.hid q1
  have HM := Lib.hid hmv
  have HT := Lib.hid t1
  have HF := Lib.hid f1
  clear hu1 q1 hmv t1 f1 hu
  by_cases h0 : m = 0
  ·subst h0
   have p0 : par 0 = 0 := rfl
   rw [p0] at e8
   go_wp2_with fail
   go_end0
   exact ⟨rfl, l1, ⟨h1, HQ.out, HT.out, HF.out⟩, HM.out, up_done HU.out (.inl rfl)⟩
  have hpm : par m < m := by unfold par; omega
  have hne : ¬ ((par m : Nat) : Int) = (m : Int) := by omega
  have hm1 : m < l1.length := by omega
  have hp1 : par m < l1.length := by omega
  cases hB : ltQ (gq l1 m) (gq l1 (par m)) with
  | false =>
    have HL := Lib.hid (kless_any wr b h1 l1 HQ.out m (par m) hm1 hp1)
    rw [hB] at HL
    go_wp2_with fail
    refine HL.out.mono ?_
    rintro e w9 ⟨rfl, t9⟩
    go_wp2_with fail
    go_end0
    exact ⟨rfl, l1, QStep.trans HT.out HF.out (QStep.still HQ.out t9), HM.out, up_done HU.out (.inr hB)⟩
  | true =>
    have HL := Lib.hid (kless_any wr b h1 l1 HQ.out m (par m) hm1 hp1)
    rw [hB] at HL
    go_wp2_with fail
    refine HL.out.mono ?_
    rintro e w9 ⟨rfl, t9⟩
    have HS := Lib.hid (kswap_any w9 b h1 l1 (HQ.out.still t9) (par m) m hp1 hm1)
    go_wp2_with fail
    refine HS.out.mono ?_
    rintro e w8 ⟨rfl, s8⟩
    have HX : RowKit.Hid (∃ (m' : Nat) (l' : List QR), (Value.int .i64 (par m : Nat)) = .int .i64 m' ∧ m' < N ∧ QStep w w8 b h l' ∧ Moved N l l' ∧ HeapUp N m' l') := Lib.hid ⟨par m, _, rfl, by omega, QStep.trans HT.out HF.out (QStep.trans (t9.mono (fun _ _ h => h.elim)) (fun k hk => .inl hk) s8), HM.out.trans (Moved.swap (by omega) _ _ (by omega) hm), up_step HU.out (by omega) hm (by omega) hB⟩
    clear s8
    go_wp2_with fail
    go_roundw
    ·exact HX.out
    ·simp only [intOf]; omega
end Go.Proofs.YtpjdcgjoepjmcaaGreat
end
section
namespace Go.Proofs.YtpjdcgjoepjmcaaGreat
open Go.RowKit
theorem down_end {N i m : Nat} {l : List QR} (hu : HeapBut N m l) (hw : m = i ∨ ltQ (gq l m) (gq l (par m)) = false) (hc : ∀ k, 0 < k → k < N → par k = m → ltQ (gq l k) (gq l m) = false) (him : i ≤ m) :
 (decide (i < m) = true → HeapQ N l) ∧ (decide (i < m) = false → HeapUp N i l) := by
 refine ⟨fun hd => ?_, fun hd => ?_⟩
 ·have := of_decide_eq_true hd
  exact down_done hu hc (.inr (.inr (hw.resolve_left (by omega))))
 ·have := of_decide_eq_false hd
  obtain rfl : m = i := by omega
  exact but_up hu hc
set_option maxRecDepth 20000 in
set_option maxHeartbeats 8000000 in
theorem down_any (w : World) (b : Nat) (h : QH) (l : List QR) (q : QB w b h l) (N i : Nat) (hN : N ≤ l.length) (hi : i ≤ 1024) (hu : HeapBut N i l) :
 Calls Tryz.prog 179 #[.iface 219 (.pointer (some ⟨b, 0, none⟩)), .int .i64 i, .int .i64 N] w fun e w' => ∃ (r : Bool) (l' : List QR), e = .returned (.bool r) ∧ QStep w w' b h l' ∧ Moved N l l' ∧ (r = true → HeapQ N l') ∧ (r = false → HeapUp N i l') := by
 have hl4 := q.len
 go_enter Tryz.func179, Tryz.ntmps179
 go_wp2_with fail
 go_loopw [7] (fun s1 wr => ∃ (m : Nat) (l1 : List QR), s1 = .int .i64 m ∧ i ≤ m ∧ (m = i ∨ m < N) ∧ QStep w wr b h l1 ∧ Moved N l l1 ∧ HeapBut N m l1 ∧ (m = i ∨ ltQ (gq l1 m) (gq l1 (par m)) = false)) (fun s1 _ => N - (intOf s1).toNat)
 case atStart => exact ⟨i, l, rfl, Nat.le_refl _, .inl rfl, QStep.refl q, Moved.refl N l, hu, .inl rfl⟩
 case round =>
  obtain ⟨m, l1, rfl, him, hmN, hs, hmv, hu1, hw1⟩ := hrel
  obtain ⟨h1, q1, t1, f1⟩ := hs
  have hlen := hmv.length
  have HU := Lib.hid hu1
  have HW := Lib.hid hw1
  have HQ := Lib.hid q1
  have HM := Lib.hid hmv
  have HT := Lib.hid t1
  have HF := Lib.hid f1
  clear hu1 q1 hmv t1 f1 hu hw1
  have hm4 : m ≤ 1024 := by omega
  by_cases ha : 2 * m + 1 < N
  case neg =>
   have haI : (N : Int) ≤ 2 * (m : Int) + 1 := by omega
   have hc : ∀ k, 0 < k → k < N → par k = m → ltQ (gq l1 k) (gq l1 m) = false := fun k k0 kN kp => by unfold par at kp; omega
   have HX := Lib.hid (down_end HU.out HW.out hc him)
   clear hc
   go_wp2_with fail
   go_ret
   exact ⟨_, l1, rfl, ⟨h1, HQ.out, HT.out, HF.out⟩, HM.out, HX.out⟩
  case pos =>
  have haI : ¬ (N : Int) ≤ 2 * (m : Int) + 1 := by omega
  obtain ⟨a, ha1, ha2⟩ : ∃ a : Nat, a ≤ 2 * m + 1 ∧ 2 * m + 1 ≤ a := ⟨_, Nat.le_refl _, Nat.le_refl _⟩
  have ea : 2 * (m : Int) + 1 = (a : Int) := by omega
  by_cases hb : a + 1 < N
  case pos =>
   obtain ⟨c, hc1, hc2⟩ : ∃ c : Nat, c ≤ a + 1 ∧ a + 1 ≤ c := ⟨_, Nat.le_refl _, Nat.le_refl _⟩
   have ec : (a : Int) + 1 = (c : Int) := by omega
   have hcI : (c : Int) < N := by omega
   have HL1 := Lib.hid (kless_any wr b h1 l1 HQ.out c a (by omega) (by omega))
   cases hB1 : ltQ (gq l1 c) (gq l1 a) with
   | true =>
     rw [hB1] at HL1
     have HMN : RowKit.Hid (∀ k, 0 < k → k < N → par k = m → ltQ (gq l1 k) (gq l1 c) = false) := Lib.hid (fun k k0 kN kp => by
      have : k = a ∨ k = c := by unfold par at kp; omega
      rcases this with rfl | rfl
      ·exact lt_asymm hB1
      ·exact lt_irrefl _)
     have HPJ : RowKit.Hid (par c = m) := Lib.hid (by unfold par; omega)
     go_wp2_with fail
     refine HL1.out.mono ?_
     rintro e w9 ⟨rfl, t9⟩
     have HT9 := Lib.hid t9
     clear t9
     have HL2 := Lib.hid (kless_any w9 b h1 l1 (HQ.out.still HT9.out) c m (by omega) (by omega))
     cases hB2 : ltQ (gq l1 c) (gq l1 m) with
     | false =>
       rw [hB2] at HL2
       go_wp2_with fail
       refine HL2.out.mono ?_
       rintro e w8 ⟨rfl, t8⟩
       have hc : ∀ k, 0 < k → k < N → par k = m → ltQ (gq l1 k) (gq l1 m) = false := fun k k0 kN kp => nlt_trans (HMN.out k k0 kN kp) hB2
       have HX := Lib.hid (down_end HU.out HW.out hc him)
       have HE := Lib.hid (QStep.trans HT.out HF.out (QStep.still HQ.out (HT9.out.trans t8 (fun _ _ h => h))))
       clear hc
       go_wp2_with fail
       go_ret
       exact ⟨_, l1, rfl, HE.out, HM.out, HX.out⟩
     | true =>
       rw [hB2] at HL2
       go_wp2_with fail
       refine HL2.out.mono ?_
       rintro e w8 ⟨rfl, t8⟩
       have HS := Lib.hid (kswap_any w8 b h1 l1 ((HQ.out.still HT9.out).still t8) m c (by omega) (by omega))
       go_wp2_with fail
       refine HS.out.mono ?_
       rintro e w7 ⟨rfl, s7⟩
       have hd := down_step HU.out (j := c) (by omega) (by omega) HPJ.out (by omega) HMN.out hB2
       have HX : RowKit.Hid (∃ (m' : Nat) (l' : List QR), (Value.int .i64 (c : Nat)) = .int .i64 m' ∧ i ≤ m' ∧ (m' = i ∨ m' < N) ∧ QStep w w7 b h l' ∧ Moved N l l' ∧ HeapBut N m' l' ∧ (m' = i ∨ ltQ (gq l' m') (gq l' (par m')) = false)) := Lib.hid ⟨c, _, rfl, by omega, .inr (by omega), QStep.trans HT.out HF.out (QStep.trans ((HT9.out.trans t8 (fun _ _ h => h)).mono (fun _ _ h => h.elim)) (fun k hk => .inl hk) s7), HM.out.trans (Moved.swap (by omega) _ _ (by omega) (by omega)), hd.1, .inr hd.2⟩
       clear s7 hd
       go_wp2_with fail
       go_roundw
       ·exact HX.out
       ·simp only [intOf]; omega
   | false =>
     rw [hB1] at HL1
     have HMN : RowKit.Hid (∀ k, 0 < k → k < N → par k = m → ltQ (gq l1 k) (gq l1 a) = false) := Lib.hid (fun k k0 kN kp => by
      have : k = a ∨ k = c := by unfold par at kp; omega
      rcases this with rfl | rfl
      ·exact lt_irrefl _
      ·exact hB1)
     have HPJ : RowKit.Hid (par a = m) := Lib.hid (by unfold par; omega)
     go_wp2_with fail
     refine HL1.out.mono ?_
     rintro e w9 ⟨rfl, t9⟩
     have HT9 := Lib.hid t9
     clear t9
     have HL2 := Lib.hid (kless_any w9 b h1 l1 (HQ.out.still HT9.out) a m (by omega) (by omega))
     cases hB2 : ltQ (gq l1 a) (gq l1 m) with
     | false =>
       rw [hB2] at HL2
       go_wp2_with fail
       refine HL2.out.mono ?_
       rintro e w8 ⟨rfl, t8⟩
       have hc : ∀ k, 0 < k → k < N → par k = m → ltQ (gq l1 k) (gq l1 m) = false := fun k k0 kN kp => nlt_trans (HMN.out k k0 kN kp) hB2
       have HX := Lib.hid (down_end HU.out HW.out hc him)
       have HE := Lib.hid (QStep.trans HT.out HF.out (QStep.still HQ.out (HT9.out.trans t8 (fun _ _ h => h))))
       clear hc
       go_wp2_with fail
       go_ret
       exact ⟨_, l1, rfl, HE.out, HM.out, HX.out⟩
     | true =>
       rw [hB2] at HL2
       go_wp2_with fail
       refine HL2.out.mono ?_
       rintro e w8 ⟨rfl, t8⟩
       have HS := Lib.hid (kswap_any w8 b h1 l1 ((HQ.out.still HT9.out).still t8) m a (by omega) (by omega))
       go_wp2_with fail
       refine HS.out.mono ?_
       rintro e w7 ⟨rfl, s7⟩
       have hd := down_step HU.out (j := a) (by omega) (by omega) HPJ.out (by omega) HMN.out hB2
       have HX : RowKit.Hid (∃ (m' : Nat) (l' : List QR), (Value.int .i64 (a : Nat)) = .int .i64 m' ∧ i ≤ m' ∧ (m' = i ∨ m' < N) ∧ QStep w w7 b h l' ∧ Moved N l l' ∧ HeapBut N m' l' ∧ (m' = i ∨ ltQ (gq l' m') (gq l' (par m')) = false)) := Lib.hid ⟨a, _, rfl, by omega, .inr (by omega), QStep.trans HT.out HF.out (QStep.trans ((HT9.out.trans t8 (fun _ _ h => h)).mono (fun _ _ h => h.elim)) (fun k hk => .inl hk) s7), HM.out.trans (Moved.swap (by omega) _ _ (by omega) (by omega)), hd.1, .inr hd.2⟩
       clear s7 hd
       go_wp2_with fail
       go_roundw
       ·exact HX.out
       ·simp only [intOf]; omega
  case neg =>
   have hcI : ¬ (a : Int) + 1 < N := by omega
   have HMN : RowKit.Hid (∀ k, 0 < k → k < N → par k = m → ltQ (gq l1 k) (gq l1 a) = false) := Lib.hid (fun k k0 kN kp => by
    have : k = a := by unfold par at kp; omega
    subst this
    exact lt_irrefl _)
   have HPJ : RowKit.Hid (par a = m) := Lib.hid (by unfold par; omega)
   obtain ⟨w9, hw9⟩ : ∃ w9, w9 = wr := ⟨_, rfl⟩
   have HT9 : RowKit.Hid (Touch wr w9 (fun _ => False)) := Lib.hid (hw9 ▸ Touch.refl _ _)
   have HW9 := Lib.hid hw9
   clear hw9
   have HL2 := Lib.hid (kless_any w9 b h1 l1 (HQ.out.still HT9.out) a m (by omega) (by omega))
   cases hB2 : ltQ (gq l1 a) (gq l1 m) with
   | false =>
     rw [hB2] at HL2
     go_wp2_with fail
     rw [← HW9.out]
     refine HL2.out.mono ?_
     rintro e w8 ⟨rfl, t8⟩
     have hc : ∀ k, 0 < k → k < N → par k = m → ltQ (gq l1 k) (gq l1 m) = false := fun k k0 kN kp => nlt_trans (HMN.out k k0 kN kp) hB2
     have HX := Lib.hid (down_end HU.out HW.out hc him)
     have HE := Lib.hid (QStep.trans HT.out HF.out (QStep.still HQ.out (HT9.out.trans t8 (fun _ _ h => h))))
     clear hc
     go_wp2_with fail
     go_ret
     exact ⟨_, l1, rfl, HE.out, HM.out, HX.out⟩
   | true =>
     rw [hB2] at HL2
     go_wp2_with fail
     rw [← HW9.out]
     refine HL2.out.mono ?_
     rintro e w8 ⟨rfl, t8⟩
     have HS := Lib.hid (kswap_any w8 b h1 l1 ((HQ.out.still HT9.out).still t8) m a (by omega) (by omega))
     go_wp2_with fail
     refine HS.out.mono ?_
     rintro e w7 ⟨rfl, s7⟩
     have hd := down_step HU.out (j := a) (by omega) (by omega) HPJ.out (by omega) HMN.out hB2
     have HX : RowKit.Hid (∃ (m' : Nat) (l' : List QR), (Value.int .i64 (a : Nat)) = .int .i64 m' ∧ i ≤ m' ∧ (m' = i ∨ m' < N) ∧ QStep w w7 b h l' ∧ Moved N l l' ∧ HeapBut N m' l' ∧ (m' = i ∨ ltQ (gq l' m') (gq l' (par m')) = false)) := Lib.hid ⟨a, _, rfl, by omega, .inr (by omega), QStep.trans HT.out HF.out (QStep.trans ((HT9.out.trans t8 (fun _ _ h => h)).mono (fun _ _ h => h.elim)) (fun k hk => .inl hk) s7), HM.out.trans (Moved.swap (by omega) _ _ (by omega) (by omega)), hd.1, .inr hd.2⟩
     clear s7 hd
     go_wp2_with fail
     go_roundw
     ·exact HX.out
     ·simp only [intOf]; omega
end Go.Proofs.YtpjdcgjoepjmcaaGreat
end
