/- The queue of what is due, in memory. -/
import Derived.Test.YtdjkjdeaglimeaaDueM
import Derived.Test.YtdjkjdeaglimeaaCalmT
import Derived.Maps.OwnSet
import Derived.Maps.OwnOps
import Derived.WideKeyEntry
set_option linter.unusedVariables false
set_option linter.unusedSimpArgs false
namespace Go.Proofs.Ytdjkjdeaglimeaa
open Go.RowKit

/-- Where a queue's rows and its places lie. -/
structure QH where
  a : Option Addr
  c : Nat
  mo : Option Nat
def qcl (r : QR) : List Value := [.string r.key, .int .i64 r.time]
def klB (k : ByteArray) : Lit := .string k.data.toList
def klQ (r : QR) : Lit := klB r.key
/-- The map tells where each key is. -/
structure PlQ (D : DataW Unit) (l : List QR) : Prop where
  tidy : Maps.Tidy D
  size : Maps.size D = l.length
  at_ : ∀ i, i < l.length → D.atKey (klQ (gq l i)) (.lit (.int .i64 0)) = .lit (.int .i64 i)
  has : ∀ k : ByteArray, Maps.has D (klB k) = l.any (fun r => decide (r.key = k))
def MapQ (w : World) (b : Nat) (h : QH) (l : List QR) : Prop :=
  match h.mo with
  | none => l = []
  | some mb => b < mb ∧ (∀ k, h.a.map (·.block) = some k → k ≠ mb) ∧ ∃ D : DataW Unit, w.ownsMap Try.prog 9 (plainElem Try.prog 3) mb l.length D ∧ PlQ D l
/-- The queue in block b has the rows l. -/
structure QB (w : World) (b : Nat) (h : QH) (l : List QR) : Prop where
  head : w.heap[b]? = some (.cells #[.slice h.a l.length h.c, .map h.mo] 85 (0, 0))
  own : OwnS w (b + 1) 88 2 (.slice h.a l.length h.c) (l.map qcl)
  ok : ∀ r ∈ l, r.key.size ≤ 281474976710656 ∧ 0 ≤ r.time ∧ r.time ≤ 1099511627776
  nd : (l.map QR.key).Nodup
  len : l.length ≤ 1024
  map : MapQ w b h l
/-- The blocks of a queue. -/
def footQ (b : Nat) (h : QH) (k : Nat) : Prop := k = b ∨ h.a.map (·.block) = some k ∨ h.mo = some k
section
variable {w w' : World} {b : Nat} {h : QH} {l : List QR}
theorem ownsMap_touch {H : Type} {P : Program} {k : TypeId} {R : Value → Option (DataW H × List MemPlace)} {mb n : Nat} {D : DataW H} {S : Nat → Prop} (h : w.ownsMap P k R mb n D) (t : Touch w w' S) (hn : ¬ S mb) : w'.ownsMap P k R mb n D := by
  obtain ⟨es, clock, hb, r⟩ := h
  exact ⟨es, clock, t.keeps hb hn, r⟩
theorem ownsMap_tight {H : Type} {P : Program} {k : TypeId} {R : Value → Option (DataW H × List MemPlace)} {mb n : Nat} {D : DataW H} (h : w.ownsMap P k R mb n D) : w.ownsMap P k R mb (Maps.size D) D := by
  obtain ⟨es, clock, hb, F, hs, rfl⟩ := h
  exact ⟨es, clock, hb, F, by simp [Maps.size, length_sorted], rfl⟩
theorem own_block {a : Option Addr} {n c k : Nat} (h : (Value.slice a n c).ownBlock = some k) : a.map (·.block) = some k := by
  cases a with
  | none => simp [Value.ownBlock] at h
  | some x => simpa [Value.ownBlock] using h
theorem QB.touch {S : Nat → Prop} (q : QB w b h l) (t : Touch w w' S) (hn : ∀ k, footQ b h k → ¬ S k) : QB w' b h l := by
  refine ⟨t.keeps q.head (hn b (.inl rfl)), q.own.touch t (fun x hx => hn x (.inr (.inl (own_block hx)))), q.ok, q.nd, q.len, ?_⟩
  have hm := q.map
  unfold MapQ at hm ⊢
  cases hh : h.mo with
  | none => rw [hh] at hm; exact hm
  | some mb =>
    rw [hh] at hm
    obtain ⟨h1, h2, D, h3, h4⟩ := hm
    exact ⟨h1, h2, D, ownsMap_touch h3 t (hn mb (.inr (.inr hh))), h4⟩
theorem QB.still (q : QB w b h l) (t : Touch w w' (fun _ => False)) : QB w' b h l := q.touch t (fun _ _ h => h)
theorem QB.footlt (q : QB w b h l) : ∀ k, footQ b h k → k < w.heap.size := by
  intro k hk
  rcases hk with rfl | hk | hk
  · exact heap_lt q.head
  · obtain ⟨hl, hr, hb⟩ := q.own.row'
    cases ha : h.a with
    | none => rw [ha] at hk; cases hk
    | some x =>
      rw [ha] at hk
      simp only [Option.map_some, Option.some.injEq] at hk
      have := (hb x ha).2
      omega
  · have hm := q.map
    unfold MapQ at hm
    rw [hk] at hm
    obtain ⟨_, _, D, h3, _⟩ := hm
    exact h3.lt
theorem QB.cells (q : QB w b h l) : w.cell? ⟨b, 0, none⟩ = some (.slice h.a l.length h.c) ∧ w.cell? ⟨b, 1, none⟩ = some (.map h.mo) := ⟨cell_of_cells q.head 0, cell_of_cells q.head 1⟩
theorem QB.row (q : QB w b h l) : RowS w h.a l.length h.c 2 (l.map qcl) := by
  obtain ⟨_, hr, _⟩ := q.own.row'
  exact hr
theorem QB.at' (q : QB w b h l) (h0 : 0 < l.length) : ∃ g, h.a = some ⟨g, 0, none⟩ ∧ b < g ∧ g < w.heap.size := by
  rcases q.own.own.2 with ⟨hv, hn⟩ | ⟨g, cap, cur, hv, hb, hg, _⟩
  · rw [List.length_map] at hn; omega
  · simp only [Value.slice.injEq] at hv
    exact ⟨g, hv.1, hb, (Array.getElem?_eq_some_iff.1 hg).1⟩
theorem QB.cell2 (q : QB w b h l) {g : Nat} (ha : h.a = some ⟨g, 0, none⟩) (i : Nat) (hi : i < l.length) : w.cell? ⟨g, i * 2, none⟩ = some (.string (gq l i).key) ∧ w.cell? ⟨g, i * 2 + 1, none⟩ = some (.int .i64 (gq l i).time) := by
  have hr := q.row
  rw [ha] at hr
  have hi' : i < (l.map qcl).length := by simpa using hi
  have e : (l.map qcl)[i] = qcl (gq l i) := by rw [List.getElem_map, gq_get l i hi]
  have h0 := RowS.cell hr i hi' 0 (.string (gq l i).key) (by rw [e]; rfl)
  have h1 := RowS.cell hr i hi' 1 (.int .i64 (gq l i).time) (by rw [e]; rfl)
  rw [Nat.zero_add, Nat.add_zero] at h0
  rw [Nat.zero_add] at h1
  exact ⟨h0, h1⟩
end
theorem infoRow : (Try.prog.info? 88).map (·.size) = some 2 := by kernel_rfl
theorem infoRowB : (Try.prog.info? 88).map (fun i => (i.zero, i.size, i.bytes)) = some (some (.agg #[.string ByteArray.empty, .int .i64 0]), 2, 24) := by kernel_rfl
set_option maxRecDepth 20000 in
theorem klen_any (w : World) (b : Nat) (h : QH) (l : List QR) (q : QB w b h l) :
    Calls Try.prog 92 #[.pointer (some ⟨b, 0, none⟩)] w fun e w' => e = .returned (.int .i64 l.length) ∧ w = w' := by
  obtain ⟨c0, c1⟩ := q.cells
  go_enter Try.func92, Try.ntmps92
  go_wp2
  go_ret
  exact ⟨rfl, rfl⟩
end Go.Proofs.Ytdjkjdeaglimeaa
