/- What a call may have touched; objects of one cell that hold a row of bytes of their own. -/
import Derived.Test.YtmokcfmlolohaaaBytes
import Derived.OneCell
set_option linter.unusedVariables false
namespace Go.Proofs.Ytmokcfmlolohaaa
open Go.RowKit

/-- From w to w' at most the blocks of S have turned, and new ones have come. -/
structure Touch (w w' : World) (S : Nat → Prop) : Prop where
  os : w'.os = w.os
  tape : w'.tape = w.tape
  output : w'.output = w.output
  size : w.heap.size ≤ w'.heap.size
  block : ∀ k, k < w.heap.size → ¬ S k → w'.heap[k]? = w.heap[k]?

section
variable {a b c w w' : World} {S T : Nat → Prop}
theorem Touch.refl (w : World) (S : Nat → Prop) : Touch w w S := ⟨rfl, rfl, rfl, Nat.le_refl _, fun _ _ _ => rfl⟩
theorem Touch.mono (h : Touch a b S) (hs : ∀ k, k < a.heap.size → S k → T k) : Touch a b T :=
  ⟨h.os, h.tape, h.output, h.size, fun k hk hn => h.block k hk (fun hS => hn (hs k hk hS))⟩
theorem Touch.trans (h : Touch a b S) (g : Touch b c T) (hT : ∀ k, k < a.heap.size → T k → S k) : Touch a c S :=
  ⟨g.os.trans h.os, g.tape.trans h.tape, g.output.trans h.output, Nat.le_trans h.size g.size, fun k hk hn =>
    (g.block k (Nat.lt_of_lt_of_le hk h.size) (fun hT' => hn (hT k hk hT'))).trans (h.block k hk hn)⟩
theorem Touch.drewN (h : Touch a b S) (n : Nat) : Touch a (b.drewN n) S := ⟨h.os, h.tape, h.output, h.size, h.block⟩
theorem Touch.drew (h : Touch a b S) : Touch a b.drew S := ⟨h.os, h.tape, h.output, h.size, h.block⟩
theorem Touch.alloc (h : Touch a b S) (o : Obj) : Touch a (b.alloc o) S :=
  ⟨h.os, h.tape, h.output, by have := h.size; simp; omega, fun k hk hn => (Below.heap_alloc b o k (Nat.lt_of_lt_of_le hk h.size)).trans (h.block k hk hn)⟩
theorem Touch.setCell (h : Touch a b S) (p : Addr) (u : Value) (hp : p.block < a.heap.size → S p.block) : Touch a (b.setCell p u) S :=
  ⟨h.os, h.tape, h.output, by have := h.size; simp [World.setCell]; exact this, fun k hk hn =>
    (Below.heap_setCell b p u k (fun e => hn (e ▸ hp (e ▸ hk)))).trans (h.block k hk hn)⟩
theorem Touch.grown {r : Option Nat} (h : Touch a b S) (g : b.grownBy c r) (hr : ∀ k, r = some k → k < a.heap.size → S k) : Touch a c S :=
  ⟨g.os.trans h.os, g.tape.trans h.tape, g.output.trans h.output, Nat.le_trans h.size g.size, fun k hk hn =>
    (g.block k (Nat.lt_of_lt_of_le hk h.size) (fun e => hn (hr k e.symm hk))).trans (h.block k hk hn)⟩
theorem Touch.ofBelow {B : Nat} (h : Below B w w') (hS : ∀ k, B ≤ k → k < w.heap.size → S k) : Touch w w' S :=
  ⟨h.os, h.tape, h.output, h.size, fun k hk hn => h.block k (Nat.lt_of_not_le fun hb => hn (hS k hb hk))⟩
theorem Touch.below {B : Nat} (h : Touch w w' S) (hS : ∀ k, k < w.heap.size → S k → B ≤ k) (hB : B ≤ w.heap.size) : Below B w w' :=
  ⟨h.os, h.tape, h.output, h.size, fun k hk => h.block k (by omega) (fun hs => by have := hS k (by omega) hs; omega)⟩
theorem Touch.cell (h : Touch w w' S) {p : Addr} (hp : p.block < w.heap.size) (hn : ¬ S p.block) : w'.cell? p = w.cell? p := World.cell?_of_block (w := w) (h.block p.block hp hn)
theorem Touch.frozen (h : Touch w w' S) {p : Addr} (hp : p.block < w.heap.size) (hn : ¬ S p.block) : w'.frozen? p = w.frozen? p := World.frozen?_of_block (w := w) (h.block p.block hp hn)

/-- A row of the call's own stays where other blocks are touched. -/
theorem ownsRow_touch {base : Nat} {E : TypeId} {size : Nat} {v : Value} {n : Nat} {xs : List Value} (h : w.ownsRow base E size v n xs) (t : Touch w w' S) (hn : ∀ k, v.ownBlock = some k → ¬ S k) : w'.ownsRow base E size v n xs := by
  refine ⟨h.1, ?_⟩
  rcases h.2 with h2 | ⟨g, cap, cur, rfl, hb, hg, rest⟩
  · exact .inl h2
  · exact .inr ⟨g, cap, cur, rfl, hb, by rw [t.block g (Array.getElem?_eq_some_iff.1 hg).1 (hn g rfl)]; exact hg, rest⟩
theorem OwnB.touch {base : Nat} {E : TypeId} {v : Value} {xs : List Nat} (h : OwnB w base E v xs) (t : Touch w w' S) (hn : ∀ k, v.ownBlock = some k → ¬ S k) : OwnB w' base E v xs :=
  ⟨ownsRow_touch h.own t hn, h.small, h.short⟩
theorem RowB.touch {ad : Option Addr} {len cap : Nat} {xs : List Nat} (h : RowB w ad len cap xs) (t : Touch w w' S) (hn : ∀ x, ad = some x → len = 0 ∨ ¬ S x.block) : RowB w' ad len cap xs := by
  have hlt := h.lt
  obtain ⟨h1, h2, h3, h6, h4, h5⟩ := h
  refine ⟨h1, h2, h3, h6, h4, ?_⟩
  rcases h5 with h5 | ⟨b, off, ha, hc⟩
  · exact .inl h5
  · rcases hlt _ ha with h0 | h0
    · exact .inl h0
    · rcases hn _ ha with h9 | h9
      · exact .inl h9
      · exact .inr ⟨b, off, ha, fun i hi => by rw [t.cell (p := ⟨b, off + i, none⟩) h0 h9]; exact hc i hi⟩
end

theorem OwnB.base {w : World} {base base' : Nat} {E : TypeId} {v : Value} {xs : List Nat} (h : OwnB w base E v xs) (hb : ∀ k, v.ownBlock = some k → base' ≤ k) : OwnB w base' E v xs := by
  refine ⟨⟨h.own.1, ?_⟩, h.small, h.short⟩
  rcases h.own.2 with h2 | ⟨g, cap, cur, rfl, _, rest⟩
  · exact .inl h2
  · exact .inr ⟨g, cap, cur, rfl, hb g rfl, rest⟩

/-- A block of cells, whole. -/
theorem cell_of_cells {w : World} {G : Nat} {cs : Array Value} {T : TypeId} {m : Nat × Nat} (h : w.heap[G]? = some (.cells cs T m)) (j : Nat) : w.cell? ⟨G, j, none⟩ = cs[j]? := by
  unfold World.cell?; rw [h]; rfl
theorem free_of_cells {w : World} {G : Nat} {cs : Array Value} {T : TypeId} (h : w.heap[G]? = some (.cells cs T (0, 0))) (j : Nat) : w.frozen? ⟨G, j, none⟩ = false :=
  frozen_of_row w G j cs T h
end Go.Proofs.Ytmokcfmlolohaaa
