/- What the calls of an octet.Writer answer and leave. -/
import Derived.Test.YtmokcfmlolohaaaHeap
import Derived.Deep.RegionLaw
import Derived.Deep.AppendLies
set_option linter.unusedVariables false
namespace Go.Proofs.Ytmokcfmlolohaaa
open Go.RowKit

/-- The writer in block G has put the bytes xs; v is its slice. -/
structure WrB (w : World) (base : Nat) (G : Nat) (v : Value) (xs : List Nat) : Prop where
  head : ∃ T, w.heap[G]? = some (.cells #[v] T (0, 0))
  low : base ≤ G
  own : OwnB w base 5 v xs
  apart : v.ownBlock ≠ some G

theorem WrB.foot {w : World} {base G : Nat} {v : Value} {xs : List Nat} (h : WrB w base G v xs) : G < w.heap.size ∧ ∀ k, v.ownBlock = some k → base ≤ k ∧ k < w.heap.size :=
  ⟨by obtain ⟨T, e⟩ := h.head; exact (Array.getElem?_eq_some_iff.1 e).1, fun k hk => h.own.own.lt k hk⟩
theorem WrB.touch {w w' : World} {base G : Nat} {v : Value} {xs : List Nat} {S : Nat → Prop} (h : WrB w base G v xs) (t : Touch w w' S) (hG : ¬ S G) (hv : ∀ k, v.ownBlock = some k → ¬ S k) : WrB w' base G v xs :=
  ⟨h.head.imp fun _ e => (t.block G h.foot.1 hG).trans e, h.low, h.own.touch t hv, h.apart⟩
theorem WrB.drewN {w : World} {base G : Nat} {v : Value} {xs : List Nat} (h : WrB w base G v xs) (n : Nat) : WrB (w.drewN n) base G v xs := ⟨h.head, h.low, h.own.drewN n, h.apart⟩

/-- What a call leaves that puts bytes: the writer with more bytes, at most its own blocks touched. -/
def PutB (base G : Nat) (v : Value) (w : World) (zs : List Nat) (w' : World) : Prop :=
  ∃ v', WrB w' base G v' zs ∧ Touch w w' (fun k => k = G ∨ v.ownBlock = some k) ∧ (∀ k, v'.ownBlock = some k → v.ownBlock = some k ∨ w.heap.size ≤ k)

theorem PutB.refl {base G : Nat} {v : Value} {w : World} {xs : List Nat} (h : WrB w base G v xs) : PutB base G v w xs w :=
  ⟨v, h, Touch.refl _ _, fun k hk => .inl hk⟩
theorem PutB.trans {base G : Nat} {v v1 : Value} {w w1 w2 : World} {ys zs : List Nat} (h : WrB w1 base G v1 ys ∧ Touch w w1 (fun k => k = G ∨ v.ownBlock = some k) ∧ (∀ k, v1.ownBlock = some k → v.ownBlock = some k ∨ w.heap.size ≤ k))
    (g : PutB base G v1 w1 zs w2) : PutB base G v w zs w2 := by
  obtain ⟨h1, h2, h3⟩ := h
  obtain ⟨v2, g1, g2, g3⟩ := g
  refine ⟨v2, g1, h2.trans g2 (fun k hk ht => ?_), fun k hk => ?_⟩
  · rcases ht with rfl | ht
    · exact .inl rfl
    · rcases h3 k ht with h | h
      · exact .inr h
      · omega
  · rcases g3 k hk with h | h
    · exact h3 k h
    · exact .inr (Nat.le_trans h2.size h)

end Go.Proofs.Ytmokcfmlolohaaa
