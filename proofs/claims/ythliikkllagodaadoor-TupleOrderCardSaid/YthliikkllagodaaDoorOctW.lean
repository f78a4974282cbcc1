/- What the calls of an octet.Writer answer and leave. -/
import Derived.Test.YthliikkllagodaaDoorHeap
import Derived.Deep.RegionLaw
import Derived.Deep.AppendLies
set_option linter.unusedVariables false
namespace Go.Proofs.YthliikkllagodaaDoor
open Go.RowKit

/-- The writer in block G has put the bytes xs; v is its slice. -/
structure WrB (w : World) (base : Nat) (G : Nat) (v : Value) (xs : List Nat) : Prop where
  head : ∃ T, w.heap[G]? = some (.cells #[v] T (0, 0))
  low : base ≤ G
  own : OwnB w base 5 v xs
  apart : v.ownBlock ≠ some G

set_option maxHeartbeats 1000000 in
theorem raw_nil (a : Option Addr) (len cap : Nat) (w : World) :
    Calls Tryd.prog 101 #[.pointer none, .slice a len cap] w fun e w' => e = .returned (.tuple #[]) ∧ w' = w := by
  go_enter Tryd.func101, Tryd.ntmps101
  go_wp2
  go_end0
  exact ⟨rfl, rfl⟩

theorem WrB.foot {w : World} {base G : Nat} {v : Value} {xs : List Nat} (h : WrB w base G v xs) : G < w.heap.size ∧ ∀ k, v.ownBlock = some k → base ≤ k ∧ k < w.heap.size :=
  ⟨by obtain ⟨T, e⟩ := h.head; exact (Array.getElem?_eq_some_iff.1 e).1, fun k hk => h.own.own.lt k hk⟩
theorem WrB.touch {w w' : World} {base G : Nat} {v : Value} {xs : List Nat} {S : Nat → Prop} (h : WrB w base G v xs) (t : Touch w w' S) (hG : ¬ S G) (hv : ∀ k, v.ownBlock = some k → ¬ S k) : WrB w' base G v xs :=
  ⟨h.head.imp fun _ e => (t.block G h.foot.1 hG).trans e, h.low, h.own.touch t hv, h.apart⟩
theorem WrB.drewN {w : World} {base G : Nat} {v : Value} {xs : List Nat} (h : WrB w base G v xs) (n : Nat) : WrB (w.drewN n) base G v xs := ⟨h.head, h.low, h.own.drewN n, h.apart⟩

/-- What a call leaves that puts bytes: the writer with more bytes, at most its own blocks touched. -/
def PutB (base G : Nat) (v : Value) (w : World) (zs : List Nat) (w' : World) : Prop :=
  ∃ v', WrB w' base G v' zs ∧ Touch w w' (fun k => k = G ∨ v.ownBlock = some k) ∧ (∀ k, v'.ownBlock = some k → v.ownBlock = some k ∨ w.heap.size ≤ k)

theorem PutB.refl {base G : Nat} {v : Value} {w : World} {xs : List Nat} (h : WrB w base G v xs) : PutB base G v w xs w :=
  ⟨v, h, Touch.refl _ _, fun k hk => .inl hk⟩
theorem PutB.trans {base G : Nat} {v v1 : Value} {w w1 w2 : World} {ys zs : List Nat} (h : WrB w1 base G v1 ys ∧ Touch w w1 (fun k => k = G ∨ v.ownBlock = some k) ∧ (∀ k, v1.ownBlock = some k → v.ownBlock = some k ∨ w.heap.size ≤ k))
    (g : PutB base G v1 w1 zs w2) : PutB base G v w zs w2 := by
  obtain ⟨h1, h2, h3⟩ := h
  obtain ⟨v2, g1, g2, g3⟩ := g
  refine ⟨v2, g1, h2.trans g2 (fun k hk ht => ?_), fun k hk => ?_⟩
  · rcases ht with rfl | ht
    · exact .inl rfl
    · rcases h3 k ht with h | h
      · exact .inr h
      · omega
  · rcases g3 k hk with h | h
    · exact h3 k h
    · exact .inr (Nat.le_trans h2.size h)

set_option maxHeartbeats 1000000 in
theorem raw_any (G : Nat) (v : Value) (xs : List Nat) (base : Nat) (a : Option Addr) (len cap : Nat) (ys : List Nat) (w : World) (h : WrB w base G v xs) (hr : RowB w a len cap ys) (hlen : xs.length + len ≤ 140737488355328) (hbase : base ≤ w.heap.size) :
    Calls Tryd.prog 101 #[.pointer (some ⟨G, 0, none⟩), .slice a len cap] w fun e w' => e = .returned (.tuple #[]) ∧ PutB base G v w (xs ++ ys) w' := by
  have hft := h.foot
  obtain ⟨⟨TW, hh⟩, hlow, hown, hap⟩ := h
  have hc := cell_of_cells hh 0
  have hf := free_of_cells hh 0
  simp at hc
  have hyl := hr.1
  obtain ⟨a0, c0, rfl, _, hp0⟩ := hown.row
  go_enter Tryd.func101, Tryd.ntmps101
  go_wp2_with (at_builtin; refine wpList_appendB rfl _ _ 25 rfl 5 Tryd.underlying25 infoB base (.slice a0 xs.length c0) xs rfl hown _ _ _ ys rfl hr (xs.length + len) (xs ++ ys) rfl (by simp; omega) hlen hbase base w (Below.refl _ _) (Nat.le_refl _) ?_; intro a3 c3 w3 hown3 hr3 hg3 hb3 hs3 hp3 hl3; have hh3 := (hg3.block G hft.1 (fun e => hap e.symm)).trans hh; have hc3 := cell_of_cells hh3 0; simp at hc3; have hf3 := free_of_cells hh3 0)
  go_end0
  refine ⟨rfl, .slice a3 (xs.length + len) c3, ?_⟩
  have hT : Touch w w3 (fun k => k = G ∨ (Value.slice a0 xs.length c0).ownBlock = some k) := (Touch.refl _ _).grown hg3 (fun k hk _ => .inr hk)
  have hne : ∀ k, (Value.slice a3 (xs.length + len) c3).ownBlock = some k → k ≠ G := by
    intro k hk e
    subst e
    rcases hl3 k hk with h | h
    · exact hap h
    · omega
  refine ⟨⟨⟨TW, heap_setCell_same w3 G 0 _ _ _ hh3⟩, hlow, ?_, fun e => hne G e rfl⟩, hT.setCell ⟨G, 0, none⟩ _ (fun _ => .inl rfl), hl3⟩
  exact hown3.touch (S := fun k => k = G) ((Touch.refl _ _).setCell ⟨G, 0, none⟩ _ (fun _ => rfl)) hne
end Go.Proofs.YthliikkllagodaaDoor
