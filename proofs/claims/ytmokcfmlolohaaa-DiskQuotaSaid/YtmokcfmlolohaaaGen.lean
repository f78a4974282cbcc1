/- Small words of many walks: rows of a constant's bytes, new rows, what a touch leaves. -/
import Derived.Test.YtmokcfmlolohaaaOctC
set_option linter.unusedVariables false
namespace Go.Proofs.Ytmokcfmlolohaaa
open Go.RowKit

/-- A row that was just laid, with the mark of a constant behind it. -/
theorem row_mark (w : World) (cs : Array Value) (m : Nat × Nat) (n : Nat) (xs : List Nat) (hcs : cs.toList = xs.map cellB) (hn : xs.length = n) (hx : ∀ x ∈ xs, x < 256) (hs : n ≤ 281474976710656) :
    RowB (w.alloc (.cells cs 5 m)) (some ⟨w.heap.size, 0, none⟩) n n xs := by
  refine RowB.new w _ rfl cs _ m n xs hn hs hx (fun i hi => ?_)
  have := congrArg (fun l : List Value => l[i]?) hcs
  simp only [List.getElem?_map, List.getElem?_eq_getElem hi] at this
  simpa [cellB] using this
theorem Touch.under {w w' : World} {B : Nat} (t : Touch w w' (fun _ => False)) (h : B ≤ w.heap.size) : Below B w w' := t.below (fun _ _ h => h.elim) h
theorem FreshB.row' {w w' : World} {a : Option Addr} {n c : Nat} {xs : List Nat} (h : FreshB w w' (.slice a n c) xs) : xs.length = n ∧ RowB w' a n c xs := by
  obtain ⟨a', c', hv, hr⟩ := h.row
  simp only [Value.slice.injEq] at hv
  obtain ⟨rfl, hn, rfl⟩ := hv
  rw [hn]
  exact ⟨rfl, hr⟩
theorem fresh_nil {w w' : World} (t : Touch w w' (fun _ => False)) : FreshB w w' (.slice none 0 0) [] := ⟨OwnB.nil _ _ _, t⟩

/-- A new row stays new where blocks are touched that are the call's own and were there before it. -/
theorem FreshB.past {w w7 w8 w9 : World} {v : Value} {ys : List Nat} {S : Nat → Prop} (h : FreshB w7 w8 v ys) (T : Touch w w7 (fun _ => False)) (t : Touch w8 w9 S) (hS : ∀ k, S k → w.heap.size ≤ k ∧ k < w7.heap.size) : FreshB w w9 v ys := by
  obtain ⟨ho, ht⟩ := h
  have hs := T.size
  refine ⟨(ho.base (fun k hk => ?_)).touch t (fun k hk hs2 => ?_), (T.trans ht (fun _ _ h => h)).trans t (fun k hk h => by have := (hS k h).1; omega)⟩
  · have := (ho.own.lt k hk).1; omega
  · have := (ho.own.lt k hk).1; have := (hS k hs2).2; omega
end Go.Proofs.Ytmokcfmlolohaaa
