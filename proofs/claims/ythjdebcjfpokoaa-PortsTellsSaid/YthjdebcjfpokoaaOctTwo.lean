/- A writer, and a row of its own beside it. -/
import Derived.Test.YthjdebcjfpokoaaOctRef
set_option linter.unusedVariables false
namespace Go.Proofs.Ythjdebcjfpokoaa
open Go.RowKit

/-- A writer that has put xs, and beside it a row of one's own, ys. -/
structure Two (w : World) (base G : Nat) (v vw : Value) (xs ys : List Nat) : Prop where
  wr : WrB w base G v xs
  own : OwnB w base 5 vw ys
  apG : vw.ownBlock ≠ some G
  ap : ∀ k, v.ownBlock = some k → vw.ownBlock ≠ some k

theorem Two.touch {w w' : World} {base G : Nat} {v vw : Value} {xs ys : List Nat} {S : Nat → Prop} (h : Two w base G v vw xs ys) (t : Touch w w' S) (hG : ¬ S G) (h1 : ∀ k, v.ownBlock = some k → ¬ S k) (h2 : ∀ k, vw.ownBlock = some k → ¬ S k) : Two w' base G v vw xs ys :=
  ⟨h.wr.touch t hG h1, h.own.touch t h2, h.apG, h.ap⟩
theorem Two.still {w w' : World} {base G : Nat} {v vw : Value} {xs ys : List Nat} (h : Two w base G v vw xs ys) (t : Touch w w' (fun _ => False)) : Two w' base G v vw xs ys :=
  h.touch t (fun h => h) (fun _ _ h => h) (fun _ _ h => h)
theorem Two.lt {w : World} {base G : Nat} {v vw : Value} {xs ys : List Nat} (h : Two w base G v vw xs ys) : ∀ k, vw.ownBlock = some k → k < w.heap.size := fun k hk => (h.own.own.lt k hk).2
theorem Two.put {w w' : World} {base G : Nat} {v vw : Value} {xs ys zs : List Nat} (h : Two w base G v vw xs ys) (p : PutB base G v w zs w') :
    ∃ v', Two w' base G v' vw zs ys ∧ Touch w w' (fun k => k = G ∨ v.ownBlock = some k) := by
  obtain ⟨v', hw, t, hv⟩ := p
  refine ⟨v', ⟨hw, h.own.touch t ?_, h.apG, ?_⟩, t⟩
  · rintro k hk (rfl | hk2)
    · exact h.apG hk
    · exact h.ap k hk2 hk
  · intro k hk hk2
    rcases hv k hk with h1 | h1
    · exact h.ap k h1 hk2
    · have := h.lt k hk2; omega
theorem Two.add {w w' : World} {base G : Nat} {v vw vw' : Value} {xs ys zs : List Nat} (h : Two w base G v vw xs ys) (ho : OwnB w' base 5 vw' zs) (hg : w.grownBy w' vw.ownBlock) (hp : ∀ k, vw'.ownBlock = some k → vw.ownBlock = some k ∨ w.heap.size ≤ k) :
    Two w' base G v vw' xs zs := by
  have t : Touch w w' (fun k => vw.ownBlock = some k) := (Touch.refl _ _).grown hg (fun k hk _ => hk)
  refine ⟨h.wr.touch t h.apG h.ap, ho, ?_, ?_⟩
  · intro hk
    rcases hp G hk with h1 | h1
    · exact h.apG h1
    · have := h.wr.foot.1; omega
  · intro k hk hk2
    rcases hp k hk2 with h1 | h1
    · exact h.ap k hk h1
    · have := (h.wr.foot.2 k hk).2; omega
/-- A row that was just laid, its length written out. -/
theorem row_lit (w : World) (cs : Array Value) (n : Nat) (xs : List Nat) (hcs : cs.toList = xs.map cellB) (hn : xs.length = n) (hx : ∀ x ∈ xs, x < 256) (hs : n ≤ 281474976710656) :
    RowB (w.alloc (.cells cs 5)) (some ⟨w.heap.size, 0, none⟩) n n xs := by
  obtain ⟨a, c, hv, hr, _⟩ := (OwnB.lit w _ rfl _ (Nat.le_refl _) 5 cs n xs hcs hn hx hs).row
  subst hn
  simp only [Value.slice.injEq, true_and] at hv
  obtain ⟨rfl, rfl⟩ := hv
  exact hr
theorem be_one (n : Int) : [Value.int .u8 (n % 256)] = (beB 1 (u64N n)).map cellB := by
  simp [beB, List.range_succ, cellB, u64N]
  omega
end Go.Proofs.Ythjdebcjfpokoaa
