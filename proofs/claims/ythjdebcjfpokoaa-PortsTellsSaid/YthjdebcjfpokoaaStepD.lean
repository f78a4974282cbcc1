/- append of bytes as one step of a region that draws its order. -/
import Derived.Test.YthjdebcjfpokoaaBytes
import Derived.Deep.RegionLaw
set_option linter.unusedVariables false
namespace Go.Proofs.Ythjdebcjfpokoaa
open Go.RowKit

theorem step_appendB {P : Program} {ops : Array Oper} {o : Oper} {a : Act} {w : World} {K : Act → World → Prop} {Q : Exit → Act → World → Prop} {X : Prop} (hg : o.guard = none) (s x : Operand) (t : TypeId)
    (ho : o.op = .call { callee := .builtin .append, args := #[s, x], argTypes := #[t, t] })
    (E : TypeId) (ht : P.underlying t = some (.slice E)) (hin : (P.info? E).map (fun i => (i.zero, i.size, i.bytes)) = some (some (.int .u8 0), 1, 1))
    (base : Nat) (v : Value) (xs : List Nat) (hs : a.eval s = v) (hown : OwnB w base E v xs) (ad : Option Addr) (len cap : Nat) (ys : List Nat) (hx : a.eval x = .slice ad len cap) (hr : RowB w ad len cap ys)
    (n : Nat) (zs : List Nat) (hz : xs ++ ys = zs) (hn : zs.length = n) (hlen : n ≤ 140737488355328) (hbase : base ≤ w.heap.size)
    (h : ∀ a' cap' w', OwnB w' base E (.slice a' n cap') zs → RowB w' a' n cap' zs → w.grownBy w' v.ownBlock → (∀ k, (Value.slice a' n cap').ownBlock = some k → v.ownBlock = some k ∨ w.heap.size ≤ k) → K (a.put o.dst (.slice a' n cap')) w') :
    if Region.wanted o (yielded ops a.tmps) = true then Oper.wp P o a w K Q else X := by
  have hw : Region.wanted o (yielded ops a.tmps) = true := by simp [Region.wanted, hg]
  rw [if_pos hw]
  have hl2 := hr.1
  obtain ⟨v', w', hrun, h1, h2, hpl⟩ := run_appendB (P := P) w t o.type E ht hin base v xs hown ad len cap ys hr (by have := congrArg List.length hz; simp at this; omega) hbase
  obtain ⟨a', cap', hv, hr', hp⟩ := h1.row
  rw [hz] at h1 hv hr'
  rw [hn] at hv hr'
  subst hv
  unfold Oper.wp execOp
  simp only [ho, resolve, invoke, builtin, Sem.run_bind, Sem.run_pure, Result.andThen_ok, List.map_toArray, List.map_cons, List.map_nil, hs, hx, hrun]
  exact h a' cap' w' h1 hr' h2 hpl
end Go.Proofs.Ythjdebcjfpokoaa
