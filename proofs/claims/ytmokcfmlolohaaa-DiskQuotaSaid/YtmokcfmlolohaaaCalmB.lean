/- A region walked by one schedule: append of bytes. -/
import Derived.Test.YtmokcfmlolohaaaCalm
import Derived.Test.YtmokcfmlolohaaaBytes
set_option linter.unusedVariables false
namespace Go.Proofs.Ytmokcfmlolohaaa
open Go.RowKit

section
variable {P : Program} {ops : Array Oper} {Q : Exit → Act → World → Prop} {S : World → Prop}
theorem walkS_appB {i : Nat} {s : List (Nat × Bool)} {a : Act} {w : World} {o : Oper} (d : Tmp) (x y : Operand) (t : TypeId) (ho : ops[i]? = some o)
    (hop : o.op = .call { callee := .builtin .append, args := #[x, y], argTypes := #[t, t] }) (hd : o.dst = some d) (hw : Region.wanted o (yielded ops a.tmps) = true)
    (E : TypeId) (ht : P.underlying t = some (.slice E)) (hin : (P.info? E).map (fun i => (i.zero, i.size, i.bytes)) = some (some (.int .u8 0), 1, 1))
    (base : Nat) (v : Value) (xs : List Nat) (hs : a.eval x = v) (hown : OwnB w base E v xs) (ad : Option Addr) (len cap : Nat) (ys : List Nat) (hx : a.eval y = .slice ad len cap) (hr : RowB w ad len cap ys)
    (n : Nat) (zs : List Nat) (hz : xs ++ ys = zs) (hn : zs.length = n) (hlen : n ≤ 140737488355328) (hbase : base ≤ w.heap.size)
    (h : ∀ a' cap' w', OwnB w' base E (.slice a' n cap') zs → RowB w' a' n cap' zs → w.grownBy w' v.ownBlock → (∀ k, (Value.slice a' n cap').ownBlock = some k → v.ownBlock = some k ∨ w.heap.size ≤ k) → S w' ∧ (S w' → walkS P ops Q S s (a.put (some d) (.slice a' n cap')) w')) :
    walkS P ops Q S ((i, false) :: s) a w := by
  refine ⟨o, ho, fun K' hK => ?_⟩
  rw [if_pos hw]
  have hl2 := hr.1
  obtain ⟨v', w', hrun, h1, h2, hpl⟩ := run_appendB (P := P) w t o.type E ht hin base v xs hown ad len cap ys hr (by have := congrArg List.length hz; simp at this; omega) hbase
  obtain ⟨a', cap', hv, hr', hp⟩ := h1.row
  rw [hz] at h1 hv hr'
  rw [hn] at hv hr'
  subst hv
  unfold Oper.wp execOp
  simp only [hop, resolve, invoke, builtin, Sem.run_bind, Sem.run_pure, Result.andThen_ok, List.map_toArray, List.map_cons, List.map_nil, hs, hx, hrun]
  obtain ⟨k1, k2⟩ := h a' cap' w' h1 hr' h2 hpl
  have k3 := hK.out _ _ k1 k2
  rw [← hd] at k3
  exact k3
end
end Go.Proofs.Ytmokcfmlolohaaa
