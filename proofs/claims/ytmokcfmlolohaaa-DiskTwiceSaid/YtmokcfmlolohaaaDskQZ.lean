/- A disk's bytes under appends alone: never more than its quota. -/
import Derived.Test.YtmokcfmlolohaaaDskAwkZ
import Derived.Test.YtmokcfmlolohaaaDskSameZ
set_option linter.unusedVariables false
set_option linter.unusedSimpArgs false
namespace Go.Proofs.Ytmokcfmlolohaaa
open Go.RowKit

theorem enter_dnames (a : Value) (w : World) : (callFunc 29 #[a]).run Try.prog w = .ok (.enter 29 #[a]) w := by kernel_rfl
def lenF (F : Nat → DkFc) (x : NmD) : Nat := match x.f with | some g => (F g).b.length | none => 0
theorem szF_cons (F : Nat → DkFc) (x : NmD) (N : List NmD) : szF F (x :: N) = lenF F x + szF F N := by unfold szF lenF; rw [List.map_cons, List.sum_cons]; rfl
theorem lenF_put {F : Nat → DkFc} {g : Nat} {v : DkFc} {x : NmD} (h : x.f ≠ some g) : lenF (fPut F g v) x = lenF F x := by
  unfold lenF
  cases e : x.f with
  | none => rfl
  | some k =>
    simp only
    rw [fPut_ne _ _ (fun e2 => h (by rw [e, e2]))]
theorem lenF_at {F : Nat → DkFc} {g : Nat} {v : DkFc} {x : NmD} (h : x.f = some g) : lenF (fPut F g v) x = v.b.length := by
  unfold lenF
  rw [h]
  simp only
  rw [fPut_same]
theorem szF_put_none {F : Nat → DkFc} {g : Nat} {v : DkFc} : ∀ {N : List NmD}, (∀ x ∈ N, x.f ≠ some g) → szF (fPut F g v) N = szF F N
  | [], _ => rfl
  | x :: N, h => by
    rw [szF_cons, szF_cons, lenF_put (h x List.mem_cons_self), szF_put_none (fun y hy => h y (List.mem_cons_of_mem _ hy))]
theorem szF_put_at {F : Nat → DkFc} {g : Nat} {v : DkFc} : ∀ {N : List NmD}, (N.map NmD.f).Nodup → some g ∈ N.map NmD.f → szF (fPut F g v) N + (F g).b.length = szF F N + v.b.length
  | [], _, h => by cases h
  | x :: N, hn, h => by
    rw [List.map_cons, List.nodup_cons] at hn
    rw [szF_cons, szF_cons]
    rw [List.map_cons, List.mem_cons] at h
    by_cases e : x.f = some g
    · have h2 : ∀ y ∈ N, y.f ≠ some g := fun y hy he => hn.1 (by rw [e, ← he]; exact List.mem_map.2 ⟨y, hy, rfl⟩)
      rw [lenF_at e, szF_put_none h2]
      have h3 : lenF F x = (F g).b.length := by unfold lenF; rw [e]
      omega
    · have h4 : some g ∈ N.map NmD.f := by
        rcases h with h | h
        · exact absurd h.symm e
        · exact h
      have := szF_put_at (F := F) (v := v) hn.2 h4
      rw [lenF_put e]
      omega
theorem delN_same {N : List NmD} {n : ByteArray} (h : hasN N n = false) : delN N n = N := by
  unfold delN
  rw [List.filter_eq_self]
  intro x hx
  have h2 : ¬ n ∈ N.map NmD.n := fun h3 => by rw [(hasN_iff _ _).2 h3] at h; cases h
  rw [Bool.not_eq_true', decide_eq_false_iff_not]
  exact fun e => h2 (e ▸ List.mem_map.2 ⟨x, hx, rfl⟩)
theorem neI_same (a b : Int) (h : a = b) (x y : Operand) (W : World) :
    (do eqGuard BinOp.neq 3 x y (.int .i64 a) (.int .i64 b); binOp BinOp.neq 3 (.int .i64 a) (.int .i64 b) : Sem Value).run Try.prog W = .ok (.bool false) W := by
  subst h
  go_simp
theorem gtI_no (a b : Int) (h : a ≤ b) (x y : Operand) (W : World) :
    (do eqGuard BinOp.gtr 3 x y (.int .i64 a) (.int .i64 b); binOp BinOp.gtr 3 (.int .i64 a) (.int .i64 b) : Sem Value).run Try.prog W = .ok (.bool false) W := by
  go_simp
theorem eqE_no (a : Int) (h : a ≠ 0) (x y : Operand) (W : World) :
    (do eqGuard BinOp.eql 42 x y (.int .i64 a) (.int .i64 0); binOp BinOp.eql 42 (.int .i64 a) (.int .i64 0) : Sem Value).run Try.prog W = .ok (.bool false) W := by
  have hb : (a == 0) = false := by simpa using h
  go_simp
theorem neE_yes (a : Int) (h : a ≠ 0) (x y : Operand) (W : World) :
    (do eqGuard BinOp.neq 42 x y (.int .i64 a) (.int .i64 0); binOp BinOp.neq 42 (.int .i64 a) (.int .i64 0) : Sem Value).run Try.prog W = .ok (.bool true) W := by
  have hb : (a == 0) = false := by simpa using h
  go_simp
end Go.Proofs.Ytmokcfmlolohaaa
