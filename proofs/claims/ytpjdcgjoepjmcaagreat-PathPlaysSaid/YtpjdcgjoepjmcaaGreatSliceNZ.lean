import Derived.Test.YtpjdcgjoepjmcaaGreatGAZ
import Derived.Laws.Slices
set_option linter.unusedVariables false
namespace Go.Proofs.YtpjdcgjoepjmcaaGreat
open Go.RowKit
theorem size1 (w : World) : (sizeOf 5).run Tryz.prog w = .ok 1 w := by kernel_rfl
theorem elemB : Tryz.prog.elem 38 = 5 := by kernel_rfl
theorem undB : Tryz.prog.underlying 38 = some (.slice (Tryz.prog.elem 38)) := by rw [elemB]; exact Tryz.underlying38
structure Part (a : Option Addr) (len cap l h : Nat) (A : Option Addr) (C : Nat) : Prop where
 row : ∀ w xs, RowB w a len cap xs → h ≤ len → RowB w A (h - l) C ((xs.take h).drop l)
 place : ∀ x, A = some x → ∃ y, a = some y ∧ x.block = y.block
 cap : C = cap - l
theorem part_of (a : Option Addr) (len cap l h : Nat) (h1 : l ≤ h) (h2 : h ≤ cap) : Part a len cap l h (if cap = l then a else a.map (·.add (l * 1))) (cap - l) := by
 refine ⟨fun w xs hr hh => ?_, fun x hx => ?_, rfl⟩
 ·have hr2 := hr.take h hh
  by_cases hc : cap = l
  ·rw [if_pos hc]
   have : h = l := by omega
   subst this
   have e : (xs.take h).drop h = [] := List.drop_of_length_le (by simp; omega)
   rw [e, Nat.sub_self]
   exact RowB.nil _ _ _ (by have := hr.2.2.1; omega)
  ·rw [if_neg hc, Nat.mul_one]
   exact hr2.dropMap l h1
 ·by_cases hc : cap = l
  ·rw [if_pos hc] at hx; exact ⟨x, hx, rfl⟩
  ·rw [if_neg hc] at hx
   cases a with
   | none => simp at hx
   | some y =>
     simp only [Option.map_some, Option.some.injEq] at hx
     exact ⟨y, rfl, by rw [← hx]; unfold Addr.add; split <;> rfl⟩
theorem slice_lh (a : Option Addr) (len cap : Nat) (L H : Int) (l h : Nat) (hL : L = l) (hH : H = h) (h1 : l ≤ h) (h2 : h ≤ cap) :
 ∃ A C, (∀ w, (Instr.sliceAt 38 (.slice a len cap) (some (.int .i64 L)) (some (.int .i64 H)) none).run Tryz.prog w = .ok (.slice A (h - l) C) w) ∧ Part a len cap l h A C := by
 refine ⟨_, _, fun w => ?_, part_of a len cap l h h1 h2⟩
 subst hL; subst hH
 rw [run_sliceAt_slice w _ _ _ _ _ undB, run_slice_lh w _ a len cap undB .i64 .i64 _ _ (by omega) (by omega) (by omega), elemB, size1]
 simp [sliced]
theorem slice_l (a : Option Addr) (len cap : Nat) (L : Int) (l : Nat) (hL : L = l) (h1 : l ≤ len) (h2 : len ≤ cap) :
 ∃ A C, (∀ w, (Instr.sliceAt 38 (.slice a len cap) (some (.int .i64 L)) none none).run Tryz.prog w = .ok (.slice A (len - l) C) w) ∧ Part a len cap l len A C := by
 refine ⟨_, _, fun w => ?_, part_of a len cap l len h1 h2⟩
 subst hL
 rw [run_sliceAt_slice w _ _ _ _ _ undB, run_slice_l w _ a len cap undB .i64 _ (by omega) (by omega), elemB, size1]
 simp [sliced]
end Go.Proofs.YtpjdcgjoepjmcaaGreat
