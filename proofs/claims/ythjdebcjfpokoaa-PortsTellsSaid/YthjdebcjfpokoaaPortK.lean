/- A tuple that came in; may it be? -/
import Derived.Test.YthjdebcjfpokoaaPortTup
import Derived.Test.YthjdebcjfpokoaaIpArgs
set_option linter.unusedVariables false
namespace Go.Proofs.Ythjdebcjfpokoaa
open Go.ChangeShapes Go.WideShapes Go.ChangeAt Go.RowKit

/-- A tuple as an argument. -/
structure KArg where
  src : Int
  dst : Int
  proto : Int
  sport : Int
  dport : Int
structure KArg.Ok (k : KArg) : Prop where
  src : 0 ≤ k.src ∧ k.src ≤ 4294967295
  dst : 0 ≤ k.dst ∧ k.dst ≤ 4294967295
  proto : isI64 k.proto
  sport : isI64 k.sport
  dport : isI64 k.dport
def kcs (k : KArg) : Array Value := #[.int .u32 k.src, .int .u32 k.dst, .int .i64 k.proto, .int .i64 k.sport, .int .i64 k.dport]

theorem ArgIn.tuple {H : Type} {enc : TypeId × Value → H} {W : World} {base : Nat} {v : Value} {d : DataW H} {p : List MemPlace} (h : ArgIn enc Try.prog W base 43 v d p) :
    ∃ a : KArg, v = .agg (kcs a) ∧ a.Ok := by
  obtain ⟨cs, rfl, hl, hf⟩ := h.struct Try.underlying43
  have hc : Try.prog.cellsOf 43 = 5 := by kernel_rfl
  have ci : Try.prog.cellsOf 3 = 1 := by kernel_rfl
  have cu : Try.prog.cellsOf 22 = 1 := by kernel_rfl
  rw [hc] at hl
  obtain ⟨a0, a1, a2, a3, a4, rfl⟩ := five hl
  have I : ∀ u, (∃ fuel y, DataW.trod enc Try.prog W 0 (fun _ => true) true fuel 3 [u] = some y) → ∃ x : Int, u = .int .i64 x ∧ isI64 x := by
    rintro u ⟨fuel, y, hy⟩
    obtain ⟨x, hx, hw⟩ := oneInt Try.underlying3 hy
    exact ⟨x, hx, bounds_i64 hw⟩
  have U : ∀ u, (∃ fuel y, DataW.trod enc Try.prog W 0 (fun _ => true) true fuel 22 [u] = some y) → ∃ x : Int, u = .int .u32 x ∧ 0 ≤ x ∧ x ≤ 4294967295 := by
    rintro u ⟨fuel, y, hy⟩
    obtain ⟨x, hx, hw⟩ := oneInt Try.underlying22 hy
    exact ⟨x, hx, bounds_u32 hw⟩
  obtain ⟨x0, rfl, o0⟩ := U a0 (by
    have q : ∃ fuel y, DataW.trod enc Try.prog W 0 (fun _ => true) true fuel 22 ((([a0, a1, a2, a3, a4] : List Value).drop 0).take (Try.prog.cellsOf 22)) = some y := hf 0 _ rfl
    rw [cu] at q; exact q)
  obtain ⟨x1, rfl, o1⟩ := U a1 (by
    have q : ∃ fuel y, DataW.trod enc Try.prog W 0 (fun _ => true) true fuel 22 ((([.int .u32 x0, a1, a2, a3, a4] : List Value).drop 1).take (Try.prog.cellsOf 22)) = some y := hf 1 _ rfl
    rw [cu] at q; exact q)
  obtain ⟨x2, rfl, o2⟩ := I a2 (by
    have q : ∃ fuel y, DataW.trod enc Try.prog W 0 (fun _ => true) true fuel 3 ((([.int .u32 x0, .int .u32 x1, a2, a3, a4] : List Value).drop 2).take (Try.prog.cellsOf 3)) = some y := hf 2 _ rfl
    rw [ci] at q; exact q)
  obtain ⟨x3, rfl, o3⟩ := I a3 (by
    have q : ∃ fuel y, DataW.trod enc Try.prog W 0 (fun _ => true) true fuel 3 ((([.int .u32 x0, .int .u32 x1, .int .i64 x2, a3, a4] : List Value).drop 3).take (Try.prog.cellsOf 3)) = some y := hf 3 _ rfl
    rw [ci] at q; exact q)
  obtain ⟨x4, rfl, o4⟩ := I a4 (by
    have q : ∃ fuel y, DataW.trod enc Try.prog W 0 (fun _ => true) true fuel 3 ((([.int .u32 x0, .int .u32 x1, .int .i64 x2, .int .i64 x3, a4] : List Value).drop 4).take (Try.prog.cellsOf 3)) = some y := hf 4 _ rfl
    rw [ci] at q; exact q)
  exact ⟨⟨x0, x1, x2, x3, x4⟩, rfl, o0, o1, o2, o3, o4⟩

def mayB (k : KArg) : Bool := decide ((k.proto = 6 ∨ k.proto = 17) ∧ 0 ≤ k.sport ∧ k.sport ≤ 65535 ∧ 0 ≤ k.dport ∧ k.dport ≤ 65535)
set_option maxHeartbeats 4000000 in
theorem may_any (k : KArg) (w : World) :
    Calls Try.prog 28 #[.agg (kcs k)] w fun e w' => e = .returned (.bool (mayB k)) ∧ Touch w w' (fun _ => False) := by
  have hm : mayB k = true ↔ ((k.proto = 6 ∨ k.proto = 17) ∧ 0 ≤ k.sport ∧ k.sport ≤ 65535 ∧ 0 ≤ k.dport ∧ k.dport ≤ 65535) := by unfold mayB; exact decide_eq_true_iff
  have HM := Lib.hid hm
  clear hm
  generalize mayB k = m at *
  simp only [kcs]
  go_enter Try.func28, Try.ntmps28
  go_wp2
  all_goals (go_ret; refine ⟨?_, (Touch.refl _ _).alloc _⟩; refine congrArg (fun b => Ending.returned (Value.bool b)) (?_ : _ = m); rw [Bool.eq_iff_iff, HM.out]; clear HM; (first | (simp_all; done) | (simp_all; omega) | trace_state))
end Go.Proofs.Ythjdebcjfpokoaa
