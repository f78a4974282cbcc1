/- The frame of the proof of PortsTells: what is left is the walk, its one hypothesis. -/
import Derived.Test.YthjdebcjfpokoaaArgs
import Derived.SizedLaws
set_option linter.unusedVariables false
namespace Go.Proofs.Ythjdebcjfpokoaa.portsTells
open Go.ChangeShapes Go.WideShapes Go.ChangeAt Go.RowKit

theorem own : ownKnob Try.prog.godebug = none := by kernel_rfl
theorem laidOut : laidOutB Try.prog = true := by kernel_rfl

def Walk : Prop := ∀ (H : Type) (enc : TypeId × Value → H) (W : World) (base : Nat) (v0 v1 v2 v3 v4 v5 v6 v7 v8 v9 : Value) (d0 d1 d2 d3 d4 d5 d6 d7 d8 d9 : DataW H) (p0 p1 p2 p3 p4 p5 p6 p7 p8 p9 : List MemPlace) (h0 : ArgIn enc Try.prog W base 43 v0 d0 p0) (h1 : ArgIn enc Try.prog W base 3 v1 d1 p1) (h2 : ArgIn enc Try.prog W base 3 v2 d2 p2) (h3 : ArgIn enc Try.prog W base 25 v3 d3 p3) (h4 : ArgIn enc Try.prog W base 24 v4 d4 p4) (h5 : ArgIn enc Try.prog W base 26 v5 d5 p5) (h6 : ArgIn enc Try.prog W base 5 v6 d6 p6) (h7 : ArgIn enc Try.prog W base 4 v7 d7 p7) (h8 : ArgIn enc Try.prog W base 3 v8 d8 p8) (h9 : ArgIn enc Try.prog W base 25 v9 d9 p9),
    Calls Try.prog 7 #[v0, v1, v2, v3, v4, v5, v6, v7, v8, v9] W fun e w' => e = .returned (.bool true) ∧ Below W.heap.size W w'

set_option maxRecDepth 100000 in
theorem lifted (walk : Walk) (os : Os) (started : os.Started) (H : Type) (enc : TypeId × Value → H) :
    ReturnsInHanded {} Try.checked os 7 .any (Rows.portsTellsSpec.pre6 enc Try.prog Try.f7 Rows.portsTellsRow.domain false) (Rows.portsTellsSpec.post enc Try.prog Try.f7 false true false false) := by
  refine returnsInHanded_of_change_sized (C := Try.checked) own started (by kernel_rfl) Try.func7
    (ChangeSpec.witness6 (enc := enc) (C := Try.checked) false ⟨#[], #[.agg #[.int .u32 0, .int .u32 0, .int .i64 0, .int .i64 0, .int .i64 0], .int .i64 0, .int .i64 0, .slice none 0 0, .agg #[.int .i64 0, .int .i64 0, .int .i64 0, .int .i64 0, .int .i64 0, .int .i64 0, .int .i64 0, .int .i64 0, .int .i64 0, .int .u32 0, .int .u32 0], .slice none 0 0, .int .u8 0, .bool false, .int .i64 0, .slice none 0 0], []⟩ 8 (by kernel_rfl) (by kernel_rfl) (by kernel_rfl) (by kernel_rfl)) ?_
  intro W base args ds gs before hval0 hW hcnd hsz0 _
  have hval : ∀ (j : Nat) t v, Try.f7.params[j]? = some t → args[j]? = some v → Value.okWide Try.prog W .any base t v := hval0
  have hW' := hW
  obtain ⟨p, q, hA0, hV, rfl, hfz, hnd⟩ := hW
  have hA : DataW.TrodAll enc Try.prog W 0 (fun _ => true) true Try.f7.params.toList args.toList ds p := hA0
  have hsz : (DataW.weightsEach Try.prog (Try.f7.params.toList ++ Rows.portsTellsSpec.plain.varTypes Try.prog) (ds ++ gs)).all (· ≤ reachBytes) = true := hsz0
  rw [Try.params7] at hA hval hsz
  obtain ⟨v0, vs0, d0, ds0, p0, q0, hargs, rfl, rfl, h0, r0⟩ := trodAll_cons hA
  obtain ⟨v1, vs1, d1, ds1, p1, q1, rfl, rfl, rfl, h1, r1⟩ := trodAll_cons r0
  obtain ⟨v2, vs2, d2, ds2, p2, q2, rfl, rfl, rfl, h2, r2⟩ := trodAll_cons r1
  obtain ⟨v3, vs3, d3, ds3, p3, q3, rfl, rfl, rfl, h3, r3⟩ := trodAll_cons r2
  obtain ⟨v4, vs4, d4, ds4, p4, q4, rfl, rfl, rfl, h4, r4⟩ := trodAll_cons r3
  obtain ⟨v5, vs5, d5, ds5, p5, q5, rfl, rfl, rfl, h5, r5⟩ := trodAll_cons r4
  obtain ⟨v6, vs6, d6, ds6, p6, q6, rfl, rfl, rfl, h6, r6⟩ := trodAll_cons r5
  obtain ⟨v7, vs7, d7, ds7, p7, q7, rfl, rfl, rfl, h7, r7⟩ := trodAll_cons r6
  obtain ⟨v8, vs8, d8, ds8, p8, q8, rfl, rfl, rfl, h8, r8⟩ := trodAll_cons r7
  obtain ⟨v9, vs9, d9, ds9, p9, q9, rfl, rfl, rfl, h9, r9⟩ := trodAll_cons r8
  obtain ⟨rfl, rfl, rfl⟩ := trodAll_nil r9
  obtain rfl : args = #[v0, v1, v2, v3, v4, v5, v6, v7, v8, v9] := by cases args; simp_all
  obtain ⟨rfl, rfl⟩ := trodVars_none hV
  have lt0 : ∀ x ∈ p0, x.block < W.heap.size := by obtain ⟨m, hm⟩ := h0; exact DataW.trod_lt m _ _ _ hm
  have lt1 : ∀ x ∈ p1, x.block < W.heap.size := by obtain ⟨m, hm⟩ := h1; exact DataW.trod_lt m _ _ _ hm
  have lt2 : ∀ x ∈ p2, x.block < W.heap.size := by obtain ⟨m, hm⟩ := h2; exact DataW.trod_lt m _ _ _ hm
  have lt3 : ∀ x ∈ p3, x.block < W.heap.size := by obtain ⟨m, hm⟩ := h3; exact DataW.trod_lt m _ _ _ hm
  have lt4 : ∀ x ∈ p4, x.block < W.heap.size := by obtain ⟨m, hm⟩ := h4; exact DataW.trod_lt m _ _ _ hm
  have lt5 : ∀ x ∈ p5, x.block < W.heap.size := by obtain ⟨m, hm⟩ := h5; exact DataW.trod_lt m _ _ _ hm
  have lt6 : ∀ x ∈ p6, x.block < W.heap.size := by obtain ⟨m, hm⟩ := h6; exact DataW.trod_lt m _ _ _ hm
  have lt7 : ∀ x ∈ p7, x.block < W.heap.size := by obtain ⟨m, hm⟩ := h7; exact DataW.trod_lt m _ _ _ hm
  have lt8 : ∀ x ∈ p8, x.block < W.heap.size := by obtain ⟨m, hm⟩ := h8; exact DataW.trod_lt m _ _ _ hm
  have lt9 : ∀ x ∈ p9, x.block < W.heap.size := by obtain ⟨m, hm⟩ := h9; exact DataW.trod_lt m _ _ _ hm
  have a0 : ArgIn enc Try.prog W base 43 v0 d0 p0 := ⟨hval 0 _ v0 rfl rfl, h0, fun n hn => by have := List.all_eq_true.1 hsz _ (DataW.weights_mem_each (j := 0) rfl rfl n hn); simpa using this⟩
  have a1 : ArgIn enc Try.prog W base 3 v1 d1 p1 := ⟨hval 1 _ v1 rfl rfl, h1, fun n hn => by have := List.all_eq_true.1 hsz _ (DataW.weights_mem_each (j := 1) rfl rfl n hn); simpa using this⟩
  have a2 : ArgIn enc Try.prog W base 3 v2 d2 p2 := ⟨hval 2 _ v2 rfl rfl, h2, fun n hn => by have := List.all_eq_true.1 hsz _ (DataW.weights_mem_each (j := 2) rfl rfl n hn); simpa using this⟩
  have a3 : ArgIn enc Try.prog W base 25 v3 d3 p3 := ⟨hval 3 _ v3 rfl rfl, h3, fun n hn => by have := List.all_eq_true.1 hsz _ (DataW.weights_mem_each (j := 3) rfl rfl n hn); simpa using this⟩
  have a4 : ArgIn enc Try.prog W base 24 v4 d4 p4 := ⟨hval 4 _ v4 rfl rfl, h4, fun n hn => by have := List.all_eq_true.1 hsz _ (DataW.weights_mem_each (j := 4) rfl rfl n hn); simpa using this⟩
  have a5 : ArgIn enc Try.prog W base 26 v5 d5 p5 := ⟨hval 5 _ v5 rfl rfl, h5, fun n hn => by have := List.all_eq_true.1 hsz _ (DataW.weights_mem_each (j := 5) rfl rfl n hn); simpa using this⟩
  have a6 : ArgIn enc Try.prog W base 5 v6 d6 p6 := ⟨hval 6 _ v6 rfl rfl, h6, fun n hn => by have := List.all_eq_true.1 hsz _ (DataW.weights_mem_each (j := 6) rfl rfl n hn); simpa using this⟩
  have a7 : ArgIn enc Try.prog W base 4 v7 d7 p7 := ⟨hval 7 _ v7 rfl rfl, h7, fun n hn => by have := List.all_eq_true.1 hsz _ (DataW.weights_mem_each (j := 7) rfl rfl n hn); simpa using this⟩
  have a8 : ArgIn enc Try.prog W base 3 v8 d8 p8 := ⟨hval 8 _ v8 rfl rfl, h8, fun n hn => by have := List.all_eq_true.1 hsz _ (DataW.weights_mem_each (j := 8) rfl rfl n hn); simpa using this⟩
  have a9 : ArgIn enc Try.prog W base 25 v9 d9 p9 := ⟨hval 9 _ v9 rfl rfl, h9, fun n hn => by have := List.all_eq_true.1 hsz _ (DataW.weights_mem_each (j := 9) rfl rfl n hn); simpa using this⟩
  clear hA0 hval0 hval hsz hsz0
  refine (walk H enc W base v0 v1 v2 v3 v4 v5 v6 v7 v8 v9 d0 d1 d2 d3 d4 d5 d6 d7 d8 d9 p0 p1 p2 p3 p4 p5 p6 p7 p8 p9 a0 a1 a2 a3 a4 a5 a6 a7 a8 a9).mono fun e W' ⟨he, bel⟩ => ?_
  subst he
  exact ⟨_, rfl, _, _, _, [], _, [], hW', trodAll_mk1 (shut_bool Try.underlying4 _), (trodAll_cons_mk (Below.trod laidOut (by kernel_rfl) (of_decide_eq_true (by kernel_rfl)) h0 bel lt0) (trodAll_cons_mk (Below.trod laidOut (by kernel_rfl) (of_decide_eq_true (by kernel_rfl)) h1 bel lt1) (trodAll_cons_mk (Below.trod laidOut (by kernel_rfl) (of_decide_eq_true (by kernel_rfl)) h2 bel lt2) (trodAll_cons_mk (Below.trod laidOut (by kernel_rfl) (of_decide_eq_true (by kernel_rfl)) h3 bel lt3) (trodAll_cons_mk (Below.trod laidOut (by kernel_rfl) (of_decide_eq_true (by kernel_rfl)) h4 bel lt4) (trodAll_cons_mk (Below.trod laidOut (by kernel_rfl) (of_decide_eq_true (by kernel_rfl)) h5 bel lt5) (trodAll_cons_mk (Below.trod laidOut (by kernel_rfl) (of_decide_eq_true (by kernel_rfl)) h6 bel lt6) (trodAll_cons_mk (Below.trod laidOut (by kernel_rfl) (of_decide_eq_true (by kernel_rfl)) h7 bel lt7) (trodAll_cons_mk (Below.trod laidOut (by kernel_rfl) (of_decide_eq_true (by kernel_rfl)) h8 bel lt8) (trodAll_cons_mk (Below.trod laidOut (by kernel_rfl) (of_decide_eq_true (by kernel_rfl)) h9 bel lt9) trodAll_mk0)))))))))), rfl, bel.frame _, fun h => by cases h⟩

theorem over (walk : Walk) : Rows.portsTellsRow.holds Try.pinned (OpenSpec.ofChange Rows.portsTellsSpec) :=
  OpenClaim.holds_of_wide 7 Try.f7 rfl rfl rfl rfl rfl rfl rfl ⟨rfl, rfl, rfl, rfl, rfl⟩ rfl rfl rfl rfl rfl (by kernel_rfl) Try.func7 (by kernel_rfl)
    (of_decide_eq_true (by kernel_rfl)) (by unfold Func.isWrapper; first | (rw [if_pos (by decide +kernel)]; kernel_rfl) | (rw [if_neg (by decide +kernel)]; exact ⟨rfl, rfl⟩))
    (fun os started H enc _ => lifted walk os started H enc)
theorem said (walk : Walk) : Rows.PortsTellsSaid := over walk
end Go.Proofs.Ythjdebcjfpokoaa.portsTells
