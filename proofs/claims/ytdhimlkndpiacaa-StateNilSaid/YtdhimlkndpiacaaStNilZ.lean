/- A state that there isn't. -/
import Derived.Test.YtdhimlkndpiacaaStAwakeZ
set_option linter.unusedVariables false
set_option linter.unusedSimpArgs false
namespace Go.Proofs.Ytdhimlkndpiacaa
open Go.RowKit

set_option maxRecDepth 20000 in
set_option maxHeartbeats 4000000 in
theorem stget_nil (w : World) (t : TupD) :
    Calls Try.prog 8 #[.pointer none, .agg (tcs t)] w fun e w' => e = .returned (.tuple #[.agg (fca noF), .bool false]) ∧ Touch w w' (fun _ => False) := by
  obtain ⟨W1, hW1⟩ : ∃ W, w.alloc (.cells (tcs t) 24) = W := ⟨_, rfl⟩
  have t1 : Touch w W1 (fun _ => False) := hW1 ▸ (Touch.refl w _).alloc _
  have s1 : W1.heap.size = w.heap.size + 1 := by rw [← hW1]; simp
  obtain ⟨W2, hW2⟩ : ∃ W, W1.alloc (.cells (fca noF) 26) = W := ⟨_, rfl⟩
  have t2 : Touch W1 W2 (fun _ => False) := hW2 ▸ (Touch.refl W1 _).alloc _
  have g2 : W2.heap[W1.heap.size]? = some (.cells (fca noF) 26 (0, 0)) := hW2 ▸ heap_alloc_new ..
  have HT2 := Lib.hid (t1.trans t2 (fun _ _ h => h))
  have HG2 := Lib.hid g2
  have HS1 := Lib.hid s1
  have HI8 := Lib.hid infoFl8
  have HW2 := Lib.hid (And.intro hW1 hW2)
  obtain ⟨k1, k2, k3, k4, k5⟩ := t
  simp only [tcs, fca, noF, noT] at *
  clear hW1 t1 s1 hW2 t2 g2
  go_enter Try.func8, Try.ntmps8
  go_upto_region 2 with (fail)
  rw [HW2.out.1, HW2.out.2]
  have h2 : W2.heap[w.heap.size + 1]? = _ := HS1.out ▸ HG2.out
  have HH := Lib.hid h2
  clear h2
  go_wp2_with (refine store_row rfl 26 (.tmp 4) (.tmp 10) rfl (w.heap.size + 1) _ rfl rfl _ _ HH.out HI8.out rfl rfl ?_)
  refine ret_row1 rfl rfl (w.heap.size + 1) _ #[.int .u32 0, .int .u32 0, .int .i64 0, .int .i64 0, .int .i64 0, .int .i64 0, .int .i64 0, .int .i64 0] _ _ rfl (setRow_heap _ _ _ _ _ _ HH.out) Try.underlying26 rfl HI8.out (.bool false) rfl ?_
  exact ⟨rfl, HT2.out.setRow _ _ (fun h => absurd h (by omega))⟩
set_option maxRecDepth 20000 in
set_option maxHeartbeats 4000000 in
theorem stview_nil (w : World) :
    Calls Try.prog 9 #[.pointer none] w fun e w' => e = .returned (.agg #[.int .i64 0, .slice none 0 0, .slice none 0 0, .slice none 0 0]) ∧ Touch w w' (fun _ => False) := by
  obtain ⟨W1, hW1⟩ : ∃ W, w.alloc (.cells #[.int .i64 0, .slice none 0 0, .slice none 0 0, .slice none 0 0] 36) = W := ⟨_, rfl⟩
  have t1 : Touch w W1 (fun _ => False) := hW1 ▸ (Touch.refl w _).alloc _
  have g1 : W1.heap[w.heap.size]? = some (.cells #[.int .i64 0, .slice none 0 0, .slice none 0 0, .slice none 0 0] 36 (0, 0)) := hW1 ▸ heap_alloc_new ..
  have HI4 := Lib.hid infoSt4
  have HT1 := Lib.hid t1
  have HG1 := Lib.hid g1
  have HW1 := Lib.hid hW1
  clear t1 g1 hW1
  go_enter Try.func9, Try.ntmps9
  go_upto_region 2 with (fail)
  rw [HW1.out]
  go_wp2_with (refine store_row rfl 36 (.tmp 2) (.tmp 8) rfl w.heap.size _ rfl rfl _ _ HG1.out HI4.out rfl rfl ?_)
  refine ret_row rfl rfl w.heap.size _ #[.int .i64 0, .slice none 0 0, .slice none 0 0, .slice none 0 0] _ _ rfl (setRow_heap _ _ _ _ _ _ HG1.out) Try.underlying36 rfl HI4.out ?_
  exact ⟨rfl, HT1.out.setRow _ _ (fun h => absurd h (by omega))⟩
set_option maxRecDepth 20000 in
theorem stapply_nil (w : World) (r : RecD) (a : Option Addr) (cap : Nat) :
    Calls Try.prog 10 #[.pointer none, .agg (rcs r a cap)] w fun e w' => e = .returned (.int .i64 1) ∧ Touch w w' (fun _ => False) := by
  have t1 : Touch w (w.alloc (.cells (rcs r a cap) 29)) (fun _ => False) := (Touch.refl w _).alloc _
  have HT := Lib.hid t1
  clear t1
  obtain ⟨kind, ⟨a1, a2, a3, a4, a5⟩, fb, fg, fs, gen, bs, be, un, ct⟩ := r
  simp only [rcs] at *
  go_enter Try.func10, Try.ntmps10
  go_wp2_with fail
  go_ret
  exact ⟨rfl, HT.out⟩
theorem strec_nil (w : World) :
    Calls Try.prog 11 #[.pointer none] w fun e w' => e = .returned (.slice none 0 0) ∧ w = w' := by
  go_enter Try.func11, Try.ntmps11
  go_wp2_with fail
  go_ret
  exact ⟨rfl, rfl⟩
theorem stlen_nil (w : World) :
    Calls Try.prog 12 #[.pointer none] w fun e w' => e = .returned (.int .i64 0) ∧ w = w' := by
  go_enter Try.func12, Try.ntmps12
  go_wp2_with fail
  go_ret
  exact ⟨rfl, rfl⟩
theorem stcopy_nil (w : World) :
    Calls Try.prog 13 #[.pointer none] w fun e w' => e = .returned (.pointer none) ∧ w = w' := by
  go_enter Try.func13, Try.ntmps13
  go_wp2_with fail
  go_ret
  exact ⟨rfl, rfl⟩
end Go.Proofs.Ytdhimlkndpiacaa
