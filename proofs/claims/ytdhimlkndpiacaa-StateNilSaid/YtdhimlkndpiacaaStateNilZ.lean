/- StateNil holds: a state that there isn't. -/
import Derived.Test.YtdhimlkndpiacaaStNilZ
import Derived.Test.YtdhimlkndpiacaaGCZ
import Derived.Test.YtdhimlkndpiacaaFrStateNilZ
set_option linter.unusedVariables false
set_option linter.unusedSimpArgs false
namespace Go.Proofs.Ytdhimlkndpiacaa
open Go.RowKit

set_option maxRecDepth 20000 in
set_option maxHeartbeats 8000000 in
theorem stateNil_walk (w : World) (r : RecD) (a : Option Addr) (cap : Nat) (ok : RecOk r) (hr : RowK w a r.bs.length cap r.bs) :
    Calls Try.prog 3 #[.agg (rcs r a cap)] w fun e w' => e = .returned (.bool true) ∧ Touch w w' (fun _ => False) := by
  obtain ⟨W1, hW1⟩ : ∃ W, w.alloc (.cells (rcs r a cap) 29) = W := ⟨_, rfl⟩
  have t1 : Touch w W1 (fun _ => False) := hW1 ▸ (Touch.refl w _).alloc _
  have g1 : W1.heap[w.heap.size]? = some (.cells (rcs r a cap) 29 (0, 0)) := hW1 ▸ heap_alloc_new ..
  obtain ⟨K1, hK1⟩ : ∃ K, w.heap.size = K := ⟨_, rfl⟩
  rw [hK1] at g1
  have HGT := Lib.hid (stget_nil W1 r.t)
  have HT1 := Lib.hid t1
  have HG1 := Lib.hid g1
  have HW1 := Lib.hid (And.intro hW1 hK1)
  have HAP := Lib.hid (fun W => stapply_nil W r a cap)
  obtain ⟨y0, y1, y2, y3, y4, y5, y6, y7, y8, y9, y10, y11, y12, y13⟩ := rcells_of g1
  obtain ⟨kind, ⟨a1, a2, a3, a4, a5⟩, fb, fg, fs, gen, bs, be, un, ct⟩ := r
  simp only [rcs, tcs, fca, noF, noT] at *
  clear t1 g1 hW1 hK1 ok hr
  go_enter Try.func3, Try.ntmps3
  go_upto_region 2 with (fail)
  rw [HW1.out.1, HW1.out.2]
  go_wp2_with fail
  (with_reducible refine HGT.out.mono ?_)
  rintro e w2 ⟨rfl, t2⟩
  obtain ⟨w3, hw3⟩ : ∃ W, w2.alloc (.cells #[.int .u32 0, .int .u32 0, .int .i64 0, .int .i64 0, .int .i64 0, .int .i64 0, .int .i64 0, .int .i64 0] 26) = W := ⟨_, rfl⟩
  have t3 : Touch w2 w3 (fun _ => False) := hw3 ▸ (Touch.refl w2 _).alloc _
  have HT3 := Lib.hid (t2.trans t3 (fun _ _ h => h))
  have HW3 := Lib.hid hw3
  have HVW := Lib.hid (stview_nil w3)
  clear t2 t3 hw3 y0 y1 y2 y3 y4 y5 y6 y7 y8 y9 y10 y11 y12 y13
  go_upto_region 3 with (fail)
  rw [HW3.out]
  go_wp2_with fail
  (with_reducible refine HVW.out.mono ?_)
  rintro e w4 ⟨rfl, t4⟩
  obtain ⟨w5, hw5⟩ : ∃ W, w4.alloc (.cells #[.int .i64 0, .slice none 0 0, .slice none 0 0, .slice none 0 0] 36) = W := ⟨_, rfl⟩
  have t5 : Touch w4 w5 (fun _ => False) := hw5 ▸ (Touch.refl w4 _).alloc _
  have g5 : w5.heap[w4.heap.size]? = some (.cells #[.int .i64 0, .slice none 0 0, .slice none 0 0, .slice none 0 0] 36 (0, 0)) := hw5 ▸ heap_alloc_new ..
  obtain ⟨K5, hK5⟩ : ∃ K, w4.heap.size = K := ⟨_, rfl⟩
  rw [hK5] at g5
  have HT5 := Lib.hid (HT3.out.trans (t4.trans t5 (fun _ _ h => h)) (fun _ _ h => h))
  have HG5 := Lib.hid g5
  have HW5 := Lib.hid (And.intro hw5 hK5)
  have g15 := HT5.out.keeps HG1.out (fun h => h)
  have y0 := cell_of_cells g15 0
  have y1 := cell_of_cells g15 1
  have y2 := cell_of_cells g15 2
  have y3 := cell_of_cells g15 3
  have y4 := cell_of_cells g15 4
  have y5 := cell_of_cells g15 5
  have y6 := cell_of_cells g15 6
  have y7 := cell_of_cells g15 7
  have y8 := cell_of_cells g15 8
  have y9 := cell_of_cells g15 9
  have y10 := cell_of_cells g15 10
  have y11 := cell_of_cells g15 11
  have y12 := cell_of_cells g15 12
  have y13 := cell_of_cells g15 13
  clear t4 t5 g5 hw5 hK5 g15
  go_upto_region 4 with (fail)
  rw [HW5.out.1, HW5.out.2]
  go_wp2_with fail
  (with_reducible refine (HAP.out _).mono ?_)
  rintro e w6 ⟨rfl, t6⟩
  have g6 := t6.keeps HG5.out (fun h => h)
  have z0 := cell_of_cells g6 0
  have z1 := cell_of_cells g6 1
  have z2 := cell_of_cells g6 2
  have z3 := cell_of_cells g6 3
  have HT6 := Lib.hid (HT5.out.trans t6 (fun _ _ h => h))
  clear t6 g6 y0 y1 y2 y3 y4 y5 y6 y7 y8 y9 y10 y11 y12 y13
  go_wp2_with fail
  (with_reducible refine (strec_nil w6).mono ?_)
  rintro e w7 ⟨rfl, rfl⟩
  go_wp2_with fail
  (with_reducible refine (stlen_nil w6).mono ?_)
  rintro e w7 ⟨rfl, rfl⟩
  go_wp2_with fail
  (with_reducible refine (stcopy_nil w6).mono ?_)
  rintro e w7 ⟨rfl, rfl⟩
  go_wp2_with fail
  (with_reducible refine (awake14 w6).mono ?_)
  rintro e w7 ⟨rfl, t7⟩
  have HT7 := Lib.hid (HT1.out.trans (HT6.out.trans t7 (fun _ _ h => h)) (fun _ _ h => h))
  clear t7
  go_wp2_with fail
  go_ret
  exact ⟨rfl, HT7.out⟩
theorem stateNil_holds : Rows.StateNilSaid := by
  refine stateNil.said fun H enc W base v0 d0 p0 h0 => ?_
  obtain ⟨r, a, cap, rfl, ok, hr⟩ := h0.recD
  exact (stateNil_walk W r a cap ok hr).mono fun e w' h => ⟨h.1, h.2.below (fun _ _ h => h.elim) (Nat.le_refl _)⟩
end Go.Proofs.Ytdhimlkndpiacaa
