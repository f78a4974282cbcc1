/- A state: awake; one that there isn't. -/
import Derived.Test.YtdhimlkndpiacaaGreatStViewZ
set_option linter.unusedVariables false
set_option linter.unusedSimpArgs false
namespace Go.Proofs.YtdhimlkndpiacaaGreat
open Go.RowKit

def stK : TupD := ⟨0, 0, 6, 0, 0⟩
def rPut : RecD := ⟨1, stK, 3, 0, 0, 0, [], 0, 0, 0⟩
def rDel : RecD := ⟨2, stK, 0, 0, 0, 0, [], 0, 0, 0⟩
theorem tupOk_stK : TupOk stK := by constructor <;> simp only [stK, u32, i64] <;> decide
theorem rPut_ok : RecOk rPut := by
  refine ⟨?_, tupOk_stK, ?_, ?_, ?_, ?_, (fun b hb => by cases hb), ?_, ?_, ?_⟩ <;> simp only [rPut, i64] <;> decide
theorem rDel_ok : RecOk rDel := by
  refine ⟨?_, tupOk_stK, ?_, ?_, ?_, ?_, (fun b hb => by cases hb), ?_, ?_, ?_⟩ <;> simp only [rDel, i64] <;> decide
theorem aws1 : stE stZ rPut = 0 := by decide
theorem fieldS3 (g : Int) (a1 a2 a3 : Option Addr) (n1 c1 n2 c2 n3 c3 : Nat) (w : World) : (Instr.field 35 (.agg #[.int .i64 g, .slice a1 n1 c1, .slice a2 n2 c2, .slice a3 n3 c3]) 3).run Tryz.prog w = .ok (.slice a3 n3 c3) w := by kernel_rfl
set_option maxRecDepth 20000 in
set_option maxHeartbeats 8000000 in
theorem awake14 (w : World) : Calls Tryz.prog 6 #[] w fun e w' => e = .returned (.bool true) ∧ Touch w w' (fun _ => False) := by
  have HNW := Lib.hid (stnew_any w)
  go_enter Tryz.func6, Tryz.ntmps6
  go_wp2_with fail
  refine HNW.out.mono ?_
  rintro e w1 ⟨b, h, rfl, n1⟩
  obtain ⟨w2, hw2⟩ : ∃ W, w1.alloc (.cells #[.int .u32 0, .int .u32 0, .int .i64 6, .int .i64 0, .int .i64 0] 25) = W := ⟨_, rfl⟩
  have g2 : w2.heap[w1.heap.size]? = some (.cells #[.int .u32 0, .int .u32 0, .int .i64 6, .int .i64 0, .int .i64 0] 25 (0, 0)) := hw2 ▸ heap_alloc_new ..
  have t2 : Touch w1 w2 (fun _ => False) := hw2 ▸ (Touch.refl w1 _).alloc _
  obtain ⟨K, hK⟩ : ∃ K, w1.heap.size = K := ⟨_, rfl⟩
  rw [hK] at g2
  have n2 := n1.still t2
  have hKf : ¬ footS b h K := fun hf => by have := n1.m.lt K hf; omega
  have HG2 := Lib.hid g2
  have HN2 := Lib.hid n2
  have HKF := Lib.hid hKf
  have HW2 := Lib.hid (And.intro hw2 hK)
  have HA := Lib.hid (stapply_any w2 b h stZ n2.m rPut none 0 (RowS.nil _ _ _ _ (by decide)) (by decide) rPut_ok)
  obtain ⟨s1, hs1⟩ : ∃ s : StS, stS stZ rPut = s := ⟨_, rfl⟩
  rw [aws1, hs1] at HA
  have HS1 := Lib.hid hs1
  clear hs1
  simp only [rcs, rPut, stK, List.length_nil] at HA
  have y0 := cell_of_cells g2 0
  have y1 := cell_of_cells g2 1
  have y2 := cell_of_cells g2 2
  have y3 := cell_of_cells g2 3
  have y4 := cell_of_cells g2 4
  clear n1 g2 t2 n2 hKf hw2 hK
  go_upto_region 3 with (fail)
  rw [HW2.out.1, HW2.out.2]
  go_wp2_with fail
  (with_reducible refine HA.out.mono ?_)
  rintro e w3 ⟨rfl, to3⟩
  obtain ⟨h3, n3, e3, e3'⟩ := HN2.out.step to3
  have g3 := to3.touch.keeps HG2.out HKF.out
  have HN3 := Lib.hid n3
  have HG3 := Lib.hid g3
  have HKF3 : RowKit.Hid (¬ footS b h3 K) := Lib.hid (by unfold footS; rw [e3, e3']; exact HKF.out)
  have HGT := Lib.hid (stget_any w3 b h3 _ n3.m stK tupOk_stK)
  rw [show getF s1.F stK = ⟨stK, 3, 0, 0⟩ from by rw [← HS1.out]; rfl, show hasF s1.F stK = true from by rw [← HS1.out]; decide] at HGT
  simp only [tcs, fca, stK] at HGT
  clear y0 y1 y2 y3 y4
  have y0 := cell_of_cells g3 0
  have y1 := cell_of_cells g3 1
  have y2 := cell_of_cells g3 2
  have y3 := cell_of_cells g3 3
  have y4 := cell_of_cells g3 4
  clear to3 n3 e3 e3' g3
  go_wp2_with fail
  (with_reducible refine HGT.out.mono ?_)
  rintro e w4 ⟨rfl, t4⟩
  obtain ⟨w5, hw5⟩ : ∃ W, w4.alloc (.cells #[.int .u32 0, .int .u32 0, .int .i64 6, .int .i64 0, .int .i64 0, .int .i64 3, .int .i64 0, .int .i64 0] 39) = W := ⟨_, rfl⟩
  have g5 : w5.heap[w4.heap.size]? = some (.cells #[.int .u32 0, .int .u32 0, .int .i64 6, .int .i64 0, .int .i64 0, .int .i64 3, .int .i64 0, .int .i64 0] 39 (0, 0)) := hw5 ▸ heap_alloc_new ..
  have t5 : Touch w4 w5 (fun _ => False) := hw5 ▸ (Touch.refl w4 _).alloc _
  obtain ⟨K5, hK5⟩ : ∃ K, w4.heap.size = K := ⟨_, rfl⟩
  rw [hK5] at g5
  have n5 := (HN3.out.still t4).still t5
  have g25 := t5.keeps (t4.keeps HG3.out (fun h => h)) (fun h => h)
  have HA5 := Lib.hid (stapply_any w5 b h3 _ n5.m rDel none 0 (RowS.nil _ _ _ _ (by decide)) (by decide) rDel_ok)
  rw [show stE s1 rDel = 0 from by rw [← HS1.out]; decide, show stS s1 rDel = stZ from by rw [← HS1.out]; rfl] at HA5
  simp only [rcs, rDel, stK, List.length_nil] at HA5
  have HN5 := Lib.hid n5
  have HG5 := Lib.hid g5
  have HKF5 : RowKit.Hid (¬ footS b h3 K5) := Lib.hid (fun hf => by have := (HN3.out.still t4).m.lt K5 hf; omega)
  have HW5 := Lib.hid (And.intro hw5 hK5)
  clear y0 y1 y2 y3 y4
  have y0 := cell_of_cells g25 0
  have y1 := cell_of_cells g25 1
  have y2 := cell_of_cells g25 2
  have y3 := cell_of_cells g25 3
  have y4 := cell_of_cells g25 4
  clear t4 g5 t5 n5 g25 hw5 hK5
  go_upto_region 5 with (fail)
  rw [HW5.out.1, HW5.out.2]
  go_wp2_with fail
  (with_reducible refine HA5.out.mono ?_)
  rintro e w6 ⟨rfl, to6⟩
  obtain ⟨h6, n6, -, -⟩ := HN5.out.step to6
  have g6 := to6.touch.keeps HG5.out HKF5.out
  have z1 := cell_of_cells g6 5
  have HVW := Lib.hid (stview_any w6 b h6 _ n6.m)
  have HN6 := Lib.hid n6
  clear to6 n6 g6 y0 y1 y2 y3 y4
  go_wp2_with fail
  (with_reducible refine HVW.out.mono ?_)
  rintro e w7 ⟨a1, c1, a2, c2, a3, c3, rfl, -, -, -, t7⟩
  have n7 := HN6.out.still t7
  have HLN := Lib.hid (stlen_any w7 b h6 _ n7.m)
  have HN7 := Lib.hid n7
  simp only [stZ, List.length_nil] at HLN ⊢
  have hfl := fieldS3 0 a1 a2 a3 0 c1 0 c2 0 c3 w7
  clear t7 n7 z1
  go_wp2_with fail
  (with_reducible refine HLN.out.mono ?_)
  rintro e w8 ⟨rfl, t8⟩
  have HT8 := Lib.hid (HN7.out.t.trans t8 (fun _ _ h => h))
  clear t8
  go_wp2_with fail
  go_ret
  exact ⟨rfl, HT8.out⟩
end Go.Proofs.YtdhimlkndpiacaaGreat
