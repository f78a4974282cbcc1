/- The known header: awake answers true. -/
import Derived.Test.YthjdebcjfpokoaaIpParse
import Derived.Test.YthjdebcjfpokoaaIpBuild
import Derived.Test.YthjdebcjfpokoaaOctTwo
import Derived.Test.YthjdebcjfpokoaaAppendZ
set_option linter.unusedVariables false
namespace Go.Proofs.Ythjdebcjfpokoaa
open Go.RowKit

def known20 : HArg := ⟨0, 0, 20, 0, 0, 0, 5, 6, 0, 1, 2⟩
theorem known20_ok : known20.Ok := by
  refine ⟨?_, ?_, ?_, ?_, ?_, ?_, ?_, ?_, ?_, ?_, ?_⟩ <;> simp [known20, isI64]
theorem known20_why : whyF (builtF known20) = 0 := by decide +kernel
theorem known20_hdr : (hdr (builtF known20)).ttl = 5 ∧ (hdr (builtF known20)).ihl = 5 ∧ (hdr (builtF known20)).len - 4 * (hdr (builtF known20)).ihl = 0 := by decide +kernel
theorem made19 : (madeCells #[.int .u8 0] 19).toList = (List.replicate 19 0).map cellB := by
  show (madeCells #[Value.int .u8 0] 19).toList = _
  rw [toList_madeCells_one, List.map_replicate]; rfl
theorem why19 : whyF (List.replicate 19 0) = 1 := by decide +kernel

set_option maxRecDepth 20000 in
set_option maxHeartbeats 4000000 in
theorem awake20 (w : World) :
    Calls Try.prog 13 #[] w fun e w' => e = .returned (.bool true) ∧ Touch w w' (fun _ => False) := by
  have HB := Lib.hid (build_any known20 known20_ok w)
  have hmk : ∀ w, (Instr.makeSlice 25 (.int .i64 19) (.int .i64 19)).run Try.prog w = .ok (.slice (some ⟨w.heap.size, 0, none⟩) 19 19) (w.alloc (.cells (madeCells #[.int .u8 0] 19) 5)) := fun w => by kernel_rfl
  go_enter Try.func13, Try.ntmps13
  go_wp2_with fail
  refine HB.out.mono ?_
  rintro e w1 ⟨a, cap, rfl, hf1⟩
  obtain ⟨a1, c1, hv, hrow⟩ := hf1.row
  rw [builtF_length] at hv hrow
  simp only [Value.slice.injEq, true_and] at hv
  obtain ⟨rfl, rfl⟩ := hv
  have t1 := hf1.2
  clear hf1
  go_wp2_with fail
  refine (parse_ok _ _ _ _ _ hrow known20_why).mono ?_
  rintro e w2 ⟨a2, c2, rfl, hf2⟩
  obtain ⟨k1, k2, k3⟩ := known20_hdr
  have t2 := t1.trans hf2.2 (fun _ _ h => h)
  generalize hdr (builtF known20) = H at *
  simp only [hv, k1, k2]
  clear hf2 hrow HB
  obtain ⟨W3, hW3⟩ : ∃ W, w2.alloc (.cells #[.int .i64 5, .int .i64 H.tos, .int .i64 H.len, .int .i64 H.id, .int .i64 H.flags, .int .i64 H.off, .int .i64 5, .int .i64 H.proto, .int .i64 H.sum, .int .u32 H.src, .int .u32 H.dst] 24) = W := ⟨_, rfl⟩
  have t3 : Touch w W3 (fun _ => False) := hW3 ▸ t2.alloc _
  have hs3 : W3.heap.size = w2.heap.size + 1 := by rw [← hW3]; simp
  have hB3 : W3.heap[w2.heap.size]? = some _ := hW3 ▸ heap_alloc_new w2 _
  have hr4 := row_lit W3 _ 19 (List.replicate 19 0) made19 (by simp) (by intro x hx; simp at hx; omega) (by omega)
  have t4 := (Touch.refl W3 (fun _ => False)).alloc (.cells (madeCells #[.int .u8 0] 19) 5)
  have hB4 := t4.keeps hB3 (fun h => h)
  have t4' := t3.trans t4 (fun _ _ h => h)
  have HS3 := Lib.hid hs3
  clear hB3 t4 t3 hs3
  go_wp2_with fail
  with_reducible refine (parse_bad _ _ _ _ _ hr4 (by rw [why19]; decide)).mono ?_
  rintro e w5 ⟨rfl, t5⟩
  rw [why19]
  have hB5 := t5.keeps hB4 (fun h => h)
  have c0 := cell_of_cells hB5 0
  have c6 := cell_of_cells hB5 6
  simp at c0 c6
  have t6 := t4'.trans t5 (fun _ _ h => h)
  have hlt := heap_lt hB5
  clear hB5 hB4 hr4 t5 t4'
  simp only [hv]
  go_wp2_with fail
  go_ret
  exact ⟨rfl, t6.alloc _⟩
end Go.Proofs.Ythjdebcjfpokoaa
