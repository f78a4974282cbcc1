/- FramePuts answers true for any frame: Put and the reference's Put answer alike, and a frame is the same as itself. No condition. -/
import Derived.Test.YtjmhfbfpndpkkaaFrmArgs
import Derived.Test.YtjmhfbfpndpkkaaFrmAwake
import Derived.Test.YtjmhfbfpndpkkaaFrFramePuts
set_option linter.unusedVariables false
namespace Go.Proofs.Ytjmhfbfpndpkkaa
open Go.RowKit

theorem sameB_refl (k v : Int) (ys : List Nat) : sameB k v ys k v ys = true := by simp [sameB, eqB]
set_option maxRecDepth 20000 in
set_option maxHeartbeats 4000000 in
theorem puts_walk (f : FrD) (w : World) (ok : FrOk w f) :
    Calls Try.prog 3 #[.agg #[.int .i64 f.k, .int .i64 f.v, .slice f.a f.ys.length f.cap]] w fun e w' => e = .returned (.bool true) ∧ Touch w w' (fun _ => False) := by
  obtain ⟨k, v, a, cap, ys⟩ := f
  obtain ⟨hr, _, _⟩ := ok
  simp only at hr ⊢
  obtain ⟨W1, hW1⟩ : ∃ W, w.alloc (.cells #[.int .i64 k, .int .i64 v, .slice a ys.length cap] 24) = W := ⟨_, rfl⟩
  have HT := Lib.hid (hW1 ▸ (Touch.refl _ _).alloc _ : Touch w W1 (fun _ => False))
  have HG1 : RowKit.Hid (W1.heap[w.heap.size]? = some (.cells (fcs k v a ys.length cap) 24 (0, 0))) := Lib.hid (hW1 ▸ heap_alloc_new w _)
  have HR1 := Lib.hid (hr.touch HT.out (fun _ _ => .inr (fun h => h)))
  obtain ⟨c0, c1, c2⟩ := fcells_of HG1.out
  have HS := Lib.hid (sameB_refl k v ys)
  have HPS : RowKit.Hid (∀ x ∈ putF k v ys, x < 256) := Lib.hid (by
    have := frmF_small k v ys hr.2.2.2.2.1
    unfold putF
    by_cases h : putE k v ys.length = 0
    · rw [if_pos h]; exact this
    · rw [if_neg h]; simp)
  clear hr
  go_enter Try.func3, Try.ntmps3
  go_wp2_with fail
  (with_reducible refine (put_any _ _ _ _ _ _ _ HR1.out).mono ?_)
  rintro e w2 ⟨a2, c2, rfl, hf2⟩
  obtain ⟨-, hr2⟩ := hf2.row'
  have HG2 := Lib.hid (hf2.2.keeps HG1.out (fun h => h))
  have HR2 := Lib.hid (HR1.out.touch hf2.2 (fun _ _ => .inr (fun h => h)))
  have HT := Lib.hid (HT.out.trans hf2.2 (fun _ _ h => h))
  obtain ⟨c0, c1, c2⟩ := fcells_of HG2.out
  clear hf2
  go_wp2_with fail
  (with_reducible refine (rput_any _ _ _ _ _ _ _ HR2.out).mono ?_)
  rintro e w3 ⟨a3, c3, rfl, hf3⟩
  obtain ⟨-, hr3⟩ := hf3.row'
  have HG3 := Lib.hid (hf3.2.keeps HG2.out (fun h => h))
  have HR3 := Lib.hid (HR2.out.touch hf3.2 (fun _ _ => .inr (fun h => h)))
  have HT := Lib.hid (HT.out.trans hf3.2 (fun _ _ h => h))
  have s2 := str_row (hr2.touch hf3.2 (fun _ _ => .inr (fun h => h)))
  have s3 := str_row hr3
  obtain ⟨c0, c1, c2⟩ := fcells_of HG3.out
  clear hf3 hr2 hr3
  generalize putF k v ys = P at *
  generalize putE k v ys.length = E at *
  go_wp2_with (first
    | (go_at_call 11; (with_reducible refine (same_any _ _ _ _ _ _ _ _ _ _ _ _ _ HR3.out HR3.out).mono ?_); rintro e w4 ⟨rfl, t4⟩; rw [HS.out]; have HT := Lib.hid (HT.out.trans t4 (fun _ _ h => h)); clear t4)
    | (go_at_call 12; (with_reducible refine (awake4 _).mono ?_); rintro e w5 ⟨rfl, t5⟩; have HT := Lib.hid (HT.out.trans t5 (fun _ _ h => h)); clear t5))
  go_ret
  exact ⟨rfl, HT.out⟩
theorem framePuts_holds : Rows.FramePutsSaid := by
  refine framePuts.said fun H enc W base v0 d0 p0 h0 => ?_
  obtain ⟨f, rfl, ok, _, _⟩ := h0.frame
  exact (puts_walk f W ok).mono fun e w' h => ⟨h.1, h.2.under (Nat.le_refl _)⟩
end Go.Proofs.Ytjmhfbfpndpkkaa
