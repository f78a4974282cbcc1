/- FrameSame answers true for any two frames: Same answers as the reference does, and both ways alike. No condition. -/
import Derived.Test.YtjmhfbfpndpkkaaFrmArgs
import Derived.Test.YtjmhfbfpndpkkaaFrmAwake
import Derived.Test.YtjmhfbfpndpkkaaFrFrameSame
import Derived.Deep.RegionHeld3
set_option linter.unusedVariables false
namespace Go.Proofs.Ytjmhfbfpndpkkaa
open Go.RowKit

theorem sameB_comm (k v : Int) (xs : List Nat) (k2 v2 : Int) (ys : List Nat) : sameB k2 v2 ys k v xs = sameB k v xs k2 v2 ys := by
  simp only [sameB, eqB]
  rw [Bool.eq_iff_iff]; simp
  constructor
  · rintro ⟨h1, h2, h3⟩; exact ⟨h1.symm, h2.symm, h3.symm⟩
  · rintro ⟨h1, h2, h3⟩; exact ⟨h1.symm, h2.symm, h3.symm⟩
theorem six {w : World} {A B : Nat} {k v : Int} {a : Option Addr} {len cap : Nat} {k2 v2 : Int} {a2 : Option Addr} {len2 cap2 : Nat}
    (h1 : w.heap[A]? = some (.cells (fcs k v a len cap) 24 (0, 0))) (h2 : w.heap[B]? = some (.cells (fcs k2 v2 a2 len2 cap2) 24 (0, 0))) :
    w.cell? ⟨A, 0, none⟩ = some (.int .i64 k) ∧ w.cell? ⟨A, 1, none⟩ = some (.int .i64 v) ∧ w.cell? ⟨A, 2, none⟩ = some (.slice a len cap) ∧
    w.cell? ⟨B, 0, none⟩ = some (.int .i64 k2) ∧ w.cell? ⟨B, 1, none⟩ = some (.int .i64 v2) ∧ w.cell? ⟨B, 2, none⟩ = some (.slice a2 len2 cap2) :=
  ⟨cell_of_cells h1 0, cell_of_cells h1 1, cell_of_cells h1 2, cell_of_cells h2 0, cell_of_cells h2 1, cell_of_cells h2 2⟩

set_option maxRecDepth 20000 in
set_option maxHeartbeats 8000000 in
theorem same_walk (k v : Int) (a : Option Addr) (cap : Nat) (xs : List Nat) (k2 v2 : Int) (a2 : Option Addr) (cap2 : Nat) (ys : List Nat) (w : World) (hr : RowB w a xs.length cap xs) (hr2 : RowB w a2 ys.length cap2 ys) :
    Calls Try.prog 5 #[.agg #[.int .i64 k, .int .i64 v, .slice a xs.length cap], .agg #[.int .i64 k2, .int .i64 v2, .slice a2 ys.length cap2]] w fun e w' => e = .returned (.bool true) ∧ Touch w w' (fun _ => False) := by
  obtain ⟨W1, hW1⟩ : ∃ W, w.alloc (.cells #[.int .i64 k, .int .i64 v, .slice a xs.length cap] 24) = W := ⟨_, rfl⟩
  obtain ⟨W2, hW2⟩ : ∃ W, W1.alloc (.cells #[.int .i64 k2, .int .i64 v2, .slice a2 ys.length cap2] 24) = W := ⟨_, rfl⟩
  have t1 : Touch w W1 (fun _ => False) := hW1 ▸ (Touch.refl _ _).alloc _
  have t2 : Touch W1 W2 (fun _ => False) := hW2 ▸ (Touch.refl _ _).alloc _
  have hg1 : W1.heap[w.heap.size]? = some (.cells (fcs k v a xs.length cap) 24 (0, 0)) := hW1 ▸ heap_alloc_new w _
  have hg2 : W2.heap[W1.heap.size]? = some (.cells (fcs k2 v2 a2 ys.length cap2) 24 (0, 0)) := hW2 ▸ heap_alloc_new W1 _
  have t3 := t2.drew
  have HT := Lib.hid (t1.trans t3 (fun _ _ h => h))
  have HA := Lib.hid (t3.keeps hg1 (fun h => h))
  have HB : RowKit.Hid (W2.drew.heap[W1.heap.size]? = some (.cells (fcs k2 v2 a2 ys.length cap2) 24 (0, 0))) := Lib.hid hg2
  have HX := Lib.hid (hr.touch HT.out (fun _ _ => .inr (fun h => h)))
  have HY := Lib.hid (hr2.touch HT.out (fun _ _ => .inr (fun h => h)))
  have HS : RowKit.Hid (sameB k2 v2 ys k v xs = sameB k v xs k2 v2 ys) := Lib.hid (sameB_comm _ _ _ _ _ _)
  obtain ⟨s, hs⟩ : ∃ s, sameB k v xs k2 v2 ys = s := ⟨_, rfl⟩
  have HS2 := Lib.hid hs
  clear hr hr2 t1 t2 t3 hg1 hg2 hs
  go_enter Try.func5, Try.ntmps5
  go_wp2_with fail
  cases s
  all_goals (
    obtain ⟨c0, c1, c2, d0, d1, d2⟩ := six HA.out HB.out
    go_region_held3 (fun w' => w'.cell? ⟨w.heap.size, 0, none⟩ = some (.int .i64 k) ∧ w'.cell? ⟨w.heap.size, 1, none⟩ = some (.int .i64 v) ∧ w'.cell? ⟨w.heap.size, 2, none⟩ = some (.slice a xs.length cap) ∧ w'.cell? ⟨W1.heap.size, 0, none⟩ = some (.int .i64 k2) ∧ w'.cell? ⟨W1.heap.size, 1, none⟩ = some (.int .i64 v2) ∧ w'.cell? ⟨W1.heap.size, 2, none⟩ = some (.slice a2 ys.length cap2))
      (first | (with_reducible exact six HA.out HB.out) | go_keep)
      (first
        | (go_at_call 11; (with_reducible refine (same_any k v a _ cap xs k2 v2 a2 _ cap2 ys _ HX.out HY.out).mono ?_); rintro e w4 ⟨rfl, t4⟩; rw [HS2.out]; have HT := Lib.hid (HT.out.trans t4 (fun _ _ h => h)); have HA := Lib.hid (t4.keeps HA.out (fun h => h)); have HB := Lib.hid (t4.keeps HB.out (fun h => h)); have HX := Lib.hid (HX.out.touch t4 (fun _ _ => .inr (fun h => h))); have HY := Lib.hid (HY.out.touch t4 (fun _ _ => .inr (fun h => h))); clear t4; obtain ⟨c0, c1, c2, d0, d1, d2⟩ := six HA.out HB.out)
        | (go_at_call 11; (with_reducible refine (same_any k2 v2 a2 _ cap2 ys k v a _ cap xs _ HY.out HX.out).mono ?_); rintro e w4 ⟨rfl, t4⟩; rw [HS.out, HS2.out]; have HT := Lib.hid (HT.out.trans t4 (fun _ _ h => h)); have HA := Lib.hid (t4.keeps HA.out (fun h => h)); have HB := Lib.hid (t4.keeps HB.out (fun h => h)); have HX := Lib.hid (HX.out.touch t4 (fun _ _ => .inr (fun h => h))); have HY := Lib.hid (HY.out.touch t4 (fun _ _ => .inr (fun h => h))); clear t4; obtain ⟨c0, c1, c2, d0, d1, d2⟩ := six HA.out HB.out)
        | (go_at_call 16; (with_reducible refine (rsame_any k v a _ cap xs k2 v2 a2 _ cap2 ys _ HX.out HY.out).mono ?_); rintro e w4 ⟨rfl, t4⟩; rw [HS2.out]; have HT := Lib.hid (HT.out.trans t4 (fun _ _ h => h)); have HA := Lib.hid (t4.keeps HA.out (fun h => h)); have HB := Lib.hid (t4.keeps HB.out (fun h => h)); have HX := Lib.hid (HX.out.touch t4 (fun _ _ => .inr (fun h => h))); have HY := Lib.hid (HY.out.touch t4 (fun _ _ => .inr (fun h => h))); clear t4; obtain ⟨c0, c1, c2, d0, d1, d2⟩ := six HA.out HB.out)
        | (go_at_call 12; (with_reducible refine (awake4 _).mono ?_); rintro e w5 ⟨rfl, t5⟩; have HT := Lib.hid (HT.out.trans t5 (fun _ _ h => h)); have HA := Lib.hid (t5.keeps HA.out (fun h => h)); have HB := Lib.hid (t5.keeps HB.out (fun h => h)); clear t5; obtain ⟨c0, c1, c2, d0, d1, d2⟩ := six HA.out HB.out)))
  all_goals (go_wp2; go_ret; exact ⟨rfl, HT.out⟩)
theorem frameSame_holds : Rows.FrameSameSaid := by
  refine frameSame.said fun H enc W base v0 v1 d0 d1 p0 p1 h0 h1 => ?_
  obtain ⟨f, rfl, ok, _, _⟩ := h0.frame
  obtain ⟨g, rfl, ok2, _, _⟩ := h1.frame
  exact (same_walk _ _ _ _ _ _ _ _ _ _ W ok.row ok2.row).mono fun e w' h => ⟨h.1, h.2.under (Nat.le_refl _)⟩
end Go.Proofs.Ytjmhfbfpndpkkaa
