/- FrameTakes answers true for any frames, any bytes behind them, any of them changed: Take and Scan answer as the reference does. No condition. -/
import Derived.Test.YtjmhfbfpndpkkaaFrmBytes
import Derived.Test.YtjmhfbfpndpkkaaFrFrameTakes
set_option linter.unusedVariables false
namespace Go.Proofs.Ytjmhfbfpndpkkaa
open Go.RowKit

theorem sameFs_refl (l : List (Int × Int × List Nat)) : sameFs l l = true := by unfold sameFs; simp
theorem sameB_rfl (k v : Int) (ys : List Nat) : sameB k v ys k v ys = true := by simp [sameB, eqB]

set_option maxRecDepth 20000 in
set_option maxHeartbeats 8000000 in
theorem takes_walk (a : Option Addr) (len cap : Nat) (fs : List FrD) (a2 : Option Addr) (len2 cap2 : Nat) (more : List Nat) (a3 : Option Addr) (len3 cap3 : Nat) (ps : List Int) (x : Nat) (w : World)
    (hr : RowF w a len cap fs) (hr2 : RowB w a2 len2 cap2 more) (hr3 : RowI w a3 len3 cap3 ps) (hx : x < 256) :
    Calls Try.prog 4 #[.slice a len cap, .slice a2 len2 cap2, .slice a3 len3 cap3, .int .u8 x] w fun e w' => e = .returned (.bool true) ∧ Touch w w' (fun _ => False) := by
  have hm2 := hr2.2.2.1
  have hc2 := hr2.2.1
  by_cases hbig : 3000 < len2
  case pos =>
    have hb' : (3000 : Int) < len2 := by omega
    clear hr hr2 hr3
    go_enter Try.func4, Try.ntmps4
    go_wp2_with (go_at_call 12; (with_reducible refine (awake4 _).mono ?_); rintro e w' ⟨rfl, ht⟩)
    go_ret
    exact ⟨rfl, ht⟩
  case neg =>
  have hb' : ¬ (3000 : Int) < len2 := by omega
  have HB := Lib.hid (bytes_any a len cap fs a2 len2 cap2 more a3 len3 cap3 ps x w hr hr2 hr3 hx (by omega))
  have hml := manyB_length fs
  have hmo := hr2.1
  clear hr hr2 hr3
  go_enter Try.func4, Try.ntmps4
  go_wp2_with fail
  (with_reducible refine HB.out.mono ?_)
  rintro e w1 ⟨a1, c1, zs, rfl, hf1, hzl, -⟩
  obtain ⟨-, hr1⟩ := hf1.row'
  have HT := Lib.hid hf1.2
  have hz : zs.length ≤ 10000 := by rw [hzl, List.length_append]; omega
  have HR1 := Lib.hid hr1
  have HTK := Lib.hid (take_any a1 zs.length c1 zs w1 hr1 (by omega))
  clear hf1 hr1 hzl hml hmo HB
  go_wp2_with fail
  (with_reducible refine HTK.out.mono ?_)
  rintro e w2 ⟨a4, c4, rfl, hf2⟩
  obtain ⟨-, hr4⟩ := hf2.row'
  have HR2 := Lib.hid (HR1.out.touch hf2.2 (fun _ _ => .inr (fun h => h)))
  have HT := Lib.hid (HT.out.trans hf2.2 (fun _ _ h => h))
  simp only [fcs]
  obtain ⟨W3, hW3⟩ : ∃ W, w2.alloc (.cells #[.int .i64 (tkK zs : Nat), .int .i64 (tkV zs : Nat), .slice a4 (tkY zs).length c4] 24) = W := ⟨_, rfl⟩
  have t3 : Touch w2 W3 (fun _ => False) := hW3 ▸ (Touch.refl _ _).alloc _
  have HG3 : RowKit.Hid (W3.heap[w2.heap.size]? = some (.cells (fcs (tkK zs : Nat) (tkV zs : Nat) a4 (tkY zs).length c4) 24 (0, 0))) := Lib.hid (hW3 ▸ heap_alloc_new w2 _)
  have HR3 := Lib.hid (HR2.out.touch t3 (fun _ _ => .inr (fun h => h)))
  have HT := Lib.hid (HT.out.trans t3 (fun _ _ h => h))
  have HY3 := Lib.hid (hr4.touch t3 (fun _ _ => .inr (fun h => h)))
  have HRT := Lib.hid (rtake_any a1 zs.length c1 zs W3 HR3.out (by omega))
  have HW3 := Lib.hid hW3
  clear hf2 hr4 t3 HTK hW3
  go_wp2_with fail
  rw [HW3.out]
  (with_reducible refine HRT.out.mono ?_)
  rintro e w5 ⟨a6, c6, rfl, hf5⟩
  obtain ⟨-, hr6⟩ := hf5.row'
  have HG5 := Lib.hid (hf5.2.keeps HG3.out (fun h => h))
  have HR5 := Lib.hid (HR3.out.touch hf5.2 (fun _ _ => .inr (fun h => h)))
  have HY5 := Lib.hid (HY3.out.touch hf5.2 (fun _ _ => .inr (fun h => h)))
  have HT := Lib.hid (HT.out.trans hf5.2 (fun _ _ h => h))
  simp only [fcs]
  have hlt2 : w2.heap.size < w5.heap.size := heap_lt HG5.out
  obtain ⟨W6, hW6⟩ : ∃ W, w5.alloc (.cells #[.int .i64 (tkK zs : Nat), .int .i64 (tkV zs : Nat), .slice a6 (tkY zs).length c6] 24) = W := ⟨_, rfl⟩
  have t6 : Touch w5 W6 (fun _ => False) := hW6 ▸ (Touch.refl _ _).alloc _
  have HG6 := Lib.hid (t6.keeps HG5.out (fun h => h))
  have HR6 := Lib.hid (HR5.out.touch t6 (fun _ _ => .inr (fun h => h)))
  have HY6 := Lib.hid (HY5.out.touch t6 (fun _ _ => .inr (fun h => h)))
  have HZ6 := Lib.hid (hr6.touch t6 (fun _ _ => .inr (fun h => h)))
  have HT := Lib.hid (HT.out.trans t6 (fun _ _ h => h))
  have HS := Lib.hid (sameB_rfl (tkK zs : Nat) (tkV zs : Nat) (tkY zs))
  have hg5 := HG5.out
  have ce0 := cell_of_cells hg5 0
  have ce1 := cell_of_cells hg5 1
  have ce2 := cell_of_cells hg5 2
  simp [fcs] at ce0 ce1 ce2
  have HW6 := Lib.hid hW6
  clear hf5 hr6 t6 HRT hW6 hg5
  go_wp2_with fail
  rw [HW6.out]
  (with_reducible refine (rsame_any _ _ _ _ _ _ _ _ _ _ _ _ _ HY6.out HZ6.out).mono ?_)
  rintro e w7 ⟨rfl, t7⟩
  rw [HS.out]
  have HR7 := Lib.hid (HR6.out.touch t7 (fun _ _ => .inr (fun h => h)))
  have HT := Lib.hid (HT.out.trans t7 (fun _ _ h => h))
  clear t7 ce0 ce1 ce2
  have hb1 : ((tkM zs : Int) != (tkM zs : Int)) = false := bne_eq_false_iff_eq.2 rfl
  have hb2 : ((tkE zs : Int) != (tkE zs : Int)) = false := bne_eq_false_iff_eq.2 rfl
  generalize tkM zs = M at *
  generalize tkE zs = E at *
  go_wp2_with fail
  (with_reducible refine (scan_any _ _ _ _ _ HR7.out (by omega)).mono ?_)
  rintro e w8 ⟨a8, c8, fs8, rfl, hv8, ho8, t8⟩
  have HR8 := Lib.hid (HR7.out.touch t8 (fun _ _ => .inr (fun h => h)))
  have HT := Lib.hid (HT.out.trans t8 (fun _ _ h => h))
  have HO8 := Lib.hid ho8
  have HV8 := Lib.hid hv8
  clear t8 ho8 hv8 hb1 hb2
  go_wp2_with fail
  (with_reducible refine (rscan_any _ _ _ _ _ HR8.out (by omega)).mono ?_)
  rintro e w9 ⟨a9, c9, fs9, rfl, hv9, ho9, t9⟩
  have HT := Lib.hid (HT.out.trans t9 (fun _ _ h => h))
  obtain ⟨x8, y8, hq8, hrow8, -⟩ := (HO8.out.still t9).row
  simp only [Value.slice.injEq, true_and] at hq8
  obtain ⟨rfl, rfl⟩ := hq8
  obtain ⟨x9, y9, hq9, hrow9, -⟩ := ho9.row
  simp only [Value.slice.injEq, true_and] at hq9
  obtain ⟨rfl, rfl⟩ := hq9
  have HS9 : RowKit.Hid (sameFs (fs8.map FrD.val) (fs9.map FrD.val) = true) := Lib.hid (by rw [HV8.out, hv9]; exact sameFs_refl _)
  have HRW8 := Lib.hid hrow8
  have HRW9 := Lib.hid hrow9
  clear t9 ho9 hv9 hrow8 hrow9
  generalize (scanX zs).2.1 = S1 at *
  generalize (scanX zs).2.2 = S2 at *
  go_wp2_with (first
    | (go_at_call 19; (with_reducible refine (rsames_any _ _ _ _ _ _ _ _ _ HRW8.out HRW9.out).mono ?_); rintro e w10 ⟨rfl, t10⟩; rw [HS9.out]; have HT := Lib.hid (HT.out.trans t10 (fun _ _ h => h)); clear t10)
    | (go_at_call 12; (with_reducible refine (awake4 _).mono ?_); rintro e w11 ⟨rfl, t11⟩; have HT := Lib.hid (HT.out.trans t11 (fun _ _ h => h)); clear t11))
  go_ret
  exact ⟨rfl, HT.out⟩
theorem frameTakes_holds : Rows.FrameTakesSaid := by
  refine frameTakes.said fun H enc W base v0 v1 v2 v3 d0 d1 d2 d3 p0 p1 p2 p3 h0 h1 h2 h3 => ?_
  obtain ⟨a, len, cap, fs, rfl, hr, _⟩ := h0.frames
  obtain ⟨a2, len2, cap2, more, rfl, hr2, _, _⟩ := h1.bytes Try.underlying22 Try.underlying5 (by kernel_rfl) (by kernel_rfl)
  obtain ⟨a3, len3, cap3, ps, rfl, hr3⟩ := h2.ints Try.underlying32 Try.underlying3 (by kernel_rfl)
  obtain ⟨x, rfl, hx⟩ := h3.u8 Try.underlying5
  exact (takes_walk a len cap fs a2 len2 cap2 more a3 len3 cap3 ps x W hr hr2 hr3 hx).mono fun e w' h => ⟨h.1, h.2.under (Nat.le_refl _)⟩
end Go.Proofs.Ytjmhfbfpndpkkaa
