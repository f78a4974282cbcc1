/- May a set of backends be, as the reference has it. -/
import Derived.Test.YtfjnhaoiecndpaaMagA
import Derived.Deep.DeepCutAuto
import Derived.Lib.QuietBelow
import Derived.BigQuiet
set_option linter.unusedVariables false
namespace Go.Proofs.Ytfjnhaoiecndpaa
open Go.RowKit

set_option maxRecDepth 20000 in
set_option maxHeartbeats 2000000 in
theorem rgmay_any (a : Option Addr) (len cap : Nat) (bs : List BkD) (w : World) (hr : RowK w a len cap bs) :
    Calls Try.prog 11 #[.slice a len cap] w fun e w' => e = .returned (.bool (gmay bs)) ∧ Touch w w' (fun _ => False) := by
  have hl := hr.len
  have hcap := hr.hmax
  have hcap1 := hr.hcap
  have HG := Lib.hid (gmay_iff bs)
  have HR := Lib.hid hr
  have HL := Lib.hid hl
  by_cases h16 : len ≤ 16
  case neg =>
    have HF : RowKit.Hid (gmay bs = false) := Lib.hid (by
      cases hh : gmay bs with
      | false => rfl
      | true => have := (HG.out.1 hh).1; omega)
    have h16I : (len : Int) > 16 := by omega
    clear hr hl
    go_enter Try.func11, Try.ntmps11
    go_wp2
    go_ret
    exact ⟨by rw [HF.out]; rfl, Touch.refl _ _⟩
  case pos =>
  have h16I : ¬ (len : Int) > 16 := by omega
  clear hr hl
  go_enter Try.func11, Try.ntmps11
  go_wp2_with fail
  go_loopw [10] (fun i wr => ∃ k : Nat, k ≤ len ∧ i = .int .i64 k ∧ Touch w wr (fun _ => False) ∧ ∀ j, j < k → okAt bs j = true) (fun i _ => len - (intOf i).toNat)
  case atStart => exact ⟨0, Nat.zero_le _, rfl, Touch.refl _ _, fun j hj => by omega⟩
  case round =>
    obtain ⟨k, hk, rfl, ht, he⟩ := hrel
    have HT := Lib.hid ht
    have HE := Lib.hid he
    clear he ht
    by_cases hlt : k < len
    case neg =>
      obtain rfl : len = k := by omega
      have hlt' : ¬ (len : Int) < len := by omega
      have HF : RowKit.Hid (gmay bs = true) := Lib.hid (HG.out.2 ⟨by rw [HL.out]; exact h16, fun i hi => HE.out i (by rw [← HL.out]; exact hi)⟩)
      go_wp2
      go_ret
      exact ⟨by rw [HF.out]; rfl, HT.out⟩
    case pos =>
    have hr := HR.out.still HT.out
    obtain ⟨b, off, rfl⟩ := hr.some (by omega)
    have hk1 : k < bs.length := by rw [HL.out]; exact hlt
    obtain ⟨c0, c1, c2⟩ := hr.cells k hk1
    have HK : RowKit.Hid (bs[k]? = some bs[k]) := Lib.hid (List.getElem?_eq_getElem hk1)
    have HFA : RowKit.Hid (okAt bs k = false → gmay bs = false) := Lib.hid (fun h => by
      cases hh : gmay bs with
      | false => rfl
      | true => rw [(HG.out.1 hh).2 k hk1] at h; cases h)
    obtain ⟨W1, hW1⟩ : ∃ W, wr.alloc (.cells #[.int .i64 bs[k].id, .int .u32 bs[k].addr, .int .i64 bs[k].weight] 28) = W := ⟨_, rfl⟩
    have t1 : Touch wr W1 (fun _ => False) := hW1 ▸ (Touch.refl wr _).alloc _
    have HR1 := Lib.hid (hr.still t1)
    have g1 : W1.heap[wr.heap.size]? = some (.cells #[.int .i64 bs[k].id, .int .u32 bs[k].addr, .int .i64 bs[k].weight] 28 (0, 0)) := hW1 ▸ heap_alloc_new ..
    have x0 : W1.cell? ⟨wr.heap.size, 0, none⟩ = some (.int .i64 bs[k].id) := cell_of_cells g1 0
    have x1 : W1.cell? ⟨wr.heap.size, 1, none⟩ = some (.int .u32 bs[k].addr) := cell_of_cells g1 1
    have x2 : W1.cell? ⟨wr.heap.size, 2, none⟩ = some (.int .i64 bs[k].weight) := cell_of_cells g1 2
    have HX0 := Lib.hid x0
    have HX1 := Lib.hid x1
    have HX2 := Lib.hid x2
    have HG1 := Lib.hid g1
    have HKC : RowKit.Hid (∀ W, Touch W1 W (fun _ => False) → W.cell? ⟨wr.heap.size, 0, none⟩ = some (.int .i64 bs[k].id) ∧ W.cell? ⟨wr.heap.size, 1, none⟩ = some (.int .u32 bs[k].addr) ∧ W.cell? ⟨wr.heap.size, 2, none⟩ = some (.int .i64 bs[k].weight)) := Lib.hid (fun W t => by
      have g := t.keeps g1 (fun h => h)
      exact ⟨cell_of_cells g 0, cell_of_cells g 1, cell_of_cells g 2⟩)
    have HT1 := Lib.hid (HT.out.trans t1 (fun _ _ h => h))
    have HW1 := Lib.hid hW1
    have HMK : RowKit.Hid (∀ W, Calls Try.prog 27 #[.agg #[.int .i64 bs[k].id, .int .u32 bs[k].addr, .int .i64 bs[k].weight]] W fun e w' => e = .returned (.bool (mayKB bs[k])) ∧ Touch W w' (fun _ => False)) := Lib.hid (fun W => rmayK_any bs[k] W)
    clear hr t1 g1 hW1 x0 x1 x2
    have hlI : (k : Int) < len := by omega
    cases hm : mayKB bs[k]
    case false =>
      rw [hm] at HMK
      have HOK : RowKit.Hid (gmay bs = false) := Lib.hid (HFA.out (by unfold okAt; rw [HK.out]; simp [hm]))
      clear hm HK HFA
      generalize bs[k] = f at *
      go_upto_region 6 with (fail)
      rw [HW1.out]
      have x0 := fun d os => cell_regrown HX0.out d os
      have x1 := fun d os => cell_regrown HX1.out d os
      have x2 := fun d os => cell_regrown HX2.out d os
      have cM := fun d os => Calls.regrown_of ((HMK.out (Sort.grow (redrawn W1 d) os)).mono (fun e w' h => ⟨h.1, h.2.below (fun _ _ h => h.elim) (Nat.le_refl _)⟩))
      refine wp_region_quiet_below (by kernel_rfl) (by kernel_rfl) ?_
      repeat (go_big_quiet_step (exact cM _ _))
      refine wpQuiet_nil ?_
      intro _ hw'
      obtain ⟨⟨dq, osq⟩, hw''⟩ := hw'
      subst hw''
      have HT6 := Lib.hid (HT1.out.trans (Touch.ofBelow (S := fun _ => False) (below_regrown W1 dq osq) (fun k h1 h2 => by omega)) (fun _ _ h => h))
      go_wp2
      go_ret
      exact ⟨by rw [HOK.out]; rfl, HT6.out⟩
    case true =>
      rw [hm] at HMK
      cases k with
      | zero =>
        have HOK : RowKit.Hid (okAt bs 0 = true) := Lib.hid (by rw [okAt_zero HK.out]; exact hm)
        clear hm HK HFA
        generalize bs[0] = f at *
        simp only [Nat.zero_mul, Nat.add_zero] at c0 c1 c2
        go_upto_region 6 with (fail)
        rw [HW1.out]
        have x0 := fun d os => cell_regrown HX0.out d os
        have x1 := fun d os => cell_regrown HX1.out d os
        have x2 := fun d os => cell_regrown HX2.out d os
        have cM := fun d os => Calls.regrown_of ((HMK.out (Sort.grow (redrawn W1 d) os)).mono (fun e w' h => ⟨h.1, h.2.below (fun _ _ h => h.elim) (Nat.le_refl _)⟩))
        refine wp_region_quiet_below (by kernel_rfl) (by kernel_rfl) ?_
        repeat (go_big_quiet_step (exact cM _ _))
        refine wpQuiet_nil ?_
        intro _ hw'
        obtain ⟨⟨dq, osq⟩, hw''⟩ := hw'
        subst hw''
        have HT6 := Lib.hid (HT1.out.trans (Touch.ofBelow (S := fun _ => False) (below_regrown W1 dq osq) (fun k h1 h2 => by omega)) (fun _ _ h => h))
        go_wp2
        exact ⟨⟨1, hlt, rfl, HT6.out, fun j hj => by (obtain rfl : j = 0 := (by omega)); exact HOK.out⟩, by simp [intOf]; omega⟩
      | succ k =>
        have hk0 : k < bs.length := by omega
        obtain ⟨p, hp⟩ : ∃ p, bs[k] = p := ⟨_, rfl⟩
        have HCP : RowKit.Hid (∀ W, Touch W1 W (fun _ => False) → W.cell? ⟨b, off + k * 3, none⟩ = some (.int .i64 p.id)) := Lib.hid (fun W t => by
          have := ((HR1.out.still t).cells k hk0).1
          rwa [hp] at this)
        have hok := okAt_succ HK.out (show bs[k]? = some p by rw [List.getElem?_eq_getElem hk0, hp])
        rw [hm, Bool.true_and] at hok
        have HOK := Lib.hid hok
        clear hm hok HK hp
        generalize bs[k + 1] = f at *
        have hkl2 : (k : Int) < len := by omega
        have hkl3 : ¬ ((k : Int) + 1 = 0) := by omega
        obtain ⟨eb, heb⟩ : ∃ eb, decide (f.id ≤ p.id) = eb := ⟨_, rfl⟩
        have HEB := Lib.hid heb
        go_upto_region 6 with (fail)
        rw [HW1.out]
        have x0 := fun d os => cell_regrown HX0.out d os
        have x1 := fun d os => cell_regrown HX1.out d os
        have x2 := fun d os => cell_regrown HX2.out d os
        have cM := fun d os => Calls.regrown_of ((HMK.out (Sort.grow (redrawn W1 d) os)).mono (fun e w' h => ⟨h.1, h.2.below (fun _ _ h => h.elim) (Nat.le_refl _)⟩))
        have y2 := fun d os => cell_regrown (HCP.out W1 (Touch.refl _ _)) d os
        refine wp_region_quiet_below (by kernel_rfl) (by kernel_rfl) ?_
        repeat (go_big_quiet_step (exact cM _ _))
        refine wpQuiet_nil ?_
        intro _ hw'
        obtain ⟨⟨dq, osq⟩, hw''⟩ := hw'
        subst hw''
        have HT6 := Lib.hid (HT1.out.trans (Touch.ofBelow (S := fun _ => False) (below_regrown W1 dq osq) (fun k h1 h2 => by omega)) (fun _ _ h => h))
        clear heb
        cases eb with
        | true =>
          have HF : RowKit.Hid (gmay bs = false) := Lib.hid (HFA.out (by
            rw [HOK.out]
            have := of_decide_eq_true HEB.out
            exact decide_eq_false (by omega)))
          go_wp2
          go_ret
          exact ⟨by rw [HF.out]; rfl, HT6.out⟩
        | false =>
          go_wp2
          refine ⟨⟨k + 2, hlt, by go_num, HT6.out, fun j hj => ?_⟩, by simp [intOf]; omega⟩
          rcases Nat.lt_or_ge j (k + 1) with h9 | h9
          · exact HE.out j h9
          · obtain rfl : j = k + 1 := by omega
            rw [HOK.out]
            have := of_decide_eq_false HEB.out
            exact decide_eq_true (by omega)
end Go.Proofs.Ytfjnhaoiecndpaa
