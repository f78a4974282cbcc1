/- Frames: what the reference's Take answers. -/
import Derived.Test.YtibpnlhdpdfhiaaDoorFrmTakeZ
import Derived.Test.YtibpnlhdpdfhiaaDoorFrmU32Z
import Derived.Test.YtibpnlhdpdfhiaaDoorGAZ
import Derived.Test.YtibpnlhdpdfhiaaDoorBitsZ
import Derived.Deep.RegionHeld3
set_option linter.unusedVariables false
namespace Go.Proofs.YtibpnlhdpdfhiaaDoor
open Go.RowKit

set_option maxRecDepth 20000 in
set_option maxHeartbeats 8000000 in
theorem rtake_any (a : Option Addr) (len cap : Nat) (xs : List Nat) (w : World) (hr : RowB w a len cap xs) (hlen : len ≤ 140737488355328) :
    Calls Tryd.prog 48 #[.slice a len cap] w fun e w' => TakeIs w w' xs e := by
  have hx := hr.1
  have hcap := hr.2.1
  have hsm := hr.2.2.2.2.1
  have hn6 := tkN_lt xs hsm
  obtain ⟨W1, hW1⟩ : ∃ W1, w.alloc (.cells #[.int .i64 0, .int .i64 0, .slice none 0 0] 33) = W1 := ⟨_, rfl⟩
  have HT := Lib.hid (hW1 ▸ (Touch.refl _ _).alloc _ : Touch w W1 (fun _ => False))
  have HG1 : RowKit.Hid (W1.heap[w.heap.size]? = some (.cells (fcs 0 0 none 0 0) 33 (0, 0))) := Lib.hid (hW1 ▸ heap_alloc_new w _)
  have HR1 := Lib.hid (hr.touch HT.out (fun _ _ => .inr (fun h => h)))
  have HX := Lib.hid hx
  have HSM := Lib.hid hsm
  have HTF := Lib.hid infoF
  obtain ⟨B, hB⟩ : ∃ B, W1.heap.size = B := ⟨_, rfl⟩
  have t2 := (Touch.refl W1 (fun _ => False)).alloc (.cells #[.int .i64 0, .int .i64 0, .slice none 0 0] 33)
  have HB := Lib.hid t2
  have HG := Lib.hid (t2.keeps HG1.out (fun h => h))
  have HN : RowKit.Hid ((W1.alloc (.cells #[.int .i64 0, .int .i64 0, .slice none 0 0] 33)).heap[B]? = some (.cells (fcs 0 0 none 0 0) 33 (0, 0))) := Lib.hid (hB ▸ heap_alloc_new W1 _)
  have HR := Lib.hid (HR1.out.touch HB.out (fun _ _ => .inr (fun h => h)))
  have hr0 := Lib.hid hr.lt
  clear hr hx hsm t2
  by_cases hs : len < 16
  case pos =>
    have hh : hdE xs = 2 := by unfold hdE; rw [if_pos (by rw [HX.out]; exact hs)]
    have he : tkE xs = 2 := by unfold tkE; rw [if_pos (by omega), hh]
    have hs' : (len : Int) < 16 := by omega
    have HE := Lib.hid he
    clear hh he hs
    go_enter Tryd.func48, Tryd.ntmps48
    go_wp2_with (first
      | (refine wpList_load_row rfl 33 (.tmp 5) rfl B rfl _ _ _ _ HN.out Tryd.underlying33 rfl HTF.out ?_)
      | (refine store_row rfl 33 (.tmp 2) (.tmp 11) rfl w.heap.size _ rfl rfl _ _ HG.out HTF.out rfl rfl ?_))
    refine ret_row2 rfl rfl w.heap.size 33 (fcs 0 0 none 0 0) (0, 0) _ rfl ?hg Tryd.underlying33 rfl ?hi _ _ rfl rfl ?hR
    case hg => exact setRow_heap _ _ _ _ _ _ HG.out
    case hi => exact HTF.out
    case hR => exact TakeIs.bad HE.out (by decide) ((HT.out.trans HB.out (fun _ _ h => h)).setRow _ _ (fun h => absurd h (Nat.lt_irrefl _)))
  case neg =>
  have hs' : ¬ (len : Int) < 16 := by omega
  obtain ⟨b, off, rfl⟩ := HR1.out.some (by omega)
  have l6 : (6 : Int) < len := by omega
  have l7 : (7 : Int) < len := by omega
  have c6 := HR.out.gb 6 (by omega)
  have c7 := HR.out.gb 7 (by omega)
  have b6 := gb_lt xs HSM.out 6
  have b7 := gb_lt xs HSM.out 7
  have o1 : bits BinOp.or IntKind.i64 ((gb xs 6 : Int) * 256) (gb xs 7 : Int) = (tkN xs : Nat) := by
    rw [or_i64 _ _ 8 (by omega) (by omega) (by omega) (by omega) (by omega) (by omega)]; unfold tkN; omega
  go_enter Tryd.func48, Tryd.ntmps48
  go_wp2_with fail
  go_quiet (fail)
  clear c6 c7 o1 l6 l7 b6 b7
  have tq := (Touch.refl (W1.alloc (.cells #[.int .i64 0, .int .i64 0, .slice none 0 0] 33)) (fun _ => False)).drewN nq
  generalize hWq : (W1.alloc (.cells #[.int .i64 0, .int .i64 0, .slice none 0 0] 33)).drewN nq = W4 at *
  have HB := Lib.hid (HB.out.trans tq (fun _ _ h => h))
  have HG := Lib.hid (tq.keeps HG.out (fun h => h))
  have HN := Lib.hid (tq.keeps HN.out (fun h => h))
  have HR := Lib.hid (HR.out.touch tq (fun _ _ => .inr (fun h => h)))
  clear tq hWq nq
  have hsr := str_row (HR.out.take 4 (by omega))
  have hst := strB_lit (xs.take 4) [103, 111, 105, 116] [103, 111, 105, 116] goit_bytes (fun x hx => HSM.out x (List.mem_of_mem_take hx)) (by decide)
  have hl16 : ¬ xs.length < 16 := by rw [HX.out]; omega
  have HL16 := Lib.hid hl16
  have h4c : (4 : Int) ≤ cap := by omega
  clear hl16
  by_cases hm : xs.take 4 = [103, 111, 105, 116]
  case neg =>
    have hh : hdE xs = 3 := by unfold hdE; rw [if_neg HL16.out, if_pos hm]
    have he : tkE xs = 3 := by unfold tkE; rw [if_pos (by omega), hh]
    have HE := Lib.hid he
    rw [decide_eq_false hm] at hst
    clear hh he hm
    go_wp2_with (first
      | (refine wpList_load_row rfl 33 (.tmp 5) rfl B rfl _ _ _ _ HN.out Tryd.underlying33 rfl HTF.out ?_)
      | (refine store_row rfl 33 (.tmp 2) (.tmp 27) rfl w.heap.size _ rfl rfl _ _ HG.out HTF.out rfl rfl ?_))
    refine ret_row2 rfl rfl w.heap.size 33 (fcs 0 0 none 0 0) (0, 0) _ rfl ?hg Tryd.underlying33 rfl ?hi _ _ rfl rfl ?hR
    case hg => exact setRow_heap _ _ _ _ _ _ HG.out
    case hi => exact HTF.out
    case hR => exact TakeIs.bad HE.out (by decide) ((HT.out.trans HB.out (fun _ _ h => h)).setRow _ _ (fun h => absurd h (Nat.lt_irrefl _)))
  case pos =>
  rw [decide_eq_true hm] at hst
  have HM : RowKit.Hid (¬ xs.take 4 ≠ [103, 111, 105, 116]) := Lib.hid (fun h => h hm)
  clear hm
  obtain ⟨A8, C8, hs8, hP8⟩ := slice_l (some ⟨b, off, none⟩) len cap 8 8 rfl (by omega) hcap
  have HP8 := Lib.hid hP8
  have h8c : (8 : Int) ≤ cap := by omega
  clear hP8
  go_wp2_with fail
  have hr8 := HP8.out.row _ _ HR.out (Nat.le_refl _)
  rw [List.take_of_length_le (by rw [HX.out]; omega)] at hr8
  have HR8 := Lib.hid hr8
  have HD8 := Lib.hid (b4_drop xs 8)
  clear hr8 hsr hst
  go_quiet (first
    | (go_at_call 45; exact Calls.quiet_of_same (rcrc_same _ _ _ _ _ (HR.out.take 8 (by omega))))
    | (go_at_call 80; exact Calls.quiet_of (u32_any _ _ _ _ _ HR8.out (by omega))))
  rw [HD8.out]
  have tq := (Touch.refl W4 (fun _ => False)).drewN nq
  generalize hWq : W4.drewN nq = W5 at *
  have HB := Lib.hid (HB.out.trans tq (fun _ _ h => h))
  have HG := Lib.hid (tq.keeps HG.out (fun h => h))
  have HN := Lib.hid (tq.keeps HN.out (fun h => h))
  have HR := Lib.hid (HR.out.touch tq (fun _ _ => .inr (fun h => h)))
  clear tq hWq nq
  have c8 := b4_lt xs HSM.out 8
  by_cases h5 : (b4 xs 8 : Int) = crcF (xs.take 8)
  case neg =>
    have hh : hdE xs = 5 := by unfold hdE; rw [if_neg HL16.out, if_neg HM.out, if_pos h5]
    have he : tkE xs = 5 := by unfold tkE; rw [if_pos (by omega), hh]
    have HE := Lib.hid he
    have hb5 : ((b4 xs 8 : Int) != crcF (xs.take 8)) = true := bne_iff_ne.2 h5
    clear hh he h5
    go_wp2_with (first
      | (refine wpList_load_row rfl 33 (.tmp 5) rfl B rfl _ _ _ _ HN.out Tryd.underlying33 rfl HTF.out ?_)
      | (refine store_row rfl 33 (.tmp 2) (.tmp 36) rfl w.heap.size _ rfl rfl _ _ HG.out HTF.out rfl rfl ?_))
    refine ret_row2 rfl rfl w.heap.size 33 (fcs 0 0 none 0 0) (0, 0) _ rfl ?hg Tryd.underlying33 rfl ?hi _ _ rfl rfl ?hR
    case hg => exact setRow_heap _ _ _ _ _ _ HG.out
    case hi => exact HTF.out
    case hR => exact TakeIs.bad HE.out (by decide) ((HT.out.trans HB.out (fun _ _ h => h)).setRow _ _ (fun h => absurd h (Nat.lt_irrefl _)))
  case pos =>
  have hb5 : ((b4 xs 8 : Int) != crcF (xs.take 8)) = false := bne_eq_false_iff_eq.2 h5
  by_cases h4 : 4096 < tkN xs
  case pos =>
    have hh : hdE xs = 4 := by unfold hdE; rw [if_neg HL16.out, if_neg HM.out, if_neg (fun h => h h5), if_pos h4]
    have he : tkE xs = 4 := by unfold tkE; rw [if_pos (by omega), hh]
    have HE := Lib.hid he
    have h4' : (4096 : Int) < tkN xs := by omega
    clear hh he h5
    go_wp2_with (first
      | (refine wpList_load_row rfl 33 (.tmp 5) rfl B rfl _ _ _ _ HN.out Tryd.underlying33 rfl HTF.out ?_)
      | (refine store_row rfl 33 (.tmp 2) (.tmp 40) rfl w.heap.size _ rfl rfl _ _ HG.out HTF.out rfl rfl ?_))
    refine ret_row2 rfl rfl w.heap.size 33 (fcs 0 0 none 0 0) (0, 0) _ rfl ?hg Tryd.underlying33 rfl ?hi _ _ rfl rfl ?hR
    case hg => exact setRow_heap _ _ _ _ _ _ HG.out
    case hi => exact HTF.out
    case hR => exact TakeIs.bad HE.out (by decide) ((HT.out.trans HB.out (fun _ _ h => h)).setRow _ _ (fun h => absurd h (Nat.lt_irrefl _)))
  case neg =>
  have h4' : ¬ (4096 : Int) < tkN xs := by omega
  have hh : hdE xs = 0 := by unfold hdE; rw [if_neg HL16.out, if_neg HM.out, if_neg (fun h => h h5), if_neg h4]
  have HH : RowKit.Hid (¬ hdE xs ≠ 0) := Lib.hid (fun h => h hh)
  clear hh h5
  by_cases h2 : len < 16 + tkN xs
  case pos =>
    have he : tkE xs = 2 := by unfold tkE; rw [if_neg HH.out, if_pos (by rw [HX.out]; exact h2)]
    have HE := Lib.hid he
    have h2' : (len : Int) < 16 + (tkN xs : Nat) := by omega
    clear he
    go_wp2_with (first
      | (refine wpList_load_row rfl 33 (.tmp 5) rfl B rfl _ _ _ _ HN.out Tryd.underlying33 rfl HTF.out ?_)
      | (refine store_row rfl 33 (.tmp 2) (.tmp 47) rfl w.heap.size _ rfl rfl _ _ HG.out HTF.out rfl rfl ?_))
    refine ret_row2 rfl rfl w.heap.size 33 (fcs 0 0 none 0 0) (0, 0) _ rfl ?hg Tryd.underlying33 rfl ?hi _ _ rfl rfl ?hR
    case hg => exact setRow_heap _ _ _ _ _ _ HG.out
    case hi => exact HTF.out
    case hR => exact TakeIs.bad HE.out (by decide) ((HT.out.trans HB.out (fun _ _ h => h)).setRow _ _ (fun h => absurd h (Nat.lt_irrefl _)))
  case neg =>
  have h2' : ¬ (len : Int) < 16 + (tkN xs : Nat) := by omega
  obtain ⟨A, C, hsl, hP⟩ := slice_lh (some ⟨b, off, none⟩) len cap 16 (16 + (tkN xs : Nat) : Int) 16 (16 + tkN xs) rfl (by omega) (by omega) (by omega)
  obtain ⟨A2, C2, hs2, hP2⟩ := slice_l (some ⟨b, off, none⟩) len cap 12 12 rfl (by omega) hcap
  have HP := Lib.hid hP
  have HP2 := Lib.hid hP2
  have hle : 16 + tkN xs - 16 = tkN xs := by omega
  rw [hle] at hsl
  have hw16 : IntKind.i64.wrap (16 + (tkN xs : Int)) = 16 + (tkN xs : Nat) := IntWalk.i64_in _ (by omega)
  have HW16 := Lib.hid hw16
  have hN2 : RowKit.Hid (¬ xs.length < 16 + tkN xs) := Lib.hid (by rw [HX.out]; exact h2)
  have hrY := HP.out.row _ _ HR.out (by omega)
  rw [hle] at hrY
  generalize hYd : (xs.take (16 + tkN xs)).drop 16 = Y at *
  have HYD := Lib.hid hYd
  have HY := Lib.hid hrY
  have HYL := Lib.hid hrY.1
  have hr12 := HP2.out.row _ _ HR.out (Nat.le_refl _)
  rw [List.take_of_length_le (by rw [HX.out]; omega)] at hr12
  have HR2 := Lib.hid hr12
  have HD2 := Lib.hid (b4_drop xs 12)
  have tkb : tkN xs ≤ 4096 := by omega
  clear hP hP2 hle hrY hYd hr12 hs8 hw16
  go_wp2_with fail
  have hw16 := HW16.out
  have hl12 : 4 ≤ len - 12 := by omega
  go_quiet (first
    | (go_at_call 45; exact Calls.quiet_of_same (rcrc_same _ _ _ _ _ HY.out))
    | (go_at_call 80; exact Calls.quiet_of (u32_any _ _ _ _ _ HR2.out hl12)))
  rw [HD2.out]
  clear hw16 hl12 hs2
  have tq := (Touch.refl W5 (fun _ => False)).drewN nq
  generalize hWq : W5.drewN nq = W6 at *
  have HB := Lib.hid (HB.out.trans tq (fun _ _ h => h))
  have HG := Lib.hid (tq.keeps HG.out (fun h => h))
  have HN := Lib.hid (tq.keeps HN.out (fun h => h))
  have HR := Lib.hid (HR.out.touch tq (fun _ _ => .inr (fun h => h)))
  have HY := Lib.hid (HY.out.touch tq (fun _ _ => .inr (fun h => h)))
  clear tq hWq nq
  by_cases h6 : (b4 xs 12 : Int) = crcF Y
  case neg =>
    have he : tkE xs = 5 := by unfold tkE; rw [if_neg HH.out, if_neg hN2.out, if_pos (by rw [HYD.out]; exact h6)]
    have HE := Lib.hid he
    have hb6 : ((b4 xs 12 : Int) != crcF Y) = true := bne_iff_ne.2 h6
    clear he h6
    go_wp2_with (first
      | (refine wpList_load_row rfl 33 (.tmp 5) rfl B rfl _ _ _ _ HN.out Tryd.underlying33 rfl HTF.out ?_)
      | (refine store_row rfl 33 (.tmp 2) (.tmp 58) rfl w.heap.size _ rfl rfl _ _ HG.out HTF.out rfl rfl ?_))
    refine ret_row2 rfl rfl w.heap.size 33 (fcs 0 0 none 0 0) (0, 0) _ rfl ?hg Tryd.underlying33 rfl ?hi _ _ rfl rfl ?hR
    case hg => exact setRow_heap _ _ _ _ _ _ HG.out
    case hi => exact HTF.out
    case hR => exact TakeIs.bad HE.out (by decide) ((HT.out.trans HB.out (fun _ _ h => h)).setRow _ _ (fun h => absurd h (Nat.lt_irrefl _)))
  case pos =>
    have he : tkE xs = 0 := by unfold tkE; rw [if_neg HH.out, if_neg hN2.out, if_neg (by rw [HYD.out]; exact fun h => h h6)]
    have HE := Lib.hid he
    have hb6 : ((b4 xs 12 : Int) != crcF Y) = false := bne_eq_false_iff_eq.2 h6
    have e1 : tkY xs = Y := by unfold tkY; rw [if_pos he]; exact HYD.out
    have e2 : tkK xs = gb xs 4 := by unfold tkK; rw [if_pos he]
    have e3 : tkV xs = gb xs 5 := by unfold tkV; rw [if_pos he]
    have e4 : tkM xs = 16 + tkN xs := by unfold tkM; rw [if_pos he]
    have E1 := Lib.hid e1
    have E2 := Lib.hid e2
    have E3 := Lib.hid e3
    have E4 := Lib.hid e4
    clear he h6 e1 e2 e3 e4
    have l4 : (4 : Int) < len := by omega
    have l5 : (5 : Int) < len := by omega
    go_wp2_with fail
    have t0 := (Touch.refl W6 (fun _ => False)).drew
    have HB := Lib.hid (HB.out.trans t0 (fun _ _ h => h))
    have HG := Lib.hid (t0.keeps HG.out (fun h => h))
    have HY := Lib.hid (HY.out.touch t0 (fun _ _ => .inr (fun h => h)))
    have HR := Lib.hid (HR.out.touch t0 (fun _ _ => .inr (fun h => h)))
    have c4 := HR.out.gb 4 (by omega)
    have c5 := HR.out.gb 5 (by omega)
    have b4' := gb_lt xs HSM.out 4
    have b5' := gb_lt xs HSM.out 5
    have i1 : (16 : Int) ≤ 16 + (tkN xs : Nat) := by omega
    have i2 : (16 : Int) + (tkN xs : Nat) ≤ cap := by omega
    have hlY : tkN xs ≤ 140737488355328 := by omega
    have HNE : RowKit.Hid (w.heap.size < W1.heap.size) := Lib.hid (heap_lt HG1.out)
    have HW4 : RowKit.Hid (IntKind.i64.wrap (gb xs 4 : Int) = (gb xs 4 : Nat)) := Lib.hid (IntWalk.i64_in _ (by omega))
    have HW5 : RowKit.Hid (IntKind.i64.wrap (gb xs 5 : Int) = (gb xs 5 : Nat)) := Lib.hid (IntWalk.i64_in _ (by omega))
    clear t0
    obtain ⟨g0, g1, g2⟩ := fcells_of HG.out
    have f0 := free_of_cells HG.out
    have hbF : RowKit.Hid (∀ x, some (⟨b, off, none⟩ : Addr) = some x → len = 0 ∨ ¬ x.block = w.heap.size) := Lib.hid (fun x hx => by have := hr0.out x hx; omega)
    have le4 : 4 < len := by omega
    have le5 : 5 < len := by omega
    have hw16 := HW16.out
    go_region_held3 (fun w' => w'.cell? ⟨b, off + 4, none⟩ = some (.int .u8 (gb xs 4 : Nat)) ∧ w'.cell? ⟨b, off + 5, none⟩ = some (.int .u8 (gb xs 5 : Nat)))
      (first
        | (with_reducible exact ⟨HR.out.gb 4 le4, HR.out.gb 5 le5⟩)
        | (with_reducible exact ⟨HRN.out.gb 4 le4, HRN.out.gb 5 le5⟩)
        | (with_reducible exact ⟨(HRN.out.touch (touchF _ _ _ _ _) hbF.out).gb 4 le4, (HRN.out.touch (touchF _ _ _ _ _) hbF.out).gb 5 le5⟩)
        | go_keep)
      ((refine step_appendB rfl _ _ 25 rfl 5 Tryd.underlying25 infoB W6.heap.size (.slice none 0 0) [] rfl (OwnB.nil _ _ _) _ _ _ Y rfl HY.out (tkN xs) Y rfl HYL.out hlY (Nat.le_refl _) ?_; intro a8 c8 w8 hown hrow hg hpl; have t8 : Touch W6.drew w8 (fun _ => False) := (Touch.refl _ (fun _ => False)).grown hg (fun k hk _ => nomatch hk); have HF : RowKit.Hid (FreshB W6.drew w8 (.slice a8 (tkN xs) c8) Y) := Lib.hid ⟨hown, t8⟩; have HG := Lib.hid (t8.keeps HG.out (fun h => h)); have HRN := Lib.hid (HR.out.touch t8 (fun _ _ => .inr (fun h => h))); obtain ⟨g0, g1, g2⟩ := fcells_of HG.out; have f8 := free_of_cells HG.out; clear t8 hown hrow hg hpl))
    all_goals (
      rw [HW4.out, HW5.out]
      go_wp2
      refine ret_row2 (by rfl) (by rfl) w.heap.size _ _ _ _ (by rfl) (by exact cellsF HG.out _ _ _) Tryd.underlying33 rfl (by exact infoF) _ _ (by rfl) (by rfl) ?_
      refine ⟨a8, c8, ?_, ?_⟩
      · rw [E1.out, E2.out, E3.out, E4.out, HE.out, HYL.out]; rfl
      · rw [E1.out, HYL.out]
        exact HF.out.past (HT.out.trans HB.out (fun _ _ h => h)) (touchF _ _ _ _ _) (fun k hk => ⟨by omega, by have := HNE.out; have := HB.out.size; omega⟩))
end Go.Proofs.YtibpnlhdpdfhiaaDoor
