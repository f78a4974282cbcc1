/- TupleBack: what is written is read, bytes and texts. -/
import Derived.Test.YthliikkllagodaaDoorFrTupleBackZ
import Derived.Test.YthliikkllagodaaDoorTupAwakeZ
import Derived.Test.YthliikkllagodaaDoorTupArgsZ
import Derived.Test.YthliikkllagodaaDoorTupBackMZ
import Derived.Test.YthliikkllagodaaDoorTupRunsZ
import Derived.Test.YthliikkllagodaaDoorTupOneZ
import Derived.Test.YthliikkllagodaaDoorCalmZ
import Derived.Deep.DeepCutAuto
set_option linter.unusedVariables false
namespace Go.Proofs.YthliikkllagodaaDoor
open Go.ChangeShapes Go.WideShapes Go.ChangeAt Go.RowKit

set_option maxRecDepth 20000 in
set_option maxHeartbeats 4000000 in
theorem tback_walk (a1 a2 a3 a4 a5 x : Int) (ok : TupOk ⟨a1, a2, a3, a4, a5⟩) (x0 : 0 ≤ x) (x1 : x ≤ 4294967295) (w : World) (hT : TabW w) (hE : ErrW w) (hM : MaxW w) :
    Calls Tryd.prog 8 #[.agg #[.int .u32 a1, .int .u32 a2, .int .i64 a3, .int .i64 a4, .int .i64 a5], .int .u32 x] w fun e w' => e = .returned (.bool true) ∧ Touch w w' (fun _ => False) := by
  obtain ⟨W1, hW1⟩ : ∃ W, w.alloc (.cells #[.int .u32 a1, .int .u32 a2, .int .i64 a3, .int .i64 a4, .int .i64 a5] 47) = W := ⟨_, rfl⟩
  have t1 : Touch w W1 (fun _ => False) := hW1 ▸ (Touch.refl w _).alloc _
  have g1 : W1.heap[w.heap.size]? = some (.cells (tcs ⟨a1, a2, a3, a4, a5⟩) 47 (0, 0)) := hW1 ▸ heap_alloc_new ..
  have HG : RowKit.Hid (∀ W, Touch W1 W (fun _ => False) → W.heap[w.heap.size]? = some (.cells (tcs ⟨a1, a2, a3, a4, a5⟩) 47 (0, 0))) := Lib.hid (fun W t => t.keeps g1 (fun h => h))
  have HC : RowKit.Hid (∀ W, Touch W1 W (fun _ => False) → W.cell? ⟨w.heap.size, 0, none⟩ = some (.int .u32 a1) ∧ W.cell? ⟨w.heap.size, 1, none⟩ = some (.int .u32 a2) ∧ W.cell? ⟨w.heap.size, 2, none⟩ = some (.int .i64 a3) ∧ W.cell? ⟨w.heap.size, 3, none⟩ = some (.int .i64 a4) ∧ W.cell? ⟨w.heap.size, 4, none⟩ = some (.int .i64 a5)) := Lib.hid (fun W t => tcells_of (HG.out W t))
  have HT := Lib.hid (hT.touch t1)
  have HE := Lib.hid (hE.touch t1)
  have HM := Lib.hid (hM.touch t1)
  have T1 := Lib.hid t1
  have HW1 := Lib.hid hW1
  have HIT := Lib.hid infoTup5
  obtain ⟨m, hm⟩ : ∃ m, mayTB ⟨a1, a2, a3, a4, a5⟩ = m := ⟨_, rfl⟩
  have okt : TupOk (turnT ⟨a1, a2, a3, a4, a5⟩) := ⟨ok.dst, ok.src, ok.proto, ok.dport, ok.sport⟩
  have hpa := pa_addr x x0 x1
  have HAD : RowKit.Hid (∀ W, Touch W1 W (fun _ => False) → Calls Tryd.prog 29 #[.int .u32 x] W fun e w' => e = .returned (.string (mkS (addrL x))) ∧ Touch W1 w' (fun _ => False)) := Lib.hid (fun W h => (addr_any x W x0 x1 (HT.out.touch h)).mono fun e w' k => ⟨k.1, h.trans k.2 (fun _ _ h => h)⟩)
  have HPR : RowKit.Hid (∀ W, Touch W1 W (fun _ => False) → Calls Tryd.prog 28 #[.string (mkS (addrL x))] W fun e w' => e = .returned (.tuple #[.int .u32 x, .bool true]) ∧ Touch W1 w' (fun _ => False)) := Lib.hid (fun W h => (parseAddr_any (addrL x) W (by have := addrL_len x x0 x1; omega) (HT.out.touch h) (HE.out.touch h) (HM.out.touch h)).mono fun e w' k => ⟨by rw [← hpa.1, ← hpa.2]; exact k.1, h.trans k.2 (fun _ _ h => h)⟩)
  have HU1 : RowKit.Hid (∀ W, Touch W1 W (fun _ => False) → Calls Tryd.prog 30 #[.agg #[.int .u32 a1, .int .u32 a2, .int .i64 a3, .int .i64 a4, .int .i64 a5]] W fun e w' => e = .returned (.agg #[.int .u32 a2, .int .u32 a1, .int .i64 a3, .int .i64 a5, .int .i64 a4]) ∧ Touch W1 w' (fun _ => False)) := Lib.hid (fun W h => (turn_any ⟨a1, a2, a3, a4, a5⟩ W).mono fun e w' k => ⟨k.1, h.trans k.2 (fun _ _ h => h)⟩)
  have HU2 : RowKit.Hid (∀ W, Touch W1 W (fun _ => False) → Calls Tryd.prog 30 #[.agg #[.int .u32 a2, .int .u32 a1, .int .i64 a3, .int .i64 a5, .int .i64 a4]] W fun e w' => e = .returned (.agg #[.int .u32 a1, .int .u32 a2, .int .i64 a3, .int .i64 a4, .int .i64 a5]) ∧ Touch W1 w' (fun _ => False)) := Lib.hid (fun W h => (turn_any ⟨a2, a1, a3, a5, a4⟩ W).mono fun e w' k => ⟨k.1, h.trans k.2 (fun _ _ h => h)⟩)
  have HMA : RowKit.Hid (∀ W, Touch W1 W (fun _ => False) → Calls Tryd.prog 31 #[.agg #[.int .u32 a1, .int .u32 a2, .int .i64 a3, .int .i64 a4, .int .i64 a5]] W fun e w' => e = .returned (.bool m) ∧ Touch W1 w' (fun _ => False)) := Lib.hid (fun W h => (mayT_any ⟨a1, a2, a3, a4, a5⟩ W).mono fun e w' k => ⟨by rw [← hm]; exact k.1, h.trans k.2 (fun _ _ h => h)⟩)
  have HTX : RowKit.Hid (∀ W, Touch W1 W (fun _ => False) → Calls Tryd.prog 33 #[.agg #[.int .u32 a1, .int .u32 a2, .int .i64 a3, .int .i64 a4, .int .i64 a5]] W fun e w' => e = .returned (.string (mkS (textL ⟨a1, a2, a3, a4, a5⟩))) ∧ Touch W1 w' (fun _ => False)) := Lib.hid (fun W h => (text_any ⟨a1, a2, a3, a4, a5⟩ ok W (HT.out.touch h)).mono fun e w' k => ⟨k.1, h.trans k.2 (fun _ _ h => h)⟩)
  have HAW : RowKit.Hid (∀ W, Touch W1 W (fun _ => False) → Calls Tryd.prog 34 #[] W fun e w' => e = .returned (.bool true) ∧ Touch W1 w' (fun _ => False)) := Lib.hid (fun W h => (awake7 W (HT.out.touch h)).mono fun e w' k => ⟨k.1, h.trans k.2 (fun _ _ h => h)⟩)
  clear t1 g1 hW1 hT hE hM
  go_enter Tryd.func8, Tryd.ntmps8
  go_upto_region 1 with (fail)
  rw [HW1.out]
  have T9 := Lib.hid (Touch.refl W1 (fun _ => False))
  go_wp2_with (first
    | (go_at_call 29; (with_reducible refine (HAD.out _ T9.out).mono ?_); rintro e w2 ⟨rfl, t2⟩; have T9 := Lib.hid t2; clear t2)
    | (go_at_call 28; (with_reducible refine (HPR.out _ T9.out).mono ?_); rintro e w3 ⟨rfl, t3⟩; have T9 := Lib.hid t3; clear t3))
  have hS := T9.out.drew
  refine wp_region_sched (fun w' => Touch W1 w' (fun _ => False)) [(0, true), (1, true), (2, true), (3, true), (4, true), (5, true), (6, true), (7, true), (8, true), (11, true), (9, false), (10, false), (12, true), (13, true)] (by kernel_rfl) (by kernel_rfl) rfl (by kernel_rfl) hS ?_
  (refine walkS_take (v := ?_) (some 21) rfl rfl (fun _ _ _ h => h) (by rfl) ?_ ?_; rotate_left; (focus (intro w' hw'; go_simp; (try with_reducible rfl))); (try simp only [Act.put, List.setIfInBounds_toArray, List.set_cons_zero, List.set_cons_succ]))
  (refine walkS_take (v := ?_) (some 22) rfl rfl (fun _ _ _ h => h) (by rfl) ?_ ?_; rotate_left; (focus (intro w' hw'; go_simp; (try with_reducible rfl))); (try simp only [Act.put, List.setIfInBounds_toArray, List.set_cons_zero, List.set_cons_succ]))
  (refine walkS_take (v := ?_) (some 23) rfl rfl (fun _ _ _ h => h) (by rfl) ?_ ?_; rotate_left; (focus (intro w' hw'; go_simp; (try with_reducible rfl))); (try simp only [Act.put, List.setIfInBounds_toArray, List.set_cons_zero, List.set_cons_succ]))
  first | (refine walkS_skip (some 24) rfl rfl (by rfl) (fun _ _ _ h => h) hS ?_; (try simp only [Act.put, List.setIfInBounds_toArray, List.set_cons_zero, List.set_cons_succ])) | (refine walkS_take (v := ?_) (some 24) rfl rfl (fun _ _ _ h => h) (by rfl) ?_ ?_; rotate_left; (focus (intro w' hw'; go_simp; (try with_reducible rfl))); (try simp only [Act.put, List.setIfInBounds_toArray, List.set_cons_zero, List.set_cons_succ]))
  first | (refine walkS_skip (some 25) rfl rfl (by rfl) (fun _ _ _ h => h) hS ?_; (try simp only [Act.put, List.setIfInBounds_toArray, List.set_cons_zero, List.set_cons_succ])) | (refine walkS_take (v := ?_) (some 25) rfl rfl (fun _ _ _ h => h) (by rfl) ?_ ?_; rotate_left; (focus (intro w' hw'; go_simp; (try with_reducible rfl))); (try simp only [Act.put, List.setIfInBounds_toArray, List.set_cons_zero, List.set_cons_succ]))
  first | (refine walkS_skip (some 26) rfl rfl (by rfl) (fun _ _ _ h => h) hS ?_; (try simp only [Act.put, List.setIfInBounds_toArray, List.set_cons_zero, List.set_cons_succ])) | (refine walkS_take (v := ?_) (some 26) rfl rfl (fun _ _ _ h => h) (by rfl) ?_ ?_; rotate_left; (focus (intro w' hw'; go_simp; (try with_reducible rfl))); (try simp only [Act.put, List.setIfInBounds_toArray, List.set_cons_zero, List.set_cons_succ]))
  (refine walkS_take (v := ?_) (some 27) rfl rfl (fun _ _ _ h => h) (by rfl) ?_ ?_; rotate_left; (focus (intro w' hw'; go_simp; (try with_reducible rfl))); (try simp only [Act.put, List.setIfInBounds_toArray, List.set_cons_zero, List.set_cons_succ]))
  (refine walkS_take (v := ?_) (some 28) rfl rfl (fun _ _ _ h => h) (by rfl) ?_ ?_; rotate_left; (focus (intro w' hw'; go_simp; (try with_reducible rfl))); (try simp only [Act.put, List.setIfInBounds_toArray, List.set_cons_zero, List.set_cons_succ]))
  first | (refine walkS_skip (some 29) rfl rfl (by rfl) (fun _ _ _ h => h) hS ?_; (try simp only [Act.put, List.setIfInBounds_toArray, List.set_cons_zero, List.set_cons_succ])) | (refine walkS_row (some 29) rfl rfl 47 (.tmp 2) rfl (w.heap.size) rfl _ _ _ _ (fun w' h => HG.out w' h) Tryd.underlying47 rfl HIT.out (fun _ _ _ h => h) (by rfl) ?_; (try simp only [Act.put, List.setIfInBounds_toArray, List.set_cons_zero, List.set_cons_succ]))
  first | (refine walkS_skip (some 32) rfl rfl (by rfl) (fun _ _ _ h => h) hS ?_; (try simp only [Act.put, List.setIfInBounds_toArray, List.set_cons_zero, List.set_cons_succ])) | (refine walkS_row (some 32) rfl rfl 47 (.tmp 2) rfl (w.heap.size) rfl _ _ _ _ (fun w' h => HG.out w' h) Tryd.underlying47 rfl HIT.out (fun _ _ _ h => h) (by rfl) ?_; (try simp only [Act.put, List.setIfInBounds_toArray, List.set_cons_zero, List.set_cons_succ]))
  first | (refine walkS_skip (some 30) rfl rfl (by rfl) (fun _ _ _ h => h) hS ?_; (try simp only [Act.put, List.setIfInBounds_toArray, List.set_cons_zero, List.set_cons_succ])) | (refine walkS_call 30 _ _ _ _ (HU1.out _ hS) rfl rfl rfl (by rfl) rfl (enter_turn _ _) ?_; clear hS; rintro e w2 ⟨rfl, hS⟩; refine ⟨_, rfl, hS, fun _ => ?_⟩; (try simp only [Act.put, List.setIfInBounds_toArray, List.set_cons_zero, List.set_cons_succ])) | (refine walkS_call 30 _ _ _ _ (HU2.out _ hS) rfl rfl rfl (by rfl) rfl (enter_turn _ _) ?_; clear hS; rintro e w2 ⟨rfl, hS⟩; refine ⟨_, rfl, hS, fun _ => ?_⟩; (try simp only [Act.put, List.setIfInBounds_toArray, List.set_cons_zero, List.set_cons_succ]))
  first | (refine walkS_skip (some 31) rfl rfl (by rfl) (fun _ _ _ h => h) hS ?_; (try simp only [Act.put, List.setIfInBounds_toArray, List.set_cons_zero, List.set_cons_succ])) | (refine walkS_call 31 _ _ _ _ (HU1.out _ hS) rfl rfl rfl (by rfl) rfl (enter_turn _ _) ?_; clear hS; rintro e w2 ⟨rfl, hS⟩; refine ⟨_, rfl, hS, fun _ => ?_⟩; (try simp only [Act.put, List.setIfInBounds_toArray, List.set_cons_zero, List.set_cons_succ])) | (refine walkS_call 31 _ _ _ _ (HU2.out _ hS) rfl rfl rfl (by rfl) rfl (enter_turn _ _) ?_; clear hS; rintro e w2 ⟨rfl, hS⟩; refine ⟨_, rfl, hS, fun _ => ?_⟩; (try simp only [Act.put, List.setIfInBounds_toArray, List.set_cons_zero, List.set_cons_succ]))
  first | (refine walkS_skip (some 33) rfl rfl (by rfl) (fun _ _ _ h => h) hS ?_; (try simp only [Act.put, List.setIfInBounds_toArray, List.set_cons_zero, List.set_cons_succ])) | (refine walkS_bin (some 33) _ _ _ _ _ _ _ _ (eqT_run _ _ _ _ _) rfl rfl rfl rfl rfl (fun _ _ _ h => h) (by rfl) ?_; (try simp only [Act.put, List.setIfInBounds_toArray, List.set_cons_zero, List.set_cons_succ]))
  (refine walkS_take (v := ?_) (some 34) rfl rfl (fun _ _ _ h => h) (by rfl) ?_ ?_; rotate_left; (focus (intro w' hw'; go_simp; (try with_reducible rfl))); (try simp only [Act.put, List.setIfInBounds_toArray, List.set_cons_zero, List.set_cons_succ]))
  refine walkS_done ?_
  have T9 := Lib.hid hS
  clear hS
  obtain ⟨c0, c1, c2, c3, c4⟩ := HC.out _ T9.out
  cases m with
  | false =>
    have hnb := parseB_not _ ok hm
    have hnr : parseR (textL ⟨a1, a2, a3, a4, a5⟩) = noT := by unfold parseR; rw [hnb]; rfl
    have htl := textL_len ⟨a1, a2, a3, a4, a5⟩ ok
    have HPA : RowKit.Hid (∀ W, Touch W1 W (fun _ => False) → Calls Tryd.prog 32 #[.string (mkS (textL ⟨a1, a2, a3, a4, a5⟩))] W fun e w' => e = .returned (.tuple #[.agg #[.int .u32 0, .int .u32 0, .int .i64 0, .int .i64 0, .int .i64 0], .bool false]) ∧ Touch W1 w' (fun _ => False)) := Lib.hid (fun W h => by
      have h2 := parse_any (textL ⟨a1, a2, a3, a4, a5⟩) W (by omega) (HT.out.touch h) (HE.out.touch h) (HM.out.touch h)
      rw [hnb, hnr] at h2
      exact h2.mono fun e w' k => ⟨k.1, h.trans k.2 (fun _ _ h => h)⟩)
    generalize mkS (textL ⟨a1, a2, a3, a4, a5⟩) = st at *
    clear hnb hnr htl hpa okt
    go_wp2_with (first
      | (go_at_call 31; (with_reducible refine (HMA.out _ T9.out).mono ?_); rintro e w3 ⟨rfl, t3⟩; have T9 := Lib.hid t3; clear t3; obtain ⟨c0, c1, c2, c3, c4⟩ := HC.out _ T9.out)
      | (go_at_call 33; (with_reducible refine (HTX.out _ T9.out).mono ?_); rintro e w4 ⟨rfl, t4⟩; have T9 := Lib.hid t4; clear t4; obtain ⟨c0, c1, c2, c3, c4⟩ := HC.out _ T9.out)
      | (go_at_call 32; (with_reducible refine (HPA.out _ T9.out).mono ?_); rintro e w5 ⟨rfl, t5⟩; have T9 := Lib.hid (t5.alloc (.cells #[.int .u32 0, .int .u32 0, .int .i64 0, .int .i64 0, .int .i64 0] 47)); clear t5; obtain ⟨c0, c1, c2, c3, c4⟩ := HC.out _ T9.out)
      | (go_at_call 34; (with_reducible refine (HAW.out _ T9.out).mono ?_); rintro e w6 ⟨rfl, t6⟩; have T9 := Lib.hid t6; clear t6))
    go_ret
    exact ⟨rfl, T1.out.trans T9.out (fun _ _ h => h)⟩
  | true =>
    have hyb := parseB_text _ ok hm
    have htl := textL_len ⟨a1, a2, a3, a4, a5⟩ ok
    have HPA : RowKit.Hid (∀ W, Touch W1 W (fun _ => False) → Calls Tryd.prog 32 #[.string (mkS (textL ⟨a1, a2, a3, a4, a5⟩))] W fun e w' => e = .returned (.tuple #[.agg #[.int .u32 a1, .int .u32 a2, .int .i64 a3, .int .i64 a4, .int .i64 a5], .bool true]) ∧ Touch W1 w' (fun _ => False)) := Lib.hid (fun W h => by
      have h2 := parse_any (textL ⟨a1, a2, a3, a4, a5⟩) W (by omega) (HT.out.touch h) (HE.out.touch h) (HM.out.touch h)
      rw [hyb.1, hyb.2] at h2
      exact h2.mono fun e w' k => ⟨k.1, h.trans k.2 (fun _ _ h => h)⟩)
    have HMT : RowKit.Hid (∀ W, Touch W1 W (fun _ => False) → Calls Tryd.prog 31 #[.agg #[.int .u32 a2, .int .u32 a1, .int .i64 a3, .int .i64 a5, .int .i64 a4]] W fun e w' => e = .returned (.bool true) ∧ Touch W1 w' (fun _ => False)) := Lib.hid (fun W h => by
      have hm2 : mayTB ⟨a2, a1, a3, a5, a4⟩ = true := by rw [mayTB_iff] at hm ⊢; exact ⟨hm.1, hm.2.2, hm.2.1⟩
      have h2 := mayT_any ⟨a2, a1, a3, a5, a4⟩ W
      rw [hm2] at h2
      exact h2.mono fun e w' k => ⟨k.1, h.trans k.2 (fun _ _ h => h)⟩)
    generalize mkS (textL ⟨a1, a2, a3, a4, a5⟩) = st at *
    have HOK := Lib.hid ok
    have HMM := Lib.hid hm
    clear hyb htl hpa okt hm ok
    go_wp2_with (go_at_call 31; (with_reducible refine (HMA.out _ T9.out).mono ?_); rintro e w3 ⟨rfl, t3⟩; have T3 := Lib.hid t3; have T9 := Lib.hid (t3.alloc (.cells #[.slice none 0 0] 58)); clear t3; obtain ⟨c0, c1, c2, c3, c4⟩ := HC.out _ T9.out)
    obtain ⟨tv, htv⟩ : ∃ y : TupD, (⟨a1, a2, a3, a4, a5⟩ : TupD) = y := ⟨_, rfl⟩
    have HW0 := Lib.hid (tWrite_any w3.heap.size w3.heap.size (fun _ => False) [] ⟨a1, a2, a3, a4, a5⟩ _ (WrE.fresh w3).toD HOK.out (by simp))
    refine HW0.out.mono ?_
    rintro e w4 ⟨rfl, hw4, t4⟩
    have hs3 : W1.heap.size ≤ w3.heap.size := T3.out.size
    have T9 := Lib.hid ((T3.out.alloc _).trans t4 (fun k h1 h2 => by have := h2.1; omega))
    have hwe := hw4.toE
    rw [List.nil_append] at hwe
    have HWE := Lib.hid hwe
    obtain ⟨xs, hxs⟩ : ∃ xs, tbF ⟨a1, a2, a3, a4, a5⟩ = xs := ⟨_, rfl⟩
    have hxl : xs.length = 13 := by rw [← hxs, tbF_length]
    have hbt : bytesT [⟨a1, a2, a3, a4, a5⟩] = xs := by rw [← hxs]; simp [bytesT]
    rw [hxs] at HWE
    have HBY := Lib.hid (e_wBytes w3.heap.size w3.heap.size xs w4 HWE.out (by omega) 13 hxl)
    have HNR : RowKit.Hid (∀ W a' c', RowB W a' 13 c' xs → Calls Tryd.prog 36 #[.slice a' 13 c'] W fun e w' => ∃ v, e = .returned v ∧ NewRd W w' v 13 xs) := Lib.hid (fun W a' c' h => newreader_any a' 13 c' xs W h (by omega))
    have HBT := Lib.hid hbt
    have HXL := Lib.hid hxl
    obtain ⟨c0, c1, c2, c3, c4⟩ := HC.out _ T9.out
    clear hw4 t4 hwe hxs hbt hxl htv
    go_wp2_with (first
      | (go_at_call 37; (with_reducible refine HBY.out.mono ?_); rintro e w5 ⟨a5', c5', rfl, hf5⟩; have HR5 := Lib.hid hf5.row'; have HT5 := Lib.hid hf5.2; clear hf5)
      | (go_at_call 36; have _u := HR5; (with_reducible refine (HNR.out _ _ _ HR5.out.2).mono ?_); rintro e w6 ⟨v6, rfl, G, a6, c6, rfl, hrd, t6, hG, ha6⟩; have HRD := Lib.hid hrd; have HT6 := Lib.hid t6; have HGG := Lib.hid hG; clear hrd t6 hG ha6))
    have T9 := Lib.hid ((T9.out.trans HT5.out (fun _ _ h => h)).trans HT6.out (fun _ _ h => h))
    have HWX : RowKit.Hid (∀ W, Touch w5 W (fun _ => False) → WrE W w3.heap.size w3.heap.size xs) := Lib.hid (fun W h => (HWE.out.still HT5.out).still h)
    have HRD2 : RowKit.Hid (RdD w6 G (fun _ => False) (bytesT [⟨a1, a2, a3, a4, a5⟩]) 0) := Lib.hid (by
      rw [HBT.out]
      exact ⟨id, a6, c6, by rw [HXL.out]; exact HRD.out, fun x hx => .inr id⟩)
    have h1 := read_one G ⟨a1, a2, a3, a4, a5⟩ [] HOK.out HMM.out w6 HRD2.out
    have hG5 : w5.heap.size ≤ G := HGG.out
    have hs5 : W1.heap.size ≤ w5.heap.size := by have := HT5.out.size; have := HWE.out.lt; omega
    simp only [tcs] at h1
    refine h1.mono ?_
    rintro e w7 ⟨rfl, hrd7, t7⟩
    have T9 := Lib.hid ((T9.out.trans t7 (fun k h1 h2 => by omega)).alloc (.cells #[.int .u32 a1, .int .u32 a2, .int .i64 a3, .int .i64 a4, .int .i64 a5] 47))
    have T5 := Lib.hid ((HT6.out.trans t7 (fun k h1 h2 => by omega)).alloc (.cells #[.int .u32 a1, .int .u32 a2, .int .i64 a3, .int .i64 a4, .int .i64 a5] 47))
    have HRD7 := Lib.hid (hrd7.still ((Touch.refl w7 (fun _ => False)).alloc (.cells #[.int .u32 a1, .int .u32 a2, .int .i64 a3, .int .i64 a4, .int .i64 a5] 47)))
    have HX7 := Lib.hid (heap_alloc_new w7 (.cells (tcs ⟨a1, a2, a3, a4, a5⟩) 47))
    clear h1 hrd7 t7
    obtain ⟨c0, c1, c2, c3, c4⟩ := HC.out _ T9.out
    obtain ⟨W8, hW8⟩ : ∃ W, w7.alloc (.cells #[.int .u32 a1, .int .u32 a2, .int .i64 a3, .int .i64 a4, .int .i64 a5] 47) = W := ⟨_, rfl⟩
    simp only [tcs] at HX7
    rw [hW8] at T9 T5 HRD7 HX7
    have HX : RowKit.Hid (∀ W, Touch W8 W (fun _ => False) → W.cell? ⟨w7.heap.size, 0, none⟩ = some (.int .u32 a1) ∧ W.cell? ⟨w7.heap.size, 1, none⟩ = some (.int .u32 a2) ∧ W.cell? ⟨w7.heap.size, 2, none⟩ = some (.int .i64 a3) ∧ W.cell? ⟨w7.heap.size, 3, none⟩ = some (.int .i64 a4) ∧ W.cell? ⟨w7.heap.size, 4, none⟩ = some (.int .i64 a5)) := Lib.hid (fun W t => tcells_of (t := ⟨a1, a2, a3, a4, a5⟩) (t.keeps HX7.out (fun h => h)))
    have HT8 := Lib.hid (HT.out.touch T9.out)
    have HE8 := Lib.hid (HE.out.touch T9.out)
    have HM8 := Lib.hid (HM.out.touch T9.out)
    have HOE : RowKit.Hid (∀ W, Touch W8 W (fun _ => False) → Calls Tryd.prog 40 #[.pointer (some ⟨G, 0, none⟩)] W fun e w' => e = .returned (.int .i64 0) ∧ W = w') := Lib.hid (fun W h => (d_rEnd G _ _ _ W (HRD7.out.still h)).mono fun e w' k => ⟨k.1, k.2.symm⟩)
    have HLN : RowKit.Hid (∀ W, Touch W8 W (fun _ => False) → Calls Tryd.prog 39 #[.pointer (some ⟨w3.heap.size, 0, none⟩)] W fun e w' => e = .returned (.int .i64 13) ∧ W = w') := Lib.hid (fun W h => by
      obtain ⟨_, v, hb⟩ := HWX.out W (T5.out.trans h (fun _ _ h => h))
      have hx := HXL.out
      exact (wlen_any w3.heap.size v xs w3.heap.size W hb).mono fun e w' k => ⟨by rw [k.1, hx]; rfl, k.2.symm⟩)
    have HT9 : RowKit.Hid (∀ W, Touch W8 W (fun _ => False) → Calls Tryd.prog 33 #[.agg #[.int .u32 a1, .int .u32 a2, .int .i64 a3, .int .i64 a4, .int .i64 a5]] W fun e w' => e = .returned (.string (mkS (textL ⟨a1, a2, a3, a4, a5⟩))) ∧ Touch W8 w' (fun _ => False)) := Lib.hid (fun W h => (text_any ⟨a1, a2, a3, a4, a5⟩ HOK.out W (HT8.out.touch h)).mono fun e w' k => ⟨k.1, h.trans k.2 (fun _ _ h => h)⟩)
    have HP9 : RowKit.Hid (∀ W, Touch W8 W (fun _ => False) → Calls Tryd.prog 32 #[.string (mkS (textL ⟨a1, a2, a3, a4, a5⟩))] W fun e w' => e = .returned (.tuple #[.agg #[.int .u32 a1, .int .u32 a2, .int .i64 a3, .int .i64 a4, .int .i64 a5], .bool true]) ∧ Touch W8 w' (fun _ => False)) := Lib.hid (fun W h => by
      have hyb := parseB_text _ HOK.out HMM.out
      have htl := textL_len ⟨a1, a2, a3, a4, a5⟩ HOK.out
      have h2 := parse_any (textL ⟨a1, a2, a3, a4, a5⟩) W (by omega) (HT8.out.touch h) (HE8.out.touch h) (HM8.out.touch h)
      rw [hyb.1, hyb.2] at h2
      exact h2.mono fun e w' k => ⟨k.1, h.trans k.2 (fun _ _ h => h)⟩)
    have HMT : RowKit.Hid (∀ W, Touch W8 W (fun _ => False) → Calls Tryd.prog 31 #[.agg #[.int .u32 a2, .int .u32 a1, .int .i64 a3, .int .i64 a5, .int .i64 a4]] W fun e w' => e = .returned (.bool true) ∧ Touch W8 w' (fun _ => False)) := Lib.hid (fun W h => by
      have hm := HMM.out
      have hm2 : mayTB ⟨a2, a1, a3, a5, a4⟩ = true := by rw [mayTB_iff] at hm ⊢; exact ⟨hm.1, hm.2.2, hm.2.1⟩
      have h2 := mayT_any ⟨a2, a1, a3, a5, a4⟩ W
      rw [hm2] at h2
      exact h2.mono fun e w' k => ⟨k.1, h.trans k.2 (fun _ _ h => h)⟩)
    have HU9 : RowKit.Hid (∀ W, Touch W8 W (fun _ => False) → Calls Tryd.prog 30 #[.agg #[.int .u32 a1, .int .u32 a2, .int .i64 a3, .int .i64 a4, .int .i64 a5]] W fun e w' => e = .returned (.agg #[.int .u32 a2, .int .u32 a1, .int .i64 a3, .int .i64 a5, .int .i64 a4]) ∧ Touch W8 w' (fun _ => False)) := Lib.hid (fun W h => (turn_any ⟨a1, a2, a3, a4, a5⟩ W).mono fun e w' k => ⟨k.1, h.trans k.2 (fun _ _ h => h)⟩)
    have HA9 : RowKit.Hid (∀ W, Touch W8 W (fun _ => False) → Calls Tryd.prog 34 #[] W fun e w' => e = .returned (.bool true) ∧ Touch W8 w' (fun _ => False)) := Lib.hid (fun W h => (awake7 W (HT8.out.touch h)).mono fun e w' k => ⟨k.1, h.trans k.2 (fun _ _ h => h)⟩)
    generalize mkS (textL ⟨a1, a2, a3, a4, a5⟩) = st at *
    have TE := Lib.hid (Touch.refl W8 (fun _ => False))
    obtain ⟨c0, c1, c2, c3, c4⟩ := HC.out _ T9.out
    clear hs3 hs5 hG5
    go_wp2_with fail
    clear hW8
    refine (HT9.out _ TE.out).mono ?_
    rintro e w9 ⟨rfl, t9⟩
    go_wp2_with (first
      | (go_at_call 32; (with_reducible refine (HP9.out _ t9).mono ?_); rintro e w10 ⟨rfl, t10⟩; have TE := Lib.hid (t10.alloc (.cells #[.int .u32 a1, .int .u32 a2, .int .i64 a3, .int .i64 a4, .int .i64 a5] 47)); clear t10; obtain ⟨c0, c1, c2, c3, c4⟩ := HC.out _ (T9.out.trans TE.out (fun _ _ h => h)); obtain ⟨d0, d1, d2, d3, d4⟩ := HX.out _ TE.out)
      | (go_at_call 39; (with_reducible refine (HLN.out _ TE.out).mono ?_); rintro e w11 ⟨rfl, rfl⟩)
      | (go_at_call 40; (with_reducible refine (HOE.out _ TE.out).mono ?_); rintro e w12 ⟨rfl, rfl⟩)
      | (go_at_call 30; (with_reducible refine (HU9.out _ TE.out).mono ?_); rintro e w13 ⟨rfl, t13⟩; have TE := Lib.hid t13; clear t13)
      | (go_at_call 31; (with_reducible refine (HMT.out _ TE.out).mono ?_); rintro e w14 ⟨rfl, t14⟩; have TE := Lib.hid t14; clear t14)
      | (go_at_call 34; (with_reducible refine (HA9.out _ TE.out).mono ?_); rintro e w15 ⟨rfl, t15⟩; have TE := Lib.hid t15; clear t15))
    go_ret
    exact ⟨rfl, (T1.out.trans T9.out (fun _ _ h => h)).trans TE.out (fun _ _ h => h)⟩
theorem tupleBack_holds : Rows.TupleBackCardSaid := by
  refine tupleBack.said fun H enc W base v0 v1 d0 d1 p0 p1 h0 h1 hT hE hM => ?_
  obtain ⟨⟨a1, a2, a3, a4, a5⟩, rfl, ok⟩ := h0.tupD
  obtain ⟨x, rfl, x0, x1, _⟩ := h1.u32 Tryd.underlying45
  exact (tback_walk a1 a2 a3 a4 a5 x ok x0 x1 W hT hE hM).mono fun e w' h => ⟨h.1, h.2.under (Nat.le_refl _)⟩
end Go.Proofs.YthliikkllagodaaDoor
