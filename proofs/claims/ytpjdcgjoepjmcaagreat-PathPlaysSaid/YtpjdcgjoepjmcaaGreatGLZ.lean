import Derived.Test.YtpjdcgjoepjmcaaGreatGJZ
import Derived.Sort.WalkC4
set_option linter.unusedVariables false
set_option linter.unusedSimpArgs false
section
namespace Go.Proofs.YtpjdcgjoepjmcaaGreat
open Go.RowKit
set_option maxRecDepth 20000 in
set_option maxHeartbeats 12000000 in
theorem parteq_any (W0 : World) (base B c n : Nat) (g : Nat) (lb : Array Value) (eg : ∀ args w, (callFunc g args).run Tryz.prog w = .ok (.enter g args) w) (hl : LessC W0 base B c n g lb) (sf : Nat) (sb : Array Value) (hs : SwapC W0 base B c n sf sb)
 (W : World) (d : Array FlD) (hd : d.size = n) (hr : SrtC W0 base B c d W) (a b p : Nat) (hap : a ≤ p) (hpb : p < b) (hb : b ≤ n) (hn : n ≤ 4000000) :
 Calls Tryz.prog 165 #[.agg #[.func (.func g) #[] lb, .func (.func sf) #[] sb], .int .i64 a, .int .i64 b, .int .i64 p] W fun e w' => e = .returned (.int .i64 (Go.Sort.partitionEqual ltFl d a b p).1) ∧ SrtC W0 base B c (Go.Sort.partitionEqual ltFl d a b p).2 w' ∧ (Go.Sort.partitionEqual ltFl d a b p).2.size = n ∧ Touch W w' (fun k => k = B) := by
 obtain ⟨W1, hW1⟩ : ∃ X, W.alloc (.cells #[.func (.func g) #[] lb, .func (.func sf) #[] sb] 193) = X := ⟨_, rfl⟩
 have t1 : Touch W W1 (fun _ => False) := hW1 ▸ (Touch.refl W _).alloc _
 have g1 : W1.heap[W.heap.size]? = some (.cells #[.func (.func g) #[] lb, .func (.func sf) #[] sb] 193 (0, 0)) := hW1 ▸ heap_alloc_new ..
 have hBW : B < W.heap.size := (hr.row.row'.2.2 ⟨B, 0, none⟩ rfl).2
 have HBX : RowKit.Hid (∀ X, Touch W1 X (fun k => k = B) → X.cell? ⟨W.heap.size, 0, none⟩ = some (.func (.func g) #[] lb) ∧ X.cell? ⟨W.heap.size, 1, none⟩ = some (.func (.func sf) #[] sb)) := Lib.hid (fun X x => by
  have h1 := x.keeps g1 (fun e => by have e : W.heap.size = B := e; omega)
  exact ⟨cell_of_cells h1 0, cell_of_cells h1 1⟩)
 have HSW := Lib.hid hs
 have HLS := Lib.hid hl
 have HW1 := Lib.hid hW1
 have HT1 := Lib.hid t1
 obtain ⟨i, hi⟩ : ∃ i : Nat, i = a + 1 := ⟨_, rfl⟩
 obtain ⟨j, hj⟩ : ∃ j : Nat, j = b - 1 := ⟨_, rfl⟩
 obtain ⟨dk, hdk⟩ : ∃ dk : Array FlD, dk = Go.Sort.swp d a p := ⟨_, rfl⟩
 obtain ⟨w2, hsw0, hr0, hz0, ht0⟩ := hs W1 d hd (hr.still t1) a p (by omega) (by omega)
 obtain ⟨y0, y1⟩ := HBX.out W1 (Touch.refl _ _)
 rw [← hdk] at hr0 hz0
 have HR0 := Lib.hid hr0
 have HZ0 := Lib.hid hz0
 have HT0 := Lib.hid ht0
 have Hi := Lib.hid hi
 have Hj := Lib.hid hj
 have Hdk := Lib.hid hdk
 have hai : a < i := by omega
 have hij : i ≤ j + 1 := by omega
 have hjb : j < b := by omega
 have j2 : (j : Int) ≤ 4000000 := by omega
 have a2 : (a : Int) ≤ 4000000 := by omega
 have b2 : (b : Int) ≤ 4000000 := by omega
 clear hW1 t1 g1 hr hs hl hr0 hz0 ht0 hi hj hdk
 go_enter Tryz.func165, Tryz.ntmps165
 go_upto_region 1 with (fail)
 rw [HW1.out]
 go_wp2_with fail
 rw [show ((a : Int) + 1) = (i : Int) by have := Hi.out; omega, show ((b : Int) - 1) = (j : Int) by have := Hj.out; omega]
 clear y0 y1 hsw0
 obtain ⟨i0, hi0⟩ : ∃ i0, i = i0 := ⟨_, rfl⟩
 obtain ⟨j0, hj0⟩ : ∃ j0, j = j0 := ⟨_, rfl⟩
 obtain ⟨d0, hd0⟩ : ∃ d0, dk = d0 := ⟨_, rfl⟩
 have HPE : RowKit.Hid (Go.Sort.partitionEqual ltFl d a b p = Go.Sort.partEqLoop ltFl a i0 j0 d0) := by
  show Go.Sort.partitionEqual ltFl d a b p = Go.Sort.partEqLoop ltFl a i0 j0 d0
  rw [← hi0, ← hj0, ← hd0, Hi.out, Hj.out, Hdk.out]; rfl
 go_loopw [9, 10] (fun s9 s10 wr => ∃ (i j : Nat) (dk : Array FlD), s9 = .int .i64 i ∧ s10 = .int .i64 j ∧ a < i ∧ i ≤ j + 1 ∧ j < b ∧ dk.size = n ∧ SrtC W0 base B c dk wr ∧ Touch W1 wr (fun k => k = B) ∧ Go.Sort.partEqLoop ltFl a i j dk = Go.Sort.partEqLoop ltFl a i0 j0 d0) (fun s9 s10 _ => (RowKit.intOf s10).toNat + 1 - (RowKit.intOf s9).toNat)
 case atStart => exact ⟨i, j, dk, rfl, rfl, hai, hij, hjb, HZ0.out, HR0.out, HT0.out, by rw [hi0, hj0, hd0]⟩
 case round =>
  clear hi0 hj0 hd0 Hi Hj Hdk hai hij hjb j2 HR0 HZ0 HT0
  obtain ⟨i, j, dk, rfl, rfl, hai, hij, hjb, hz, hr, ht, he⟩ := hrel
  have HE := Lib.hid he
  have HZ := Lib.hid hz
  have HRs := Lib.hid hr
  have HTs := Lib.hid ht
  have j2 : (j : Int) ≤ 4000000 := by omega
  clear he hz hr ht
  obtain ⟨Wo, hWo⟩ : ∃ Wo, Wo = wr := ⟨_, rfl⟩
  subst hWo
  go_wp2_with fail
  go_loopw [9] (fun s9 wr => ∃ (i1 : Nat), s9 = .int .i64 i1 ∧ i ≤ i1 ∧ i1 ≤ j + 1 ∧ SrtC W0 base B c dk wr ∧ Touch W1 wr (fun k => k = B) ∧ RowKit.Hid (Go.Sort.scanUp (fun x => !ltFl dk[a]! x) dk j i1 = Go.Sort.scanUp (fun x => !ltFl dk[a]! x) dk j i)) (fun s9 _ => j + 1 - (RowKit.intOf s9).toNat)
  case atStart => exact ⟨i, rfl, Nat.le_refl _, hij, HRs.out, HTs.out, rfl⟩
  case round =>
   obtain ⟨i1, rfl, hii, hij1, hr1, ht1, hsc⟩ := hrel
   have HR1 := Lib.hid hr1
   have HT1u := Lib.hid ht1
   obtain ⟨y0, y1⟩ := HBX.out wr ht1
   clear hr1 ht1
   by_cases hle : i1 ≤ j
   case pos =>
    have hleI : (i1 : Int) ≤ j := by omega
    have hls := HLS.out wr dk HZ.out HR1.out a i1 (by omega) (by omega)
    obtain ⟨m, hm⟩ : ∃ m, ltFl dk[a]! dk[i1]! = m := ⟨_, rfl⟩
    rw [hm] at hls
    have HLL := Lib.hid hls
    have HM := Lib.hid hm
    clear hls hm
    cases m with
    | false =>
      go_wp2_with (go_at_fn g; (refine HLL.out.mono ?_); rintro e w3 ⟨rfl, t3⟩; have HR3 := Lib.hid (HR1.out.still t3); have HT3 := Lib.hid (HT1u.out.trans t3 (fun _ _ h => h.elim)); clear t3)
      go_roundw
      case rel => exact ⟨i1 + 1, by go_num, by omega, by omega, HR3.out, HT3.out, (Go.Proofs.scanUp_go (fun x => !ltFl dk[a]! x) dk j i1 hle (by simp [HM.out])).symm.trans hsc.out⟩
      case measure => simp [RowKit.intOf]; omega
    | true =>
      have hi2 : RowKit.Hid (i1 = Go.Sort.scanUp (fun x => !ltFl dk[a]! x) dk j i) := (Go.Proofs.scanUp_end (fun x => !ltFl dk[a]! x) dk j i1 (Or.inr (by simp [HM.out]))).symm.trans hsc.out
      go_wp2_with (go_at_fn g; (refine HLL.out.mono ?_); rintro e w3 ⟨rfl, t3⟩; have HR3 := Lib.hid (HR1.out.still t3); have HT3 := Lib.hid (HT1u.out.trans t3 (fun _ _ h => h.elim)); clear t3)
      clear hsc y0 y1 HLL HM HR1 HT1u
      go_loopw [10] (fun s9 wr => ∃ (j1 : Nat), s9 = .int .i64 j1 ∧ j1 ≤ j ∧ i1 ≤ j1 + 1 ∧ SrtC W0 base B c dk wr ∧ Touch W1 wr (fun k => k = B) ∧ RowKit.Hid (Go.Sort.scanDown (fun x => ltFl dk[a]! x) dk i1 j1 = Go.Sort.scanDown (fun x => ltFl dk[a]! x) dk i1 j)) (fun s9 _ => (RowKit.intOf s9).toNat)
      case atStart => exact ⟨j, rfl, Nat.le_refl _, hij1, HR3.out, HT3.out, rfl⟩
      case round =>
       obtain ⟨j1, rfl, hjj, hij2, hr4, ht4, hsd⟩ := hrel
       have HR4 := Lib.hid hr4
       have HT4 := Lib.hid ht4
       obtain ⟨y0, y1⟩ := HBX.out wr ht4
       clear hr4 ht4
       have j1I : (j1 : Int) ≤ 4000000 := by omega
       by_cases hle2 : i1 ≤ j1
       case pos =>
        have hle2I : (i1 : Int) ≤ j1 := by omega
        have hls := HLS.out wr dk HZ.out HR4.out a j1 (by omega) (by omega)
        obtain ⟨m, hm⟩ : ∃ m, ltFl dk[a]! dk[j1]! = m := ⟨_, rfl⟩
        rw [hm] at hls
        have HLL := Lib.hid hls
        have HM := Lib.hid hm
        clear hls hm
        cases m with
        | true =>
          go_wp2_with (go_at_fn g; (refine HLL.out.mono ?_); rintro e w5 ⟨rfl, t5⟩; have HR5 := Lib.hid (HR4.out.still t5); have HT5 := Lib.hid (HT4.out.trans t5 (fun _ _ h => h.elim)); clear t5)
          go_roundw
          case rel => exact ⟨j1 - 1, by go_num, by omega, by omega, HR5.out, HT5.out, (Go.Proofs.scanDown_go (fun x => ltFl dk[a]! x) dk i1 j1 hle2 (by omega) (by simp [HM.out])).symm.trans hsd.out⟩
          case measure => simp [RowKit.intOf]; omega
        | false =>
          have hj2 : RowKit.Hid (j1 = Go.Sort.scanDown (fun x => ltFl dk[a]! x) dk i1 j) := (Go.Proofs.scanDown_end (fun x => ltFl dk[a]! x) dk i1 j1 (Or.inr (by simp [HM.out]))).symm.trans hsd.out
          have hlt3 := Go.Proofs.scans_lt ltFl a i j dk (by omega) hi2.out hj2.out hle2
          have hlt3I : (i1 : Int) < j1 := by omega
          go_wp2_with (go_at_fn g; (refine HLL.out.mono ?_); rintro e w5 ⟨rfl, t5⟩; have HR5 := Lib.hid (HR4.out.still t5); have HT5 := Lib.hid (HT4.out.trans t5 (fun _ _ h => h.elim)); clear t5; obtain ⟨y2, y3⟩ := HBX.out w5 HT5.out; obtain ⟨w6, hsw6, hr6, hz6, ht6⟩ := HSW.out w5 dk HZ.out HR5.out i1 j1 (by omega) (by omega); have HR6 := Lib.hid hr6; have HZ6 := Lib.hid hz6; have HT6 := Lib.hid (HT5.out.trans ht6 (fun _ _ h => h)); clear hr6 hz6 ht6)
          clear y0 y1 hsd HLL HM HR4 HT4
          go_roundw
          case rel =>
           refine ⟨i1 + 1, j1 - 1, _, by go_num, by go_num, by omega, by omega, by omega, HZ6.out, HR6.out, HT6.out, ?_⟩
           rw [← HE.out]
           exact (Go.Proofs.partEq_go ltFl a i j dk hi2.out hj2.out (by omega)).symm
          case measure => simp [RowKit.intOf]; omega
       case neg =>
        have hle2I : ¬ (i1 : Int) ≤ j1 := by omega
        have hj2 : RowKit.Hid (j1 = Go.Sort.scanDown (fun x => ltFl dk[a]! x) dk i1 j) := (Go.Proofs.scanDown_end (fun x => ltFl dk[a]! x) dk i1 j1 (Or.inl hle2)).symm.trans hsd.out
        clear hsd
        go_wp2_with fail
        go_ret
        rw [HPE.out, ← HE.out, Go.Proofs.partEq_break ltFl a i j dk hi2.out hj2.out (by omega)]
        exact ⟨rfl, HR4.out, HZ.out, (HT1.out.mono (T := fun k => k = B) (fun _ _ h => h.elim)).trans HT4.out (fun _ _ h => h)⟩
   case neg =>
    have hleI : ¬ (i1 : Int) ≤ j := by omega
    have hi2 : RowKit.Hid (i1 = Go.Sort.scanUp (fun x => !ltFl dk[a]! x) dk j i) := (Go.Proofs.scanUp_end (fun x => !ltFl dk[a]! x) dk j i1 (Or.inl hle)).symm.trans hsc.out
    obtain ⟨w3, hw3⟩ : ∃ w3, w3 = wr := ⟨_, rfl⟩
    have HR3 := Lib.hid HR1.out
    have HT3 := Lib.hid HT1u.out
    clear hsc HR1 HT1u hw3
    go_wp2_with fail
    clear y0 y1
    go_loopw [10] (fun s9 wr => ∃ (j1 : Nat), s9 = .int .i64 j1 ∧ j1 ≤ j ∧ i1 ≤ j1 + 1 ∧ SrtC W0 base B c dk wr ∧ Touch W1 wr (fun k => k = B) ∧ RowKit.Hid (Go.Sort.scanDown (fun x => ltFl dk[a]! x) dk i1 j1 = Go.Sort.scanDown (fun x => ltFl dk[a]! x) dk i1 j)) (fun s9 _ => (RowKit.intOf s9).toNat)
    case atStart => exact ⟨j, rfl, Nat.le_refl _, hij1, HR3.out, HT3.out, rfl⟩
    case round =>
     obtain ⟨j1, rfl, hjj, hij2, hr4, ht4, hsd⟩ := hrel
     have HR4 := Lib.hid hr4
     have HT4 := Lib.hid ht4
     obtain ⟨y0, y1⟩ := HBX.out wr ht4
     clear hr4 ht4
     have j1I : (j1 : Int) ≤ 4000000 := by omega
     by_cases hle2 : i1 ≤ j1
     case pos => exfalso; omega
     case neg =>
      have hle2I : ¬ (i1 : Int) ≤ j1 := by omega
      have hj2 : RowKit.Hid (j1 = Go.Sort.scanDown (fun x => ltFl dk[a]! x) dk i1 j) := (Go.Proofs.scanDown_end (fun x => ltFl dk[a]! x) dk i1 j1 (Or.inl hle2)).symm.trans hsd.out
      clear hsd
      go_wp2_with fail
      go_ret
      rw [HPE.out, ← HE.out, Go.Proofs.partEq_break ltFl a i j dk hi2.out hj2.out (by omega)]
      exact ⟨rfl, HR4.out, HZ.out, (HT1.out.mono (T := fun k => k = B) (fun _ _ h => h.elim)).trans HT4.out (fun _ _ h => h)⟩
end Go.Proofs.YtpjdcgjoepjmcaaGreat
end
section
namespace Go.Proofs.YtpjdcgjoepjmcaaGreat
open Go.RowKit
set_option maxRecDepth 20000 in
set_option maxHeartbeats 24000000 in
theorem partit_any (W0 : World) (base B c n : Nat) (g : Nat) (lb : Array Value) (eg : ∀ args w, (callFunc g args).run Tryz.prog w = .ok (.enter g args) w) (hl : LessC W0 base B c n g lb) (sf : Nat) (sb : Array Value) (hs : SwapC W0 base B c n sf sb)
 (W : World) (d : Array FlD) (hd : d.size = n) (hr : SrtC W0 base B c d W) (a b p : Nat) (hap : a ≤ p) (hpb : p < b) (hb : b ≤ n) (hn : n ≤ 4000000) :
 Calls Tryz.prog 166 #[.agg #[.func (.func g) #[] lb, .func (.func sf) #[] sb], .int .i64 a, .int .i64 b, .int .i64 p] W fun e w' => e = .returned (.tuple #[.int .i64 (Go.Sort.partition ltFl d a b p).1, .bool (Go.Sort.partition ltFl d a b p).2.1]) ∧ SrtC W0 base B c (Go.Sort.partition ltFl d a b p).2.2 w' ∧ (Go.Sort.partition ltFl d a b p).2.2.size = n ∧ Touch W w' (fun k => k = B) := by
 obtain ⟨W1, hW1⟩ : ∃ X, W.alloc (.cells #[.func (.func g) #[] lb, .func (.func sf) #[] sb] 193) = X := ⟨_, rfl⟩
 have t1 : Touch W W1 (fun _ => False) := hW1 ▸ (Touch.refl W _).alloc _
 have g1 : W1.heap[W.heap.size]? = some (.cells #[.func (.func g) #[] lb, .func (.func sf) #[] sb] 193 (0, 0)) := hW1 ▸ heap_alloc_new ..
 have hBW : B < W.heap.size := (hr.row.row'.2.2 ⟨B, 0, none⟩ rfl).2
 have HBX : RowKit.Hid (∀ X, Touch W1 X (fun k => k = B) → X.cell? ⟨W.heap.size, 0, none⟩ = some (.func (.func g) #[] lb) ∧ X.cell? ⟨W.heap.size, 1, none⟩ = some (.func (.func sf) #[] sb)) := Lib.hid (fun X x => by
  have h1 := x.keeps g1 (fun e => by have e : W.heap.size = B := e; omega)
  exact ⟨cell_of_cells h1 0, cell_of_cells h1 1⟩)
 have HSW := Lib.hid hs
 have HLS := Lib.hid hl
 have HW1 := Lib.hid hW1
 have HT1 := Lib.hid t1
 obtain ⟨i, hi⟩ : ∃ i : Nat, i = a + 1 := ⟨_, rfl⟩
 obtain ⟨j, hj⟩ : ∃ j : Nat, j = b - 1 := ⟨_, rfl⟩
 obtain ⟨dk, hdk⟩ : ∃ dk : Array FlD, dk = Go.Sort.swp d a p := ⟨_, rfl⟩
 obtain ⟨w2, hsw0, hr0, hz0, ht0⟩ := hs W1 d hd (hr.still t1) a p (by omega) (by omega)
 obtain ⟨y0, y1⟩ := HBX.out W1 (Touch.refl _ _)
 rw [← hdk] at hr0 hz0
 have HR0 := Lib.hid hr0
 have HZ0 := Lib.hid hz0
 have HT0 := Lib.hid ht0
 have Hi := Lib.hid hi
 have Hj := Lib.hid hj
 have Hdk := Lib.hid hdk
 have hai : a < i := by omega
 have hij : i ≤ j + 1 := by omega
 have hjb : j < b := by omega
 have j2 : (j : Int) ≤ 4000000 := by omega
 have a2 : (a : Int) ≤ 4000000 := by omega
 have b2 : (b : Int) ≤ 4000000 := by omega
 clear hW1 t1 g1 hr hs hl hr0 hz0 ht0 hi hj hdk
 go_enter Tryz.func166, Tryz.ntmps166
 go_upto_region 1 with (fail)
 rw [HW1.out]
 go_wp2_with fail
 rw [show ((a : Int) + 1) = (i : Int) by have := Hi.out; omega, show ((b : Int) - 1) = (j : Int) by have := Hj.out; omega]
 clear y0 y1 hsw0
 have HZ := HZ0
 go_loopw [10] (fun s9 wr => ∃ (i1 : Nat), s9 = .int .i64 i1 ∧ i ≤ i1 ∧ i1 ≤ j + 1 ∧ SrtC W0 base B c dk wr ∧ Touch W1 wr (fun k => k = B) ∧ RowKit.Hid (Go.Sort.scanUp (fun x => ltFl x dk[a]!) dk j i1 = Go.Sort.scanUp (fun x => ltFl x dk[a]!) dk j i)) (fun s9 _ => j + 1 - (RowKit.intOf s9).toNat)
 case atStart => exact ⟨i, rfl, Nat.le_refl _, hij, HR0.out, HT0.out, rfl⟩
 case round =>
  obtain ⟨i1, rfl, hii, hij1, hr1, ht1, hsc⟩ := hrel
  have HR1 := Lib.hid hr1
  have HT1u := Lib.hid ht1
  obtain ⟨y0, y1⟩ := HBX.out wr ht1
  clear hr1 ht1
  by_cases hle : i1 ≤ j
  case pos =>
   have hleI : (i1 : Int) ≤ j := by omega
   have hls := HLS.out wr dk HZ.out HR1.out i1 a (by omega) (by omega)
   obtain ⟨m, hm⟩ : ∃ m, ltFl dk[i1]! dk[a]! = m := ⟨_, rfl⟩
   rw [hm] at hls
   have HLL := Lib.hid hls
   have HM := Lib.hid hm
   clear hls hm
   cases m with
   | true =>
     go_wp2_with (go_at_fn g; (refine HLL.out.mono ?_); rintro e w3 ⟨rfl, t3⟩; have HR3 := Lib.hid (HR1.out.still t3); have HT3 := Lib.hid (HT1u.out.trans t3 (fun _ _ h => h.elim)); clear t3)
     go_roundw
     case rel => exact ⟨i1 + 1, by go_num, by omega, by omega, HR3.out, HT3.out, (Go.Proofs.scanUp_go (fun x => ltFl x dk[a]!) dk j i1 hle (by simp [HM.out])).symm.trans hsc.out⟩
     case measure => simp [RowKit.intOf]; omega
   | false =>
     have hi2 : RowKit.Hid (i1 = Go.Sort.scanUp (fun x => ltFl x dk[a]!) dk j i) := (Go.Proofs.scanUp_end (fun x => ltFl x dk[a]!) dk j i1 (Or.inr (by simp [HM.out]))).symm.trans hsc.out
     go_wp2_with (go_at_fn g; (refine HLL.out.mono ?_); rintro e w3 ⟨rfl, t3⟩; have HR3 := Lib.hid (HR1.out.still t3); have HT3 := Lib.hid (HT1u.out.trans t3 (fun _ _ h => h.elim)); clear t3)
     clear hsc y0 y1 HLL HM HR1 HT1u
     go_loopw [11] (fun s9 wr => ∃ (j1 : Nat), s9 = .int .i64 j1 ∧ j1 ≤ j ∧ i1 ≤ j1 + 1 ∧ SrtC W0 base B c dk wr ∧ Touch W1 wr (fun k => k = B) ∧ RowKit.Hid (Go.Sort.scanDown (fun x => !ltFl x dk[a]!) dk i1 j1 = Go.Sort.scanDown (fun x => !ltFl x dk[a]!) dk i1 j)) (fun s9 _ => (RowKit.intOf s9).toNat)
     case atStart => exact ⟨j, rfl, Nat.le_refl _, hij1, HR3.out, HT3.out, rfl⟩
     case round =>
      obtain ⟨j1, rfl, hjj, hij2, hr4, ht4, hsd⟩ := hrel
      have HR4 := Lib.hid hr4
      have HT4 := Lib.hid ht4
      obtain ⟨y0, y1⟩ := HBX.out wr ht4
      clear hr4 ht4
      have j1I : (j1 : Int) ≤ 4000000 := by omega
      by_cases hle2 : i1 ≤ j1
      case pos =>
       have hle2I : (i1 : Int) ≤ j1 := by omega
       have hls := HLS.out wr dk HZ.out HR4.out j1 a (by omega) (by omega)
       obtain ⟨m, hm⟩ : ∃ m, ltFl dk[j1]! dk[a]! = m := ⟨_, rfl⟩
       rw [hm] at hls
       have HLL := Lib.hid hls
       have HM := Lib.hid hm
       clear hls hm
       cases m with
       | false =>
         go_wp2_with (go_at_fn g; (refine HLL.out.mono ?_); rintro e w5 ⟨rfl, t5⟩; have HR5 := Lib.hid (HR4.out.still t5); have HT5 := Lib.hid (HT4.out.trans t5 (fun _ _ h => h.elim)); clear t5)
         go_roundw
         case rel => exact ⟨j1 - 1, by go_num, by omega, by omega, HR5.out, HT5.out, (Go.Proofs.scanDown_go (fun x => !ltFl x dk[a]!) dk i1 j1 hle2 (by omega) (by simp [HM.out])).symm.trans hsd.out⟩
         case measure => simp [RowKit.intOf]; omega
       | true =>
         have hj2 : RowKit.Hid (j1 = Go.Sort.scanDown (fun x => !ltFl x dk[a]!) dk i1 j) := (Go.Proofs.scanDown_end (fun x => !ltFl x dk[a]!) dk i1 j1 (Or.inr (by simp [HM.out]))).symm.trans hsd.out
         have hlt3 := Go.Proofs.part_scans_lt ltFl a i j dk (by omega) hi2.out hj2.out hle2
         have hlt3I : (i1 : Int) < j1 := by omega
         go_wp2_with (go_at_fn g; (refine HLL.out.mono ?_); rintro e w5 ⟨rfl, t5⟩; have HR5 := Lib.hid (HR4.out.still t5); have HT5 := Lib.hid (HT4.out.trans t5 (fun _ _ h => h.elim)); clear t5; obtain ⟨y2, y3⟩ := HBX.out w5 HT5.out; obtain ⟨w6, hsw6, hr6, hz6, ht6⟩ := HSW.out w5 dk HZ.out HR5.out i1 j1 (by omega) (by omega); have HR6 := Lib.hid hr6; have HZ6 := Lib.hid hz6; have HT6 := Lib.hid (HT5.out.trans ht6 (fun _ _ h => h)); clear hr6 hz6 ht6)
         clear y0 y1 hsd HLL HM HR4 HT4
         obtain ⟨i0, hi0⟩ : ∃ i0 : Nat, i0 = i1 + 1 := ⟨_, rfl⟩
         obtain ⟨j0, hj0⟩ : ∃ j0 : Nat, j0 = j1 - 1 := ⟨_, rfl⟩
         obtain ⟨d0, hd0⟩ : ∃ d0 : Array FlD, d0 = Go.Sort.swp dk i1 j1 := ⟨_, rfl⟩
         have HPF : RowKit.Hid (Go.Sort.partition ltFl d a b p = ((Go.Sort.partLoop ltFl a i0 j0 d0).1, false, Go.Sort.swp (Go.Sort.partLoop ltFl a i0 j0 d0).2 (Go.Sort.partLoop ltFl a i0 j0 d0).1 a)) := by
          show Go.Sort.partition ltFl d a b p = _
          rw [hi0, hj0, hd0]; exact Go.Proofs.part_first_go ltFl d a b p Hi.out Hj.out Hdk.out hi2.out hj2.out (by omega)
         have HI0 := Lib.hid hi0
         have HJ0 := Lib.hid hj0
         have HD0 := Lib.hid hd0
         clear hi0 hj0 hd0
         (try rw [decide_eq_false (show ¬ j1 < i1 by omega)])
         go_loopw [10, 11] (fun s9 s10 wr => ∃ (i j : Nat) (dk : Array FlD), s9 = .int .i64 i ∧ s10 = .int .i64 j ∧ a < i ∧ i ≤ j + 1 ∧ j < b ∧ dk.size = n ∧ SrtC W0 base B c dk wr ∧ Touch W1 wr (fun k => k = B) ∧ Go.Sort.partLoop ltFl a i j dk = Go.Sort.partLoop ltFl a i0 j0 d0) (fun s9 s10 _ => (RowKit.intOf s10).toNat + 1 - (RowKit.intOf s9).toNat)
         case atStart => exact ⟨i1 + 1, j1 - 1, _, by go_num, by go_num, by omega, by omega, by omega, HZ6.out, HR6.out, HT6.out, by rw [HI0.out, HJ0.out, HD0.out]⟩
         case round =>
          clear HI0 HJ0 HD0 Hi Hj Hdk hsw6 y2 y3 HR6 HZ6 HT6 HR5 HT5 hj2 hi2 hlt3 hlt3I hle2I hle2 hleI hle j1I hjj hij2 hii hij1 HR3 HT3 hai hij hjb j2 HR0 HZ0 HT0 HZ
          obtain ⟨i, j, dk, rfl, rfl, hai, hij, hjb, hz, hr, ht, he⟩ := hrel
          have HE := Lib.hid he
          have HZ := Lib.hid hz
          have HRs := Lib.hid hr
          have HTs := Lib.hid ht
          have j2 : (j : Int) ≤ 4000000 := by omega
          clear he hz hr ht
          obtain ⟨Wo, hWo⟩ : ∃ Wo, Wo = wr := ⟨_, rfl⟩
          subst hWo
          go_wp2_with fail
          go_loopw [10] (fun s9 wr => ∃ (i1 : Nat), s9 = .int .i64 i1 ∧ i ≤ i1 ∧ i1 ≤ j + 1 ∧ SrtC W0 base B c dk wr ∧ Touch W1 wr (fun k => k = B) ∧ RowKit.Hid (Go.Sort.scanUp (fun x => ltFl x dk[a]!) dk j i1 = Go.Sort.scanUp (fun x => ltFl x dk[a]!) dk j i)) (fun s9 _ => j + 1 - (RowKit.intOf s9).toNat)
          case atStart => exact ⟨i, rfl, Nat.le_refl _, hij, HRs.out, HTs.out, rfl⟩
          case round =>
           obtain ⟨i1, rfl, hii, hij1, hr1, ht1, hsc⟩ := hrel
           have HR1 := Lib.hid hr1
           have HT1u := Lib.hid ht1
           obtain ⟨y0, y1⟩ := HBX.out wr ht1
           clear hr1 ht1
           by_cases hle : i1 ≤ j
           case pos =>
            have hleI : (i1 : Int) ≤ j := by omega
            have hls := HLS.out wr dk HZ.out HR1.out i1 a (by omega) (by omega)
            obtain ⟨m, hm⟩ : ∃ m, ltFl dk[i1]! dk[a]! = m := ⟨_, rfl⟩
            rw [hm] at hls
            have HLL := Lib.hid hls
            have HM := Lib.hid hm
            clear hls hm
            cases m with
            | true =>
              go_wp2_with (go_at_fn g; (refine HLL.out.mono ?_); rintro e w3 ⟨rfl, t3⟩; have HR3 := Lib.hid (HR1.out.still t3); have HT3 := Lib.hid (HT1u.out.trans t3 (fun _ _ h => h.elim)); clear t3)
              go_roundw
              case rel => exact ⟨i1 + 1, by go_num, by omega, by omega, HR3.out, HT3.out, (Go.Proofs.scanUp_go (fun x => ltFl x dk[a]!) dk j i1 hle (by simp [HM.out])).symm.trans hsc.out⟩
              case measure => simp [RowKit.intOf]; omega
            | false =>
              have hi2 : RowKit.Hid (i1 = Go.Sort.scanUp (fun x => ltFl x dk[a]!) dk j i) := (Go.Proofs.scanUp_end (fun x => ltFl x dk[a]!) dk j i1 (Or.inr (by simp [HM.out]))).symm.trans hsc.out
              go_wp2_with (go_at_fn g; (refine HLL.out.mono ?_); rintro e w3 ⟨rfl, t3⟩; have HR3 := Lib.hid (HR1.out.still t3); have HT3 := Lib.hid (HT1u.out.trans t3 (fun _ _ h => h.elim)); clear t3)
              clear hsc y0 y1 HLL HM HR1 HT1u
              go_loopw [11] (fun s9 wr => ∃ (j1 : Nat), s9 = .int .i64 j1 ∧ j1 ≤ j ∧ i1 ≤ j1 + 1 ∧ SrtC W0 base B c dk wr ∧ Touch W1 wr (fun k => k = B) ∧ RowKit.Hid (Go.Sort.scanDown (fun x => !ltFl x dk[a]!) dk i1 j1 = Go.Sort.scanDown (fun x => !ltFl x dk[a]!) dk i1 j)) (fun s9 _ => (RowKit.intOf s9).toNat)
              case atStart => exact ⟨j, rfl, Nat.le_refl _, hij1, HR3.out, HT3.out, rfl⟩
              case round =>
               obtain ⟨j1, rfl, hjj, hij2, hr4, ht4, hsd⟩ := hrel
               have HR4 := Lib.hid hr4
               have HT4 := Lib.hid ht4
               obtain ⟨y0, y1⟩ := HBX.out wr ht4
               clear hr4 ht4
               have j1I : (j1 : Int) ≤ 4000000 := by omega
               by_cases hle2 : i1 ≤ j1
               case pos =>
                have hle2I : (i1 : Int) ≤ j1 := by omega
                have hls := HLS.out wr dk HZ.out HR4.out j1 a (by omega) (by omega)
                obtain ⟨m, hm⟩ : ∃ m, ltFl dk[j1]! dk[a]! = m := ⟨_, rfl⟩
                rw [hm] at hls
                have HLL := Lib.hid hls
                have HM := Lib.hid hm
                clear hls hm
                cases m with
                | false =>
                  go_wp2_with (go_at_fn g; (refine HLL.out.mono ?_); rintro e w5 ⟨rfl, t5⟩; have HR5 := Lib.hid (HR4.out.still t5); have HT5 := Lib.hid (HT4.out.trans t5 (fun _ _ h => h.elim)); clear t5)
                  go_roundw
                  case rel => exact ⟨j1 - 1, by go_num, by omega, by omega, HR5.out, HT5.out, (Go.Proofs.scanDown_go (fun x => !ltFl x dk[a]!) dk i1 j1 hle2 (by omega) (by simp [HM.out])).symm.trans hsd.out⟩
                  case measure => simp [RowKit.intOf]; omega
                | true =>
                  have hj2 : RowKit.Hid (j1 = Go.Sort.scanDown (fun x => !ltFl x dk[a]!) dk i1 j) := (Go.Proofs.scanDown_end (fun x => !ltFl x dk[a]!) dk i1 j1 (Or.inr (by simp [HM.out]))).symm.trans hsd.out
                  have hlt3 := Go.Proofs.part_scans_lt ltFl a i j dk (by omega) hi2.out hj2.out hle2
                  have hlt3I : (i1 : Int) < j1 := by omega
                  go_wp2_with (go_at_fn g; (refine HLL.out.mono ?_); rintro e w5 ⟨rfl, t5⟩; have HR5 := Lib.hid (HR4.out.still t5); have HT5 := Lib.hid (HT4.out.trans t5 (fun _ _ h => h.elim)); clear t5; obtain ⟨y2, y3⟩ := HBX.out w5 HT5.out; obtain ⟨w6, hsw6, hr6, hz6, ht6⟩ := HSW.out w5 dk HZ.out HR5.out i1 j1 (by omega) (by omega); have HR6 := Lib.hid hr6; have HZ6 := Lib.hid hz6; have HT6 := Lib.hid (HT5.out.trans ht6 (fun _ _ h => h)); clear hr6 hz6 ht6)
                  clear y0 y1 hsd HLL HM HR4 HT4
                  go_roundw
                  case rel =>
                   refine ⟨i1 + 1, j1 - 1, _, by go_num, by go_num, by omega, by omega, by omega, HZ6.out, HR6.out, HT6.out, ?_⟩
                   rw [← HE.out]
                   exact (Go.Proofs.part_go ltFl a i j dk hi2.out hj2.out (by omega)).symm
                  case measure => simp [RowKit.intOf]; omega
               case neg =>
                have hle2I : ¬ (i1 : Int) ≤ j1 := by omega
                have hj2 : RowKit.Hid (j1 = Go.Sort.scanDown (fun x => !ltFl x dk[a]!) dk i1 j) := (Go.Proofs.scanDown_end (fun x => !ltFl x dk[a]!) dk i1 j1 (Or.inl hle2)).symm.trans hsd.out
                clear hsd
                obtain ⟨w7, hsw7, hr7, hz7, ht7⟩ := HSW.out wr dk HZ.out HR4.out j1 a (by omega) (by omega)
                have HR7 := Lib.hid hr7
                have HZ7 := Lib.hid hz7
                have HT7 := Lib.hid (HT4.out.trans ht7 (fun _ _ h => h))
                clear hr7 hz7 ht7
                go_wp2_with fail
                go_ret2
                rw [HPF.out, ← HE.out, Go.Proofs.part_break ltFl a i j dk hi2.out hj2.out (by omega)]
                exact ⟨rfl, HR7.out, HZ7.out, (HT1.out.mono (T := fun k => k = B) (fun _ _ h => h.elim)).trans HT7.out (fun _ _ h => h)⟩
           case neg =>
            have hleI : ¬ (i1 : Int) ≤ j := by omega
            have hi2 : RowKit.Hid (i1 = Go.Sort.scanUp (fun x => ltFl x dk[a]!) dk j i) := (Go.Proofs.scanUp_end (fun x => ltFl x dk[a]!) dk j i1 (Or.inl hle)).symm.trans hsc.out
            obtain ⟨w3, hw3⟩ : ∃ w3, w3 = wr := ⟨_, rfl⟩
            have HR3 := Lib.hid HR1.out
            have HT3 := Lib.hid HT1u.out
            clear hsc HR1 HT1u hw3
            go_wp2_with fail
            clear y0 y1
            go_loopw [11] (fun s9 wr => ∃ (j1 : Nat), s9 = .int .i64 j1 ∧ j1 ≤ j ∧ i1 ≤ j1 + 1 ∧ SrtC W0 base B c dk wr ∧ Touch W1 wr (fun k => k = B) ∧ RowKit.Hid (Go.Sort.scanDown (fun x => !ltFl x dk[a]!) dk i1 j1 = Go.Sort.scanDown (fun x => !ltFl x dk[a]!) dk i1 j)) (fun s9 _ => (RowKit.intOf s9).toNat)
            case atStart => exact ⟨j, rfl, Nat.le_refl _, hij1, HR3.out, HT3.out, rfl⟩
            case round =>
             obtain ⟨j1, rfl, hjj, hij2, hr4, ht4, hsd⟩ := hrel
             have HR4 := Lib.hid hr4
             have HT4 := Lib.hid ht4
             obtain ⟨y0, y1⟩ := HBX.out wr ht4
             clear hr4 ht4
             have j1I : (j1 : Int) ≤ 4000000 := by omega
             by_cases hle2 : i1 ≤ j1
             case pos => exfalso; omega
             case neg =>
              have hle2I : ¬ (i1 : Int) ≤ j1 := by omega
              have hj2 : RowKit.Hid (j1 = Go.Sort.scanDown (fun x => !ltFl x dk[a]!) dk i1 j) := (Go.Proofs.scanDown_end (fun x => !ltFl x dk[a]!) dk i1 j1 (Or.inl hle2)).symm.trans hsd.out
              clear hsd
              obtain ⟨w7, hsw7, hr7, hz7, ht7⟩ := HSW.out wr dk HZ.out HR4.out j1 a (by omega) (by omega)
              have HR7 := Lib.hid hr7
              have HZ7 := Lib.hid hz7
              have HT7 := Lib.hid (HT4.out.trans ht7 (fun _ _ h => h))
              clear hr7 hz7 ht7
              go_wp2_with fail
              go_ret2
              rw [HPF.out, ← HE.out, Go.Proofs.part_break ltFl a i j dk hi2.out hj2.out (by omega)]
              exact ⟨rfl, HR7.out, HZ7.out, (HT1.out.mono (T := fun k => k = B) (fun _ _ h => h.elim)).trans HT7.out (fun _ _ h => h)⟩
      case neg =>
       have hle2I : ¬ (i1 : Int) ≤ j1 := by omega
       have hj2 : RowKit.Hid (j1 = Go.Sort.scanDown (fun x => !ltFl x dk[a]!) dk i1 j) := (Go.Proofs.scanDown_end (fun x => !ltFl x dk[a]!) dk i1 j1 (Or.inl hle2)).symm.trans hsd.out
       clear hsd
       obtain ⟨w7, hsw7, hr7, hz7, ht7⟩ := HSW.out wr dk HZ.out HR4.out j1 a (by omega) (by omega)
       have HR7 := Lib.hid hr7
       have HZ7 := Lib.hid hz7
       have HT7 := Lib.hid (HT4.out.trans ht7 (fun _ _ h => h))
       clear hr7 hz7 ht7
       go_wp2_with fail
       go_ret2
       rw [Go.Proofs.part_first_break ltFl d a b p Hi.out Hj.out Hdk.out hi2.out hj2.out (by omega)]
       exact ⟨rfl, HR7.out, HZ7.out, (HT1.out.mono (T := fun k => k = B) (fun _ _ h => h.elim)).trans HT7.out (fun _ _ h => h)⟩
  case neg =>
   have hleI : ¬ (i1 : Int) ≤ j := by omega
   have hi2 : RowKit.Hid (i1 = Go.Sort.scanUp (fun x => ltFl x dk[a]!) dk j i) := (Go.Proofs.scanUp_end (fun x => ltFl x dk[a]!) dk j i1 (Or.inl hle)).symm.trans hsc.out
   obtain ⟨w3, hw3⟩ : ∃ w3, w3 = wr := ⟨_, rfl⟩
   have HR3 := Lib.hid HR1.out
   have HT3 := Lib.hid HT1u.out
   clear hsc HR1 HT1u hw3
   go_wp2_with fail
   clear y0 y1
   go_loopw [11] (fun s9 wr => ∃ (j1 : Nat), s9 = .int .i64 j1 ∧ j1 ≤ j ∧ i1 ≤ j1 + 1 ∧ SrtC W0 base B c dk wr ∧ Touch W1 wr (fun k => k = B) ∧ RowKit.Hid (Go.Sort.scanDown (fun x => !ltFl x dk[a]!) dk i1 j1 = Go.Sort.scanDown (fun x => !ltFl x dk[a]!) dk i1 j)) (fun s9 _ => (RowKit.intOf s9).toNat)
   case atStart => exact ⟨j, rfl, Nat.le_refl _, hij1, HR3.out, HT3.out, rfl⟩
   case round =>
    obtain ⟨j1, rfl, hjj, hij2, hr4, ht4, hsd⟩ := hrel
    have HR4 := Lib.hid hr4
    have HT4 := Lib.hid ht4
    obtain ⟨y0, y1⟩ := HBX.out wr ht4
    clear hr4 ht4
    have j1I : (j1 : Int) ≤ 4000000 := by omega
    by_cases hle2 : i1 ≤ j1
    case pos => exfalso; omega
    case neg =>
     have hle2I : ¬ (i1 : Int) ≤ j1 := by omega
     have hj2 : RowKit.Hid (j1 = Go.Sort.scanDown (fun x => !ltFl x dk[a]!) dk i1 j) := (Go.Proofs.scanDown_end (fun x => !ltFl x dk[a]!) dk i1 j1 (Or.inl hle2)).symm.trans hsd.out
     clear hsd
     obtain ⟨w7, hsw7, hr7, hz7, ht7⟩ := HSW.out wr dk HZ.out HR4.out j1 a (by omega) (by omega)
     have HR7 := Lib.hid hr7
     have HZ7 := Lib.hid hz7
     have HT7 := Lib.hid (HT4.out.trans ht7 (fun _ _ h => h))
     clear hr7 hz7 ht7
     go_wp2_with fail
     go_ret2
     rw [Go.Proofs.part_first_break ltFl d a b p Hi.out Hj.out Hdk.out hi2.out hj2.out (by omega)]
     exact ⟨rfl, HR7.out, HZ7.out, (HT1.out.mono (T := fun k => k = B) (fun _ _ h => h.elim)).trans HT7.out (fun _ _ h => h)⟩
end Go.Proofs.YtpjdcgjoepjmcaaGreat
end
