/- Migration: what the reference's Migrate and Steps answer. -/
import Derived.Test.YtbklngcocbnijaaMigRecZ
set_option linter.unusedVariables false
set_option linter.unusedSimpArgs false
namespace Go.Proofs.Ytbklngcocbnijaa
open Go.RowKit

theorem rmay_any (r : RecD) (a : Option Addr) (cap : Nat) (w : World) (hr : RowK w a r.bs.length cap r.bs) (hl : r.bs.length ≤ 100000) :
    Calls Try.prog 19 #[.agg (rcs r a cap)] w fun e w' => e = .returned (.bool (mayRB r)) ∧ Touch w w' (fun _ => False) := by
  by_cases h : r.kind < 1 ∨ 6 < r.kind
  · exact rmay_out r a cap w h
  · exact rmay_in r a cap w (by omega) (by omega) hr hl
theorem lead_ver (f t : Int) : leadB f t = true ↔ (verB f = true ∧ verB t = true ∧ ¬ t < f) := by rw [leadB_iff, verB_iff, verB_iff]; omega
set_option maxRecDepth 20000 in
theorem rsteps_any (f t : Int) (w : World) (hf : -9223372036854775808 ≤ f ∧ f ≤ 9223372036854775807) (ht : -9223372036854775808 ≤ t ∧ t ≤ 9223372036854775807) :
    Calls Try.prog 34 #[.int .i64 f, .int .i64 t] w fun e w' => e = .returned (.int .i64 (stepsN f t)) ∧ w = w' := by
  have HV : RowKit.Hid (∀ n w, Calls Try.prog 51 #[.int .i64 n] w fun e w' => e = .returned (.bool (verB n)) ∧ w = w') := Lib.hid (fun n w => (rversion_any n w).mono fun e w' h => ⟨h.1, h.2.symm⟩)
  have HVF := Lib.hid (verB_iff f)
  have HVT := Lib.hid (verB_iff t)
  cases hvf : verB f with
  | false =>
    have HQ : RowKit.Hid (stepsN f t = 0) := Lib.hid (by unfold stepsN; rw [if_neg (fun h => by rw [((lead_ver f t).1 h).1] at hvf; cases hvf)])
    have HC : RowKit.Hid (∀ w, Calls Try.prog 51 #[.int .i64 f] w fun e w' => e = .returned (.bool false) ∧ w = w') := Lib.hid (fun w => hvf ▸ HV.out f w)
    clear hvf hf ht
    go_enter Try.func34, Try.ntmps34
    go_wp2_with (go_at_call 51; (with_reducible refine (HC.out _).mono ?_); rintro e w' ⟨rfl, rfl⟩)
    go_ret
    exact ⟨by rw [HQ.out]; rfl, rfl⟩
  | true =>
  cases hvt : verB t with
  | false =>
    have HQ : RowKit.Hid (stepsN f t = 0) := Lib.hid (by unfold stepsN; rw [if_neg (fun h => by rw [((lead_ver f t).1 h).2.1] at hvt; cases hvt)])
    have HC : RowKit.Hid (∀ w, Calls Try.prog 51 #[.int .i64 f] w fun e w' => e = .returned (.bool true) ∧ w = w') := Lib.hid (fun w => hvf ▸ HV.out f w)
    have HD : RowKit.Hid (∀ w, Calls Try.prog 51 #[.int .i64 t] w fun e w' => e = .returned (.bool false) ∧ w = w') := Lib.hid (fun w => hvt ▸ HV.out t w)
    clear hvf hvt hf ht
    go_enter Try.func34, Try.ntmps34
    go_wp2_with (go_at_call 51; first | ((with_reducible refine (HC.out _).mono ?_); rintro e w' ⟨rfl, rfl⟩) | ((with_reducible refine (HD.out _).mono ?_); rintro e w' ⟨rfl, rfl⟩))
    all_goals (go_ret; exact ⟨by rw [HQ.out]; rfl, rfl⟩)
  | true =>
    have HC : RowKit.Hid (∀ w, Calls Try.prog 51 #[.int .i64 f] w fun e w' => e = .returned (.bool true) ∧ w = w') := Lib.hid (fun w => hvf ▸ HV.out f w)
    have HD : RowKit.Hid (∀ w, Calls Try.prog 51 #[.int .i64 t] w fun e w' => e = .returned (.bool true) ∧ w = w') := Lib.hid (fun w => hvt ▸ HV.out t w)
    have b1 := HVF.out.1 hvf
    have b2 := HVT.out.1 hvt
    by_cases hlt : t < f
    · have HQ : RowKit.Hid (stepsN f t = 0) := Lib.hid (by unfold stepsN; rw [if_neg (fun h => ((lead_ver f t).1 h).2.2 hlt)])
      clear hvf hvt hf ht
      go_enter Try.func34, Try.ntmps34
      go_wp2_with (go_at_call 51; first | ((with_reducible refine (HC.out _).mono ?_); rintro e w' ⟨rfl, rfl⟩) | ((with_reducible refine (HD.out _).mono ?_); rintro e w' ⟨rfl, rfl⟩))
      all_goals (go_ret; exact ⟨by rw [HQ.out]; rfl, rfl⟩)
    · have HQ : RowKit.Hid (stepsN f t = t - f) := Lib.hid (by unfold stepsN; rw [if_pos ((lead_ver f t).2 ⟨hvf, hvt, hlt⟩)])
      clear hvf hvt hf ht
      go_enter Try.func34, Try.ntmps34
      go_wp2_with (go_at_call 51; first | ((with_reducible refine (HC.out _).mono ?_); rintro e w' ⟨rfl, rfl⟩) | ((with_reducible refine (HD.out _).mono ?_); rintro e w' ⟨rfl, rfl⟩))
      all_goals (go_ret; exact ⟨by rw [HQ.out]; rfl, rfl⟩)

set_option maxRecDepth 20000 in
set_option maxHeartbeats 8000000 in
theorem rmig_nof (r : RecD) (a : Option Addr) (cap : Nat) (f t : Int) (w : World) (hr : RowK w a r.bs.length cap r.bs) (hl : r.bs.length ≤ 100000) (hb : verB f = false) :
    Calls Try.prog 32 #[.agg (rcs r a cap), .int .i64 f, .int .i64 t] w (MigIs w r f t) := by
  obtain ⟨W1, hW1⟩ : ∃ W, w.alloc (.cells (rcs r a cap) 29) = W := ⟨_, rfl⟩
  obtain ⟨W2, hW2⟩ : ∃ W, W1.alloc (.cells #[.int .i64 0, .int .u32 0, .int .u32 0, .int .i64 0, .int .i64 0, .int .i64 0, .int .i64 0, .int .i64 0, .int .i64 0, .int .i64 0, .slice none 0 0, .int .i64 0, .int .i64 0, .int .i64 0] 29) = W := ⟨_, rfl⟩
  have t1 : Touch w W1 (fun _ => False) := hW1 ▸ (Touch.refl _ _).alloc _
  have t2 : Touch W1 W2 (fun _ => False) := hW2 ▸ (Touch.refl _ _).alloc _
  have hg1 : W1.heap[w.heap.size]? = some (.cells (rcs r a cap) 29 (0, 0)) := hW1 ▸ heap_alloc_new w _
  have hg2 : W2.heap[W1.heap.size]? = some (.cells (rcs zeroR none 0) 29 (0, 0)) := hW2 ▸ heap_alloc_new W1 _
  have HSZ : RowKit.Hid (w.heap.size < W1.heap.size) := Lib.hid (heap_lt hg1)
  have HSZ2 : RowKit.Hid (W1.heap.size < W2.heap.size) := Lib.hid (heap_lt hg2)
  have HG1 := Lib.hid (t2.keeps hg1 (fun h => h))
  have HZ := Lib.hid hg2
  have HT := Lib.hid (t1.trans t2 (fun _ _ h => h))
  have HIR := Lib.hid infoRec
  have HR := Lib.hid ((hr.still t1).still t2)
  have HE : RowKit.Hid (migE r f t = 10) := Lib.hid (by unfold migE; rw [if_neg (fun h => by rw [((lead_ver f t).1 h).1] at hb; cases hb)])
  have HC : RowKit.Hid (∀ w, Calls Try.prog 51 #[.int .i64 f] w fun e w' => e = .returned (.bool false) ∧ w = w') := Lib.hid (fun w => (rversion_any f w).mono fun e w' h => ⟨hb ▸ h.1, h.2.symm⟩)
  have HD : RowKit.Hid True := Lib.hid trivial
  have HM : RowKit.Hid True := Lib.hid trivial
  clear hb hr t1 t2 hg1 hg2
  simp only [rcs] at hW1
  simp only [rcs]
  go_enter Try.func32, Try.ntmps32
  go_wp2_with (first
    | (go_at_call 51; ((with_reducible refine (HC.out _).mono ?_); rintro e w' ⟨rfl, rfl⟩))
    | (refine load_rowG rfl 29 (.tmp 3) rfl w.heap.size rfl _ _ _ _ HG1.out Try.underlying29 rfl HIR.out ?_)
    | (go_at_call 19; (refine HM.out.mono ?_); rintro e w3 ⟨rfl, t9⟩; have HG1 := Lib.hid (t9.keeps HG1.out (fun h => h)); have HZ := Lib.hid (t9.keeps HZ.out (fun h => h)); have HR := Lib.hid (HR.out.still t9); have HT := Lib.hid (HT.out.trans t9 (fun _ _ h => h)); have HSW := Lib.hid t9.size; clear t9)
    | (refine store_row rfl 29 (.tmp 6) (.tmp 21) rfl W1.heap.size _ rfl rfl _ _ HZ.out HIR.out rfl (by rfl) ?_))
  refine ret_row1 rfl rfl W1.heap.size 29 (rcs zeroR none 0) (0, 0) _ rfl (setRow_heap _ _ _ _ _ _ HZ.out) Try.underlying29 rfl infoRec _ rfl ?_
  exact MigIs.bad HE.out (by decide) (HT.out.setRow _ _ (fun h => absurd h (by have := HSZ.out; omega)))

set_option maxRecDepth 20000 in
set_option maxHeartbeats 8000000 in
theorem rmig_not (r : RecD) (a : Option Addr) (cap : Nat) (f t : Int) (w : World) (hr : RowK w a r.bs.length cap r.bs) (hl : r.bs.length ≤ 100000) (hb : verB f = true) (hb2 : verB t = false) :
    Calls Try.prog 32 #[.agg (rcs r a cap), .int .i64 f, .int .i64 t] w (MigIs w r f t) := by
  obtain ⟨W1, hW1⟩ : ∃ W, w.alloc (.cells (rcs r a cap) 29) = W := ⟨_, rfl⟩
  obtain ⟨W2, hW2⟩ : ∃ W, W1.alloc (.cells #[.int .i64 0, .int .u32 0, .int .u32 0, .int .i64 0, .int .i64 0, .int .i64 0, .int .i64 0, .int .i64 0, .int .i64 0, .int .i64 0, .slice none 0 0, .int .i64 0, .int .i64 0, .int .i64 0] 29) = W := ⟨_, rfl⟩
  have t1 : Touch w W1 (fun _ => False) := hW1 ▸ (Touch.refl _ _).alloc _
  have t2 : Touch W1 W2 (fun _ => False) := hW2 ▸ (Touch.refl _ _).alloc _
  have hg1 : W1.heap[w.heap.size]? = some (.cells (rcs r a cap) 29 (0, 0)) := hW1 ▸ heap_alloc_new w _
  have hg2 : W2.heap[W1.heap.size]? = some (.cells (rcs zeroR none 0) 29 (0, 0)) := hW2 ▸ heap_alloc_new W1 _
  have HSZ : RowKit.Hid (w.heap.size < W1.heap.size) := Lib.hid (heap_lt hg1)
  have HSZ2 : RowKit.Hid (W1.heap.size < W2.heap.size) := Lib.hid (heap_lt hg2)
  have HG1 := Lib.hid (t2.keeps hg1 (fun h => h))
  have HZ := Lib.hid hg2
  have HT := Lib.hid (t1.trans t2 (fun _ _ h => h))
  have HIR := Lib.hid infoRec
  have HR := Lib.hid ((hr.still t1).still t2)
  have HE : RowKit.Hid (migE r f t = 10) := Lib.hid (by unfold migE; rw [if_neg (fun h => by rw [((lead_ver f t).1 h).2.1] at hb2; cases hb2)])
  have HC : RowKit.Hid (∀ w, Calls Try.prog 51 #[.int .i64 f] w fun e w' => e = .returned (.bool true) ∧ w = w') := Lib.hid (fun w => (rversion_any f w).mono fun e w' h => ⟨hb ▸ h.1, h.2.symm⟩)
  have HD : RowKit.Hid (∀ w, Calls Try.prog 51 #[.int .i64 t] w fun e w' => e = .returned (.bool false) ∧ w = w') := Lib.hid (fun w => (rversion_any t w).mono fun e w' h => ⟨hb2 ▸ h.1, h.2.symm⟩)
  have HM : RowKit.Hid True := Lib.hid trivial
  clear hb hb2 hr t1 t2 hg1 hg2
  simp only [rcs] at hW1
  simp only [rcs]
  go_enter Try.func32, Try.ntmps32
  go_wp2_with (first
    | (go_at_call 51; first | ((with_reducible refine (HC.out _).mono ?_); rintro e w' ⟨rfl, rfl⟩) | ((with_reducible refine (HD.out _).mono ?_); rintro e w' ⟨rfl, rfl⟩))
    | (refine load_rowG rfl 29 (.tmp 3) rfl w.heap.size rfl _ _ _ _ HG1.out Try.underlying29 rfl HIR.out ?_)
    | (go_at_call 19; (refine HM.out.mono ?_); rintro e w3 ⟨rfl, t9⟩; have HG1 := Lib.hid (t9.keeps HG1.out (fun h => h)); have HZ := Lib.hid (t9.keeps HZ.out (fun h => h)); have HR := Lib.hid (HR.out.still t9); have HT := Lib.hid (HT.out.trans t9 (fun _ _ h => h)); have HSW := Lib.hid t9.size; clear t9)
    | (refine store_row rfl 29 (.tmp 6) (.tmp 21) rfl W1.heap.size _ rfl rfl _ _ HZ.out HIR.out rfl (by rfl) ?_))
  refine ret_row1 rfl rfl W1.heap.size 29 (rcs zeroR none 0) (0, 0) _ rfl (setRow_heap _ _ _ _ _ _ HZ.out) Try.underlying29 rfl infoRec _ rfl ?_
  exact MigIs.bad HE.out (by decide) (HT.out.setRow _ _ (fun h => absurd h (by have := HSZ.out; omega)))

set_option maxRecDepth 20000 in
set_option maxHeartbeats 8000000 in
theorem rmig_noo (r : RecD) (a : Option Addr) (cap : Nat) (f t : Int) (w : World) (hr : RowK w a r.bs.length cap r.bs) (hl : r.bs.length ≤ 100000) (hb : verB f = true) (hb2 : verB t = true) (hlt : t < f) :
    Calls Try.prog 32 #[.agg (rcs r a cap), .int .i64 f, .int .i64 t] w (MigIs w r f t) := by
  obtain ⟨W1, hW1⟩ : ∃ W, w.alloc (.cells (rcs r a cap) 29) = W := ⟨_, rfl⟩
  obtain ⟨W2, hW2⟩ : ∃ W, W1.alloc (.cells #[.int .i64 0, .int .u32 0, .int .u32 0, .int .i64 0, .int .i64 0, .int .i64 0, .int .i64 0, .int .i64 0, .int .i64 0, .int .i64 0, .slice none 0 0, .int .i64 0, .int .i64 0, .int .i64 0] 29) = W := ⟨_, rfl⟩
  have t1 : Touch w W1 (fun _ => False) := hW1 ▸ (Touch.refl _ _).alloc _
  have t2 : Touch W1 W2 (fun _ => False) := hW2 ▸ (Touch.refl _ _).alloc _
  have hg1 : W1.heap[w.heap.size]? = some (.cells (rcs r a cap) 29 (0, 0)) := hW1 ▸ heap_alloc_new w _
  have hg2 : W2.heap[W1.heap.size]? = some (.cells (rcs zeroR none 0) 29 (0, 0)) := hW2 ▸ heap_alloc_new W1 _
  have HSZ : RowKit.Hid (w.heap.size < W1.heap.size) := Lib.hid (heap_lt hg1)
  have HSZ2 : RowKit.Hid (W1.heap.size < W2.heap.size) := Lib.hid (heap_lt hg2)
  have HG1 := Lib.hid (t2.keeps hg1 (fun h => h))
  have HZ := Lib.hid hg2
  have HT := Lib.hid (t1.trans t2 (fun _ _ h => h))
  have HIR := Lib.hid infoRec
  have HR := Lib.hid ((hr.still t1).still t2)
  have HE : RowKit.Hid (migE r f t = 10) := Lib.hid (by unfold migE; rw [if_neg (fun h => ((lead_ver f t).1 h).2.2 hlt)])
  have HC : RowKit.Hid (∀ w, Calls Try.prog 51 #[.int .i64 f] w fun e w' => e = .returned (.bool true) ∧ w = w') := Lib.hid (fun w => (rversion_any f w).mono fun e w' h => ⟨hb ▸ h.1, h.2.symm⟩)
  have HD : RowKit.Hid (∀ w, Calls Try.prog 51 #[.int .i64 t] w fun e w' => e = .returned (.bool true) ∧ w = w') := Lib.hid (fun w => (rversion_any t w).mono fun e w' h => ⟨hb2 ▸ h.1, h.2.symm⟩)
  have HM : RowKit.Hid True := Lib.hid trivial
  clear hb hb2 hr t1 t2 hg1 hg2
  simp only [rcs] at hW1
  simp only [rcs]
  go_enter Try.func32, Try.ntmps32
  go_wp2_with (first
    | (go_at_call 51; first | ((with_reducible refine (HC.out _).mono ?_); rintro e w' ⟨rfl, rfl⟩) | ((with_reducible refine (HD.out _).mono ?_); rintro e w' ⟨rfl, rfl⟩))
    | (refine load_rowG rfl 29 (.tmp 3) rfl w.heap.size rfl _ _ _ _ HG1.out Try.underlying29 rfl HIR.out ?_)
    | (go_at_call 19; (refine HM.out.mono ?_); rintro e w3 ⟨rfl, t9⟩; have HG1 := Lib.hid (t9.keeps HG1.out (fun h => h)); have HZ := Lib.hid (t9.keeps HZ.out (fun h => h)); have HR := Lib.hid (HR.out.still t9); have HT := Lib.hid (HT.out.trans t9 (fun _ _ h => h)); have HSW := Lib.hid t9.size; clear t9)
    | (refine store_row rfl 29 (.tmp 6) (.tmp 21) rfl W1.heap.size _ rfl rfl _ _ HZ.out HIR.out rfl (by rfl) ?_))
  refine ret_row1 rfl rfl W1.heap.size 29 (rcs zeroR none 0) (0, 0) _ rfl (setRow_heap _ _ _ _ _ _ HZ.out) Try.underlying29 rfl infoRec _ rfl ?_
  exact MigIs.bad HE.out (by decide) (HT.out.setRow _ _ (fun h => absurd h (by have := HSZ.out; omega)))

set_option maxRecDepth 20000 in
set_option maxHeartbeats 8000000 in
theorem rmig_nomay (r : RecD) (a : Option Addr) (cap : Nat) (f t : Int) (w : World) (hr : RowK w a r.bs.length cap r.bs) (hl : r.bs.length ≤ 100000) (hb : leadB f t = true) (hm : mayRB r = false) :
    Calls Try.prog 32 #[.agg (rcs r a cap), .int .i64 f, .int .i64 t] w (MigIs w r f t) := by
  obtain ⟨W1, hW1⟩ : ∃ W, w.alloc (.cells (rcs r a cap) 29) = W := ⟨_, rfl⟩
  obtain ⟨W2, hW2⟩ : ∃ W, W1.alloc (.cells #[.int .i64 0, .int .u32 0, .int .u32 0, .int .i64 0, .int .i64 0, .int .i64 0, .int .i64 0, .int .i64 0, .int .i64 0, .int .i64 0, .slice none 0 0, .int .i64 0, .int .i64 0, .int .i64 0] 29) = W := ⟨_, rfl⟩
  have t1 : Touch w W1 (fun _ => False) := hW1 ▸ (Touch.refl _ _).alloc _
  have t2 : Touch W1 W2 (fun _ => False) := hW2 ▸ (Touch.refl _ _).alloc _
  have hg1 : W1.heap[w.heap.size]? = some (.cells (rcs r a cap) 29 (0, 0)) := hW1 ▸ heap_alloc_new w _
  have hg2 : W2.heap[W1.heap.size]? = some (.cells (rcs zeroR none 0) 29 (0, 0)) := hW2 ▸ heap_alloc_new W1 _
  have HSZ : RowKit.Hid (w.heap.size < W1.heap.size) := Lib.hid (heap_lt hg1)
  have HSZ2 : RowKit.Hid (W1.heap.size < W2.heap.size) := Lib.hid (heap_lt hg2)
  have HG1 := Lib.hid (t2.keeps hg1 (fun h => h))
  have HZ := Lib.hid hg2
  have HT := Lib.hid (t1.trans t2 (fun _ _ h => h))
  have HIR := Lib.hid infoRec
  have HR := Lib.hid ((hr.still t1).still t2)
  obtain ⟨hvf, hvt, hlt⟩ := (lead_ver f t).1 hb
  have HE : RowKit.Hid (migE r f t = 1) := Lib.hid (by unfold migE; rw [hb, hm]; rfl)
  have HC : RowKit.Hid (∀ w, Calls Try.prog 51 #[.int .i64 f] w fun e w' => e = .returned (.bool true) ∧ w = w') := Lib.hid (fun w => (rversion_any f w).mono fun e w' h => ⟨hvf ▸ h.1, h.2.symm⟩)
  have HD : RowKit.Hid (∀ w, Calls Try.prog 51 #[.int .i64 t] w fun e w' => e = .returned (.bool true) ∧ w = w') := Lib.hid (fun w => (rversion_any t w).mono fun e w' h => ⟨hvt ▸ h.1, h.2.symm⟩)
  have HM : RowKit.Hid (Calls Try.prog 19 #[.agg (rcs r a cap)] W2 fun e w' => e = .returned (.bool false) ∧ Touch W2 w' (fun _ => False)) := Lib.hid (hm ▸ rmay_any r a cap W2 HR.out hl)
  clear hb hm hr hvf hvt t1 t2 hg1 hg2
  simp only [rcs] at hW1
  simp only [rcs]
  go_enter Try.func32, Try.ntmps32
  go_wp2_with (first
    | (go_at_call 51; first | ((with_reducible refine (HC.out _).mono ?_); rintro e w' ⟨rfl, rfl⟩) | ((with_reducible refine (HD.out _).mono ?_); rintro e w' ⟨rfl, rfl⟩))
    | (refine load_rowG rfl 29 (.tmp 3) rfl w.heap.size rfl _ _ _ _ HG1.out Try.underlying29 rfl HIR.out ?_)
    | (go_at_call 19; (refine HM.out.mono ?_); rintro e w3 ⟨rfl, t9⟩; have HG1 := Lib.hid (t9.keeps HG1.out (fun h => h)); have HZ := Lib.hid (t9.keeps HZ.out (fun h => h)); have HR := Lib.hid (HR.out.still t9); have HT := Lib.hid (HT.out.trans t9 (fun _ _ h => h)); have HSW := Lib.hid t9.size; clear t9)
    | (refine store_row rfl 29 (.tmp 6) (.tmp 25) rfl W1.heap.size _ rfl rfl _ _ HZ.out HIR.out rfl (by rfl) ?_))
  refine ret_row1 rfl rfl W1.heap.size 29 (rcs zeroR none 0) (0, 0) _ rfl (setRow_heap _ _ _ _ _ _ HZ.out) Try.underlying29 rfl infoRec _ rfl ?_
  exact MigIs.bad HE.out (by decide) (HT.out.setRow _ _ (fun h => absurd h (by have := HSZ.out; omega)))

set_option maxRecDepth 20000 in
set_option maxHeartbeats 8000000 in
theorem rmig_11k (r : RecD) (a : Option Addr) (cap : Nat) (w : World) (hr : RowK w a r.bs.length cap r.bs) (hl : r.bs.length ≤ 100000) (hm : mayRB r = true) (hk : (inD r 1).kind = 1) :
    Calls Try.prog 32 #[.agg (rcs r a cap), .int .i64 1, .int .i64 1] w (MigIs w r 1 1) := by
  obtain ⟨W1, hW1⟩ : ∃ W, w.alloc (.cells (rcs r a cap) 29) = W := ⟨_, rfl⟩
  obtain ⟨W2, hW2⟩ : ∃ W, W1.alloc (.cells #[.int .i64 0, .int .u32 0, .int .u32 0, .int .i64 0, .int .i64 0, .int .i64 0, .int .i64 0, .int .i64 0, .int .i64 0, .int .i64 0, .slice none 0 0, .int .i64 0, .int .i64 0, .int .i64 0] 29) = W := ⟨_, rfl⟩
  have t1 : Touch w W1 (fun _ => False) := hW1 ▸ (Touch.refl _ _).alloc _
  have t2 : Touch W1 W2 (fun _ => False) := hW2 ▸ (Touch.refl _ _).alloc _
  have hg1 : W1.heap[w.heap.size]? = some (.cells (rcs r a cap) 29 (0, 0)) := hW1 ▸ heap_alloc_new w _
  have hg2 : W2.heap[W1.heap.size]? = some (.cells (rcs zeroR none 0) 29 (0, 0)) := hW2 ▸ heap_alloc_new W1 _
  have HSZ : RowKit.Hid (w.heap.size < W1.heap.size) := Lib.hid (heap_lt hg1)
  have HSZ2 : RowKit.Hid (W1.heap.size < W2.heap.size) := Lib.hid (heap_lt hg2)
  have HG1 := Lib.hid (t2.keeps hg1 (fun h => h))
  have HZ := Lib.hid hg2
  have HT := Lib.hid (t1.trans t2 (fun _ _ h => h))
  have HIR := Lib.hid infoRec
  have HR := Lib.hid ((hr.still t1).still t2)
  have HE : RowKit.Hid (migE r 1 1 = 0) := Lib.hid (by unfold migE; rw [hm]; rfl)
  obtain ⟨q, hq⟩ : ∃ q, inD r 1 = q := ⟨_, rfl⟩
  rw [hq] at hk
  have HMV : RowKit.Hid (movD r 1 1 = ⟨q.kind, q.t, q.fb, q.fg, q.fs, q.gen, q.bs, q.be, q.un, q.ct⟩) := Lib.hid (by
    have e : movD r 1 1 = q := by unfold movD; rw [hq]; simp
    refine e.trans ?_
    first | rfl | simp [gen1, seen0, hk])
  have HC : RowKit.Hid (∀ w, Calls Try.prog 51 #[.int .i64 1] w fun e w' => e = .returned (.bool true) ∧ w = w') := Lib.hid (fun w => (rversion_any 1 w).mono fun e w' h => ⟨h.1, h.2.symm⟩)
  have HD : RowKit.Hid (∀ w, Calls Try.prog 51 #[.int .i64 1] w fun e w' => e = .returned (.bool true) ∧ w = w') := Lib.hid (fun w => (rversion_any 1 w).mono fun e w' h => ⟨h.1, h.2.symm⟩)
  have HM : RowKit.Hid (Calls Try.prog 19 #[.agg (rcs r a cap)] W2 fun e w' => e = .returned (.bool true) ∧ Touch W2 w' (fun _ => False)) := Lib.hid (hm ▸ rmay_any r a cap W2 HR.out hl)
  have HI : RowKit.Hid (∀ wx, RowK wx a r.bs.length cap r.bs → Calls Try.prog 23 #[.agg (rcs r a cap), .int .i64 1] wx fun e w' => RecIs wx w' q e) := Lib.hid (fun wx h => hq ▸ rin_any r a cap 1 wx h hl)
  have HG := Lib.hid (fun (w' : World) (a' : Option Addr) (c' : Nat) (ho : OwnK w' w.heap.size (.slice a' (movD r 1 1).bs.length c') (movD r 1 1).bs) (ht : Touch w w' (fun _ => False)) => MigIs.good (r := r) (f := 1) (t := 1) HE.out ho ht)
  rw [HMV.out] at HG
  have hb : (q.kind == 1) = true := beq_iff_eq.2 hk
  generalize MigIs w r 1 1 = X at *
  clear hm hr t1 t2 hg1 hg2 hk hq HMV
  simp only [rcs] at hW1
  simp only [rcs]
  go_enter Try.func32, Try.ntmps32
  go_wp2_with (first
    | (go_at_call 51; first | ((with_reducible refine (HC.out _).mono ?_); rintro e w' ⟨rfl, rfl⟩) | ((with_reducible refine (HD.out _).mono ?_); rintro e w' ⟨rfl, rfl⟩))
    | (refine load_rowG rfl 29 (.tmp 3) rfl w.heap.size rfl _ _ _ _ HG1.out Try.underlying29 rfl HIR.out ?_)
    | (go_at_call 19; (refine HM.out.mono ?_); rintro e w3 ⟨rfl, t9⟩; have HG1 := Lib.hid (t9.keeps HG1.out (fun h => h)); have HZ := Lib.hid (t9.keeps HZ.out (fun h => h)); have HR := Lib.hid (HR.out.still t9); have HT := Lib.hid (HT.out.trans t9 (fun _ _ h => h)); have HSW := Lib.hid t9.size; clear t9)
    | (go_at_call 23; (refine (HI.out _ HR.out).mono ?_); rintro e w4 ⟨a4, c4, rfl, ho4, t4⟩; have HA4 := Lib.hid (t4.keeps HG1.out (fun h => h)); have HZ4 := Lib.hid (t4.keeps HZ.out (fun h => h)); have HO4 := Lib.hid ho4; have HT4 := Lib.hid (HT.out.trans t4 (fun _ _ h => h)); have HS4 := Lib.hid t4.size; clear ho4 t4 HG1)
    | (refine store_row rfl 29 (.tmp 3) (.tmp 28) rfl w.heap.size _ rfl rfl _ _ HA4.out HIR.out rfl (rcs_all _ _ _) ?_; have tS := (Touch.refl w4 (fun k => k = w.heap.size)).setRow w.heap.size (rcs q a4 c4) (fun _ => rfl); have hb5 : (w4.setRow w.heap.size (rcs q a4 c4)).heap[w.heap.size]? = some (.cells (rcs q a4 c4) 29 (0, 0)) := setRow_heap _ _ _ _ _ _ HA4.out; have hz := tS.keeps HZ4.out (fun h => by have := HSZ.out; omega); have ho := HO4.out.touch tS (fun x hx h => by (have h1 := ((OwnS.own HO4.out).lt x hx).1; have := HSW.out; have := HSZ.out; have := HSZ2.out; omega)); have ht := HT4.out.trans tS (fun k h1 h2 => by omega); generalize w4.setRow w.heap.size (rcs q a4 c4) = W5 at *; have HB := Lib.hid hb5; have HZ := Lib.hid hz; have HO := Lib.hid ho; have HT5 := Lib.hid ht; clear hb5 hz ho ht tS HA4 HZ4 HT4; obtain ⟨k0, k1, k2, k3, k4, k5, k6, k7, k8, k9, k10, k11, k12, k13⟩ := rcells_of HB.out; have f7 := free_of_cells HB.out 7; have f8 := free_of_cells HB.out 8; have HBL : RowKit.Hid (W5.heap[w.heap.size]? = some (.cells (rcs ⟨q.kind, q.t, q.fb, q.fg, q.fs, q.gen, q.bs, q.be, q.un, q.ct⟩ a4 c4) 29 (0, 0))) := Lib.hid HB.out; have HTC : RowKit.Hid (Touch W5 W5 (fun k => k = w.heap.size)) := Lib.hid (Touch.refl W5 (fun k => k = w.heap.size)); have HZL := Lib.hid (HTC.out.keeps HZ.out (fun h => by have := HSZ.out; omega)))
    | (refine load_rowG rfl 29 (.tmp 3) rfl w.heap.size rfl _ _ _ _ HBL.out Try.underlying29 rfl HIR.out ?_)
    | (refine store_row rfl 29 (.tmp 6) (.tmp 55) rfl W1.heap.size _ rfl rfl _ _ HZL.out HIR.out rfl (rcs_all _ _ _) ?_))
  refine ret_row1 rfl rfl W1.heap.size 29 (rcs ⟨q.kind, q.t, q.fb, q.fg, q.fs, q.gen, q.bs, q.be, q.un, q.ct⟩ a4 c4) (0, 0) _ rfl (setRow_heap _ _ _ _ _ _ HZL.out) Try.underlying29 rfl infoRec _ rfl ?_
  have tS := (Touch.refl W5 (fun k => k = W1.heap.size)).setRow W1.heap.size (rcs ⟨q.kind, q.t, q.fb, q.fg, q.fs, q.gen, q.bs, q.be, q.un, q.ct⟩ a4 c4) (fun _ => rfl)
  have ho := HO.out.touch HTC.out (fun x hx h => by have h1 := ((OwnS.own HO.out).lt x hx).1; have := HSW.out; have := HSZ.out; have := HSZ2.out; omega)
  refine HG.out _ _ _ ?_ ((HT5.out.trans HTC.out (fun k h1 h2 => by omega)).trans tS (fun k h1 h2 => by have := HSZ.out; omega))
  exact (ho.touch tS (fun x hx h => by have h1 := ((OwnS.own ho).lt x hx).1; have := HSW.out; have := HSZ2.out; omega)).rebase (fun x hx => by have h1 := ((OwnS.own ho).lt x hx).1; have := HSW.out; have := HSZ.out; have := HSZ2.out; omega)

set_option maxRecDepth 20000 in
set_option maxHeartbeats 8000000 in
theorem rmig_11n (r : RecD) (a : Option Addr) (cap : Nat) (w : World) (hr : RowK w a r.bs.length cap r.bs) (hl : r.bs.length ≤ 100000) (hm : mayRB r = true) (hk : (inD r 1).kind ≠ 1) :
    Calls Try.prog 32 #[.agg (rcs r a cap), .int .i64 1, .int .i64 1] w (MigIs w r 1 1) := by
  obtain ⟨W1, hW1⟩ : ∃ W, w.alloc (.cells (rcs r a cap) 29) = W := ⟨_, rfl⟩
  obtain ⟨W2, hW2⟩ : ∃ W, W1.alloc (.cells #[.int .i64 0, .int .u32 0, .int .u32 0, .int .i64 0, .int .i64 0, .int .i64 0, .int .i64 0, .int .i64 0, .int .i64 0, .int .i64 0, .slice none 0 0, .int .i64 0, .int .i64 0, .int .i64 0] 29) = W := ⟨_, rfl⟩
  have t1 : Touch w W1 (fun _ => False) := hW1 ▸ (Touch.refl _ _).alloc _
  have t2 : Touch W1 W2 (fun _ => False) := hW2 ▸ (Touch.refl _ _).alloc _
  have hg1 : W1.heap[w.heap.size]? = some (.cells (rcs r a cap) 29 (0, 0)) := hW1 ▸ heap_alloc_new w _
  have hg2 : W2.heap[W1.heap.size]? = some (.cells (rcs zeroR none 0) 29 (0, 0)) := hW2 ▸ heap_alloc_new W1 _
  have HSZ : RowKit.Hid (w.heap.size < W1.heap.size) := Lib.hid (heap_lt hg1)
  have HSZ2 : RowKit.Hid (W1.heap.size < W2.heap.size) := Lib.hid (heap_lt hg2)
  have HG1 := Lib.hid (t2.keeps hg1 (fun h => h))
  have HZ := Lib.hid hg2
  have HT := Lib.hid (t1.trans t2 (fun _ _ h => h))
  have HIR := Lib.hid infoRec
  have HR := Lib.hid ((hr.still t1).still t2)
  have HE : RowKit.Hid (migE r 1 1 = 0) := Lib.hid (by unfold migE; rw [hm]; rfl)
  obtain ⟨q, hq⟩ : ∃ q, inD r 1 = q := ⟨_, rfl⟩
  rw [hq] at hk
  have HMV : RowKit.Hid (movD r 1 1 = ⟨q.kind, q.t, q.fb, q.fg, q.fs, q.gen, q.bs, q.be, q.un, q.ct⟩) := Lib.hid (by
    have e : movD r 1 1 = q := by unfold movD; rw [hq]; simp
    refine e.trans ?_
    first | rfl | simp [gen1, seen0, hk])
  have HC : RowKit.Hid (∀ w, Calls Try.prog 51 #[.int .i64 1] w fun e w' => e = .returned (.bool true) ∧ w = w') := Lib.hid (fun w => (rversion_any 1 w).mono fun e w' h => ⟨h.1, h.2.symm⟩)
  have HD : RowKit.Hid (∀ w, Calls Try.prog 51 #[.int .i64 1] w fun e w' => e = .returned (.bool true) ∧ w = w') := Lib.hid (fun w => (rversion_any 1 w).mono fun e w' h => ⟨h.1, h.2.symm⟩)
  have HM : RowKit.Hid (Calls Try.prog 19 #[.agg (rcs r a cap)] W2 fun e w' => e = .returned (.bool true) ∧ Touch W2 w' (fun _ => False)) := Lib.hid (hm ▸ rmay_any r a cap W2 HR.out hl)
  have HI : RowKit.Hid (∀ wx, RowK wx a r.bs.length cap r.bs → Calls Try.prog 23 #[.agg (rcs r a cap), .int .i64 1] wx fun e w' => RecIs wx w' q e) := Lib.hid (fun wx h => hq ▸ rin_any r a cap 1 wx h hl)
  have HG := Lib.hid (fun (w' : World) (a' : Option Addr) (c' : Nat) (ho : OwnK w' w.heap.size (.slice a' (movD r 1 1).bs.length c') (movD r 1 1).bs) (ht : Touch w w' (fun _ => False)) => MigIs.good (r := r) (f := 1) (t := 1) HE.out ho ht)
  rw [HMV.out] at HG
  have hb : (q.kind == 1) = false := beq_eq_false_iff_ne.2 hk
  generalize MigIs w r 1 1 = X at *
  clear hm hr t1 t2 hg1 hg2 hk hq HMV
  simp only [rcs] at hW1
  simp only [rcs]
  go_enter Try.func32, Try.ntmps32
  go_wp2_with (first
    | (go_at_call 51; first | ((with_reducible refine (HC.out _).mono ?_); rintro e w' ⟨rfl, rfl⟩) | ((with_reducible refine (HD.out _).mono ?_); rintro e w' ⟨rfl, rfl⟩))
    | (refine load_rowG rfl 29 (.tmp 3) rfl w.heap.size rfl _ _ _ _ HG1.out Try.underlying29 rfl HIR.out ?_)
    | (go_at_call 19; (refine HM.out.mono ?_); rintro e w3 ⟨rfl, t9⟩; have HG1 := Lib.hid (t9.keeps HG1.out (fun h => h)); have HZ := Lib.hid (t9.keeps HZ.out (fun h => h)); have HR := Lib.hid (HR.out.still t9); have HT := Lib.hid (HT.out.trans t9 (fun _ _ h => h)); have HSW := Lib.hid t9.size; clear t9)
    | (go_at_call 23; (refine (HI.out _ HR.out).mono ?_); rintro e w4 ⟨a4, c4, rfl, ho4, t4⟩; have HA4 := Lib.hid (t4.keeps HG1.out (fun h => h)); have HZ4 := Lib.hid (t4.keeps HZ.out (fun h => h)); have HO4 := Lib.hid ho4; have HT4 := Lib.hid (HT.out.trans t4 (fun _ _ h => h)); have HS4 := Lib.hid t4.size; clear ho4 t4 HG1)
    | (refine store_row rfl 29 (.tmp 3) (.tmp 28) rfl w.heap.size _ rfl rfl _ _ HA4.out HIR.out rfl (rcs_all _ _ _) ?_; have tS := (Touch.refl w4 (fun k => k = w.heap.size)).setRow w.heap.size (rcs q a4 c4) (fun _ => rfl); have hb5 : (w4.setRow w.heap.size (rcs q a4 c4)).heap[w.heap.size]? = some (.cells (rcs q a4 c4) 29 (0, 0)) := setRow_heap _ _ _ _ _ _ HA4.out; have hz := tS.keeps HZ4.out (fun h => by have := HSZ.out; omega); have ho := HO4.out.touch tS (fun x hx h => by (have h1 := ((OwnS.own HO4.out).lt x hx).1; have := HSW.out; have := HSZ.out; have := HSZ2.out; omega)); have ht := HT4.out.trans tS (fun k h1 h2 => by omega); generalize w4.setRow w.heap.size (rcs q a4 c4) = W5 at *; have HB := Lib.hid hb5; have HZ := Lib.hid hz; have HO := Lib.hid ho; have HT5 := Lib.hid ht; clear hb5 hz ho ht tS HA4 HZ4 HT4; obtain ⟨k0, k1, k2, k3, k4, k5, k6, k7, k8, k9, k10, k11, k12, k13⟩ := rcells_of HB.out; have f7 := free_of_cells HB.out 7; have f8 := free_of_cells HB.out 8; have HBL : RowKit.Hid (W5.heap[w.heap.size]? = some (.cells (rcs ⟨q.kind, q.t, q.fb, q.fg, q.fs, q.gen, q.bs, q.be, q.un, q.ct⟩ a4 c4) 29 (0, 0))) := Lib.hid HB.out; have HTC : RowKit.Hid (Touch W5 W5 (fun k => k = w.heap.size)) := Lib.hid (Touch.refl W5 (fun k => k = w.heap.size)); have HZL := Lib.hid (HTC.out.keeps HZ.out (fun h => by have := HSZ.out; omega)))
    | (refine load_rowG rfl 29 (.tmp 3) rfl w.heap.size rfl _ _ _ _ HBL.out Try.underlying29 rfl HIR.out ?_)
    | (refine store_row rfl 29 (.tmp 6) (.tmp 55) rfl W1.heap.size _ rfl rfl _ _ HZL.out HIR.out rfl (rcs_all _ _ _) ?_))
  refine ret_row1 rfl rfl W1.heap.size 29 (rcs ⟨q.kind, q.t, q.fb, q.fg, q.fs, q.gen, q.bs, q.be, q.un, q.ct⟩ a4 c4) (0, 0) _ rfl (setRow_heap _ _ _ _ _ _ HZL.out) Try.underlying29 rfl infoRec _ rfl ?_
  have tS := (Touch.refl W5 (fun k => k = W1.heap.size)).setRow W1.heap.size (rcs ⟨q.kind, q.t, q.fb, q.fg, q.fs, q.gen, q.bs, q.be, q.un, q.ct⟩ a4 c4) (fun _ => rfl)
  have ho := HO.out.touch HTC.out (fun x hx h => by have h1 := ((OwnS.own HO.out).lt x hx).1; have := HSW.out; have := HSZ.out; have := HSZ2.out; omega)
  refine HG.out _ _ _ ?_ ((HT5.out.trans HTC.out (fun k h1 h2 => by omega)).trans tS (fun k h1 h2 => by have := HSZ.out; omega))
  exact (ho.touch tS (fun x hx h => by have h1 := ((OwnS.own ho).lt x hx).1; have := HSW.out; have := HSZ2.out; omega)).rebase (fun x hx => by have h1 := ((OwnS.own ho).lt x hx).1; have := HSW.out; have := HSZ.out; have := HSZ2.out; omega)

set_option maxRecDepth 20000 in
set_option maxHeartbeats 8000000 in
theorem rmig_12k (r : RecD) (a : Option Addr) (cap : Nat) (w : World) (hr : RowK w a r.bs.length cap r.bs) (hl : r.bs.length ≤ 100000) (hm : mayRB r = true) (hk : (inD r 1).kind = 1) :
    Calls Try.prog 32 #[.agg (rcs r a cap), .int .i64 1, .int .i64 2] w (MigIs w r 1 2) := by
  obtain ⟨W1, hW1⟩ : ∃ W, w.alloc (.cells (rcs r a cap) 29) = W := ⟨_, rfl⟩
  obtain ⟨W2, hW2⟩ : ∃ W, W1.alloc (.cells #[.int .i64 0, .int .u32 0, .int .u32 0, .int .i64 0, .int .i64 0, .int .i64 0, .int .i64 0, .int .i64 0, .int .i64 0, .int .i64 0, .slice none 0 0, .int .i64 0, .int .i64 0, .int .i64 0] 29) = W := ⟨_, rfl⟩
  have t1 : Touch w W1 (fun _ => False) := hW1 ▸ (Touch.refl _ _).alloc _
  have t2 : Touch W1 W2 (fun _ => False) := hW2 ▸ (Touch.refl _ _).alloc _
  have hg1 : W1.heap[w.heap.size]? = some (.cells (rcs r a cap) 29 (0, 0)) := hW1 ▸ heap_alloc_new w _
  have hg2 : W2.heap[W1.heap.size]? = some (.cells (rcs zeroR none 0) 29 (0, 0)) := hW2 ▸ heap_alloc_new W1 _
  have HSZ : RowKit.Hid (w.heap.size < W1.heap.size) := Lib.hid (heap_lt hg1)
  have HSZ2 : RowKit.Hid (W1.heap.size < W2.heap.size) := Lib.hid (heap_lt hg2)
  have HG1 := Lib.hid (t2.keeps hg1 (fun h => h))
  have HZ := Lib.hid hg2
  have HT := Lib.hid (t1.trans t2 (fun _ _ h => h))
  have HIR := Lib.hid infoRec
  have HR := Lib.hid ((hr.still t1).still t2)
  have HE : RowKit.Hid (migE r 1 2 = 0) := Lib.hid (by unfold migE; rw [hm]; rfl)
  obtain ⟨q, hq⟩ : ∃ q, inD r 1 = q := ⟨_, rfl⟩
  rw [hq] at hk
  have HMV : RowKit.Hid (movD r 1 2 = ⟨q.kind, q.t, q.fb, 1, q.fs, q.gen, q.bs, q.be, q.un, q.ct⟩) := Lib.hid (by
    have e : movD r 1 2 = gen1 q := by unfold movD; rw [hq]; simp
    refine e.trans ?_
    first | rfl | simp [gen1, seen0, hk])
  have HC : RowKit.Hid (∀ w, Calls Try.prog 51 #[.int .i64 1] w fun e w' => e = .returned (.bool true) ∧ w = w') := Lib.hid (fun w => (rversion_any 1 w).mono fun e w' h => ⟨h.1, h.2.symm⟩)
  have HD : RowKit.Hid (∀ w, Calls Try.prog 51 #[.int .i64 2] w fun e w' => e = .returned (.bool true) ∧ w = w') := Lib.hid (fun w => (rversion_any 2 w).mono fun e w' h => ⟨h.1, h.2.symm⟩)
  have HM : RowKit.Hid (Calls Try.prog 19 #[.agg (rcs r a cap)] W2 fun e w' => e = .returned (.bool true) ∧ Touch W2 w' (fun _ => False)) := Lib.hid (hm ▸ rmay_any r a cap W2 HR.out hl)
  have HI : RowKit.Hid (∀ wx, RowK wx a r.bs.length cap r.bs → Calls Try.prog 23 #[.agg (rcs r a cap), .int .i64 1] wx fun e w' => RecIs wx w' q e) := Lib.hid (fun wx h => hq ▸ rin_any r a cap 1 wx h hl)
  have HG := Lib.hid (fun (w' : World) (a' : Option Addr) (c' : Nat) (ho : OwnK w' w.heap.size (.slice a' (movD r 1 2).bs.length c') (movD r 1 2).bs) (ht : Touch w w' (fun _ => False)) => MigIs.good (r := r) (f := 1) (t := 2) HE.out ho ht)
  rw [HMV.out] at HG
  have hb : (q.kind == 1) = true := beq_iff_eq.2 hk
  generalize MigIs w r 1 2 = X at *
  clear hm hr t1 t2 hg1 hg2 hk hq HMV
  simp only [rcs] at hW1
  simp only [rcs]
  go_enter Try.func32, Try.ntmps32
  go_wp2_with (first
    | (go_at_call 51; first | ((with_reducible refine (HC.out _).mono ?_); rintro e w' ⟨rfl, rfl⟩) | ((with_reducible refine (HD.out _).mono ?_); rintro e w' ⟨rfl, rfl⟩))
    | (refine load_rowG rfl 29 (.tmp 3) rfl w.heap.size rfl _ _ _ _ HG1.out Try.underlying29 rfl HIR.out ?_)
    | (go_at_call 19; (refine HM.out.mono ?_); rintro e w3 ⟨rfl, t9⟩; have HG1 := Lib.hid (t9.keeps HG1.out (fun h => h)); have HZ := Lib.hid (t9.keeps HZ.out (fun h => h)); have HR := Lib.hid (HR.out.still t9); have HT := Lib.hid (HT.out.trans t9 (fun _ _ h => h)); have HSW := Lib.hid t9.size; clear t9)
    | (go_at_call 23; (refine (HI.out _ HR.out).mono ?_); rintro e w4 ⟨a4, c4, rfl, ho4, t4⟩; have HA4 := Lib.hid (t4.keeps HG1.out (fun h => h)); have HZ4 := Lib.hid (t4.keeps HZ.out (fun h => h)); have HO4 := Lib.hid ho4; have HT4 := Lib.hid (HT.out.trans t4 (fun _ _ h => h)); have HS4 := Lib.hid t4.size; clear ho4 t4 HG1)
    | (refine store_row rfl 29 (.tmp 3) (.tmp 28) rfl w.heap.size _ rfl rfl _ _ HA4.out HIR.out rfl (rcs_all _ _ _) ?_; have tS := (Touch.refl w4 (fun k => k = w.heap.size)).setRow w.heap.size (rcs q a4 c4) (fun _ => rfl); have hb5 : (w4.setRow w.heap.size (rcs q a4 c4)).heap[w.heap.size]? = some (.cells (rcs q a4 c4) 29 (0, 0)) := setRow_heap _ _ _ _ _ _ HA4.out; have hz := tS.keeps HZ4.out (fun h => by have := HSZ.out; omega); have ho := HO4.out.touch tS (fun x hx h => by (have h1 := ((OwnS.own HO4.out).lt x hx).1; have := HSW.out; have := HSZ.out; have := HSZ2.out; omega)); have ht := HT4.out.trans tS (fun k h1 h2 => by omega); generalize w4.setRow w.heap.size (rcs q a4 c4) = W5 at *; have HB := Lib.hid hb5; have HZ := Lib.hid hz; have HO := Lib.hid ho; have HT5 := Lib.hid ht; clear hb5 hz ho ht tS HA4 HZ4 HT4; obtain ⟨k0, k1, k2, k3, k4, k5, k6, k7, k8, k9, k10, k11, k12, k13⟩ := rcells_of HB.out; have f7 := free_of_cells HB.out 7; have f8 := free_of_cells HB.out 8; have HBL : RowKit.Hid ((W5.setCell ⟨w.heap.size, 7, none⟩ (.int .i64 1)).heap[w.heap.size]? = some (.cells (rcs ⟨q.kind, q.t, q.fb, 1, q.fs, q.gen, q.bs, q.be, q.un, q.ct⟩ a4 c4) 29 (0, 0))) := Lib.hid (heap_setCell_same _ w.heap.size 7 _ _ (.int .i64 1) HB.out); have HTC : RowKit.Hid (Touch W5 (W5.setCell ⟨w.heap.size, 7, none⟩ (.int .i64 1)) (fun k => k = w.heap.size)) := Lib.hid ((Touch.refl W5 (fun k => k = w.heap.size)).into 7 (.int .i64 1)); have HZL := Lib.hid (HTC.out.keeps HZ.out (fun h => by have := HSZ.out; omega)))
    | (refine load_rowG rfl 29 (.tmp 3) rfl w.heap.size rfl _ _ _ _ HBL.out Try.underlying29 rfl HIR.out ?_)
    | (refine store_row rfl 29 (.tmp 6) (.tmp 55) rfl W1.heap.size _ rfl rfl _ _ HZL.out HIR.out rfl (rcs_all _ _ _) ?_))
  refine ret_row1 rfl rfl W1.heap.size 29 (rcs ⟨q.kind, q.t, q.fb, 1, q.fs, q.gen, q.bs, q.be, q.un, q.ct⟩ a4 c4) (0, 0) _ rfl (setRow_heap _ _ _ _ _ _ HZL.out) Try.underlying29 rfl infoRec _ rfl ?_
  have tS := (Touch.refl (W5.setCell ⟨w.heap.size, 7, none⟩ (.int .i64 1)) (fun k => k = W1.heap.size)).setRow W1.heap.size (rcs ⟨q.kind, q.t, q.fb, 1, q.fs, q.gen, q.bs, q.be, q.un, q.ct⟩ a4 c4) (fun _ => rfl)
  have ho := HO.out.touch HTC.out (fun x hx h => by have h1 := ((OwnS.own HO.out).lt x hx).1; have := HSW.out; have := HSZ.out; have := HSZ2.out; omega)
  refine HG.out _ _ _ ?_ ((HT5.out.trans HTC.out (fun k h1 h2 => by omega)).trans tS (fun k h1 h2 => by have := HSZ.out; omega))
  exact (ho.touch tS (fun x hx h => by have h1 := ((OwnS.own ho).lt x hx).1; have := HSW.out; have := HSZ2.out; omega)).rebase (fun x hx => by have h1 := ((OwnS.own ho).lt x hx).1; have := HSW.out; have := HSZ.out; have := HSZ2.out; omega)

set_option maxRecDepth 20000 in
set_option maxHeartbeats 8000000 in
theorem rmig_12n (r : RecD) (a : Option Addr) (cap : Nat) (w : World) (hr : RowK w a r.bs.length cap r.bs) (hl : r.bs.length ≤ 100000) (hm : mayRB r = true) (hk : (inD r 1).kind ≠ 1) :
    Calls Try.prog 32 #[.agg (rcs r a cap), .int .i64 1, .int .i64 2] w (MigIs w r 1 2) := by
  obtain ⟨W1, hW1⟩ : ∃ W, w.alloc (.cells (rcs r a cap) 29) = W := ⟨_, rfl⟩
  obtain ⟨W2, hW2⟩ : ∃ W, W1.alloc (.cells #[.int .i64 0, .int .u32 0, .int .u32 0, .int .i64 0, .int .i64 0, .int .i64 0, .int .i64 0, .int .i64 0, .int .i64 0, .int .i64 0, .slice none 0 0, .int .i64 0, .int .i64 0, .int .i64 0] 29) = W := ⟨_, rfl⟩
  have t1 : Touch w W1 (fun _ => False) := hW1 ▸ (Touch.refl _ _).alloc _
  have t2 : Touch W1 W2 (fun _ => False) := hW2 ▸ (Touch.refl _ _).alloc _
  have hg1 : W1.heap[w.heap.size]? = some (.cells (rcs r a cap) 29 (0, 0)) := hW1 ▸ heap_alloc_new w _
  have hg2 : W2.heap[W1.heap.size]? = some (.cells (rcs zeroR none 0) 29 (0, 0)) := hW2 ▸ heap_alloc_new W1 _
  have HSZ : RowKit.Hid (w.heap.size < W1.heap.size) := Lib.hid (heap_lt hg1)
  have HSZ2 : RowKit.Hid (W1.heap.size < W2.heap.size) := Lib.hid (heap_lt hg2)
  have HG1 := Lib.hid (t2.keeps hg1 (fun h => h))
  have HZ := Lib.hid hg2
  have HT := Lib.hid (t1.trans t2 (fun _ _ h => h))
  have HIR := Lib.hid infoRec
  have HR := Lib.hid ((hr.still t1).still t2)
  have HE : RowKit.Hid (migE r 1 2 = 0) := Lib.hid (by unfold migE; rw [hm]; rfl)
  obtain ⟨q, hq⟩ : ∃ q, inD r 1 = q := ⟨_, rfl⟩
  rw [hq] at hk
  have HMV : RowKit.Hid (movD r 1 2 = ⟨q.kind, q.t, q.fb, q.fg, q.fs, q.gen, q.bs, q.be, q.un, q.ct⟩) := Lib.hid (by
    have e : movD r 1 2 = gen1 q := by unfold movD; rw [hq]; simp
    refine e.trans ?_
    first | rfl | simp [gen1, seen0, hk])
  have HC : RowKit.Hid (∀ w, Calls Try.prog 51 #[.int .i64 1] w fun e w' => e = .returned (.bool true) ∧ w = w') := Lib.hid (fun w => (rversion_any 1 w).mono fun e w' h => ⟨h.1, h.2.symm⟩)
  have HD : RowKit.Hid (∀ w, Calls Try.prog 51 #[.int .i64 2] w fun e w' => e = .returned (.bool true) ∧ w = w') := Lib.hid (fun w => (rversion_any 2 w).mono fun e w' h => ⟨h.1, h.2.symm⟩)
  have HM : RowKit.Hid (Calls Try.prog 19 #[.agg (rcs r a cap)] W2 fun e w' => e = .returned (.bool true) ∧ Touch W2 w' (fun _ => False)) := Lib.hid (hm ▸ rmay_any r a cap W2 HR.out hl)
  have HI : RowKit.Hid (∀ wx, RowK wx a r.bs.length cap r.bs → Calls Try.prog 23 #[.agg (rcs r a cap), .int .i64 1] wx fun e w' => RecIs wx w' q e) := Lib.hid (fun wx h => hq ▸ rin_any r a cap 1 wx h hl)
  have HG := Lib.hid (fun (w' : World) (a' : Option Addr) (c' : Nat) (ho : OwnK w' w.heap.size (.slice a' (movD r 1 2).bs.length c') (movD r 1 2).bs) (ht : Touch w w' (fun _ => False)) => MigIs.good (r := r) (f := 1) (t := 2) HE.out ho ht)
  rw [HMV.out] at HG
  have hb : (q.kind == 1) = false := beq_eq_false_iff_ne.2 hk
  generalize MigIs w r 1 2 = X at *
  clear hm hr t1 t2 hg1 hg2 hk hq HMV
  simp only [rcs] at hW1
  simp only [rcs]
  go_enter Try.func32, Try.ntmps32
  go_wp2_with (first
    | (go_at_call 51; first | ((with_reducible refine (HC.out _).mono ?_); rintro e w' ⟨rfl, rfl⟩) | ((with_reducible refine (HD.out _).mono ?_); rintro e w' ⟨rfl, rfl⟩))
    | (refine load_rowG rfl 29 (.tmp 3) rfl w.heap.size rfl _ _ _ _ HG1.out Try.underlying29 rfl HIR.out ?_)
    | (go_at_call 19; (refine HM.out.mono ?_); rintro e w3 ⟨rfl, t9⟩; have HG1 := Lib.hid (t9.keeps HG1.out (fun h => h)); have HZ := Lib.hid (t9.keeps HZ.out (fun h => h)); have HR := Lib.hid (HR.out.still t9); have HT := Lib.hid (HT.out.trans t9 (fun _ _ h => h)); have HSW := Lib.hid t9.size; clear t9)
    | (go_at_call 23; (refine (HI.out _ HR.out).mono ?_); rintro e w4 ⟨a4, c4, rfl, ho4, t4⟩; have HA4 := Lib.hid (t4.keeps HG1.out (fun h => h)); have HZ4 := Lib.hid (t4.keeps HZ.out (fun h => h)); have HO4 := Lib.hid ho4; have HT4 := Lib.hid (HT.out.trans t4 (fun _ _ h => h)); have HS4 := Lib.hid t4.size; clear ho4 t4 HG1)
    | (refine store_row rfl 29 (.tmp 3) (.tmp 28) rfl w.heap.size _ rfl rfl _ _ HA4.out HIR.out rfl (rcs_all _ _ _) ?_; have tS := (Touch.refl w4 (fun k => k = w.heap.size)).setRow w.heap.size (rcs q a4 c4) (fun _ => rfl); have hb5 : (w4.setRow w.heap.size (rcs q a4 c4)).heap[w.heap.size]? = some (.cells (rcs q a4 c4) 29 (0, 0)) := setRow_heap _ _ _ _ _ _ HA4.out; have hz := tS.keeps HZ4.out (fun h => by have := HSZ.out; omega); have ho := HO4.out.touch tS (fun x hx h => by (have h1 := ((OwnS.own HO4.out).lt x hx).1; have := HSW.out; have := HSZ.out; have := HSZ2.out; omega)); have ht := HT4.out.trans tS (fun k h1 h2 => by omega); generalize w4.setRow w.heap.size (rcs q a4 c4) = W5 at *; have HB := Lib.hid hb5; have HZ := Lib.hid hz; have HO := Lib.hid ho; have HT5 := Lib.hid ht; clear hb5 hz ho ht tS HA4 HZ4 HT4; obtain ⟨k0, k1, k2, k3, k4, k5, k6, k7, k8, k9, k10, k11, k12, k13⟩ := rcells_of HB.out; have f7 := free_of_cells HB.out 7; have f8 := free_of_cells HB.out 8; have HBL : RowKit.Hid (W5.heap[w.heap.size]? = some (.cells (rcs ⟨q.kind, q.t, q.fb, q.fg, q.fs, q.gen, q.bs, q.be, q.un, q.ct⟩ a4 c4) 29 (0, 0))) := Lib.hid HB.out; have HTC : RowKit.Hid (Touch W5 W5 (fun k => k = w.heap.size)) := Lib.hid (Touch.refl W5 (fun k => k = w.heap.size)); have HZL := Lib.hid (HTC.out.keeps HZ.out (fun h => by have := HSZ.out; omega)))
    | (refine load_rowG rfl 29 (.tmp 3) rfl w.heap.size rfl _ _ _ _ HBL.out Try.underlying29 rfl HIR.out ?_)
    | (refine store_row rfl 29 (.tmp 6) (.tmp 55) rfl W1.heap.size _ rfl rfl _ _ HZL.out HIR.out rfl (rcs_all _ _ _) ?_))
  refine ret_row1 rfl rfl W1.heap.size 29 (rcs ⟨q.kind, q.t, q.fb, q.fg, q.fs, q.gen, q.bs, q.be, q.un, q.ct⟩ a4 c4) (0, 0) _ rfl (setRow_heap _ _ _ _ _ _ HZL.out) Try.underlying29 rfl infoRec _ rfl ?_
  have tS := (Touch.refl W5 (fun k => k = W1.heap.size)).setRow W1.heap.size (rcs ⟨q.kind, q.t, q.fb, q.fg, q.fs, q.gen, q.bs, q.be, q.un, q.ct⟩ a4 c4) (fun _ => rfl)
  have ho := HO.out.touch HTC.out (fun x hx h => by have h1 := ((OwnS.own HO.out).lt x hx).1; have := HSW.out; have := HSZ.out; have := HSZ2.out; omega)
  refine HG.out _ _ _ ?_ ((HT5.out.trans HTC.out (fun k h1 h2 => by omega)).trans tS (fun k h1 h2 => by have := HSZ.out; omega))
  exact (ho.touch tS (fun x hx h => by have h1 := ((OwnS.own ho).lt x hx).1; have := HSW.out; have := HSZ2.out; omega)).rebase (fun x hx => by have h1 := ((OwnS.own ho).lt x hx).1; have := HSW.out; have := HSZ.out; have := HSZ2.out; omega)

set_option maxRecDepth 20000 in
set_option maxHeartbeats 8000000 in
theorem rmig_13k (r : RecD) (a : Option Addr) (cap : Nat) (w : World) (hr : RowK w a r.bs.length cap r.bs) (hl : r.bs.length ≤ 100000) (hm : mayRB r = true) (hk : (inD r 1).kind = 1) :
    Calls Try.prog 32 #[.agg (rcs r a cap), .int .i64 1, .int .i64 3] w (MigIs w r 1 3) := by
  obtain ⟨W1, hW1⟩ : ∃ W, w.alloc (.cells (rcs r a cap) 29) = W := ⟨_, rfl⟩
  obtain ⟨W2, hW2⟩ : ∃ W, W1.alloc (.cells #[.int .i64 0, .int .u32 0, .int .u32 0, .int .i64 0, .int .i64 0, .int .i64 0, .int .i64 0, .int .i64 0, .int .i64 0, .int .i64 0, .slice none 0 0, .int .i64 0, .int .i64 0, .int .i64 0] 29) = W := ⟨_, rfl⟩
  have t1 : Touch w W1 (fun _ => False) := hW1 ▸ (Touch.refl _ _).alloc _
  have t2 : Touch W1 W2 (fun _ => False) := hW2 ▸ (Touch.refl _ _).alloc _
  have hg1 : W1.heap[w.heap.size]? = some (.cells (rcs r a cap) 29 (0, 0)) := hW1 ▸ heap_alloc_new w _
  have hg2 : W2.heap[W1.heap.size]? = some (.cells (rcs zeroR none 0) 29 (0, 0)) := hW2 ▸ heap_alloc_new W1 _
  have HSZ : RowKit.Hid (w.heap.size < W1.heap.size) := Lib.hid (heap_lt hg1)
  have HSZ2 : RowKit.Hid (W1.heap.size < W2.heap.size) := Lib.hid (heap_lt hg2)
  have HG1 := Lib.hid (t2.keeps hg1 (fun h => h))
  have HZ := Lib.hid hg2
  have HT := Lib.hid (t1.trans t2 (fun _ _ h => h))
  have HIR := Lib.hid infoRec
  have HR := Lib.hid ((hr.still t1).still t2)
  have HE : RowKit.Hid (migE r 1 3 = 0) := Lib.hid (by unfold migE; rw [hm]; rfl)
  obtain ⟨q, hq⟩ : ∃ q, inD r 1 = q := ⟨_, rfl⟩
  rw [hq] at hk
  have HMV : RowKit.Hid (movD r 1 3 = ⟨q.kind, q.t, q.fb, 1, 0, q.gen, q.bs, q.be, q.un, q.ct⟩) := Lib.hid (by
    have e : movD r 1 3 = seen0 (gen1 q) := by unfold movD; rw [hq]; simp
    refine e.trans ?_
    first | rfl | simp [gen1, seen0, hk])
  have HC : RowKit.Hid (∀ w, Calls Try.prog 51 #[.int .i64 1] w fun e w' => e = .returned (.bool true) ∧ w = w') := Lib.hid (fun w => (rversion_any 1 w).mono fun e w' h => ⟨h.1, h.2.symm⟩)
  have HD : RowKit.Hid (∀ w, Calls Try.prog 51 #[.int .i64 3] w fun e w' => e = .returned (.bool true) ∧ w = w') := Lib.hid (fun w => (rversion_any 3 w).mono fun e w' h => ⟨h.1, h.2.symm⟩)
  have HM : RowKit.Hid (Calls Try.prog 19 #[.agg (rcs r a cap)] W2 fun e w' => e = .returned (.bool true) ∧ Touch W2 w' (fun _ => False)) := Lib.hid (hm ▸ rmay_any r a cap W2 HR.out hl)
  have HI : RowKit.Hid (∀ wx, RowK wx a r.bs.length cap r.bs → Calls Try.prog 23 #[.agg (rcs r a cap), .int .i64 1] wx fun e w' => RecIs wx w' q e) := Lib.hid (fun wx h => hq ▸ rin_any r a cap 1 wx h hl)
  have HG := Lib.hid (fun (w' : World) (a' : Option Addr) (c' : Nat) (ho : OwnK w' w.heap.size (.slice a' (movD r 1 3).bs.length c') (movD r 1 3).bs) (ht : Touch w w' (fun _ => False)) => MigIs.good (r := r) (f := 1) (t := 3) HE.out ho ht)
  rw [HMV.out] at HG
  have hb : (q.kind == 1) = true := beq_iff_eq.2 hk
  generalize MigIs w r 1 3 = X at *
  clear hm hr t1 t2 hg1 hg2 hk hq HMV
  simp only [rcs] at hW1
  simp only [rcs]
  go_enter Try.func32, Try.ntmps32
  go_wp2_with (first
    | (go_at_call 51; first | ((with_reducible refine (HC.out _).mono ?_); rintro e w' ⟨rfl, rfl⟩) | ((with_reducible refine (HD.out _).mono ?_); rintro e w' ⟨rfl, rfl⟩))
    | (refine load_rowG rfl 29 (.tmp 3) rfl w.heap.size rfl _ _ _ _ HG1.out Try.underlying29 rfl HIR.out ?_)
    | (go_at_call 19; (refine HM.out.mono ?_); rintro e w3 ⟨rfl, t9⟩; have HG1 := Lib.hid (t9.keeps HG1.out (fun h => h)); have HZ := Lib.hid (t9.keeps HZ.out (fun h => h)); have HR := Lib.hid (HR.out.still t9); have HT := Lib.hid (HT.out.trans t9 (fun _ _ h => h)); have HSW := Lib.hid t9.size; clear t9)
    | (go_at_call 23; (refine (HI.out _ HR.out).mono ?_); rintro e w4 ⟨a4, c4, rfl, ho4, t4⟩; have HA4 := Lib.hid (t4.keeps HG1.out (fun h => h)); have HZ4 := Lib.hid (t4.keeps HZ.out (fun h => h)); have HO4 := Lib.hid ho4; have HT4 := Lib.hid (HT.out.trans t4 (fun _ _ h => h)); have HS4 := Lib.hid t4.size; clear ho4 t4 HG1)
    | (refine store_row rfl 29 (.tmp 3) (.tmp 28) rfl w.heap.size _ rfl rfl _ _ HA4.out HIR.out rfl (rcs_all _ _ _) ?_; have tS := (Touch.refl w4 (fun k => k = w.heap.size)).setRow w.heap.size (rcs q a4 c4) (fun _ => rfl); have hb5 : (w4.setRow w.heap.size (rcs q a4 c4)).heap[w.heap.size]? = some (.cells (rcs q a4 c4) 29 (0, 0)) := setRow_heap _ _ _ _ _ _ HA4.out; have hz := tS.keeps HZ4.out (fun h => by have := HSZ.out; omega); have ho := HO4.out.touch tS (fun x hx h => by (have h1 := ((OwnS.own HO4.out).lt x hx).1; have := HSW.out; have := HSZ.out; have := HSZ2.out; omega)); have ht := HT4.out.trans tS (fun k h1 h2 => by omega); generalize w4.setRow w.heap.size (rcs q a4 c4) = W5 at *; have HB := Lib.hid hb5; have HZ := Lib.hid hz; have HO := Lib.hid ho; have HT5 := Lib.hid ht; clear hb5 hz ho ht tS HA4 HZ4 HT4; obtain ⟨k0, k1, k2, k3, k4, k5, k6, k7, k8, k9, k10, k11, k12, k13⟩ := rcells_of HB.out; have f7 := free_of_cells HB.out 7; have f8 := free_of_cells HB.out 8; have HBL : RowKit.Hid (((W5.setCell ⟨w.heap.size, 7, none⟩ (.int .i64 1)).setCell ⟨w.heap.size, 8, none⟩ (.int .i64 0)).heap[w.heap.size]? = some (.cells (rcs ⟨q.kind, q.t, q.fb, 1, 0, q.gen, q.bs, q.be, q.un, q.ct⟩ a4 c4) 29 (0, 0))) := Lib.hid (heap_setCell_same _ w.heap.size 8 _ _ (.int .i64 0) (heap_setCell_same _ w.heap.size 7 _ _ (.int .i64 1) HB.out)); have HTC : RowKit.Hid (Touch W5 ((W5.setCell ⟨w.heap.size, 7, none⟩ (.int .i64 1)).setCell ⟨w.heap.size, 8, none⟩ (.int .i64 0)) (fun k => k = w.heap.size)) := Lib.hid (((Touch.refl W5 (fun k => k = w.heap.size)).into 7 (.int .i64 1)).into 8 (.int .i64 0)); have HZL := Lib.hid (HTC.out.keeps HZ.out (fun h => by have := HSZ.out; omega)))
    | (refine load_rowG rfl 29 (.tmp 3) rfl w.heap.size rfl _ _ _ _ HBL.out Try.underlying29 rfl HIR.out ?_)
    | (refine store_row rfl 29 (.tmp 6) (.tmp 55) rfl W1.heap.size _ rfl rfl _ _ HZL.out HIR.out rfl (rcs_all _ _ _) ?_))
  refine ret_row1 rfl rfl W1.heap.size 29 (rcs ⟨q.kind, q.t, q.fb, 1, 0, q.gen, q.bs, q.be, q.un, q.ct⟩ a4 c4) (0, 0) _ rfl (setRow_heap _ _ _ _ _ _ HZL.out) Try.underlying29 rfl infoRec _ rfl ?_
  have tS := (Touch.refl ((W5.setCell ⟨w.heap.size, 7, none⟩ (.int .i64 1)).setCell ⟨w.heap.size, 8, none⟩ (.int .i64 0)) (fun k => k = W1.heap.size)).setRow W1.heap.size (rcs ⟨q.kind, q.t, q.fb, 1, 0, q.gen, q.bs, q.be, q.un, q.ct⟩ a4 c4) (fun _ => rfl)
  have ho := HO.out.touch HTC.out (fun x hx h => by have h1 := ((OwnS.own HO.out).lt x hx).1; have := HSW.out; have := HSZ.out; have := HSZ2.out; omega)
  refine HG.out _ _ _ ?_ ((HT5.out.trans HTC.out (fun k h1 h2 => by omega)).trans tS (fun k h1 h2 => by have := HSZ.out; omega))
  exact (ho.touch tS (fun x hx h => by have h1 := ((OwnS.own ho).lt x hx).1; have := HSW.out; have := HSZ2.out; omega)).rebase (fun x hx => by have h1 := ((OwnS.own ho).lt x hx).1; have := HSW.out; have := HSZ.out; have := HSZ2.out; omega)

set_option maxRecDepth 20000 in
set_option maxHeartbeats 8000000 in
theorem rmig_13n (r : RecD) (a : Option Addr) (cap : Nat) (w : World) (hr : RowK w a r.bs.length cap r.bs) (hl : r.bs.length ≤ 100000) (hm : mayRB r = true) (hk : (inD r 1).kind ≠ 1) :
    Calls Try.prog 32 #[.agg (rcs r a cap), .int .i64 1, .int .i64 3] w (MigIs w r 1 3) := by
  obtain ⟨W1, hW1⟩ : ∃ W, w.alloc (.cells (rcs r a cap) 29) = W := ⟨_, rfl⟩
  obtain ⟨W2, hW2⟩ : ∃ W, W1.alloc (.cells #[.int .i64 0, .int .u32 0, .int .u32 0, .int .i64 0, .int .i64 0, .int .i64 0, .int .i64 0, .int .i64 0, .int .i64 0, .int .i64 0, .slice none 0 0, .int .i64 0, .int .i64 0, .int .i64 0] 29) = W := ⟨_, rfl⟩
  have t1 : Touch w W1 (fun _ => False) := hW1 ▸ (Touch.refl _ _).alloc _
  have t2 : Touch W1 W2 (fun _ => False) := hW2 ▸ (Touch.refl _ _).alloc _
  have hg1 : W1.heap[w.heap.size]? = some (.cells (rcs r a cap) 29 (0, 0)) := hW1 ▸ heap_alloc_new w _
  have hg2 : W2.heap[W1.heap.size]? = some (.cells (rcs zeroR none 0) 29 (0, 0)) := hW2 ▸ heap_alloc_new W1 _
  have HSZ : RowKit.Hid (w.heap.size < W1.heap.size) := Lib.hid (heap_lt hg1)
  have HSZ2 : RowKit.Hid (W1.heap.size < W2.heap.size) := Lib.hid (heap_lt hg2)
  have HG1 := Lib.hid (t2.keeps hg1 (fun h => h))
  have HZ := Lib.hid hg2
  have HT := Lib.hid (t1.trans t2 (fun _ _ h => h))
  have HIR := Lib.hid infoRec
  have HR := Lib.hid ((hr.still t1).still t2)
  have HE : RowKit.Hid (migE r 1 3 = 0) := Lib.hid (by unfold migE; rw [hm]; rfl)
  obtain ⟨q, hq⟩ : ∃ q, inD r 1 = q := ⟨_, rfl⟩
  rw [hq] at hk
  have HMV : RowKit.Hid (movD r 1 3 = ⟨q.kind, q.t, q.fb, q.fg, q.fs, q.gen, q.bs, q.be, q.un, q.ct⟩) := Lib.hid (by
    have e : movD r 1 3 = seen0 (gen1 q) := by unfold movD; rw [hq]; simp
    refine e.trans ?_
    first | rfl | simp [gen1, seen0, hk])
  have HC : RowKit.Hid (∀ w, Calls Try.prog 51 #[.int .i64 1] w fun e w' => e = .returned (.bool true) ∧ w = w') := Lib.hid (fun w => (rversion_any 1 w).mono fun e w' h => ⟨h.1, h.2.symm⟩)
  have HD : RowKit.Hid (∀ w, Calls Try.prog 51 #[.int .i64 3] w fun e w' => e = .returned (.bool true) ∧ w = w') := Lib.hid (fun w => (rversion_any 3 w).mono fun e w' h => ⟨h.1, h.2.symm⟩)
  have HM : RowKit.Hid (Calls Try.prog 19 #[.agg (rcs r a cap)] W2 fun e w' => e = .returned (.bool true) ∧ Touch W2 w' (fun _ => False)) := Lib.hid (hm ▸ rmay_any r a cap W2 HR.out hl)
  have HI : RowKit.Hid (∀ wx, RowK wx a r.bs.length cap r.bs → Calls Try.prog 23 #[.agg (rcs r a cap), .int .i64 1] wx fun e w' => RecIs wx w' q e) := Lib.hid (fun wx h => hq ▸ rin_any r a cap 1 wx h hl)
  have HG := Lib.hid (fun (w' : World) (a' : Option Addr) (c' : Nat) (ho : OwnK w' w.heap.size (.slice a' (movD r 1 3).bs.length c') (movD r 1 3).bs) (ht : Touch w w' (fun _ => False)) => MigIs.good (r := r) (f := 1) (t := 3) HE.out ho ht)
  rw [HMV.out] at HG
  have hb : (q.kind == 1) = false := beq_eq_false_iff_ne.2 hk
  generalize MigIs w r 1 3 = X at *
  clear hm hr t1 t2 hg1 hg2 hk hq HMV
  simp only [rcs] at hW1
  simp only [rcs]
  go_enter Try.func32, Try.ntmps32
  go_wp2_with (first
    | (go_at_call 51; first | ((with_reducible refine (HC.out _).mono ?_); rintro e w' ⟨rfl, rfl⟩) | ((with_reducible refine (HD.out _).mono ?_); rintro e w' ⟨rfl, rfl⟩))
    | (refine load_rowG rfl 29 (.tmp 3) rfl w.heap.size rfl _ _ _ _ HG1.out Try.underlying29 rfl HIR.out ?_)
    | (go_at_call 19; (refine HM.out.mono ?_); rintro e w3 ⟨rfl, t9⟩; have HG1 := Lib.hid (t9.keeps HG1.out (fun h => h)); have HZ := Lib.hid (t9.keeps HZ.out (fun h => h)); have HR := Lib.hid (HR.out.still t9); have HT := Lib.hid (HT.out.trans t9 (fun _ _ h => h)); have HSW := Lib.hid t9.size; clear t9)
    | (go_at_call 23; (refine (HI.out _ HR.out).mono ?_); rintro e w4 ⟨a4, c4, rfl, ho4, t4⟩; have HA4 := Lib.hid (t4.keeps HG1.out (fun h => h)); have HZ4 := Lib.hid (t4.keeps HZ.out (fun h => h)); have HO4 := Lib.hid ho4; have HT4 := Lib.hid (HT.out.trans t4 (fun _ _ h => h)); have HS4 := Lib.hid t4.size; clear ho4 t4 HG1)
    | (refine store_row rfl 29 (.tmp 3) (.tmp 28) rfl w.heap.size _ rfl rfl _ _ HA4.out HIR.out rfl (rcs_all _ _ _) ?_; have tS := (Touch.refl w4 (fun k => k = w.heap.size)).setRow w.heap.size (rcs q a4 c4) (fun _ => rfl); have hb5 : (w4.setRow w.heap.size (rcs q a4 c4)).heap[w.heap.size]? = some (.cells (rcs q a4 c4) 29 (0, 0)) := setRow_heap _ _ _ _ _ _ HA4.out; have hz := tS.keeps HZ4.out (fun h => by have := HSZ.out; omega); have ho := HO4.out.touch tS (fun x hx h => by (have h1 := ((OwnS.own HO4.out).lt x hx).1; have := HSW.out; have := HSZ.out; have := HSZ2.out; omega)); have ht := HT4.out.trans tS (fun k h1 h2 => by omega); generalize w4.setRow w.heap.size (rcs q a4 c4) = W5 at *; have HB := Lib.hid hb5; have HZ := Lib.hid hz; have HO := Lib.hid ho; have HT5 := Lib.hid ht; clear hb5 hz ho ht tS HA4 HZ4 HT4; obtain ⟨k0, k1, k2, k3, k4, k5, k6, k7, k8, k9, k10, k11, k12, k13⟩ := rcells_of HB.out; have f7 := free_of_cells HB.out 7; have f8 := free_of_cells HB.out 8; have HBL : RowKit.Hid (W5.heap[w.heap.size]? = some (.cells (rcs ⟨q.kind, q.t, q.fb, q.fg, q.fs, q.gen, q.bs, q.be, q.un, q.ct⟩ a4 c4) 29 (0, 0))) := Lib.hid HB.out; have HTC : RowKit.Hid (Touch W5 W5 (fun k => k = w.heap.size)) := Lib.hid (Touch.refl W5 (fun k => k = w.heap.size)); have HZL := Lib.hid (HTC.out.keeps HZ.out (fun h => by have := HSZ.out; omega)))
    | (refine load_rowG rfl 29 (.tmp 3) rfl w.heap.size rfl _ _ _ _ HBL.out Try.underlying29 rfl HIR.out ?_)
    | (refine store_row rfl 29 (.tmp 6) (.tmp 55) rfl W1.heap.size _ rfl rfl _ _ HZL.out HIR.out rfl (rcs_all _ _ _) ?_))
  refine ret_row1 rfl rfl W1.heap.size 29 (rcs ⟨q.kind, q.t, q.fb, q.fg, q.fs, q.gen, q.bs, q.be, q.un, q.ct⟩ a4 c4) (0, 0) _ rfl (setRow_heap _ _ _ _ _ _ HZL.out) Try.underlying29 rfl infoRec _ rfl ?_
  have tS := (Touch.refl W5 (fun k => k = W1.heap.size)).setRow W1.heap.size (rcs ⟨q.kind, q.t, q.fb, q.fg, q.fs, q.gen, q.bs, q.be, q.un, q.ct⟩ a4 c4) (fun _ => rfl)
  have ho := HO.out.touch HTC.out (fun x hx h => by have h1 := ((OwnS.own HO.out).lt x hx).1; have := HSW.out; have := HSZ.out; have := HSZ2.out; omega)
  refine HG.out _ _ _ ?_ ((HT5.out.trans HTC.out (fun k h1 h2 => by omega)).trans tS (fun k h1 h2 => by have := HSZ.out; omega))
  exact (ho.touch tS (fun x hx h => by have h1 := ((OwnS.own ho).lt x hx).1; have := HSW.out; have := HSZ2.out; omega)).rebase (fun x hx => by have h1 := ((OwnS.own ho).lt x hx).1; have := HSW.out; have := HSZ.out; have := HSZ2.out; omega)

set_option maxRecDepth 20000 in
set_option maxHeartbeats 8000000 in
theorem rmig_22k (r : RecD) (a : Option Addr) (cap : Nat) (w : World) (hr : RowK w a r.bs.length cap r.bs) (hl : r.bs.length ≤ 100000) (hm : mayRB r = true) (hk : (inD r 2).kind = 1) :
    Calls Try.prog 32 #[.agg (rcs r a cap), .int .i64 2, .int .i64 2] w (MigIs w r 2 2) := by
  obtain ⟨W1, hW1⟩ : ∃ W, w.alloc (.cells (rcs r a cap) 29) = W := ⟨_, rfl⟩
  obtain ⟨W2, hW2⟩ : ∃ W, W1.alloc (.cells #[.int .i64 0, .int .u32 0, .int .u32 0, .int .i64 0, .int .i64 0, .int .i64 0, .int .i64 0, .int .i64 0, .int .i64 0, .int .i64 0, .slice none 0 0, .int .i64 0, .int .i64 0, .int .i64 0] 29) = W := ⟨_, rfl⟩
  have t1 : Touch w W1 (fun _ => False) := hW1 ▸ (Touch.refl _ _).alloc _
  have t2 : Touch W1 W2 (fun _ => False) := hW2 ▸ (Touch.refl _ _).alloc _
  have hg1 : W1.heap[w.heap.size]? = some (.cells (rcs r a cap) 29 (0, 0)) := hW1 ▸ heap_alloc_new w _
  have hg2 : W2.heap[W1.heap.size]? = some (.cells (rcs zeroR none 0) 29 (0, 0)) := hW2 ▸ heap_alloc_new W1 _
  have HSZ : RowKit.Hid (w.heap.size < W1.heap.size) := Lib.hid (heap_lt hg1)
  have HSZ2 : RowKit.Hid (W1.heap.size < W2.heap.size) := Lib.hid (heap_lt hg2)
  have HG1 := Lib.hid (t2.keeps hg1 (fun h => h))
  have HZ := Lib.hid hg2
  have HT := Lib.hid (t1.trans t2 (fun _ _ h => h))
  have HIR := Lib.hid infoRec
  have HR := Lib.hid ((hr.still t1).still t2)
  have HE : RowKit.Hid (migE r 2 2 = 0) := Lib.hid (by unfold migE; rw [hm]; rfl)
  obtain ⟨q, hq⟩ : ∃ q, inD r 2 = q := ⟨_, rfl⟩
  rw [hq] at hk
  have HMV : RowKit.Hid (movD r 2 2 = ⟨q.kind, q.t, q.fb, q.fg, q.fs, q.gen, q.bs, q.be, q.un, q.ct⟩) := Lib.hid (by
    have e : movD r 2 2 = q := by unfold movD; rw [hq]; simp
    refine e.trans ?_
    first | rfl | simp [gen1, seen0, hk])
  have HC : RowKit.Hid (∀ w, Calls Try.prog 51 #[.int .i64 2] w fun e w' => e = .returned (.bool true) ∧ w = w') := Lib.hid (fun w => (rversion_any 2 w).mono fun e w' h => ⟨h.1, h.2.symm⟩)
  have HD : RowKit.Hid (∀ w, Calls Try.prog 51 #[.int .i64 2] w fun e w' => e = .returned (.bool true) ∧ w = w') := Lib.hid (fun w => (rversion_any 2 w).mono fun e w' h => ⟨h.1, h.2.symm⟩)
  have HM : RowKit.Hid (Calls Try.prog 19 #[.agg (rcs r a cap)] W2 fun e w' => e = .returned (.bool true) ∧ Touch W2 w' (fun _ => False)) := Lib.hid (hm ▸ rmay_any r a cap W2 HR.out hl)
  have HI : RowKit.Hid (∀ wx, RowK wx a r.bs.length cap r.bs → Calls Try.prog 23 #[.agg (rcs r a cap), .int .i64 2] wx fun e w' => RecIs wx w' q e) := Lib.hid (fun wx h => hq ▸ rin_any r a cap 2 wx h hl)
  have HG := Lib.hid (fun (w' : World) (a' : Option Addr) (c' : Nat) (ho : OwnK w' w.heap.size (.slice a' (movD r 2 2).bs.length c') (movD r 2 2).bs) (ht : Touch w w' (fun _ => False)) => MigIs.good (r := r) (f := 2) (t := 2) HE.out ho ht)
  rw [HMV.out] at HG
  have hb : (q.kind == 1) = true := beq_iff_eq.2 hk
  generalize MigIs w r 2 2 = X at *
  clear hm hr t1 t2 hg1 hg2 hk hq HMV
  simp only [rcs] at hW1
  simp only [rcs]
  go_enter Try.func32, Try.ntmps32
  go_wp2_with (first
    | (go_at_call 51; first | ((with_reducible refine (HC.out _).mono ?_); rintro e w' ⟨rfl, rfl⟩) | ((with_reducible refine (HD.out _).mono ?_); rintro e w' ⟨rfl, rfl⟩))
    | (refine load_rowG rfl 29 (.tmp 3) rfl w.heap.size rfl _ _ _ _ HG1.out Try.underlying29 rfl HIR.out ?_)
    | (go_at_call 19; (refine HM.out.mono ?_); rintro e w3 ⟨rfl, t9⟩; have HG1 := Lib.hid (t9.keeps HG1.out (fun h => h)); have HZ := Lib.hid (t9.keeps HZ.out (fun h => h)); have HR := Lib.hid (HR.out.still t9); have HT := Lib.hid (HT.out.trans t9 (fun _ _ h => h)); have HSW := Lib.hid t9.size; clear t9)
    | (go_at_call 23; (refine (HI.out _ HR.out).mono ?_); rintro e w4 ⟨a4, c4, rfl, ho4, t4⟩; have HA4 := Lib.hid (t4.keeps HG1.out (fun h => h)); have HZ4 := Lib.hid (t4.keeps HZ.out (fun h => h)); have HO4 := Lib.hid ho4; have HT4 := Lib.hid (HT.out.trans t4 (fun _ _ h => h)); have HS4 := Lib.hid t4.size; clear ho4 t4 HG1)
    | (refine store_row rfl 29 (.tmp 3) (.tmp 28) rfl w.heap.size _ rfl rfl _ _ HA4.out HIR.out rfl (rcs_all _ _ _) ?_; have tS := (Touch.refl w4 (fun k => k = w.heap.size)).setRow w.heap.size (rcs q a4 c4) (fun _ => rfl); have hb5 : (w4.setRow w.heap.size (rcs q a4 c4)).heap[w.heap.size]? = some (.cells (rcs q a4 c4) 29 (0, 0)) := setRow_heap _ _ _ _ _ _ HA4.out; have hz := tS.keeps HZ4.out (fun h => by have := HSZ.out; omega); have ho := HO4.out.touch tS (fun x hx h => by (have h1 := ((OwnS.own HO4.out).lt x hx).1; have := HSW.out; have := HSZ.out; have := HSZ2.out; omega)); have ht := HT4.out.trans tS (fun k h1 h2 => by omega); generalize w4.setRow w.heap.size (rcs q a4 c4) = W5 at *; have HB := Lib.hid hb5; have HZ := Lib.hid hz; have HO := Lib.hid ho; have HT5 := Lib.hid ht; clear hb5 hz ho ht tS HA4 HZ4 HT4; obtain ⟨k0, k1, k2, k3, k4, k5, k6, k7, k8, k9, k10, k11, k12, k13⟩ := rcells_of HB.out; have f7 := free_of_cells HB.out 7; have f8 := free_of_cells HB.out 8; have HBL : RowKit.Hid (W5.heap[w.heap.size]? = some (.cells (rcs ⟨q.kind, q.t, q.fb, q.fg, q.fs, q.gen, q.bs, q.be, q.un, q.ct⟩ a4 c4) 29 (0, 0))) := Lib.hid HB.out; have HTC : RowKit.Hid (Touch W5 W5 (fun k => k = w.heap.size)) := Lib.hid (Touch.refl W5 (fun k => k = w.heap.size)); have HZL := Lib.hid (HTC.out.keeps HZ.out (fun h => by have := HSZ.out; omega)))
    | (refine load_rowG rfl 29 (.tmp 3) rfl w.heap.size rfl _ _ _ _ HBL.out Try.underlying29 rfl HIR.out ?_)
    | (refine store_row rfl 29 (.tmp 6) (.tmp 55) rfl W1.heap.size _ rfl rfl _ _ HZL.out HIR.out rfl (rcs_all _ _ _) ?_))
  refine ret_row1 rfl rfl W1.heap.size 29 (rcs ⟨q.kind, q.t, q.fb, q.fg, q.fs, q.gen, q.bs, q.be, q.un, q.ct⟩ a4 c4) (0, 0) _ rfl (setRow_heap _ _ _ _ _ _ HZL.out) Try.underlying29 rfl infoRec _ rfl ?_
  have tS := (Touch.refl W5 (fun k => k = W1.heap.size)).setRow W1.heap.size (rcs ⟨q.kind, q.t, q.fb, q.fg, q.fs, q.gen, q.bs, q.be, q.un, q.ct⟩ a4 c4) (fun _ => rfl)
  have ho := HO.out.touch HTC.out (fun x hx h => by have h1 := ((OwnS.own HO.out).lt x hx).1; have := HSW.out; have := HSZ.out; have := HSZ2.out; omega)
  refine HG.out _ _ _ ?_ ((HT5.out.trans HTC.out (fun k h1 h2 => by omega)).trans tS (fun k h1 h2 => by have := HSZ.out; omega))
  exact (ho.touch tS (fun x hx h => by have h1 := ((OwnS.own ho).lt x hx).1; have := HSW.out; have := HSZ2.out; omega)).rebase (fun x hx => by have h1 := ((OwnS.own ho).lt x hx).1; have := HSW.out; have := HSZ.out; have := HSZ2.out; omega)

set_option maxRecDepth 20000 in
set_option maxHeartbeats 8000000 in
theorem rmig_22n (r : RecD) (a : Option Addr) (cap : Nat) (w : World) (hr : RowK w a r.bs.length cap r.bs) (hl : r.bs.length ≤ 100000) (hm : mayRB r = true) (hk : (inD r 2).kind ≠ 1) :
    Calls Try.prog 32 #[.agg (rcs r a cap), .int .i64 2, .int .i64 2] w (MigIs w r 2 2) := by
  obtain ⟨W1, hW1⟩ : ∃ W, w.alloc (.cells (rcs r a cap) 29) = W := ⟨_, rfl⟩
  obtain ⟨W2, hW2⟩ : ∃ W, W1.alloc (.cells #[.int .i64 0, .int .u32 0, .int .u32 0, .int .i64 0, .int .i64 0, .int .i64 0, .int .i64 0, .int .i64 0, .int .i64 0, .int .i64 0, .slice none 0 0, .int .i64 0, .int .i64 0, .int .i64 0] 29) = W := ⟨_, rfl⟩
  have t1 : Touch w W1 (fun _ => False) := hW1 ▸ (Touch.refl _ _).alloc _
  have t2 : Touch W1 W2 (fun _ => False) := hW2 ▸ (Touch.refl _ _).alloc _
  have hg1 : W1.heap[w.heap.size]? = some (.cells (rcs r a cap) 29 (0, 0)) := hW1 ▸ heap_alloc_new w _
  have hg2 : W2.heap[W1.heap.size]? = some (.cells (rcs zeroR none 0) 29 (0, 0)) := hW2 ▸ heap_alloc_new W1 _
  have HSZ : RowKit.Hid (w.heap.size < W1.heap.size) := Lib.hid (heap_lt hg1)
  have HSZ2 : RowKit.Hid (W1.heap.size < W2.heap.size) := Lib.hid (heap_lt hg2)
  have HG1 := Lib.hid (t2.keeps hg1 (fun h => h))
  have HZ := Lib.hid hg2
  have HT := Lib.hid (t1.trans t2 (fun _ _ h => h))
  have HIR := Lib.hid infoRec
  have HR := Lib.hid ((hr.still t1).still t2)
  have HE : RowKit.Hid (migE r 2 2 = 0) := Lib.hid (by unfold migE; rw [hm]; rfl)
  obtain ⟨q, hq⟩ : ∃ q, inD r 2 = q := ⟨_, rfl⟩
  rw [hq] at hk
  have HMV : RowKit.Hid (movD r 2 2 = ⟨q.kind, q.t, q.fb, q.fg, q.fs, q.gen, q.bs, q.be, q.un, q.ct⟩) := Lib.hid (by
    have e : movD r 2 2 = q := by unfold movD; rw [hq]; simp
    refine e.trans ?_
    first | rfl | simp [gen1, seen0, hk])
  have HC : RowKit.Hid (∀ w, Calls Try.prog 51 #[.int .i64 2] w fun e w' => e = .returned (.bool true) ∧ w = w') := Lib.hid (fun w => (rversion_any 2 w).mono fun e w' h => ⟨h.1, h.2.symm⟩)
  have HD : RowKit.Hid (∀ w, Calls Try.prog 51 #[.int .i64 2] w fun e w' => e = .returned (.bool true) ∧ w = w') := Lib.hid (fun w => (rversion_any 2 w).mono fun e w' h => ⟨h.1, h.2.symm⟩)
  have HM : RowKit.Hid (Calls Try.prog 19 #[.agg (rcs r a cap)] W2 fun e w' => e = .returned (.bool true) ∧ Touch W2 w' (fun _ => False)) := Lib.hid (hm ▸ rmay_any r a cap W2 HR.out hl)
  have HI : RowKit.Hid (∀ wx, RowK wx a r.bs.length cap r.bs → Calls Try.prog 23 #[.agg (rcs r a cap), .int .i64 2] wx fun e w' => RecIs wx w' q e) := Lib.hid (fun wx h => hq ▸ rin_any r a cap 2 wx h hl)
  have HG := Lib.hid (fun (w' : World) (a' : Option Addr) (c' : Nat) (ho : OwnK w' w.heap.size (.slice a' (movD r 2 2).bs.length c') (movD r 2 2).bs) (ht : Touch w w' (fun _ => False)) => MigIs.good (r := r) (f := 2) (t := 2) HE.out ho ht)
  rw [HMV.out] at HG
  have hb : (q.kind == 1) = false := beq_eq_false_iff_ne.2 hk
  generalize MigIs w r 2 2 = X at *
  clear hm hr t1 t2 hg1 hg2 hk hq HMV
  simp only [rcs] at hW1
  simp only [rcs]
  go_enter Try.func32, Try.ntmps32
  go_wp2_with (first
    | (go_at_call 51; first | ((with_reducible refine (HC.out _).mono ?_); rintro e w' ⟨rfl, rfl⟩) | ((with_reducible refine (HD.out _).mono ?_); rintro e w' ⟨rfl, rfl⟩))
    | (refine load_rowG rfl 29 (.tmp 3) rfl w.heap.size rfl _ _ _ _ HG1.out Try.underlying29 rfl HIR.out ?_)
    | (go_at_call 19; (refine HM.out.mono ?_); rintro e w3 ⟨rfl, t9⟩; have HG1 := Lib.hid (t9.keeps HG1.out (fun h => h)); have HZ := Lib.hid (t9.keeps HZ.out (fun h => h)); have HR := Lib.hid (HR.out.still t9); have HT := Lib.hid (HT.out.trans t9 (fun _ _ h => h)); have HSW := Lib.hid t9.size; clear t9)
    | (go_at_call 23; (refine (HI.out _ HR.out).mono ?_); rintro e w4 ⟨a4, c4, rfl, ho4, t4⟩; have HA4 := Lib.hid (t4.keeps HG1.out (fun h => h)); have HZ4 := Lib.hid (t4.keeps HZ.out (fun h => h)); have HO4 := Lib.hid ho4; have HT4 := Lib.hid (HT.out.trans t4 (fun _ _ h => h)); have HS4 := Lib.hid t4.size; clear ho4 t4 HG1)
    | (refine store_row rfl 29 (.tmp 3) (.tmp 28) rfl w.heap.size _ rfl rfl _ _ HA4.out HIR.out rfl (rcs_all _ _ _) ?_; have tS := (Touch.refl w4 (fun k => k = w.heap.size)).setRow w.heap.size (rcs q a4 c4) (fun _ => rfl); have hb5 : (w4.setRow w.heap.size (rcs q a4 c4)).heap[w.heap.size]? = some (.cells (rcs q a4 c4) 29 (0, 0)) := setRow_heap _ _ _ _ _ _ HA4.out; have hz := tS.keeps HZ4.out (fun h => by have := HSZ.out; omega); have ho := HO4.out.touch tS (fun x hx h => by (have h1 := ((OwnS.own HO4.out).lt x hx).1; have := HSW.out; have := HSZ.out; have := HSZ2.out; omega)); have ht := HT4.out.trans tS (fun k h1 h2 => by omega); generalize w4.setRow w.heap.size (rcs q a4 c4) = W5 at *; have HB := Lib.hid hb5; have HZ := Lib.hid hz; have HO := Lib.hid ho; have HT5 := Lib.hid ht; clear hb5 hz ho ht tS HA4 HZ4 HT4; obtain ⟨k0, k1, k2, k3, k4, k5, k6, k7, k8, k9, k10, k11, k12, k13⟩ := rcells_of HB.out; have f7 := free_of_cells HB.out 7; have f8 := free_of_cells HB.out 8; have HBL : RowKit.Hid (W5.heap[w.heap.size]? = some (.cells (rcs ⟨q.kind, q.t, q.fb, q.fg, q.fs, q.gen, q.bs, q.be, q.un, q.ct⟩ a4 c4) 29 (0, 0))) := Lib.hid HB.out; have HTC : RowKit.Hid (Touch W5 W5 (fun k => k = w.heap.size)) := Lib.hid (Touch.refl W5 (fun k => k = w.heap.size)); have HZL := Lib.hid (HTC.out.keeps HZ.out (fun h => by have := HSZ.out; omega)))
    | (refine load_rowG rfl 29 (.tmp 3) rfl w.heap.size rfl _ _ _ _ HBL.out Try.underlying29 rfl HIR.out ?_)
    | (refine store_row rfl 29 (.tmp 6) (.tmp 55) rfl W1.heap.size _ rfl rfl _ _ HZL.out HIR.out rfl (rcs_all _ _ _) ?_))
  refine ret_row1 rfl rfl W1.heap.size 29 (rcs ⟨q.kind, q.t, q.fb, q.fg, q.fs, q.gen, q.bs, q.be, q.un, q.ct⟩ a4 c4) (0, 0) _ rfl (setRow_heap _ _ _ _ _ _ HZL.out) Try.underlying29 rfl infoRec _ rfl ?_
  have tS := (Touch.refl W5 (fun k => k = W1.heap.size)).setRow W1.heap.size (rcs ⟨q.kind, q.t, q.fb, q.fg, q.fs, q.gen, q.bs, q.be, q.un, q.ct⟩ a4 c4) (fun _ => rfl)
  have ho := HO.out.touch HTC.out (fun x hx h => by have h1 := ((OwnS.own HO.out).lt x hx).1; have := HSW.out; have := HSZ.out; have := HSZ2.out; omega)
  refine HG.out _ _ _ ?_ ((HT5.out.trans HTC.out (fun k h1 h2 => by omega)).trans tS (fun k h1 h2 => by have := HSZ.out; omega))
  exact (ho.touch tS (fun x hx h => by have h1 := ((OwnS.own ho).lt x hx).1; have := HSW.out; have := HSZ2.out; omega)).rebase (fun x hx => by have h1 := ((OwnS.own ho).lt x hx).1; have := HSW.out; have := HSZ.out; have := HSZ2.out; omega)

set_option maxRecDepth 20000 in
set_option maxHeartbeats 8000000 in
theorem rmig_23k (r : RecD) (a : Option Addr) (cap : Nat) (w : World) (hr : RowK w a r.bs.length cap r.bs) (hl : r.bs.length ≤ 100000) (hm : mayRB r = true) (hk : (inD r 2).kind = 1) :
    Calls Try.prog 32 #[.agg (rcs r a cap), .int .i64 2, .int .i64 3] w (MigIs w r 2 3) := by
  obtain ⟨W1, hW1⟩ : ∃ W, w.alloc (.cells (rcs r a cap) 29) = W := ⟨_, rfl⟩
  obtain ⟨W2, hW2⟩ : ∃ W, W1.alloc (.cells #[.int .i64 0, .int .u32 0, .int .u32 0, .int .i64 0, .int .i64 0, .int .i64 0, .int .i64 0, .int .i64 0, .int .i64 0, .int .i64 0, .slice none 0 0, .int .i64 0, .int .i64 0, .int .i64 0] 29) = W := ⟨_, rfl⟩
  have t1 : Touch w W1 (fun _ => False) := hW1 ▸ (Touch.refl _ _).alloc _
  have t2 : Touch W1 W2 (fun _ => False) := hW2 ▸ (Touch.refl _ _).alloc _
  have hg1 : W1.heap[w.heap.size]? = some (.cells (rcs r a cap) 29 (0, 0)) := hW1 ▸ heap_alloc_new w _
  have hg2 : W2.heap[W1.heap.size]? = some (.cells (rcs zeroR none 0) 29 (0, 0)) := hW2 ▸ heap_alloc_new W1 _
  have HSZ : RowKit.Hid (w.heap.size < W1.heap.size) := Lib.hid (heap_lt hg1)
  have HSZ2 : RowKit.Hid (W1.heap.size < W2.heap.size) := Lib.hid (heap_lt hg2)
  have HG1 := Lib.hid (t2.keeps hg1 (fun h => h))
  have HZ := Lib.hid hg2
  have HT := Lib.hid (t1.trans t2 (fun _ _ h => h))
  have HIR := Lib.hid infoRec
  have HR := Lib.hid ((hr.still t1).still t2)
  have HE : RowKit.Hid (migE r 2 3 = 0) := Lib.hid (by unfold migE; rw [hm]; rfl)
  obtain ⟨q, hq⟩ : ∃ q, inD r 2 = q := ⟨_, rfl⟩
  rw [hq] at hk
  have HMV : RowKit.Hid (movD r 2 3 = ⟨q.kind, q.t, q.fb, q.fg, 0, q.gen, q.bs, q.be, q.un, q.ct⟩) := Lib.hid (by
    have e : movD r 2 3 = seen0 q := by unfold movD; rw [hq]; simp
    refine e.trans ?_
    first | rfl | simp [gen1, seen0, hk])
  have HC : RowKit.Hid (∀ w, Calls Try.prog 51 #[.int .i64 2] w fun e w' => e = .returned (.bool true) ∧ w = w') := Lib.hid (fun w => (rversion_any 2 w).mono fun e w' h => ⟨h.1, h.2.symm⟩)
  have HD : RowKit.Hid (∀ w, Calls Try.prog 51 #[.int .i64 3] w fun e w' => e = .returned (.bool true) ∧ w = w') := Lib.hid (fun w => (rversion_any 3 w).mono fun e w' h => ⟨h.1, h.2.symm⟩)
  have HM : RowKit.Hid (Calls Try.prog 19 #[.agg (rcs r a cap)] W2 fun e w' => e = .returned (.bool true) ∧ Touch W2 w' (fun _ => False)) := Lib.hid (hm ▸ rmay_any r a cap W2 HR.out hl)
  have HI : RowKit.Hid (∀ wx, RowK wx a r.bs.length cap r.bs → Calls Try.prog 23 #[.agg (rcs r a cap), .int .i64 2] wx fun e w' => RecIs wx w' q e) := Lib.hid (fun wx h => hq ▸ rin_any r a cap 2 wx h hl)
  have HG := Lib.hid (fun (w' : World) (a' : Option Addr) (c' : Nat) (ho : OwnK w' w.heap.size (.slice a' (movD r 2 3).bs.length c') (movD r 2 3).bs) (ht : Touch w w' (fun _ => False)) => MigIs.good (r := r) (f := 2) (t := 3) HE.out ho ht)
  rw [HMV.out] at HG
  have hb : (q.kind == 1) = true := beq_iff_eq.2 hk
  generalize MigIs w r 2 3 = X at *
  clear hm hr t1 t2 hg1 hg2 hk hq HMV
  simp only [rcs] at hW1
  simp only [rcs]
  go_enter Try.func32, Try.ntmps32
  go_wp2_with (first
    | (go_at_call 51; first | ((with_reducible refine (HC.out _).mono ?_); rintro e w' ⟨rfl, rfl⟩) | ((with_reducible refine (HD.out _).mono ?_); rintro e w' ⟨rfl, rfl⟩))
    | (refine load_rowG rfl 29 (.tmp 3) rfl w.heap.size rfl _ _ _ _ HG1.out Try.underlying29 rfl HIR.out ?_)
    | (go_at_call 19; (refine HM.out.mono ?_); rintro e w3 ⟨rfl, t9⟩; have HG1 := Lib.hid (t9.keeps HG1.out (fun h => h)); have HZ := Lib.hid (t9.keeps HZ.out (fun h => h)); have HR := Lib.hid (HR.out.still t9); have HT := Lib.hid (HT.out.trans t9 (fun _ _ h => h)); have HSW := Lib.hid t9.size; clear t9)
    | (go_at_call 23; (refine (HI.out _ HR.out).mono ?_); rintro e w4 ⟨a4, c4, rfl, ho4, t4⟩; have HA4 := Lib.hid (t4.keeps HG1.out (fun h => h)); have HZ4 := Lib.hid (t4.keeps HZ.out (fun h => h)); have HO4 := Lib.hid ho4; have HT4 := Lib.hid (HT.out.trans t4 (fun _ _ h => h)); have HS4 := Lib.hid t4.size; clear ho4 t4 HG1)
    | (refine store_row rfl 29 (.tmp 3) (.tmp 28) rfl w.heap.size _ rfl rfl _ _ HA4.out HIR.out rfl (rcs_all _ _ _) ?_; have tS := (Touch.refl w4 (fun k => k = w.heap.size)).setRow w.heap.size (rcs q a4 c4) (fun _ => rfl); have hb5 : (w4.setRow w.heap.size (rcs q a4 c4)).heap[w.heap.size]? = some (.cells (rcs q a4 c4) 29 (0, 0)) := setRow_heap _ _ _ _ _ _ HA4.out; have hz := tS.keeps HZ4.out (fun h => by have := HSZ.out; omega); have ho := HO4.out.touch tS (fun x hx h => by (have h1 := ((OwnS.own HO4.out).lt x hx).1; have := HSW.out; have := HSZ.out; have := HSZ2.out; omega)); have ht := HT4.out.trans tS (fun k h1 h2 => by omega); generalize w4.setRow w.heap.size (rcs q a4 c4) = W5 at *; have HB := Lib.hid hb5; have HZ := Lib.hid hz; have HO := Lib.hid ho; have HT5 := Lib.hid ht; clear hb5 hz ho ht tS HA4 HZ4 HT4; obtain ⟨k0, k1, k2, k3, k4, k5, k6, k7, k8, k9, k10, k11, k12, k13⟩ := rcells_of HB.out; have f7 := free_of_cells HB.out 7; have f8 := free_of_cells HB.out 8; have HBL : RowKit.Hid ((W5.setCell ⟨w.heap.size, 8, none⟩ (.int .i64 0)).heap[w.heap.size]? = some (.cells (rcs ⟨q.kind, q.t, q.fb, q.fg, 0, q.gen, q.bs, q.be, q.un, q.ct⟩ a4 c4) 29 (0, 0))) := Lib.hid (heap_setCell_same _ w.heap.size 8 _ _ (.int .i64 0) HB.out); have HTC : RowKit.Hid (Touch W5 (W5.setCell ⟨w.heap.size, 8, none⟩ (.int .i64 0)) (fun k => k = w.heap.size)) := Lib.hid ((Touch.refl W5 (fun k => k = w.heap.size)).into 8 (.int .i64 0)); have HZL := Lib.hid (HTC.out.keeps HZ.out (fun h => by have := HSZ.out; omega)))
    | (refine load_rowG rfl 29 (.tmp 3) rfl w.heap.size rfl _ _ _ _ HBL.out Try.underlying29 rfl HIR.out ?_)
    | (refine store_row rfl 29 (.tmp 6) (.tmp 55) rfl W1.heap.size _ rfl rfl _ _ HZL.out HIR.out rfl (rcs_all _ _ _) ?_))
  refine ret_row1 rfl rfl W1.heap.size 29 (rcs ⟨q.kind, q.t, q.fb, q.fg, 0, q.gen, q.bs, q.be, q.un, q.ct⟩ a4 c4) (0, 0) _ rfl (setRow_heap _ _ _ _ _ _ HZL.out) Try.underlying29 rfl infoRec _ rfl ?_
  have tS := (Touch.refl (W5.setCell ⟨w.heap.size, 8, none⟩ (.int .i64 0)) (fun k => k = W1.heap.size)).setRow W1.heap.size (rcs ⟨q.kind, q.t, q.fb, q.fg, 0, q.gen, q.bs, q.be, q.un, q.ct⟩ a4 c4) (fun _ => rfl)
  have ho := HO.out.touch HTC.out (fun x hx h => by have h1 := ((OwnS.own HO.out).lt x hx).1; have := HSW.out; have := HSZ.out; have := HSZ2.out; omega)
  refine HG.out _ _ _ ?_ ((HT5.out.trans HTC.out (fun k h1 h2 => by omega)).trans tS (fun k h1 h2 => by have := HSZ.out; omega))
  exact (ho.touch tS (fun x hx h => by have h1 := ((OwnS.own ho).lt x hx).1; have := HSW.out; have := HSZ2.out; omega)).rebase (fun x hx => by have h1 := ((OwnS.own ho).lt x hx).1; have := HSW.out; have := HSZ.out; have := HSZ2.out; omega)

set_option maxRecDepth 20000 in
set_option maxHeartbeats 8000000 in
theorem rmig_23n (r : RecD) (a : Option Addr) (cap : Nat) (w : World) (hr : RowK w a r.bs.length cap r.bs) (hl : r.bs.length ≤ 100000) (hm : mayRB r = true) (hk : (inD r 2).kind ≠ 1) :
    Calls Try.prog 32 #[.agg (rcs r a cap), .int .i64 2, .int .i64 3] w (MigIs w r 2 3) := by
  obtain ⟨W1, hW1⟩ : ∃ W, w.alloc (.cells (rcs r a cap) 29) = W := ⟨_, rfl⟩
  obtain ⟨W2, hW2⟩ : ∃ W, W1.alloc (.cells #[.int .i64 0, .int .u32 0, .int .u32 0, .int .i64 0, .int .i64 0, .int .i64 0, .int .i64 0, .int .i64 0, .int .i64 0, .int .i64 0, .slice none 0 0, .int .i64 0, .int .i64 0, .int .i64 0] 29) = W := ⟨_, rfl⟩
  have t1 : Touch w W1 (fun _ => False) := hW1 ▸ (Touch.refl _ _).alloc _
  have t2 : Touch W1 W2 (fun _ => False) := hW2 ▸ (Touch.refl _ _).alloc _
  have hg1 : W1.heap[w.heap.size]? = some (.cells (rcs r a cap) 29 (0, 0)) := hW1 ▸ heap_alloc_new w _
  have hg2 : W2.heap[W1.heap.size]? = some (.cells (rcs zeroR none 0) 29 (0, 0)) := hW2 ▸ heap_alloc_new W1 _
  have HSZ : RowKit.Hid (w.heap.size < W1.heap.size) := Lib.hid (heap_lt hg1)
  have HSZ2 : RowKit.Hid (W1.heap.size < W2.heap.size) := Lib.hid (heap_lt hg2)
  have HG1 := Lib.hid (t2.keeps hg1 (fun h => h))
  have HZ := Lib.hid hg2
  have HT := Lib.hid (t1.trans t2 (fun _ _ h => h))
  have HIR := Lib.hid infoRec
  have HR := Lib.hid ((hr.still t1).still t2)
  have HE : RowKit.Hid (migE r 2 3 = 0) := Lib.hid (by unfold migE; rw [hm]; rfl)
  obtain ⟨q, hq⟩ : ∃ q, inD r 2 = q := ⟨_, rfl⟩
  rw [hq] at hk
  have HMV : RowKit.Hid (movD r 2 3 = ⟨q.kind, q.t, q.fb, q.fg, q.fs, q.gen, q.bs, q.be, q.un, q.ct⟩) := Lib.hid (by
    have e : movD r 2 3 = seen0 q := by unfold movD; rw [hq]; simp
    refine e.trans ?_
    first | rfl | simp [gen1, seen0, hk])
  have HC : RowKit.Hid (∀ w, Calls Try.prog 51 #[.int .i64 2] w fun e w' => e = .returned (.bool true) ∧ w = w') := Lib.hid (fun w => (rversion_any 2 w).mono fun e w' h => ⟨h.1, h.2.symm⟩)
  have HD : RowKit.Hid (∀ w, Calls Try.prog 51 #[.int .i64 3] w fun e w' => e = .returned (.bool true) ∧ w = w') := Lib.hid (fun w => (rversion_any 3 w).mono fun e w' h => ⟨h.1, h.2.symm⟩)
  have HM : RowKit.Hid (Calls Try.prog 19 #[.agg (rcs r a cap)] W2 fun e w' => e = .returned (.bool true) ∧ Touch W2 w' (fun _ => False)) := Lib.hid (hm ▸ rmay_any r a cap W2 HR.out hl)
  have HI : RowKit.Hid (∀ wx, RowK wx a r.bs.length cap r.bs → Calls Try.prog 23 #[.agg (rcs r a cap), .int .i64 2] wx fun e w' => RecIs wx w' q e) := Lib.hid (fun wx h => hq ▸ rin_any r a cap 2 wx h hl)
  have HG := Lib.hid (fun (w' : World) (a' : Option Addr) (c' : Nat) (ho : OwnK w' w.heap.size (.slice a' (movD r 2 3).bs.length c') (movD r 2 3).bs) (ht : Touch w w' (fun _ => False)) => MigIs.good (r := r) (f := 2) (t := 3) HE.out ho ht)
  rw [HMV.out] at HG
  have hb : (q.kind == 1) = false := beq_eq_false_iff_ne.2 hk
  generalize MigIs w r 2 3 = X at *
  clear hm hr t1 t2 hg1 hg2 hk hq HMV
  simp only [rcs] at hW1
  simp only [rcs]
  go_enter Try.func32, Try.ntmps32
  go_wp2_with (first
    | (go_at_call 51; first | ((with_reducible refine (HC.out _).mono ?_); rintro e w' ⟨rfl, rfl⟩) | ((with_reducible refine (HD.out _).mono ?_); rintro e w' ⟨rfl, rfl⟩))
    | (refine load_rowG rfl 29 (.tmp 3) rfl w.heap.size rfl _ _ _ _ HG1.out Try.underlying29 rfl HIR.out ?_)
    | (go_at_call 19; (refine HM.out.mono ?_); rintro e w3 ⟨rfl, t9⟩; have HG1 := Lib.hid (t9.keeps HG1.out (fun h => h)); have HZ := Lib.hid (t9.keeps HZ.out (fun h => h)); have HR := Lib.hid (HR.out.still t9); have HT := Lib.hid (HT.out.trans t9 (fun _ _ h => h)); have HSW := Lib.hid t9.size; clear t9)
    | (go_at_call 23; (refine (HI.out _ HR.out).mono ?_); rintro e w4 ⟨a4, c4, rfl, ho4, t4⟩; have HA4 := Lib.hid (t4.keeps HG1.out (fun h => h)); have HZ4 := Lib.hid (t4.keeps HZ.out (fun h => h)); have HO4 := Lib.hid ho4; have HT4 := Lib.hid (HT.out.trans t4 (fun _ _ h => h)); have HS4 := Lib.hid t4.size; clear ho4 t4 HG1)
    | (refine store_row rfl 29 (.tmp 3) (.tmp 28) rfl w.heap.size _ rfl rfl _ _ HA4.out HIR.out rfl (rcs_all _ _ _) ?_; have tS := (Touch.refl w4 (fun k => k = w.heap.size)).setRow w.heap.size (rcs q a4 c4) (fun _ => rfl); have hb5 : (w4.setRow w.heap.size (rcs q a4 c4)).heap[w.heap.size]? = some (.cells (rcs q a4 c4) 29 (0, 0)) := setRow_heap _ _ _ _ _ _ HA4.out; have hz := tS.keeps HZ4.out (fun h => by have := HSZ.out; omega); have ho := HO4.out.touch tS (fun x hx h => by (have h1 := ((OwnS.own HO4.out).lt x hx).1; have := HSW.out; have := HSZ.out; have := HSZ2.out; omega)); have ht := HT4.out.trans tS (fun k h1 h2 => by omega); generalize w4.setRow w.heap.size (rcs q a4 c4) = W5 at *; have HB := Lib.hid hb5; have HZ := Lib.hid hz; have HO := Lib.hid ho; have HT5 := Lib.hid ht; clear hb5 hz ho ht tS HA4 HZ4 HT4; obtain ⟨k0, k1, k2, k3, k4, k5, k6, k7, k8, k9, k10, k11, k12, k13⟩ := rcells_of HB.out; have f7 := free_of_cells HB.out 7; have f8 := free_of_cells HB.out 8; have HBL : RowKit.Hid (W5.heap[w.heap.size]? = some (.cells (rcs ⟨q.kind, q.t, q.fb, q.fg, q.fs, q.gen, q.bs, q.be, q.un, q.ct⟩ a4 c4) 29 (0, 0))) := Lib.hid HB.out; have HTC : RowKit.Hid (Touch W5 W5 (fun k => k = w.heap.size)) := Lib.hid (Touch.refl W5 (fun k => k = w.heap.size)); have HZL := Lib.hid (HTC.out.keeps HZ.out (fun h => by have := HSZ.out; omega)))
    | (refine load_rowG rfl 29 (.tmp 3) rfl w.heap.size rfl _ _ _ _ HBL.out Try.underlying29 rfl HIR.out ?_)
    | (refine store_row rfl 29 (.tmp 6) (.tmp 55) rfl W1.heap.size _ rfl rfl _ _ HZL.out HIR.out rfl (rcs_all _ _ _) ?_))
  refine ret_row1 rfl rfl W1.heap.size 29 (rcs ⟨q.kind, q.t, q.fb, q.fg, q.fs, q.gen, q.bs, q.be, q.un, q.ct⟩ a4 c4) (0, 0) _ rfl (setRow_heap _ _ _ _ _ _ HZL.out) Try.underlying29 rfl infoRec _ rfl ?_
  have tS := (Touch.refl W5 (fun k => k = W1.heap.size)).setRow W1.heap.size (rcs ⟨q.kind, q.t, q.fb, q.fg, q.fs, q.gen, q.bs, q.be, q.un, q.ct⟩ a4 c4) (fun _ => rfl)
  have ho := HO.out.touch HTC.out (fun x hx h => by have h1 := ((OwnS.own HO.out).lt x hx).1; have := HSW.out; have := HSZ.out; have := HSZ2.out; omega)
  refine HG.out _ _ _ ?_ ((HT5.out.trans HTC.out (fun k h1 h2 => by omega)).trans tS (fun k h1 h2 => by have := HSZ.out; omega))
  exact (ho.touch tS (fun x hx h => by have h1 := ((OwnS.own ho).lt x hx).1; have := HSW.out; have := HSZ2.out; omega)).rebase (fun x hx => by have h1 := ((OwnS.own ho).lt x hx).1; have := HSW.out; have := HSZ.out; have := HSZ2.out; omega)

set_option maxRecDepth 20000 in
set_option maxHeartbeats 8000000 in
theorem rmig_33k (r : RecD) (a : Option Addr) (cap : Nat) (w : World) (hr : RowK w a r.bs.length cap r.bs) (hl : r.bs.length ≤ 100000) (hm : mayRB r = true) (hk : (inD r 3).kind = 1) :
    Calls Try.prog 32 #[.agg (rcs r a cap), .int .i64 3, .int .i64 3] w (MigIs w r 3 3) := by
  obtain ⟨W1, hW1⟩ : ∃ W, w.alloc (.cells (rcs r a cap) 29) = W := ⟨_, rfl⟩
  obtain ⟨W2, hW2⟩ : ∃ W, W1.alloc (.cells #[.int .i64 0, .int .u32 0, .int .u32 0, .int .i64 0, .int .i64 0, .int .i64 0, .int .i64 0, .int .i64 0, .int .i64 0, .int .i64 0, .slice none 0 0, .int .i64 0, .int .i64 0, .int .i64 0] 29) = W := ⟨_, rfl⟩
  have t1 : Touch w W1 (fun _ => False) := hW1 ▸ (Touch.refl _ _).alloc _
  have t2 : Touch W1 W2 (fun _ => False) := hW2 ▸ (Touch.refl _ _).alloc _
  have hg1 : W1.heap[w.heap.size]? = some (.cells (rcs r a cap) 29 (0, 0)) := hW1 ▸ heap_alloc_new w _
  have hg2 : W2.heap[W1.heap.size]? = some (.cells (rcs zeroR none 0) 29 (0, 0)) := hW2 ▸ heap_alloc_new W1 _
  have HSZ : RowKit.Hid (w.heap.size < W1.heap.size) := Lib.hid (heap_lt hg1)
  have HSZ2 : RowKit.Hid (W1.heap.size < W2.heap.size) := Lib.hid (heap_lt hg2)
  have HG1 := Lib.hid (t2.keeps hg1 (fun h => h))
  have HZ := Lib.hid hg2
  have HT := Lib.hid (t1.trans t2 (fun _ _ h => h))
  have HIR := Lib.hid infoRec
  have HR := Lib.hid ((hr.still t1).still t2)
  have HE : RowKit.Hid (migE r 3 3 = 0) := Lib.hid (by unfold migE; rw [hm]; rfl)
  obtain ⟨q, hq⟩ : ∃ q, inD r 3 = q := ⟨_, rfl⟩
  rw [hq] at hk
  have HMV : RowKit.Hid (movD r 3 3 = ⟨q.kind, q.t, q.fb, q.fg, q.fs, q.gen, q.bs, q.be, q.un, q.ct⟩) := Lib.hid (by
    have e : movD r 3 3 = q := by unfold movD; rw [hq]; simp
    refine e.trans ?_
    first | rfl | simp [gen1, seen0, hk])
  have HC : RowKit.Hid (∀ w, Calls Try.prog 51 #[.int .i64 3] w fun e w' => e = .returned (.bool true) ∧ w = w') := Lib.hid (fun w => (rversion_any 3 w).mono fun e w' h => ⟨h.1, h.2.symm⟩)
  have HD : RowKit.Hid (∀ w, Calls Try.prog 51 #[.int .i64 3] w fun e w' => e = .returned (.bool true) ∧ w = w') := Lib.hid (fun w => (rversion_any 3 w).mono fun e w' h => ⟨h.1, h.2.symm⟩)
  have HM : RowKit.Hid (Calls Try.prog 19 #[.agg (rcs r a cap)] W2 fun e w' => e = .returned (.bool true) ∧ Touch W2 w' (fun _ => False)) := Lib.hid (hm ▸ rmay_any r a cap W2 HR.out hl)
  have HI : RowKit.Hid (∀ wx, RowK wx a r.bs.length cap r.bs → Calls Try.prog 23 #[.agg (rcs r a cap), .int .i64 3] wx fun e w' => RecIs wx w' q e) := Lib.hid (fun wx h => hq ▸ rin_any r a cap 3 wx h hl)
  have HG := Lib.hid (fun (w' : World) (a' : Option Addr) (c' : Nat) (ho : OwnK w' w.heap.size (.slice a' (movD r 3 3).bs.length c') (movD r 3 3).bs) (ht : Touch w w' (fun _ => False)) => MigIs.good (r := r) (f := 3) (t := 3) HE.out ho ht)
  rw [HMV.out] at HG
  have hb : (q.kind == 1) = true := beq_iff_eq.2 hk
  generalize MigIs w r 3 3 = X at *
  clear hm hr t1 t2 hg1 hg2 hk hq HMV
  simp only [rcs] at hW1
  simp only [rcs]
  go_enter Try.func32, Try.ntmps32
  go_wp2_with (first
    | (go_at_call 51; first | ((with_reducible refine (HC.out _).mono ?_); rintro e w' ⟨rfl, rfl⟩) | ((with_reducible refine (HD.out _).mono ?_); rintro e w' ⟨rfl, rfl⟩))
    | (refine load_rowG rfl 29 (.tmp 3) rfl w.heap.size rfl _ _ _ _ HG1.out Try.underlying29 rfl HIR.out ?_)
    | (go_at_call 19; (refine HM.out.mono ?_); rintro e w3 ⟨rfl, t9⟩; have HG1 := Lib.hid (t9.keeps HG1.out (fun h => h)); have HZ := Lib.hid (t9.keeps HZ.out (fun h => h)); have HR := Lib.hid (HR.out.still t9); have HT := Lib.hid (HT.out.trans t9 (fun _ _ h => h)); have HSW := Lib.hid t9.size; clear t9)
    | (go_at_call 23; (refine (HI.out _ HR.out).mono ?_); rintro e w4 ⟨a4, c4, rfl, ho4, t4⟩; have HA4 := Lib.hid (t4.keeps HG1.out (fun h => h)); have HZ4 := Lib.hid (t4.keeps HZ.out (fun h => h)); have HO4 := Lib.hid ho4; have HT4 := Lib.hid (HT.out.trans t4 (fun _ _ h => h)); have HS4 := Lib.hid t4.size; clear ho4 t4 HG1)
    | (refine store_row rfl 29 (.tmp 3) (.tmp 28) rfl w.heap.size _ rfl rfl _ _ HA4.out HIR.out rfl (rcs_all _ _ _) ?_; have tS := (Touch.refl w4 (fun k => k = w.heap.size)).setRow w.heap.size (rcs q a4 c4) (fun _ => rfl); have hb5 : (w4.setRow w.heap.size (rcs q a4 c4)).heap[w.heap.size]? = some (.cells (rcs q a4 c4) 29 (0, 0)) := setRow_heap _ _ _ _ _ _ HA4.out; have hz := tS.keeps HZ4.out (fun h => by have := HSZ.out; omega); have ho := HO4.out.touch tS (fun x hx h => by (have h1 := ((OwnS.own HO4.out).lt x hx).1; have := HSW.out; have := HSZ.out; have := HSZ2.out; omega)); have ht := HT4.out.trans tS (fun k h1 h2 => by omega); generalize w4.setRow w.heap.size (rcs q a4 c4) = W5 at *; have HB := Lib.hid hb5; have HZ := Lib.hid hz; have HO := Lib.hid ho; have HT5 := Lib.hid ht; clear hb5 hz ho ht tS HA4 HZ4 HT4; obtain ⟨k0, k1, k2, k3, k4, k5, k6, k7, k8, k9, k10, k11, k12, k13⟩ := rcells_of HB.out; have f7 := free_of_cells HB.out 7; have f8 := free_of_cells HB.out 8; have HBL : RowKit.Hid (W5.heap[w.heap.size]? = some (.cells (rcs ⟨q.kind, q.t, q.fb, q.fg, q.fs, q.gen, q.bs, q.be, q.un, q.ct⟩ a4 c4) 29 (0, 0))) := Lib.hid HB.out; have HTC : RowKit.Hid (Touch W5 W5 (fun k => k = w.heap.size)) := Lib.hid (Touch.refl W5 (fun k => k = w.heap.size)); have HZL := Lib.hid (HTC.out.keeps HZ.out (fun h => by have := HSZ.out; omega)))
    | (refine load_rowG rfl 29 (.tmp 3) rfl w.heap.size rfl _ _ _ _ HBL.out Try.underlying29 rfl HIR.out ?_)
    | (refine store_row rfl 29 (.tmp 6) (.tmp 55) rfl W1.heap.size _ rfl rfl _ _ HZL.out HIR.out rfl (rcs_all _ _ _) ?_))
  refine ret_row1 rfl rfl W1.heap.size 29 (rcs ⟨q.kind, q.t, q.fb, q.fg, q.fs, q.gen, q.bs, q.be, q.un, q.ct⟩ a4 c4) (0, 0) _ rfl (setRow_heap _ _ _ _ _ _ HZL.out) Try.underlying29 rfl infoRec _ rfl ?_
  have tS := (Touch.refl W5 (fun k => k = W1.heap.size)).setRow W1.heap.size (rcs ⟨q.kind, q.t, q.fb, q.fg, q.fs, q.gen, q.bs, q.be, q.un, q.ct⟩ a4 c4) (fun _ => rfl)
  have ho := HO.out.touch HTC.out (fun x hx h => by have h1 := ((OwnS.own HO.out).lt x hx).1; have := HSW.out; have := HSZ.out; have := HSZ2.out; omega)
  refine HG.out _ _ _ ?_ ((HT5.out.trans HTC.out (fun k h1 h2 => by omega)).trans tS (fun k h1 h2 => by have := HSZ.out; omega))
  exact (ho.touch tS (fun x hx h => by have h1 := ((OwnS.own ho).lt x hx).1; have := HSW.out; have := HSZ2.out; omega)).rebase (fun x hx => by have h1 := ((OwnS.own ho).lt x hx).1; have := HSW.out; have := HSZ.out; have := HSZ2.out; omega)

set_option maxRecDepth 20000 in
set_option maxHeartbeats 8000000 in
theorem rmig_33n (r : RecD) (a : Option Addr) (cap : Nat) (w : World) (hr : RowK w a r.bs.length cap r.bs) (hl : r.bs.length ≤ 100000) (hm : mayRB r = true) (hk : (inD r 3).kind ≠ 1) :
    Calls Try.prog 32 #[.agg (rcs r a cap), .int .i64 3, .int .i64 3] w (MigIs w r 3 3) := by
  obtain ⟨W1, hW1⟩ : ∃ W, w.alloc (.cells (rcs r a cap) 29) = W := ⟨_, rfl⟩
  obtain ⟨W2, hW2⟩ : ∃ W, W1.alloc (.cells #[.int .i64 0, .int .u32 0, .int .u32 0, .int .i64 0, .int .i64 0, .int .i64 0, .int .i64 0, .int .i64 0, .int .i64 0, .int .i64 0, .slice none 0 0, .int .i64 0, .int .i64 0, .int .i64 0] 29) = W := ⟨_, rfl⟩
  have t1 : Touch w W1 (fun _ => False) := hW1 ▸ (Touch.refl _ _).alloc _
  have t2 : Touch W1 W2 (fun _ => False) := hW2 ▸ (Touch.refl _ _).alloc _
  have hg1 : W1.heap[w.heap.size]? = some (.cells (rcs r a cap) 29 (0, 0)) := hW1 ▸ heap_alloc_new w _
  have hg2 : W2.heap[W1.heap.size]? = some (.cells (rcs zeroR none 0) 29 (0, 0)) := hW2 ▸ heap_alloc_new W1 _
  have HSZ : RowKit.Hid (w.heap.size < W1.heap.size) := Lib.hid (heap_lt hg1)
  have HSZ2 : RowKit.Hid (W1.heap.size < W2.heap.size) := Lib.hid (heap_lt hg2)
  have HG1 := Lib.hid (t2.keeps hg1 (fun h => h))
  have HZ := Lib.hid hg2
  have HT := Lib.hid (t1.trans t2 (fun _ _ h => h))
  have HIR := Lib.hid infoRec
  have HR := Lib.hid ((hr.still t1).still t2)
  have HE : RowKit.Hid (migE r 3 3 = 0) := Lib.hid (by unfold migE; rw [hm]; rfl)
  obtain ⟨q, hq⟩ : ∃ q, inD r 3 = q := ⟨_, rfl⟩
  rw [hq] at hk
  have HMV : RowKit.Hid (movD r 3 3 = ⟨q.kind, q.t, q.fb, q.fg, q.fs, q.gen, q.bs, q.be, q.un, q.ct⟩) := Lib.hid (by
    have e : movD r 3 3 = q := by unfold movD; rw [hq]; simp
    refine e.trans ?_
    first | rfl | simp [gen1, seen0, hk])
  have HC : RowKit.Hid (∀ w, Calls Try.prog 51 #[.int .i64 3] w fun e w' => e = .returned (.bool true) ∧ w = w') := Lib.hid (fun w => (rversion_any 3 w).mono fun e w' h => ⟨h.1, h.2.symm⟩)
  have HD : RowKit.Hid (∀ w, Calls Try.prog 51 #[.int .i64 3] w fun e w' => e = .returned (.bool true) ∧ w = w') := Lib.hid (fun w => (rversion_any 3 w).mono fun e w' h => ⟨h.1, h.2.symm⟩)
  have HM : RowKit.Hid (Calls Try.prog 19 #[.agg (rcs r a cap)] W2 fun e w' => e = .returned (.bool true) ∧ Touch W2 w' (fun _ => False)) := Lib.hid (hm ▸ rmay_any r a cap W2 HR.out hl)
  have HI : RowKit.Hid (∀ wx, RowK wx a r.bs.length cap r.bs → Calls Try.prog 23 #[.agg (rcs r a cap), .int .i64 3] wx fun e w' => RecIs wx w' q e) := Lib.hid (fun wx h => hq ▸ rin_any r a cap 3 wx h hl)
  have HG := Lib.hid (fun (w' : World) (a' : Option Addr) (c' : Nat) (ho : OwnK w' w.heap.size (.slice a' (movD r 3 3).bs.length c') (movD r 3 3).bs) (ht : Touch w w' (fun _ => False)) => MigIs.good (r := r) (f := 3) (t := 3) HE.out ho ht)
  rw [HMV.out] at HG
  have hb : (q.kind == 1) = false := beq_eq_false_iff_ne.2 hk
  generalize MigIs w r 3 3 = X at *
  clear hm hr t1 t2 hg1 hg2 hk hq HMV
  simp only [rcs] at hW1
  simp only [rcs]
  go_enter Try.func32, Try.ntmps32
  go_wp2_with (first
    | (go_at_call 51; first | ((with_reducible refine (HC.out _).mono ?_); rintro e w' ⟨rfl, rfl⟩) | ((with_reducible refine (HD.out _).mono ?_); rintro e w' ⟨rfl, rfl⟩))
    | (refine load_rowG rfl 29 (.tmp 3) rfl w.heap.size rfl _ _ _ _ HG1.out Try.underlying29 rfl HIR.out ?_)
    | (go_at_call 19; (refine HM.out.mono ?_); rintro e w3 ⟨rfl, t9⟩; have HG1 := Lib.hid (t9.keeps HG1.out (fun h => h)); have HZ := Lib.hid (t9.keeps HZ.out (fun h => h)); have HR := Lib.hid (HR.out.still t9); have HT := Lib.hid (HT.out.trans t9 (fun _ _ h => h)); have HSW := Lib.hid t9.size; clear t9)
    | (go_at_call 23; (refine (HI.out _ HR.out).mono ?_); rintro e w4 ⟨a4, c4, rfl, ho4, t4⟩; have HA4 := Lib.hid (t4.keeps HG1.out (fun h => h)); have HZ4 := Lib.hid (t4.keeps HZ.out (fun h => h)); have HO4 := Lib.hid ho4; have HT4 := Lib.hid (HT.out.trans t4 (fun _ _ h => h)); have HS4 := Lib.hid t4.size; clear ho4 t4 HG1)
    | (refine store_row rfl 29 (.tmp 3) (.tmp 28) rfl w.heap.size _ rfl rfl _ _ HA4.out HIR.out rfl (rcs_all _ _ _) ?_; have tS := (Touch.refl w4 (fun k => k = w.heap.size)).setRow w.heap.size (rcs q a4 c4) (fun _ => rfl); have hb5 : (w4.setRow w.heap.size (rcs q a4 c4)).heap[w.heap.size]? = some (.cells (rcs q a4 c4) 29 (0, 0)) := setRow_heap _ _ _ _ _ _ HA4.out; have hz := tS.keeps HZ4.out (fun h => by have := HSZ.out; omega); have ho := HO4.out.touch tS (fun x hx h => by (have h1 := ((OwnS.own HO4.out).lt x hx).1; have := HSW.out; have := HSZ.out; have := HSZ2.out; omega)); have ht := HT4.out.trans tS (fun k h1 h2 => by omega); generalize w4.setRow w.heap.size (rcs q a4 c4) = W5 at *; have HB := Lib.hid hb5; have HZ := Lib.hid hz; have HO := Lib.hid ho; have HT5 := Lib.hid ht; clear hb5 hz ho ht tS HA4 HZ4 HT4; obtain ⟨k0, k1, k2, k3, k4, k5, k6, k7, k8, k9, k10, k11, k12, k13⟩ := rcells_of HB.out; have f7 := free_of_cells HB.out 7; have f8 := free_of_cells HB.out 8; have HBL : RowKit.Hid (W5.heap[w.heap.size]? = some (.cells (rcs ⟨q.kind, q.t, q.fb, q.fg, q.fs, q.gen, q.bs, q.be, q.un, q.ct⟩ a4 c4) 29 (0, 0))) := Lib.hid HB.out; have HTC : RowKit.Hid (Touch W5 W5 (fun k => k = w.heap.size)) := Lib.hid (Touch.refl W5 (fun k => k = w.heap.size)); have HZL := Lib.hid (HTC.out.keeps HZ.out (fun h => by have := HSZ.out; omega)))
    | (refine load_rowG rfl 29 (.tmp 3) rfl w.heap.size rfl _ _ _ _ HBL.out Try.underlying29 rfl HIR.out ?_)
    | (refine store_row rfl 29 (.tmp 6) (.tmp 55) rfl W1.heap.size _ rfl rfl _ _ HZL.out HIR.out rfl (rcs_all _ _ _) ?_))
  refine ret_row1 rfl rfl W1.heap.size 29 (rcs ⟨q.kind, q.t, q.fb, q.fg, q.fs, q.gen, q.bs, q.be, q.un, q.ct⟩ a4 c4) (0, 0) _ rfl (setRow_heap _ _ _ _ _ _ HZL.out) Try.underlying29 rfl infoRec _ rfl ?_
  have tS := (Touch.refl W5 (fun k => k = W1.heap.size)).setRow W1.heap.size (rcs ⟨q.kind, q.t, q.fb, q.fg, q.fs, q.gen, q.bs, q.be, q.un, q.ct⟩ a4 c4) (fun _ => rfl)
  have ho := HO.out.touch HTC.out (fun x hx h => by have h1 := ((OwnS.own HO.out).lt x hx).1; have := HSW.out; have := HSZ.out; have := HSZ2.out; omega)
  refine HG.out _ _ _ ?_ ((HT5.out.trans HTC.out (fun k h1 h2 => by omega)).trans tS (fun k h1 h2 => by have := HSZ.out; omega))
  exact (ho.touch tS (fun x hx h => by have h1 := ((OwnS.own ho).lt x hx).1; have := HSW.out; have := HSZ2.out; omega)).rebase (fun x hx => by have h1 := ((OwnS.own ho).lt x hx).1; have := HSW.out; have := HSZ.out; have := HSZ2.out; omega)

theorem rmig_any (r : RecD) (a : Option Addr) (cap : Nat) (f t : Int) (w : World) (hr : RowK w a r.bs.length cap r.bs) (hl : r.bs.length ≤ 100000) :
    Calls Try.prog 32 #[.agg (rcs r a cap), .int .i64 f, .int .i64 t] w (MigIs w r f t) := by
  cases hb : leadB f t with
  | false =>
    cases hf : verB f with
    | false => exact rmig_nof r a cap f t w hr hl hf
    | true =>
      cases ht : verB t with
      | false => exact rmig_not r a cap f t w hr hl hf ht
      | true =>
        by_cases hlt : t < f
        · exact rmig_noo r a cap f t w hr hl hf ht hlt
        · rw [(lead_ver f t).2 ⟨hf, ht, hlt⟩] at hb; cases hb
  | true =>
    cases hm : mayRB r with
    | false => exact rmig_nomay r a cap f t w hr hl hb hm
    | true =>
      rcases lead_cases hb with ⟨rfl, rfl⟩ | ⟨rfl, rfl⟩ | ⟨rfl, rfl⟩ | ⟨rfl, rfl⟩ | ⟨rfl, rfl⟩ | ⟨rfl, rfl⟩
      · by_cases hk : (inD r 1).kind = 1
        · exact rmig_11k r a cap w hr hl hm hk
        · exact rmig_11n r a cap w hr hl hm hk
      · by_cases hk : (inD r 1).kind = 1
        · exact rmig_12k r a cap w hr hl hm hk
        · exact rmig_12n r a cap w hr hl hm hk
      · by_cases hk : (inD r 1).kind = 1
        · exact rmig_13k r a cap w hr hl hm hk
        · exact rmig_13n r a cap w hr hl hm hk
      · by_cases hk : (inD r 2).kind = 1
        · exact rmig_22k r a cap w hr hl hm hk
        · exact rmig_22n r a cap w hr hl hm hk
      · by_cases hk : (inD r 2).kind = 1
        · exact rmig_23k r a cap w hr hl hm hk
        · exact rmig_23n r a cap w hr hl hm hk
      · by_cases hk : (inD r 3).kind = 1
        · exact rmig_33k r a cap w hr hl hm hk
        · exact rmig_33n r a cap w hr hl hm hk
end Go.Proofs.Ytbklngcocbnijaa
