/- Migration: what Record of package migrate and the reference's Migrate answer. -/
import Derived.Test.YtbklngcocbnijaaMigZ
import Derived.Test.YtbklngcocbnijaaRecRMayZ
import Derived.Test.YtbklngcocbnijaaGAZ
set_option linter.unusedVariables false
set_option linter.unusedSimpArgs false
namespace Go.Proofs.Ytbklngcocbnijaa
open Go.RowKit

theorem lead_cases {f t : Int} (h : leadB f t = true) : (f = 1 ∧ t = 1) ∨ (f = 1 ∧ t = 2) ∨ (f = 1 ∧ t = 3) ∨ (f = 2 ∧ t = 2) ∨ (f = 2 ∧ t = 3) ∨ (f = 3 ∧ t = 3) := by
  have := (leadB_iff f t).1 h; omega
theorem moved_any (r : RecD) (a : Option Addr) (cap : Nat) (f t : Int) (h : leadB f t = true) (w : World) (hr : RowK w a r.bs.length cap r.bs) (hl : r.bs.length ≤ 100000) :
    Calls Try.prog 69 #[.agg (rcs r a cap), .int .i64 f, .int .i64 t] w fun e w' => RecIs w w' (movD r f t) e := by
  rcases lead_cases h with ⟨rfl, rfl⟩ | ⟨rfl, rfl⟩ | ⟨rfl, rfl⟩ | ⟨rfl, rfl⟩ | ⟨rfl, rfl⟩ | ⟨rfl, rfl⟩
  · exact moved_11 r a cap w hr hl
  · exact moved_12 r a cap w hr hl
  · exact moved_13 r a cap w hr hl
  · exact moved_22 r a cap w hr hl
  · exact moved_23 r a cap w hr hl
  · exact moved_33 r a cap w hr hl
/-- What a migration tells: its error, its record. -/
def migE (r : RecD) (f t : Int) : Int := if leadB f t = true then (if mayRB r = true then 0 else 1) else 10
def migR (r : RecD) (f t : Int) : RecD := if migE r f t = 0 then movD r f t else zeroR
def MigIs (w : World) (r : RecD) (f t : Int) (e : Ending) (w' : World) : Prop :=
  ∃ (a' : Option Addr) (c' : Nat), e = .returned (.tuple #[.agg (rcs (migR r f t) a' c'), .int .i64 (migE r f t)]) ∧ OwnK w' w.heap.size (.slice a' (migR r f t).bs.length c') (migR r f t).bs ∧ Touch w w' (fun _ => False)
theorem MigIs.bad {w w' : World} {r : RecD} {f t : Int} {e : Int} (h : migE r f t = e) (h0 : e ≠ 0) (ht : Touch w w' (fun _ => False)) : MigIs w r f t (.returned (.tuple #[.agg (rcs zeroR none 0), .int .i64 e])) w' := by
  have hr : migR r f t = zeroR := by unfold migR; rw [h, if_neg h0]
  refine ⟨none, 0, ?_, ?_, ht⟩
  · rw [hr, h]
  · rw [hr]; exact OwnK.none _ _
theorem MigIs.good {w w' : World} {r : RecD} {f t : Int} {a : Option Addr} {c : Nat} (h : migE r f t = 0) (ho : OwnK w' w.heap.size (.slice a (movD r f t).bs.length c) (movD r f t).bs) (ht : Touch w w' (fun _ => False)) : MigIs w r f t (.returned (.tuple #[.agg (rcs (movD r f t) a c), .int .i64 0])) w' := by
  have hr : migR r f t = movD r f t := by unfold migR; rw [h, if_pos rfl]
  refine ⟨a, c, ?_, ?_, ht⟩
  · rw [hr, h]
  · rw [hr]; exact ho

set_option maxRecDepth 20000 in
set_option maxHeartbeats 8000000 in
theorem mig_nolead (r : RecD) (a : Option Addr) (cap : Nat) (f t : Int) (w : World) (hr : RowK w a r.bs.length cap r.bs) (hl : r.bs.length ≤ 100000) (hb : leadB f t = false) :
    Calls Try.prog 31 #[.agg (rcs r a cap), .int .i64 f, .int .i64 t] w (MigIs w r f t) := by
  obtain ⟨W1, hW1⟩ : ∃ W, w.alloc (.cells (rcs r a cap) 29) = W := ⟨_, rfl⟩
  obtain ⟨W2, hW2⟩ : ∃ W, W1.alloc (.cells #[.int .i64 0, .int .u32 0, .int .u32 0, .int .i64 0, .int .i64 0, .int .i64 0, .int .i64 0, .int .i64 0, .int .i64 0, .int .i64 0, .slice none 0 0, .int .i64 0, .int .i64 0, .int .i64 0] 29) = W := ⟨_, rfl⟩
  have t1 : Touch w W1 (fun _ => False) := hW1 ▸ (Touch.refl _ _).alloc _
  have t2 : Touch W1 W2 (fun _ => False) := hW2 ▸ (Touch.refl _ _).alloc _
  have hg1 : W1.heap[w.heap.size]? = some (.cells (rcs r a cap) 29 (0, 0)) := hW1 ▸ heap_alloc_new w _
  have hg2 : W2.heap[W1.heap.size]? = some (.cells (rcs zeroR none 0) 29 (0, 0)) := hW2 ▸ heap_alloc_new W1 _
  have HSZ : RowKit.Hid (w.heap.size < W1.heap.size) := Lib.hid (heap_lt hg1)
  have HSZ2 : RowKit.Hid (W1.heap.size < W2.heap.size) := Lib.hid (heap_lt hg2)
  have HG1 := Lib.hid (t2.keeps hg1 (fun h => h))
  have HZ := Lib.hid hg2
  have HT := Lib.hid (t1.trans t2 (fun _ _ h => h))
  have HIR := Lib.hid infoRec
  have HR := Lib.hid ((hr.still t1).still t2)
  have HE : RowKit.Hid (migE r f t = 10) := Lib.hid (by unfold migE; rw [hb]; rfl)
  have HV : RowKit.Hid (∀ w, Calls Try.prog 68 #[.int .i64 f, .int .i64 t] w fun e w' => e = .returned (.bool false) ∧ w = w') := Lib.hid (fun w => hb ▸ leads_any f t w)
  have HM : RowKit.Hid True := Lib.hid trivial
  clear hb hr t1 t2 hg1 hg2
  simp only [rcs] at hW1
  simp only [rcs]
  go_enter Try.func31, Try.ntmps31
  go_wp2_with (first
    | (go_at_call 68; (with_reducible refine (HV.out _).mono ?_); rintro e w' ⟨rfl, rfl⟩)
    | (refine load_rowG rfl 29 (.tmp 3) rfl w.heap.size rfl _ _ _ _ HG1.out Try.underlying29 rfl HIR.out ?_)
    | (go_at_call 18; (refine HM.out.mono ?_); rintro e w3 ⟨rfl, t9⟩; have HG1 := Lib.hid (t9.keeps HG1.out (fun h => h)); have HZ := Lib.hid (t9.keeps HZ.out (fun h => h)); have HR := Lib.hid (HR.out.still t9); have HT := Lib.hid (HT.out.trans t9 (fun _ _ h => h)); have HSW := Lib.hid t9.size; clear t9)
    | (refine store_row rfl 29 (.tmp 6) (.tmp 12) rfl W1.heap.size _ rfl rfl _ _ HZ.out HIR.out rfl (by rfl) ?_))
  refine ret_row1 rfl rfl W1.heap.size 29 (rcs zeroR none 0) (0, 0) _ rfl (setRow_heap _ _ _ _ _ _ HZ.out) Try.underlying29 rfl infoRec _ rfl ?_
  exact MigIs.bad HE.out (by decide) (HT.out.setRow _ _ (fun h => absurd h (by have := HSZ.out; omega)))

set_option maxRecDepth 20000 in
set_option maxHeartbeats 8000000 in
theorem mig_nomay (r : RecD) (a : Option Addr) (cap : Nat) (f t : Int) (w : World) (hr : RowK w a r.bs.length cap r.bs) (hl : r.bs.length ≤ 100000) (hb : leadB f t = true) (hm : mayRB r = false) :
    Calls Try.prog 31 #[.agg (rcs r a cap), .int .i64 f, .int .i64 t] w (MigIs w r f t) := by
  obtain ⟨W1, hW1⟩ : ∃ W, w.alloc (.cells (rcs r a cap) 29) = W := ⟨_, rfl⟩
  obtain ⟨W2, hW2⟩ : ∃ W, W1.alloc (.cells #[.int .i64 0, .int .u32 0, .int .u32 0, .int .i64 0, .int .i64 0, .int .i64 0, .int .i64 0, .int .i64 0, .int .i64 0, .int .i64 0, .slice none 0 0, .int .i64 0, .int .i64 0, .int .i64 0] 29) = W := ⟨_, rfl⟩
  have t1 : Touch w W1 (fun _ => False) := hW1 ▸ (Touch.refl _ _).alloc _
  have t2 : Touch W1 W2 (fun _ => False) := hW2 ▸ (Touch.refl _ _).alloc _
  have hg1 : W1.heap[w.heap.size]? = some (.cells (rcs r a cap) 29 (0, 0)) := hW1 ▸ heap_alloc_new w _
  have hg2 : W2.heap[W1.heap.size]? = some (.cells (rcs zeroR none 0) 29 (0, 0)) := hW2 ▸ heap_alloc_new W1 _
  have HSZ : RowKit.Hid (w.heap.size < W1.heap.size) := Lib.hid (heap_lt hg1)
  have HSZ2 : RowKit.Hid (W1.heap.size < W2.heap.size) := Lib.hid (heap_lt hg2)
  have HG1 := Lib.hid (t2.keeps hg1 (fun h => h))
  have HZ := Lib.hid hg2
  have HT := Lib.hid (t1.trans t2 (fun _ _ h => h))
  have HIR := Lib.hid infoRec
  have HR := Lib.hid ((hr.still t1).still t2)
  have HE : RowKit.Hid (migE r f t = 1) := Lib.hid (by unfold migE; rw [hb, hm]; rfl)
  have HV : RowKit.Hid (∀ w, Calls Try.prog 68 #[.int .i64 f, .int .i64 t] w fun e w' => e = .returned (.bool true) ∧ w = w') := Lib.hid (fun w => hb ▸ leads_any f t w)
  have HM : RowKit.Hid (Calls Try.prog 18 #[.agg (rcs r a cap)] W2 fun e w' => e = .returned (.bool false) ∧ Touch W2 w' (fun _ => False)) := Lib.hid (hm ▸ mayR_any r a cap W2 HR.out)
  clear hb hm hr t1 t2 hg1 hg2
  simp only [rcs] at hW1
  simp only [rcs]
  go_enter Try.func31, Try.ntmps31
  go_wp2_with (first
    | (go_at_call 68; (with_reducible refine (HV.out _).mono ?_); rintro e w' ⟨rfl, rfl⟩)
    | (refine load_rowG rfl 29 (.tmp 3) rfl w.heap.size rfl _ _ _ _ HG1.out Try.underlying29 rfl HIR.out ?_)
    | (go_at_call 18; (refine HM.out.mono ?_); rintro e w3 ⟨rfl, t9⟩; have HG1 := Lib.hid (t9.keeps HG1.out (fun h => h)); have HZ := Lib.hid (t9.keeps HZ.out (fun h => h)); have HR := Lib.hid (HR.out.still t9); have HT := Lib.hid (HT.out.trans t9 (fun _ _ h => h)); have HSW := Lib.hid t9.size; clear t9)
    | (refine store_row rfl 29 (.tmp 6) (.tmp 16) rfl W1.heap.size _ rfl rfl _ _ HZ.out HIR.out rfl (by rfl) ?_))
  refine ret_row1 rfl rfl W1.heap.size 29 (rcs zeroR none 0) (0, 0) _ rfl (setRow_heap _ _ _ _ _ _ HZ.out) Try.underlying29 rfl infoRec _ rfl ?_
  exact MigIs.bad HE.out (by decide) (HT.out.setRow _ _ (fun h => absurd h (by have := HSZ.out; omega)))

set_option maxRecDepth 20000 in
set_option maxHeartbeats 8000000 in
theorem mig_good (r : RecD) (a : Option Addr) (cap : Nat) (f t : Int) (w : World) (hr : RowK w a r.bs.length cap r.bs) (hl : r.bs.length ≤ 100000) (hb : leadB f t = true) (hm : mayRB r = true) :
    Calls Try.prog 31 #[.agg (rcs r a cap), .int .i64 f, .int .i64 t] w (MigIs w r f t) := by
  obtain ⟨W1, hW1⟩ : ∃ W, w.alloc (.cells (rcs r a cap) 29) = W := ⟨_, rfl⟩
  obtain ⟨W2, hW2⟩ : ∃ W, W1.alloc (.cells #[.int .i64 0, .int .u32 0, .int .u32 0, .int .i64 0, .int .i64 0, .int .i64 0, .int .i64 0, .int .i64 0, .int .i64 0, .int .i64 0, .slice none 0 0, .int .i64 0, .int .i64 0, .int .i64 0] 29) = W := ⟨_, rfl⟩
  have t1 : Touch w W1 (fun _ => False) := hW1 ▸ (Touch.refl _ _).alloc _
  have t2 : Touch W1 W2 (fun _ => False) := hW2 ▸ (Touch.refl _ _).alloc _
  have hg1 : W1.heap[w.heap.size]? = some (.cells (rcs r a cap) 29 (0, 0)) := hW1 ▸ heap_alloc_new w _
  have hg2 : W2.heap[W1.heap.size]? = some (.cells (rcs zeroR none 0) 29 (0, 0)) := hW2 ▸ heap_alloc_new W1 _
  have HSZ : RowKit.Hid (w.heap.size < W1.heap.size) := Lib.hid (heap_lt hg1)
  have HSZ2 : RowKit.Hid (W1.heap.size < W2.heap.size) := Lib.hid (heap_lt hg2)
  have HG1 := Lib.hid (t2.keeps hg1 (fun h => h))
  have HZ := Lib.hid hg2
  have HT := Lib.hid (t1.trans t2 (fun _ _ h => h))
  have HIR := Lib.hid infoRec
  have HR := Lib.hid ((hr.still t1).still t2)
  have HE : RowKit.Hid (migE r f t = 0) := Lib.hid (by unfold migE; rw [hb, hm]; rfl)
  have HV : RowKit.Hid (∀ w, Calls Try.prog 68 #[.int .i64 f, .int .i64 t] w fun e w' => e = .returned (.bool true) ∧ w = w') := Lib.hid (fun w => hb ▸ leads_any f t w)
  have HM : RowKit.Hid (Calls Try.prog 18 #[.agg (rcs r a cap)] W2 fun e w' => e = .returned (.bool true) ∧ Touch W2 w' (fun _ => False)) := Lib.hid (hm ▸ mayR_any r a cap W2 HR.out)
  have HC : RowKit.Hid (∀ wx, RowK wx a r.bs.length cap r.bs → Calls Try.prog 69 #[.agg (rcs r a cap), .int .i64 f, .int .i64 t] wx fun e w' => RecIs wx w' (movD r f t) e) := Lib.hid (fun wx h => moved_any r a cap f t hb wx h hl)
  have HG := Lib.hid (fun (w' : World) (a' : Option Addr) (c' : Nat) (ho : OwnK w' w.heap.size (.slice a' (movD r f t).bs.length c') (movD r f t).bs) (ht : Touch w w' (fun _ => False)) => MigIs.good (r := r) (f := f) (t := t) HE.out ho ht)
  generalize movD r f t = mv at *
  generalize MigIs w r f t = X at *
  clear hb hm hr t1 t2 hg1 hg2
  simp only [rcs] at hW1
  simp only [rcs]
  go_enter Try.func31, Try.ntmps31
  go_wp2_with (first
    | (go_at_call 68; (with_reducible refine (HV.out _).mono ?_); rintro e w' ⟨rfl, rfl⟩)
    | (refine load_rowG rfl 29 (.tmp 3) rfl w.heap.size rfl _ _ _ _ HG1.out Try.underlying29 rfl HIR.out ?_)
    | (go_at_call 18; (refine HM.out.mono ?_); rintro e w3 ⟨rfl, t9⟩; have HG1 := Lib.hid (t9.keeps HG1.out (fun h => h)); have HZ := Lib.hid (t9.keeps HZ.out (fun h => h)); have HR := Lib.hid (HR.out.still t9); have HT := Lib.hid (HT.out.trans t9 (fun _ _ h => h)); have HSW := Lib.hid t9.size; clear t9)
    | (go_at_call 69; (refine (HC.out _ HR.out).mono ?_); rintro e w4 ⟨a4, c4, rfl, ho, t9⟩; have HO := Lib.hid ho; have HS4 := Lib.hid t9.size; have HZ := Lib.hid (t9.keeps HZ.out (fun h => h)); have HT := Lib.hid (HT.out.trans t9 (fun _ _ h => h)); clear t9 ho)
    | (refine store_row rfl 29 (.tmp 6) (.tmp 20) rfl W1.heap.size _ rfl rfl _ _ HZ.out HIR.out rfl (rcs_all _ _ _) ?_))
  refine ret_row1 rfl rfl W1.heap.size 29 (rcs mv a4 c4) (0, 0) _ rfl (setRow_heap _ _ _ _ _ _ HZ.out) Try.underlying29 rfl infoRec _ rfl ?_
  have tS := (Touch.refl w4 (fun k => k = W1.heap.size)).setRow W1.heap.size (rcs mv a4 c4) (fun _ => rfl)
  refine HG.out _ _ _ ?_ (HT.out.trans tS (fun k h1 h2 => by have := HSZ.out; omega))
  exact (HO.out.touch tS (fun x hx h => by have h1 := ((OwnS.own HO.out).lt x hx).1; have := HSW.out; have := HSZ2.out; omega)).rebase (fun x hx => by have h1 := ((OwnS.own HO.out).lt x hx).1; have := HSW.out; have := HSZ.out; have := HSZ2.out; omega)
theorem mig_any (r : RecD) (a : Option Addr) (cap : Nat) (f t : Int) (w : World) (hr : RowK w a r.bs.length cap r.bs) (hl : r.bs.length ≤ 100000) :
    Calls Try.prog 31 #[.agg (rcs r a cap), .int .i64 f, .int .i64 t] w (MigIs w r f t) := by
  cases hb : leadB f t with
  | false => exact mig_nolead r a cap f t w hr hl hb
  | true =>
    cases hm : mayRB r with
    | false => exact mig_nomay r a cap f t w hr hl hb hm
    | true => exact mig_good r a cap f t w hr hl hb hm
end Go.Proofs.Ytbklngcocbnijaa
