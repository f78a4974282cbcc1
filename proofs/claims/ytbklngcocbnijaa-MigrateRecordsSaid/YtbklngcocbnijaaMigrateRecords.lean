/- MigrateRecords answers true for any record, any formats: Record of package migrate and the reference's Migrate tell the same, as many steps. No condition. -/
import Derived.Test.YtbklngcocbnijaaMigLaw
import Derived.Test.YtbklngcocbnijaaRMig
import Derived.Test.YtbklngcocbnijaaRecRSame
import Derived.Test.YtbklngcocbnijaaRecMath
import Derived.Test.YtbklngcocbnijaaFrMigrateRecords
set_option linter.unusedVariables false
set_option linter.unusedSimpArgs false
namespace Go.Proofs.Ytbklngcocbnijaa
open Go.RowKit

theorem movD_bs (r : RecD) (f t : Int) : (movD r f t).bs.length ≤ r.bs.length := by
  have h : ∀ q : RecD, (gen1 q).bs = q.bs ∧ (seen0 q).bs = q.bs := fun q => ⟨gen1_bs q, seen0_bs q⟩
  have hp : (plainD r).bs.length ≤ r.bs.length := by
    unfold plainD
    repeat' split
    all_goals simp
  have hi : (inD r f).bs.length ≤ r.bs.length := by
    unfold inD
    split
    · simp only
      split
      · simpa using hp
      · exact hp
    · simp [zeroR]
  unfold movD
  repeat' split
  · rw [(h _).1]; exact hi
  · rw [(h _).2, (h _).1]; exact hi
  · rw [(h _).2]; exact hi
  · exact hi
theorem migR_bs (r : RecD) (f t : Int) : (migR r f t).bs.length ≤ r.bs.length := by
  unfold migR
  split
  · exact movD_bs r f t
  · simp [zeroR]

set_option maxRecDepth 20000 in
set_option maxHeartbeats 8000000 in
theorem migs_walk (r : RecD) (a : Option Addr) (cap : Nat) (f t : Int) (w : World) (hr : RowK w a r.bs.length cap r.bs) (hf : -9223372036854775808 ≤ f ∧ f ≤ 9223372036854775807) (ht : -9223372036854775808 ≤ t ∧ t ≤ 9223372036854775807) :
    Calls Try.prog 10 #[.agg (rcs r a cap), .int .i64 f, .int .i64 t] w fun e w' => e = .returned (.bool true) ∧ Touch w w' (fun _ => False) := by
  obtain ⟨W1, hW1⟩ : ∃ W, w.alloc (.cells (rcs r a cap) 29) = W := ⟨_, rfl⟩
  have t1 : Touch w W1 (fun _ => False) := hW1 ▸ (Touch.refl _ _).alloc _
  have HB : RowKit.Hid (W1.heap[w.heap.size]? = some (.cells (rcs r a cap) 29 (0, 0))) := Lib.hid (hW1 ▸ heap_alloc_new w _)
  have HR := Lib.hid (hr.still t1)
  have HT := Lib.hid t1
  have HIR := Lib.hid infoRec
  have HLL : RowKit.Hid (∀ W, Calls Try.prog 29 #[.agg (rcs r a cap)] W fun e w' => e = .returned (.bool (lightM r)) ∧ Touch W w' (fun _ => False)) := Lib.hid (fun W => lightM_any r a cap W)
  have HS1 : RowKit.Hid (∀ W, Calls Try.prog 33 #[.int .i64 f, .int .i64 t] W fun e w' => e = .returned (.int .i64 (stepsN f t)) ∧ W = w') := Lib.hid (fun W => steps_any f t W)
  have HS2 : RowKit.Hid (∀ W, Calls Try.prog 34 #[.int .i64 f, .int .i64 t] W fun e w' => e = .returned (.int .i64 (stepsN f t)) ∧ W = w') := Lib.hid (fun W => rsteps_any f t W hf ht)
  cases hlb : lightM r with
  | false =>
    have HLL : RowKit.Hid (∀ W, Calls Try.prog 29 #[.agg (rcs r a cap)] W fun e w' => e = .returned (.bool false) ∧ Touch W w' (fun _ => False)) := Lib.hid (hlb ▸ HLL.out)
    clear hr t1 hlb hf ht
    simp only [rcs] at hW1
    simp only [rcs]
    go_enter Try.func10, Try.ntmps10
    go_wp2_with (first
    | (refine load_rowG rfl 29 (.tmp 3) rfl w.heap.size rfl _ _ _ _ HB.out Try.underlying29 rfl HIR.out ?_)
    | (go_at_call 29; (refine (HLL.out _).mono ?_); rintro e w8 ⟨rfl, t9⟩; have HB := Lib.hid (t9.keeps HB.out (fun h => h)); have HR := Lib.hid (HR.out.still t9); have HT := Lib.hid (HT.out.trans t9 (fun _ _ h => h)); clear t9)
    | (go_at_call 30; (with_reducible refine (awake9 _).mono ?_); rintro e w8 ⟨rfl, t9⟩; have HT := Lib.hid (HT.out.trans t9 (fun _ _ h => h)); clear t9))
    go_ret
    exact ⟨rfl, HT.out⟩
  | true =>
  have hl : r.bs.length ≤ 100000 := by have : r.bs.length ≤ 40 := of_decide_eq_true hlb; omega
  have HLL : RowKit.Hid (∀ W, Calls Try.prog 29 #[.agg (rcs r a cap)] W fun e w' => e = .returned (.bool true) ∧ Touch W w' (fun _ => False)) := Lib.hid (hlb ▸ HLL.out)
  have hmb := migR_bs r f t
  obtain ⟨mv, hmv⟩ : ∃ m, migR r f t = m := ⟨_, rfl⟩
  obtain ⟨E, hE⟩ : ∃ E, migE r f t = E := ⟨_, rfl⟩
  rw [hmv] at hmb
  have HM1 : RowKit.Hid (∀ W, RowK W a r.bs.length cap r.bs → Calls Try.prog 31 #[.agg (rcs r a cap), .int .i64 f, .int .i64 t] W fun e w' => ∃ (a' : Option Addr) (c' : Nat), e = .returned (.tuple #[.agg (rcs mv a' c'), .int .i64 E]) ∧ OwnK w' W.heap.size (.slice a' mv.bs.length c') mv.bs ∧ Touch W w' (fun _ => False)) := Lib.hid (fun W h => by have := mig_any r a cap f t W h hl; unfold MigIs at this; rwa [hmv, hE] at this)
  have HM2 : RowKit.Hid (∀ W, RowK W a r.bs.length cap r.bs → Calls Try.prog 32 #[.agg (rcs r a cap), .int .i64 f, .int .i64 t] W fun e w' => ∃ (a' : Option Addr) (c' : Nat), e = .returned (.tuple #[.agg (rcs mv a' c'), .int .i64 E]) ∧ OwnK w' W.heap.size (.slice a' mv.bs.length c') mv.bs ∧ Touch W w' (fun _ => False)) := Lib.hid (fun W h => by have := rmig_any r a cap f t W h hl; unfold MigIs at this; rwa [hmv, hE] at this)
  have HSR : RowKit.Hid (∀ (a1 : Option Addr) (c1 : Nat) (a2 : Option Addr) (c2 : Nat) (W : World), RowK W a1 mv.bs.length c1 mv.bs → RowK W a2 mv.bs.length c2 mv.bs → Calls Try.prog 21 #[.agg (rcs mv a1 c1), .agg (rcs mv a2 c2)] W fun e w' => e = .returned (.bool true) ∧ Touch W w' (fun _ => False)) :=
    Lib.hid (fun a1 c1 a2 c2 W h1 h2 => by have := rsame_any mv a1 c1 mv a2 c2 W h1 (by omega) h2 (by omega); rwa [(sameR_iff mv mv).2 rfl] at this)
  generalize stepsN f t = N at *
  have HK0 : RowKit.Hid (E ≠ 0 → mv.kind = 0) := Lib.hid (fun h => by rw [← hmv]; unfold migR; rw [if_neg (by rw [hE]; exact h)]; rfl)
  have HMB := Lib.hid hmb
  clear hr t1 hlb hf ht hl hmv hE hmb
  simp only [rcs] at hW1
  simp only [rcs]
  by_cases h0 : E = 0
  · subst h0
    go_enter Try.func10, Try.ntmps10
    go_wp2_with (first
    | (refine load_rowG rfl 29 (.tmp 3) rfl w.heap.size rfl _ _ _ _ HB.out Try.underlying29 rfl HIR.out ?_)
    | (go_at_call 29; (refine (HLL.out _).mono ?_); rintro e w8 ⟨rfl, t9⟩; have HB := Lib.hid (t9.keeps HB.out (fun h => h)); have HR := Lib.hid (HR.out.still t9); have HT := Lib.hid (HT.out.trans t9 (fun _ _ h => h)); clear t9)
    | (go_at_call 30; (with_reducible refine (awake9 _).mono ?_); rintro e w8 ⟨rfl, t9⟩; have HT := Lib.hid (HT.out.trans t9 (fun _ _ h => h)); clear t9)
    | (go_at_call 31; (refine (HM1.out _ HR.out).mono ?_); rintro e w5 ⟨a5, c5, rfl, ho5, t8⟩; have tA := (Touch.refl w5 (fun _ => False)).alloc (.cells (rcs mv a5 c5) 29); have t9 := t8.trans tA (fun _ _ h => h); have HF7 := Lib.hid (heap_alloc_new w5 (.cells (rcs mv a5 c5) 29 (0, 0))); have HX7 := Lib.hid (ho5.row.2.1.still tA); have HB := Lib.hid (t9.keeps HB.out (fun h => h)); have HR := Lib.hid (HR.out.still t9); have HT := Lib.hid (HT.out.trans t9 (fun _ _ h => h)); clear t8 t9 tA ho5; simp only [rcs])
    | (go_at_call 32; (refine (HM2.out _ HR.out).mono ?_); rintro e w6 ⟨a6, c6, rfl, ho6, t8⟩; have tA := (Touch.refl w6 (fun _ => False)).alloc (.cells (rcs mv a6 c6) 29); have t9 := t8.trans tA (fun _ _ h => h); have k0 := cell_of_cells (t8.keeps HF7.out (fun h => h)) 0; have hlt6 : w5.heap.size < w6.heap.size := Nat.lt_of_lt_of_le (heap_lt HF7.out) t8.size; simp [rcs] at k0; have HF7 := Lib.hid (t9.keeps HF7.out (fun h => h)); have HX7 := Lib.hid (HX7.out.still t9); have HF9 := Lib.hid (heap_alloc_new w6 (.cells (rcs mv a6 c6) 29 (0, 0))); have HX9 := Lib.hid (ho6.row.2.1.still tA); have HB := Lib.hid (t9.keeps HB.out (fun h => h)); have HR := Lib.hid (HR.out.still t9); have HT := Lib.hid (HT.out.trans t9 (fun _ _ h => h)); clear t8 t9 tA ho6; simp only [rcs])
    | (refine load_rowG rfl 29 (.tmp 7) rfl w5.heap.size rfl _ _ _ _ HF7.out Try.underlying29 rfl HIR.out ?_)
    | (refine load_rowG rfl 29 (.tmp 9) rfl w6.heap.size rfl _ _ _ _ HF9.out Try.underlying29 rfl HIR.out ?_)
    | (go_at_call 21; (refine (HSR.out _ _ _ _ _ HX7.out HX9.out).mono ?_); rintro e w8 ⟨rfl, t9⟩; have HT := Lib.hid (HT.out.trans t9 (fun _ _ h => h)); clear t9 k0 hlt6)
    | (go_at_call 33; (with_reducible refine (HS1.out _).mono ?_); rintro e w' ⟨rfl, rfl⟩)
    | (go_at_call 34; (with_reducible refine (HS2.out _).mono ?_); rintro e w' ⟨rfl, rfl⟩))
    go_ret
    exact ⟨rfl, HT.out⟩
  · have hb : (E == 0) = false := beq_eq_false_iff_ne.2 h0
    have hb2 : (E != 0) = true := bne_iff_ne.2 h0
    have hk := HK0.out h0
    have HKK := Lib.hid hk
    clear h0 hk HK0
    go_enter Try.func10, Try.ntmps10
    go_wp2_with (first
    | (refine load_rowG rfl 29 (.tmp 3) rfl w.heap.size rfl _ _ _ _ HB.out Try.underlying29 rfl HIR.out ?_)
    | (go_at_call 29; (refine (HLL.out _).mono ?_); rintro e w8 ⟨rfl, t9⟩; have HB := Lib.hid (t9.keeps HB.out (fun h => h)); have HR := Lib.hid (HR.out.still t9); have HT := Lib.hid (HT.out.trans t9 (fun _ _ h => h)); clear t9)
    | (go_at_call 30; (with_reducible refine (awake9 _).mono ?_); rintro e w8 ⟨rfl, t9⟩; have HT := Lib.hid (HT.out.trans t9 (fun _ _ h => h)); clear t9)
    | (go_at_call 31; (refine (HM1.out _ HR.out).mono ?_); rintro e w5 ⟨a5, c5, rfl, ho5, t8⟩; have tA := (Touch.refl w5 (fun _ => False)).alloc (.cells (rcs mv a5 c5) 29); have t9 := t8.trans tA (fun _ _ h => h); have HF7 := Lib.hid (heap_alloc_new w5 (.cells (rcs mv a5 c5) 29 (0, 0))); have HX7 := Lib.hid (ho5.row.2.1.still tA); have HB := Lib.hid (t9.keeps HB.out (fun h => h)); have HR := Lib.hid (HR.out.still t9); have HT := Lib.hid (HT.out.trans t9 (fun _ _ h => h)); clear t8 t9 tA ho5; simp only [rcs])
    | (go_at_call 32; (refine (HM2.out _ HR.out).mono ?_); rintro e w6 ⟨a6, c6, rfl, ho6, t8⟩; have tA := (Touch.refl w6 (fun _ => False)).alloc (.cells (rcs mv a6 c6) 29); have t9 := t8.trans tA (fun _ _ h => h); have k0 := cell_of_cells (t8.keeps HF7.out (fun h => h)) 0; have hlt6 : w5.heap.size < w6.heap.size := Nat.lt_of_lt_of_le (heap_lt HF7.out) t8.size; simp [rcs] at k0; rw [HKK.out] at k0; have HF7 := Lib.hid (t9.keeps HF7.out (fun h => h)); have HX7 := Lib.hid (HX7.out.still t9); have HF9 := Lib.hid (heap_alloc_new w6 (.cells (rcs mv a6 c6) 29 (0, 0))); have HX9 := Lib.hid (ho6.row.2.1.still tA); have HB := Lib.hid (t9.keeps HB.out (fun h => h)); have HR := Lib.hid (HR.out.still t9); have HT := Lib.hid (HT.out.trans t9 (fun _ _ h => h)); clear t8 t9 tA ho6; simp only [rcs])
    | (refine load_rowG rfl 29 (.tmp 7) rfl w5.heap.size rfl _ _ _ _ HF7.out Try.underlying29 rfl HIR.out ?_)
    | (refine load_rowG rfl 29 (.tmp 9) rfl w6.heap.size rfl _ _ _ _ HF9.out Try.underlying29 rfl HIR.out ?_)
    | (go_at_call 33; (with_reducible refine (HS1.out _).mono ?_); rintro e w' ⟨rfl, rfl⟩)
    | (go_at_call 34; (with_reducible refine (HS2.out _).mono ?_); rintro e w' ⟨rfl, rfl⟩))
    go_ret
    exact ⟨rfl, HT.out⟩
theorem migrateRecords_holds : Rows.MigrateRecordsSaid := by
  refine migrateRecords.said fun H enc W base v0 v1 v2 d0 d1 d2 p0 p1 p2 h0 h1 h2 => ?_
  obtain ⟨r, a, cap, rfl, ok, hr⟩ := h0.recD
  obtain ⟨f, rfl, f1, f2, _⟩ := h1.i64 Try.underlying3
  obtain ⟨t, rfl, t1, t2, _⟩ := h2.i64 Try.underlying3
  exact (migs_walk r a cap f t W hr ⟨f1, f2⟩ ⟨t1, t2⟩).mono fun e w' h => ⟨h.1, h.2.under (Nat.le_refl _)⟩
end Go.Proofs.Ytbklngcocbnijaa
