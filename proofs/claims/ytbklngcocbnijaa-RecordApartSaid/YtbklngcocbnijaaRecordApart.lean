/- RecordApart answers true for any two records: in format 3 they have one frame just if they are the same. No condition. -/
import Derived.Test.YtbklngcocbnijaaRecLaw
import Derived.Test.YtbklngcocbnijaaFrRecordApart
set_option linter.unusedVariables false
set_option linter.unusedSimpArgs false
namespace Go.Proofs.Ytbklngcocbnijaa
open Go.RowKit

set_option maxRecDepth 20000 in
set_option maxHeartbeats 8000000 in
theorem apart_walk (r : RecD) (a : Option Addr) (cap : Nat) (s : RecD) (a2 : Option Addr) (cap2 : Nat) (w : World) (ok : RecOk r) (hr : RowK w a r.bs.length cap r.bs) (ok2 : RecOk s) (hr2 : RowK w a2 s.bs.length cap2 s.bs) (hl : r.bs.length ≤ 100000 ∨ True) :
    Calls Try.prog 9 #[.agg (rcs r a cap), .agg (rcs s a2 cap2)] w fun e w' => e = .returned (.bool true) ∧ Touch w w' (fun _ => False) := by
  obtain ⟨W1, hW1⟩ : ∃ W, w.alloc (.cells (rcs r a cap) 29) = W := ⟨_, rfl⟩
  obtain ⟨W2, hW2⟩ : ∃ W, W1.alloc (.cells (rcs s a2 cap2) 29) = W := ⟨_, rfl⟩
  have t1 : Touch w W1 (fun _ => False) := hW1 ▸ (Touch.refl _ _).alloc _
  have t2 : Touch W1 W2 (fun _ => False) := hW2 ▸ (Touch.refl _ _).alloc _
  have HB1 : RowKit.Hid (W2.heap[w.heap.size]? = some (.cells (rcs r a cap) 29 (0, 0))) := Lib.hid (t2.keeps (hW1 ▸ heap_alloc_new w _) (fun h => h))
  have HB2 : RowKit.Hid (W2.heap[W1.heap.size]? = some (.cells (rcs s a2 cap2) 29 (0, 0))) := Lib.hid (hW2 ▸ heap_alloc_new W1 _)
  have HR1 := Lib.hid ((hr.still t1).still t2)
  have HR2 := Lib.hid ((hr2.still t1).still t2)
  have HT := Lib.hid (t1.trans t2 (fun _ _ h => h))
  have HIR := Lib.hid infoRec
  have HL1 : RowKit.Hid (∀ W, Calls Try.prog 13 #[.agg (rcs r a cap)] W fun e w' => e = .returned (.bool (lightB r)) ∧ Touch W w' (fun _ => False)) := Lib.hid (fun W => light_any r a cap W)
  have HL2 : RowKit.Hid (∀ W, Calls Try.prog 13 #[.agg (rcs s a2 cap2)] W fun e w' => e = .returned (.bool (lightB s)) ∧ Touch W w' (fun _ => False)) := Lib.hid (fun W => light_any s a2 cap2 W)
  have HM1 : RowKit.Hid (∀ W, RowK W a r.bs.length cap r.bs → Calls Try.prog 18 #[.agg (rcs r a cap)] W fun e w' => e = .returned (.bool (mayRB r)) ∧ Touch W w' (fun _ => False)) := Lib.hid (fun W h => mayR_any r a cap W h)
  have HM2 : RowKit.Hid (∀ W, RowK W a2 s.bs.length cap2 s.bs → Calls Try.prog 18 #[.agg (rcs s a2 cap2)] W fun e w' => e = .returned (.bool (mayRB s)) ∧ Touch W w' (fun _ => False)) := Lib.hid (fun W h => mayR_any s a2 cap2 W h)
  obtain ⟨bd1, hbd1⟩ : ∃ b, bodyF r 3 = b := ⟨_, rfl⟩
  obtain ⟨bd2, hbd2⟩ : ∃ b, bodyF s 3 = b := ⟨_, rfl⟩
  obtain ⟨L1, hL1⟩ : ∃ n, bd1.length = n := ⟨_, rfl⟩
  obtain ⟨L2, hL2⟩ : ∃ n, bd2.length = n := ⟨_, rfl⟩
  have HQ1 : RowKit.Hid (mayRB r = true → ∀ W, RowK W a r.bs.length cap r.bs → Calls Try.prog 24 #[.agg (rcs r a cap), .int .i64 3] W fun e w' => ∃ a' c', e = .returned (.tuple #[.agg #[.int .i64 r.kind, .int .i64 3, .slice a' L1 c'], .int .i64 0]) ∧ RowB w' a' L1 c' bd1 ∧ Touch W w' (fun _ => False)) := Lib.hid (fun hm W h => by have := enc_fine r a cap 3 W h ok (by decide) hm; rwa [hbd1, hL1] at this)
  have HQ2 : RowKit.Hid (mayRB s = true → ∀ W, RowK W a2 s.bs.length cap2 s.bs → Calls Try.prog 24 #[.agg (rcs s a2 cap2), .int .i64 3] W fun e w' => ∃ a' c', e = .returned (.tuple #[.agg #[.int .i64 s.kind, .int .i64 3, .slice a' L2 c'], .int .i64 0]) ∧ RowB w' a' L2 c' bd2 ∧ Touch W w' (fun _ => False)) := Lib.hid (fun hm W h => by have := enc_fine s a2 cap2 3 W h ok2 (by decide) hm; rwa [hbd2, hL2] at this)
  have HS : RowKit.Hid (lightB r = true → lightB s = true → ∀ W, RowK W a r.bs.length cap r.bs → RowK W a2 s.bs.length cap2 s.bs → Calls Try.prog 20 #[.agg (rcs r a cap), .agg (rcs s a2 cap2)] W fun e w' => e = .returned (.bool (sameR r s)) ∧ Touch W w' (fun _ => False)) :=
    Lib.hid (fun l1 l2 W h1 h2 => same_any r a cap s a2 cap2 W h1 (by have : r.bs.length ≤ 40 := of_decide_eq_true l1; omega) h2 (by have : s.bs.length ≤ 40 := of_decide_eq_true l2; omega))
  have HEQ : RowKit.Hid (mayRB r = true → mayRB s = true → (r.kind = s.kind → eqB bd1 bd2 = sameR r s) ∧ (r.kind ≠ s.kind → sameR r s = false)) := Lib.hid (fun m1 m2 => by
    refine ⟨fun hk => ?_, fun hk => ?_⟩
    · rw [Bool.eq_iff_iff, sameR_iff]
      unfold eqB
      rw [decide_eq_true_iff, ← hbd1, ← hbd2]
      exact ⟨fun h => rec_ext (apart_math r s ok ok2 m1 m2 hk h), fun h => (plain_body r s h 3).2.2 m1⟩
    · cases hh : sameR r s with
      | false => rfl
      | true => exact absurd (plain_body r s ((sameR_iff r s).1 hh) 3).1 hk)
  have HSM : RowKit.Hid (mayRB r = true → mayRB s = true → (∀ x ∈ bd1, x < 256) ∧ (∀ x ∈ bd2, x < 256)) := Lib.hid (fun m1 m2 => ⟨hbd1 ▸ bodyF_small r 3, hbd2 ▸ bodyF_small s 3⟩)
  generalize mayRB r = M1 at *
  generalize mayRB s = M2 at *
  generalize hlb1 : lightB r = LB1 at *
  generalize hlb2 : lightB s = LB2 at *
  generalize sameR r s = SR at *
  clear hr hr2 t1 t2 ok ok2 hbd1 hbd2 hL1 hL2 hl hlb1 hlb2
  simp only [rcs] at hW1 hW2
  simp only [rcs]
  cases LB1 with
  | false =>
    go_enter Try.func9, Try.ntmps9
    go_wp2_with (first
    | (refine load_rowG rfl 29 (.tmp 2) rfl w.heap.size rfl _ _ _ _ HB1.out Try.underlying29 rfl HIR.out ?_)
    | (refine load_rowG rfl 29 (.tmp 3) rfl W1.heap.size rfl _ _ _ _ HB2.out Try.underlying29 rfl HIR.out ?_)
    | (go_at_call 13; first | ((with_reducible refine (HL1.out _).mono ?_); rintro e w8 ⟨rfl, t9⟩; have HB1 := Lib.hid (t9.keeps HB1.out (fun h => h)); have HB2 := Lib.hid (t9.keeps HB2.out (fun h => h)); have HR1 := Lib.hid (HR1.out.still t9); have HR2 := Lib.hid (HR2.out.still t9); have HT := Lib.hid (HT.out.trans t9 (fun _ _ h => h)); clear t9) | ((with_reducible refine (HL2.out _).mono ?_); rintro e w8 ⟨rfl, t9⟩; have HB1 := Lib.hid (t9.keeps HB1.out (fun h => h)); have HB2 := Lib.hid (t9.keeps HB2.out (fun h => h)); have HR1 := Lib.hid (HR1.out.still t9); have HR2 := Lib.hid (HR2.out.still t9); have HT := Lib.hid (HT.out.trans t9 (fun _ _ h => h)); clear t9))
    | (go_at_call 18; first | ((with_reducible refine (HM1.out _ HR1.out).mono ?_); rintro e w8 ⟨rfl, t9⟩; have HB1 := Lib.hid (t9.keeps HB1.out (fun h => h)); have HB2 := Lib.hid (t9.keeps HB2.out (fun h => h)); have HR1 := Lib.hid (HR1.out.still t9); have HR2 := Lib.hid (HR2.out.still t9); have HT := Lib.hid (HT.out.trans t9 (fun _ _ h => h)); clear t9) | ((with_reducible refine (HM2.out _ HR2.out).mono ?_); rintro e w8 ⟨rfl, t9⟩; have HB1 := Lib.hid (t9.keeps HB1.out (fun h => h)); have HB2 := Lib.hid (t9.keeps HB2.out (fun h => h)); have HR1 := Lib.hid (HR1.out.still t9); have HR2 := Lib.hid (HR2.out.still t9); have HT := Lib.hid (HT.out.trans t9 (fun _ _ h => h)); clear t9))
    | (go_at_call 14; (with_reducible refine (awake8 _).mono ?_); rintro e w8 ⟨rfl, t9⟩; have HT := Lib.hid (HT.out.trans t9 (fun _ _ h => h)); clear t9))
    go_ret
    exact ⟨rfl, HT.out⟩
  | true =>
  cases LB2 with
  | false =>
    go_enter Try.func9, Try.ntmps9
    go_wp2_with (first
    | (refine load_rowG rfl 29 (.tmp 2) rfl w.heap.size rfl _ _ _ _ HB1.out Try.underlying29 rfl HIR.out ?_)
    | (refine load_rowG rfl 29 (.tmp 3) rfl W1.heap.size rfl _ _ _ _ HB2.out Try.underlying29 rfl HIR.out ?_)
    | (go_at_call 13; first | ((with_reducible refine (HL1.out _).mono ?_); rintro e w8 ⟨rfl, t9⟩; have HB1 := Lib.hid (t9.keeps HB1.out (fun h => h)); have HB2 := Lib.hid (t9.keeps HB2.out (fun h => h)); have HR1 := Lib.hid (HR1.out.still t9); have HR2 := Lib.hid (HR2.out.still t9); have HT := Lib.hid (HT.out.trans t9 (fun _ _ h => h)); clear t9) | ((with_reducible refine (HL2.out _).mono ?_); rintro e w8 ⟨rfl, t9⟩; have HB1 := Lib.hid (t9.keeps HB1.out (fun h => h)); have HB2 := Lib.hid (t9.keeps HB2.out (fun h => h)); have HR1 := Lib.hid (HR1.out.still t9); have HR2 := Lib.hid (HR2.out.still t9); have HT := Lib.hid (HT.out.trans t9 (fun _ _ h => h)); clear t9))
    | (go_at_call 18; first | ((with_reducible refine (HM1.out _ HR1.out).mono ?_); rintro e w8 ⟨rfl, t9⟩; have HB1 := Lib.hid (t9.keeps HB1.out (fun h => h)); have HB2 := Lib.hid (t9.keeps HB2.out (fun h => h)); have HR1 := Lib.hid (HR1.out.still t9); have HR2 := Lib.hid (HR2.out.still t9); have HT := Lib.hid (HT.out.trans t9 (fun _ _ h => h)); clear t9) | ((with_reducible refine (HM2.out _ HR2.out).mono ?_); rintro e w8 ⟨rfl, t9⟩; have HB1 := Lib.hid (t9.keeps HB1.out (fun h => h)); have HB2 := Lib.hid (t9.keeps HB2.out (fun h => h)); have HR1 := Lib.hid (HR1.out.still t9); have HR2 := Lib.hid (HR2.out.still t9); have HT := Lib.hid (HT.out.trans t9 (fun _ _ h => h)); clear t9))
    | (go_at_call 14; (with_reducible refine (awake8 _).mono ?_); rintro e w8 ⟨rfl, t9⟩; have HT := Lib.hid (HT.out.trans t9 (fun _ _ h => h)); clear t9))
    go_ret
    exact ⟨rfl, HT.out⟩
  | true =>
  have KS := Lib.hid (fun (W : World) (h1 : RowK W a r.bs.length cap r.bs) (h2 : RowK W a2 s.bs.length cap2 s.bs) => HS.out rfl rfl W h1 h2)
  cases M1 with
  | false =>
    go_enter Try.func9, Try.ntmps9
    go_wp2_with (first
    | (refine load_rowG rfl 29 (.tmp 2) rfl w.heap.size rfl _ _ _ _ HB1.out Try.underlying29 rfl HIR.out ?_)
    | (refine load_rowG rfl 29 (.tmp 3) rfl W1.heap.size rfl _ _ _ _ HB2.out Try.underlying29 rfl HIR.out ?_)
    | (go_at_call 13; first | ((with_reducible refine (HL1.out _).mono ?_); rintro e w8 ⟨rfl, t9⟩; have HB1 := Lib.hid (t9.keeps HB1.out (fun h => h)); have HB2 := Lib.hid (t9.keeps HB2.out (fun h => h)); have HR1 := Lib.hid (HR1.out.still t9); have HR2 := Lib.hid (HR2.out.still t9); have HT := Lib.hid (HT.out.trans t9 (fun _ _ h => h)); clear t9) | ((with_reducible refine (HL2.out _).mono ?_); rintro e w8 ⟨rfl, t9⟩; have HB1 := Lib.hid (t9.keeps HB1.out (fun h => h)); have HB2 := Lib.hid (t9.keeps HB2.out (fun h => h)); have HR1 := Lib.hid (HR1.out.still t9); have HR2 := Lib.hid (HR2.out.still t9); have HT := Lib.hid (HT.out.trans t9 (fun _ _ h => h)); clear t9))
    | (go_at_call 18; first | ((with_reducible refine (HM1.out _ HR1.out).mono ?_); rintro e w8 ⟨rfl, t9⟩; have HB1 := Lib.hid (t9.keeps HB1.out (fun h => h)); have HB2 := Lib.hid (t9.keeps HB2.out (fun h => h)); have HR1 := Lib.hid (HR1.out.still t9); have HR2 := Lib.hid (HR2.out.still t9); have HT := Lib.hid (HT.out.trans t9 (fun _ _ h => h)); clear t9) | ((with_reducible refine (HM2.out _ HR2.out).mono ?_); rintro e w8 ⟨rfl, t9⟩; have HB1 := Lib.hid (t9.keeps HB1.out (fun h => h)); have HB2 := Lib.hid (t9.keeps HB2.out (fun h => h)); have HR1 := Lib.hid (HR1.out.still t9); have HR2 := Lib.hid (HR2.out.still t9); have HT := Lib.hid (HT.out.trans t9 (fun _ _ h => h)); clear t9))
    | (go_at_call 14; (with_reducible refine (awake8 _).mono ?_); rintro e w8 ⟨rfl, t9⟩; have HT := Lib.hid (HT.out.trans t9 (fun _ _ h => h)); clear t9))
    go_ret
    exact ⟨rfl, HT.out⟩
  | true =>
  cases M2 with
  | false =>
    go_enter Try.func9, Try.ntmps9
    go_wp2_with (first
    | (refine load_rowG rfl 29 (.tmp 2) rfl w.heap.size rfl _ _ _ _ HB1.out Try.underlying29 rfl HIR.out ?_)
    | (refine load_rowG rfl 29 (.tmp 3) rfl W1.heap.size rfl _ _ _ _ HB2.out Try.underlying29 rfl HIR.out ?_)
    | (go_at_call 13; first | ((with_reducible refine (HL1.out _).mono ?_); rintro e w8 ⟨rfl, t9⟩; have HB1 := Lib.hid (t9.keeps HB1.out (fun h => h)); have HB2 := Lib.hid (t9.keeps HB2.out (fun h => h)); have HR1 := Lib.hid (HR1.out.still t9); have HR2 := Lib.hid (HR2.out.still t9); have HT := Lib.hid (HT.out.trans t9 (fun _ _ h => h)); clear t9) | ((with_reducible refine (HL2.out _).mono ?_); rintro e w8 ⟨rfl, t9⟩; have HB1 := Lib.hid (t9.keeps HB1.out (fun h => h)); have HB2 := Lib.hid (t9.keeps HB2.out (fun h => h)); have HR1 := Lib.hid (HR1.out.still t9); have HR2 := Lib.hid (HR2.out.still t9); have HT := Lib.hid (HT.out.trans t9 (fun _ _ h => h)); clear t9))
    | (go_at_call 18; first | ((with_reducible refine (HM1.out _ HR1.out).mono ?_); rintro e w8 ⟨rfl, t9⟩; have HB1 := Lib.hid (t9.keeps HB1.out (fun h => h)); have HB2 := Lib.hid (t9.keeps HB2.out (fun h => h)); have HR1 := Lib.hid (HR1.out.still t9); have HR2 := Lib.hid (HR2.out.still t9); have HT := Lib.hid (HT.out.trans t9 (fun _ _ h => h)); clear t9) | ((with_reducible refine (HM2.out _ HR2.out).mono ?_); rintro e w8 ⟨rfl, t9⟩; have HB1 := Lib.hid (t9.keeps HB1.out (fun h => h)); have HB2 := Lib.hid (t9.keeps HB2.out (fun h => h)); have HR1 := Lib.hid (HR1.out.still t9); have HR2 := Lib.hid (HR2.out.still t9); have HT := Lib.hid (HT.out.trans t9 (fun _ _ h => h)); clear t9))
    | (go_at_call 14; (with_reducible refine (awake8 _).mono ?_); rintro e w8 ⟨rfl, t9⟩; have HT := Lib.hid (HT.out.trans t9 (fun _ _ h => h)); clear t9))
    go_ret
    exact ⟨rfl, HT.out⟩
  | true =>
  have KQ1 := Lib.hid (fun (W : World) (h : RowK W a r.bs.length cap r.bs) => HQ1.out rfl W h)
  have KQ2 := Lib.hid (fun (W : World) (h : RowK W a2 s.bs.length cap2 s.bs) => HQ2.out rfl W h)
  obtain ⟨p1, p2⟩ := HSM.out rfl rfl
  have h3 := eq_str bd1 bd2 p1 p2
  by_cases hk : r.kind = s.kind
  · rw [(HEQ.out rfl rfl).1 hk] at h3
    have hb : (r.kind == s.kind) = true := beq_iff_eq.2 hk
    clear hk p1 p2 HEQ HSM
    go_enter Try.func9, Try.ntmps9
    go_wp2_with (first
    | (refine load_rowG rfl 29 (.tmp 2) rfl w.heap.size rfl _ _ _ _ HB1.out Try.underlying29 rfl HIR.out ?_)
    | (refine load_rowG rfl 29 (.tmp 3) rfl W1.heap.size rfl _ _ _ _ HB2.out Try.underlying29 rfl HIR.out ?_)
    | (go_at_call 13; first | ((with_reducible refine (HL1.out _).mono ?_); rintro e w8 ⟨rfl, t9⟩; have HB1 := Lib.hid (t9.keeps HB1.out (fun h => h)); have HB2 := Lib.hid (t9.keeps HB2.out (fun h => h)); have HR1 := Lib.hid (HR1.out.still t9); have HR2 := Lib.hid (HR2.out.still t9); have HT := Lib.hid (HT.out.trans t9 (fun _ _ h => h)); clear t9) | ((with_reducible refine (HL2.out _).mono ?_); rintro e w8 ⟨rfl, t9⟩; have HB1 := Lib.hid (t9.keeps HB1.out (fun h => h)); have HB2 := Lib.hid (t9.keeps HB2.out (fun h => h)); have HR1 := Lib.hid (HR1.out.still t9); have HR2 := Lib.hid (HR2.out.still t9); have HT := Lib.hid (HT.out.trans t9 (fun _ _ h => h)); clear t9))
    | (go_at_call 18; first | ((with_reducible refine (HM1.out _ HR1.out).mono ?_); rintro e w8 ⟨rfl, t9⟩; have HB1 := Lib.hid (t9.keeps HB1.out (fun h => h)); have HB2 := Lib.hid (t9.keeps HB2.out (fun h => h)); have HR1 := Lib.hid (HR1.out.still t9); have HR2 := Lib.hid (HR2.out.still t9); have HT := Lib.hid (HT.out.trans t9 (fun _ _ h => h)); clear t9) | ((with_reducible refine (HM2.out _ HR2.out).mono ?_); rintro e w8 ⟨rfl, t9⟩; have HB1 := Lib.hid (t9.keeps HB1.out (fun h => h)); have HB2 := Lib.hid (t9.keeps HB2.out (fun h => h)); have HR1 := Lib.hid (HR1.out.still t9); have HR2 := Lib.hid (HR2.out.still t9); have HT := Lib.hid (HT.out.trans t9 (fun _ _ h => h)); clear t9))
    | (go_at_call 14; (with_reducible refine (awake8 _).mono ?_); rintro e w8 ⟨rfl, t9⟩; have HT := Lib.hid (HT.out.trans t9 (fun _ _ h => h)); clear t9)
    | (go_at_call 24; (with_reducible refine (KQ1.out _ HR1.out).mono ?_); rintro e w4 ⟨a4, c4, rfl, hr4, t8⟩; have t9 := t8.trans ((Touch.refl w4 (fun _ => False)).alloc (.cells #[.int .i64 r.kind, .int .i64 3, .slice a4 L1 c4] 39)) (fun _ _ h => h); have HF1 : RowKit.Hid ((w4.alloc (.cells #[.int .i64 r.kind, .int .i64 3, .slice a4 L1 c4] 39)).heap[w4.heap.size]? = some (.cells (f3 r.kind 3 a4 L1 c4) 39 (0, 0))) := Lib.hid (heap_alloc_new w4 _); have HX1 := Lib.hid (hr4.touch ((Touch.refl w4 (fun _ => False)).alloc (.cells #[.int .i64 r.kind, .int .i64 3, .slice a4 L1 c4] 39)) (fun _ _ => .inr (fun h => h))); have HB1 := Lib.hid (t9.keeps HB1.out (fun h => h)); have HB2 := Lib.hid (t9.keeps HB2.out (fun h => h)); have HR1 := Lib.hid (HR1.out.still t9); have HR2 := Lib.hid (HR2.out.still t9); have HT := Lib.hid (HT.out.trans t9 (fun _ _ h => h)); clear t8 hr4; clear t9)
    | (go_at_call 24; (with_reducible refine (KQ2.out _ HR2.out).mono ?_); rintro e w5 ⟨a5, c5, rfl, hr5, t8⟩; have t9 := t8.trans ((Touch.refl w5 (fun _ => False)).alloc (.cells #[.int .i64 s.kind, .int .i64 3, .slice a5 L2 c5] 39)) (fun _ _ h => h); have HF1 := Lib.hid (t9.keeps HF1.out (fun h => h)); have HX1 := Lib.hid (HX1.out.touch t9 (fun _ _ => .inr (fun h => h))); have hx2 := hr5.touch ((Touch.refl w5 (fun _ => False)).alloc (.cells #[.int .i64 s.kind, .int .i64 3, .slice a5 L2 c5] 39)) (fun _ _ => .inr (fun h => h)); obtain ⟨q0, q1, q2⟩ := f3cells_of HF1.out; have s1 := str_row HX1.out; have s2 := str_row hx2; have HB1 := Lib.hid (t9.keeps HB1.out (fun h => h)); have HB2 := Lib.hid (t9.keeps HB2.out (fun h => h)); have HR1 := Lib.hid (HR1.out.still t9); have HR2 := Lib.hid (HR2.out.still t9); have HT := Lib.hid (HT.out.trans t9 (fun _ _ h => h)); clear t8 hr5 hx2; clear t9)
    | (go_at_call 20; (with_reducible refine (KS.out _ HR1.out HR2.out).mono ?_); rintro e w8 ⟨rfl, t9⟩; have HB1 := Lib.hid (t9.keeps HB1.out (fun h => h)); have HB2 := Lib.hid (t9.keeps HB2.out (fun h => h)); have HR1 := Lib.hid (HR1.out.still t9); have HR2 := Lib.hid (HR2.out.still t9); have HT := Lib.hid (HT.out.trans t9 (fun _ _ h => h)); clear q0 q1 q2 s1 s2; clear t9))
    go_ret
    exact ⟨rfl, HT.out⟩
  · have hs := (HEQ.out rfl rfl).2 hk
    subst hs
    have hb : (r.kind == s.kind) = false := beq_eq_false_iff_ne.2 hk
    clear hk p1 p2 HEQ HSM h3
    go_enter Try.func9, Try.ntmps9
    go_wp2_with (first
    | (refine load_rowG rfl 29 (.tmp 2) rfl w.heap.size rfl _ _ _ _ HB1.out Try.underlying29 rfl HIR.out ?_)
    | (refine load_rowG rfl 29 (.tmp 3) rfl W1.heap.size rfl _ _ _ _ HB2.out Try.underlying29 rfl HIR.out ?_)
    | (go_at_call 13; first | ((with_reducible refine (HL1.out _).mono ?_); rintro e w8 ⟨rfl, t9⟩; have HB1 := Lib.hid (t9.keeps HB1.out (fun h => h)); have HB2 := Lib.hid (t9.keeps HB2.out (fun h => h)); have HR1 := Lib.hid (HR1.out.still t9); have HR2 := Lib.hid (HR2.out.still t9); have HT := Lib.hid (HT.out.trans t9 (fun _ _ h => h)); clear t9) | ((with_reducible refine (HL2.out _).mono ?_); rintro e w8 ⟨rfl, t9⟩; have HB1 := Lib.hid (t9.keeps HB1.out (fun h => h)); have HB2 := Lib.hid (t9.keeps HB2.out (fun h => h)); have HR1 := Lib.hid (HR1.out.still t9); have HR2 := Lib.hid (HR2.out.still t9); have HT := Lib.hid (HT.out.trans t9 (fun _ _ h => h)); clear t9))
    | (go_at_call 18; first | ((with_reducible refine (HM1.out _ HR1.out).mono ?_); rintro e w8 ⟨rfl, t9⟩; have HB1 := Lib.hid (t9.keeps HB1.out (fun h => h)); have HB2 := Lib.hid (t9.keeps HB2.out (fun h => h)); have HR1 := Lib.hid (HR1.out.still t9); have HR2 := Lib.hid (HR2.out.still t9); have HT := Lib.hid (HT.out.trans t9 (fun _ _ h => h)); clear t9) | ((with_reducible refine (HM2.out _ HR2.out).mono ?_); rintro e w8 ⟨rfl, t9⟩; have HB1 := Lib.hid (t9.keeps HB1.out (fun h => h)); have HB2 := Lib.hid (t9.keeps HB2.out (fun h => h)); have HR1 := Lib.hid (HR1.out.still t9); have HR2 := Lib.hid (HR2.out.still t9); have HT := Lib.hid (HT.out.trans t9 (fun _ _ h => h)); clear t9))
    | (go_at_call 14; (with_reducible refine (awake8 _).mono ?_); rintro e w8 ⟨rfl, t9⟩; have HT := Lib.hid (HT.out.trans t9 (fun _ _ h => h)); clear t9)
    | (go_at_call 24; (with_reducible refine (KQ1.out _ HR1.out).mono ?_); rintro e w4 ⟨a4, c4, rfl, hr4, t8⟩; have t9 := t8.trans ((Touch.refl w4 (fun _ => False)).alloc (.cells #[.int .i64 r.kind, .int .i64 3, .slice a4 L1 c4] 39)) (fun _ _ h => h); have HF1 : RowKit.Hid ((w4.alloc (.cells #[.int .i64 r.kind, .int .i64 3, .slice a4 L1 c4] 39)).heap[w4.heap.size]? = some (.cells (f3 r.kind 3 a4 L1 c4) 39 (0, 0))) := Lib.hid (heap_alloc_new w4 _); have HX1 := Lib.hid (hr4.touch ((Touch.refl w4 (fun _ => False)).alloc (.cells #[.int .i64 r.kind, .int .i64 3, .slice a4 L1 c4] 39)) (fun _ _ => .inr (fun h => h))); have HB1 := Lib.hid (t9.keeps HB1.out (fun h => h)); have HB2 := Lib.hid (t9.keeps HB2.out (fun h => h)); have HR1 := Lib.hid (HR1.out.still t9); have HR2 := Lib.hid (HR2.out.still t9); have HT := Lib.hid (HT.out.trans t9 (fun _ _ h => h)); clear t8 hr4; clear t9)
    | (go_at_call 24; (with_reducible refine (KQ2.out _ HR2.out).mono ?_); rintro e w5 ⟨a5, c5, rfl, hr5, t8⟩; have t9 := t8.trans ((Touch.refl w5 (fun _ => False)).alloc (.cells #[.int .i64 s.kind, .int .i64 3, .slice a5 L2 c5] 39)) (fun _ _ h => h); have HF1 := Lib.hid (t9.keeps HF1.out (fun h => h)); have HX1 := Lib.hid (HX1.out.touch t9 (fun _ _ => .inr (fun h => h))); have hx2 := hr5.touch ((Touch.refl w5 (fun _ => False)).alloc (.cells #[.int .i64 s.kind, .int .i64 3, .slice a5 L2 c5] 39)) (fun _ _ => .inr (fun h => h)); obtain ⟨q0, q1, q2⟩ := f3cells_of HF1.out; have s1 := str_row HX1.out; have s2 := str_row hx2; have HB1 := Lib.hid (t9.keeps HB1.out (fun h => h)); have HB2 := Lib.hid (t9.keeps HB2.out (fun h => h)); have HR1 := Lib.hid (HR1.out.still t9); have HR2 := Lib.hid (HR2.out.still t9); have HT := Lib.hid (HT.out.trans t9 (fun _ _ h => h)); clear t8 hr5 hx2; clear t9)
    | (go_at_call 20; (with_reducible refine (KS.out _ HR1.out HR2.out).mono ?_); rintro e w8 ⟨rfl, t9⟩; have HB1 := Lib.hid (t9.keeps HB1.out (fun h => h)); have HB2 := Lib.hid (t9.keeps HB2.out (fun h => h)); have HR1 := Lib.hid (HR1.out.still t9); have HR2 := Lib.hid (HR2.out.still t9); have HT := Lib.hid (HT.out.trans t9 (fun _ _ h => h)); clear q0 q1 q2 s1 s2; clear t9))
    go_ret
    exact ⟨rfl, HT.out⟩
theorem recordApart_holds : Rows.RecordApartSaid := by
  refine recordApart.said fun H enc W base v0 v1 d0 d1 p0 p1 h0 h1 => ?_
  obtain ⟨r, a, cap, rfl, ok, hr⟩ := h0.recD
  obtain ⟨s, a2, cap2, rfl, ok2, hr2⟩ := h1.recD
  exact (apart_walk r a cap s a2 cap2 W ok hr ok2 hr2 (.inr trivial)).mono fun e w' h => ⟨h.1, h.2.under (Nat.le_refl _)⟩
end Go.Proofs.Ytbklngcocbnijaa
