/- RecordFields, kind 6. -/
import Derived.Test.YtbklngcocbnijaaRecLaw
import Derived.Test.YtbklngcocbnijaaLoadH
import Derived.Deep.DeepCutAuto
import Derived.Deep.RegionHeld3
set_option linter.unusedVariables false
set_option linter.unusedSimpArgs false
namespace Go.Proofs.Ytbklngcocbnijaa
open Go.RowKit

set_option maxRecDepth 20000 in
set_option maxHeartbeats 16000000 in
theorem fields_k6 (r : RecD) (a : Option Addr) (cap : Nat) (q : RecD) (a2 : Option Addr) (cap2 : Nat) (v : Int) (w : World) (ok : RecOk r) (hr : RowK w a r.bs.length cap r.bs) (ok2 : RecOk q) (hr2 : RowK w a2 q.bs.length cap2 q.bs) (l1 : lightB r = true) (l2 : lightB q = true) (hk : r.kind = 6) :
    Calls Try.prog 7 #[.agg (rcs r a cap), .agg (rcs q a2 cap2), .int .i64 v] w fun e w' => e = .returned (.bool true) ∧ Touch w w' (fun _ => False) := by
  obtain ⟨W1, hW1⟩ : ∃ W, w.alloc (.cells (rcs r a cap) 29) = W := ⟨_, rfl⟩
  obtain ⟨W2, hW2⟩ : ∃ W, W1.alloc (.cells (rcs q a2 cap2) 29) = W := ⟨_, rfl⟩
  have t1 : Touch w W1 (fun _ => False) := hW1 ▸ (Touch.refl _ _).alloc _
  have t2 : Touch W1 W2 (fun _ => False) := hW2 ▸ (Touch.refl _ _).alloc _
  have HB1 : RowKit.Hid (W2.heap[w.heap.size]? = some (.cells (rcs r a cap) 29 (0, 0))) := Lib.hid (t2.keeps (hW1 ▸ heap_alloc_new w _) (fun h => h))
  have HB2 : RowKit.Hid (W2.heap[W1.heap.size]? = some (.cells (rcs q a2 cap2) 29 (0, 0))) := Lib.hid (hW2 ▸ heap_alloc_new W1 _)
  have HR1 := Lib.hid ((hr.still t1).still t2)
  have HR2 := Lib.hid ((hr2.still t1).still t2)
  have HT := Lib.hid (t1.trans t2 (fun _ _ h => h))
  have HIR := Lib.hid infoRec
  have HL1 : RowKit.Hid (∀ W, Calls Try.prog 13 #[.agg (rcs r a cap)] W fun e w' => e = .returned (.bool (lightB r)) ∧ Touch W w' (fun _ => False)) := Lib.hid (fun W => light_any r a cap W)
  have HL2 : RowKit.Hid (∀ W, Calls Try.prog 13 #[.agg (rcs q a2 cap2)] W fun e w' => e = .returned (.bool (lightB q)) ∧ Touch W w' (fun _ => False)) := Lib.hid (fun W => light_any q a2 cap2 W)
  have b1 : (r.kind != 1) = true := by rw [hk]; rfl
  have b2 : (r.kind != 2) = true := by rw [hk]; rfl
  have b3 : (r.kind != 3) = true := by rw [hk]; rfl
  have b4 : (r.kind != 4) = true := by rw [hk]; rfl
  have b5 : (r.kind != 5) = true := by rw [hk]; rfl
  have b6 : (r.kind != 6) = false := by rw [hk]; rfl
  obtain ⟨s, hs⟩ : ∃ s : RecD, s = ⟨r.kind, q.t, q.fb, q.fg, q.fs, q.gen, q.bs, q.be, q.un, r.ct⟩ := ⟨_, rfl⟩
  have hps : plainD r = plainD s := by subst hs; unfold plainD; simp [hk]
  have oks : RecOk s := by subst hs; exact ⟨ok.kind, ok2.t, ok2.fb, ok2.fg, ok2.fs, ok2.gen, ok2.bs, ok2.be, ok2.un, ok.ct⟩
  have hsb : s.bs = q.bs := by subst hs; rfl
  have lr : r.bs.length ≤ 100000 := by have : r.bs.length ≤ 40 := of_decide_eq_true l1; omega
  have ls : s.bs.length ≤ 100000 := by rw [hsb]; have : q.bs.length ≤ 40 := of_decide_eq_true l2; omega
  rw [l1] at HL1
  rw [l2] at HL2
  have hpb := plain_body r s hps v
  have eE : encE r v = encE s v := by unfold encE; rw [hpb.2.1]
  have eK : encK r v = encK s v := by unfold encK; rw [eE, hpb.1]
  have eV : encV r v = encV s v := by unfold encV; rw [eE]
  have eB : encB r v = encB s v := by
    unfold encB
    rw [eE]
    by_cases h0 : encE s v = 0
    · rw [if_pos h0, if_pos h0]
      refine hpb.2.2 ?_
      unfold encE at h0
      split at h0
      · split at h0
        · rw [hpb.2.1]; assumption
        · exact absurd h0 (by decide)
      · exact absurd h0 (by decide)
    · rw [if_neg h0, if_neg h0]
  obtain ⟨FE, hFE⟩ : ∃ x, encE s v = x := ⟨_, rfl⟩
  obtain ⟨FK, hFK⟩ : ∃ x, encK s v = x := ⟨_, rfl⟩
  obtain ⟨FV, hFV⟩ : ∃ x, encV s v = x := ⟨_, rfl⟩
  obtain ⟨FB, hFB⟩ : ∃ x, encB s v = x := ⟨_, rfl⟩
  obtain ⟨FL, hFL⟩ : ∃ x, FB.length = x := ⟨_, rfl⟩
  have KE1 : RowKit.Hid (∀ W, RowK W a r.bs.length cap r.bs → Calls Try.prog 24 #[.agg (rcs r a cap), .int .i64 v] W fun e w' => ∃ (a' : Option Addr) (c' : Nat), e = .returned (.tuple #[.agg (f3 FK FV a' FL c'), .int .i64 FE]) ∧ RowB w' a' FL c' FB ∧ Touch W w' (fun _ => False)) := Lib.hid (fun W h => (enc_any r a cap v W h ok).mono (by rintro e w' ⟨a1, c1, rfl, hf⟩; rw [eE, eK, eV, hFE, hFK, hFV]; rw [eB, hFB] at hf ⊢; rw [hFL] at hf ⊢; exact ⟨a1, c1, rfl, hf.row'.2, hf.2⟩))
  have KE2 : RowKit.Hid (∀ W, RowK W a2 s.bs.length cap2 s.bs → Calls Try.prog 24 #[.agg (rcs s a2 cap2), .int .i64 v] W fun e w' => ∃ (a' : Option Addr) (c' : Nat), e = .returned (.tuple #[.agg (f3 FK FV a' FL c'), .int .i64 FE]) ∧ RowB w' a' FL c' FB ∧ Touch W w' (fun _ => False)) := Lib.hid (fun W h => (enc_any s a2 cap2 v W h oks).mono (by rintro e w' ⟨a1, c1, rfl, hf⟩; rw [hFE, hFK, hFV]; rw [hFB] at hf ⊢; rw [hFL] at hf ⊢; exact ⟨a1, c1, rfl, hf.row'.2, hf.2⟩))
  have KS : RowKit.Hid (∀ W, RowK W a r.bs.length cap r.bs → RowK W a2 s.bs.length cap2 s.bs → Calls Try.prog 20 #[.agg (rcs r a cap), .agg (rcs s a2 cap2)] W fun e w' => e = .returned (.bool true) ∧ Touch W w' (fun _ => False)) := Lib.hid (fun W h1 h2 => by have := same_any r a cap s a2 cap2 W h1 lr h2 ls; rwa [(sameR_iff r s).2 hps] at this)
  obtain ⟨M, hM⟩ : ∃ x, mayRB s = x := ⟨_, rfl⟩
  have KM1 : RowKit.Hid (∀ W, RowK W a r.bs.length cap r.bs → Calls Try.prog 18 #[.agg (rcs r a cap)] W fun e w' => e = .returned (.bool M) ∧ Touch W w' (fun _ => False)) := Lib.hid (fun W h => by have := mayR_any r a cap W h; rwa [hpb.2.1, hM] at this)
  have KM2 : RowKit.Hid (∀ W, RowK W a2 s.bs.length cap2 s.bs → Calls Try.prog 18 #[.agg (rcs s a2 cap2)] W fun e w' => e = .returned (.bool M) ∧ Touch W w' (fun _ => False)) := Lib.hid (fun W h => by have := mayR_any s a2 cap2 W h; rwa [hM] at this)
  have KF : RowKit.Hid (∀ (a1 : Option Addr) (c1 : Nat) (a2 : Option Addr) (c2 : Nat) (W : World), RowB W a1 FL c1 FB → RowB W a2 FL c2 FB → Calls Try.prog 26 #[.agg #[.int .i64 FK, .int .i64 FV, .slice a1 FL c1], .agg #[.int .i64 FK, .int .i64 FV, .slice a2 FL c2]] W fun e w' => e = .returned (.bool true) ∧ Touch W w' (fun _ => False)) := Lib.hid (fun a1 c1 a2 c2 W h1 h2 => by have := sameFr_any FK FV a1 FL c1 FB FK FV a2 FL c2 FB W h1 h2; rwa [show sameFB FK FV FB FK FV FB = true by simp [sameFB, eqB]] at this)
  have HS := Lib.hid hs
  have HSB := Lib.hid hsb
  have HIF := Lib.hid infoFr


  clear hr hr2 t1 t2 ok ok2 oks hps hs hsb lr ls l1 l2 hpb eE eK eV eB hFE hFK hFV hFB hFL hM hk
  simp only [rcs] at hW1 hW2
  simp only [rcs]
  go_enter Try.func7, Try.ntmps7
  go_upto_region 3 with (first
    | (refine load_rowH 29 (.tmp 3) rfl rfl w.heap.size rfl _ _ _ _ HB1.out Try.underlying29 rfl HIR.out ?_)
    | (refine load_rowH 29 (.tmp 4) rfl rfl W1.heap.size rfl _ _ _ _ HB2.out Try.underlying29 rfl HIR.out ?_)
    | (go_at_call 13; first | ((with_reducible refine (HL1.out _).mono ?_); rintro e w8 ⟨rfl, t9⟩; (try have HB1 := Lib.hid (t9.keeps HB1.out (fun h => h))); (try have HB2 := Lib.hid (t9.keeps HB2.out (fun h => h))); (try have HF8 := Lib.hid (t9.keeps HF8.out (fun h => h))); (try have HF10 := Lib.hid (t9.keeps HF10.out (fun h => h))); (try have HBS := Lib.hid (t9.keeps HBS.out (fun h => h))); (try have HR1 := Lib.hid (HR1.out.still t9)); (try have HR2 := Lib.hid (HR2.out.still t9)); (try have HRS := Lib.hid (HRS.out.still t9)); (try have HX8 := Lib.hid (HX8.out.touch t9 (fun _ _ => .inr (fun h => h)))); (try have HX10 := Lib.hid (HX10.out.touch t9 (fun _ _ => .inr (fun h => h)))); have HT := Lib.hid (HT.out.trans t9 (fun _ _ h => h)); clear t9) | ((with_reducible refine (HL2.out _).mono ?_); rintro e w8 ⟨rfl, t9⟩; (try have HB1 := Lib.hid (t9.keeps HB1.out (fun h => h))); (try have HB2 := Lib.hid (t9.keeps HB2.out (fun h => h))); (try have HF8 := Lib.hid (t9.keeps HF8.out (fun h => h))); (try have HF10 := Lib.hid (t9.keeps HF10.out (fun h => h))); (try have HBS := Lib.hid (t9.keeps HBS.out (fun h => h))); (try have HR1 := Lib.hid (HR1.out.still t9)); (try have HR2 := Lib.hid (HR2.out.still t9)); (try have HRS := Lib.hid (HRS.out.still t9)); (try have HX8 := Lib.hid (HX8.out.touch t9 (fun _ _ => .inr (fun h => h)))); (try have HX10 := Lib.hid (HX10.out.touch t9 (fun _ _ => .inr (fun h => h)))); have HT := Lib.hid (HT.out.trans t9 (fun _ _ h => h)); clear t9))
    | (go_at_call 14; (with_reducible refine (awake8 _).mono ?_); rintro e w8 ⟨rfl, t9⟩; have HT := Lib.hid (HT.out.trans t9 (fun _ _ h => h)); clear t9))
  clear HL1 HL2
  obtain ⟨k0, k1, k2, k3, k4, k5, k6, k7, k8, k9, k10, k11, k12, k13⟩ := rcells_of HB1.out
  obtain ⟨j0, j1, j2, j3, j4, j5, j6, j7, j8, j9, j10, j11, j12, j13⟩ := rcells_of HB2.out
  have hs3 : w.heap.size < w8.heap.size := heap_lt HB1.out
  have hs4 : W1.heap.size < w8.heap.size := heap_lt HB2.out
  go_upto_region 7 with fail
  go_cut [] (fun wx => wx = (w8.alloc (.cells #[.int .i64 r.kind, .int .u32 q.t.src, .int .u32 q.t.dst, .int .i64 q.t.proto, .int .i64 q.t.sport, .int .i64 q.t.dport, .int .i64 q.fb, .int .i64 q.fg, .int .i64 q.fs, .int .i64 q.gen, .slice a2 q.bs.length cap2, .int .i64 r.be, .int .i64 r.un, .int .i64 r.ct] 29)).drew)
  case first =>
    go_wp2_with fail
    go_region
    all_goals (go_wp2_with fail; go_meet; rfl)
  case rest =>
  subst hcut
  go_upto_region 14 with fail
  obtain ⟨W9, hW9⟩ : ∃ W, w8.alloc (.cells (rcs s a2 cap2) 29) = W := ⟨_, rfl⟩
  have hb9 : W9.heap[w8.heap.size]? = some (.cells (rcs s a2 cap2) 29 (0, 0)) := hW9 ▸ heap_alloc_new w8 _
  have t9 : Touch w8 W9.drew (fun _ => False) := (hW9 ▸ (Touch.refl w8 (fun _ => False)).alloc _ : Touch w8 W9 (fun _ => False)).drew
  have HBS : RowKit.Hid (W9.drew.heap[w8.heap.size]? = some (.cells (rcs s a2 cap2) 29 (0, 0))) := Lib.hid hb9
  (try have HB1 := Lib.hid (t9.keeps HB1.out (fun h => h))); (try have HB2 := Lib.hid (t9.keeps HB2.out (fun h => h))); (try have HF8 := Lib.hid (t9.keeps HF8.out (fun h => h))); (try have HF10 := Lib.hid (t9.keeps HF10.out (fun h => h))); (try have HBS := Lib.hid (t9.keeps HBS.out (fun h => h))); (try have HR1 := Lib.hid (HR1.out.still t9)); (try have HR2 := Lib.hid (HR2.out.still t9)); (try have HRS := Lib.hid (HRS.out.still t9)); (try have HX8 := Lib.hid (HX8.out.touch t9 (fun _ _ => .inr (fun h => h)))); (try have HX10 := Lib.hid (HX10.out.touch t9 (fun _ _ => .inr (fun h => h)))); have HT := Lib.hid (HT.out.trans t9 (fun _ _ h => h))
  have HRS : RowKit.Hid (RowK W9.drew a2 s.bs.length cap2 s.bs) := Lib.hid (by rw [HSB.out]; exact HR2.out)
  rw [HS.out] at hW9
  simp only [rcs] at hW9
  rw [hW9]
  clear hW9 hb9 t9 k0 k1 k2 k3 k4 k5 k6 k7 k8 k9 k10 k11 k12 k13 j0 j1 j2 j3 j4 j5 j6 j7 j8 j9 j10 j11 j12 j13 hs3 hs4 b1 b2 b3 b4 b5 b6 HS HSB hW1 hW2
  go_upto_region 16 with (first
    | (refine wpList_load_row rfl 29 (.tmp 3) rfl w.heap.size rfl _ _ _ _ HB1.out Try.underlying29 rfl HIR.out ?_)
    | (refine wpList_load_row rfl 29 (.tmp 7) rfl w8.heap.size rfl _ _ _ _ HBS.out Try.underlying29 rfl HIR.out ?_)
    | (go_at_call 24; (with_reducible refine (KE1.out _ HR1.out).mono ?_); rintro e y8 ⟨a8, c8, rfl, hx, t8⟩; obtain ⟨v8, hv8⟩ : ∃ W, y8.alloc (.cells #[.int .i64 FK, .int .i64 FV, .slice a8 FL c8] 39) = W := ⟨_, rfl⟩; have tA : Touch y8 v8 (fun _ => False) := hv8 ▸ (Touch.refl y8 (fun _ => False)).alloc (.cells #[.int .i64 FK, .int .i64 FV, .slice a8 FL c8] 39); have t9 := t8.trans tA (fun _ _ h => h); (try have HB1 := Lib.hid (t9.keeps HB1.out (fun h => h))); (try have HB2 := Lib.hid (t9.keeps HB2.out (fun h => h))); (try have HF8 := Lib.hid (t9.keeps HF8.out (fun h => h))); (try have HF10 := Lib.hid (t9.keeps HF10.out (fun h => h))); (try have HBS := Lib.hid (t9.keeps HBS.out (fun h => h))); (try have HR1 := Lib.hid (HR1.out.still t9)); (try have HR2 := Lib.hid (HR2.out.still t9)); (try have HRS := Lib.hid (HRS.out.still t9)); (try have HX8 := Lib.hid (HX8.out.touch t9 (fun _ _ => .inr (fun h => h)))); (try have HX10 := Lib.hid (HX10.out.touch t9 (fun _ _ => .inr (fun h => h)))); have HT := Lib.hid (HT.out.trans t9 (fun _ _ h => h)); have HF8 : RowKit.Hid (v8.heap[y8.heap.size]? = some (.cells (f3 FK FV a8 FL c8) 39 (0, 0))) := Lib.hid (hv8 ▸ heap_alloc_new y8 _); have HX8 := Lib.hid (hx.touch tA (fun _ _ => .inr (fun h => h))); clear t8 t9 tA hx; simp only [f3])
    | (go_at_call 24; (with_reducible refine (KE2.out _ HRS.out).mono ?_); rintro e y10 ⟨a10, c10, rfl, hx, t8⟩; obtain ⟨v10, hv10⟩ : ∃ W, y10.alloc (.cells #[.int .i64 FK, .int .i64 FV, .slice a10 FL c10] 39) = W := ⟨_, rfl⟩; have tA : Touch y10 v10 (fun _ => False) := hv10 ▸ (Touch.refl y10 (fun _ => False)).alloc (.cells #[.int .i64 FK, .int .i64 FV, .slice a10 FL c10] 39); have t9 := t8.trans tA (fun _ _ h => h); (try have HB1 := Lib.hid (t9.keeps HB1.out (fun h => h))); (try have HB2 := Lib.hid (t9.keeps HB2.out (fun h => h))); (try have HF8 := Lib.hid (t9.keeps HF8.out (fun h => h))); (try have HF10 := Lib.hid (t9.keeps HF10.out (fun h => h))); (try have HBS := Lib.hid (t9.keeps HBS.out (fun h => h))); (try have HR1 := Lib.hid (HR1.out.still t9)); (try have HR2 := Lib.hid (HR2.out.still t9)); (try have HRS := Lib.hid (HRS.out.still t9)); (try have HX8 := Lib.hid (HX8.out.touch t9 (fun _ _ => .inr (fun h => h)))); (try have HX10 := Lib.hid (HX10.out.touch t9 (fun _ _ => .inr (fun h => h)))); have HT := Lib.hid (HT.out.trans t9 (fun _ _ h => h)); have HF10 : RowKit.Hid (v10.heap[y10.heap.size]? = some (.cells (f3 FK FV a10 FL c10) 39 (0, 0))) := Lib.hid (hv10 ▸ heap_alloc_new y10 _); have HX10 := Lib.hid (hx.touch tA (fun _ _ => .inr (fun h => h))); clear t8 t9 tA hx; simp only [f3]))
  have t9 := (Touch.refl v10 (fun _ => False)).drew
  (try have HB1 := Lib.hid (t9.keeps HB1.out (fun h => h))); (try have HB2 := Lib.hid (t9.keeps HB2.out (fun h => h))); (try have HF8 := Lib.hid (t9.keeps HF8.out (fun h => h))); (try have HF10 := Lib.hid (t9.keeps HF10.out (fun h => h))); (try have HBS := Lib.hid (t9.keeps HBS.out (fun h => h))); (try have HR1 := Lib.hid (HR1.out.still t9)); (try have HR2 := Lib.hid (HR2.out.still t9)); (try have HRS := Lib.hid (HRS.out.still t9)); (try have HX8 := Lib.hid (HX8.out.touch t9 (fun _ _ => .inr (fun h => h)))); (try have HX10 := Lib.hid (HX10.out.touch t9 (fun _ _ => .inr (fun h => h)))); have HT := Lib.hid (HT.out.trans t9 (fun _ _ h => h))
  clear t9 KE1 KE2
  simp only [rcs] at KS KM1 KM2
  go_region_held3 (fun w' => (w'.cell? ⟨w.heap.size, 0, none⟩ = some (.int .i64 r.kind) ∧ w'.cell? ⟨w.heap.size, 1, none⟩ = some (.int .u32 r.t.src) ∧ w'.cell? ⟨w.heap.size, 2, none⟩ = some (.int .u32 r.t.dst) ∧ w'.cell? ⟨w.heap.size, 3, none⟩ = some (.int .i64 r.t.proto) ∧ w'.cell? ⟨w.heap.size, 4, none⟩ = some (.int .i64 r.t.sport) ∧ w'.cell? ⟨w.heap.size, 5, none⟩ = some (.int .i64 r.t.dport) ∧ w'.cell? ⟨w.heap.size, 6, none⟩ = some (.int .i64 r.fb) ∧ w'.cell? ⟨w.heap.size, 7, none⟩ = some (.int .i64 r.fg) ∧ w'.cell? ⟨w.heap.size, 8, none⟩ = some (.int .i64 r.fs) ∧ w'.cell? ⟨w.heap.size, 9, none⟩ = some (.int .i64 r.gen) ∧ w'.cell? ⟨w.heap.size, 10, none⟩ = some (.slice a r.bs.length cap) ∧ w'.cell? ⟨w.heap.size, 11, none⟩ = some (.int .i64 r.be) ∧ w'.cell? ⟨w.heap.size, 12, none⟩ = some (.int .i64 r.un) ∧ w'.cell? ⟨w.heap.size, 13, none⟩ = some (.int .i64 r.ct)) ∧ (w'.cell? ⟨w8.heap.size, 0, none⟩ = some (.int .i64 s.kind) ∧ w'.cell? ⟨w8.heap.size, 1, none⟩ = some (.int .u32 s.t.src) ∧ w'.cell? ⟨w8.heap.size, 2, none⟩ = some (.int .u32 s.t.dst) ∧ w'.cell? ⟨w8.heap.size, 3, none⟩ = some (.int .i64 s.t.proto) ∧ w'.cell? ⟨w8.heap.size, 4, none⟩ = some (.int .i64 s.t.sport) ∧ w'.cell? ⟨w8.heap.size, 5, none⟩ = some (.int .i64 s.t.dport) ∧ w'.cell? ⟨w8.heap.size, 6, none⟩ = some (.int .i64 s.fb) ∧ w'.cell? ⟨w8.heap.size, 7, none⟩ = some (.int .i64 s.fg) ∧ w'.cell? ⟨w8.heap.size, 8, none⟩ = some (.int .i64 s.fs) ∧ w'.cell? ⟨w8.heap.size, 9, none⟩ = some (.int .i64 s.gen) ∧ w'.cell? ⟨w8.heap.size, 10, none⟩ = some (.slice a2 s.bs.length cap2) ∧ w'.cell? ⟨w8.heap.size, 11, none⟩ = some (.int .i64 s.be) ∧ w'.cell? ⟨w8.heap.size, 12, none⟩ = some (.int .i64 s.un) ∧ w'.cell? ⟨w8.heap.size, 13, none⟩ = some (.int .i64 s.ct)) ∧ (w'.cell? ⟨y8.heap.size, 0, none⟩ = some (.int .i64 FK) ∧ w'.cell? ⟨y8.heap.size, 1, none⟩ = some (.int .i64 FV) ∧ w'.cell? ⟨y8.heap.size, 2, none⟩ = some (.slice a8 FL c8)) ∧ (w'.cell? ⟨y10.heap.size, 0, none⟩ = some (.int .i64 FK) ∧ w'.cell? ⟨y10.heap.size, 1, none⟩ = some (.int .i64 FV) ∧ w'.cell? ⟨y10.heap.size, 2, none⟩ = some (.slice a10 FL c10)))
    (first | (with_reducible exact ⟨rcells_of HB1.out, rcells_of HBS.out, f3cells_of HF8.out, f3cells_of HF10.out⟩) | go_keep)
    (first
    | (go_at_call 20; (with_reducible refine (KS.out _ HR1.out HRS.out).mono ?_); rintro e w20 ⟨rfl, t9⟩; (try have HB1 := Lib.hid (t9.keeps HB1.out (fun h => h))); (try have HB2 := Lib.hid (t9.keeps HB2.out (fun h => h))); (try have HF8 := Lib.hid (t9.keeps HF8.out (fun h => h))); (try have HF10 := Lib.hid (t9.keeps HF10.out (fun h => h))); (try have HBS := Lib.hid (t9.keeps HBS.out (fun h => h))); (try have HR1 := Lib.hid (HR1.out.still t9)); (try have HR2 := Lib.hid (HR2.out.still t9)); (try have HRS := Lib.hid (HRS.out.still t9)); (try have HX8 := Lib.hid (HX8.out.touch t9 (fun _ _ => .inr (fun h => h)))); (try have HX10 := Lib.hid (HX10.out.touch t9 (fun _ _ => .inr (fun h => h)))); have HT := Lib.hid (HT.out.trans t9 (fun _ _ h => h)); clear t9)
    | (go_at_call 18; first | ((with_reducible refine (KM1.out _ HR1.out).mono ?_); rintro e w21 ⟨rfl, t9⟩; (try have HB1 := Lib.hid (t9.keeps HB1.out (fun h => h))); (try have HB2 := Lib.hid (t9.keeps HB2.out (fun h => h))); (try have HF8 := Lib.hid (t9.keeps HF8.out (fun h => h))); (try have HF10 := Lib.hid (t9.keeps HF10.out (fun h => h))); (try have HBS := Lib.hid (t9.keeps HBS.out (fun h => h))); (try have HR1 := Lib.hid (HR1.out.still t9)); (try have HR2 := Lib.hid (HR2.out.still t9)); (try have HRS := Lib.hid (HRS.out.still t9)); (try have HX8 := Lib.hid (HX8.out.touch t9 (fun _ _ => .inr (fun h => h)))); (try have HX10 := Lib.hid (HX10.out.touch t9 (fun _ _ => .inr (fun h => h)))); have HT := Lib.hid (HT.out.trans t9 (fun _ _ h => h)); clear t9) | ((with_reducible refine (KM2.out _ HRS.out).mono ?_); rintro e w22 ⟨rfl, t9⟩; (try have HB1 := Lib.hid (t9.keeps HB1.out (fun h => h))); (try have HB2 := Lib.hid (t9.keeps HB2.out (fun h => h))); (try have HF8 := Lib.hid (t9.keeps HF8.out (fun h => h))); (try have HF10 := Lib.hid (t9.keeps HF10.out (fun h => h))); (try have HBS := Lib.hid (t9.keeps HBS.out (fun h => h))); (try have HR1 := Lib.hid (HR1.out.still t9)); (try have HR2 := Lib.hid (HR2.out.still t9)); (try have HRS := Lib.hid (HRS.out.still t9)); (try have HX8 := Lib.hid (HX8.out.touch t9 (fun _ _ => .inr (fun h => h)))); (try have HX10 := Lib.hid (HX10.out.touch t9 (fun _ _ => .inr (fun h => h)))); have HT := Lib.hid (HT.out.trans t9 (fun _ _ h => h)); clear t9))
    | (go_at_call 26; (with_reducible refine (KF.out _ _ _ _ _ HX8.out HX10.out).mono ?_); rintro e w23 ⟨rfl, t9⟩; (try have HB1 := Lib.hid (t9.keeps HB1.out (fun h => h))); (try have HB2 := Lib.hid (t9.keeps HB2.out (fun h => h))); (try have HF8 := Lib.hid (t9.keeps HF8.out (fun h => h))); (try have HF10 := Lib.hid (t9.keeps HF10.out (fun h => h))); (try have HBS := Lib.hid (t9.keeps HBS.out (fun h => h))); (try have HR1 := Lib.hid (HR1.out.still t9)); (try have HR2 := Lib.hid (HR2.out.still t9)); (try have HRS := Lib.hid (HRS.out.still t9)); (try have HX8 := Lib.hid (HX8.out.touch t9 (fun _ _ => .inr (fun h => h)))); (try have HX10 := Lib.hid (HX10.out.touch t9 (fun _ _ => .inr (fun h => h)))); have HT := Lib.hid (HT.out.trans t9 (fun _ _ h => h)); clear t9)
    | (go_at_call 14; (with_reducible refine (awake8 _).mono ?_); rintro e w24 ⟨rfl, t9⟩; (try have HB1 := Lib.hid (t9.keeps HB1.out (fun h => h))); (try have HB2 := Lib.hid (t9.keeps HB2.out (fun h => h))); (try have HF8 := Lib.hid (t9.keeps HF8.out (fun h => h))); (try have HF10 := Lib.hid (t9.keeps HF10.out (fun h => h))); (try have HBS := Lib.hid (t9.keeps HBS.out (fun h => h))); (try have HR1 := Lib.hid (HR1.out.still t9)); (try have HR2 := Lib.hid (HR2.out.still t9)); (try have HRS := Lib.hid (HRS.out.still t9)); (try have HX8 := Lib.hid (HX8.out.touch t9 (fun _ _ => .inr (fun h => h)))); (try have HX10 := Lib.hid (HX10.out.touch t9 (fun _ _ => .inr (fun h => h)))); have HT := Lib.hid (HT.out.trans t9 (fun _ _ h => h)); clear t9))
  all_goals (go_wp2_with fail; go_ret; exact ⟨rfl, HT.out⟩)
end Go.Proofs.Ytbklngcocbnijaa
