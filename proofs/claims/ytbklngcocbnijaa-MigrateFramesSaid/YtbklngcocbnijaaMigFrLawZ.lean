/- MigrateFrames: the walk. -/
import Derived.Test.YtbklngcocbnijaaMigFrameZ
set_option linter.unusedVariables false
set_option linter.unusedSimpArgs false
namespace Go.Proofs.Ytbklngcocbnijaa
open Go.RowKit

set_option maxRecDepth 20000 in
set_option maxHeartbeats 8000000 in
theorem mframes_bad (r : RecD) (a : Option Addr) (cap : Nat) (ver t : Int) (k2 v2 : Int) (a2 : Option Addr) (cap2 : Nat) (xs : List Nat) (w : World) (ok : RecOk r) (hr : RowK w a r.bs.length cap r.bs) (hk2 : i64 k2) (hy : RowB w a2 xs.length cap2 xs) (hlen : xs.length ≤ 140737488355328) (hl : lightM r = false ∨ lightM r = true ∧ 400 < xs.length) :
    Calls Try.prog 11 #[.agg (rcs r a cap), .int .i64 ver, .int .i64 t, .agg #[.int .i64 k2, .int .i64 v2, .slice a2 xs.length cap2]] w fun e w' => e = .returned (.bool true) ∧ Touch w w' (fun _ => False) := by
  obtain ⟨W1, hW1⟩ : ∃ W, w.alloc (.cells (rcs r a cap) 29) = W := ⟨_, rfl⟩
  obtain ⟨W2, hW2⟩ : ∃ W, W1.alloc (.cells #[.int .i64 k2, .int .i64 v2, .slice a2 xs.length cap2] 39) = W := ⟨_, rfl⟩
  have t1 : Touch w W1 (fun _ => False) := hW1 ▸ (Touch.refl _ _).alloc _
  have t2 : Touch W1 W2 (fun _ => False) := hW2 ▸ (Touch.refl _ _).alloc _
  have HB : RowKit.Hid (W2.heap[w.heap.size]? = some (.cells (rcs r a cap) 29 (0, 0))) := Lib.hid (t2.keeps (hW1 ▸ heap_alloc_new w _) (fun h => h))
  have HF : RowKit.Hid (W2.heap[W1.heap.size]? = some (.cells #[.int .i64 k2, .int .i64 v2, .slice a2 xs.length cap2] 39 (0, 0))) := Lib.hid (hW2 ▸ heap_alloc_new W1 _)
  have HR := Lib.hid ((hr.still t1).still t2)
  have HY := Lib.hid ((hy.touch t1 (fun _ _ => .inr (fun h => h))).touch t2 (fun _ _ => .inr (fun h => h)))
  have HT := Lib.hid (t1.trans t2 (fun _ _ h => h))
  have HIR := Lib.hid infoRec
  have HIF := Lib.hid infoFr
  have HLL : RowKit.Hid (∀ W, Calls Try.prog 29 #[.agg (rcs r a cap)] W fun e w' => e = .returned (.bool (lightM r)) ∧ Touch W w' (fun _ => False)) := Lib.hid (fun W => lightM_any r a cap W)
  have c2 : W2.cell? ⟨W1.heap.size, 2, none⟩ = some (.slice a2 xs.length cap2) := cell_of_cells HF.out 2
  clear hr hy t1 t2 ok hk2
  simp only [rcs] at hW1
  simp only [rcs]
  rcases hl with hl | ⟨hl, hx⟩
  · rw [hl] at HLL
    go_enter Try.func11, Try.ntmps11
    go_wp2_with (first
      | (refine load_rowH 29 (.tmp 4) rfl rfl w.heap.size rfl _ _ _ _ HB.out Try.underlying29 rfl HIR.out ?_)
      | (go_at_call 29; (with_reducible refine (HLL.out _).mono ?_); rintro e w2 ⟨rfl, t9⟩; (try have HB := Lib.hid (t9.keeps HB.out (fun h => h))); (try have HF := Lib.hid (t9.keeps HF.out (fun h => h))); (try have HG := Lib.hid (t9.keeps HG.out (fun h => h))); (try have HZF := Lib.hid (t9.keeps HZF.out (fun h => h))); (try have HX := Lib.hid (t9.keeps HX.out (fun h => h))); (try have HR := Lib.hid (HR.out.still t9)); (try have HY := Lib.hid (HY.out.touch t9 (fun _ _ => .inr (fun h => h)))); (try have RG := Lib.hid (RG.out.touch t9 (fun _ _ => .inr (fun h => h)))); (try have RZ := Lib.hid (RZ.out.touch t9 (fun _ _ => .inr (fun h => h)))); (try have RX := Lib.hid (RX.out.touch t9 (fun _ _ => .inr (fun h => h)))); have HT := Lib.hid (HT.out.trans t9 (fun _ _ h => h)); clear t9; have c2 := cell_of_cells HF.out 2; simp at c2)
      | (go_at_call 30; (with_reducible refine (awake9 _).mono ?_); rintro e w8 ⟨rfl, t9⟩; have HT := Lib.hid (HT.out.trans t9 (fun _ _ h => h)); clear t9))
    go_ret
    exact ⟨rfl, HT.out⟩
  · rw [hl] at HLL
    have hx' : (400 : Int) < xs.length := by omega
    go_enter Try.func11, Try.ntmps11
    go_wp2_with (first
      | (refine load_rowH 29 (.tmp 4) rfl rfl w.heap.size rfl _ _ _ _ HB.out Try.underlying29 rfl HIR.out ?_)
      | (go_at_call 29; (with_reducible refine (HLL.out _).mono ?_); rintro e w2 ⟨rfl, t9⟩; (try have HB := Lib.hid (t9.keeps HB.out (fun h => h))); (try have HF := Lib.hid (t9.keeps HF.out (fun h => h))); (try have HG := Lib.hid (t9.keeps HG.out (fun h => h))); (try have HZF := Lib.hid (t9.keeps HZF.out (fun h => h))); (try have HX := Lib.hid (t9.keeps HX.out (fun h => h))); (try have HR := Lib.hid (HR.out.still t9)); (try have HY := Lib.hid (HY.out.touch t9 (fun _ _ => .inr (fun h => h)))); (try have RG := Lib.hid (RG.out.touch t9 (fun _ _ => .inr (fun h => h)))); (try have RZ := Lib.hid (RZ.out.touch t9 (fun _ _ => .inr (fun h => h)))); (try have RX := Lib.hid (RX.out.touch t9 (fun _ _ => .inr (fun h => h)))); have HT := Lib.hid (HT.out.trans t9 (fun _ _ h => h)); clear t9; have c2 := cell_of_cells HF.out 2; simp at c2)
      | (go_at_call 30; (with_reducible refine (awake9 _).mono ?_); rintro e w8 ⟨rfl, t9⟩; have HT := Lib.hid (HT.out.trans t9 (fun _ _ h => h)); clear t9))
    go_ret
    exact ⟨rfl, HT.out⟩
theorem encK_ok {r : RecD} (h : RecOk r) (v : Int) : i64 (encK r v) := by
  unfold encK; split
  · exact h.kind
  · exact i64_0
theorem encB_less (r : RecD) (v : Int) : (encB r v).length ≤ 1000 := by
  unfold encB; split
  · rename_i he; exact bodyF_le r v (encE_good he).2
  · simp
set_option maxRecDepth 20000 in
set_option maxHeartbeats 16000000 in
theorem mframes_walk (r : RecD) (a : Option Addr) (cap : Nat) (ver t : Int) (k2 v2 : Int) (a2 : Option Addr) (cap2 : Nat) (xs : List Nat) (w : World) (ok : RecOk r) (hr : RowK w a r.bs.length cap r.bs) (hk2 : i64 k2) (hy : RowB w a2 xs.length cap2 xs) (hlen : xs.length ≤ 140737488355328) (hl : lightM r = true) (hx : xs.length ≤ 400) :
    Calls Try.prog 11 #[.agg (rcs r a cap), .int .i64 ver, .int .i64 t, .agg #[.int .i64 k2, .int .i64 v2, .slice a2 xs.length cap2]] w fun e w' => e = .returned (.bool true) ∧ Touch w w' (fun _ => False) := by
  obtain ⟨W1, hW1⟩ : ∃ W, w.alloc (.cells (rcs r a cap) 29) = W := ⟨_, rfl⟩
  obtain ⟨W2, hW2⟩ : ∃ W, W1.alloc (.cells #[.int .i64 k2, .int .i64 v2, .slice a2 xs.length cap2] 39) = W := ⟨_, rfl⟩
  have t1 : Touch w W1 (fun _ => False) := hW1 ▸ (Touch.refl _ _).alloc _
  have t2 : Touch W1 W2 (fun _ => False) := hW2 ▸ (Touch.refl _ _).alloc _
  have HB : RowKit.Hid (W2.heap[w.heap.size]? = some (.cells (rcs r a cap) 29 (0, 0))) := Lib.hid (t2.keeps (hW1 ▸ heap_alloc_new w _) (fun h => h))
  have HF : RowKit.Hid (W2.heap[W1.heap.size]? = some (.cells #[.int .i64 k2, .int .i64 v2, .slice a2 xs.length cap2] 39 (0, 0))) := Lib.hid (hW2 ▸ heap_alloc_new W1 _)
  have HR := Lib.hid ((hr.still t1).still t2)
  have HY := Lib.hid ((hy.touch t1 (fun _ _ => .inr (fun h => h))).touch t2 (fun _ _ => .inr (fun h => h)))
  have HT := Lib.hid (t1.trans t2 (fun _ _ h => h))
  have HIR := Lib.hid infoRec
  have HIF := Lib.hid infoFr
  have HLL : RowKit.Hid (∀ W, Calls Try.prog 29 #[.agg (rcs r a cap)] W fun e w' => e = .returned (.bool (lightM r)) ∧ Touch W w' (fun _ => False)) := Lib.hid (fun W => lightM_any r a cap W)
  have hl4 : r.bs.length ≤ 40 := of_decide_eq_true hl
  have i1 : ¬ (400 : Int) < xs.length := by omega
  obtain ⟨K, hK⟩ : ∃ K, encK r ver = K := ⟨_, rfl⟩
  obtain ⟨V, hV⟩ : ∃ V, encV r ver = V := ⟨_, rfl⟩
  obtain ⟨E, hE⟩ : ∃ E, encE r ver = E := ⟨_, rfl⟩
  obtain ⟨ys, hys⟩ : ∃ ys, encB r ver = ys := ⟨_, rfl⟩
  have KK : RowKit.Hid (i64 K) := Lib.hid (hK ▸ encK_ok ok ver)
  have KY : RowKit.Hid (ys.length ≤ 1000) := Lib.hid (hys ▸ encB_less r ver)
  have KE : RowKit.Hid (∀ W, RowK W a r.bs.length cap r.bs → Calls Try.prog 25 #[.agg (rcs r a cap), .int .i64 ver] W fun e w' => ∃ a' c', e = .returned (.tuple #[.agg #[.int .i64 K, .int .i64 V, .slice a' ys.length c'], .int .i64 E]) ∧ RowB w' a' ys.length c' ys ∧ Touch W w' (fun _ => False)) := Lib.hid (fun W h => by
    refine (renc_any r a cap ver W h ok (by omega)).mono ?_
    rintro e w' ⟨a1, c1, rfl, hf⟩
    rw [hK, hV, hE]
    rw [hys] at hf ⊢
    exact ⟨a1, c1, rfl, (fresh_row hf rfl), hf.2⟩)
  have c2 : W2.cell? ⟨W1.heap.size, 2, none⟩ = some (.slice a2 xs.length cap2) := cell_of_cells HF.out 2
  rw [hl] at HLL
  have HK2 := Lib.hid hk2
  have HL2 := Lib.hid hlen
  clear hr hy t1 t2 ok hk2 hl hl4 hK hV hE hys hlen hx
  simp only [rcs] at hW1
  simp only [rcs]
  go_enter Try.func11, Try.ntmps11
  go_wp2_with (first
    | (refine load_rowH 29 (.tmp 4) rfl rfl w.heap.size rfl _ _ _ _ HB.out Try.underlying29 rfl HIR.out ?_)
    | (refine load_rowH 39 (.tmp 7) rfl rfl W1.heap.size rfl _ _ _ _ HF.out Try.underlying39 rfl HIF.out ?_)
    | (refine load_rowH 39 (.tmp 9) rfl rfl w3.heap.size rfl _ _ _ _ HG.out Try.underlying39 rfl HIF.out ?_)
    | (go_at_call 29; (with_reducible refine (HLL.out _).mono ?_); rintro e w2 ⟨rfl, t9⟩; (try have HB := Lib.hid (t9.keeps HB.out (fun h => h))); (try have HF := Lib.hid (t9.keeps HF.out (fun h => h))); (try have HG := Lib.hid (t9.keeps HG.out (fun h => h))); (try have HZF := Lib.hid (t9.keeps HZF.out (fun h => h))); (try have HX := Lib.hid (t9.keeps HX.out (fun h => h))); (try have HR := Lib.hid (HR.out.still t9)); (try have HY := Lib.hid (HY.out.touch t9 (fun _ _ => .inr (fun h => h)))); (try have RG := Lib.hid (RG.out.touch t9 (fun _ _ => .inr (fun h => h)))); (try have RZ := Lib.hid (RZ.out.touch t9 (fun _ _ => .inr (fun h => h)))); (try have RX := Lib.hid (RX.out.touch t9 (fun _ _ => .inr (fun h => h)))); have HT := Lib.hid (HT.out.trans t9 (fun _ _ h => h)); clear t9; have c2 := cell_of_cells HF.out 2; simp at c2)
    | (go_at_call 25; (with_reducible refine (KE.out _ HR.out).mono ?_); rintro e w3 ⟨aw3, cw3, rfl, ho, t8⟩; obtain ⟨vw3, hvw3⟩ : ∃ W, w3.alloc (.cells #[.int .i64 K, .int .i64 V, .slice aw3 ys.length cw3] 39) = W := ⟨_, rfl⟩; have tA : Touch w3 vw3 (fun _ => False) := hvw3 ▸ (Touch.refl w3 (fun _ => False)).alloc _; have t9 := t8.trans tA (fun _ _ h => h); (try have HB := Lib.hid (t9.keeps HB.out (fun h => h))); (try have HF := Lib.hid (t9.keeps HF.out (fun h => h))); (try have HG := Lib.hid (t9.keeps HG.out (fun h => h))); (try have HZF := Lib.hid (t9.keeps HZF.out (fun h => h))); (try have HX := Lib.hid (t9.keeps HX.out (fun h => h))); (try have HR := Lib.hid (HR.out.still t9)); (try have HY := Lib.hid (HY.out.touch t9 (fun _ _ => .inr (fun h => h)))); (try have RG := Lib.hid (RG.out.touch t9 (fun _ _ => .inr (fun h => h)))); (try have RZ := Lib.hid (RZ.out.touch t9 (fun _ _ => .inr (fun h => h)))); (try have RX := Lib.hid (RX.out.touch t9 (fun _ _ => .inr (fun h => h)))); have HT := Lib.hid (HT.out.trans t9 (fun _ _ h => h)); have HG : RowKit.Hid (vw3.heap[w3.heap.size]? = some (.cells #[.int .i64 K, .int .i64 V, .slice aw3 ys.length cw3] 39 (0, 0))) := Lib.hid (hvw3 ▸ heap_alloc_new w3 _); have RG := Lib.hid (ho.touch tA (fun _ _ => .inr (fun h => h))); clear t8 t9 tA ho))
  clear HLL KE c2 HB HF HG HR
  go_loopw [36] (fun i wr => ∃ k : Nat, k ≤ 2 ∧ i = .int .i64 k ∧ Touch vw3 wr (fun _ => False)) (fun i _ => 2 - (intOf i).toNat)
  case atStart => exact ⟨0, by omega, rfl, Touch.refl _ _⟩
  case round =>
    obtain ⟨k, hk, rfl, ht⟩ := hrel
    by_cases hlt : k < 2
    · have hkI : (k : Int) < 2 := by omega
      have hidx : ∃ GK GV A C zz, (∀ W, (Instr.index 46 (.agg #[.int .i64 K, .int .i64 V, .slice aw3 ys.length cw3, .int .i64 k2, .int .i64 v2, .slice a2 xs.length cap2]) (.int .i64 k)).run Try.prog W = .ok (.agg #[.int .i64 GK, .int .i64 GV, .slice A (List.length zz) C]) W) ∧ RowB vw3 A (List.length zz) C zz ∧ List.length zz ≤ 140737488355328 ∧ i64 GK := by
        have : k = 0 ∨ k = 1 := by omega
        rcases this with rfl | rfl
        · exact ⟨K, V, aw3, cw3, ys, fun W => by rfl, RG.out, by have := KY.out; omega, KK.out⟩
        · exact ⟨k2, v2, a2, cap2, xs, fun W => by rfl, HY.out, HL2.out, HK2.out⟩
      obtain ⟨GK, GV, A, C, zz, hidx, hrz, hnb, hgk⟩ := hidx
      obtain ⟨N, hN⟩ : ∃ n, zz.length = n := ⟨_, rfl⟩
      rw [hN] at hidx hrz hnb
      obtain ⟨wz, hwz⟩ : ∃ W, wr.alloc (.cells #[.int .i64 GK, .int .i64 GV, .slice A N C] 39) = W := ⟨_, rfl⟩
      have tz : Touch wr wz (fun _ => False) := hwz ▸ (Touch.refl _ _).alloc _
      have HZF : RowKit.Hid (wz.heap[wr.heap.size]? = some (.cells #[.int .i64 GK, .int .i64 GV, .slice A N C] 39 (0, 0))) := Lib.hid (hwz ▸ heap_alloc_new wr _)
      have RZ := Lib.hid ((hrz.touch ht (fun _ _ => .inr (fun h => h))).touch tz (fun _ _ => .inr (fun h => h)))
      have HT := Lib.hid (ht.trans tz (fun _ _ h => h))
      obtain ⟨MK, hMK⟩ : ∃ x, mfK GK GV t zz = x := ⟨_, rfl⟩
      obtain ⟨MV, hMV⟩ : ∃ x, mfV GK GV t zz = x := ⟨_, rfl⟩
      obtain ⟨ME, hME⟩ : ∃ x, mfE GK GV t zz = x := ⟨_, rfl⟩
      obtain ⟨mb, hmb⟩ : ∃ x, mfB GK GV t zz = x := ⟨_, rfl⟩
      obtain ⟨M, hM⟩ : ∃ x, mb.length = x := ⟨_, rfl⟩
      have K1 : RowKit.Hid (∀ W, RowB W A N C zz → Calls Try.prog 35 #[.agg #[.int .i64 GK, .int .i64 GV, .slice A N C], .int .i64 t] W fun e w' => ∃ a' c', e = .returned (.tuple #[.agg #[.int .i64 MK, .int .i64 MV, .slice a' M c'], .int .i64 ME]) ∧ RowB w' a' M c' mb ∧ Touch W w' (fun _ => False)) := Lib.hid (fun W h => by
        have := mframe_any GK GV t A C zz W (hN ▸ h) (hN ▸ hnb) hgk
        unfold MFIs at this
        rw [hMK, hMV, hME, hmb, hN, hM] at this
        exact this)
      have K2 : RowKit.Hid (∀ W, RowB W A N C zz → Calls Try.prog 36 #[.agg #[.int .i64 GK, .int .i64 GV, .slice A N C], .int .i64 t] W fun e w' => ∃ a' c', e = .returned (.tuple #[.agg #[.int .i64 MK, .int .i64 MV, .slice a' M c'], .int .i64 ME]) ∧ RowB w' a' M c' mb ∧ Touch W w' (fun _ => False)) := Lib.hid (fun W h => by
        have := rmframe_any GK GV t A C zz W (hN ▸ h) (hN ▸ hnb) hgk
        unfold MFIs at this
        rw [hMK, hMV, hME, hmb, hN, hM] at this
        exact this)
      have KSF : RowKit.Hid (∀ (a3 : Option Addr) (c3 : Nat) (a4 : Option Addr) (c4 : Nat) W, RowB W a3 M c3 mb → RowB W a4 M c4 mb → Calls Try.prog 26 #[.agg #[.int .i64 MK, .int .i64 MV, .slice a3 M c3], .agg #[.int .i64 MK, .int .i64 MV, .slice a4 M c4]] W fun e w' => e = .returned (.bool true) ∧ Touch W w' (fun _ => False)) := Lib.hid (fun a3 c3 a4 c4 W h1 h2 => by have := sameFr_any MK MV a3 M c3 mb MK MV a4 M c4 mb W h1 h2; rwa [show sameFB MK MV mb MK MV mb = true by simp [sameFB, eqB]] at this)
      clear hrz hnb hgk hMK hMV hME hmb hM hN tz ht RG HY KK KY HK2 HL2
      go_wp2_with (first
        | (refine load_rowH 39 (.tmp 12) rfl rfl wr.heap.size rfl _ _ _ _ HZF.out Try.underlying39 rfl HIF.out ?_)
        | (refine load_rowH 39 (.tmp 13) rfl rfl w14.heap.size rfl _ _ _ _ HX.out Try.underlying39 rfl HIF.out ?_)
        | (refine load_rowH 39 (.tmp 15) rfl rfl w16.heap.size rfl _ _ _ _ HX2.out Try.underlying39 rfl HIF.out ?_)
        | (go_at_call 35; (with_reducible refine (K1.out _ RZ.out).mono ?_); rintro e w14 ⟨aw14, cw14, rfl, ho, t8⟩; obtain ⟨vw14, hvw14⟩ : ∃ W, w14.alloc (.cells #[.int .i64 MK, .int .i64 MV, .slice aw14 M cw14] 39) = W := ⟨_, rfl⟩; have tA : Touch w14 vw14 (fun _ => False) := hvw14 ▸ (Touch.refl w14 (fun _ => False)).alloc _; have t9 := t8.trans tA (fun _ _ h => h); (try have HB := Lib.hid (t9.keeps HB.out (fun h => h))); (try have HF := Lib.hid (t9.keeps HF.out (fun h => h))); (try have HG := Lib.hid (t9.keeps HG.out (fun h => h))); (try have HZF := Lib.hid (t9.keeps HZF.out (fun h => h))); (try have HX := Lib.hid (t9.keeps HX.out (fun h => h))); (try have HR := Lib.hid (HR.out.still t9)); (try have HY := Lib.hid (HY.out.touch t9 (fun _ _ => .inr (fun h => h)))); (try have RG := Lib.hid (RG.out.touch t9 (fun _ _ => .inr (fun h => h)))); (try have RZ := Lib.hid (RZ.out.touch t9 (fun _ _ => .inr (fun h => h)))); (try have RX := Lib.hid (RX.out.touch t9 (fun _ _ => .inr (fun h => h)))); have HT := Lib.hid (HT.out.trans t9 (fun _ _ h => h)); have HX : RowKit.Hid (vw14.heap[w14.heap.size]? = some (.cells #[.int .i64 MK, .int .i64 MV, .slice aw14 M cw14] 39 (0, 0))) := Lib.hid (hvw14 ▸ heap_alloc_new w14 _); have RX := Lib.hid (ho.touch tA (fun _ _ => .inr (fun h => h))); clear t8 t9 tA ho)
        | (go_at_call 36; (with_reducible refine (K2.out _ RZ.out).mono ?_); rintro e w16 ⟨aw16, cw16, rfl, ho, t8⟩; obtain ⟨vw16, hvw16⟩ : ∃ W, w16.alloc (.cells #[.int .i64 MK, .int .i64 MV, .slice aw16 M cw16] 39) = W := ⟨_, rfl⟩; have tA : Touch w16 vw16 (fun _ => False) := hvw16 ▸ (Touch.refl w16 (fun _ => False)).alloc _; have t9 := t8.trans tA (fun _ _ h => h); (try have HB := Lib.hid (t9.keeps HB.out (fun h => h))); (try have HF := Lib.hid (t9.keeps HF.out (fun h => h))); (try have HG := Lib.hid (t9.keeps HG.out (fun h => h))); (try have HZF := Lib.hid (t9.keeps HZF.out (fun h => h))); (try have HX := Lib.hid (t9.keeps HX.out (fun h => h))); (try have HR := Lib.hid (HR.out.still t9)); (try have HY := Lib.hid (HY.out.touch t9 (fun _ _ => .inr (fun h => h)))); (try have RG := Lib.hid (RG.out.touch t9 (fun _ _ => .inr (fun h => h)))); (try have RZ := Lib.hid (RZ.out.touch t9 (fun _ _ => .inr (fun h => h)))); (try have RX := Lib.hid (RX.out.touch t9 (fun _ _ => .inr (fun h => h)))); have HT := Lib.hid (HT.out.trans t9 (fun _ _ h => h)); have HX2 : RowKit.Hid (vw16.heap[w16.heap.size]? = some (.cells #[.int .i64 MK, .int .i64 MV, .slice aw16 M cw16] 39 (0, 0))) := Lib.hid (hvw16 ▸ heap_alloc_new w16 _); have RX2 := Lib.hid (ho.touch tA (fun _ _ => .inr (fun h => h))); clear t8 t9 tA ho)
        | (go_at_call 26; (with_reducible refine (KSF.out _ _ _ _ _ RX.out RX2.out).mono ?_); rintro e w27 ⟨rfl, t9⟩; have HT := Lib.hid (HT.out.trans t9 (fun _ _ h => h)); clear t9))
      exact ⟨⟨k + 1, by omega, by go_num, HT.out⟩, by simp [intOf]; omega⟩
    · have hkI : ¬ (k : Int) < 2 := by omega
      have HT := Lib.hid (HT.out.trans ht (fun _ _ h => h))
      go_wp2_with (go_at_call 30; (with_reducible refine (awake9 _).mono ?_); rintro e w8 ⟨rfl, t9⟩; have HT := Lib.hid (HT.out.trans t9 (fun _ _ h => h)); clear t9)
      go_ret
      exact ⟨rfl, HT.out⟩
end Go.Proofs.Ytbklngcocbnijaa
