/- RecordEncodes answers true for any record and any number: Encode and the reference's Encode tell the same. No condition. -/
import Derived.Test.YtbklngcocbnijaaRecREnc3Z
import Derived.Test.YtbklngcocbnijaaRecLawZ
import Derived.Test.YtbklngcocbnijaaGAZ
import Derived.Test.YtbklngcocbnijaaFrRecordEncodesZ
set_option linter.unusedVariables false
set_option linter.unusedSimpArgs false
namespace Go.Proofs.Ytbklngcocbnijaa
open Go.RowKit

set_option maxRecDepth 20000 in
set_option maxHeartbeats 8000000 in
theorem encodes_walk (r : RecD) (a : Option Addr) (cap : Nat) (v : Int) (w : World) (ok : RecOk r) (hr : RowK w a r.bs.length cap r.bs) :
    Calls Try.prog 4 #[.agg (rcs r a cap), .int .i64 v] w fun e w' => e = .returned (.bool true) ∧ Touch w w' (fun _ => False) := by
  obtain ⟨W1, hW1⟩ : ∃ W, w.alloc (.cells (rcs r a cap) 29) = W := ⟨_, rfl⟩
  have t1 : Touch w W1 (fun _ => False) := hW1 ▸ (Touch.refl _ _).alloc _
  have HB : RowKit.Hid (W1.heap[w.heap.size]? = some (.cells (rcs r a cap) 29 (0, 0))) := Lib.hid (hW1 ▸ heap_alloc_new w _)
  have HR := Lib.hid (hr.still t1)
  have HT := Lib.hid t1
  have HIR := Lib.hid infoRec
  have HIF := Lib.hid infoFr
  have HLL : RowKit.Hid (∀ W, Calls Try.prog 13 #[.agg (rcs r a cap)] W fun e w' => e = .returned (.bool (lightB r)) ∧ Touch W w' (fun _ => False)) := Lib.hid (fun W => light_any r a cap W)
  obtain ⟨K, hK⟩ : ∃ K, encK r v = K := ⟨_, rfl⟩
  obtain ⟨V, hV⟩ : ∃ V, encV r v = V := ⟨_, rfl⟩
  obtain ⟨E, hE⟩ : ∃ E, encE r v = E := ⟨_, rfl⟩
  obtain ⟨ys, hys⟩ : ∃ ys, encB r v = ys := ⟨_, rfl⟩
  obtain ⟨L, hL⟩ : ∃ n, ys.length = n := ⟨_, rfl⟩
  have KE1 : RowKit.Hid (∀ W, RowK W a r.bs.length cap r.bs → Calls Try.prog 24 #[.agg (rcs r a cap), .int .i64 v] W fun e w' => ∃ a' c', e = .returned (.tuple #[.agg #[.int .i64 K, .int .i64 V, .slice a' L c'], .int .i64 E]) ∧ RowB w' a' L c' ys ∧ Touch W w' (fun _ => False)) := Lib.hid (fun W h => by
    refine (enc_any r a cap v W h ok).mono ?_
    rintro e w' ⟨a1, c1, rfl, hf⟩
    rw [hK, hV, hE]
    rw [hys] at hf ⊢
    rw [hL] at hf ⊢
    exact ⟨a1, c1, rfl, (fresh_row hf hL), hf.2⟩)
  have KE2 : RowKit.Hid (r.bs.length ≤ 100000 → ∀ W, RowK W a r.bs.length cap r.bs → Calls Try.prog 25 #[.agg (rcs r a cap), .int .i64 v] W fun e w' => ∃ a' c', e = .returned (.tuple #[.agg #[.int .i64 K, .int .i64 V, .slice a' L c'], .int .i64 E]) ∧ RowB w' a' L c' ys ∧ Touch W w' (fun _ => False)) := Lib.hid (fun hl W h => by
    refine (renc_any r a cap v W h ok hl).mono ?_
    rintro e w' ⟨a1, c1, rfl, hf⟩
    rw [hK, hV, hE]
    rw [hys] at hf ⊢
    rw [hL] at hf ⊢
    exact ⟨a1, c1, rfl, (fresh_row hf hL), hf.2⟩)
  have KSF : RowKit.Hid (∀ (a3 : Option Addr) (c3 : Nat) (a2 : Option Addr) (c2 : Nat) W, RowB W a3 L c3 ys → RowB W a2 L c2 ys → Calls Try.prog 26 #[.agg #[.int .i64 K, .int .i64 V, .slice a3 L c3], .agg #[.int .i64 K, .int .i64 V, .slice a2 L c2]] W fun e w' => e = .returned (.bool true) ∧ Touch W w' (fun _ => False)) := Lib.hid (fun a3 c3 a2 c2 W h1 h2 => by have := sameFr_any K V a3 L c3 ys K V a2 L c2 ys W h1 h2; rwa [show sameFB K V ys K V ys = true by simp [sameFB, eqB]] at this)
  clear hr t1 ok hK hV hE hys hL
  simp only [rcs] at hW1
  simp only [rcs]
  cases hl : lightB r with
  | false =>
    rw [hl] at HLL
    go_enter Try.func4, Try.ntmps4
    go_wp2_with (first
      | (refine load_rowG rfl 29 (.tmp 2) rfl w.heap.size rfl _ _ _ _ HB.out Try.underlying29 rfl HIR.out ?_)
      | (go_at_call 13; (with_reducible refine (HLL.out _).mono ?_); rintro e w2 ⟨rfl, t9⟩; have HT := Lib.hid (HT.out.trans t9 (fun _ _ h => h)); clear t9)
      | (go_at_call 14; (with_reducible refine (awake8 _).mono ?_); rintro e w8 ⟨rfl, t9⟩; have HT := Lib.hid (HT.out.trans t9 (fun _ _ h => h)); clear t9))
    go_ret
    exact ⟨rfl, HT.out⟩
  | true =>
    rw [hl] at HLL
    have hl4 : r.bs.length ≤ 40 := of_decide_eq_true hl
    have KE3 := Lib.hid (KE2.out (by omega))
    clear KE2 hl hl4
    go_enter Try.func4, Try.ntmps4
    go_wp2_with (first
      | (refine load_rowG rfl 29 (.tmp 2) rfl w.heap.size rfl _ _ _ _ HB.out Try.underlying29 rfl HIR.out ?_)
      | (refine load_rowG rfl 39 (.tmp 5) rfl w16.heap.size rfl _ _ _ _ HF.out Try.underlying39 rfl HIF.out ?_)
      | (refine load_rowG rfl 39 (.tmp 7) rfl w22.heap.size rfl _ _ _ _ HG.out Try.underlying39 rfl HIF.out ?_)
      | (go_at_call 13; (with_reducible refine (HLL.out _).mono ?_); rintro e w2 ⟨rfl, t9⟩; (try have HB := Lib.hid (t9.keeps HB.out (fun h => h))); (try have HF := Lib.hid (t9.keeps HF.out (fun h => h))); (try have HG := Lib.hid (t9.keeps HG.out (fun h => h))); (try have HR := Lib.hid (HR.out.still t9)); (try have RF := Lib.hid (RF.out.touch t9 (fun _ _ => .inr (fun h => h)))); (try have RG := Lib.hid (RG.out.touch t9 (fun _ _ => .inr (fun h => h)))); have HT := Lib.hid (HT.out.trans t9 (fun _ _ h => h)); clear t9)
      | (go_at_call 24; (with_reducible refine (KE1.out _ HR.out).mono ?_); rintro e w16 ⟨a16, c16, rfl, ho, t8⟩; obtain ⟨v16, hv16⟩ : ∃ W, w16.alloc (.cells #[.int .i64 K, .int .i64 V, .slice a16 L c16] 39) = W := ⟨_, rfl⟩; have tA : Touch w16 v16 (fun _ => False) := hv16 ▸ (Touch.refl w16 (fun _ => False)).alloc _; have t9 := t8.trans tA (fun _ _ h => h); (try have HB := Lib.hid (t9.keeps HB.out (fun h => h))); (try have HF := Lib.hid (t9.keeps HF.out (fun h => h))); (try have HG := Lib.hid (t9.keeps HG.out (fun h => h))); (try have HR := Lib.hid (HR.out.still t9)); (try have RF := Lib.hid (RF.out.touch t9 (fun _ _ => .inr (fun h => h)))); (try have RG := Lib.hid (RG.out.touch t9 (fun _ _ => .inr (fun h => h)))); have HT := Lib.hid (HT.out.trans t9 (fun _ _ h => h)); have HF : RowKit.Hid (v16.heap[w16.heap.size]? = some (.cells #[.int .i64 K, .int .i64 V, .slice a16 L c16] 39 (0, 0))) := Lib.hid (hv16 ▸ heap_alloc_new w16 _); have RF := Lib.hid (ho.touch tA (fun _ _ => .inr (fun h => h))); clear t8 t9 tA ho)
      | (go_at_call 25; (with_reducible refine (KE3.out _ HR.out).mono ?_); rintro e w22 ⟨a22, c22, rfl, ho, t8⟩; obtain ⟨v22, hv22⟩ : ∃ W, w22.alloc (.cells #[.int .i64 K, .int .i64 V, .slice a22 L c22] 39) = W := ⟨_, rfl⟩; have tA : Touch w22 v22 (fun _ => False) := hv22 ▸ (Touch.refl w22 (fun _ => False)).alloc _; have t9 := t8.trans tA (fun _ _ h => h); (try have HB := Lib.hid (t9.keeps HB.out (fun h => h))); (try have HF := Lib.hid (t9.keeps HF.out (fun h => h))); (try have HG := Lib.hid (t9.keeps HG.out (fun h => h))); (try have HR := Lib.hid (HR.out.still t9)); (try have RF := Lib.hid (RF.out.touch t9 (fun _ _ => .inr (fun h => h)))); (try have RG := Lib.hid (RG.out.touch t9 (fun _ _ => .inr (fun h => h)))); have HT := Lib.hid (HT.out.trans t9 (fun _ _ h => h)); have HG : RowKit.Hid (v22.heap[w22.heap.size]? = some (.cells #[.int .i64 K, .int .i64 V, .slice a22 L c22] 39 (0, 0))) := Lib.hid (hv22 ▸ heap_alloc_new w22 _); have RG := Lib.hid (ho.touch tA (fun _ _ => .inr (fun h => h))); clear t8 t9 tA ho)
      | (go_at_call 26; (with_reducible refine (KSF.out _ _ _ _ _ RF.out RG.out).mono ?_); rintro e w27 ⟨rfl, t9⟩; (try have HB := Lib.hid (t9.keeps HB.out (fun h => h))); (try have HF := Lib.hid (t9.keeps HF.out (fun h => h))); (try have HG := Lib.hid (t9.keeps HG.out (fun h => h))); (try have HR := Lib.hid (HR.out.still t9)); (try have RF := Lib.hid (RF.out.touch t9 (fun _ _ => .inr (fun h => h)))); (try have RG := Lib.hid (RG.out.touch t9 (fun _ _ => .inr (fun h => h)))); have HT := Lib.hid (HT.out.trans t9 (fun _ _ h => h)); clear t9)
      | (go_at_call 14; (with_reducible refine (awake8 _).mono ?_); rintro e w8 ⟨rfl, t9⟩; have HT := Lib.hid (HT.out.trans t9 (fun _ _ h => h)); clear t9))
    go_ret
    exact ⟨rfl, HT.out⟩
theorem recordEncodes_holds : Rows.RecordEncodesSaid := by
  refine recordEncodes.said fun H enc W base v0 v1 d0 d1 p0 p1 h0 h1 => ?_
  obtain ⟨r, a, cap, rfl, ok, hr⟩ := h0.recD
  obtain ⟨v, rfl, _⟩ := h1.i64 Try.underlying3
  exact (encodes_walk r a cap v W ok hr).mono fun e w' h => ⟨h.1, h.2.under (Nat.le_refl _)⟩
end Go.Proofs.Ytbklngcocbnijaa
