/- RecordFields: records that are too long. -/
import Derived.Test.YtbklngcocbnijaaRecLaw
import Derived.Test.YtbklngcocbnijaaLoadH
import Derived.Deep.DeepCutAuto
import Derived.Deep.RegionHeld3
set_option linter.unusedVariables false
set_option linter.unusedSimpArgs false
namespace Go.Proofs.Ytbklngcocbnijaa
open Go.RowKit

set_option maxRecDepth 20000 in
set_option maxHeartbeats 16000000 in
theorem fields_bad (r : RecD) (a : Option Addr) (cap : Nat) (q : RecD) (a2 : Option Addr) (cap2 : Nat) (v : Int) (w : World) (ok : RecOk r) (hr : RowK w a r.bs.length cap r.bs) (ok2 : RecOk q) (hr2 : RowK w a2 q.bs.length cap2 q.bs) (hb : lightB r = false ∨ (lightB r = true ∧ lightB q = false)) :
    Calls Try.prog 7 #[.agg (rcs r a cap), .agg (rcs q a2 cap2), .int .i64 v] w fun e w' => e = .returned (.bool true) ∧ Touch w w' (fun _ => False) := by
  obtain ⟨W1, hW1⟩ : ∃ W, w.alloc (.cells (rcs r a cap) 29) = W := ⟨_, rfl⟩
  obtain ⟨W2, hW2⟩ : ∃ W, W1.alloc (.cells (rcs q a2 cap2) 29) = W := ⟨_, rfl⟩
  have t1 : Touch w W1 (fun _ => False) := hW1 ▸ (Touch.refl _ _).alloc _
  have t2 : Touch W1 W2 (fun _ => False) := hW2 ▸ (Touch.refl _ _).alloc _
  have HB1 : RowKit.Hid (W2.heap[w.heap.size]? = some (.cells (rcs r a cap) 29 (0, 0))) := Lib.hid (t2.keeps (hW1 ▸ heap_alloc_new w _) (fun h => h))
  have HB2 : RowKit.Hid (W2.heap[W1.heap.size]? = some (.cells (rcs q a2 cap2) 29 (0, 0))) := Lib.hid (hW2 ▸ heap_alloc_new W1 _)
  have HR1 := Lib.hid ((hr.still t1).still t2)
  have HR2 := Lib.hid ((hr2.still t1).still t2)
  have HT := Lib.hid (t1.trans t2 (fun _ _ h => h))
  have HIR := Lib.hid infoRec
  have HL1 : RowKit.Hid (∀ W, Calls Try.prog 13 #[.agg (rcs r a cap)] W fun e w' => e = .returned (.bool (lightB r)) ∧ Touch W w' (fun _ => False)) := Lib.hid (fun W => light_any r a cap W)
  have HL2 : RowKit.Hid (∀ W, Calls Try.prog 13 #[.agg (rcs q a2 cap2)] W fun e w' => e = .returned (.bool (lightB q)) ∧ Touch W w' (fun _ => False)) := Lib.hid (fun W => light_any q a2 cap2 W)
  simp only [rcs] at hW1 hW2
  simp only [rcs]
  rcases hb with hb | ⟨hb, hb2⟩
  · rw [hb] at HL1
    clear hr hr2 t1 t2 ok ok2 hb
    go_enter Try.func7, Try.ntmps7
    go_wp2_with (first
    | (refine load_rowH 29 (.tmp 3) rfl rfl w.heap.size rfl _ _ _ _ HB1.out Try.underlying29 rfl HIR.out ?_)
    | (refine load_rowH 29 (.tmp 4) rfl rfl W1.heap.size rfl _ _ _ _ HB2.out Try.underlying29 rfl HIR.out ?_)
    | (go_at_call 13; first | ((with_reducible refine (HL1.out _).mono ?_); rintro e w8 ⟨rfl, t9⟩; (try have HB1 := Lib.hid (t9.keeps HB1.out (fun h => h))); (try have HB2 := Lib.hid (t9.keeps HB2.out (fun h => h))); (try have HF8 := Lib.hid (t9.keeps HF8.out (fun h => h))); (try have HF10 := Lib.hid (t9.keeps HF10.out (fun h => h))); (try have HBS := Lib.hid (t9.keeps HBS.out (fun h => h))); (try have HR1 := Lib.hid (HR1.out.still t9)); (try have HR2 := Lib.hid (HR2.out.still t9)); (try have HRS := Lib.hid (HRS.out.still t9)); (try have HX8 := Lib.hid (HX8.out.touch t9 (fun _ _ => .inr (fun h => h)))); (try have HX10 := Lib.hid (HX10.out.touch t9 (fun _ _ => .inr (fun h => h)))); have HT := Lib.hid (HT.out.trans t9 (fun _ _ h => h)); clear t9) | ((with_reducible refine (HL2.out _).mono ?_); rintro e w8 ⟨rfl, t9⟩; (try have HB1 := Lib.hid (t9.keeps HB1.out (fun h => h))); (try have HB2 := Lib.hid (t9.keeps HB2.out (fun h => h))); (try have HF8 := Lib.hid (t9.keeps HF8.out (fun h => h))); (try have HF10 := Lib.hid (t9.keeps HF10.out (fun h => h))); (try have HBS := Lib.hid (t9.keeps HBS.out (fun h => h))); (try have HR1 := Lib.hid (HR1.out.still t9)); (try have HR2 := Lib.hid (HR2.out.still t9)); (try have HRS := Lib.hid (HRS.out.still t9)); (try have HX8 := Lib.hid (HX8.out.touch t9 (fun _ _ => .inr (fun h => h)))); (try have HX10 := Lib.hid (HX10.out.touch t9 (fun _ _ => .inr (fun h => h)))); have HT := Lib.hid (HT.out.trans t9 (fun _ _ h => h)); clear t9))
    | (go_at_call 14; (with_reducible refine (awake8 _).mono ?_); rintro e w8 ⟨rfl, t9⟩; have HT := Lib.hid (HT.out.trans t9 (fun _ _ h => h)); clear t9))
    go_ret
    exact ⟨rfl, HT.out⟩
  · rw [hb] at HL1
    rw [hb2] at HL2
    clear hr hr2 t1 t2 ok ok2 hb hb2
    go_enter Try.func7, Try.ntmps7
    go_wp2_with (first
    | (refine load_rowH 29 (.tmp 3) rfl rfl w.heap.size rfl _ _ _ _ HB1.out Try.underlying29 rfl HIR.out ?_)
    | (refine load_rowH 29 (.tmp 4) rfl rfl W1.heap.size rfl _ _ _ _ HB2.out Try.underlying29 rfl HIR.out ?_)
    | (go_at_call 13; first | ((with_reducible refine (HL1.out _).mono ?_); rintro e w8 ⟨rfl, t9⟩; (try have HB1 := Lib.hid (t9.keeps HB1.out (fun h => h))); (try have HB2 := Lib.hid (t9.keeps HB2.out (fun h => h))); (try have HF8 := Lib.hid (t9.keeps HF8.out (fun h => h))); (try have HF10 := Lib.hid (t9.keeps HF10.out (fun h => h))); (try have HBS := Lib.hid (t9.keeps HBS.out (fun h => h))); (try have HR1 := Lib.hid (HR1.out.still t9)); (try have HR2 := Lib.hid (HR2.out.still t9)); (try have HRS := Lib.hid (HRS.out.still t9)); (try have HX8 := Lib.hid (HX8.out.touch t9 (fun _ _ => .inr (fun h => h)))); (try have HX10 := Lib.hid (HX10.out.touch t9 (fun _ _ => .inr (fun h => h)))); have HT := Lib.hid (HT.out.trans t9 (fun _ _ h => h)); clear t9) | ((with_reducible refine (HL2.out _).mono ?_); rintro e w8 ⟨rfl, t9⟩; (try have HB1 := Lib.hid (t9.keeps HB1.out (fun h => h))); (try have HB2 := Lib.hid (t9.keeps HB2.out (fun h => h))); (try have HF8 := Lib.hid (t9.keeps HF8.out (fun h => h))); (try have HF10 := Lib.hid (t9.keeps HF10.out (fun h => h))); (try have HBS := Lib.hid (t9.keeps HBS.out (fun h => h))); (try have HR1 := Lib.hid (HR1.out.still t9)); (try have HR2 := Lib.hid (HR2.out.still t9)); (try have HRS := Lib.hid (HRS.out.still t9)); (try have HX8 := Lib.hid (HX8.out.touch t9 (fun _ _ => .inr (fun h => h)))); (try have HX10 := Lib.hid (HX10.out.touch t9 (fun _ _ => .inr (fun h => h)))); have HT := Lib.hid (HT.out.trans t9 (fun _ _ h => h)); clear t9))
    | (go_at_call 14; (with_reducible refine (awake8 _).mono ?_); rintro e w8 ⟨rfl, t9⟩; have HT := Lib.hid (HT.out.trans t9 (fun _ _ h => h)); clear t9))
    go_ret
    exact ⟨rfl, HT.out⟩
end Go.Proofs.Ytbklngcocbnijaa
