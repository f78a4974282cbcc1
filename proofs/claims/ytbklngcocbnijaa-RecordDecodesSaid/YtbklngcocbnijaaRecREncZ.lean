/- Records: what the reference's Encode answers. -/
import Derived.Test.YtbklngcocbnijaaRecRTbZ
import Derived.Test.YtbklngcocbnijaaRecEncZ
import Derived.Test.YtbklngcocbnijaaRMigZ
import Derived.Test.YtbklngcocbnijaaGAZ
import Derived.Deep.MidRow
set_option linter.unusedVariables false
set_option linter.unusedSimpArgs false
namespace Go.Proofs.Ytbklngcocbnijaa
open Go.RowKit

set_option maxRecDepth 20000 in
set_option maxHeartbeats 4000000 in
theorem renc_bad (r : RecD) (a : Option Addr) (cap : Nat) (v : Int) (w : World) (hr : RowK w a r.bs.length cap r.bs) (hl : r.bs.length ≤ 100000) (he : encE r v ≠ 0) :
    Calls Try.prog 25 #[.agg (rcs r a cap), .int .i64 v] w (EncIs w r v) := by
  obtain ⟨W1, hW1⟩ : ∃ W, w.alloc (.cells (rcs r a cap) 29) = W := ⟨_, rfl⟩
  obtain ⟨W2, hW2⟩ : ∃ W, W1.alloc (.cells #[.int .i64 0, .int .i64 0, .slice none 0 0] 39) = W := ⟨_, rfl⟩
  have t1 : Touch w W1 (fun _ => False) := hW1 ▸ (Touch.refl _ _).alloc _
  have t2 : Touch W1 W2 (fun _ => False) := hW2 ▸ (Touch.refl _ _).alloc _
  have HB : RowKit.Hid (W2.heap[w.heap.size]? = some (.cells (rcs r a cap) 29 (0, 0))) := Lib.hid (t2.keeps (hW1 ▸ heap_alloc_new w _) (fun h => h))
  have HF : RowKit.Hid (W2.heap[W1.heap.size]? = some (.cells (f3 0 0 none 0 0) 39 (0, 0))) := Lib.hid (hW2 ▸ heap_alloc_new W1 _)
  have HT := Lib.hid (t1.trans t2 (fun _ _ h => h))
  have HR := Lib.hid ((hr.still t1).still t2)
  have HIR := Lib.hid infoRec
  have HIF := Lib.hid infoFr
  have HSZ : RowKit.Hid (w.heap.size < W1.heap.size ∧ W1.heap.size < W2.heap.size) := Lib.hid ⟨by rw [← hW1]; simp, by rw [← hW2]; simp⟩
  have hX : EncIs w r v = fun e w' => ∃ (a' : Option Addr) (c' : Nat), e = .returned (.tuple #[.agg (f3 0 0 a' 0 c'), .int .i64 (encE r v)]) ∧ FreshB w w' (.slice a' 0 c') [] := by
    funext e w'
    unfold EncIs encK encV encB
    rw [if_neg he, if_neg he, if_neg he]; rfl
  have HX := Lib.hid hX
  generalize EncIs w r v = X at *
  clear hX hr t1 t2
  cases hv : verB v with
  | false =>
    have HQ : RowKit.Hid (encE r v = 10) := Lib.hid (by unfold encE; rw [hv]; rfl)
    have HV : RowKit.Hid (∀ w, Calls Try.prog 51 #[.int .i64 v] w fun e w' => e = .returned (.bool false) ∧ w = w') := Lib.hid (fun w => (rversion_any v w).mono fun e w' h => ⟨hv ▸ h.1, h.2.symm⟩)
    generalize encE r v = E at *
    clear he hv
    simp only [rcs] at hW1
    simp only [rcs]
    go_enter Try.func25, Try.ntmps25
    go_wp2_with (first
      | (go_at_call 51; (with_reducible refine (HV.out _).mono ?_); rintro e w' ⟨rfl, rfl⟩)
      | (refine store_row rfl 39 (.tmp 4) (.tmp 12) rfl W1.heap.size _ rfl rfl _ _ HF.out HIF.out rfl rfl ?_))
    refine ret_row1 rfl rfl W1.heap.size 39 (f3 0 0 none 0 0) (0, 0) _ rfl (setRow_heap _ _ _ _ _ _ HF.out) Try.underlying39 rfl infoFr _ rfl ?_
    rw [HX.out, HQ.out]
    exact ⟨none, 0, rfl, fresh_nil (HT.out.setRow _ _ (fun h => absurd h (by have := HSZ.out; omega)))⟩
  | true =>
    have hq : mayRB r = false ∧ encE r v = 1 := by
      unfold encE at he ⊢
      rw [hv, if_pos rfl] at he ⊢
      cases hm : mayRB r with
      | true => rw [hm, if_pos rfl] at he; exact absurd rfl he
      | false => exact ⟨rfl, rfl⟩
    have HQ := Lib.hid hq.2
    have hm := hq.1
    have HV : RowKit.Hid (∀ w, Calls Try.prog 51 #[.int .i64 v] w fun e w' => e = .returned (.bool true) ∧ w = w') := Lib.hid (fun w => (rversion_any v w).mono fun e w' h => ⟨hv ▸ h.1, h.2.symm⟩)
    have HM : RowKit.Hid (Calls Try.prog 19 #[.agg (rcs r a cap)] W2 fun e w' => e = .returned (.bool false) ∧ Touch W2 w' (fun _ => False)) := Lib.hid (hm ▸ rmay_any r a cap W2 HR.out hl)
    generalize encE r v = E at *
    clear he hv hm hq
    simp only [rcs] at hW1
    simp only [rcs]
    go_enter Try.func25, Try.ntmps25
    go_wp2_with (first
      | (go_at_call 51; (with_reducible refine (HV.out _).mono ?_); rintro e w' ⟨rfl, rfl⟩)
      | (refine wpList_load_row rfl 29 (.tmp 2) rfl w.heap.size rfl _ _ _ _ HB.out Try.underlying29 rfl HIR.out ?_)
      | (go_at_call 19; (refine HM.out.mono ?_); rintro e w3 ⟨rfl, t3⟩; have HF := Lib.hid (t3.keeps HF.out (fun h => h)); have HB := Lib.hid (t3.keeps HB.out (fun h => h)); have HR := Lib.hid (HR.out.still t3); have HT := Lib.hid (HT.out.trans t3 (fun _ _ h => h)); clear t3)
      | (refine store_row rfl 39 (.tmp 4) (.tmp 16) rfl W1.heap.size _ rfl rfl _ _ HF.out HIF.out rfl rfl ?_))
    refine ret_row1 rfl rfl W1.heap.size 39 (f3 0 0 none 0 0) (0, 0) _ rfl (setRow_heap _ _ _ _ _ _ HF.out) Try.underlying39 rfl infoFr _ rfl ?_
    rw [HX.out, HQ.out]
    exact ⟨none, 0, rfl, fresh_nil (HT.out.setRow _ _ (fun h => absurd h (by have := HSZ.out; omega)))⟩
set_option maxRecDepth 20000 in
set_option maxHeartbeats 8000000 in
theorem tcs_eq (t : TupD) : tcs t = #[.int .u32 t.src, .int .u32 t.dst, .int .i64 t.proto, .int .i64 t.sport, .int .i64 t.dport] := rfl
set_option maxRecDepth 20000 in
set_option maxHeartbeats 8000000 in
theorem renc_k5 (r : RecD) (a : Option Addr) (cap : Nat) (v : Int) (w : World) (hr : RowK w a r.bs.length cap r.bs) (hl : r.bs.length ≤ 100000) (ok : RecOk r) (hv : verB v = true) (hm : mayRB r = true) (hk : r.kind = 5) :
    Calls Try.prog 25 #[.agg (rcs r a cap), .int .i64 v] w (EncIs w r v) := by
  have he : encE r v = 0 := by unfold encE; rw [if_pos hv, if_pos hm]
  have less := less_of hm
  have hlen := bodyF_le r v hm
  have hX : EncIs w r v = fun e w' => ∃ (a' : Option Addr) (c' : Nat), e = .returned (.tuple #[.agg (f3 5 v a' (bodyF r v).length c'), .int .i64 0]) ∧ FreshB w w' (.slice a' (bodyF r v).length c') (bodyF r v) := by
    funext e w'
    unfold EncIs encK encV encB
    rw [if_pos he, if_pos he, if_pos he, he, hk]
  have hbd : bodyF r v = beB 2 (u64N r.be) := by unfold bodyF; rw [if_neg (by omega), if_neg (by omega), if_neg (by omega), if_neg (by omega), if_pos hk]
  obtain ⟨W1, hW1⟩ : ∃ W, w.alloc (.cells (rcs r a cap) 29) = W := ⟨_, rfl⟩
  obtain ⟨W2, hW2⟩ : ∃ W, W1.alloc (.cells #[.int .i64 0, .int .i64 0, .slice none 0 0] 39) = W := ⟨_, rfl⟩
  have t1 : Touch w W1 (fun _ => False) := hW1 ▸ (Touch.refl _ _).alloc _
  have t2 : Touch W1 W2 (fun _ => False) := hW2 ▸ (Touch.refl _ _).alloc _
  have HB : RowKit.Hid (W2.heap[w.heap.size]? = some (.cells (rcs r a cap) 29 (0, 0))) := Lib.hid (t2.keeps (hW1 ▸ heap_alloc_new w _) (fun h => h))
  have HF : RowKit.Hid (W2.heap[W1.heap.size]? = some (.cells (f3 0 0 none 0 0) 39 (0, 0))) := Lib.hid (hW2 ▸ heap_alloc_new W1 _)
  have HT := Lib.hid (t1.trans t2 (fun _ _ h => h))
  have HR := Lib.hid ((hr.still t1).still t2)
  have HIR := Lib.hid infoRec
  have HIF := Lib.hid infoFr
  have HSZ : RowKit.Hid (w.heap.size < W1.heap.size ∧ W1.heap.size < W2.heap.size) := Lib.hid ⟨by rw [← hW1]; simp, by rw [← hW2]; simp⟩
  have HV : RowKit.Hid (∀ w, Calls Try.prog 51 #[.int .i64 v] w fun e w' => e = .returned (.bool true) ∧ w = w') := Lib.hid (fun w => (rversion_any v w).mono fun e w' h => ⟨hv ▸ h.1, h.2.symm⟩)
  have HM : RowKit.Hid (Calls Try.prog 19 #[.agg (rcs r a cap)] W2 fun e w' => e = .returned (.bool true) ∧ Touch W2 w' (fun _ => False)) := Lib.hid (hm ▸ rmay_any r a cap W2 HR.out hl)
  have HX := Lib.hid hX
  have HBD := Lib.hid hbd
  have HKD := Lib.hid hk
  have HVV := Lib.hid (verB_cases v hv)
  have HOK := Lib.hid ok
  have HBE : RowKit.Hid (-9223372036854775808 ≤ r.be ∧ r.be ≤ 9223372036854775807) := Lib.hid ok.be
  have HUN : RowKit.Hid (-9223372036854775808 ≤ r.un ∧ r.un ≤ 9223372036854775807) := Lib.hid ok.un
  have HFB : RowKit.Hid (-9223372036854775808 ≤ r.fb ∧ r.fb ≤ 9223372036854775807) := Lib.hid ok.fb
  have HFS : RowKit.Hid (-9223372036854775808 ≤ r.fs ∧ r.fs ≤ 9223372036854775807) := Lib.hid ok.fs
  have HLE := Lib.hid less
  have HLN := Lib.hid hlen
  generalize EncIs w r v = X at *
  clear hX hbd hr t1 t2 he hv hm less hk ok hlen
  simp only [rcs] at hW1
  simp only [rcs]
  go_enter Try.func25, Try.ntmps25
  go_upto_region 6 with (first
    | (go_at_call 51; (with_reducible refine (HV.out _).mono ?_); rintro e w' ⟨rfl, rfl⟩)
    | (refine wpList_load_row rfl 29 (.tmp 2) rfl w.heap.size rfl _ _ _ _ HB.out Try.underlying29 rfl HIR.out ?_)
    | (go_at_call 19; (refine HM.out.mono ?_); rintro e w3 ⟨rfl, t3⟩; have HF := Lib.hid (t3.keeps HF.out (fun h => h)); have HB := Lib.hid (t3.keeps HB.out (fun h => h)); have HR := Lib.hid (HR.out.still t3); have HT := Lib.hid (HT.out.trans t3 (fun _ _ h => h)); have HT2 := Lib.hid t3; clear t3))
  obtain ⟨k0, k1, k2, k3, k4, k5, k6, k7, k8, k9, k10, k11, k12, k13⟩ := rcells_of HB.out
  rw [HKD.out] at k0
  clear HV HM HR
  go_wp2_with (first
    | (go_at_call 56; go_loud (with_reducible refine (ref_u16 r.be _ HBE.out).mono ?_); rintro e w9 ⟨a9, d9, rfl, hf⟩; have t9 := hf.2; have HO := Lib.hid (hf.1.base (base' := W2.heap.size) (fun j hj => by have h1 := (hf.1.own.lt j hj).1; have h2 := HT2.out.size; omega)); have HT := Lib.hid (HT.out.trans t9 (fun _ _ h => h)); have HT2 := Lib.hid (HT2.out.trans t9 (fun _ _ h => h)); have HB := Lib.hid (t9.keeps HB.out (fun h => h)); have HF := Lib.hid (t9.keeps HF.out (fun h => h)); clear k0 k1 k2 k3 k4 k5 k6 k7 k8 k9 k10 k11 k12 k13; obtain ⟨k0, k1, k2, k3, k4, k5, k6, k7, k8, k9, k10, k11, k12, k13⟩ := rcells_of HB.out; rw [HKD.out] at k0; clear hf t9)
    | (refine store_row rfl 39 (.tmp 4) (.tmp 112) rfl W1.heap.size _ rfl rfl _ _ HF.out HIF.out rfl rfl ?_))
  refine ret_row1 rfl rfl W1.heap.size 39 (f3 5 v a9 2 d9) (0, 0) _ rfl (setRow_heap _ _ _ _ _ _ HF.out) Try.underlying39 rfl infoFr _ rfl ?_
  rw [HX.out]
  have hL : (bodyF r v).length = 2 := by rw [HBD.out]; simp [beB_length, tbF_length, flowF]
  rw [hL, HBD.out]
  exact ⟨a9, d9, rfl, (HO.out.touch ((Touch.refl _ (fun k => k = W1.heap.size)).setRow _ _ (fun _ => rfl)) (fun j hj h => by have h1 := (HO.out.own.lt j hj).1; have h2 := HSZ.out; omega)).base (base' := w.heap.size) (fun j hj => by have h1 := (HO.out.own.lt j hj).1; have h2 := HSZ.out; omega), HT.out.setRow _ _ (fun h => absurd h (by have := HSZ.out; omega))⟩
set_option maxRecDepth 20000 in
set_option maxHeartbeats 8000000 in
theorem renc_k6 (r : RecD) (a : Option Addr) (cap : Nat) (v : Int) (w : World) (hr : RowK w a r.bs.length cap r.bs) (hl : r.bs.length ≤ 100000) (ok : RecOk r) (hv : verB v = true) (hm : mayRB r = true) (hk : r.kind = 6) :
    Calls Try.prog 25 #[.agg (rcs r a cap), .int .i64 v] w (EncIs w r v) := by
  have he : encE r v = 0 := by unfold encE; rw [if_pos hv, if_pos hm]
  have less := less_of hm
  have hlen := bodyF_le r v hm
  have hX : EncIs w r v = fun e w' => ∃ (a' : Option Addr) (c' : Nat), e = .returned (.tuple #[.agg (f3 6 v a' (bodyF r v).length c'), .int .i64 0]) ∧ FreshB w w' (.slice a' (bodyF r v).length c') (bodyF r v) := by
    funext e w'
    unfold EncIs encK encV encB
    rw [if_pos he, if_pos he, if_pos he, he, hk]
  have hbd : bodyF r v = beB 4 (u64N r.ct) := by unfold bodyF; rw [if_neg (by omega), if_neg (by omega), if_neg (by omega), if_neg (by omega), if_neg (by omega)]
  obtain ⟨W1, hW1⟩ : ∃ W, w.alloc (.cells (rcs r a cap) 29) = W := ⟨_, rfl⟩
  obtain ⟨W2, hW2⟩ : ∃ W, W1.alloc (.cells #[.int .i64 0, .int .i64 0, .slice none 0 0] 39) = W := ⟨_, rfl⟩
  have t1 : Touch w W1 (fun _ => False) := hW1 ▸ (Touch.refl _ _).alloc _
  have t2 : Touch W1 W2 (fun _ => False) := hW2 ▸ (Touch.refl _ _).alloc _
  have HB : RowKit.Hid (W2.heap[w.heap.size]? = some (.cells (rcs r a cap) 29 (0, 0))) := Lib.hid (t2.keeps (hW1 ▸ heap_alloc_new w _) (fun h => h))
  have HF : RowKit.Hid (W2.heap[W1.heap.size]? = some (.cells (f3 0 0 none 0 0) 39 (0, 0))) := Lib.hid (hW2 ▸ heap_alloc_new W1 _)
  have HT := Lib.hid (t1.trans t2 (fun _ _ h => h))
  have HR := Lib.hid ((hr.still t1).still t2)
  have HIR := Lib.hid infoRec
  have HIF := Lib.hid infoFr
  have HSZ : RowKit.Hid (w.heap.size < W1.heap.size ∧ W1.heap.size < W2.heap.size) := Lib.hid ⟨by rw [← hW1]; simp, by rw [← hW2]; simp⟩
  have HV : RowKit.Hid (∀ w, Calls Try.prog 51 #[.int .i64 v] w fun e w' => e = .returned (.bool true) ∧ w = w') := Lib.hid (fun w => (rversion_any v w).mono fun e w' h => ⟨hv ▸ h.1, h.2.symm⟩)
  have HM : RowKit.Hid (Calls Try.prog 19 #[.agg (rcs r a cap)] W2 fun e w' => e = .returned (.bool true) ∧ Touch W2 w' (fun _ => False)) := Lib.hid (hm ▸ rmay_any r a cap W2 HR.out hl)
  have HX := Lib.hid hX
  have HBD := Lib.hid hbd
  have HKD := Lib.hid hk
  have HVV := Lib.hid (verB_cases v hv)
  have HOK := Lib.hid ok
  have HBE : RowKit.Hid (-9223372036854775808 ≤ r.be ∧ r.be ≤ 9223372036854775807) := Lib.hid ok.be
  have HUN : RowKit.Hid (-9223372036854775808 ≤ r.un ∧ r.un ≤ 9223372036854775807) := Lib.hid ok.un
  have HFB : RowKit.Hid (-9223372036854775808 ≤ r.fb ∧ r.fb ≤ 9223372036854775807) := Lib.hid ok.fb
  have HFS : RowKit.Hid (-9223372036854775808 ≤ r.fs ∧ r.fs ≤ 9223372036854775807) := Lib.hid ok.fs
  have HLE := Lib.hid less
  have HLN := Lib.hid hlen
  generalize EncIs w r v = X at *
  clear hX hbd hr t1 t2 he hv hm less hk ok hlen
  simp only [rcs] at hW1
  simp only [rcs]
  go_enter Try.func25, Try.ntmps25
  go_upto_region 6 with (first
    | (go_at_call 51; (with_reducible refine (HV.out _).mono ?_); rintro e w' ⟨rfl, rfl⟩)
    | (refine wpList_load_row rfl 29 (.tmp 2) rfl w.heap.size rfl _ _ _ _ HB.out Try.underlying29 rfl HIR.out ?_)
    | (go_at_call 19; (refine HM.out.mono ?_); rintro e w3 ⟨rfl, t3⟩; have HF := Lib.hid (t3.keeps HF.out (fun h => h)); have HB := Lib.hid (t3.keeps HB.out (fun h => h)); have HR := Lib.hid (HR.out.still t3); have HT := Lib.hid (HT.out.trans t3 (fun _ _ h => h)); have HT2 := Lib.hid t3; clear t3))
  obtain ⟨k0, k1, k2, k3, k4, k5, k6, k7, k8, k9, k10, k11, k12, k13⟩ := rcells_of HB.out
  rw [HKD.out] at k0
  clear HV HM HR
  have hcv := HLE.out.ct HKD.out
  have hmd : r.ct % 4294967296 = r.ct := Int.emod_eq_of_lt hcv.1 (by omega)
  go_wp2_with (first
    | (go_at_call 57; (try simp only [hmd]); go_loud (with_reducible refine (ref_u32 r.ct _ (HLE.out.ct HKD.out)).mono ?_); rintro e w9 ⟨a9, d9, rfl, hf⟩; have t9 := hf.2; have HO := Lib.hid (hf.1.base (base' := W2.heap.size) (fun j hj => by have h1 := (hf.1.own.lt j hj).1; have h2 := HT2.out.size; omega)); have HT := Lib.hid (HT.out.trans t9 (fun _ _ h => h)); have HT2 := Lib.hid (HT2.out.trans t9 (fun _ _ h => h)); have HB := Lib.hid (t9.keeps HB.out (fun h => h)); have HF := Lib.hid (t9.keeps HF.out (fun h => h)); clear k0 k1 k2 k3 k4 k5 k6 k7 k8 k9 k10 k11 k12 k13; obtain ⟨k0, k1, k2, k3, k4, k5, k6, k7, k8, k9, k10, k11, k12, k13⟩ := rcells_of HB.out; rw [HKD.out] at k0; clear hf t9)
    | (refine store_row rfl 39 (.tmp 4) (.tmp 112) rfl W1.heap.size _ rfl rfl _ _ HF.out HIF.out rfl rfl ?_))
  refine ret_row1 rfl rfl W1.heap.size 39 (f3 6 v a9 4 d9) (0, 0) _ rfl (setRow_heap _ _ _ _ _ _ HF.out) Try.underlying39 rfl infoFr _ rfl ?_
  rw [HX.out]
  have hL : (bodyF r v).length = 4 := by rw [HBD.out]; simp [beB_length, tbF_length, flowF]
  rw [hL, HBD.out]
  exact ⟨a9, d9, rfl, (HO.out.touch ((Touch.refl _ (fun k => k = W1.heap.size)).setRow _ _ (fun _ => rfl)) (fun j hj h => by have h1 := (HO.out.own.lt j hj).1; have h2 := HSZ.out; omega)).base (base' := w.heap.size) (fun j hj => by have h1 := (HO.out.own.lt j hj).1; have h2 := HSZ.out; omega), HT.out.setRow _ _ (fun h => absurd h (by have := HSZ.out; omega))⟩
set_option maxRecDepth 20000 in
set_option maxHeartbeats 8000000 in
theorem renc_k2 (r : RecD) (a : Option Addr) (cap : Nat) (v : Int) (w : World) (hr : RowK w a r.bs.length cap r.bs) (hl : r.bs.length ≤ 100000) (ok : RecOk r) (hv : verB v = true) (hm : mayRB r = true) (hk : r.kind = 2) :
    Calls Try.prog 25 #[.agg (rcs r a cap), .int .i64 v] w (EncIs w r v) := by
  have he : encE r v = 0 := by unfold encE; rw [if_pos hv, if_pos hm]
  have less := less_of hm
  have hlen := bodyF_le r v hm
  have hX : EncIs w r v = fun e w' => ∃ (a' : Option Addr) (c' : Nat), e = .returned (.tuple #[.agg (f3 2 v a' (bodyF r v).length c'), .int .i64 0]) ∧ FreshB w w' (.slice a' (bodyF r v).length c') (bodyF r v) := by
    funext e w'
    unfold EncIs encK encV encB
    rw [if_pos he, if_pos he, if_pos he, he, hk]
  have hbd : bodyF r v = tbF r.t := by unfold bodyF; rw [if_neg (by omega), if_pos hk]
  obtain ⟨W1, hW1⟩ : ∃ W, w.alloc (.cells (rcs r a cap) 29) = W := ⟨_, rfl⟩
  obtain ⟨W2, hW2⟩ : ∃ W, W1.alloc (.cells #[.int .i64 0, .int .i64 0, .slice none 0 0] 39) = W := ⟨_, rfl⟩
  have t1 : Touch w W1 (fun _ => False) := hW1 ▸ (Touch.refl _ _).alloc _
  have t2 : Touch W1 W2 (fun _ => False) := hW2 ▸ (Touch.refl _ _).alloc _
  have HB : RowKit.Hid (W2.heap[w.heap.size]? = some (.cells (rcs r a cap) 29 (0, 0))) := Lib.hid (t2.keeps (hW1 ▸ heap_alloc_new w _) (fun h => h))
  have HF : RowKit.Hid (W2.heap[W1.heap.size]? = some (.cells (f3 0 0 none 0 0) 39 (0, 0))) := Lib.hid (hW2 ▸ heap_alloc_new W1 _)
  have HT := Lib.hid (t1.trans t2 (fun _ _ h => h))
  have HR := Lib.hid ((hr.still t1).still t2)
  have HIR := Lib.hid infoRec
  have HIF := Lib.hid infoFr
  have HSZ : RowKit.Hid (w.heap.size < W1.heap.size ∧ W1.heap.size < W2.heap.size) := Lib.hid ⟨by rw [← hW1]; simp, by rw [← hW2]; simp⟩
  have HV : RowKit.Hid (∀ w, Calls Try.prog 51 #[.int .i64 v] w fun e w' => e = .returned (.bool true) ∧ w = w') := Lib.hid (fun w => (rversion_any v w).mono fun e w' h => ⟨hv ▸ h.1, h.2.symm⟩)
  have HM : RowKit.Hid (Calls Try.prog 19 #[.agg (rcs r a cap)] W2 fun e w' => e = .returned (.bool true) ∧ Touch W2 w' (fun _ => False)) := Lib.hid (hm ▸ rmay_any r a cap W2 HR.out hl)
  have HX := Lib.hid hX
  have HBD := Lib.hid hbd
  have HKD := Lib.hid hk
  have HVV := Lib.hid (verB_cases v hv)
  have HOK := Lib.hid ok
  have HBE : RowKit.Hid (-9223372036854775808 ≤ r.be ∧ r.be ≤ 9223372036854775807) := Lib.hid ok.be
  have HUN : RowKit.Hid (-9223372036854775808 ≤ r.un ∧ r.un ≤ 9223372036854775807) := Lib.hid ok.un
  have HFB : RowKit.Hid (-9223372036854775808 ≤ r.fb ∧ r.fb ≤ 9223372036854775807) := Lib.hid ok.fb
  have HFS : RowKit.Hid (-9223372036854775808 ≤ r.fs ∧ r.fs ≤ 9223372036854775807) := Lib.hid ok.fs
  have HLE := Lib.hid less
  have HLN := Lib.hid hlen
  generalize EncIs w r v = X at *
  clear hX hbd hr t1 t2 he hv hm less hk ok hlen
  simp only [rcs] at hW1
  simp only [rcs]
  go_enter Try.func25, Try.ntmps25
  go_upto_region 6 with (first
    | (go_at_call 51; (with_reducible refine (HV.out _).mono ?_); rintro e w' ⟨rfl, rfl⟩)
    | (refine wpList_load_row rfl 29 (.tmp 2) rfl w.heap.size rfl _ _ _ _ HB.out Try.underlying29 rfl HIR.out ?_)
    | (go_at_call 19; (refine HM.out.mono ?_); rintro e w3 ⟨rfl, t3⟩; have HF := Lib.hid (t3.keeps HF.out (fun h => h)); have HB := Lib.hid (t3.keeps HB.out (fun h => h)); have HR := Lib.hid (HR.out.still t3); have HT := Lib.hid (HT.out.trans t3 (fun _ _ h => h)); have HT2 := Lib.hid t3; clear t3))
  obtain ⟨k0, k1, k2, k3, k4, k5, k6, k7, k8, k9, k10, k11, k12, k13⟩ := rcells_of HB.out
  rw [HKD.out] at k0
  clear HV HM HR
  go_wp2_with (first
    | (go_at_call 55; (try simp only [← tcs_eq]); go_loud (with_reducible refine (rtb_any r.t _ HOK.out.t).mono ?_); rintro e w9 ⟨a9, d9, rfl, hf⟩; have t9 := hf.2; have HO := Lib.hid (hf.1.base (base' := W2.heap.size) (fun j hj => by have h1 := (hf.1.own.lt j hj).1; have h2 := HT2.out.size; omega)); have HT := Lib.hid (HT.out.trans t9 (fun _ _ h => h)); have HT2 := Lib.hid (HT2.out.trans t9 (fun _ _ h => h)); have HB := Lib.hid (t9.keeps HB.out (fun h => h)); have HF := Lib.hid (t9.keeps HF.out (fun h => h)); clear k0 k1 k2 k3 k4 k5 k6 k7 k8 k9 k10 k11 k12 k13; obtain ⟨k0, k1, k2, k3, k4, k5, k6, k7, k8, k9, k10, k11, k12, k13⟩ := rcells_of HB.out; rw [HKD.out] at k0; clear hf t9)
    | (refine store_row rfl 39 (.tmp 4) (.tmp 112) rfl W1.heap.size _ rfl rfl _ _ HF.out HIF.out rfl rfl ?_))
  refine ret_row1 rfl rfl W1.heap.size 39 (f3 2 v a9 13 d9) (0, 0) _ rfl (setRow_heap _ _ _ _ _ _ HF.out) Try.underlying39 rfl infoFr _ rfl ?_
  rw [HX.out]
  have hL : (bodyF r v).length = 13 := by rw [HBD.out]; simp [beB_length, tbF_length, flowF]
  rw [hL, HBD.out]
  exact ⟨a9, d9, rfl, (HO.out.touch ((Touch.refl _ (fun k => k = W1.heap.size)).setRow _ _ (fun _ => rfl)) (fun j hj h => by have h1 := (HO.out.own.lt j hj).1; have h2 := HSZ.out; omega)).base (base' := w.heap.size) (fun j hj => by have h1 := (HO.out.own.lt j hj).1; have h2 := HSZ.out; omega), HT.out.setRow _ _ (fun h => absurd h (by have := HSZ.out; omega))⟩
set_option maxRecDepth 20000 in
set_option maxHeartbeats 8000000 in
theorem renc_k4 (r : RecD) (a : Option Addr) (cap : Nat) (v : Int) (w : World) (hr : RowK w a r.bs.length cap r.bs) (hl : r.bs.length ≤ 100000) (ok : RecOk r) (hv : verB v = true) (hm : mayRB r = true) (hk : r.kind = 4) :
    Calls Try.prog 25 #[.agg (rcs r a cap), .int .i64 v] w (EncIs w r v) := by
  have he : encE r v = 0 := by unfold encE; rw [if_pos hv, if_pos hm]
  have less := less_of hm
  have hlen := bodyF_le r v hm
  have hX : EncIs w r v = fun e w' => ∃ (a' : Option Addr) (c' : Nat), e = .returned (.tuple #[.agg (f3 4 v a' (bodyF r v).length c'), .int .i64 0]) ∧ FreshB w w' (.slice a' (bodyF r v).length c') (bodyF r v) := by
    funext e w'
    unfold EncIs encK encV encB
    rw [if_pos he, if_pos he, if_pos he, he, hk]
  have hbd : bodyF r v = beB 2 (u64N r.be) ++ beB 8 (u64N r.un) := by unfold bodyF; rw [if_neg (by omega), if_neg (by omega), if_neg (by omega), if_pos hk]
  obtain ⟨W1, hW1⟩ : ∃ W, w.alloc (.cells (rcs r a cap) 29) = W := ⟨_, rfl⟩
  obtain ⟨W2, hW2⟩ : ∃ W, W1.alloc (.cells #[.int .i64 0, .int .i64 0, .slice none 0 0] 39) = W := ⟨_, rfl⟩
  have t1 : Touch w W1 (fun _ => False) := hW1 ▸ (Touch.refl _ _).alloc _
  have t2 : Touch W1 W2 (fun _ => False) := hW2 ▸ (Touch.refl _ _).alloc _
  have HB : RowKit.Hid (W2.heap[w.heap.size]? = some (.cells (rcs r a cap) 29 (0, 0))) := Lib.hid (t2.keeps (hW1 ▸ heap_alloc_new w _) (fun h => h))
  have HF : RowKit.Hid (W2.heap[W1.heap.size]? = some (.cells (f3 0 0 none 0 0) 39 (0, 0))) := Lib.hid (hW2 ▸ heap_alloc_new W1 _)
  have HT := Lib.hid (t1.trans t2 (fun _ _ h => h))
  have HR := Lib.hid ((hr.still t1).still t2)
  have HIR := Lib.hid infoRec
  have HIF := Lib.hid infoFr
  have HSZ : RowKit.Hid (w.heap.size < W1.heap.size ∧ W1.heap.size < W2.heap.size) := Lib.hid ⟨by rw [← hW1]; simp, by rw [← hW2]; simp⟩
  have HV : RowKit.Hid (∀ w, Calls Try.prog 51 #[.int .i64 v] w fun e w' => e = .returned (.bool true) ∧ w = w') := Lib.hid (fun w => (rversion_any v w).mono fun e w' h => ⟨hv ▸ h.1, h.2.symm⟩)
  have HM : RowKit.Hid (Calls Try.prog 19 #[.agg (rcs r a cap)] W2 fun e w' => e = .returned (.bool true) ∧ Touch W2 w' (fun _ => False)) := Lib.hid (hm ▸ rmay_any r a cap W2 HR.out hl)
  have HX := Lib.hid hX
  have HBD := Lib.hid hbd
  have HKD := Lib.hid hk
  have HVV := Lib.hid (verB_cases v hv)
  have HOK := Lib.hid ok
  have HBE : RowKit.Hid (-9223372036854775808 ≤ r.be ∧ r.be ≤ 9223372036854775807) := Lib.hid ok.be
  have HUN : RowKit.Hid (-9223372036854775808 ≤ r.un ∧ r.un ≤ 9223372036854775807) := Lib.hid ok.un
  have HFB : RowKit.Hid (-9223372036854775808 ≤ r.fb ∧ r.fb ≤ 9223372036854775807) := Lib.hid ok.fb
  have HFS : RowKit.Hid (-9223372036854775808 ≤ r.fs ∧ r.fs ≤ 9223372036854775807) := Lib.hid ok.fs
  have HLE := Lib.hid less
  have HLN := Lib.hid hlen
  generalize EncIs w r v = X at *
  clear hX hbd hr t1 t2 he hv hm less hk ok hlen
  simp only [rcs] at hW1
  simp only [rcs]
  go_enter Try.func25, Try.ntmps25
  go_upto_region 6 with (first
    | (go_at_call 51; (with_reducible refine (HV.out _).mono ?_); rintro e w' ⟨rfl, rfl⟩)
    | (refine wpList_load_row rfl 29 (.tmp 2) rfl w.heap.size rfl _ _ _ _ HB.out Try.underlying29 rfl HIR.out ?_)
    | (go_at_call 19; (refine HM.out.mono ?_); rintro e w3 ⟨rfl, t3⟩; have HF := Lib.hid (t3.keeps HF.out (fun h => h)); have HB := Lib.hid (t3.keeps HB.out (fun h => h)); have HR := Lib.hid (HR.out.still t3); have HT := Lib.hid (HT.out.trans t3 (fun _ _ h => h)); have HT2 := Lib.hid t3; clear t3))
  obtain ⟨k0, k1, k2, k3, k4, k5, k6, k7, k8, k9, k10, k11, k12, k13⟩ := rcells_of HB.out
  rw [HKD.out] at k0
  clear HV HM HR
  go_upto_region 26 with fail
  have t2 := (Touch.refl w3 (fun _ => False)).drew
  have HT := Lib.hid (HT.out.trans t2 (fun _ _ h => h))
  have HT2 := Lib.hid (HT2.out.trans t2 (fun _ _ h => h))
  have HB := Lib.hid (t2.keeps HB.out (fun h => h))
  have HF := Lib.hid (t2.keeps HF.out (fun h => h))
  clear t2
  go_region_law (first
    | (have _u := HR21; refine step_appendB rfl _ _ 37 rfl 5 Try.underlying37 infoB W2.heap.size (.slice a6 2 d6) _ rfl HO.out _ _ _ (beB 8 (u64N r.un)) rfl HR21.out 10 (beB 2 (u64N r.be) ++ beB 8 (u64N r.un)) rfl (by simp [beB_length]) (by omega) HT2.out.size ?_; intro a22 d22 w22 hown hrow hg hpl; have HT := Lib.hid (HT.out.grown hg (fun j hj hlt => by have h1 := (HO.out.own.lt j hj).1; have h2 := HSZ.out; omega)); have HT2 := Lib.hid (HT2.out.grown hg (fun j hj hlt => by have h1 := (HO.out.own.lt j hj).1; omega)); have HB := Lib.hid ((hg.block w.heap.size (heap_lt HB.out) (fun e => by have h1 := (HO.out.own.lt _ e.symm).1; have h2 := HSZ.out; omega)).trans HB.out); have HF := Lib.hid ((hg.block W1.heap.size (heap_lt HF.out) (fun e => by have h1 := (HO.out.own.lt _ e.symm).1; have h2 := HSZ.out; omega)).trans HF.out); have HO := Lib.hid hown; clear k0 k1 k2 k3 k4 k5 k6 k7 k8 k9 k10 k11 k12 k13; obtain ⟨k0, k1, k2, k3, k4, k5, k6, k7, k8, k9, k10, k11, k12, k13⟩ := rcells_of HB.out; rw [HKD.out] at k0; clear hown hrow hg hpl)
    | (go_simp; go_at_call_of 56 (Value.int .i64 r.be); go_loud (with_reducible refine (ref_u16 r.be _ HBE.out).mono ?_); rintro e w6 ⟨a6, d6, rfl, hf⟩; have t9 := hf.2; have HO := Lib.hid (hf.1.base (base' := W2.heap.size) (fun j hj => by have h1 := (hf.1.own.lt j hj).1; have h2 := HT2.out.size; omega)); have HT := Lib.hid (HT.out.trans t9 (fun _ _ h => h)); have HT2 := Lib.hid (HT2.out.trans t9 (fun _ _ h => h)); have HB := Lib.hid (t9.keeps HB.out (fun h => h)); have HF := Lib.hid (t9.keeps HF.out (fun h => h)); clear k0 k1 k2 k3 k4 k5 k6 k7 k8 k9 k10 k11 k12 k13; obtain ⟨k0, k1, k2, k3, k4, k5, k6, k7, k8, k9, k10, k11, k12, k13⟩ := rcells_of HB.out; rw [HKD.out] at k0; clear hf t9)
    | (go_simp; go_at_call_of 58 (Value.int .i64 r.un); go_loud (with_reducible refine (ref_i64 r.un _ HUN.out).mono ?_); rintro e w21 ⟨a21, d21, rfl, hf⟩; have t9 := hf.2; have HR21 := Lib.hid (fresh_row hf (by simp [beB_length, tbF_length])); have HO := Lib.hid (HO.out.touch t9 (fun _ _ h => h)); have HT := Lib.hid (HT.out.trans t9 (fun _ _ h => h)); have HT2 := Lib.hid (HT2.out.trans t9 (fun _ _ h => h)); have HB := Lib.hid (t9.keeps HB.out (fun h => h)); have HF := Lib.hid (t9.keeps HF.out (fun h => h)); clear k0 k1 k2 k3 k4 k5 k6 k7 k8 k9 k10 k11 k12 k13; obtain ⟨k0, k1, k2, k3, k4, k5, k6, k7, k8, k9, k10, k11, k12, k13⟩ := rcells_of HB.out; rw [HKD.out] at k0; clear hf t9))
  all_goals (
    go_wp2_with (refine store_row rfl 39 (.tmp 4) (.tmp 112) rfl W1.heap.size _ rfl rfl _ _ HF.out HIF.out rfl rfl ?_)
    refine ret_row1 rfl rfl W1.heap.size 39 (f3 4 v a22 10 d22) (0, 0) _ rfl (setRow_heap _ _ _ _ _ _ HF.out) Try.underlying39 rfl infoFr _ rfl ?_
    rw [HX.out]
    have hL : (bodyF r v).length = 10 := by rw [HBD.out]; simp [beB_length, tbF_length, flowF]
    rw [hL, HBD.out]
    exact ⟨a22, d22, rfl, (HO.out.touch ((Touch.refl _ (fun k => k = W1.heap.size)).setRow _ _ (fun _ => rfl)) (fun j hj h => by have h1 := (HO.out.own.lt j hj).1; have h2 := HSZ.out; omega)).base (base' := w.heap.size) (fun j hj => by have h1 := (HO.out.own.lt j hj).1; have h2 := HSZ.out; omega), HT.out.setRow _ _ (fun h => absurd h (by have := HSZ.out; omega))⟩)
set_option maxRecDepth 20000 in
set_option maxHeartbeats 8000000 in
theorem renc_k1 (r : RecD) (a : Option Addr) (cap : Nat) (v : Int) (w : World) (hr : RowK w a r.bs.length cap r.bs) (hl : r.bs.length ≤ 100000) (ok : RecOk r) (hv : verB v = true) (hm : mayRB r = true) (hk : r.kind = 1) :
    Calls Try.prog 25 #[.agg (rcs r a cap), .int .i64 v] w (EncIs w r v) := by
  have he : encE r v = 0 := by unfold encE; rw [if_pos hv, if_pos hm]
  have less := less_of hm
  have hlen := bodyF_le r v hm
  have hX : EncIs w r v = fun e w' => ∃ (a' : Option Addr) (c' : Nat), e = .returned (.tuple #[.agg (f3 1 v a' (bodyF r v).length c'), .int .i64 0]) ∧ FreshB w w' (.slice a' (bodyF r v).length c') (bodyF r v) := by
    funext e w'
    unfold EncIs encK encV encB
    rw [if_pos he, if_pos he, if_pos he, he, hk]
  have hbd : bodyF r v = flowF r v := by unfold bodyF; rw [if_pos hk]
  obtain ⟨W1, hW1⟩ : ∃ W, w.alloc (.cells (rcs r a cap) 29) = W := ⟨_, rfl⟩
  obtain ⟨W2, hW2⟩ : ∃ W, W1.alloc (.cells #[.int .i64 0, .int .i64 0, .slice none 0 0] 39) = W := ⟨_, rfl⟩
  have t1 : Touch w W1 (fun _ => False) := hW1 ▸ (Touch.refl _ _).alloc _
  have t2 : Touch W1 W2 (fun _ => False) := hW2 ▸ (Touch.refl _ _).alloc _
  have HB : RowKit.Hid (W2.heap[w.heap.size]? = some (.cells (rcs r a cap) 29 (0, 0))) := Lib.hid (t2.keeps (hW1 ▸ heap_alloc_new w _) (fun h => h))
  have HF : RowKit.Hid (W2.heap[W1.heap.size]? = some (.cells (f3 0 0 none 0 0) 39 (0, 0))) := Lib.hid (hW2 ▸ heap_alloc_new W1 _)
  have HT := Lib.hid (t1.trans t2 (fun _ _ h => h))
  have HR := Lib.hid ((hr.still t1).still t2)
  have HIR := Lib.hid infoRec
  have HIF := Lib.hid infoFr
  have HSZ : RowKit.Hid (w.heap.size < W1.heap.size ∧ W1.heap.size < W2.heap.size) := Lib.hid ⟨by rw [← hW1]; simp, by rw [← hW2]; simp⟩
  have HV : RowKit.Hid (∀ w, Calls Try.prog 51 #[.int .i64 v] w fun e w' => e = .returned (.bool true) ∧ w = w') := Lib.hid (fun w => (rversion_any v w).mono fun e w' h => ⟨hv ▸ h.1, h.2.symm⟩)
  have HM : RowKit.Hid (Calls Try.prog 19 #[.agg (rcs r a cap)] W2 fun e w' => e = .returned (.bool true) ∧ Touch W2 w' (fun _ => False)) := Lib.hid (hm ▸ rmay_any r a cap W2 HR.out hl)
  have HX := Lib.hid hX
  have HBD := Lib.hid hbd
  have HKD := Lib.hid hk
  have HVV := Lib.hid (verB_cases v hv)
  have HOK := Lib.hid ok
  have HBE : RowKit.Hid (-9223372036854775808 ≤ r.be ∧ r.be ≤ 9223372036854775807) := Lib.hid ok.be
  have HUN : RowKit.Hid (-9223372036854775808 ≤ r.un ∧ r.un ≤ 9223372036854775807) := Lib.hid ok.un
  have HFB : RowKit.Hid (-9223372036854775808 ≤ r.fb ∧ r.fb ≤ 9223372036854775807) := Lib.hid ok.fb
  have HFS : RowKit.Hid (-9223372036854775808 ≤ r.fs ∧ r.fs ≤ 9223372036854775807) := Lib.hid ok.fs
  have HLE := Lib.hid less
  have HLN := Lib.hid hlen
  generalize EncIs w r v = X at *
  clear hX hbd hr t1 t2 he hv hm less hk ok hlen
  simp only [rcs] at hW1
  simp only [rcs]
  go_enter Try.func25, Try.ntmps25
  go_upto_region 6 with (first
    | (go_at_call 51; (with_reducible refine (HV.out _).mono ?_); rintro e w' ⟨rfl, rfl⟩)
    | (refine wpList_load_row rfl 29 (.tmp 2) rfl w.heap.size rfl _ _ _ _ HB.out Try.underlying29 rfl HIR.out ?_)
    | (go_at_call 19; (refine HM.out.mono ?_); rintro e w3 ⟨rfl, t3⟩; have HF := Lib.hid (t3.keeps HF.out (fun h => h)); have HB := Lib.hid (t3.keeps HB.out (fun h => h)); have HR := Lib.hid (HR.out.still t3); have HT := Lib.hid (HT.out.trans t3 (fun _ _ h => h)); have HT2 := Lib.hid t3; clear t3))
  obtain ⟨k0, k1, k2, k3, k4, k5, k6, k7, k8, k9, k10, k11, k12, k13⟩ := rcells_of HB.out
  rw [HKD.out] at k0
  clear HV HM HR
  go_upto_region 9 with fail
  have t2 := (Touch.refl w3 (fun _ => False)).drew
  have HT := Lib.hid (HT.out.trans t2 (fun _ _ h => h))
  have HT2 := Lib.hid (HT2.out.trans t2 (fun _ _ h => h))
  have HB := Lib.hid (t2.keeps HB.out (fun h => h))
  have HF := Lib.hid (t2.keeps HF.out (fun h => h))
  clear t2
  go_cut [6] (fun s wx => ∃ a9 c9, s = .slice a9 15 c9 ∧ OwnB wx W2.heap.size 5 (.slice a9 15 c9) (tbF r.t ++ beB 2 (u64N r.fb)) ∧ Touch w wx (fun _ => False) ∧ Touch W2 wx (fun _ => False) ∧ wx.heap[w.heap.size]? = some (.cells (rcs r a cap) 29 (0, 0)) ∧ wx.heap[W1.heap.size]? = some (.cells (f3 0 0 none 0 0) 39 (0, 0)))
  case first =>
    go_wp2_with fail
    go_region_law (first
      | (have _u := HR32; refine step_appendB rfl _ _ 37 rfl 5 Try.underlying37 infoB W2.heap.size (.slice a28 13 d28) _ rfl HO.out _ _ _ (beB 2 (u64N r.fb)) rfl HR32.out 15 (tbF r.t ++ beB 2 (u64N r.fb)) rfl (by simp [beB_length, tbF_length]) (by omega) HT2.out.size ?_; intro a33 d33 w33 hown hrow hg hpl; have HT := Lib.hid (HT.out.grown hg (fun j hj hlt => by have h1 := (HO.out.own.lt j hj).1; have h2 := HSZ.out; omega)); have HT2 := Lib.hid (HT2.out.grown hg (fun j hj hlt => by have h1 := (HO.out.own.lt j hj).1; omega)); have HB := Lib.hid ((hg.block w.heap.size (heap_lt HB.out) (fun e => by have h1 := (HO.out.own.lt _ e.symm).1; have h2 := HSZ.out; omega)).trans HB.out); have HF := Lib.hid ((hg.block W1.heap.size (heap_lt HF.out) (fun e => by have h1 := (HO.out.own.lt _ e.symm).1; have h2 := HSZ.out; omega)).trans HF.out); have HO := Lib.hid hown; clear k0 k1 k2 k3 k4 k5 k6 k7 k8 k9 k10 k11 k12 k13; obtain ⟨k0, k1, k2, k3, k4, k5, k6, k7, k8, k9, k10, k11, k12, k13⟩ := rcells_of HB.out; rw [HKD.out] at k0; clear hown hrow hg hpl)
      | (go_simp; go_at_call 55; (try simp only [← tcs_eq]); go_loud (with_reducible refine (rtb_any r.t _ HOK.out.t).mono ?_); rintro e w28 ⟨a28, d28, rfl, hf⟩; have t9 := hf.2; have HO := Lib.hid (hf.1.base (base' := W2.heap.size) (fun j hj => by have h1 := (hf.1.own.lt j hj).1; have h2 := HT2.out.size; omega)); have HT := Lib.hid (HT.out.trans t9 (fun _ _ h => h)); have HT2 := Lib.hid (HT2.out.trans t9 (fun _ _ h => h)); have HB := Lib.hid (t9.keeps HB.out (fun h => h)); have HF := Lib.hid (t9.keeps HF.out (fun h => h)); clear k0 k1 k2 k3 k4 k5 k6 k7 k8 k9 k10 k11 k12 k13; obtain ⟨k0, k1, k2, k3, k4, k5, k6, k7, k8, k9, k10, k11, k12, k13⟩ := rcells_of HB.out; rw [HKD.out] at k0; clear hf t9)
      | (go_simp; go_at_call_of 56 (Value.int .i64 r.fb); go_loud (with_reducible refine (ref_u16 r.fb _ HFB.out).mono ?_); rintro e w32 ⟨a32, d32, rfl, hf⟩; have t9 := hf.2; have HR32 := Lib.hid (fresh_row hf (by simp [beB_length, tbF_length])); have HO := Lib.hid (HO.out.touch t9 (fun _ _ h => h)); have HT := Lib.hid (HT.out.trans t9 (fun _ _ h => h)); have HT2 := Lib.hid (HT2.out.trans t9 (fun _ _ h => h)); have HB := Lib.hid (t9.keeps HB.out (fun h => h)); have HF := Lib.hid (t9.keeps HF.out (fun h => h)); clear k0 k1 k2 k3 k4 k5 k6 k7 k8 k9 k10 k11 k12 k13; obtain ⟨k0, k1, k2, k3, k4, k5, k6, k7, k8, k9, k10, k11, k12, k13⟩ := rcells_of HB.out; rw [HKD.out] at k0; clear hf t9))
    all_goals (go_wp2_with fail; go_meet; exact ⟨_, _, rfl, HO.out, HT.out, HT2.out, HB.out, HF.out⟩)
  case rest =>
    obtain ⟨a9, d9, rfl, p1, p2, p3, p4, p5⟩ := hcut
    clear HB HF HT HT2
    have HO := Lib.hid p1
    have HT := Lib.hid p2
    have HT2 := Lib.hid p3
    have HB := Lib.hid p4
    have HF := Lib.hid p5
    clear p1 p2 p3 p4 p5 k0 k1 k2 k3 k4 k5 k6 k7 k8 k9 k10 k11 k12 k13
    obtain ⟨k0, k1, k2, k3, k4, k5, k6, k7, k8, k9, k10, k11, k12, k13⟩ := rcells_of HB.out
    rw [HKD.out] at k0
    have hcv := HLE.out.fg HKD.out
    have hmd : r.fg % 4294967296 = r.fg := Int.emod_eq_of_lt hcv.1 (by omega)
    rcases HVV.out with rfl | rfl | rfl
    · have e1 : flowF r 1 = tbF r.t ++ beB 2 (u64N r.fb) := by simp [flowF]
      go_wp2_with (refine store_row rfl 39 (.tmp 4) (.tmp 112) rfl W1.heap.size _ rfl rfl _ _ HF.out HIF.out rfl rfl ?_)
      refine ret_row1 rfl rfl W1.heap.size 39 (f3 1 1 a9 15 d9) (0, 0) _ rfl (setRow_heap _ _ _ _ _ _ HF.out) Try.underlying39 rfl infoFr _ rfl ?_
      rw [HX.out]
      have hL : (bodyF r 1).length = 15 := by rw [HBD.out]; simp [beB_length, tbF_length, flowF]
      rw [hL, HBD.out, e1]
      exact ⟨a9, d9, rfl, (HO.out.touch ((Touch.refl _ (fun k => k = W1.heap.size)).setRow _ _ (fun _ => rfl)) (fun j hj h => by have h1 := (HO.out.own.lt j hj).1; have h2 := HSZ.out; omega)).base (base' := w.heap.size) (fun j hj => by have h1 := (HO.out.own.lt j hj).1; have h2 := HSZ.out; omega), HT.out.setRow _ _ (fun h => absurd h (by have := HSZ.out; omega))⟩
    · have e1 : flowF r 2 = tbF r.t ++ beB 2 (u64N r.fb) ++ beB 4 (u64N r.fg) := by simp [flowF]
      go_wp2_with (first
        | (go_at_call 57; (try simp only [hmd]); go_loud (with_reducible refine (ref_u32 r.fg _ (HLE.out.fg HKD.out)).mono ?_); rintro e w41 ⟨a41, d41, rfl, hf⟩; have t9 := hf.2; have HR41 := Lib.hid (fresh_row hf (by simp [beB_length, tbF_length])); have HO := Lib.hid (HO.out.touch t9 (fun _ _ h => h)); have HT := Lib.hid (HT.out.trans t9 (fun _ _ h => h)); have HT2 := Lib.hid (HT2.out.trans t9 (fun _ _ h => h)); have HB := Lib.hid (t9.keeps HB.out (fun h => h)); have HF := Lib.hid (t9.keeps HF.out (fun h => h)); clear k0 k1 k2 k3 k4 k5 k6 k7 k8 k9 k10 k11 k12 k13; obtain ⟨k0, k1, k2, k3, k4, k5, k6, k7, k8, k9, k10, k11, k12, k13⟩ := rcells_of HB.out; rw [HKD.out] at k0; clear hf t9)
        | (at_builtin; have _u := HR41; refine wpList_appendB rfl _ _ 37 rfl 5 Try.underlying37 infoB W2.heap.size (.slice a9 15 d9) (tbF r.t ++ beB 2 (u64N r.fb)) rfl HO.out _ _ _ (beB 4 (u64N r.fg)) rfl HR41.out 19 (tbF r.t ++ beB 2 (u64N r.fb) ++ beB 4 (u64N r.fg)) rfl (by simp [beB_length, tbF_length]) (by omega) HT2.out.size W2.heap.size W2 (HT2.out.below (fun _ _ h => h.elim) (Nat.le_refl _)) (Nat.le_refl _) ?_; intro a42 d42 w42 hown hrow hg hb hs hp16 hpl; have HT := Lib.hid (HT.out.grown hg (fun j hj hlt => by have h1 := (HO.out.own.lt j hj).1; have h2 := HSZ.out; omega)); have HT2 := Lib.hid (HT2.out.grown hg (fun j hj hlt => by have h1 := (HO.out.own.lt j hj).1; omega)); have HB := Lib.hid ((hg.block w.heap.size (heap_lt HB.out) (fun e => by have h1 := (HO.out.own.lt _ e.symm).1; have h2 := HSZ.out; omega)).trans HB.out); have HF := Lib.hid ((hg.block W1.heap.size (heap_lt HF.out) (fun e => by have h1 := (HO.out.own.lt _ e.symm).1; have h2 := HSZ.out; omega)).trans HF.out); have HO := Lib.hid hown; clear k0 k1 k2 k3 k4 k5 k6 k7 k8 k9 k10 k11 k12 k13; obtain ⟨k0, k1, k2, k3, k4, k5, k6, k7, k8, k9, k10, k11, k12, k13⟩ := rcells_of HB.out; rw [HKD.out] at k0; clear hown hrow hg hb hs hp16 hpl)
        | (refine store_row rfl 39 (.tmp 4) (.tmp 112) rfl W1.heap.size _ rfl rfl _ _ HF.out HIF.out rfl rfl ?_))
      refine ret_row1 rfl rfl W1.heap.size 39 (f3 1 2 a42 19 d42) (0, 0) _ rfl (setRow_heap _ _ _ _ _ _ HF.out) Try.underlying39 rfl infoFr _ rfl ?_
      rw [HX.out]
      have hL : (bodyF r 2).length = 19 := by rw [HBD.out]; simp [beB_length, tbF_length, flowF]
      rw [hL, HBD.out, e1]
      exact ⟨a42, d42, rfl, (HO.out.touch ((Touch.refl _ (fun k => k = W1.heap.size)).setRow _ _ (fun _ => rfl)) (fun j hj h => by have h1 := (HO.out.own.lt j hj).1; have h2 := HSZ.out; omega)).base (base' := w.heap.size) (fun j hj => by have h1 := (HO.out.own.lt j hj).1; have h2 := HSZ.out; omega), HT.out.setRow _ _ (fun h => absurd h (by have := HSZ.out; omega))⟩
    · have e1 : flowF r 3 = tbF r.t ++ beB 2 (u64N r.fb) ++ beB 4 (u64N r.fg) ++ beB 8 (u64N r.fs) := by simp [flowF]
      go_wp2_with (first
        | (go_at_call 57; (try simp only [hmd]); go_loud (with_reducible refine (ref_u32 r.fg _ (HLE.out.fg HKD.out)).mono ?_); rintro e w41 ⟨a41, d41, rfl, hf⟩; have t9 := hf.2; have HR41 := Lib.hid (fresh_row hf (by simp [beB_length, tbF_length])); have HO := Lib.hid (HO.out.touch t9 (fun _ _ h => h)); have HT := Lib.hid (HT.out.trans t9 (fun _ _ h => h)); have HT2 := Lib.hid (HT2.out.trans t9 (fun _ _ h => h)); have HB := Lib.hid (t9.keeps HB.out (fun h => h)); have HF := Lib.hid (t9.keeps HF.out (fun h => h)); clear k0 k1 k2 k3 k4 k5 k6 k7 k8 k9 k10 k11 k12 k13; obtain ⟨k0, k1, k2, k3, k4, k5, k6, k7, k8, k9, k10, k11, k12, k13⟩ := rcells_of HB.out; rw [HKD.out] at k0; clear hf t9)
        | (go_at_call 58; go_loud (with_reducible refine (ref_i64 r.fs _ HFS.out).mono ?_); rintro e w49 ⟨a49, d49, rfl, hf⟩; have t9 := hf.2; have HR49 := Lib.hid (fresh_row hf (by simp [beB_length, tbF_length])); have HO := Lib.hid (HO.out.touch t9 (fun _ _ h => h)); have HT := Lib.hid (HT.out.trans t9 (fun _ _ h => h)); have HT2 := Lib.hid (HT2.out.trans t9 (fun _ _ h => h)); have HB := Lib.hid (t9.keeps HB.out (fun h => h)); have HF := Lib.hid (t9.keeps HF.out (fun h => h)); clear k0 k1 k2 k3 k4 k5 k6 k7 k8 k9 k10 k11 k12 k13; obtain ⟨k0, k1, k2, k3, k4, k5, k6, k7, k8, k9, k10, k11, k12, k13⟩ := rcells_of HB.out; rw [HKD.out] at k0; clear hf t9)
        | (at_builtin; have _u := HR49; refine wpList_appendB rfl _ _ 37 rfl 5 Try.underlying37 infoB W2.heap.size (.slice a42 19 d42) (tbF r.t ++ beB 2 (u64N r.fb) ++ beB 4 (u64N r.fg)) rfl HO.out _ _ _ (beB 8 (u64N r.fs)) rfl HR49.out 27 (tbF r.t ++ beB 2 (u64N r.fb) ++ beB 4 (u64N r.fg) ++ beB 8 (u64N r.fs)) rfl (by simp [beB_length, tbF_length]) (by omega) HT2.out.size W2.heap.size W2 (HT2.out.below (fun _ _ h => h.elim) (Nat.le_refl _)) (Nat.le_refl _) ?_; intro a50 d50 w50 hown hrow hg hb hs hp16 hpl; have HT := Lib.hid (HT.out.grown hg (fun j hj hlt => by have h1 := (HO.out.own.lt j hj).1; have h2 := HSZ.out; omega)); have HT2 := Lib.hid (HT2.out.grown hg (fun j hj hlt => by have h1 := (HO.out.own.lt j hj).1; omega)); have HB := Lib.hid ((hg.block w.heap.size (heap_lt HB.out) (fun e => by have h1 := (HO.out.own.lt _ e.symm).1; have h2 := HSZ.out; omega)).trans HB.out); have HF := Lib.hid ((hg.block W1.heap.size (heap_lt HF.out) (fun e => by have h1 := (HO.out.own.lt _ e.symm).1; have h2 := HSZ.out; omega)).trans HF.out); have HO := Lib.hid hown; clear k0 k1 k2 k3 k4 k5 k6 k7 k8 k9 k10 k11 k12 k13; obtain ⟨k0, k1, k2, k3, k4, k5, k6, k7, k8, k9, k10, k11, k12, k13⟩ := rcells_of HB.out; rw [HKD.out] at k0; clear hown hrow hg hb hs hp16 hpl)
        | (at_builtin; have _u := HR41; refine wpList_appendB rfl _ _ 37 rfl 5 Try.underlying37 infoB W2.heap.size (.slice a9 15 d9) (tbF r.t ++ beB 2 (u64N r.fb)) rfl HO.out _ _ _ (beB 4 (u64N r.fg)) rfl HR41.out 19 (tbF r.t ++ beB 2 (u64N r.fb) ++ beB 4 (u64N r.fg)) rfl (by simp [beB_length, tbF_length]) (by omega) HT2.out.size W2.heap.size W2 (HT2.out.below (fun _ _ h => h.elim) (Nat.le_refl _)) (Nat.le_refl _) ?_; intro a42 d42 w42 hown hrow hg hb hs hp16 hpl; have HT := Lib.hid (HT.out.grown hg (fun j hj hlt => by have h1 := (HO.out.own.lt j hj).1; have h2 := HSZ.out; omega)); have HT2 := Lib.hid (HT2.out.grown hg (fun j hj hlt => by have h1 := (HO.out.own.lt j hj).1; omega)); have HB := Lib.hid ((hg.block w.heap.size (heap_lt HB.out) (fun e => by have h1 := (HO.out.own.lt _ e.symm).1; have h2 := HSZ.out; omega)).trans HB.out); have HF := Lib.hid ((hg.block W1.heap.size (heap_lt HF.out) (fun e => by have h1 := (HO.out.own.lt _ e.symm).1; have h2 := HSZ.out; omega)).trans HF.out); have HO := Lib.hid hown; clear k0 k1 k2 k3 k4 k5 k6 k7 k8 k9 k10 k11 k12 k13; obtain ⟨k0, k1, k2, k3, k4, k5, k6, k7, k8, k9, k10, k11, k12, k13⟩ := rcells_of HB.out; rw [HKD.out] at k0; clear hown hrow hg hb hs hp16 hpl)
        | (refine store_row rfl 39 (.tmp 4) (.tmp 112) rfl W1.heap.size _ rfl rfl _ _ HF.out HIF.out rfl rfl ?_))
      refine ret_row1 rfl rfl W1.heap.size 39 (f3 1 3 a50 27 d50) (0, 0) _ rfl (setRow_heap _ _ _ _ _ _ HF.out) Try.underlying39 rfl infoFr _ rfl ?_
      rw [HX.out]
      have hL : (bodyF r 3).length = 27 := by rw [HBD.out]; simp [beB_length, tbF_length, flowF]
      rw [hL, HBD.out, e1]
      exact ⟨a50, d50, rfl, (HO.out.touch ((Touch.refl _ (fun k => k = W1.heap.size)).setRow _ _ (fun _ => rfl)) (fun j hj h => by have h1 := (HO.out.own.lt j hj).1; have h2 := HSZ.out; omega)).base (base' := w.heap.size) (fun j hj => by have h1 := (HO.out.own.lt j hj).1; have h2 := HSZ.out; omega), HT.out.setRow _ _ (fun h => absurd h (by have := HSZ.out; omega))⟩
end Go.Proofs.Ytbklngcocbnijaa
