/- EncodeManifest of the reference. -/
import Derived.Test.YtibpnlhdpdfhiaaDoorManEncZ
import Derived.Test.YtibpnlhdpdfhiaaDoorFrmRefZ
import Derived.Test.YtibpnlhdpdfhiaaDoorCalmBZ
set_option linter.unusedVariables false
set_option linter.unusedSimpArgs false
namespace Go.Proofs.YtibpnlhdpdfhiaaDoor
open Go.RowKit

set_option maxRecDepth 20000 in
theorem enter_ru32 (u : Value) (w : World) : (callFunc 40 #[u]).run Tryd.prog w = .ok (.enter 40 #[u]) w := by kernel_rfl
set_option maxRecDepth 20000 in
theorem enter_ru16 (u : Value) (w : World) : (callFunc 41 #[u]).run Tryd.prog w = .ok (.enter 41 #[u]) w := by kernel_rfl
/-- Where the loop over the segments is. -/
def REncAt (w W1 : World) (n : Int) (zs : List Int) (b i : Value) (wr : World) : Prop :=
  ∃ (k : Nat) (a' : Option Addr) (c' : Nat), k ≤ zs.length ∧ i = .int .i64 k ∧ b = .slice a' (6 + 4 * k) c' ∧ OwnB wr W1.heap.size 5 (.slice a' (6 + 4 * k) c') (beB 4 (u64N n) ++ beB 2 (u64N zs.length) ++ segsM (zs.take k)) ∧ Touch W1 wr (fun _ => False)

set_option maxRecDepth 20000 in
set_option maxHeartbeats 8000000 in
theorem rmenc_any (v n : Int) (a : Option Addr) (len cap : Nat) (zs : List Int) (w : World) (hr : RowI w a len cap zs) :
    Calls Tryd.prog 12 #[.agg #[.int .i64 v, .int .i64 n, .slice a len cap]] w fun e w' => EncMIs w w' v n zs e := by
  have hl := hr.1
  have hcap := hr.2.2.1
  have hcap1 := hr.2.1
  obtain ⟨W1, hW1⟩ : ∃ W, w.alloc (.cells (mcs v n a len cap) 24) = W := ⟨_, rfl⟩
  have t1 : Touch w W1 (fun _ => False) := hW1 ▸ (Touch.refl _ _).alloc _
  have HB1 : RowKit.Hid (W1.heap[w.heap.size]? = some (.cells (mcs v n a len cap) 24 (0, 0))) := Lib.hid (hW1 ▸ heap_alloc_new w _)
  have HSZ : RowKit.Hid (w.heap.size < W1.heap.size) := Lib.hid (by rw [← hW1]; simp)
  have HT1 := Lib.hid t1
  have HR := Lib.hid (hr.keep t1)
  have HL := Lib.hid hl
  have HMA := Lib.hid (rmmay_any v n a len cap zs W1 (hr.keep t1))
  simp only [mcs] at hW1
  have HW1 := Lib.hid hW1
  clear hr hl t1 hW1
  cases hm : mayM v n zs with
  | false =>
    have HM := Lib.hid hm
    rw [hm] at HMA
    clear hm
    go_enter Tryd.func12, Tryd.ntmps12
    go_upto_region 1 with (fail)
    rw [HW1.out]
    obtain ⟨c0, c1, c2⟩ := mcells_of HB1.out
    go_wp2_with (go_at_call 14; (with_reducible refine HMA.out.mono ?_); rintro e w9 ⟨rfl, t9⟩; have HT9 := Lib.hid t9; clear t9)
    go_ret2
    exact EncMIs.none HM.out (HT1.out.trans HT9.out (fun _ _ h => h))
  | true =>
    have HM := Lib.hid hm
    rw [hm] at HMA
    obtain ⟨⟨hv0, hv1⟩, ⟨hn0, hn1⟩, ⟨hs0, hs1⟩, hu⟩ := (mayM_iff v n zs).1 hm
    have HU := Lib.hid (upM_mem n zs 0 hu)
    rw [HL.out] at hs0 hs1
    have HWN : RowKit.Hid (IntKind.u32.wrap n = n) := Lib.hid (by rw [IntKind.wrap_u32]; omega)
    clear hm hu
    go_enter Tryd.func12, Tryd.ntmps12
    go_upto_region 1 with (fail)
    rw [HW1.out]
    obtain ⟨c0, c1, c2⟩ := mcells_of HB1.out
    go_wp2_with (go_at_call 14; (with_reducible refine HMA.out.mono ?_); rintro e w9 ⟨rfl, t9⟩; have HT9 := Lib.hid t9; have HZW : RowKit.Hid (W1.heap.size ≤ w9.heap.size) := Lib.hid t9.size; have HCB : RowKit.Hid (∀ W, Touch w9 W (fun _ => False) → W.cell? ⟨w.heap.size, 0, none⟩ = some (.int .i64 v) ∧ W.cell? ⟨w.heap.size, 1, none⟩ = some (.int .i64 n) ∧ W.cell? ⟨w.heap.size, 2, none⟩ = some (.slice a len cap)) := Lib.hid (fun W t => mcells_of (t.keeps (t9.keeps HB1.out (fun h => h)) (fun h => h))); clear t9 c0 c1 c2)
    have hS := (Touch.refl w9 (fun _ => False)).drew
    refine wp_region_sched (fun w' => Touch w9 w' (fun _ => False)) [(0, true), (1, true), (2, true), (4, true), (5, true), (6, true), (3, false), (7, false), (8, false), (9, true)] (by kernel_rfl) (by kernel_rfl) rfl (by kernel_rfl) hS ?_
    (refine walkS_take (v := ?_) (some 10) rfl rfl (fun _ _ _ h => h) (by rfl) ?_ ?_; rotate_left; (focus (intro w' hw'; obtain ⟨c0, c1, c2⟩ := HCB.out w' hw'; have hwn := HWN.out; go_simp; (try with_reducible rfl))); (try simp only [Act.put, List.setIfInBounds_toArray, List.set_cons_zero, List.set_cons_succ]))
    (refine walkS_take (v := ?_) (some 11) rfl rfl (fun _ _ _ h => h) (by rfl) ?_ ?_; rotate_left; (focus (intro w' hw'; obtain ⟨c0, c1, c2⟩ := HCB.out w' hw'; have hwn := HWN.out; go_simp; (try with_reducible rfl))); (try simp only [Act.put, List.setIfInBounds_toArray, List.set_cons_zero, List.set_cons_succ]))
    (refine walkS_take (v := ?_) (some 12) rfl rfl (fun _ _ _ h => h) (by rfl) ?_ ?_; rotate_left; (focus (intro w' hw'; obtain ⟨c0, c1, c2⟩ := HCB.out w' hw'; have hwn := HWN.out; go_simp; (try with_reducible rfl))); (try simp only [Act.put, List.setIfInBounds_toArray, List.set_cons_zero, List.set_cons_succ]))
    (refine walkS_take (v := ?_) (some 14) rfl rfl (fun _ _ _ h => h) (by rfl) ?_ ?_; rotate_left; (focus (intro w' hw'; obtain ⟨c0, c1, c2⟩ := HCB.out w' hw'; have hwn := HWN.out; go_simp; (try with_reducible rfl))); (try simp only [Act.put, List.setIfInBounds_toArray, List.set_cons_zero, List.set_cons_succ]))
    (refine walkS_take (v := ?_) (some 15) rfl rfl (fun _ _ _ h => h) (by rfl) ?_ ?_; rotate_left; (focus (intro w' hw'; obtain ⟨c0, c1, c2⟩ := HCB.out w' hw'; have hwn := HWN.out; go_simp; (try with_reducible rfl))); (try simp only [Act.put, List.setIfInBounds_toArray, List.set_cons_zero, List.set_cons_succ]))
    (refine walkS_take (v := ?_) (some 16) rfl rfl (fun _ _ _ h => h) (by rfl) ?_ ?_; rotate_left; (focus (intro w' hw'; obtain ⟨c0, c1, c2⟩ := HCB.out w' hw'; have hwn := HWN.out; go_simp; (try with_reducible rfl))); (try simp only [Act.put, List.setIfInBounds_toArray, List.set_cons_zero, List.set_cons_succ]))
    (refine walkS_call 13 _ _ _ _ (ref_u32 n _ (by omega)) rfl rfl rfl (by rfl) rfl (enter_ru32 _ _) ?_; rintro e w2 ⟨a9, p9, rfl, hf9⟩; have hS9 := hS.trans hf9.2 (fun _ _ h => h); have hZ9 := hS9.size; have hZS := hS.size; clear hS; refine ⟨_, rfl, hS9, fun hS => ?_⟩; (try simp only [Act.put, List.setIfInBounds_toArray, List.set_cons_zero, List.set_cons_succ]))
    (refine walkS_call 17 _ _ _ _ (ref_u16 (len : Nat) w2 (by omega)) rfl rfl rfl (by rfl) rfl (enter_ru16 _ _) ?_; rintro e w3 ⟨a10, p10, rfl, hf10⟩; have hS9 := hS.trans hf10.2 (fun _ _ h => h); have hZ10 := hS9.size; have hr10 := (hf10.row').2; have ho9 := (hf9.1.base (base' := W1.heap.size) (fun j hj => by have := (hf9.1.own.lt j hj).1; have := HZW.out; omega)).touch hf10.2 (fun _ _ h => h); clear hS; refine ⟨_, rfl, hS9, fun hS => ?_⟩; (try simp only [Act.put, List.setIfInBounds_toArray, List.set_cons_zero, List.set_cons_succ]))
    (refine walkS_appB 18 _ _ 25 rfl rfl rfl (by rfl) 5 Tryd.underlying25 infoB W1.heap.size _ (beB 4 (u64N n)) rfl ho9 _ _ _ (beB 2 (u64N len)) rfl hr10 6 (beB 4 (u64N n) ++ beB 2 (u64N len)) rfl (by simp [beB_length]) (by omega) (by have := HZW.out; omega) ?_; intro a11 p11 w4 hown hrow hg hpl; have hS10 := hS.grown hg (fun j hj hlt => by have := (hf9.1.own.lt j hj).1; omega); clear hS; refine ⟨hS10, fun hS => ?_⟩; (try simp only [Act.put, List.setIfInBounds_toArray, List.set_cons_zero, List.set_cons_succ]))
    (refine walkS_take (v := ?_) (some 4) rfl rfl (fun _ _ _ h => h) (by rfl) ?_ ?_; rotate_left; (focus (intro w' hw'; obtain ⟨c0, c1, c2⟩ := HCB.out w' hw'; have hwn := HWN.out; go_simp; (try with_reducible rfl))); (try simp only [Act.put, List.setIfInBounds_toArray, List.set_cons_zero, List.set_cons_succ]))
    refine walkS_done ?_
    obtain ⟨c0, c1, c2⟩ := HCB.out _ hS10
    go_wp2_with fail
    clear c0 c1 c2
    have HT10 := Lib.hid (HT9.out.trans hS10 (fun _ _ h => h))
    have HO10 := Lib.hid hown
    clear hown hrow hg hpl ho9 hr10 hf9 hf10 hS hS10
    go_loopw [4, 22] (fun b i wr => REncAt w W1 n zs b i wr) (fun _ i _ => len - (intOf i).toNat)
    case atStart => exact ⟨0, a11, p11, Nat.zero_le _, rfl, rfl, by simpa [segsM, HL.out] using HO10.out, HT10.out⟩
    case round =>
      obtain ⟨k, a12, p12, hk, rfl, rfl, ho, ht⟩ := hrel
      rw [HL.out] at hk
      have HO := Lib.hid ho
      have HTT := Lib.hid ht
      have HRR := Lib.hid (HR.out.keep ht)
      obtain ⟨c0, c1, c2⟩ := mcells_of (ht.keeps HB1.out (fun h => h))
      clear ho ht
      by_cases hlt : k < len
      case neg =>
        obtain rfl : len = k := by omega
        have hlt' : ¬ (len : Int) < len := by omega
        have hbd : beB 4 (u64N n) ++ beB 2 (u64N zs.length) ++ segsM (zs.take len) = bodyM n zs := by rw [← HL.out, List.take_length]; rfl
        rw [hbd] at HO
        have HLN : RowKit.Hid ((bodyM n zs).length = 6 + 4 * len) := Lib.hid (by rw [bodyM_length, HL.out])
        have HEE : RowKit.Hid (encE v n zs = 0) := Lib.hid (by unfold encE; rw [HM.out]; rfl)
        have HEF : RowKit.Hid (encM v n zs = putF 100 v (bodyM n zs)) := Lib.hid (by
          have e : putE 100 v (bodyM n zs).length = 0 := by unfold putE; rw [if_neg (by omega), if_neg (by rw [HLN.out]; omega)]
          unfold encM putF; rw [HM.out, e]; rfl)
        have HPE : RowKit.Hid (putE 100 v (bodyM n zs).length = 0) := Lib.hid (by unfold putE; rw [if_neg (by omega), if_neg (by rw [HLN.out]; omega)])
        have HTX : RowKit.Hid (Touch w wr (fun _ => False)) := Lib.hid (HT1.out.trans HTT.out (fun _ _ h => h))
        generalize bodyM n zs = Y at *
        have HRB : RowKit.Hid (RowB wr a12 (6 + 4 * len) p12 Y) := Lib.hid (by
          obtain ⟨a13, c13, hv, hr, _⟩ := HO.out.row
          rw [HLN.out] at hv hr
          simp only [Value.slice.injEq, true_and] at hv
          obtain ⟨rfl, rfl⟩ := hv
          exact hr)
        clear hbd
        go_wp2_with (go_at_call 18; (with_reducible refine (rput_good 100 v _ _ _ _ _ HRB.out (by omega) (by omega) (by omega) (by omega) (by omega)).mono ?_); rintro e w10 ⟨a20, p20, rfl, hf20⟩; have HF20 := Lib.hid hf20; clear hf20)
        go_ret2
        refine ⟨a20, p20, ?_, ?_⟩
        · rw [HEE.out, HEF.out, HPE.out]; rfl
        · rw [HEF.out]
          exact ⟨HF20.out.1.base (fun k hk => by have := (HF20.out.1.own.lt k hk).1; have := HTX.out.size; omega), HTX.out.trans HF20.out.2 (fun _ _ h => h)⟩
      case pos =>
        obtain ⟨b, off, rfl, hc⟩ := HRR.out.place (by omega)
        have hk1 : k < zs.length := by rw [HL.out]; exact hlt
        have d0 := hc k hk1
        have hz := HU.out zs[k] (List.getElem_mem hk1)
        have HS : RowKit.Hid (segsM (zs.take (k + 1)) = segsM (zs.take k) ++ beB 4 (u64N zs[k])) := Lib.hid (by rw [List.take_succ_eq_append_getElem hk1, segsM_append]; simp [segsM])
        have HLS : RowKit.Hid ((beB 4 (u64N n) ++ beB 2 (u64N zs.length) ++ segsM (zs.take k)).length = 6 + 4 * k) := Lib.hid (by simp [segsM_length, beB_length]; omega)
        generalize zs[k] = z at *
        generalize HY : beB 4 (u64N n) ++ beB 2 (u64N zs.length) ++ segsM (zs.take k) = Y at *
        have HYE := Lib.hid HY
        obtain ⟨hz0, hz1⟩ := hz
        have hlI : (k : Int) < len := by omega
        clear hc HY
        go_wp2_with (first
          | (go_at_call 40; (with_reducible refine (ref_u32 z _ (by omega)).mono ?_); rintro e w6 ⟨a6, d6, rfl, hf6⟩; have hr6 := (hf6.row').2; have HR6 := Lib.hid hr6; have HO := Lib.hid (HO.out.touch hf6.2 (fun _ _ h => h)); have HTT := Lib.hid (HTT.out.trans hf6.2 (fun _ _ h => h)); clear hf6 hr6)
          | (at_builtin; have _u := HR6; refine wpList_appendB rfl _ _ 25 rfl 5 Tryd.underlying25 infoB W1.heap.size (.slice a12 (6 + 4 * k) p12) Y rfl HO.out _ _ _ (beB 4 (u64N z)) rfl HR6.out (6 + 4 * (k + 1)) (Y ++ beB 4 (u64N z)) rfl (by rw [List.length_append, HLS.out, beB_length]; omega) (by omega) HTT.out.size W1.heap.size W1 (HTT.out.below (fun _ _ h => h.elim) (Nat.le_refl _)) (Nat.le_refl _) ?_; intro a16 d16 w16 hown hrow hg hb hs hp16 hpl; have HTT := Lib.hid (HTT.out.grown hg (fun j hj hlt => by have := (HO.out.own.lt j hj).1; omega)); have HO := Lib.hid hown; clear hown hrow hg hb hs hp16 hpl))
        exact ⟨⟨k + 1, a16, d16, by rw [HL.out]; exact hlt, by go_num, rfl, by rw [HS.out, ← List.append_assoc, HYE.out]; exact HO.out, HTT.out⟩, by simp [intOf]; omega⟩
end Go.Proofs.YtibpnlhdpdfhiaaDoor
