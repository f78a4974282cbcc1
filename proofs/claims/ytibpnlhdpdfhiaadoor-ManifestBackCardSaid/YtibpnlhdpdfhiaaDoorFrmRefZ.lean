/- Frames: what the reference's Put answers. -/
import Derived.Test.YtibpnlhdpdfhiaaDoorFrmZ
import Derived.Test.YtibpnlhdpdfhiaaDoorGrowBZ
import Derived.Test.YtibpnlhdpdfhiaaDoorGBZ
import Derived.Lib.SlBytesConst
set_option linter.unusedVariables false
namespace Go.Proofs.YtibpnlhdpdfhiaaDoor
open Go.RowKit

set_option maxHeartbeats 2000000 in
theorem rput_bad (k v : Int) (a : Option Addr) (len cap : Nat) (ys : List Nat) (w : World) (hr : RowB w a len cap ys) (hy : putE k v len ≠ 0) :
    Calls Tryd.prog 18 #[.agg #[.int .i64 k, .int .i64 v, .slice a len cap]] w fun e w' => PutIs w w' k v ys e := by
  have hl := hr.1
  subst hl
  have T1 := Lib.hid ((Touch.refl w (fun _ => False)).alloc (.cells (fcs k v a ys.length cap) 33))
  clear hr
  by_cases hb : k < 0 ∨ 255 < k ∨ v < 0 ∨ 255 < v
  · have h1 : putE k v ys.length = 1 := by
      unfold putE
      rw [if_pos hb]
    have H4 := Lib.hid h1
    clear h1 hy
    by_cases h0 : k < 0
    · clear hb
      go_enter Tryd.func18, Tryd.ntmps18
      go_wp2
      go_ret2
      exact PutIs.none H4.out (by decide) T1.out
    · have g0 : 0 ≤ k := by omega
      by_cases h2 : 255 < k
      · clear hb
        go_enter Tryd.func18, Tryd.ntmps18
        go_wp2
        go_ret2
        exact PutIs.none H4.out (by decide) T1.out
      · have g1 : k ≤ 255 := by omega
        by_cases h3 : v < 0
        · clear hb
          go_enter Tryd.func18, Tryd.ntmps18
          go_wp2
          go_ret2
          exact PutIs.none H4.out (by decide) T1.out
        · have g2 : 0 ≤ v := by omega
          have g3 : 255 < v := by omega
          clear hb
          go_enter Tryd.func18, Tryd.ntmps18
          go_wp2
          go_ret2
          exact PutIs.none H4.out (by decide) T1.out
  · have h4 : putE k v ys.length = 4 ∧ 4096 < ys.length := by
      unfold putE at hy ⊢
      rw [if_neg hb] at hy ⊢
      by_cases h : 4096 < ys.length
      · rw [if_pos h]; exact ⟨rfl, h⟩
      · rw [if_neg h] at hy; omega
    have hlong : (4096 : Int) < ys.length := by omega
    have g0 : 0 ≤ k := by omega
    have g1 : k ≤ 255 := by omega
    have g2 : 0 ≤ v := by omega
    have g3 : v ≤ 255 := by omega
    have H4 := Lib.hid h4.1
    clear hb h4 hy
    go_enter Tryd.func18, Tryd.ntmps18
    go_wp2
    go_ret2
    exact PutIs.none H4.out (by decide) T1.out

set_option maxRecDepth 20000 in
set_option maxHeartbeats 4000000 in
theorem rput_good (k v : Int) (a : Option Addr) (len cap : Nat) (ys : List Nat) (w : World) (hr : RowB w a len cap ys) (hk0 : 0 ≤ k) (hk1 : k ≤ 255) (hv0 : 0 ≤ v) (hv1 : v ≤ 255) (hlen : len ≤ 4096) :
    Calls Tryd.prog 18 #[.agg #[.int .i64 k, .int .i64 v, .slice a len cap]] w fun e w' => PutIs w w' k v ys e := by
  have hl := hr.1
  have hsm := hr.2.2.2.2.1
  have hE : putE k v ys.length = 0 := by
    unfold putE
    rw [if_neg (by omega), if_neg (by omega)]
  have hF : putF k v ys = frmF k v ys := by unfold putF; rw [if_pos hE]
  obtain ⟨W1, hW1⟩ : ∃ W, w.alloc (.cells #[.int .i64 k, .int .i64 v, .slice a len cap] 33) = W := ⟨_, rfl⟩
  have t1 : Touch w W1 (fun _ => False) := hW1 ▸ (Touch.refl _ _).alloc _
  have HH1 : RowKit.Hid (W1.heap[w.heap.size]? = some (.cells (fcs k v a len cap) 33 (0, 0))) := Lib.hid (hW1 ▸ heap_alloc_new w _)
  have HSZ : RowKit.Hid (w.heap.size < W1.heap.size) := Lib.hid (by rw [← hW1]; simp)
  have HR1 := Lib.hid (hr.touch t1 (fun _ _ => .inr (fun h => h)))
  have HL := Lib.hid hl
  have HE := Lib.hid hE
  have HF := Lib.hid hF
  have HSM := Lib.hid hsm
  have HT1 := Lib.hid t1
  have hb4 : ¬ (4096 : Int) < len := by omega
  have hlt := hr.lt
  obtain ⟨W2, hW2⟩ : ∃ W, W1.alloc (.cells #[.int .u8 103, .int .u8 111, .int .u8 105, .int .u8 116] 5 (4, 5)) = W := ⟨_, rfl⟩
  have t2 : Touch W1 W2 (fun _ => False) := hW2 ▸ (Touch.refl _ _).alloc _
  have HG : RowKit.Hid (RowB W2 (some ⟨W1.heap.size, 0, none⟩) 4 4 [103, 111, 105, 116]) := Lib.hid (hW2 ▸ row_mark W1 #[.int .u8 103, .int .u8 111, .int .u8 105, .int .u8 116] (4, 5) 4 [103, 111, 105, 116] rfl rfl (by decide) (by decide))
  have HH := Lib.hid (t2.keeps HH1.out (fun h => h))
  have HT := Lib.hid (t1.trans t2 (fun _ _ h => h))
  have HR := Lib.hid (HR1.out.touch t2 (fun _ _ => .inr (fun h => h)))
  clear hr hl hE hF hsm t1 t2
  obtain ⟨c0, c1, c2⟩ := fcells_of HH1.out
  obtain ⟨d0, d1, d2⟩ := fcells_of HH.out
  have kc := fun (w : World) (C : Array Value) (n c : Nat) => Lib.run_convert_bytes_const (P := Tryd.prog) w 25 5 C n c Tryd.underlying25 Tryd.underlying5
  have hB2 : #[Value.int .u8 k, Value.int .u8 v].toList = (beB 1 (u64N k) ++ beB 1 (u64N v)).map cellB := by
    simp [beB, List.range_succ, cellB, u64N]; omega
  have hs2 : ∀ x ∈ beB 1 (u64N k) ++ beB 1 (u64N v), x < 256 := by
    intro x hx
    rcases List.mem_append.1 hx with h | h <;> exact beB_small _ _ x h
  obtain ⟨W3, hW3⟩ : ∃ W, W2.alloc (.cells #[.int .u8 k, .int .u8 v] 5) = W := ⟨_, rfl⟩
  have hr2 : RowB W3 (some ⟨W2.heap.size, 0, none⟩) 2 2 _ := hW3 ▸ row_lit W2 #[.int .u8 k, .int .u8 v] 2 _ hB2 (by simp [beB_length]) hs2 (by decide)
  have t3 : Touch W2 W3 (fun _ => False) := hW3 ▸ (Touch.refl _ _).alloc _
  have hg2 := HG.out.touch t3 (fun _ _ => .inr (fun h => h))
  have HR2 := Lib.hid hr2
  have HG2 := Lib.hid hg2
  have HT3 : RowKit.Hid (Touch W1 W3 (fun _ => False)) := Lib.hid ((hW2 ▸ (Touch.refl W1 (fun _ => False)).alloc _ : Touch W1 W2 (fun _ => False)).trans t3 (fun _ _ h => h))
  have HB2 := Lib.hid hB2
  clear hr2 hg2 hB2 hs2 t3 HG
  go_enter Tryd.func18, Tryd.ntmps18
  go_wp2_with (at_builtin; (with_reducible refine wpList_growB rfl _ _ 25 rfl 5 Tryd.underlying25 infoB _ 4 _ rfl HG2.out _ _ _ _ rfl HR2.out (by decide) 6 _ rfl rfl (by decide) ?_); intro cap4 w4 ho4 t4; have HB : RowKit.Hid (Below W1.heap.size W1 w4) := Lib.hid ((HT3.out.trans t4 (fun _ _ h => h)).under (Nat.le_refl _)); have HO := Lib.hid (ho4.base (base' := W1.heap.size) (fun k hk => by have := (ho4.own.lt k hk).1; have := HT3.out.size; omega)); clear ho4 t4; have HH := Lib.hid ((HB.out.block w.heap.size HSZ.out).trans HH1.out); have HR := Lib.hid (HR1.out.old HB.out); clear c0 c1 c2; obtain ⟨c0, c1, c2⟩ := fcells_of HH.out)
  go_wp2_with (first
    | (go_at_call 41; (with_reducible refine (ref_u16 len _ (by omega)).mono ?_); rintro e w13 ⟨a13, d13, rfl, hf13⟩; have HX := Lib.hid hf13.row'.2; have HO := Lib.hid (HO.out.touch hf13.2 (fun _ _ h => h)); have HB := Lib.hid (HB.out.trans (hf13.2.under HB.out.size)); clear hf13; have HH := Lib.hid ((HB.out.block w.heap.size HSZ.out).trans HH1.out); have HR := Lib.hid (HR1.out.old HB.out); clear c0 c1 c2; obtain ⟨c0, c1, c2⟩ := fcells_of HH.out)
    | (at_builtin; (with_reducible refine wp_appB HO.out HX.out HB.out (Nat.le_refl _) HB.out.size rfl _ _ rfl rfl rfl 8 _ rfl (by simp [beB_length]) (by omega) ?_); intro a12 d12 w12 hown hrow hg hb; have HO := Lib.hid hown; have HRW := Lib.hid hrow; have HB := Lib.hid hb; clear hown hrow hg hb; have HH := Lib.hid ((HB.out.block w.heap.size HSZ.out).trans HH1.out); have HR := Lib.hid (HR1.out.old HB.out); clear c0 c1 c2; obtain ⟨c0, c1, c2⟩ := fcells_of HH.out))
  have hhd : [103, 111, 105, 116] ++ (beB 1 (u64N k) ++ beB 1 (u64N v)) ++ beB 2 (u64N len) = frmHead k v ys.length := by rw [HL.out]; simp only [frmHead, List.append_assoc]
  have ho := HO.out
  have hrw := HRW.out
  rw [hhd] at ho hrw
  have HO := Lib.hid ho
  have HRW := Lib.hid hrw
  have HHL := Lib.hid (frmHead_length k v ys.length)
  have hcr := crcF_le (frmHead k v ys.length) (frmHead_small _ _ _)
  have hcy := crcF_le ys HSM.out
  have HFM : RowKit.Hid (frmHead k v ys.length ++ beB 4 (u64N (crcF (frmHead k v ys.length))) ++ beB 4 (u64N (crcF ys)) ++ ys = frmF k v ys) := Lib.hid rfl
  have HFL := Lib.hid (frmF_length k v ys)
  clear hhd ho hrw
  generalize frmHead k v ys.length = F at *
  generalize hCF : crcF F = CF at *
  generalize hC : crcF ys = CY at *
  have HC := Lib.hid hC
  have HCF := Lib.hid hCF
  clear hC hCF
  (with_reducible refine (rcrc_same _ _ _ _ _ HRW.out).mono ?_)
  rintro e w' ⟨rfl, hw'⟩
  subst w'
  rw [HCF.out]
  go_wp2_with (first
    | (go_at_call 40; (with_reducible refine (ref_u32 CF _ hcr).mono ?_); rintro e w13 ⟨a13, d13, rfl, hf13⟩; have HX := Lib.hid hf13.row'.2; have HO := Lib.hid (HO.out.touch hf13.2 (fun _ _ h => h)); have HB := Lib.hid (HB.out.trans (hf13.2.under HB.out.size)); clear hf13; have HH := Lib.hid ((HB.out.block w.heap.size HSZ.out).trans HH1.out); have HR := Lib.hid (HR1.out.old HB.out); clear c0 c1 c2; obtain ⟨c0, c1, c2⟩ := fcells_of HH.out)
    | (at_builtin; (with_reducible refine wp_appB HO.out HX.out HB.out (Nat.le_refl _) HB.out.size rfl _ _ rfl rfl rfl 12 _ rfl (by simp [beB_length, HHL.out]) (by omega) ?_); intro a12 d12 w12 hown hrow hg hb; have HO := Lib.hid hown; have HRW := Lib.hid hrow; have HB := Lib.hid hb; clear hown hrow hg hb; have HH := Lib.hid ((HB.out.block w.heap.size HSZ.out).trans HH1.out); have HR := Lib.hid (HR1.out.old HB.out); clear c0 c1 c2; obtain ⟨c0, c1, c2⟩ := fcells_of HH.out))
  (with_reducible refine (rcrc_same _ _ _ _ _ HR.out).mono ?_)
  rintro e w' ⟨rfl, hw'⟩
  subst w'
  rw [HC.out]
  go_wp2_with (first
    | (go_at_call 40; (with_reducible refine (ref_u32 CY _ hcy).mono ?_); rintro e w13 ⟨a13, d13, rfl, hf13⟩; have HX := Lib.hid hf13.row'.2; have HO := Lib.hid (HO.out.touch hf13.2 (fun _ _ h => h)); have HB := Lib.hid (HB.out.trans (hf13.2.under HB.out.size)); clear hf13; have HH := Lib.hid ((HB.out.block w.heap.size HSZ.out).trans HH1.out); have HR := Lib.hid (HR1.out.old HB.out); clear c0 c1 c2; obtain ⟨c0, c1, c2⟩ := fcells_of HH.out)
    | (at_builtin; (with_reducible refine wp_appB HO.out HX.out HB.out (Nat.le_refl _) HB.out.size rfl _ _ rfl rfl rfl 16 _ rfl (by simp [beB_length, HHL.out]) (by omega) ?_); intro a12 d12 w12 hown hrow hg hb; have HO := Lib.hid hown; have HRW := Lib.hid hrow; have HB := Lib.hid hb; clear hown hrow hg hb; have HH := Lib.hid ((HB.out.block w.heap.size HSZ.out).trans HH1.out); have HR := Lib.hid (HR1.out.old HB.out); clear c0 c1 c2; obtain ⟨c0, c1, c2⟩ := fcells_of HH.out)
    | (at_builtin; (with_reducible refine wp_appB HO.out HR.out HB.out (Nat.le_refl _) HB.out.size rfl _ _ rfl rfl rfl (16 + ys.length) _ rfl (by simp [beB_length, HHL.out]; omega) (by rw [HL.out]; omega) ?_); intro a12 d12 w12 hown hrow hg hb; have HO := Lib.hid hown; have HRW := Lib.hid hrow; have HB := Lib.hid hb; clear hown hrow hg hb; have HH := Lib.hid ((HB.out.block w.heap.size HSZ.out).trans HH1.out); have HR := Lib.hid (HR1.out.old HB.out); clear c0 c1 c2; obtain ⟨c0, c1, c2⟩ := fcells_of HH.out))
  go_ret2
  have hb := HB.out
  have ho := HO.out
  rw [HFM.out] at ho
  refine ⟨a12, d12, ?_, ?_⟩
  · rw [HE.out, HF.out, HFL.out]; rfl
  · rw [HF.out, HFL.out]
    exact ⟨ho.base (fun k hk => by have := (ho.own.lt k hk).1; have := HSZ.out; omega), HT1.out.trans (Touch.ofBelow (S := fun k => w.heap.size < k) hb (fun k h1 _ => by have := HSZ.out; omega)) (fun k h1 h2 => by omega)⟩
end Go.Proofs.YtibpnlhdpdfhiaaDoor
