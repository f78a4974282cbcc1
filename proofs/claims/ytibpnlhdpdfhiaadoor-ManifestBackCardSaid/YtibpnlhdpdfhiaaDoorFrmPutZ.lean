/- What Put of package frame answers: where a frame may be put. -/
import Derived.Test.YtibpnlhdpdfhiaaDoorFrmZ
import Derived.Lib.SlBytesConst
set_option linter.unusedVariables false
namespace Go.Proofs.YtibpnlhdpdfhiaaDoor
open Go.RowKit

set_option maxRecDepth 20000 in
set_option maxHeartbeats 4000000 in
theorem put_good (k v : Int) (a : Option Addr) (len cap : Nat) (ys : List Nat) (w : World) (hr : RowB w a len cap ys) (hk0 : 0 ≤ k) (hk1 : k ≤ 255) (hv0 : 0 ≤ v) (hv1 : v ≤ 255) (hlen : len ≤ 4096) :
    Calls Tryd.prog 38 #[.agg #[.int .i64 k, .int .i64 v, .slice a len cap]] w fun e w' => PutIs w w' k v ys e := by
  have hl := hr.1
  have hsm := hr.2.2.2.2.1
  have hE : putE k v ys.length = 0 := by
    unfold putE
    rw [if_neg (by omega), if_neg (by omega)]
  have hF : putF k v ys = frmF k v ys := by unfold putF; rw [if_pos hE]
  obtain ⟨W1, hW1⟩ : ∃ W, w.alloc (.cells #[.int .i64 k, .int .i64 v, .slice a len cap] 33) = W := ⟨_, rfl⟩
  have t1 : Touch w W1 (fun _ => False) := hW1 ▸ (Touch.refl _ _).alloc _
  have HH1 : RowKit.Hid (W1.heap[w.heap.size]? = some (.cells (fcs k v a len cap) 33 (0, 0))) := Lib.hid (hW1 ▸ heap_alloc_new w _)
  obtain ⟨W2, hW2⟩ : ∃ W, W1.alloc (.cells #[.slice none 0 0] 62) = W := ⟨_, rfl⟩
  have HW : RowKit.Hid (WrE W2 W1.heap.size W1.heap.size []) := Lib.hid (hW2 ▸ WrE.fresh W1)
  have HB : RowKit.Hid (Below W1.heap.size W1 W2) := Lib.hid (hW2 ▸ (Below.refl _ _).alloc (Nat.le_refl _) _)
  have HSZ : RowKit.Hid (w.heap.size < W1.heap.size) := Lib.hid (by rw [← hW1]; simp)
  have HH2 := Lib.hid ((HB.out.block w.heap.size HSZ.out).trans HH1.out)
  have HR1 := Lib.hid (hr.touch t1 (fun _ _ => .inr (fun h => h)))
  have HL := Lib.hid hl
  have HE := Lib.hid hE
  have HF := Lib.hid hF
  have HSM := Lib.hid hsm
  have HT1 := Lib.hid t1
  have hb4 : ¬ (4096 : Int) < len := by omega
  have hlt := hr.lt
  have HR : RowKit.Hid (RowB W2 a len cap ys) := Lib.hid (HR1.out.old HB.out)
  clear hr hl hE hF hsm t1
  obtain ⟨c0, c1, c2⟩ := fcells_of HH1.out
  have kc := fun (w : World) (C : Array Value) (n c : Nat) => Lib.run_convert_bytes_const (P := Tryd.prog) w 25 5 C n c Tryd.underlying25 Tryd.underlying5
  go_enter Tryd.func38, Tryd.ntmps38
  go_wp2_with (go_at_call 70; (with_reducible refine (isOct_yes _ _ (by omega) (by omega)).mono ?_); rintro e w' ⟨rfl, rfl⟩)
  have hg := row_mark W2 #[.int .u8 103, .int .u8 111, .int .u8 105, .int .u8 116] (4, 5) 4 [103, 111, 105, 116] rfl rfl (by decide) (by decide)
  have hw2 := HW.out.still ((Touch.refl W2 (fun _ => False)).alloc (.cells #[.int .u8 103, .int .u8 111, .int .u8 105, .int .u8 116] 5 (4, 5)))
  have HB := Lib.hid (HB.out.alloc HB.out.size (.cells #[.int .u8 103, .int .u8 111, .int .u8 105, .int .u8 116] 5 (4, 5)))
  clear HW kc
  (with_reducible refine (e_wRaw _ _ _ _ _ _ _ _ hw2 hg (by decide)).mono ?_)
  rintro e w9 ⟨rfl, hw9, hb9⟩
  have HW := Lib.hid hw9
  have HB := Lib.hid (HB.out.trans hb9)
  have HH := Lib.hid ((HB.out.block w.heap.size HSZ.out).trans HH1.out)
  have HR := Lib.hid (HR1.out.old HB.out)
  clear c0 c1 c2 hb9
  obtain ⟨c0, c1, c2⟩ := fcells_of HH.out
  clear hw9 hw2 hg
  go_wp2_with (first
    | (go_at_call 72; (with_reducible refine (e_wU8 _ _ _ _ _ HW.out (by omega) (by simp [beB_length])).mono ?_); rintro e w9 ⟨rfl, hw9, hb9⟩; have HW := Lib.hid hw9; clear hw9; have HB := Lib.hid (HB.out.trans hb9); have HH := Lib.hid ((HB.out.block w.heap.size HSZ.out).trans HH1.out); have HR := Lib.hid (HR1.out.old HB.out); clear c0 c1 c2 hb9; obtain ⟨c0, c1, c2⟩ := fcells_of HH.out)
    | (go_at_call 37; (with_reducible refine (e_wU16 _ _ _ _ _ HW.out (by omega) (by simp [beB_length])).mono ?_); rintro e w9 ⟨rfl, hw9, hb9⟩; have HW := Lib.hid hw9; clear hw9; have HB := Lib.hid (HB.out.trans hb9); have HH := Lib.hid ((HB.out.block w.heap.size HSZ.out).trans HH1.out); have HR := Lib.hid (HR1.out.old HB.out); clear c0 c1 c2 hb9; obtain ⟨c0, c1, c2⟩ := fcells_of HH.out))
  have hhd : [] ++ [103, 111, 105, 116] ++ beB 1 (u64N k) ++ beB 1 (u64N v) ++ beB 2 (u64N len) = frmHead k v ys.length := by rw [HL.out]; rfl
  have hw := HW.out
  rw [hhd] at hw
  have HHL := Lib.hid (frmHead_length k v ys.length)
  have hcr := crcF_le (frmHead k v ys.length) (frmHead_small _ _ _)
  have hcy := crcF_le ys HSM.out
  have HFM : RowKit.Hid (frmHead k v ys.length ++ beB 4 (u64N (crcF (frmHead k v ys.length))) ++ beB 4 (u64N (crcF ys)) ++ ys = frmF k v ys) := Lib.hid rfl
  have HFL := Lib.hid (frmF_length k v ys)
  clear hhd HW
  generalize frmHead k v ys.length = F at *
  generalize hCF : crcF F = CF at *
  generalize hC : crcF ys = CY at *
  have HC := Lib.hid hC
  have HCF := Lib.hid hCF
  clear hC hCF
  (with_reducible refine (e_wBytes _ _ _ _ hw (by rw [HHL.out]; decide) 8 HHL.out).mono ?_)
  rintro e w9 ⟨a9, p9, rfl, hf9⟩
  obtain ⟨-, hr9⟩ := hf9.row'
  have t9 := hf9.2
  have HW := Lib.hid (hw.still t9)
  have hb9 := t9.under hw.1
  have HB := Lib.hid (HB.out.trans hb9)
  have HH := Lib.hid ((HB.out.block w.heap.size HSZ.out).trans HH1.out)
  have HR := Lib.hid (HR1.out.old HB.out)
  clear c0 c1 c2 hb9
  obtain ⟨c0, c1, c2⟩ := fcells_of HH.out
  clear hf9 t9 hw
  go_wp2_with (first
    | (go_at_call 73; first | ((with_reducible refine (crc_same _ _ _ _ _ hr9).mono ?_); rintro e w' ⟨rfl, hw'⟩; subst w'; rw [HCF.out]) | ((with_reducible refine (crc_same _ _ _ _ _ HR.out).mono ?_); rintro e w' ⟨rfl, hw'⟩; subst w'; rw [HC.out]))
    | (go_at_call 36; (with_reducible refine (e_wU32 _ _ _ _ _ HW.out (by omega) (by simp [beB_length, HHL.out])).mono ?_); rintro e w9 ⟨rfl, hw9, hb9⟩; have HW := Lib.hid hw9; clear hw9; have HB := Lib.hid (HB.out.trans hb9); have HH := Lib.hid ((HB.out.block w.heap.size HSZ.out).trans HH1.out); have HR := Lib.hid (HR1.out.old HB.out); clear c0 c1 c2 hb9; obtain ⟨c0, c1, c2⟩ := fcells_of HH.out)
    | (go_at_call 71; (with_reducible refine (e_wRaw _ _ _ _ _ _ _ _ HW.out HR.out (by simp [beB_length, HHL.out]; omega)).mono ?_); rintro e w9 ⟨rfl, hw9, hb9⟩; have HW := Lib.hid hw9; clear hw9; have HB := Lib.hid (HB.out.trans hb9); have HH := Lib.hid ((HB.out.block w.heap.size HSZ.out).trans HH1.out); have HR := Lib.hid (HR1.out.old HB.out); clear c0 c1 c2 hb9; obtain ⟨c0, c1, c2⟩ := fcells_of HH.out))
  have hw := HW.out
  rw [HFM.out] at hw
  (with_reducible refine (e_wBytes _ _ _ _ hw (by rw [HFL.out, HL.out]; omega) (16 + ys.length) HFL.out).mono ?_)
  rintro e w10 ⟨a10, p10, rfl, hf10⟩
  have T1 := HT1.out.trans (Touch.ofBelow (S := fun k => w.heap.size < k) HB.out (fun k h1 _ => by have := HSZ.out; omega)) (fun k h1 h2 => by omega)
  have HF10 := Lib.hid hf10
  have HT := Lib.hid T1
  clear hf10 hw HW T1
  go_wp2_with fail
  go_ret2
  have ho := HF10.out.1
  refine ⟨a10, p10, ?_, ?_⟩
  · rw [HE.out, HF.out, HFL.out]; rfl
  · rw [HF.out, HFL.out]
    exact ⟨ho.base (fun k hk => by have := (ho.own.lt k hk).1; have := HT.out.size; omega), HT.out.trans HF10.out.2 (fun _ _ h => h)⟩
end Go.Proofs.YtibpnlhdpdfhiaaDoor
