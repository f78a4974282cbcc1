/- The reference's Addr: four numbers. -/
import Derived.Test.YtgpchkobjgglhaaGreatDoorGBZ
import Derived.Test.YtgpchkobjgglhaaGreatDoorGnTextMZ
import Derived.Test.YtgpchkobjgglhaaGreatDoorTupTextZ
set_option linter.unusedVariables false
set_option linter.unusedSimpArgs false
namespace Go.Proofs.YtgpchkobjgglhaaGreatDoor
open Go.RowKit

def pfxL (x : Int) (k : Nat) : List UInt8 := Lib.join ((partsL x).take k) [46]
theorem pfx_0 (x : Int) : pfxL x 0 = [] := rfl
theorem pfx_1 (x : Int) : pfxL x 1 = Lib.itoa (x / 16777216) := by simp [pfxL, partsL, Lib.join_cons, Lib.joinTail]
theorem pfx_2 (x : Int) : pfxL x 2 = pfxL x 1 ++ [46] ++ Lib.itoa (x / 65536 % 256) := by simp [pfxL, partsL, Lib.join_cons, Lib.joinTail]
theorem pfx_3 (x : Int) : pfxL x 3 = pfxL x 2 ++ [46] ++ Lib.itoa (x / 256 % 256) := by simp [pfxL, partsL, Lib.join_cons, Lib.joinTail]
theorem pfx_4 (x : Int) : pfxL x 4 = pfxL x 3 ++ [46] ++ Lib.itoa (x % 256) := by simp [pfxL, partsL, Lib.join_cons, Lib.joinTail]
theorem pfx_addr (x : Int) : pfxL x 4 = addrL x := rfl
theorem pfx_len (x : Int) (h0 : 0 ≤ x) (h1 : x ≤ 4294967295) (k : Nat) (hk : k ≤ 4) : (pfxL x k).length ≤ 87 := by
  have h4 := addrL_len x h0 h1
  rw [← pfx_addr, pfx_4, pfx_3, pfx_2] at h4
  simp only [List.length_append, List.length_cons, List.length_nil] at h4
  rcases (show k = 0 ∨ k = 1 ∨ k = 2 ∨ k = 3 ∨ k = 4 by omega) with rfl | rfl | rfl | rfl | rfl
  · simp [pfx_0]
  · omega
  · rw [pfx_2]; simp only [List.length_append, List.length_cons, List.length_nil]; omega
  · rw [pfx_3, pfx_2]; simp only [List.length_append, List.length_cons, List.length_nil]; omega
  · rw [pfx_4, pfx_3, pfx_2]; simp only [List.length_append, List.length_cons, List.length_nil]; omega
def byteK (x : Int) (k : Nat) : Int := if k = 0 then x / 16777216 else if k = 1 then x / 65536 % 256 else if k = 2 then x / 256 % 256 else x % 256
theorem byte_be (x : Int) (h0 : 0 ≤ x) (h1 : x ≤ 4294967295) : beB 4 (u64N x) = [(byteK x 0).toNat, (byteK x 1).toNat, (byteK x 2).toNat, (byteK x 3).toNat] := by
  simp [beB, List.range_succ, u64N, byteK]
  omega
set_option maxRecDepth 20000 in
set_option maxHeartbeats 4000000 in
theorem raddr_any (x : Int) (w : World) (h0 : 0 ≤ x) (h1 : x ≤ 4294967295) (hT : TabW w) :
    Calls Tryz.prog 40 #[.int .u32 x] w fun e w' => e = .returned (.string (mkS (addrL x))) ∧ Touch w w' (fun _ => False) := by
  have HT0 := Lib.hid hT
  have HU := Lib.hid (ref_u32 x w ⟨h0, h1⟩)
  go_enter Tryz.func40, Tryz.ntmps40
  go_wp2_with fail
  refine HU.out.mono ?_
  rintro e w1 ⟨a', c', rfl, hf⟩
  have HF := Lib.hid hf
  have hcap := (hf.row'.2).2.1
  clear hf
  go_wp2_with fail
  go_loopw [3, 9] (fun s3 s9 wr => ∃ k : Nat, k ≤ 4 ∧ s9 = .int .i64 k ∧ s3 = .string (mkS (pfxL x k)) ∧ Touch w1 wr (fun _ => False)) (fun _ s9 _ => 4 - (RowKit.intOf s9).toNat)
  case atStart => exact ⟨0, by omega, rfl, rfl, Touch.refl _ _⟩
  case round =>
    obtain ⟨k, hk, rfl, rfl, ht⟩ := hrel
    have HT := Lib.hid ht
    by_cases hlt : k < 4
    case neg =>
      obtain rfl : k = 4 := by omega
      have HX : RowKit.Hid (Touch w wr (fun _ => False)) := Lib.hid (HF.out.2.trans ht (fun _ _ h => h))
      rw [pfx_addr]
      clear ht
      go_wp2_with fail
      go_ret
      exact ⟨rfl, HX.out⟩
    case pos =>
    have hrow := HF.out.row'.2.touch ht (fun _ _ => .inr (fun h => h))
    rw [byte_be x h0 h1] at hrow
    obtain ⟨-, -, -, -, -, hrow⟩ := hrow
    obtain hrow | ⟨b, off, rfl, hc⟩ := hrow
    · cases hrow
    have hp := pfx_len x h0 h1 k hk
    rw [← mkS_size] at hp
    have hb : 0 ≤ byteK x k ∧ byteK x k ≤ 255 := by unfold byteK; split <;> (try split) <;> (try split) <;> omega
    have HI := Lib.hid (itoa_call (byteK x k) wr (by omega) (by omega) ((HT0.out.touch HF.out.2).touch ht))
    have hil : (mkS (Lib.itoa (byteK x k))).size ≤ 21 := by rw [mkS_size]; exact Lib.itoa_length_le _ (by omega) (by omega)
    have HB := Lib.hid hb
    have HTW : RowKit.Hid (∀ W, Touch wr W (fun _ => False) → Touch w1 W (fun _ => False)) := Lib.hid (fun W t => HT.out.trans t (fun _ _ h => h))
    clear ht
    rcases (show k = 0 ∨ k = 1 ∨ k = 2 ∨ k = 3 by omega) with rfl | rfl | rfl | rfl
    · have cc := hc 0 (by simp)
      have HE : RowKit.Hid (mkS (pfxL x 1) = mkS (pfxL x 0) ++ mkS (Lib.itoa (byteK x 0))) := Lib.hid (by rw [mkS_append, pfx_0, pfx_1]; rfl)
      simp only [List.getElem_cons_zero, List.getElem_cons_succ, Nat.add_zero] at cc
      have hbb : (((byteK x 0).toNat : Nat) : Int) = byteK x 0 := by have := HB.out; omega
      rw [hbb] at cc
      clear hc hbb
      generalize mkS (Lib.itoa (byteK x 0)) = si at *
      generalize mkS (pfxL x 0) = sp at *
      generalize byteK x 0 = y at *
      obtain ⟨y0, y1⟩ := hb
      go_wp2_with fail
      (with_reducible refine HI.out.mono ?_)
      rintro e w2 ⟨rfl, t2⟩
      have HT2 := Lib.hid (HTW.out _ t2)
      clear t2 cc
      go_wp2_with fail
      go_roundw
      · exact ⟨1, by omega, rfl, (by first | (rw [HE.out]; done) | (rw [HE.out]; rfl)), HT2.out⟩
      · (try simp [RowKit.intOf])
    · have cc := hc 1 (by simp)
      have HE : RowKit.Hid (mkS (pfxL x 2) = mkS (pfxL x 1) ++ mkS [46] ++ mkS (Lib.itoa (byteK x 1))) := Lib.hid (by rw [mkS_append, mkS_append, pfx_2]; rfl)
      simp only [List.getElem_cons_zero, List.getElem_cons_succ, Nat.add_zero] at cc
      have hbb : (((byteK x 1).toNat : Nat) : Int) = byteK x 1 := by have := HB.out; omega
      rw [hbb] at cc
      clear hc hbb
      generalize mkS (Lib.itoa (byteK x 1)) = si at *
      generalize mkS (pfxL x 1) = sp at *
      generalize byteK x 1 = y at *
      obtain ⟨y0, y1⟩ := hb
      go_wp2_with fail
      (with_reducible refine HI.out.mono ?_)
      rintro e w2 ⟨rfl, t2⟩
      have HT2 := Lib.hid (HTW.out _ t2)
      clear t2 cc
      go_wp2_with fail
      go_roundw
      · exact ⟨2, by omega, rfl, (by first | (rw [HE.out]; done) | (rw [HE.out]; rfl)), HT2.out⟩
      · (try simp [RowKit.intOf])
    · have cc := hc 2 (by simp)
      have HE : RowKit.Hid (mkS (pfxL x 3) = mkS (pfxL x 2) ++ mkS [46] ++ mkS (Lib.itoa (byteK x 2))) := Lib.hid (by rw [mkS_append, mkS_append, pfx_3]; rfl)
      simp only [List.getElem_cons_zero, List.getElem_cons_succ, Nat.add_zero] at cc
      have hbb : (((byteK x 2).toNat : Nat) : Int) = byteK x 2 := by have := HB.out; omega
      rw [hbb] at cc
      clear hc hbb
      generalize mkS (Lib.itoa (byteK x 2)) = si at *
      generalize mkS (pfxL x 2) = sp at *
      generalize byteK x 2 = y at *
      obtain ⟨y0, y1⟩ := hb
      go_wp2_with fail
      (with_reducible refine HI.out.mono ?_)
      rintro e w2 ⟨rfl, t2⟩
      have HT2 := Lib.hid (HTW.out _ t2)
      clear t2 cc
      go_wp2_with fail
      go_roundw
      · exact ⟨3, by omega, rfl, (by first | (rw [HE.out]; done) | (rw [HE.out]; rfl)), HT2.out⟩
      · (try simp [RowKit.intOf])
    · have cc := hc 3 (by simp)
      have HE : RowKit.Hid (mkS (pfxL x 4) = mkS (pfxL x 3) ++ mkS [46] ++ mkS (Lib.itoa (byteK x 3))) := Lib.hid (by rw [mkS_append, mkS_append, pfx_4]; rfl)
      simp only [List.getElem_cons_zero, List.getElem_cons_succ, Nat.add_zero] at cc
      have hbb : (((byteK x 3).toNat : Nat) : Int) = byteK x 3 := by have := HB.out; omega
      rw [hbb] at cc
      clear hc hbb
      generalize mkS (Lib.itoa (byteK x 3)) = si at *
      generalize mkS (pfxL x 3) = sp at *
      generalize byteK x 3 = y at *
      obtain ⟨y0, y1⟩ := hb
      go_wp2_with fail
      (with_reducible refine HI.out.mono ?_)
      rintro e w2 ⟨rfl, t2⟩
      have HT2 := Lib.hid (HTW.out _ t2)
      clear t2 cc
      go_wp2_with fail
      go_roundw
      · exact ⟨4, by omega, rfl, (by first | (rw [HE.out]; done) | (rw [HE.out]; rfl)), HT2.out⟩
      · (try simp [RowKit.intOf])
end Go.Proofs.YtgpchkobjgglhaaGreatDoor
