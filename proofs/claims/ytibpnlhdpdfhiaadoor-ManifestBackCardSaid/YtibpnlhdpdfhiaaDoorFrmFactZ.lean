/- What is put is taken: the mathematics of a frame's bytes. -/
import Derived.Test.YtibpnlhdpdfhiaaDoorFrmTakeZ
set_option linter.unusedVariables false
namespace Go.Proofs.YtibpnlhdpdfhiaaDoor
open Go.RowKit

theorem four_of {α : Type} {l : List α} (h : l.length = 4) : ∃ a b c d, l = [a, b, c, d] := by
  match l, h with
  | [a, b, c, d], _ => exact ⟨a, b, c, d, rfl⟩
theorem frm_cons (k v : Int) (ys : List Nat) : ∃ x4 x5 x6 x7 x8 x9 x10 x11 x12 x13 x14 x15,
    frmHead k v ys.length = [103, 111, 105, 116, x4, x5, x6, x7] ∧ frmF k v ys = [103, 111, 105, 116, x4, x5, x6, x7, x8, x9, x10, x11, x12, x13, x14, x15] ++ ys ∧
    x4 = u64N k % 256 ∧ x5 = u64N v % 256 ∧ x6 = u64N ys.length / 256 % 256 ∧ x7 = u64N ys.length % 256 ∧
    [x8, x9, x10, x11] = beB 4 (u64N (crcF (frmHead k v ys.length))) ∧ [x12, x13, x14, x15] = beB 4 (u64N (crcF ys)) := by
  obtain ⟨a, b, c, d, h1⟩ := four_of (beB_length 4 (u64N (crcF (frmHead k v ys.length))))
  obtain ⟨e, f, g, h, h2⟩ := four_of (beB_length 4 (u64N (crcF ys)))
  have hh : frmHead k v ys.length = [103, 111, 105, 116, u64N k % 256, u64N v % 256, u64N ys.length / 256 % 256, u64N ys.length % 256] := by simp [frmHead, beB, List.range_succ]
  refine ⟨u64N k % 256, u64N v % 256, u64N ys.length / 256 % 256, u64N ys.length % 256, a, b, c, d, e, f, g, h, hh, ?_, rfl, rfl, rfl, rfl, h1.symm, h2.symm⟩
  unfold frmF
  rw [h1, h2, hh]; rfl
theorem beN4_be (x : Nat) (h : x < 4294967296) : beN (beB 4 x) = x := by
  simp [beB, List.range_succ, beN]; omega
theorem crc_u64 (xs : List Nat) (h : ∀ x ∈ xs, x < 256) : u64N (crcF xs) < 4294967296 ∧ ((u64N (crcF xs) : Nat) : Int) = crcF xs := by
  have := crcF_le xs h
  unfold u64N; omega

/-- What Take says of a frame that was put, whatever comes behind it. -/
theorem take_frm (k v : Int) (ys zs : List Nat) (hk0 : 0 ≤ k) (hk1 : k ≤ 255) (hv0 : 0 ≤ v) (hv1 : v ≤ 255) (hl : ys.length ≤ 4096) (hys : ∀ x ∈ ys, x < 256) :
    tkE (frmF k v ys ++ zs) = 0 ∧ (tkK (frmF k v ys ++ zs) : Int) = k ∧ (tkV (frmF k v ys ++ zs) : Int) = v ∧ tkM (frmF k v ys ++ zs) = 16 + ys.length ∧ tkY (frmF k v ys ++ zs) = ys := by
  obtain ⟨x4, x5, x6, x7, x8, x9, x10, x11, x12, x13, x14, x15, h1, h2, e4, e5, e6, e7, e8, e12⟩ := frm_cons k v ys
  have hc := crc_u64 (frmHead k v ys.length) (frmHead_small _ _ _)
  have hy := crc_u64 ys hys
  have n8 : beN [x8, x9, x10, x11] = u64N (crcF (frmHead k v ys.length)) := by rw [e8]; exact beN4_be _ hc.1
  have n12 : beN [x12, x13, x14, x15] = u64N (crcF ys) := by rw [e12]; exact beN4_be _ hy.1
  have hn : x6 * 256 + x7 = ys.length := by rw [e6, e7]; unfold u64N; omega
  have hk : (x4 : Int) = k := by rw [e4]; unfold u64N; omega
  have hv : (x5 : Int) = v := by rw [e5]; unfold u64N; omega
  rw [h2]
  have hN : tkN ([103, 111, 105, 116, x4, x5, x6, x7, x8, x9, x10, x11, x12, x13, x14, x15] ++ ys ++ zs) = ys.length := hn
  have h8 : b4 ([103, 111, 105, 116, x4, x5, x6, x7, x8, x9, x10, x11, x12, x13, x14, x15] ++ ys ++ zs) 8 = u64N (crcF (frmHead k v ys.length)) := n8
  have h12 : b4 ([103, 111, 105, 116, x4, x5, x6, x7, x8, x9, x10, x11, x12, x13, x14, x15] ++ ys ++ zs) 12 = u64N (crcF ys) := n12
  have hb : ([103, 111, 105, 116, x4, x5, x6, x7, x8, x9, x10, x11, x12, x13, x14, x15] ++ ys ++ zs : List Nat).take 8 = frmHead k v ys.length := by rw [h1]; rfl
  have hm : ([103, 111, 105, 116, x4, x5, x6, x7, x8, x9, x10, x11, x12, x13, x14, x15] ++ ys ++ zs : List Nat).take 4 = [103, 111, 105, 116] := rfl
  have hY : (([103, 111, 105, 116, x4, x5, x6, x7, x8, x9, x10, x11, x12, x13, x14, x15] ++ ys ++ zs : List Nat).take (16 + ys.length)).drop 16 = ys := by
    have e : ([103, 111, 105, 116, x4, x5, x6, x7, x8, x9, x10, x11, x12, x13, x14, x15] ++ ys ++ zs : List Nat).take (16 + ys.length) = [103, 111, 105, 116, x4, x5, x6, x7, x8, x9, x10, x11, x12, x13, x14, x15] ++ ys := by
      apply List.take_left'
      simp; omega
    rw [e]; rfl
  have g4 : gb ([103, 111, 105, 116, x4, x5, x6, x7, x8, x9, x10, x11, x12, x13, x14, x15] ++ ys ++ zs) 4 = x4 := rfl
  have g5 : gb ([103, 111, 105, 116, x4, x5, x6, x7, x8, x9, x10, x11, x12, x13, x14, x15] ++ ys ++ zs) 5 = x5 := rfl
  have hlen : ([103, 111, 105, 116, x4, x5, x6, x7, x8, x9, x10, x11, x12, x13, x14, x15] ++ ys ++ zs : List Nat).length = 16 + ys.length + zs.length := by simp; omega
  generalize ([103, 111, 105, 116, x4, x5, x6, x7, x8, x9, x10, x11, x12, x13, x14, x15] ++ ys ++ zs : List Nat) = L at *
  have hh : hdE L = 0 := by
    unfold hdE
    rw [if_neg (by omega), if_neg (fun h => h hm), if_neg (fun h => h (by rw [h8, hb]; exact hc.2)), if_neg (by omega)]
  have hE : tkE L = 0 := by
    unfold tkE
    rw [if_neg (fun h => h hh), if_neg (by omega), if_neg (fun h => h (by rw [h12, hN, hY]; exact hy.2))]
  refine ⟨hE, ?_, ?_, ?_, ?_⟩
  · unfold tkK; rw [if_pos hE, g4]; exact hk
  · unfold tkV; rw [if_pos hE, g5]; exact hv
  · unfold tkM; rw [if_pos hE, hN]
  · unfold tkY; rw [if_pos hE, hN]; exact hY
end Go.Proofs.YtibpnlhdpdfhiaaDoor
