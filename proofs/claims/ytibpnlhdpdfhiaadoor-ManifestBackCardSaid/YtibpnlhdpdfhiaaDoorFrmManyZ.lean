/- Frames put one behind the other are scanned as they were; of a beginning those that are whole. -/
import Derived.Test.YtibpnlhdpdfhiaaDoorFrmInZ
set_option linter.unusedVariables false
namespace Go.Proofs.YtibpnlhdpdfhiaaDoor
open Go.RowKit

/-- May it be put? -/
def okF (f : Int × Int × List Nat) : Prop := 0 ≤ f.1 ∧ f.1 ≤ 255 ∧ 0 ≤ f.2.1 ∧ f.2.1 ≤ 255 ∧ f.2.2.length ≤ 4096 ∧ ∀ x ∈ f.2.2, x < 256
def putsF (l : List (Int × Int × List Nat)) : List Nat := l.flatMap (fun f => frmF f.1 f.2.1 f.2.2)
theorem frm_ne (k v : Int) (ys zs : List Nat) : frmF k v ys ++ zs ≠ [] := by
  intro h
  have := congrArg List.length h
  rw [List.length_append, frmF_length] at this
  simp at this
theorem scan_puts : ∀ (l : List (Int × Int × List Nat)) (zs : List Nat), (∀ f ∈ l, okF f) → scanX (putsF l ++ zs) = (l ++ (scanX zs).1, (putsF l).length + (scanX zs).2.1, (scanX zs).2.2)
  | [], zs, _ => by simp [putsF]
  | f :: r, zs, h => by
    obtain ⟨k, v, ys⟩ := f
    obtain ⟨h1, h2, h3, h4, h5, h6⟩ := h _ (List.mem_cons_self ..)
    have ih := scan_puts r zs (fun g hg => h g (List.mem_cons_of_mem _ hg))
    simp only at h1 h2 h3 h4 h5 h6
    have e : putsF ((k, v, ys) :: r) ++ zs = frmF k v ys ++ (putsF r ++ zs) := by simp [putsF]
    obtain ⟨t1, t2, t3, t4, t5⟩ := take_frm k v ys (putsF r ++ zs) h1 h2 h3 h4 h5 h6
    rw [e, scanX_cons (frm_ne _ _ _ _) t1, t2, t3, t4, t5]
    have hd : (frmF k v ys ++ (putsF r ++ zs)).drop (16 + ys.length) = putsF r ++ zs := by
      rw [← frmF_length k v ys]; exact List.drop_left
    rw [hd, ih]
    simp [putsF, frmF_length]
    omega
theorem scan_all (l : List (Int × Int × List Nat)) (h : ∀ f ∈ l, okF f) : scanX (putsF l) = (l, (putsF l).length, 0) := by
  have := scan_puts l [] h
  rw [List.append_nil, scanX_nil] at this
  simpa using this
/-- A beginning of a frame is short. -/
theorem frm_short (k v : Int) (ys : List Nat) (n : Nat) (hk0 : 0 ≤ k) (hk1 : k ≤ 255) (hv0 : 0 ≤ v) (hv1 : v ≤ 255) (hl : ys.length ≤ 4096) (hys : ∀ x ∈ ys, x < 256) (hn : n < (frmF k v ys).length) :
    tkE ((frmF k v ys).take n) = 2 := by
  have hfl := frmF_length k v ys
  by_cases h16 : n < 16
  · have hh : hdE ((frmF k v ys).take n) = 2 := by unfold hdE; rw [if_pos (by simp; omega)]
    unfold tkE; rw [hh, if_pos (by omega)]
  · have hcut : (frmF k v ys).take n = ((frmF k v ys).take 16) ++ ((frmF k v ys).take n).drop 16 := by
      have := List.take_append_drop 16 ((frmF k v ys).take n)
      rw [List.take_take, show min 16 n = 16 from by omega] at this
      exact this.symm
    obtain ⟨x4, x5, x6, x7, x8, x9, x10, x11, x12, x13, x14, x15, h1, h2, e4, e5, e6, e7, e8, e12⟩ := frm_cons k v ys
    have hc := crc_u64 (frmHead k v ys.length) (frmHead_small _ _ _)
    have n8 : beN [x8, x9, x10, x11] = u64N (crcF (frmHead k v ys.length)) := by rw [e8]; exact beN4_be _ hc.1
    have hnn : x6 * 256 + x7 = ys.length := by rw [e6, e7]; unfold u64N; omega
    have h16' : (frmF k v ys).take 16 = [103, 111, 105, 116, x4, x5, x6, x7, x8, x9, x10, x11, x12, x13, x14, x15] := by rw [h2]; rfl
    have hlen : ((frmF k v ys).take n).length = n := by simp; omega
    rw [h16'] at hcut
    generalize ((frmF k v ys).take n).drop 16 = R at *
    rw [hcut] at hlen ⊢
    have hN : tkN ([103, 111, 105, 116, x4, x5, x6, x7, x8, x9, x10, x11, x12, x13, x14, x15] ++ R) = ys.length := hnn
    have h8 : b4 ([103, 111, 105, 116, x4, x5, x6, x7, x8, x9, x10, x11, x12, x13, x14, x15] ++ R) 8 = u64N (crcF (frmHead k v ys.length)) := n8
    have hb : ([103, 111, 105, 116, x4, x5, x6, x7, x8, x9, x10, x11, x12, x13, x14, x15] ++ R : List Nat).take 8 = frmHead k v ys.length := by rw [h1]; rfl
    have hm : ([103, 111, 105, 116, x4, x5, x6, x7, x8, x9, x10, x11, x12, x13, x14, x15] ++ R : List Nat).take 4 = [103, 111, 105, 116] := rfl
    generalize ([103, 111, 105, 116, x4, x5, x6, x7, x8, x9, x10, x11, x12, x13, x14, x15] ++ R : List Nat) = L at *
    have hh : hdE L = 0 := by
      unfold hdE
      rw [if_neg (by omega), if_neg (fun h => h hm), if_neg (fun h => h (by rw [h8, hb]; exact hc.2)), if_neg (by omega)]
    unfold tkE
    rw [if_neg (fun h => h hh), if_pos (by omega)]
/-- The ends of frames one behind the other. -/
def endsF : List (Int × Int × List Nat) → List Nat
  | [] => []
  | f :: r => (16 + f.2.2.length) :: (endsF r).map (16 + f.2.2.length + ·)
theorem endsF_length : ∀ l, (endsF l).length = l.length
  | [] => rfl
  | f :: r => by simp [endsF, endsF_length r]
theorem putsF_snoc (l : List (Int × Int × List Nat)) (f : Int × Int × List Nat) : putsF (l ++ [f]) = putsF l ++ frmF f.1 f.2.1 f.2.2 := by simp [putsF]
theorem putsF_cons (f : Int × Int × List Nat) (l : List (Int × Int × List Nat)) : putsF (f :: l) = frmF f.1 f.2.1 f.2.2 ++ putsF l := by simp [putsF]
theorem putsF_append (l r : List (Int × Int × List Nat)) : putsF (l ++ r) = putsF l ++ putsF r := by simp [putsF]
/-- Of the first n bytes those frames are told that are whole in them. -/
theorem scan_cut (l r : List (Int × Int × List Nat)) (f : Int × Int × List Nat) (n : Nat) (h : ∀ g ∈ l ++ f :: r, okF g) (h1 : (putsF l).length ≤ n) (h2 : n < (putsF (l ++ [f])).length) :
    scanX ((putsF (l ++ f :: r)).take n) = (l, (putsF l).length, if n = (putsF l).length then 0 else 2) := by
  obtain ⟨k, v, ys⟩ := f
  obtain ⟨g1, g2, g3, g4, g5, g6⟩ := h (k, v, ys) (by simp)
  rw [putsF_snoc, List.length_append] at h2
  simp only at g1 g2 g3 g4 g5 h2
  have hl : ∀ g ∈ l, okF g := fun g hg => h g (by simp [hg])
  have e : (putsF (l ++ (k, v, ys) :: r)).take n = putsF l ++ (frmF k v ys).take (n - (putsF l).length) := by
    rw [putsF_append, putsF_cons, List.take_append, List.take_of_length_le h1, List.take_append_of_le_length (by simp only; omega)]
  rw [e]
  by_cases hn : n = (putsF l).length
  · subst hn
    rw [Nat.sub_self, List.take_zero, List.append_nil, if_pos rfl, scan_all l hl]
  · have hs := frm_short k v ys (n - (putsF l).length) g1 g2 g3 g4 g5 g6 (by omega)
    have hne : (frmF k v ys).take (n - (putsF l).length) ≠ [] := by
      intro h0
      have := congrArg List.length h0
      rw [List.length_take, frmF_length] at this
      simp at this; omega
    rw [scan_puts l _ hl, scanX_bad hne (by omega), hs, if_neg hn]
    simp
end Go.Proofs.YtibpnlhdpdfhiaaDoor
