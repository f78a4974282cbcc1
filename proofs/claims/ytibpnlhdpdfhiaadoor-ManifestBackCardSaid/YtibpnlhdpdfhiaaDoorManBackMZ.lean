/- A frame of which one byte is another, or that is cut, is none. -/
import Derived.Test.YtibpnlhdpdfhiaaDoorManMathZ
import Derived.Test.YtibpnlhdpdfhiaaDoorFrmManyZ
import Derived.Test.YtibpnlhdpdfhiaaDoorTellMathZ
set_option linter.unusedVariables false
namespace Go.Proofs.YtibpnlhdpdfhiaaDoor
open Go.RowKit

theorem crcF_one (xs : List Nat) (j x : Nat) (hj : j < xs.length) (hx : x < 256) (hx0 : x ≠ 0) : crcF (xs.set j (xs[j] ^^^ x)) ≠ crcF xs := by
  intro he
  have hc : xs.set j (xs[j] ^^^ x) = chg xs j [x] 1 := by
    have := chg_step xs j [x] 0 (by omega) (by simp)
    rw [chg_zero] at this
    simpa using this
  have he2 : crcAll 4294967295 (xs.set j (xs[j] ^^^ x)) = crcAll 4294967295 xs := by unfold crcF at he; omega
  have h3 := (crc_tells xs j [x] 1 (by omega) (by simp) (by simpa using hx) (by simp)).1 (by unfold crcN; rw [← hc, he2])
  rw [← hc] at h3
  have h4 := congrArg (fun l => l[j]?) h3
  simp only [List.getElem?_set_self hj, List.getElem?_eq_getElem hj, Option.some.injEq] at h4
  have h5 := congrArg (fun z => xs[j] ^^^ z) h4
  simp only [← Nat.xor_assoc, Nat.xor_self, Nat.zero_xor] at h5
  exact hx0 h5.symm
theorem gb_set (xs : List Nat) (j y i : Nat) (hj : j < xs.length) : gb (xs.set j y) i = if i = j then y else gb xs i := by
  unfold gb
  by_cases h : i = j
  · subst h; rw [if_pos rfl, List.getD_eq_getElem?_getD, List.getElem?_set_self hj]; rfl
  · rw [if_neg h, List.getD_eq_getElem?_getD, List.getElem?_set_ne (by omega), List.getD_eq_getElem?_getD]
theorem beN_four (a b c d : Nat) : beN [a, b, c, d] = ((a * 256 + b) * 256 + c) * 256 + d := by simp [beN]
theorem b4_set (xs : List Nat) (i j y : Nat) (hj : j < xs.length) (hs : ∀ x ∈ xs, x < 256) (hy : y < 256) (h1 : i ≤ j) (h2 : j < i + 4) (h : b4 (xs.set j y) i = b4 xs i) : y = xs[j] := by
  have g0 := gb_lt xs hs i
  have g1 := gb_lt xs hs (i + 1)
  have g2 := gb_lt xs hs (i + 2)
  have g3 := gb_lt xs hs (i + 3)
  rw [← gb_get xs j hj]
  unfold b4 at h
  simp only [beN_four, gb_set xs j y _ hj] at h
  rcases (by omega : j = i ∨ j = i + 1 ∨ j = i + 2 ∨ j = i + 3) with rfl | rfl | rfl | rfl
  · simp at h; omega
  · simp at h; omega
  · simp at h; omega
  · simp at h; omega
theorem b4_same (xs : List Nat) (i j y : Nat) (hj : j < xs.length) (h : j < i ∨ i + 4 ≤ j) : b4 (xs.set j y) i = b4 xs i := by
  unfold b4
  simp only [gb_set xs j y _ hj]
  rw [if_neg (by omega), if_neg (by omega), if_neg (by omega), if_neg (by omega)]
theorem b4_beB (xs : List Nat) (a b c d : Nat) (i n : Nat) (h : gb xs i = a ∧ gb xs (i + 1) = b ∧ gb xs (i + 2) = c ∧ gb xs (i + 3) = d) (e : [a, b, c, d] = beB 4 n) (hn : n < 4294967296) : b4 xs i = n := by
  unfold b4
  rw [h.1, h.2.1, h.2.2.1, h.2.2.2, e, beN4_be n hn]
/-- What a frame's bytes say. -/
theorem frm_say (k v : Int) (ys : List Nat) (hk0 : 0 ≤ k) (hk1 : k ≤ 255) (hv0 : 0 ≤ v) (hv1 : v ≤ 255) (hl : ys.length ≤ 4096) (hys : ∀ x ∈ ys, x < 256) :
    (b4 (frmF k v ys) 8 : Int) = crcF ((frmF k v ys).take 8) ∧ (b4 (frmF k v ys) 12 : Int) = crcF ((frmF k v ys).drop 16) ∧ tkN (frmF k v ys) = ys.length := by
  obtain ⟨x4, x5, x6, x7, x8, x9, x10, x11, x12, x13, x14, x15, h1, h2, e4, e5, e6, e7, e8, e12⟩ := frm_cons k v ys
  have hc := crc_u64 (frmHead k v ys.length) (frmHead_small _ _ _)
  have hy := crc_u64 ys hys
  have hn : x6 * 256 + x7 = ys.length := by rw [e6, e7]; unfold u64N; omega
  rw [h2]
  have t8 : (([103, 111, 105, 116, x4, x5, x6, x7, x8, x9, x10, x11, x12, x13, x14, x15] ++ ys : List Nat)).take 8 = frmHead k v ys.length := by rw [h1]; rfl
  have d16 : (([103, 111, 105, 116, x4, x5, x6, x7, x8, x9, x10, x11, x12, x13, x14, x15] ++ ys : List Nat)).drop 16 = ys := rfl
  rw [t8, d16]
  refine ⟨?_, ?_, ?_⟩
  · rw [b4_beB _ x8 x9 x10 x11 8 _ ⟨rfl, rfl, rfl, rfl⟩ e8 hc.1]; exact hc.2
  · rw [b4_beB _ x12 x13 x14 x15 12 _ ⟨rfl, rfl, rfl, rfl⟩ e12 hy.1]; exact hy.2
  · rw [← hn]; rfl
/-- With one byte changed it is none. -/
theorem frm_changed (k v : Int) (ys : List Nat) (j x : Nat) (hk0 : 0 ≤ k) (hk1 : k ≤ 255) (hv0 : 0 ≤ v) (hv1 : v ≤ 255) (hl : ys.length ≤ 4096) (hys : ∀ x ∈ ys, x < 256) (hj : j < (frmF k v ys).length) (hx : x < 256) (hx0 : x ≠ 0) :
    tkE ((frmF k v ys).set j ((frmF k v ys)[j] ^^^ x)) ≠ 0 := by
  obtain ⟨s8, s12, sn⟩ := frm_say k v ys hk0 hk1 hv0 hv1 hl hys
  have hlen := frmF_length k v ys
  have hsm := frmF_small k v ys hys
  have hdl : ((frmF k v ys).drop 16).length = ys.length := by rw [List.length_drop, hlen]; omega
  generalize frmF k v ys = Z at *
  have hyb : Z[j] < 256 := hsm _ (List.getElem_mem hj)
  have hy2 : Z[j] ^^^ x < 256 := Nat.xor_lt_two_pow (n := 8) hyb hx
  have hne : Z[j] ^^^ x ≠ Z[j] := by
    intro h
    have h5 := congrArg (fun z => Z[j] ^^^ z) h
    simp only [← Nat.xor_assoc, Nat.xor_self, Nat.zero_xor] at h5
    exact hx0 h5
  intro he
  have hd0 : hdE (Z.set j (Z[j] ^^^ x)) = 0 := by
    unfold tkE at he
    by_cases h : hdE (Z.set j (Z[j] ^^^ x)) = 0
    · exact h
    · rw [if_pos h] at he; exact absurd he h
  have h8 : (b4 (Z.set j (Z[j] ^^^ x)) 8 : Int) = crcF ((Z.set j (Z[j] ^^^ x)).take 8) := by
    unfold hdE at hd0
    split at hd0
    · cases hd0
    · split at hd0
      · cases hd0
      · split at hd0
        · cases hd0
        · rename_i h _; omega
  have h12 : (b4 (Z.set j (Z[j] ^^^ x)) 12 : Int) = crcF (((Z.set j (Z[j] ^^^ x)).take (16 + tkN (Z.set j (Z[j] ^^^ x)))).drop 16) := by
    unfold tkE at he
    rw [if_neg (by omega)] at he
    split at he
    · cases he
    · split at he
      · cases he
      · rename_i h; omega
  by_cases j8 : j < 8
  · rw [b4_same Z 8 j _ hj (.inl j8), s8, List.take_set] at h8
    have hj8 : j < (Z.take 8).length := by rw [List.length_take]; omega
    have e : (Z.take 8)[j] = Z[j] := List.getElem_take
    have h9 := crcF_one (Z.take 8) j x hj8 hx hx0
    rw [e] at h9
    exact h9 h8.symm
  · have ht8 : (Z.set j (Z[j] ^^^ x)).take 8 = Z.take 8 := by rw [List.take_set, List.set_eq_of_length_le (by rw [List.length_take]; omega)]
    rw [ht8, ← s8] at h8
    by_cases j12 : j < 12
    · exact hne (b4_set Z 8 j _ hj hsm hy2 (by omega) (by omega) (by omega))
    · have hN : tkN (Z.set j (Z[j] ^^^ x)) = ys.length := by
        rw [← sn]; unfold tkN
        rw [gb_set Z j _ _ hj, gb_set Z j _ _ hj, if_neg (by omega), if_neg (by omega)]
      rw [hN, List.take_of_length_le (by rw [List.length_set, hlen]; exact Nat.le_refl _)] at h12
      by_cases j16 : j < 16
      · have hd : (Z.set j (Z[j] ^^^ x)).drop 16 = Z.drop 16 := List.drop_set_of_lt j16
        rw [hd, ← s12] at h12
        exact hne (b4_set Z 12 j _ hj hsm hy2 (by omega) (by omega) (by omega))
      · have hd : (Z.set j (Z[j] ^^^ x)).drop 16 = (Z.drop 16).set (j - 16) (Z[j] ^^^ x) := by rw [List.drop_set, if_neg (by omega)]
        rw [b4_same Z 12 j _ hj (.inr (by omega)), s12, hd] at h12
        have hj9 : j - 16 < (Z.drop 16).length := by rw [List.length_drop]; omega
        have e : (Z.drop 16)[j - 16] = Z[j] := by rw [List.getElem_drop]; congr 1; omega
        have h9 := crcF_one (Z.drop 16) (j - 16) x hj9 hx hx0
        rw [e] at h9
        exact h9 h12.symm
/-- Of a manifest's bytes: with one changed, or fewer, it is none. -/
theorem man_changed (v n : Int) (zs : List Int) (h : mayM v n zs = true) (j x : Nat) (hj : j < (encM v n zs).length) (hx : x < 256) (hx0 : x ≠ 0) : dmE ((encM v n zs).set j ((encM v n zs)[j] ^^^ x)) ≠ 0 := by
  obtain ⟨hv, hn, hs, hu⟩ := (mayM_iff v n zs).1 h
  have hlen := bodyM_length n zs
  have e : encM v n zs = frmF 100 v (bodyM n zs) := by unfold encM; rw [h]; rfl
  have h9 := frm_changed 100 v (bodyM n zs) j x (by omega) (by omega) (by omega) (by omega) (by omega) (bodyM_small n zs) (by rw [← e]; exact hj) hx hx0
  have h10 : tkE ((encM v n zs).set j ((encM v n zs)[j] ^^^ x)) ≠ 0 := by
    have e2 : ∀ (A B : List Nat) (hA : j < A.length) (hB : j < B.length), A = B → tkE (B.set j (B[j] ^^^ x)) ≠ 0 → tkE (A.set j (A[j] ^^^ x)) ≠ 0 := by
      intro A B hA hB hab; subst hab; exact id
    exact e2 _ _ hj (by rw [← e]; exact hj) e h9
  rw [dm_take h10]; exact h10
theorem man_cut (v n : Int) (zs : List Int) (h : mayM v n zs = true) (j : Nat) (hj : j < (encM v n zs).length) : dmE ((encM v n zs).take j) ≠ 0 := by
  obtain ⟨hv, hn, hs, hu⟩ := (mayM_iff v n zs).1 h
  have hlen := bodyM_length n zs
  have e : encM v n zs = frmF 100 v (bodyM n zs) := by unfold encM; rw [h]; rfl
  have h9 := frm_short 100 v (bodyM n zs) j (by omega) (by omega) (by omega) (by omega) (by omega) (bodyM_small n zs) (by rw [← e]; exact hj)
  rw [← e] at h9
  rw [dm_take (by omega), h9]; decide
end Go.Proofs.YtibpnlhdpdfhiaaDoor
