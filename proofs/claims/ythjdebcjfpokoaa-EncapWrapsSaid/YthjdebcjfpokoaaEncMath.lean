/- A step further: the sum stays right; what a wrapped packet tells. -/
import Derived.Test.YthjdebcjfpokoaaEncOld
import Derived.Test.YthjdebcjfpokoaaSliceN
set_option linter.unusedVariables false
namespace Go.Proofs.Ythjdebcjfpokoaa
open Go.RowKit

theorem gb_set_ne (xs : List Nat) (i j v : Nat) (h : i ≠ j) : gb (xs.set j v) i = gb xs i := by
  unfold gb; rw [List.getD_eq_getElem?_getD, List.getD_eq_getElem?_getD, List.getElem?_set_ne (Ne.symm h)]
theorem gb_set_eq (xs : List Nat) (j v : Nat) (h : j < xs.length) : gb (xs.set j v) j = v := by
  unfold gb; rw [List.getD_eq_getElem?_getD, List.getElem?_set_self h]; rfl
theorem gb_take (xs : List Nat) (n i : Nat) (h : i < n) : gb (xs.take n) i = gb xs i := by
  unfold gb; rw [List.getD_eq_getElem?_getD, List.getD_eq_getElem?_getD, List.getElem?_take_of_lt h]
theorem hdr_take (xs : List Nat) (n : Nat) (h : 20 ≤ n) : hdr (xs.take n) = hdr xs := by
  simp only [hdr]
  rw [gb_take _ _ _ (by omega), gb_take _ _ _ (by omega), gb_take _ _ _ (by omega), gb_take _ _ _ (by omega), gb_take _ _ _ (by omega), gb_take _ _ _ (by omega), gb_take _ _ _ (by omega), gb_take _ _ _ (by omega), gb_take _ _ _ (by omega), gb_take _ _ _ (by omega),
    gb_take _ _ _ (by omega), gb_take _ _ _ (by omega), gb_take _ _ _ (by omega), gb_take _ _ _ (by omega), gb_take _ _ _ (by omega), gb_take _ _ _ (by omega), gb_take _ _ _ (by omega), gb_take _ _ _ (by omega), gb_take _ _ _ (by omega), gb_take _ _ _ (by omega)]
/-- A packet's bounds. -/
theorem hdr_lt (xs : List Nat) (hs : ∀ x ∈ xs, x < 256) : (hdr xs).ihl < 16 ∧ (hdr xs).tos < 256 ∧ (hdr xs).len < 65536 ∧ (hdr xs).id < 65536 ∧ (hdr xs).flags < 8 ∧ (hdr xs).ttl < 256 ∧ (hdr xs).proto < 256 ∧ (hdr xs).sum < 65536 := by
  have b0 := gb_lt xs hs 0
  have b1 := gb_lt xs hs 1
  have b2 := gb_lt xs hs 2
  have b3 := gb_lt xs hs 3
  have b4 := gb_lt xs hs 4
  have b5 := gb_lt xs hs 5
  have b6 := gb_lt xs hs 6
  have b8 := gb_lt xs hs 8
  have b9 := gb_lt xs hs 9
  have b10 := gb_lt xs hs 10
  have b11 := gb_lt xs hs 11
  simp only [hdr]
  omega
/-- A packet, without what is behind it, is one. -/
theorem why_take (xs : List Nat) (h : whyF xs = 0) : whyF (xs.take (hdr xs).len) = 0 ∧ 20 ≤ (hdr xs).len ∧ (hdr xs).len ≤ xs.length ∧ (xs.take (hdr xs).len).length = (hdr xs).len := by
  obtain ⟨z1, z2, z3, z4, z5, z6, z7⟩ := why_zero h
  have hl : (hdr xs).len = gb xs 2 * 256 + gb xs 3 := rfl
  have h20 : 20 ≤ (hdr xs).len := by omega
  have hlt : (xs.take (hdr xs).len).length = (hdr xs).len := by simp; omega
  refine ⟨?_, h20, by omega, hlt⟩
  unfold whyF
  rw [gb_take _ _ _ (by omega), gb_take _ _ _ (by omega), gb_take _ _ _ (by omega), List.take_take, Nat.min_eq_left (by omega), z5, if_neg (by omega), if_neg (by omega), if_neg (by omega), if_neg (by omega), if_neg (by omega), if_neg (by omega), if_neg (by omega)]
/-- A packet that has gone a step further is one, its sum right, its life one less. -/
theorem older_is (ys : List Nat) (h : whyF ys = 0) (hs : ∀ x ∈ ys, x < 256) (ht : 1 ≤ (hdr ys).ttl) :
    whyF (olderF ys (hdr ys)) = 0 ∧ hdr (olderF ys (hdr ys)) = { hdr ys with ttl := (hdr ys).ttl - 1, sum := (fixS (hdr ys)).toNat } := by
  obtain ⟨z1, z2, z3, z4, z5, z6, z7⟩ := why_zero h
  have hl := olderF_length ys (hdr ys)
  have hS := fixS_le (hdr ys)
  obtain ⟨l1, l2, l3, l4, l5, l6, l7, l8⟩ := hdr_lt ys hs
  have hfx : fixS (hdr ys) = fixF (hdr ys).sum (((hdr ys).ttl : Int) * 256 + (hdr ys).proto) ((((hdr ys).ttl : Int) - 1) * 256 + (hdr ys).proto) := rfl
  have hsum : (hdr ys).sum = gb ys 10 * 256 + gb ys 11 := rfl
  have htt : (hdr ys).ttl = gb ys 8 := rfl
  have e8 : (gb ys 8 + 255) % 256 = (hdr ys).ttl - 1 := by omega
  have G : ∀ i, i ≠ 8 → i ≠ 10 → i ≠ 11 → gb (olderF ys (hdr ys)) i = gb ys i := fun i h1 h2 h3 => by
    unfold olderF; rw [gb_set_ne _ _ _ _ h3, gb_set_ne _ _ _ _ h2, gb_set_ne _ _ _ _ h1]
  have G8 : gb (olderF ys (hdr ys)) 8 = (hdr ys).ttl - 1 := by
    unfold olderF; rw [gb_set_ne _ _ _ _ (by omega), gb_set_ne _ _ _ _ (by omega), gb_set_eq _ _ _ (by omega), e8]
  have G10 : gb (olderF ys (hdr ys)) 10 = (fixS (hdr ys) / 256).toNat := by
    unfold olderF; rw [gb_set_ne _ _ _ _ (by omega), gb_set_eq _ _ _ (by simp; omega)]
  have G11 : gb (olderF ys (hdr ys)) 11 = (fixS (hdr ys) % 256).toNat := by
    unfold olderF; rw [gb_set_eq _ _ _ (by simp; omega)]
  constructor
  · have hn : netF ((olderF ys (hdr ys)).take (4 * (gb ys 0 % 16))) = 0 := by
      have e : (olderF ys (hdr ys)).take (4 * (gb ys 0 % 16)) = (((ys.take (4 * (gb ys 0 % 16))).set 8 ((gb ys 8 + 255) % 256)).set 10 (fixS (hdr ys) / 256).toNat).set 11 (fixS (hdr ys) % 256).toNat := by
        unfold olderF; rw [List.take_set, List.take_set, List.take_set]
      have hp : (gb (olderF ys (hdr ys)) 0 : Int) * 256 ≤ sum16 ((olderF ys (hdr ys)).take (4 * (gb ys 0 % 16))) := by
        have := sum16_ge ((olderF ys (hdr ys)).take (4 * (gb ys 0 % 16))) (by simp; omega)
        rwa [gb_take _ _ _ (by omega)] at this
      rw [G 0 (by omega) (by omega) (by omega)] at hp
      have hq : (gb ys 0 : Int) * 256 ≤ sum16 (ys.take (4 * (gb ys 0 % 16))) := by
        have := sum16_ge (ys.take (4 * (gb ys 0 % 16))) (by simp; omega)
        rwa [gb_take _ _ _ (by omega)] at this
      have hL : (ys.take (4 * (gb ys 0 % 16))).length = 4 * (gb ys 0 % 16) := by simp; omega
      rw [e, netF_eq]
      rw [e] at hp
      rw [netF_eq] at z5
      have g8 : gb (ys.take (4 * (gb ys 0 % 16))) 8 = gb ys 8 := gb_take _ _ _ (by omega)
      have g10 : gb (ys.take (4 * (gb ys 0 % 16))) 10 = gb ys 10 := gb_take _ _ _ (by omega)
      have g11 : gb (ys.take (4 * (gb ys 0 % 16))) 11 = gb ys 11 := gb_take _ _ _ (by omega)
      generalize ys.take (4 * (gb ys 0 % 16)) = T at *
      have s1 := sum16_set1 T 8 ((gb ys 8 + 255) % 256) (by omega)
      have s2 := sum16_set1 (T.set 8 ((gb ys 8 + 255) % 256)) 10 (fixS (hdr ys) / 256).toNat (by simp; omega)
      have s3 := sum16_set1 ((T.set 8 ((gb ys 8 + 255) % 256)).set 10 (fixS (hdr ys) / 256).toNat) 11 (fixS (hdr ys) % 256).toNat (by simp; omega)
      rw [← gb_get _ _ (by omega), g8] at s1
      rw [← gb_get _ _ (by simp; omega), gb_set_ne _ _ _ _ (by omega), g10] at s2
      rw [← gb_get _ _ (by simp; omega), gb_set_ne _ _ _ _ (by omega), gb_set_ne _ _ _ _ (by omega), g11] at s3
      rw [if_pos (by decide)] at s1 s2
      rw [if_neg (by decide)] at s3
      rw [s3, s2, s1] at hp ⊢
      simp only [fixF, foldF] at hfx
      generalize sum16 T = S at *
      generalize fixS (hdr ys) = s at *
      unfold lowF at *
      split at z5 <;> split at hfx <;> split <;> omega
    unfold whyF
    rw [G 0 (by omega) (by omega) (by omega), G 2 (by omega) (by omega) (by omega), G 3 (by omega) (by omega) (by omega), hn, hl, if_neg (by omega), if_neg (by omega), if_neg (by omega), if_neg (by omega), if_neg (by omega), if_neg (by omega), if_neg (by omega)]
  · simp only [hdr]
    simp only [hdr] at G G8 G10 G11
    rw [Hdr.mk.injEq]
    have q := G
    refine ⟨?_, ?_, ?_, ?_, ?_, ?_, ?_, ?_, ?_, ?_, ?_⟩
    · rw [G 0 (by omega) (by omega) (by omega)]
    · rw [G 1 (by omega) (by omega) (by omega)]
    · rw [G 2 (by omega) (by omega) (by omega), G 3 (by omega) (by omega) (by omega)]
    · rw [G 4 (by omega) (by omega) (by omega), G 5 (by omega) (by omega) (by omega)]
    · rw [G 6 (by omega) (by omega) (by omega)]
    · rw [G 6 (by omega) (by omega) (by omega), G 7 (by omega) (by omega) (by omega)]
    · rw [G8]
    · rw [G 9 (by omega) (by omega) (by omega)]
    · rw [G10, G11]; simp only [hdr] at hS; omega
    · rw [G 12 (by omega) (by omega) (by omega), G 13 (by omega) (by omega) (by omega), G 14 (by omega) (by omega) (by omega), G 15 (by omega) (by omega) (by omega)]
    · rw [G 16 (by omega) (by omega) (by omega), G 17 (by omega) (by omega) (by omega), G 18 (by omega) (by omega) (by omega), G 19 (by omega) (by omega) (by omega)]
theorem older_drop (ys : List Nat) (h : Hdr) : (olderF ys h).drop 12 = ys.drop 12 := by
  unfold olderF
  rw [List.drop_set_of_lt (by omega), List.drop_set_of_lt (by omega), List.drop_set_of_lt (by omega)]
theorem slice_h (a : Option Addr) (len cap : Nat) (H : Int) (h : Nat) (hH : H = h) (h2 : h ≤ cap) :
    ∃ A C, (∀ w, (Instr.sliceAt 25 (.slice a len cap) none (some (.int .i64 H)) none).run Try.prog w = .ok (.slice A h C) w) ∧ Part a len cap 0 h A C := by
  refine ⟨_, _, fun w => ?_, part_of a len cap 0 h (Nat.zero_le _) h2⟩
  subst hH
  rw [run_sliceAt_slice w _ _ _ _ _ undB, run_slice_h w _ a len cap undB .i64 _ (by omega) (by omega), elemB, size1]
  simp [sliced]
end Go.Proofs.Ythjdebcjfpokoaa
