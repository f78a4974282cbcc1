/- A header of which one byte is another has no right sum; its parts come back as they are. -/
import Derived.Test.YthjdebcjfpokoaaIpBuilt
set_option linter.unusedVariables false
namespace Go.Proofs.Ythjdebcjfpokoaa
open Go.RowKit

theorem sum16_set1 : ∀ (l : List Nat) (j y : Nat) (h : j < l.length), sum16 (l.set j y) = sum16 l + ((y : Int) - (l[j] : Nat)) * (if j % 2 = 0 then 256 else 1)
  | [], j, y, h => by simp at h
  | [x], 0, y, h => by simp [sum16]; omega
  | [x], j + 1, y, h => by simp at h
  | x :: z :: r, 0, y, h => by simp [sum16]; omega
  | x :: z :: r, 1, y, h => by simp [sum16]; omega
  | x :: z :: r, j + 2, y, h => by
    have hr : j < r.length := by simp at h; omega
    have := sum16_set1 r j y hr
    have e1 : (x :: z :: r).set (j + 2) y = x :: z :: r.set j y := rfl
    have e2 : (x :: z :: r)[j + 2] = r[j] := by simp
    rw [e1, e2]
    simp only [sum16]
    rw [this, show (j + 2) % 2 = j % 2 from by omega]
    omega
theorem sum16_ge (l : List Nat) (h : 2 ≤ l.length) : (gb l 0 : Int) * 256 ≤ sum16 l := by
  match l, h with
  | x :: y :: r, _ =>
    have := sum16_nonneg r
    simp only [sum16, gb, List.getD_cons_zero]
    omega
theorem set_left (F r : List Nat) (j y : Nat) (h : j < F.length) : (F ++ r).set j y = F.set j y ++ r := by
  rw [List.set_append, if_pos h]
/-- WITH ONE BYTE OF THE HEADER, but the first, CHANGED IT IS NONE. -/
theorem why_spoilt (h : HArg) (r : List Nat) (j y : Nat) (h1 : 1 ≤ j) (h2 : j < 20) (hy : y < 256) (hne : y ≠ gb (builtF h) j) : whyF ((builtF h ++ r).set j y) ≠ 0 := by
  have hl := builtF_length h
  intro hz
  obtain ⟨z1, z2, z3, z4, z5, z6, z7⟩ := why_zero hz
  rw [set_left _ _ _ _ (by omega)] at z5
  have e0 : gb ((builtF h ++ r).set j y) 0 = 69 := by
    rw [set_left _ _ _ _ (by omega), gb_app _ _ _ (by simp; omega), gb_get _ _ (by simp; omega), List.getElem_set_ne (by omega), ← gb_get _ _ (by omega), builtF_eq]; rfl
  rw [set_left _ _ _ _ (by omega)] at e0
  rw [e0, show 4 * (69 % 16) = ((builtF h).set j y).length from by rw [List.length_set, hl], List.take_left] at z5
  have hs := sum16_set1 (builtF h) j y (by omega)
  have hn := netF_built h
  rw [netF_eq] at z5 hn
  have hp : (gb ((builtF h).set j y) 0 : Int) * 256 ≤ sum16 ((builtF h).set j y) := sum16_ge _ (by simp; omega)
  have e1 : gb ((builtF h).set j y) 0 = 69 := by rw [← gb_app _ r _ (by simp; omega)]; exact e0
  have hp0 : (gb (builtF h) 0 : Int) * 256 ≤ sum16 (builtF h) := sum16_ge _ (by omega)
  have e2 : gb (builtF h) 0 = 69 := by rw [builtF_eq]; rfl
  rw [e1] at hp
  rw [e2] at hp0
  rw [← gb_get _ _ (by omega)] at hs
  have hb := gb_lt (builtF h) (builtF_small h) j
  rw [hs] at z5 hp
  generalize sum16 (builtF h) = S at *
  generalize gb (builtF h) j = o at *
  unfold lowF at *
  by_cases hj : j % 2 = 0
  · rw [if_pos hj] at z5 hp
    split at z5 <;> split at hn <;> omega
  · rw [if_neg hj] at z5 hp
    split at z5 <;> split at hn <;> omega
/-- The parts of a header that may be come back. -/
theorem hdr_back (h : HArg) (n : Nat) (t : 0 ≤ h.tos ∧ h.tos < 256) (l : h.len = n) (hn : n < 65536) (i : 0 ≤ h.id ∧ h.id < 65536) (f : 0 ≤ h.flags ∧ h.flags < 8) (o : 0 ≤ h.off ∧ h.off < 8192) (tt : 0 ≤ h.ttl ∧ h.ttl < 256) (p : 0 ≤ h.proto ∧ h.proto < 256)
    (hs : 0 ≤ h.src ∧ h.src ≤ 4294967295) (hd : 0 ≤ h.dst ∧ h.dst ≤ 4294967295) :
    ((hdr (builtF h)).ihl : Int) = 5 ∧ ((hdr (builtF h)).tos : Int) = h.tos ∧ ((hdr (builtF h)).len : Int) = h.len ∧ ((hdr (builtF h)).id : Int) = h.id ∧ ((hdr (builtF h)).flags : Int) = h.flags ∧ ((hdr (builtF h)).off : Int) = h.off ∧
    ((hdr (builtF h)).ttl : Int) = h.ttl ∧ ((hdr (builtF h)).proto : Int) = h.proto ∧ ((hdr (builtF h)).src : Int) = h.src ∧ ((hdr (builtF h)).dst : Int) = h.dst ∧
    (hdr (builtF h)).sum = gb (builtF h) 10 * 256 + gb (builtF h) 11 := by
  have e := hdr_built h [] hs hd
  rw [List.append_nil] at e
  refine ⟨?_, ?_, ?_, ?_, ?_, ?_, ?_, ?_, ?_, ?_, rfl⟩
  all_goals (rw [e]; simp only [u64N]; omega)
end Go.Proofs.Ythjdebcjfpokoaa
