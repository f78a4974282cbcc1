/- Migration: in two parts it is as at once. -/
import Derived.Test.YtbklngcocbnijaaMigRecZ
import Derived.Test.YtbklngcocbnijaaRecEncZ
set_option linter.unusedVariables false
set_option linter.unusedSimpArgs false
namespace Go.Proofs.Ytbklngcocbnijaa
open Go.RowKit

theorem v1 : verB 1 = true := by decide
theorem v2 : verB 2 = true := by decide
theorem v3 : verB 3 = true := by decide
theorem w1K_twice (bs : List BkD) : (bs.map w1K).map w1K = bs.map w1K := by
  rw [List.map_map]; rfl
set_option maxHeartbeats 8000000 in
theorem mov_mov (r : RecD) (f b t : Int) (h1 : 1 ≤ f) (h2 : f ≤ b) (h3 : b ≤ t) (h4 : t ≤ 3) : plainD (movD (movD r f b) b t) = plainD (movD r f t) := by
  obtain ⟨k, tt, fb, fg, fs, gen, bs, be, un, ct⟩ := r
  have hc : (f = 1 ∧ b = 1 ∧ t = 1) ∨ (f = 1 ∧ b = 1 ∧ t = 2) ∨ (f = 1 ∧ b = 1 ∧ t = 3) ∨ (f = 1 ∧ b = 2 ∧ t = 2) ∨ (f = 1 ∧ b = 2 ∧ t = 3) ∨ (f = 1 ∧ b = 3 ∧ t = 3) ∨ (f = 2 ∧ b = 2 ∧ t = 2) ∨ (f = 2 ∧ b = 2 ∧ t = 3) ∨ (f = 2 ∧ b = 3 ∧ t = 3) ∨ (f = 3 ∧ b = 3 ∧ t = 3) := by omega
  by_cases k1 : k = 1
  · subst k1
    rcases hc with ⟨rfl, rfl, rfl⟩ | ⟨rfl, rfl, rfl⟩ | ⟨rfl, rfl, rfl⟩ | ⟨rfl, rfl, rfl⟩ | ⟨rfl, rfl, rfl⟩ | ⟨rfl, rfl, rfl⟩ | ⟨rfl, rfl, rfl⟩ | ⟨rfl, rfl, rfl⟩ | ⟨rfl, rfl, rfl⟩ | ⟨rfl, rfl, rfl⟩ <;>
      simp [movD, inD, gen1, seen0, plainD, v1, v2, v3]
  by_cases k2 : k = 2
  · subst k2
    rcases hc with ⟨rfl, rfl, rfl⟩ | ⟨rfl, rfl, rfl⟩ | ⟨rfl, rfl, rfl⟩ | ⟨rfl, rfl, rfl⟩ | ⟨rfl, rfl, rfl⟩ | ⟨rfl, rfl, rfl⟩ | ⟨rfl, rfl, rfl⟩ | ⟨rfl, rfl, rfl⟩ | ⟨rfl, rfl, rfl⟩ | ⟨rfl, rfl, rfl⟩ <;>
      simp [movD, inD, gen1, seen0, plainD, v1, v2, v3]
  by_cases k3 : k = 3
  · subst k3
    rcases hc with ⟨rfl, rfl, rfl⟩ | ⟨rfl, rfl, rfl⟩ | ⟨rfl, rfl, rfl⟩ | ⟨rfl, rfl, rfl⟩ | ⟨rfl, rfl, rfl⟩ | ⟨rfl, rfl, rfl⟩ | ⟨rfl, rfl, rfl⟩ | ⟨rfl, rfl, rfl⟩ | ⟨rfl, rfl, rfl⟩ | ⟨rfl, rfl, rfl⟩ <;>
      simp [movD, inD, gen1, seen0, plainD, v1, v2, v3, -List.map_map, w1K_twice]
  by_cases k4 : k = 4
  · subst k4
    rcases hc with ⟨rfl, rfl, rfl⟩ | ⟨rfl, rfl, rfl⟩ | ⟨rfl, rfl, rfl⟩ | ⟨rfl, rfl, rfl⟩ | ⟨rfl, rfl, rfl⟩ | ⟨rfl, rfl, rfl⟩ | ⟨rfl, rfl, rfl⟩ | ⟨rfl, rfl, rfl⟩ | ⟨rfl, rfl, rfl⟩ | ⟨rfl, rfl, rfl⟩ <;>
      simp [movD, inD, gen1, seen0, plainD, v1, v2, v3]
  by_cases k5 : k = 5
  · subst k5
    rcases hc with ⟨rfl, rfl, rfl⟩ | ⟨rfl, rfl, rfl⟩ | ⟨rfl, rfl, rfl⟩ | ⟨rfl, rfl, rfl⟩ | ⟨rfl, rfl, rfl⟩ | ⟨rfl, rfl, rfl⟩ | ⟨rfl, rfl, rfl⟩ | ⟨rfl, rfl, rfl⟩ | ⟨rfl, rfl, rfl⟩ | ⟨rfl, rfl, rfl⟩ <;>
      simp [movD, inD, gen1, seen0, plainD, v1, v2, v3]
  by_cases k6 : k = 6
  · subst k6
    rcases hc with ⟨rfl, rfl, rfl⟩ | ⟨rfl, rfl, rfl⟩ | ⟨rfl, rfl, rfl⟩ | ⟨rfl, rfl, rfl⟩ | ⟨rfl, rfl, rfl⟩ | ⟨rfl, rfl, rfl⟩ | ⟨rfl, rfl, rfl⟩ | ⟨rfl, rfl, rfl⟩ | ⟨rfl, rfl, rfl⟩ | ⟨rfl, rfl, rfl⟩ <;>
      simp [movD, inD, gen1, seen0, plainD, v1, v2, v3]
  rcases hc with ⟨rfl, rfl, rfl⟩ | ⟨rfl, rfl, rfl⟩ | ⟨rfl, rfl, rfl⟩ | ⟨rfl, rfl, rfl⟩ | ⟨rfl, rfl, rfl⟩ | ⟨rfl, rfl, rfl⟩ | ⟨rfl, rfl, rfl⟩ | ⟨rfl, rfl, rfl⟩ | ⟨rfl, rfl, rfl⟩ | ⟨rfl, rfl, rfl⟩ <;>
    simp [movD, inD, gen1, seen0, plainD, v1, v2, v3, k1, k2, k3, k4, k5, k6]
theorem mov_self (r : RecD) (f : Int) (h1 : 1 ≤ f) (h2 : f ≤ 3) : movD r f f = inD r f := by
  unfold movD
  rw [if_neg (by omega), if_neg (by omega), if_neg (by omega)]
theorem mov_kind (r : RecD) (f t : Int) (hc : leadB f t = true) : (movD r f t).kind = r.kind := by
  obtain ⟨k, tt, fb, fg, fs, gen, bs, be, un, ct⟩ := r
  have hp : ∀ x : RecD, (plainD x).kind = x.kind := by
    intro x; unfold plainD; repeat' split
    all_goals simp_all
  have hg : ∀ x : RecD, (gen1 x).kind = x.kind ∧ (seen0 x).kind = x.kind := by
    intro x; unfold gen1 seen0; constructor <;> split <;> rfl
  have hi : ∀ v : Int, verB v = true → (inD ⟨k, tt, fb, fg, fs, gen, bs, be, un, ct⟩ v).kind = k := by
    intro v hv; unfold inD; rw [if_pos hv]; exact hp _
  rcases lead_cases hc with ⟨rfl, rfl⟩ | ⟨rfl, rfl⟩ | ⟨rfl, rfl⟩ | ⟨rfl, rfl⟩ | ⟨rfl, rfl⟩ | ⟨rfl, rfl⟩ <;> simp [movD, hg, hi, v1, v2, v3]
theorem mov_tuple (r : RecD) (f t : Int) (hc : leadB f t = true) (hk : r.kind = 1) : (movD r f t).t = r.t ∧ (movD r f t).fb = r.fb := by
  obtain ⟨k, tt, fb, fg, fs, gen, bs, be, un, ct⟩ := r
  simp only at hk
  subst hk
  rcases lead_cases hc with ⟨rfl, rfl⟩ | ⟨rfl, rfl⟩ | ⟨rfl, rfl⟩ | ⟨rfl, rfl⟩ | ⟨rfl, rfl⟩ | ⟨rfl, rfl⟩ <;> simp [movD, inD, gen1, seen0, plainD, v1, v2, v3]
theorem mov_rest (r : RecD) (f t : Int) (hc : leadB f t = true) (n1 : r.kind ≠ 1) (n3 : r.kind ≠ 3) : plainD (movD r f t) = plainD r := by
  obtain ⟨k, tt, fb, fg, fs, gen, bs, be, un, ct⟩ := r
  simp only at n1 n3
  by_cases k2 : k = 2
  · subst k2; rcases lead_cases hc with ⟨rfl, rfl⟩ | ⟨rfl, rfl⟩ | ⟨rfl, rfl⟩ | ⟨rfl, rfl⟩ | ⟨rfl, rfl⟩ | ⟨rfl, rfl⟩ <;> simp [movD, inD, gen1, seen0, plainD, v1, v2, v3]
  by_cases k4 : k = 4
  · subst k4; rcases lead_cases hc with ⟨rfl, rfl⟩ | ⟨rfl, rfl⟩ | ⟨rfl, rfl⟩ | ⟨rfl, rfl⟩ | ⟨rfl, rfl⟩ | ⟨rfl, rfl⟩ <;> simp [movD, inD, gen1, seen0, plainD, v1, v2, v3]
  by_cases k5 : k = 5
  · subst k5; rcases lead_cases hc with ⟨rfl, rfl⟩ | ⟨rfl, rfl⟩ | ⟨rfl, rfl⟩ | ⟨rfl, rfl⟩ | ⟨rfl, rfl⟩ | ⟨rfl, rfl⟩ <;> simp [movD, inD, gen1, seen0, plainD, v1, v2, v3]
  by_cases k6 : k = 6
  · subst k6; rcases lead_cases hc with ⟨rfl, rfl⟩ | ⟨rfl, rfl⟩ | ⟨rfl, rfl⟩ | ⟨rfl, rfl⟩ | ⟨rfl, rfl⟩ | ⟨rfl, rfl⟩ <;> simp [movD, inD, gen1, seen0, plainD, v1, v2, v3]
  rcases lead_cases hc with ⟨rfl, rfl⟩ | ⟨rfl, rfl⟩ | ⟨rfl, rfl⟩ | ⟨rfl, rfl⟩ | ⟨rfl, rfl⟩ | ⟨rfl, rfl⟩ <;> simp [movD, inD, gen1, seen0, plainD, v1, v2, v3, n1, n3, k2, k4, k5, k6]
theorem may_w1 (bs : List BkD) (h : bs.all mayKB = true) : (bs.map w1K).all mayKB = true := by
  rw [List.all_eq_true] at h ⊢
  intro b hb
  obtain ⟨c, hc, rfl⟩ := List.mem_map.1 hb
  have := (mayKB_iff c).1 (h c hc)
  rw [mayKB_iff]
  simp only [w1K]
  omega
theorem cnt01 : cntB 0 = true ∧ cntB 1 = true ∧ timB 0 = true := by decide
theorem mov_may (r : RecD) (f t : Int) (hc : leadB f t = true) (hm : mayRB r = true) : mayRB (movD r f t) = true := by
  obtain ⟨c0, c1, t0⟩ := cnt01
  have hk := kind_of hm
  obtain ⟨k, tt, fb, fg, fs, gen, bs, be, un, ct⟩ := r
  simp only at hk
  rcases hk with rfl | rfl | rfl | rfl | rfl | rfl
  · simp only [mayRB, if_true, Bool.and_eq_true] at hm
    obtain ⟨⟨⟨m1, m2⟩, m3⟩, m4⟩ := hm
    rcases lead_cases hc with ⟨rfl, rfl⟩ | ⟨rfl, rfl⟩ | ⟨rfl, rfl⟩ | ⟨rfl, rfl⟩ | ⟨rfl, rfl⟩ | ⟨rfl, rfl⟩ <;> simp [movD, inD, gen1, seen0, plainD, v1, v2, v3, mayRB, m1, m2, m3, m4, c0, c1, t0]
  · simp [mayRB] at hm
    rcases lead_cases hc with ⟨rfl, rfl⟩ | ⟨rfl, rfl⟩ | ⟨rfl, rfl⟩ | ⟨rfl, rfl⟩ | ⟨rfl, rfl⟩ | ⟨rfl, rfl⟩ <;> simp [movD, inD, gen1, seen0, plainD, v1, v2, v3, mayRB, hm]
  · simp only [mayRB, if_true, if_false, Bool.and_eq_true, decide_eq_true_eq, reduceIte, (by decide : ¬ (3 : Int) = 1), (by decide : ¬ (3 : Int) = 2)] at hm
    obtain ⟨⟨m1, m2⟩, m3⟩ := hm
    have m4 := may_w1 bs m3
    rcases lead_cases hc with ⟨rfl, rfl⟩ | ⟨rfl, rfl⟩ | ⟨rfl, rfl⟩ | ⟨rfl, rfl⟩ | ⟨rfl, rfl⟩ | ⟨rfl, rfl⟩ <;> simp [movD, inD, gen1, seen0, plainD, v1, v2, v3, mayRB, m1, m2, -List.all_map, -List.all_eq_true, m3, m4]
  · simp [mayRB] at hm
    rcases lead_cases hc with ⟨rfl, rfl⟩ | ⟨rfl, rfl⟩ | ⟨rfl, rfl⟩ | ⟨rfl, rfl⟩ | ⟨rfl, rfl⟩ | ⟨rfl, rfl⟩ <;> simp [movD, inD, gen1, seen0, plainD, v1, v2, v3, mayRB, hm]
  · simp [mayRB] at hm
    rcases lead_cases hc with ⟨rfl, rfl⟩ | ⟨rfl, rfl⟩ | ⟨rfl, rfl⟩ | ⟨rfl, rfl⟩ | ⟨rfl, rfl⟩ | ⟨rfl, rfl⟩ <;> simp [movD, inD, gen1, seen0, plainD, v1, v2, v3, mayRB, hm]
  · simp [mayRB] at hm
    rcases lead_cases hc with ⟨rfl, rfl⟩ | ⟨rfl, rfl⟩ | ⟨rfl, rfl⟩ | ⟨rfl, rfl⟩ | ⟨rfl, rfl⟩ | ⟨rfl, rfl⟩ <;> simp [movD, inD, gen1, seen0, plainD, v1, v2, v3, mayRB, hm]
end Go.Proofs.Ytbklngcocbnijaa
