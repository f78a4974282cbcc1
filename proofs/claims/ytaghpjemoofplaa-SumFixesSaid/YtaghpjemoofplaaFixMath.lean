/- A sum that is fixed is the sum that is made anew, but that 0 and 65535 are one. -/
import Derived.Test.YtaghpjemoofplaaTurnsMath
import Derived.Test.YtaghpjemoofplaaSumWalk3
set_option linter.unusedVariables false
namespace Go.Proofs.Ytaghpjemoofplaa

theorem sum16_at : ∀ (l : List Nat) (P : Nat) (h : P + 1 < l.length), P % 2 = 0 → ((l[P]'(by omega) : Nat) * 256 + (l[P + 1] : Nat) : Int) ≤ sum16 l
  | [], P, h, _ => by simp at h
  | [x], P, h, _ => by simp at h
  | x :: y :: r, 0, h, _ => by have := sum16_nonneg r; simp [sum16]; omega
  | x :: y :: r, 1, h, hp => by simp at hp
  | x :: y :: r, P + 2, h, hp => by
    have hr : P + 1 < r.length := by simp at h; omega
    have := sum16_at r P hr (by omega)
    have g1 : (x :: y :: r)[P + 2]'(by omega) = r[P]'(by omega) := by simp
    have g2 : (x :: y :: r)[P + 2 + 1]'(by omega) = r[P + 1] := by simp
    rw [g1, g2]; simp only [sum16]; omega

theorem fix_fits (l : List Nat) (P : Nat) (h : P + 1 < l.length) (hp : P % 2 = 0) (a b : Nat) (old now : Int) (ho : old = (l[P]'(by omega) : Nat) * 256 + (l[P + 1] : Nat)) (ho2 : old ≤ 65535)
    (hn : now = (a : Int) * 256 + b) (hn2 : now ≤ 65535) :
    fixF (netF l) old now = netF ((l.set P a).set (P + 1) b) ∨ (fixF (netF l) old now = 0 ∧ netF ((l.set P a).set (P + 1) b) = 65535) := by
  have hs := sum16_set l P a b h hp
  have h0 := sum16_nonneg ((l.set P a).set (P + 1) b)
  have h1 := sum16_at l P h hp
  have h2 := sum16_nonneg l
  rw [netF_eq, netF_eq]
  unfold fixF foldF
  have e : 65535 - (65535 - lowF (sum16 l)) + (65535 - old) + now = lowF (sum16 l) + (65535 - old) + now := by omega
  rw [e]
  have hl := lowF_le (sum16 l)
  rw [← ho] at hs h1
  have hs' : sum16 ((l.set P a).set (P + 1) b) = sum16 l - old + now := by rw [hs, hn]
  generalize sum16 ((l.set P a).set (P + 1) b) = S' at *
  generalize sum16 l = S at *
  subst hs'
  have o0 : 0 ≤ old := by omega
  have n0 : 0 ≤ now := by omega
  clear hn ho hs
  unfold lowF at *
  by_cases hS : S = 0
  · rw [if_pos hS]
    by_cases hz : S - old + now = 0
    · right
      rw [if_pos hz]
      constructor
      · split <;> omega
      · omega
    · left
      rw [if_neg hz]
      split <;> omega
  · rw [if_neg hS]
    by_cases hz : S - old + now = 0
    · right
      rw [if_pos hz]
      constructor
      · split <;> omega
      · omega
    · left
      rw [if_neg hz]
      split <;> omega
end Go.Proofs.Ytaghpjemoofplaa
