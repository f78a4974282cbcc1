/- The sum of numbers of 16 bits where one of them, or two against one another, are changed. -/
import Derived.Test.YthjdebcjfpokoaaSumMath
set_option linter.unusedVariables false
namespace Go.Proofs.Ythjdebcjfpokoaa

theorem sum16_set : ∀ (l : List Nat) (P a b : Nat) (h : P + 1 < l.length), P % 2 = 0 →
    sum16 ((l.set P a).set (P + 1) b) = sum16 l - ((l[P]'(by omega) : Nat) * 256 + (l[P + 1] : Nat)) + (a * 256 + b)
  | [], P, a, b, h, _ => by simp at h
  | [x], P, a, b, h, _ => by simp at h
  | x :: y :: r, 0, a, b, h, _ => by simp [sum16]; omega
  | x :: y :: r, 1, a, b, h, hp => by simp at hp
  | x :: y :: r, P + 2, a, b, h, hp => by
    have hr : P + 1 < r.length := by simp at h; omega
    have := sum16_set r P a b hr (by omega)
    have e1 : (x :: y :: r).set (P + 2) a = x :: y :: r.set P a := rfl
    have e2 : (x :: y :: r.set P a).set (P + 2 + 1) b = x :: y :: (r.set P a).set (P + 1) b := rfl
    rw [e1, e2]
    simp only [sum16]
    rw [this]
    have g1 : (x :: y :: r)[P + 2]'(by omega) = r[P]'(by omega) := by simp
    have g2 : (x :: y :: r)[P + 2 + 1]'(by omega) = r[P + 1] := by simp
    rw [g1, g2]; omega

/-- Two numbers of 16 bits, one put for the other: the sum stays. -/
theorem sum16_turn (l : List Nat) (P Q : Nat) (hP : P + 1 < l.length) (hQ : Q + 1 < l.length) (p2 : P % 2 = 0) (q2 : Q % 2 = 0) (x y x' y' : Nat)
    (hx : l[P]'(by omega) = x) (hy : l[Q]'(by omega) = y) (hx' : l[P + 1] = x') (hy' : l[Q + 1] = y') :
    sum16 ((((l.set P y).set Q x).set (P + 1) y').set (Q + 1) x') = sum16 l := by
  by_cases h : P = Q
  · subst h
    have e1 : x = y := hx.symm.trans hy
    have e2 : x' = y' := hx'.symm.trans hy'
    subst e1; subst e2
    have s1 : l.set P x = l := by rw [← hx]; exact List.set_getElem_self _
    rw [s1, s1]
    have s2 : l.set (P + 1) x' = l := by rw [← hx']; exact List.set_getElem_self _
    rw [s2, s2]
  · have c1 : (((l.set P y).set Q x).set (P + 1) y').set (Q + 1) x' = (((l.set P y).set (P + 1) y').set Q x).set (Q + 1) x' := by
      rw [List.set_comm x y' (by omega : Q ≠ P + 1)]
    rw [c1, sum16_set _ Q x x' (by simpa using hQ) q2, sum16_set l P y y' hP p2]
    have g1 : ((l.set P y).set (P + 1) y')[Q]'(by simp; omega) = y := by
      rw [List.getElem_set_ne (by omega), List.getElem_set_ne (by omega)]; exact hy
    have g2 : ((l.set P y).set (P + 1) y')[Q + 1]'(by simp; omega) = y' := by
      rw [List.getElem_set_ne (by omega), List.getElem_set_ne (by omega)]; exact hy'
    rw [g1, g2, hx, hx']; omega
end Go.Proofs.Ythjdebcjfpokoaa
