/- Why nobody speaks in bytes behind a header that was built. -/
import Derived.Test.YthjdebcjfpokoaaPortAwake
set_option linter.unusedVariables false
namespace Go.Proofs.Ythjdebcjfpokoaa
open Go.RowKit

theorem why_any (h : HArg) (p : List Nat) (hn : h.len = (20 + p.length : Nat)) (hp : p.length ≤ 65000) (hs : 0 ≤ h.src ∧ h.src ≤ 4294967295) (hd : 0 ≤ h.dst ∧ h.dst ≤ 4294967295) :
    whyT (builtF h ++ p) = refF (h.flags % 8).toNat (h.off % 8192).toNat (u64N h.proto % 256) p := by
  obtain ⟨z1, z2, z3⟩ := tell_built h p hn hp hs hd
  unfold whyT
  rw [if_pos z1, z2, z3]
theorem tell_bad (xs : List Nat) (h : whyT xs ≠ 0) : tellT xs = tup0 ∧ tellG xs = hdr0 := by
  unfold tellT tellG
  rw [if_neg h, if_neg h]
  exact ⟨rfl, rfl⟩
/-- Why nobody speaks in bytes behind a header that was built. -/
theorem tuple_bad (h : HArg) (p : List Nat) (n : Nat) (y : Nat) (hl : p.length = n) (hn : h.len = (20 + n : Nat)) (hp : n ≤ 65000) (hs : 0 ≤ h.src ∧ h.src ≤ 4294967295) (hd : 0 ≤ h.dst ∧ h.dst ≤ 4294967295)
    (hy : refF (h.flags % 8).toNat (h.off % 8192).toNat (u64N h.proto % 256) p = y) (h0 : y ≠ 0) (a : Option Addr) (cap : Nat) (w : World) (hr : RowB w a (20 + n) cap (builtF h ++ p)) :
    Calls Try.prog 24 #[.slice a (20 + n) cap] w fun e w' => e = .returned (.tuple #[tv tup0, hv hdr0, .int .i64 (y : Nat)]) ∧ Touch w w' (fun _ => False) := by
  subst hl
  have hw := why_any h p hn hp hs hd
  rw [hy] at hw
  obtain ⟨e1, e2⟩ := tell_bad _ (by rw [hw]; exact h0)
  refine (tuple_any a _ cap _ w hr).mono fun e w' h => ?_
  rw [e1, e2, hw] at h
  exact h
theorem ref_short (q : Nat) (p : List Nat) (h : (q = 6 ∧ p.length < 20) ∨ (q = 17 ∧ p.length < 8)) : refF 0 0 q p = 9 := by
  have hw : wholeB ((0 : Nat) : Int) ((0 : Nat) : Int) = true := by rfl
  unfold refF
  rw [if_neg (by rw [hw]; decide), if_neg (by omega)]
  rcases h with ⟨rfl, h⟩ | ⟨rfl, h⟩
  · have : tcpB p = false := by unfold tcpB; rw [if_pos h]
    rw [if_pos ⟨rfl, this⟩]
  · have : udpB p = false := by unfold udpB; rw [if_pos h]
    rw [if_neg (by omega), if_pos ⟨rfl, this⟩]
theorem ref_proto (q : Nat) (p : List Nat) : refF 0 0 q p = 8 ↔ (q ≠ 6 ∧ q ≠ 17) := by
  have hw : wholeB ((0 : Nat) : Int) ((0 : Nat) : Int) = true := by rfl
  unfold refF
  rw [if_neg (by rw [hw]; decide)]
  by_cases h : q ≠ 6 ∧ q ≠ 17
  · rw [if_pos h]; simp [h]
  · rw [if_neg h]
    constructor
    · intro h2; split at h2
      · omega
      · split at h2 <;> omega
    · intro h2; exact absurd h2 h

end Go.Proofs.Ythjdebcjfpokoaa
