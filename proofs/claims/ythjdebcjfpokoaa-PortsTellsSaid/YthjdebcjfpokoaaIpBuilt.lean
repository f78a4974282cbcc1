/- What Parse tells of bytes that begin with a header that was built. -/
import Derived.Test.YthjdebcjfpokoaaIpMath
import Derived.Test.YthjdebcjfpokoaaIpParse
set_option linter.unusedVariables false
namespace Go.Proofs.Ythjdebcjfpokoaa
open Go.RowKit

theorem len_built (h : HArg) (r : List Nat) (n : Nat) (hn : h.len = n) (h2 : n < 65536) : (hdr (builtF h ++ r)).len = n ∧ (hdr (builtF h ++ r)).ihl = 5 := by
  have hl := builtF_length h
  rw [hdr_app _ _ (by omega)]
  have e0 : gb (builtF h) 0 = 69 := by rw [builtF_eq]; rfl
  have e2 : gb (builtF h) 2 = n / 256 % 256 := by rw [builtF_eq, hn, u64N_nat n (by omega)]; rfl
  have e3 : gb (builtF h) 3 = n % 256 := by rw [builtF_eq, hn, u64N_nat n (by omega)]; rfl
  refine ⟨?_, ?_⟩
  · show gb (builtF h) 2 * 256 + gb (builtF h) 3 = n
    rw [e2, e3]; omega
  · show gb (builtF h) 0 % 16 = 5
    rw [e0]
theorem rest_built (h : HArg) (xs r : List Nat) (hn : h.len = (20 + xs.length : Nat)) (h2 : xs.length ≤ 65000) : ((builtF h ++ (xs ++ r)).take (20 + xs.length)).drop (4 * 5) = xs := by
  have hl := builtF_length h
  rw [← List.append_assoc, show 20 + xs.length = (builtF h ++ xs).length from by simp [hl], List.take_left, show 4 * 5 = (builtF h).length from by rw [hl], List.drop_left]
/-- A packet that was built is parsed, whatever more comes. -/
theorem parse_built (h : HArg) (xs r : List Nat) (a : Option Addr) (len cap : Nat) (w : World) (hr : RowB w a len cap (builtF h ++ (xs ++ r))) (n : Nat) (hx : xs.length = n) (hn : h.len = (20 + n : Nat)) (h2 : n ≤ 65000) :
    Calls Try.prog 15 #[.slice a len cap] w fun e w' => ∃ a' cap', e = .returned (.tuple #[hv (hdr (builtF h)), .slice a' n cap', .int .i64 0]) ∧ FreshB w w' (.slice a' n cap') xs := by
  subst hx
  have hy : whyF (builtF h ++ (xs ++ r)) = 0 := by
    rw [why_built h _ (20 + xs.length) hn (by omega) (by omega), if_neg (by simp; omega)]
  refine (parse_ok a len cap _ w hr hy).mono ?_
  rintro e w' ⟨a', c', rfl, hf⟩
  obtain ⟨e1, e2⟩ := len_built h (xs ++ r) (20 + xs.length) hn (by omega)
  rw [e1, e2, rest_built h xs r hn h2, show 20 + xs.length - 4 * 5 = xs.length from by omega] at hf
  refine ⟨a', c', ?_, hf⟩
  rw [e1, e2, show 20 + xs.length - 4 * 5 = xs.length from by omega, hdr_app _ _ (by rw [builtF_length]; omega)]
/-- .. of one that is cut it is told so. -/
theorem parse_cut (h : HArg) (r : List Nat) (a : Option Addr) (len cap : Nat) (w : World) (hr : RowB w a len cap (builtF h ++ r)) (n : Nat) (hn : h.len = n) (h1 : 20 ≤ n) (h2 : n < 65536) (h3 : r.length + 20 < n) :
    Calls Try.prog 15 #[.slice a len cap] w fun e w' => e = .returned (.tuple #[hv hdr0, .slice none 0 0, .int .i64 5]) ∧ Touch w w' (fun _ => False) := by
  have hy : whyF (builtF h ++ r) = 5 := by rw [why_built h r n hn h1 h2, if_pos h3]
  refine (parse_bad a len cap _ w hr (by omega)).mono ?_
  rintro e w' ⟨rfl, t⟩
  rw [hy]
  exact ⟨rfl, t⟩
end Go.Proofs.Ythjdebcjfpokoaa
