/- Records: what Encode of package record answers. -/
import Derived.Test.YtgmimdnebgncoaaRecWalkZ
import Derived.Laws.EntriesVeiled
set_option linter.unusedVariables false
set_option linter.unusedSimpArgs false
namespace Go.Proofs.Ytgmimdnebgncoaa
open Go.RowKit

def f3 (k v : Int) (a : Option Addr) (len cap : Nat) : Array Value := #[.int .i64 k, .int .i64 v, .slice a len cap]
/-- What Encode tells: its error; the frame's kind, format and body. -/
def encE (r : RecD) (v : Int) : Int := if verB v = true then (if mayRB r = true then 0 else 1) else 10
def encK (r : RecD) (v : Int) : Int := if encE r v = 0 then r.kind else 0
def encV (r : RecD) (v : Int) : Int := if encE r v = 0 then v else 0
def encB (r : RecD) (v : Int) : List Nat := if encE r v = 0 then bodyF r v else []
def EncIs (w : World) (r : RecD) (v : Int) (e : Ending) (w' : World) : Prop :=
  ∃ (a' : Option Addr) (c' : Nat), e = .returned (.tuple #[.agg (f3 (encK r v) (encV r v) a' (encB r v).length c'), .int .i64 (encE r v)]) ∧ FreshB w w' (.slice a' (encB r v).length c') (encB r v)
theorem less_of {r : RecD} (h : mayRB r = true) : RecLess r := by
  refine ⟨fun hk => ?_, fun hk => ?_, fun hk => ?_, fun hk => ?_⟩
  · unfold mayRB at h; rw [if_pos hk] at h
    simp only [Bool.and_eq_true, cntB_iff] at h; omega
  · unfold mayRB at h; rw [if_neg (by omega), if_neg (by omega), if_pos hk] at h
    simp only [Bool.and_eq_true, cntB_iff] at h; omega
  · unfold mayRB at h; rw [if_neg (by omega), if_neg (by omega), if_neg (by omega), if_neg (by omega), if_neg (by omega), if_pos hk] at h
    rw [cntB_iff] at h; omega
  · unfold mayRB at h; rw [if_neg (by omega), if_neg (by omega), if_pos hk] at h
    simp only [Bool.and_eq_true, decide_eq_true_eq] at h; omega
theorem kind_of {r : RecD} (h : mayRB r = true) : r.kind = 1 ∨ r.kind = 2 ∨ r.kind = 3 ∨ r.kind = 4 ∨ r.kind = 5 ∨ r.kind = 6 := by
  unfold mayRB at h
  by_cases h1 : r.kind = 1; · exact .inl h1
  by_cases h2 : r.kind = 2; · exact .inr (.inl h2)
  by_cases h3 : r.kind = 3; · exact .inr (.inr (.inl h3))
  by_cases h4 : r.kind = 4; · exact .inr (.inr (.inr (.inl h4)))
  by_cases h5 : r.kind = 5; · exact .inr (.inr (.inr (.inr (.inl h5))))
  by_cases h6 : r.kind = 6; · exact .inr (.inr (.inr (.inr (.inr h6))))
  rw [if_neg h1, if_neg h2, if_neg h3, if_neg h4, if_neg h5, if_neg h6] at h; cases h
theorem bodyF_le (r : RecD) (v : Int) (h : mayRB r = true) : (bodyF r v).length ≤ 1000 := by
  have less := less_of h
  have hb := bksF_le v r.bs
  unfold bodyF flowF
  by_cases h3 : r.kind = 3
  · have := less.bs h3
    rw [if_neg (by omega), if_neg (by omega), if_pos h3]
    simp only [List.length_append, beB_length]; omega
  · rw [if_neg h3]
    repeat' split
    all_goals simp [beB_length, tbF_length]

end Go.Proofs.Ytgmimdnebgncoaa
