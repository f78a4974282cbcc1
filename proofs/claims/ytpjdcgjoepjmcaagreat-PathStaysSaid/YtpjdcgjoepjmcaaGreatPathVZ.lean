import Derived.Test.YtpjdcgjoepjmcaaGreatPathWZ
set_option linter.unusedVariables false
set_option linter.unusedSimpArgs false
namespace Go.Proofs.YtpjdcgjoepjmcaaGreat
open Go.RowKit

def kN (i : Nat) : TupD := ⟨(i : Int), 0, 6, 0, 0⟩
def bk1 : BkD := ⟨1, 1, 1⟩
def fN (i : Nat) : FlD := ⟨kN i, 1, 1, 0⟩
structure RM (M : List FlD) (c : Nat) : Prop where
  len : M.length = c
  has : ∀ j : Nat, hasF M (kN j) = decide (j < c)
theorem RM.perm {M M' : List FlD} {c : Nat} (p : M.Perm M') (r : RM M' c) : RM M c := ⟨p.length_eq.trans r.len, fun j => (hasF_perm p _).trans (r.has j)⟩
theorem RM.zero : RM [] 0 := ⟨rfl, fun j => by simp [hasF]⟩
end Go.Proofs.YtpjdcgjoepjmcaaGreat
