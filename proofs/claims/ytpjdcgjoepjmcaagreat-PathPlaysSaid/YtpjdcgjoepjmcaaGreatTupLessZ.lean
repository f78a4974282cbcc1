import Derived.Test.YtpjdcgjoepjmcaaGreatGCZ
import Derived.Test.YtpjdcgjoepjmcaaGreatHCZ
set_option linter.unusedVariables false
namespace Go.Proofs.YtpjdcgjoepjmcaaGreat
open Go.RowKit
def sameT (a b : TupD) : Bool := decide (a.src = b.src ∧ a.dst = b.dst ∧ a.proto = b.proto ∧ a.sport = b.sport ∧ a.dport = b.dport)
theorem sameT_iff (a b : TupD) : sameT a b = true ↔ a = b := by
 unfold sameT; rw [decide_eq_true_iff]; cases a; cases b; simp
def lessT (a b : TupD) : Bool := decide (a.src < b.src ∨ a.src = b.src ∧ (a.dst < b.dst ∨ a.dst = b.dst ∧ (a.proto < b.proto ∨ a.proto = b.proto ∧ (a.sport < b.sport ∨ a.sport = b.sport ∧ a.dport < b.dport))))
theorem lessT_iff (a b : TupD) : lessT a b = true ↔ (a.src < b.src ∨ a.src = b.src ∧ (a.dst < b.dst ∨ a.dst = b.dst ∧ (a.proto < b.proto ∨ a.proto = b.proto ∧ (a.sport < b.sport ∨ a.sport = b.sport ∧ a.dport < b.dport)))) := by
 unfold lessT; exact decide_eq_true_iff
theorem less_irr (a : TupD) : lessT a a = false := by
 cases h : lessT a a with
 | false => rfl
 | true => rw [lessT_iff] at h; omega
theorem less_tri (a b : TupD) (h : a ≠ b) : (lessT a b == lessT b a) = false := by
 have h1 := lessT_iff a b
 have h2 := lessT_iff b a
 have h3 : ¬ (a.src = b.src ∧ a.dst = b.dst ∧ a.proto = b.proto ∧ a.sport = b.sport ∧ a.dport = b.dport) := fun k => h (by cases a; cases b; simp_all)
 cases e1 : lessT a b <;> cases e2 : lessT b a <;> simp only [e1, e2] at h1 h2 ⊢
 ·simp only [Bool.false_eq_true, false_iff] at h1 h2; omega
 ·rfl
 ·rfl
 ·simp only [true_iff] at h1 h2; omega
theorem less_trans (a b c : TupD) (h1 : lessT a b = true) (h2 : lessT b c = true) : lessT a c = true := by
 rw [lessT_iff] at *; omega
set_option maxRecDepth 20000 in
set_option maxHeartbeats 2000000 in
theorem less_any (p q : TupD) (w : World) :
 Calls Tryz.prog 95 #[.agg (tcs p), .agg (tcs q)] w fun e w' => e = .returned (.bool (lessT p q)) ∧ Touch w w' (fun _ => False) := by
 have HM := Lib.hid (lessT_iff p q)
 generalize lessT p q = m at *
 obtain ⟨a1, a2, a3, a4, a5⟩ := p
 obtain ⟨b1, b2, b3, b4, b5⟩ := q
 simp only at HM
 simp only [tcs]
 go_enter Tryz.func95, Tryz.ntmps95
 go_wp2
 all_goals (go_ret; refine ⟨ret_bool ?_, ((Touch.refl _ _).alloc _).alloc _⟩; rw [Bool.eq_iff_iff, HM.out]; clear HM; (first | (simp_all; done) | (simp_all; omega)))
end Go.Proofs.YtpjdcgjoepjmcaaGreat
