import Derived.Test.YtpjdcgjoepjmcaaGreatTupLessZ
set_option linter.unusedVariables false
set_option linter.unusedSimpArgs false
namespace Go.Proofs.YtpjdcgjoepjmcaaGreat
open Go.RowKit
set_option maxRecDepth 20000 in
set_option maxHeartbeats 2000000 in
theorem rless4_any (p q : TupD) (w : World) :
 Calls Tryz.prog 127 #[.agg (tcs p), .agg (tcs q)] w fun e w' => e = .returned (.bool (lessT p q)) ∧ Touch w w' (fun _ => False) := by
 have HM := Lib.hid (lessT_iff p q)
 generalize lessT p q = m at *
 obtain ⟨a1, a2, a3, a4, a5⟩ := p
 obtain ⟨b1, b2, b3, b4, b5⟩ := q
 simp only at HM
 simp only [tcs]
 go_enter Tryz.func127, Tryz.ntmps127
 go_wp2
 all_goals (go_ret; refine ⟨ret_bool ?_, ((Touch.refl _ _).alloc _).alloc _⟩; rw [Bool.eq_iff_iff, HM.out]; clear HM; (first | (simp_all; done) | (simp_all; omega)))
end Go.Proofs.YtpjdcgjoepjmcaaGreat
