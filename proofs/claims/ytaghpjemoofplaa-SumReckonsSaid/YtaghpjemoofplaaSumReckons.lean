/- SumReckons answers true for any bytes and any numbers: each sum is the reference's own. No condition. -/
import Derived.Test.YtaghpjemoofplaaSumAwake
import Derived.Test.YtaghpjemoofplaaFrSumReckons
set_option linter.unusedVariables false
namespace Go.Proofs.Ytaghpjemoofplaa
open Go.RowKit

set_option maxHeartbeats 1000000 in
theorem reckons_walk (s sd o n x : Int) (a : Option Addr) (len cap : Nat) (xs : List Nat) (w : World) (hr : RowB w a len cap xs) (hs : 0 ≤ s ∧ s ≤ 4294967295) (hd : 0 ≤ sd ∧ sd ≤ 4294967295)
    (ho : 0 ≤ o ∧ o ≤ 65535) (hn : 0 ≤ n ∧ n ≤ 65535) (hx : 0 ≤ x ∧ x ≤ 65535) :
    Calls Try.prog 3 #[.slice a len cap, .int .u32 s, .int .u32 sd, .int .u16 o, .int .u16 n, .int .u16 x] w fun e w' => e = .returned (.bool true) ∧ Below w.heap.size w w' := by
  obtain ⟨sd, rfl⟩ := Int.eq_ofNat_of_zero_le hd.1
  have hsd : sd < 4294967296 := by omega
  go_enter Try.func3, Try.ntmps3
  go_wp2_with (first | (go_at_call 10; refine (net_any _ _ _ xs _ (by first | exact hr | exact hr.drewN _)).mono ?_; rintro e w' ⟨rfl, n, rfl⟩) | (go_at_call 11; refine (rnet_any _ _ _ xs _ (by first | exact hr | exact hr.drewN _)).mono ?_; rintro e w' ⟨rfl, n, rfl⟩) | (go_at_call 12; refine (part_any _ _ _ _ xs _ hs.1 hs.2 (by first | exact hr | exact hr.drewN _)).mono ?_; rintro e w' ⟨rfl, n, rfl⟩) | (go_at_call 13; refine (rpart_any _ _ _ _ xs _ hs.1 hs.2 (by first | exact hr | exact hr.drewN _)).mono ?_; rintro e w' ⟨rfl, n, rfl⟩) | (go_at_call 14; refine (fold_any _ _ hs.1 hs.2).mono ?_; rintro e w' ⟨rfl, n, rfl⟩) | (go_at_call 15; refine (rfold_any _ _ hs.1 hs.2).mono ?_; rintro e w' ⟨rfl, n, rfl⟩) | (go_at_call 16; refine (fix_any _ _ _ _ hx.1 hx.2 ho.1 ho.2 hn.1 hn.2).mono ?_; rintro e w' ⟨rfl, n, rfl⟩) | (go_at_call 17; refine (rfix_any _ _ _ _ hx.1 hx.2 ho.1 ho.2 hn.1 hn.2).mono ?_; rintro e w' ⟨rfl, n, rfl⟩) | (go_at_call 18; refine (crc_any _ _ _ xs _ (by first | exact hr | exact hr.drewN _)).mono ?_; rintro e w' ⟨rfl, n, rfl⟩) | (go_at_call 19; refine (rcrc_any _ _ _ xs _ (by first | exact hr | exact hr.drewN _)).mono ?_; rintro e w' ⟨rfl, n, rfl⟩) | (go_at_call 20; refine (mix_any _ _ _ _ xs _ hsd (by first | exact hr | exact hr.drewN _)).mono ?_; rintro e w' ⟨rfl, n, rfl⟩) | (go_at_call 21; refine (rmix_any _ _ _ _ xs _ hsd (by first | exact hr | exact hr.drewN _)).mono ?_; rintro e w' ⟨rfl, n, rfl⟩) | (go_at_call 22; refine (awake_any _).mono ?_; rintro e w' ⟨rfl, hb⟩))
  go_ret
  exact ⟨rfl, (below_drewN' (Below.refl _ _) _).trans hb⟩
theorem sumReckons_holds : Rows.SumReckonsSaid := by
  refine sumReckons.said fun H enc W base v0 v1 v2 v3 v4 v5 d0 d1 d2 d3 d4 d5 p0 p1 p2 p3 p4 p5 h0 h1 h2 h3 h4 h5 => ?_
  obtain ⟨a, len, cap, xs, rfl, hr, _, _⟩ := h0.bytes Try.underlying22 Try.underlying5 (by kernel_rfl) (by kernel_rfl)
  obtain ⟨s, rfl, hs, hs2, _⟩ := h1.u32 Try.underlying23
  obtain ⟨sd, rfl, hd, hd2, _⟩ := h2.u32 Try.underlying23
  obtain ⟨o, rfl, ho, ho2, _⟩ := h3.u16 Try.underlying24
  obtain ⟨n, rfl, hn, hn2, _⟩ := h4.u16 Try.underlying24
  obtain ⟨x, rfl, hx, hx2, _⟩ := h5.u16 Try.underlying24
  exact reckons_walk s sd o n x a len cap xs W hr ⟨hs, hs2⟩ ⟨hd, hd2⟩ ⟨ho, ho2⟩ ⟨hn, hn2⟩ ⟨hx, hx2⟩
end Go.Proofs.Ytaghpjemoofplaa
