/- SumFixes answers true for any bytes and numbers: a sum that is fixed is the sum that is made anew, but that 0 and 65535 are one. No condition. -/
import Derived.Test.YtaghpjemoofplaaSumAwake
import Derived.Test.YtaghpjemoofplaaBytes
import Derived.Test.YtaghpjemoofplaaFixMath
import Derived.Test.YtaghpjemoofplaaFrSumFixes
import Derived.StillTailTactics
set_option linter.unusedVariables false
namespace Go.Proofs.Ytaghpjemoofplaa
open Go.RowKit

theorem place2 (i : Int) (len : Nat) (h : 2 ≤ len) (h2 : len ≤ 2000) : ∃ P : Nat, wrap64 (wrap64 ((IntKind.u64.wrap i).tmod ((len : Int) / 2)) * 2) = (P : Int) ∧ P + 1 < len / 2 * 2 ∧ P % 2 = 0 := by
  have h0 : 0 ≤ IntKind.u64.wrap i := by rw [IntKind.wrap_u64]; omega
  rw [Int.tmod_eq_emod_of_nonneg h0]
  have h1 : 0 ≤ IntKind.u64.wrap i % ((len : Int) / 2) := Int.emod_nonneg _ (by omega)
  have h3 : IntKind.u64.wrap i % ((len : Int) / 2) < (len : Int) / 2 := Int.emod_lt_of_pos _ (by omega)
  generalize IntKind.u64.wrap i % ((len : Int) / 2) = r at *
  refine ⟨(r * 2).toNat, ?_, by omega, by omega⟩
  rw [IntWalk.wrap64_in r (by omega), IntWalk.wrap64_in (r * 2) (by omega)]
  omega
theorem or8' (x y : Nat) (hx : x < 256) (hy : y < 256) : bits BinOp.or IntKind.u16 ((x : Int) * 256) (y : Int) = (x : Int) * 256 + y :=
  bits_join .u16 16 (by decide) (fun n a b => by rw [IntKind.wrap_u16]; omega) 8 _ _ (by omega) (by omega) (by omega) (by omega) (by omega) (by omega)

set_option maxHeartbeats 4000000 in
theorem fixes_walk (a : Option Addr) (len cap : Nat) (xs : List Nat) (i now : Int) (w : World) (hr : RowB w a len cap xs) (hi1 : -9223372036854775808 ≤ i) (hi2 : i ≤ 9223372036854775807) (hs1 : 0 ≤ now) (hs2 : now ≤ 65535) :
    Calls Try.prog 5 #[.slice a len cap, .int .i64 i, .int .u16 now] w fun e w' => e = .returned (.bool true) ∧ Below w.heap.size w w' := by
  have q1 := hr.2.2.2.1
  have q2 := hr.2.1
  have q3 := hr.2.2.1
  have hxl := hr.1
  by_cases h4 : len < 2
  · have hlt : (len : Int) < 2 := by omega
    go_enter Try.func5, Try.ntmps5
    go_wp2_with (go_at_call 22; refine (awake_any _).mono ?_; rintro e w' ⟨rfl, hb⟩)
    go_ret
    exact ⟨rfl, hb⟩
  · by_cases h5 : 2000 < len
    · have hlt : ¬ (len : Int) < 2 := by omega
      have hgt : (2000 : Int) < len := by omega
      go_enter Try.func5, Try.ntmps5
      go_wp2_with (go_at_call 22; refine (awake_any _).mono ?_; rintro e w' ⟨rfl, hb⟩)
      go_ret
      exact ⟨rfl, hb⟩
    · have hlt : ¬ (len : Int) < 2 := by omega
      have hgt : ¬ (2000 : Int) < len := by omega
      have hge : 2 ≤ len := by omega
      have hle : len ≤ 2000 := by omega
      have hrt := hr.take (len / 2 * 2) (by omega)
      have hcc : len / 2 * 2 ≤ cap := by omega
      have hxt : (xs.take (len / 2 * 2)).length = len / 2 * 2 := hrt.1
      generalize xs.take (len / 2 * 2) = ys at *
      go_enter Try.func5, Try.ntmps5
      go_wp2_with (at_builtin; refine wpList_appendB rfl _ _ 22 rfl 5 Try.underlying22 infoB w.heap.size (.slice (some ⟨w.heap.size, 0, none⟩) 0 0) [] rfl (OwnB.lit w _ rfl _ (Nat.le_refl _) _ _ _ _ rfl rfl (by decide) (by decide)) _ _ _ ys rfl (hrt.old (Below.alloc (Below.refl _ _) (Nat.le_refl _) _)) (len / 2 * 2) ys rfl hxt (by omega) (by simp) w.heap.size w (Below.alloc (Below.refl _ _) (Nat.le_refl _) _) (Nat.le_refl _) ?_; intro a3 c3 w3 hown3 hr3 hg3 hb3 hs3 hp3)
      rcases hp3 with rfl | ⟨g, rfl, hg1, hg2⟩
      · exact absurd (OwnB.nonempty hown3 hxt (by omega)) id
      · obtain ⟨P, eP, hP, hP2⟩ := place2 i len hge hle
        rw [eP]
        clear eP
        have hM : len / 2 * 2 ≤ 2000 := by omega
        generalize len / 2 * 2 = M at *
        have hP1 : P < ys.length := by omega
        have hP3 : P + 1 < ys.length := by omega
        have c0 := hown3.at hxt P (by omega) hP1
        have c1 := hown3.at hxt (P + 1) (by omega) hP3
        have f0 := hown3.free hxt P
        have f1 := hown3.free hxt (P + 1)
        obtain ⟨x, hx⟩ : ∃ x, ys[P] = x := ⟨_, rfl⟩
        obtain ⟨y, hy⟩ : ∃ y, ys[P + 1] = y := ⟨_, rfl⟩
        rw [hx] at c0
        rw [hy] at c1
        have hx8 : x < 256 := by rw [← hx]; exact hrt.2.2.2.2.1 _ (List.getElem_mem _)
        have hy8 : y < 256 := by rw [← hy]; exact hrt.2.2.2.2.1 _ (List.getElem_mem _)
        have HX := Lib.hid hx
        have HY := Lib.hid hy
        clear hx hy
        have i0 : (P : Int) < (M : Int) := by omega
        have i1 : (P : Int) + 1 < (M : Int) := by omega
        have HX3 := Lib.hid hxt
        clear hxt
        have e1 : IntKind.u16.wrap (x : Int) = x := IntWalk.u16_in _ (by omega)
        have e2 : IntKind.u16.wrap ((x : Int) * 256) = x * 256 := IntWalk.u16_in _ (by omega)
        have e3 : IntKind.u16.wrap (y : Int) = y := IntWalk.u16_in _ (by omega)
        have e4 := or8' x y hx8 hy8
        have e5 : IntKind.i64.wrap ((P : Int) + 1) = P + 1 := IntWalk.i64_in _ (by omega)
        have e6 : ((P : Int) + 1).toNat = P + 1 := by omega
        have e7 : (0 : Int) ≤ (P : Int) + 1 := by omega
        go_quiet (fail)
        clear e1 e2 e3 e4 e5 e6 e7
        go_wp2_with fail
        refine (net_any _ _ _ ys _ (hr3.drewN nq)).mono ?_
        rintro e w4 ⟨rfl, hd4⟩
        have hd4' : Drew w3 w4 := by obtain ⟨k, rfl⟩ := hd4; exact Drew.more (Drew.mk _ _) _
        have hown4 := hown3.drew hd4'
        have hb4 : Below w.heap.size w w4 := hb3.trans (hd4'.below _)
        have f0' := hown4.free HX3.out P
        have f1' := hown4.free HX3.out (P + 1)
        have c0' : w4.cell? ⟨g, P, none⟩ = some (.int .u8 (x : Nat)) := by have e := hown4.at HX3.out P (by omega) hP1; rw [HX.out] at e; exact e
        have c1' : w4.cell? ⟨g, P + 1, none⟩ = some (.int .u8 (y : Nat)) := by have e := hown4.at HX3.out (P + 1) (by omega) hP3; rw [HY.out] at e; exact e
        clear hd4 hd4' hown3 hr3 hg3 hb3 hs3 hg2 f0 f1 c0 c1
        obtain ⟨w5, hw5⟩ : ∃ w5, ((w4.setCell ⟨g, P, none⟩ (.int .u8 (now / 256))).setCell ⟨g, P + 1, none⟩ (.int .u8 (now % 256))) = w5 := ⟨_, rfl⟩
        have n1 : (((now / 256).toNat : Nat) : Int) = now / 256 := by omega
        have n2 : (((now % 256).toNat : Nat) : Int) = now % 256 := by omega
        have hown5 : OwnB w5 w.heap.size 5 (.slice (some ⟨g, 0, none⟩) M c3) ((ys.set P (now / 256).toNat).set (P + 1) (now % 256).toNat) := by
          have e := ((hown4.stored HX3.out P (now / 256).toNat (by omega)).stored (by simpa using HX3.out) (P + 1) (now % 256).toNat (by omega))
          rw [n1, n2] at e
          exact hw5 ▸ e
        have hb5 : Below w.heap.size w w5 := hw5 ▸ ((hb4.setCell (p := ⟨g, P, none⟩) hg1 (.int .u8 (now / 256))).setCell (p := ⟨g, P + 1, none⟩) hg1 (.int .u8 (now % 256)))
        have hlen5 : ((ys.set P (now / 256).toNat).set (P + 1) (now % 256).toNat).length = M := by simpa using HX3.out
        have hr5 : RowB w5 (some ⟨g, 0, none⟩) M c3 ((ys.set P (now / 256).toNat).set (P + 1) (now % 256).toNat) := by
          obtain ⟨a', c', hv, hq, _⟩ := hown5.row
          rw [hlen5] at hv hq
          simp only [Value.slice.injEq, true_and] at hv
          obtain ⟨rfl, rfl⟩ := hv
          exact hq
        have HFIX := Lib.hid (fix_fits ys P hP3 hP2 (now / 256).toNat (now % 256).toNat ((x : Int) * 256 + y) now (by rw [HX.out, HY.out]) (by omega) (by omega) hs2)
        have hnl := netF_le ys
        clear n1 n2 hown4 hown5 hlen5
        generalize (ys.set P (now / 256).toNat).set (P + 1) (now % 256).toNat = zs at *
        have hnl2 := netF_le zs
        go_wp2_with fail
        refine (fix_any _ _ _ _ (by omega) (by omega) (by omega) (by omega) hs1 hs2).mono ?_
        rintro e w' ⟨rfl, k1, rfl⟩
        go_wp2_with fail
        refine (net_any _ _ _ zs _ (hr5.drewN _)).mono ?_
        rintro e w' ⟨rfl, k2, rfl⟩
        clear hw5
        rcases HFIX.out with h | ⟨h, h'⟩
        · rw [h]
          clear HFIX h
          generalize netF zs = Y at *
          have hyy : (Y == Y) = true := beq_iff_eq.2 rfl
          go_wp2_with (go_at_call 22; refine (awake_any _).mono ?_; rintro e w' ⟨rfl, hbz⟩)
          go_ret
          exact ⟨rfl, (below_drewN' hb5 _).trans (hbz.mono hb5.size)⟩
        · rw [h, h']
          clear HFIX h h' hnl2
          go_wp2_with (go_at_call 22; refine (awake_any _).mono ?_; rintro e w' ⟨rfl, hbz⟩)
          go_ret
          exact ⟨rfl, (below_drewN' hb5 _).trans (hbz.mono hb5.size)⟩

theorem sumFixes_holds : Rows.SumFixesSaid := by
  refine sumFixes.said fun H enc W base v0 v1 v2 d0 d1 d2 p0 p1 p2 h0 h1 h2 => ?_
  obtain ⟨a, len, cap, xs, rfl, hr, _, _⟩ := h0.bytes Try.underlying22 Try.underlying5 (by kernel_rfl) (by kernel_rfl)
  obtain ⟨i, rfl, hi1, hi2, _⟩ := h1.i64 Try.underlying3
  obtain ⟨s, rfl, hs1, hs2, _⟩ := h2.u16 Try.underlying24
  exact fixes_walk a len cap xs i s W hr hi1 hi2 hs1 hs2
end Go.Proofs.Ytaghpjemoofplaa
