/- SumTurns answers true for any bytes and numbers: in which order numbers of two bytes stand makes no difference to Net; folded twice is folded once. No condition. -/
import Derived.Test.YtaghpjemoofplaaSumAwake
import Derived.Test.YtaghpjemoofplaaBytes
import Derived.Test.YtaghpjemoofplaaTurnsMath
import Derived.Test.YtaghpjemoofplaaFrSumTurns
import Derived.StillTailTactics
set_option linter.unusedVariables false
namespace Go.Proofs.Ytaghpjemoofplaa
open Go.RowKit

theorem place (i : Int) (len : Nat) (h : 4 ≤ len) (h2 : len ≤ 2000) : ∃ P : Nat, wrap64 (2 * wrap64 ((IntKind.u64.wrap i).tmod ((len : Int) / 2))) = (P : Int) ∧ P + 1 < len ∧ P % 2 = 0 := by
  have h0 : 0 ≤ IntKind.u64.wrap i := by rw [IntKind.wrap_u64]; omega
  rw [Int.tmod_eq_emod_of_nonneg h0]
  have h1 : 0 ≤ IntKind.u64.wrap i % ((len : Int) / 2) := Int.emod_nonneg _ (by omega)
  have h3 : IntKind.u64.wrap i % ((len : Int) / 2) < (len : Int) / 2 := Int.emod_lt_of_pos _ (by omega)
  generalize IntKind.u64.wrap i % ((len : Int) / 2) = r at *
  refine ⟨(2 * r).toNat, ?_, by omega, by omega⟩
  rw [IntWalk.wrap64_in r (by omega), IntWalk.wrap64_in (2 * r) (by omega)]
  omega

set_option maxHeartbeats 4000000 in
theorem turns_walk (a : Option Addr) (len cap : Nat) (xs : List Nat) (i j s : Int) (w : World) (hr : RowB w a len cap xs) (hi1 : -9223372036854775808 ≤ i) (hi2 : i ≤ 9223372036854775807) (hj1 : -9223372036854775808 ≤ j) (hj2 : j ≤ 9223372036854775807) (hs1 : 0 ≤ s) (hs2 : s ≤ 4294967295) :
    Calls Try.prog 7 #[.slice a len cap, .int .i64 i, .int .i64 j, .int .u32 s] w fun e w' => e = .returned (.bool true) ∧ Below w.heap.size w w' := by
  have q1 := hr.2.2.2.1
  have q2 := hr.2.1
  have q3 := hr.2.2.1
  have hxl := hr.1
  by_cases h4 : len < 4
  · have hlt : (len : Int) < 4 := by omega
    go_enter Try.func7, Try.ntmps7
    go_wp2_with (go_at_call 22; refine (awake_any _).mono ?_; rintro e w' ⟨rfl, hb⟩)
    go_ret
    exact ⟨rfl, hb⟩
  · by_cases h5 : 2000 < len
    · have hlt : ¬ (len : Int) < 4 := by omega
      have hgt : (2000 : Int) < len := by omega
      go_enter Try.func7, Try.ntmps7
      go_wp2_with (go_at_call 22; refine (awake_any _).mono ?_; rintro e w' ⟨rfl, hb⟩)
      go_ret
      exact ⟨rfl, hb⟩
    · have hlt : ¬ (len : Int) < 4 := by omega
      have hgt : ¬ (2000 : Int) < len := by omega
      have hge : 4 ≤ len := by omega
      have hle : len ≤ 2000 := by omega
      go_enter Try.func7, Try.ntmps7
      go_wp2_with (at_builtin; refine wpList_appendB rfl _ _ 22 rfl 5 Try.underlying22 infoB w.heap.size (.slice (some ⟨w.heap.size, 0, none⟩) 0 0) [] rfl (OwnB.lit w _ rfl _ (Nat.le_refl _) _ _ _ _ rfl rfl (by decide) (by decide)) _ _ _ xs rfl (hr.old (Below.alloc (Below.refl _ _) (Nat.le_refl _) _)) len xs rfl hxl (by omega) (by simp) w.heap.size w (Below.alloc (Below.refl _ _) (Nat.le_refl _) _) (Nat.le_refl _) ?_; intro a3 c3 w3 hown3 hr3 hg3 hb3 hs3 hp3)
      rcases hp3 with rfl | ⟨g, rfl, hg1, hg2⟩
      · exact absurd (OwnB.nonempty hown3 hxl (by omega)) id
      · have hne : (((len : Int) / 2) == 0) = false := beq_eq_false_iff_ne.2 (by omega)
        go_quiet (fail)
        obtain ⟨P, eP, hP, hP2⟩ := place i len hge hle
        obtain ⟨Q, eQ, hQ, hQ2⟩ := place j len hge hle
        rw [eP, eQ]
        clear eP eQ hne
        have hown := hown3.drewN nq
        have hb4 : Below w.heap.size w (w3.drewN nq) := below_drewN' hb3 _
        have hsz4 : w.heap.size + 1 ≤ (w3.drewN nq).heap.size := by
          have h9 : w.heap.size + 1 ≤ w3.heap.size := by simpa using hs3
          exact h9
        generalize w3.drewN nq = w4 at *
        clear hown3 hr3 hg3 hb3 hs3 hg2
        have hP1 : P < xs.length := by omega
        have hQ1 : Q < xs.length := by omega
        have cP := hown.at hxl P (by omega) hP1
        have cQ := hown.at hxl Q (by omega) hQ1
        have fP := hown.free hxl P
        have fQ := hown.free hxl Q
        generalize hx : xs[P] = x at *
        generalize hy : xs[Q] = y at *
        have HX := Lib.hid hx
        have HY := Lib.hid hy
        clear hx hy
        have iP : (P : Int) < (len : Int) := by omega
        have iQ : (Q : Int) < (len : Int) := by omega
        have hx256 : x < 256 := by rw [← HX.out]; exact hr.2.2.2.2.1 _ (List.getElem_mem hP1)
        have hy256 : y < 256 := by rw [← HY.out]; exact hr.2.2.2.2.1 _ (List.getElem_mem hQ1)
        by_cases hPQ : P = Q
        · subst hPQ
          obtain rfl : x = y := HX.out.symm.trans HY.out
          have hy256 := hx256
          obtain ⟨w5, hw5⟩ : ∃ w5, ((w4.setCell ⟨g, P, none⟩ (.int .u8 (x : Nat))).setCell ⟨g, P, none⟩ (.int .u8 (x : Nat))).drew = w5 := ⟨_, rfl⟩
          have hown5 : OwnB w5 w.heap.size 5 (.slice (some ⟨g, 0, none⟩) len c3) ((xs.set P x).set P x) := hw5 ▸ ((hown.stored hxl P x hy256).stored (by simpa using hxl) P x hx256).drewN 1
          have hb5 : Below w.heap.size w w5 := hw5 ▸ ((hb4.setCell (p := ⟨g, P, none⟩) hg1 (.int .u8 (x : Nat))).setCell (p := ⟨g, P, none⟩) hg1 (.int .u8 (x : Nat))).drew
          go_wp2
          go_region
          all_goals go_wp2
          try rw [hw5]
          clear hw5 cP cQ fP fQ hown hb4
          have hlen5 : ((xs.set P x).set P x).length = len := by simpa using hxl
          obtain ⟨x', hx'⟩ : ∃ x', xs[P + 1] = x' := ⟨_, rfl⟩
          have hy' := hx'
          have cP1 : w5.cell? ⟨g, P + 1, none⟩ = some (.int .u8 (x' : Nat)) := by
            have e := hown5.at hlen5 (P + 1) hP (by omega)
            rw [List.getElem_set_ne (by omega), List.getElem_set_ne (by omega), hx'] at e
            exact e
          have cQ1 : w5.cell? ⟨g, P + 1, none⟩ = some (.int .u8 (x' : Nat)) := by
            have e := hown5.at hlen5 (P + 1) hQ (by omega)
            rw [List.getElem_set_ne (by omega), List.getElem_set_ne (by omega), hy'] at e
            exact e
          have fP1 := hown5.free hlen5 (P + 1)
          have fQ1 := hown5.free hlen5 (P + 1)
          have hx2 : x' < 256 := by rw [← hx']; exact hr.2.2.2.2.1 _ (List.getElem_mem _)
          have hy2 := hx2
          have hturn := sum16_turn xs P P (by omega) (by omega) hP2 hQ2 x x x' x' HX.out HY.out hx' hy'
          have HT := Lib.hid hturn
          clear hturn hx' hy'
          obtain ⟨w6, hw6⟩ : ∃ w6, ((w5.setCell ⟨g, P + 1, none⟩ (.int .u8 (x' : Nat))).setCell ⟨g, P + 1, none⟩ (.int .u8 (x' : Nat))).drew = w6 := ⟨_, rfl⟩
          have hown6 : OwnB w6 w.heap.size 5 (.slice (some ⟨g, 0, none⟩) len c3) ((((xs.set P x).set P x).set (P + 1) x').set (P + 1) x') := hw6 ▸ ((hown5.stored hlen5 (P + 1) x' hy2).stored (by simpa using hxl) (P + 1) x' hx2).drewN 1
          have hb6 : Below w.heap.size w w6 := hw6 ▸ ((hb5.setCell (p := ⟨g, P + 1, none⟩) hg1 (.int .u8 (x' : Nat))).setCell (p := ⟨g, P + 1, none⟩) hg1 (.int .u8 (x' : Nat))).drew


          have iP1 : (P : Int) + 1 < (len : Int) := by omega
          have iQ1 : (P : Int) + 1 < (len : Int) := by omega
          go_region
          all_goals go_wp2_with fail
          have hlen6 : ((((xs.set P x).set P x).set (P + 1) x').set (P + 1) x').length = len := by simpa using hxl
          have hr6 : RowB w6 (some ⟨g, 0, none⟩) len c3 ((((xs.set P x).set P x).set (P + 1) x').set (P + 1) x') := by
            obtain ⟨a', c', hv, hq, _⟩ := hown6.row
            rw [hlen6] at hv hq
            simp only [Value.slice.injEq, true_and] at hv
            obtain ⟨rfl, rfl⟩ := hv
            exact hq
          have hrb := hr.old hb6
          have HN : Hid (netF ((((xs.set P x).set P x).set (P + 1) x').set (P + 1) x') = netF xs) := Lib.hid (by rw [netF_eq, netF_eq, HT.out])
          have hfl := foldF_le s
          have hn1 := not16 (foldF s) hfl.1 hfl.2
          have HF : Hid (foldF (65535 - foldF s) = foldF s) := Lib.hid (by
            have := lowF_le s
            unfold foldF; rw [show 65535 - (65535 - lowF s) = lowF s from by omega, lowF_idem s hs1])
          have hsg : IntKind.u16.signed = false := rfl
          have hpl := partF_le s []
          clear hown5 cP1 cQ1 fP1 fQ1 hw6 hown6
          refine (net_any _ _ _ xs _ hrb).mono ?_
          rintro e w' ⟨rfl, n1, rfl⟩
          go_wp2_with fail
          refine (net_any _ _ _ _ _ (hr6.drewN _)).mono ?_
          rintro e w' ⟨rfl, n2, rfl⟩
          rw [HN.out]
          go_wp2_with fail
          refine (fold_any _ _ hs1 hs2).mono ?_
          rintro e w' ⟨rfl, n3, rfl⟩
          go_wp2_with fail
          refine (fold_any _ _ (by omega) (by omega)).mono ?_
          rintro e w' ⟨rfl, n4, rfl⟩
          rw [HF.out]
          go_wp2_with fail
          refine (fold_any _ _ hs1 hs2).mono ?_
          rintro e w' ⟨rfl, n5, rfl⟩
          go_wp2_with fail
          refine (part_any _ _ _ _ [] _ hs1 hs2 (RowB.nil _ _ _ (by omega))).mono ?_
          rintro e w' ⟨rfl, n6, rfl⟩
          go_wp2_with (go_at_call 22; refine (awake_any _).mono ?_; rintro e w' ⟨rfl, hbz⟩)
          go_ret
          exact ⟨rfl, (below_drewN' hb6 _).trans (hbz.mono hb6.size)⟩
        · have hQP : ¬ Q = P := fun h => hPQ h.symm
          obtain ⟨w5, hw5⟩ : ∃ w5, ((w4.setCell ⟨g, P, none⟩ (.int .u8 (y : Nat))).setCell ⟨g, Q, none⟩ (.int .u8 (x : Nat))).drew = w5 := ⟨_, rfl⟩
          have hown5 : OwnB w5 w.heap.size 5 (.slice (some ⟨g, 0, none⟩) len c3) ((xs.set P y).set Q x) := hw5 ▸ ((hown.stored hxl P y hy256).stored (by simpa using hxl) Q x hx256).drewN 1
          have hb5 : Below w.heap.size w w5 := hw5 ▸ ((hb4.setCell (p := ⟨g, P, none⟩) hg1 (.int .u8 (y : Nat))).setCell (p := ⟨g, Q, none⟩) hg1 (.int .u8 (x : Nat))).drew
          go_wp2
          go_region
          all_goals go_wp2
          try rw [hw5]
          clear hw5 cP cQ fP fQ hown hb4
          have hlen5 : ((xs.set P y).set Q x).length = len := by simpa using hxl
          obtain ⟨x', hx'⟩ : ∃ x', xs[P + 1] = x' := ⟨_, rfl⟩
          obtain ⟨y', hy'⟩ : ∃ y', xs[Q + 1] = y' := ⟨_, rfl⟩
          have cP1 : w5.cell? ⟨g, P + 1, none⟩ = some (.int .u8 (x' : Nat)) := by
            have e := hown5.at hlen5 (P + 1) hP (by omega)
            rw [List.getElem_set_ne (by omega), List.getElem_set_ne (by omega), hx'] at e
            exact e
          have cQ1 : w5.cell? ⟨g, Q + 1, none⟩ = some (.int .u8 (y' : Nat)) := by
            have e := hown5.at hlen5 (Q + 1) hQ (by omega)
            rw [List.getElem_set_ne (by omega), List.getElem_set_ne (by omega), hy'] at e
            exact e
          have fP1 := hown5.free hlen5 (P + 1)
          have fQ1 := hown5.free hlen5 (Q + 1)
          have hx2 : x' < 256 := by rw [← hx']; exact hr.2.2.2.2.1 _ (List.getElem_mem _)
          have hy2 : y' < 256 := by rw [← hy']; exact hr.2.2.2.2.1 _ (List.getElem_mem _)
          have hturn := sum16_turn xs P Q (by omega) (by omega) hP2 hQ2 x y x' y' HX.out HY.out hx' hy'
          have HT := Lib.hid hturn
          clear hturn hx' hy'
          obtain ⟨w6, hw6⟩ : ∃ w6, ((w5.setCell ⟨g, P + 1, none⟩ (.int .u8 (y' : Nat))).setCell ⟨g, Q + 1, none⟩ (.int .u8 (x' : Nat))).drew = w6 := ⟨_, rfl⟩
          have hown6 : OwnB w6 w.heap.size 5 (.slice (some ⟨g, 0, none⟩) len c3) ((((xs.set P y).set Q x).set (P + 1) y').set (Q + 1) x') := hw6 ▸ ((hown5.stored hlen5 (P + 1) y' hy2).stored (by simpa using hxl) (Q + 1) x' hx2).drewN 1
          have hb6 : Below w.heap.size w w6 := hw6 ▸ ((hb5.setCell (p := ⟨g, P + 1, none⟩) hg1 (.int .u8 (y' : Nat))).setCell (p := ⟨g, Q + 1, none⟩) hg1 (.int .u8 (x' : Nat))).drew


          have iP1 : (P : Int) + 1 < (len : Int) := by omega
          have iQ1 : (Q : Int) + 1 < (len : Int) := by omega
          go_region
          all_goals go_wp2_with fail
          have hlen6 : ((((xs.set P y).set Q x).set (P + 1) y').set (Q + 1) x').length = len := by simpa using hxl
          have hr6 : RowB w6 (some ⟨g, 0, none⟩) len c3 ((((xs.set P y).set Q x).set (P + 1) y').set (Q + 1) x') := by
            obtain ⟨a', c', hv, hq, _⟩ := hown6.row
            rw [hlen6] at hv hq
            simp only [Value.slice.injEq, true_and] at hv
            obtain ⟨rfl, rfl⟩ := hv
            exact hq
          have hrb := hr.old hb6
          have HN : Hid (netF ((((xs.set P y).set Q x).set (P + 1) y').set (Q + 1) x') = netF xs) := Lib.hid (by rw [netF_eq, netF_eq, HT.out])
          have hfl := foldF_le s
          have hn1 := not16 (foldF s) hfl.1 hfl.2
          have HF : Hid (foldF (65535 - foldF s) = foldF s) := Lib.hid (by
            have := lowF_le s
            unfold foldF; rw [show 65535 - (65535 - lowF s) = lowF s from by omega, lowF_idem s hs1])
          have hsg : IntKind.u16.signed = false := rfl
          have hpl := partF_le s []
          clear hown5 cP1 cQ1 fP1 fQ1 hw6 hown6
          refine (net_any _ _ _ xs _ hrb).mono ?_
          rintro e w' ⟨rfl, n1, rfl⟩
          go_wp2_with fail
          refine (net_any _ _ _ _ _ (hr6.drewN _)).mono ?_
          rintro e w' ⟨rfl, n2, rfl⟩
          rw [HN.out]
          go_wp2_with fail
          refine (fold_any _ _ hs1 hs2).mono ?_
          rintro e w' ⟨rfl, n3, rfl⟩
          go_wp2_with fail
          refine (fold_any _ _ (by omega) (by omega)).mono ?_
          rintro e w' ⟨rfl, n4, rfl⟩
          rw [HF.out]
          go_wp2_with fail
          refine (fold_any _ _ hs1 hs2).mono ?_
          rintro e w' ⟨rfl, n5, rfl⟩
          go_wp2_with fail
          refine (part_any _ _ _ _ [] _ hs1 hs2 (RowB.nil _ _ _ (by omega))).mono ?_
          rintro e w' ⟨rfl, n6, rfl⟩
          go_wp2_with (go_at_call 22; refine (awake_any _).mono ?_; rintro e w' ⟨rfl, hbz⟩)
          go_ret
          exact ⟨rfl, (below_drewN' hb6 _).trans (hbz.mono hb6.size)⟩

theorem sumTurns_holds : Rows.SumTurnsSaid := by
  refine sumTurns.said fun H enc W base v0 v1 v2 v3 d0 d1 d2 d3 p0 p1 p2 p3 h0 h1 h2 h3 => ?_
  obtain ⟨a, len, cap, xs, rfl, hr, _, _⟩ := h0.bytes Try.underlying22 Try.underlying5 (by kernel_rfl) (by kernel_rfl)
  obtain ⟨i, rfl, hi1, hi2, _⟩ := h1.i64 Try.underlying3
  obtain ⟨j, rfl, hj1, hj2, _⟩ := h2.i64 Try.underlying3
  obtain ⟨s, rfl, hs1, hs2, _⟩ := h3.u32 Try.underlying23
  exact turns_walk a len cap xs i j s W hr hi1 hi2 hj1 hj2 hs1 hs2
end Go.Proofs.Ytaghpjemoofplaa
