/- SumTells answers true for any bytes: bytes that differ within four side by side have unlike sums. No condition. -/
import Derived.Test.YtaghpjemoofplaaSumAwake
import Derived.Test.YtaghpjemoofplaaBytes
import Derived.Test.YtaghpjemoofplaaTellMath
import Derived.Test.YtaghpjemoofplaaFrSumTells
import Derived.StillTailTactics
set_option linter.unusedVariables false
namespace Go.Proofs.Ytaghpjemoofplaa
open Go.RowKit

theorem place1 (i : Int) (len : Nat) (h : 0 < len) (h2 : len ≤ 140737488351232) : ∃ P : Nat, wrap64 ((IntKind.u64.wrap i).tmod (len : Int)) = (P : Int) ∧ P < len := by
  have h0 : 0 ≤ IntKind.u64.wrap i := by rw [IntKind.wrap_u64]; omega
  rw [Int.tmod_eq_emod_of_nonneg h0]
  have h1 : 0 ≤ IntKind.u64.wrap i % (len : Int) := Int.emod_nonneg _ (by omega)
  have h3 : IntKind.u64.wrap i % (len : Int) < (len : Int) := Int.emod_lt_of_pos _ (by omega)
  generalize IntKind.u64.wrap i % (len : Int) = r at *
  refine ⟨r.toNat, ?_, by omega⟩
  rw [IntWalk.wrap64_in r (by omega)]
  omega

set_option maxHeartbeats 4000000 in
theorem tells_walk (a : Option Addr) (len cap : Nat) (xs : List Nat) (i : Int) (y0 y1 y2 y3 : Nat) (w : World) (hr : RowB w a len cap xs) (hi1 : -9223372036854775808 ≤ i) (hi2 : i ≤ 9223372036854775807)
    (hy0 : y0 < 256) (hy1 : y1 < 256) (hy2 : y2 < 256) (hy3 : y3 < 256) (hlen : len ≤ 140737488351232) :
    Calls Try.prog 6 #[.slice a len cap, .int .i64 i, .agg #[.int .u8 y0, .int .u8 y1, .int .u8 y2, .int .u8 y3]] w fun e w' => e = .returned (.bool true) ∧ Below w.heap.size w w' := by
  have q1 := hr.2.2.2.1
  have q2 := hr.2.1
  have q3 := hr.2.2.1
  have hxl := hr.1
  obtain ⟨w0, hw0⟩ : ∃ w0, w.alloc (.cells #[.int .u8 (y0 : Nat), .int .u8 (y1 : Nat), .int .u8 (y2 : Nat), .int .u8 (y3 : Nat)] 36) = w0 := ⟨_, rfl⟩
  have hb0 : Below w.heap.size w w0 := hw0 ▸ (Below.refl _ _).alloc (Nat.le_refl _) _
  have hs0 : w0.heap.size = w.heap.size + 1 := by rw [← hw0]; simp
  have hr0 := hr.old hb0
  have hheap : w0.heap[w.heap.size]? = some (.cells #[.int .u8 (y0 : Nat), .int .u8 (y1 : Nat), .int .u8 (y2 : Nat), .int .u8 (y3 : Nat)] 36) := by
    rw [← hw0]; show (w.heap.push _)[w.heap.size]? = _
    simp
  obtain ⟨Y, hY⟩ : ∃ Y : List Nat, Y = [y0, y1, y2, y3] := ⟨_, rfl⟩
  have HBY : Hid (∀ k y : Nat, Y[k]? = some y → w0.cell? ⟨w.heap.size, k, none⟩ = some (.int .u8 (y : Nat))) := Lib.hid (by
    intro k y h
    rw [hY] at h
    unfold World.cell?
    rw [hheap]
    match k, h with
    | 0, h => simp at h; subst h; rfl
    | 1, h => simp at h; subst h; rfl
    | 2, h => simp at h; subst h; rfl
    | 3, h => simp at h; subst h; rfl
    | k + 4, h => simp at h)
  have HYL : Hid (Y.length = 4) := Lib.hid (by rw [hY]; rfl)
  have HY8 : Hid (∀ y ∈ Y, y < 256) := Lib.hid (by rw [hY]; intro y hy; simp at hy; omega)
  clear hY
  have HS0 := Lib.hid hs0
  clear hheap hs0
  by_cases h4 : len = 0
  · subst h4
    have hx : xs = [] := List.length_eq_zero_iff.1 hxl
    subst hx
    have hc : crcF [] = 0 := by decide
    have HC := Lib.hid hc
    clear hc
    go_enter Try.func6, Try.ntmps6
    go_wp2_with fail
    refine (crc_any _ _ _ [] _ hr0).mono ?_
    rintro e w' ⟨rfl, n1, rfl⟩
    rw [HC.out]
    go_wp2_with (go_at_call 22; refine (awake_any _).mono ?_; rintro e w' ⟨rfl, hb⟩)
    go_ret
    exact ⟨rfl, (below_drewN' hb0 _).trans (hb.mono hb0.size)⟩
  · have hne : ((len : Int) == 0) = false := beq_eq_false_iff_ne.2 (by omega)
    have hsz : w0.heap.size = w0.heap.size := rfl
    have HSZ := HS0
    have hw1 : (w0.alloc (.cells #[] 5)).heap.size = w0.heap.size + 1 := by simp
    clear hsz hw1
    have hr1 : RowB (w0.alloc (.cells #[] 5)) a len cap xs := hr0.old ((Below.refl _ _).alloc (Nat.le_refl _) _)
    have own1 : OwnB (w0.alloc (.cells #[] 5)) w0.heap.size 5 (.slice (some ⟨w0.heap.size, 0, none⟩) 0 0) [] := OwnB.lit w0 _ rfl _ (Nat.le_refl _) _ _ _ _ rfl rfl (by decide) (by decide)
    have hsz1 : w0.heap.size ≤ (w0.alloc (.cells #[] 5)).heap.size := by simp
    have hb1 : Below w0.heap.size w0 (w0.alloc (.cells #[] 5)) := (Below.refl _ _).alloc (Nat.le_refl _) _
    go_enter Try.func6, Try.ntmps6
    go_wp2_with (first | (at_builtin; refine wpList_appendB rfl _ _ 22 rfl 5 Try.underlying22 infoB w0.heap.size (.slice (some ⟨w0.heap.size, 0, none⟩) 0 0) [] rfl own1 _ _ _ xs rfl hr1 len xs rfl hxl (by omega) hsz1 w0.heap.size w0 hb1 (Nat.le_refl _) ?_; intro a3 c3 w3 hown3 hr3 hg3 hb3 hs3 hp3))
    rcases hp3 with rfl | ⟨g, rfl, hg1, hg2⟩
    · exact absurd (OwnB.nonempty hown3 hxl (by omega)) id
    obtain ⟨P, eP, hP⟩ := place1 i len (by omega) (by omega)
    rw [eP]
    clear eP hr1 own1 hsz1 hb1 hw0 hg3 hs3 hg2 hr3 HSZ
    have HXL := Lib.hid hxl
    have HSM := Lib.hid hr.2.2.2.2.1
    clear hxl
    go_loopw [8] (fun i wr => ∃ k : Nat, k ≤ 4 ∧ P + k ≤ len ∧ i = .int .i64 k ∧ OwnB wr w0.heap.size 5 (.slice (some ⟨g, 0, none⟩) len c3) (chg xs P Y k) ∧ Below w0.heap.size w0 wr) (fun i _ => 4 - (intOf i).toNat)
    case atStart => exact ⟨0, by omega, by omega, rfl, by rw [chg_zero]; exact hown3, hb3⟩
    case round =>
      obtain ⟨k, hk, hPk, rfl, hown, hbel⟩ := hrel
      by_cases hlt : k < 4 ∧ P + k < len
      · obtain ⟨hk4, hkl⟩ := hlt
        have hcl : (chg xs P Y k).length = len := by rw [chg_length xs P Y k (by rw [HXL.out]; omega) (by rw [HYL.out]; omega)]; exact HXL.out
        have hkx : P + k < xs.length := by rw [HXL.out]; exact hkl
        have hky : k < Y.length := by rw [HYL.out]; exact hk4
        have c0 : wr.cell? ⟨g, P + k, none⟩ = some (.int .u8 (xs[P + k] : Nat)) := by
          have e := hown.at hcl (P + k) hkl (by omega)
          have e2 := chg_get xs P Y k hkx (by omega)
          rw [List.getElem?_eq_getElem (by omega)] at e2
          simp only [Option.some.injEq] at e2
          rw [e2] at e; exact e
        have f0 := hown.free hcl (P + k)
        have c1 : wr.cell? ⟨w.heap.size, k, none⟩ = some (.int .u8 (Y[k] : Nat)) := by
          rw [hbel.cell (p := ⟨w.heap.size, k, none⟩) (by have := HS0.out; show w.heap.size < w0.heap.size; omega)]; exact HBY.out k _ (List.getElem?_eq_getElem hky)
        have x8 := HSM.out _ (List.getElem_mem hkx)
        have y8 := HY8.out _ (List.getElem_mem hky)
        have HST := Lib.hid (chg_step xs P Y k hkx hky)
        have HW := fun z (hz : z < 256) => (hown.stored hcl (P + k) z hz).drewN 1
        generalize xs[P + k] = x at *
        generalize Y[k] = y at *
        have hxo := u8_xor_nat x y (by omega) (by omega)
        have HW' := Lib.hid (HW (x ^^^ y) (Nat.xor_lt_two_pow (n := 8) x8 y8))
        have i1 : (k : Int) < 4 := by omega
        have i2 : (P : Int) + k < len := by omega
        have e5 : IntKind.i64.wrap ((P : Int) + k) = P + k := IntWalk.i64_in _ (by omega)
        have e6 : ((P : Int) + k).toNat = P + k := by omega
        have e7 : (0 : Int) ≤ (P : Int) + k := by omega
        clear hown HW hcl
        go_wp2
        go_still_tail 11, (by kernel_rfl)
        clear e5 e6 e7
        go_wp2
        have HF := HW'.out
        rw [HST.out] at HF
        exact ⟨⟨k + 1, by omega, by omega, by go_num, HF, (hbel.setCell hg1 _).drew⟩, by simp [intOf]; omega⟩
      · have hcl : (chg xs P Y k).length = len := by rw [chg_length xs P Y k (by rw [HXL.out]; omega) (by rw [HYL.out]; omega)]; exact HXL.out
        have hrc : RowB wr (some ⟨g, 0, none⟩) len c3 (chg xs P Y k) := by
          obtain ⟨a', c', hv, hq, _⟩ := hown.row
          rw [hcl] at hv hq
          simp only [Value.slice.injEq, true_and] at hv
          obtain ⟨rfl, rfl⟩ := hv
          exact hq
        have hrx := hr0.old hbel
        have r1 := crcF_eq _ hr0.2.2.2.2.1
        have r2 := crcF_eq _ hrc.2.2.2.2.1
        have ht := crc_tells xs P Y k (by rw [HXL.out]; omega) (by rw [HYL.out]; omega) HY8.out (by rw [HYL.out]; omega)
        have R1 := Lib.hid r1
        have R2 := Lib.hid r2
        have HT := Lib.hid ht
        clear r1 r2 ht hcl hown
        generalize chg xs P Y k = zs at *
        by_cases hk4 : k < 4
        · have hkl : ¬ P + k < len := fun h => hlt ⟨hk4, h⟩
          have i1 : (k : Int) < 4 := by omega
          have i2 : ¬ (P : Int) + k < len := by omega
          clear hlt
          have st1 := run_string_of (P := Try.prog) (hrx.drewN 1) 22 9 5 Try.underlying22 Try.underlying5 Try.underlying9
          have st2 := run_string_of (P := Try.prog) (hrc.drewN 1) 22 9 5 Try.underlying22 Try.underlying5 Try.underlying9
          have st1' : Sem.run Try.prog (convert 22 9 (.slice a len cap)) wr.drew = .ok (.string (strB xs)) wr.drew := st1
          have st2' : Sem.run Try.prog (convert 22 9 (.slice (some ⟨g, 0, none⟩) len c3)) wr.drew = .ok (.string (strB zs)) wr.drew := st2
          clear st1 st2
          have k1 := crc_same _ _ _ xs wr.drew (hrx.drewN 1)
          have k2 := crc_same _ _ _ zs wr.drew (hrc.drewN 1)
          rw [R1.out] at k1
          rw [R2.out] at k2
          have K1 := Lib.hid k1
          have K2 := Lib.hid k2
          clear k1 k2
          by_cases hxz : xs = zs
          · subst hxz
            go_wp2
            refine wp_region_still_tail 12 (by kernel_rfl) (by kernel_rfl) ?_
            simp only [List.take_succ_cons, List.take_zero, List.drop_succ_cons, List.drop_zero]
            still_step
            still_call K1.out
            still_step
            still_call K2.out
            iterate 8 still_step
            refine wpStill_nil ?_
            go_wp2_with (go_at_call 22; refine (awake_any _).mono ?_; rintro e w' ⟨rfl, hbz⟩)
            go_ret
            exact ⟨rfl, (hb0.trans (hbel.drew.mono (by have := HS0.out; omega))).trans (hbz.mono (by have h1 := hbel.size; have h2 := HS0.out; show w.heap.size ≤ wr.heap.size; omega))⟩
          · have hne1 : (((crcN xs : Nat) : Int) == ((crcN zs : Nat) : Int)) = false := beq_eq_false_iff_ne.2 (fun h => hxz (HT.out.1 (by omega)))
            have hne2 : ((strB xs).toList == (strB zs).toList) = false := beq_eq_false_iff_ne.2 (fun h => hxz (strB_inj' _ _ HSM.out hrc.2.2.2.2.1 h))
            go_wp2
            refine wp_region_still_tail 12 (by kernel_rfl) (by kernel_rfl) ?_
            simp only [List.take_succ_cons, List.take_zero, List.drop_succ_cons, List.drop_zero]
            still_step
            still_call K1.out
            still_step
            still_call K2.out
            iterate 8 still_step
            refine wpStill_nil ?_
            go_wp2_with (go_at_call 22; refine (awake_any _).mono ?_; rintro e w' ⟨rfl, hbz⟩)
            go_ret
            exact ⟨rfl, (hb0.trans (hbel.drew.mono (by have := HS0.out; omega))).trans (hbz.mono (by have h1 := hbel.size; have h2 := HS0.out; show w.heap.size ≤ wr.heap.size; omega))⟩
        · have i1 : ¬ (k : Int) < 4 := by omega
          clear hlt
          have st1 := run_string_of (P := Try.prog) (hrx.drewN 1) 22 9 5 Try.underlying22 Try.underlying5 Try.underlying9
          have st2 := run_string_of (P := Try.prog) (hrc.drewN 1) 22 9 5 Try.underlying22 Try.underlying5 Try.underlying9
          have st1' : Sem.run Try.prog (convert 22 9 (.slice a len cap)) wr.drew = .ok (.string (strB xs)) wr.drew := st1
          have st2' : Sem.run Try.prog (convert 22 9 (.slice (some ⟨g, 0, none⟩) len c3)) wr.drew = .ok (.string (strB zs)) wr.drew := st2
          clear st1 st2
          have k1 := crc_same _ _ _ xs wr.drew (hrx.drewN 1)
          have k2 := crc_same _ _ _ zs wr.drew (hrc.drewN 1)
          rw [R1.out] at k1
          rw [R2.out] at k2
          have K1 := Lib.hid k1
          have K2 := Lib.hid k2
          clear k1 k2
          by_cases hxz : xs = zs
          · subst hxz
            go_wp2
            refine wp_region_still_tail 12 (by kernel_rfl) (by kernel_rfl) ?_
            simp only [List.take_succ_cons, List.take_zero, List.drop_succ_cons, List.drop_zero]
            still_step
            still_call K1.out
            still_step
            still_call K2.out
            iterate 8 still_step
            refine wpStill_nil ?_
            go_wp2_with (go_at_call 22; refine (awake_any _).mono ?_; rintro e w' ⟨rfl, hbz⟩)
            go_ret
            exact ⟨rfl, (hb0.trans (hbel.drew.mono (by have := HS0.out; omega))).trans (hbz.mono (by have h1 := hbel.size; have h2 := HS0.out; show w.heap.size ≤ wr.heap.size; omega))⟩
          · have hne1 : (((crcN xs : Nat) : Int) == ((crcN zs : Nat) : Int)) = false := beq_eq_false_iff_ne.2 (fun h => hxz (HT.out.1 (by omega)))
            have hne2 : ((strB xs).toList == (strB zs).toList) = false := beq_eq_false_iff_ne.2 (fun h => hxz (strB_inj' _ _ HSM.out hrc.2.2.2.2.1 h))
            go_wp2
            refine wp_region_still_tail 12 (by kernel_rfl) (by kernel_rfl) ?_
            simp only [List.take_succ_cons, List.take_zero, List.drop_succ_cons, List.drop_zero]
            still_step
            still_call K1.out
            still_step
            still_call K2.out
            iterate 8 still_step
            refine wpStill_nil ?_
            go_wp2_with (go_at_call 22; refine (awake_any _).mono ?_; rintro e w' ⟨rfl, hbz⟩)
            go_ret
            exact ⟨rfl, (hb0.trans (hbel.drew.mono (by have := HS0.out; omega))).trans (hbz.mono (by have h1 := hbel.size; have h2 := HS0.out; show w.heap.size ≤ wr.heap.size; omega))⟩

theorem sumTells_holds : Rows.SumTellsSaid := by
  refine sumTells.said fun H enc W base v0 v1 v2 d0 d1 d2 p0 p1 p2 h0 h1 h2 => ?_
  obtain ⟨a, len, cap, xs, rfl, hr, hcap, _⟩ := h0.bytes Try.underlying22 Try.underlying5 (by kernel_rfl) (by kernel_rfl)
  obtain ⟨i, rfl, hi1, hi2, _⟩ := h1.i64 Try.underlying3
  obtain ⟨y0, y1, y2, y3, rfl, k0, k1, k2, k3⟩ := h2.bytes4 Try.underlying36 Try.underlying5 (by kernel_rfl) (by kernel_rfl)
  exact tells_walk a len cap xs i y0 y1 y2 y3 W hr hi1 hi2 k0 k1 k2 k3 (Nat.le_trans hr.2.1 hcap)
end Go.Proofs.Ytaghpjemoofplaa
