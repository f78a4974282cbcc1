/- SumLines answers true for any three rows of bytes: of three rows as long the sums, changed by one another, are that of the rows changed so. No condition. -/
import Derived.Test.YtaghpjemoofplaaSumAwake
import Derived.Test.YtaghpjemoofplaaBytes
import Derived.StillTailTactics
import Derived.Test.YtaghpjemoofplaaFrSumLines
set_option linter.unusedVariables false
namespace Go.Proofs.Ytaghpjemoofplaa
open Go.RowKit

theorem set_step (X : List Nat) (n k v : Nat) (hv : X[k]? = some v) (hk : k < n) (hX : X.length = n) : (X.take k ++ List.replicate (n - k) 0).set k v = X.take (k + 1) ++ List.replicate (n - (k + 1)) 0 := by
  have h1 : (X.take k).length = k := by simp; omega
  rw [List.set_append_right _ _ (by omega), h1, Nat.sub_self]
  have h2 : n - k = (n - (k + 1)) + 1 := by omega
  rw [h2, List.replicate_succ, List.set_cons_zero]
  have h3 : X.take (k + 1) = X.take k ++ [v] := by
    rw [List.take_add_one, hv]; rfl
  rw [h3, List.append_assoc]; rfl

set_option maxHeartbeats 4000000 in
theorem lines_walk (a1 a2 a3 : Option Addr) (l1 c1 l2 c2 l3 c3 : Nat) (xs ys zs : List Nat) (w : World) (hr1 : RowB w a1 l1 c1 xs) (hr2 : RowB w a2 l2 c2 ys) (hr3 : RowB w a3 l3 c3 zs) :
    Calls Try.prog 8 #[.slice a1 l1 c1, .slice a2 l2 c2, .slice a3 l3 c3] w fun e w' => e = .returned (.bool true) ∧ Below w.heap.size w w' := by
  obtain ⟨i0, hi, hz0, hz1, hz2⟩ := info_parts infoB
  have q1 := hr1.2.2.2.1
  have q2 := hr2.2.2.2.1
  have q3 := hr3.2.2.2.1
  have f1 := hr1.2.1
  have f2 := hr2.2.1
  have f3 := hr3.2.1
  have g1 := hr1.2.2.1
  have g2 := hr2.2.2.1
  have g3 := hr3.2.2.1
  by_cases hA : l1 ≤ l2 ∧ l1 ≤ l3
  · obtain ⟨hA1, hA2⟩ := hA
    obtain ⟨A, B, C, hABC⟩ : ∃ A B C : List Nat, A = xs.take l1 ∧ B = ys.take l1 ∧ C = zs.take l1 := ⟨_, _, _, rfl, rfl, rfl⟩
    have hra := hr1.take l1 (by omega)
    have hrb := hr2.take l1 (by omega)
    have hrc := hr3.take l1 (by omega)
    rw [← hABC.1] at hra
    rw [← hABC.2.1] at hrb
    rw [← hABC.2.2] at hrc
    clear hABC
    have ea : A.length = l1 := hra.1
    have eb : B.length = l1 := hrb.1
    have ec : C.length = l1 := hrc.1
    have HXL : Hid ((xor3 A B C).length = l1) := Lib.hid (by rw [xor3_length _ _ _ (by omega) (by omega)]; omega)
    have HXS : Hid (∀ x ∈ xor3 A B C, x < 256) := Lib.hid (xor3_small _ _ _ hra.2.2.2.2.1 hrb.2.2.2.2.1 hrc.2.2.2.2.1)
    have HEA := Lib.hid ea
    have HEB := Lib.hid eb
    have HEC := Lib.hid ec
    clear ea eb ec
    go_enter Try.func8, Try.ntmps8
    go_wp2_with (at_make; refine wpList_make_full _ rfl _ _ 22 rfl w.heap.size 5 i0 (.int .u8 0) 1 Try.underlying22 hi hz0 hz1 .i64 .i64 _ _ l1 rfl rfl rfl rfl (by rw [hz2]; omega) (by simp only [maxLen]; omega) (Nat.le_refl _) ?_; intro w1 own1 grown1)
    have hown := OwnB.made l1 own1 (by omega)
    have hbel : Below w.heap.size w w1 := (Below.refl _ _).grown grown1 (Nat.le_refl _) (by intro k hk; cases hk)
    clear own1 grown1
    obtain ⟨G, hG⟩ : ∃ G, G = w.heap.size := ⟨_, rfl⟩
    rw [← hG] at hbel hown ⊢
    have HG := Lib.hid hG
    clear hG
    go_loopw [20] (fun i wr => ∃ k : Nat, k ≤ l1 ∧ i = .int .i64 k ∧ OwnB wr G 5 (.slice (some ⟨G, 0, none⟩) l1 l1) ((xor3 A B C).take k ++ List.replicate (l1 - k) 0) ∧ Below G w wr) (fun i _ => l1 - (intOf i).toNat)
    case atStart => exact ⟨0, Nat.zero_le _, rfl, by simpa using hown, hbel⟩
    case round =>
      obtain ⟨k, hk, rfl, hown, hbel⟩ := hrel
      by_cases hlt : k < l1
      · have hxl : ((xor3 A B C).take k ++ List.replicate (l1 - k) 0).length = l1 := by simp [HXL.out]; omega
        have hfree := hown.free hxl k
        obtain ⟨ov, hold⟩ : ∃ ov : Int, wr.cell? ⟨G, k, none⟩ = some (.int .u8 ov) := ⟨_, hown.at hxl k hlt (by omega)⟩
        have wra := hra.old (HG.out ▸ hbel)
        have wrb := hrb.old (HG.out ▸ hbel)
        have wrc := hrc.old (HG.out ▸ hbel)
        obtain ⟨_, _, _, _, sa, pa⟩ := wra
        obtain ⟨_, _, _, _, sb, pb⟩ := wrb
        obtain ⟨_, _, _, _, sc, pc⟩ := wrc
        obtain h0 | ⟨ba, oa, rfl, ca⟩ := pa
        · omega
        obtain h0 | ⟨bb, ob, rfl, cb⟩ := pb
        · omega
        obtain h0 | ⟨bc, oc, rfl, cc⟩ := pc
        · omega
        have ka : k < A.length := by rw [HEA.out]; exact hlt
        have kb : k < B.length := by rw [HEB.out]; exact hlt
        have kc : k < C.length := by rw [HEC.out]; exact hlt
        have da := ca k ka
        have db := cb k kb
        have dc := cc k kc
        have ma := sa _ (List.getElem_mem ka)
        have mb := sb _ (List.getElem_mem kb)
        have mc := sc _ (List.getElem_mem kc)
        have HX3 := Lib.hid (xor3_get A B C k ka kb kc)
        clear ca cb cc sa sb sc
        generalize A[k] = x at *
        generalize B[k] = y at *
        generalize C[k] = z at *
        have x1 := u8_xor_nat x y (by omega) (by omega)
        have x2 := u8_xor_nat (x ^^^ y) z (Nat.xor_lt_two_pow (n := 8) ma mb) (by omega)
        have hi1 : (k : Int) < (l1 : Int) := by omega
        have hi2 : (k : Int) < (l2 : Int) := by omega
        have hi3 : (k : Int) < (l3 : Int) := by omega
        have HOWN := Lib.hid hown
        have HXLL := Lib.hid hxl
        clear hxl hown
        go_wp2
        go_still_tail 17, (by kernel_rfl)
        go_wp2
        have HW : Hid (OwnB (wr.setCell ⟨G, k, none⟩ (.int .u8 (x ^^^ y ^^^ z : Nat))).drew G 5 (.slice (some ⟨G, 0, none⟩) l1 l1) ((xor3 A B C).take (k + 1) ++ List.replicate (l1 - (k + 1)) 0)) := Lib.hid (by
          have e := HOWN.out.stored HXLL.out k (x ^^^ y ^^^ z) (Nat.xor_lt_two_pow (n := 8) (Nat.xor_lt_two_pow (n := 8) ma mb) mc)
          rw [set_step _ _ _ _ HX3.out hlt HXL.out] at e
          exact e.drewN 1)
        exact ⟨⟨k + 1, by omega, by go_num, HW.out, (hbel.setCell (Nat.le_refl _) _).drew⟩, by simp [intOf]; omega⟩
      · obtain rfl : l1 = k := by omega
        have hfin : (xor3 A B C).take l1 ++ List.replicate (l1 - l1) 0 = xor3 A B C := by
          rw [List.take_of_length_le (by rw [HXL.out]; omega)]; simp
        rw [hfin] at hown
        have hrow : RowB wr (some ⟨G, 0, none⟩) l1 l1 (xor3 A B C) := by
          obtain ⟨a, c, hv, hr, _⟩ := hown.row
          rw [HXL.out] at hv hr
          simp only [Value.slice.injEq, true_and] at hv
          obtain ⟨rfl, rfl⟩ := hv
          exact hr
        have wra := hra.old (HG.out ▸ hbel)
        have wrb := hrb.old (HG.out ▸ hbel)
        have wrc := hrc.old (HG.out ▸ hbel)
        have hlt' : ¬ ((l1 : Int) < l1) := by omega
        have r1 := crcF_eq _ HXS.out
        have r2 := crcF_eq _ hra.2.2.2.2.1
        have r3 := crcF_eq _ hrb.2.2.2.2.1
        have r4 := crcF_eq _ hrc.2.2.2.2.1
        have r5 := crcAll_lines A B C (by rw [HEA.out, HEB.out]) (by rw [HEB.out, HEC.out])
        have t2 := crcN_lt _ hra.2.2.2.2.1
        have t3 := crcN_lt _ hrb.2.2.2.2.1
        have t4 := crcN_lt _ hrc.2.2.2.2.1
        have R1 := Lib.hid r1
        have R2 := Lib.hid r2
        have R3 := Lib.hid r3
        have R4 := Lib.hid r4
        have R5 := Lib.hid r5
        have X1 := Lib.hid (u32_xor_nat _ _ t2 t3)
        have X2 := Lib.hid (u32_xor_nat _ _ (xor_lt32 _ _ t2 t3) t4)
        clear r1 r2 r3 r4 r5 hfin hown
        have e1 : crcF (xor3 A B C) = ((crcN A ^^^ crcN B ^^^ crcN C : Nat) : Int) := by rw [R1.out, R5.out]
        have e2 := R2.out
        have e3 := R3.out
        have e4 := R4.out
        have x1 := X1.out
        have x2 := X2.out
        have k1 := crc_same _ _ _ (xor3 A B C) wr.drew (hrow.drewN 1)
        have k2 := crc_same _ _ _ A wr.drew (wra.drewN 1)
        have k3 := crc_same _ _ _ B wr.drew (wrb.drewN 1)
        have k4 := crc_same _ _ _ C wr.drew (wrc.drewN 1)
        rw [e1] at k1
        rw [e2] at k2
        rw [e3] at k3
        rw [e4] at k4
        clear e1 e2 e3 e4
        have m1 : l1 ≤ c1 := by omega
        have m2 : l1 ≤ c2 := by omega
        have m3 : l1 ≤ c3 := by omega
        have K1 := Lib.hid k1
        have K2 := Lib.hid k2
        have K3 := Lib.hid k3
        have K4 := Lib.hid k4
        clear k1 k2 k3 k4
        go_wp2
        refine wp_region_still_tail 18 (by kernel_rfl) (by kernel_rfl) ?_
        simp only [List.take_succ_cons, List.take_zero, List.drop_succ_cons, List.drop_zero]
        still_step
        still_call K1.out
        iterate 3 still_step
        still_call K2.out
        iterate 3 still_step
        still_call K3.out
        iterate 4 still_step
        still_call K4.out
        iterate 3 still_step
        refine wpStill_nil ?_
        go_wp2_with (go_at_call 22; refine (awake_any _).mono ?_; rintro e w' ⟨rfl, hbz⟩)
        go_ret
        rw [← HG.out]
        exact ⟨rfl, hbel.drew.trans (hbz.mono (by have h1 := hbel.size; have h2 := HG.out; show G ≤ wr.heap.size; omega))⟩
  · by_cases hB : l2 < l1 ∧ l2 ≤ l3
    · obtain ⟨hA1, hA2⟩ := hB
      obtain ⟨A, B, C, hABC⟩ : ∃ A B C : List Nat, A = xs.take l2 ∧ B = ys.take l2 ∧ C = zs.take l2 := ⟨_, _, _, rfl, rfl, rfl⟩
      have hra := hr1.take l2 (by omega)
      have hrb := hr2.take l2 (by omega)
      have hrc := hr3.take l2 (by omega)
      rw [← hABC.1] at hra
      rw [← hABC.2.1] at hrb
      rw [← hABC.2.2] at hrc
      clear hABC
      have ea : A.length = l2 := hra.1
      have eb : B.length = l2 := hrb.1
      have ec : C.length = l2 := hrc.1
      have HXL : Hid ((xor3 A B C).length = l2) := Lib.hid (by rw [xor3_length _ _ _ (by omega) (by omega)]; omega)
      have HXS : Hid (∀ x ∈ xor3 A B C, x < 256) := Lib.hid (xor3_small _ _ _ hra.2.2.2.2.1 hrb.2.2.2.2.1 hrc.2.2.2.2.1)
      have HEA := Lib.hid ea
      have HEB := Lib.hid eb
      have HEC := Lib.hid ec
      clear ea eb ec
      go_enter Try.func8, Try.ntmps8
      go_wp2_with (at_make; refine wpList_make_full _ rfl _ _ 22 rfl w.heap.size 5 i0 (.int .u8 0) 1 Try.underlying22 hi hz0 hz1 .i64 .i64 _ _ l2 rfl rfl rfl rfl (by rw [hz2]; omega) (by simp only [maxLen]; omega) (Nat.le_refl _) ?_; intro w1 own1 grown1)
      have hown := OwnB.made l2 own1 (by omega)
      have hbel : Below w.heap.size w w1 := (Below.refl _ _).grown grown1 (Nat.le_refl _) (by intro k hk; cases hk)
      clear own1 grown1
      obtain ⟨G, hG⟩ : ∃ G, G = w.heap.size := ⟨_, rfl⟩
      rw [← hG] at hbel hown ⊢
      have HG := Lib.hid hG
      clear hG
      go_loopw [20] (fun i wr => ∃ k : Nat, k ≤ l2 ∧ i = .int .i64 k ∧ OwnB wr G 5 (.slice (some ⟨G, 0, none⟩) l2 l2) ((xor3 A B C).take k ++ List.replicate (l2 - k) 0) ∧ Below G w wr) (fun i _ => l2 - (intOf i).toNat)
      case atStart => exact ⟨0, Nat.zero_le _, rfl, by simpa using hown, hbel⟩
      case round =>
        obtain ⟨k, hk, rfl, hown, hbel⟩ := hrel
        by_cases hlt : k < l2
        · have hxl : ((xor3 A B C).take k ++ List.replicate (l2 - k) 0).length = l2 := by simp [HXL.out]; omega
          have hfree := hown.free hxl k
          obtain ⟨ov, hold⟩ : ∃ ov : Int, wr.cell? ⟨G, k, none⟩ = some (.int .u8 ov) := ⟨_, hown.at hxl k hlt (by omega)⟩
          have wra := hra.old (HG.out ▸ hbel)
          have wrb := hrb.old (HG.out ▸ hbel)
          have wrc := hrc.old (HG.out ▸ hbel)
          obtain ⟨_, _, _, _, sa, pa⟩ := wra
          obtain ⟨_, _, _, _, sb, pb⟩ := wrb
          obtain ⟨_, _, _, _, sc, pc⟩ := wrc
          obtain h0 | ⟨ba, oa, rfl, ca⟩ := pa
          · omega
          obtain h0 | ⟨bb, ob, rfl, cb⟩ := pb
          · omega
          obtain h0 | ⟨bc, oc, rfl, cc⟩ := pc
          · omega
          have ka : k < A.length := by rw [HEA.out]; exact hlt
          have kb : k < B.length := by rw [HEB.out]; exact hlt
          have kc : k < C.length := by rw [HEC.out]; exact hlt
          have da := ca k ka
          have db := cb k kb
          have dc := cc k kc
          have ma := sa _ (List.getElem_mem ka)
          have mb := sb _ (List.getElem_mem kb)
          have mc := sc _ (List.getElem_mem kc)
          have HX3 := Lib.hid (xor3_get A B C k ka kb kc)
          clear ca cb cc sa sb sc
          generalize A[k] = x at *
          generalize B[k] = y at *
          generalize C[k] = z at *
          have x1 := u8_xor_nat x y (by omega) (by omega)
          have x2 := u8_xor_nat (x ^^^ y) z (Nat.xor_lt_two_pow (n := 8) ma mb) (by omega)
          have hi1 : (k : Int) < (l1 : Int) := by omega
          have hi2 : (k : Int) < (l2 : Int) := by omega
          have hi3 : (k : Int) < (l3 : Int) := by omega
          have HOWN := Lib.hid hown
          have HXLL := Lib.hid hxl
          clear hxl hown
          go_wp2
          go_still_tail 17, (by kernel_rfl)
          go_wp2
          have HW : Hid (OwnB (wr.setCell ⟨G, k, none⟩ (.int .u8 (x ^^^ y ^^^ z : Nat))).drew G 5 (.slice (some ⟨G, 0, none⟩) l2 l2) ((xor3 A B C).take (k + 1) ++ List.replicate (l2 - (k + 1)) 0)) := Lib.hid (by
            have e := HOWN.out.stored HXLL.out k (x ^^^ y ^^^ z) (Nat.xor_lt_two_pow (n := 8) (Nat.xor_lt_two_pow (n := 8) ma mb) mc)
            rw [set_step _ _ _ _ HX3.out hlt HXL.out] at e
            exact e.drewN 1)
          exact ⟨⟨k + 1, by omega, by go_num, HW.out, (hbel.setCell (Nat.le_refl _) _).drew⟩, by simp [intOf]; omega⟩
        · obtain rfl : l2 = k := by omega
          have hfin : (xor3 A B C).take l2 ++ List.replicate (l2 - l2) 0 = xor3 A B C := by
            rw [List.take_of_length_le (by rw [HXL.out]; omega)]; simp
          rw [hfin] at hown
          have hrow : RowB wr (some ⟨G, 0, none⟩) l2 l2 (xor3 A B C) := by
            obtain ⟨a, c, hv, hr, _⟩ := hown.row
            rw [HXL.out] at hv hr
            simp only [Value.slice.injEq, true_and] at hv
            obtain ⟨rfl, rfl⟩ := hv
            exact hr
          have wra := hra.old (HG.out ▸ hbel)
          have wrb := hrb.old (HG.out ▸ hbel)
          have wrc := hrc.old (HG.out ▸ hbel)
          have hlt' : ¬ ((l2 : Int) < l2) := by omega
          have r1 := crcF_eq _ HXS.out
          have r2 := crcF_eq _ hra.2.2.2.2.1
          have r3 := crcF_eq _ hrb.2.2.2.2.1
          have r4 := crcF_eq _ hrc.2.2.2.2.1
          have r5 := crcAll_lines A B C (by rw [HEA.out, HEB.out]) (by rw [HEB.out, HEC.out])
          have t2 := crcN_lt _ hra.2.2.2.2.1
          have t3 := crcN_lt _ hrb.2.2.2.2.1
          have t4 := crcN_lt _ hrc.2.2.2.2.1
          have R1 := Lib.hid r1
          have R2 := Lib.hid r2
          have R3 := Lib.hid r3
          have R4 := Lib.hid r4
          have R5 := Lib.hid r5
          have X1 := Lib.hid (u32_xor_nat _ _ t2 t3)
          have X2 := Lib.hid (u32_xor_nat _ _ (xor_lt32 _ _ t2 t3) t4)
          clear r1 r2 r3 r4 r5 hfin hown
          have e1 : crcF (xor3 A B C) = ((crcN A ^^^ crcN B ^^^ crcN C : Nat) : Int) := by rw [R1.out, R5.out]
          have e2 := R2.out
          have e3 := R3.out
          have e4 := R4.out
          have x1 := X1.out
          have x2 := X2.out
          have k1 := crc_same _ _ _ (xor3 A B C) wr.drew (hrow.drewN 1)
          have k2 := crc_same _ _ _ A wr.drew (wra.drewN 1)
          have k3 := crc_same _ _ _ B wr.drew (wrb.drewN 1)
          have k4 := crc_same _ _ _ C wr.drew (wrc.drewN 1)
          rw [e1] at k1
          rw [e2] at k2
          rw [e3] at k3
          rw [e4] at k4
          clear e1 e2 e3 e4
          have m1 : l2 ≤ c1 := by omega
          have m2 : l2 ≤ c2 := by omega
          have m3 : l2 ≤ c3 := by omega
          have K1 := Lib.hid k1
          have K2 := Lib.hid k2
          have K3 := Lib.hid k3
          have K4 := Lib.hid k4
          clear k1 k2 k3 k4
          go_wp2
          refine wp_region_still_tail 18 (by kernel_rfl) (by kernel_rfl) ?_
          simp only [List.take_succ_cons, List.take_zero, List.drop_succ_cons, List.drop_zero]
          still_step
          still_call K1.out
          iterate 3 still_step
          still_call K2.out
          iterate 3 still_step
          still_call K3.out
          iterate 4 still_step
          still_call K4.out
          iterate 3 still_step
          refine wpStill_nil ?_
          go_wp2_with (go_at_call 22; refine (awake_any _).mono ?_; rintro e w' ⟨rfl, hbz⟩)
          go_ret
          rw [← HG.out]
          exact ⟨rfl, hbel.drew.trans (hbz.mono (by have h1 := hbel.size; have h2 := HG.out; show G ≤ wr.heap.size; omega))⟩
    · have hA1 : l3 < l1 := by omega
      have hA2 : l3 < l2 := by omega
      clear hA hB
      obtain ⟨A, B, C, hABC⟩ : ∃ A B C : List Nat, A = xs.take l3 ∧ B = ys.take l3 ∧ C = zs.take l3 := ⟨_, _, _, rfl, rfl, rfl⟩
      have hra := hr1.take l3 (by omega)
      have hrb := hr2.take l3 (by omega)
      have hrc := hr3.take l3 (by omega)
      rw [← hABC.1] at hra
      rw [← hABC.2.1] at hrb
      rw [← hABC.2.2] at hrc
      clear hABC
      have ea : A.length = l3 := hra.1
      have eb : B.length = l3 := hrb.1
      have ec : C.length = l3 := hrc.1
      have HXL : Hid ((xor3 A B C).length = l3) := Lib.hid (by rw [xor3_length _ _ _ (by omega) (by omega)]; omega)
      have HXS : Hid (∀ x ∈ xor3 A B C, x < 256) := Lib.hid (xor3_small _ _ _ hra.2.2.2.2.1 hrb.2.2.2.2.1 hrc.2.2.2.2.1)
      have HEA := Lib.hid ea
      have HEB := Lib.hid eb
      have HEC := Lib.hid ec
      clear ea eb ec
      go_enter Try.func8, Try.ntmps8
      go_wp2_with (at_make; refine wpList_make_full _ rfl _ _ 22 rfl w.heap.size 5 i0 (.int .u8 0) 1 Try.underlying22 hi hz0 hz1 .i64 .i64 _ _ l3 rfl rfl rfl rfl (by rw [hz2]; omega) (by simp only [maxLen]; omega) (Nat.le_refl _) ?_; intro w1 own1 grown1)
      have hown := OwnB.made l3 own1 (by omega)
      have hbel : Below w.heap.size w w1 := (Below.refl _ _).grown grown1 (Nat.le_refl _) (by intro k hk; cases hk)
      clear own1 grown1
      obtain ⟨G, hG⟩ : ∃ G, G = w.heap.size := ⟨_, rfl⟩
      rw [← hG] at hbel hown ⊢
      have HG := Lib.hid hG
      clear hG
      go_loopw [20] (fun i wr => ∃ k : Nat, k ≤ l3 ∧ i = .int .i64 k ∧ OwnB wr G 5 (.slice (some ⟨G, 0, none⟩) l3 l3) ((xor3 A B C).take k ++ List.replicate (l3 - k) 0) ∧ Below G w wr) (fun i _ => l3 - (intOf i).toNat)
      case atStart => exact ⟨0, Nat.zero_le _, rfl, by simpa using hown, hbel⟩
      case round =>
        obtain ⟨k, hk, rfl, hown, hbel⟩ := hrel
        by_cases hlt : k < l3
        · have hxl : ((xor3 A B C).take k ++ List.replicate (l3 - k) 0).length = l3 := by simp [HXL.out]; omega
          have hfree := hown.free hxl k
          obtain ⟨ov, hold⟩ : ∃ ov : Int, wr.cell? ⟨G, k, none⟩ = some (.int .u8 ov) := ⟨_, hown.at hxl k hlt (by omega)⟩
          have wra := hra.old (HG.out ▸ hbel)
          have wrb := hrb.old (HG.out ▸ hbel)
          have wrc := hrc.old (HG.out ▸ hbel)
          obtain ⟨_, _, _, _, sa, pa⟩ := wra
          obtain ⟨_, _, _, _, sb, pb⟩ := wrb
          obtain ⟨_, _, _, _, sc, pc⟩ := wrc
          obtain h0 | ⟨ba, oa, rfl, ca⟩ := pa
          · omega
          obtain h0 | ⟨bb, ob, rfl, cb⟩ := pb
          · omega
          obtain h0 | ⟨bc, oc, rfl, cc⟩ := pc
          · omega
          have ka : k < A.length := by rw [HEA.out]; exact hlt
          have kb : k < B.length := by rw [HEB.out]; exact hlt
          have kc : k < C.length := by rw [HEC.out]; exact hlt
          have da := ca k ka
          have db := cb k kb
          have dc := cc k kc
          have ma := sa _ (List.getElem_mem ka)
          have mb := sb _ (List.getElem_mem kb)
          have mc := sc _ (List.getElem_mem kc)
          have HX3 := Lib.hid (xor3_get A B C k ka kb kc)
          clear ca cb cc sa sb sc
          generalize A[k] = x at *
          generalize B[k] = y at *
          generalize C[k] = z at *
          have x1 := u8_xor_nat x y (by omega) (by omega)
          have x2 := u8_xor_nat (x ^^^ y) z (Nat.xor_lt_two_pow (n := 8) ma mb) (by omega)
          have hi1 : (k : Int) < (l1 : Int) := by omega
          have hi2 : (k : Int) < (l2 : Int) := by omega
          have hi3 : (k : Int) < (l3 : Int) := by omega
          have HOWN := Lib.hid hown
          have HXLL := Lib.hid hxl
          clear hxl hown
          go_wp2
          go_still_tail 17, (by kernel_rfl)
          go_wp2
          have HW : Hid (OwnB (wr.setCell ⟨G, k, none⟩ (.int .u8 (x ^^^ y ^^^ z : Nat))).drew G 5 (.slice (some ⟨G, 0, none⟩) l3 l3) ((xor3 A B C).take (k + 1) ++ List.replicate (l3 - (k + 1)) 0)) := Lib.hid (by
            have e := HOWN.out.stored HXLL.out k (x ^^^ y ^^^ z) (Nat.xor_lt_two_pow (n := 8) (Nat.xor_lt_two_pow (n := 8) ma mb) mc)
            rw [set_step _ _ _ _ HX3.out hlt HXL.out] at e
            exact e.drewN 1)
          exact ⟨⟨k + 1, by omega, by go_num, HW.out, (hbel.setCell (Nat.le_refl _) _).drew⟩, by simp [intOf]; omega⟩
        · obtain rfl : l3 = k := by omega
          have hfin : (xor3 A B C).take l3 ++ List.replicate (l3 - l3) 0 = xor3 A B C := by
            rw [List.take_of_length_le (by rw [HXL.out]; omega)]; simp
          rw [hfin] at hown
          have hrow : RowB wr (some ⟨G, 0, none⟩) l3 l3 (xor3 A B C) := by
            obtain ⟨a, c, hv, hr, _⟩ := hown.row
            rw [HXL.out] at hv hr
            simp only [Value.slice.injEq, true_and] at hv
            obtain ⟨rfl, rfl⟩ := hv
            exact hr
          have wra := hra.old (HG.out ▸ hbel)
          have wrb := hrb.old (HG.out ▸ hbel)
          have wrc := hrc.old (HG.out ▸ hbel)
          have hlt' : ¬ ((l3 : Int) < l3) := by omega
          have r1 := crcF_eq _ HXS.out
          have r2 := crcF_eq _ hra.2.2.2.2.1
          have r3 := crcF_eq _ hrb.2.2.2.2.1
          have r4 := crcF_eq _ hrc.2.2.2.2.1
          have r5 := crcAll_lines A B C (by rw [HEA.out, HEB.out]) (by rw [HEB.out, HEC.out])
          have t2 := crcN_lt _ hra.2.2.2.2.1
          have t3 := crcN_lt _ hrb.2.2.2.2.1
          have t4 := crcN_lt _ hrc.2.2.2.2.1
          have R1 := Lib.hid r1
          have R2 := Lib.hid r2
          have R3 := Lib.hid r3
          have R4 := Lib.hid r4
          have R5 := Lib.hid r5
          have X1 := Lib.hid (u32_xor_nat _ _ t2 t3)
          have X2 := Lib.hid (u32_xor_nat _ _ (xor_lt32 _ _ t2 t3) t4)
          clear r1 r2 r3 r4 r5 hfin hown
          have e1 : crcF (xor3 A B C) = ((crcN A ^^^ crcN B ^^^ crcN C : Nat) : Int) := by rw [R1.out, R5.out]
          have e2 := R2.out
          have e3 := R3.out
          have e4 := R4.out
          have x1 := X1.out
          have x2 := X2.out
          have k1 := crc_same _ _ _ (xor3 A B C) wr.drew (hrow.drewN 1)
          have k2 := crc_same _ _ _ A wr.drew (wra.drewN 1)
          have k3 := crc_same _ _ _ B wr.drew (wrb.drewN 1)
          have k4 := crc_same _ _ _ C wr.drew (wrc.drewN 1)
          rw [e1] at k1
          rw [e2] at k2
          rw [e3] at k3
          rw [e4] at k4
          clear e1 e2 e3 e4
          have m1 : l3 ≤ c1 := by omega
          have m2 : l3 ≤ c2 := by omega
          have m3 : l3 ≤ c3 := by omega
          have K1 := Lib.hid k1
          have K2 := Lib.hid k2
          have K3 := Lib.hid k3
          have K4 := Lib.hid k4
          clear k1 k2 k3 k4
          go_wp2
          refine wp_region_still_tail 18 (by kernel_rfl) (by kernel_rfl) ?_
          simp only [List.take_succ_cons, List.take_zero, List.drop_succ_cons, List.drop_zero]
          still_step
          still_call K1.out
          iterate 3 still_step
          still_call K2.out
          iterate 3 still_step
          still_call K3.out
          iterate 4 still_step
          still_call K4.out
          iterate 3 still_step
          refine wpStill_nil ?_
          go_wp2_with (go_at_call 22; refine (awake_any _).mono ?_; rintro e w' ⟨rfl, hbz⟩)
          go_ret
          rw [← HG.out]
          exact ⟨rfl, hbel.drew.trans (hbz.mono (by have h1 := hbel.size; have h2 := HG.out; show G ≤ wr.heap.size; omega))⟩

theorem sumLines_holds : Rows.SumLinesSaid := by
  refine sumLines.said fun H enc W base v0 v1 v2 d0 d1 d2 p0 p1 p2 h0 h1 h2 => ?_
  obtain ⟨a1, l1, c1, xs, rfl, hr1, _, _⟩ := h0.bytes Try.underlying22 Try.underlying5 (by kernel_rfl) (by kernel_rfl)
  obtain ⟨a2, l2, c2, ys, rfl, hr2, _, _⟩ := h1.bytes Try.underlying22 Try.underlying5 (by kernel_rfl) (by kernel_rfl)
  obtain ⟨a3, l3, c3, zs, rfl, hr3, _, _⟩ := h2.bytes Try.underlying22 Try.underlying5 (by kernel_rfl) (by kernel_rfl)
  exact lines_walk a1 a2 a3 l1 c1 l2 c2 l3 c3 xs ys zs W hr1 hr2 hr3
end Go.Proofs.Ytaghpjemoofplaa
