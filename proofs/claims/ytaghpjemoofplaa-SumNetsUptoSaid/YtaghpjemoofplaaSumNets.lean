/- SumNets answers true for any two rows of bytes that hold together at most 1048576 values: bytes with their sum behind have the sum 0; two parts' sum is put together; a byte of 0 behind changes nothing. -/
import Derived.Test.YtaghpjemoofplaaSumAwake
import Derived.Test.YtaghpjemoofplaaBytes
import Derived.Test.YtaghpjemoofplaaAppendZ
import Derived.Test.YtaghpjemoofplaaOctArgs
import Derived.Test.YtaghpjemoofplaaFrSumNetsU
set_option linter.unusedVariables false
namespace Go.Proofs.Ytaghpjemoofplaa
open Go.RowKit

set_option maxHeartbeats 2000000 in
theorem nets_walk (a1 a2 : Option Addr) (l1 c1 l2 c2 : Nat) (xs ys : List Nat) (w : World) (hr : RowB w a1 l1 c1 xs) (hr2 : RowB w a2 l2 c2 ys) (hb1 : l1 ≤ 1048576) (hb2 : l2 ≤ 1048576) :
    Calls Try.prog 4 #[.slice a1 l1 c1, .slice a2 l2 c2] w fun e w' => e = .returned (.bool true) ∧ Below w.heap.size w w' := by
  have hcc := hr.2.1
  have hcm := hr.2.2.1
  have hl := hr.1
  by_cases hp : l1 % 2 = 1
  · have hb : (((l1 : Int) % 2) == 1) = true := beq_iff_eq.2 (by omega)
    have hrx := hr.take (l1 - 1) (by omega)
    have hev : Hid ((xs.take (l1 - 1)).length % 2 = 0) := Lib.hid (by simp; omega)
    generalize xs.take (l1 - 1) = XS at *
    have h1 : (1 : Int) ≤ (l1 : Int) := by omega
    have h2 : (l1 : Int) - 1 ≤ (c1 : Int) := by omega
    clear hr hl hp
    go_enter Try.func4, Try.ntmps4
    go_wp2_with fail
    have hnl := netF_le XS
    refine (net_any _ _ _ XS _ hrx).mono ?_
    rintro e w1 ⟨rfl, n1, rfl⟩
    have hrx1 := hrx.drewN n1
    have hr21 := hr2.drewN n1
    have hbel : Below w.heap.size w (w.drewN n1) := below_drewN' (Below.refl _ _) _
    have hsz : w.heap.size ≤ (w.drewN n1).heap.size := Nat.le_refl _
    generalize hB : w.heap.size = B at *
    generalize w.drewN n1 = w1 at *
    generalize hN : netF XS = N at hnl ⊢
    have HZ : Hid (netF (XS ++ [(N / 256).toNat, (N % 256).toNat]) = 0) := Lib.hid (netF_zero XS hev.out _ _ (by rw [hN]; omega))
    have HD : Hid (foldF (partF (partF 0 XS) ys) = netF (XS ++ ys)) := Lib.hid (netF_two XS ys hev.out).symm
    have HP : Hid (netF ((XS ++ ys) ++ List.replicate ((XS ++ ys).length % 2) 0) = netF (XS ++ ys)) := Lib.hid (netF_pad _)
    clear hN
    have hlx := hrx1.1
    have hly := hr21.1
    have hL : l1 - 1 ≤ 1048576 := by omega
    generalize l1 - 1 = L at *
    go_wp2_with (first | (at_builtin; refine wpList_appendB rfl _ _ 22 rfl 5 Try.underlying22 infoB w4.heap.size (.slice a5 L c5) XS rfl hown5 _ _ _ ys rfl ((hr21.old hb4).old hb5) (L + l2) (XS ++ ys) rfl (by simp; omega) (by omega) (by simp at hs5; omega) w4.heap.size w4 hb5 (Nat.le_refl _) ?_; intro a6 c6 w6 hown6 hr6 hg6 hb6 hs6 hp6 hl6) | (at_builtin; refine wpList_appendB rfl _ _ 22 rfl 5 Try.underlying22 infoB w4.heap.size (.slice (some ⟨w4.heap.size, 0, none⟩) 0 0) [] rfl (OwnB.lit w4 _ rfl _ (Nat.le_refl _) _ _ _ _ rfl rfl (by decide) (by decide)) _ _ _ XS rfl ((hrx1.old hb4).old (Below.alloc (Below.refl _ _) (Nat.le_refl _) _)) L XS rfl hlx (by omega) (by simp) w4.heap.size w4 (Below.alloc (Below.refl _ _) (Nat.le_refl _) _) (Nat.le_refl _) ?_; intro a5 c5 w5 hown5 hr5 hg5 hb5 hs5 hp5 hl5) | (at_builtin; refine wpList_appendB rfl _ _ 22 rfl 5 Try.underlying22 infoB w1.heap.size (.slice a3 L c3) XS rfl (hown3.alloc _) _ _ _ [(N / 256).toNat, (N % 256).toNat] rfl (RowB.new w3 _ rfl _ _ _ 2 [(N / 256).toNat, (N % 256).toNat] rfl (by omega) (by intro z hz; simp at hz; omega) (by intro i hi; match i, hi with | 0, _ => simp; omega | 1, _ => simp; omega)) (L + 2) (XS ++ [(N / 256).toNat, (N % 256).toNat]) rfl (by simp; omega) (by omega) (by simp at hs3 ⊢; omega) w1.heap.size w1 (hb3.alloc (by simp at hs3; omega) _) (Nat.le_refl _) ?_; intro a4 c4 w4 hown4 hr4 hg4 hb4 hs4 hp4 hl4) | (at_builtin; refine wpList_appendB rfl _ _ 22 rfl 5 Try.underlying22 infoB w1.heap.size (.slice (some ⟨w1.heap.size, 0, none⟩) 0 0) [] rfl (OwnB.lit w1 _ rfl _ (Nat.le_refl _) _ _ _ _ rfl rfl (by decide) (by decide)) _ _ _ XS rfl (hrx1.old (Below.alloc (Below.refl _ _) (Nat.le_refl _) _)) L XS rfl hlx (by omega) (by simp) w1.heap.size w1 (Below.alloc (Below.refl _ _) (Nat.le_refl _) _) (Nat.le_refl _) ?_; intro a3 c3 w3 hown3 hr3 hg3 hb3 hs3 hp3 hl3))
    refine (net_any _ _ _ (XS ++ [(N / 256).toNat, (N % 256).toNat]) _ (hr4.old hb6)).mono ?_
    rintro e w' ⟨rfl, n2, rfl⟩
    rw [HZ.out]
    have hrd := hr6.drewN n2
    have hra := ((hrx1.old hb4).old hb6).drewN n2
    have hrb := ((hr21.old hb4).old hb6).drewN n2
    have hb7 : Below w1.heap.size w1 (w6.drewN n2) := (hb4.trans (hb6.mono (by have := hb4.size; omega))).trans (below_drewN' (Below.refl _ _) _)
    clear hr3 hown3 hg3 hb3 hs3 hp3 hg4 hs4 hp4 hown5 hr5 hg5 hb5 hs5 hp5 hg6 hs6 hp6 hown6 hown4 hr4
    generalize w6.drewN n2 = w7 at *
    clear hr6 hb6 hb4
    have hpl := partF_le 0 XS
    have hpl2 := partF_le (partF 0 XS) ys
    go_wp2_with fail
    refine (net_any _ _ _ (XS ++ ys) _ hrd).mono ?_
    rintro e w' ⟨rfl, n3, rfl⟩
    go_wp2_with fail
    refine (part_any _ _ _ _ XS _ (by omega) (by omega) (hra.drewN _)).mono ?_
    rintro e w' ⟨rfl, n4, rfl⟩
    go_wp2_with fail
    refine (part_any _ _ _ _ ys _ (by omega) (by omega) (hrb.drewN _)).mono ?_
    rintro e w' ⟨rfl, n5, rfl⟩
    go_wp2_with fail
    refine (fold_any _ _ (by omega) (by omega)).mono ?_
    rintro e w8 ⟨rfl, hd8⟩
    rw [HD.out]
    have hd8' : Drew w7 w8 := by obtain ⟨k, rfl⟩ := hd8; exact Drew.more (Drew.mk _ _) _
    have hrd8 := hrd.drew hd8'
    have hb8 : Below w1.heap.size w1 w8 := hb7.trans (hd8'.below _)
    clear hd8 hd8' hrd hra hrb hb7
    go_wp2_with (first | (at_builtin; refine wpList_appendB rfl _ _ 22 rfl 5 Try.underlying22 infoB w8.heap.size (.slice (some ⟨w8.heap.size, 0, none⟩) 0 0) [] rfl (OwnB.lit w8 _ rfl _ (Nat.le_refl _) _ _ _ _ rfl rfl (by decide) (by decide)) _ _ _ (XS ++ ys) rfl (hrd8.old (Below.alloc (Below.refl _ _) (Nat.le_refl _) _)) (L + l2) (XS ++ ys) rfl (by simp; omega) (by omega) (by simp) w8.heap.size w8 (Below.alloc (Below.refl _ _) (Nat.le_refl _) _) (Nat.le_refl _) ?_; intro a9 c9 w9 hown9 hr9 hg9 hb9 hs9 hp9 hl9) | (at_builtin; refine wpList_appendZ rfl _ _ 22 3 rfl 5 Try.underlying22 Try.underlying3 infoB w8.heap.size (.slice a9 (L + l2) c9) (XS ++ ys) rfl hown9 ((L + l2) % 2) rfl (L + l2 + (L + l2) % 2) (XS ++ ys ++ List.replicate ((L + l2) % 2) 0) rfl (by simp; omega) (by omega) hb9.size w8.heap.size w8 hb9 (Nat.le_refl _) ?_; intro a10 c10 w10 hown10 hr10 hg10 hb10))
    refine (net_any _ _ _ (XS ++ ys ++ List.replicate ((L + l2) % 2) 0) _ hr10).mono ?_
    rintro e w' ⟨rfl, n10, rfl⟩
    have hll : (XS ++ ys).length = L + l2 := by simp; omega
    have HP2 := HP.out
    rw [hll] at HP2
    rw [HP2]
    have hrd10 := (hrd8.old hb10).drewN n10
    have hb11 : Below B w (w10.drewN n10) := below_drewN' ((hbel.trans (hb8.mono hsz)).trans (hb10.mono (Nat.le_trans hsz hb8.size))) n10
    clear hr10 hown10 hg10 hb10 hown9 hr9 hg9 hb9 hs9 hp9 hl9 HP2 hll
    go_wp2_with fail
    refine (net_any _ _ _ (XS ++ ys) _ hrd10).mono ?_
    rintro e w' ⟨rfl, n11, rfl⟩
    go_wp2_with (go_at_call 22; refine (awake_any _).mono ?_; rintro e w' ⟨rfl, hbz⟩)
    go_ret
    have hb12 : Below B w (w10.drewN (n10 + n11)) := by rw [← World.drewN_drewN]; exact below_drewN' hb11 n11
    subst hB
    exact ⟨rfl, hb12.trans (hbz.mono hb12.size)⟩
  · have hb : (((l1 : Int) % 2) == 1) = false := beq_eq_false_iff_ne.2 (by omega)
    have hrx := hr
    have hev : Hid (xs.length % 2 = 0) := Lib.hid (by omega)
    generalize xs = XS at *
    clear hr hl hp
    go_enter Try.func4, Try.ntmps4
    go_wp2_with fail
    have hnl := netF_le XS
    refine (net_any _ _ _ XS _ hrx).mono ?_
    rintro e w1 ⟨rfl, n1, rfl⟩
    have hrx1 := hrx.drewN n1
    have hr21 := hr2.drewN n1
    have hbel : Below w.heap.size w (w.drewN n1) := below_drewN' (Below.refl _ _) _
    have hsz : w.heap.size ≤ (w.drewN n1).heap.size := Nat.le_refl _
    generalize hB : w.heap.size = B at *
    generalize w.drewN n1 = w1 at *
    generalize hN : netF XS = N at hnl ⊢
    have HZ : Hid (netF (XS ++ [(N / 256).toNat, (N % 256).toNat]) = 0) := Lib.hid (netF_zero XS hev.out _ _ (by rw [hN]; omega))
    have HD : Hid (foldF (partF (partF 0 XS) ys) = netF (XS ++ ys)) := Lib.hid (netF_two XS ys hev.out).symm
    have HP : Hid (netF ((XS ++ ys) ++ List.replicate ((XS ++ ys).length % 2) 0) = netF (XS ++ ys)) := Lib.hid (netF_pad _)
    clear hN
    have hlx := hrx1.1
    have hly := hr21.1
    have hL : l1 ≤ 1048576 := by omega
    generalize l1 = L at *
    go_wp2_with (first | (at_builtin; refine wpList_appendB rfl _ _ 22 rfl 5 Try.underlying22 infoB w4.heap.size (.slice a5 L c5) XS rfl hown5 _ _ _ ys rfl ((hr21.old hb4).old hb5) (L + l2) (XS ++ ys) rfl (by simp; omega) (by omega) (by simp at hs5; omega) w4.heap.size w4 hb5 (Nat.le_refl _) ?_; intro a6 c6 w6 hown6 hr6 hg6 hb6 hs6 hp6 hl6) | (at_builtin; refine wpList_appendB rfl _ _ 22 rfl 5 Try.underlying22 infoB w4.heap.size (.slice (some ⟨w4.heap.size, 0, none⟩) 0 0) [] rfl (OwnB.lit w4 _ rfl _ (Nat.le_refl _) _ _ _ _ rfl rfl (by decide) (by decide)) _ _ _ XS rfl ((hrx1.old hb4).old (Below.alloc (Below.refl _ _) (Nat.le_refl _) _)) L XS rfl hlx (by omega) (by simp) w4.heap.size w4 (Below.alloc (Below.refl _ _) (Nat.le_refl _) _) (Nat.le_refl _) ?_; intro a5 c5 w5 hown5 hr5 hg5 hb5 hs5 hp5 hl5) | (at_builtin; refine wpList_appendB rfl _ _ 22 rfl 5 Try.underlying22 infoB w1.heap.size (.slice a3 L c3) XS rfl (hown3.alloc _) _ _ _ [(N / 256).toNat, (N % 256).toNat] rfl (RowB.new w3 _ rfl _ _ _ 2 [(N / 256).toNat, (N % 256).toNat] rfl (by omega) (by intro z hz; simp at hz; omega) (by intro i hi; match i, hi with | 0, _ => simp; omega | 1, _ => simp; omega)) (L + 2) (XS ++ [(N / 256).toNat, (N % 256).toNat]) rfl (by simp; omega) (by omega) (by simp at hs3 ⊢; omega) w1.heap.size w1 (hb3.alloc (by simp at hs3; omega) _) (Nat.le_refl _) ?_; intro a4 c4 w4 hown4 hr4 hg4 hb4 hs4 hp4 hl4) | (at_builtin; refine wpList_appendB rfl _ _ 22 rfl 5 Try.underlying22 infoB w1.heap.size (.slice (some ⟨w1.heap.size, 0, none⟩) 0 0) [] rfl (OwnB.lit w1 _ rfl _ (Nat.le_refl _) _ _ _ _ rfl rfl (by decide) (by decide)) _ _ _ XS rfl (hrx1.old (Below.alloc (Below.refl _ _) (Nat.le_refl _) _)) L XS rfl hlx (by omega) (by simp) w1.heap.size w1 (Below.alloc (Below.refl _ _) (Nat.le_refl _) _) (Nat.le_refl _) ?_; intro a3 c3 w3 hown3 hr3 hg3 hb3 hs3 hp3 hl3))
    refine (net_any _ _ _ (XS ++ [(N / 256).toNat, (N % 256).toNat]) _ (hr4.old hb6)).mono ?_
    rintro e w' ⟨rfl, n2, rfl⟩
    rw [HZ.out]
    have hrd := hr6.drewN n2
    have hra := ((hrx1.old hb4).old hb6).drewN n2
    have hrb := ((hr21.old hb4).old hb6).drewN n2
    have hb7 : Below w1.heap.size w1 (w6.drewN n2) := (hb4.trans (hb6.mono (by have := hb4.size; omega))).trans (below_drewN' (Below.refl _ _) _)
    clear hr3 hown3 hg3 hb3 hs3 hp3 hg4 hs4 hp4 hown5 hr5 hg5 hb5 hs5 hp5 hg6 hs6 hp6 hown6 hown4 hr4
    generalize w6.drewN n2 = w7 at *
    clear hr6 hb6 hb4
    have hpl := partF_le 0 XS
    have hpl2 := partF_le (partF 0 XS) ys
    go_wp2_with fail
    refine (net_any _ _ _ (XS ++ ys) _ hrd).mono ?_
    rintro e w' ⟨rfl, n3, rfl⟩
    go_wp2_with fail
    refine (part_any _ _ _ _ XS _ (by omega) (by omega) (hra.drewN _)).mono ?_
    rintro e w' ⟨rfl, n4, rfl⟩
    go_wp2_with fail
    refine (part_any _ _ _ _ ys _ (by omega) (by omega) (hrb.drewN _)).mono ?_
    rintro e w' ⟨rfl, n5, rfl⟩
    go_wp2_with fail
    refine (fold_any _ _ (by omega) (by omega)).mono ?_
    rintro e w8 ⟨rfl, hd8⟩
    rw [HD.out]
    have hd8' : Drew w7 w8 := by obtain ⟨k, rfl⟩ := hd8; exact Drew.more (Drew.mk _ _) _
    have hrd8 := hrd.drew hd8'
    have hb8 : Below w1.heap.size w1 w8 := hb7.trans (hd8'.below _)
    clear hd8 hd8' hrd hra hrb hb7
    go_wp2_with (first | (at_builtin; refine wpList_appendB rfl _ _ 22 rfl 5 Try.underlying22 infoB w8.heap.size (.slice (some ⟨w8.heap.size, 0, none⟩) 0 0) [] rfl (OwnB.lit w8 _ rfl _ (Nat.le_refl _) _ _ _ _ rfl rfl (by decide) (by decide)) _ _ _ (XS ++ ys) rfl (hrd8.old (Below.alloc (Below.refl _ _) (Nat.le_refl _) _)) (L + l2) (XS ++ ys) rfl (by simp; omega) (by omega) (by simp) w8.heap.size w8 (Below.alloc (Below.refl _ _) (Nat.le_refl _) _) (Nat.le_refl _) ?_; intro a9 c9 w9 hown9 hr9 hg9 hb9 hs9 hp9 hl9) | (at_builtin; refine wpList_appendZ rfl _ _ 22 3 rfl 5 Try.underlying22 Try.underlying3 infoB w8.heap.size (.slice a9 (L + l2) c9) (XS ++ ys) rfl hown9 ((L + l2) % 2) rfl (L + l2 + (L + l2) % 2) (XS ++ ys ++ List.replicate ((L + l2) % 2) 0) rfl (by simp; omega) (by omega) hb9.size w8.heap.size w8 hb9 (Nat.le_refl _) ?_; intro a10 c10 w10 hown10 hr10 hg10 hb10))
    refine (net_any _ _ _ (XS ++ ys ++ List.replicate ((L + l2) % 2) 0) _ hr10).mono ?_
    rintro e w' ⟨rfl, n10, rfl⟩
    have hll : (XS ++ ys).length = L + l2 := by simp; omega
    have HP2 := HP.out
    rw [hll] at HP2
    rw [HP2]
    have hrd10 := (hrd8.old hb10).drewN n10
    have hb11 : Below B w (w10.drewN n10) := below_drewN' ((hbel.trans (hb8.mono hsz)).trans (hb10.mono (Nat.le_trans hsz hb8.size))) n10
    clear hr10 hown10 hg10 hb10 hown9 hr9 hg9 hb9 hs9 hp9 hl9 HP2 hll
    go_wp2_with fail
    refine (net_any _ _ _ (XS ++ ys) _ hrd10).mono ?_
    rintro e w' ⟨rfl, n11, rfl⟩
    go_wp2_with (go_at_call 22; refine (awake_any _).mono ?_; rintro e w' ⟨rfl, hbz⟩)
    go_ret
    have hb12 : Below B w (w10.drewN (n10 + n11)) := by rw [← World.drewN_drewN]; exact below_drewN' hb11 n11
    subst hB
    exact ⟨rfl, hb12.trans (hbz.mono hb12.size)⟩
open Go.ChangeShapes Go.WideShapes Go.ChangeAt Go.Deep in
theorem sumNets_holds : Rows.SumNetsUptoSaid := by
  refine sumNetsU.said fun H enc W base v0 v1 d0 d1 p0 p1 h0 h1 hk => ?_
  have hk' : Rows.uptoBulk d0 + (Rows.uptoBulk d1 + 0) ≤ 1048576 := by simpa [Rows.uptoBulkAll] using hk
  obtain ⟨a1, l1, c1, rfl⟩ := okWide_slice Try.underlying22 h0.ok
  obtain ⟨a2, l2, c2, rfl⟩ := okWide_slice Try.underlying22 h1.ok
  obtain ⟨f0, hf0⟩ := h0.trod
  obtain ⟨f1, hf1⟩ := h1.trod
  obtain ⟨b1, m1, k1, xs, e1, hr1, hl1⟩ := bytes_of_trod (y := (d0, p0)) Try.underlying22 Try.underlying5 (by kernel_rfl) (by simpa [Value.cells] using hf0) (by show Rows.uptoBulk d0 ≤ _; omega)
  obtain ⟨b2, m2, k2, ys, e2, hr2, hl2⟩ := bytes_of_trod (y := (d1, p1)) Try.underlying22 Try.underlying5 (by kernel_rfl) (by simpa [Value.cells] using hf1) (by show Rows.uptoBulk d1 ≤ _; omega)
  simp only [Value.slice.injEq] at e1 e2
  obtain ⟨rfl, rfl, rfl⟩ := e1
  obtain ⟨rfl, rfl, rfl⟩ := e2
  exact nets_walk _ _ _ _ _ _ xs ys W hr1 hr2 (by have : l1 + 1 ≤ Rows.uptoBulk d0 := hl1; omega) (by have : l2 + 1 ≤ Rows.uptoBulk d1 := hl2; omega)
end Go.Proofs.Ytaghpjemoofplaa
