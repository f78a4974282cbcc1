/- DiskSure holds: what is sure stays. -/
import Derived.Test.YtmokcfmlolohaaaDskAwk
import Derived.Test.YtmokcfmlolohaaaFrDiskSure
import Derived.Test.YtmokcfmlolohaaaDiskMoves
set_option linter.unusedVariables false
set_option linter.unusedSimpArgs false
namespace Go.Proofs.Ytmokcfmlolohaaa
open Go.RowKit

theorem sZ_name : 1 ≤ sZ.size ∧ sZ.size ≤ 16 := by decide
theorem sXZ : sX ≠ sZ := by decide
def CS3 (g1 g2 : Nat) : List DkCh := [⟨0, sX, ⟨#[]⟩, some g1⟩, ⟨0, sY, ⟨#[]⟩, some g2⟩, ⟨1, sX, sZ, none⟩]
theorem S3n (g1 g2 : Nat) : dkAll [] (CS3 g1 g2) = [⟨sZ, some g1⟩, ⟨sY, some g2⟩] := by kernel_rfl
theorem S4n (g1 g2 : Nat) : dkAll [⟨sZ, some g1⟩, ⟨sY, some g2⟩] [⟨2, sY, ⟨#[]⟩, none⟩] = [⟨sZ, some g1⟩] := by kernel_rfl
theorem sZ2 (g1 g2 : Nat) : getN [⟨sZ, some g1⟩, ⟨sY, some g2⟩] sZ = some g1 := by kernel_rfl
theorem sY2 (g1 g2 : Nat) : getN [⟨sZ, some g1⟩, ⟨sY, some g2⟩] sY = some g2 := by kernel_rfl
theorem sX2 (g1 g2 : Nat) : getN [⟨sZ, some g1⟩, ⟨sY, some g2⟩] sX = none := by kernel_rfl
theorem sZ1 (g1 : Nat) : getN [⟨sZ, some g1⟩] sZ = some g1 := by kernel_rfl
theorem sY1 (g1 : Nat) : getN [⟨sZ, some g1⟩] sY = none := by kernel_rfl
theorem sX1 (g1 : Nat) : getN [⟨sZ, some g1⟩] sX = none := by kernel_rfl
/-- The two files are beginnings. -/
structure QF (A B C : List Nat) (g1 g2 : Nat) (F : Nat → DkFc) : Prop where
  a : ∃ j s, F g1 = ⟨(A ++ C).take j, s⟩ ∧ A.length ≤ s ∧ s ≤ j ∧ j ≤ A.length + C.length
  b : ∃ i t, F g2 = ⟨B.take i, t⟩ ∧ t ≤ i ∧ i ≤ B.length
theorem QF.keep {A B C : List Nat} {g1 g2 : Nat} {F : Nat → DkFc} (hne : g1 ≠ g2) (q : QF A B C g1 g2 F) (x : NmD) (hx : x.f = some g1 ∨ x.f = some g2) (ps : List Nat) : QF A B C g1 g2 (dkCr1 x ps F) := by
  obtain ⟨j, s, e1, h1, h2, h3⟩ := q.a
  obtain ⟨i, t, e2, h4, h5⟩ := q.b
  rcases hx with hx | hx
  · unfold dkCr1
    rw [hx]
    simp only
    obtain ⟨u, hu⟩ : ∃ u, pick0 ps ((F g1).b.length - (F g1).s) = u := ⟨_, rfl⟩
    have hul := pick0_le ps ((F g1).b.length - (F g1).s)
    rw [hu] at hul ⊢
    rw [e1] at hul
    simp only [List.length_take, List.length_append] at hul
    unfold keepF
    refine ⟨⟨s + u, s + u, ?_, by omega, Nat.le_refl _, by omega⟩, ⟨i, t, by rw [fPut_ne _ _ (fun e => hne e.symm)]; exact e2, h4, h5⟩⟩
    rw [fPut_same, e1]
    simp only [List.take_take]
    rw [Nat.min_eq_left (by omega)]
  · unfold dkCr1
    rw [hx]
    simp only
    obtain ⟨u, hu⟩ : ∃ u, pick0 ps ((F g2).b.length - (F g2).s) = u := ⟨_, rfl⟩
    have hul := pick0_le ps ((F g2).b.length - (F g2).s)
    rw [hu] at hul ⊢
    rw [e2] at hul
    simp only [List.length_take] at hul
    unfold keepF
    refine ⟨⟨j, s, by rw [fPut_ne _ _ hne]; exact e1, h1, h2, h3⟩, ⟨t + u, t + u, ?_, Nat.le_refl _, by omega⟩⟩
    rw [fPut_same, e2]
    simp only [List.take_take]
    rw [Nat.min_eq_left (by omega)]
theorem QF.all {A B C : List Nat} {g1 g2 : Nat} (hne : g1 ≠ g2) : ∀ (L : List NmD) (ps : List Nat) (F : Nat → DkFc), QF A B C g1 g2 F → (∀ x ∈ L, x.f = some g1 ∨ x.f = some g2) → QF A B C g1 g2 (dkCrF L ps F)
  | [], ps, F, q, _ => q
  | x :: L, ps, F, q, h => QF.all hne L ps.tail _ (q.keep hne x (h x List.mem_cons_self) ps) (fun y hy => h y (List.mem_cons_of_mem _ hy))
structure MN (g1 g2 : Nat) (M : List NmD) : Prop where
  z : getN M sZ = some g1
  x : getN M sX = none
  y : getN M sY = none ∨ getN M sY = some g2
  f : ∀ x ∈ M, x.f = some g1 ∨ x.f = some g2
structure SInv (A B C : List Nat) (g1 g2 : Nat) (st : DkS) : Prop where
  c : st.C.length ≤ 1
  n : ∀ j, j ≤ st.C.length → MN g1 g2 (dkAll st.S (st.C.take j))
  q : QF A B C g1 g2 st.F
theorem SInv.N {A B C : List Nat} {g1 g2 : Nat} {st : DkS} (h : SInv A B C g1 g2 st) : MN g1 g2 st.N := by
  have := h.n st.C.length (Nat.le_refl _)
  rwa [List.take_length] at this
theorem SInv.crash {A B C : List Nat} {g1 g2 : Nat} {st : DkS} (hne : g1 ≠ g2) (h : SInv A B C g1 g2 st) (ps : List Nat) : SInv A B C g1 g2 (dkCrash st ps) := by
  have hm := h.n _ (pick0_le ps st.C.length)
  refine ⟨Nat.zero_le _, fun j hj => ?_, ?_⟩
  · have hj : j ≤ 0 := hj
    obtain rfl : j = 0 := by omega
    exact hm
  · exact QF.all hne _ _ _ h.q (fun x hx => hm.f x ((dkSort_perm _).mem_iff.1 hx))
theorem strB_app (xs ys : List Nat) : strB xs ++ strB ys = strB (xs ++ ys) := by
  unfold strB
  rw [List.map_append]
  apply ByteArray.ext
  simp
theorem strB_size (xs : List Nat) : (strB xs).size = xs.length := by unfold strB; simp [ByteArray.size]
theorem strB_extract (xs : List Nat) (n : Nat) : (strB xs).extract 0 n = strB (xs.take n) := by
  unfold strB
  apply ByteArray.ext
  apply Array.ext'
  simp [ByteArray.data_extract, List.map_take]
theorem fz2 (g1 g2 : Nat) : ∀ x ∈ [(⟨sZ, some g1⟩ : NmD), ⟨sY, some g2⟩], x.f = some g1 ∨ x.f = some g2 := by
  intro x hx
  rcases List.mem_cons.1 hx with h | h
  · rw [h]; exact .inl rfl
  · rw [List.mem_singleton.1 h]; exact .inr rfl
theorem lt_no (a b : Int) (h : b ≤ a) (x y : Operand) (W : World) :
    (do eqGuard BinOp.lss 3 x y (.int .i64 a) (.int .i64 b); binOp BinOp.lss 3 (.int .i64 a) (.int .i64 b) : Sem Value).run Try.prog W = .ok (.bool false) W := by
  go_simp
theorem gt_no (a b : Int) (h : a ≤ b) (x y : Operand) (W : World) :
    (do eqGuard BinOp.gtr 3 x y (.int .i64 a) (.int .i64 b); binOp BinOp.gtr 3 (.int .i64 a) (.int .i64 b) : Sem Value).run Try.prog W = .ok (.bool false) W := by
  go_simp
theorem neS_same (s : ByteArray) (x y : Operand) (W : World) :
    (do eqGuard BinOp.neq 9 x y (.string s) (.string s); binOp BinOp.neq 9 (.string s) (.string s) : Sem Value).run Try.prog W = .ok (.bool false) W := by
  go_simp
theorem addS_run (a b : ByteArray) (h : a.size + b.size ≤ 9223372036854775807) (x y : Operand) (W : World) :
    (do eqGuard BinOp.add 9 x y (.string a) (.string b); binOp BinOp.add 9 (.string a) (.string b) : Sem Value).run Try.prog W = .ok (.string (a ++ b)) W := by
  have h2 := run_string_add_sum (P := Try.prog) W a b h
  go_simp
theorem sure3_small (aA aB aC aP : Option Addr) (la ca lb cb lc cc lp cp : Nat) (w : World) (hb : ¬ (la ≤ 2000 ∧ lb ≤ 2000 ∧ lc ≤ 2000 ∧ lp ≤ 6)) (h1 : la ≤ 281474976710656) (h2 : lb ≤ 281474976710656) (h3 : lc ≤ 281474976710656) (h4 : lp ≤ 9223372036854775807) :
    Calls Try.prog 5 #[.slice aA la ca, .slice aB lb cb, .slice aC lc cc, .slice aP lp cp] w fun e w' => e = .returned (.bool true) ∧ Touch w w' (fun _ => False) := by
  by_cases ha : (2000 : Int) < la
  · clear hb
    go_enter Try.func5, Try.ntmps5
    go_wp2_with fail
    refine (awake3 w).mono ?_
    rintro e w1 ⟨rfl, t1⟩
    have HT := Lib.hid t1
    clear t1
    go_wp2_with fail
    go_ret
    exact ⟨rfl, HT.out⟩
  · by_cases hb2 : (2000 : Int) < lb
    · clear hb
      go_enter Try.func5, Try.ntmps5
      go_wp2_with fail
      refine (awake3 w).mono ?_
      rintro e w1 ⟨rfl, t1⟩
      have HT := Lib.hid t1
      clear t1
      go_wp2_with fail
      go_ret
      exact ⟨rfl, HT.out⟩
    · by_cases hc2 : (2000 : Int) < lc
      · clear hb
        go_enter Try.func5, Try.ntmps5
        go_wp2_with fail
        refine (awake3 w).mono ?_
        rintro e w1 ⟨rfl, t1⟩
        have HT := Lib.hid t1
        clear t1
        go_wp2_with fail
        go_ret
        exact ⟨rfl, HT.out⟩
      · have hp2 : (6 : Int) < lp := by omega
        clear hb
        go_enter Try.func5, Try.ntmps5
        go_wp2_with fail
        refine (awake3 w).mono ?_
        rintro e w1 ⟨rfl, t1⟩
        have HT := Lib.hid t1
        clear t1
        go_wp2_with fail
        go_ret
        exact ⟨rfl, HT.out⟩
set_option maxRecDepth 20000 in
set_option maxHeartbeats 16000000 in
theorem sure3_walk (aA aB aC aP : Option Addr) (la ca lb cb lc cc lp cp : Nat) (A B C : List Nat) (L : List RowF3) (w : World) (hA : RowB w aA la ca A) (hB : RowB w aB lb cb B) (hC : RowB w aC lc cc C) (hP : RowS w aP lp cp 1 (L.map RowF3.cells)) (hPr : ∀ r ∈ L, RowB w r.a r.l r.c r.xs) (hla : la ≤ 2000) (hlb : lb ≤ 2000) (hlc : lc ≤ 2000) (hlp : lp ≤ 6) :
    Calls Try.prog 5 #[.slice aA la ca, .slice aB lb cb, .slice aC lc cc, .slice aP lp cp] w fun e w' => e = .returned (.bool true) ∧ Touch w w' (fun _ => False) := by
  have HA := Lib.hid hA
  have HB := Lib.hid hB
  have HCC := Lib.hid hC
  have HP := Lib.hid hP
  have HPR := Lib.hid hPr
  have hAl : A.length = la := hA.1
  have hBl : B.length = lb := hB.1
  have hCl : C.length = lc := hC.1
  have hLl : L.length = lp := by have := hP.1; simpa using this
  have hcb := hB.2.1
  have i0 : ¬ (2000 : Int) < la := by omega
  have i1 : ¬ (2000 : Int) < lb := by omega
  have i2 : ¬ (2000 : Int) < lc := by omega
  have i3 : ¬ (6 : Int) < lp := by omega
  have HAL := Lib.hid hAl
  have HBL := Lib.hid hBl
  have HCL := Lib.hid hCl
  have HLL := Lib.hid hLl
  clear hA hB hC hP hPr hAl hBl hCl hLl
  go_enter Try.func5, Try.ntmps5
  go_wp2_with fail
  refine (dnew_any w 100000 (by decide)).mono ?_
  rintro e w1 ⟨d, h1, rfl, n1⟩
  have HN := Lib.hid n1
  have HC := Lib.hid (HN.out.app sX sX_sz (HN.out.rowB HA.out) (HN.out.offB HA.out) (by decide))
  clear n1
  go_wp2_with fail
  refine HC.out.mono ?_
  rintro e w2 ⟨g1, -, rfl, h2, n2, -, -, -⟩
  have p1 := app_new (q := 100000) (o := 0) (o' := 1) (S := []) (C := []) (F := F0) (g := g1) (xs := A) (k := sX) (N := []) (by unfold wrap64; omega) rfl sX_name rfl (by rw [HAL.out]; unfold szF; simp; omega) (by rw [HAL.out]; omega) (by decide)
  rw [show dkNew 100000 = (⟨100000, 0, 0, [], [], F0⟩ : DkS) from rfl, p1.2] at n2
  rw [show dkNew 100000 = (⟨100000, 0, 0, [], [], F0⟩ : DkS) from rfl, p1.1]
  have hF1 := fPut_same F0 g1 ⟨A, 0⟩
  obtain ⟨F1, hF1e⟩ : ∃ F1, fPut F0 g1 ⟨A, 0⟩ = F1 := ⟨_, rfl⟩
  rw [hF1e] at hF1 n2
  have HN := Lib.hid n2
  have hT1 := n2.m.get (k := sX) (g := g1) (by show getN (dkAll [] [⟨0, sX, ⟨#[]⟩, some g1⟩]) sX = some g1; rw [C1n]; exact gX0 g1)
  have HC := Lib.hid (HN.out.app sY sY_sz (HN.out.rowB HB.out) (HN.out.offB HB.out) (show 1 ≤ 100000 by decide))
  clear n2 p1 hF1e
  go_wp2_with fail
  refine HC.out.mono ?_
  rintro e w3 ⟨g2, hg2, rfl, h3, n3, -, -, -⟩
  have hne : g1 ≠ g2 := fun e => by rw [e, hg2] at hT1; cases hT1
  have p2 := app_new (q := 100000) (o := 1) (o' := 2) (S := []) (C := [⟨0, sX, ⟨#[]⟩, some g1⟩]) (F := F1) (g := g2) (xs := B) (k := sY) (by unfold wrap64; omega) (C1n g1) sY_name (gX1 g1) (by rw [HBL.out]; unfold szF; simp [hF1, HAL.out]; omega) (by rw [HBL.out]; omega) (by simp)
  simp only [List.nil_append, List.cons_append] at n3 p2
  rw [p2.2] at n3
  simp only [List.nil_append]
  rw [p2.1]
  have hF2 : fPut F1 g2 ⟨B, 0⟩ g1 = ⟨A, 0⟩ := by rw [fPut_ne _ _ hne, hF1]
  have hF2b : fPut F1 g2 ⟨B, 0⟩ g2 = ⟨B, 0⟩ := fPut_same _ _ _
  obtain ⟨F2, hF2e⟩ : ∃ F2, fPut F1 g2 ⟨B, 0⟩ = F2 := ⟨_, rfl⟩
  rw [hF2e] at hF2 hF2b n3
  have HN := Lib.hid n3
  have HC := Lib.hid (HN.out.sync sX sX_sz)
  rw [(on_at (C2n g1 g2) (gX2 g1 g2)).1, sync_at (o' := 3) (by unfold wrap64; omega) (C2n g1 g2) (gX2 g1 g2)] at HC
  have hF3 : fPut F2 g1 ⟨(F2 g1).b, (F2 g1).b.length⟩ g1 = ⟨A, A.length⟩ := by rw [fPut_same, hF2]
  have hF3b : fPut F2 g1 ⟨(F2 g1).b, (F2 g1).b.length⟩ g2 = ⟨B, 0⟩ := by rw [fPut_ne _ _ (fun e => hne e.symm), hF2b]
  obtain ⟨F3, hF3e⟩ : ∃ F3, fPut F2 g1 ⟨(F2 g1).b, (F2 g1).b.length⟩ = F3 := ⟨_, rfl⟩
  rw [hF3e] at hF3 hF3b HC
  clear n3 p2 hF2e hF3e hg2 hT1 hF1 hF2 hF2b
  go_wp2_with fail
  refine HC.out.mono ?_
  rintro e w4 ⟨rfl, h4, n4, -, -, -⟩
  have HN := Lib.hid n4
  have HC := Lib.hid (HN.out.ren sX sZ sX_sz sZ_sz (show 2 ≤ 100000 by decide))
  have p4 := ren_at (q := 100000) (o := 3) (o' := 4) (t := sZ) (F := F3) (by unfold wrap64; omega) (C2n g1 g2) (gX2 g1 g2) sZ_name sXZ
  rw [p4.1, p4.2] at HC
  simp only [List.cons_append, List.nil_append] at HC
  clear n4 p4
  go_wp2_with fail
  refine HC.out.mono ?_
  rintro e w5 ⟨rfl, h5, n5, -, -, -⟩
  have HN := Lib.hid n5
  have HC := Lib.hid (HN.out.syncdir (show 3 ≤ 100000 by decide))
  have p5 := syncdir_at (q := 100000) (o := 4) (o' := 5) (F := F3) (by unfold wrap64; omega) (S3n g1 g2)
  rw [show CS3 g1 g2 = [⟨0, sX, ⟨#[]⟩, some g1⟩, ⟨0, sY, ⟨#[]⟩, some g2⟩, ⟨1, sX, sZ, none⟩] from rfl] at p5
  rw [p5.1, p5.2] at HC
  clear n5 p5
  go_wp2_with fail
  refine HC.out.mono ?_
  rintro e w6 ⟨rfl, h6, n6, -, -, -⟩
  have HN := Lib.hid n6
  have HC := Lib.hid (HN.out.app sZ sZ_sz (HN.out.rowB HCC.out) (HN.out.offB HCC.out) (show 0 ≤ 100000 by decide))
  clear n6
  go_wp2_with fail
  refine HC.out.mono ?_
  rintro e w7 ⟨g9, -, rfl, h7, n7, -, -, -⟩
  have p7 := app_old (q := 100000) (o := 5) (o' := 6) (S := [⟨sZ, some g1⟩, ⟨sY, some g2⟩]) (C := []) (F := F3) (g := g1) (xs := C) (k := sZ) (N := [⟨sZ, some g1⟩, ⟨sY, some g2⟩]) (by unfold wrap64; omega) rfl sZ_name (sZ2 g1 g2) (by rw [HCL.out]; unfold szF; simp [hF3, hF3b, HAL.out, HBL.out]; omega) (by rw [hF3, HCL.out, HAL.out]; omega) g9
  rw [p7.2] at n7
  rw [p7.1]
  have hF4 : fPut F3 g1 ⟨(F3 g1).b ++ C, (F3 g1).s⟩ g1 = ⟨A ++ C, A.length⟩ := by rw [fPut_same, hF3]
  have hF4b : fPut F3 g1 ⟨(F3 g1).b ++ C, (F3 g1).s⟩ g2 = ⟨B, 0⟩ := by rw [fPut_ne _ _ (fun e => hne e.symm), hF3b]
  obtain ⟨F4, hF4e⟩ : ∃ F4, fPut F3 g1 ⟨(F3 g1).b ++ C, (F3 g1).s⟩ = F4 := ⟨_, rfl⟩
  rw [hF4e] at hF4 hF4b n7
  have HN := Lib.hid n7
  have HC := Lib.hid (HN.out.rem sY sY_sz (show 0 ≤ 100000 by decide))
  rw [(on_at (S := [⟨sZ, some g1⟩, ⟨sY, some g2⟩]) (C := []) rfl (sY2 g1 g2)).1, rem_at (o' := 7) (by unfold wrap64; omega) (S := [⟨sZ, some g1⟩, ⟨sY, some g2⟩]) (C := []) rfl (sY2 g1 g2)] at HC
  simp only [List.nil_append] at HC
  clear n7 p7 hF4e hF3 hF3b
  go_wp2_with fail
  refine HC.out.mono ?_
  rintro e w8 ⟨rfl, h8, n8, -, -, -⟩
  have HD : RowKit.Hid (∃ st, DkN w w8 d h8 st ∧ SInv A B C g1 g2 st) := Lib.hid ⟨_, n8, by
    refine ⟨Nat.le_refl 1, fun j hj => ?_, ⟨A.length + C.length, A.length, by show F4 g1 = _; rw [hF4]; congr 1; rw [List.take_of_length_le]; simp, Nat.le_refl _, by omega, Nat.le_refl _⟩, B.length, 0, by show F4 g2 = _; rw [hF4b, List.take_length], Nat.zero_le _, Nat.le_refl _⟩
    have hj : j ≤ 1 := hj
    rcases (by omega : j = 0 ∨ j = 1) with rfl | rfl
    · exact ⟨sZ2 g1 g2, sX2 g1 g2, .inr (sY2 g1 g2), fz2 g1 g2⟩
    · show MN g1 g2 (dkAll [⟨sZ, some g1⟩, ⟨sY, some g2⟩] [⟨2, sY, ⟨#[]⟩, none⟩])
      rw [S4n]
      exact ⟨sZ1 g1, sX1 g1, .inl (sY1 g1), by intro x hx; rw [List.mem_singleton.1 hx]; exact .inl rfl⟩⟩
  have HNE := Lib.hid hne
  clear n8 hF4 hF4b hne HC HN
  go_wp2_with fail
  go_loopw [79] (fun s79 wr => ∃ (k : Nat) (h : DkH) (st : DkS), k ≤ lp ∧ s79 = .int .i64 k ∧ DkN w wr d h st ∧ SInv A B C g1 g2 st) (fun s79 _ => lp - (RowKit.intOf s79).toNat)
  case atStart =>
    obtain ⟨st, hd, hs⟩ := HD.out
    exact ⟨0, h8, st, Nat.zero_le _, rfl, hd, hs⟩
  case round =>
    obtain ⟨k, h, st, hk, rfl, hd, hs⟩ := hrel
    have HN := Lib.hid hd
    have HS := Lib.hid hs
    clear hd hs HD
    by_cases hlt : k < lp
    case neg =>
      obtain rfl : lp = k := by omega
      have hlI : ¬ (lp : Int) < lp := by omega
      go_wp2_with fail
      refine (awake3 wr).mono ?_
      rintro e w7 ⟨rfl, t7⟩
      have HT7 := Lib.hid (HN.out.t.trans t7 (fun _ _ h => h))
      clear t7
      go_wp2_with fail
      go_ret
      exact ⟨rfl, HT7.out⟩
    case pos =>
      have hlI : (k : Int) < lp := by omega
      have hkL : k < L.length := by rw [HLL.out]; exact hlt
      have hr := HP.out.touch HN.out.t (fun _ _ => .inr (fun h => h))
      obtain ⟨b, off, hb⟩ := hr.some (by omega)
      rw [hb] at hr
      have hkm : k < (L.map RowF3.cells).length := by simpa using hkL
      have x0 := RowS.cell hr k hkm 0 (.slice L[k].a L[k].l L[k].c) (by simp [RowF3.cells])
      rw [Nat.mul_one, Nat.add_zero] at x0
      have hrow := HPR.out _ (List.getElem_mem hkL)
      obtain ⟨r, hrr⟩ : ∃ r, L[k] = r := ⟨_, rfl⟩
      rw [hrr] at x0 hrow
      have HC := Lib.hid (HN.out.crash (HN.out.rowB hrow) (HN.out.offB hrow) (by have := HS.out.c; omega))
      have hwk : wrap64 ((k : Int) + 1) = (k : Int) + 1 := by unfold wrap64; omega
      have HWK := Lib.hid hwk
      rw [hb]
      clear hr hkm hrow hrr hkL hwk
      go_wp2_with fail
      refine HC.out.mono ?_
      rintro e w3 ⟨rfl, h3, n3, -, -, -⟩
      have HN := Lib.hid n3
      have HS := Lib.hid (HS.out.crash HNE.out r.xs)
      obtain ⟨st2, hst2⟩ : ∃ s, dkCrash st r.xs = s := ⟨_, rfl⟩
      rw [hst2] at HN HS
      have HC := Lib.hid (HN.out.read sZ sZ_sz)
      obtain ⟨j, s, hFj, hj1, hj2, hj3⟩ := HS.out.q.a
      have hz := HS.out.N.z
      rw [show dkRead st2 sZ = (A ++ C).take j by unfold dkRead; rw [hz]; simp only; rw [hFj], hz] at HC
      have hjl : ((A ++ C).take j).length = j := by rw [List.length_take, List.length_append]; omega
      rw [hjl] at HC
      have hja : la ≤ j := by have := HAL.out; omega
      have hjc : j ≤ la + lc := by have := HAL.out; have := HCL.out; omega
      clear n3 hst2 hFj hz x0
      go_wp2_with fail
      refine HC.out.mono ?_
      rintro e w4 ⟨a4, c4, rfl, r4, -, n4, t4⟩
      have HN := Lib.hid n4
      have HCV : RowKit.Hid (∀ W, Touch w4 W (fun _ => False) → (convert 29 9 (.slice a4 j c4)).run Try.prog W = .ok (.string (strB ((A ++ C).take j))) W ∧ (convert 29 9 (.slice aA la ca)).run Try.prog W = .ok (.string (strB A)) W ∧ (convert 29 9 (.slice aC lc cc)).run Try.prog W = .ok (.string (strB C)) W) := Lib.hid (fun W t =>
        ⟨run_string_of (r4.touch t (fun _ _ => .inr (fun h => h))) _ _ 5 Try.underlying29 Try.underlying5 Try.underlying9, run_string_of ((HN.out.still t).rowB HA.out) _ _ 5 Try.underlying29 Try.underlying5 Try.underlying9, run_string_of ((HN.out.still t).rowB HCC.out) _ _ 5 Try.underlying29 Try.underlying5 Try.underlying9⟩)
      have HSZ : RowKit.Hid ((j : Int) ≤ ((strB A ++ strB C).size : Int)) := Lib.hid (by rw [strB_app, strB_size, List.length_append, HAL.out, HCL.out]; omega)
      have HSS : RowKit.Hid ((strB A).size + (strB C).size ≤ 9223372036854775807) := Lib.hid (by rw [strB_size, strB_size, HAL.out, HCL.out]; omega)
      have HSZ2 : RowKit.Hid ((j : Int) ≤ ((strB A).size : Int) + ((strB C).size : Int)) := Lib.hid (by rw [strB_size, strB_size, HAL.out, HCL.out]; omega)
      have HSZ3 : RowKit.Hid (j ≤ (strB A).size + (strB C).size) := Lib.hid (by rw [strB_size, strB_size, HAL.out, HCL.out]; omega)
      have HEX : RowKit.Hid ((strB A ++ strB C).extract 0 j = strB ((A ++ C).take j)) := Lib.hid (by rw [strB_app, strB_extract])
      have u1 : (la : Int) ≤ j := by omega
      have hwa : IntKind.i64.wrap ((la : Int) + lc) = (la : Int) + lc := IntWalk.i64_in _ (by omega)
      have u2 : (j : Int) ≤ IntKind.i64.wrap ((la : Int) + lc) := by rw [hwa]; omega
      clear n4 t4 r4 hwa
      go_upto_region 12 with (fail)
      have hS := (Touch.refl w4 (fun _ => False)).drew
      refine wp_region_sched (fun w' => Touch w4 w' (fun _ => False)) [(0, true), (1, true), (2, true), (3, true), (4, true), (5, true), (6, true), (7, true), (8, true), (9, true), (10, true), (11, true), (12, true), (13, true), (14, true), (15, true), (16, true), (17, true), (18, true), (19, true), (20, true), (21, true), (22, true), (23, true), (24, true), (25, true), (26, true), (27, true), (28, true), (29, true), (30, true), (31, true)] (by kernel_rfl) (by kernel_rfl) rfl (by kernel_rfl) hS ?_
      (refine walkS_take (v := ?_) (some 91) rfl rfl (fun _ _ _ h => h) (by rfl) ?_ ?_; rotate_left; (focus (intro w' hw'; obtain ⟨k0, k1, k2⟩ := HCV.out w' hw'; have ksz := HSZ.out; have ksz2 := HSZ2.out; have ksz3 := HSZ3.out; have kex := HEX.out; go_simp; (try with_reducible rfl))); (try simp only [Act.put, List.setIfInBounds_toArray, List.set_cons_zero, List.set_cons_succ]))
      (refine walkS_take (v := ?_) (some 92) rfl rfl (fun _ _ _ h => h) (by rfl) ?_ ?_; rotate_left; (focus (intro w' hw'; obtain ⟨k0, k1, k2⟩ := HCV.out w' hw'; have ksz := HSZ.out; have ksz2 := HSZ2.out; have ksz3 := HSZ3.out; have kex := HEX.out; go_simp; (try with_reducible rfl))); (try simp only [Act.put, List.setIfInBounds_toArray, List.set_cons_zero, List.set_cons_succ]))
      (refine walkS_take (v := ?_) (some 93) rfl rfl (fun _ _ _ h => h) (by rfl) ?_ ?_; rotate_left; (focus (intro w' hw'; obtain ⟨k0, k1, k2⟩ := HCV.out w' hw'; have ksz := HSZ.out; have ksz2 := HSZ2.out; have ksz3 := HSZ3.out; have kex := HEX.out; go_simp; (try with_reducible rfl))); (try simp only [Act.put, List.setIfInBounds_toArray, List.set_cons_zero, List.set_cons_succ]))
      first | (refine walkS_skip (some 94) rfl rfl (by rfl) (fun _ _ _ h => h) hS ?_; (try simp only [Act.put, List.setIfInBounds_toArray, List.set_cons_zero, List.set_cons_succ])) | (refine walkS_take (v := ?_) (some 94) rfl rfl (fun _ _ _ h => h) (by rfl) ?_ ?_; rotate_left; (focus (intro w' hw'; obtain ⟨k0, k1, k2⟩ := HCV.out w' hw'; have ksz := HSZ.out; have ksz2 := HSZ2.out; have ksz3 := HSZ3.out; have kex := HEX.out; go_simp; (try with_reducible rfl))); (try simp only [Act.put, List.setIfInBounds_toArray, List.set_cons_zero, List.set_cons_succ]))
      first | (refine walkS_skip (some 95) rfl rfl (by rfl) (fun _ _ _ h => h) hS ?_; (try simp only [Act.put, List.setIfInBounds_toArray, List.set_cons_zero, List.set_cons_succ])) | (refine walkS_take (v := ?_) (some 95) rfl rfl (fun _ _ _ h => h) (by rfl) ?_ ?_; rotate_left; (focus (intro w' hw'; obtain ⟨k0, k1, k2⟩ := HCV.out w' hw'; have ksz := HSZ.out; have ksz2 := HSZ2.out; have ksz3 := HSZ3.out; have kex := HEX.out; go_simp; (try with_reducible rfl))); (try simp only [Act.put, List.setIfInBounds_toArray, List.set_cons_zero, List.set_cons_succ]))
      first | (refine walkS_skip (some 96) rfl rfl (by rfl) (fun _ _ _ h => h) hS ?_; (try simp only [Act.put, List.setIfInBounds_toArray, List.set_cons_zero, List.set_cons_succ])) | (refine walkS_take (v := ?_) (some 96) rfl rfl (fun _ _ _ h => h) (by rfl) ?_ ?_; rotate_left; (focus (intro w' hw'; obtain ⟨k0, k1, k2⟩ := HCV.out w' hw'; have ksz := HSZ.out; have ksz2 := HSZ2.out; have ksz3 := HSZ3.out; have kex := HEX.out; go_simp; (try with_reducible rfl))); (try simp only [Act.put, List.setIfInBounds_toArray, List.set_cons_zero, List.set_cons_succ]))
      first | (refine walkS_skip (some 97) rfl rfl (by rfl) (fun _ _ _ h => h) hS ?_; (try simp only [Act.put, List.setIfInBounds_toArray, List.set_cons_zero, List.set_cons_succ])) | (refine walkS_take (v := ?_) (some 97) rfl rfl (fun _ _ _ h => h) (by rfl) ?_ ?_; rotate_left; (focus (intro w' hw'; obtain ⟨k0, k1, k2⟩ := HCV.out w' hw'; have ksz := HSZ.out; have ksz2 := HSZ2.out; have ksz3 := HSZ3.out; have kex := HEX.out; go_simp; (try with_reducible rfl))); (try simp only [Act.put, List.setIfInBounds_toArray, List.set_cons_zero, List.set_cons_succ]))
      first | (refine walkS_skip (some 98) rfl rfl (by rfl) (fun _ _ _ h => h) hS ?_; (try simp only [Act.put, List.setIfInBounds_toArray, List.set_cons_zero, List.set_cons_succ])) | (refine walkS_bin (some 98) _ _ _ _ _ _ _ _ (lt_no _ _ u1) rfl rfl rfl rfl rfl (fun _ _ _ h => h) (by rfl) ?_; (try simp only [Act.put, List.setIfInBounds_toArray, List.set_cons_zero, List.set_cons_succ]))
      (refine walkS_take (v := ?_) (some 99) rfl rfl (fun _ _ _ h => h) (by rfl) ?_ ?_; rotate_left; (focus (intro w' hw'; obtain ⟨k0, k1, k2⟩ := HCV.out w' hw'; have ksz := HSZ.out; have ksz2 := HSZ2.out; have ksz3 := HSZ3.out; have kex := HEX.out; go_simp; (try with_reducible rfl))); (try simp only [Act.put, List.setIfInBounds_toArray, List.set_cons_zero, List.set_cons_succ]))
      (refine walkS_take (v := ?_) (some 100) rfl rfl (fun _ _ _ h => h) (by rfl) ?_ ?_; rotate_left; (focus (intro w' hw'; obtain ⟨k0, k1, k2⟩ := HCV.out w' hw'; have ksz := HSZ.out; have ksz2 := HSZ2.out; have ksz3 := HSZ3.out; have kex := HEX.out; go_simp; (try with_reducible rfl))); (try simp only [Act.put, List.setIfInBounds_toArray, List.set_cons_zero, List.set_cons_succ]))
      first | (refine walkS_skip (some 101) rfl rfl (by rfl) (fun _ _ _ h => h) hS ?_; (try simp only [Act.put, List.setIfInBounds_toArray, List.set_cons_zero, List.set_cons_succ])) | (refine walkS_take (v := ?_) (some 101) rfl rfl (fun _ _ _ h => h) (by rfl) ?_ ?_; rotate_left; (focus (intro w' hw'; obtain ⟨k0, k1, k2⟩ := HCV.out w' hw'; have ksz := HSZ.out; have ksz2 := HSZ2.out; have ksz3 := HSZ3.out; have kex := HEX.out; go_simp; (try with_reducible rfl))); (try simp only [Act.put, List.setIfInBounds_toArray, List.set_cons_zero, List.set_cons_succ]))
      first | (refine walkS_skip (some 102) rfl rfl (by rfl) (fun _ _ _ h => h) hS ?_; (try simp only [Act.put, List.setIfInBounds_toArray, List.set_cons_zero, List.set_cons_succ])) | (refine walkS_take (v := ?_) (some 102) rfl rfl (fun _ _ _ h => h) (by rfl) ?_ ?_; rotate_left; (focus (intro w' hw'; obtain ⟨k0, k1, k2⟩ := HCV.out w' hw'; have ksz := HSZ.out; have ksz2 := HSZ2.out; have ksz3 := HSZ3.out; have kex := HEX.out; go_simp; (try with_reducible rfl))); (try simp only [Act.put, List.setIfInBounds_toArray, List.set_cons_zero, List.set_cons_succ]))
      first | (refine walkS_skip (some 103) rfl rfl (by rfl) (fun _ _ _ h => h) hS ?_; (try simp only [Act.put, List.setIfInBounds_toArray, List.set_cons_zero, List.set_cons_succ])) | (refine walkS_take (v := ?_) (some 103) rfl rfl (fun _ _ _ h => h) (by rfl) ?_ ?_; rotate_left; (focus (intro w' hw'; obtain ⟨k0, k1, k2⟩ := HCV.out w' hw'; have ksz := HSZ.out; have ksz2 := HSZ2.out; have ksz3 := HSZ3.out; have kex := HEX.out; go_simp; (try with_reducible rfl))); (try simp only [Act.put, List.setIfInBounds_toArray, List.set_cons_zero, List.set_cons_succ]))
      first | (refine walkS_skip (some 104) rfl rfl (by rfl) (fun _ _ _ h => h) hS ?_; (try simp only [Act.put, List.setIfInBounds_toArray, List.set_cons_zero, List.set_cons_succ])) | (refine walkS_take (v := ?_) (some 104) rfl rfl (fun _ _ _ h => h) (by rfl) ?_ ?_; rotate_left; (focus (intro w' hw'; obtain ⟨k0, k1, k2⟩ := HCV.out w' hw'; have ksz := HSZ.out; have ksz2 := HSZ2.out; have ksz3 := HSZ3.out; have kex := HEX.out; go_simp; (try with_reducible rfl))); (try simp only [Act.put, List.setIfInBounds_toArray, List.set_cons_zero, List.set_cons_succ]))
      first | (refine walkS_skip (some 105) rfl rfl (by rfl) (fun _ _ _ h => h) hS ?_; (try simp only [Act.put, List.setIfInBounds_toArray, List.set_cons_zero, List.set_cons_succ])) | (refine walkS_take (v := ?_) (some 105) rfl rfl (fun _ _ _ h => h) (by rfl) ?_ ?_; rotate_left; (focus (intro w' hw'; obtain ⟨k0, k1, k2⟩ := HCV.out w' hw'; have ksz := HSZ.out; have ksz2 := HSZ2.out; have ksz3 := HSZ3.out; have kex := HEX.out; go_simp; (try with_reducible rfl))); (try simp only [Act.put, List.setIfInBounds_toArray, List.set_cons_zero, List.set_cons_succ]))
      first | (refine walkS_skip (some 106) rfl rfl (by rfl) (fun _ _ _ h => h) hS ?_; (try simp only [Act.put, List.setIfInBounds_toArray, List.set_cons_zero, List.set_cons_succ])) | (refine walkS_take (v := ?_) (some 106) rfl rfl (fun _ _ _ h => h) (by rfl) ?_ ?_; rotate_left; (focus (intro w' hw'; obtain ⟨k0, k1, k2⟩ := HCV.out w' hw'; have ksz := HSZ.out; have ksz2 := HSZ2.out; have ksz3 := HSZ3.out; have kex := HEX.out; go_simp; (try with_reducible rfl))); (try simp only [Act.put, List.setIfInBounds_toArray, List.set_cons_zero, List.set_cons_succ]))
      first | (refine walkS_skip (some 107) rfl rfl (by rfl) (fun _ _ _ h => h) hS ?_; (try simp only [Act.put, List.setIfInBounds_toArray, List.set_cons_zero, List.set_cons_succ])) | (refine walkS_take (v := ?_) (some 107) rfl rfl (fun _ _ _ h => h) (by rfl) ?_ ?_; rotate_left; (focus (intro w' hw'; obtain ⟨k0, k1, k2⟩ := HCV.out w' hw'; have ksz := HSZ.out; have ksz2 := HSZ2.out; have ksz3 := HSZ3.out; have kex := HEX.out; go_simp; (try with_reducible rfl))); (try simp only [Act.put, List.setIfInBounds_toArray, List.set_cons_zero, List.set_cons_succ]))
      first | (refine walkS_skip (some 108) rfl rfl (by rfl) (fun _ _ _ h => h) hS ?_; (try simp only [Act.put, List.setIfInBounds_toArray, List.set_cons_zero, List.set_cons_succ])) | (refine walkS_bin (some 108) _ _ _ _ _ _ _ _ (gt_no _ _ u2) rfl rfl rfl rfl rfl (fun _ _ _ h => h) (by rfl) ?_; (try simp only [Act.put, List.setIfInBounds_toArray, List.set_cons_zero, List.set_cons_succ]))
      (refine walkS_take (v := ?_) (some 109) rfl rfl (fun _ _ _ h => h) (by rfl) ?_ ?_; rotate_left; (focus (intro w' hw'; obtain ⟨k0, k1, k2⟩ := HCV.out w' hw'; have ksz := HSZ.out; have ksz2 := HSZ2.out; have ksz3 := HSZ3.out; have kex := HEX.out; go_simp; (try with_reducible rfl))); (try simp only [Act.put, List.setIfInBounds_toArray, List.set_cons_zero, List.set_cons_succ]))
      (refine walkS_take (v := ?_) (some 110) rfl rfl (fun _ _ _ h => h) (by rfl) ?_ ?_; rotate_left; (focus (intro w' hw'; obtain ⟨k0, k1, k2⟩ := HCV.out w' hw'; have ksz := HSZ.out; have ksz2 := HSZ2.out; have ksz3 := HSZ3.out; have kex := HEX.out; go_simp; (try with_reducible rfl))); (try simp only [Act.put, List.setIfInBounds_toArray, List.set_cons_zero, List.set_cons_succ]))
      first | (refine walkS_skip (some 111) rfl rfl (by rfl) (fun _ _ _ h => h) hS ?_; (try simp only [Act.put, List.setIfInBounds_toArray, List.set_cons_zero, List.set_cons_succ])) | (refine walkS_take (v := ?_) (some 111) rfl rfl (fun _ _ _ h => h) (by rfl) ?_ ?_; rotate_left; (focus (intro w' hw'; obtain ⟨k0, k1, k2⟩ := HCV.out w' hw'; have ksz := HSZ.out; have ksz2 := HSZ2.out; have ksz3 := HSZ3.out; have kex := HEX.out; go_simp; (try with_reducible rfl))); (try simp only [Act.put, List.setIfInBounds_toArray, List.set_cons_zero, List.set_cons_succ]))
      first | (refine walkS_skip (some 112) rfl rfl (by rfl) (fun _ _ _ h => h) hS ?_; (try simp only [Act.put, List.setIfInBounds_toArray, List.set_cons_zero, List.set_cons_succ])) | (refine walkS_take (v := ?_) (some 112) rfl rfl (fun _ _ _ h => h) (by rfl) ?_ ?_; rotate_left; (focus (intro w' hw'; obtain ⟨k0, k1, k2⟩ := HCV.out w' hw'; have ksz := HSZ.out; have ksz2 := HSZ2.out; have ksz3 := HSZ3.out; have kex := HEX.out; go_simp; (try with_reducible rfl))); (try simp only [Act.put, List.setIfInBounds_toArray, List.set_cons_zero, List.set_cons_succ]))
      first | (refine walkS_skip (some 113) rfl rfl (by rfl) (fun _ _ _ h => h) hS ?_; (try simp only [Act.put, List.setIfInBounds_toArray, List.set_cons_zero, List.set_cons_succ])) | (refine walkS_take (v := ?_) (some 113) rfl rfl (fun _ _ _ h => h) (by rfl) ?_ ?_; rotate_left; (focus (intro w' hw'; obtain ⟨k0, k1, k2⟩ := HCV.out w' hw'; have ksz := HSZ.out; have ksz2 := HSZ2.out; have ksz3 := HSZ3.out; have kex := HEX.out; go_simp; (try with_reducible rfl))); (try simp only [Act.put, List.setIfInBounds_toArray, List.set_cons_zero, List.set_cons_succ]))
      first | (refine walkS_skip (some 114) rfl rfl (by rfl) (fun _ _ _ h => h) hS ?_; (try simp only [Act.put, List.setIfInBounds_toArray, List.set_cons_zero, List.set_cons_succ])) | (refine walkS_take (v := ?_) (some 114) rfl rfl (fun _ _ _ h => h) (by rfl) ?_ ?_; rotate_left; (focus (intro w' hw'; obtain ⟨k0, k1, k2⟩ := HCV.out w' hw'; have ksz := HSZ.out; have ksz2 := HSZ2.out; have ksz3 := HSZ3.out; have kex := HEX.out; go_simp; (try with_reducible rfl))); (try simp only [Act.put, List.setIfInBounds_toArray, List.set_cons_zero, List.set_cons_succ]))
      first | (refine walkS_skip (some 115) rfl rfl (by rfl) (fun _ _ _ h => h) hS ?_; (try simp only [Act.put, List.setIfInBounds_toArray, List.set_cons_zero, List.set_cons_succ])) | (refine walkS_take (v := ?_) (some 115) rfl rfl (fun _ _ _ h => h) (by rfl) ?_ ?_; rotate_left; (focus (intro w' hw'; obtain ⟨k0, k1, k2⟩ := HCV.out w' hw'; have ksz := HSZ.out; have ksz2 := HSZ2.out; have ksz3 := HSZ3.out; have kex := HEX.out; go_simp; (try with_reducible rfl))); (try simp only [Act.put, List.setIfInBounds_toArray, List.set_cons_zero, List.set_cons_succ]))
      first | (refine walkS_skip (some 116) rfl rfl (by rfl) (fun _ _ _ h => h) hS ?_; (try simp only [Act.put, List.setIfInBounds_toArray, List.set_cons_zero, List.set_cons_succ])) | (refine walkS_take (v := ?_) (some 116) rfl rfl (fun _ _ _ h => h) (by rfl) ?_ ?_; rotate_left; (focus (intro w' hw'; obtain ⟨k0, k1, k2⟩ := HCV.out w' hw'; have ksz := HSZ.out; have ksz2 := HSZ2.out; have ksz3 := HSZ3.out; have kex := HEX.out; go_simp; (try with_reducible rfl))); (try simp only [Act.put, List.setIfInBounds_toArray, List.set_cons_zero, List.set_cons_succ]))
      first | (refine walkS_skip (some 117) rfl rfl (by rfl) (fun _ _ _ h => h) hS ?_; (try simp only [Act.put, List.setIfInBounds_toArray, List.set_cons_zero, List.set_cons_succ])) | (refine walkS_bin (some 117) _ _ _ _ _ _ _ _ (addS_run _ _ HSS.out) rfl rfl rfl rfl rfl (fun _ _ _ h => h) (by rfl) ?_; (try simp only [Act.put, List.setIfInBounds_toArray, List.set_cons_zero, List.set_cons_succ]))
      first | (refine walkS_skip (some 118) rfl rfl (by rfl) (fun _ _ _ h => h) hS ?_; (try simp only [Act.put, List.setIfInBounds_toArray, List.set_cons_zero, List.set_cons_succ])) | (refine walkS_take (v := ?_) (some 118) rfl rfl (fun _ _ _ h => h) (by rfl) ?_ ?_; rotate_left; (focus (intro w' hw'; obtain ⟨k0, k1, k2⟩ := HCV.out w' hw'; have ksz := HSZ.out; have ksz2 := HSZ2.out; have ksz3 := HSZ3.out; have kex := HEX.out; go_simp; (try with_reducible rfl))); (try simp only [Act.put, List.setIfInBounds_toArray, List.set_cons_zero, List.set_cons_succ]))
      first | (refine walkS_skip (some 119) rfl rfl (by rfl) (fun _ _ _ h => h) hS ?_; (try simp only [Act.put, List.setIfInBounds_toArray, List.set_cons_zero, List.set_cons_succ])) | (refine walkS_take (v := ?_) (some 119) rfl rfl (fun _ _ _ h => h) (by rfl) ?_ ?_; rotate_left; (focus (intro w' hw'; obtain ⟨k0, k1, k2⟩ := HCV.out w' hw'; have ksz := HSZ.out; have ksz2 := HSZ2.out; have ksz3 := HSZ3.out; have kex := HEX.out; go_simp; (try with_reducible rfl))); (try simp only [Act.put, List.setIfInBounds_toArray, List.set_cons_zero, List.set_cons_succ]))
      first | (refine walkS_skip (some 120) rfl rfl (by rfl) (fun _ _ _ h => h) hS ?_; (try simp only [Act.put, List.setIfInBounds_toArray, List.set_cons_zero, List.set_cons_succ])) | (refine walkS_take (v := ?_) (some 120) rfl rfl (fun _ _ _ h => h) (by rfl) ?_ ?_; rotate_left; (focus (intro w' hw'; obtain ⟨k0, k1, k2⟩ := HCV.out w' hw'; have ksz := HSZ.out; have ksz2 := HSZ2.out; have ksz3 := HSZ3.out; have kex := HEX.out; go_simp; (try with_reducible rfl))); (try simp only [Act.put, List.setIfInBounds_toArray, List.set_cons_zero, List.set_cons_succ]))
      first | (refine walkS_skip (some 121) rfl rfl (by rfl) (fun _ _ _ h => h) hS ?_; (try simp only [Act.put, List.setIfInBounds_toArray, List.set_cons_zero, List.set_cons_succ])) | (refine walkS_bin (some 121) _ _ _ _ _ _ _ _ (neS_same _) rfl rfl rfl rfl rfl (fun _ _ _ h => h) (by rfl) ?_; (try simp only [Act.put, List.setIfInBounds_toArray, List.set_cons_zero, List.set_cons_succ]))
      (refine walkS_take (v := ?_) (some 122) rfl rfl (fun _ _ _ h => h) (by rfl) ?_ ?_; rotate_left; (focus (intro w' hw'; obtain ⟨k0, k1, k2⟩ := HCV.out w' hw'; have ksz := HSZ.out; have ksz2 := HSZ2.out; have ksz3 := HSZ3.out; have kex := HEX.out; go_simp; (try with_reducible rfl))); (try simp only [Act.put, List.setIfInBounds_toArray, List.set_cons_zero, List.set_cons_succ]))
      refine walkS_done ?_
      go_wp2_with fail
      have HN := Lib.hid (HN.out.still ((Touch.refl w4 (fun _ => False)).drew))
      have HC := Lib.hid (HN.out.read sY sY_sz)
      clear u1 u2
      rcases HS.out.N.y with hy | hy
      · rw [show dkRead st2 sY = [] by unfold dkRead; rw [hy], hy] at HC
        refine HC.out.mono ?_
        rintro e w5 ⟨a5, c5, rfl, -, -, n5, -⟩
        have HN := Lib.hid n5
        have HRX := Lib.hid ((HN.out.still ((Touch.refl w5 (fun _ => False)).drew)).read sX sX_sz)
        rw [show dkRead st2 sX = [] by unfold dkRead; rw [HS.out.N.x], HS.out.N.x] at HRX
        clear n5 hy
        go_upto_region 15 with (fail)
        have hS := (Touch.refl w5 (fun _ => False)).drew
        refine wp_region_sched (fun w' => Touch w5 w' (fun _ => False)) [(0, true), (1, true), (2, true), (3, true), (4, true), (5, true), (6, true), (7, true), (8, true), (9, true), (10, true), (11, true), (12, true), (13, true), (14, true), (15, true), (16, true), (17, true)] (by kernel_rfl) (by kernel_rfl) rfl (by kernel_rfl) hS ?_
        (refine walkS_take (v := ?_) (some 128) rfl rfl (fun _ _ _ h => h) (by rfl) ?_ ?_; rotate_left; (focus (intro w' hw'; go_simp; (try with_reducible rfl))); (try simp only [Act.put, List.setIfInBounds_toArray, List.set_cons_zero, List.set_cons_succ]))
        (refine walkS_take (v := ?_) (some 129) rfl rfl (fun _ _ _ h => h) (by rfl) ?_ ?_; rotate_left; (focus (intro w' hw'; go_simp; (try with_reducible rfl))); (try simp only [Act.put, List.setIfInBounds_toArray, List.set_cons_zero, List.set_cons_succ]))
        first | (refine walkS_skip (some 130) rfl rfl (by rfl) (fun _ _ _ h => h) hS ?_; (try simp only [Act.put, List.setIfInBounds_toArray, List.set_cons_zero, List.set_cons_succ])) | (refine walkS_take (v := ?_) (some 130) rfl rfl (fun _ _ _ h => h) (by rfl) ?_ ?_; rotate_left; (focus (intro w' hw'; go_simp; (try with_reducible rfl))); (try simp only [Act.put, List.setIfInBounds_toArray, List.set_cons_zero, List.set_cons_succ]))
        first | (refine walkS_skip (some 131) rfl rfl (by rfl) (fun _ _ _ h => h) hS ?_; (try simp only [Act.put, List.setIfInBounds_toArray, List.set_cons_zero, List.set_cons_succ])) | (refine walkS_take (v := ?_) (some 131) rfl rfl (fun _ _ _ h => h) (by rfl) ?_ ?_; rotate_left; (focus (intro w' hw'; go_simp; (try with_reducible rfl))); (try simp only [Act.put, List.setIfInBounds_toArray, List.set_cons_zero, List.set_cons_succ]))
        first | (refine walkS_skip (some 132) rfl rfl (by rfl) (fun _ _ _ h => h) hS ?_; (try simp only [Act.put, List.setIfInBounds_toArray, List.set_cons_zero, List.set_cons_succ])) | (refine walkS_take (v := ?_) (some 132) rfl rfl (fun _ _ _ h => h) (by rfl) ?_ ?_; rotate_left; (focus (intro w' hw'; go_simp; (try with_reducible rfl))); (try simp only [Act.put, List.setIfInBounds_toArray, List.set_cons_zero, List.set_cons_succ]))
        first | (refine walkS_skip (some 133) rfl rfl (by rfl) (fun _ _ _ h => h) hS ?_; (try simp only [Act.put, List.setIfInBounds_toArray, List.set_cons_zero, List.set_cons_succ])) | (refine walkS_take (v := ?_) (some 133) rfl rfl (fun _ _ _ h => h) (by rfl) ?_ ?_; rotate_left; (focus (intro w' hw'; go_simp; (try with_reducible rfl))); (try simp only [Act.put, List.setIfInBounds_toArray, List.set_cons_zero, List.set_cons_succ]))
        first | (refine walkS_skip (some 134) rfl rfl (by rfl) (fun _ _ _ h => h) hS ?_; (try simp only [Act.put, List.setIfInBounds_toArray, List.set_cons_zero, List.set_cons_succ])) | (refine walkS_take (v := ?_) (some 134) rfl rfl (fun _ _ _ h => h) (by rfl) ?_ ?_; rotate_left; (focus (intro w' hw'; go_simp; (try with_reducible rfl))); (try simp only [Act.put, List.setIfInBounds_toArray, List.set_cons_zero, List.set_cons_succ]))
        first | (refine walkS_skip (some 135) rfl rfl (by rfl) (fun _ _ _ h => h) hS ?_; (try simp only [Act.put, List.setIfInBounds_toArray, List.set_cons_zero, List.set_cons_succ])) | (refine walkS_take (v := ?_) (some 135) rfl rfl (fun _ _ _ h => h) (by rfl) ?_ ?_; rotate_left; (focus (intro w' hw'; go_simp; (try with_reducible rfl))); (try simp only [Act.put, List.setIfInBounds_toArray, List.set_cons_zero, List.set_cons_succ]))
        first | (refine walkS_skip (some 136) rfl rfl (by rfl) (fun _ _ _ h => h) hS ?_; (try simp only [Act.put, List.setIfInBounds_toArray, List.set_cons_zero, List.set_cons_succ])) | (refine walkS_take (v := ?_) (some 136) rfl rfl (fun _ _ _ h => h) (by rfl) ?_ ?_; rotate_left; (focus (intro w' hw'; go_simp; (try with_reducible rfl))); (try simp only [Act.put, List.setIfInBounds_toArray, List.set_cons_zero, List.set_cons_succ]))
        first | (refine walkS_skip (some 137) rfl rfl (by rfl) (fun _ _ _ h => h) hS ?_; (try simp only [Act.put, List.setIfInBounds_toArray, List.set_cons_zero, List.set_cons_succ])) | (refine walkS_take (v := ?_) (some 137) rfl rfl (fun _ _ _ h => h) (by rfl) ?_ ?_; rotate_left; (focus (intro w' hw'; go_simp; (try with_reducible rfl))); (try simp only [Act.put, List.setIfInBounds_toArray, List.set_cons_zero, List.set_cons_succ]))
        first | (refine walkS_skip (some 138) rfl rfl (by rfl) (fun _ _ _ h => h) hS ?_; (try simp only [Act.put, List.setIfInBounds_toArray, List.set_cons_zero, List.set_cons_succ])) | (refine walkS_take (v := ?_) (some 138) rfl rfl (fun _ _ _ h => h) (by rfl) ?_ ?_; rotate_left; (focus (intro w' hw'; go_simp; (try with_reducible rfl))); (try simp only [Act.put, List.setIfInBounds_toArray, List.set_cons_zero, List.set_cons_succ]))
        first | (refine walkS_skip (some 139) rfl rfl (by rfl) (fun _ _ _ h => h) hS ?_; (try simp only [Act.put, List.setIfInBounds_toArray, List.set_cons_zero, List.set_cons_succ])) | (refine walkS_take (v := ?_) (some 139) rfl rfl (fun _ _ _ h => h) (by rfl) ?_ ?_; rotate_left; (focus (intro w' hw'; go_simp; (try with_reducible rfl))); (try simp only [Act.put, List.setIfInBounds_toArray, List.set_cons_zero, List.set_cons_succ]))
        first | (refine walkS_skip (some 140) rfl rfl (by rfl) (fun _ _ _ h => h) hS ?_; (try simp only [Act.put, List.setIfInBounds_toArray, List.set_cons_zero, List.set_cons_succ])) | (refine walkS_take (v := ?_) (some 140) rfl rfl (fun _ _ _ h => h) (by rfl) ?_ ?_; rotate_left; (focus (intro w' hw'; go_simp; (try with_reducible rfl))); (try simp only [Act.put, List.setIfInBounds_toArray, List.set_cons_zero, List.set_cons_succ]))
        first | (refine walkS_skip (some 141) rfl rfl (by rfl) (fun _ _ _ h => h) hS ?_; (try simp only [Act.put, List.setIfInBounds_toArray, List.set_cons_zero, List.set_cons_succ])) | (refine walkS_take (v := ?_) (some 141) rfl rfl (fun _ _ _ h => h) (by rfl) ?_ ?_; rotate_left; (focus (intro w' hw'; go_simp; (try with_reducible rfl))); (try simp only [Act.put, List.setIfInBounds_toArray, List.set_cons_zero, List.set_cons_succ]))
        first | (refine walkS_skip (some 142) rfl rfl (by rfl) (fun _ _ _ h => h) hS ?_; (try simp only [Act.put, List.setIfInBounds_toArray, List.set_cons_zero, List.set_cons_succ])) | (refine walkS_take (v := ?_) (some 142) rfl rfl (fun _ _ _ h => h) (by rfl) ?_ ?_; rotate_left; (focus (intro w' hw'; go_simp; (try with_reducible rfl))); (try simp only [Act.put, List.setIfInBounds_toArray, List.set_cons_zero, List.set_cons_succ]))
        first | (refine walkS_skip (some 143) rfl rfl (by rfl) (fun _ _ _ h => h) hS ?_; (try simp only [Act.put, List.setIfInBounds_toArray, List.set_cons_zero, List.set_cons_succ])) | (refine walkS_take (v := ?_) (some 143) rfl rfl (fun _ _ _ h => h) (by rfl) ?_ ?_; rotate_left; (focus (intro w' hw'; go_simp; (try with_reducible rfl))); (try simp only [Act.put, List.setIfInBounds_toArray, List.set_cons_zero, List.set_cons_succ]))
        first | (refine walkS_skip (some 144) rfl rfl (by rfl) (fun _ _ _ h => h) hS ?_; (try simp only [Act.put, List.setIfInBounds_toArray, List.set_cons_zero, List.set_cons_succ])) | (refine walkS_take (v := ?_) (some 144) rfl rfl (fun _ _ _ h => h) (by rfl) ?_ ?_; rotate_left; (focus (intro w' hw'; go_simp; (try with_reducible rfl))); (try simp only [Act.put, List.setIfInBounds_toArray, List.set_cons_zero, List.set_cons_succ]))
        (refine walkS_take (v := ?_) (some 145) rfl rfl (fun _ _ _ h => h) (by rfl) ?_ ?_; rotate_left; (focus (intro w' hw'; go_simp; (try with_reducible rfl))); (try simp only [Act.put, List.setIfInBounds_toArray, List.set_cons_zero, List.set_cons_succ]))
        refine walkS_done ?_
        go_wp2_with fail
        refine HRX.out.mono ?_
        rintro e w6 ⟨a6, c6, rfl, -, -, n6, -⟩
        have HX : RowKit.Hid (∃ (k' : Nat) (h : DkH) (st : DkS), k' ≤ lp ∧ Value.int .i64 ((k : Int) + 1) = .int .i64 k' ∧ DkN w w6 d h st ∧ SInv A B C g1 g2 st) := Lib.hid ⟨k + 1, _, _, by omega, by go_num, n6, HS.out⟩
        clear n6
        go_wp2_with fail
        try rw [HWK.out]
        go_roundw
        · exact HX.out
        · simp only [RowKit.intOf]; omega
      · obtain ⟨i, t, hFi, hi1, hi2⟩ := HS.out.q.b
        rw [show dkRead st2 sY = B.take i by unfold dkRead; rw [hy]; simp only; rw [hFi], hy] at HC
        have hil : (B.take i).length = i := by rw [List.length_take]; omega
        rw [hil] at HC
        refine HC.out.mono ?_
        rintro e w5 ⟨a5, c5, rfl, r5, -, n5, -⟩
        have HN := Lib.hid n5
        have hib : i ≤ lb := by have := HBL.out; omega
        have HCY : RowKit.Hid (∀ W, Touch w5 W (fun _ => False) → (convert 29 9 (.slice a5 i c5)).run Try.prog W = .ok (.string (strB (B.take i))) W ∧ (convert 29 9 (.slice aB i cb)).run Try.prog W = .ok (.string (strB (B.take i))) W) := Lib.hid (fun W t =>
          ⟨run_string_of (r5.touch t (fun _ _ => .inr (fun h => h))) _ _ 5 Try.underlying29 Try.underlying5 Try.underlying9, run_string_of (((HN.out.still t).rowB HB.out).take i hib) _ _ 5 Try.underlying29 Try.underlying5 Try.underlying9⟩)
        have u3 : (i : Int) ≤ lb := by omega
        have u4 : (i : Int) ≤ cb := by omega
        have HRX := Lib.hid ((HN.out.still ((Touch.refl w5 (fun _ => False)).drew)).read sX sX_sz)
        rw [show dkRead st2 sX = [] by unfold dkRead; rw [HS.out.N.x], HS.out.N.x] at HRX
        clear n5 hy r5 hil hFi
        go_upto_region 15 with (fail)
        have hS := (Touch.refl w5 (fun _ => False)).drew
        refine wp_region_sched (fun w' => Touch w5 w' (fun _ => False)) [(0, true), (1, true), (2, true), (3, true), (4, true), (5, true), (6, true), (7, true), (8, true), (9, true), (10, true), (11, true), (12, true), (13, true), (14, true), (15, true), (16, true), (17, true)] (by kernel_rfl) (by kernel_rfl) rfl (by kernel_rfl) hS ?_
        (refine walkS_take (v := ?_) (some 128) rfl rfl (fun _ _ _ h => h) (by rfl) ?_ ?_; rotate_left; (focus (intro w' hw'; obtain ⟨k0, k1⟩ := HCY.out w' hw'; go_simp; (try with_reducible rfl))); (try simp only [Act.put, List.setIfInBounds_toArray, List.set_cons_zero, List.set_cons_succ]))
        (refine walkS_take (v := ?_) (some 129) rfl rfl (fun _ _ _ h => h) (by rfl) ?_ ?_; rotate_left; (focus (intro w' hw'; obtain ⟨k0, k1⟩ := HCY.out w' hw'; go_simp; (try with_reducible rfl))); (try simp only [Act.put, List.setIfInBounds_toArray, List.set_cons_zero, List.set_cons_succ]))
        first | (refine walkS_skip (some 130) rfl rfl (by rfl) (fun _ _ _ h => h) hS ?_; (try simp only [Act.put, List.setIfInBounds_toArray, List.set_cons_zero, List.set_cons_succ])) | (refine walkS_take (v := ?_) (some 130) rfl rfl (fun _ _ _ h => h) (by rfl) ?_ ?_; rotate_left; (focus (intro w' hw'; obtain ⟨k0, k1⟩ := HCY.out w' hw'; go_simp; (try with_reducible rfl))); (try simp only [Act.put, List.setIfInBounds_toArray, List.set_cons_zero, List.set_cons_succ]))
        first | (refine walkS_skip (some 131) rfl rfl (by rfl) (fun _ _ _ h => h) hS ?_; (try simp only [Act.put, List.setIfInBounds_toArray, List.set_cons_zero, List.set_cons_succ])) | (refine walkS_take (v := ?_) (some 131) rfl rfl (fun _ _ _ h => h) (by rfl) ?_ ?_; rotate_left; (focus (intro w' hw'; obtain ⟨k0, k1⟩ := HCY.out w' hw'; go_simp; (try with_reducible rfl))); (try simp only [Act.put, List.setIfInBounds_toArray, List.set_cons_zero, List.set_cons_succ]))
        first | (refine walkS_skip (some 132) rfl rfl (by rfl) (fun _ _ _ h => h) hS ?_; (try simp only [Act.put, List.setIfInBounds_toArray, List.set_cons_zero, List.set_cons_succ])) | (refine walkS_take (v := ?_) (some 132) rfl rfl (fun _ _ _ h => h) (by rfl) ?_ ?_; rotate_left; (focus (intro w' hw'; obtain ⟨k0, k1⟩ := HCY.out w' hw'; go_simp; (try with_reducible rfl))); (try simp only [Act.put, List.setIfInBounds_toArray, List.set_cons_zero, List.set_cons_succ]))
        first | (refine walkS_skip (some 133) rfl rfl (by rfl) (fun _ _ _ h => h) hS ?_; (try simp only [Act.put, List.setIfInBounds_toArray, List.set_cons_zero, List.set_cons_succ])) | (refine walkS_take (v := ?_) (some 133) rfl rfl (fun _ _ _ h => h) (by rfl) ?_ ?_; rotate_left; (focus (intro w' hw'; obtain ⟨k0, k1⟩ := HCY.out w' hw'; go_simp; (try with_reducible rfl))); (try simp only [Act.put, List.setIfInBounds_toArray, List.set_cons_zero, List.set_cons_succ]))
        first | (refine walkS_skip (some 134) rfl rfl (by rfl) (fun _ _ _ h => h) hS ?_; (try simp only [Act.put, List.setIfInBounds_toArray, List.set_cons_zero, List.set_cons_succ])) | (refine walkS_bin (some 134) _ _ _ _ _ _ _ _ (gt_no _ _ u3) rfl rfl rfl rfl rfl (fun _ _ _ h => h) (by rfl) ?_; (try simp only [Act.put, List.setIfInBounds_toArray, List.set_cons_zero, List.set_cons_succ]))
        first | (refine walkS_skip (some 135) rfl rfl (by rfl) (fun _ _ _ h => h) hS ?_; (try simp only [Act.put, List.setIfInBounds_toArray, List.set_cons_zero, List.set_cons_succ])) | (refine walkS_take (v := ?_) (some 135) rfl rfl (fun _ _ _ h => h) (by rfl) ?_ ?_; rotate_left; (focus (intro w' hw'; obtain ⟨k0, k1⟩ := HCY.out w' hw'; go_simp; (try with_reducible rfl))); (try simp only [Act.put, List.setIfInBounds_toArray, List.set_cons_zero, List.set_cons_succ]))
        first | (refine walkS_skip (some 136) rfl rfl (by rfl) (fun _ _ _ h => h) hS ?_; (try simp only [Act.put, List.setIfInBounds_toArray, List.set_cons_zero, List.set_cons_succ])) | (refine walkS_take (v := ?_) (some 136) rfl rfl (fun _ _ _ h => h) (by rfl) ?_ ?_; rotate_left; (focus (intro w' hw'; obtain ⟨k0, k1⟩ := HCY.out w' hw'; go_simp; (try with_reducible rfl))); (try simp only [Act.put, List.setIfInBounds_toArray, List.set_cons_zero, List.set_cons_succ]))
        first | (refine walkS_skip (some 137) rfl rfl (by rfl) (fun _ _ _ h => h) hS ?_; (try simp only [Act.put, List.setIfInBounds_toArray, List.set_cons_zero, List.set_cons_succ])) | (refine walkS_take (v := ?_) (some 137) rfl rfl (fun _ _ _ h => h) (by rfl) ?_ ?_; rotate_left; (focus (intro w' hw'; obtain ⟨k0, k1⟩ := HCY.out w' hw'; go_simp; (try with_reducible rfl))); (try simp only [Act.put, List.setIfInBounds_toArray, List.set_cons_zero, List.set_cons_succ]))
        first | (refine walkS_skip (some 138) rfl rfl (by rfl) (fun _ _ _ h => h) hS ?_; (try simp only [Act.put, List.setIfInBounds_toArray, List.set_cons_zero, List.set_cons_succ])) | (refine walkS_take (v := ?_) (some 138) rfl rfl (fun _ _ _ h => h) (by rfl) ?_ ?_; rotate_left; (focus (intro w' hw'; obtain ⟨k0, k1⟩ := HCY.out w' hw'; go_simp; (try with_reducible rfl))); (try simp only [Act.put, List.setIfInBounds_toArray, List.set_cons_zero, List.set_cons_succ]))
        first | (refine walkS_skip (some 139) rfl rfl (by rfl) (fun _ _ _ h => h) hS ?_; (try simp only [Act.put, List.setIfInBounds_toArray, List.set_cons_zero, List.set_cons_succ])) | (refine walkS_take (v := ?_) (some 139) rfl rfl (fun _ _ _ h => h) (by rfl) ?_ ?_; rotate_left; (focus (intro w' hw'; obtain ⟨k0, k1⟩ := HCY.out w' hw'; go_simp; (try with_reducible rfl))); (try simp only [Act.put, List.setIfInBounds_toArray, List.set_cons_zero, List.set_cons_succ]))
        first | (refine walkS_skip (some 140) rfl rfl (by rfl) (fun _ _ _ h => h) hS ?_; (try simp only [Act.put, List.setIfInBounds_toArray, List.set_cons_zero, List.set_cons_succ])) | (refine walkS_take (v := ?_) (some 140) rfl rfl (fun _ _ _ h => h) (by rfl) ?_ ?_; rotate_left; (focus (intro w' hw'; obtain ⟨k0, k1⟩ := HCY.out w' hw'; go_simp; (try with_reducible rfl))); (try simp only [Act.put, List.setIfInBounds_toArray, List.set_cons_zero, List.set_cons_succ]))
        first | (refine walkS_skip (some 141) rfl rfl (by rfl) (fun _ _ _ h => h) hS ?_; (try simp only [Act.put, List.setIfInBounds_toArray, List.set_cons_zero, List.set_cons_succ])) | (refine walkS_take (v := ?_) (some 141) rfl rfl (fun _ _ _ h => h) (by rfl) ?_ ?_; rotate_left; (focus (intro w' hw'; obtain ⟨k0, k1⟩ := HCY.out w' hw'; go_simp; (try with_reducible rfl))); (try simp only [Act.put, List.setIfInBounds_toArray, List.set_cons_zero, List.set_cons_succ]))
        first | (refine walkS_skip (some 142) rfl rfl (by rfl) (fun _ _ _ h => h) hS ?_; (try simp only [Act.put, List.setIfInBounds_toArray, List.set_cons_zero, List.set_cons_succ])) | (refine walkS_take (v := ?_) (some 142) rfl rfl (fun _ _ _ h => h) (by rfl) ?_ ?_; rotate_left; (focus (intro w' hw'; obtain ⟨k0, k1⟩ := HCY.out w' hw'; go_simp; (try with_reducible rfl))); (try simp only [Act.put, List.setIfInBounds_toArray, List.set_cons_zero, List.set_cons_succ]))
        first | (refine walkS_skip (some 143) rfl rfl (by rfl) (fun _ _ _ h => h) hS ?_; (try simp only [Act.put, List.setIfInBounds_toArray, List.set_cons_zero, List.set_cons_succ])) | (refine walkS_bin (some 143) _ _ _ _ _ _ _ _ (neS_same _) rfl rfl rfl rfl rfl (fun _ _ _ h => h) (by rfl) ?_; (try simp only [Act.put, List.setIfInBounds_toArray, List.set_cons_zero, List.set_cons_succ]))
        first | (refine walkS_skip (some 144) rfl rfl (by rfl) (fun _ _ _ h => h) hS ?_; (try simp only [Act.put, List.setIfInBounds_toArray, List.set_cons_zero, List.set_cons_succ])) | (refine walkS_take (v := ?_) (some 144) rfl rfl (fun _ _ _ h => h) (by rfl) ?_ ?_; rotate_left; (focus (intro w' hw'; obtain ⟨k0, k1⟩ := HCY.out w' hw'; go_simp; (try with_reducible rfl))); (try simp only [Act.put, List.setIfInBounds_toArray, List.set_cons_zero, List.set_cons_succ]))
        (refine walkS_take (v := ?_) (some 145) rfl rfl (fun _ _ _ h => h) (by rfl) ?_ ?_; rotate_left; (focus (intro w' hw'; obtain ⟨k0, k1⟩ := HCY.out w' hw'; go_simp; (try with_reducible rfl))); (try simp only [Act.put, List.setIfInBounds_toArray, List.set_cons_zero, List.set_cons_succ]))
        refine walkS_done ?_
        go_wp2_with fail
        refine HRX.out.mono ?_
        rintro e w6 ⟨a6, c6, rfl, -, -, n6, -⟩
        have HX : RowKit.Hid (∃ (k' : Nat) (h : DkH) (st : DkS), k' ≤ lp ∧ Value.int .i64 ((k : Int) + 1) = .int .i64 k' ∧ DkN w w6 d h st ∧ SInv A B C g1 g2 st) := Lib.hid ⟨k + 1, _, _, by omega, by go_num, n6, HS.out⟩
        clear n6
        go_wp2_with fail
        try rw [HWK.out]
        go_roundw
        · exact HX.out
        · simp only [RowKit.intOf]; omega
theorem diskSure_holds : Rows.DiskSureSaid := by
  refine diskSure.said fun H enc W base v0 v1 v2 v3 d0 d1 d2 d3 p0 p1 p2 p3 h0 h1 h2 h3 => ?_
  obtain ⟨aA, la, ca, A, rfl, hA, -, -⟩ := h0.bytes Try.underlying29 Try.underlying5 (by kernel_rfl) (by kernel_rfl)
  obtain ⟨aB, lb, cb, B, rfl, hB, -, -⟩ := h1.bytes Try.underlying29 Try.underlying5 (by kernel_rfl) (by kernel_rfl)
  obtain ⟨aC, lc, cc, C, rfl, hC, -, -⟩ := h2.bytes Try.underlying29 Try.underlying5 (by kernel_rfl) (by kernel_rfl)
  obtain ⟨aP, cp, L, rfl, hP, hPr⟩ := h3.rowsB
  by_cases h : la ≤ 2000 ∧ lb ≤ 2000 ∧ lc ≤ 2000 ∧ L.length ≤ 6
  · exact (sure3_walk aA aB aC aP la ca lb cb lc cc L.length cp A B C L W hA hB hC hP hPr h.1 h.2.1 h.2.2.1 h.2.2.2).mono fun e w' h => ⟨h.1, h.2.below (fun _ _ h => h.elim) (Nat.le_refl _)⟩
  · exact (sure3_small aA aB aC aP la ca lb cb lc cc L.length cp W h hA.2.2.2.1 hB.2.2.2.1 hC.2.2.2.1 (Nat.le_trans hP.hcap hP.hmax)).mono fun e w' h => ⟨h.1, h.2.below (fun _ _ h => h.elim) (Nat.le_refl _)⟩
end Go.Proofs.Ytmokcfmlolohaaa
