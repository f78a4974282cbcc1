/- DiskMoves holds: renamed, a file has its bytes under the other name; cut, it has its beginning. -/
import Derived.Test.YtmokcfmlolohaaaDskAwk
import Derived.Test.YtmokcfmlolohaaaFrDiskMoves
import Derived.Test.YtmokcfmlolohaaaDskArgs
import Derived.Test.YtmokcfmlolohaaaDiskFails
set_option linter.unusedVariables false
set_option linter.unusedSimpArgs false
namespace Go.Proofs.Ytmokcfmlolohaaa
open Go.RowKit

def sX : ByteArray := ⟨#[120]⟩
def sY : ByteArray := ⟨#[121]⟩
def sZ : ByteArray := ⟨#[122]⟩
theorem sX_name : 1 ≤ sX.size ∧ sX.size ≤ 16 := by decide
theorem sY_name : 1 ≤ sY.size ∧ sY.size ≤ 16 := by decide
theorem sX_sz : szN sX := by unfold szN; decide
theorem sY_sz : szN sY := by unfold szN; decide
theorem sZ_sz : szN sZ := by unfold szN; decide
theorem C1n (g : Nat) : dkAll [] [⟨0, sX, ⟨#[]⟩, some g⟩] = [⟨sX, some g⟩] := by kernel_rfl
theorem C2n (g1 g2 : Nat) : dkAll [] [⟨0, sX, ⟨#[]⟩, some g1⟩, ⟨0, sY, ⟨#[]⟩, some g2⟩] = [⟨sY, some g2⟩, ⟨sX, some g1⟩] := by kernel_rfl
theorem C3n (g1 g2 : Nat) : dkAll [] [⟨0, sX, ⟨#[]⟩, some g1⟩, ⟨0, sY, ⟨#[]⟩, some g2⟩, ⟨1, sX, sY, none⟩] = [⟨sY, some g1⟩] := by kernel_rfl
theorem C4n (g1 g2 : Nat) : dkAll [] [⟨0, sX, ⟨#[]⟩, some g1⟩, ⟨0, sY, ⟨#[]⟩, some g2⟩, ⟨1, sX, sY, none⟩, ⟨2, sY, ⟨#[]⟩, none⟩] = [] := by kernel_rfl
theorem gN_nil {k : ByteArray} : getN [] k = none := rfl
theorem gX1 (g : Nat) : getN [⟨sX, some g⟩] sY = none := by kernel_rfl
theorem gX0 (g : Nat) : getN [⟨sX, some g⟩] sX = some g := by kernel_rfl
theorem gX2 (g1 g2 : Nat) : getN [⟨sY, some g2⟩, ⟨sX, some g1⟩] sX = some g1 := by kernel_rfl
theorem gY3 (g : Nat) : getN [⟨sY, some g⟩] sY = some g := by kernel_rfl
theorem gX3 (g : Nat) : getN [⟨sY, some g⟩] sX = none := by kernel_rfl
theorem sXY : sX ≠ sY := by decide
theorem enter_drem (a b : Value) (w : World) : (callFunc 27 #[a, b]).run Try.prog w = .ok (.enter 27 #[a, b]) w := by kernel_rfl
theorem enter_awake3 (w : World) : (callFunc 13 #[]).run Try.prog w = .ok (.enter 13 #[]) w := by kernel_rfl
def Cm2 (g1 g2 : Nat) : List DkCh := [⟨0, sX, ⟨#[]⟩, some g1⟩, ⟨0, sY, ⟨#[]⟩, some g2⟩]
theorem moves3_small (aA aB : Option Addr) (la ca lb cb : Nat) (y : Int) (w : World) (hb : ¬ (la ≤ 2000 ∧ lb ≤ 2000)) (h1 : la ≤ 281474976710656) (h2 : lb ≤ 281474976710656) :
    Calls Try.prog 11 #[.slice aA la ca, .slice aB lb cb, .int .i64 y] w fun e w' => e = .returned (.bool true) ∧ Touch w w' (fun _ => False) := by
  by_cases ha : (2000 : Int) < la
  · clear hb
    go_enter Try.func11, Try.ntmps11
    go_wp2_with fail
    refine (awake3 w).mono ?_
    rintro e w1 ⟨rfl, t1⟩
    have HT := Lib.hid t1
    clear t1
    go_wp2_with fail
    go_ret
    exact ⟨rfl, HT.out⟩
  · have hb2 : (2000 : Int) < lb := by omega
    clear hb
    go_enter Try.func11, Try.ntmps11
    go_wp2_with fail
    refine (awake3 w).mono ?_
    rintro e w1 ⟨rfl, t1⟩
    have HT := Lib.hid t1
    clear t1
    go_wp2_with fail
    go_ret
    exact ⟨rfl, HT.out⟩
set_option maxRecDepth 20000 in
set_option maxHeartbeats 16000000 in
theorem moves3_walk (aA aB : Option Addr) (la ca lb cb : Nat) (A B : List Nat) (y : Int) (w : World) (hA : RowB w aA la ca A) (hB : RowB w aB lb cb B) (hla : la ≤ 2000) (hlb : lb ≤ 2000) :
    Calls Try.prog 11 #[.slice aA la ca, .slice aB lb cb, .int .i64 y] w fun e w' => e = .returned (.bool true) ∧ Touch w w' (fun _ => False) := by
  have HA := Lib.hid hA
  have HB := Lib.hid hB
  have hAl : A.length = la := hA.1
  have hBl : B.length = lb := hB.1
  have hcap := hA.2.1
  obtain ⟨n, hn, hn1⟩ := modK y ((la : Int) + 1) (by omega) (by omega)
  have HNM := Lib.hid hn
  have hnl : n ≤ la := by omega
  have i0 : ¬ (2000 : Int) < la := by omega
  have i1 : ¬ (2000 : Int) < lb := by omega
  have HAL := Lib.hid hAl
  have HBL := Lib.hid hBl
  clear hA hB hn hn1 hAl hBl
  go_enter Try.func11, Try.ntmps11
  go_wp2_with fail
  refine (dnew_any w 100000 (by decide)).mono ?_
  rintro e w1 ⟨d, h1, rfl, n1⟩
  have HN := Lib.hid n1
  have HC := Lib.hid (HN.out.app sX sX_sz (HN.out.rowB HA.out) (HN.out.offB HA.out) (by decide))
  clear n1
  go_wp2_with fail
  refine HC.out.mono ?_
  rintro e w2 ⟨g1, -, rfl, h2, n2, -, -, -⟩
  have p1 := app_new (q := 100000) (o := 0) (o' := 1) (S := []) (C := []) (F := F0) (g := g1) (xs := A) (k := sX) (N := []) (by unfold wrap64; omega) rfl sX_name rfl (by rw [HAL.out]; unfold szF; simp; omega) (by rw [HAL.out]; omega) (by decide)
  rw [show dkNew 100000 = (⟨100000, 0, 0, [], [], F0⟩ : DkS) from rfl, p1.2] at n2
  rw [show dkNew 100000 = (⟨100000, 0, 0, [], [], F0⟩ : DkS) from rfl, p1.1]
  have hF1 := fPut_same F0 g1 ⟨A, 0⟩
  obtain ⟨F1, hF1e⟩ : ∃ F1, fPut F0 g1 ⟨A, 0⟩ = F1 := ⟨_, rfl⟩
  rw [hF1e] at hF1 n2
  have HN := Lib.hid n2
  have hT1 := n2.m.get (k := sX) (g := g1) (by show getN (dkAll [] [⟨0, sX, ⟨#[]⟩, some g1⟩]) sX = some g1; rw [C1n]; exact gX0 g1)
  have HC := Lib.hid (HN.out.app sY sY_sz (HN.out.rowB HB.out) (HN.out.offB HB.out) (show 1 ≤ 100000 by decide))
  clear n2 p1 hF1e
  go_wp2_with fail
  refine HC.out.mono ?_
  rintro e w3 ⟨g2, hg2, rfl, h3, n3, -, -, -⟩
  have hne : g1 ≠ g2 := fun e => by rw [e, hg2] at hT1; cases hT1
  have p2 := app_new (q := 100000) (o := 1) (o' := 2) (S := []) (C := [⟨0, sX, ⟨#[]⟩, some g1⟩]) (F := F1) (g := g2) (xs := B) (k := sY) (by unfold wrap64; omega) (C1n g1) sY_name (gX1 g1) (by rw [HBL.out]; unfold szF; simp [hF1, HAL.out]; omega) (by rw [HBL.out]; omega) (by simp)
  simp only [List.nil_append, List.cons_append] at n3 p2
  rw [p2.2] at n3
  simp only [List.nil_append]
  rw [p2.1]
  have hF2 : fPut F1 g2 ⟨B, 0⟩ g1 = ⟨A, 0⟩ := by rw [fPut_ne _ _ hne, hF1]
  obtain ⟨F2, hF2e⟩ : ∃ F2, fPut F1 g2 ⟨B, 0⟩ = F2 := ⟨_, rfl⟩
  rw [hF2e] at hF2 n3
  have HN := Lib.hid n3
  have HC := Lib.hid (HN.out.ren sX sY sX_sz sY_sz (show 2 ≤ 100000 by decide))
  have p3 := ren_at (q := 100000) (o := 2) (o' := 3) (t := sY) (F := F2) (by unfold wrap64; omega) (C2n g1 g2) (gX2 g1 g2) sY_name sXY
  rw [p3.1, p3.2] at HC
  clear n3 p2 p3 hF2e hg2 hT1 hne hF1
  go_wp2_with fail
  refine HC.out.mono ?_
  rintro e w4 ⟨rfl, h4, n4, -, -, -⟩
  simp only [List.cons_append, List.nil_append] at n4
  have HN := Lib.hid n4
  have HC := Lib.hid (HN.out.ren sX sZ sX_sz sZ_sz (show 3 ≤ 100000 by decide))
  have p4 := ren_none (q := 100000) (o := 3) (o' := 4) (t := sZ) (F := F2) (by unfold wrap64; omega) (C3n g1 g2) (gX3 g1)
  rw [p4.1, p4.2] at HC
  clear n4 p4
  go_wp2_with fail
  refine HC.out.mono ?_
  rintro e w5 ⟨rfl, h5, n5, -, -, -⟩
  have HN := Lib.hid n5
  have HC := Lib.hid (HN.out.ren sY sY sY_sz sY_sz (show 3 ≤ 100000 by decide))
  have p5 := ren_same (q := 100000) (o := 4) (o' := 5) (F := F2) (by unfold wrap64; omega) (C3n g1 g2) (gY3 g1) sY_name
  rw [p5.1, p5.2] at HC
  clear n5 p5
  go_wp2_with fail
  refine HC.out.mono ?_
  rintro e w6 ⟨rfl, h6, n6, -, -, -⟩
  have HN := Lib.hid n6
  have HC := Lib.hid (HN.out.read sY sY_sz)
  have p6 := read_at (q := 100000) (o := 5) (F := F2) 0 (C3n g1 g2) (gY3 g1)
  rw [hF2] at p6
  rw [p6.1, p6.2] at HC
  clear n6 p6
  go_wp2_with fail
  refine HC.out.mono ?_
  rintro e w7 ⟨a7, c7, rfl, r7, -, n7, -⟩
  have HN := Lib.hid n7
  have HR7 := Lib.hid r7
  have HC := Lib.hid (HN.out.read sX sX_sz)
  have p7 := read_none (q := 100000) (o := 5) (F := F2) 0 (C3n g1 g2) (gX3 g1)
  rw [p7.1, p7.2] at HC
  clear n7 r7 p7
  rw [HAL.out]
  go_wp2_with fail
  refine HC.out.mono ?_
  rintro e w8 ⟨a8, c8, rfl, -, -, n8, t8⟩
  have HN := Lib.hid n8
  have hr7 : RowB w8 a7 la c7 A := by have := HR7.out.touch t8 (fun _ _ => .inr (fun h => h)); rwa [HAL.out] at this
  have HRA := Lib.hid (HN.out.rowB HA.out)
  have HCV : RowKit.Hid ((convert 29 9 (.slice a7 la c7)).run Try.prog w8 = .ok (.string (strB A)) w8 ∧ (convert 29 9 (.slice aA la ca)).run Try.prog w8 = .ok (.string (strB A)) w8) := Lib.hid
    ⟨run_string_of hr7 _ _ 5 Try.underlying29 Try.underlying5 Try.underlying9, run_string_of HRA.out _ _ 5 Try.underlying29 Try.underlying5 Try.underlying9⟩
  have HNS := Lib.hid (dnames_any w8 d _ _ HN.out.m)
  rw [show (DkS.N ⟨100000, 5, 0, [], [⟨0, sX, ⟨#[]⟩, some g1⟩, ⟨0, sY, ⟨#[]⟩, some g2⟩, ⟨1, sX, sY, none⟩], F2⟩).length = 1 from by show (dkAll _ _).length = 1; rw [C3n]; rfl] at HNS
  clear n8 t8 hr7
  go_upto_region 11 with (fail)
  rw [HNM.out]
  obtain ⟨k0, k1⟩ := HCV.out
  go_wp2_with fail
  refine HNS.out.mono ?_
  rintro e w9 ⟨an, cn, rfl, -, t9⟩
  have HN := Lib.hid (HN.out.still t9)
  have HC := Lib.hid (HN.out.cut sY sY_sz (n : Int))
  have p9 := cut_at (q := 100000) (o := 5) (o' := 6) (F := F2) (by unfold wrap64; omega) (C3n g1 g2) (gY3 g1) n (by rw [hF2, HAL.out]; exact hnl)
  rw [p9.1, p9.2] at HC
  have hF3 : keepF F2 g1 n g1 = ⟨A.take n, n⟩ := by unfold keepF; rw [fPut_same, hF2]
  obtain ⟨F3, hF3e⟩ : ∃ F3, keepF F2 g1 n = F3 := ⟨_, rfl⟩
  rw [hF3e] at hF3 HC
  clear t9 p9 hF3e k0 k1
  go_wp2_with fail
  refine HC.out.mono ?_
  rintro e w10 ⟨rfl, h7, n10, -, -, -⟩
  have HN := Lib.hid n10
  have HC := Lib.hid (HN.out.cut sY sY_sz ((la : Int) + 1))
  have p10 := cut_far (q := 100000) (o := 6) (o' := 7) (F := F3) (by unfold wrap64; omega) (C3n g1 g2) (gY3 g1) ((la : Int) + 1) (by rw [hF3]; simp only [List.length_take, HAL.out]; omega)
  rw [p10.1, p10.2] at HC
  have hw1 : wrap64 ((la : Int) + 1) = (la : Int) + 1 := by unfold wrap64; omega
  have HW1 := Lib.hid hw1
  clear n10 p10 hw1
  go_wp2_with fail
  try rw [HW1.out]
  refine HC.out.mono ?_
  rintro e w9' ⟨rfl, h7', n11, -, -, -⟩
  have HN := Lib.hid n11
  have HNP := Lib.hid n11
  have HC := Lib.hid (HN.out.read sY sY_sz)
  have p11 := read_at (q := 100000) (o := 7) (F := F3) 0 (C3n g1 g2) (gY3 g1)
  rw [hF3] at p11
  rw [p11.1, p11.2] at HC
  clear n11 p11
  go_wp2_with fail
  refine HC.out.mono ?_
  rintro e w10 ⟨a9, c9, rfl, r9, hb9, n12, t12⟩
  obtain ⟨h8, hh8⟩ : ∃ h8, h8 = h7' := ⟨_, rfl⟩
  rw [← hh8] at n12
  have htl : (A.take n).length = n := by rw [List.length_take, HAL.out]; omega
  rw [htl] at r9 ⊢
  have HN := Lib.hid n12
  have HR9 := Lib.hid r9
  have HRA := Lib.hid ((HN.out.rowB HA.out).take n hnl)
  have hoff9 : ∀ x, a9 = some x → n = 0 ∨ ¬ footK h8 x.block := fun x hx => .inr (fun hf => by rw [hh8] at hf; have h1 := hb9 x hx; have h2 := HNP.out.m.lt _ hf; omega)
  have hoffA : ∀ x, aA = some x → n = 0 ∨ ¬ footK h8 x.block := fun x hx => by
    rcases (HN.out.offB HA.out) x hx with h1 | h1
    · exact .inl (by omega)
    · exact .inr h1
  have HCV : RowKit.Hid (∀ W, Touch w10 W (footK h8) → (convert 29 9 (.slice a9 n c9)).run Try.prog W = .ok (.string (strB (A.take n))) W ∧ (convert 29 9 (.slice aA n ca)).run Try.prog W = .ok (.string (strB (A.take n))) W) := Lib.hid (fun W t =>
    ⟨run_string_of (HR9.out.touch t hoff9) _ _ 5 Try.underlying29 Try.underlying5 Try.underlying9, run_string_of (HRA.out.touch t hoffA) _ _ 5 Try.underlying29 Try.underlying5 Try.underlying9⟩)
  have HN10 := Lib.hid (HN.out.still ((Touch.refl w10 (fun _ => False)).drew))
  have HR1 := Lib.hid (HN10.out.rem sY sY_sz (show 3 ≤ 100000 by decide))
  rw [(on_at (C3n g1 g2) (gY3 g1)).1, rem_at (o' := 8) (by unfold wrap64; omega) (C3n g1 g2) (gY3 g1)] at HR1
  simp only [List.cons_append, List.nil_append] at HR1
  have j1 : (n : Int) ≤ (ca : Int) := by omega
  have HZ0 : RowKit.Hid (dkSz ⟨100000, 9, 0, [], [⟨0, sX, ⟨#[]⟩, some g1⟩, ⟨0, sY, ⟨#[]⟩, some g2⟩, ⟨1, sX, sY, none⟩, ⟨2, sY, ⟨#[]⟩, none⟩], F3⟩ = 0) := Lib.hid (by show (List.map _ (dkAll _ _)).sum = 0; rw [C4n]; rfl)
  clear n12 t12 r9 hb9 hoff9 hoffA hh8 htl
  go_upto_region 14 with (fail)
  have hS := (Touch.refl w10 (footK h8)).drew
  refine wp_region_sched (fun w' => Touch w10 w' (footK h8)) [(0, true), (1, true), (2, true), (3, true), (4, true), (5, true), (6, true), (7, true), (8, true), (9, false), (10, true), (11, true), (12, true), (13, true), (14, false), (15, true), (16, true), (17, true), (18, true), (19, false), (20, true), (21, true), (22, true), (23, false), (24, true), (25, true)] (by kernel_rfl) (by kernel_rfl) rfl (by kernel_rfl) hS ?_
  (refine walkS_take (v := ?_) (some 98) rfl rfl (fun _ _ _ h => h) (by rfl) ?_ ?_; rotate_left; (focus (intro w' hw'; obtain ⟨k0, k1⟩ := HCV.out w' hw'; go_simp; (try with_reducible rfl))); (try simp only [Act.put, List.setIfInBounds_toArray, List.set_cons_zero, List.set_cons_succ]))
  (refine walkS_take (v := ?_) (some 99) rfl rfl (fun _ _ _ h => h) (by rfl) ?_ ?_; rotate_left; (focus (intro w' hw'; obtain ⟨k0, k1⟩ := HCV.out w' hw'; go_simp; (try with_reducible rfl))); (try simp only [Act.put, List.setIfInBounds_toArray, List.set_cons_zero, List.set_cons_succ]))
  (refine walkS_take (v := ?_) (some 100) rfl rfl (fun _ _ _ h => h) (by rfl) ?_ ?_; rotate_left; (focus (intro w' hw'; obtain ⟨k0, k1⟩ := HCV.out w' hw'; go_simp; (try with_reducible rfl))); (try simp only [Act.put, List.setIfInBounds_toArray, List.set_cons_zero, List.set_cons_succ]))
  (refine walkS_take (v := ?_) (some 101) rfl rfl (fun _ _ _ h => h) (by rfl) ?_ ?_; rotate_left; (focus (intro w' hw'; obtain ⟨k0, k1⟩ := HCV.out w' hw'; go_simp; (try with_reducible rfl))); (try simp only [Act.put, List.setIfInBounds_toArray, List.set_cons_zero, List.set_cons_succ]))
  (refine walkS_take (v := ?_) (some 102) rfl rfl (fun _ _ _ h => h) (by rfl) ?_ ?_; rotate_left; (focus (intro w' hw'; obtain ⟨k0, k1⟩ := HCV.out w' hw'; go_simp; (try with_reducible rfl))); (try simp only [Act.put, List.setIfInBounds_toArray, List.set_cons_zero, List.set_cons_succ]))
  (refine walkS_take (v := ?_) (some 103) rfl rfl (fun _ _ _ h => h) (by rfl) ?_ ?_; rotate_left; (focus (intro w' hw'; obtain ⟨k0, k1⟩ := HCV.out w' hw'; go_simp; (try with_reducible rfl))); (try simp only [Act.put, List.setIfInBounds_toArray, List.set_cons_zero, List.set_cons_succ]))
  (refine walkS_take (v := ?_) (some 104) rfl rfl (fun _ _ _ h => h) (by rfl) ?_ ?_; rotate_left; (focus (intro w' hw'; obtain ⟨k0, k1⟩ := HCV.out w' hw'; go_simp; (try with_reducible rfl))); (try simp only [Act.put, List.setIfInBounds_toArray, List.set_cons_zero, List.set_cons_succ]))
  (refine walkS_take (v := ?_) (some 105) rfl rfl (fun _ _ _ h => h) (by rfl) ?_ ?_; rotate_left; (focus (intro w' hw'; obtain ⟨k0, k1⟩ := HCV.out w' hw'; go_simp; (try with_reducible rfl))); (try simp only [Act.put, List.setIfInBounds_toArray, List.set_cons_zero, List.set_cons_succ]))
  first | (refine walkS_skip (some 106) rfl rfl (by rfl) (fun _ _ _ h => h) hS ?_; (try simp only [Act.put, List.setIfInBounds_toArray, List.set_cons_zero, List.set_cons_succ])) | (refine walkS_take (v := ?_) (some 106) rfl rfl (fun _ _ _ h => h) (by rfl) ?_ ?_; rotate_left; (focus (intro w' hw'; obtain ⟨k0, k1⟩ := HCV.out w' hw'; go_simp; (try with_reducible rfl))); (try simp only [Act.put, List.setIfInBounds_toArray, List.set_cons_zero, List.set_cons_succ]))
  first | (refine walkS_skip (some 107) rfl rfl (by rfl) (fun _ _ _ h => h) hS ?_; (try simp only [Act.put, List.setIfInBounds_toArray, List.set_cons_zero, List.set_cons_succ])) | (refine walkS_call 107 _ _ _ _ (HR1.out) rfl rfl rfl (by rfl) rfl (enter_drem _ _ _) ?_; rintro e w11 ⟨rfl, h11, n11, -, ne11, t11⟩; have HN11 := Lib.hid n11; have hS := hS.trans t11 (fun _ _ h => h); have HNE := Lib.hid ne11; have HRM := Lib.hid (HN11.out.rem sY sY_sz (show 4 ≤ 100000 by decide)); rw [(on_none (C4n g1 g2) gN_nil).1, rem_none (o' := 9) (by unfold wrap64; omega) (C4n g1 g2) gN_nil] at HRM; refine ⟨_, rfl, hS, fun hS => ?_⟩; clear n11 ne11 t11; (try simp only [Act.put, List.setIfInBounds_toArray, List.set_cons_zero, List.set_cons_succ]))
  first | (refine walkS_skip (some 108) rfl rfl (by rfl) (fun _ _ _ h => h) hS ?_; (try simp only [Act.put, List.setIfInBounds_toArray, List.set_cons_zero, List.set_cons_succ])) | (refine walkS_take (v := ?_) (some 108) rfl rfl (fun _ _ _ h => h) (by rfl) ?_ ?_; rotate_left; (focus (intro w' hw'; obtain ⟨k0, k1⟩ := HCV.out w' hw'; go_simp; (try with_reducible rfl))); (try simp only [Act.put, List.setIfInBounds_toArray, List.set_cons_zero, List.set_cons_succ]))
  (refine walkS_take (v := ?_) (some 109) rfl rfl (fun _ _ _ h => h) (by rfl) ?_ ?_; rotate_left; (focus (intro w' hw'; obtain ⟨k0, k1⟩ := HCV.out w' hw'; go_simp; (try with_reducible rfl))); (try simp only [Act.put, List.setIfInBounds_toArray, List.set_cons_zero, List.set_cons_succ]))
  (refine walkS_take (v := ?_) (some 110) rfl rfl (fun _ _ _ h => h) (by rfl) ?_ ?_; rotate_left; (focus (intro w' hw'; obtain ⟨k0, k1⟩ := HCV.out w' hw'; go_simp; (try with_reducible rfl))); (try simp only [Act.put, List.setIfInBounds_toArray, List.set_cons_zero, List.set_cons_succ]))
  first | (refine walkS_skip (some 111) rfl rfl (by rfl) (fun _ _ _ h => h) hS ?_; (try simp only [Act.put, List.setIfInBounds_toArray, List.set_cons_zero, List.set_cons_succ])) | (refine walkS_take (v := ?_) (some 111) rfl rfl (fun _ _ _ h => h) (by rfl) ?_ ?_; rotate_left; (focus (intro w' hw'; obtain ⟨k0, k1⟩ := HCV.out w' hw'; go_simp; (try with_reducible rfl))); (try simp only [Act.put, List.setIfInBounds_toArray, List.set_cons_zero, List.set_cons_succ]))
  first | (refine walkS_skip (some 112) rfl rfl (by rfl) (fun _ _ _ h => h) hS ?_; (try simp only [Act.put, List.setIfInBounds_toArray, List.set_cons_zero, List.set_cons_succ])) | (refine walkS_call 112 _ _ _ _ (HRM.out) rfl rfl rfl (by rfl) rfl (enter_drem _ _ _) ?_; rintro e w12 ⟨rfl, h12, n12, -, -, t12⟩; have hS := hS.trans t12 (fun k hk hf => by rcases HNE.out k hf with h1 | h1; exact h1; (have h2 : w10.drew.heap.size = w10.heap.size := rfl; omega)); have HN12 := Lib.hid n12; have HSZ := Lib.hid (dsize_any w12 d h12 _ n12.m); refine ⟨_, rfl, hS, fun hS => ?_⟩; clear n12 t12; (try simp only [Act.put, List.setIfInBounds_toArray, List.set_cons_zero, List.set_cons_succ]))
  first | (refine walkS_skip (some 113) rfl rfl (by rfl) (fun _ _ _ h => h) hS ?_; (try simp only [Act.put, List.setIfInBounds_toArray, List.set_cons_zero, List.set_cons_succ])) | (refine walkS_take (v := ?_) (some 113) rfl rfl (fun _ _ _ h => h) (by rfl) ?_ ?_; rotate_left; (focus (intro w' hw'; obtain ⟨k0, k1⟩ := HCV.out w' hw'; go_simp; (try with_reducible rfl))); (try simp only [Act.put, List.setIfInBounds_toArray, List.set_cons_zero, List.set_cons_succ]))
  (refine walkS_take (v := ?_) (some 114) rfl rfl (fun _ _ _ h => h) (by rfl) ?_ ?_; rotate_left; (focus (intro w' hw'; obtain ⟨k0, k1⟩ := HCV.out w' hw'; go_simp; (try with_reducible rfl))); (try simp only [Act.put, List.setIfInBounds_toArray, List.set_cons_zero, List.set_cons_succ]))
  (refine walkS_take (v := ?_) (some 115) rfl rfl (fun _ _ _ h => h) (by rfl) ?_ ?_; rotate_left; (focus (intro w' hw'; obtain ⟨k0, k1⟩ := HCV.out w' hw'; go_simp; (try with_reducible rfl))); (try simp only [Act.put, List.setIfInBounds_toArray, List.set_cons_zero, List.set_cons_succ]))
  first | (refine walkS_skip (some 116) rfl rfl (by rfl) (fun _ _ _ h => h) hS ?_; (try simp only [Act.put, List.setIfInBounds_toArray, List.set_cons_zero, List.set_cons_succ])) | (refine walkS_take (v := ?_) (some 116) rfl rfl (fun _ _ _ h => h) (by rfl) ?_ ?_; rotate_left; (focus (intro w' hw'; obtain ⟨k0, k1⟩ := HCV.out w' hw'; go_simp; (try with_reducible rfl))); (try simp only [Act.put, List.setIfInBounds_toArray, List.set_cons_zero, List.set_cons_succ]))
  first | (refine walkS_skip (some 117) rfl rfl (by rfl) (fun _ _ _ h => h) hS ?_; (try simp only [Act.put, List.setIfInBounds_toArray, List.set_cons_zero, List.set_cons_succ])) | (refine walkS_call 117 _ _ _ _ (HSZ.out) rfl rfl rfl (by rfl) rfl (enter_dsize _ _) ?_; rintro e w13 ⟨rfl, t13⟩; have HT13 := Lib.hid (HN12.out.t.trans t13 (fun _ _ h => h)); have hS := hS.trans t13 (fun _ _ h => h.elim); refine ⟨_, rfl, hS, fun hS => ?_⟩; clear t13; (try simp only [Act.put, List.setIfInBounds_toArray, List.set_cons_zero, List.set_cons_succ]))
  first | (refine walkS_skip (some 118) rfl rfl (by rfl) (fun _ _ _ h => h) hS ?_; (try simp only [Act.put, List.setIfInBounds_toArray, List.set_cons_zero, List.set_cons_succ])) | (refine walkS_take (v := ?_) (some 118) rfl rfl (fun _ _ _ h => h) (by rfl) ?_ ?_; rotate_left; (focus (intro w' hw'; obtain ⟨k0, k1⟩ := HCV.out w' hw'; go_simp; (try with_reducible rfl))); (try simp only [Act.put, List.setIfInBounds_toArray, List.set_cons_zero, List.set_cons_succ]))
  (refine walkS_take (v := ?_) (some 119) rfl rfl (fun _ _ _ h => h) (by rfl) ?_ ?_; rotate_left; (focus (intro w' hw'; obtain ⟨k0, k1⟩ := HCV.out w' hw'; go_simp; (try with_reducible rfl))); (try simp only [Act.put, List.setIfInBounds_toArray, List.set_cons_zero, List.set_cons_succ]))
  (refine walkS_take (v := ?_) (some 120) rfl rfl (fun _ _ _ h => h) (by rfl) ?_ ?_; rotate_left; (focus (intro w' hw'; obtain ⟨k0, k1⟩ := HCV.out w' hw'; go_simp; (try with_reducible rfl))); (try simp only [Act.put, List.setIfInBounds_toArray, List.set_cons_zero, List.set_cons_succ]))
  first | (refine walkS_skip (some 121) rfl rfl (by rfl) (fun _ _ _ h => h) hS ?_; (try simp only [Act.put, List.setIfInBounds_toArray, List.set_cons_zero, List.set_cons_succ])) | (refine walkS_call 121 _ _ _ _ (awake3 _) rfl rfl rfl (by rfl) rfl (enter_awake3 _) ?_; rintro e w14 ⟨rfl, t14⟩; have HT14 := Lib.hid (HT13.out.trans t14 (fun _ _ h => h)); have hS := hS.trans t14 (fun _ _ h => h.elim); refine ⟨_, rfl, hS, fun hS => ?_⟩; clear t14; (try simp only [Act.put, List.setIfInBounds_toArray, List.set_cons_zero, List.set_cons_succ]))
  (refine walkS_take (v := ?_) (some 122) rfl rfl (fun _ _ _ h => h) (by rfl) ?_ ?_; rotate_left; (focus (intro w' hw'; obtain ⟨k0, k1⟩ := HCV.out w' hw'; go_simp; (try with_reducible rfl))); (try simp only [Act.put, List.setIfInBounds_toArray, List.set_cons_zero, List.set_cons_succ]))
  (refine walkS_take (v := ?_) (some 6) rfl rfl (fun _ _ _ h => h) (by rfl) ?_ ?_; rotate_left; (focus (intro w' hw'; obtain ⟨k0, k1⟩ := HCV.out w' hw'; go_simp; (try with_reducible rfl))); (try simp only [Act.put, List.setIfInBounds_toArray, List.set_cons_zero, List.set_cons_succ]))
  refine walkS_done ?_
  go_wp2_with fail
  go_ret
  exact ⟨rfl, HT14.out⟩
theorem diskMoves_holds : Rows.DiskMovesSaid := by
  refine diskMoves.said fun H enc W base v0 v1 v2 d0 d1 d2 p0 p1 p2 h0 h1 h2 => ?_
  obtain ⟨aA, la, ca, A, rfl, hA, -, -⟩ := h0.bytes Try.underlying29 Try.underlying5 (by kernel_rfl) (by kernel_rfl)
  obtain ⟨aB, lb, cb, B, rfl, hB, -, -⟩ := h1.bytes Try.underlying29 Try.underlying5 (by kernel_rfl) (by kernel_rfl)
  obtain ⟨y, rfl, _⟩ := h2.i64 Try.underlying3
  by_cases h : la ≤ 2000 ∧ lb ≤ 2000
  · exact (moves3_walk aA aB la ca lb cb A B y W hA hB h.1 h.2).mono fun e w' h => ⟨h.1, h.2.below (fun _ _ h => h.elim) (Nat.le_refl _)⟩
  · exact (moves3_small aA aB la ca lb cb y W h hA.2.2.2.1 hB.2.2.2.1).mono fun e w' h => ⟨h.1, h.2.below (fun _ _ h => h.elim) (Nat.le_refl _)⟩
end Go.Proofs.Ytmokcfmlolohaaa
