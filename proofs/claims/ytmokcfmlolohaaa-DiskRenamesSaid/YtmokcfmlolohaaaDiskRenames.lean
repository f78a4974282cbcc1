/- DiskRenames holds: behind a crash a name is the old file or the new one. -/
import Derived.Test.YtmokcfmlolohaaaDskAwk
import Derived.Test.YtmokcfmlolohaaaFrDiskRenames
import Derived.Test.YtmokcfmlolohaaaDiskMoves
set_option linter.unusedVariables false
set_option linter.unusedSimpArgs false
namespace Go.Proofs.Ytmokcfmlolohaaa
open Go.RowKit

/-- All that there is was made sure: without picks a crash changes no file. -/
theorem dkCrF_full : ∀ (L : List NmD) (F : Nat → DkFc), (∀ x ∈ L, ∀ g, x.f = some g → (F g).s = (F g).b.length) → dkCrF L [] F = F
  | [], F, _ => rfl
  | x :: L, F, h => by
    have e : dkCr1 x [] F = F := by
      unfold dkCr1
      cases hx : x.f with
      | none => rfl
      | some g =>
        simp only
        have hs := h x List.mem_cons_self g hx
        funext k
        unfold keepF fPut
        split
        · rename_i e
          subst e
          rw [hs]
          simp only [pick0, Nat.sub_self, Nat.add_zero, List.take_length]
          rw [← hs]
        · rfl
    rw [dkCrF, e]
    exact dkCrF_full L F (fun y hy => h y (List.mem_cons_of_mem _ hy))
def sM : ByteArray := ⟨#[109]⟩
def sMn : ByteArray := ⟨#[109, 46, 110, 101, 119]⟩
theorem sM_name : 1 ≤ sM.size ∧ sM.size ≤ 16 := by decide
theorem sMn_name : 1 ≤ sMn.size ∧ sMn.size ≤ 16 := by decide
theorem sM_sz : szN sM := by unfold szN; decide
theorem sMn_sz : szN sMn := by unfold szN; decide
theorem sMM : sMn ≠ sM := by decide
theorem R1n (g : Nat) : dkAll [] [⟨0, sM, ⟨#[]⟩, some g⟩] = [⟨sM, some g⟩] := by kernel_rfl
theorem R2n (g1 g2 : Nat) : dkAll [⟨sM, some g1⟩] [⟨0, sMn, ⟨#[]⟩, some g2⟩] = [⟨sMn, some g2⟩, ⟨sM, some g1⟩] := by kernel_rfl
theorem R3n (g1 g2 : Nat) : dkAll [⟨sM, some g1⟩] [⟨0, sMn, ⟨#[]⟩, some g2⟩, ⟨1, sMn, sM, none⟩] = [⟨sM, some g2⟩] := by kernel_rfl
theorem rM1 (g : Nat) : getN [⟨sM, some g⟩] sM = some g := by kernel_rfl
theorem rN1 (g : Nat) : getN [⟨sM, some g⟩] sMn = none := by kernel_rfl
theorem rN2 (g1 g2 : Nat) : getN [⟨sMn, some g2⟩, ⟨sM, some g1⟩] sMn = some g2 := by kernel_rfl
section
variable (g1 g2 : Nat) (F : Nat → DkFc) (p : Nat) (A B : List Nat) (hA : F g1 = ⟨A, A.length⟩) (hB : F g2 = ⟨B, B.length⟩)
include hA hB
theorem cr_full (L : List NmD) (hL : ∀ x ∈ L, x.f = some g1 ∨ x.f = some g2) : dkCrF (dkSort L) [] F = F :=
  dkCrF_full _ F (fun x hx g hg => by
    rcases hL x ((dkSort_perm L).mem_iff.1 hx) with h | h
    · rw [h] at hg; cases hg; rw [hA]
    · rw [h] at hg; cases hg; rw [hB])
theorem cr_0 (hp : p % 3 = 0) : dkCrash ⟨100000, 6, 0, [⟨sM, some g1⟩], [⟨0, sMn, ⟨#[]⟩, some g2⟩, ⟨1, sMn, sM, none⟩], F⟩ [p] = ⟨100000, 6, 0, [⟨sM, some g1⟩], [], F⟩ := by
  have e : dkCrS ⟨100000, 6, 0, [⟨sM, some g1⟩], [⟨0, sMn, ⟨#[]⟩, some g2⟩, ⟨1, sMn, sM, none⟩], F⟩ [p] = [⟨sM, some g1⟩] := by
    unfold dkCrS pick0
    simp only [List.length_cons, List.length_nil, hp]
    kernel_rfl
  unfold dkCrash
  rw [e]
  simp only [List.tail_cons, cr_full g1 g2 F A B hA hB [⟨sM, some g1⟩] (by simp)]
theorem cr_1 (hp : p % 3 = 1) : dkCrash ⟨100000, 6, 0, [⟨sM, some g1⟩], [⟨0, sMn, ⟨#[]⟩, some g2⟩, ⟨1, sMn, sM, none⟩], F⟩ [p] = ⟨100000, 6, 0, [⟨sMn, some g2⟩, ⟨sM, some g1⟩], [], F⟩ := by
  have e : dkCrS ⟨100000, 6, 0, [⟨sM, some g1⟩], [⟨0, sMn, ⟨#[]⟩, some g2⟩, ⟨1, sMn, sM, none⟩], F⟩ [p] = [⟨sMn, some g2⟩, ⟨sM, some g1⟩] := by
    unfold dkCrS pick0
    simp only [List.length_cons, List.length_nil, hp]
    kernel_rfl
  unfold dkCrash
  rw [e]
  simp only [List.tail_cons, cr_full g1 g2 F A B hA hB [⟨sMn, some g2⟩, ⟨sM, some g1⟩] (by simp)]
theorem cr_2 (hp : p % 3 = 2) : dkCrash ⟨100000, 6, 0, [⟨sM, some g1⟩], [⟨0, sMn, ⟨#[]⟩, some g2⟩, ⟨1, sMn, sM, none⟩], F⟩ [p] = ⟨100000, 6, 0, [⟨sM, some g2⟩], [], F⟩ := by
  have e : dkCrS ⟨100000, 6, 0, [⟨sM, some g1⟩], [⟨0, sMn, ⟨#[]⟩, some g2⟩, ⟨1, sMn, sM, none⟩], F⟩ [p] = [⟨sM, some g2⟩] := by
    unfold dkCrS pick0
    simp only [List.length_cons, List.length_nil, hp]
    kernel_rfl
  unfold dkCrash
  rw [e]
  simp only [List.tail_cons, cr_full g1 g2 F A B hA hB [⟨sM, some g2⟩] (by simp)]
end
theorem ren3_small (aA aB : Option Addr) (la ca lb cb : Nat) (p : Nat) (w : World) (hb : ¬ (la ≤ 2000 ∧ lb ≤ 2000)) (h1 : la ≤ 281474976710656) (h2 : lb ≤ 281474976710656) :
    Calls Try.prog 6 #[.slice aA la ca, .slice aB lb cb, .int .u8 (p : Nat)] w fun e w' => e = .returned (.bool true) ∧ Touch w w' (fun _ => False) := by
  by_cases ha : (2000 : Int) < la
  · clear hb
    go_enter Try.func6, Try.ntmps6
    go_wp2_with fail
    refine (awake3 w).mono ?_
    rintro e w1 ⟨rfl, t1⟩
    have HT := Lib.hid t1
    clear t1
    go_wp2_with fail
    go_ret
    exact ⟨rfl, HT.out⟩
  · have hb2 : (2000 : Int) < lb := by omega
    clear hb
    go_enter Try.func6, Try.ntmps6
    go_wp2_with fail
    refine (awake3 w).mono ?_
    rintro e w1 ⟨rfl, t1⟩
    have HT := Lib.hid t1
    clear t1
    go_wp2_with fail
    go_ret
    exact ⟨rfl, HT.out⟩
set_option maxRecDepth 20000 in
set_option maxHeartbeats 16000000 in
theorem ren3_walk (aA aB : Option Addr) (la ca lb cb : Nat) (A B : List Nat) (p : Nat) (w : World) (hA : RowB w aA la ca A) (hB : RowB w aB lb cb B) (hla : la ≤ 2000) (hlb : lb ≤ 2000) (hp : p < 256) :
    Calls Try.prog 6 #[.slice aA la ca, .slice aB lb cb, .int .u8 (p : Nat)] w fun e w' => e = .returned (.bool true) ∧ Touch w w' (fun _ => False) := by
  have HA := Lib.hid hA
  have HB := Lib.hid hB
  have hAl : A.length = la := hA.1
  have hBl : B.length = lb := hB.1
  have i0 : ¬ (2000 : Int) < la := by omega
  have i1 : ¬ (2000 : Int) < lb := by omega
  have HAL := Lib.hid hAl
  have HBL := Lib.hid hBl
  clear hA hB hAl hBl
  go_enter Try.func6, Try.ntmps6
  go_wp2_with fail
  refine (dnew_any w 100000 (by decide)).mono ?_
  rintro e w1 ⟨d, h1, rfl, n1⟩
  have HN := Lib.hid n1
  have HC := Lib.hid (HN.out.app sM sM_sz (HN.out.rowB HA.out) (HN.out.offB HA.out) (by decide))
  clear n1
  go_wp2_with fail
  refine HC.out.mono ?_
  rintro e w2 ⟨g1, -, rfl, h2, n2, -, -, -⟩
  have p1 := app_new (q := 100000) (o := 0) (o' := 1) (S := []) (C := []) (F := F0) (g := g1) (xs := A) (k := sM) (N := []) (by unfold wrap64; omega) rfl sM_name rfl (by rw [HAL.out]; unfold szF; simp; omega) (by rw [HAL.out]; omega) (by decide)
  rw [show dkNew 100000 = (⟨100000, 0, 0, [], [], F0⟩ : DkS) from rfl, p1.2] at n2
  rw [show dkNew 100000 = (⟨100000, 0, 0, [], [], F0⟩ : DkS) from rfl, p1.1]
  have hF1 := fPut_same F0 g1 ⟨A, 0⟩
  obtain ⟨F1, hF1e⟩ : ∃ F1, fPut F0 g1 ⟨A, 0⟩ = F1 := ⟨_, rfl⟩
  rw [hF1e] at hF1 n2
  simp only [List.nil_append] at n2
  have HN := Lib.hid n2
  have HC := Lib.hid (HN.out.sync sM sM_sz)
  rw [(on_at (R1n g1) (rM1 g1)).1, sync_at (o' := 2) (by unfold wrap64; omega) (R1n g1) (rM1 g1)] at HC
  have hF1' : fPut F1 g1 ⟨(F1 g1).b, (F1 g1).b.length⟩ g1 = ⟨A, A.length⟩ := by rw [fPut_same, hF1]
  obtain ⟨F1', hF1e'⟩ : ∃ F1', fPut F1 g1 ⟨(F1 g1).b, (F1 g1).b.length⟩ = F1' := ⟨_, rfl⟩
  rw [hF1e'] at hF1' HC
  clear n2 p1 hF1e hF1e' hF1
  go_wp2_with fail
  refine HC.out.mono ?_
  rintro e w3 ⟨rfl, h3, n3, -, -, -⟩
  have HN := Lib.hid n3
  have HC := Lib.hid (HN.out.syncdir (show 1 ≤ 100000 by decide))
  have p3 := syncdir_at (q := 100000) (o := 2) (o' := 3) (F := F1') (by unfold wrap64; omega) (R1n g1)
  rw [p3.1, p3.2] at HC
  clear n3 p3
  go_wp2_with fail
  refine HC.out.mono ?_
  rintro e w4 ⟨rfl, h4, n4, -, -, -⟩
  have HN := Lib.hid n4
  have hT1 := n4.m.get (k := sM) (g := g1) (rM1 g1)
  have HC := Lib.hid (HN.out.app sMn sMn_sz (HN.out.rowB HB.out) (HN.out.offB HB.out) (show 0 ≤ 100000 by decide))
  clear n4
  go_wp2_with fail
  refine HC.out.mono ?_
  rintro e w5 ⟨g2, hg2, rfl, h5, n5, -, -, -⟩
  have hne : g1 ≠ g2 := fun e => by rw [e, hg2] at hT1; cases hT1
  have p5 := app_new (q := 100000) (o := 3) (o' := 4) (S := [⟨sM, some g1⟩]) (C := []) (F := F1') (g := g2) (xs := B) (k := sMn) (N := [⟨sM, some g1⟩]) (by unfold wrap64; omega) rfl sMn_name (rN1 g1) (by rw [HBL.out]; unfold szF; simp [hF1', HAL.out]; omega) (by rw [HBL.out]; omega) (by simp)
  rw [p5.2] at n5
  rw [p5.1]
  simp only [List.nil_append] at n5
  have hF2a : fPut F1' g2 ⟨B, 0⟩ g1 = ⟨A, A.length⟩ := by rw [fPut_ne _ _ hne, hF1']
  have hF2b : fPut F1' g2 ⟨B, 0⟩ g2 = ⟨B, 0⟩ := fPut_same _ _ _
  obtain ⟨F2, hF2e⟩ : ∃ F2, fPut F1' g2 ⟨B, 0⟩ = F2 := ⟨_, rfl⟩
  rw [hF2e] at hF2a hF2b n5
  have HN := Lib.hid n5
  have HC := Lib.hid (HN.out.sync sMn sMn_sz)
  rw [(on_at (R2n g1 g2) (rN2 g1 g2)).1, sync_at (o' := 5) (by unfold wrap64; omega) (R2n g1 g2) (rN2 g1 g2)] at HC
  have hF3a : fPut F2 g2 ⟨(F2 g2).b, (F2 g2).b.length⟩ g1 = ⟨A, A.length⟩ := by rw [fPut_ne _ _ hne, hF2a]
  have hF3b : fPut F2 g2 ⟨(F2 g2).b, (F2 g2).b.length⟩ g2 = ⟨B, B.length⟩ := by rw [fPut_same, hF2b]
  obtain ⟨F3, hF3e⟩ : ∃ F3, fPut F2 g2 ⟨(F2 g2).b, (F2 g2).b.length⟩ = F3 := ⟨_, rfl⟩
  rw [hF3e] at hF3a hF3b HC
  clear n5 p5 hF2e hF3e hg2 hT1 hF1' hF2a hF2b
  go_wp2_with fail
  refine HC.out.mono ?_
  rintro e w6 ⟨rfl, h6, n6, -, -, -⟩
  have HN := Lib.hid n6
  have HC := Lib.hid (HN.out.ren sMn sM sMn_sz sM_sz (show 1 ≤ 100000 by decide))
  have p6 := ren_at (q := 100000) (o := 5) (o' := 6) (t := sM) (F := F3) (by unfold wrap64; omega) (R2n g1 g2) (rN2 g1 g2) sM_name sMM
  rw [p6.1, p6.2] at HC
  simp only [List.cons_append, List.nil_append] at HC
  clear n6 p6
  go_wp2_with fail
  refine HC.out.mono ?_
  rintro e w7 ⟨rfl, h7, n7, -, -, -⟩
  have HN := Lib.hid n7
  have hr1 := lit_row w7 [p] #[.int .u8 (p : Nat)] 1 rfl rfl (by intro x hx; rw [List.mem_singleton.1 hx]; exact hp) (by decide)
  have tt1 := (Touch.refl w7 (fun _ => False)).alloc (.cells #[.int .u8 (p : Nat)] 5)
  have HC := Lib.hid ((HN.out.still tt1).crash hr1 (fun x hx => .inr (fun hf => by cases hx; have h1 := HN.out.m.lt _ hf; have h1 : w7.heap.size < w7.heap.size := h1; omega)) (show 2 ≤ 100000 by decide))
  clear hr1 tt1 n7
  rcases (by omega : p % 3 = 0 ∨ p % 3 = 1 ∨ p % 3 = 2) with hp0 | hp1 | hp2
  · have q0 : (p : Int) % 3 = 0 := by omega
    go_wp2_with fail
    refine HC.out.mono ?_
    rintro e w9 ⟨rfl, h9, n9, -, -, -⟩
    rw [cr_0 g1 g2 F3 p A B hF3a hF3b hp0] at n9
    have HN := Lib.hid n9
    have HC := Lib.hid (HN.out.read sM sM_sz)
    have p9 := read_at (q := 100000) (o := 6) (k := sM) (F := F3) (C := []) (S := [⟨sM, some g1⟩]) (N := [⟨sM, some g1⟩]) 0 rfl (by kernel_rfl : getN [⟨sM, some g1⟩] sM = some g1)
    rw [hF3a] at p9
    rw [p9.1, p9.2] at HC
    clear n9 p9
    go_wp2_with fail
    refine HC.out.mono ?_
    rintro e w10 ⟨a10, c10, rfl, r10, -, n10, t10⟩
    rw [HAL.out] at r10 ⊢
    have HN := Lib.hid n10
    have HRA := HN.out.rowB HA.out
    have HRB := HN.out.rowB HB.out
    have k0 := run_string_of (P := Try.prog) r10 29 9 5 Try.underlying29 Try.underlying5 Try.underlying9
    have k1 := run_string_of (P := Try.prog) HRA 29 9 5 Try.underlying29 Try.underlying5 Try.underlying9
    have k2 := run_string_of (P := Try.prog) HRB 29 9 5 Try.underlying29 Try.underlying5 Try.underlying9
    have HNS := Lib.hid (dnames_any w10 d _ _ HN.out.m)
    rw [show (DkS.N ⟨100000, 6, 0, [⟨sM, some g1⟩], [], F3⟩).length = 1 from rfl] at HNS
    clear n10 t10 r10 HRA HRB
    go_wp2_with (first
      | (go_at_call 29; (with_reducible refine HNS.out.mono ?_); rintro e w11 ⟨an, cn, rfl, -, t11⟩; have HT11 := Lib.hid (HN.out.t.trans t11 (fun _ _ h => h)); clear t11)
      | (go_at_call 13; (with_reducible refine (awake3 _).mono ?_); rintro e w12 ⟨rfl, t12⟩; have HT12 := Lib.hid (HT11.out.trans t12 (fun _ _ h => h)); clear t12))
    go_ret
    exact ⟨rfl, HT12.out⟩
  · have q0 : (p : Int) % 3 = 1 := by omega
    go_wp2_with fail
    refine HC.out.mono ?_
    rintro e w9 ⟨rfl, h9, n9, -, -, -⟩
    rw [cr_1 g1 g2 F3 p A B hF3a hF3b hp1] at n9
    have HN := Lib.hid n9
    have HC := Lib.hid (HN.out.read sM sM_sz)
    have p9 := read_at (q := 100000) (o := 6) (k := sM) (F := F3) (C := []) (S := [⟨sMn, some g2⟩, ⟨sM, some g1⟩]) (N := [⟨sMn, some g2⟩, ⟨sM, some g1⟩]) 0 rfl (by kernel_rfl : getN [⟨sMn, some g2⟩, ⟨sM, some g1⟩] sM = some g1)
    rw [hF3a] at p9
    rw [p9.1, p9.2] at HC
    clear n9 p9
    go_wp2_with fail
    refine HC.out.mono ?_
    rintro e w10 ⟨a10, c10, rfl, r10, -, n10, t10⟩
    rw [HAL.out] at r10 ⊢
    have HN := Lib.hid n10
    have HRA := HN.out.rowB HA.out
    have HRB := HN.out.rowB HB.out
    have k0 := run_string_of (P := Try.prog) r10 29 9 5 Try.underlying29 Try.underlying5 Try.underlying9
    have k1 := run_string_of (P := Try.prog) HRA 29 9 5 Try.underlying29 Try.underlying5 Try.underlying9
    have k2 := run_string_of (P := Try.prog) HRB 29 9 5 Try.underlying29 Try.underlying5 Try.underlying9
    have HNS := Lib.hid (dnames_any w10 d _ _ HN.out.m)
    rw [show (DkS.N ⟨100000, 6, 0, [⟨sMn, some g2⟩, ⟨sM, some g1⟩], [], F3⟩).length = 2 from rfl] at HNS
    clear n10 t10 r10 HRA HRB
    go_wp2_with (first
      | (go_at_call 29; (with_reducible refine HNS.out.mono ?_); rintro e w11 ⟨an, cn, rfl, -, t11⟩; have HT11 := Lib.hid (HN.out.t.trans t11 (fun _ _ h => h)); clear t11)
      | (go_at_call 13; (with_reducible refine (awake3 _).mono ?_); rintro e w12 ⟨rfl, t12⟩; have HT12 := Lib.hid (HT11.out.trans t12 (fun _ _ h => h)); clear t12))
    go_ret
    exact ⟨rfl, HT12.out⟩
  · have q0 : (p : Int) % 3 = 2 := by omega
    go_wp2_with fail
    refine HC.out.mono ?_
    rintro e w9 ⟨rfl, h9, n9, -, -, -⟩
    rw [cr_2 g1 g2 F3 p A B hF3a hF3b hp2] at n9
    have HN := Lib.hid n9
    have HC := Lib.hid (HN.out.read sM sM_sz)
    have p9 := read_at (q := 100000) (o := 6) (k := sM) (F := F3) (C := []) (S := [⟨sM, some g2⟩]) (N := [⟨sM, some g2⟩]) 0 rfl (by kernel_rfl : getN [⟨sM, some g2⟩] sM = some g2)
    rw [hF3b] at p9
    rw [p9.1, p9.2] at HC
    clear n9 p9
    go_wp2_with fail
    refine HC.out.mono ?_
    rintro e w10 ⟨a10, c10, rfl, r10, -, n10, t10⟩
    rw [HBL.out] at r10 ⊢
    have HN := Lib.hid n10
    have HRA := HN.out.rowB HA.out
    have HRB := HN.out.rowB HB.out
    have k0 := run_string_of (P := Try.prog) r10 29 9 5 Try.underlying29 Try.underlying5 Try.underlying9
    have k1 := run_string_of (P := Try.prog) HRA 29 9 5 Try.underlying29 Try.underlying5 Try.underlying9
    have k2 := run_string_of (P := Try.prog) HRB 29 9 5 Try.underlying29 Try.underlying5 Try.underlying9
    have HNS := Lib.hid (dnames_any w10 d _ _ HN.out.m)
    rw [show (DkS.N ⟨100000, 6, 0, [⟨sM, some g2⟩], [], F3⟩).length = 1 from rfl] at HNS
    clear n10 t10 r10 HRA HRB
    obtain ⟨c, hc⟩ : ∃ c, ((strB B).toList == (strB A).toList) = c := ⟨_, rfl⟩
    cases c with
    | true =>
      go_wp2_with (first
        | (go_at_call 29; (with_reducible refine HNS.out.mono ?_); rintro e w11 ⟨an, cn, rfl, -, t11⟩; have HT11 := Lib.hid (HN.out.t.trans t11 (fun _ _ h => h)); clear t11)
        | (go_at_call 13; (with_reducible refine (awake3 _).mono ?_); rintro e w12 ⟨rfl, t12⟩; have HT12 := Lib.hid (HT11.out.trans t12 (fun _ _ h => h)); clear t12))
      go_ret
      exact ⟨rfl, HT12.out⟩
    | false =>
      go_wp2_with (first
        | (go_at_call 29; (with_reducible refine HNS.out.mono ?_); rintro e w11 ⟨an, cn, rfl, -, t11⟩; have HT11 := Lib.hid (HN.out.t.trans t11 (fun _ _ h => h)); clear t11)
        | (go_at_call 13; (with_reducible refine (awake3 _).mono ?_); rintro e w12 ⟨rfl, t12⟩; have HT12 := Lib.hid (HT11.out.trans t12 (fun _ _ h => h)); clear t12))
      go_ret
      exact ⟨rfl, HT12.out⟩
theorem diskRenames_holds : Rows.DiskRenamesSaid := by
  refine diskRenames.said fun H enc W base v0 v1 v2 d0 d1 d2 p0 p1 p2 h0 h1 h2 => ?_
  obtain ⟨aA, la, ca, A, rfl, hA, -, -⟩ := h0.bytes Try.underlying29 Try.underlying5 (by kernel_rfl) (by kernel_rfl)
  obtain ⟨aB, lb, cb, B, rfl, hB, -, -⟩ := h1.bytes Try.underlying29 Try.underlying5 (by kernel_rfl) (by kernel_rfl)
  obtain ⟨y, rfl, hy⟩ := h2.u8 Try.underlying5
  by_cases h : la ≤ 2000 ∧ lb ≤ 2000
  · exact (ren3_walk aA aB la ca lb cb A B y W hA hB h.1 h.2 hy).mono fun e w' h => ⟨h.1, h.2.below (fun _ _ h => h.elim) (Nat.le_refl _)⟩
  · exact (ren3_small aA aB la ca lb cb y W h hA.2.2.2.1 hB.2.2.2.1).mono fun e w' h => ⟨h.1, h.2.below (fun _ _ h => h.elim) (Nat.le_refl _)⟩
end Go.Proofs.Ytmokcfmlolohaaa
