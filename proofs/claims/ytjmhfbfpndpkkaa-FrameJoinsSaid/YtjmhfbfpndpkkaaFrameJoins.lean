/- FrameJoins answers true for any two rows of frames: one behind the other they are scanned as both. No condition. -/
import Derived.Test.YtjmhfbfpndpkkaaFrmApp
import Derived.Test.YtjmhfbfpndpkkaaFrFrameJoins
set_option linter.unusedVariables false
namespace Go.Proofs.Ytjmhfbfpndpkkaa
open Go.RowKit

theorem sameFs_rfl (l : List (Int × Int × List Nat)) : sameFs l l = true := by unfold sameFs; simp
theorem small_of {w : World} {a : Option Addr} {len cap : Nat} {fs : List FrD} (h : RowF w a len cap fs) : ∀ f ∈ fs, ∀ x ∈ f.ys, x < 256 := fun f hf => (h.rows f hf).2.2.2.2.1

theorem nil_own (x : Nat) : (Value.slice none 0 0).ownBlock ≠ some x := by simp [Value.ownBlock]
theorem qap {w : World} {a : Option Addr} {len cap : Nat} {gs : List FrD} {v v' : Value} (h : RowF w a len cap gs) (hp : ∀ k, v'.ownBlock = some k → v.ownBlock = some k ∨ w.heap.size ≤ k) (hv : v.ownBlock = none := by rfl) :
    ∀ f ∈ gs, ∀ x, f.a = some x → f.ys.length = 0 ∨ v'.ownBlock ≠ some x.block := by
  intro f hf x hx
  rcases (h.rows f hf).lt x hx with h0 | h0
  · exact .inl h0
  · refine .inr (fun e => ?_)
    rcases hp _ e with h1 | h1
    · rw [hv] at h1; cases h1
    · omega
theorem ownF_row {w : World} {base n : Nat} {a : Option Addr} {c : Nat} {fs : List FrD} (h : OwnF w base (.slice a n c) fs) : ∃ (x : Option Addr) (y : Nat), fs.length = n ∧ RowF w a n c fs := by
  obtain ⟨x, y, hq, hrow, _⟩ := h.row
  simp only [Value.slice.injEq] at hq
  obtain ⟨rfl, rfl, rfl⟩ := hq
  exact ⟨none, 0, rfl, hrow⟩

set_option maxRecDepth 20000 in
set_option maxHeartbeats 8000000 in
theorem joins_walk (a : Option Addr) (len cap : Nat) (fs : List FrD) (a2 : Option Addr) (len2 cap2 : Nat) (gs : List FrD) (w : World) (hr : RowF w a len cap fs) (hr2 : RowF w a2 len2 cap2 gs) :
    Calls Try.prog 8 #[.slice a len cap, .slice a2 len2 cap2] w fun e w' => e = .returned (.bool true) ∧ Touch w w' (fun _ => False) := by
  have e0 : ((0 : Nat) : Int) = 0 := rfl
  have hA : scanX (manyB fs) = (valsF fs, (manyB fs).length, 0) := by rw [manyB_puts]; exact scan_all _ (valsF_ok fs (small_of hr))
  have hB : scanX (manyB gs) = (valsF gs, (manyB gs).length, 0) := by rw [manyB_puts]; exact scan_all _ (valsF_ok gs (small_of hr2))
  have hAB : scanX (manyB fs ++ manyB gs) = (valsF fs ++ valsF gs, (manyB fs).length + (manyB gs).length, 0) := by
    rw [manyB_puts fs, manyB_puts gs, ← putsF_append, scan_all _ (fun g hg => by
      rcases List.mem_append.1 hg with h | h
      · exact valsF_ok fs (small_of hr) g h
      · exact valsF_ok gs (small_of hr2) g h), putsF_append, List.length_append]
  have hla := manyB_length fs
  have hlb := manyB_length gs
  have hva := valsF_length fs
  have hvb := valsF_length gs
  have HA := Lib.hid hA
  have HB := Lib.hid hB
  have HAB := Lib.hid hAB
  have hc1 := bytes_any a len cap fs none 0 0 [] none 0 0 [] 0 w hr (RowB.nil _ _ _ (by decide)) ⟨rfl, by decide, by decide, by simp, .inl rfl⟩ (by decide) (by decide)
  rw [e0] at hc1
  have HC1 := Lib.hid hc1
  have HR2 := Lib.hid hr2
  clear hA hB hAB hc1 hr hr2
  go_enter Try.func8, Try.ntmps8
  go_wp2_with fail
  (with_reducible refine HC1.out.mono ?_)
  rintro e w1 ⟨a3, c3, xs, rfl, hf1, -, hx1⟩
  have hx2 := hx1 rfl
  rw [List.append_nil] at hx2
  have HXE := Lib.hid hx2
  clear hx1 hx2
  have hc2 := bytes_any a2 len2 cap2 gs none 0 0 [] none 0 0 [] 0 w1 (HR2.out.still hf1.2) (RowB.nil _ _ _ (by decide)) ⟨rfl, by decide, by decide, by simp, .inl rfl⟩ (by decide) (by decide)
  rw [e0] at hc2
  have HC2 := Lib.hid hc2
  have HF1 := Lib.hid hf1
  clear hc2 hf1 HC1
  go_wp2_with fail
  (with_reducible refine HC2.out.mono ?_)
  rintro e w2 ⟨a4, c4, ys, rfl, hf2, -, hy2⟩
  have hy3 := hy2 rfl
  rw [List.append_nil] at hy3
  have hx2 := HXE.out
  clear hy2
  have HT := Lib.hid (HF1.out.2.trans hf2.2 (fun _ _ h => h))
  have HX := Lib.hid (HF1.out.row'.2.touch hf2.2 (fun _ _ => .inr (fun h => h)))
  have HY := Lib.hid hf2.row'.2
  rw [← hx2] at HA HAB hla
  rw [← hy3] at HB HAB hlb
  clear hx2 hy3 hf2 HC2 HF1
  generalize valsF fs = VA at *
  generalize valsF gs = VB at *
  have hla5 : xs.length ≤ 1000000 := by omega
  have hlb5 : ys.length ≤ 1000000 := by omega
  go_wp2_with fail
  (with_reducible refine (scan_any _ _ _ _ _ HX.out hla5).mono ?_)
  rintro e w3 ⟨a5, c5, ps, rfl, hv3, ho3, t3⟩
  rw [HA.out] at hv3 ⊢
  have HX := Lib.hid (HX.out.touch t3 (fun _ _ => .inr (fun h => h)))
  have HY := Lib.hid (HY.out.touch t3 (fun _ _ => .inr (fun h => h)))
  have HT := Lib.hid (HT.out.trans t3 (fun _ _ h => h))
  have HO3 := Lib.hid ho3
  have HV3 := Lib.hid hv3
  have hpl : ps.length ≤ 12 := by have := congrArg List.length hv3; simp at this; omega
  clear hv3 ho3 t3
  go_wp2_with fail
  (with_reducible refine (scan_any _ _ _ _ _ HY.out hlb5).mono ?_)
  rintro e w4 ⟨a6, c6, qs, rfl, hv4, ho4, t4⟩
  rw [HB.out] at hv4 ⊢
  have HX := Lib.hid (HX.out.touch t4 (fun _ _ => .inr (fun h => h)))
  have HY := Lib.hid (HY.out.touch t4 (fun _ _ => .inr (fun h => h)))
  have HT := Lib.hid (HT.out.trans t4 (fun _ _ h => h))
  have HO3 := Lib.hid (HO3.out.still t4)
  have HO4 := Lib.hid ho4
  have HV4 := Lib.hid hv4
  have hql : qs.length ≤ 12 := by have := congrArg List.length hv4; simp at this; omega
  clear hv4 ho4 t4
  have t5 := (Touch.refl w4 (fun _ => False)).alloc (.cells #[] 5)
  have HB5 := Lib.hid (t5.under (Nat.le_refl w4.heap.size))
  have HX5 := Lib.hid (HX.out.touch t5 (fun _ _ => .inr (fun h => h)))
  have HOW : RowKit.Hid (OwnB (w4.alloc (.cells #[] 5)) w4.heap.size 5 (.slice (some ⟨w4.heap.size, 0, none⟩) 0 0) []) := Lib.hid (OwnB.lit w4 _ rfl _ (Nat.le_refl _) 5 #[] 0 [] rfl rfl (by decide) (by decide))
  clear t5
  go_wp2_with (first | (at_builtin; (with_reducible refine wp_appB HOW7.out HY7.out HB7.out (Nat.le_refl _) HB7.out.size rfl _ _ rfl rfl rfl (xs.length + ys.length) _ rfl (List.length_append ..) (by omega) ?_); intro a8 c8 w8 hown hrow hg hb; have HRW8 := Lib.hid hrow; have HT8 := Lib.hid (Touch.ofBelow (S := fun _ => False) hb (fun k h1 h2 => by omega)); clear hown hrow hg hb) | (at_builtin; (with_reducible refine wp_appB HOW.out HX5.out HB5.out (Nat.le_refl _) HB5.out.size rfl _ _ rfl rfl rfl xs.length _ (List.nil_append _) rfl (by omega) ?_); intro a7 c7 w7 hown hrow hg hb; have HOW7 := Lib.hid hown; have HB7 := Lib.hid hb; have HY7 := Lib.hid (HY.out.touch (Touch.ofBelow (S := fun _ => False) hb (fun k h1 h2 => by omega)) (fun _ _ => .inr (fun h => h))); clear hown hrow hg hb))
  have HO3 := Lib.hid (HO3.out.still HT8.out)
  have HO4 := Lib.hid (HO4.out.still HT8.out)
  have HT := Lib.hid (HT.out.trans HT8.out (fun _ _ h => h))
  clear HOW7 HB7 HY7 HX HY HT8
  (with_reducible refine (scan_any _ _ _ _ _ HRW8.out (by omega)).mono ?_)
  rintro e w9 ⟨a9, c9, rs, rfl, hv9, ho9, t9⟩
  rw [HAB.out] at hv9 ⊢
  have HO3 := Lib.hid (HO3.out.still t9)
  have HO4 := Lib.hid (HO4.out.still t9)
  have HT := Lib.hid (HT.out.trans t9 (fun _ _ h => h))
  have HO9 := Lib.hid ho9
  have HV9 := Lib.hid hv9
  obtain ⟨x3, y3, hq3, hrow3, -⟩ := HO3.out.row
  simp only [Value.slice.injEq, true_and] at hq3
  obtain ⟨rfl, rfl⟩ := hq3
  obtain ⟨x4, y4, hq4, hrow4, -⟩ := HO4.out.row
  simp only [Value.slice.injEq, true_and] at hq4
  obtain ⟨rfl, rfl⟩ := hq4
  have HP := Lib.hid hrow3
  have HQ := Lib.hid hrow4
  have hb1 : ((xs.length : Int) == (xs.length : Int)) = true := beq_iff_eq.2 rfl
  have hb2 : ((ys.length : Int) == (ys.length : Int)) = true := beq_iff_eq.2 rfl
  have hb3 : (((xs.length + ys.length : Nat) : Int) == (xs.length : Int) + (ys.length : Int)) = true := beq_iff_eq.2 (by omega)
  clear t9 ho9 hv9 hrow3 hrow4 HRW8
  have HS : RowKit.Hid (sameFs (rs.map FrD.val) ((ps ++ qs).map FrD.val) = true) := Lib.hid (by rw [List.map_append, HV3.out, HV4.out, HV9.out]; exact sameFs_rfl _)
  go_wp2_with (first | (go_at_call 19; (with_reducible refine (rsames_any _ _ _ _ _ _ _ _ _ HR12.out HR11.out).mono ?_); rintro e w13 ⟨rfl, t13⟩; rw [HS.out]; have HT13 := Lib.hid (HT11.out.trans t13 (fun _ _ h => h)); clear t13) | (go_at_call 12; (with_reducible refine (awake4 _).mono ?_); rintro e w14 ⟨rfl, t14⟩; have HT14 := Lib.hid (HT13.out.trans t14 (fun _ _ h => h)); clear t14) | (at_builtin; (with_reducible refine wp_appF' HO10.out HQ10.out HAP.out (by omega) HB10.out (Nat.le_refl _) HB10.out.size rfl _ _ rfl rfl rfl (ps.length + qs.length) _ rfl rfl ?_); intro a11 c11 w11 ho11 hb11 hp11 t11; have HO11 := Lib.hid ho11; have T11 := Lib.hid (Touch.ofBelow (S := fun _ => False) hb11 (fun k h1 h2 => by omega)); clear ho11 hb11 hp11 t11; obtain ⟨x11, y11, hq11, hrow11⟩ := ownF_row HO11.out; have HR11 := Lib.hid hrow11; have HO9x := Lib.hid (HO9.out.still T11.out); obtain ⟨x12, y12, hq12, hrow12, -⟩ := HO9x.out.row; simp only [Value.slice.injEq, true_and] at hq12; obtain ⟨rfl, rfl⟩ := hq12; have HR12 := Lib.hid hrow12; have HT11 := Lib.hid (HT.out.trans T11.out (fun _ _ h => h)); clear hrow11 hrow12) | (at_builtin; (with_reducible refine wp_appF' (OwnF.nil _ w9.heap.size) HP.out (fun f hf x hx => .inr (nil_own _)) (by simp; omega) (Below.refl w9.heap.size w9) (Nat.le_refl _) (Nat.le_refl _) rfl _ _ rfl rfl rfl ps.length _ (Nat.zero_add _) (List.nil_append _) ?_); intro a10 c10 w10 ho10 hb10 hp10 t10; have HO10 := Lib.hid ho10; have HB10 := Lib.hid hb10; have HP10 := Lib.hid hp10; have T10 := Lib.hid (Touch.ofBelow (S := fun _ => False) hb10 (fun k h1 h2 => by omega)); have HQ10 := Lib.hid (HQ.out.still T10.out); have HAP := Lib.hid (qap HQ.out HP10.out); clear ho10 hb10 hp10 t10))
  go_ret
  exact ⟨rfl, HT14.out⟩
theorem frameJoins_holds : Rows.FrameJoinsSaid := by
  refine frameJoins.said fun H enc W base v0 v1 d0 d1 p0 p1 h0 h1 => ?_
  obtain ⟨a, len, cap, fs, rfl, hr, _⟩ := h0.frames
  obtain ⟨a2, len2, cap2, gs, rfl, hr2, _⟩ := h1.frames
  exact (joins_walk a len cap fs a2 len2 cap2 gs W hr hr2).mono fun e w' h => ⟨h.1, h.2.under (Nat.le_refl _)⟩
end Go.Proofs.Ytjmhfbfpndpkkaa
