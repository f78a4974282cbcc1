/- Frames one behind the other: what Scan of package frame answers, and the reference's. -/
import Derived.Test.YtjmhfbfpndpkkaaFrmScan
import Derived.Test.YtjmhfbfpndpkkaaFrmRTake
set_option linter.unusedVariables false
namespace Go.Proofs.Ytjmhfbfpndpkkaa
open Go.RowKit

/-- What Scan hands back. -/
def ScanIs (w w' : World) (xs : List Nat) (e : Ending) : Prop :=
  ∃ (a' : Option Addr) (cap' : Nat) (fs : List FrD), e = .returned (.tuple #[.slice a' fs.length cap', .int .i64 ((scanX xs).2.1 : Nat), .int .i64 ((scanX xs).2.2 : Nat)]) ∧ fs.map FrD.val = (scanX xs).1 ∧ OwnF w' w.heap.size (.slice a' fs.length cap') fs ∧ Touch w w' (fun _ => False)
/-- What stands at the head of its loop. -/
def ScanAt (w : World) (xs : List Nat) (len : Nat) (l i : Value) (wr : World) : Prop :=
  ∃ (k : Nat) (a : Option Addr) (c : Nat) (fs : List FrD), k ≤ len ∧ i = .int .i64 k ∧ l = .slice a fs.length c ∧ OwnF wr w.heap.size (.slice a fs.length c) fs ∧ Touch w wr (fun _ => False) ∧ fs.length * 16 ≤ k ∧
    scanX xs = (fs.map FrD.val ++ (scanX (xs.drop k)).1, k + (scanX (xs.drop k)).2.1, (scanX (xs.drop k)).2.2)

set_option maxRecDepth 20000 in
set_option maxHeartbeats 8000000 in
theorem scan_any (a : Option Addr) (len cap : Nat) (xs : List Nat) (w : World) (hr : RowB w a len cap xs) (hlen : len ≤ 1000000) :
    Calls Try.prog 17 #[.slice a len cap] w fun e w' => ScanIs w w' xs e := by
  have hx := hr.1
  have hcap := hr.2.1
  have HR := Lib.hid hr
  have HX := Lib.hid hx
  have HIF := Lib.hid infoFr
  have HIS := Lib.hid infoF
  clear hr hx
  go_enter Try.func17, Try.ntmps17
  go_wp2_with fail
  go_loopw [5, 6] (fun l i wr => ScanAt w xs len l i wr) (fun _ i _ => len - (intOf i).toNat)
  case atStart => exact ⟨0, none, 0, [], Nat.zero_le _, rfl, rfl, OwnF.nil _ _, Touch.refl _ _, by simp, by simp⟩
  case round =>
    obtain ⟨k, al, cl, fs, hk, rfl, rfl, ho, ht, hn, hs⟩ := hrel
    have HO := Lib.hid ho
    have HT := Lib.hid ht
    have HS := Lib.hid hs
    clear ho ht hs
    by_cases hlt : k < len
    case neg =>
      obtain rfl : len = k := by omega
      have hlt' : ¬ (len : Int) < len := by omega
      have hd : xs.drop len = [] := List.drop_of_length_le (by rw [HX.out]; omega)
      have hS := HS.out
      rw [hd, scanX_nil] at hS
      have HS2 := Lib.hid hS
      clear hd hS
      go_wp2
      go_ret3
      refine ⟨al, cl, fs, ?_, ?_, HO.out, HT.out⟩
      · rw [HS2.out]; rfl
      · rw [HS2.out]; simp
    case pos =>
    have hlt' : (k : Int) < len := by omega
    have hr := HR.out.touch HT.out (fun _ _ => .inr (fun h => h))
    obtain ⟨A, C, hsl, hP⟩ := slice_l a len cap (k : Int) k rfl (by omega) hcap
    have hrow := hP.row _ _ hr (Nat.le_refl _)
    rw [List.take_of_length_le (by rw [HX.out]; omega)] at hrow
    have hYn : xs.drop k ≠ [] := by
      intro e
      have := congrArg List.length e
      simp [HX.out] at this; omega
    have hYl : (xs.drop k).length = len - k := by simp [HX.out]
    have hdd : ∀ j, (xs.drop k).drop j = xs.drop (k + j) := fun j => by rw [List.drop_drop]
    have HDD := Lib.hid hdd
    have HYN := Lib.hid hYn
    have HYL := Lib.hid hYl
    have HROW := Lib.hid hrow
    generalize xs.drop k = Y at *
    have HTK := Lib.hid (take_any A (len - k) C Y wr HROW.out (by omega))
    have hk0 : (k : Int) ≤ len := by omega
    clear hr hP hrow hYn hYl hdd
    go_wp2_with fail
    (with_reducible refine HTK.out.mono ?_)
    rintro e w1 ⟨a1, c1, rfl, hf1⟩
    have HF := Lib.hid hf1
    have HT1 := Lib.hid hf1.2
    clear hf1 HTK hsl
    simp only [fcs]
    by_cases he : tkE Y = 0
    case neg =>
      have hb : ((tkE Y : Int) != 0) = true := bne_iff_ne.2 (by omega)
      have hS := HS.out
      rw [scanX_bad HYN.out he] at hS
      have HS2 := Lib.hid hS
      clear hS he
      have t2 := (Touch.refl w1 (fun _ => False)).alloc (.cells #[.int .i64 (tkK Y : Nat), .int .i64 (tkV Y : Nat), .slice a1 (tkY Y).length c1] 24)
      have T2 := Lib.hid (HT1.out.trans t2 (fun _ _ h => h))
      clear t2
      generalize tkE Y = E at *
      go_wp2
      go_ret3
      refine ⟨al, cl, fs, ?_, ?_, HO.out.still T2.out, HT.out.trans T2.out (fun _ _ h => h)⟩
      · rw [HS2.out]; rfl
      · rw [HS2.out]; simp
    case pos =>
      have hb : ((tkE Y : Int) != 0) = false := bne_eq_false_iff_eq.2 (by omega)
      obtain ⟨hM, hMl⟩ := tk_len he
      have hS := HS.out
      rw [scanX_cons HYN.out he, HDD.out] at hS
      have HS2 := Lib.hid hS
      have hyl := HYL.out
      have hM2 : 16 ≤ tkM Y ∧ tkM Y ≤ len - k := by omega
      obtain ⟨f1, hf1⟩ : ∃ f : FrD, f = ⟨(tkK Y : Nat), (tkV Y : Nat), a1, c1, tkY Y⟩ := ⟨_, rfl⟩
      have HVAL : RowKit.Hid (f1.val = ((tkK Y : Int), (tkV Y : Int), tkY Y)) := Lib.hid (by rw [hf1]; rfl)
      have HCE : RowKit.Hid (f1.cells = [.int .i64 (tkK Y : Nat), .int .i64 (tkV Y : Nat), .slice a1 (tkY Y).length c1]) := Lib.hid (by rw [hf1]; rfl)
      have HRW : RowKit.Hid (RowB w1 f1.a f1.ys.length f1.cap f1.ys) := Lib.hid (by rw [hf1]; exact HF.out.row'.2)
      have HAP : RowKit.Hid (∀ x, f1.a = some x → f1.ys.length = 0 ∨ (Value.slice al fs.length cl).ownBlock ≠ some x.block) := Lib.hid (by
        rw [hf1]
        intro x hx
        right
        intro e
        have h1 := (HO.out.own.lt _ e).2
        simp only at hx
        have h2 := (HF.out.1.own.lt x.block (by rw [hx]; rfl)).1
        omega)
      clear hf1 hM hMl hyl hS he
      generalize (tkY Y).length = LY at *
      generalize tkK Y = KY at *
      generalize tkV Y = VY at *
      generalize tkM Y = MY at *
      have t2 := (Touch.refl w1 (fun _ => False)).alloc (.cells #[.int .i64 (KY : Nat), .int .i64 (VY : Nat), .slice a1 LY c1] 24)
      have t3 := t2.alloc (.cells #[.int .i64 (KY : Nat), .int .i64 (VY : Nat), .slice a1 LY c1] 24)
      have hq : ((w1.alloc (.cells #[.int .i64 (KY : Nat), .int .i64 (VY : Nat), .slice a1 LY c1] 24)).alloc (.cells #[.int .i64 (KY : Nat), .int .i64 (VY : Nat), .slice a1 LY c1] 24)).heap[w1.heap.size + 1]? = some (.cells #[.int .i64 (KY : Nat), .int .i64 (VY : Nat), .slice a1 LY c1] 24 (0, 0)) := by
        have := heap_alloc_new (w1.alloc (.cells #[.int .i64 (KY : Nat), .int .i64 (VY : Nat), .slice a1 LY c1] 24)) (.cells #[.int .i64 (KY : Nat), .int .i64 (VY : Nat), .slice a1 LY c1] 24)
        simpa using this
      have HQ := Lib.hid (news_of hq)
      have T3 := Lib.hid (HT1.out.trans t3 (fun _ _ h => h))
      have HT3 := Lib.hid (HT.out.trans T3.out (fun _ _ h => h))
      have HO3 := Lib.hid (HO.out.still T3.out)
      have HRW3 := Lib.hid (HRW.out.touch t3 (fun _ _ => .inr (fun h => h)))
      have hfl : fs.length + 1 ≤ 100000 := by omega
      clear t2 t3 hq
      go_wp2_with (at_builtin; (with_reducible refine wp_appR HO3.out.own 31 Try.underlying31 _ 40 HIF.out rfl (by decide) ⟨w1.heap.size + 1, 0, none⟩ 1 1 _ rfl HQ.out (by simp [Value.oneCell']) (by simp only [maxLen]; omega) (by omega) (HT3.out.under (Nat.le_refl _)) (Nat.le_refl _) HT3.out.size rfl _ _ rfl rfl rfl ?_); intro a4 c4 w4 ho4 hg4 hb4 hp4; rw [← HCE.out] at ho4; have HO4 := Lib.hid (HO3.out.add HRW3.out HAP.out ho4 hg4 hp4); have HT4 := Lib.hid (Touch.ofBelow (S := fun _ => False) hb4 (fun k h1 h2 => by omega)); clear ho4 hg4 hb4 hp4)
      refine ⟨⟨k + MY, a4, c4, fs ++ [f1], by omega, by go_num, by simp, by simpa using HO4.out, HT4.out, by simp; omega, ?_⟩, by simp [intOf]; omega⟩
      rw [HS2.out]
      simp [HVAL.out, Nat.add_assoc]

set_option maxRecDepth 20000 in
set_option maxHeartbeats 8000000 in
theorem rscan_any (a : Option Addr) (len cap : Nat) (xs : List Nat) (w : World) (hr : RowB w a len cap xs) (hlen : len ≤ 1000000) :
    Calls Try.prog 18 #[.slice a len cap] w fun e w' => ScanIs w w' xs e := by
  have hx := hr.1
  have hcap := hr.2.1
  have HR := Lib.hid hr
  have HX := Lib.hid hx
  have HIF := Lib.hid infoFr
  have HIS := Lib.hid infoF
  clear hr hx
  go_enter Try.func18, Try.ntmps18
  go_wp2_with fail
  go_loopw [5, 6] (fun l i wr => ScanAt w xs len l i wr) (fun _ i _ => len - (intOf i).toNat)
  case atStart => exact ⟨0, none, 0, [], Nat.zero_le _, rfl, rfl, OwnF.nil _ _, Touch.refl _ _, by simp, by simp⟩
  case round =>
    obtain ⟨k, al, cl, fs, hk, rfl, rfl, ho, ht, hn, hs⟩ := hrel
    have HO := Lib.hid ho
    have HT := Lib.hid ht
    have HS := Lib.hid hs
    clear ho ht hs
    by_cases hlt : k < len
    case neg =>
      obtain rfl : len = k := by omega
      have hlt' : ¬ (len : Int) < len := by omega
      have hd : xs.drop len = [] := List.drop_of_length_le (by rw [HX.out]; omega)
      have hS := HS.out
      rw [hd, scanX_nil] at hS
      have HS2 := Lib.hid hS
      clear hd hS
      go_wp2
      go_ret3
      refine ⟨al, cl, fs, ?_, ?_, HO.out, HT.out⟩
      · rw [HS2.out]; rfl
      · rw [HS2.out]; simp
    case pos =>
    have hlt' : (k : Int) < len := by omega
    have hr := HR.out.touch HT.out (fun _ _ => .inr (fun h => h))
    obtain ⟨A, C, hsl, hP⟩ := slice_l a len cap (k : Int) k rfl (by omega) hcap
    have hrow := hP.row _ _ hr (Nat.le_refl _)
    rw [List.take_of_length_le (by rw [HX.out]; omega)] at hrow
    have hYn : xs.drop k ≠ [] := by
      intro e
      have := congrArg List.length e
      simp [HX.out] at this; omega
    have hYl : (xs.drop k).length = len - k := by simp [HX.out]
    have hdd : ∀ j, (xs.drop k).drop j = xs.drop (k + j) := fun j => by rw [List.drop_drop]
    have HDD := Lib.hid hdd
    have HYN := Lib.hid hYn
    have HYL := Lib.hid hYl
    have HROW := Lib.hid hrow
    generalize xs.drop k = Y at *
    have HTK := Lib.hid (rtake_any A (len - k) C Y wr HROW.out (by omega))
    have hk0 : (k : Int) ≤ len := by omega
    clear hr hP hrow hYn hYl hdd
    go_wp2_with fail
    (with_reducible refine HTK.out.mono ?_)
    rintro e w1 ⟨a1, c1, rfl, hf1⟩
    have HF := Lib.hid hf1
    have HT1 := Lib.hid hf1.2
    clear hf1 HTK hsl
    simp only [fcs]
    by_cases he : tkE Y = 0
    case neg =>
      have hb : ((tkE Y : Int) != 0) = true := bne_iff_ne.2 (by omega)
      have hS := HS.out
      rw [scanX_bad HYN.out he] at hS
      have HS2 := Lib.hid hS
      clear hS he
      have t2 := (Touch.refl w1 (fun _ => False)).alloc (.cells #[.int .i64 (tkK Y : Nat), .int .i64 (tkV Y : Nat), .slice a1 (tkY Y).length c1] 24)
      have T2 := Lib.hid (HT1.out.trans t2 (fun _ _ h => h))
      clear t2
      generalize tkE Y = E at *
      go_wp2
      go_ret3
      refine ⟨al, cl, fs, ?_, ?_, HO.out.still T2.out, HT.out.trans T2.out (fun _ _ h => h)⟩
      · rw [HS2.out]; rfl
      · rw [HS2.out]; simp
    case pos =>
      have hb : ((tkE Y : Int) != 0) = false := bne_eq_false_iff_eq.2 (by omega)
      obtain ⟨hM, hMl⟩ := tk_len he
      have hS := HS.out
      rw [scanX_cons HYN.out he, HDD.out] at hS
      have HS2 := Lib.hid hS
      have hyl := HYL.out
      have hM2 : 16 ≤ tkM Y ∧ tkM Y ≤ len - k := by omega
      obtain ⟨f1, hf1⟩ : ∃ f : FrD, f = ⟨(tkK Y : Nat), (tkV Y : Nat), a1, c1, tkY Y⟩ := ⟨_, rfl⟩
      have HVAL : RowKit.Hid (f1.val = ((tkK Y : Int), (tkV Y : Int), tkY Y)) := Lib.hid (by rw [hf1]; rfl)
      have HCE : RowKit.Hid (f1.cells = [.int .i64 (tkK Y : Nat), .int .i64 (tkV Y : Nat), .slice a1 (tkY Y).length c1]) := Lib.hid (by rw [hf1]; rfl)
      have HRW : RowKit.Hid (RowB w1 f1.a f1.ys.length f1.cap f1.ys) := Lib.hid (by rw [hf1]; exact HF.out.row'.2)
      have HAP : RowKit.Hid (∀ x, f1.a = some x → f1.ys.length = 0 ∨ (Value.slice al fs.length cl).ownBlock ≠ some x.block) := Lib.hid (by
        rw [hf1]
        intro x hx
        right
        intro e
        have h1 := (HO.out.own.lt _ e).2
        simp only at hx
        have h2 := (HF.out.1.own.lt x.block (by rw [hx]; rfl)).1
        omega)
      clear hf1 hM hMl hyl hS he
      generalize (tkY Y).length = LY at *
      generalize tkK Y = KY at *
      generalize tkV Y = VY at *
      generalize tkM Y = MY at *
      have t2 := (Touch.refl w1 (fun _ => False)).alloc (.cells #[.int .i64 (KY : Nat), .int .i64 (VY : Nat), .slice a1 LY c1] 24)
      have t3 := t2.alloc (.cells #[.int .i64 (KY : Nat), .int .i64 (VY : Nat), .slice a1 LY c1] 24)
      have hq : ((w1.alloc (.cells #[.int .i64 (KY : Nat), .int .i64 (VY : Nat), .slice a1 LY c1] 24)).alloc (.cells #[.int .i64 (KY : Nat), .int .i64 (VY : Nat), .slice a1 LY c1] 24)).heap[w1.heap.size + 1]? = some (.cells #[.int .i64 (KY : Nat), .int .i64 (VY : Nat), .slice a1 LY c1] 24 (0, 0)) := by
        have := heap_alloc_new (w1.alloc (.cells #[.int .i64 (KY : Nat), .int .i64 (VY : Nat), .slice a1 LY c1] 24)) (.cells #[.int .i64 (KY : Nat), .int .i64 (VY : Nat), .slice a1 LY c1] 24)
        simpa using this
      have HQ := Lib.hid (news_of hq)
      have T3 := Lib.hid (HT1.out.trans t3 (fun _ _ h => h))
      have HT3 := Lib.hid (HT.out.trans T3.out (fun _ _ h => h))
      have HO3 := Lib.hid (HO.out.still T3.out)
      have HRW3 := Lib.hid (HRW.out.touch t3 (fun _ _ => .inr (fun h => h)))
      have hfl : fs.length + 1 ≤ 100000 := by omega
      clear t2 t3 hq
      go_wp2_with (at_builtin; (with_reducible refine wp_appR HO3.out.own 31 Try.underlying31 _ 40 HIF.out rfl (by decide) ⟨w1.heap.size + 1, 0, none⟩ 1 1 _ rfl HQ.out (by simp [Value.oneCell']) (by simp only [maxLen]; omega) (by omega) (HT3.out.under (Nat.le_refl _)) (Nat.le_refl _) HT3.out.size rfl _ _ rfl rfl rfl ?_); intro a4 c4 w4 ho4 hg4 hb4 hp4; rw [← HCE.out] at ho4; have HO4 := Lib.hid (HO3.out.add HRW3.out HAP.out ho4 hg4 hp4); have HT4 := Lib.hid (Touch.ofBelow (S := fun _ => False) hb4 (fun k h1 h2 => by omega)); clear ho4 hg4 hb4 hp4)
      refine ⟨⟨k + MY, a4, c4, fs ++ [f1], by omega, by go_num, by simp, by simpa using HO4.out, HT4.out, by simp; omega, ?_⟩, by simp [intOf]; omega⟩
      rw [HS2.out]
      simp [HVAL.out, Nat.add_assoc]
end Go.Proofs.Ytjmhfbfpndpkkaa
