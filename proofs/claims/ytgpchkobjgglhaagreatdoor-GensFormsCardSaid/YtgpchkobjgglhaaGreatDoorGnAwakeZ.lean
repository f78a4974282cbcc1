/- Sets of backends: Same, Weight; the known set: awake answers true. -/
import Derived.Test.YtgpchkobjgglhaaGreatDoorGnParseZ
import Derived.Test.YtgpchkobjgglhaaGreatDoorGnSortZ
import Derived.Test.YtgpchkobjgglhaaGreatDoorTupAwakeZ
import Derived.Test.YtgpchkobjgglhaaGreatDoorGCZ
import Derived.Test.YtgpchkobjgglhaaGreatDoorHAZ
set_option linter.unusedVariables false
set_option linter.unusedSimpArgs false
namespace Go.Proofs.YtgpchkobjgglhaaGreatDoor
open Go.RowKit

theorem sameK_eq (bs cs : List BkD) : sameK bs cs = true ↔ bs = cs := by
  unfold sameK
  rw [decide_eq_true_iff]
  constructor
  · intro h
    induction bs generalizing cs with
    | nil => cases cs with
      | nil => rfl
      | cons c cs => simp at h
    | cons b bs ih => cases cs with
      | nil => simp at h
      | cons c cs =>
        simp only [List.map_cons, List.cons.injEq] at h
        rw [ih cs h.2]
        have h1 := h.1
        cases b; cases c
        simp only [BkD.val, Prod.mk.injEq] at h1
        obtain ⟨rfl, rfl, rfl⟩ := h1
        rfl
  · rintro rfl; rfl
set_option maxRecDepth 20000 in
theorem gsame_any (a : Option Addr) (len cap : Nat) (bs : List BkD) (a2 : Option Addr) (len2 cap2 : Nat) (cs : List BkD) (w : World) (hr : RowK w a len cap bs) (hr2 : RowK w a2 len2 cap2 cs) :
    Calls Tryz.prog 17 #[.slice a len cap, .slice a2 len2 cap2] w fun e w' => e = .returned (.bool (sameK bs cs)) ∧ Touch w w' (fun _ => False) := by
  have HS := Lib.hid (sameK_any a len cap bs a2 len2 cap2 cs w hr hr2)
  generalize sameK bs cs = x at *
  clear hr hr2
  go_enter Tryz.func17, Tryz.ntmps17
  go_wp2_with (go_at_call 36; (with_reducible refine HS.out.mono ?_); rintro e w9 ⟨rfl, n, rfl⟩)
  go_ret
  exact ⟨rfl, (Touch.refl w _).drewN n⟩
set_option maxRecDepth 20000 in
set_option maxHeartbeats 2000000 in
theorem gweight_any (a : Option Addr) (len cap : Nat) (bs : List BkD) (w : World) (hr : RowK w a len cap bs) (hlen : len ≤ 1000) :
    Calls Tryz.prog 18 #[.slice a len cap] w fun e w' => e = .returned (.int .i64 (weightF bs)) ∧ Touch w w' (fun _ => False) := by
  have hl := hr.len
  have hcap := hr.hmax
  have hcap1 := hr.hcap
  have HR := Lib.hid hr
  have HL := Lib.hid hl
  clear hr hl
  go_enter Tryz.func18, Tryz.ntmps18
  go_wp2_with fail
  go_loopw [3, 8] (fun s i wr => ∃ k : Nat, k ≤ len ∧ i = .int .i64 k ∧ s = .int .i64 (weightF (bs.take k)) ∧ Touch w wr (fun _ => False)) (fun _ i _ => len - (RowKit.intOf i).toNat)
  case atStart => exact ⟨0, Nat.zero_le _, rfl, rfl, Touch.refl _ _⟩
  case round =>
    obtain ⟨k, hk, rfl, rfl, ht⟩ := hrel
    have HT := Lib.hid ht
    clear ht
    by_cases hlt : k < len
    case neg =>
      obtain rfl : len = k := by omega
      have hlt' : ¬ (len : Int) < len := by omega
      have HE : RowKit.Hid (weightF (bs.take len) = weightF bs) := Lib.hid (by rw [← HL.out, List.take_length])
      go_wp2
      go_ret
      exact ⟨by rw [HE.out]; rfl, HT.out⟩
    case pos =>
    have hr := HR.out.still HT.out
    obtain ⟨b, off, rfl⟩ := hr.some (by omega)
    have hk1 : k < bs.length := by rw [HL.out]; exact hlt
    obtain ⟨c0, c1, c2⟩ := hr.cells k hk1
    have HS : RowKit.Hid (weightF (bs.take (k + 1)) = weightF (bs.take k) + wOf bs[k]) := Lib.hid (by rw [List.take_succ_eq_append_getElem hk1, weightF_snoc])
    have hwb := weightF_le (bs.take k)
    rw [List.length_take] at hwb
    generalize bs[k] = f at *
    obtain ⟨x, hx⟩ : ∃ x, weightF (bs.take k) = x := ⟨_, rfl⟩
    rw [hx] at HS hwb ⊢
    have hx0 : 0 ≤ x := hwb.1
    have hx1 : x ≤ 10000 := by omega
    clear hx hwb
    obtain ⟨W2, hW2⟩ : ∃ W, wr.alloc (.cells #[.int .i64 f.id, .int .u32 f.addr, .int .i64 f.weight] 27) = W := ⟨_, rfl⟩
    obtain ⟨KB, hKB⟩ : ∃ b, wr.heap.size = b := ⟨_, rfl⟩
    have t1 : Touch wr W2 (fun _ => False) := hW2 ▸ (Touch.refl wr _).alloc _
    have g2 : W2.heap[KB]? = some (.cells #[.int .i64 f.id, .int .u32 f.addr, .int .i64 f.weight] 27 (0, 0)) := hKB ▸ hW2 ▸ heap_alloc_new ..
    have HT2 := Lib.hid (HT.out.trans t1 (fun _ _ h => h))
    have HG2 := Lib.hid g2
    have HW2 := Lib.hid (And.intro hW2 hKB)
    have HIW := Lib.hid (fun W => isWeight_any f.weight W)
    have hlI : (k : Int) < len := by omega
    clear hr t1 g2 hW2 hKB
    go_upto_region 5 with (fail)
    rw [HW2.out.1, HW2.out.2]
    have x2 : W2.cell? ⟨KB, 2, none⟩ = some (.int .i64 f.weight) := cell_of_cells HG2.out 2
    clear c0 c1 c2
    by_cases hw : 1 ≤ f.weight ∧ f.weight ≤ 10
    · have hd : decide (1 ≤ f.weight ∧ f.weight ≤ 10) = true := decide_eq_true hw
      have HS' : RowKit.Hid (weightF (bs.take (k + 1)) = x + f.weight) := Lib.hid (by rw [HS.out]; unfold wOf; rw [if_pos hw])
      rw [hd] at HIW
      have hw1 := hw.1
      have hw2 := hw.2
      clear hd HS hw
      go_wp2_with (go_at_call 27; (with_reducible refine (HIW.out _).mono ?_); rintro e w9 ⟨rfl, rfl⟩)
      exact ⟨⟨k + 1, hlt, by go_num, by rw [HS'.out], HT2.out⟩, by simp [RowKit.intOf]; omega⟩
    · have hd : decide (1 ≤ f.weight ∧ f.weight ≤ 10) = false := decide_eq_false hw
      have HS' : RowKit.Hid (weightF (bs.take (k + 1)) = x) := Lib.hid (by rw [HS.out]; unfold wOf; rw [if_neg hw]; omega)
      rw [hd] at HIW
      clear hd HS hw
      go_wp2_with (go_at_call 27; (with_reducible refine (HIW.out _).mono ?_); rintro e w9 ⟨rfl, rfl⟩)
      exact ⟨⟨k + 1, hlt, by go_num, by rw [HS'.out], HT2.out⟩, by simp [RowKit.intOf]; omega⟩
def bk13 : BkD := ⟨1, 167772169, 2⟩
theorem bk13_text : bksL [bk13] = [49, 64, 49, 48, 46, 48, 46, 48, 46, 57, 42, 50] := by
  have h10 : Lib.itoa 10 = [49, 48] := itoa_2 (n := 10) (by decide) (by decide)
  have h0 : Lib.itoa 0 = [48] := itoa_1 (n := 0) (by decide)
  have h1 : Lib.itoa 1 = [49] := itoa_1 (n := 1) (by decide)
  have h2 : Lib.itoa 2 = [50] := itoa_1 (n := 2) (by decide)
  have h9 : Lib.itoa 9 = [57] := itoa_1 (n := 9) (by decide)
  unfold bksL
  rw [if_neg (by simp)]
  simp [bkL, bk13, addrL, partsL, h10, h0, h1, h2, h9, Lib.join_cons, Lib.joinTail]
theorem bk13_ok : BkOk bk13 := by refine ⟨?_, ?_, ?_⟩ <;> simp only [bk13, i64, u32] <;> omega
theorem gmay13 : gmay [bk13] = true := by decide +kernel
set_option maxRecDepth 20000 in
set_option maxHeartbeats 4000000 in
theorem awake13 (w : World) (hT : TabW w) (hE : ErrW w) (hM : MaxW w) :
    Calls Tryz.prog 4 #[] w fun e w' => e = .returned (.bool true) ∧ Touch w w' (fun _ => False) := by
  obtain ⟨W1, hW1⟩ : ∃ W, w.alloc (.cells #[.int .i64 1, .int .u32 167772169, .int .i64 2] 27) = W := ⟨_, rfl⟩
  obtain ⟨KB, hKB⟩ : ∃ b, w.heap.size = b := ⟨_, rfl⟩
  have t1 : Touch w W1 (fun _ => False) := hW1 ▸ (Touch.refl w _).alloc _
  have HK : RowKit.Hid (∀ W, Touch W1 W (fun _ => False) → RowK W (some ⟨KB, 0, none⟩) 1 1 [bk13]) := Lib.hid (fun W t => (hW1 ▸ hKB ▸ ((OwnS.lit w w.heap.size (Nat.le_refl _) 27 3 1 ([bk13].map BkD.cells) _ rfl rfl (by simp [bk13, BkD.cells]) (by omega)).row').2.1 : RowK W1 (some ⟨KB, 0, none⟩) 1 1 [bk13]).still t)
  have hpa : gparL [49, 64, 49, 48, 46, 48, 46, 48, 46, 57, 42, 50] = [bk13] := bk13_text ▸ gparL_text gmay13 (fun x hx => by obtain rfl := List.mem_singleton.1 hx; exact bk13_ok.addr)
  have hpb : gparB [49, 64, 49, 48, 46, 48, 46, 48, 46, 57, 42, 50] = true := bk13_text ▸ gparB_text gmay13 (fun x hx => by obtain rfl := List.mem_singleton.1 hx; exact bk13_ok.addr)
  have HPA := Lib.hid (gparse_any [49, 64, 49, 48, 46, 48, 46, 48, 46, 57, 42, 50] W1 (by decide) (hT.touch t1) (hE.touch t1) (hM.touch t1))
  have HTX : RowKit.Hid (∀ W, Touch W1 W (fun _ => False) → Calls Tryz.prog 20 #[.slice (some ⟨KB, 0, none⟩) 1 1] W fun e w' => e = .returned (.string (mkS [49, 64, 49, 48, 46, 48, 46, 48, 46, 57, 42, 50])) ∧ Touch W w' (fun _ => False)) := Lib.hid (fun W t => bk13_text ▸ gtext_any _ 1 1 [bk13] W (HK.out W t) (fun x hx => by obtain rfl := List.mem_singleton.1 hx; exact bk13_ok) (by omega) ((hT.touch t1).touch t))
  have HMY : RowKit.Hid (∀ W, Touch W1 W (fun _ => False) → Calls Tryz.prog 11 #[.slice (some ⟨KB, 0, none⟩) 1 1] W fun e w' => e = .returned (.bool true) ∧ Touch W w' (fun _ => False)) := Lib.hid (fun W t => gmay13 ▸ gmay_any _ 1 1 [bk13] W (HK.out W t))
  have HW1 := Lib.hid (And.intro hW1 hKB)
  have HT1 := Lib.hid t1
  have HPL := Lib.hid hpa
  have HPB := Lib.hid hpb
  clear hW1 hKB t1 hpa hpb hT hE hM
  have hs1 : ((mkS [49, 64, 49, 48, 46, 48, 46, 48, 46, 57, 42, 50]).toList == [49, 64, 49, 48, 46, 48, 46, 48, 46, 57, 42, 50]) = true := by rw [mkS_toList]; rfl
  simp only [mkS] at HPA
  obtain ⟨s, hs⟩ : ∃ s, mkS [49, 64, 49, 48, 46, 48, 46, 48, 46, 57, 42, 50] = s := ⟨_, rfl⟩
  rw [hs] at HTX hs1
  clear hs
  go_enter Tryz.func4, Tryz.ntmps4
  go_upto_region 2 with (fail)
  rw [HW1.out.1, HW1.out.2]
  go_wp2_with fail
  refine HPA.out.mono ?_
  rintro e w2 ⟨hp, t2⟩
  rcases hp with ⟨-, a2, c2, rfl, ho⟩ | ⟨hf, -⟩
  · rw [HPL.out] at ho ⊢
    have hrow := (OwnK.row ho).2.1
    have HSM : RowKit.Hid (∀ W, Touch w2 W (fun _ => False) → Calls Tryz.prog 17 #[.slice (some ⟨KB, 0, none⟩) 1 1, .slice a2 1 c2] W fun e w' => e = .returned (.bool true) ∧ Touch W w' (fun _ => False)) := Lib.hid (fun W t => by
      have := gsame_any (some ⟨KB, 0, none⟩) 1 1 [bk13] a2 1 c2 [bk13] W (HK.out W (t2.trans t (fun _ _ h => h))) (hrow.still t)
      rwa [show sameK [bk13] [bk13] = true from (sameK_eq _ _).2 rfl] at this)
    have HT2 := Lib.hid t2
    clear ho hrow t2
    simp only [List.length_cons, List.length_nil, Nat.zero_add]
    go_wp2_with (first
      | (go_at_call 20; (with_reducible refine (HTX.out _ HT2.out).mono ?_); rintro e w3 ⟨rfl, t3⟩; have T3 := Lib.hid t3; clear t3)
      | (go_at_call 17; (with_reducible refine (HSM.out _ T3.out).mono ?_); rintro e w4 ⟨rfl, t4⟩; have T4 := Lib.hid (T3.out.trans t4 (fun _ _ h => h)); clear t4)
      | (go_at_call 11; (with_reducible refine (HMY.out _ (HT2.out.trans T4.out (fun _ _ h => h))).mono ?_); rintro e w5 ⟨rfl, t5⟩; have T5 := Lib.hid (T4.out.trans t5 (fun _ _ h => h)); clear t5))
    go_ret
    exact ⟨rfl, HT1.out.trans (HT2.out.trans T5.out (fun _ _ h => h)) (fun _ _ h => h)⟩
  · rw [HPB.out] at hf
    exact absurd hf (by decide)
end Go.Proofs.YtgpchkobjgglhaaGreatDoor
