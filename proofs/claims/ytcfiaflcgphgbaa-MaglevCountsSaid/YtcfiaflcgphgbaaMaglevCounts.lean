/- MaglevCounts answers true for any two rows of numbers: the shares are those that are counted one by one, and as many places have moved as differ. No condition. -/
import Derived.Test.YtcfiaflcgphgbaaMagA
import Derived.Maps.RangeWalk
import Derived.Test.YtcfiaflcgphgbaaFrMaglevCounts
set_option linter.unusedVariables false
namespace Go.Proofs.Ytcfiaflcgphgbaa
open Go.RowKit Go.Maps

theorem diffN_over : ∀ (xs ys : List Int) (k : Nat) (h1 : k < xs.length), ys.length ≤ k → diffN (xs.take (k + 1)) (ys.take (k + 1)) = diffN (xs.take k) (ys.take k) + 1
  | [], _, _, h, _ => by simp at h
  | x :: xs, [], k, h, _ => by simp [diffN_nil] at h ⊢; omega
  | x :: xs, y :: ys, 0, _, h => by simp at h
  | x :: xs, y :: ys, k + 1, h1, h2 => by
    have ih := diffN_over xs ys k (by simpa using h1) (by simpa using h2)
    simp only [List.take_succ_cons, diffN] at ih ⊢
    omega
theorem diffN_all : ∀ (xs ys : List Int), diffN xs ys = diffN (xs.take xs.length) (ys.take xs.length) + (ys.length - xs.length)
  | [], ys => by simp [diffN]
  | x :: xs, [] => by simp [diffN]
  | x :: xs, y :: ys => by
    have ih := diffN_all xs ys
    simp only [List.length_cons, List.take_succ_cons, diffN]
    omega

set_option maxRecDepth 20000 in
set_option maxHeartbeats 4000000 in
theorem counts_walk (a a2 : Option Addr) (l1 c1 l2 c2 : Nat) (A B : List Int) (w : World) (hr : RowI w a l1 c1 A) (hr2 : RowI w a2 l2 c2 B) :
    Calls Try.prog 3 #[.slice a l1 c1, .slice a2 l2 c2] w fun e w' => e = .returned (.bool true) ∧ Touch w w' (fun _ => False) := by
  have hl := hr.1
  have hcap := hr.2.2.1
  have hcap1 := hr.2.1
  have hl2 := hr2.1
  have hcap2 := hr2.2.2.1
  have hcap3 := hr2.2.1
  have HR := Lib.hid hr
  have HR2 := Lib.hid hr2
  have HL := Lib.hid hl
  have HL2 := Lib.hid hl2
  clear hr hl hr2 hl2
  by_cases hs1 : l1 ≤ 300
  case neg =>
    have hb : (l1 : Int) > 300 := by omega
    go_enter Try.func3, Try.ntmps3
    go_wp2_with (go_at_call 8; (with_reducible refine (awake18 _).mono ?_); rintro e w9 ⟨rfl, t9⟩; have HT9 := Lib.hid t9; clear t9)
    go_ret
    exact ⟨rfl, HT9.out⟩
  case pos =>
  have hb1 : ¬ (l1 : Int) > 300 := by omega
  by_cases hs2 : l2 ≤ 300
  case neg =>
    have hb : (l2 : Int) > 300 := by omega
    go_enter Try.func3, Try.ntmps3
    go_wp2_with (go_at_call 8; (with_reducible refine (awake18 _).mono ?_); rintro e w9 ⟨rfl, t9⟩; have HT9 := Lib.hid t9; clear t9)
    go_ret
    exact ⟨rfl, HT9.out⟩
  case pos =>
  have hb2 : ¬ (l2 : Int) > 300 := by omega
  have hmm := @run_makeMap Try.prog
  go_enter Try.func3, Try.ntmps3
  go_wp2_with fail
  go_loopw [6, 24] (fun s i wr => ∃ k m : Nat, k ≤ l1 ∧ i = .int .i64 k ∧ s = .int .i64 m ∧ m = diffN (A.take k) (B.take k) ∧ m ≤ k + k ∧ wr.ownsMap Try.prog 3 (plainElem (H := Unit) Try.prog 3) w.heap.size k (shD A k) ∧ Touch w wr (fun _ => False)) (fun _ i _ => l1 - (intOf i).toNat)
  case atStart => exact ⟨0, 0, Nat.zero_le _, rfl, rfl, by simp [diffN], by omega, World.ownsMap_made _ _ _ _, (Touch.refl _ _).alloc _⟩
  case round =>
    obtain ⟨k, m, hk, rfl, rfl, hm, hm2, hown, ht⟩ := hrel
    have HT := Lib.hid ht
    have HO := Lib.hid hown
    have HM := Lib.hid hm
    clear hm
    by_cases hlt : k < l1
    case neg =>
      obtain rfl : l1 = k := by omega
      have hlt' : ¬ (l1 : Int) < l1 := by omega
      have HE : RowKit.Hid (diffN A B = m + (l2 - l1)) := Lib.hid (by
        have := diffN_all A B
        rw [HL.out, HL2.out] at this
        rw [this, HM.out])
      clear hown ht
      obtain ⟨D, hD⟩ : ∃ D, diffN A B = D := ⟨_, rfl⟩
      rw [hD] at HE
      rcases Nat.lt_or_ge l1 l2 with h12 | h12
      · have hDI : (m : Int) + ((l2 : Int) - (l1 : Int)) = (D : Int) := by have := HE.out; omega
        have h12I : (l1 : Int) < (l2 : Int) := by omega
        go_wp2_with fail
        refine (shares_any _ _ _ A _ (HR.out.still HT.out) (by omega)).mono ?_
        rintro e w3 ⟨rfl, hs, t3⟩
        obtain ⟨gb, hgb⟩ : ∃ gb, wr.heap.size = gb := ⟨_, rfl⟩
        rw [hgb] at hs ⊢
        have HS := Lib.hid hs
        have HO := Lib.hid (Shr.kept (T := A) HO.out t3)
        have hlt3 := t3.size
        have hbl := World.ownsMap.lt HO.out
        have hwl := HT.out.size
        have hgl := World.ownsMap.lt hs
        have HSZ : RowKit.Hid (w.heap.size ≤ gb ∧ w.heap.size < w3.heap.size ∧ gb < w3.heap.size) := Lib.hid ⟨by omega, by omega, hgl⟩
        have HT := Lib.hid (HT.out.trans t3 (fun _ _ h => h))
        have HMA := Lib.hid (fun (W : World) (t : Touch w W (fun _ => False)) => moved_any a a2 l1 c1 l2 c2 A B W (HR.out.still t) (HR2.out.still t) (by omega) (by omega))
        have HMB := Lib.hid (fun (W : World) (t : Touch w W (fun _ => False)) => moved_any a2 a l2 c2 l1 c1 B A W (HR2.out.still t) (HR.out.still t) (by omega) (by omega))
        have HMC := Lib.hid (fun (W : World) (t : Touch w W (fun _ => False)) => moved_any a a l1 c1 l1 c1 A A W (HR.out.still t) (HR.out.still t) (by omega) (by omega))
        rw [diffN_comm B A] at HMB
        rw [diffN_self] at HMC
        rw [hD] at HMA HMB
        have hbD : ((D : Int) != D) = false := bne_eq_false_iff_eq.2 rfl
        have hbS : ((Maps.size (shD A l1) : Int) != (Maps.size (shD A l1) : Int)) = false := bne_eq_false_iff_eq.2 rfl
        clear hs t3 hgb hlt3 hbl hwl hgl
        go_wp2_with (first
          | (at_len; refine wpList_len_own _ rfl _ _ rfl 3 3 Try.underlying24 _ gb l1 _ rfl HS.out ?_)
          | (at_len; refine wpList_len_own _ rfl _ _ rfl 3 3 Try.underlying24 _ w.heap.size l1 _ rfl HO.out ?_)
          | (go_at_call 10; (with_reducible refine (HMA.out _ HT.out).mono ?_); rintro e w4 ⟨rfl, t4⟩; have HT := Lib.hid (HT.out.trans t4 (fun _ _ h => h)); have HS := Lib.hid (Shr.kept HS.out t4); have HO := Lib.hid (Shr.kept (T := A) HO.out t4); have HZ4 := Lib.hid t4.size; clear t4)
          | (go_at_call 10; (with_reducible refine (HMB.out _ HT.out).mono ?_); rintro e w5 ⟨rfl, t4⟩; have HT := Lib.hid (HT.out.trans t4 (fun _ _ h => h)); have HS := Lib.hid (Shr.kept HS.out t4); have HO := Lib.hid (Shr.kept (T := A) HO.out t4); have HZ5 := Lib.hid t4.size; clear t4)
          | (go_at_call 10; (with_reducible refine (HMC.out _ HT.out).mono ?_); rintro e w6 ⟨rfl, t4⟩; have HT := Lib.hid (HT.out.trans t4 (fun _ _ h => h)); have HS := Lib.hid (Shr.kept HS.out t4); have HO := Lib.hid (Shr.kept (T := A) HO.out t4); have HZ6 := Lib.hid t4.size; clear t4)
          | (at_range; refine wpList_range_own _ rfl _ 24 rfl 3 3 keyedI Try.underlying24 _ w.heap.size l1 _ rfl HO.out ?_; intro w0 hrg0 hg0 hs0))
        go_frame
        obtain ⟨r, hr6⟩ : ∃ r, w6.heap.size = r := ⟨_, rfl⟩
        have HRS : RowKit.Hid (w.heap.size < r ∧ gb < r) := Lib.hid (by have := HSZ.out; have := HZ4.out; have := HZ5.out; have := HZ6.out; omega)
        rw [hr6] at hrg0 hs0 ⊢
        have HS := Lib.hid (World.ownsMap.kept HS.out hg0 (by simp))
        have HT := Lib.hid (HT.out.grown hg0 (by intro k hk; cases hk))
        clear hr6 hg0 hs0 hmm hbS
        go_loopw [10] (fun _ wr => ∃ (left : Lit → Bool) (cnt : Nat), wr.ranges Try.prog 3 (plainElem (H := Unit) Try.prog 3) w.heap.size r l1 (shD A l1) left cnt ∧ Shr wr gb A l1 ∧ Touch w wr (fun _ => False)) (fun _ wr => wr.rangeLeft w.heap.size r)
        case atStart => exact ⟨_, _, hrg0, HS.out, HT.out⟩
        case round =>
          obtain ⟨left, cnt, hrg, hs, ht⟩ := hrel
          have HS := Lib.hid hs
          have HT := Lib.hid ht
          clear hs ht
          go_wp2_with (at_next; refine wpList_next_ranges_ii _ rfl _ rfl 3 3 .i64 .i64 keyedI Try.underlying3 Try.underlying3 w.heap.size r l1 _ _ _ rfl hrg ?_ ?_)
          · intro hc0 hl0
            clear hrg
            go_wp2_with (go_at_call 8; (with_reducible refine (awake18 _).mono ?_); rintro e w9 ⟨rfl, t9⟩; have HT9 := Lib.hid (HT.out.trans t9 (fun _ _ h => h)); clear t9)
            go_ret
            exact ⟨rfl, HT9.out⟩
          · intro x c w1 cnt1 hwx hwc hlx hat hrg1 hlt1 hg1 hs1 hen
            have HS1 := Lib.hid (World.ownsMap.kept HS.out hg1 (fun e => by have := Option.some.inj e; have := HRS.out; omega))
            have HT1 := Lib.hid (HT.out.grown hg1 (fun j hj h => by cases hj; have := HRS.out; omega))
            have HAT := Lib.hid (hat (num 0))
            have HWX := Lib.hid hwx
            have hbc : ((c : Int) != c) = false := bne_eq_false_iff_eq.2 rfl
            have HRG := Lib.hid hrg
            have HRG1 := Lib.hid hrg1
            have HLT1 := Lib.hid hlt1
            clear hwx hwc hlx hat hg1 hs1 hrg hrg1 hlt1
            go_wp2_with (at_lookup; refine wpList_lookup_own_int _ rfl _ _ 24 rfl 3 3 .i64 keyedI Try.underlying24 Try.underlying3 (zeroI _) gb l1 _ rfl HS1.out _ _ rfl (keyOf_int_mk Try.underlying3 HWX.out) ?_; intro c8 hat8 hwc8; have e8 := num_inj (hat8.symm.trans HAT.out); subst e8; clear hat8 hwc8)
            go_roundw
            case rel => exact ⟨_, _, HRG1.out, HS1.out, HT1.out⟩
            case measure => rw [HRG1.out.left_eq, HRG.out.left_eq]; exact HLT1.out
      · obtain rfl : D = m := by have := HE.out; omega
        have h12I : ¬ (l1 : Int) < (l2 : Int) := by omega
        go_wp2_with fail
        refine (shares_any _ _ _ A _ (HR.out.still HT.out) (by omega)).mono ?_
        rintro e w3 ⟨rfl, hs, t3⟩
        obtain ⟨gb, hgb⟩ : ∃ gb, wr.heap.size = gb := ⟨_, rfl⟩
        rw [hgb] at hs ⊢
        have HS := Lib.hid hs
        have HO := Lib.hid (Shr.kept (T := A) HO.out t3)
        have hlt3 := t3.size
        have hbl := World.ownsMap.lt HO.out
        have hwl := HT.out.size
        have hgl := World.ownsMap.lt hs
        have HSZ : RowKit.Hid (w.heap.size ≤ gb ∧ w.heap.size < w3.heap.size ∧ gb < w3.heap.size) := Lib.hid ⟨by omega, by omega, hgl⟩
        have HT := Lib.hid (HT.out.trans t3 (fun _ _ h => h))
        have HMA := Lib.hid (fun (W : World) (t : Touch w W (fun _ => False)) => moved_any a a2 l1 c1 l2 c2 A B W (HR.out.still t) (HR2.out.still t) (by omega) (by omega))
        have HMB := Lib.hid (fun (W : World) (t : Touch w W (fun _ => False)) => moved_any a2 a l2 c2 l1 c1 B A W (HR2.out.still t) (HR.out.still t) (by omega) (by omega))
        have HMC := Lib.hid (fun (W : World) (t : Touch w W (fun _ => False)) => moved_any a a l1 c1 l1 c1 A A W (HR.out.still t) (HR.out.still t) (by omega) (by omega))
        rw [diffN_comm B A] at HMB
        rw [diffN_self] at HMC
        rw [hD] at HMA HMB
        have hbD : ((D : Int) != D) = false := bne_eq_false_iff_eq.2 rfl
        have hbS : ((Maps.size (shD A l1) : Int) != (Maps.size (shD A l1) : Int)) = false := bne_eq_false_iff_eq.2 rfl
        clear hs t3 hgb hlt3 hbl hwl hgl
        go_wp2_with (first
          | (at_len; refine wpList_len_own _ rfl _ _ rfl 3 3 Try.underlying24 _ gb l1 _ rfl HS.out ?_)
          | (at_len; refine wpList_len_own _ rfl _ _ rfl 3 3 Try.underlying24 _ w.heap.size l1 _ rfl HO.out ?_)
          | (go_at_call 10; (with_reducible refine (HMA.out _ HT.out).mono ?_); rintro e w4 ⟨rfl, t4⟩; have HT := Lib.hid (HT.out.trans t4 (fun _ _ h => h)); have HS := Lib.hid (Shr.kept HS.out t4); have HO := Lib.hid (Shr.kept (T := A) HO.out t4); have HZ4 := Lib.hid t4.size; clear t4)
          | (go_at_call 10; (with_reducible refine (HMB.out _ HT.out).mono ?_); rintro e w5 ⟨rfl, t4⟩; have HT := Lib.hid (HT.out.trans t4 (fun _ _ h => h)); have HS := Lib.hid (Shr.kept HS.out t4); have HO := Lib.hid (Shr.kept (T := A) HO.out t4); have HZ5 := Lib.hid t4.size; clear t4)
          | (go_at_call 10; (with_reducible refine (HMC.out _ HT.out).mono ?_); rintro e w6 ⟨rfl, t4⟩; have HT := Lib.hid (HT.out.trans t4 (fun _ _ h => h)); have HS := Lib.hid (Shr.kept HS.out t4); have HO := Lib.hid (Shr.kept (T := A) HO.out t4); have HZ6 := Lib.hid t4.size; clear t4)
          | (at_range; refine wpList_range_own _ rfl _ 24 rfl 3 3 keyedI Try.underlying24 _ w.heap.size l1 _ rfl HO.out ?_; intro w0 hrg0 hg0 hs0))
        go_frame
        obtain ⟨r, hr6⟩ : ∃ r, w6.heap.size = r := ⟨_, rfl⟩
        have HRS : RowKit.Hid (w.heap.size < r ∧ gb < r) := Lib.hid (by have := HSZ.out; have := HZ4.out; have := HZ5.out; have := HZ6.out; omega)
        rw [hr6] at hrg0 hs0 ⊢
        have HS := Lib.hid (World.ownsMap.kept HS.out hg0 (by simp))
        have HT := Lib.hid (HT.out.grown hg0 (by intro k hk; cases hk))
        clear hr6 hg0 hs0 hmm hbS
        go_loopw [10] (fun _ wr => ∃ (left : Lit → Bool) (cnt : Nat), wr.ranges Try.prog 3 (plainElem (H := Unit) Try.prog 3) w.heap.size r l1 (shD A l1) left cnt ∧ Shr wr gb A l1 ∧ Touch w wr (fun _ => False)) (fun _ wr => wr.rangeLeft w.heap.size r)
        case atStart => exact ⟨_, _, hrg0, HS.out, HT.out⟩
        case round =>
          obtain ⟨left, cnt, hrg, hs, ht⟩ := hrel
          have HS := Lib.hid hs
          have HT := Lib.hid ht
          clear hs ht
          go_wp2_with (at_next; refine wpList_next_ranges_ii _ rfl _ rfl 3 3 .i64 .i64 keyedI Try.underlying3 Try.underlying3 w.heap.size r l1 _ _ _ rfl hrg ?_ ?_)
          · intro hc0 hl0
            clear hrg
            go_wp2_with (go_at_call 8; (with_reducible refine (awake18 _).mono ?_); rintro e w9 ⟨rfl, t9⟩; have HT9 := Lib.hid (HT.out.trans t9 (fun _ _ h => h)); clear t9)
            go_ret
            exact ⟨rfl, HT9.out⟩
          · intro x c w1 cnt1 hwx hwc hlx hat hrg1 hlt1 hg1 hs1 hen
            have HS1 := Lib.hid (World.ownsMap.kept HS.out hg1 (fun e => by have := Option.some.inj e; have := HRS.out; omega))
            have HT1 := Lib.hid (HT.out.grown hg1 (fun j hj h => by cases hj; have := HRS.out; omega))
            have HAT := Lib.hid (hat (num 0))
            have HWX := Lib.hid hwx
            have hbc : ((c : Int) != c) = false := bne_eq_false_iff_eq.2 rfl
            have HRG := Lib.hid hrg
            have HRG1 := Lib.hid hrg1
            have HLT1 := Lib.hid hlt1
            clear hwx hwc hlx hat hg1 hs1 hrg hrg1 hlt1
            go_wp2_with (at_lookup; refine wpList_lookup_own_int _ rfl _ _ 24 rfl 3 3 .i64 keyedI Try.underlying24 Try.underlying3 (zeroI _) gb l1 _ rfl HS1.out _ _ rfl (keyOf_int_mk Try.underlying3 HWX.out) ?_; intro c8 hat8 hwc8; have e8 := num_inj (hat8.symm.trans HAT.out); subst e8; clear hat8 hwc8)
            go_roundw
            case rel => exact ⟨_, _, HRG1.out, HS1.out, HT1.out⟩
            case measure => rw [HRG1.out.left_eq, HRG.out.left_eq]; exact HLT1.out
    case pos =>
    obtain ⟨b, off, rfl, hc⟩ := (HR.out.still HT.out).some (by omega)
    have hk1 : k < A.length := by rw [HL.out]; exact hlt
    have c0 := hc k hk1
    have hzz := HR.out.2.2.2.1 A[k] (List.getElem_mem hk1)
    have HG : RowKit.Hid (A[k]? = some A[k]) := Lib.hid (List.getElem?_eq_getElem hk1)
    have HAT : RowKit.Hid (0 ≤ A[k] → (shD A k).atKey (key A[k]) (num 0) = num ((A.take k).count A[k] : Nat)) := Lib.hid (fun h => shD_at A _ h k (by omega))
    have HCN : RowKit.Hid ((A.take k).count A[k] ≤ 1000) := Lib.hid (Nat.le_trans List.count_le_length (by simp; omega))
    have HSD : RowKit.Hid (shD A (k + 1) = if 0 ≤ A[k] then (shD A k).put (key A[k]) (num ((A.take k).count A[k] + 1 : Nat)) else shD A k) := Lib.hid (by
      conv => lhs; unfold shD
      rw [HG.out])
    -- what the other table has there
    obtain ⟨z, hz⟩ : ∃ z : Nat, z = (if l2 ≤ k then 1 else if A[k] = B.getD k 0 then 0 else 1) := ⟨_, rfl⟩
    have HZ : RowKit.Hid (diffN (A.take (k + 1)) (B.take (k + 1)) = diffN (A.take k) (B.take k) + z) := Lib.hid (by
      rw [hz]
      by_cases h2 : l2 ≤ k
      · rw [if_pos h2]; exact diffN_over A B k hk1 (by rw [HL2.out]; exact h2)
      · have hk2 : k < B.length := by rw [HL2.out]; omega
        rw [if_neg h2, diffN_step A B k hk1 hk2, List.getD_eq_getElem?_getD, List.getElem?_eq_getElem hk2]; rfl)
    have HCB : RowKit.Hid (k < l2 → ∃ b2 off2, a2 = some ⟨b2, off2, none⟩ ∧ ∀ W, Touch w W (fun _ => False) → W.cell? ⟨b2, off2 + k, none⟩ = some (.int .i64 (B.getD k 0))) := Lib.hid (fun h => by
      obtain ⟨b2, off2, h1, _⟩ := HR2.out.some (by omega)
      refine ⟨b2, off2, h1, fun W t => ?_⟩
      subst h1
      obtain ⟨b3, off3, h3, hc3⟩ := (HR2.out.still t).some (by omega)
      cases h3
      have hk2 : k < B.length := by rw [HL2.out]; omega
      rw [hc3 k hk2, List.getD_eq_getElem?_getD, List.getElem?_eq_getElem hk2]; rfl)
    generalize A[k] = x at *
    generalize B.getD k 0 = y at *
    have hlI : (k : Int) < l1 := by omega
    clear hc hown ht
    have HCX := Lib.hid (fun (W : World) (t : Touch w W (fun _ => False)) => ((HR.out.still t).some (show 0 < l1 by omega)))
    by_cases hx : 0 ≤ x
    · have hkey : keyOf Try.prog 3 (.int .i64 x) = some (key x) := keyOf_int_mk Try.underlying3 (WalkArith.wf_i64 hzz)
      have HKY := Lib.hid hkey
      have HD : RowKit.Hid ((shD A k).put (key x) (.lit (.int .i64 (((A.take k).count x : Nat) + 1))) = shD A (k + 1)) := Lib.hid (by rw [HSD.out, if_pos hx]; rfl)
      have hgt : x ≥ 0 := hx
      clear hkey
      by_cases h2 : l2 ≤ k
      · have hg2 : (k : Int) ≥ (l2 : Int) := by omega
        rw [if_pos h2] at hz
        subst hz
        go_wp2_with (first
          | (at_lookup; refine wpList_lookup_own_int _ rfl _ _ 24 rfl 3 3 .i64 keyedI Try.underlying24 Try.underlying3 (zeroI _) w.heap.size k _ rfl HO.out _ _ rfl HKY.out ?_; intro c hat hwc; have hc2 := num_inj (hat.symm.trans (HAT.out hx)); subst hc2; clear hat hwc; have HSZ := HCN.out)
          | (at_mapUpdate; refine wpList_mapUpdate_own _ rfl _ _ _ 24 rfl 3 3 keyedI Try.underlying24 _ w.heap.size k _ rfl HO.out (by unfold maxLen; omega) _ _ _ rfl rfl HKY.out _ [] (plainElem_int Try.underlying3 (WalkArith.wf_i64 ⟨by omega, by omega⟩)) ?_; intro w1 hown1 hgrow1; have HO1 := Lib.hid hown1; have HT1 := Lib.hid (HT.out.grown hgrow1 (fun j hj => by cases hj; exact fun h => absurd h (Nat.lt_irrefl _))); clear hown1 hgrow1))
        exact ⟨⟨k + 1, m + 1, hlt, by go_num, by go_num, by rw [HZ.out, HM.out], by omega, by have := HO1.out; rwa [HD.out] at this, HT1.out⟩, by simp [intOf]; omega⟩
      · have hg2 : ¬ (k : Int) ≥ (l2 : Int) := by omega
        have hg3 : (k : Int) < (l2 : Int) := by omega
        rw [if_neg h2] at hz
        obtain ⟨b2, off2, rfl, hc2⟩ := HCB.out (by omega)
        have HC2 := Lib.hid hc2
        clear hc2
        by_cases hxy : x = y
        · subst hxy
          rw [if_pos rfl] at hz
          subst hz
          have hb : (x != x) = false := bne_eq_false_iff_eq.2 rfl
          go_wp2_with (first
            | (at_lookup; refine wpList_lookup_own_int _ rfl _ _ 24 rfl 3 3 .i64 keyedI Try.underlying24 Try.underlying3 (zeroI _) w.heap.size k _ rfl HO.out _ _ rfl HKY.out ?_; intro c hat hwc; have hc2 := num_inj (hat.symm.trans (HAT.out hx)); subst hc2; clear hat hwc; have HSZ := HCN.out)
            | (at_mapUpdate; refine wpList_mapUpdate_own _ rfl _ _ _ 24 rfl 3 3 keyedI Try.underlying24 _ w.heap.size k _ rfl HO.out (by unfold maxLen; omega) _ _ _ rfl rfl HKY.out _ [] (plainElem_int Try.underlying3 (WalkArith.wf_i64 ⟨by omega, by omega⟩)) ?_; intro w1 hown1 hgrow1; have HO1 := Lib.hid hown1; have HT1 := Lib.hid (HT.out.grown hgrow1 (fun j hj => by cases hj; exact fun h => absurd h (Nat.lt_irrefl _))); have hcy := HC2.out _ HT1.out; clear hown1 hgrow1))
          exact ⟨⟨k + 1, m, hlt, by go_num, rfl, by rw [HZ.out, HM.out]; rfl, by omega, by have := HO1.out; rwa [HD.out] at this, HT1.out⟩, by simp [intOf]; omega⟩
        · rw [if_neg hxy] at hz
          subst hz
          have hb : (y != x) = true := bne_iff_ne.2 (fun e => hxy e.symm)
          go_wp2_with (first
            | (at_lookup; refine wpList_lookup_own_int _ rfl _ _ 24 rfl 3 3 .i64 keyedI Try.underlying24 Try.underlying3 (zeroI _) w.heap.size k _ rfl HO.out _ _ rfl HKY.out ?_; intro c hat hwc; have hc2 := num_inj (hat.symm.trans (HAT.out hx)); subst hc2; clear hat hwc; have HSZ := HCN.out)
            | (at_mapUpdate; refine wpList_mapUpdate_own _ rfl _ _ _ 24 rfl 3 3 keyedI Try.underlying24 _ w.heap.size k _ rfl HO.out (by unfold maxLen; omega) _ _ _ rfl rfl HKY.out _ [] (plainElem_int Try.underlying3 (WalkArith.wf_i64 ⟨by omega, by omega⟩)) ?_; intro w1 hown1 hgrow1; have HO1 := Lib.hid hown1; have HT1 := Lib.hid (HT.out.grown hgrow1 (fun j hj => by cases hj; exact fun h => absurd h (Nat.lt_irrefl _))); have hcy := HC2.out _ HT1.out; clear hown1 hgrow1))
          exact ⟨⟨k + 1, m + 1, hlt, by go_num, by go_num, by rw [HZ.out, HM.out], by omega, by have := HO1.out; rwa [HD.out] at this, HT1.out⟩, by simp [intOf]; omega⟩
    · have hnx : ¬ x ≥ 0 := hx
      have HD : RowKit.Hid (shD A (k + 1) = shD A k) := Lib.hid (by rw [HSD.out, if_neg hx])
      by_cases h2 : l2 ≤ k
      · have hg2 : (k : Int) ≥ (l2 : Int) := by omega
        rw [if_pos h2] at hz
        subst hz
        go_wp2_with fail
        exact ⟨⟨k + 1, m + 1, hlt, by go_num, by go_num, by rw [HZ.out, HM.out], by omega, by rw [HD.out]; exact HO.out.mono (Nat.le_succ _), HT.out⟩, by simp [intOf]; omega⟩
      · have hg2 : ¬ (k : Int) ≥ (l2 : Int) := by omega
        have hg3 : (k : Int) < (l2 : Int) := by omega
        rw [if_neg h2] at hz
        obtain ⟨b2, off2, rfl, hc2⟩ := HCB.out (by omega)
        have hcy := hc2 _ HT.out
        clear hc2
        by_cases hxy : x = y
        · subst hxy
          rw [if_pos rfl] at hz
          subst hz
          have hb : (x != x) = false := bne_eq_false_iff_eq.2 rfl
          go_wp2_with fail
          exact ⟨⟨k + 1, m, hlt, by go_num, rfl, by rw [HZ.out, HM.out]; rfl, by omega, by rw [HD.out]; exact HO.out.mono (Nat.le_succ _), HT.out⟩, by simp [intOf]; omega⟩
        · rw [if_neg hxy] at hz
          subst hz
          have hb : (y != x) = true := bne_iff_ne.2 (fun e => hxy e.symm)
          go_wp2_with fail
          exact ⟨⟨k + 1, m + 1, hlt, by go_num, by go_num, by rw [HZ.out, HM.out], by omega, by rw [HD.out]; exact HO.out.mono (Nat.le_succ _), HT.out⟩, by simp [intOf]; omega⟩

theorem maglevCounts_holds : Rows.MaglevCountsSaid := by
  refine maglevCounts.said fun H enc W base v0 v1 d0 d1 p0 p1 h0 h1 => ?_
  obtain ⟨a1, l1, c1, xs, rfl, hr1⟩ := h0.ints Try.underlying22 Try.underlying3 (by kernel_rfl)
  obtain ⟨a2, l2, c2, ys, rfl, hr2⟩ := h1.ints Try.underlying22 Try.underlying3 (by kernel_rfl)
  exact (counts_walk a1 a2 l1 c1 l2 c2 xs ys W hr1 hr2).mono fun e w' h => ⟨h.1, h.2.below (fun _ _ h => h.elim) (Nat.le_refl _)⟩
end Go.Proofs.Ytcfiaflcgphgbaa
