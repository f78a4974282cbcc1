/- Names of segments: the four functions. -/
import Derived.Test.YtibpnlhdpdfhiaaDoorManZ
import Derived.Test.YtibpnlhdpdfhiaaDoorManMZ
import Derived.PlainAid
set_option linter.unusedVariables false
set_option linter.unusedSimpArgs false
namespace Go.Proofs.YtibpnlhdpdfhiaaDoor
open Go.RowKit

theorem repeat_call (k : Int) (w : World) (h0 : 0 ≤ k) (h1 : k ≤ 6) :
    Calls Tryd.prog 55 #[.string ⟨#[48]⟩, .int .i64 k] w fun e w' => e = .returned (.string (mkS (zerosL k.toNat))) ∧ Touch w w' (fun _ => False) := by
  obtain ⟨n, rfl⟩ : ∃ n : Nat, k = n := ⟨k.toNat, by omega⟩
  refine (Tryd.strings_Repeat ⟨#[48]⟩ n w (by omega) (by show 1 * n ≤ _; omega)).mono ?_
  rintro e w' ⟨he, hb⟩
  refine ⟨?_, touch_below hb⟩
  rw [he, Int.toNat_natCast, ← repeat_zeros]; rfl

theorem name_no (n : Int) (h : ¬ (1 ≤ n ∧ n ≤ 999999)) : nameM n = [] := by unfold nameM; rw [if_neg h]
theorem name_yes (n : Int) (h : 1 ≤ n ∧ n ≤ 999999) : nameM n = [115] ++ zerosL (6 - (Lib.itoa n).length) ++ Lib.itoa n := by unfold nameM; rw [if_pos h]; rfl
set_option maxRecDepth 20000 in
set_option maxHeartbeats 2000000 in
theorem mname_any (n : Int) (w : World) (h0 : -9223372036854775808 ≤ n) (h1 : n ≤ 9223372036854775807) (hT : TabW w) :
    Calls Tryd.prog 23 #[.int .i64 n] w fun e w' => e = .returned (.string (mkS (nameM n))) ∧ Touch w w' (fun _ => False) := by
  have hb := Lib.itoa_length_le n h0 h1
  have HIT := Lib.hid (itoa_call n w h0 h1 hT)
  have H6 := Lib.hid (itoa_six n)
  have HS : RowKit.Hid ((mkS (Lib.itoa n)).size = (Lib.itoa n).length) := Lib.hid (mkS_size _)
  obtain ⟨s, hs⟩ : ∃ s, mkS (Lib.itoa n) = s := ⟨_, rfl⟩
  have hsz : s.size ≤ 21 := by rw [← hs, mkS_size]; exact hb
  rw [hs] at HIT HS
  have HEQ := Lib.hid hs
  by_cases hn : n < 1
  · have HF := Lib.hid (name_no n (by omega))
    go_enter Tryd.func23, Tryd.ntmps23
    go_wp2_with (go_at_call 54; (with_reducible refine HIT.out.mono ?_); rintro e w9 ⟨rfl, t9⟩; have HT9 := Lib.hid t9; clear t9)
    go_ret
    exact ⟨by rw [HF.out]; rfl, HT9.out⟩
  by_cases hl : (s.size : Int) > 6
  · have HF := Lib.hid (name_no n (fun h => by have := (H6.out (by omega)).2 h.2; have := HS.out; omega))
    go_enter Tryd.func23, Tryd.ntmps23
    go_wp2_with (go_at_call 54; (with_reducible refine HIT.out.mono ?_); rintro e w9 ⟨rfl, t9⟩; have HT9 := Lib.hid t9; clear t9)
    go_ret
    exact ⟨by rw [HF.out]; rfl, HT9.out⟩
  · have HF := Lib.hid (name_yes n ⟨by omega, (H6.out (by omega)).1 (by have := HS.out; omega)⟩)
    obtain ⟨z, hz⟩ : ∃ z, mkS (zerosL (6 - (s.size : Int)).toNat) = z := ⟨_, rfl⟩
    have hzs : z.size ≤ 6 := by rw [← hz, mkS_size, zerosL, List.length_replicate]; omega
    have HZ : RowKit.Hid (∀ W, Calls Tryd.prog 55 #[.string ⟨#[48]⟩, .int .i64 (6 - (s.size : Int))] W fun e w' => e = .returned (.string z) ∧ Touch W w' (fun _ => False)) := Lib.hid (fun W => by rw [← hz]; exact repeat_call _ W (by omega) (by omega))
    have HZE := Lib.hid hz
    clear hz
    go_enter Tryd.func23, Tryd.ntmps23
    go_wp2_with (first
      | (go_at_call 54; (with_reducible refine HIT.out.mono ?_); rintro e w9 ⟨rfl, t9⟩; have HT9 := Lib.hid t9; clear t9)
      | (go_at_call 55; (with_reducible refine (HZ.out _).mono ?_); rintro e w8 ⟨rfl, t8⟩; have HT9 := Lib.hid (HT9.out.trans t8 (fun _ _ h => h)); clear t8))
    go_ret
    refine ⟨?_, HT9.out⟩
    rw [HF.out, ← HZE.out, ← HEQ.out, ← mkS_append, ← mkS_append, mkS_size, show (6 - ((Lib.itoa n).length : Int)).toNat = 6 - (Lib.itoa n).length by omega]
    rfl

def lenV : Value → Nat
  | .string s => s.size
  | _ => 0
theorem zeros_succ (k : Nat) (l : List UInt8) : mkS (zerosL (k + 1) ++ l) = (⟨#[48]⟩ : ByteArray) ++ mkS (zerosL k ++ l) := by
  show _ = mkS [48] ++ _
  rw [mkS_append]; rfl
set_option maxRecDepth 20000 in
set_option maxHeartbeats 2000000 in
theorem rmname_any (n : Int) (w : World) (h0 : -9223372036854775808 ≤ n) (h1 : n ≤ 9223372036854775807) (hT : TabW w) :
    Calls Tryd.prog 24 #[.int .i64 n] w fun e w' => e = .returned (.string (mkS (nameM n))) ∧ Touch w w' (fun _ => False) := by
  have HIT := Lib.hid (itoa_call n w h0 h1 hT)
  by_cases hn : n < 1
  · have HF := Lib.hid (name_no n (by omega))
    go_enter Tryd.func24, Tryd.ntmps24
    go_wp2
    go_ret
    exact ⟨by rw [HF.out]; rfl, Touch.refl _ _⟩
  by_cases hn2 : n > 999999
  · have HF := Lib.hid (name_no n (by omega))
    go_enter Tryd.func24, Tryd.ntmps24
    go_wp2
    go_ret
    exact ⟨by rw [HF.out]; rfl, Touch.refl _ _⟩
  have h6 := (itoa_six n (by omega)).2 (by omega)
  have HF := Lib.hid (name_yes n ⟨by omega, by omega⟩)
  go_enter Tryd.func24, Tryd.ntmps24
  go_wp2_with (go_at_call 54; (with_reducible refine HIT.out.mono ?_); rintro e w9 ⟨rfl, t9⟩; have HT9 := Lib.hid t9; clear t9)
  go_loopw [3] (fun s wr => ∃ k : Nat, k + (Lib.itoa n).length ≤ 6 ∧ s = .string (mkS (zerosL k ++ Lib.itoa n)) ∧ Touch w wr (fun _ => False)) (fun s _ => 6 - lenV s)
  case atStart => exact ⟨0, by omega, rfl, HT9.out⟩
  case round =>
    obtain ⟨k, hk, rfl, ht⟩ := hrel
    have HT := Lib.hid ht
    have hsz : (mkS (zerosL k ++ Lib.itoa n)).size = k + (Lib.itoa n).length := by rw [mkS_size, List.length_append, zerosL, List.length_replicate]
    have HZ := Lib.hid (zeros_succ k (Lib.itoa n))
    have HK : RowKit.Hid (k + (Lib.itoa n).length = 6 → k = 6 - (Lib.itoa n).length) := Lib.hid (by omega)
    obtain ⟨s, hs⟩ : ∃ s, mkS (zerosL k ++ Lib.itoa n) = s := ⟨_, rfl⟩
    rw [hs] at hsz HZ
    have HEQ := Lib.hid hs
    rw [hs]
    clear hs ht
    by_cases hlt : (s.size : Int) < 6
    · have hb : s.size ≤ 6 := by omega
      go_wp2
      refine ⟨⟨k + 1, by omega, by rw [HZ.out], HT.out⟩, ?_⟩
      simp only [lenV, ByteArray.size_append]
      have e1 : (ByteArray.mk #[48]).size = 1 := rfl
      omega
    · have hb : s.size ≤ 6 := by omega
      have hk6 := HK.out (by omega)
      subst hk6
      go_wp2
      go_ret
      refine ⟨?_, HT.out⟩
      rw [HF.out, ← HEQ.out, List.append_assoc, ← mkS_append]; rfl

theorem bt_mkS (l : List UInt8) (k : Nat) (hk : k < l.length) : PlainAid.bt (mkS l) k = (l[k].toNat : Int) := by
  rw [← PlainAid.get_bt (mkS l) k (by rw [mkS_size]; exact hk)]
  rfl
theorem segB_len {l : List UInt8} (h : l.length ≠ 7) : segB l = false := by unfold segB; rw [decide_eq_false h]; rfl
theorem segB_head {l : List UInt8} (h : l.head? ≠ some 115) : segB l = false := by unfold segB; rw [decide_eq_false h]; simp
theorem segB_dig {l : List UInt8} (k : Nat) (hk : k < (l.drop 1).length) (h : digC (l.drop 1)[k] = false) : segB l = false := by
  have : (l.drop 1).all digC = false := by
    rw [Bool.eq_false_iff]; intro ha
    have := List.all_eq_true.1 ha _ (List.getElem_mem hk)
    rw [h] at this; cases this
  unfold segB; rw [this]; simp
theorem segB_all {l : List UInt8} (h7 : l.length = 7) (hh : l.head? = some 115) (ha : (l.drop 1).all digC = true) : segB l = decide (0 < valL 0 (l.drop 1)) ∧ segV l = (valL 0 (l.drop 1) : Nat) := by
  have e : segB l = decide (0 < valL 0 (l.drop 1)) := by unfold segB; rw [decide_eq_true h7, decide_eq_true hh, ha]; rfl
  refine ⟨e, ?_⟩
  unfold segV
  rw [e]
  by_cases h : 0 < valL 0 (l.drop 1)
  · rw [decide_eq_true h]; rfl
  · rw [decide_eq_false h, if_neg (by decide)]; omega
theorem segV_no {l : List UInt8} (h : segB l = false) : segV l = 0 := by unfold segV; rw [h]; rfl
theorem val_snoc (l : List UInt8) (k : Nat) (hk : k < l.length) : valL 0 (l.take (k + 1)) = valL 0 (l.take k) * 10 + (l[k].toNat - 48) := by
  rw [List.take_succ_eq_append_getElem hk, valL_append]; rfl
set_option maxRecDepth 20000 in
set_option maxHeartbeats 2000000 in
theorem rmnum_any (l : List UInt8) (w : World) (hl : l.length ≤ 281474976710656) :
    Calls Tryd.prog 22 #[.string (mkS l)] w fun e w' => e = .returned (.tuple #[.int .i64 (segV l), .bool (segB l)]) ∧ w' = w := by
  have hsz : (mkS l).size = l.length := mkS_size l
  have hb := PlainAid.get_bt (mkS l)
  have HBT := Lib.hid (bt_mkS l)
  obtain ⟨s, hs⟩ : ∃ s, mkS l = s := ⟨_, rfl⟩
  rw [hs] at hsz hb HBT
  rw [hs]
  clear hs
  by_cases h7 : s.size = 7
  case neg =>
    have HN : RowKit.Hid (segB l = false) := Lib.hid (segB_len (by omega))
    have hne : ((s.size : Int) != 7) = true := bne_iff_ne.2 (by omega)
    clear hb
    go_enter Tryd.func22, Tryd.ntmps22
    go_wp2
    go_ret2
    exact ⟨by rw [segV_no HN.out, HN.out]; rfl, rfl⟩
  case pos =>
  have hne : ((s.size : Int) != 7) = false := bne_eq_false_iff_eq.2 (by omega)
  have hl7 : l.length = 7 := by omega
  have H7 := Lib.hid hl7
  have HT : RowKit.Hid ((l.drop 1).length = 6) := Lib.hid (by rw [List.length_drop, hl7])
  have HH : RowKit.Hid (l.head? = some 115 ↔ l[0].toNat = 115) := Lib.hid (by
    cases l with
    | nil => simp at hl7
    | cons c r =>
      simp only [List.head?_cons, Option.some.injEq, List.getElem_cons_zero]
      exact ⟨fun h => by rw [h]; rfl, fun h => UInt8.toNat_inj.1 h⟩)
  have hb0 : PlainAid.bt s 0 = (l[0].toNat : Int) := HBT.out 0 (by omega)
  have hb6 : ∀ k, k < 6 → ∃ c : UInt8, PlainAid.bt s (k + 1) = (c.toNat : Int) ∧ (l.drop 1)[k]? = some c := fun k hk => by
    refine ⟨l[k + 1]'(by omega), HBT.out (k + 1) (by omega), ?_⟩
    rw [List.getElem?_drop, Nat.add_comm, List.getElem?_eq_getElem (by omega)]
  have HB6 := Lib.hid hb6
  clear hb6 HBT
  generalize l[0].toNat = c0 at *
  by_cases hc0 : c0 = 115
  case neg =>
    have HN : RowKit.Hid (segB l = false) := Lib.hid (segB_head (fun h => hc0 (HH.out.1 h)))
    have hne2 : ((c0 : Int) != 115) = true := bne_iff_ne.2 (by omega)
    go_enter Tryd.func22, Tryd.ntmps22
    go_wp2
    go_ret2
    exact ⟨by rw [segV_no HN.out, HN.out]; rfl, rfl⟩
  case pos =>
  subst hc0
  have HHD := Lib.hid (HH.out.2 rfl)
  have hne2 : ((115 : Int) != 115) = false := rfl
  clear HH
  go_enter Tryd.func22, Tryd.ntmps22
  go_wp2_with fail
  clear hb0
  go_loopw [4, 5] (fun n i wr => ∃ k : Nat, k ≤ 6 ∧ i = .int .i64 (k + 1 : Nat) ∧ n = .int .i64 (valL 0 ((l.drop 1).take k) : Nat) ∧ (∀ c ∈ (l.drop 1).take k, digC c = true) ∧ wr = w) (fun _ i _ => 7 - (intOf i).toNat)
  case atStart => exact ⟨0, by omega, rfl, rfl, by simp, rfl⟩
  case round =>
    obtain ⟨k, hk, rfl, rfl, ha, rfl⟩ := hrel
    have HA := Lib.hid ha
    have hv := valL_lt _ ha
    rw [List.length_take, HT.out] at hv
    have hv2 : (10 : Nat) ^ (min k 6) ≤ 10 ^ 6 := Nat.pow_le_pow_right (by decide) (by omega)
    have h3 : (10 : Nat) ^ 6 = 1000000 := by decide
    have hv3 : valL 0 ((l.drop 1).take k) < 1000000 := by omega
    clear hv hv2 h3 ha
    by_cases hlt : k < 6
    case neg =>
      obtain rfl : k = 6 := by omega
      have hlt' : ¬ ((6 + 1 : Nat) : Int) < 7 := by omega
      have hd : (l.drop 1).take 6 = l.drop 1 := List.take_of_length_le (by rw [HT.out]; omega)
      rw [hd] at HA hv3
      have HE := Lib.hid (segB_all H7.out HHD.out (List.all_eq_true.2 HA.out))
      rw [hd]
      clear hd
      generalize valL 0 (l.drop 1) = v at *
      by_cases h0 : 0 < v
      · have h0' : (v : Int) > 0 := by omega
        have HX : RowKit.Hid (decide (0 < v) = true) := Lib.hid (decide_eq_true h0)
        go_wp2
        go_ret2
        exact ⟨by rw [HE.out.1, HE.out.2, HX.out]; rfl, rfl⟩
      · have h0' : ¬ (v : Int) > 0 := by omega
        have HX : RowKit.Hid (decide (0 < v) = false) := Lib.hid (decide_eq_false h0)
        go_wp2
        go_ret2
        exact ⟨by rw [HE.out.1, HE.out.2, HX.out]; rfl, rfl⟩
    case pos =>
    obtain ⟨c, hb1, hc⟩ := HB6.out k hlt
    have hk1 : k < (l.drop 1).length := by rw [HT.out]; exact hlt
    have hcg : (l.drop 1)[k] = c := by rw [List.getElem?_eq_getElem hk1] at hc; exact Option.some.inj hc
    have HS := Lib.hid (val_snoc _ k hk1)
    have HTK := Lib.hid (List.take_succ_eq_append_getElem hk1)
    have HND := Lib.hid (segB_dig k hk1)
    rw [hcg] at HS HTK HND
    have hcl : c.toNat < 256 := c.toNat_lt
    clear hc hcg
    generalize valL 0 ((l.drop 1).take k) = v at *
    by_cases hg : 48 ≤ c.toNat ∧ c.toNat ≤ 57
    case neg =>
      have HN := Lib.hid (HND.out (decide_eq_false hg))
      generalize c.toNat = n at *
      by_cases hg1 : n < 48
      · have hg2 : (n : Int) < 48 := by omega
        clear hg
        go_wp2
        go_ret2
        exact ⟨by rw [segV_no HN.out, HN.out]; rfl, rfl⟩
      · have hg2 : ¬ (n : Int) < 48 := by omega
        have hg3 : (n : Int) > 57 := by omega
        clear hg hg1
        go_wp2
        go_ret2
        exact ⟨by rw [segV_no HN.out, HN.out]; rfl, rfl⟩
    case pos =>
      have HG : RowKit.Hid (digC c = true) := Lib.hid (decide_eq_true hg)
      generalize c.toNat = n at *
      obtain ⟨hg0, hg9⟩ := hg
      have hg2 : ¬ (n : Int) < 48 := by omega
      have hg3 : ¬ (n : Int) > 57 := by omega
      go_wp2
      refine ⟨⟨k + 1, by omega, by go_num, ?_, ?_, by trivial⟩, by simp [intOf]; omega⟩
      · rw [HS.out]; congr 1; omega
      · rw [HTK.out]; intro x hx
        rcases List.mem_append.1 hx with h | h
        · exact HA.out x h
        · rw [List.mem_singleton.1 h]; exact HG.out

theorem trim_call (l : List UInt8) (w : World) :
    Calls Tryd.prog 53 #[.string (mkS l), .string ⟨#[115]⟩] w fun e w' => e = .returned (.string (mkS (trimM l))) ∧ w = w' := by
  refine (Tryd.strings_TrimPrefix (mkS l) ⟨#[115]⟩ w).mono ?_
  rintro e w' ⟨he, hw⟩
  rw [mkS_data] at he
  exact ⟨he, hw.symm⟩
set_option maxRecDepth 20000 in
set_option maxHeartbeats 2000000 in
theorem mnum_any (l : List UInt8) (w : World) (hl : l.length ≤ 281474976710656) (hT : TabW w) (hE : ErrW w) :
    Calls Tryd.prog 21 #[.string (mkS l)] w fun e w' => e = .returned (.tuple #[.int .i64 (segV l), .bool (segB l)]) ∧ Touch w w' (fun _ => False) := by
  have HTR := Lib.hid (trim_call l w)
  have htl := trim_len l
  have hns := num_seg l
  have HV := Lib.hid (segV_no (l := l))
  have hvb := atV_bounds (trimM l)
  cases hb : atB (trimM l) with
  | false =>
    have HN : RowKit.Hid (segB l = false) := Lib.hid (by rw [← hns.1]; unfold numB; rw [hb]; rfl)
    have HAT := Lib.hid (at_bad (trimM l) w (by omega) hb hE)
    generalize mkS (trimM l) = s at *
    generalize atV (trimM l) = v at *
    clear hns hb hvb
    go_enter Tryd.func21, Tryd.ntmps21
    go_wp2_with (first
      | (go_at_call 53; (with_reducible refine HTR.out.mono ?_); rintro e w1 ⟨rfl, rfl⟩)
      | (go_at_call 52; (with_reducible refine HAT.out.mono ?_); rintro e w3 ⟨N, rfl, t3⟩))
    go_ret2
    exact ⟨by rw [HV.out HN.out, HN.out]; rfl, t3⟩
  | true =>
    have HAT := Lib.hid (at_ok (trimM l) w (by omega) hb)
    have HSB : RowKit.Hid (segB l = decide (nameM (atV (trimM l)) = l)) := Lib.hid (by rw [← hns.1]; unfold numB; rw [hb]; rfl)
    have HSV := Lib.hid hns.2
    have HNA : RowKit.Hid (∀ W, Touch w W (fun _ => False) → Calls Tryd.prog 23 #[.int .i64 (atV (trimM l))] W fun e w' => e = .returned (.string (mkS (nameM (atV (trimM l))))) ∧ Touch w w' (fun _ => False)) :=
      Lib.hid (fun W h => (mname_any _ W hvb.1 hvb.2 (hT.touch h)).mono fun e w' k => ⟨k.1, h.trans k.2 (fun _ _ h => h)⟩)
    have HST : RowKit.Hid (((mkS (nameM (atV (trimM l)))).toList == (mkS l).toList) = decide (nameM (atV (trimM l)) = l)) := Lib.hid (by
      rw [Lib.toList_data, Lib.toList_data, mkS_data, mkS_data]; by_cases h : nameM (atV (trimM l)) = l <;> simp [h])
    obtain ⟨db, hdb⟩ : ∃ x, decide (nameM (atV (trimM l)) = l) = x := ⟨_, rfl⟩
    rw [hdb] at HSB HST
    generalize mkS (nameM (atV (trimM l))) = st at *
    generalize mkS (trimM l) = s1 at *
    generalize mkS l = s at *
    generalize atV (trimM l) = v at *
    clear hns hb hdb
    cases db
    · have HS := HST.out
      go_enter Tryd.func21, Tryd.ntmps21
      go_wp2_with (first
        | (go_at_call 53; (with_reducible refine HTR.out.mono ?_); rintro e w1 ⟨rfl, rfl⟩)
        | (go_at_call 52; (with_reducible refine HAT.out.mono ?_); rintro e w3 ⟨rfl, t3⟩)
        | (go_at_call 23; (with_reducible refine (HNA.out _ t3).mono ?_); rintro e w4 ⟨rfl, t4⟩))
      go_ret2
      exact ⟨by rw [HV.out HSB.out, HSB.out]; rfl, t4⟩
    · have HS := HST.out
      go_enter Tryd.func21, Tryd.ntmps21
      go_wp2_with (first
        | (go_at_call 53; (with_reducible refine HTR.out.mono ?_); rintro e w1 ⟨rfl, rfl⟩)
        | (go_at_call 52; (with_reducible refine HAT.out.mono ?_); rintro e w3 ⟨rfl, t3⟩)
        | (go_at_call 23; (with_reducible refine (HNA.out _ t3).mono ?_); rintro e w4 ⟨rfl, t4⟩))
      go_ret2
      exact ⟨by rw [← HSV.out HSB.out, HSB.out]; rfl, t4⟩
end Go.Proofs.YtibpnlhdpdfhiaaDoor
