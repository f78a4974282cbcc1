/- The reference's Number. -/
import Derived.Test.YtgpchkobjgglhaaGreatDoorGnPmZ
import Derived.PlainAid
import Derived.Deep.DeepCutAuto
set_option linter.unusedVariables false
set_option linter.unusedSimpArgs false
namespace Go.Proofs.YtgpchkobjgglhaaGreatDoor
open Go.RowKit

theorem bt_mkSN (l : List UInt8) (k : Nat) (hk : k < l.length) : PlainAid.bt (mkS l) k = (l[k].toNat : Int) := by
  rw [← PlainAid.get_bt (mkS l) k (by rw [mkS_size]; exact hk)]
  rfl
def digN (c : UInt8) : Bool := decide (48 ≤ c.toNat ∧ c.toNat ≤ 57)
theorem valM_lt : ∀ (l : List UInt8), (∀ c ∈ l, digN c = true) → ∀ acc n : Nat, acc < 10 ^ n → valL acc l < 10 ^ (n + l.length)
  | [], _, acc, n, h => by simpa [valL] using h
  | c :: l, hl, acc, n, h => by
    have hc := hl c (List.mem_cons_self ..)
    unfold digN at hc
    have hc := of_decide_eq_true hc
    have h2 := valM_lt l (fun d hd => hl d (List.mem_cons_of_mem _ hd)) (acc * 10 + (c.toNat - 48)) (n + 1) (by rw [Nat.pow_succ]; omega)
    have e : n + 1 + l.length = n + (c :: l).length := by simp; omega
    rw [e] at h2
    exact h2
theorem valM_snoc (l : List UInt8) (k : Nat) (hk : k < l.length) : valL 0 (l.take (k + 1)) = valL 0 (l.take k) * 10 + (l[k].toNat - 48) := by
  rw [List.take_succ_eq_append_getElem hk, valL_append]; rfl
theorem tail_mkS (c : UInt8) (q : List UInt8) : (mkS (c :: q)).extract 1 (mkS (c :: q)).size = mkS q := by
  apply ByteArray.ext
  simp [mkS, ByteArray.size]
/-- How it is told. -/
def NumE (l : List UInt8) (e : Ending) : Prop := ∃ n b, e = .returned (.tuple #[.int .i64 n, .bool b]) ∧ NumIs l n b
theorem wrap_rng (n : Int) : -9223372036854775808 ≤ wrap64 n ∧ wrap64 n ≤ 9223372036854775807 := by unfold wrap64; omega
theorem numIs_all {l : List UInt8} (n : Int) (b : Bool) (hn : -9223372036854775808 ≤ n ∧ n ≤ 9223372036854775807) (h : NumL l → n = (valL 0 l : Nat) ∧ b = true) : NumIs l n b := by
  by_cases hl : NumL l
  · obtain ⟨h1, h2⟩ := h hl
    rw [h1, h2]; exact numIs_good hl
  · exact numIs_bad hl n b hn
set_option maxRecDepth 20000 in
set_option maxHeartbeats 8000000 in
theorem rnum_any (l : List UInt8) (w : World) (hl : l.length ≤ 281474976710656) :
    Calls Tryz.prog 25 #[.string (mkS l)] w fun e w' => NumE l e ∧ w' = w := by
  have hsz : (mkS l).size = l.length := mkS_size l
  have hb := PlainAid.get_bt (mkS l)
  have HBT := Lib.hid (bt_mkSN l)
  cases l with
  | nil =>
    have hs1 : ((mkS ([] : List UInt8)).toList == []) = true := by rw [mkS_toList]; rfl
    have HE : RowKit.Hid (NumIs [] 0 false) := Lib.hid (numIs_bad (fun h => h.facts.1 rfl) 0 false (by omega))
    obtain ⟨s, hs⟩ : ∃ s, mkS ([] : List UInt8) = s := ⟨_, rfl⟩
    rw [hs] at hsz hs1 hb ⊢
    simp only [List.length_nil] at hsz
    clear hs hl HBT
    go_enter Tryz.func25, Tryz.ntmps25
    go_wp2_with fail
    go_ret2
    exact ⟨⟨0, false, rfl, HE.out⟩, rfl⟩
  | cons c q =>
    have hs9 : ((mkS (c :: q)).toList == [48]) = decide (c :: q = [48]) := by rw [mkS_toList, Bool.eq_iff_iff, beq_iff_eq, decide_eq_true_iff]
    have hs0 : ((mkS (c :: q)).toList == []) = false := by rw [mkS_toList]; rfl
    have hext := tail_mkS c q
    have HLN : RowKit.Hid (NumL (c :: q) → (c :: q).length ≤ 5 ∧ c.toNat ≠ 45 ∧ (∀ x ∈ c :: q, 48 ≤ x.toNat ∧ x.toNat ≤ 57) ∧ (c.toNat = 48 → c :: q = [48])) := Lib.hid (fun h => by
      obtain ⟨h1, h2, h3, h4, h5⟩ := h.facts
      refine ⟨h2, fun e => h3 ?_, h4, fun e => h5 ?_⟩
      · rw [List.head?_cons, show c = 45 from UInt8.toNat_inj.1 e]
      · rw [List.head?_cons, show c = 48 from UInt8.toNat_inj.1 e])
    obtain ⟨s, hs⟩ : ∃ s, mkS (c :: q) = s := ⟨_, rfl⟩
    have hb0 : PlainAid.bt s 0 = (c.toNat : Int) := by rw [← hs]; exact HBT.out 0 (by simp)
    rw [hs] at hsz hb HBT hs9 hs0 hext ⊢
    have hszI : (s.size : Int) = ((q.length + 1 : Nat) : Int) := by rw [hsz]; rfl
    have hsp : (0 : Int) < s.size := by rw [hszI]; omega
    rw [hsz, List.length_cons] at hext
    have HEX := Lib.hid hext
    clear hs hext
    by_cases hc : c.toNat = 45
    · have hb1 : PlainAid.bt s 0 = 45 := by rw [hb0, hc]; rfl
      have HNO : RowKit.Hid (¬ NumL (c :: q)) := Lib.hid (fun h => (HLN.out h).2.1 hc)
      have hs9' : (s.toList == [48]) = false := by
        rw [hs9]; apply decide_eq_false; intro e
        injection e with e1 e2
        rw [e1] at hc; exact absurd hc (by decide)
      clear hb0 hs9 hs0
      have rsz : (mkS q).size = q.length := mkS_size q
      have rb := PlainAid.get_bt (mkS q)
      have RBT := Lib.hid (bt_mkSN q)
      have hq0 : ((mkS q).toList == []) = decide (q = []) := by rw [mkS_toList]; cases q <;> rfl
      obtain ⟨ts, hts⟩ : ∃ ts, mkS q = ts := ⟨_, rfl⟩
      rw [hts] at rsz rb RBT hq0 HEX
      clear hts HBT
      simp only [List.length_cons] at hl
      have HHL := Lib.hid hl
      by_cases hqn : q = []
      · have hq1 : (ts.toList == []) = true := by rw [hq0, hqn]; rfl
        have HE : RowKit.Hid (NumIs (c :: q) 0 false) := Lib.hid (numIs_bad HNO.out 0 false (by omega))
        clear hq0 hqn
        go_enter Tryz.func25, Tryz.ntmps25
        go_upto_region 5 with (fail)
        rw [HEX.out]
        go_wp2_with fail
        go_ret2
        exact ⟨⟨0, false, rfl, HE.out⟩, rfl⟩
      have hq1 : (ts.toList == []) = false := by rw [hq0]; exact decide_eq_false hqn
      clear hq0
      by_cases h19 : q.length ≤ 19
      case neg =>
        have h19' : (ts.size : Int) > 19 := by omega
        have HE : RowKit.Hid (NumIs (c :: q) 0 false) := Lib.hid (numIs_bad HNO.out 0 false (by omega))
        clear rb
        go_enter Tryz.func25, Tryz.ntmps25
        go_upto_region 5 with (fail)
        rw [HEX.out]
        go_wp2_with fail
        go_ret2
        exact ⟨⟨0, false, rfl, HE.out⟩, rfl⟩
      case pos =>
      have h19' : ¬ (ts.size : Int) > 19 := by omega
      have hql : 0 < q.length := List.length_pos_iff.2 hqn
      have rb0 : PlainAid.bt ts 0 = (q[0].toNat : Int) := RBT.out 0 hql
      generalize q[0].toNat = d0 at *
      by_cases hd : d0 = 48
      · have hd' : PlainAid.bt ts 0 = 48 := by rw [rb0, hd]; rfl
        have HE : RowKit.Hid (NumIs (c :: q) 0 false) := Lib.hid (numIs_bad HNO.out 0 false (by omega))
        have hts0 : (0 : Int) < ts.size := by omega
        clear rb0
        go_enter Tryz.func25, Tryz.ntmps25
        go_upto_region 5 with (fail)
        rw [HEX.out]
        go_wp2_with fail
        go_ret2
        exact ⟨⟨0, false, rfl, HE.out⟩, rfl⟩
      have hd' : ¬ PlainAid.bt ts 0 = 48 := by rw [rb0]; omega
      have hts0 : (0 : Int) < ts.size := by omega
      have HD' := Lib.hid hd'
      obtain ⟨z0, hz0⟩ : ∃ z, PlainAid.bt ts 0 = z := ⟨_, rfl⟩
      have hd2 : (z0 == 48) = false := by rw [← hz0]; simpa using hd'
      clear rb0 hd hd'
      go_enter Tryz.func25, Tryz.ntmps25
      go_upto_region 5 with (fail)
      rw [HEX.out]
      go_wp2_with fail
      clear hz0 hb1
      go_loopw [6, 38] (fun n i wr => ∃ k : Nat, k ≤ q.length ∧ i = .int .i64 k ∧ n = .int .u64 (valL 0 (q.take k) : Nat) ∧ (∀ y ∈ q.take k, digN y = true) ∧ wr = w) (fun _ i _ => q.length - (intOf i).toNat)
      case atStart => exact ⟨0, by omega, rfl, rfl, by simp, rfl⟩
      case round =>
        obtain ⟨k, hk, rfl, rfl, ha, rfl⟩ := hrel
        have HA := Lib.hid ha
        have hv := valM_lt (q.take k) ha 0 0 (by decide)
        rw [List.length_take] at hv
        have hv2 : (10 : Nat) ^ (0 + min k q.length) ≤ 10 ^ 19 := Nat.pow_le_pow_right (by decide) (by omega)
        have h3 : (10 : Nat) ^ 19 = 10000000000000000000 := by decide
        have hv3 : valL 0 (q.take k) < 10000000000000000000 := by omega
        clear hv2 h3 ha
        by_cases hlt : k < q.length
        case neg =>
          obtain rfl : k = q.length := by omega
          have hlt' : ¬ (q.length : Int) < ts.size := by omega
          rw [List.take_length] at HA hv3 ⊢
          clear hv
          generalize valL 0 q = v at *
          by_cases hv8 : v ≤ 9223372036854775808
          · have hv9 : (v : Int) ≤ 9223372036854775808 := by omega
            go_wp2_with fail
            go_ret2
            exact ⟨⟨_, _, rfl, numIs_bad HNO.out _ _ (wrap_rng _)⟩, rfl⟩
          · have hv9 : ¬ (v : Int) ≤ 9223372036854775808 := by omega
            go_wp2_with fail
            go_ret2
            exact ⟨⟨_, _, rfl, numIs_bad HNO.out _ _ (by omega)⟩, rfl⟩
        case pos =>
        have hv4 : valL 0 (q.take k) < 1000000000000000000 := by
          have h5 : (10 : Nat) ^ (0 + min k q.length) ≤ 10 ^ 18 := Nat.pow_le_pow_right (by decide) (by omega)
          have h6 : (10 : Nat) ^ 18 = 1000000000000000000 := by decide
          omega
        have hlt' : (k : Int) < ts.size := by omega
        have hb1 : PlainAid.bt ts k = (q[k].toNat : Int) := RBT.out k hlt
        have HS := Lib.hid (valM_snoc _ k hlt)
        have HTK := Lib.hid (List.take_succ_eq_append_getElem hlt)
        have HCM := Lib.hid (List.getElem_mem hlt)
        generalize hcc : q[k] = cc at *
        have hcl : cc.toNat < 256 := cc.toNat_lt
        clear hv hv3 hcc
        generalize valL 0 (q.take k) = v at *
        by_cases hg : 48 ≤ cc.toNat ∧ cc.toNat ≤ 57
        case neg =>
          have HE : RowKit.Hid (NumIs (c :: q) 0 false) := Lib.hid (numIs_bad HNO.out 0 false (by omega))
          generalize cc.toNat = nn at *
          by_cases hg1 : nn < 48
          · have hg2 : (nn : Int) < 48 := by omega
            clear hg
            go_wp2_with fail
            go_ret2
            exact ⟨⟨0, false, rfl, HE.out⟩, rfl⟩
          · have hg2 : ¬ (nn : Int) < 48 := by omega
            have hg3 : (nn : Int) > 57 := by omega
            clear hg hg1
            go_wp2_with fail
            go_ret2
            exact ⟨⟨0, false, rfl, HE.out⟩, rfl⟩
        case pos =>
          have HG : RowKit.Hid (digN cc = true) := Lib.hid (decide_eq_true hg)
          generalize cc.toNat = nn at *
          obtain ⟨hg0, hg9⟩ := hg
          have hg2 : ¬ (nn : Int) < 48 := by omega
          have hg3 : ¬ (nn : Int) > 57 := by omega
          go_wp2
          refine ⟨⟨k + 1, by omega, by go_num, ?_, ?_, by trivial⟩, by simp [intOf]; omega⟩
          · rw [HS.out]; congr 1; omega
          · rw [HTK.out]; intro x hx
            rcases List.mem_append.1 hx with h | h
            · exact HA.out x h
            · rw [List.mem_singleton.1 h]; exact HG.out
    · have hd0 : ¬ PlainAid.bt s 0 = 45 := by rw [hb0]; omega
      obtain ⟨z0, hz0⟩ : ∃ z, PlainAid.bt s 0 = z := ⟨_, rfl⟩
      have hz1 : (z0 == 45) = false := by rw [← hz0]; simpa using hd0
      have hzc : z0 = (c.toNat : Int) := by rw [← hz0, hb0]
      simp only [List.length_cons] at hl
      have hsl : s.size = (c :: q).length := hsz
      have hlt0 : (0 : Int) < (c :: q).length := by rw [List.length_cons]; omega
      have HCQ : RowKit.Hid ((c :: q).length = q.length + 1) := Lib.hid rfl
      clear hd0 HEX
      by_cases h19 : (c :: q).length ≤ 19
      case neg =>
        have h19' : (s.size : Int) > 19 := by omega
        have HE : RowKit.Hid (NumIs (c :: q) 0 false) := Lib.hid (numIs_bad (fun h => by have := (HLN.out h).1; omega) 0 false (by omega))
        clear hs9
        go_enter Tryz.func25, Tryz.ntmps25
        go_wp2_with fail
        go_ret2
        exact ⟨⟨0, false, rfl, HE.out⟩, rfl⟩
      case pos =>
      have h19' : ¬ (s.size : Int) > 19 := by omega
      by_cases hbad : c.toNat = 48 ∧ c :: q ≠ [48]
      case pos =>
        have hz8 : z0 = 48 := by rw [hzc, hbad.1]; rfl
        subst hz8
        have hs8 : (s.toList == [48]) = false := by rw [hs9]; exact decide_eq_false hbad.2
        have HE : RowKit.Hid (NumIs (c :: q) 0 false) := Lib.hid (numIs_bad (fun h => hbad.2 ((HLN.out h).2.2.2 hbad.1)) 0 false (by omega))
        clear hs9 hzc hz1 hb0 hbad
        go_enter Tryz.func25, Tryz.ntmps25
        go_wp2_with fail
        go_ret2
        exact ⟨⟨0, false, rfl, HE.out⟩, rfl⟩
      case neg =>
      have hbad2 : (z0 == 48) = false ∨ (z0 = 48 ∧ (s.toList == [48]) = true) := by
        by_cases h : c.toNat = 48
        · refine .inr ⟨by rw [hzc, h]; rfl, ?_⟩
          rw [hs9]
          refine decide_eq_true ?_
          by_cases h9 : c :: q = [48]
          · exact h9
          · exact absurd ⟨h, h9⟩ hbad
        · refine .inl ?_
          have : ¬ z0 = 48 := by rw [hzc]; omega
          simpa using this
      clear hs9 hzc hbad hb0
      rcases hbad2 with hz8 | ⟨rfl, hs8⟩
      · go_enter Tryz.func25, Tryz.ntmps25
        go_wp2_with fail
        clear hz0
        go_loopw [6, 38] (fun n i wr => ∃ k : Nat, k ≤ (c :: q).length ∧ i = .int .i64 k ∧ n = .int .u64 (valL 0 ((c :: q).take k) : Nat) ∧ (∀ y ∈ (c :: q).take k, digN y = true) ∧ wr = w) (fun _ i _ => (c :: q).length - (intOf i).toNat)
        case atStart => exact ⟨0, by omega, rfl, rfl, by simp, rfl⟩
        case round =>
          obtain ⟨k, hk, rfl, rfl, ha, rfl⟩ := hrel
          have HA := Lib.hid ha
          have hv := valM_lt ((c :: q).take k) ha 0 0 (by decide)
          rw [List.length_take] at hv
          have hv2 : (10 : Nat) ^ (0 + min k (c :: q).length) ≤ 10 ^ 19 := Nat.pow_le_pow_right (by decide) (by omega)
          have h3 : (10 : Nat) ^ 19 = 10000000000000000000 := by decide
          have hv3 : valL 0 ((c :: q).take k) < 10000000000000000000 := by omega
          clear hv2 h3 ha
          by_cases hlt : k < (c :: q).length
          case neg =>
            obtain rfl : k = (c :: q).length := by omega
            have hlt' : ¬ ((c :: q).length : Int) < s.size := by omega
            rw [List.take_length] at HA hv3 ⊢
            clear hv
            have HEV := Lib.hid (numIs_all (l := c :: q) (valL 0 (c :: q) : Nat) true)
            have HBG : RowKit.Hid (9223372036854775808 ≤ valL 0 (c :: q) → ¬ NumL (c :: q)) := Lib.hid (fun h9 h => by
              obtain ⟨x, x0, x1, e⟩ := h
              obtain ⟨u, rfl⟩ : ∃ u : Nat, x = u := ⟨x.toNat, by omega⟩
              rw [e, Lib.itoa_nonneg, valL_dec] at h9
              omega)
            generalize valL 0 (c :: q) = v at *
            by_cases hv8 : v < 9223372036854775808
            · have hv9 : (v : Int) < 9223372036854775808 := by omega
              go_wp2_with fail
              go_ret2
              exact ⟨⟨_, _, rfl, HEV.out (by omega) (by simp)⟩, rfl⟩
            · have hv9 : ¬ (v : Int) < 9223372036854775808 := by omega
              go_wp2_with fail
              go_ret2
              exact ⟨⟨_, _, rfl, numIs_bad (HBG.out (by omega)) _ _ (by omega)⟩, rfl⟩
          case pos =>
          have hv4 : valL 0 ((c :: q).take k) < 1000000000000000000 := by
            have h5 : (10 : Nat) ^ (0 + min k (c :: q).length) ≤ 10 ^ 18 := Nat.pow_le_pow_right (by decide) (by omega)
            have h6 : (10 : Nat) ^ 18 = 1000000000000000000 := by decide
            omega
          have hlt' : (k : Int) < s.size := by omega
          have hb1 : PlainAid.bt s k = ((c :: q)[k].toNat : Int) := HBT.out k hlt
          have HS := Lib.hid (valM_snoc _ k hlt)
          have HTK := Lib.hid (List.take_succ_eq_append_getElem hlt)
          have HCM := Lib.hid (List.getElem_mem hlt)
          generalize hcc : (c :: q)[k] = cc at *
          have hcl : cc.toNat < 256 := cc.toNat_lt
          clear hv hv3 hcc
          generalize valL 0 ((c :: q).take k) = v at *
          by_cases hg : 48 ≤ cc.toNat ∧ cc.toNat ≤ 57
          case neg =>
            have HE : RowKit.Hid (NumIs (c :: q) 0 false) := Lib.hid (numIs_bad (fun h => hg ((HLN.out h).2.2.1 cc HCM.out)) 0 false (by omega))
            generalize cc.toNat = nn at *
            by_cases hg1 : nn < 48
            · have hg2 : (nn : Int) < 48 := by omega
              clear hg
              go_wp2_with fail
              go_ret2
              exact ⟨⟨0, false, rfl, HE.out⟩, rfl⟩
            · have hg2 : ¬ (nn : Int) < 48 := by omega
              have hg3 : (nn : Int) > 57 := by omega
              clear hg hg1
              go_wp2_with fail
              go_ret2
              exact ⟨⟨0, false, rfl, HE.out⟩, rfl⟩
          case pos =>
            have HG : RowKit.Hid (digN cc = true) := Lib.hid (decide_eq_true hg)
            generalize cc.toNat = nn at *
            obtain ⟨hg0, hg9⟩ := hg
            have hg2 : ¬ (nn : Int) < 48 := by omega
            have hg3 : ¬ (nn : Int) > 57 := by omega
            go_wp2
            refine ⟨⟨k + 1, by omega, by go_num, ?_, ?_, by trivial⟩, by simp [intOf]; omega⟩
            · rw [HS.out]; congr 1; omega
            · rw [HTK.out]; intro x hx
              rcases List.mem_append.1 hx with h | h
              · exact HA.out x h
              · rw [List.mem_singleton.1 h]; exact HG.out
      · go_enter Tryz.func25, Tryz.ntmps25
        go_wp2_with fail
        clear hz0
        go_loopw [6, 38] (fun n i wr => ∃ k : Nat, k ≤ (c :: q).length ∧ i = .int .i64 k ∧ n = .int .u64 (valL 0 ((c :: q).take k) : Nat) ∧ (∀ y ∈ (c :: q).take k, digN y = true) ∧ wr = w) (fun _ i _ => (c :: q).length - (intOf i).toNat)
        case atStart => exact ⟨0, by omega, rfl, rfl, by simp, rfl⟩
        case round =>
          obtain ⟨k, hk, rfl, rfl, ha, rfl⟩ := hrel
          have HA := Lib.hid ha
          have hv := valM_lt ((c :: q).take k) ha 0 0 (by decide)
          rw [List.length_take] at hv
          have hv2 : (10 : Nat) ^ (0 + min k (c :: q).length) ≤ 10 ^ 19 := Nat.pow_le_pow_right (by decide) (by omega)
          have h3 : (10 : Nat) ^ 19 = 10000000000000000000 := by decide
          have hv3 : valL 0 ((c :: q).take k) < 10000000000000000000 := by omega
          clear hv2 h3 ha
          by_cases hlt : k < (c :: q).length
          case neg =>
            obtain rfl : k = (c :: q).length := by omega
            have hlt' : ¬ ((c :: q).length : Int) < s.size := by omega
            rw [List.take_length] at HA hv3 ⊢
            clear hv
            have HEV := Lib.hid (numIs_all (l := c :: q) (valL 0 (c :: q) : Nat) true)
            have HBG : RowKit.Hid (9223372036854775808 ≤ valL 0 (c :: q) → ¬ NumL (c :: q)) := Lib.hid (fun h9 h => by
              obtain ⟨x, x0, x1, e⟩ := h
              obtain ⟨u, rfl⟩ : ∃ u : Nat, x = u := ⟨x.toNat, by omega⟩
              rw [e, Lib.itoa_nonneg, valL_dec] at h9
              omega)
            generalize valL 0 (c :: q) = v at *
            by_cases hv8 : v < 9223372036854775808
            · have hv9 : (v : Int) < 9223372036854775808 := by omega
              go_wp2_with fail
              go_ret2
              exact ⟨⟨_, _, rfl, HEV.out (by omega) (by simp)⟩, rfl⟩
            · have hv9 : ¬ (v : Int) < 9223372036854775808 := by omega
              go_wp2_with fail
              go_ret2
              exact ⟨⟨_, _, rfl, numIs_bad (HBG.out (by omega)) _ _ (by omega)⟩, rfl⟩
          case pos =>
          have hv4 : valL 0 ((c :: q).take k) < 1000000000000000000 := by
            have h5 : (10 : Nat) ^ (0 + min k (c :: q).length) ≤ 10 ^ 18 := Nat.pow_le_pow_right (by decide) (by omega)
            have h6 : (10 : Nat) ^ 18 = 1000000000000000000 := by decide
            omega
          have hlt' : (k : Int) < s.size := by omega
          have hb1 : PlainAid.bt s k = ((c :: q)[k].toNat : Int) := HBT.out k hlt
          have HS := Lib.hid (valM_snoc _ k hlt)
          have HTK := Lib.hid (List.take_succ_eq_append_getElem hlt)
          have HCM := Lib.hid (List.getElem_mem hlt)
          generalize hcc : (c :: q)[k] = cc at *
          have hcl : cc.toNat < 256 := cc.toNat_lt
          clear hv hv3 hcc
          generalize valL 0 ((c :: q).take k) = v at *
          by_cases hg : 48 ≤ cc.toNat ∧ cc.toNat ≤ 57
          case neg =>
            have HE : RowKit.Hid (NumIs (c :: q) 0 false) := Lib.hid (numIs_bad (fun h => hg ((HLN.out h).2.2.1 cc HCM.out)) 0 false (by omega))
            generalize cc.toNat = nn at *
            by_cases hg1 : nn < 48
            · have hg2 : (nn : Int) < 48 := by omega
              clear hg
              go_wp2_with fail
              go_ret2
              exact ⟨⟨0, false, rfl, HE.out⟩, rfl⟩
            · have hg2 : ¬ (nn : Int) < 48 := by omega
              have hg3 : (nn : Int) > 57 := by omega
              clear hg hg1
              go_wp2_with fail
              go_ret2
              exact ⟨⟨0, false, rfl, HE.out⟩, rfl⟩
          case pos =>
            have HG : RowKit.Hid (digN cc = true) := Lib.hid (decide_eq_true hg)
            generalize cc.toNat = nn at *
            obtain ⟨hg0, hg9⟩ := hg
            have hg2 : ¬ (nn : Int) < 48 := by omega
            have hg3 : ¬ (nn : Int) > 57 := by omega
            go_wp2
            refine ⟨⟨k + 1, by omega, by go_num, ?_, ?_, by trivial⟩, by simp [intOf]; omega⟩
            · rw [HS.out]; congr 1; omega
            · rw [HTK.out]; intro x hx
              rcases List.mem_append.1 hx with h | h
              · exact HA.out x h
              · rw [List.mem_singleton.1 h]; exact HG.out
end Go.Proofs.YtgpchkobjgglhaaGreatDoor
