/- MaglevFair answers true for any numbers, any weights, any choice of how many slots: each slot is taken by a backend that there is, and the shares are fair. No condition. -/
import Derived.Test.YtcfiaflcgphgbaaMagF
import Derived.Test.YtcfiaflcgphgbaaRecArgs
import Derived.Deep.DeepCutAuto
import Derived.Test.YtcfiaflcgphgbaaFrMaglevFair
set_option linter.unusedVariables false
namespace Go.Proofs.Ytcfiaflcgphgbaa
open Go.RowKit Go.Maps

def prF (j : Nat) : Nat := [3, 7, 13, 61, 127, 251].getD j 0
theorem prF_ok (j : Nat) (h : j < 6) : Prm (prF j) := by
  rcases (by omega : j = 0 ∨ j = 1 ∨ j = 2 ∨ j = 3 ∨ j = 4 ∨ j = 5) with rfl | rfl | rfl | rfl | rfl | rfl
  · exact prm3
  · exact prm7
  · exact prm13
  · exact prm61
  · exact prm127
  · exact prm251
theorem RowI.at_ {w : World} {a : Option Addr} {len cap : Nat} {zs : List Int} (h : RowI w a len cap zs) (k : Nat) (hk : k < len) : ∃ b off z, a = .some ⟨b, off, none⟩ ∧ w.cell? ⟨b, off + k, none⟩ = Option.some (.int .i64 z) ∧ i64 z := by
  obtain ⟨b, off, ha, hc⟩ := h.some (by omega)
  have hz : k < zs.length := by rw [h.1]; exact hk
  exact ⟨b, off, zs[k], ha, hc k hz, h.2.2.2.1 _ (List.getElem_mem hz)⟩

set_option maxRecDepth 20000 in
set_option maxHeartbeats 8000000 in
theorem fair_walk (a a2 : Option Addr) (l1 c1 l2 c2 : Nat) (ids ws : List Int) (pick : Int) (w : World) (hr : RowI w a l1 c1 ids) (hr2 : RowI w a2 l2 c2 ws) (hpk : i64 pick) :
    Calls Try.prog 4 #[.slice a l1 c1, .slice a2 l2 c2, .int .i64 pick] w fun e w' => e = .returned (.bool true) ∧ Touch w w' (fun _ => False) := by
  have hcap := hr.2.2.1
  have hcap1 := hr.2.1
  have hcap2 := hr2.2.2.1
  have hcap3 := hr2.2.1
  have HR := Lib.hid hr
  have HR2 := Lib.hid hr2
  have HII := Lib.hid infoBk
  obtain ⟨U, hU⟩ : ∃ U, u64N pick = U := ⟨_, rfl⟩
  have HU : RowKit.Hid (IntKind.u64.wrap pick = (U : Int)) := Lib.hid (by rw [u64N_wrap, hU])
  have HUL : RowKit.Hid (U < 18446744073709551616) := Lib.hid (by rw [← hU]; exact u64N_lt pick)
  obtain ⟨j, hj⟩ : ∃ j, U % 6 = j := ⟨_, rfl⟩
  have hj6 : j < 6 := by omega
  have HE1 : RowKit.Hid ((U : Int) % 6 = (j : Int)) := Lib.hid (by omega)
  have HE2 : RowKit.Hid ((U : Int).tmod 6 = (j : Int)) := Lib.hid (by rw [Int.tmod_eq_emod_of_nonneg (by omega)]; omega)
  obtain ⟨n, hn⟩ : ∃ n, prF j = n := ⟨_, rfl⟩
  have hp : Prm n := hn ▸ prF_ok j hj6
  have HN := Lib.hid hn
  have HP := Lib.hid hp
  have hn3 := hp.lo
  have hn251 := hp.hi
  clear hr hr2 hU hn hp hj hpk
  go_enter Try.func4, Try.ntmps4
  go_wp2_with fail
  go_loopw [7, 8, 30] (fun s la i wr => ∃ (k : Nat) (a' : Option Addr) (c' : Nat) (bs : List BkD) (last : Int), k ≤ l1 ∧ i = .int .i64 k ∧ s = .slice a' k c' ∧ la = .int .i64 last ∧ -1 ≤ last ∧ last ≤ 65535 ∧ OwnK wr w.heap.size (.slice a' k c') bs ∧ bs.length = k ∧ k ≤ 16 ∧ gmay bs = true ∧ (∀ b ∈ bs, b.id ≤ last) ∧ Touch w wr (fun _ => False)) (fun _ _ i _ => l1 - (intOf i).toNat)
  case atStart => exact ⟨0, none, 0, [], -1, Nat.zero_le _, rfl, rfl, rfl, by omega, by omega, OwnS.nil _ _ _ _, rfl, by omega, gmay_nil, by simp, Touch.refl _ _⟩
  case round =>
    obtain ⟨k, a', c', bs, last, hk, rfl, rfl, rfl, hla1, hla2, ho, hbl, hk16, hg, hle, ht⟩ := hrel
    have HO := Lib.hid ho
    have HT := Lib.hid ht
    have HBL := Lib.hid hbl
    have HG := Lib.hid hg
    have HLE := Lib.hid hle
    clear ho ht hbl hg hle
    obtain ⟨W1, hW1⟩ : ∃ W, wr.alloc (.cells #[.int .i64 3, .int .i64 7, .int .i64 13, .int .i64 61, .int .i64 127, .int .i64 251] 33) = W := ⟨_, rfl⟩
    have g1 : W1.heap[wr.heap.size]? = some (.cells #[.int .i64 3, .int .i64 7, .int .i64 13, .int .i64 61, .int .i64 127, .int .i64 251] 33 (0, 0)) := hW1 ▸ heap_alloc_new ..
    have c1 : W1.cell? ⟨wr.heap.size, j, none⟩ = some (.int .i64 (n : Nat)) := by
      rw [cell_of_cells g1 j, ← HN.out]
      rcases (by omega : j = 0 ∨ j = 1 ∨ j = 2 ∨ j = 3 ∨ j = 4 ∨ j = 5) with rfl | rfl | rfl | rfl | rfl | rfl <;> rfl
    have t1 : Touch wr W1 (fun _ => False) := hW1 ▸ (Touch.refl wr _).alloc _
    have HT1 := Lib.hid (HT.out.trans t1 (fun _ _ h => h))
    have HO1 := Lib.hid (HO.out.still t1)
    have HC1 := Lib.hid c1
    have HW1 := Lib.hid hW1
    clear g1 c1 t1 hW1
    by_cases hlt : k < l1
    case neg =>
      obtain rfl : l1 = k := by omega
      have hlt' : ¬ (l1 : Int) < l1 := by omega
      go_upto_region 15 with (fail)
      rw [HW1.out]
      have c1 := HC1.out
      have hu := HU.out
      have hul := HUL.out
      have e1 := HE1.out
      have e2 := HE2.out
      go_wp2_with fail
      clear c1 hu hul e1 e2
      refine (table_any a' l1 c' n bs W1 HP.out HO1.out.row.2.1).mono ?_
      rintro e w3 ⟨G, rfl, ho3, t3⟩
      have HT3 := Lib.hid (HT1.out.trans t3 (fun _ _ h => h))
      have HK3 := Lib.hid (HO1.out.row.2.1.still t3)
      have HI3 := Lib.hid (ho3.rowI (tab_i64 HP.out))
      clear ho3 t3
      have hbn : ((n : Int) != n) = false := bne_eq_false_iff_eq.2 rfl
      go_wp2_with fail
      refine (shares_any _ _ _ _ _ HI3.out (by omega)).mono ?_
      rintro e w4 ⟨rfl, hs, t4⟩
      obtain ⟨S, hS⟩ : ∃ S, w3.heap.size = S := ⟨_, rfl⟩
      rw [hS] at hs ⊢
      have HS := Lib.hid hs
      have HT := Lib.hid (HT3.out.trans t4 (fun _ _ h => h))
      have HK := Lib.hid (HK3.out.still t4)
      have HI := Lib.hid (HI3.out.still t4)
      have HTL : RowKit.Hid ((tabF bs n).length = n) := Lib.hid (tab_len HP.out)
      clear hs t4 hS
      by_cases hk0 : l1 = 0
      · have hk0I : (l1 : Int) = 0 := by omega
        have HTF : RowKit.Hid (tabF bs n = List.replicate n (-1)) := Lib.hid (by unfold tabF; rw [if_pos (.inl (by rw [HBL.out]; exact hk0))])
        have hz : Maps.size (shD (tabF bs n) n) = 0 := by
          rw [shD_none _ (fun x hx => by rw [HTF.out] at hx; simp at hx; omega) n]; rfl
        have cz : w4.cell? ⟨G, 0, none⟩ = some (.int .i64 (-1)) := by
          obtain ⟨b9, off9, hb9, hc9⟩ := HI.out.some (by omega)
          cases hb9
          have h9 := hc9 0 (by rw [HTL.out]; omega)
          have h8 : ∀ x ∈ tabF bs n, x = -1 := fun x hx => by rw [HTF.out] at hx; exact (List.mem_replicate.1 hx).2
          rw [h8 _ (List.getElem_mem _)] at h9
          exact h9
        go_wp2_with (first
          | (at_len; refine wpList_len_own _ rfl _ _ rfl 3 3 Try.underlying24 _ S n _ rfl HS.out ?_; rw [hz])
          | (go_at_call 8; (with_reducible refine (awake18 _).mono ?_); rintro e w9 ⟨rfl, t9⟩; have HT9 := Lib.hid (HT.out.trans t9 (fun _ _ h => h)); clear t9))
        go_ret
        exact ⟨rfl, HT9.out⟩
      · have hk0I : ¬ (l1 : Int) = 0 := by omega
        have hk0B : ((l1 : Int) == 0) = false := beq_eq_false_iff_ne.2 hk0I
        have hF := fair_tab HP.out HG.out (show 0 < bs.length by rw [HBL.out]; omega)
        have HFT := Lib.hid hF
        obtain ⟨rs, hrs⟩ : ∃ rs, rowsF bs n = rs := ⟨_, rfl⟩
        obtain ⟨T, hT⟩ : ∃ T, tabF bs n = T := ⟨_, rfl⟩
        rw [hT] at HS HI HTL HFT
        rw [hT] at HI3
        obtain ⟨b0, hb0⟩ : ∃ b0, bs[0]? = some b0 := ⟨_, List.getElem?_eq_getElem (by rw [HBL.out]; omega)⟩
        have HB0 := Lib.hid hb0
        have HRS := Lib.hid hrs
        have HAL : RowKit.Hid (allW rs ≤ 160 ∧ 0 < allW rs) := Lib.hid (by rw [← hrs]; exact ⟨hF.le, hF.pos⟩)
        have HTOT : RowKit.Hid (∀ q, q ≤ l1 → totF rs n q ≤ n) := Lib.hid (fun q hq => by
          have h1 := hF.total
          rw [HBL.out, hrs] at h1
          have key : ∀ d, totF rs n q ≤ totF rs n (q + d) := fun d => by
            induction d with
            | zero => exact Nat.le_refl _
            | succ d ih => rw [← Nat.add_assoc, totF_succ]; omega
          have := key (l1 - q)
          rw [show q + (l1 - q) = l1 from by omega, h1] at this
          exact this)
        clear hF hb0 hrs hT
        go_wp2_with fail
        go_loopw [17, 18, 19, 101] (fun tt al eq i wv => ∃ (q : Nat) (e : Bool), q ≤ l1 ∧ i = .int .i64 q ∧ tt = .int .i64 (totF rs n q : Nat) ∧ al = .int .i64 (pre rs q : Nat) ∧ eq = .bool e ∧ (e = true → ∀ (p : Nat) (b : BkD), p < q → bs[p]? = some b → b.weight = b0.weight) ∧ Shr wv S T n ∧ RowK wv a' l1 c' bs ∧ Touch w wv (fun _ => False)) (fun _ _ _ i _ => l1 - (intOf i).toNat)
        case atStart => exact ⟨0, true, Nat.zero_le _, rfl, rfl, by rw [pre_zero]; rfl, rfl, fun _ p b hp => by omega, HS.out, HK.out, HT.out⟩
        case round =>
          obtain ⟨q, e, hq, rfl, rfl, rfl, rfl, hew, hs, hkr, ht⟩ := hrel
          have HEW := Lib.hid hew
          have HS := Lib.hid hs
          have HK := Lib.hid hkr
          have HT := Lib.hid ht
          clear hew hs hkr ht
          by_cases hqk : q < l1
          case pos =>
            obtain ⟨bb, offb, hab⟩ := HK.out.some (by omega)
            subst hab
            have hql : q < bs.length := by rw [HBL.out]; exact hqk
            obtain ⟨d0, d1, d2⟩ := HK.out.cells q hql
            have hfe := HFT.out.each q bs[q] (List.getElem?_eq_getElem hql)
            have HBQ : RowKit.Hid (bs[q]? = some bs[q]) := Lib.hid (List.getElem?_eq_getElem hql)
            obtain ⟨f, hf⟩ : ∃ f, bs[q] = f := ⟨_, rfl⟩
            rw [hf] at d0 d1 d2 hfe HBQ
            rw [HRS.out] at hfe
            obtain ⟨hcn, hwn, hw1, hw2, hi1, hi2, _, _, hpre⟩ := hfe
            obtain ⟨wt, hwt⟩ : ∃ wt, f.weight.toNat = wt := ⟨_, rfl⟩
            rw [hwt] at hwn hw1 hw2 hpre
            have HPRE := Lib.hid hpre
            have HTS := Lib.hid (totF_succ rs n q)
            have HTQ := HTOT.out q hq
            have HTQ1 := HTOT.out (q + 1) hqk
            have HCN := Lib.hid hcn
            have hcl : cnt rs q n ≤ n := by have := HTS.out; omega
            have hpl : pre rs q ≤ 160 := by have := pre_le rs q; have := HAL.out; omega
            generalize totF rs n q = tq at *
            generalize pre rs q = pq at *
            generalize cnt rs q n = cq at *
            have hqI : (q : Int) < l1 := by omega
            rw [hwn] at d2
            have hb0q := HK.out.cells 0 (by rw [HBL.out]; omega)
            have e0 : bs[0]'(by rw [HBL.out]; omega) = b0 := by
              have := HB0.out
              rw [List.getElem?_eq_getElem (by rw [HBL.out]; omega)] at this
              simpa using this
            obtain ⟨W2, hW2⟩ : ∃ W, wr.alloc (.cells #[.int .i64 f.id, .int .u32 f.addr, .int .i64 (wt : Nat)] 32) = W := ⟨_, rfl⟩
            have t2 : Touch wr W2 (fun _ => False) := hW2 ▸ (Touch.refl wr _).alloc _
            have g2 : W2.heap[wr.heap.size]? = some (.cells #[.int .i64 f.id, .int .u32 f.addr, .int .i64 (wt : Nat)] 32 (0, 0)) := hW2 ▸ heap_alloc_new ..
            have x0 : W2.cell? ⟨wr.heap.size, 0, none⟩ = some (.int .i64 f.id) := cell_of_cells g2 0
            have x2 : W2.cell? ⟨wr.heap.size, 2, none⟩ = some (.int .i64 (wt : Nat)) := cell_of_cells g2 2
            have HS2 := Lib.hid (HS.out.kept t2)
            have HK2 := Lib.hid (HK.out.still t2)
            have HT2 := Lib.hid (HT.out.trans t2 (fun _ _ h => h))
            have k1 := HS2.out.look HTL.out f.id hi1 (by omega)
            rw [hcn] at k1
            have z2 := (HK2.out.cells 0 (by rw [HBL.out]; omega)).2.2
            rw [e0, Nat.zero_mul, Nat.add_zero] at z2
            have HW2 := Lib.hid hW2
            have HX0 := Lib.hid x0
            have HX2 := Lib.hid x2
            have HK1 := Lib.hid k1
            have HZ2 := Lib.hid z2
            have HHW := Lib.hid hwn
            clear t2 g2 x0 x2 k1 z2 hW2 hb0q hwt hcn hpre hwn hf e0
            go_upto_region 26 with (fail)
            rw [HW2.out]
            have x0 := HX0.out
            have x2 := HX2.out
            have k1 := HK1.out
            have z2 := HZ2.out
            cases e with
            | true =>
              obtain ⟨eb, hbe⟩ : ∃ eb, (((wt : Nat) : Int) == b0.weight) = eb := ⟨_, rfl⟩
              have HBE := Lib.hid hbe
              go_wp2_with fail
              go_quiet (fail)
              go_wp2
              refine ⟨⟨q + 1, eb, hqk, by go_num, by rw [HTS.out]; go_num, by rw [HPRE.out]; go_num, rfl, fun he p b hp hb => ?_, HS2.out.kept ((Touch.refl W2 (fun _ => False)).drewN _), HK2.out.still ((Touch.refl W2 (fun _ => False)).drewN _), HT2.out.drewN _⟩, by simp [intOf]; omega⟩
              rcases Nat.lt_or_ge p q with h9 | h9
              · first | exact HEW.out rfl p b h9 hb | exact HEW.out trivial p b h9 hb
              · obtain rfl : p = q := by omega
                rw [HBQ.out] at hb
                simp only [Option.some.injEq] at hb
                subst hb
                rw [HHW.out]; exact beq_iff_eq.1 (HBE.out.trans he)
            | false =>
              go_wp2_with fail
              go_quiet (fail)
              go_wp2
              exact ⟨⟨q + 1, false, hqk, by go_num, by rw [HTS.out]; go_num, by rw [HPRE.out]; go_num, rfl, (fun h => by cases h), HS2.out.kept ((Touch.refl W2 (fun _ => False)).drewN _), HK2.out.still ((Touch.refl W2 (fun _ => False)).drewN _), HT2.out.drewN _⟩, by simp [intOf]; omega⟩
          case neg =>
            obtain rfl : l1 = q := by omega
            have hqI : ¬ (l1 : Int) < l1 := by omega
            have etot : totF rs n l1 = n := by have := HFT.out.total; rwa [HBL.out, HRS.out] at this
            have eall : pre rs l1 = allW rs := by have := HFT.out.all; rwa [HBL.out, HRS.out] at this
            rw [etot, eall]
            obtain ⟨Al, hAl⟩ : ∃ A, allW rs = A := ⟨_, rfl⟩
            have hA1 : 0 < Al := by have := HAL.out; omega
            have hA2 : Al ≤ 160 := by have := HAL.out; omega
            have HALE := Lib.hid hAl
            rw [hAl]
            have hlenE := fun ty => World.ownsMap.len HS.out Try.underlying24 ty
            have hsz : Maps.size (shD T n) ≤ l1 := by have := HFT.out.size; rwa [HBL.out] at this
            generalize Maps.size (shD T n) = z at *
            have hszI : ¬ ((z : Int) > (l1 : Int)) := by omega
            obtain ⟨Rn, hRn⟩ : ∃ R, (n + Al - 1) / Al = R := ⟨_, rfl⟩
            have HRN := Lib.hid hRn
            have hquo : ((n : Int) + (Al : Int) - 1).tdiv (Al : Int) = (Rn : Int) := by
              rw [show (n : Int) + (Al : Int) - 1 = ((n + Al - 1 : Nat) : Int) from by omega, Int.tdiv_eq_ediv_of_nonneg (by omega), ← hRn]; norm_cast
            have hquo2 : ((n : Int) + (Al : Int) - 1) / (Al : Int) = (Rn : Int) := by
              rw [show (n : Int) + (Al : Int) - 1 = ((n + Al - 1 : Nat) : Int) from by omega, ← hRn]; norm_cast
            have hRl : Rn ≤ 411 := by rw [← hRn]; exact Nat.le_trans (Nat.div_le_self _ _) (by omega)
            have hAl0 : ((Al : Int) == 0) = false := beq_eq_false_iff_ne.2 (by omega)
            have hAl1 : ¬ Al = 0 := by omega
            clear etot eall hAl hRn hsz
            go_wp2_with fail
            go_loopw [144] (fun i wv => ∃ q : Nat, q ≤ l1 ∧ i = .int .i64 q ∧ Shr wv S T n ∧ RowK wv a' l1 c' bs ∧ Touch w wv (fun _ => False)) (fun i _ => l1 - (intOf i).toNat)
            case atStart => exact ⟨0, Nat.zero_le _, rfl, HS.out, HK.out, HT.out⟩
            case round =>
              obtain ⟨q, hq, rfl, hs, hkr, ht⟩ := hrel
              have HS := Lib.hid hs
              have HK := Lib.hid hkr
              have HT := Lib.hid ht
              clear hs hkr ht
              by_cases hqk : q < l1
              case neg =>
                obtain rfl : l1 = q := by omega
                have hqI : ¬ (l1 : Int) < l1 := by omega
                go_wp2_with (go_at_call 8; (with_reducible refine (awake18 _).mono ?_); rintro e w9 ⟨rfl, t9⟩; have HT9 := Lib.hid (HT.out.trans t9 (fun _ _ h => h)); clear t9)
                go_ret
                exact ⟨rfl, HT9.out⟩
              case pos =>
              obtain ⟨bb, offb, hab⟩ := HK.out.some (by omega)
              subst hab
              have hql : q < bs.length := by rw [HBL.out]; exact hqk
              obtain ⟨d0, d1, d2⟩ := HK.out.cells q hql
              have hfe := HFT.out.each q bs[q] (List.getElem?_eq_getElem hql)
              have HBQ : RowKit.Hid (bs[q]? = some bs[q]) := Lib.hid (List.getElem?_eq_getElem hql)
              obtain ⟨f, hf⟩ : ∃ f, bs[q] = f := ⟨_, rfl⟩
              rw [hf] at d0 d1 d2 hfe HBQ
              rw [HRS.out, HALE.out, HRN.out] at hfe
              obtain ⟨hcn, hwn, hw1, hw2, hi1, hi2, hlo, hhi, _⟩ := hfe
              obtain ⟨wt, hwt⟩ : ∃ wt, f.weight.toNat = wt := ⟨_, rfl⟩
              rw [hwt] at hwn hw1 hw2 hlo hhi
              rw [hwn] at d2
              obtain ⟨cb, hcb⟩ : ∃ c, T.count f.id = c := ⟨_, rfl⟩
              rw [hcb] at hlo hhi
              obtain ⟨P1, hP1⟩ : ∃ P, Rn * wt = P := ⟨_, rfl⟩
              obtain ⟨P2, hP2⟩ : ∃ P, (Rn - 1) * wt = P := ⟨_, rfl⟩
              rw [hP1] at hhi
              rw [hP2] at hlo
              have hR1 : 1 ≤ Rn := by
                rw [← HRN.out]
                exact (Nat.le_div_iff_mul_le hA1).2 (by omega)
              have hP1l : P1 ≤ 4110 := by rw [← hP1]; exact Nat.mul_le_mul (show Rn ≤ 411 from hRl) (show wt ≤ 10 from hw2)
              have hP2l : P2 ≤ 4110 := by rw [← hP2]; exact Nat.mul_le_mul (show Rn - 1 ≤ 411 by omega) (show wt ≤ 10 from hw2)
              have hP12 : P1 = P2 + wt := by
                rw [← hP1, ← hP2]
                have : Rn = (Rn - 1) + 1 := by omega
                conv => lhs; rw [this, Nat.succ_mul]
              have hP1I : (Rn : Int) * (wt : Int) = (P1 : Int) := by rw [← hP1]; norm_cast
              have hP2I : ((Rn : Int) - 1) * (wt : Int) = (P2 : Int) := by rw [← hP2, show (Rn : Int) - 1 = ((Rn - 1 : Nat) : Int) from by omega]; norm_cast
              have hc1 : ¬ ((cb : Int) > (P1 : Int)) := by omega
              have hc2 : ¬ ((cb : Int) < (P2 : Int)) := by omega
              have hqI : (q : Int) < l1 := by omega
              obtain ⟨W2, hW2⟩ : ∃ W, wr.alloc (.cells #[.int .i64 f.id, .int .u32 f.addr, .int .i64 (wt : Nat)] 32) = W := ⟨_, rfl⟩
              have t2 : Touch wr W2 (fun _ => False) := hW2 ▸ (Touch.refl wr _).alloc _
              have g2 : W2.heap[wr.heap.size]? = some (.cells #[.int .i64 f.id, .int .u32 f.addr, .int .i64 (wt : Nat)] 32 (0, 0)) := hW2 ▸ heap_alloc_new ..
              have x0 : W2.cell? ⟨wr.heap.size, 0, none⟩ = some (.int .i64 f.id) := cell_of_cells g2 0
              have x2 : W2.cell? ⟨wr.heap.size, 2, none⟩ = some (.int .i64 (wt : Nat)) := cell_of_cells g2 2
              have HS2 := Lib.hid (HS.out.kept t2)
              have HK2 := Lib.hid (HK.out.still t2)
              have HT2 := Lib.hid (HT.out.trans t2 (fun _ _ h => h))
              have HG2 := Lib.hid g2
              have k1 := HS2.out.look HTL.out f.id hi1 (by omega)
              rw [hcb] at k1
              have HW2 := Lib.hid hW2
              have HX0 := Lib.hid x0
              have HX2 := Lib.hid x2
              have HK1 := Lib.hid k1
              have HHW := Lib.hid hwn
              have HLH : RowKit.Hid (P2 ≤ cb ∧ cb ≤ P1 ∧ P1 = P2 + wt) := Lib.hid ⟨hlo, hhi, hP12⟩
              have HP2E := Lib.hid hP2
              clear t2 g2 x0 x2 k1 hW2 hwt hcn hwn hf hlo hhi hP12 hP1 hP2 hcb
              go_upto_region 36 with (fail)
              rw [HW2.out]
              have x0 := HX0.out
              have x2 := HX2.out
              have k1 := HK1.out
              go_wp2_with fail
              clear hc1 hc2 x0 x2 k1
              go_loopw [169] (fun i wv => ∃ p : Nat, p ≤ l1 ∧ i = .int .i64 p ∧ Touch W2 wv (fun _ => False)) (fun i _ => l1 - (intOf i).toNat)
              case atStart => exact ⟨0, Nat.zero_le _, rfl, Touch.refl _ _⟩
              case round =>
                obtain ⟨p, hp, rfl, ht⟩ := hrel
                have HTV := Lib.hid ht
                clear ht
                by_cases hpk : p < l1
                case neg =>
                  obtain rfl : l1 = p := by omega
                  have hpI : ¬ (l1 : Int) < l1 := by omega
                  go_wp2_with fail
                  exact ⟨⟨q + 1, hqk, by go_num, HS2.out.kept HTV.out, HK2.out.still HTV.out, HT2.out.trans HTV.out (fun _ _ h => h)⟩, by simp [intOf]; omega⟩
                case pos =>
                have hpl : p < bs.length := by rw [HBL.out]; exact hpk
                obtain ⟨d3, d4, d5⟩ := (HK2.out.still HTV.out).cells p hpl
                have hfe := HFT.out.each p bs[p] (List.getElem?_eq_getElem hpl)
                have HBP : RowKit.Hid (bs[p]? = some bs[p]) := Lib.hid (List.getElem?_eq_getElem hpl)
                obtain ⟨g, hg⟩ : ∃ g, bs[p] = g := ⟨_, rfl⟩
                rw [hg] at d3 d4 d5 hfe HBP
                rw [HRS.out, HALE.out, HRN.out] at hfe
                obtain ⟨_, hwn, _, _, hi3, hi4, hlo, _, _⟩ := hfe
                obtain ⟨wp, hwp⟩ : ∃ wp, g.weight.toNat = wp := ⟨_, rfl⟩
                rw [hwp] at hwn hlo
                rw [hwn] at d5
                obtain ⟨cc, hcc⟩ : ∃ c, T.count g.id = c := ⟨_, rfl⟩
                rw [hcc] at hlo
                have hccl : cc ≤ 1000 := by rw [← hcc]; exact Nat.le_trans List.count_le_length (by rw [HTL.out]; omega)
                have hcbl : cb ≤ 5000 := by have := HLH.out; omega
                have HDI : RowKit.Hid (e = true → ¬ ((cb : Int) - (cc : Int) > (wt : Int))) := Lib.hid (fun he => by
                  have h1 := HEW.out he q f (by omega) HBQ.out
                  have h2 := HEW.out he p g (by omega) HBP.out
                  rw [HHW.out] at h1
                  rw [hwn] at h2
                  have h3 : wp = wt := by omega
                  rw [h3, HP2E.out] at hlo
                  have := HLH.out
                  omega)
                have hpI : (p : Int) < l1 := by omega
                obtain ⟨W3, hW3⟩ : ∃ W, wr.alloc (.cells #[.int .i64 g.id, .int .u32 g.addr, .int .i64 (wp : Nat)] 32) = W := ⟨_, rfl⟩
                have t3 : Touch wr W3 (fun _ => False) := hW3 ▸ (Touch.refl wr _).alloc _
                have g3 : W3.heap[wr.heap.size]? = some (.cells #[.int .i64 g.id, .int .u32 g.addr, .int .i64 (wp : Nat)] 32 (0, 0)) := hW3 ▸ heap_alloc_new ..
                have HX3 : RowKit.Hid (W3.cell? ⟨wr.heap.size, 0, none⟩ = some (.int .i64 g.id)) := Lib.hid (cell_of_cells g3 0)
                have HXB := Lib.hid (cell_of_cells ((HTV.out.trans t3 (fun _ _ h => h)).keeps HG2.out (fun h => h)) 2)
                have k3 := ((HS2.out.kept HTV.out).kept t3).look HTL.out g.id hi3 (by omega)
                rw [hcc] at k3
                have HK3' := Lib.hid k3
                have HTV3 := Lib.hid (HTV.out.trans t3 (fun _ _ h => h))
                have HW3 := Lib.hid hW3
                clear t3 g3 hW3 hg hwn hwp hcc hlo k3
                go_upto_region 42 with (fail)
                rw [HW3.out]
                have x3 := HX3.out
                have xb := HXB.out
                simp only [List.getElem?_toArray, List.getElem?_cons_succ, List.getElem?_cons_zero] at xb
                have k3 := HK3'.out
                cases e with
                | true =>
                  have hdi := HDI.out rfl
                  go_wp2_with fail
                  exact ⟨⟨p + 1, hpk, by go_num, HTV3.out⟩, by simp [intOf]; omega⟩
                | false =>
                  go_wp2_with fail
                  exact ⟨⟨p + 1, hpk, by go_num, HTV3.out⟩, by simp [intOf]; omega⟩
    case pos =>
    obtain ⟨b, off, x, rfl, cx, hx⟩ := (HR.out.still HT.out).at_ k hlt
    have hlI : (k : Int) < l1 := by omega
    by_cases h16 : k < 16
    case neg =>
      have hb16 : (k : Int) ≥ 16 := by omega
      go_upto_region 15 with (fail)
      rw [HW1.out]
      have c1 := HC1.out
      have hu := HU.out
      have hul := HUL.out
      have e1 := HE1.out
      have e2 := HE2.out
      go_wp2_with fail
      clear c1 hu hul e1 e2
      refine (table_any a' k c' n bs W1 HP.out HO1.out.row.2.1).mono ?_
      rintro e w3 ⟨G, rfl, ho3, t3⟩
      have HT3 := Lib.hid (HT1.out.trans t3 (fun _ _ h => h))
      have HK3 := Lib.hid (HO1.out.row.2.1.still t3)
      have HI3 := Lib.hid (ho3.rowI (tab_i64 HP.out))
      clear ho3 t3
      have hbn : ((n : Int) != n) = false := bne_eq_false_iff_eq.2 rfl
      go_wp2_with fail
      refine (shares_any _ _ _ _ _ HI3.out (by omega)).mono ?_
      rintro e w4 ⟨rfl, hs, t4⟩
      obtain ⟨S, hS⟩ : ∃ S, w3.heap.size = S := ⟨_, rfl⟩
      rw [hS] at hs ⊢
      have HS := Lib.hid hs
      have HT := Lib.hid (HT3.out.trans t4 (fun _ _ h => h))
      have HK := Lib.hid (HK3.out.still t4)
      have HI := Lib.hid (HI3.out.still t4)
      have HTL : RowKit.Hid ((tabF bs n).length = n) := Lib.hid (tab_len HP.out)
      clear hs t4 hS
      by_cases hk0 : k = 0
      · have hk0I : (k : Int) = 0 := by omega
        have HTF : RowKit.Hid (tabF bs n = List.replicate n (-1)) := Lib.hid (by unfold tabF; rw [if_pos (.inl (by rw [HBL.out]; exact hk0))])
        have hz : Maps.size (shD (tabF bs n) n) = 0 := by
          rw [shD_none _ (fun x hx => by rw [HTF.out] at hx; simp at hx; omega) n]; rfl
        have cz : w4.cell? ⟨G, 0, none⟩ = some (.int .i64 (-1)) := by
          obtain ⟨b9, off9, hb9, hc9⟩ := HI.out.some (by omega)
          cases hb9
          have h9 := hc9 0 (by rw [HTL.out]; omega)
          have h8 : ∀ x ∈ tabF bs n, x = -1 := fun x hx => by rw [HTF.out] at hx; exact (List.mem_replicate.1 hx).2
          rw [h8 _ (List.getElem_mem _)] at h9
          exact h9
        go_wp2_with (first
          | (at_len; refine wpList_len_own _ rfl _ _ rfl 3 3 Try.underlying24 _ S n _ rfl HS.out ?_; rw [hz])
          | (go_at_call 8; (with_reducible refine (awake18 _).mono ?_); rintro e w9 ⟨rfl, t9⟩; have HT9 := Lib.hid (HT.out.trans t9 (fun _ _ h => h)); clear t9))
        go_ret
        exact ⟨rfl, HT9.out⟩
      · have hk0I : ¬ (k : Int) = 0 := by omega
        have hk0B : ((k : Int) == 0) = false := beq_eq_false_iff_ne.2 hk0I
        have hF := fair_tab HP.out HG.out (show 0 < bs.length by rw [HBL.out]; omega)
        have HFT := Lib.hid hF
        obtain ⟨rs, hrs⟩ : ∃ rs, rowsF bs n = rs := ⟨_, rfl⟩
        obtain ⟨T, hT⟩ : ∃ T, tabF bs n = T := ⟨_, rfl⟩
        rw [hT] at HS HI HTL HFT
        rw [hT] at HI3
        obtain ⟨b0, hb0⟩ : ∃ b0, bs[0]? = some b0 := ⟨_, List.getElem?_eq_getElem (by rw [HBL.out]; omega)⟩
        have HB0 := Lib.hid hb0
        have HRS := Lib.hid hrs
        have HAL : RowKit.Hid (allW rs ≤ 160 ∧ 0 < allW rs) := Lib.hid (by rw [← hrs]; exact ⟨hF.le, hF.pos⟩)
        have HTOT : RowKit.Hid (∀ q, q ≤ k → totF rs n q ≤ n) := Lib.hid (fun q hq => by
          have h1 := hF.total
          rw [HBL.out, hrs] at h1
          have key : ∀ d, totF rs n q ≤ totF rs n (q + d) := fun d => by
            induction d with
            | zero => exact Nat.le_refl _
            | succ d ih => rw [← Nat.add_assoc, totF_succ]; omega
          have := key (k - q)
          rw [show q + (k - q) = k from by omega, h1] at this
          exact this)
        clear hF hb0 hrs hT
        go_wp2_with fail
        go_loopw [17, 18, 19, 101] (fun tt al eq i wv => ∃ (q : Nat) (e : Bool), q ≤ k ∧ i = .int .i64 q ∧ tt = .int .i64 (totF rs n q : Nat) ∧ al = .int .i64 (pre rs q : Nat) ∧ eq = .bool e ∧ (e = true → ∀ (p : Nat) (b : BkD), p < q → bs[p]? = some b → b.weight = b0.weight) ∧ Shr wv S T n ∧ RowK wv a' k c' bs ∧ Touch w wv (fun _ => False)) (fun _ _ _ i _ => k - (intOf i).toNat)
        case atStart => exact ⟨0, true, Nat.zero_le _, rfl, rfl, by rw [pre_zero]; rfl, rfl, fun _ p b hp => by omega, HS.out, HK.out, HT.out⟩
        case round =>
          obtain ⟨q, e, hq, rfl, rfl, rfl, rfl, hew, hs, hkr, ht⟩ := hrel
          have HEW := Lib.hid hew
          have HS := Lib.hid hs
          have HK := Lib.hid hkr
          have HT := Lib.hid ht
          clear hew hs hkr ht
          by_cases hqk : q < k
          case pos =>
            obtain ⟨bb, offb, hab⟩ := HK.out.some (by omega)
            subst hab
            have hql : q < bs.length := by rw [HBL.out]; exact hqk
            obtain ⟨d0, d1, d2⟩ := HK.out.cells q hql
            have hfe := HFT.out.each q bs[q] (List.getElem?_eq_getElem hql)
            have HBQ : RowKit.Hid (bs[q]? = some bs[q]) := Lib.hid (List.getElem?_eq_getElem hql)
            obtain ⟨f, hf⟩ : ∃ f, bs[q] = f := ⟨_, rfl⟩
            rw [hf] at d0 d1 d2 hfe HBQ
            rw [HRS.out] at hfe
            obtain ⟨hcn, hwn, hw1, hw2, hi1, hi2, _, _, hpre⟩ := hfe
            obtain ⟨wt, hwt⟩ : ∃ wt, f.weight.toNat = wt := ⟨_, rfl⟩
            rw [hwt] at hwn hw1 hw2 hpre
            have HPRE := Lib.hid hpre
            have HTS := Lib.hid (totF_succ rs n q)
            have HTQ := HTOT.out q hq
            have HTQ1 := HTOT.out (q + 1) hqk
            have HCN := Lib.hid hcn
            have hcl : cnt rs q n ≤ n := by have := HTS.out; omega
            have hpl : pre rs q ≤ 160 := by have := pre_le rs q; have := HAL.out; omega
            generalize totF rs n q = tq at *
            generalize pre rs q = pq at *
            generalize cnt rs q n = cq at *
            have hqI : (q : Int) < k := by omega
            rw [hwn] at d2
            have hb0q := HK.out.cells 0 (by rw [HBL.out]; omega)
            have e0 : bs[0]'(by rw [HBL.out]; omega) = b0 := by
              have := HB0.out
              rw [List.getElem?_eq_getElem (by rw [HBL.out]; omega)] at this
              simpa using this
            obtain ⟨W2, hW2⟩ : ∃ W, wr.alloc (.cells #[.int .i64 f.id, .int .u32 f.addr, .int .i64 (wt : Nat)] 32) = W := ⟨_, rfl⟩
            have t2 : Touch wr W2 (fun _ => False) := hW2 ▸ (Touch.refl wr _).alloc _
            have g2 : W2.heap[wr.heap.size]? = some (.cells #[.int .i64 f.id, .int .u32 f.addr, .int .i64 (wt : Nat)] 32 (0, 0)) := hW2 ▸ heap_alloc_new ..
            have x0 : W2.cell? ⟨wr.heap.size, 0, none⟩ = some (.int .i64 f.id) := cell_of_cells g2 0
            have x2 : W2.cell? ⟨wr.heap.size, 2, none⟩ = some (.int .i64 (wt : Nat)) := cell_of_cells g2 2
            have HS2 := Lib.hid (HS.out.kept t2)
            have HK2 := Lib.hid (HK.out.still t2)
            have HT2 := Lib.hid (HT.out.trans t2 (fun _ _ h => h))
            have k1 := HS2.out.look HTL.out f.id hi1 (by omega)
            rw [hcn] at k1
            have z2 := (HK2.out.cells 0 (by rw [HBL.out]; omega)).2.2
            rw [e0, Nat.zero_mul, Nat.add_zero] at z2
            have HW2 := Lib.hid hW2
            have HX0 := Lib.hid x0
            have HX2 := Lib.hid x2
            have HK1 := Lib.hid k1
            have HZ2 := Lib.hid z2
            have HHW := Lib.hid hwn
            clear t2 g2 x0 x2 k1 z2 hW2 hb0q hwt hcn hpre hwn hf e0
            go_upto_region 26 with (fail)
            rw [HW2.out]
            have x0 := HX0.out
            have x2 := HX2.out
            have k1 := HK1.out
            have z2 := HZ2.out
            cases e with
            | true =>
              obtain ⟨eb, hbe⟩ : ∃ eb, (((wt : Nat) : Int) == b0.weight) = eb := ⟨_, rfl⟩
              have HBE := Lib.hid hbe
              go_wp2_with fail
              go_quiet (fail)
              go_wp2
              refine ⟨⟨q + 1, eb, hqk, by go_num, by rw [HTS.out]; go_num, by rw [HPRE.out]; go_num, rfl, fun he p b hp hb => ?_, HS2.out.kept ((Touch.refl W2 (fun _ => False)).drewN _), HK2.out.still ((Touch.refl W2 (fun _ => False)).drewN _), HT2.out.drewN _⟩, by simp [intOf]; omega⟩
              rcases Nat.lt_or_ge p q with h9 | h9
              · first | exact HEW.out rfl p b h9 hb | exact HEW.out trivial p b h9 hb
              · obtain rfl : p = q := by omega
                rw [HBQ.out] at hb
                simp only [Option.some.injEq] at hb
                subst hb
                rw [HHW.out]; exact beq_iff_eq.1 (HBE.out.trans he)
            | false =>
              go_wp2_with fail
              go_quiet (fail)
              go_wp2
              exact ⟨⟨q + 1, false, hqk, by go_num, by rw [HTS.out]; go_num, by rw [HPRE.out]; go_num, rfl, (fun h => by cases h), HS2.out.kept ((Touch.refl W2 (fun _ => False)).drewN _), HK2.out.still ((Touch.refl W2 (fun _ => False)).drewN _), HT2.out.drewN _⟩, by simp [intOf]; omega⟩
          case neg =>
            obtain rfl : k = q := by omega
            have hqI : ¬ (k : Int) < k := by omega
            have etot : totF rs n k = n := by have := HFT.out.total; rwa [HBL.out, HRS.out] at this
            have eall : pre rs k = allW rs := by have := HFT.out.all; rwa [HBL.out, HRS.out] at this
            rw [etot, eall]
            obtain ⟨Al, hAl⟩ : ∃ A, allW rs = A := ⟨_, rfl⟩
            have hA1 : 0 < Al := by have := HAL.out; omega
            have hA2 : Al ≤ 160 := by have := HAL.out; omega
            have HALE := Lib.hid hAl
            rw [hAl]
            have hlenE := fun ty => World.ownsMap.len HS.out Try.underlying24 ty
            have hsz : Maps.size (shD T n) ≤ k := by have := HFT.out.size; rwa [HBL.out] at this
            generalize Maps.size (shD T n) = z at *
            have hszI : ¬ ((z : Int) > (k : Int)) := by omega
            obtain ⟨Rn, hRn⟩ : ∃ R, (n + Al - 1) / Al = R := ⟨_, rfl⟩
            have HRN := Lib.hid hRn
            have hquo : ((n : Int) + (Al : Int) - 1).tdiv (Al : Int) = (Rn : Int) := by
              rw [show (n : Int) + (Al : Int) - 1 = ((n + Al - 1 : Nat) : Int) from by omega, Int.tdiv_eq_ediv_of_nonneg (by omega), ← hRn]; norm_cast
            have hquo2 : ((n : Int) + (Al : Int) - 1) / (Al : Int) = (Rn : Int) := by
              rw [show (n : Int) + (Al : Int) - 1 = ((n + Al - 1 : Nat) : Int) from by omega, ← hRn]; norm_cast
            have hRl : Rn ≤ 411 := by rw [← hRn]; exact Nat.le_trans (Nat.div_le_self _ _) (by omega)
            have hAl0 : ((Al : Int) == 0) = false := beq_eq_false_iff_ne.2 (by omega)
            have hAl1 : ¬ Al = 0 := by omega
            clear etot eall hAl hRn hsz
            go_wp2_with fail
            go_loopw [144] (fun i wv => ∃ q : Nat, q ≤ k ∧ i = .int .i64 q ∧ Shr wv S T n ∧ RowK wv a' k c' bs ∧ Touch w wv (fun _ => False)) (fun i _ => k - (intOf i).toNat)
            case atStart => exact ⟨0, Nat.zero_le _, rfl, HS.out, HK.out, HT.out⟩
            case round =>
              obtain ⟨q, hq, rfl, hs, hkr, ht⟩ := hrel
              have HS := Lib.hid hs
              have HK := Lib.hid hkr
              have HT := Lib.hid ht
              clear hs hkr ht
              by_cases hqk : q < k
              case neg =>
                obtain rfl : k = q := by omega
                have hqI : ¬ (k : Int) < k := by omega
                go_wp2_with (go_at_call 8; (with_reducible refine (awake18 _).mono ?_); rintro e w9 ⟨rfl, t9⟩; have HT9 := Lib.hid (HT.out.trans t9 (fun _ _ h => h)); clear t9)
                go_ret
                exact ⟨rfl, HT9.out⟩
              case pos =>
              obtain ⟨bb, offb, hab⟩ := HK.out.some (by omega)
              subst hab
              have hql : q < bs.length := by rw [HBL.out]; exact hqk
              obtain ⟨d0, d1, d2⟩ := HK.out.cells q hql
              have hfe := HFT.out.each q bs[q] (List.getElem?_eq_getElem hql)
              have HBQ : RowKit.Hid (bs[q]? = some bs[q]) := Lib.hid (List.getElem?_eq_getElem hql)
              obtain ⟨f, hf⟩ : ∃ f, bs[q] = f := ⟨_, rfl⟩
              rw [hf] at d0 d1 d2 hfe HBQ
              rw [HRS.out, HALE.out, HRN.out] at hfe
              obtain ⟨hcn, hwn, hw1, hw2, hi1, hi2, hlo, hhi, _⟩ := hfe
              obtain ⟨wt, hwt⟩ : ∃ wt, f.weight.toNat = wt := ⟨_, rfl⟩
              rw [hwt] at hwn hw1 hw2 hlo hhi
              rw [hwn] at d2
              obtain ⟨cb, hcb⟩ : ∃ c, T.count f.id = c := ⟨_, rfl⟩
              rw [hcb] at hlo hhi
              obtain ⟨P1, hP1⟩ : ∃ P, Rn * wt = P := ⟨_, rfl⟩
              obtain ⟨P2, hP2⟩ : ∃ P, (Rn - 1) * wt = P := ⟨_, rfl⟩
              rw [hP1] at hhi
              rw [hP2] at hlo
              have hR1 : 1 ≤ Rn := by
                rw [← HRN.out]
                exact (Nat.le_div_iff_mul_le hA1).2 (by omega)
              have hP1l : P1 ≤ 4110 := by rw [← hP1]; exact Nat.mul_le_mul (show Rn ≤ 411 from hRl) (show wt ≤ 10 from hw2)
              have hP2l : P2 ≤ 4110 := by rw [← hP2]; exact Nat.mul_le_mul (show Rn - 1 ≤ 411 by omega) (show wt ≤ 10 from hw2)
              have hP12 : P1 = P2 + wt := by
                rw [← hP1, ← hP2]
                have : Rn = (Rn - 1) + 1 := by omega
                conv => lhs; rw [this, Nat.succ_mul]
              have hP1I : (Rn : Int) * (wt : Int) = (P1 : Int) := by rw [← hP1]; norm_cast
              have hP2I : ((Rn : Int) - 1) * (wt : Int) = (P2 : Int) := by rw [← hP2, show (Rn : Int) - 1 = ((Rn - 1 : Nat) : Int) from by omega]; norm_cast
              have hc1 : ¬ ((cb : Int) > (P1 : Int)) := by omega
              have hc2 : ¬ ((cb : Int) < (P2 : Int)) := by omega
              have hqI : (q : Int) < k := by omega
              obtain ⟨W2, hW2⟩ : ∃ W, wr.alloc (.cells #[.int .i64 f.id, .int .u32 f.addr, .int .i64 (wt : Nat)] 32) = W := ⟨_, rfl⟩
              have t2 : Touch wr W2 (fun _ => False) := hW2 ▸ (Touch.refl wr _).alloc _
              have g2 : W2.heap[wr.heap.size]? = some (.cells #[.int .i64 f.id, .int .u32 f.addr, .int .i64 (wt : Nat)] 32 (0, 0)) := hW2 ▸ heap_alloc_new ..
              have x0 : W2.cell? ⟨wr.heap.size, 0, none⟩ = some (.int .i64 f.id) := cell_of_cells g2 0
              have x2 : W2.cell? ⟨wr.heap.size, 2, none⟩ = some (.int .i64 (wt : Nat)) := cell_of_cells g2 2
              have HS2 := Lib.hid (HS.out.kept t2)
              have HK2 := Lib.hid (HK.out.still t2)
              have HT2 := Lib.hid (HT.out.trans t2 (fun _ _ h => h))
              have HG2 := Lib.hid g2
              have k1 := HS2.out.look HTL.out f.id hi1 (by omega)
              rw [hcb] at k1
              have HW2 := Lib.hid hW2
              have HX0 := Lib.hid x0
              have HX2 := Lib.hid x2
              have HK1 := Lib.hid k1
              have HHW := Lib.hid hwn
              have HLH : RowKit.Hid (P2 ≤ cb ∧ cb ≤ P1 ∧ P1 = P2 + wt) := Lib.hid ⟨hlo, hhi, hP12⟩
              have HP2E := Lib.hid hP2
              clear t2 g2 x0 x2 k1 hW2 hwt hcn hwn hf hlo hhi hP12 hP1 hP2 hcb
              go_upto_region 36 with (fail)
              rw [HW2.out]
              have x0 := HX0.out
              have x2 := HX2.out
              have k1 := HK1.out
              go_wp2_with fail
              clear hc1 hc2 x0 x2 k1
              go_loopw [169] (fun i wv => ∃ p : Nat, p ≤ k ∧ i = .int .i64 p ∧ Touch W2 wv (fun _ => False)) (fun i _ => k - (intOf i).toNat)
              case atStart => exact ⟨0, Nat.zero_le _, rfl, Touch.refl _ _⟩
              case round =>
                obtain ⟨p, hp, rfl, ht⟩ := hrel
                have HTV := Lib.hid ht
                clear ht
                by_cases hpk : p < k
                case neg =>
                  obtain rfl : k = p := by omega
                  have hpI : ¬ (k : Int) < k := by omega
                  go_wp2_with fail
                  exact ⟨⟨q + 1, hqk, by go_num, HS2.out.kept HTV.out, HK2.out.still HTV.out, HT2.out.trans HTV.out (fun _ _ h => h)⟩, by simp [intOf]; omega⟩
                case pos =>
                have hpl : p < bs.length := by rw [HBL.out]; exact hpk
                obtain ⟨d3, d4, d5⟩ := (HK2.out.still HTV.out).cells p hpl
                have hfe := HFT.out.each p bs[p] (List.getElem?_eq_getElem hpl)
                have HBP : RowKit.Hid (bs[p]? = some bs[p]) := Lib.hid (List.getElem?_eq_getElem hpl)
                obtain ⟨g, hg⟩ : ∃ g, bs[p] = g := ⟨_, rfl⟩
                rw [hg] at d3 d4 d5 hfe HBP
                rw [HRS.out, HALE.out, HRN.out] at hfe
                obtain ⟨_, hwn, _, _, hi3, hi4, hlo, _, _⟩ := hfe
                obtain ⟨wp, hwp⟩ : ∃ wp, g.weight.toNat = wp := ⟨_, rfl⟩
                rw [hwp] at hwn hlo
                rw [hwn] at d5
                obtain ⟨cc, hcc⟩ : ∃ c, T.count g.id = c := ⟨_, rfl⟩
                rw [hcc] at hlo
                have hccl : cc ≤ 1000 := by rw [← hcc]; exact Nat.le_trans List.count_le_length (by rw [HTL.out]; omega)
                have hcbl : cb ≤ 5000 := by have := HLH.out; omega
                have HDI : RowKit.Hid (e = true → ¬ ((cb : Int) - (cc : Int) > (wt : Int))) := Lib.hid (fun he => by
                  have h1 := HEW.out he q f (by omega) HBQ.out
                  have h2 := HEW.out he p g (by omega) HBP.out
                  rw [HHW.out] at h1
                  rw [hwn] at h2
                  have h3 : wp = wt := by omega
                  rw [h3, HP2E.out] at hlo
                  have := HLH.out
                  omega)
                have hpI : (p : Int) < k := by omega
                obtain ⟨W3, hW3⟩ : ∃ W, wr.alloc (.cells #[.int .i64 g.id, .int .u32 g.addr, .int .i64 (wp : Nat)] 32) = W := ⟨_, rfl⟩
                have t3 : Touch wr W3 (fun _ => False) := hW3 ▸ (Touch.refl wr _).alloc _
                have g3 : W3.heap[wr.heap.size]? = some (.cells #[.int .i64 g.id, .int .u32 g.addr, .int .i64 (wp : Nat)] 32 (0, 0)) := hW3 ▸ heap_alloc_new ..
                have HX3 : RowKit.Hid (W3.cell? ⟨wr.heap.size, 0, none⟩ = some (.int .i64 g.id)) := Lib.hid (cell_of_cells g3 0)
                have HXB := Lib.hid (cell_of_cells ((HTV.out.trans t3 (fun _ _ h => h)).keeps HG2.out (fun h => h)) 2)
                have k3 := ((HS2.out.kept HTV.out).kept t3).look HTL.out g.id hi3 (by omega)
                rw [hcc] at k3
                have HK3' := Lib.hid k3
                have HTV3 := Lib.hid (HTV.out.trans t3 (fun _ _ h => h))
                have HW3 := Lib.hid hW3
                clear t3 g3 hW3 hg hwn hwp hcc hlo k3
                go_upto_region 42 with (fail)
                rw [HW3.out]
                have x3 := HX3.out
                have xb := HXB.out
                simp only [List.getElem?_toArray, List.getElem?_cons_succ, List.getElem?_cons_zero] at xb
                have k3 := HK3'.out
                cases e with
                | true =>
                  have hdi := HDI.out rfl
                  go_wp2_with fail
                  exact ⟨⟨p + 1, hpk, by go_num, HTV3.out⟩, by simp [intOf]; omega⟩
                | false =>
                  go_wp2_with fail
                  exact ⟨⟨p + 1, hpk, by go_num, HTV3.out⟩, by simp [intOf]; omega⟩
    case pos =>
    have hb16 : ¬ (k : Int) ≥ 16 := by omega
    obtain ⟨X, hX⟩ : ∃ X, u64N x = X := ⟨_, rfl⟩
    have hux : IntKind.u64.wrap x = (X : Int) := by rw [u64N_wrap, hX]
    have hXl : X < 18446744073709551616 := by rw [← hX]; exact u64N_lt x
    obtain ⟨d, hd⟩ : ∃ d, X % 1000 = d := ⟨_, rfl⟩
    have hd1 : d < 1000 := by omega
    have f1 : (X : Int) % 1000 = (d : Int) := by omega
    have f2 : (X : Int).tmod 1000 = (d : Int) := by rw [Int.tmod_eq_emod_of_nonneg (by omega)]; exact f1
    clear hX hd
    by_cases hid : last + 1 + (d : Int) > 65535
    case pos =>
      clear hx
      go_upto_region 15 with (fail)
      rw [HW1.out]
      have c1 := HC1.out
      have hu := HU.out
      have hul := HUL.out
      have e1 := HE1.out
      have e2 := HE2.out
      go_wp2_with fail
      clear c1 hu hul e1 e2
      refine (table_any a' k c' n bs W1 HP.out HO1.out.row.2.1).mono ?_
      rintro e w3 ⟨G, rfl, ho3, t3⟩
      have HT3 := Lib.hid (HT1.out.trans t3 (fun _ _ h => h))
      have HK3 := Lib.hid (HO1.out.row.2.1.still t3)
      have HI3 := Lib.hid (ho3.rowI (tab_i64 HP.out))
      clear ho3 t3
      have hbn : ((n : Int) != n) = false := bne_eq_false_iff_eq.2 rfl
      go_wp2_with fail
      refine (shares_any _ _ _ _ _ HI3.out (by omega)).mono ?_
      rintro e w4 ⟨rfl, hs, t4⟩
      obtain ⟨S, hS⟩ : ∃ S, w3.heap.size = S := ⟨_, rfl⟩
      rw [hS] at hs ⊢
      have HS := Lib.hid hs
      have HT := Lib.hid (HT3.out.trans t4 (fun _ _ h => h))
      have HK := Lib.hid (HK3.out.still t4)
      have HI := Lib.hid (HI3.out.still t4)
      have HTL : RowKit.Hid ((tabF bs n).length = n) := Lib.hid (tab_len HP.out)
      clear hs t4 hS
      by_cases hk0 : k = 0
      · have hk0I : (k : Int) = 0 := by omega
        have HTF : RowKit.Hid (tabF bs n = List.replicate n (-1)) := Lib.hid (by unfold tabF; rw [if_pos (.inl (by rw [HBL.out]; exact hk0))])
        have hz : Maps.size (shD (tabF bs n) n) = 0 := by
          rw [shD_none _ (fun x hx => by rw [HTF.out] at hx; simp at hx; omega) n]; rfl
        have cz : w4.cell? ⟨G, 0, none⟩ = some (.int .i64 (-1)) := by
          obtain ⟨b9, off9, hb9, hc9⟩ := HI.out.some (by omega)
          cases hb9
          have h9 := hc9 0 (by rw [HTL.out]; omega)
          have h8 : ∀ x ∈ tabF bs n, x = -1 := fun x hx => by rw [HTF.out] at hx; exact (List.mem_replicate.1 hx).2
          rw [h8 _ (List.getElem_mem _)] at h9
          exact h9
        go_wp2_with (first
          | (at_len; refine wpList_len_own _ rfl _ _ rfl 3 3 Try.underlying24 _ S n _ rfl HS.out ?_; rw [hz])
          | (go_at_call 8; (with_reducible refine (awake18 _).mono ?_); rintro e w9 ⟨rfl, t9⟩; have HT9 := Lib.hid (HT.out.trans t9 (fun _ _ h => h)); clear t9))
        go_ret
        exact ⟨rfl, HT9.out⟩
      · have hk0I : ¬ (k : Int) = 0 := by omega
        have hk0B : ((k : Int) == 0) = false := beq_eq_false_iff_ne.2 hk0I
        have hF := fair_tab HP.out HG.out (show 0 < bs.length by rw [HBL.out]; omega)
        have HFT := Lib.hid hF
        obtain ⟨rs, hrs⟩ : ∃ rs, rowsF bs n = rs := ⟨_, rfl⟩
        obtain ⟨T, hT⟩ : ∃ T, tabF bs n = T := ⟨_, rfl⟩
        rw [hT] at HS HI HTL HFT
        rw [hT] at HI3
        obtain ⟨b0, hb0⟩ : ∃ b0, bs[0]? = some b0 := ⟨_, List.getElem?_eq_getElem (by rw [HBL.out]; omega)⟩
        have HB0 := Lib.hid hb0
        have HRS := Lib.hid hrs
        have HAL : RowKit.Hid (allW rs ≤ 160 ∧ 0 < allW rs) := Lib.hid (by rw [← hrs]; exact ⟨hF.le, hF.pos⟩)
        have HTOT : RowKit.Hid (∀ q, q ≤ k → totF rs n q ≤ n) := Lib.hid (fun q hq => by
          have h1 := hF.total
          rw [HBL.out, hrs] at h1
          have key : ∀ d, totF rs n q ≤ totF rs n (q + d) := fun d => by
            induction d with
            | zero => exact Nat.le_refl _
            | succ d ih => rw [← Nat.add_assoc, totF_succ]; omega
          have := key (k - q)
          rw [show q + (k - q) = k from by omega, h1] at this
          exact this)
        clear hF hb0 hrs hT
        go_wp2_with fail
        go_loopw [17, 18, 19, 101] (fun tt al eq i wv => ∃ (q : Nat) (e : Bool), q ≤ k ∧ i = .int .i64 q ∧ tt = .int .i64 (totF rs n q : Nat) ∧ al = .int .i64 (pre rs q : Nat) ∧ eq = .bool e ∧ (e = true → ∀ (p : Nat) (b : BkD), p < q → bs[p]? = some b → b.weight = b0.weight) ∧ Shr wv S T n ∧ RowK wv a' k c' bs ∧ Touch w wv (fun _ => False)) (fun _ _ _ i _ => k - (intOf i).toNat)
        case atStart => exact ⟨0, true, Nat.zero_le _, rfl, rfl, by rw [pre_zero]; rfl, rfl, fun _ p b hp => by omega, HS.out, HK.out, HT.out⟩
        case round =>
          obtain ⟨q, e, hq, rfl, rfl, rfl, rfl, hew, hs, hkr, ht⟩ := hrel
          have HEW := Lib.hid hew
          have HS := Lib.hid hs
          have HK := Lib.hid hkr
          have HT := Lib.hid ht
          clear hew hs hkr ht
          by_cases hqk : q < k
          case pos =>
            obtain ⟨bb, offb, hab⟩ := HK.out.some (by omega)
            subst hab
            have hql : q < bs.length := by rw [HBL.out]; exact hqk
            obtain ⟨d0, d1, d2⟩ := HK.out.cells q hql
            have hfe := HFT.out.each q bs[q] (List.getElem?_eq_getElem hql)
            have HBQ : RowKit.Hid (bs[q]? = some bs[q]) := Lib.hid (List.getElem?_eq_getElem hql)
            obtain ⟨f, hf⟩ : ∃ f, bs[q] = f := ⟨_, rfl⟩
            rw [hf] at d0 d1 d2 hfe HBQ
            rw [HRS.out] at hfe
            obtain ⟨hcn, hwn, hw1, hw2, hi1, hi2, _, _, hpre⟩ := hfe
            obtain ⟨wt, hwt⟩ : ∃ wt, f.weight.toNat = wt := ⟨_, rfl⟩
            rw [hwt] at hwn hw1 hw2 hpre
            have HPRE := Lib.hid hpre
            have HTS := Lib.hid (totF_succ rs n q)
            have HTQ := HTOT.out q hq
            have HTQ1 := HTOT.out (q + 1) hqk
            have HCN := Lib.hid hcn
            have hcl : cnt rs q n ≤ n := by have := HTS.out; omega
            have hpl : pre rs q ≤ 160 := by have := pre_le rs q; have := HAL.out; omega
            generalize totF rs n q = tq at *
            generalize pre rs q = pq at *
            generalize cnt rs q n = cq at *
            have hqI : (q : Int) < k := by omega
            rw [hwn] at d2
            have hb0q := HK.out.cells 0 (by rw [HBL.out]; omega)
            have e0 : bs[0]'(by rw [HBL.out]; omega) = b0 := by
              have := HB0.out
              rw [List.getElem?_eq_getElem (by rw [HBL.out]; omega)] at this
              simpa using this
            obtain ⟨W2, hW2⟩ : ∃ W, wr.alloc (.cells #[.int .i64 f.id, .int .u32 f.addr, .int .i64 (wt : Nat)] 32) = W := ⟨_, rfl⟩
            have t2 : Touch wr W2 (fun _ => False) := hW2 ▸ (Touch.refl wr _).alloc _
            have g2 : W2.heap[wr.heap.size]? = some (.cells #[.int .i64 f.id, .int .u32 f.addr, .int .i64 (wt : Nat)] 32 (0, 0)) := hW2 ▸ heap_alloc_new ..
            have x0 : W2.cell? ⟨wr.heap.size, 0, none⟩ = some (.int .i64 f.id) := cell_of_cells g2 0
            have x2 : W2.cell? ⟨wr.heap.size, 2, none⟩ = some (.int .i64 (wt : Nat)) := cell_of_cells g2 2
            have HS2 := Lib.hid (HS.out.kept t2)
            have HK2 := Lib.hid (HK.out.still t2)
            have HT2 := Lib.hid (HT.out.trans t2 (fun _ _ h => h))
            have k1 := HS2.out.look HTL.out f.id hi1 (by omega)
            rw [hcn] at k1
            have z2 := (HK2.out.cells 0 (by rw [HBL.out]; omega)).2.2
            rw [e0, Nat.zero_mul, Nat.add_zero] at z2
            have HW2 := Lib.hid hW2
            have HX0 := Lib.hid x0
            have HX2 := Lib.hid x2
            have HK1 := Lib.hid k1
            have HZ2 := Lib.hid z2
            have HHW := Lib.hid hwn
            clear t2 g2 x0 x2 k1 z2 hW2 hb0q hwt hcn hpre hwn hf e0
            go_upto_region 26 with (fail)
            rw [HW2.out]
            have x0 := HX0.out
            have x2 := HX2.out
            have k1 := HK1.out
            have z2 := HZ2.out
            cases e with
            | true =>
              obtain ⟨eb, hbe⟩ : ∃ eb, (((wt : Nat) : Int) == b0.weight) = eb := ⟨_, rfl⟩
              have HBE := Lib.hid hbe
              go_wp2_with fail
              go_quiet (fail)
              go_wp2
              refine ⟨⟨q + 1, eb, hqk, by go_num, by rw [HTS.out]; go_num, by rw [HPRE.out]; go_num, rfl, fun he p b hp hb => ?_, HS2.out.kept ((Touch.refl W2 (fun _ => False)).drewN _), HK2.out.still ((Touch.refl W2 (fun _ => False)).drewN _), HT2.out.drewN _⟩, by simp [intOf]; omega⟩
              rcases Nat.lt_or_ge p q with h9 | h9
              · first | exact HEW.out rfl p b h9 hb | exact HEW.out trivial p b h9 hb
              · obtain rfl : p = q := by omega
                rw [HBQ.out] at hb
                simp only [Option.some.injEq] at hb
                subst hb
                rw [HHW.out]; exact beq_iff_eq.1 (HBE.out.trans he)
            | false =>
              go_wp2_with fail
              go_quiet (fail)
              go_wp2
              exact ⟨⟨q + 1, false, hqk, by go_num, by rw [HTS.out]; go_num, by rw [HPRE.out]; go_num, rfl, (fun h => by cases h), HS2.out.kept ((Touch.refl W2 (fun _ => False)).drewN _), HK2.out.still ((Touch.refl W2 (fun _ => False)).drewN _), HT2.out.drewN _⟩, by simp [intOf]; omega⟩
          case neg =>
            obtain rfl : k = q := by omega
            have hqI : ¬ (k : Int) < k := by omega
            have etot : totF rs n k = n := by have := HFT.out.total; rwa [HBL.out, HRS.out] at this
            have eall : pre rs k = allW rs := by have := HFT.out.all; rwa [HBL.out, HRS.out] at this
            rw [etot, eall]
            obtain ⟨Al, hAl⟩ : ∃ A, allW rs = A := ⟨_, rfl⟩
            have hA1 : 0 < Al := by have := HAL.out; omega
            have hA2 : Al ≤ 160 := by have := HAL.out; omega
            have HALE := Lib.hid hAl
            rw [hAl]
            have hlenE := fun ty => World.ownsMap.len HS.out Try.underlying24 ty
            have hsz : Maps.size (shD T n) ≤ k := by have := HFT.out.size; rwa [HBL.out] at this
            generalize Maps.size (shD T n) = z at *
            have hszI : ¬ ((z : Int) > (k : Int)) := by omega
            obtain ⟨Rn, hRn⟩ : ∃ R, (n + Al - 1) / Al = R := ⟨_, rfl⟩
            have HRN := Lib.hid hRn
            have hquo : ((n : Int) + (Al : Int) - 1).tdiv (Al : Int) = (Rn : Int) := by
              rw [show (n : Int) + (Al : Int) - 1 = ((n + Al - 1 : Nat) : Int) from by omega, Int.tdiv_eq_ediv_of_nonneg (by omega), ← hRn]; norm_cast
            have hquo2 : ((n : Int) + (Al : Int) - 1) / (Al : Int) = (Rn : Int) := by
              rw [show (n : Int) + (Al : Int) - 1 = ((n + Al - 1 : Nat) : Int) from by omega, ← hRn]; norm_cast
            have hRl : Rn ≤ 411 := by rw [← hRn]; exact Nat.le_trans (Nat.div_le_self _ _) (by omega)
            have hAl0 : ((Al : Int) == 0) = false := beq_eq_false_iff_ne.2 (by omega)
            have hAl1 : ¬ Al = 0 := by omega
            clear etot eall hAl hRn hsz
            go_wp2_with fail
            go_loopw [144] (fun i wv => ∃ q : Nat, q ≤ k ∧ i = .int .i64 q ∧ Shr wv S T n ∧ RowK wv a' k c' bs ∧ Touch w wv (fun _ => False)) (fun i _ => k - (intOf i).toNat)
            case atStart => exact ⟨0, Nat.zero_le _, rfl, HS.out, HK.out, HT.out⟩
            case round =>
              obtain ⟨q, hq, rfl, hs, hkr, ht⟩ := hrel
              have HS := Lib.hid hs
              have HK := Lib.hid hkr
              have HT := Lib.hid ht
              clear hs hkr ht
              by_cases hqk : q < k
              case neg =>
                obtain rfl : k = q := by omega
                have hqI : ¬ (k : Int) < k := by omega
                go_wp2_with (go_at_call 8; (with_reducible refine (awake18 _).mono ?_); rintro e w9 ⟨rfl, t9⟩; have HT9 := Lib.hid (HT.out.trans t9 (fun _ _ h => h)); clear t9)
                go_ret
                exact ⟨rfl, HT9.out⟩
              case pos =>
              obtain ⟨bb, offb, hab⟩ := HK.out.some (by omega)
              subst hab
              have hql : q < bs.length := by rw [HBL.out]; exact hqk
              obtain ⟨d0, d1, d2⟩ := HK.out.cells q hql
              have hfe := HFT.out.each q bs[q] (List.getElem?_eq_getElem hql)
              have HBQ : RowKit.Hid (bs[q]? = some bs[q]) := Lib.hid (List.getElem?_eq_getElem hql)
              obtain ⟨f, hf⟩ : ∃ f, bs[q] = f := ⟨_, rfl⟩
              rw [hf] at d0 d1 d2 hfe HBQ
              rw [HRS.out, HALE.out, HRN.out] at hfe
              obtain ⟨hcn, hwn, hw1, hw2, hi1, hi2, hlo, hhi, _⟩ := hfe
              obtain ⟨wt, hwt⟩ : ∃ wt, f.weight.toNat = wt := ⟨_, rfl⟩
              rw [hwt] at hwn hw1 hw2 hlo hhi
              rw [hwn] at d2
              obtain ⟨cb, hcb⟩ : ∃ c, T.count f.id = c := ⟨_, rfl⟩
              rw [hcb] at hlo hhi
              obtain ⟨P1, hP1⟩ : ∃ P, Rn * wt = P := ⟨_, rfl⟩
              obtain ⟨P2, hP2⟩ : ∃ P, (Rn - 1) * wt = P := ⟨_, rfl⟩
              rw [hP1] at hhi
              rw [hP2] at hlo
              have hR1 : 1 ≤ Rn := by
                rw [← HRN.out]
                exact (Nat.le_div_iff_mul_le hA1).2 (by omega)
              have hP1l : P1 ≤ 4110 := by rw [← hP1]; exact Nat.mul_le_mul (show Rn ≤ 411 from hRl) (show wt ≤ 10 from hw2)
              have hP2l : P2 ≤ 4110 := by rw [← hP2]; exact Nat.mul_le_mul (show Rn - 1 ≤ 411 by omega) (show wt ≤ 10 from hw2)
              have hP12 : P1 = P2 + wt := by
                rw [← hP1, ← hP2]
                have : Rn = (Rn - 1) + 1 := by omega
                conv => lhs; rw [this, Nat.succ_mul]
              have hP1I : (Rn : Int) * (wt : Int) = (P1 : Int) := by rw [← hP1]; norm_cast
              have hP2I : ((Rn : Int) - 1) * (wt : Int) = (P2 : Int) := by rw [← hP2, show (Rn : Int) - 1 = ((Rn - 1 : Nat) : Int) from by omega]; norm_cast
              have hc1 : ¬ ((cb : Int) > (P1 : Int)) := by omega
              have hc2 : ¬ ((cb : Int) < (P2 : Int)) := by omega
              have hqI : (q : Int) < k := by omega
              obtain ⟨W2, hW2⟩ : ∃ W, wr.alloc (.cells #[.int .i64 f.id, .int .u32 f.addr, .int .i64 (wt : Nat)] 32) = W := ⟨_, rfl⟩
              have t2 : Touch wr W2 (fun _ => False) := hW2 ▸ (Touch.refl wr _).alloc _
              have g2 : W2.heap[wr.heap.size]? = some (.cells #[.int .i64 f.id, .int .u32 f.addr, .int .i64 (wt : Nat)] 32 (0, 0)) := hW2 ▸ heap_alloc_new ..
              have x0 : W2.cell? ⟨wr.heap.size, 0, none⟩ = some (.int .i64 f.id) := cell_of_cells g2 0
              have x2 : W2.cell? ⟨wr.heap.size, 2, none⟩ = some (.int .i64 (wt : Nat)) := cell_of_cells g2 2
              have HS2 := Lib.hid (HS.out.kept t2)
              have HK2 := Lib.hid (HK.out.still t2)
              have HT2 := Lib.hid (HT.out.trans t2 (fun _ _ h => h))
              have HG2 := Lib.hid g2
              have k1 := HS2.out.look HTL.out f.id hi1 (by omega)
              rw [hcb] at k1
              have HW2 := Lib.hid hW2
              have HX0 := Lib.hid x0
              have HX2 := Lib.hid x2
              have HK1 := Lib.hid k1
              have HHW := Lib.hid hwn
              have HLH : RowKit.Hid (P2 ≤ cb ∧ cb ≤ P1 ∧ P1 = P2 + wt) := Lib.hid ⟨hlo, hhi, hP12⟩
              have HP2E := Lib.hid hP2
              clear t2 g2 x0 x2 k1 hW2 hwt hcn hwn hf hlo hhi hP12 hP1 hP2 hcb
              go_upto_region 36 with (fail)
              rw [HW2.out]
              have x0 := HX0.out
              have x2 := HX2.out
              have k1 := HK1.out
              go_wp2_with fail
              clear hc1 hc2 x0 x2 k1
              go_loopw [169] (fun i wv => ∃ p : Nat, p ≤ k ∧ i = .int .i64 p ∧ Touch W2 wv (fun _ => False)) (fun i _ => k - (intOf i).toNat)
              case atStart => exact ⟨0, Nat.zero_le _, rfl, Touch.refl _ _⟩
              case round =>
                obtain ⟨p, hp, rfl, ht⟩ := hrel
                have HTV := Lib.hid ht
                clear ht
                by_cases hpk : p < k
                case neg =>
                  obtain rfl : k = p := by omega
                  have hpI : ¬ (k : Int) < k := by omega
                  go_wp2_with fail
                  exact ⟨⟨q + 1, hqk, by go_num, HS2.out.kept HTV.out, HK2.out.still HTV.out, HT2.out.trans HTV.out (fun _ _ h => h)⟩, by simp [intOf]; omega⟩
                case pos =>
                have hpl : p < bs.length := by rw [HBL.out]; exact hpk
                obtain ⟨d3, d4, d5⟩ := (HK2.out.still HTV.out).cells p hpl
                have hfe := HFT.out.each p bs[p] (List.getElem?_eq_getElem hpl)
                have HBP : RowKit.Hid (bs[p]? = some bs[p]) := Lib.hid (List.getElem?_eq_getElem hpl)
                obtain ⟨g, hg⟩ : ∃ g, bs[p] = g := ⟨_, rfl⟩
                rw [hg] at d3 d4 d5 hfe HBP
                rw [HRS.out, HALE.out, HRN.out] at hfe
                obtain ⟨_, hwn, _, _, hi3, hi4, hlo, _, _⟩ := hfe
                obtain ⟨wp, hwp⟩ : ∃ wp, g.weight.toNat = wp := ⟨_, rfl⟩
                rw [hwp] at hwn hlo
                rw [hwn] at d5
                obtain ⟨cc, hcc⟩ : ∃ c, T.count g.id = c := ⟨_, rfl⟩
                rw [hcc] at hlo
                have hccl : cc ≤ 1000 := by rw [← hcc]; exact Nat.le_trans List.count_le_length (by rw [HTL.out]; omega)
                have hcbl : cb ≤ 5000 := by have := HLH.out; omega
                have HDI : RowKit.Hid (e = true → ¬ ((cb : Int) - (cc : Int) > (wt : Int))) := Lib.hid (fun he => by
                  have h1 := HEW.out he q f (by omega) HBQ.out
                  have h2 := HEW.out he p g (by omega) HBP.out
                  rw [HHW.out] at h1
                  rw [hwn] at h2
                  have h3 : wp = wt := by omega
                  rw [h3, HP2E.out] at hlo
                  have := HLH.out
                  omega)
                have hpI : (p : Int) < k := by omega
                obtain ⟨W3, hW3⟩ : ∃ W, wr.alloc (.cells #[.int .i64 g.id, .int .u32 g.addr, .int .i64 (wp : Nat)] 32) = W := ⟨_, rfl⟩
                have t3 : Touch wr W3 (fun _ => False) := hW3 ▸ (Touch.refl wr _).alloc _
                have g3 : W3.heap[wr.heap.size]? = some (.cells #[.int .i64 g.id, .int .u32 g.addr, .int .i64 (wp : Nat)] 32 (0, 0)) := hW3 ▸ heap_alloc_new ..
                have HX3 : RowKit.Hid (W3.cell? ⟨wr.heap.size, 0, none⟩ = some (.int .i64 g.id)) := Lib.hid (cell_of_cells g3 0)
                have HXB := Lib.hid (cell_of_cells ((HTV.out.trans t3 (fun _ _ h => h)).keeps HG2.out (fun h => h)) 2)
                have k3 := ((HS2.out.kept HTV.out).kept t3).look HTL.out g.id hi3 (by omega)
                rw [hcc] at k3
                have HK3' := Lib.hid k3
                have HTV3 := Lib.hid (HTV.out.trans t3 (fun _ _ h => h))
                have HW3 := Lib.hid hW3
                clear t3 g3 hW3 hg hwn hwp hcc hlo k3
                go_upto_region 42 with (fail)
                rw [HW3.out]
                have x3 := HX3.out
                have xb := HXB.out
                simp only [List.getElem?_toArray, List.getElem?_cons_succ, List.getElem?_cons_zero] at xb
                have k3 := HK3'.out
                cases e with
                | true =>
                  have hdi := HDI.out rfl
                  go_wp2_with fail
                  exact ⟨⟨p + 1, hpk, by go_num, HTV3.out⟩, by simp [intOf]; omega⟩
                | false =>
                  go_wp2_with fail
                  exact ⟨⟨p + 1, hpk, by go_num, HTV3.out⟩, by simp [intOf]; omega⟩
    case neg =>
    obtain ⟨id, hidd⟩ : ∃ id : Int, last + 1 + (d : Int) = id := ⟨_, rfl⟩
    have hid0 : 0 ≤ id ∧ id ≤ 65535 ∧ last < id := by omega
    clear hx
    by_cases hlt2 : k < l2
    case pos =>
      obtain ⟨b2, off2, y, rfl, cy, hy⟩ := (HR2.out.still HT.out).at_ k hlt2
      obtain ⟨Y, hY⟩ : ∃ Y, u64N y = Y := ⟨_, rfl⟩
      have huy : IntKind.u64.wrap y = (Y : Int) := by rw [u64N_wrap, hY]
      have hYl : Y < 18446744073709551616 := by rw [← hY]; exact u64N_lt y
      obtain ⟨v, hv⟩ : ∃ v, Y % 10 = v := ⟨_, rfl⟩
      have hv1 : v < 10 := by omega
      have p1 : (Y : Int) % 10 = (v : Int) := by omega
      have p2 : (Y : Int).tmod 10 = (v : Int) := by rw [Int.tmod_eq_emod_of_nonneg (by omega)]; exact p1
      obtain ⟨wt, hwt⟩ : ∃ wt : Int, (1 : Int) + (v : Int) = wt := ⟨_, rfl⟩
      have hwt1 : 1 ≤ wt ∧ wt ≤ 10 := by omega
      clear hY hv hy
      have hl2I : (k : Int) < l2 := by omega
      have t5 := (Touch.refl wr (fun _ => False)).alloc (.cells #[.int .i64 id, .int .u32 0, .int .i64 wt] 32)
      have HT5 := Lib.hid (HT.out.trans t5 (fun _ _ h => h))
      have HO5 := Lib.hid (OwnS.still HO.out.toS t5)
      have hown : (wr.alloc (.cells #[.int .i64 id, .int .u32 0, .int .i64 wt] 32)).ownsRow w.heap.size 32 3 (.slice a' k c') k (bs.map BkD.cells).flatten := by
        have := HO5.out.own
        rwa [List.length_map, HBL.out] at this
      have HOWN := Lib.hid hown
      have HQ := Lib.hid (news_of (heap_alloc_new wr (.cells #[.int .i64 id, .int .u32 0, .int .i64 wt] 32)))
      have HGN : RowKit.Hid (gmay (bs ++ [⟨id, 0, wt⟩]) = true) := Lib.hid (gmay_snoc HG.out (by rw [HBL.out]; exact h16) ((mayKB_iff _).2 ⟨⟨hid0.1, hid0.2.1⟩, hwt1⟩) (fun a ha => by have := HLE.out a ha; show a.id < id; omega))
      have HIDD := Lib.hid hid0
      clear hown t5
      go_wp2_with (at_builtin; (with_reducible refine wp_appR HOWN.out 28 Try.underlying28 _ 24 HII.out rfl (by decide) ⟨wr.heap.size, 0, none⟩ 1 1 _ rfl HQ.out (by simp [Value.oneCell']) (by simp only [maxLen]; omega) (by omega) (HT5.out.under (Nat.le_refl _)) (Nat.le_refl _) HT5.out.size rfl _ _ rfl rfl rfl ?_); intro a4 c4 w6 ho4 hg4 hb4 hp4; have HO4 := Lib.hid ho4; have HT4 := Lib.hid (Touch.ofBelow (S := fun _ => False) hb4 (fun k h1 h2 => by omega)); clear ho4 hg4 hb4 hp4)
      have HO6 : RowKit.Hid (OwnK w6 w.heap.size (.slice a4 (k + 1) c4) (bs ++ [⟨id, 0, wt⟩])) := Lib.hid (by
        unfold OwnK
        rw [List.map_append, List.map_cons, List.map_nil]
        refine HO5.out.add (L2 := [[.int .i64 id, .int .u32 0, .int .i64 wt]]) (by simp) ?_
        have := HO4.out
        rw [List.length_map, HBL.out]
        simpa using this)
      refine ⟨⟨k + 1, a4, c4, bs ++ [⟨id, 0, wt⟩], id, hlt, by go_num, rfl, rfl, by have := HIDD.out; omega, by have := HIDD.out; omega, HO6.out, by simp [HBL.out], h16, HGN.out, fun b hb => ?_, HT4.out⟩, by simp [intOf]; omega⟩
      have := HIDD.out
      rcases List.mem_append.1 hb with h9 | h9
      · have := HLE.out b h9; omega
      · simp at h9; subst h9; exact Int.le_refl _
    case neg =>
      obtain ⟨wt, hwt⟩ : ∃ wt : Int, wt = 1 := ⟨_, rfl⟩
      have hwt1 : 1 ≤ wt ∧ wt ≤ 10 := by omega
      have hl2I : ¬ (k : Int) < l2 := by omega
      subst hwt
      have t5 := (Touch.refl wr (fun _ => False)).alloc (.cells #[.int .i64 id, .int .u32 0, .int .i64 1] 32)
      have HT5 := Lib.hid (HT.out.trans t5 (fun _ _ h => h))
      have HO5 := Lib.hid (OwnS.still HO.out.toS t5)
      have hown : (wr.alloc (.cells #[.int .i64 id, .int .u32 0, .int .i64 1] 32)).ownsRow w.heap.size 32 3 (.slice a' k c') k (bs.map BkD.cells).flatten := by
        have := HO5.out.own
        rwa [List.length_map, HBL.out] at this
      have HOWN := Lib.hid hown
      have HQ := Lib.hid (news_of (heap_alloc_new wr (.cells #[.int .i64 id, .int .u32 0, .int .i64 1] 32)))
      have HGN : RowKit.Hid (gmay (bs ++ [⟨id, 0, 1⟩]) = true) := Lib.hid (gmay_snoc HG.out (by rw [HBL.out]; exact h16) ((mayKB_iff _).2 ⟨⟨hid0.1, hid0.2.1⟩, hwt1⟩) (fun a ha => by have := HLE.out a ha; show a.id < id; omega))
      have HIDD := Lib.hid hid0
      clear hown t5
      go_wp2_with (at_builtin; (with_reducible refine wp_appR HOWN.out 28 Try.underlying28 _ 24 HII.out rfl (by decide) ⟨wr.heap.size, 0, none⟩ 1 1 _ rfl HQ.out (by simp [Value.oneCell']) (by simp only [maxLen]; omega) (by omega) (HT5.out.under (Nat.le_refl _)) (Nat.le_refl _) HT5.out.size rfl _ _ rfl rfl rfl ?_); intro a4 c4 w6 ho4 hg4 hb4 hp4; have HO4 := Lib.hid ho4; have HT4 := Lib.hid (Touch.ofBelow (S := fun _ => False) hb4 (fun k h1 h2 => by omega)); clear ho4 hg4 hb4 hp4)
      have HO6 : RowKit.Hid (OwnK w6 w.heap.size (.slice a4 (k + 1) c4) (bs ++ [⟨id, 0, 1⟩])) := Lib.hid (by
        unfold OwnK
        rw [List.map_append, List.map_cons, List.map_nil]
        refine HO5.out.add (L2 := [[.int .i64 id, .int .u32 0, .int .i64 1]]) (by simp) ?_
        have := HO4.out
        rw [List.length_map, HBL.out]
        simpa using this)
      refine ⟨⟨k + 1, a4, c4, bs ++ [⟨id, 0, 1⟩], id, hlt, by go_num, rfl, rfl, by have := HIDD.out; omega, by have := HIDD.out; omega, HO6.out, by simp [HBL.out], h16, HGN.out, fun b hb => ?_, HT4.out⟩, by simp [intOf]; omega⟩
      have := HIDD.out
      rcases List.mem_append.1 hb with h9 | h9
      · have := HLE.out b h9; omega
      · simp at h9; subst h9; exact Int.le_refl _

theorem maglevFair_holds : Rows.MaglevFairSaid := by
  refine maglevFair.said fun H enc W base v0 v1 v2 d0 d1 d2 p0 p1 p2 h0 h1 h2 => ?_
  obtain ⟨a1, l1, c1, xs, rfl, hr1⟩ := h0.ints Try.underlying22 Try.underlying3 (by kernel_rfl)
  obtain ⟨a2, l2, c2, ys, rfl, hr2⟩ := h1.ints Try.underlying22 Try.underlying3 (by kernel_rfl)
  obtain ⟨p, rfl, m1, m2, _⟩ := h2.i64 Try.underlying3
  exact (fair_walk a1 a2 l1 c1 l2 c2 xs ys p W hr1 hr2 ⟨m1, m2⟩).mono fun e w' h => ⟨h.1, h.2.below (fun _ _ h => h.elim) (Nat.le_refl _)⟩
end Go.Proofs.Ytcfiaflcgphgbaa
