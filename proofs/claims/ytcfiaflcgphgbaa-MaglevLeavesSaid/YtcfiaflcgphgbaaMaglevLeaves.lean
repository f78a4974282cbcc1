/- MaglevLeaves answers true for any backends, any one of them, any choice of how many slots: without a backend its slots are others', and all are taken. No condition. -/
import Derived.Test.YtcfiaflcgphgbaaMagL
import Derived.Test.YtcfiaflcgphgbaaMagB
import Derived.Test.YtcfiaflcgphgbaaRecArgs
import Derived.Test.YtcfiaflcgphgbaaFrMaglevLeaves
set_option linter.unusedVariables false
namespace Go.Proofs.Ytcfiaflcgphgbaa
open Go.RowKit Go.Maps

def prL (j : Nat) : Nat := [7, 13, 61, 251].getD j 0
theorem prL_ok (j : Nat) (h : j < 4) : Prm (prL j) := by
  rcases (by omega : j = 0 ∨ j = 1 ∨ j = 2 ∨ j = 3) with rfl | rfl | rfl | rfl
  · exact prm7
  · exact prm13
  · exact prm61
  · exact prm251
theorem bk_cells (bs : List BkD) : ∀ l ∈ bs.map BkD.cells, ∀ u ∈ l, u.oneCell' = true := by
  intro l hl u hu
  obtain ⟨b, _, rfl⟩ := List.mem_map.1 hl
  simp only [BkD.cells, List.mem_cons, List.not_mem_nil, or_false] at hu
  rcases hu with rfl | rfl | rfl <;> rfl

set_option maxRecDepth 20000 in
set_option maxHeartbeats 8000000 in
theorem leaves_walk (a : Option Addr) (cap : Nat) (bs : List BkD) (at0 pick : Int) (w : World) (hr : RowK w a bs.length cap bs) (hpk : i64 pick) (hat : i64 at0) :
    Calls Try.prog 6 #[.slice a bs.length cap, .int .i64 at0, .int .i64 pick] w fun e w' => e = .returned (.bool true) ∧ Touch w w' (fun _ => False) := by
  obtain ⟨len, hlen⟩ : ∃ n, bs.length = n := ⟨_, rfl⟩
  rw [hlen] at hr ⊢
  have hcap := hr.hmax
  have hcap1 := hr.hcap
  have HR := Lib.hid hr
  have HL := Lib.hid hlen
  have HMB := Lib.hid (rgmay_any a len cap bs w hr)
  clear hr hlen
  cases hg : gmay bs
  case false =>
    rw [hg] at HMB
    clear hg
    go_enter Try.func6, Try.ntmps6
    go_wp2_with (first
      | (go_at_call 14; (with_reducible refine HMB.out.mono ?_); rintro e w3 ⟨rfl, t3⟩; have HT3 := Lib.hid t3; clear t3)
      | (go_at_call 8; (with_reducible refine (awake18 _).mono ?_); rintro e w9 ⟨rfl, t9⟩; have HT9 := Lib.hid (HT3.out.trans t9 (fun _ _ h => h)); clear t9))
    go_ret
    exact ⟨rfl, HT9.out⟩
  case true =>
  rw [hg] at HMB
  by_cases hl0 : len = 0
  case pos =>
    subst hl0
    clear hg
    go_enter Try.func6, Try.ntmps6
    go_wp2_with (first
      | (go_at_call 14; (with_reducible refine HMB.out.mono ?_); rintro e w3 ⟨rfl, t3⟩; have HT3 := Lib.hid t3; clear t3)
      | (go_at_call 8; (with_reducible refine (awake18 _).mono ?_); rintro e w9 ⟨rfl, t9⟩; have HT9 := Lib.hid (HT3.out.trans t9 (fun _ _ h => h)); clear t9))
    go_ret
    exact ⟨rfl, HT9.out⟩
  case neg =>
  have hl0B : ((len : Int) == 0) = false := beq_eq_false_iff_ne.2 (by omega)
  have hl16 : len ≤ 16 := by have := ((gmay_iff bs).1 hg).1; have := HL.out; omega
  have HG := Lib.hid hg
  clear hg
  go_enter Try.func6, Try.ntmps6
  go_wp2_with fail
  refine HMB.out.mono ?_
  rintro e w2 ⟨rfl, t2⟩
  -- the numbers drawn
  obtain ⟨U, hU⟩ : ∃ U, u64N pick = U := ⟨_, rfl⟩
  have hu : IntKind.u64.wrap pick = (U : Int) := by rw [u64N_wrap, hU]
  have hUl : U < 18446744073709551616 := by rw [← hU]; exact u64N_lt pick
  obtain ⟨j, hj⟩ : ∃ j, U % 4 = j := ⟨_, rfl⟩
  have hj4 : j < 4 := by omega
  have e1 : (U : Int) % 4 = (j : Int) := by omega
  have e2 : (U : Int).tmod 4 = (j : Int) := by rw [Int.tmod_eq_emod_of_nonneg (by omega)]; exact e1
  obtain ⟨V, hV⟩ : ∃ V, u64N at0 = V := ⟨_, rfl⟩
  have hv : IntKind.u64.wrap at0 = (V : Int) := by rw [u64N_wrap, hV]
  have hVl : V < 18446744073709551616 := by rw [← hV]; exact u64N_lt at0
  obtain ⟨p, hp⟩ : ∃ p, V % len = p := ⟨_, rfl⟩
  have hpl : p < len := by rw [← hp]; exact Nat.mod_lt _ (by omega)
  have f1 : (V : Int) % (len : Int) = (p : Int) := by rw [← hp]; norm_cast
  have f2 : (V : Int).tmod (len : Int) = (p : Int) := by rw [Int.tmod_eq_emod_of_nonneg (by omega)]; exact f1
  have f3 : ¬ len = 0 := hl0
  have f4 : IntKind.u64.wrap (len : Int) = (len : Int) := by rw [IntKind.wrap_u64]; omega
  obtain ⟨W1, hW1⟩ : ∃ W, w2.alloc (.cells #[.int .i64 7, .int .i64 13, .int .i64 61, .int .i64 251] 36) = W := ⟨_, rfl⟩
  obtain ⟨n, hn⟩ : ∃ n, prL j = n := ⟨_, rfl⟩
  have hpr : Prm n := hn ▸ prL_ok j hj4
  have g1 : W1.heap[w2.heap.size]? = some (.cells #[.int .i64 7, .int .i64 13, .int .i64 61, .int .i64 251] 36 (0, 0)) := hW1 ▸ heap_alloc_new ..
  have c1 : W1.cell? ⟨w2.heap.size, j, none⟩ = some (.int .i64 (n : Nat)) := by
    rw [cell_of_cells g1 j, ← hn]
    rcases (by omega : j = 0 ∨ j = 1 ∨ j = 2 ∨ j = 3) with rfl | rfl | rfl | rfl <;> rfl
  have HT1 : RowKit.Hid (Touch w W1 (fun _ => False)) := Lib.hid (t2.trans (hW1 ▸ (Touch.refl w2 _).alloc _) (fun _ _ h => h))
  have HW1 := Lib.hid hW1
  have HP := Lib.hid hpr
  have hn3 := hpr.lo
  have hn251 := hpr.hi
  have HK1 := Lib.hid (HR.out.still HT1.out)
  obtain ⟨b, off, rfl⟩ := HK1.out.some (by omega)
  have hpb : p < bs.length := by rw [HL.out]; exact hpl
  have d0 := (HK1.out.cells p hpb).1
  obtain ⟨g, hgg⟩ : ∃ g, bs[p].id = g := ⟨_, rfl⟩
  have HLF := Lib.hid (left_tab HP.out HG.out hpb)
  rw [hgg] at d0 HLF
  have HG0 : RowKit.Hid (0 ≤ g ∧ g ≤ 65535) := Lib.hid (by rw [← hgg]; exact ((mayKB_iff _).1 (gmay_at HG.out p hpb)).1)
  have HC1 := Lib.hid c1
  clear hn g1 c1 hW1 hpr hj t2 hU hV hp hgg hat hpk
  go_upto_region 4 with (fail)
  rw [HW1.out]
  have c1 := HC1.out
  go_wp2_with fail
  have hp1 : (p : Int) ≤ (len : Int) := by omega
  have hp3 : p ≤ cap := by omega
  have HN1 : RowKit.Hid (p + (len - (p + 1)) = len - 1) := Lib.hid (by omega)
  have HN2 : RowKit.Hid (len - 1 ≤ maxLen) := Lib.hid (by simp only [maxLen]; omega)
  have HN3 : RowKit.Hid ((len - 1) * 24 ≤ 140737488355328) := Lib.hid (by omega)
  have HN4 : RowKit.Hid (p ≤ maxLen) := Lib.hid (by simp only [maxLen]; omega)
  have HN5 : RowKit.Hid (p * 24 ≤ 140737488355328) := Lib.hid (by omega)
  have hpt : ((p : Int) + 1).toNat = p + 1 := by omega
  have hp0 : (0 : Int) ≤ (p : Int) + 1 := by omega
  have hp4 : p + 1 ≤ len := by omega
  have hp5 : p + 1 ≤ cap := by omega
  have hp2 : (p : Int) + 1 ≤ (len : Int) := by omega
  obtain ⟨D1, hD1⟩ : ∃ W, W1.drew = W := ⟨_, rfl⟩
  have HD1 := Lib.hid hD1
  have td : Touch W1 D1 (fun _ => False) := hD1 ▸ (Touch.refl W1 _).drew
  have HSD := Lib.hid td.size
  have HTD := Lib.hid (HT1.out.trans td (fun _ _ h => h))
  have HA1 := Lib.hid (RowS.take (RowK.toS (HK1.out.still td)) p (by omega))
  obtain ⟨A2, hA2⟩ : ∃ A : Option Addr, (if cap = p + 1 then (some ⟨b, off, none⟩ : Option Addr) else some ⟨b, off + (p + 1) * 3, none⟩) = A := ⟨_, rfl⟩
  have HB0 := Lib.hid (RowS.dropA (RowK.toS (HK1.out.still td)) (p + 1) (by omega))
  rw [hA2] at HB0
  have HOA : RowKit.Hid (∀ l ∈ (bs.map BkD.cells).take p, ∀ u ∈ l, u.oneCell' = true) := Lib.hid (fun l hl => bk_cells bs l (List.mem_of_mem_take hl))
  have HOB : RowKit.Hid (∀ l ∈ (bs.map BkD.cells).drop (p + 1), ∀ u ∈ l, u.oneCell' = true) := Lib.hid (fun l hl => bk_cells bs l (List.mem_of_mem_drop hl))
  have HLA : RowKit.Hid (((bs.map BkD.cells).take p).length = p) := Lib.hid (by simp; have := HL.out; omega)
  have HII := Lib.hid infoBk
  have HWO : RowKit.Hid ((bs.map BkD.cells).take p ++ (bs.map BkD.cells).drop (p + 1) = (without bs p).map BkD.cells) := Lib.hid (by unfold without; simp)
  have hpw : IntKind.i64.wrap ((p : Int) + 1) = (p : Int) + 1 := IntWalk.i64_in _ (by omega)
  clear hD1 td c1 hu hUl e1 e2 hv f1 f2 f4 hVl d0
  go_region_law (first
    | (rw [HD1.out]; refine step_appendS rfl _ _ 28 rfl 32 Try.underlying28 _ 3 24 HII.out rfl (by decide) W1.heap.size (.slice none 0 0) [] rfl (OwnS.nil _ _ _ _) _ _ _ ((bs.map BkD.cells).take p) rfl HA1.out HOA.out p _ (Nat.zero_add _) (List.nil_append _) HN4.out HN5.out HSD.out ?_; intro a5 c5 w5 ho5 hg5 hb5; have t5 := (Touch.refl D1 (fun _ => False)).grown hg5 (fun k hk => by cases hk); have HO5 := Lib.hid ho5; have HB5 := Lib.hid (RowS.still HB0.out t5); have HS5 := Lib.hid t5.size; have HT5 := Lib.hid (HTD.out.trans t5 (fun _ _ h => h)); clear ho5 hg5 hb5 t5)
    | (have _u := HO5; refine step_appendS rfl _ _ 28 rfl 32 Try.underlying28 _ 3 24 HII.out rfl (by decide) W1.heap.size _ _ rfl HO5.out _ _ _ ((bs.map BkD.cells).drop (p + 1)) rfl HB5.out HOB.out (len - 1) ((without bs p).map BkD.cells) (by rw [HLA.out]; exact HN1.out) HWO.out HN2.out HN3.out (Nat.le_trans HSD.out HS5.out) ?_; intro a7 c7 w7 ho7 hg7 hb7; have HT7 := Lib.hid (HT5.out.grown hg7 (fun k hk h => by exact absurd (Nat.lt_of_lt_of_le h (Nat.le_trans HT1.out.size (HO5.out.own.lt k hk).1)) (Nat.lt_irrefl _))); have HO7 : RowKit.Hid (OwnK w7 W1.heap.size (.slice a7 (len - 1) c7) (without bs p)) := Lib.hid ho7; clear ho7 hg7 hb7))
  clear hpw hpt hp0 hp1 hp2 hp3 hp5 hA2
  go_wp2_with fail
  refine (table_any _ len cap n bs w7 HP.out (HR.out.still HT7.out)).mono ?_
  rintro e w8 ⟨GA, rfl, ho8, t8⟩
  have HT8 := Lib.hid (HT7.out.trans t8 (fun _ _ h => h))
  have HIA8 := Lib.hid (ho8.rowI (tab_i64 HP.out))
  have HK8 := Lib.hid (HO7.out.row.2.1.still t8)
  obtain ⟨A, hA⟩ : ∃ A, tabF bs n = A := ⟨_, rfl⟩
  obtain ⟨B, hB⟩ : ∃ B, tabF (without bs p) n = B := ⟨_, rfl⟩
  have HAL : RowKit.Hid (A.length = n) := Lib.hid (by rw [← hA]; exact tab_len HP.out)
  have HBL : RowKit.Hid (B.length = n) := Lib.hid (by rw [← hB]; exact tab_len HP.out)
  have HTB : RowKit.Hid (∀ W, RowK W a7 (len - 1) c7 (without bs p) → Calls Try.prog 11 #[.slice a7 ((len - 1 : Nat)) c7, .int .i64 n] W fun e w' => ∃ G, e = .returned (.slice (some ⟨G, 0, none⟩) n n) ∧ RowI w' (some ⟨G, 0, none⟩) n n B ∧ Touch W w' (fun _ => False)) := Lib.hid (fun W h => by
    refine (table_any a7 (len - 1) c7 n (without bs p) W HP.out h).mono ?_
    rintro e w' ⟨G, he, h1, h2⟩
    exact ⟨G, he, by have := h1.rowI (tab_i64 HP.out); rwa [hB] at this, h2⟩)
  rw [hA] at HIA8
  rw [hB] at HLF
  have HWL : RowKit.Hid ((without bs p).length = len - 1) := Lib.hid (by rw [without_len hpb, HL.out])
  have hbn : ((n : Int) != n) = false := bne_eq_false_iff_eq.2 rfl
  clear ho8 t8 hA hB
  go_wp2_with (go_at_call 11; (with_reducible refine (HTB.out _ HK8.out).mono ?_); rintro e w9 ⟨GB, rfl, hib, t9⟩; have HT9 := Lib.hid (HT8.out.trans t9 (fun _ _ h => h)); have HIA9 := Lib.hid (HIA8.out.still t9); have HIB9 := Lib.hid hib; clear hib t9)
  obtain ⟨lw, hlw⟩ : ∃ lw, len - 1 = lw := ⟨_, rfl⟩
  rw [hlw] at HWL ⊢
  go_loopw [13, 70] (fun s i wr => ∃ k m : Nat, k ≤ n ∧ i = .int .i64 k ∧ s = .int .i64 m ∧ m = diffN (A.take k) (B.take k) ∧ m ≤ k ∧ Touch w9 wr (fun _ => False)) (fun _ i _ => n - (intOf i).toNat)
  case atStart => exact ⟨0, 0, Nat.zero_le _, rfl, rfl, by simp [diffN], Nat.le_refl _, Touch.refl _ _⟩
  case round =>
    obtain ⟨k, m, hk, rfl, rfl, hm, hmk, ht⟩ := hrel
    have HT := Lib.hid ht
    have HM := Lib.hid hm
    clear ht hm
    by_cases hlt : k < n
    case neg =>
      obtain rfl : n = k := by omega
      have hlt' : ¬ (n : Int) < n := by omega
      have HMD : RowKit.Hid (diffN A B = m) := Lib.hid (by
        have h := HM.out
        rw [← HAL.out, List.take_length, HAL.out, ← HBL.out, List.take_length] at h
        exact h.symm)
      have HGE : RowKit.Hid (A.count g ≤ m) := Lib.hid (by rw [← HMD.out]; exact diffN_count g A B (by rw [HAL.out, HBL.out]) HLF.out.none_)
      have HTW := Lib.hid (HT9.out.trans HT.out (fun _ _ h => h))
      have HIA := Lib.hid (HIA9.out.still HT.out)
      have HIB := Lib.hid (HIB9.out.still HT.out)
      obtain ⟨cg, hcg⟩ : ∃ c, A.count g = c := ⟨_, rfl⟩
      rw [hcg] at HGE
      have HCG := Lib.hid hcg
      have hgeI : (cg : Int) ≤ (m : Int) := by have := HGE.out; omega
      have hgeI2 : (m : Int) ≥ (cg : Int) := hgeI
      clear hcg
      go_wp2_with (first
        | (go_at_call 10; (with_reducible refine (moved_any _ _ _ _ _ _ A B _ HIA.out HIB.out (by omega) (by omega)).mono ?_); rintro e w10 ⟨rfl, t10⟩; rw [HMD.out]; have HTW := Lib.hid (HTW.out.trans t10 (fun _ _ h => h)); have HIA := Lib.hid (HIA.out.still t10); clear t10)
        | (go_at_call 9; (with_reducible refine (shares_any _ _ _ A _ HIA.out (by omega)).mono ?_); rintro e w11 ⟨rfl, hs, t11⟩; have k1 := hs.look HAL.out g HG0.out.1 (by have := HG0.out.2; omega); rw [HCG.out] at k1; have HTW := Lib.hid (HTW.out.trans t11 (fun _ _ h => h)); clear hs t11)
        | (go_at_call 8; (with_reducible refine (awake18 _).mono ?_); rintro e w12 ⟨rfl, t12⟩; have HTW := Lib.hid (HTW.out.trans t12 (fun _ _ h => h)); clear t12))
      go_ret
      exact ⟨rfl, HTW.out⟩
    case pos =>
    have hkI : (k : Int) < n := by omega
    have hka : k < A.length := by rw [HAL.out]; exact hlt
    have hkb : k < B.length := by rw [HBL.out]; exact hlt
    obtain ⟨ba, oa, ha9, hca⟩ := (HIA9.out.still HT.out).some (by omega)
    cases ha9
    obtain ⟨bb, ob, hb9, hcb⟩ := (HIB9.out.still HT.out).some (by omega)
    cases hb9
    have dA := hca k hka
    have dB := hcb k hkb
    rw [Nat.zero_add] at dA dB
    have HS := Lib.hid (diffN_step A B k hka hkb)
    have HNG := Lib.hid (HLF.out.none_ B[k] (List.getElem_mem hkb))
    have HEM : RowKit.Hid (lw = 0 → B[k] = -1) := Lib.hid (fun h => HLF.out.emp (by rw [HWL.out, h]) _ (List.getElem_mem hkb))
    have HFU : RowKit.Hid (lw ≠ 0 → 0 ≤ B[k]) := Lib.hid (fun h => HLF.out.full (by rw [HWL.out]; exact h) _ (List.getElem_mem hkb))
    clear hca hcb
    generalize A[k] = x at *
    generalize B[k] = y at *
    have hyg : (y == g) = false := beq_eq_false_iff_ne.2 HNG.out
    by_cases hw0 : lw = 0
    case pos =>
      obtain rfl := HEM.out hw0
      subst hw0
      by_cases hxg : x = g
      · subst hxg
        have HNE : RowKit.Hid (¬ x = -1) := Lib.hid (fun e => HNG.out e.symm)
        have HS' : RowKit.Hid (diffN (A.take (k + 1)) (B.take (k + 1)) = diffN (A.take k) (B.take k) + 1) := Lib.hid (by rw [HS.out, if_neg HNE.out])
        clear HS HNE
        go_wp2_with fail
        go_quiet (fail)
        go_wp2
        exact ⟨⟨k + 1, m + 1, hlt, by go_num, by go_num, by rw [HS'.out, HM.out], by omega, HT.out.drewN _⟩, by simp [intOf]; omega⟩
      · have hxgB : (x == g) = false := beq_eq_false_iff_ne.2 hxg
        by_cases hxy : x = -1
        · subst hxy
          have HS' : RowKit.Hid (diffN (A.take (k + 1)) (B.take (k + 1)) = diffN (A.take k) (B.take k)) := Lib.hid (by rw [HS.out]; simp)
          have hb : ((-1 : Int) != (-1 : Int)) = false := bne_eq_false_iff_eq.2 rfl
          clear HS
          go_wp2_with fail
          go_quiet (fail)
          go_wp2
          exact ⟨⟨k + 1, m, hlt, by go_num, rfl, by rw [HS'.out, HM.out], by omega, HT.out.drewN _⟩, by simp [intOf]; omega⟩
        · have HS' : RowKit.Hid (diffN (A.take (k + 1)) (B.take (k + 1)) = diffN (A.take k) (B.take k) + 1) := Lib.hid (by rw [HS.out, if_neg hxy])
          have hb : (x != (-1 : Int)) = true := bne_iff_ne.2 hxy
          clear HS
          go_wp2_with fail
          go_quiet (fail)
          go_wp2
          exact ⟨⟨k + 1, m + 1, hlt, by go_num, by go_num, by rw [HS'.out, HM.out], by omega, HT.out.drewN _⟩, by simp [intOf]; omega⟩
    case neg =>
      have hy0 : ¬ y < 0 := by have := HFU.out hw0; omega
      have hwB : ((lw : Int) == 0) = false := beq_eq_false_iff_ne.2 (by omega)
      by_cases hxg : x = g
      · subst hxg
        have HNE : RowKit.Hid (¬ x = y) := Lib.hid (fun e => HNG.out e.symm)
        have HS' : RowKit.Hid (diffN (A.take (k + 1)) (B.take (k + 1)) = diffN (A.take k) (B.take k) + 1) := Lib.hid (by rw [HS.out, if_neg HNE.out])
        clear HS HNE
        go_wp2_with fail
        go_quiet (fail)
        go_wp2
        exact ⟨⟨k + 1, m + 1, hlt, by go_num, by go_num, by rw [HS'.out, HM.out], by omega, HT.out.drewN _⟩, by simp [intOf]; omega⟩
      · have hxgB : (x == g) = false := beq_eq_false_iff_ne.2 hxg
        by_cases hxy : x = y
        · subst hxy
          have HS' : RowKit.Hid (diffN (A.take (k + 1)) (B.take (k + 1)) = diffN (A.take k) (B.take k)) := Lib.hid (by rw [HS.out]; simp)
          have hb : (x != x) = false := bne_eq_false_iff_eq.2 rfl
          clear HS
          go_wp2_with fail
          go_quiet (fail)
          go_wp2
          exact ⟨⟨k + 1, m, hlt, by go_num, rfl, by rw [HS'.out, HM.out], by omega, HT.out.drewN _⟩, by simp [intOf]; omega⟩
        · have HS' : RowKit.Hid (diffN (A.take (k + 1)) (B.take (k + 1)) = diffN (A.take k) (B.take k) + 1) := Lib.hid (by rw [HS.out, if_neg hxy])
          have hb : (x != y) = true := bne_iff_ne.2 hxy
          clear HS
          go_wp2_with fail
          go_quiet (fail)
          go_wp2
          exact ⟨⟨k + 1, m + 1, hlt, by go_num, by go_num, by rw [HS'.out, HM.out], by omega, HT.out.drewN _⟩, by simp [intOf]; omega⟩

open Go.ChangeShapes Go.WideShapes Go.ChangeAt in
theorem maglevLeaves_holds : Rows.MaglevLeavesSaid := by
  refine maglevLeaves.said fun H enc W base v0 v1 v2 d0 d1 d2 p0 p1 p2 h0 h1 h2 => ?_
  obtain ⟨a, cap, bs, hv, hr, hok⟩ := h0.tr.backs
  obtain ⟨a', len', cap', rfl⟩ := okWide_slice Try.underlying28 h0.ok
  simp only [Value.cells, List.cons.injEq, Value.slice.injEq, and_true] at hv
  obtain ⟨rfl, rfl, rfl⟩ := hv
  obtain ⟨q, rfl, q1, q2, _⟩ := h1.i64 Try.underlying3
  obtain ⟨p, rfl, m1, m2, _⟩ := h2.i64 Try.underlying3
  exact (leaves_walk a' cap' bs q p W hr ⟨m1, m2⟩ ⟨q1, q2⟩).mono fun e w' h => ⟨h.1, h.2.below (fun _ _ h => h.elim) (Nat.le_refl _)⟩
end Go.Proofs.Ytcfiaflcgphgbaa
