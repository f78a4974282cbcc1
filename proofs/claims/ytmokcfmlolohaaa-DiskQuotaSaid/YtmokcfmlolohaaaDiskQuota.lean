/- DiskQuota holds: without crashes all files have never more than the quota; what is refused changes nothing. -/
import Derived.Test.YtmokcfmlolohaaaDskQ
import Derived.Test.YtmokcfmlolohaaaFrDiskQuota
import Derived.Test.YtmokcfmlolohaaaDiskFails
set_option linter.unusedVariables false
set_option linter.unusedSimpArgs false
namespace Go.Proofs.Ytmokcfmlolohaaa
open Go.RowKit

set_option maxRecDepth 20000 in
set_option maxHeartbeats 16000000 in
theorem quota3_walk (x : Int) (a : Option Addr) (n c : Nat) (L : List CallB) (w : World) (hr : RowS w a n c 5 (L.map CallB.cells)) (hok : ∀ k ∈ L, CallKOk k.c ∧ RowB w k.a k.l k.cp k.xs) :
    Calls Try.prog 10 #[.int .i64 x, .slice a n c] w fun e w' => e = .returned (.bool true) ∧ Touch w w' (fun _ => False) := by
  have HSH := Lib.hid (dshort_any w a n c L hr (fun k hk => ⟨(hok k hk).2.2.2.2.1, (hok k hk).1.name, (hok k hk).1.tn⟩))
  have hLl : L.length = n := by have := hr.hlen; simpa using this
  have hnc := hr.hcap
  have hnm := hr.hmax
  have HR := Lib.hid hr
  have HOK := Lib.hid hok
  have HLL := Lib.hid hLl
  obtain ⟨q, hq, hq1⟩ := modK x 200 (by decide) (by decide)
  have HQ := Lib.hid hq
  clear hr hok hLl hq
  go_enter Try.func10, Try.ntmps10
  go_wp2_with fail
  refine HSH.out.mono ?_
  rintro e w1 ⟨rfl, t1⟩
  have HT1 := Lib.hid t1
  cases hb : shortOk L with
  | false =>
    clear t1
    go_wp2_with fail
    refine (awake3 w1).mono ?_
    rintro e w2 ⟨rfl, t2⟩
    have HT := Lib.hid (HT1.out.trans t2 (fun _ _ h => h))
    clear t2
    go_wp2_with fail
    go_ret
    exact ⟨rfl, HT.out⟩
  | true =>
    have h120 : n ≤ 120 := by
      unfold shortOk at hb
      rw [Bool.and_eq_true] at hb
      have := of_decide_eq_true hb.1
      rwa [HLL.out] at this
    have HSM : RowKit.Hid (∀ k ∈ L, k.l ≤ 3000 ∧ k.c.name.size ≤ 40) := Lib.hid (fun k hk => by
      unfold shortOk at hb
      rw [Bool.and_eq_true] at hb
      have := of_decide_eq_true (List.all_eq_true.1 hb.2 k hk)
      exact ⟨this.1, this.2.1⟩)
    have HR := Lib.hid (HR.out.still t1)
    have HOK : RowKit.Hid (∀ k ∈ L, szN k.c.name ∧ RowB w1 k.a k.l k.cp k.xs) := Lib.hid (fun k hk => ⟨(HOK.out k hk).1.name, (HOK.out k hk).2.touch t1 (fun _ _ => .inr (fun h => h))⟩)
    clear t1 hb HSH
    go_upto_region 4 with (fail)
    rw [HQ.out]
    go_wp2_with fail
    refine (dnew_any w1 q (by omega)).mono ?_
    rintro e w2 ⟨d, h2, rfl, n2⟩
    have HD : RowKit.Hid (∃ (h : DkH) (st : DkS), DkN w1 w2 d h st ∧ QI q 0 st) := Lib.hid ⟨h2, _, n2, QI.new (by omega) hq1⟩
    clear n2
    go_wp2_with fail
    go_loopw [23] (fun s23 wr => ∃ (k : Nat) (h : DkH) (st : DkS), k ≤ n ∧ s23 = .int .i64 k ∧ DkN w1 wr d h st ∧ QI q k st) (fun s23 _ => n - (RowKit.intOf s23).toNat)
    case atStart =>
      obtain ⟨h, st, hd, hs⟩ := HD.out
      exact ⟨0, h, st, Nat.zero_le _, rfl, hd, hs⟩
    case round =>
      obtain ⟨k, h, st, hk, rfl, hd, hs⟩ := hrel
      have HN := Lib.hid hd
      have HS := Lib.hid hs
      clear hd hs HD
      by_cases hlt : k < n
      case neg =>
        obtain rfl : n = k := by omega
        have hlI : ¬ (n : Int) < n := by omega
        go_wp2_with fail
        refine (awake3 wr).mono ?_
        rintro e w7 ⟨rfl, t7⟩
        have HT7 := Lib.hid (HT1.out.trans (HN.out.t.trans t7 (fun _ _ h => h)) (fun _ _ h => h))
        clear t7
        go_wp2_with fail
        go_ret
        exact ⟨rfl, HT7.out⟩
      case pos =>
        have hlI : (k : Int) < n := by omega
        have hkL : k < L.length := by rw [HLL.out]; exact hlt
        have r1 := HR.out.still HN.out.t
        obtain ⟨b1, o1, e1⟩ := r1.some (by omega)
        rw [e1] at r1
        obtain ⟨p0, p1, p2, p3, p4⟩ := callB_cells r1 k hkL
        obtain ⟨hnm', hrow⟩ := HOK.out _ (List.getElem_mem hkL)
        have hsm := HSM.out _ (List.getElem_mem hkL)
        obtain ⟨qq, hqq⟩ : ∃ q, L[k] = q := ⟨_, rfl⟩
        rw [hqq] at p0 p1 p2 p3 p4 hnm' hrow hsm
        obtain ⟨⟨q0, q1, q2, q3⟩, qa, ql, qc, qx⟩ := qq
        simp only at p0 p1 p2 p3 p4 hnm' hrow hsm
        have hxl : qx.length = ql := hrow.1
        have HROW := Lib.hid hrow
        have HNM := Lib.hid hnm'
        have HXL := Lib.hid hxl
        have hql : ql ≤ 3000 := hsm.1
        have hwk : wrap64 ((k : Int) + 1) = (k : Int) + 1 := by unfold wrap64; omega
        have HWK := Lib.hid hwk
        obtain ⟨W4, hW4⟩ : ∃ W, wr.alloc (.cells #[.int .i64 q0, .int .i64 q1, .string q2, .string q3, .slice qa ql qc] 31) = W := ⟨_, rfl⟩
        have g4 : W4.heap[wr.heap.size]? = some (.cells #[.int .i64 q0, .int .i64 q1, .string q2, .string q3, .slice qa ql qc] 31 (0, 0)) := hW4 ▸ heap_alloc_new ..
        have t4 : Touch wr W4 (fun _ => False) := hW4 ▸ (Touch.refl wr _).alloc _
        have HNF : RowKit.Hid (¬ footK h wr.heap.size) := Lib.hid (fun hf => absurd (HN.out.m.lt _ hf) (Nat.lt_irrefl _))
        have HN := Lib.hid (HN.out.still t4)
        have y0 : W4.cell? ⟨wr.heap.size, 0, none⟩ = some (.int .i64 q0) := cell_of_cells g4 0
        have y2 : W4.cell? ⟨wr.heap.size, 2, none⟩ = some (.string q2) := cell_of_cells g4 2
        have y4 : W4.cell? ⟨wr.heap.size, 4, none⟩ = some (.slice qa ql qc) := cell_of_cells g4 4
        have HW4 := Lib.hid hW4
        have HG4 := Lib.hid g4
        rw [e1]
        clear r1 hqq hW4 g4 hwk hnm' hrow hsm hxl t4
        go_upto_region 8 with (fail)
        rw [HW4.out]
        clear p0 p1 p2 p3 p4
        by_cases hdo : q0 = 0
        case neg =>
          have hq0 : (q0 == 0) = false := by simpa using hdo
          have HX : RowKit.Hid (∃ (k' : Nat) (h : DkH) (st : DkS), k' ≤ n ∧ Value.int .i64 ((k : Int) + 1) = .int .i64 k' ∧ DkN w1 W4 d h st ∧ QI q k' st) := Lib.hid ⟨k + 1, h, st, by omega, by go_num, HN.out, HS.out.mono⟩
          go_wp2_with fail
          try rw [HWK.out]
          go_roundw
          · exact HX.out
          · simp only [RowKit.intOf]; omega
        subst hdo
        have HC := Lib.hid (dnames_any W4 d h st HN.out.m)
        go_wp2_with fail
        refine HC.out.mono ?_
        rintro e w5 ⟨a5, c5, rfl, o5, t5⟩
        have HWAS := Lib.hid o5
        have HNA := HN
        have HN := Lib.hid (HNA.out.still t5)
        have HG4 := Lib.hid (t5.keeps HG4.out (fun h => h))
        have HC := Lib.hid (dsize_any w5 d h st HN.out.m)
        clear o5 t5 y0 y2 y4
        go_wp2_with fail
        refine HC.out.mono ?_
        rintro e w6 ⟨rfl, t6⟩
        have HWAS := Lib.hid (HWAS.out.still t6)
        have HN := Lib.hid (HN.out.still t6)
        have HG4 := Lib.hid (t6.keeps HG4.out (fun h => h))
        have y2 : w6.cell? ⟨wr.heap.size, 2, none⟩ = some (.string q2) := cell_of_cells HG4.out 2
        have y4 : w6.cell? ⟨wr.heap.size, 4, none⟩ = some (.slice qa ql qc) := cell_of_cells HG4.out 4
        have HC := Lib.hid (HN.out.app q2 HNM.out (HN.out.rowB HROW.out) (HN.out.offB HROW.out) (by have := HS.out.c; omega))
        clear t6
        go_wp2_with fail
        refine HC.out.mono ?_
        rintro e w7 ⟨g, hg, rfl, h7, n7, -, -, t7⟩
        have HWAS := Lib.hid (HWAS.out.touch t7 (fun x hx hf => by
          have h1 := (HWAS.out.row'.2.2)
          obtain ⟨y, hy, rfl⟩ := bown_block hx
          have h2 := (h1 y hy).1
          have h3 := HNA.out.m.lt _ hf
          omega))
        have g7 := t7.keeps HG4.out HNF.out
        have HCB : RowKit.Hid (∀ w', Touch w7 w' (fun _ => False) → w'.cell? ⟨wr.heap.size, 4, none⟩ = some (.slice qa ql qc)) := Lib.hid (fun w' t => cell_of_cells (t.keeps g7 (fun h => h)) 4)
        have hzq : (dkSz st : Int) ≤ 200 := by have := HS.out.z; omega
        obtain ⟨E, hE⟩ : ∃ E, dkAppE st q2 qx.length = E := ⟨_, rfl⟩
        rw [hE]
        clear t7 g7 y2 y4 HC
        by_cases hE0 : E = 0
        · obtain ⟨hs7, hz7⟩ := HS.out.yes HN.out.m hg (hE.trans hE0)
          obtain ⟨st7, hst7⟩ : ∃ s, dkAppS st q2 g qx = s := ⟨_, rfl⟩
          rw [hst7] at hs7 hz7 n7
          have HN := Lib.hid n7
          have HLE : RowKit.Hid ((dkSz st7 : Int) ≤ q) := Lib.hid hs7.z
          have HSU : RowKit.Hid ((dkSz st7 : Int) = IntKind.i64.wrap ((dkSz st : Int) + ql)) := Lib.hid (by rw [IntWalk.i64_in _ (by omega), hz7, HXL.out]; omega)
          have HS7 := Lib.hid hs7
          clear hs7 hz7 n7 hst7 hE hg
          subst hE0
          go_upto_region 11 with (fail)
          have hS := (Touch.refl w7 (fun _ => False)).drew
          refine wp_region_sched (fun w' => Touch w7 w' (fun _ => False)) [(0, true), (2, true), (1, false), (3, true), (4, true), (5, true), (6, true), (7, true), (8, true), (10, true), (11, true), (12, true), (13, true), (14, true), (9, false), (15, true), (16, true), (17, true), (18, true), (19, true), (20, true), (21, true), (22, true), (24, true), (23, false), (25, true), (26, true), (27, true), (29, true), (28, false), (30, false), (31, true), (32, true), (33, true), (34, true)] (by kernel_rfl) (by kernel_rfl) rfl (by kernel_rfl) hS ?_
          (refine walkS_take (v := ?_) (some 40) rfl rfl (fun _ _ _ h => h) (by rfl) ?_ ?_; rotate_left; (focus (intro w' hw'; have k0 := HCB.out w' hw'; go_simp; (try with_reducible rfl))); (try simp only [Act.put, List.setIfInBounds_toArray, List.set_cons_zero, List.set_cons_succ]))
          (refine walkS_take (v := ?_) (some 42) rfl rfl (fun _ _ _ h => h) (by rfl) ?_ ?_; rotate_left; (focus (intro w' hw'; have k0 := HCB.out w' hw'; go_simp; (try with_reducible rfl))); (try simp only [Act.put, List.setIfInBounds_toArray, List.set_cons_zero, List.set_cons_succ]))
          (refine walkS_call 41 _ _ _ _ ((dsize_any _ d h7 (st7) (HN.out.m.still hS))) rfl rfl rfl (by rfl) rfl (enter_dsize _ _) ?_; rintro e w' ⟨rfl, t⟩; have hS := hS.trans t (fun _ _ h => h); clear t; refine ⟨_, rfl, hS, fun hS => ?_⟩; (try simp only [Act.put, List.setIfInBounds_toArray, List.set_cons_zero, List.set_cons_succ]))
          (refine walkS_bin (some 43) _ _ _ _ _ _ _ _ (gtI_no _ _ HLE.out) rfl rfl rfl rfl rfl (fun _ _ _ h => h) (by rfl) ?_; (try simp only [Act.put, List.setIfInBounds_toArray, List.set_cons_zero, List.set_cons_succ]))
          (refine walkS_take (v := ?_) (some 44) rfl rfl (fun _ _ _ h => h) (by rfl) ?_ ?_; rotate_left; (focus (intro w' hw'; have k0 := HCB.out w' hw'; go_simp; (try with_reducible rfl))); (try simp only [Act.put, List.setIfInBounds_toArray, List.set_cons_zero, List.set_cons_succ]))
          first | (refine walkS_skip (some 45) rfl rfl (by rfl) (fun _ _ _ h => h) hS ?_; (try simp only [Act.put, List.setIfInBounds_toArray, List.set_cons_zero, List.set_cons_succ])) | (refine walkS_take (v := ?_) (some 45) rfl rfl (fun _ _ _ h => h) (by rfl) ?_ ?_; rotate_left; (focus (intro w' hw'; have k0 := HCB.out w' hw'; go_simp; (try with_reducible rfl))); (try simp only [Act.put, List.setIfInBounds_toArray, List.set_cons_zero, List.set_cons_succ]))
          first | (refine walkS_skip (some 46) rfl rfl (by rfl) (fun _ _ _ h => h) hS ?_; (try simp only [Act.put, List.setIfInBounds_toArray, List.set_cons_zero, List.set_cons_succ])) | (refine walkS_take (v := ?_) (some 46) rfl rfl (fun _ _ _ h => h) (by rfl) ?_ ?_; rotate_left; (focus (intro w' hw'; have k0 := HCB.out w' hw'; go_simp; (try with_reducible rfl))); (try simp only [Act.put, List.setIfInBounds_toArray, List.set_cons_zero, List.set_cons_succ]))
          first | (refine walkS_skip (some 47) rfl rfl (by rfl) (fun _ _ _ h => h) hS ?_; (try simp only [Act.put, List.setIfInBounds_toArray, List.set_cons_zero, List.set_cons_succ])) | (refine walkS_take (v := ?_) (some 47) rfl rfl (fun _ _ _ h => h) (by rfl) ?_ ?_; rotate_left; (focus (intro w' hw'; have k0 := HCB.out w' hw'; go_simp; (try with_reducible rfl))); (try simp only [Act.put, List.setIfInBounds_toArray, List.set_cons_zero, List.set_cons_succ]))
          first | (refine walkS_skip (some 48) rfl rfl (by rfl) (fun _ _ _ h => h) hS ?_; (try simp only [Act.put, List.setIfInBounds_toArray, List.set_cons_zero, List.set_cons_succ])) | (refine walkS_take (v := ?_) (some 48) rfl rfl (fun _ _ _ h => h) (by rfl) ?_ ?_; rotate_left; (focus (intro w' hw'; have k0 := HCB.out w' hw'; go_simp; (try with_reducible rfl))); (try simp only [Act.put, List.setIfInBounds_toArray, List.set_cons_zero, List.set_cons_succ]))
          first | (refine walkS_skip (some 50) rfl rfl (by rfl) (fun _ _ _ h => h) hS ?_; (try simp only [Act.put, List.setIfInBounds_toArray, List.set_cons_zero, List.set_cons_succ])) | (refine walkS_take (v := ?_) (some 50) rfl rfl (fun _ _ _ h => h) (by rfl) ?_ ?_; rotate_left; (focus (intro w' hw'; have k0 := HCB.out w' hw'; go_simp; (try with_reducible rfl))); (try simp only [Act.put, List.setIfInBounds_toArray, List.set_cons_zero, List.set_cons_succ]))
          first | (refine walkS_skip (some 51) rfl rfl (by rfl) (fun _ _ _ h => h) hS ?_; (try simp only [Act.put, List.setIfInBounds_toArray, List.set_cons_zero, List.set_cons_succ])) | (refine walkS_take (v := ?_) (some 51) rfl rfl (fun _ _ _ h => h) (by rfl) ?_ ?_; rotate_left; (focus (intro w' hw'; have k0 := HCB.out w' hw'; go_simp; (try with_reducible rfl))); (try simp only [Act.put, List.setIfInBounds_toArray, List.set_cons_zero, List.set_cons_succ]))
          first | (refine walkS_skip (some 52) rfl rfl (by rfl) (fun _ _ _ h => h) hS ?_; (try simp only [Act.put, List.setIfInBounds_toArray, List.set_cons_zero, List.set_cons_succ])) | (refine walkS_take (v := ?_) (some 52) rfl rfl (fun _ _ _ h => h) (by rfl) ?_ ?_; rotate_left; (focus (intro w' hw'; have k0 := HCB.out w' hw'; go_simp; (try with_reducible rfl))); (try simp only [Act.put, List.setIfInBounds_toArray, List.set_cons_zero, List.set_cons_succ]))
          first | (refine walkS_skip (some 53) rfl rfl (by rfl) (fun _ _ _ h => h) hS ?_; (try simp only [Act.put, List.setIfInBounds_toArray, List.set_cons_zero, List.set_cons_succ])) | (refine walkS_take (v := ?_) (some 53) rfl rfl (fun _ _ _ h => h) (by rfl) ?_ ?_; rotate_left; (focus (intro w' hw'; have k0 := HCB.out w' hw'; go_simp; (try with_reducible rfl))); (try simp only [Act.put, List.setIfInBounds_toArray, List.set_cons_zero, List.set_cons_succ]))
          first | (refine walkS_skip (some 54) rfl rfl (by rfl) (fun _ _ _ h => h) hS ?_; (try simp only [Act.put, List.setIfInBounds_toArray, List.set_cons_zero, List.set_cons_succ])) | (refine walkS_take (v := ?_) (some 54) rfl rfl (fun _ _ _ h => h) (by rfl) ?_ ?_; rotate_left; (focus (intro w' hw'; have k0 := HCB.out w' hw'; go_simp; (try with_reducible rfl))); (try simp only [Act.put, List.setIfInBounds_toArray, List.set_cons_zero, List.set_cons_succ]))
          first | (refine walkS_skip (some 49) rfl rfl (by rfl) (fun _ _ _ h => h) hS ?_; (try simp only [Act.put, List.setIfInBounds_toArray, List.set_cons_zero, List.set_cons_succ])) | (refine walkS_call 49 _ _ _ _ ((dsize_any _ d h7 (st7) (HN.out.m.still hS))) rfl rfl rfl (by rfl) rfl (enter_dsize _ _) ?_; rintro e w' ⟨rfl, t⟩; have hS := hS.trans t (fun _ _ h => h); clear t; refine ⟨_, rfl, hS, fun hS => ?_⟩; (try simp only [Act.put, List.setIfInBounds_toArray, List.set_cons_zero, List.set_cons_succ]))
          first | (refine walkS_skip (some 55) rfl rfl (by rfl) (fun _ _ _ h => h) hS ?_; (try simp only [Act.put, List.setIfInBounds_toArray, List.set_cons_zero, List.set_cons_succ])) | (refine walkS_bin (some 55) _ _ _ _ _ _ _ _ (neI_same _ _ HSU.out) rfl rfl rfl rfl rfl (fun _ _ _ h => h) (by rfl) ?_; (try simp only [Act.put, List.setIfInBounds_toArray, List.set_cons_zero, List.set_cons_succ]))
          first | (refine walkS_skip (some 56) rfl rfl (by rfl) (fun _ _ _ h => h) hS ?_; (try simp only [Act.put, List.setIfInBounds_toArray, List.set_cons_zero, List.set_cons_succ])) | (refine walkS_take (v := ?_) (some 56) rfl rfl (fun _ _ _ h => h) (by rfl) ?_ ?_; rotate_left; (focus (intro w' hw'; have k0 := HCB.out w' hw'; go_simp; (try with_reducible rfl))); (try simp only [Act.put, List.setIfInBounds_toArray, List.set_cons_zero, List.set_cons_succ]))
          (refine walkS_take (v := ?_) (some 57) rfl rfl (fun _ _ _ h => h) (by rfl) ?_ ?_; rotate_left; (focus (intro w' hw'; have k0 := HCB.out w' hw'; go_simp; (try with_reducible rfl))); (try simp only [Act.put, List.setIfInBounds_toArray, List.set_cons_zero, List.set_cons_succ]))
          (refine walkS_take (v := ?_) (some 58) rfl rfl (fun _ _ _ h => h) (by rfl) ?_ ?_; rotate_left; (focus (intro w' hw'; have k0 := HCB.out w' hw'; go_simp; (try with_reducible rfl))); (try simp only [Act.put, List.setIfInBounds_toArray, List.set_cons_zero, List.set_cons_succ]))
          first | (refine walkS_skip (some 59) rfl rfl (by rfl) (fun _ _ _ h => h) hS ?_; (try simp only [Act.put, List.setIfInBounds_toArray, List.set_cons_zero, List.set_cons_succ])) | (refine walkS_take (v := ?_) (some 59) rfl rfl (fun _ _ _ h => h) (by rfl) ?_ ?_; rotate_left; (focus (intro w' hw'; have k0 := HCB.out w' hw'; go_simp; (try with_reducible rfl))); (try simp only [Act.put, List.setIfInBounds_toArray, List.set_cons_zero, List.set_cons_succ]))
          first | (refine walkS_skip (some 60) rfl rfl (by rfl) (fun _ _ _ h => h) hS ?_; (try simp only [Act.put, List.setIfInBounds_toArray, List.set_cons_zero, List.set_cons_succ])) | (refine walkS_take (v := ?_) (some 60) rfl rfl (fun _ _ _ h => h) (by rfl) ?_ ?_; rotate_left; (focus (intro w' hw'; have k0 := HCB.out w' hw'; go_simp; (try with_reducible rfl))); (try simp only [Act.put, List.setIfInBounds_toArray, List.set_cons_zero, List.set_cons_succ]))
          first | (refine walkS_skip (some 61) rfl rfl (by rfl) (fun _ _ _ h => h) hS ?_; (try simp only [Act.put, List.setIfInBounds_toArray, List.set_cons_zero, List.set_cons_succ])) | (refine walkS_take (v := ?_) (some 61) rfl rfl (fun _ _ _ h => h) (by rfl) ?_ ?_; rotate_left; (focus (intro w' hw'; have k0 := HCB.out w' hw'; go_simp; (try with_reducible rfl))); (try simp only [Act.put, List.setIfInBounds_toArray, List.set_cons_zero, List.set_cons_succ]))
          first | (refine walkS_skip (some 62) rfl rfl (by rfl) (fun _ _ _ h => h) hS ?_; (try simp only [Act.put, List.setIfInBounds_toArray, List.set_cons_zero, List.set_cons_succ])) | (refine walkS_take (v := ?_) (some 62) rfl rfl (fun _ _ _ h => h) (by rfl) ?_ ?_; rotate_left; (focus (intro w' hw'; have k0 := HCB.out w' hw'; go_simp; (try with_reducible rfl))); (try simp only [Act.put, List.setIfInBounds_toArray, List.set_cons_zero, List.set_cons_succ]))
          first | (refine walkS_skip (some 64) rfl rfl (by rfl) (fun _ _ _ h => h) hS ?_; (try simp only [Act.put, List.setIfInBounds_toArray, List.set_cons_zero, List.set_cons_succ])) | (refine walkS_take (v := ?_) (some 64) rfl rfl (fun _ _ _ h => h) (by rfl) ?_ ?_; rotate_left; (focus (intro w' hw'; have k0 := HCB.out w' hw'; go_simp; (try with_reducible rfl))); (try simp only [Act.put, List.setIfInBounds_toArray, List.set_cons_zero, List.set_cons_succ]))
          first | (refine walkS_skip (some 63) rfl rfl (by rfl) (fun _ _ _ h => h) hS ?_; (try simp only [Act.put, List.setIfInBounds_toArray, List.set_cons_zero, List.set_cons_succ])) | (refine walkS_call 63 _ _ _ _ ((dsize_any _ d h7 (st7) (HN.out.m.still hS))) rfl rfl rfl (by rfl) rfl (enter_dsize _ _) ?_; rintro e w' ⟨rfl, t⟩; have hS := hS.trans t (fun _ _ h => h); clear t; refine ⟨_, rfl, hS, fun hS => ?_⟩; (try simp only [Act.put, List.setIfInBounds_toArray, List.set_cons_zero, List.set_cons_succ]))
          first | (refine walkS_skip (some 65) rfl rfl (by rfl) (fun _ _ _ h => h) hS ?_; (try simp only [Act.put, List.setIfInBounds_toArray, List.set_cons_zero, List.set_cons_succ])) | (refine walkS_take (v := ?_) (some 65) rfl rfl (fun _ _ _ h => h) (by rfl) ?_ ?_; rotate_left; (focus (intro w' hw'; have k0 := HCB.out w' hw'; go_simp; (try with_reducible rfl))); (try simp only [Act.put, List.setIfInBounds_toArray, List.set_cons_zero, List.set_cons_succ]))
          first | (refine walkS_skip (some 66) rfl rfl (by rfl) (fun _ _ _ h => h) hS ?_; (try simp only [Act.put, List.setIfInBounds_toArray, List.set_cons_zero, List.set_cons_succ])) | (refine walkS_take (v := ?_) (some 66) rfl rfl (fun _ _ _ h => h) (by rfl) ?_ ?_; rotate_left; (focus (intro w' hw'; have k0 := HCB.out w' hw'; go_simp; (try with_reducible rfl))); (try simp only [Act.put, List.setIfInBounds_toArray, List.set_cons_zero, List.set_cons_succ]))
          first | (refine walkS_skip (some 67) rfl rfl (by rfl) (fun _ _ _ h => h) hS ?_; (try simp only [Act.put, List.setIfInBounds_toArray, List.set_cons_zero, List.set_cons_succ])) | (refine walkS_take (v := ?_) (some 67) rfl rfl (fun _ _ _ h => h) (by rfl) ?_ ?_; rotate_left; (focus (intro w' hw'; have k0 := HCB.out w' hw'; go_simp; (try with_reducible rfl))); (try simp only [Act.put, List.setIfInBounds_toArray, List.set_cons_zero, List.set_cons_succ]))
          first | (refine walkS_skip (some 69) rfl rfl (by rfl) (fun _ _ _ h => h) hS ?_; (try simp only [Act.put, List.setIfInBounds_toArray, List.set_cons_zero, List.set_cons_succ])) | (refine walkS_take (v := ?_) (some 69) rfl rfl (fun _ _ _ h => h) (by rfl) ?_ ?_; rotate_left; (focus (intro w' hw'; have k0 := HCB.out w' hw'; go_simp; (try with_reducible rfl))); (try simp only [Act.put, List.setIfInBounds_toArray, List.set_cons_zero, List.set_cons_succ]))
          first | (refine walkS_skip (some 68) rfl rfl (by rfl) (fun _ _ _ h => h) hS ?_; (try simp only [Act.put, List.setIfInBounds_toArray, List.set_cons_zero, List.set_cons_succ])) | (refine walkS_call 68 _ _ _ _ ((dsize_any _ d h7 (st7) (HN.out.m.still hS))) rfl rfl rfl (by rfl) rfl (enter_dsize _ _) ?_; rintro e w' ⟨rfl, t⟩; have hS := hS.trans t (fun _ _ h => h); clear t; refine ⟨_, rfl, hS, fun hS => ?_⟩; (try simp only [Act.put, List.setIfInBounds_toArray, List.set_cons_zero, List.set_cons_succ]))
          first | (refine walkS_skip (some 70) rfl rfl (by rfl) (fun _ _ _ h => h) hS ?_; (try simp only [Act.put, List.setIfInBounds_toArray, List.set_cons_zero, List.set_cons_succ])) | (refine walkS_call 70 _ _ _ _ ((dsize_any _ d h7 (st7) (HN.out.m.still hS))) rfl rfl rfl (by rfl) rfl (enter_dsize _ _) ?_; rintro e w' ⟨rfl, t⟩; have hS := hS.trans t (fun _ _ h => h); clear t; refine ⟨_, rfl, hS, fun hS => ?_⟩; (try simp only [Act.put, List.setIfInBounds_toArray, List.set_cons_zero, List.set_cons_succ]))
          first | (refine walkS_skip (some 71) rfl rfl (by rfl) (fun _ _ _ h => h) hS ?_; (try simp only [Act.put, List.setIfInBounds_toArray, List.set_cons_zero, List.set_cons_succ])) | (refine walkS_take (v := ?_) (some 71) rfl rfl (fun _ _ _ h => h) (by rfl) ?_ ?_; rotate_left; (focus (intro w' hw'; have k0 := HCB.out w' hw'; go_simp; (try with_reducible rfl))); (try simp only [Act.put, List.setIfInBounds_toArray, List.set_cons_zero, List.set_cons_succ]))
          first | (refine walkS_skip (some 72) rfl rfl (by rfl) (fun _ _ _ h => h) hS ?_; (try simp only [Act.put, List.setIfInBounds_toArray, List.set_cons_zero, List.set_cons_succ])) | (refine walkS_take (v := ?_) (some 72) rfl rfl (fun _ _ _ h => h) (by rfl) ?_ ?_; rotate_left; (focus (intro w' hw'; have k0 := HCB.out w' hw'; go_simp; (try with_reducible rfl))); (try simp only [Act.put, List.setIfInBounds_toArray, List.set_cons_zero, List.set_cons_succ]))
          first | (refine walkS_skip (some 73) rfl rfl (by rfl) (fun _ _ _ h => h) hS ?_; (try simp only [Act.put, List.setIfInBounds_toArray, List.set_cons_zero, List.set_cons_succ])) | (refine walkS_take (v := ?_) (some 73) rfl rfl (fun _ _ _ h => h) (by rfl) ?_ ?_; rotate_left; (focus (intro w' hw'; have k0 := HCB.out w' hw'; go_simp; (try with_reducible rfl))); (try simp only [Act.put, List.setIfInBounds_toArray, List.set_cons_zero, List.set_cons_succ]))
          (refine walkS_take (v := ?_) (some 74) rfl rfl (fun _ _ _ h => h) (by rfl) ?_ ?_; rotate_left; (focus (intro w' hw'; have k0 := HCB.out w' hw'; go_simp; (try with_reducible rfl))); (try simp only [Act.put, List.setIfInBounds_toArray, List.set_cons_zero, List.set_cons_succ]))
          refine walkS_done ?_
          have HX : RowKit.Hid (∀ w8, Touch w7 w8 (fun _ => False) → ∃ (k' : Nat) (h : DkH) (st : DkS), k' ≤ n ∧ Value.int .i64 ((k : Int) + 1) = .int .i64 k' ∧ DkN w1 w8 d h st ∧ QI q k' st) := Lib.hid (fun w8 t => ⟨k + 1, h7, st7, by omega, by go_num, HN.out.still t, HS7.out⟩)
          go_wp2_with fail
          try rw [HWK.out]
          go_roundw
          · exact HX.out _ hS
          · simp only [RowKit.intOf]; omega
        · obtain ⟨hst7, hs7, hz7⟩ := HS.out.no (g := g) (fun h => hE0 (hE.symm.trans h))
          rw [hst7] at n7
          have HN := Lib.hid n7
          have HLE : RowKit.Hid ((dkSz (dkOp st) : Int) ≤ q) := Lib.hid hs7.z
          have HSZ7 : RowKit.Hid ((dkSz (dkOp st) : Int) = dkSz st) := Lib.hid (by rw [hz7])
          have HS7 := Lib.hid hs7
          have HEN := Lib.hid hE0
          clear hs7 hz7 n7 hst7 hE hg hE0
          go_upto_region 11 with (fail)
          have hS := (Touch.refl w7 (fun _ => False)).drew
          refine wp_region_sched (fun w' => Touch w7 w' (fun _ => False)) [(0, true), (2, true), (1, false), (3, true), (4, true), (5, true), (6, true), (7, true), (8, true), (10, true), (11, true), (12, true), (13, true), (14, true), (9, false), (15, true), (16, true), (17, true), (18, true), (19, true), (20, true), (21, true), (22, true), (24, true), (23, false), (25, true), (26, true), (27, true), (29, true), (28, false), (30, false), (31, true), (32, true), (33, true), (34, true)] (by kernel_rfl) (by kernel_rfl) rfl (by kernel_rfl) hS ?_
          (refine walkS_take (v := ?_) (some 40) rfl rfl (fun _ _ _ h => h) (by rfl) ?_ ?_; rotate_left; (focus (intro w' hw'; have k0 := HCB.out w' hw'; go_simp; (try with_reducible rfl))); (try simp only [Act.put, List.setIfInBounds_toArray, List.set_cons_zero, List.set_cons_succ]))
          (refine walkS_take (v := ?_) (some 42) rfl rfl (fun _ _ _ h => h) (by rfl) ?_ ?_; rotate_left; (focus (intro w' hw'; have k0 := HCB.out w' hw'; go_simp; (try with_reducible rfl))); (try simp only [Act.put, List.setIfInBounds_toArray, List.set_cons_zero, List.set_cons_succ]))
          (refine walkS_call 41 _ _ _ _ ((dsize_any _ d h7 (dkOp st) (HN.out.m.still hS))) rfl rfl rfl (by rfl) rfl (enter_dsize _ _) ?_; rintro e w' ⟨rfl, t⟩; have hS := hS.trans t (fun _ _ h => h); clear t; refine ⟨_, rfl, hS, fun hS => ?_⟩; (try simp only [Act.put, List.setIfInBounds_toArray, List.set_cons_zero, List.set_cons_succ]))
          (refine walkS_bin (some 43) _ _ _ _ _ _ _ _ (gtI_no _ _ HLE.out) rfl rfl rfl rfl rfl (fun _ _ _ h => h) (by rfl) ?_; (try simp only [Act.put, List.setIfInBounds_toArray, List.set_cons_zero, List.set_cons_succ]))
          (refine walkS_take (v := ?_) (some 44) rfl rfl (fun _ _ _ h => h) (by rfl) ?_ ?_; rotate_left; (focus (intro w' hw'; have k0 := HCB.out w' hw'; go_simp; (try with_reducible rfl))); (try simp only [Act.put, List.setIfInBounds_toArray, List.set_cons_zero, List.set_cons_succ]))
          first | (refine walkS_skip (some 45) rfl rfl (by rfl) (fun _ _ _ h => h) hS ?_; (try simp only [Act.put, List.setIfInBounds_toArray, List.set_cons_zero, List.set_cons_succ])) | (refine walkS_take (v := ?_) (some 45) rfl rfl (fun _ _ _ h => h) (by rfl) ?_ ?_; rotate_left; (focus (intro w' hw'; have k0 := HCB.out w' hw'; go_simp; (try with_reducible rfl))); (try simp only [Act.put, List.setIfInBounds_toArray, List.set_cons_zero, List.set_cons_succ]))
          first | (refine walkS_skip (some 46) rfl rfl (by rfl) (fun _ _ _ h => h) hS ?_; (try simp only [Act.put, List.setIfInBounds_toArray, List.set_cons_zero, List.set_cons_succ])) | (refine walkS_bin (some 46) _ _ _ _ _ _ _ _ (eqE_no _ HEN.out) rfl rfl rfl rfl rfl (fun _ _ _ h => h) (by rfl) ?_; (try simp only [Act.put, List.setIfInBounds_toArray, List.set_cons_zero, List.set_cons_succ]))
          first | (refine walkS_skip (some 47) rfl rfl (by rfl) (fun _ _ _ h => h) hS ?_; (try simp only [Act.put, List.setIfInBounds_toArray, List.set_cons_zero, List.set_cons_succ])) | (refine walkS_take (v := ?_) (some 47) rfl rfl (fun _ _ _ h => h) (by rfl) ?_ ?_; rotate_left; (focus (intro w' hw'; have k0 := HCB.out w' hw'; go_simp; (try with_reducible rfl))); (try simp only [Act.put, List.setIfInBounds_toArray, List.set_cons_zero, List.set_cons_succ]))
          first | (refine walkS_skip (some 48) rfl rfl (by rfl) (fun _ _ _ h => h) hS ?_; (try simp only [Act.put, List.setIfInBounds_toArray, List.set_cons_zero, List.set_cons_succ])) | (refine walkS_take (v := ?_) (some 48) rfl rfl (fun _ _ _ h => h) (by rfl) ?_ ?_; rotate_left; (focus (intro w' hw'; have k0 := HCB.out w' hw'; go_simp; (try with_reducible rfl))); (try simp only [Act.put, List.setIfInBounds_toArray, List.set_cons_zero, List.set_cons_succ]))
          first | (refine walkS_skip (some 50) rfl rfl (by rfl) (fun _ _ _ h => h) hS ?_; (try simp only [Act.put, List.setIfInBounds_toArray, List.set_cons_zero, List.set_cons_succ])) | (refine walkS_take (v := ?_) (some 50) rfl rfl (fun _ _ _ h => h) (by rfl) ?_ ?_; rotate_left; (focus (intro w' hw'; have k0 := HCB.out w' hw'; go_simp; (try with_reducible rfl))); (try simp only [Act.put, List.setIfInBounds_toArray, List.set_cons_zero, List.set_cons_succ]))
          first | (refine walkS_skip (some 51) rfl rfl (by rfl) (fun _ _ _ h => h) hS ?_; (try simp only [Act.put, List.setIfInBounds_toArray, List.set_cons_zero, List.set_cons_succ])) | (refine walkS_take (v := ?_) (some 51) rfl rfl (fun _ _ _ h => h) (by rfl) ?_ ?_; rotate_left; (focus (intro w' hw'; have k0 := HCB.out w' hw'; go_simp; (try with_reducible rfl))); (try simp only [Act.put, List.setIfInBounds_toArray, List.set_cons_zero, List.set_cons_succ]))
          first | (refine walkS_skip (some 52) rfl rfl (by rfl) (fun _ _ _ h => h) hS ?_; (try simp only [Act.put, List.setIfInBounds_toArray, List.set_cons_zero, List.set_cons_succ])) | (refine walkS_take (v := ?_) (some 52) rfl rfl (fun _ _ _ h => h) (by rfl) ?_ ?_; rotate_left; (focus (intro w' hw'; have k0 := HCB.out w' hw'; go_simp; (try with_reducible rfl))); (try simp only [Act.put, List.setIfInBounds_toArray, List.set_cons_zero, List.set_cons_succ]))
          first | (refine walkS_skip (some 53) rfl rfl (by rfl) (fun _ _ _ h => h) hS ?_; (try simp only [Act.put, List.setIfInBounds_toArray, List.set_cons_zero, List.set_cons_succ])) | (refine walkS_take (v := ?_) (some 53) rfl rfl (fun _ _ _ h => h) (by rfl) ?_ ?_; rotate_left; (focus (intro w' hw'; have k0 := HCB.out w' hw'; go_simp; (try with_reducible rfl))); (try simp only [Act.put, List.setIfInBounds_toArray, List.set_cons_zero, List.set_cons_succ]))
          first | (refine walkS_skip (some 54) rfl rfl (by rfl) (fun _ _ _ h => h) hS ?_; (try simp only [Act.put, List.setIfInBounds_toArray, List.set_cons_zero, List.set_cons_succ])) | (refine walkS_take (v := ?_) (some 54) rfl rfl (fun _ _ _ h => h) (by rfl) ?_ ?_; rotate_left; (focus (intro w' hw'; have k0 := HCB.out w' hw'; go_simp; (try with_reducible rfl))); (try simp only [Act.put, List.setIfInBounds_toArray, List.set_cons_zero, List.set_cons_succ]))
          first | (refine walkS_skip (some 49) rfl rfl (by rfl) (fun _ _ _ h => h) hS ?_; (try simp only [Act.put, List.setIfInBounds_toArray, List.set_cons_zero, List.set_cons_succ])) | (refine walkS_call 49 _ _ _ _ ((dsize_any _ d h7 (dkOp st) (HN.out.m.still hS))) rfl rfl rfl (by rfl) rfl (enter_dsize _ _) ?_; rintro e w' ⟨rfl, t⟩; have hS := hS.trans t (fun _ _ h => h); clear t; refine ⟨_, rfl, hS, fun hS => ?_⟩; (try simp only [Act.put, List.setIfInBounds_toArray, List.set_cons_zero, List.set_cons_succ]))
          first | (refine walkS_skip (some 55) rfl rfl (by rfl) (fun _ _ _ h => h) hS ?_; (try simp only [Act.put, List.setIfInBounds_toArray, List.set_cons_zero, List.set_cons_succ])) | (refine walkS_take (v := ?_) (some 55) rfl rfl (fun _ _ _ h => h) (by rfl) ?_ ?_; rotate_left; (focus (intro w' hw'; have k0 := HCB.out w' hw'; go_simp; (try with_reducible rfl))); (try simp only [Act.put, List.setIfInBounds_toArray, List.set_cons_zero, List.set_cons_succ]))
          first | (refine walkS_skip (some 56) rfl rfl (by rfl) (fun _ _ _ h => h) hS ?_; (try simp only [Act.put, List.setIfInBounds_toArray, List.set_cons_zero, List.set_cons_succ])) | (refine walkS_take (v := ?_) (some 56) rfl rfl (fun _ _ _ h => h) (by rfl) ?_ ?_; rotate_left; (focus (intro w' hw'; have k0 := HCB.out w' hw'; go_simp; (try with_reducible rfl))); (try simp only [Act.put, List.setIfInBounds_toArray, List.set_cons_zero, List.set_cons_succ]))
          (refine walkS_take (v := ?_) (some 57) rfl rfl (fun _ _ _ h => h) (by rfl) ?_ ?_; rotate_left; (focus (intro w' hw'; have k0 := HCB.out w' hw'; go_simp; (try with_reducible rfl))); (try simp only [Act.put, List.setIfInBounds_toArray, List.set_cons_zero, List.set_cons_succ]))
          (refine walkS_take (v := ?_) (some 58) rfl rfl (fun _ _ _ h => h) (by rfl) ?_ ?_; rotate_left; (focus (intro w' hw'; have k0 := HCB.out w' hw'; go_simp; (try with_reducible rfl))); (try simp only [Act.put, List.setIfInBounds_toArray, List.set_cons_zero, List.set_cons_succ]))
          first | (refine walkS_skip (some 59) rfl rfl (by rfl) (fun _ _ _ h => h) hS ?_; (try simp only [Act.put, List.setIfInBounds_toArray, List.set_cons_zero, List.set_cons_succ])) | (refine walkS_take (v := ?_) (some 59) rfl rfl (fun _ _ _ h => h) (by rfl) ?_ ?_; rotate_left; (focus (intro w' hw'; have k0 := HCB.out w' hw'; go_simp; (try with_reducible rfl))); (try simp only [Act.put, List.setIfInBounds_toArray, List.set_cons_zero, List.set_cons_succ]))
          first | (refine walkS_skip (some 60) rfl rfl (by rfl) (fun _ _ _ h => h) hS ?_; (try simp only [Act.put, List.setIfInBounds_toArray, List.set_cons_zero, List.set_cons_succ])) | (refine walkS_bin (some 60) _ _ _ _ _ _ _ _ (neE_yes _ HEN.out) rfl rfl rfl rfl rfl (fun _ _ _ h => h) (by rfl) ?_; (try simp only [Act.put, List.setIfInBounds_toArray, List.set_cons_zero, List.set_cons_succ]))
          first | (refine walkS_skip (some 61) rfl rfl (by rfl) (fun _ _ _ h => h) hS ?_; (try simp only [Act.put, List.setIfInBounds_toArray, List.set_cons_zero, List.set_cons_succ])) | (refine walkS_take (v := ?_) (some 61) rfl rfl (fun _ _ _ h => h) (by rfl) ?_ ?_; rotate_left; (focus (intro w' hw'; have k0 := HCB.out w' hw'; go_simp; (try with_reducible rfl))); (try simp only [Act.put, List.setIfInBounds_toArray, List.set_cons_zero, List.set_cons_succ]))
          first | (refine walkS_skip (some 62) rfl rfl (by rfl) (fun _ _ _ h => h) hS ?_; (try simp only [Act.put, List.setIfInBounds_toArray, List.set_cons_zero, List.set_cons_succ])) | (refine walkS_take (v := ?_) (some 62) rfl rfl (fun _ _ _ h => h) (by rfl) ?_ ?_; rotate_left; (focus (intro w' hw'; have k0 := HCB.out w' hw'; go_simp; (try with_reducible rfl))); (try simp only [Act.put, List.setIfInBounds_toArray, List.set_cons_zero, List.set_cons_succ]))
          first | (refine walkS_skip (some 64) rfl rfl (by rfl) (fun _ _ _ h => h) hS ?_; (try simp only [Act.put, List.setIfInBounds_toArray, List.set_cons_zero, List.set_cons_succ])) | (refine walkS_take (v := ?_) (some 64) rfl rfl (fun _ _ _ h => h) (by rfl) ?_ ?_; rotate_left; (focus (intro w' hw'; have k0 := HCB.out w' hw'; go_simp; (try with_reducible rfl))); (try simp only [Act.put, List.setIfInBounds_toArray, List.set_cons_zero, List.set_cons_succ]))
          first | (refine walkS_skip (some 63) rfl rfl (by rfl) (fun _ _ _ h => h) hS ?_; (try simp only [Act.put, List.setIfInBounds_toArray, List.set_cons_zero, List.set_cons_succ])) | (refine walkS_call 63 _ _ _ _ ((dsize_any _ d h7 (dkOp st) (HN.out.m.still hS))) rfl rfl rfl (by rfl) rfl (enter_dsize _ _) ?_; rintro e w' ⟨rfl, t⟩; have hS := hS.trans t (fun _ _ h => h); clear t; refine ⟨_, rfl, hS, fun hS => ?_⟩; (try simp only [Act.put, List.setIfInBounds_toArray, List.set_cons_zero, List.set_cons_succ]))
          first | (refine walkS_skip (some 65) rfl rfl (by rfl) (fun _ _ _ h => h) hS ?_; (try simp only [Act.put, List.setIfInBounds_toArray, List.set_cons_zero, List.set_cons_succ])) | (refine walkS_bin (some 65) _ _ _ _ _ _ _ _ (neI_same _ _ HSZ7.out) rfl rfl rfl rfl rfl (fun _ _ _ h => h) (by rfl) ?_; (try simp only [Act.put, List.setIfInBounds_toArray, List.set_cons_zero, List.set_cons_succ]))
          first | (refine walkS_skip (some 66) rfl rfl (by rfl) (fun _ _ _ h => h) hS ?_; (try simp only [Act.put, List.setIfInBounds_toArray, List.set_cons_zero, List.set_cons_succ])) | (refine walkS_take (v := ?_) (some 66) rfl rfl (fun _ _ _ h => h) (by rfl) ?_ ?_; rotate_left; (focus (intro w' hw'; have k0 := HCB.out w' hw'; go_simp; (try with_reducible rfl))); (try simp only [Act.put, List.setIfInBounds_toArray, List.set_cons_zero, List.set_cons_succ]))
          first | (refine walkS_skip (some 67) rfl rfl (by rfl) (fun _ _ _ h => h) hS ?_; (try simp only [Act.put, List.setIfInBounds_toArray, List.set_cons_zero, List.set_cons_succ])) | (refine walkS_take (v := ?_) (some 67) rfl rfl (fun _ _ _ h => h) (by rfl) ?_ ?_; rotate_left; (focus (intro w' hw'; have k0 := HCB.out w' hw'; go_simp; (try with_reducible rfl))); (try simp only [Act.put, List.setIfInBounds_toArray, List.set_cons_zero, List.set_cons_succ]))
          first | (refine walkS_skip (some 69) rfl rfl (by rfl) (fun _ _ _ h => h) hS ?_; (try simp only [Act.put, List.setIfInBounds_toArray, List.set_cons_zero, List.set_cons_succ])) | (refine walkS_take (v := ?_) (some 69) rfl rfl (fun _ _ _ h => h) (by rfl) ?_ ?_; rotate_left; (focus (intro w' hw'; have k0 := HCB.out w' hw'; go_simp; (try with_reducible rfl))); (try simp only [Act.put, List.setIfInBounds_toArray, List.set_cons_zero, List.set_cons_succ]))
          first | (refine walkS_skip (some 68) rfl rfl (by rfl) (fun _ _ _ h => h) hS ?_; (try simp only [Act.put, List.setIfInBounds_toArray, List.set_cons_zero, List.set_cons_succ])) | (refine walkS_call 68 _ _ _ _ ((dnames_any _ d h7 (dkOp st) (HN.out.m.still hS))) rfl rfl rfl (by rfl) rfl (enter_dnames _ _) ?_; rintro e w' ⟨a9, c9, rfl, ho9, t9⟩; have HO9 := Lib.hid ho9; have hS := hS.trans t9 (fun _ _ h => h); have HSN := Lib.hid (dsame_any w' a9 a5 (dkOp st).N.length c9 c5 ((dkSort (dkOp st).N).map NmD.n) (by rw [← strRow_strs]; exact HO9.out.row'.2.1) (by rw [← strRow_strs]; exact (HWAS.out.still hS).row'.2.1)); clear t9 ho9; refine ⟨_, rfl, hS, fun hS => ?_⟩; (try simp only [Act.put, List.setIfInBounds_toArray, List.set_cons_zero, List.set_cons_succ]))
          first | (refine walkS_skip (some 70) rfl rfl (by rfl) (fun _ _ _ h => h) hS ?_; (try simp only [Act.put, List.setIfInBounds_toArray, List.set_cons_zero, List.set_cons_succ])) | (refine walkS_call 70 _ _ _ _ (HSN.out) rfl rfl rfl (by rfl) rfl (enter_same _ _ _) ?_; rintro e w' ⟨rfl, t⟩; have hS := hS.trans t (fun _ _ h => h); clear t; refine ⟨_, rfl, hS, fun hS => ?_⟩; (try simp only [Act.put, List.setIfInBounds_toArray, List.set_cons_zero, List.set_cons_succ]))
          first | (refine walkS_skip (some 71) rfl rfl (by rfl) (fun _ _ _ h => h) hS ?_; (try simp only [Act.put, List.setIfInBounds_toArray, List.set_cons_zero, List.set_cons_succ])) | (refine walkS_take (v := ?_) (some 71) rfl rfl (fun _ _ _ h => h) (by rfl) ?_ ?_; rotate_left; (focus (intro w' hw'; have k0 := HCB.out w' hw'; go_simp; (try with_reducible rfl))); (try simp only [Act.put, List.setIfInBounds_toArray, List.set_cons_zero, List.set_cons_succ]))
          first | (refine walkS_skip (some 72) rfl rfl (by rfl) (fun _ _ _ h => h) hS ?_; (try simp only [Act.put, List.setIfInBounds_toArray, List.set_cons_zero, List.set_cons_succ])) | (refine walkS_take (v := ?_) (some 72) rfl rfl (fun _ _ _ h => h) (by rfl) ?_ ?_; rotate_left; (focus (intro w' hw'; have k0 := HCB.out w' hw'; go_simp; (try with_reducible rfl))); (try simp only [Act.put, List.setIfInBounds_toArray, List.set_cons_zero, List.set_cons_succ]))
          first | (refine walkS_skip (some 73) rfl rfl (by rfl) (fun _ _ _ h => h) hS ?_; (try simp only [Act.put, List.setIfInBounds_toArray, List.set_cons_zero, List.set_cons_succ])) | (refine walkS_take (v := ?_) (some 73) rfl rfl (fun _ _ _ h => h) (by rfl) ?_ ?_; rotate_left; (focus (intro w' hw'; have k0 := HCB.out w' hw'; go_simp; (try with_reducible rfl))); (try simp only [Act.put, List.setIfInBounds_toArray, List.set_cons_zero, List.set_cons_succ]))
          (refine walkS_take (v := ?_) (some 74) rfl rfl (fun _ _ _ h => h) (by rfl) ?_ ?_; rotate_left; (focus (intro w' hw'; have k0 := HCB.out w' hw'; go_simp; (try with_reducible rfl))); (try simp only [Act.put, List.setIfInBounds_toArray, List.set_cons_zero, List.set_cons_succ]))
          refine walkS_done ?_
          have HX : RowKit.Hid (∀ w8, Touch w7 w8 (fun _ => False) → ∃ (k' : Nat) (h : DkH) (st : DkS), k' ≤ n ∧ Value.int .i64 ((k : Int) + 1) = .int .i64 k' ∧ DkN w1 w8 d h st ∧ QI q k' st) := Lib.hid (fun w8 t => ⟨k + 1, h7, dkOp st, by omega, by go_num, HN.out.still t, HS7.out⟩)
          go_wp2_with fail
          try rw [HWK.out]
          go_roundw
          · exact HX.out _ hS
          · simp only [RowKit.intOf]; omega
theorem diskQuota_holds : Rows.DiskQuotaSaid := by
  refine diskQuota.said fun H enc W base v0 v1 d0 d1 p0 p1 h0 h1 => ?_
  obtain ⟨x, rfl, -⟩ := h0.i64 Try.underlying3
  obtain ⟨a, cap, L, rfl, hL, hok⟩ := h1.callsK
  exact (quota3_walk x a L.length cap L W hL hok).mono fun e w' h => ⟨h.1, h.2.below (fun _ _ h => h.elim) (Nat.le_refl _)⟩
end Go.Proofs.Ytmokcfmlolohaaa
