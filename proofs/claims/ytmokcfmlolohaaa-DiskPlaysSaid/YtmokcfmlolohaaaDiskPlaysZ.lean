/- DiskPlays holds: any calls, crashes and faults among them: each answer, all names, all bytes. -/
import Derived.Test.YtmokcfmlolohaaaIAZ
import Derived.Test.YtmokcfmlolohaaaFrDiskPlaysZ
set_option linter.unusedVariables false
set_option linter.unusedSimpArgs false
namespace Go.Proofs.Ytmokcfmlolohaaa
open Go.RowKit

theorem enterP_index (a b : Value) (w : World) : (callFunc 19 #[a, b]).run Try.prog w = .ok (.enter 19 #[a, b]) w := by kernel_rfl
theorem geI_yes (a b : Int) (h : b ≤ a) (x y : Operand) (W : World) :
    (do eqGuard BinOp.geq 3 x y (.int .i64 a) (.int .i64 b); binOp BinOp.geq 3 (.int .i64 a) (.int .i64 b) : Sem Value).run Try.prog W = .ok (.bool true) W := by
  go_simp
theorem geI_no (a b : Int) (h : ¬ b ≤ a) (x y : Operand) (W : World) :
    (do eqGuard BinOp.geq 3 x y (.int .i64 a) (.int .i64 b); binOp BinOp.geq 3 (.int .i64 a) (.int .i64 b) : Sem Value).run Try.prog W = .ok (.bool false) W := by
  go_simp
set_option maxRecDepth 20000 in
set_option maxHeartbeats 8000000 in
theorem rindex_any (w : World) (a : Option Addr) (n c : Nat) (K : List ByteArray) (k : ByteArray) (hr : RowS w a n c 1 (strs K)) :
    Calls Try.prog 19 #[.slice a n c, .string k] w fun e w' => ∃ z : Int, e = .returned (.int .i64 z) ∧ (0 ≤ z ↔ k ∈ K) ∧ w = w' := by
  have hKl : K.length = n := by have := hr.hlen; unfold strs at this; simpa using this
  have hnc := hr.hcap
  have hnm := hr.hmax
  have HR := Lib.hid hr
  have HKL := Lib.hid hKl
  clear hr hKl
  go_enter Try.func19, Try.ntmps19
  go_wp2_with fail
  go_loopw [9] (fun s9 wr => ∃ i : Nat, i ≤ n ∧ s9 = .int .i64 i ∧ w = wr ∧ ∀ j (h : j < K.length), j < i → K[j] ≠ k) (fun s9 _ => n - (RowKit.intOf s9).toNat)
  case atStart => exact ⟨0, Nat.zero_le _, rfl, rfl, fun j h h2 => absurd h2 (Nat.not_lt_zero _)⟩
  case round =>
    obtain ⟨i, hi, rfl, rfl, hne⟩ := hrel
    have HNE := Lib.hid hne
    clear hne
    by_cases hlt : i < n
    case neg =>
      obtain rfl : n = i := by omega
      have HNI : RowKit.Hid (k ∉ K) := Lib.hid (fun h => by
        obtain ⟨j, hj, e⟩ := List.getElem_of_mem h
        exact HNE.out j hj (by have := HKL.out; omega) e)
      go_wp2_with fail
      go_ret
      exact ⟨-1, rfl, ⟨fun h => absurd h (by decide), fun h => absurd h HNI.out⟩, rfl⟩
    case pos =>
      have hlI : (i : Int) < n := by omega
      have hkL : i < K.length := by rw [HKL.out]; exact hlt
      have r1 := HR.out
      obtain ⟨b1, o1, e1⟩ := r1.some (by omega)
      rw [e1] at r1
      have p0 := strs_cell r1 i hkL
      have HMEM := Lib.hid (List.getElem_mem hkL)
      have HGK := Lib.hid (fun (h : K[i] ≠ k) j (hj : j < K.length) (hji : j < i + 1) => show K[j] ≠ k from by
        by_cases e : j = i
        · subst e; exact h
        · exact HNE.out j hj (by omega))
      obtain ⟨q, hq⟩ : ∃ q, K[i] = q := ⟨_, rfl⟩
      rw [hq] at p0 HMEM HGK
      have hwk : wrap64 ((i : Int) + 1) = (i : Int) + 1 := by unfold wrap64; omega
      have HWK := Lib.hid hwk
      rw [e1]
      clear r1 hq hwk
      by_cases he : q = k
      · subst he
        go_wp2_with fail
        go_ret
        exact ⟨i, rfl, ⟨fun _ => HMEM.out, fun _ => by omega⟩, rfl⟩
      · have hne2 : (q.toList == k.toList) = false := by rw [beq_eq_false_iff_ne]; intro e; exact he (toList_inj e)
        have HX : RowKit.Hid (∃ i' : Nat, i' ≤ n ∧ Value.int .i64 ((i : Int) + 1) = .int .i64 i' ∧ True ∧ ∀ j (h : j < K.length), j < i' → K[j] ≠ k) := Lib.hid ⟨i + 1, by omega, by go_num, trivial, fun j hj hji => HGK.out he j hj hji⟩
        go_wp2_with fail
        try rw [HWK.out]
        go_roundw
        · exact HX.out
        · simp only [RowKit.intOf]; omega
theorem find_mem_iff (l : List RN) (k : ByteArray) : (rFind l k).isSome = true ↔ k ∈ l.map RN.n := by
  constructor
  · intro h
    cases e : rFind l k with
    | none => rw [e] at h; cases h
    | some i => exact List.mem_map.2 ⟨_, rFind_mem e, rfl⟩
  · intro h
    obtain ⟨x, hx, rfl⟩ := List.mem_map.1 h
    exact rFind_in hx
set_option maxRecDepth 20000 in
set_option maxHeartbeats 16000000 in
theorem plays3_walk (x : Int) (hx : -9223372036854775808 ≤ x ∧ x ≤ 9223372036854775807) (a : Option Addr) (n c : Nat) (L : List CallB) (w : World) (hr : RowS w a n c 5 (L.map CallB.cells)) (hok : ∀ k ∈ L, CallKOk k.c ∧ RowB w k.a k.l k.cp k.xs) :
    Calls Try.prog 3 #[.int .i64 x, .slice a n c] w fun e w' => e = .returned (.bool true) ∧ Touch w w' (fun _ => False) := by
  have HSH := Lib.hid (dshort_any w a n c L hr (fun k hk => ⟨(hok k hk).2.2.2.2.1, (hok k hk).1.name, (hok k hk).1.tn⟩))
  have hLl : L.length = n := by have := hr.hlen; simpa using this
  have hnc := hr.hcap
  have hnm := hr.hmax
  have HR := Lib.hid hr
  have HOK := Lib.hid hok
  have HLL := Lib.hid hLl
  have HXB := Lib.hid hx
  clear hr hok hLl hx
  go_enter Try.func3, Try.ntmps3
  go_wp2_with fail
  refine HSH.out.mono ?_
  rintro e w1 ⟨rfl, t1⟩
  have HT1 := Lib.hid t1
  cases hb : shortOk L with
  | false =>
    clear t1
    go_wp2_with fail
    refine (awake3 w1).mono ?_
    rintro e w2 ⟨rfl, t2⟩
    have HT := Lib.hid (HT1.out.trans t2 (fun _ _ h => h))
    clear t2
    go_wp2_with fail
    go_ret
    exact ⟨rfl, HT.out⟩
  | true =>
    have h120 : n ≤ 120 := by
      unfold shortOk at hb
      rw [Bool.and_eq_true] at hb
      have := of_decide_eq_true hb.1
      rwa [HLL.out] at this
    have HSM : RowKit.Hid (∀ k ∈ L, k.l ≤ 3000) := Lib.hid (fun k hk => by
      unfold shortOk at hb
      rw [Bool.and_eq_true] at hb
      exact (of_decide_eq_true (List.all_eq_true.1 hb.2 k hk)).1)
    have HR := Lib.hid (HR.out.still t1)
    have HOK : RowKit.Hid (∀ k ∈ L, CallKOk k.c ∧ RowB w1 k.a k.l k.cp k.xs) := Lib.hid (fun k hk => ⟨(HOK.out k hk).1, (HOK.out k hk).2.touch t1 (fun _ _ => .inr (fun h => h))⟩)
    clear t1 hb HSH
    go_wp2_with fail
    (with_reducible refine (dnew_any w1 x HXB.out).mono ?_)
    rintro e w2 ⟨d, h2, rfl, n2⟩
    have HN2 := Lib.hid n2
    clear n2
    go_wp2_with fail
    (with_reducible refine (rnew_any w2 x).mono ?_)
    rintro e w3 ⟨rfl, x3, t3⟩
    obtain ⟨m, hm⟩ : ∃ m, w2.heap.size = m := ⟨_, rfl⟩
    have hb0 := both_new HN2.out x3 t3
    rw [hm] at hb0 ⊢
    have HD : RowKit.Hid (∃ (h : DkH) (hR : RH) (st : DkS) (R : RS) (G : List Nat), Both w1 w3 d m h hR st R G ∧ G.length ≤ 0 ∧ st.C.length ≤ 0) := Lib.hid ⟨_, _, _, _, _, hb0, Nat.le_refl _, Nat.le_refl _⟩
    clear x3 t3 hb0 hm
    go_wp2_with fail
    go_loopw [23] (fun s23 wr => ∃ (k : Nat) (h : DkH) (hR : RH) (st : DkS) (R : RS) (G : List Nat), k ≤ n ∧ s23 = .int .i64 k ∧ Both w1 wr d m h hR st R G ∧ G.length ≤ k ∧ st.C.length ≤ k) (fun s23 _ => n - (RowKit.intOf s23).toNat)
    case atStart =>
      obtain ⟨h, hR, st, R, G, hb, hg, hc⟩ := HD.out
      exact ⟨0, h, hR, st, R, G, Nat.zero_le _, rfl, hb, hg, hc⟩
    case round =>
      obtain ⟨k, h, hR, st, R, G, hk, rfl, hb, hg, hc⟩ := hrel
      have HB := Lib.hid hb
      clear hb HD
      by_cases hlt : k < n
      case neg =>
        obtain rfl : n = k := by omega
        have hlI : ¬ (n : Int) < n := by omega
        go_wp2_with fail
        refine (awake3 wr).mono ?_
        rintro e w7 ⟨rfl, t7⟩
        have HT7 := Lib.hid (HT1.out.trans (HB.out.n.t.trans t7 (fun _ _ h => h)) (fun _ _ h => h))
        clear t7
        go_wp2_with fail
        go_ret
        exact ⟨rfl, HT7.out⟩
      case pos =>
        have hlI : (k : Int) < n := by omega
        have hkL : k < L.length := by rw [HLL.out]; exact hlt
        have r1 := HR.out.still HB.out.n.t
        obtain ⟨b1, o1, e1⟩ := r1.some (by omega)
        rw [e1] at r1
        obtain ⟨p0, p1, p2, p3, p4⟩ := callB_cells r1 k hkL
        obtain ⟨hok1, hrow⟩ := HOK.out _ (List.getElem_mem hkL)
        have hsm := HSM.out _ (List.getElem_mem hkL)
        obtain ⟨qq, hqq⟩ : ∃ q, L[k] = q := ⟨_, rfl⟩
        rw [hqq] at p0 p1 p2 p3 p4 hok1 hrow hsm
        obtain ⟨⟨q0, q1, q2, q3⟩, qa, ql, qc, qx⟩ := qq
        simp only at p0 p1 p2 p3 p4 hok1 hrow hsm
        have HTN : RowKit.Hid (szN q3) := Lib.hid hok1.tn
        have hwk : wrap64 ((k : Int) + 1) = (k : Int) + 1 := by unfold wrap64; omega
        have HWK := Lib.hid hwk
        obtain ⟨W4, hW4⟩ : ∃ W, wr.alloc (.cells #[.int .i64 q0, .int .i64 q1, .string q2, .string q3, .slice qa ql qc] 31) = W := ⟨_, rfl⟩
        have g4 : W4.heap[wr.heap.size]? = some (.cells #[.int .i64 q0, .int .i64 q1, .string q2, .string q3, .slice qa ql qc] 31 (0, 0)) := hW4 ▸ heap_alloc_new ..
        have t4 : Touch wr W4 (fun _ => False) := hW4 ▸ (Touch.refl wr _).alloc _
        have y0 : W4.cell? ⟨wr.heap.size, 0, none⟩ = some (.int .i64 q0) := cell_of_cells g4 0
        have y1 : W4.cell? ⟨wr.heap.size, 1, none⟩ = some (.int .i64 q1) := cell_of_cells g4 1
        have y2 : W4.cell? ⟨wr.heap.size, 2, none⟩ = some (.string q2) := cell_of_cells g4 2
        have y3 : W4.cell? ⟨wr.heap.size, 3, none⟩ = some (.string q3) := cell_of_cells g4 3
        have y4 : W4.cell? ⟨wr.heap.size, 4, none⟩ = some (.slice qa ql qc) := cell_of_cells g4 4
        have HDO := Lib.hid (rdo_any w1 W4 d m h hR st R G (HB.out.still t4) (by omega) (by omega) ⟨q0, q1, q2, q3⟩ qa ql qc qx hok1 hsm hrow)
        unfold CallK.agg at HDO
        simp only at HDO
        have HTB : RowKit.Hid (w1.heap.size ≤ wr.heap.size) := Lib.hid HB.out.n.t.size
        have HG4 := Lib.hid g4
        have HNB : RowKit.Hid (¬ (footK h wr.heap.size ∨ wr.heap.size = m)) := Lib.hid (by
          rintro (h1 | h1)
          · exact Nat.lt_irrefl _ (HB.out.n.m.lt _ h1)
          · have := HB.out.lt m (.inl rfl); omega)
        have HW4 := Lib.hid hW4
        have HGC : RowKit.Hid (G.length ≤ k ∧ st.C.length ≤ k) := Lib.hid ⟨hg, hc⟩
        rw [e1]
        clear r1 hqq hW4 g4 hwk hok1 hrow hsm t4 hg hc
        go_upto_region 9 with (fail)
        try rw [HW4.out]
        clear p0 p1 p2 p3 p4
        go_wp2_with fail
        (with_reducible refine HDO.out.mono ?_)
        rintro e w5 ⟨rfl, ⟨h2', hR2, st2, R2, G2, b2, hG2, hC2⟩, t5⟩
        have HB2 := Lib.hid b2
        have HG5 := Lib.hid (t5.keeps HG4.out HNB.out)
        have hG3 : G2.length ≤ k + 1 := by have := HGC.out.1; omega
        have hC3 : st2.C.length ≤ k + 1 := by have := HGC.out.2; omega
        have HLK := Lib.hid (rlike_any w1 w5 d m h2' hR2 st2 R2 G2 b2 (by omega) (by omega))
        have HNL := Lib.hid (b2.rv (by omega) (by omega)).nl
        clear b2 t5 hG2 hC2 y0 y1 y2 y3 y4
        go_wp2_with fail
        (with_reducible refine HLK.out.mono ?_)
        rintro e w6 ⟨rfl, t6⟩
        have HB6 := Lib.hid (HB2.out.still t6)
        have HG6 := Lib.hid (t6.keeps HG5.out (fun h => h))
        have y3 : w6.cell? ⟨wr.heap.size, 3, none⟩ = some (.string q3) := cell_of_cells HG6.out 3
        obtain ⟨hrd, hsm2⟩ := HB6.out.s.read HB6.out.nd q3
        have HDR := Lib.hid (HB6.out.n.read q3 HTN.out)
        rw [hrd, hsm2] at HDR
        clear hrd hsm2 t6
        go_wp2_with fail
        (with_reducible refine HDR.out.mono ?_)
        rintro e w7 ⟨a7, c7, rfl, -, -, n7, t7⟩
        have HX7 := Lib.hid (HB6.out.x.still t7)
        have HCB : RowKit.Hid (∀ w', Touch w7 w' (fun _ => False) → w'.cell? ⟨wr.heap.size, 3, none⟩ = some (.string q3)) := Lib.hid (fun w' t => cell_of_cells (t.keeps (t7.keeps HG6.out (fun h => h)) (fun h => h)) 3)
        have HXX : RowKit.Hid (∀ w8, Touch w7 w8 (fun _ => False) → ∃ (k' : Nat) (h : DkH) (hR : RH) (st : DkS) (R : RS) (G : List Nat), k' ≤ n ∧ Value.int .i64 ((k : Int) + 1) = .int .i64 k' ∧ Both w1 w8 d m h hR st R G ∧ G.length ≤ k' ∧ st.C.length ≤ k') := Lib.hid (fun w8 t => ⟨k + 1, _, _, _, _, _, by omega, by go_num, HB6.out.still (t7.trans t (fun _ _ h => h)), hG3, hC3⟩)
        clear n7 t7 y3 hG3 hC3
        cases hF : (rFind R2.N q3).isSome with
        | true =>
          have HMEM := Lib.hid ((find_mem_iff R2.N q3).1 hF)
          rw [hF] at HDR
          clear hF
          go_upto_region 12 with (fail)
          have hS := (Touch.refl w7 (fun _ => False)).drew
          refine wp_region_sched (fun w' => Touch w7 w' (fun _ => False)) [(0, true), (1, true), (3, true), (4, true), (2, false), (5, false), (6, true), (7, true)] (by kernel_rfl) (by kernel_rfl) rfl (by kernel_rfl) hS ?_
          (refine walkS_take (v := ?_) (some 45) rfl rfl (fun _ _ _ h => h) (by rfl) ?_ ?_; rotate_left; (focus (intro w' hw'; have k0 := HCB.out w' hw'; go_simp; (try with_reducible rfl))); (try simp only [Act.put, List.setIfInBounds_toArray, List.set_cons_zero, List.set_cons_succ]))
          (refine walkS_take (v := ?_) (some 46) rfl rfl (fun _ _ _ h => h) (by rfl) ?_ ?_; rotate_left; (focus (intro w' hw'; have k0 := HCB.out w' hw'; go_simp; (try with_reducible rfl))); (try simp only [Act.put, List.setIfInBounds_toArray, List.set_cons_zero, List.set_cons_succ]))
          (refine walkS_take (v := ?_) (some 48) rfl rfl (fun _ _ _ h => h) (by rfl) ?_ ?_; rotate_left; (focus (intro w' hw'; have k0 := HCB.out w' hw'; go_simp; (try with_reducible rfl))); (try simp only [Act.put, List.setIfInBounds_toArray, List.set_cons_zero, List.set_cons_succ]))
          (refine walkS_take (v := ?_) (some 49) rfl rfl (fun _ _ _ h => h) (by rfl) ?_ ?_; rotate_left; (focus (intro w' hw'; have k0 := HCB.out w' hw'; go_simp; (try with_reducible rfl))); (try simp only [Act.put, List.setIfInBounds_toArray, List.set_cons_zero, List.set_cons_succ]))
          (refine walkS_call 47 _ _ _ _ (rnames_any _ m hR2 R2 (HX7.out.still hS) HNL.out) rfl rfl rfl (by rfl) rfl (enter_rnames _ _) ?_; rintro e w' ⟨a8, c8, rfl, ho8, t8⟩; have HIX := Lib.hid (rindex_any w' a8 R2.N.length c8 (R2.N.map RN.n) q3 ho8.row'.2.1); have hS := hS.trans t8 (fun _ _ h => h); clear ho8 t8; refine ⟨_, rfl, hS, fun hS => ?_⟩; (try simp only [Act.put, List.setIfInBounds_toArray, List.set_cons_zero, List.set_cons_succ]))
          (refine walkS_call 50 _ _ _ _ (HIX.out) rfl rfl rfl (by rfl) rfl (enterP_index _ _ _) ?_; rintro e w' ⟨z, rfl, hz, rfl⟩; have HZ := Lib.hid hz; clear hz; refine ⟨_, rfl, hS, fun hS => ?_⟩; (try simp only [Act.put, List.setIfInBounds_toArray, List.set_cons_zero, List.set_cons_succ]))
          (refine walkS_bin (some 51) _ _ _ _ _ _ _ _ (geI_yes _ _ (HZ.out.2 HMEM.out)) rfl rfl rfl rfl rfl (fun _ _ _ h => h) (by rfl) ?_; (try simp only [Act.put, List.setIfInBounds_toArray, List.set_cons_zero, List.set_cons_succ]))
          (refine walkS_take (v := ?_) (some 52) rfl rfl (fun _ _ _ h => h) (by rfl) ?_ ?_; rotate_left; (focus (intro w' hw'; have k0 := HCB.out w' hw'; go_simp; (try with_reducible rfl))); (try simp only [Act.put, List.setIfInBounds_toArray, List.set_cons_zero, List.set_cons_succ]))
          refine walkS_done ?_
          go_wp2_with fail
          try rw [HWK.out]
          go_roundw
          · exact HXX.out _ hS
          · simp only [RowKit.intOf]; omega
        | false =>
          have HNM : RowKit.Hid (q3 ∉ R2.N.map RN.n) := Lib.hid (fun h => by rw [(find_mem_iff R2.N q3).2 h] at hF; cases hF)
          clear hF
          go_upto_region 12 with (fail)
          have hS := (Touch.refl w7 (fun _ => False)).drew
          refine wp_region_sched (fun w' => Touch w7 w' (fun _ => False)) [(0, true), (1, true), (3, true), (4, true), (2, false), (5, false), (6, true), (7, true)] (by kernel_rfl) (by kernel_rfl) rfl (by kernel_rfl) hS ?_
          (refine walkS_take (v := ?_) (some 45) rfl rfl (fun _ _ _ h => h) (by rfl) ?_ ?_; rotate_left; (focus (intro w' hw'; have k0 := HCB.out w' hw'; go_simp; (try with_reducible rfl))); (try simp only [Act.put, List.setIfInBounds_toArray, List.set_cons_zero, List.set_cons_succ]))
          (refine walkS_take (v := ?_) (some 46) rfl rfl (fun _ _ _ h => h) (by rfl) ?_ ?_; rotate_left; (focus (intro w' hw'; have k0 := HCB.out w' hw'; go_simp; (try with_reducible rfl))); (try simp only [Act.put, List.setIfInBounds_toArray, List.set_cons_zero, List.set_cons_succ]))
          (refine walkS_take (v := ?_) (some 48) rfl rfl (fun _ _ _ h => h) (by rfl) ?_ ?_; rotate_left; (focus (intro w' hw'; have k0 := HCB.out w' hw'; go_simp; (try with_reducible rfl))); (try simp only [Act.put, List.setIfInBounds_toArray, List.set_cons_zero, List.set_cons_succ]))
          (refine walkS_take (v := ?_) (some 49) rfl rfl (fun _ _ _ h => h) (by rfl) ?_ ?_; rotate_left; (focus (intro w' hw'; have k0 := HCB.out w' hw'; go_simp; (try with_reducible rfl))); (try simp only [Act.put, List.setIfInBounds_toArray, List.set_cons_zero, List.set_cons_succ]))
          (refine walkS_call 47 _ _ _ _ (rnames_any _ m hR2 R2 (HX7.out.still hS) HNL.out) rfl rfl rfl (by rfl) rfl (enter_rnames _ _) ?_; rintro e w' ⟨a8, c8, rfl, ho8, t8⟩; have HIX := Lib.hid (rindex_any w' a8 R2.N.length c8 (R2.N.map RN.n) q3 ho8.row'.2.1); have hS := hS.trans t8 (fun _ _ h => h); clear ho8 t8; refine ⟨_, rfl, hS, fun hS => ?_⟩; (try simp only [Act.put, List.setIfInBounds_toArray, List.set_cons_zero, List.set_cons_succ]))
          (refine walkS_call 50 _ _ _ _ (HIX.out) rfl rfl rfl (by rfl) rfl (enterP_index _ _ _) ?_; rintro e w' ⟨z, rfl, hz, rfl⟩; have HZ := Lib.hid hz; clear hz; refine ⟨_, rfl, hS, fun hS => ?_⟩; (try simp only [Act.put, List.setIfInBounds_toArray, List.set_cons_zero, List.set_cons_succ]))
          (refine walkS_bin (some 51) _ _ _ _ _ _ _ _ (geI_no _ _ (fun h => HNM.out (HZ.out.1 h))) rfl rfl rfl rfl rfl (fun _ _ _ h => h) (by rfl) ?_; (try simp only [Act.put, List.setIfInBounds_toArray, List.set_cons_zero, List.set_cons_succ]))
          (refine walkS_take (v := ?_) (some 52) rfl rfl (fun _ _ _ h => h) (by rfl) ?_ ?_; rotate_left; (focus (intro w' hw'; have k0 := HCB.out w' hw'; go_simp; (try with_reducible rfl))); (try simp only [Act.put, List.setIfInBounds_toArray, List.set_cons_zero, List.set_cons_succ]))
          refine walkS_done ?_
          go_wp2_with fail
          try rw [HWK.out]
          go_roundw
          · exact HXX.out _ hS
          · simp only [RowKit.intOf]; omega
theorem diskPlays_holds : Rows.DiskPlaysSaid := by
  refine diskPlays.said fun H enc W base v0 v1 d0 d1 p0 p1 h0 h1 => ?_
  obtain ⟨x, rfl, hx1, hx2, -⟩ := h0.i64 Try.underlying3
  obtain ⟨a, cap, L, rfl, hL, hok⟩ := h1.callsK
  exact (plays3_walk x ⟨hx1, hx2⟩ a L.length cap L W hL hok).mono fun e w' h => ⟨h.1, h.2.below (fun _ _ h => h.elim) (Nat.le_refl _)⟩
end Go.Proofs.Ytmokcfmlolohaaa
