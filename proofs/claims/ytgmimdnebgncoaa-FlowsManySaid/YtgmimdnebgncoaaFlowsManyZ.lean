/- FlowsMany answers true for any two numbers. -/
import Derived.Test.YtgmimdnebgncoaaGHZ
import Derived.Test.YtgmimdnebgncoaaFrFlowsManyZ
set_option linter.unusedVariables false
set_option linter.unusedSimpArgs false
namespace Go.Proofs.Ytgmimdnebgncoaa
open Go.RowKit

theorem min_run (a b : Int) (W : World) : (Builtin.min_ #[3, 3] 3 #[.int .i64 a, .int .i64 b]).run Try.prog W = .ok (.int .i64 (min a b)) W := by
  by_cases h : b < a
  · have e : min a b = b := by omega
    rw [e]
    go_simp
  · have e : min a b = a := by omega
    rw [e]
    go_simp
theorem max_run (a b : Int) (W : World) : (Builtin.max_ #[3, 3] 3 #[.int .i64 a, .int .i64 b]).run Try.prog W = .ok (.int .i64 (max a b)) W := by
  by_cases h : a < b
  · have e : max a b = b := by omega
    rw [e]
    go_simp
  · have e : max a b = a := by omega
    rw [e]
    go_simp
def flM (m : Nat) : List FlD := (List.range m).map (fun j => flN (j : Nat) 3)
theorem flM_succ (m : Nat) : flM (m + 1) = flM m ++ [flN (m : Nat) 3] := by
  unfold flM; rw [List.range_succ, List.map_append]; rfl
theorem flM_len (m : Nat) : (flM m).length = m := by simp [flM]
theorem flM_has (m k : Nat) : hasF (flM m) (flN (k : Nat) 3).t = decide (k < m) := by
  rw [Bool.eq_iff_iff, hasF_iff, decide_eq_true_iff]
  unfold flM
  rw [List.map_map, List.mem_map]
  constructor
  · rintro ⟨j, hj, e⟩
    rw [List.mem_range] at hj
    have e : ((j : Nat) : Int) = (k : Nat) := congrArg TupD.src e
    omega
  · intro h
    exact ⟨k, List.mem_range.2 h, rfl⟩
theorem modF (x : Int) : ∃ N : Nat, wrap64 ((IntKind.u64.wrap x).tmod 270) = (N : Int) ∧ N < 270 := by
  have hu : 0 ≤ IntKind.u64.wrap x := by simp only [IntKind.wrap_u64]; omega
  have h2 : (IntKind.u64.wrap x).tmod 270 = (IntKind.u64.wrap x) % 270 := Int.tmod_eq_emod_of_nonneg hu
  have h3 := Int.emod_nonneg (IntKind.u64.wrap x) (show (270 : Int) ≠ 0 by omega)
  have h4 := Int.emod_lt_of_pos (IntKind.u64.wrap x) (show (0 : Int) < 270 by omega)
  rw [h2]
  generalize (IntKind.u64.wrap x) % 270 = y at *
  have e1 : wrap64 y = y := by unfold wrap64; omega
  rw [e1]
  exact ⟨y.toNat, by omega, by omega⟩
theorem many_put {k R : Nat} {M : List FlD} (hp : M.Perm (flM (min k R))) :
    putE M R (flN (k : Nat) 3) = (if k < R then .tuple #[.bool true, .int .i64 0] else .tuple #[.bool false, .int .i64 9]) ∧ (putF M R (flN (k : Nat) 3)).Perm (flM (min (k + 1) R)) := by
  have hm : mayFB (flN (k : Nat) 3) = true := rfl
  have hh : hasF M (flN (k : Nat) 3).t = false := by
    rw [hasF_perm hp, flM_has]; simp; omega
  have hl : M.length = min k R := by rw [hp.length_eq, flM_len]
  have hb : putB M R (flN (k : Nat) 3) = decide (k < R) := by
    unfold putB; rw [hm, hh, hl]; simp; omega
  have hd : delF M (flN (k : Nat) 3).t = M := delF_none (fun h => by rw [← hasF_iff, hh] at h; cases h)
  unfold putE putF
  rw [hm, hb, hh, hd]
  by_cases h : k < R
  · rw [if_neg (by decide), if_neg (by simp [h]), if_pos h, if_pos (by simp [h])]
    refine ⟨rfl, ?_⟩
    rw [show min (k + 1) R = min k R + 1 by omega, flM_succ, show min k R = k by omega]
    rw [show min k R = k by omega] at hp
    exact (hp.cons _).trans (List.perm_append_comm (l₁ := [flN (k : Nat) 3]))
  · rw [if_neg (by decide), if_pos (by simp [h]), if_neg h, if_neg (by simp [h]), show min (k + 1) R = min k R by omega]
    exact ⟨rfl, hp⟩
def flZ : FlD := ⟨(flN 0 3).t, 9, 0, 3⟩
theorem many_end {m R : Nat} {M : List FlD} (hp : M.Perm (flM m)) (h0 : 0 < m) (hn : (M.map FlD.t).Nodup) :
    putE M R flZ = .tuple #[.bool false, .int .i64 0] ∧ putF M R flZ = flZ :: delF M flZ.t ∧ (flZ :: delF M flZ.t).length = m ∧ ∀ M2 : List FlD, M2.Perm (flZ :: delF M flZ.t) → (M2.filter (isOf 9)).length = 1 ∧ M2.length = m := by
  have hm : mayFB flZ = true := rfl
  have hh : hasF M flZ.t = true := by
    have := flM_has m 0
    rw [hasF_perm hp]
    exact this.trans (by simp [h0])
  have hb : putB M R flZ = true := by unfold putB; rw [hm, hh]; rfl
  have hl : (flZ :: delF M flZ.t).length = m := by
    have h1 := delF_len hn flZ.t
    rw [hh, hp.length_eq, flM_len] at h1
    simp at h1
    simp
    omega
  have hf : (flZ :: delF M flZ.t).filter (isOf 9) = [flZ] := by
    rw [List.filter_cons, if_pos (by decide)]
    congr 1
    refine List.filter_eq_nil_iff.2 fun x hx => ?_
    have h1 := hp.mem_iff.1 (List.mem_filter.1 hx).1
    unfold flM at h1
    obtain ⟨j, _, rfl⟩ := List.mem_map.1 h1
    simp [isOf, flN]
  refine ⟨?_, ?_, hl, fun M2 h2 => ⟨?_, by rw [h2.length_eq, hl]⟩⟩
  · unfold putE; rw [hm, hb, hh, if_neg (by decide), if_neg (by decide)]; rfl
  · unfold putF; rw [hb, if_pos rfl]
  · rw [(h2.filter _).length_eq, hf]; rfl
set_option maxRecDepth 20000 in
set_option maxHeartbeats 8000000 in
theorem many11_walk (most x : Int) (hmost : i64 most) (w : World) :
    Calls Try.prog 4 #[.int .i64 most, .int .i64 x] w fun e w' => e = .returned (.bool true) ∧ Below w.heap.size w w' := by
  obtain ⟨N, hN, hN1⟩ := modF x
  obtain ⟨R, hR⟩ : ∃ R : Nat, min (max most 0) 256 = (R : Int) := ⟨(min (max most 0) 256).toNat, by omega⟩
  have hR1 : R ≤ 256 := by omega
  have hR2 : max 0 (min most 256) = (R : Int) := by omega
  have HN := Lib.hid hN
  have HR := Lib.hid hR
  have HR2 := Lib.hid hR2
  clear hN hR hR2
  go_enter Try.func4, Try.ntmps4
  go_wp2_with fail
  refine (fnew_any w most 10).mono ?_
  rintro e w0 ⟨g, h, rfl, q0, t0, f0⟩
  rw [HR.out] at q0
  have q0' : FS w0 g h R 10 [] := q0
  have N0 := Lib.hid (FN.mk q0' t0 f0)
  clear q0 q0' t0 f0
  have hmn := min_run most 256 w0
  have hmx := max_run 0 (min most 256) w0
  rw [HR2.out] at hmx
  go_upto_region 4 with (fail)
  rw [HN.out]
  clear hmn hmx
  go_wp2_with fail
  go_loopw [23] (fun s23 wr => ∃ (k : Nat) (h : FH) (M : List FlD), k ≤ N ∧ s23 = .int .i64 k ∧ FN w wr g h R 10 M ∧ M.Perm (flM (min k R))) (fun s23 _ => N - (RowKit.intOf s23).toNat)
  case atStart => exact ⟨0, h, [], Nat.zero_le _, rfl, N0.out, by rw [Nat.zero_min]; exact .refl _⟩
  case round =>
    obtain ⟨k, h, M, hk, rfl, hq, hp⟩ := hrel
    have HQ := Lib.hid hq
    have HP := Lib.hid hp
    clear hq hp N0
    by_cases hlt : k < N
    case neg =>
      obtain rfl : N = k := by omega
      by_cases hz : N = 0 ∨ R = 0
      · have hl : M.length = 0 := by rw [HP.out.length_eq, flM_len]; omega
        have hlen := flen_any wr g h R 10 M HQ.out.q
        rw [hl] at hlen
        have HL := Lib.hid hlen
        clear hlen hl
        by_cases hn0 : N = 0
        · have hI : (N : Int) = 0 := by omega
          go_wp2_with (go_at_call 16; (with_reducible refine HL.out.mono ?_); rintro e w2 ⟨rfl, rfl⟩)
          refine (awake11 wr).mono ?_
          rintro e w7 ⟨rfl, t7⟩
          have HT7 := Lib.hid (HQ.out.t.trans t7 (fun _ _ h => h))
          clear t7
          go_wp2_with fail
          go_ret
          exact ⟨rfl, HT7.out.below (fun _ _ h => h.elim) (Nat.le_refl _)⟩
        · have hI : ¬ (N : Int) = 0 := by omega
          have hJ : (R : Int) = 0 := by omega
          go_wp2_with (go_at_call 16; (with_reducible refine HL.out.mono ?_); rintro e w2 ⟨rfl, rfl⟩)
          refine (awake11 wr).mono ?_
          rintro e w7 ⟨rfl, t7⟩
          have HT7 := Lib.hid (HQ.out.t.trans t7 (fun _ _ h => h))
          clear t7
          go_wp2_with fail
          go_ret
          exact ⟨rfl, HT7.out.below (fun _ _ h => h.elim) (Nat.le_refl _)⟩
      · have hI : ¬ (N : Int) = 0 := by omega
        have hJ : ¬ (R : Int) = 0 := by omega
        have hI2 : ((N : Int) == 0) = false := by simpa using hI
        have hJ2 : ((R : Int) == 0) = false := by simpa using hJ
        have HFL : RowKit.Hid (Calls Try.prog 21 #[.int .i64 0, .int .i64 3] wr fun e w' => e = .returned (.agg #[.int .u32 0, .int .u32 0, .int .i64 17, .int .i64 0, .int .i64 0, .int .i64 0, .int .i64 0, .int .i64 3]) ∧ Touch wr w' (fun _ => False)) := Lib.hid (flow_any wr 0 3 (by decide) (by decide))
        obtain ⟨m1, m2, m3, m4⟩ := many_end (R := R) HP.out (by omega) HQ.out.q.nd
        have HPUT : RowKit.Hid (∀ W, Touch wr W (fun _ => False) → Calls Try.prog 9 #[.pointer (some ⟨g, 0, none⟩), .agg #[.int .u32 0, .int .u32 0, .int .i64 17, .int .i64 0, .int .i64 0, .int .i64 9, .int .i64 0, .int .i64 3]] W fun e w' => e = .returned (.tuple #[.bool false, .int .i64 0]) ∧ FStep W w' g h R 10 (flZ :: delF M flZ.t)) := Lib.hid (fun W t => by
          have h1 := fput_any W g h R 10 M (HQ.out.still t).q flZ (flN_ok 0 3 (by decide) (by decide))
          rw [m1, m2] at h1
          exact h1)
        have HM4 := Lib.hid m4
        have hmn := fun W => min_run N R W
        rw [show min (N : Int) (R : Int) = ((min N R : Nat) : Int) by omega] at hmn
        clear m1 m2 m3 m4
        go_upto_region 14 with (go_at_call 21; (with_reducible refine HFL.out.mono ?_); rintro e w2 ⟨rfl, t2⟩; have HT2 := Lib.hid t2; clear t2)
        obtain ⟨W3, hW3⟩ : ∃ W, w2.alloc (.cells #[.int .u32 0, .int .u32 0, .int .i64 17, .int .i64 0, .int .i64 0, .int .i64 0, .int .i64 0, .int .i64 3] 26) = W := ⟨_, rfl⟩
        have t3 : Touch w2 W3 (fun _ => False) := hW3 ▸ (Touch.refl w2 _).alloc _
        have h3 : W3.heap[w2.heap.size]? = some (.cells #[.int .u32 0, .int .u32 0, .int .i64 17, .int .i64 0, .int .i64 0, .int .i64 0, .int .i64 0, .int .i64 3] 26 (0, 0)) := hW3 ▸ heap_alloc_new ..
        rw [hW3]
        have hz2 := HT2.out.size
        obtain ⟨B, hB⟩ : ∃ B, w2.heap.size = B := ⟨_, rfl⟩
        rw [hB] at h3 hz2 ⊢
        have HT3 := Lib.hid (HT2.out.trans t3 (fun _ _ h => h))
        have H3 := Lib.hid h3
        have HZ2 := Lib.hid hz2
        have c5 := cell_of_cells h3 5
        have f5 := free_of_cells h3 5
        clear hW3 t3 h3 hz2 hB
        go_upto_region 15 with (fail)
        have h4 : (W3.setCell ⟨B, 5, none⟩ (.int .i64 9)).heap[B]? = some (.cells (fca flZ) 26 (0, 0)) := heap_setCell_same W3 B 5 _ _ _ H3.out
        have t4 : Touch wr (W3.setCell ⟨B, 5, none⟩ (.int .i64 9)) (fun _ => False) := HT3.out.setCell _ _ (fun h => by have := HZ2.out; have h : B < wr.heap.size := h; omega)
        generalize W3.setCell ⟨B, 5, none⟩ (.int .i64 9) = W4 at h4 t4 ⊢
        obtain ⟨x0, x1, x2, x3, x4, x5, x6, x7⟩ := fcells_of (f := flZ) h4
        simp only [flZ, flN] at x0 x1 x2 x3 x4 x5 x6 x7
        have HP4 := Lib.hid (HPUT.out W4 t4)
        have HQ4 := Lib.hid (HQ.out.still t4)
        clear c5 f5 h4 t4
        go_wp2_with fail
        (with_reducible refine HP4.out.mono ?_)
        rintro e w5 ⟨rfl, s5⟩
        obtain ⟨h5, M5, p5, n5, -, -⟩ := HQ4.out.step s5
        obtain ⟨e1, e2⟩ := HM4.out M5 p5
        have hof := fof_one w5 g h5 R 10 M5 n5.q 9 (by omega)
        rw [e1] at hof
        have HOF := Lib.hid hof
        have N5 := Lib.hid n5
        have HE2 := Lib.hid e2
        clear s5 p5 n5 e1 e2 hof x0 x1 x2 x3 x4 x5 x6 x7
        go_wp2_with fail
        (with_reducible refine HOF.out.mono ?_)
        rintro e w6 ⟨a6, c6, rfl, -, t6⟩
        have N6 := Lib.hid (N5.out.still t6)
        have hlen := flen_any w6 g h5 R 10 M5 N6.out.q
        rw [HE2.out] at hlen
        have HL := Lib.hid hlen
        clear hlen t6
        go_wp2_with fail
        (with_reducible refine HL.out.mono ?_)
        rintro e w7 ⟨rfl, rfl⟩
        have hm6 := hmn w6
        go_wp2_with fail
        refine (awake11 w6).mono ?_
        rintro e w8 ⟨rfl, t8⟩
        have HT8 := Lib.hid (N6.out.t.trans t8 (fun _ _ h => h))
        clear t8
        go_wp2_with fail
        go_ret
        exact ⟨rfl, HT8.out.below (fun _ _ h => h.elim) (Nat.le_refl _)⟩
    case pos =>
      have hlI : (k : Int) < N := by omega
      have HFL := Lib.hid (flow_any wr k 3 (by omega) (by omega))
      obtain ⟨m1, m2⟩ := many_put HP.out
      have HPUT : RowKit.Hid (∀ W, Touch wr W (fun _ => False) → Calls Try.prog 9 #[.pointer (some ⟨g, 0, none⟩), .agg (fca (flN (k : Nat) 3))] W fun e w' => e = .returned (if k < R then .tuple #[.bool true, .int .i64 0] else .tuple #[.bool false, .int .i64 9]) ∧ FStep W w' g h R 10 (putF M R (flN (k : Nat) 3))) := Lib.hid (fun W t => by
        have h1 := fput_any W g h R 10 M (HQ.out.still t).q (flN (k : Nat) 3) (flN_ok _ _ (by omega) (by omega))
        rw [m1] at h1
        exact h1)
      have HM2 := Lib.hid m2
      clear m1 m2
      go_wp2_with fail
      (with_reducible refine HFL.out.mono ?_)
      rintro e w2 ⟨rfl, t2⟩
      have HQ2 := Lib.hid (HQ.out.still t2)
      have HP2 := Lib.hid (HPUT.out w2 t2)
      clear t2
      go_wp2_with fail
      (with_reducible refine HP2.out.mono ?_)
      rintro e w3 ⟨rfl, s3⟩
      obtain ⟨h3, M3, p3, n3, -, -⟩ := HQ2.out.step s3
      have HX : RowKit.Hid (∃ (k' : Nat) (h' : FH) (M' : List FlD), k' ≤ N ∧ Value.int .i64 ((k : Int) + 1) = .int .i64 k' ∧ FN w w3 g h' R 10 M' ∧ M'.Perm (flM (min k' R))) := Lib.hid ⟨k + 1, h3, M3, by omega, by go_num, n3, p3.trans HM2.out⟩
      clear s3 p3 n3
      by_cases hkR : k < R
      · have hkI : (k : Int) < R := by omega
        rw [if_pos hkR]
        go_wp2_with fail
        go_roundw
        · exact HX.out
        · simp only [RowKit.intOf]; omega
      · have hkI : ¬ (k : Int) < R := by omega
        rw [if_neg hkR]
        go_wp2_with fail
        go_roundw
        · exact HX.out
        · simp only [RowKit.intOf]; omega
theorem flowsMany_holds : Rows.FlowsManySaid := by
  refine flowsMany.said fun H enc W base v0 v1 d0 d1 p0 p1 h0 h1 => ?_
  obtain ⟨a, rfl, ha, hb, _⟩ := h0.i64 Try.underlying3
  obtain ⟨b, rfl, _⟩ := h1.i64 Try.underlying3
  exact many11_walk a b ⟨ha, hb⟩ W
end Go.Proofs.Ytgmimdnebgncoaa
