/- StateMany answers true for any two numbers. -/
import Derived.Test.YtdhimlkndpiacaaStAwakeZ
import Derived.Test.YtdhimlkndpiacaaFrStateManyZ
set_option linter.unusedVariables false
set_option linter.unusedSimpArgs false
namespace Go.Proofs.Ytdhimlkndpiacaa
open Go.RowKit

theorem min14_run (a b : Int) (W : World) : (Builtin.min_ #[3, 3] 3 #[.int .i64 a, .int .i64 b]).run Try.prog W = .ok (.int .i64 (min a b)) W := by
  by_cases h : b < a
  · have e : min a b = b := by omega
    rw [e]
    go_simp
  · have e : min a b = a := by omega
    rw [e]
    go_simp
theorem mod14 (x m : Int) (hm : 0 < m) (hm2 : m ≤ 300) : ∃ N : Nat, wrap64 ((IntKind.u64.wrap x).tmod m) = (N : Int) ∧ (N : Int) < m := by
  have hu : 0 ≤ IntKind.u64.wrap x := by simp only [IntKind.wrap_u64]; omega
  have h2 : (IntKind.u64.wrap x).tmod m = (IntKind.u64.wrap x) % m := Int.tmod_eq_emod_of_nonneg hu
  have h3 := Int.emod_nonneg (IntKind.u64.wrap x) (show m ≠ 0 by omega)
  have h4 := Int.emod_lt_of_pos (IntKind.u64.wrap x) hm
  rw [h2]
  generalize (IntKind.u64.wrap x) % m = y at *
  have e1 : wrap64 y = y := by unfold wrap64; omega
  rw [e1]
  exact ⟨y.toNat, by omega, by omega⟩
def flA (n : Nat) : FlD := ⟨⟨n, 0, 17, 0, 0⟩, 0, 0, 0⟩
def flAs : Nat → List FlD
  | 0 => []
  | m + 1 => flA m :: flAs m
def drA (n : Nat) : DR := ⟨n, 5⟩
def drAs : Nat → List DR
  | 0 => []
  | m + 1 => drA m :: drAs m
def rFA (n : Nat) : RecD := ⟨1, ⟨n, 0, 17, 0, 0⟩, 0, 0, 0, 0, [], 0, 0, 0⟩
def rDA (n : Nat) : RecD := ⟨4, noT, 0, 0, 0, 0, [], n, 5, 0⟩
def rFZ : RecD := ⟨1, ⟨0, 0, 17, 0, 0⟩, 9, 0, 0, 0, [], 0, 0, 0⟩
def rDZ : RecD := ⟨4, noT, 0, 0, 0, 0, [], 0, 6, 0⟩
def stA (n k : Nat) : StS := ⟨0, [], drAs (min k 16), flAs (min n 256)⟩
theorem flAs_len (m : Nat) : (flAs m).length = m := by
  induction m with
  | zero => rfl
  | succ m ih => simp [flAs, ih]
theorem drAs_len (m : Nat) : (drAs m).length = m := by
  induction m with
  | zero => rfl
  | succ m ih => simp [drAs, ih]
theorem flAs_has (m k : Nat) : hasF (flAs m) (flA k).t = decide (k < m) := by
  rw [Bool.eq_iff_iff, hasF_iff, decide_eq_true_iff]
  induction m with
  | zero => simp [flAs]
  | succ m ih =>
    simp only [flAs, List.map_cons, List.mem_cons, ih]
    constructor
    · rintro (e | h)
      · have e : ((k : Nat) : Int) = (m : Nat) := congrArg TupD.src e
        omega
      · omega
    · intro h
      by_cases e : k = m
      · subst e; exact .inl rfl
      · exact .inr (by omega)
theorem drAs_has (m k : Nat) : hasD (drAs m) (k : Int) = decide (k < m) := by
  rw [Bool.eq_iff_iff, hasD_iff, decide_eq_true_iff]
  induction m with
  | zero => simp [drAs]
  | succ m ih =>
    simp only [drAs, List.map_cons, List.mem_cons, ih]
    constructor
    · rintro (e | h)
      · have e : ((k : Nat) : Int) = (m : Nat) := e
        omega
      · omega
    · intro h
      by_cases e : k = m
      · subst e; exact .inl rfl
      · exact .inr (by omega)
theorem mayA (n : Nat) : mayRB (rFA n) = true := rfl
theorem mayDA {n : Nat} (h : n < 300) : mayRB (rDA n) = true := by
  show (idB (n : Int) && timB 5) = true
  rw [(idB_iff _).2 (by omega)]; rfl
theorem many_A (k : Nat) : stE (stA k 0) (rFA k) = (if k < 256 then 0 else 9) ∧ stS (stA k 0) (rFA k) = stA (k + 1) 0 := by
  obtain ⟨e1, e2⟩ := st_1 (s := stA k 0) (mayA k) rfl
  have hh : hasF (flAs (min k 256)) (flA k).t = false := by rw [flAs_has]; simp; omega
  have hp : stPutE (stA k 0).F (rFA k).t = (if k < 256 then 0 else 9) := by
    show (if hasF (flAs (min k 256)) (flA k).t then (0 : Int) else if 256 ≤ (flAs (min k 256)).length then 9 else 0) = _
    rw [hh, flAs_len]
    by_cases h : k < 256
    · rw [if_neg (by decide), if_neg (by omega), if_pos h]
    · rw [if_neg (by decide), if_pos (by omega), if_neg h]
  refine ⟨e1.trans hp, e2.trans ?_⟩
  have hs : stPutF (stA k 0).F (flOf (rFA k)) = flAs (min (k + 1) 256) := by
    unfold stPutF
    rw [show (flOf (rFA k)).t = (rFA k).t from rfl, hp]
    by_cases h : k < 256
    · rw [if_pos h, if_pos rfl]
      show flA k :: delF (flAs (min k 256)) (flA k).t = _
      rw [delF_none (fun h => by rw [← hasF_iff, hh] at h; cases h), show min (k + 1) 256 = k + 1 by omega, show min k 256 = k by omega]
      rfl
    · rw [if_neg h, if_neg (by decide), show min (k + 1) 256 = min k 256 by omega]
      rfl
  rw [hs]; rfl
theorem many_B (n k : Nat) (hk : k < 300) : stE (stA n k) (rDA k) = (if k < 16 then 0 else 9) ∧ stS (stA n k) (rDA k) = stA n (k + 1) := by
  obtain ⟨e1, e2⟩ := st_4 (s := stA n k) (mayDA hk) rfl
  have hh : hasD (drAs (min k 16)) (k : Int) = false := by rw [drAs_has]; simp; omega
  have hp : stDrE (stA n k).D (rDA k).be = (if k < 16 then 0 else 9) := by
    show (if hasD (drAs (min k 16)) (k : Int) then (0 : Int) else if 16 ≤ (drAs (min k 16)).length then 9 else 0) = _
    rw [hh, drAs_len]
    by_cases h : k < 16
    · rw [if_neg (by decide), if_neg (by omega), if_pos h]
    · rw [if_neg (by decide), if_pos (by omega), if_neg h]
  refine ⟨e1.trans hp, e2.trans ?_⟩
  have hs : stDrD (stA n k).D ⟨(rDA k).be, (rDA k).un⟩ = drAs (min (k + 1) 16) := by
    unfold stDrD
    rw [show (⟨(rDA k).be, (rDA k).un⟩ : DR).b = (rDA k).be from rfl, hp]
    by_cases h : k < 16
    · rw [if_pos h, if_pos rfl]
      show drA k :: delD (drAs (min k 16)) (k : Int) = _
      rw [delD_none (fun h => by rw [← hasD_iff, hh] at h; cases h), show min (k + 1) 16 = k + 1 by omega, show min k 16 = k by omega]
      rfl
    · rw [if_neg h, if_neg (by decide), show min (k + 1) 16 = min k 16 by omega]
      rfl
  rw [hs]; rfl
theorem many_Z1 {n k : Nat} (h0 : 0 < n) (hn : ((stA n k).F.map FlD.t).Nodup) : stE (stA n k) rFZ = 0 ∧ (stS (stA n k) rFZ).D = drAs (min k 16) ∧ (stS (stA n k) rFZ).F.length = min n 256 := by
  obtain ⟨e1, e2⟩ := st_1 (s := stA n k) (r := rFZ) rfl rfl
  have hh : hasF (stA n k).F rFZ.t = true := by
    refine (flAs_has (min n 256) 0).trans ?_
    simp; omega
  have hp : stPutE (stA n k).F rFZ.t = 0 := by unfold stPutE; rw [hh]; rfl
  refine ⟨e1.trans hp, by rw [e2]; rfl, ?_⟩
  rw [e2]
  show (stPutF (stA n k).F (flOf rFZ)).length = _
  unfold stPutF
  rw [show (flOf rFZ).t = rFZ.t from rfl, hp, if_pos rfl]
  have h1 := delF_len hn rFZ.t
  rw [hh] at h1
  have h2 : (stA n k).F.length = min n 256 := flAs_len _
  simp at h1
  simp
  omega
theorem many_Z2 {s : StS} {k : Nat} (h0 : 0 < k) (hd : s.D = drAs (min k 16)) (hn : (s.D.map DR.b).Nodup) : stE s rDZ = 0 ∧ (stS s rDZ).F = s.F ∧ (stS s rDZ).D.length = min k 16 := by
  obtain ⟨e1, e2⟩ := st_4 (s := s) (r := rDZ) rfl rfl
  have hh : hasD s.D rDZ.be = true := by
    rw [hd]
    refine (drAs_has (min k 16) 0).trans ?_
    simp; omega
  have hp : stDrE s.D rDZ.be = 0 := by unfold stDrE; rw [hh]; rfl
  refine ⟨e1.trans hp, by rw [e2], ?_⟩
  rw [e2]
  show (stDrD s.D ⟨rDZ.be, rDZ.un⟩).length = _
  unfold stDrD
  rw [show (⟨rDZ.be, rDZ.un⟩ : DR).b = rDZ.be from rfl, hp, if_pos rfl]
  have h1 := delD_len hn rDZ.be
  rw [hh] at h1
  have h2 : s.D.length = min k 16 := by rw [hd]; exact drAs_len _
  simp at h1
  simp
  omega
theorem rFA_ok {n : Nat} (h : n < 300) : RecOk (rFA n) := by
  have h1 : u32 ((n : Nat) : Int) := ⟨by omega, by omega⟩
  refine ⟨?_, ⟨h1, ?_, ?_, ?_, ?_⟩, ?_, ?_, ?_, ?_, (fun b hb => by cases hb), ?_, ?_, ?_⟩ <;> simp only [rFA, i64, u32] <;> decide
theorem rDA_ok {n : Nat} (h : n < 300) : RecOk (rDA n) := by
  have h1 : i64 ((n : Nat) : Int) := ⟨by omega, by omega⟩
  refine ⟨?_, ⟨?_, ?_, ?_, ?_, ?_⟩, ?_, ?_, ?_, ?_, (fun b hb => by cases hb), h1, ?_, ?_⟩ <;> simp only [rDA, noT, i64, u32] <;> decide
theorem rFZ_ok : RecOk rFZ := by
  refine ⟨?_, ⟨?_, ?_, ?_, ?_, ?_⟩, ?_, ?_, ?_, ?_, (fun b hb => by cases hb), ?_, ?_, ?_⟩ <;> simp only [rFZ, i64, u32] <;> decide
theorem rDZ_ok : RecOk rDZ := by
  refine ⟨?_, ⟨?_, ?_, ?_, ?_, ?_⟩, ?_, ?_, ?_, ?_, (fun b hb => by cases hb), ?_, ?_, ?_⟩ <;> simp only [rDZ, noT, i64, u32] <;> decide
/-- Apply with a record without backends. -/
theorem stapply_lit (w : World) (b : Nat) (h : StH) (s : StS) (m : StM w b h s) (r : RecD) (hb : r.bs = []) (ok : RecOk r) :
    Calls Try.prog 10 #[.pointer (some ⟨b, 0, none⟩), .agg (rcs r none 0)] w fun e w' => e = .returned (.int .i64 (stE s r)) ∧ StTo w w' b h (stS s r) :=
  stapply_any w b h s m r none 0 (by rw [hb]; exact RowS.nil _ _ _ _ (by decide)) (by rw [hb]; decide) ok
set_option maxRecDepth 20000 in
set_option maxHeartbeats 8000000 in
theorem stateMany_walk (w : World) (x y : Int) :
    Calls Try.prog 4 #[.int .i64 x, .int .i64 y] w fun e w' => e = .returned (.bool true) ∧ Touch w w' (fun _ => False) := by
  obtain ⟨N0, hN, hN1⟩ := mod14 x 12 (by decide) (by decide)
  obtain ⟨K0, hK, hK1⟩ := mod14 y 8 (by decide) (by decide)
  have HN := Lib.hid hN
  have HK := Lib.hid hK
  obtain ⟨N, hN2⟩ : ∃ N : Nat, (250 : Int) + (N0 : Int) = (N : Int) := ⟨250 + N0, by omega⟩
  obtain ⟨K, hK2⟩ : ∃ K : Nat, (12 : Int) + (K0 : Int) = (K : Int) := ⟨12 + K0, by omega⟩
  have HNB : RowKit.Hid (250 ≤ N ∧ N < 262) := Lib.hid (by omega)
  have HKB : RowKit.Hid (12 ≤ K ∧ K < 20) := Lib.hid (by omega)
  have HN2 := Lib.hid hN2
  have HK2 := Lib.hid hK2
  have HWN : RowKit.Hid (wrap64 (N : Int) = N) := Lib.hid (by unfold wrap64; omega)
  have HWK : RowKit.Hid (wrap64 (K : Int) = K) := Lib.hid (by unfold wrap64; omega)
  clear hN hK hN2 hK2
  go_enter Try.func4, Try.ntmps4
  go_upto_region 2 with (fail)
  rw [HN.out, HK.out]
  rw [HN2.out, HK2.out, HWN.out, HWK.out]
  go_wp2_with fail
  refine (stnew_any w).mono ?_
  rintro e w0 ⟨g, h, rfl, n0⟩
  have N0' := Lib.hid n0
  clear n0 hN1 hK1
  go_wp2_with fail
  go_loopw [24] (fun s24 wr => ∃ (k : Nat) (h : StH), k ≤ N ∧ s24 = .int .i64 k ∧ StN w wr g h (stA k 0)) (fun s24 _ => N - (RowKit.intOf s24).toNat)
  case atStart => exact ⟨0, h, Nat.zero_le _, rfl, N0'.out⟩
  case round =>
    obtain ⟨k, h, hk, rfl, hq⟩ := hrel
    have HQ := Lib.hid hq
    have HNB1 := HNB.out
    clear hq N0' HNB
    by_cases hlt : k < N
    case neg =>
      obtain rfl : N = k := by omega
      have HNB := Lib.hid HNB1
      have hIrr : ¬ ((N : Int) < N) := by omega
      clear hlt hk HNB1
      go_wp2_with fail
      go_loopw [49] (fun s49 wr => ∃ (k : Nat) (h : StH), k ≤ K ∧ s49 = .int .i64 k ∧ StN w wr g h (stA N k)) (fun s49 _ => K - (RowKit.intOf s49).toNat)
      case atStart => exact ⟨0, h, Nat.zero_le _, rfl, HQ.out⟩
      case round =>
        obtain ⟨k, h, hk, rfl, hq⟩ := hrel
        have HQ := Lib.hid hq
        have HKB1 := HKB.out
        clear hq HKB
        by_cases hlt : k < K
        case neg =>
          obtain rfl : K = k := by omega
          have hIrr2 : ¬ ((K : Int) < K) := by omega
          have HKB := Lib.hid HKB1
          clear hlt hk
          obtain ⟨z1, z2, z3⟩ := many_Z1 (n := N) (k := K) (by have := HNB.out; omega) HQ.out.m.ok.fn
          have hAP := stapply_lit wr g h _ HQ.out.m rFZ rfl rFZ_ok
          obtain ⟨S2, hS2⟩ : ∃ S, stS (stA N K) rFZ = S := ⟨_, rfl⟩
          rw [hS2] at z2 z3
          rw [z1, hS2] at hAP
          have HAP := Lib.hid hAP
          have HZ2 := Lib.hid z2
          have HZ3 := Lib.hid z3
          simp only [rcs, rFZ, List.length_nil] at HAP
          clear z1 z2 z3 hAP HKB1 hS2
          go_wp2_with fail
          (with_reducible refine HAP.out.mono ?_)
          rintro e w2 ⟨rfl, s2⟩
          obtain ⟨h2, n2, -, -⟩ := HQ.out.step s2
          obtain ⟨z1, z2, z3⟩ := many_Z2 (s := S2) (k := K) (by have := HKB.out; omega) HZ2.out n2.m.ok.dn
          have hAP := stapply_lit w2 g h2 _ n2.m rDZ rfl rDZ_ok
          obtain ⟨S3, hS3⟩ : ∃ S, stS S2 rDZ = S := ⟨_, rfl⟩
          rw [hS3] at z2 z3
          rw [z1, hS3] at hAP
          have HAQ := Lib.hid hAP
          have HY2 := Lib.hid z2
          have HY3 := Lib.hid z3
          have HN2' := Lib.hid n2
          simp only [rcs, rDZ, noT, List.length_nil] at HAQ
          clear z1 z2 z3 hAP s2 n2 hS3
          go_wp2_with fail
          (with_reducible refine HAQ.out.mono ?_)
          rintro e w3 ⟨rfl, s3⟩
          obtain ⟨h3, n3, -, -⟩ := HN2'.out.step s3
          have hlen := stlen_any w3 g h3 S3 n3.m
          have hL : (1 + S3.D.length + S3.F.length : Nat) = 1 + min K 16 + min N 256 := by
            have h1 := HY2.out
            have h2 := HY3.out
            have h3 := HZ3.out
            rw [h2, h1, h3]
          rw [hL] at hlen
          have HLEN := Lib.hid hlen
          have HN3 := Lib.hid n3
          have hm1 := fun W => min14_run N 256 W
          have hm2 := fun W => min14_run K 16 W
          obtain ⟨A, hA⟩ : ∃ A : Nat, min N 256 = A := ⟨_, rfl⟩
          obtain ⟨B, hB⟩ : ∃ B : Nat, min K 16 = B := ⟨_, rfl⟩
          rw [show min (N : Int) (256 : Int) = (A : Int) by omega] at hm1
          rw [show min (K : Int) (16 : Int) = (B : Int) by omega] at hm2
          rw [hA, hB] at HLEN
          have hAl : A ≤ 300 := by have := HNB.out; omega
          have hBl : B ≤ 16 := by have := HKB.out; omega
          have hsum : ((1 + B + A : Nat) : Int) = 1 + (A : Int) + B := by omega
          rw [hsum] at HLEN
          clear s3 n3 hlen hL hsum hA hB
          go_wp2_with fail
          (with_reducible refine HLEN.out.mono ?_)
          rintro e w4 ⟨rfl, t4⟩
          have HT4 := Lib.hid (HN3.out.t.trans t4 (fun _ _ h => h))
          have hm3 := hm1 w4
          have hm4 := hm2 w4
          clear t4 hm1 hm2
          go_wp2_with fail
          refine (awake14 w4).mono ?_
          rintro e w8 ⟨rfl, t8⟩
          have HT8 := Lib.hid (HT4.out.trans t8 (fun _ _ h => h))
          clear t8
          go_wp2_with fail
          go_ret
          exact ⟨rfl, HT8.out⟩
        case pos =>
          have hlI : (k : Int) < K := by omega
          have HKB := Lib.hid HKB1
          obtain ⟨m1, m2⟩ := many_B N k (by omega)
          have hAP := stapply_lit wr g h _ HQ.out.m (rDA k) rfl (rDA_ok (by omega))
          rw [m1, m2] at hAP
          have HAP := Lib.hid hAP
          simp only [rcs, rDA, noT, List.length_nil] at HAP
          clear m1 m2 hAP HKB1
          go_wp2_with fail
          (with_reducible refine HAP.out.mono ?_)
          rintro e w3 ⟨rfl, s3⟩
          obtain ⟨h3, n3, -, -⟩ := HQ.out.step s3
          have HX : RowKit.Hid (∃ (k' : Nat) (h' : StH), k' ≤ K ∧ Value.int .i64 ((k : Int) + 1) = .int .i64 k' ∧ StN w w3 g h' (stA N k')) := Lib.hid ⟨k + 1, h3, by omega, by go_num, n3⟩
          have hkl : (k : Int) ≤ 300 := by have := HKB.out; omega
          clear s3 n3
          by_cases hkR : k < 16
          · have hkI : (k : Int) < 16 := by omega
            rw [if_pos hkR]
            go_wp2_with fail
            go_roundw
            · exact HX.out
            · simp only [RowKit.intOf]; omega
          · have hkI : ¬ (k : Int) < 16 := by omega
            rw [if_neg hkR]
            go_wp2_with fail
            go_roundw
            · exact HX.out
            · simp only [RowKit.intOf]; omega
    case pos =>
      have hlI : (k : Int) < N := by omega
      have HNB := Lib.hid HNB1
      obtain ⟨m1, m2⟩ := many_A k
      have hAP := stapply_lit wr g h _ HQ.out.m (rFA k) rfl (rFA_ok (by omega))
      rw [m1, m2] at hAP
      have HAP := Lib.hid hAP
      simp only [rcs, rFA, List.length_nil] at HAP
      have hkw : IntKind.u32.wrap (k : Int) = (k : Int) := by simp only [IntKind.wrap_u32]; omega
      clear m1 m2 hAP HNB1
      go_wp2_with fail
      (with_reducible refine HAP.out.mono ?_)
      rintro e w3 ⟨rfl, s3⟩
      obtain ⟨h3, n3, -, -⟩ := HQ.out.step s3
      have HX : RowKit.Hid (∃ (k' : Nat) (h' : StH), k' ≤ N ∧ Value.int .i64 ((k : Int) + 1) = .int .i64 k' ∧ StN w w3 g h' (stA k' 0)) := Lib.hid ⟨k + 1, h3, by omega, by go_num, n3⟩
      have hkl : (k : Int) ≤ 300 := by have := HNB.out; omega
      clear s3 n3 hkw
      by_cases hkR : k < 256
      · have hkI : (k : Int) < 256 := by omega
        rw [if_pos hkR]
        go_wp2_with fail
        go_roundw
        · exact HX.out
        · simp only [RowKit.intOf]; omega
      · have hkI : ¬ (k : Int) < 256 := by omega
        rw [if_neg hkR]
        go_wp2_with fail
        go_roundw
        · exact HX.out
        · simp only [RowKit.intOf]; omega
theorem stateMany_holds : Rows.StateManySaid := by
  refine stateMany.said fun H enc W base v0 v1 d0 d1 p0 p1 h0 h1 => ?_
  obtain ⟨a, rfl, _⟩ := h0.i64 Try.underlying3
  obtain ⟨b, rfl, _⟩ := h1.i64 Try.underlying3
  exact (stateMany_walk W a b).mono fun e w' h => ⟨h.1, h.2.below (fun _ _ h => h.elim) (Nat.le_refl _)⟩
end Go.Proofs.Ytdhimlkndpiacaa
