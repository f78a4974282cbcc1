/- May a table have so many slots; a backend's row; may a set of backends be. -/
import Derived.Test.YtfjnhaoiecndpaaMagW
import Derived.Test.YtfjnhaoiecndpaaSumWalk3
import Derived.Test.YtfjnhaoiecndpaaRecMays
set_option linter.unusedVariables false
namespace Go.Proofs.Ytfjnhaoiecndpaa
open Go.RowKit

def mayS (n : Nat) : Bool := (List.range 16).all (fun k => decide (¬ (2 ≤ k ∧ k * k ≤ n ∧ n % k = 0)))
theorem mayS_iff (n : Nat) : mayS n = true ↔ ∀ k, k < 16 → ¬ (2 ≤ k ∧ k * k ≤ n ∧ n % k = 0) := by
  unfold mayS; rw [List.all_eq_true]; simp only [List.mem_range, decide_eq_true_iff]
theorem prm_may {n : Nat} (h : Prm n) : mayS n = true := by
  rw [mayS_iff]
  rintro k hk ⟨h2, hkk, hm⟩
  have hlt : k < n := by
    have := Nat.mul_le_mul_right k h2
    have := h.lo
    omega
  obtain ⟨i, _, he⟩ := h.inv k hlt (by omega)
  have hd : k ∣ n := Nat.dvd_of_mod_eq_zero hm
  have h1 : k ∣ k * i % n := (Nat.dvd_mod_iff hd).2 ⟨i, rfl⟩
  rw [he] at h1
  have := Nat.le_of_dvd (by omega) h1
  omega

set_option maxHeartbeats 400000 in
theorem mayS_any (n : Nat) (w : World) (h3 : 3 ≤ n) (h251 : n ≤ 251) :
    Calls Try.prog 20 #[.int .i64 n] w fun e w' => e = .returned (.bool (mayS n)) ∧ w = w' := by
  have hw : ∀ k : Nat, k ≤ 16 → k * k ≤ 256 := fun k hk => Nat.mul_le_mul hk hk
  have HW := Lib.hid hw
  have HM := Lib.hid (mayS_iff n)
  clear hw
  go_enter Try.func20, Try.ntmps20
  go_wp2_with fail
  go_loop [3] (fun i => ∃ k : Nat, 2 ≤ k ∧ k ≤ 16 ∧ i = .int .i64 k ∧ ∀ j, j < k → ¬ (2 ≤ j ∧ j * j ≤ n ∧ n % j = 0)) (fun i => 16 - (intOf i).toNat)
  case atStart => exact ⟨2, by omega, by omega, rfl, fun j h1 h2 => by omega⟩
  case round =>
    obtain ⟨k, hk2, hk, rfl, ha⟩ := hrel
    have HA := Lib.hid ha
    have hw := HW.out k hk
    obtain ⟨K, hK⟩ : ∃ K, k * k = K := ⟨_, rfl⟩
    have hKI : (k : Int) * (k : Int) = (K : Int) := by rw [← hK]; norm_cast
    have hrem : Int.tmod (n : Int) (k : Int) = ((n % k : Nat) : Int) := by
      rw [Int.tmod_eq_emod_of_nonneg (by omega)]; norm_cast
    have hrem2 : (n : Int) % (k : Int) = ((n % k : Nat) : Int) := by norm_cast
    rw [hK] at hw
    have HK := Lib.hid hK
    obtain ⟨M, hM⟩ : ∃ M, n % k = M := ⟨_, rfl⟩
    have HMM := Lib.hid hM
    rw [hM] at hrem hrem2
    have hn0 : ((k : Int) == 0) = false := beq_eq_false_iff_ne.2 (by omega)
    have hn1 : ¬ k = 0 := by omega
    have hw0 : IntKind.i64.wrap (K : Int) = (K : Int) := IntWalk.i64_in _ (by omega)
    have hwm : IntKind.i64.wrap (M : Int) = (M : Int) := IntWalk.i64_in _ (by rw [← hM]; have := Nat.mod_le n k; omega)
    have hw1 : IntKind.i64.wrap ((k : Int) + 1) = (k : Int) + 1 := IntWalk.i64_in _ (by omega)
    clear ha hK hM
    by_cases hc : K ≤ n
    · have hcI : (K : Int) ≤ (n : Int) := by omega
      have hk15 : k ≤ 15 := by
        rcases Nat.lt_or_ge k 16 with h9 | h9
        · omega
        · have e : k = 16 := by omega
          have := HK.out
          rw [e] at this
          omega
      by_cases hm : M = 0
      · subst hm
        have HF : RowKit.Hid (mayS n = false) := Lib.hid (by
          cases hh : mayS n with
          | false => rfl
          | true => exact absurd ⟨hk2, by rw [HK.out]; exact hc, HMM.out⟩ (HM.out.1 hh k (by omega)))
        go_wp2
        go_ret
        exact ⟨by rw [HF.out]; rfl, rfl⟩
      · have hmI : ¬ (M : Int) = 0 := by omega
        have hmI2 : ((M : Int) == 0) = false := beq_eq_false_iff_ne.2 hmI
        go_wp2
        refine ⟨⟨k + 1, by omega, by omega, by go_num, fun j h1 => ?_⟩, by simp [intOf]; omega⟩
        rcases Nat.lt_or_ge j k with h9 | h9
        · exact HA.out j h9
        · have e : j = k := by omega
          subst e
          rintro ⟨_, _, h4⟩
          exact hm (HMM.out ▸ h4)
    · have hcI : ¬ (K : Int) ≤ (n : Int) := by omega
      have HT : RowKit.Hid (mayS n = true) := Lib.hid (by
        rw [HM.out]
        intro j hj
        rcases Nat.lt_or_ge j k with h9 | h9
        · exact HA.out j h9
        · rintro ⟨_, h5, _⟩
          have := Nat.mul_le_mul h9 h9
          have := HK.out
          omega)
      go_wp2
      go_ret
      exact ⟨by rw [HT.out]; rfl, rfl⟩

theorem isWeight_any (n : Int) (w : World) :
    Calls Try.prog 33 #[.int .i64 n] w fun e w' => e = .returned (.bool (decide (1 ≤ n ∧ n ≤ 10))) ∧ w' = w := by
  have HM : RowKit.Hid (decide (1 ≤ n ∧ n ≤ 10) = true ↔ 1 ≤ n ∧ n ≤ 10) := Lib.hid decide_eq_true_iff
  generalize decide (1 ≤ n ∧ n ≤ 10) = m at *
  go_enter Try.func33, Try.ntmps33
  go_wp2
  all_goals (go_ret; refine ⟨ret_bool ?_, rfl⟩; rw [Bool.eq_iff_iff, HM.out]; clear HM; (first | (simp_all; done) | (simp_all; omega)))

set_option maxRecDepth 20000 in
set_option maxHeartbeats 1000000 in
theorem row_any (id : Int) (n : Nat) (w : World) (hp : Prm n) (hi : i64 id) :
    Calls Try.prog 43 #[.int .i64 id, .int .i64 n] w fun e w' => e = .returned (.tuple #[.int .i64 (offF id n : Nat), .int .i64 (skF id n : Nat)]) ∧ Touch w w' (fun _ => False) := by
  obtain ⟨hi1, hi2⟩ := hi
  have h3 := hp.lo
  have h251 := hp.hi
  have HM := Lib.hid (mayS_any n w h3 h251)
  rw [prm_may hp] at HM
  go_enter Try.func43, Try.ntmps43
  go_wp2_with (go_at_call 20; (with_reducible refine HM.out.mono ?_); rintro e w9 ⟨rfl, rfl⟩)
  have HR : RowKit.Hid (RowB (w.alloc (.cells #[.int .u8 (id / 16777216 % 256), .int .u8 (id / 65536 % 256), .int .u8 (id / 256 % 256), .int .u8 (id % 256)] 5)) (some ⟨w.heap.size, 0, none⟩) 4 4 (id4 id)) := Lib.hid (by
    refine RowB.new w _ rfl _ _ _ 4 (id4 id) rfl (by omega) (id4_small id) (fun i hi => ?_)
    have h4 : i < 4 := hi
    rcases (by omega : i = 0 ∨ i = 1 ∨ i = 2 ∨ i = 3) with rfl | rfl | rfl | rfl <;> simp [id4] <;> omega)
  obtain ⟨W1, hW1⟩ : ∃ W, w.alloc (.cells #[.int .u8 (id / 16777216 % 256), .int .u8 (id / 65536 % 256), .int .u8 (id / 256 % 256), .int .u8 (id % 256)] 5) = W := ⟨_, rfl⟩
  rw [hW1] at HR ⊢
  have HT : RowKit.Hid (Touch w W1 (fun _ => False)) := Lib.hid (hW1 ▸ (Touch.refl w _).alloc _)
  have HX := Lib.hid (id4_small id)
  obtain ⟨G, hG⟩ : ∃ G, w.heap.size = G := ⟨_, rfl⟩
  rw [hG] at HR ⊢
  clear hG hW1
  obtain ⟨X1, hX1⟩ : ∃ X, mixF 1 (id4 id) = X := ⟨_, rfl⟩
  obtain ⟨X2, hX2⟩ : ∃ X, mixF 2 (id4 id) = X := ⟨_, rfl⟩
  have hl1 := mixF_lt 1 (id4 id)
  have hl2 := mixF_lt 2 (id4 id)
  have HM1 : RowKit.Hid (∀ W, RowB W (some ⟨G, 0, none⟩) 4 4 (id4 id) → Calls Try.prog 31 #[.int .u32 1, .slice (some ⟨G, 0, none⟩) 4 4] W fun e w' => e = .returned (.int .u32 (X1 : Nat)) ∧ ∃ n, w' = W.drewN n) := Lib.hid (fun W h => by rw [← hX1]; exact mix_any 1 _ _ _ _ W (by omega) h)
  have HM2 : RowKit.Hid (∀ W, RowB W (some ⟨G, 0, none⟩) 4 4 (id4 id) → Calls Try.prog 31 #[.int .u32 2, .slice (some ⟨G, 0, none⟩) 4 4] W fun e w' => e = .returned (.int .u32 (X2 : Nat)) ∧ ∃ n, w' = W.drewN n) := Lib.hid (fun W h => by rw [← hX2]; exact mix_any 2 _ _ _ _ W (by omega) h)
  have HO : RowKit.Hid (offF id n = X1 % n) := Lib.hid (by unfold offF; rw [hX1])
  have HS : RowKit.Hid (skF id n = X2 % (n - 1) + 1) := Lib.hid (by unfold skF; rw [hX2])
  rw [hX1] at hl1
  rw [hX2] at hl2
  clear hX1 hX2
  have hn0 : ((n : Int) == 0) = false := beq_eq_false_iff_ne.2 (by omega)
  have hn1 : ¬ n = 0 := by omega
  have hn2 : (((n : Int) - 1) == 0) = false := beq_eq_false_iff_ne.2 (by omega)
  have hn3 : ¬ ((n : Int) - 1 = 0) := by omega
  refine (HM1.out _ HR.out).mono ?_
  rintro e w4 ⟨rfl, n4, rfl⟩
  have hr1 : Int.tmod (X1 : Int) (n : Int) = ((X1 % n : Nat) : Int) := by rw [Int.tmod_eq_emod_of_nonneg (by omega)]; norm_cast
  have hr2 : (X1 : Int) % (n : Int) = ((X1 % n : Nat) : Int) := by norm_cast
  have hq1 : Int.tmod (X2 : Int) ((n : Int) - 1) = ((X2 % (n - 1) : Nat) : Int) := by rw [Int.tmod_eq_emod_of_nonneg (by omega), show (n : Int) - 1 = ((n - 1 : Nat) : Int) from by omega]; norm_cast
  have hq2 : (X2 : Int) % ((n : Int) - 1) = ((X2 % (n - 1) : Nat) : Int) := by rw [show (n : Int) - 1 = ((n - 1 : Nat) : Int) from by omega]; norm_cast
  have hb1 : X1 % n < n := Nat.mod_lt _ (by omega)
  have hb2 : X2 % (n - 1) < n - 1 := Nat.mod_lt _ (by omega)
  generalize X1 % n = O1 at *
  generalize X2 % (n - 1) = O2 at *
  go_wp2_with (go_at_call 31; (with_reducible refine (HM2.out _ (HR.out.drewN _)).mono ?_); rintro e w4 ⟨rfl, n5, rfl⟩)
  go_ret2
  exact ⟨by rw [HO.out, HS.out]; rfl, HT.out.drewN _⟩

/-- One of a set may stand where it stands. -/
def okAt (bs : List BkD) (i : Nat) : Bool := match bs[i]? with
  | none => true
  | some b => mayKB b && (i == 0 || match bs[i - 1]? with | none => true | some a => decide (a.id < b.id))
def gmay (bs : List BkD) : Bool := decide (bs.length ≤ 16) && (List.range bs.length).all (okAt bs)
theorem gmay_iff (bs : List BkD) : gmay bs = true ↔ bs.length ≤ 16 ∧ ∀ i, i < bs.length → okAt bs i = true := by
  unfold gmay; rw [Bool.and_eq_true, decide_eq_true_iff, List.all_eq_true]; simp only [List.mem_range]
theorem okAt_zero {bs : List BkD} {b : BkD} (h : bs[0]? = some b) : okAt bs 0 = mayKB b := by unfold okAt; rw [h]; simp
theorem okAt_succ {bs : List BkD} {i : Nat} {a b : BkD} (h : bs[i + 1]? = some b) (h2 : bs[i]? = some a) : okAt bs (i + 1) = (mayKB b && decide (a.id < b.id)) := by unfold okAt; rw [h]; simp [h2]

set_option maxRecDepth 20000 in
set_option maxHeartbeats 1000000 in
theorem gmay_any (a : Option Addr) (len cap : Nat) (bs : List BkD) (w : World) (hr : RowK w a len cap bs) :
    Calls Try.prog 21 #[.slice a len cap] w fun e w' => e = .returned (.bool (gmay bs)) ∧ Touch w w' (fun _ => False) := by
  have hl := hr.len
  have hcap := hr.hmax
  have hcap1 := hr.hcap
  have HG := Lib.hid (gmay_iff bs)
  have HR := Lib.hid hr
  have HL := Lib.hid hl
  by_cases h16 : len ≤ 16
  case neg =>
    have HF : RowKit.Hid (gmay bs = false) := Lib.hid (by
      cases hh : gmay bs with
      | false => rfl
      | true => have := (HG.out.1 hh).1; omega)
    have h16I : (len : Int) > 16 := by omega
    clear hr hl
    go_enter Try.func21, Try.ntmps21
    go_wp2
    go_ret
    exact ⟨by rw [HF.out]; rfl, Touch.refl _ _⟩
  case pos =>
  clear hr hl
  go_enter Try.func21, Try.ntmps21
  go_wp2_with fail
  go_loopw [10] (fun i wr => ∃ k : Nat, k ≤ len ∧ i = .int .i64 k ∧ Touch w wr (fun _ => False) ∧ ∀ j, j < k → okAt bs j = true) (fun i _ => len - (intOf i).toNat)
  case atStart => exact ⟨0, Nat.zero_le _, rfl, Touch.refl _ _, fun j hj => by omega⟩
  case round =>
    obtain ⟨k, hk, rfl, ht, he⟩ := hrel
    have HT := Lib.hid ht
    have HE := Lib.hid he
    clear he ht
    by_cases hlt : k < len
    case neg =>
      obtain rfl : len = k := by omega
      have hlt' : ¬ (len : Int) < len := by omega
      have HF : RowKit.Hid (gmay bs = true) := Lib.hid (HG.out.2 ⟨by rw [HL.out]; exact h16, fun i hi => HE.out i (by rw [← HL.out]; exact hi)⟩)
      go_wp2
      go_ret
      exact ⟨by rw [HF.out]; rfl, HT.out⟩
    case pos =>
    have hr := HR.out.still HT.out
    obtain ⟨b, off, rfl⟩ := hr.some (by omega)
    have hk1 : k < bs.length := by rw [HL.out]; exact hlt
    obtain ⟨c0, c1, c2⟩ := hr.cells k hk1
    have HK : RowKit.Hid (bs[k]? = some bs[k]) := Lib.hid (List.getElem?_eq_getElem hk1)
    have HFA : RowKit.Hid (okAt bs k = false → gmay bs = false) := Lib.hid (fun h => by
      cases hh : gmay bs with
      | false => rfl
      | true => rw [(HG.out.1 hh).2 k hk1] at h; cases h)
    have HMK := Lib.hid (mayKB_iff bs[k])
    obtain ⟨W1, hW1⟩ : ∃ W, wr.alloc (.cells #[.int .i64 bs[k].id, .int .u32 bs[k].addr, .int .i64 bs[k].weight] 28) = W := ⟨_, rfl⟩
    have t1 : Touch wr W1 (fun _ => False) := hW1 ▸ (Touch.refl wr _).alloc _
    have HR1 := Lib.hid (hr.still t1)
    have g1 : W1.heap[wr.heap.size]? = some (.cells #[.int .i64 bs[k].id, .int .u32 bs[k].addr, .int .i64 bs[k].weight] 28 (0, 0)) := hW1 ▸ heap_alloc_new ..
    have x0 : W1.cell? ⟨wr.heap.size, 0, none⟩ = some (.int .i64 bs[k].id) := cell_of_cells g1 0
    have x2 : W1.cell? ⟨wr.heap.size, 2, none⟩ = some (.int .i64 bs[k].weight) := cell_of_cells g1 2
    have HT1 := Lib.hid (HT.out.trans t1 (fun _ _ h => h))
    have HW1 := Lib.hid hW1
    clear hr t1 g1 hW1
    have hlI : (k : Int) < len := by omega
    by_cases hm : mayKB bs[k] = true
    case neg =>
      have HOK : RowKit.Hid (gmay bs = false) := Lib.hid (HFA.out (by unfold okAt; rw [HK.out]; simp [hm]))
      have hn : ¬ ((0 ≤ bs[k].id ∧ bs[k].id ≤ 65535) ∧ 1 ≤ bs[k].weight ∧ bs[k].weight ≤ 10) := fun h => hm (HMK.out.2 h)
      clear HMK hm HK
      generalize bs[k] = f at *
      clear x0 x2
      by_cases hid : 0 ≤ f.id ∧ f.id ≤ 65535
      · have hd : decide (1 ≤ f.weight ∧ f.weight ≤ 10) = false := decide_eq_false (fun h => hn ⟨hid, h⟩)
        have HWT : RowKit.Hid (∀ W, Calls Try.prog 33 #[.int .i64 f.weight] W fun e w' => e = .returned (.bool false) ∧ w' = W) := Lib.hid (fun W => by rw [← hd]; exact isWeight_any _ W)
        obtain ⟨hid1, hid2⟩ := hid
        clear hn hd
        go_wp2_with (go_at_call 33; (with_reducible refine (HWT.out _).mono ?_); rintro e w9 ⟨rfl, rfl⟩)
        go_ret
        exact ⟨by rw [HOK.out]; rfl, by rw [HW1.out]; exact HT1.out⟩
      · clear hn
        by_cases h0 : f.id < 0
        · clear hid
          go_wp2
          go_ret
          exact ⟨by rw [HOK.out]; rfl, by rw [HW1.out]; exact HT1.out⟩
        · have h1 : f.id > 65535 := by omega
          clear hid
          go_wp2
          go_ret
          exact ⟨by rw [HOK.out]; rfl, by rw [HW1.out]; exact HT1.out⟩
    case pos =>
      have hmm := HMK.out.1 hm
      have hd : decide (1 ≤ bs[k].weight ∧ bs[k].weight ≤ 10) = true := decide_eq_true hmm.2
      have HWT : RowKit.Hid (∀ W, Calls Try.prog 33 #[.int .i64 bs[k].weight] W fun e w' => e = .returned (.bool true) ∧ w' = W) := Lib.hid (fun W => by rw [← hd]; exact isWeight_any _ W)
      obtain ⟨⟨hid1, hid2⟩, _⟩ := hmm
      clear HMK hd
      cases k with
      | zero =>
        have HOK : RowKit.Hid (okAt bs 0 = true) := Lib.hid (by rw [okAt_zero HK.out]; exact hm)
        clear hm HK HFA
        generalize bs[0] = f at *
        simp only [Nat.zero_mul, Nat.add_zero] at c0 c1 c2
        have hx2 := Lib.hid x0
        clear x0 x2
        go_wp2_with (go_at_call 33; (with_reducible refine (HWT.out _).mono ?_); rintro e w9 ⟨rfl, rfl⟩)
        rw [HW1.out]
        go_quiet (fail)
        go_wp2
        exact ⟨⟨1, hlt, rfl, HT1.out.drewN _, fun j hj => by (obtain rfl : j = 0 := (by omega)); exact HOK.out⟩, by simp [intOf]; omega⟩
      | succ k =>
        have hk0 : k < bs.length := by omega
        obtain ⟨d0, -, -⟩ := HR1.out.cells k hk0
        obtain ⟨p, hp⟩ : ∃ p, bs[k] = p := ⟨_, rfl⟩
        rw [hp] at d0
        have hok := okAt_succ HK.out (show bs[k]? = some p by rw [List.getElem?_eq_getElem hk0, hp])
        rw [hm, Bool.true_and] at hok
        have HOK := Lib.hid hok
        clear hm hok HK hp
        generalize bs[k + 1] = f at *
        have hx0 := Lib.hid x0
        have hd0 := Lib.hid d0
        clear x0 x2 d0
        by_cases hlt2 : p.id < f.id
        · have hc : decide (f.id ≤ p.id) = false := decide_eq_false (by omega)
          go_wp2_with (go_at_call 33; (with_reducible refine (HWT.out _).mono ?_); rintro e w9 ⟨rfl, rfl⟩)
          rw [HW1.out]
          have x0 := hx0.out
          have d0 := hd0.out
          go_quiet (fail)
          go_wp2
          refine ⟨⟨k + 2, hlt, by go_num, HT1.out.drewN _, fun j hj => ?_⟩, by simp [intOf]; omega⟩
          rcases Nat.lt_or_ge j (k + 1) with h9 | h9
          · exact HE.out j h9
          · obtain rfl : j = k + 1 := by omega
            rw [HOK.out]; exact decide_eq_true hlt2
        · have HF : RowKit.Hid (gmay bs = false) := Lib.hid (HFA.out (by rw [HOK.out]; exact decide_eq_false hlt2))
          have hc : decide (f.id ≤ p.id) = true := decide_eq_true (by omega)
          go_wp2_with (go_at_call 33; (with_reducible refine (HWT.out _).mono ?_); rintro e w9 ⟨rfl, rfl⟩)
          rw [HW1.out]
          have x0 := hx0.out
          have d0 := hd0.out
          go_quiet (fail)
          go_wp2
          go_ret
          exact ⟨by rw [HF.out]; rfl, HT1.out.drewN _⟩
end Go.Proofs.Ytfjnhaoiecndpaa
