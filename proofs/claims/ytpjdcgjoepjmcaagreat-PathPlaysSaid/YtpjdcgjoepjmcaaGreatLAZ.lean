import Derived.Test.YtpjdcgjoepjmcaaGreatHAZ
import Derived.Test.YtpjdcgjoepjmcaaGreatHBZ
import Derived.Test.YtpjdcgjoepjmcaaGreatGBZ
import Derived.Test.YtpjdcgjoepjmcaaGreatHCZ
import Derived.Test.YtpjdcgjoepjmcaaGreatHFZ
import Derived.Test.YtpjdcgjoepjmcaaGreatGAZ
import Derived.Deep.DeepCutAuto
import Derived.Deep.AppendLies
import Derived.Test.YtpjdcgjoepjmcaaGreatKOZ
set_option linter.unusedVariables false
set_option linter.unusedSimpArgs false
section
namespace Go.Proofs.YtpjdcgjoepjmcaaGreat
theorem walk_first (T : List Int) (sk : Nat) (h0 : 0 < T.length) : ∀ (f j a : Nat), j < f → a < T.length → T.getD ((a + j * sk) % T.length) 0 = -1 →
 ∃ q, q ≤ j ∧ walkF T sk f a = (a + q * sk) % T.length ∧ T.getD ((a + q * sk) % T.length) 0 = -1 ∧ ∀ p, p < q → T.getD ((a + p * sk) % T.length) 0 ≠ -1
 | 0, _, _, h, _, _ => by omega
 | f + 1, j, a, hj, ha, h => by
   have e0 : (a + 0 * sk) % T.length = a := by rw [Nat.zero_mul, Nat.add_zero, Nat.mod_eq_of_lt ha]
   unfold walkF
   by_cases hc : T.getD a 0 = -1
   ·rw [if_pos hc]
    exact ⟨0, Nat.zero_le _, e0.symm, by rw [e0]; exact hc, fun p hp => by omega⟩
   ·rw [if_neg hc]
    cases j with
    | zero => rw [e0] at h; exact absurd h hc
    | succ j =>
      have e : ∀ q, ((a + sk) % T.length + q * sk) % T.length = (a + (q + 1) * sk) % T.length := fun q => by
       rw [Nat.mod_add_mod, show a + sk + q * sk = a + (q + 1) * sk from by rw [Nat.succ_mul]; omega]
      obtain ⟨q, h1, h2, h3, h4⟩ := walk_first T sk h0 f j _ (by omega) (Nat.mod_lt _ h0) (by rw [e]; exact h)
      rw [e] at h2 h3
      refine ⟨q + 1, by omega, h2, h3, fun p hp => ?_⟩
      cases p with
      | zero => rw [e0]; exact hc
      | succ p => rw [← e]; exact h4 p (by omega)
structure RInv (rs : List Rw) (n : Nat) (S : List Int × List Rw) (N : List Nat) (k : Nat) : Prop where
 len : N.length = rs.length
 at_ : ∀ (i : Nat) (r : Rw), rs[i]? = some r → ∃ x p, N[i]? = some x ∧ S.2[i]? = some { r with pos := p } ∧ x ≤ n * k ∧ ((x = 0 ∧ p = r.pos) ∨ (0 < x ∧ p = (r.pos + (x - 1) * r.sk) % n ∧ S.1.getD p 0 ≠ -1))
theorem rinv0 (rs : List Rw) (n : Nat) : RInv rs n (stM rs n 0) (List.replicate rs.length 0) 0 :=
 ⟨by simp, fun i r hr => ⟨0, r.pos, by
  have := (List.getElem?_eq_some_iff.1 hr).1
  simp [List.getElem?_replicate, this], hr, by omega, .inl ⟨rfl, rfl⟩⟩⟩
theorem rinvS {rs : List Rw} {n k : Nat} {S : List Int × List Rw} {N : List Nat} (h : Rws rs n) (hk : k < n) (hI : MInv rs n k S) (R : RInv rs n S N k) {i : Nat} {r : Rw} (hr : rs[i]? = some r) :
 ∃ x q, N[i]? = some x ∧ x + q + 1 ≤ n * (k + 1) ∧ q < n ∧ S.1.getD ((r.pos + (x + q) * r.sk) % n) 0 = -1 ∧ (∀ p, p < q → S.1.getD ((r.pos + (x + p) * r.sk) % n) 0 ≠ -1) ∧
   takeT S i = (S.1.set ((r.pos + (x + q) * r.sk) % n) r.id, S.2.set i { r with pos := (r.pos + (x + q) * r.sk) % n }) ∧ RInv rs n (takeT S i) (N.set i (x + q + 1)) (k + 1) := by
 obtain ⟨x, p, hx, hp, hxn, hc⟩ := R.at_ i r hr
 obtain ⟨e1, e2, e3, e4, e5, e6, e7⟩ := h.each r (List.mem_of_getElem? hr)
 have hn : S.1.length = n := hI.tl
 have hn0 : 0 < n := by omega
 have hpl : p < n := (hI.same i _ hp).1
 have hfree : 0 < S.1.count (-1) := by have := hI.free; omega
 obtain ⟨y, hy, he⟩ := List.getElem_of_mem (List.count_pos_iff.1 hfree)
 obtain ⟨j, hj, hjr⟩ := reach n h.prm p r.sk y hpl e6 e7 (by omega)
 obtain ⟨q0, h1, h2, h3, h4⟩ := walk_first S.1 r.sk (by omega) n j p hj (by omega) (by rw [hn, hjr, List.getD_eq_getElem?_getD, List.getElem?_eq_getElem hy, he]; rfl)
 rw [hn] at h2 h3 h4
 obtain ⟨q, hq, hqe⟩ : ∃ q, q < n ∧ (∀ z, (x = 0 ∧ (r.pos + (x + z) * r.sk) % n = (p + z * r.sk) % n) ∨ (0 < x ∧ (r.pos + (x + z) * r.sk) % n = (p + (z + 1) * r.sk) % n)) ∧ ((x = 0 ∧ q0 = q) ∨ (0 < x ∧ q0 = q + 1)) := by
  rcases hc with ⟨rfl, rfl⟩ | ⟨hx0, hpe, hpt⟩
  ·exact ⟨q0, by omega, fun z => .inl ⟨rfl, by rw [Nat.zero_add]⟩, .inl ⟨rfl, rfl⟩⟩
  ·have hq0 : q0 ≠ 0 := by
    rintro rfl
    rw [Nat.zero_mul, Nat.add_zero, Nat.mod_eq_of_lt hpl] at h3
    exact hpt h3
   refine ⟨q0 - 1, by omega, fun z => .inr ⟨hx0, ?_⟩, .inr ⟨hx0, by omega⟩⟩
   rw [hpe, Nat.mod_add_mod]
   congr 1
   obtain ⟨u, rfl⟩ : ∃ u, x = u + 1 := ⟨x - 1, by omega⟩
   rw [Nat.add_sub_cancel, show u + 1 + z = u + (z + 1) from by omega, Nat.add_mul u (z + 1), Nat.add_assoc]
 obtain ⟨hz, hq2⟩ := hqe
 have ea : (r.pos + (x + q) * r.sk) % n = (p + q0 * r.sk) % n := by
  rcases hq2 with ⟨a, b⟩ | ⟨a, b⟩
  ·rcases hz q with ⟨_, e⟩ | ⟨e, _⟩
   ·rw [e, b]
   ·omega
  ·rcases hz q with ⟨e, _⟩ | ⟨_, e⟩
   ·omega
   ·rw [e, b]
 have hal : (r.pos + (x + q) * r.sk) % n < n := Nat.mod_lt _ hn0
 have hT : takeT S i = (S.1.set ((r.pos + (x + q) * r.sk) % n) r.id, S.2.set i { r with pos := (r.pos + (x + q) * r.sk) % n }) := by
  rw [takeT_some hp]
  show (S.1.set (walkF S.1 r.sk S.1.length p) r.id, S.2.set i { r with pos := walkF S.1 r.sk S.1.length p }) = _
  rw [hn, h2, ← ea]
 have hbound : x + q + 1 ≤ n * (k + 1) := by rw [Nat.mul_succ]; omega
 refine ⟨x, q, hx, hbound, hq, by rw [ea]; exact h3, fun z hzq => ?_, hT, ?_⟩
 ·rcases hq2 with ⟨a, b⟩ | ⟨a, b⟩
  ·rcases hz z with ⟨_, e⟩ | ⟨e, _⟩
   ·rw [e]; exact h4 z (by omega)
   ·omega
  ·rcases hz z with ⟨e, _⟩ | ⟨_, e⟩
   ·omega
   ·rw [e]; exact h4 (z + 1) (by omega)
 ·have hir : i < rs.length := (List.getElem?_eq_some_iff.1 hr).1
  have hset : ∀ b, (S.1.set ((r.pos + (x + q) * r.sk) % n) r.id).getD b 0 ≠ -1 ∨ (b ≠ (r.pos + (x + q) * r.sk) % n ∧ (S.1.set ((r.pos + (x + q) * r.sk) % n) r.id).getD b 0 = S.1.getD b 0) := fun b => by
   by_cases hb : b = (r.pos + (x + q) * r.sk) % n
   ·left
    rw [hb, List.getD_eq_getElem?_getD, List.getElem?_set_self (by omega)]
    simp; omega
   ·right
    refine ⟨hb, ?_⟩
    rw [List.getD_eq_getElem?_getD, List.getElem?_set_ne (fun e => hb e.symm), List.getD_eq_getElem?_getD]
  refine ⟨by simp [R.len], fun i' r' hr' => ?_⟩
  rw [hT]
  by_cases hii : i = i'
  ·subst hii
   obtain rfl : r = r' := by rw [hr] at hr'; simpa using hr'
   refine ⟨x + q + 1, (r.pos + (x + q) * r.sk) % n, ?_, ?_, hbound, .inr ⟨by omega, by simp, ?_⟩⟩
   ·rw [List.getElem?_set_self (by rw [R.len]; exact hir)]
   ·exact List.getElem?_set_self (by rw [hI.rl]; exact hir)
   ·rcases hset ((r.pos + (x + q) * r.sk) % n) with h5 | ⟨h5, _⟩
    ·exact h5
    ·exact absurd rfl h5
  ·obtain ⟨x', p', hx', hp', hxn', hc'⟩ := R.at_ i' r' hr'
   refine ⟨x', p', ?_, ?_, Nat.le_trans hxn' (Nat.mul_le_mul_left _ (Nat.le_succ _)), hc'.imp (fun h => h) (fun h5 => ⟨h5.1, h5.2.1, ?_⟩)⟩
   ·rw [List.getElem?_set_ne hii]; exact hx'
   ·show (S.2.set i _)[i']? = _
    rw [List.getElem?_set_ne hii]; exact hp'
   ·rcases hset p' with h6 | ⟨_, h6⟩
    ·exact h6
    ·show (S.1.set _ _).getD p' 0 ≠ -1
     rw [h6]; exact h5.2.2
end Go.Proofs.YtpjdcgjoepjmcaaGreat
end
section
namespace Go.Proofs.YtpjdcgjoepjmcaaGreat
open Go.RowKit
set_option maxHeartbeats 400000 in
theorem rmayS_any (n : Nat) (w : World) (h3 : 3 ≤ n) (h251 : n ≤ 251) :
 Calls Tryz.prog 72 #[.int .i64 n] w fun e w' => e = .returned (.bool (mayS n)) ∧ w = w' := by
 have hw : ∀ k : Nat, k ≤ 16 → k * k ≤ 256 := fun k hk => Nat.mul_le_mul hk hk
 have HW := Lib.hid hw
 have HM := Lib.hid (mayS_iff n)
 clear hw
 go_enter Tryz.func72, Tryz.ntmps72
 go_wp2_with fail
 go_loop [3] (fun i => ∃ k : Nat, 2 ≤ k ∧ k ≤ 16 ∧ i = .int .i64 k ∧ ∀ j, j < k → ¬ (2 ≤ j ∧ j * j ≤ n ∧ n % j = 0)) (fun i => 16 - (intOf i).toNat)
 case atStart => exact ⟨2, by omega, by omega, rfl, fun j h1 h2 => by omega⟩
 case round =>
  obtain ⟨k, hk2, hk, rfl, ha⟩ := hrel
  have HA := Lib.hid ha
  have hw := HW.out k hk
  obtain ⟨K, hK⟩ : ∃ K, k * k = K := ⟨_, rfl⟩
  have hKI : (k : Int) * (k : Int) = (K : Int) := by rw [← hK]; norm_cast
  have hrem : Int.tmod (n : Int) (k : Int) = ((n % k : Nat) : Int) := by
   rw [Int.tmod_eq_emod_of_nonneg (by omega)]; norm_cast
  have hrem2 : (n : Int) % (k : Int) = ((n % k : Nat) : Int) := by norm_cast
  rw [hK] at hw
  have HK := Lib.hid hK
  obtain ⟨M, hM⟩ : ∃ M, n % k = M := ⟨_, rfl⟩
  have HMM := Lib.hid hM
  rw [hM] at hrem hrem2
  have hn0 : ((k : Int) == 0) = false := beq_eq_false_iff_ne.2 (by omega)
  have hn1 : ¬ k = 0 := by omega
  have hw0 : IntKind.i64.wrap (K : Int) = (K : Int) := IntWalk.i64_in _ (by omega)
  have hwm : IntKind.i64.wrap (M : Int) = (M : Int) := IntWalk.i64_in _ (by rw [← hM]; have := Nat.mod_le n k; omega)
  have hw1 : IntKind.i64.wrap ((k : Int) + 1) = (k : Int) + 1 := IntWalk.i64_in _ (by omega)
  clear ha hK hM
  by_cases hc : K ≤ n
  ·have hcI : (K : Int) ≤ (n : Int) := by omega
   have hk15 : k ≤ 15 := by
    rcases Nat.lt_or_ge k 16 with h9 | h9
    ·omega
    ·have e : k = 16 := by omega
     have := HK.out
     rw [e] at this
     omega
   by_cases hm : M = 0
   ·subst hm
    have HF : RowKit.Hid (mayS n = false) := Lib.hid (by
     cases hh : mayS n with
     | false => rfl
     | true => exact absurd ⟨hk2, by rw [HK.out]; exact hc, HMM.out⟩ (HM.out.1 hh k (by omega)))
    go_wp2
    go_ret
    exact ⟨by rw [HF.out]; rfl, rfl⟩
   ·have hmI : ¬ (M : Int) = 0 := by omega
    have hmI2 : ((M : Int) == 0) = false := beq_eq_false_iff_ne.2 hmI
    go_wp2
    refine ⟨⟨k + 1, by omega, by omega, by go_num, fun j h1 => ?_⟩, by simp [intOf]; omega⟩
    rcases Nat.lt_or_ge j k with h9 | h9
    ·exact HA.out j h9
    ·have e : j = k := by omega
     subst e
     rintro ⟨_, _, h4⟩
     exact hm (HMM.out ▸ h4)
  ·have hcI : ¬ (K : Int) ≤ (n : Int) := by omega
   have HT : RowKit.Hid (mayS n = true) := Lib.hid (by
    rw [HM.out]
    intro j hj
    rcases Nat.lt_or_ge j k with h9 | h9
    ·exact HA.out j h9
    ·rintro ⟨_, h5, _⟩
     have := Nat.mul_le_mul h9 h9
     have := HK.out
     omega)
   go_wp2
   go_ret
   exact ⟨by rw [HT.out]; rfl, rfl⟩
theorem enter_mixR (a b : Value) (w : World) : (callFunc 102 #[a, b]).run Tryz.prog w = .ok (.enter 102 #[a, b]) w := by kernel_rfl
theorem addI_runR (a b c : Int) (h : a + b = c ∧ -9223372036854775808 ≤ c ∧ c ≤ 9223372036854775807) (x y : Operand) (W : World) :
 (do eqGuard BinOp.add 3 x y (.int .i64 a) (.int .i64 b); binOp BinOp.add 3 (.int .i64 a) (.int .i64 b) : Sem Value).run Tryz.prog W = .ok (.int .i64 c) W := by
 obtain ⟨rfl, h1, h2⟩ := h
 have hw : wrap64 (a + b) = a + b := by unfold wrap64; omega
 have hw2 : IntKind.i64.wrap (a + b) = a + b := IntWalk.i64_in _ (by omega)
 go_simp
theorem subI_runR (a b c : Int) (h : a - b = c ∧ -9223372036854775808 ≤ c ∧ c ≤ 9223372036854775807) (x y : Operand) (W : World) :
 (do eqGuard BinOp.sub 3 x y (.int .i64 a) (.int .i64 b); binOp BinOp.sub 3 (.int .i64 a) (.int .i64 b) : Sem Value).run Tryz.prog W = .ok (.int .i64 c) W := by
 obtain ⟨rfl, h1, h2⟩ := h
 have hw : wrap64 (a - b) = a - b := by unfold wrap64; omega
 have hw2 : IntKind.i64.wrap (a - b) = a - b := IntWalk.i64_in _ (by omega)
 go_simp
theorem remU_run (a b c : Nat) (h : a % b = c ∧ 0 < b ∧ b ≤ 4294967295) (x y : Operand) (W : World) :
 (do eqGuard BinOp.rem 24 x y (.int .u32 a) (.int .u32 b); binOp BinOp.rem 24 (.int .u32 a) (.int .u32 b) : Sem Value).run Tryz.prog W = .ok (.int .u32 c) W := by
 obtain ⟨rfl, h2, h3⟩ := h
 have h0 : ((b : Int) == 0) = false := by rw [beq_eq_false_iff_ne]; omega
 have h1 : (a : Int).tmod b = ((a % b : Nat) : Int) := by rw [Int.tmod_eq_emod_of_nonneg (by omega)]; omega
 have hlt := Nat.mod_lt a h2
 have hw2 : IntKind.u32.wrap ((a % b : Nat) : Int) = ((a % b : Nat) : Int) := by rw [IntKind.wrap_u32]; omega
 rw [← h1] at hw2 ⊢
 go_simp
 all_goals omega
theorem be_id (id : Int) (h : 0 ≤ IntKind.u32.wrap id ∧ IntKind.u32.wrap id ≤ 4294967295) : beB 4 (u64N (IntKind.u32.wrap id)) = id4 id := by
 rw [IntKind.wrap_u32] at h ⊢
 simp [beB, List.range_succ, u64N, id4]
 omega
set_option maxRecDepth 20000 in
set_option maxHeartbeats 2000000 in
theorem rrow_any (id : Int) (n : Nat) (w : World) (hp : Prm n) :
 Calls Tryz.prog 73 #[.int .i64 id, .int .i64 n] w fun e w' => e = .returned (.tuple #[.int .i64 (offF id n : Nat), .int .i64 (skF id n : Nat)]) ∧ Touch w w' (fun _ => False) := by
 have h3 := hp.lo
 have h251 := hp.hi
 have HM := Lib.hid (rmayS_any n w h3 h251)
 rw [prm_may hp] at HM
 obtain ⟨u, hu⟩ : ∃ u, IntKind.u32.wrap id = u := ⟨_, rfl⟩
 have hu2 : 0 ≤ u ∧ u ≤ 4294967295 := by rw [← hu, IntKind.wrap_u32]; omega
 have HBI : RowKit.Hid (beB 4 (u64N u) = id4 id) := Lib.hid (by rw [← hu]; exact be_id id (by rw [hu]; exact hu2))
 have HU := Lib.hid (fun W => ref_u32 u W hu2)
 go_enter Tryz.func73, Tryz.ntmps73
 go_wp2_with (go_at_call 72; (with_reducible refine HM.out.mono ?_); rintro e w9 ⟨rfl, rfl⟩)
 (with_reducible refine (HU.out _).mono ?_)
 rintro e w5 ⟨ra, rc, rfl, hfb⟩
 have hrow := hfb.row'.2
 rw [HBI.out] at hrow
 have HR := Lib.hid hrow
 have HT := Lib.hid hfb.2
 clear hrow hfb hu2
 obtain ⟨X1, hX1⟩ : ∃ X, mixF 1 (id4 id) = X := ⟨_, rfl⟩
 obtain ⟨X2, hX2⟩ : ∃ X, mixF 2 (id4 id) = X := ⟨_, rfl⟩
 have HM1 : RowKit.Hid (∀ W, (RowB W ra 4 rc (id4 id) ∧ Touch w5 W (fun _ => False)) → Calls Tryz.prog 102 #[.int .u32 1, .slice ra 4 rc] W fun e w' => e = .returned (.int .u32 (X1 : Nat)) ∧ ∃ n, w' = W.drewN n) := Lib.hid (fun W h => hX1 ▸ rmix_any 1 ra 4 rc (id4 id) W (by omega) h.1)
 have HM2 : RowKit.Hid (∀ W, (RowB W ra 4 rc (id4 id) ∧ Touch w5 W (fun _ => False)) → Calls Tryz.prog 102 #[.int .u32 2, .slice ra 4 rc] W fun e w' => e = .returned (.int .u32 (X2 : Nat)) ∧ ∃ n, w' = W.drewN n) := Lib.hid (fun W h => hX2 ▸ rmix_any 2 ra 4 rc (id4 id) W (by omega) h.1)
 have HO : RowKit.Hid (offF id n = X1 % n) := Lib.hid (by unfold offF; rw [hX1])
 have HS : RowKit.Hid (skF id n = X2 % (n - 1) + 1) := Lib.hid (by unfold skF; rw [hX2])
 clear hX1 hX2
 obtain ⟨m, hm⟩ : ∃ m, n = m + 1 := ⟨n - 1, by omega⟩
 have hb1 : X1 % n < n := Nat.mod_lt _ (by omega)
 have hb2 : X2 % (n - 1) < n - 1 := Nat.mod_lt _ (by omega)
 have e1 : n - 1 = m := by omega
 rw [e1] at HS hb2
 obtain ⟨O1, hO1⟩ : ∃ O, X1 % n = O := ⟨_, rfl⟩
 obtain ⟨O2, hO2⟩ : ∃ O, X2 % m = O := ⟨_, rfl⟩
 rw [hO1] at HO hb1
 rw [hO2] at HS hb2
 have HB1 : RowKit.Hid (X1 % n = O1 ∧ 0 < n ∧ n ≤ 4294967295) := Lib.hid ⟨hO1, by omega, by omega⟩
 have HB2 : RowKit.Hid ((n : Int) - 1 = (m : Int) ∧ -9223372036854775808 ≤ (m : Int) ∧ (m : Int) ≤ 9223372036854775807) := Lib.hid (by omega)
 have HB3 : RowKit.Hid (X2 % m = O2 ∧ 0 < m ∧ m ≤ 4294967295) := Lib.hid ⟨hO2, by omega, by omega⟩
 have HB4 : RowKit.Hid ((O2 : Int) + 1 = ((O2 + 1 : Nat) : Int) ∧ -9223372036854775808 ≤ ((O2 + 1 : Nat) : Int) ∧ ((O2 + 1 : Nat) : Int) ≤ 9223372036854775807) := Lib.hid (by omega)
 have hw1 : IntKind.u32.wrap (n : Int) = (n : Int) := by rw [IntKind.wrap_u32]; omega
 have hw2 : IntKind.u32.wrap (m : Int) = (m : Int) := by rw [IntKind.wrap_u32]; omega
 have hw3 : IntKind.i64.wrap (O1 : Int) = (O1 : Int) := IntWalk.i64_in _ (by omega)
 have hw4 : IntKind.i64.wrap (O2 : Int) = (O2 : Int) := IntWalk.i64_in _ (by omega)
 clear hm e1 hb1 hb2 hO1 hO2
 go_wp2_with fail
 have hS := (show RowB w5.drew ra 4 rc (id4 id) ∧ Touch w5 w5.drew (fun _ => False) from ⟨HR.out.touch ((Touch.refl w5 (fun _ => False)).drew) (fun _ _ => .inr (fun h => h)), (Touch.refl w5 (fun _ => False)).drew⟩)
 refine wp_region_tree (fun w' => RowB w' ra 4 rc (id4 id) ∧ Touch w5 w' (fun _ => False)) (.take 0 (.take 2 (.take 3 (.take 6 (.take 8 (.take 9 (.take 10 (.one 1 (.take 4 (.take 5 (.one 7 (.take 11 (.take 12 (.take 13 (.take 14 (.take 15 .fin)))))))))))))))) (by kernel_rfl) (by kernel_rfl) (by kernel_rfl) (by kernel_rfl) hS ?_
 repeat' (first
  | (with_reducible refine walkT_take ?_)
  | (with_reducible refine walkT_one ?_)
  | (with_reducible refine walkT_two ?_ ?_)
  | (with_reducible refine walkT_fin ?_)
  | ((with_reducible show TakeN _ _ _ _ 9 _ _ _); ((refine takeN_bin (some 22) _ _ _ _ _ _ _ _ (subI_runR _ _ _ HB2.out) rfl rfl rfl rfl rfl (fun _ _ _ h => h) (by rfl) ?_; (try simp only [Act.put, List.setIfInBounds_toArray, List.set_cons_zero, List.set_cons_succ]))))
  | ((with_reducible show TakeN _ _ _ _ 4 _ _ _); ((refine takeN_bin (some 17) _ _ _ _ _ _ _ _ (remU_run _ _ _ HB1.out) rfl rfl rfl rfl rfl (fun _ _ _ h => h) (by rfl) ?_; (try simp only [Act.put, List.setIfInBounds_toArray, List.set_cons_zero, List.set_cons_succ]))))
  | ((with_reducible show TakeN _ _ _ _ 11 _ _ _); ((refine takeN_bin (some 24) _ _ _ _ _ _ _ _ (remU_run _ _ _ HB3.out) rfl rfl rfl rfl rfl (fun _ _ _ h => h) (by rfl) ?_; (try simp only [Act.put, List.setIfInBounds_toArray, List.set_cons_zero, List.set_cons_succ]))))
  | ((with_reducible show TakeN _ _ _ _ 13 _ _ _); ((refine takeN_bin (some 26) _ _ _ _ _ _ _ _ (addI_runR _ _ _ HB4.out) rfl rfl rfl rfl rfl (fun _ _ _ h => h) (by rfl) ?_; (try simp only [Act.put, List.setIfInBounds_toArray, List.set_cons_zero, List.set_cons_succ]))))
  | ((with_reducible show TakeN _ _ _ _ _ _ _ _); ((refine takeN_take (v := ?_) (some _) rfl rfl (fun _ _ _ h => h) (by rfl) ?_ ?_; rotate_left; (focus (intro w' hw'; go_simp; (try with_reducible rfl))); (try simp only [Act.put, List.setIfInBounds_toArray, List.set_cons_zero, List.set_cons_succ]))))
  | ((with_reducible show RunN _ _ _ _ 1 _ _ _); ((refine runN_call 14 102 _ _ _ (HM1.out _ hS) rfl rfl rfl (by rfl) rfl (enter_mixR _ _ _) ?_; rintro e x9 ⟨rfl, n9, rfl⟩; refine ⟨_, rfl, ⟨hS.1.drewN _, hS.2.drewN _⟩, fun hS => ?_⟩; (try simp only [Act.put, List.setIfInBounds_toArray, List.set_cons_zero, List.set_cons_succ]))))
  | ((with_reducible show RunN _ _ _ _ 7 _ _ _); ((refine runN_call 20 102 _ _ _ (HM2.out _ hS) rfl rfl rfl (by rfl) rfl (enter_mixR _ _ _) ?_; rintro e x9 ⟨rfl, n9, rfl⟩; refine ⟨_, rfl, ⟨hS.1.drewN _, hS.2.drewN _⟩, fun hS => ?_⟩; (try simp only [Act.put, List.setIfInBounds_toArray, List.set_cons_zero, List.set_cons_succ])))))
 all_goals
  go_wp2_with fail
  go_ret2
  exact ⟨by rw [HO.out, HS.out]; rfl, HT.out.trans hS.2 (fun _ _ h => h)⟩
end Go.Proofs.YtpjdcgjoepjmcaaGreat
end
section
namespace Go.Proofs.YtpjdcgjoepjmcaaGreat
open Go.RowKit
def nI (N : List Nat) : List Int := N.map (fun x : Nat => (x : Int))
theorem set_same {N : List Nat} {x z : Nat} (h : N[x]? = some z) : N.set x z = N := by
 obtain ⟨h1, rfl⟩ := List.getElem?_eq_some_iff.1 h
 exact List.set_getElem_self h1
set_option maxRecDepth 20000 in
set_option maxHeartbeats 8000000 in
theorem rtable_any (a : Option Addr) (len cap n : Nat) (bs : List BkD) (w : World) (hp : Prm n) (hr : RowK w a len cap bs) :
 Calls Tryz.prog 38 #[.slice a len cap, .int .i64 n] w fun e w' => ∃ G, e = .returned (.slice (some ⟨G, 0, none⟩) n n) ∧ OwnT w' w.heap.size (.slice (some ⟨G, 0, none⟩) n n) (tabF bs n) ∧ Touch w w' (fun _ => False) := by
 obtain ⟨i0, hi, hz0, hz1, hz2⟩ := info_parts infoI
 have hl := hr.len
 have hcap := hr.hmax
 have hcap1 := hr.hcap
 have hn3 := hp.lo
 have hn251 := hp.hi
 have HR := Lib.hid hr
 have HL := Lib.hid hl
 have HP := Lib.hid hp
 have HM := Lib.hid (rmayS_any n w hn3 hn251)
 rw [prm_may hp] at HM
 clear hr hl hp
 go_enter Tryz.func38, Tryz.ntmps38
 go_wp2_with (first
  | (go_at_call 72; (with_reducible refine HM.out.mono ?_); rintro e w9 ⟨rfl, rfl⟩)
  | (at_make; refine wpList_make_full _ rfl _ _ 40 rfl w.heap.size 3 i0 (.int .i64 0) 1 Tryz.underlying40 hi hz0 hz1 .i64 .i64 _ _ n rfl rfl rfl rfl (by rw [hz2]; omega) (by simp only [maxLen]; omega) (Nat.le_refl _) ?_; intro w1 own1 grown1))
 have HO0 := Lib.hid (OwnT.made own1)
 have HT0 := Lib.hid ((Touch.refl w (fun _ => False)).grown grown1 (by intro k hk; cases hk))
 clear own1 grown1
 obtain ⟨G, hG⟩ : ∃ G, w.heap.size = G := ⟨_, rfl⟩
 rw [hG] at HO0 ⊢
 have HGG := Lib.hid hG
 clear hG
 go_loopw [22] (fun i wr => ∃ k : Nat, k ≤ n ∧ i = .int .i64 k ∧ OwnT wr G (.slice (some ⟨G, 0, none⟩) n n) (List.replicate k (-1) ++ List.replicate (n - k) 0) ∧ Touch w wr (fun _ => False)) (fun i _ => n - (intOf i).toNat)
 case atStart => exact ⟨0, Nat.zero_le _, rfl, by simpa using HO0.out, HT0.out⟩
 case round =>
  obtain ⟨k, hk, rfl, ho, ht⟩ := hrel
  have HT := Lib.hid ht
  have HO := Lib.hid ho
  by_cases hlt : k < n
  case pos =>
   have hkI : (k : Int) < n := by omega
   have hkl : k < (List.replicate k (-1 : Int) ++ List.replicate (n - k) 0).length := by simp; omega
   have hc := ho.at_ k hkl
   have hf := ho.free k
   have hst := ho.stored k hkl (-1)
   rw [set_fill n k hlt] at hst
   have HS := Lib.hid hst
   have HT2 : RowKit.Hid (Touch w (wr.setCell ⟨G, k, none⟩ (.int .i64 (-1))) (fun _ => False)) := Lib.hid (ht.setCell _ _ (fun h => absurd h (by rw [HGG.out]; exact Nat.lt_irrefl _)))
   obtain ⟨y, hy⟩ : ∃ y, (List.replicate k (-1 : Int) ++ List.replicate (n - k) 0)[k] = y := ⟨_, rfl⟩
   rw [hy] at hc
   clear ho ht hst hy
   go_wp2
   exact ⟨⟨k + 1, hlt, by go_num, HS.out, HT2.out⟩, by simp [intOf]; omega⟩
  case neg =>
   obtain rfl : n = k := by omega
   have hlt' : ¬ (n : Int) < n := by omega
   have HO : RowKit.Hid (OwnT wr G (.slice (some ⟨G, 0, none⟩) n n) (List.replicate n (-1))) := Lib.hid (by simpa using HO.out)
   clear ho ht
   by_cases h0 : len = 0
   ·subst h0
    have HF : RowKit.Hid (tabF bs n = List.replicate n (-1)) := Lib.hid (by unfold tabF; rw [if_pos (.inl HL.out)])
    go_wp2
    go_ret
    exact ⟨G, rfl, by rw [HF.out, HGG.out]; exact HO.out, HT.out⟩
   ·have h0I : ¬ (len : Int) = 0 := by omega
    have h0B : ((len : Int) == 0) = false := beq_eq_false_iff_ne.2 h0I
    have HMM := Lib.hid (rgmay_any a len cap bs wr (HR.out.still HT.out))
    by_cases hg : gmay bs = true
    ·rw [hg] at HMM
     have HF : RowKit.Hid (tabF bs n = (stM (rowsF bs n) n n).1) := Lib.hid (by unfold tabF; rw [if_neg (by rw [HL.out, hg]; simp [h0])])
     have HG := Lib.hid hg
     have hl16 : len ≤ 16 := by have := ((gmay_iff bs).1 hg).1; have := HL.out; omega
     clear hg
     go_wp2_with (first
      | (go_at_call 44; (with_reducible refine HMM.out.mono ?_); rintro e w9 ⟨rfl, t9⟩; have HT9 := Lib.hid (HT.out.trans t9 (fun _ _ h => h)); have HO9 := Lib.hid (HO.out.touch t9 (fun _ _ h => h)); clear t9)
      | (at_make; refine wpList_make_full _ rfl _ _ 40 rfl w9.heap.size 3 i0 (.int .i64 0) 1 Tryz.underlying40 hi hz0 hz1 .i64 .i64 _ _ len rfl rfl rfl rfl (by rw [hz2]; omega) (by simp only [maxLen]; omega) (Nat.le_refl _) ?_; intro w2 own2 grown2))
     obtain ⟨R, hR⟩ : ∃ R, w9.heap.size = R := ⟨_, rfl⟩
     have HN0 := Lib.hid (OwnT.made own2)
     have t2 := (Touch.refl w9 (fun _ => False)).grown grown2 (by intro k hk; cases hk)
     have HO2 := Lib.hid (HO9.out.touch t2 (fun _ _ h => h))
     have HT2 := Lib.hid (HT9.out.trans t2 (fun _ _ h => h))
     have HGR : RowKit.Hid (G < R) := Lib.hid (by rw [← hR]; exact HO9.out.lt.2)
     rw [hR] at HN0 ⊢
     clear own2 grown2 t2 HO9 HT9 HO HT hR
     obtain ⟨rs, hrs⟩ : ∃ rs, rowsF bs n = rs := ⟨_, rfl⟩
     have HRW : RowKit.Hid (Rws rs n) := Lib.hid (hrs ▸ rows_fine HP.out HG.out)
     have HRS := Lib.hid hrs
     have HRL : RowKit.Hid (rs.length = len) := Lib.hid (by rw [← hrs, rowsF_length, HL.out])
     rw [hrs] at HF
     have HINV : RowKit.Hid (∀ k, k ≤ n → MInv rs n k (stM rs n k)) := Lib.hid (inv_all HRW.out (by rw [HRL.out]; omega))
     obtain ⟨NN, hNN⟩ : ∃ N, allW rs = N := ⟨_, rfl⟩
     have hNpos : 0 < NN := by rw [← hNN]; exact allW_pos (fun r hr => (HRW.out.each r hr).2.2.1) (by rw [HRL.out]; omega)
     have HNN := Lib.hid hNN
     clear hrs hNN
     go_loopg [8] n (fun f s wr => ∃ q k N, k = min n (q * NN) ∧ f = n - k ∧ s = .int .i64 ((n : Int) - (k : Int)) ∧ OwnT wr G (.slice (some ⟨G, 0, none⟩) n n) (stM rs n k).1 ∧ OwnT wr R (.slice (some ⟨R, 0, none⟩) len len) (nI N) ∧ RInv rs n (stM rs n k) N k ∧ Touch w2 wr (fun k => k = G ∨ k = R))
     case atStart => exact ⟨0, 0, List.replicate rs.length 0, by omega, by omega, by simp, HO2.out, by have := HN0.out; rw [HRL.out]; simpa [nI] using this, rinv0 rs n, Touch.refl _ _⟩
     case round =>
      obtain ⟨q, k0, N0, hk0, hf0, rfl, hT, hN, hI, ht⟩ := hrel
      have HTO := Lib.hid ht
      have HT := Lib.hid hT
      by_cases hz : k0 < n
      case neg =>
       obtain rfl : k0 = n := by omega
       have hgt : ¬ (0 : Int) < (k0 : Int) - (k0 : Int) := by omega
       clear hT hN hI ht hk0 hf0
       go_wp2_with fail
       go_ret
       exact ⟨G, rfl, by rw [HF.out, HGG.out]; exact HT.out, HT2.out.trans HTO.out (fun k hk e => by have h1 := HGG.out; have h2 := HGR.out; rcases e with e | e <;> omega)⟩
      case pos =>
      have hgt : (0 : Int) < (n : Int) - (k0 : Int) := by omega
      have HK0 : RowKit.Hid (k0 = q * NN) := Lib.hid (by omega)
      have HF0 := Lib.hid hf0
      have HN := Lib.hid hN
      have HI := Lib.hid hI
      clear hT hN hI ht hk0 hf0
      go_wp2_with fail
      go_loopg [8, 46] len (fun f s i wr => ∃ x k N, x ≤ len ∧ k = min n (k0 + pre rs x) ∧ f = len - x ∧ i = .int .i64 (x : Nat) ∧ s = .int .i64 ((n : Int) - (k : Int)) ∧ OwnT wr G (.slice (some ⟨G, 0, none⟩) n n) (stM rs n k).1 ∧ OwnT wr R (.slice (some ⟨R, 0, none⟩) len len) (nI N) ∧ RInv rs n (stM rs n k) N k ∧ Touch w2 wr (fun k => k = G ∨ k = R))
      case atStart => exact ⟨0, k0, N0, Nat.zero_le _, by rw [pre_zero]; omega, by omega, rfl, rfl, HT.out, HN.out, HI.out, HTO.out⟩
      case round =>
       obtain ⟨x, k1, N1, hx, hk1, hf1, rfl, rfl, hT, hN, hI, ht⟩ := hrel
       have HK1 := Lib.hid hk1
       have HF1 := Lib.hid hf1
       have HT1 := Lib.hid hT
       have HN1 := Lib.hid hN
       have HI1 := Lib.hid hI
       have HTO1 := Lib.hid ht
       clear hT hN hI ht hk1 hf1 HT HN HI HTO
       by_cases hxl : x < len
       case neg =>
        obtain rfl : len = x := by omega
        have hlI : ¬ (len : Int) < len := by omega
        go_wp2_with fail
        go_roundg (n - k1)
        case measure =>
         have e1 := HK1.out
         rw [← HRL.out, pre_all, HNN.out] at e1
         have := HF0.out
         omega
        case rel =>
         refine ⟨q + 1, k1, N1, ?_, rfl, rfl, HT1.out, HN1.out, HI1.out, HTO1.out⟩
         have e1 := HK1.out
         rw [← HRL.out, pre_all, HNN.out, HK0.out] at e1
         rw [e1, Nat.succ_mul]
       case pos =>
       have hTw := HT2.out.trans HTO1.out (fun k hk e => by have h1 := HGG.out; have h2 := HGR.out; rcases e with e | e <;> omega)
       have hr := HR.out.still hTw
       obtain ⟨b, off, rfl⟩ := hr.some (by omega)
       have hk1' : x < bs.length := by rw [HL.out]; exact hxl
       obtain ⟨c0, c1, c2⟩ := hr.cells x hk1'
       have hmk := (mayKB_iff _).1 (gmay_at HG.out x hk1')
       have hrx : rs[x]? = some (rwF n bs[x]) := by rw [← HRS.out]; unfold rowsF; rw [List.getElem?_map, List.getElem?_eq_getElem hk1']; rfl
       generalize bs[x] = f at *
       obtain ⟨fi, fa, fw⟩ := f
       obtain ⟨wt, rfl⟩ : ∃ wt : Nat, fw = (wt : Int) := ⟨fw.toNat, by have := hmk.2.1; simp only at this; omega⟩
       obtain ⟨hm1, hm2⟩ := hmk
       simp only at c0 c1 c2 hm1 hm2
       obtain ⟨W1, hW1⟩ : ∃ W, wr.alloc (.cells #[.int .i64 fi, .int .u32 fa, .int .i64 (wt : Nat)] 70) = W := ⟨_, rfl⟩
       obtain ⟨BB, hBB⟩ : ∃ B, wr.heap.size = B := ⟨_, rfl⟩
       have t1 : Touch wr W1 (fun _ => False) := hW1 ▸ (Touch.refl wr _).alloc _
       have g1 : W1.heap[BB]? = some (.cells #[.int .i64 fi, .int .u32 fa, .int .i64 (wt : Nat)] 70 (0, 0)) := hBB ▸ hW1 ▸ heap_alloc_new ..
       have HB1 := Lib.hid g1
       have HBG : RowKit.Hid (BB ≠ G ∧ BB ≠ R) := Lib.hid (by have h1 := HN0.out.lt.2; have h2 := HTO1.out.size; have h3 := HGR.out; omega)
       have HT1 := Lib.hid (HT1.out.touch t1 (fun _ _ h => h))
       have HN1 := Lib.hid (HN1.out.touch t1 (fun _ _ h => h))
       have HTO1 := Lib.hid (HTO1.out.trans t1 (fun _ _ h => h.elim))
       have HW1 := Lib.hid (And.intro hW1 hBB)
       have HRX := Lib.hid hrx
       have HI9 : RowKit.Hid (∀ W, Calls Tryz.prog 73 #[.int .i64 fi, .int .i64 n] W fun e w' => e = .returned (.tuple #[.int .i64 (offF fi n : Nat), .int .i64 (skF fi n : Nat)]) ∧ Touch W w' (fun _ => False)) := Lib.hid (fun W => rrow_any fi n W HP.out)
       have hre := HRW.out.each _ (List.mem_of_getElem? hrx)
       obtain ⟨r, hrr⟩ : ∃ r, rwF n ⟨fi, fa, wt⟩ = r := ⟨_, rfl⟩
       have HRE : RowKit.Hid (r.id = fi ∧ r.wt = wt ∧ r.pos = offF fi n ∧ r.sk = skF fi n) := Lib.hid (by rw [← hrr]; exact ⟨rfl, rfl, rfl, rfl⟩)
       rw [hrr] at HRX hre
       have hlI : (x : Int) < len := by omega
       generalize offF fi n = o1 at *
       generalize skF fi n = s1 at *
       have HRD := Lib.hid hre
       clear hr t1 g1 hW1 hBB hrx hre hrr hTw hk1' hm1 hm2
       go_wp2_with fail
       rw [HW1.out.1, HW1.out.2]
       refine (HI9.out W1).mono ?_
       rintro e w6 ⟨rfl, t6⟩
       have HB6 := Lib.hid (t6.keeps HB1.out (fun h => h))
       have HT6 := Lib.hid (HT1.out.touch t6 (fun _ _ h => h))
       have HN6 := Lib.hid (HN1.out.touch t6 (fun _ _ h => h))
       have HTO6 := Lib.hid (HTO1.out.trans t6 (fun _ _ h => h.elim))
       have HCB : RowKit.Hid (∀ W, Touch w6 W (fun k => k = G ∨ k = R) → W.cell? ⟨BB, 0, none⟩ = some (.int .i64 fi) ∧ W.cell? ⟨BB, 2, none⟩ = some (.int .i64 (wt : Nat))) := Lib.hid (fun W t => by
        have h := t.keeps HB6.out (fun e => by have h1 := HBG.out; rcases e with e | e; exact h1.1 e; exact h1.2 e)
        exact ⟨cell_of_cells h 0, cell_of_cells h 2⟩)
       clear t6
       go_wp2_with fail
       go_loopg [8, 13] wt (fun f s j wr => ∃ y k N, y ≤ wt ∧ k ≤ n ∧ k = k1 + y ∧ f = wt - y ∧ j = .int .i64 (y : Nat) ∧ s = .int .i64 ((n : Int) - (k : Int)) ∧ OwnT wr G (.slice (some ⟨G, 0, none⟩) n n) (stM rs n k).1 ∧ OwnT wr R (.slice (some ⟨R, 0, none⟩) len len) (nI N) ∧ RInv rs n (stM rs n k) N k ∧ Touch w6 wr (fun k => k = G ∨ k = R))
       case atStart => exact ⟨0, k1, N1, Nat.zero_le _, by have := HK1.out; omega, rfl, rfl, rfl, rfl, HT6.out, HN6.out, HI1.out, Touch.refl _ _⟩
       case round =>
        obtain ⟨y, k, N, hy, hkn, hk, hf4, rfl, rfl, hT, hN, hI, ht⟩ := hrel
        obtain ⟨x0, x2⟩ := HCB.out _ ht
        have HT4 := Lib.hid hT
        have HN4 := Lib.hid hN
        have HI4 := Lib.hid hI
        have HTO4 := Lib.hid ht
        have HKY := Lib.hid hk
        have HF4 := Lib.hid hf4
        clear hT hN hI ht hk hf4
        by_cases hgo : y < wt ∧ k < n
        case neg =>
         have hor : (¬ (y : Int) < wt) ∨ ((y : Int) < wt ∧ ¬ (0 : Int) < (n : Int) - (k : Int)) := by omega
         have HGO := Lib.hid hgo
         clear hgo
         rcases hor with hc1 | ⟨hc1, hc2⟩
         all_goals
          go_wp2_with fail
          go_roundg (len - (x + 1))
          case measure => have := HF1.out; omega
          case rel => exact ⟨x + 1, k, N, by omega, by
           have h1 := HGO.out; have h2 := HKY.out; have h3 := HK1.out; have h4 := pre_succ rs x r HRX.out; have h5 := HRE.out.2.1; omega, by omega, by go_num, rfl, HT4.out, HN4.out, HI4.out, HTO6.out.trans HTO4.out (fun _ _ h => h)⟩
        case pos =>
        obtain ⟨hyw, hkz⟩ := hgo
        have hwt : wt ≤ 10 := by have h1 := HRD.out.2.2.2.1; have h2 := HRE.out.2.1; omega
        have hc1 : (y : Int) < wt := by omega
        have hc2 : (0 : Int) < (n : Int) - (k : Int) := by omega
        obtain ⟨z0, q4, hz0, hbd, hq4, hfree, htak, hTK, hI5⟩ := rinvS HRW.out hkz (HINV.out k hkn) HI4.out HRX.out
        have hm : k % NN = pre rs x + y := by
         have e1 : k = q * NN + (pre rs x + y) := by have h1 := HKY.out; have h2 := HK1.out; have h3 := HK0.out; omega
         rw [e1, mod_turn]
         have h1 := pre_wt_le rs x r HRX.out
         have h2 := HNN.out
         have h3 := HRE.out.2.1
         omega
        have hwho : who rs (k % allW rs) = x := by rw [HNN.out, hm]; exact who_pre rs x y r HRX.out (by have h3 := HRE.out.2.1; omega)
        have hE : takeT (stM rs n k) x = stM rs n (k + 1) := by show takeT (stM rs n k) x = takeT (stM rs n k) (who rs (k % allW rs)); rw [hwho]
        rw [hE] at hTK hI5
        have HTK := Lib.hid hTK
        have HI5 := Lib.hid hI5
        have HZ0 := Lib.hid hz0
        have HFR := Lib.hid hfree
        have HTA := Lib.hid htak
        have HBD : RowKit.Hid (z0 + q4 + 1 ≤ 63252) := Lib.hid (by have h1 : n * (k + 1) ≤ 251 * 251 := Nat.mul_le_mul hn251 (by omega); omega)
        have HBS := Lib.hid (HRD.out.2.2.2.2)
        have HXN : RowKit.Hid (x < N.length) := Lib.hid (List.getElem?_eq_some_iff.1 hz0).1
        clear hm hwho hE hTK hI5 hz0 hfree htak hbd hq4
        go_wp2_with fail
        go_loopg [8, 14] q4 (fun f s8 s14 wr => ∃ z, z ≤ q4 ∧ f = q4 - z ∧ s8 = .int .i64 ((n : Int) - (k : Int)) ∧ OwnT wr G (.slice (some ⟨G, 0, none⟩) n n) (stM rs n k).1 ∧ OwnT wr R (.slice (some ⟨R, 0, none⟩) len len) (nI (N.set x (z0 + z))) ∧ Touch w6 wr (fun k => k = G ∨ k = R))
        case atStart => exact ⟨0, Nat.zero_le _, rfl, rfl, HT4.out, by rw [Nat.add_zero, set_same HZ0.out]; exact HN4.out, HTO4.out⟩
        case round =>
         obtain ⟨z, hzq, hfz, rfl, hT, hN, ht⟩ := hrel
         have HFZ := Lib.hid hfz
         have hxl2 : x < (nI (N.set x (z0 + z))).length := by unfold nI; rw [List.length_map, List.length_set]; exact HXN.out
         have nx := hN.at_ x hxl2
         have nf := hN.free x
         have hval : (nI (N.set x (z0 + z)))[x] = ((z0 + z : Nat) : Int) := by simp [nI]
         rw [hval] at nx
         obtain ⟨c, hc⟩ : ∃ c, z0 + z = c := ⟨_, rfl⟩
         rw [hc] at nx
         have hst := hN.stored x hxl2 ((c : Int) + 1)
         have hset : (nI (N.set x (z0 + z))).set x ((c : Int) + 1) = nI (N.set x (z0 + (z + 1))) := by
          unfold nI
          rw [← Nat.add_assoc, hc, show (c : Int) + 1 = ((c + 1 : Nat) : Int) from by omega, ← List.map_set, List.set_set]
         rw [hset] at hst
         obtain ⟨W5, hW5⟩ : ∃ W, wr.setCell ⟨R, x, none⟩ (.int .i64 ((c : Int) + 1)) = W := ⟨_, rfl⟩
         rw [hW5] at hst
         have t5 : Touch wr W5 (fun k => k = R) := hW5 ▸ (Touch.refl wr _).setCell _ _ (fun _ => rfl)
         have hT5 := hT.touch t5 (fun e he h => by have h1 := HGR.out; simp [Value.ownBlock] at he; omega)
         have HTO5 := Lib.hid (ht.trans t5 (fun _ _ h => .inr h))
         obtain ⟨M, hM⟩ : ∃ M, c * s1 = M := ⟨_, rfl⟩
         have hMI : (c : Int) * (s1 : Int) = (M : Int) := by rw [← hM]; norm_cast
         have hMb : M ≤ 63252 * 251 := by rw [← hM]; exact Nat.mul_le_mul (by have := HBD.out; omega) (by have h1 := HBS.out; have h2 := HRE.out.2.2.2; omega)
         obtain ⟨A, hA⟩ : ∃ A, (o1 + M) % n = A := ⟨_, rfl⟩
         have hAn : A < n := by rw [← hA]; exact Nat.mod_lt _ (by omega)
         have ho1 : o1 < n := by have h1 := HBS.out; have h2 := HRE.out.2.2.1; have h3 := HRD.out.2.2.2.2.1; omega
         have hAe : (r.pos + (z0 + z) * r.sk) % n = A := by rw [HRE.out.2.2.1, HRE.out.2.2.2, hc, hM, hA]
         have hrem : Int.tmod ((o1 : Int) + (M : Int)) (n : Int) = (A : Int) := by rw [Int.tmod_eq_emod_of_nonneg (by omega), ← hA]; norm_cast
         have hrem2 : ((o1 : Int) + (M : Int)) % (n : Int) = (A : Int) := by rw [← hA]; norm_cast
         have hn0 : ((n : Int) == 0) = false := beq_eq_false_iff_ne.2 (by omega)
         have hn1 : ¬ n = 0 := by omega
         have hw1 : IntKind.i64.wrap (M : Int) = (M : Int) := IntWalk.i64_in _ (by omega)
         have hw2 : IntKind.i64.wrap ((o1 : Int) + (M : Int)) = (o1 : Int) + (M : Int) := IntWalk.i64_in _ (by omega)
         have hw3 : IntKind.i64.wrap (A : Int) = (A : Int) := IntWalk.i64_in _ (by omega)
         have hcb : c ≤ 63252 := by have := HBD.out; omega
         have hw4 : IntKind.i64.wrap ((c : Int) + 1) = (c : Int) + 1 := IntWalk.i64_in _ (by omega)
         have hTl : A < (stM rs n k).1.length := by rw [(HINV.out k hkn).tl]; exact hAn
         have gx := hT5.at_ A hTl
         have gf := hT5.free A
         have gst := hT5.stored A hTl fi
         have hmem := (HINV.out k hkn).mem _ (List.getElem_mem hTl)
         have hgd : (stM rs n k).1.getD A 0 = (stM rs n k).1[A] := by rw [List.getD_eq_getElem?_getD, List.getElem?_eq_getElem hTl]; rfl
         obtain ⟨v, hv⟩ : ∃ v, (stM rs n k).1[A] = v := ⟨_, rfl⟩
         rw [hv] at gx hmem hgd
         have HST := Lib.hid hst
         have HT5 := Lib.hid hT5
         have HGS := Lib.hid gst
         have HW5 := Lib.hid hW5
         have HAE := Lib.hid hAe
         have HGD := Lib.hid hgd
         obtain ⟨b0, b2⟩ := HCB.out _ HTO5.out
         clear hT hN ht hfz hxl2 hval hc hst hset hW5 t5 hT5 hM hA hAe hTl gst hv hgd x0 x2
         go_upto_region 23 with (fail)
         rw [HW5.out]
         by_cases hzl : z < q4
         case pos =>
          have hv0 : ¬ v < 0 := by
           have h1 := HTA.out z hzl
           rw [HAE.out, HGD.out] at h1
           rcases hmem with h2 | ⟨r2, hr2, h2⟩
           ·exact absurd h2 h1
           ·have := (HRW.out.each r2 hr2).1; omega
          clear hmem
          go_wp2_with fail
          go_roundg (q4 - (z + 1))
          case measure => have := HFZ.out; omega
          case rel => exact ⟨z + 1, by omega, rfl, rfl, HT5.out, HST.out, HTO5.out⟩
         case neg =>
          obtain rfl : z = q4 := by omega
          have hv0 : v = -1 := by have h1 := HFR.out; rw [HAE.out, HGD.out] at h1; exact h1
          subst hv0
          clear hmem
          have HTN : RowKit.Hid ((stM rs n k).1.set A fi = (stM rs n (k + 1)).1) := Lib.hid (by rw [HTK.out, HAE.out, HRE.out.1])
          have HGN : RowKit.Hid (OwnT (W5.setCell ⟨G, A, none⟩ (.int .i64 fi)) G (.slice (some ⟨G, 0, none⟩) n n) (stM rs n (k + 1)).1) := Lib.hid (HTN.out ▸ HGS.out)
          have t7 : Touch W5 (W5.setCell ⟨G, A, none⟩ (.int .i64 fi)) (fun k => k = G) := (Touch.refl W5 _).setCell _ _ (fun _ => rfl)
          have HNN7 := Lib.hid (HST.out.touch t7 (fun e he h => by have h1 := HGR.out; simp [Value.ownBlock] at he; omega))
          have HT7 := Lib.hid (HTO5.out.trans t7 (fun _ _ h => .inl h))
          clear t7
          go_wp2_with fail
          go_roundg (wt - (y + 1))
          case measure => have := HF4.out; omega
          case rel => exact ⟨y + 1, k + 1, N.set x (z0 + (z + 1)), by omega, by omega, by have := HKY.out; omega, rfl, by go_num, by go_num, HGN.out, HNN7.out, HI5.out, HT7.out⟩
    ·have hg : gmay bs = false := by simpa using hg
     rw [hg] at HMM
     have HF : RowKit.Hid (tabF bs n = List.replicate n (-1)) := Lib.hid (by unfold tabF; rw [if_pos (.inr hg)])
     clear hg
     go_wp2_with (go_at_call 44; (with_reducible refine HMM.out.mono ?_); rintro e w9 ⟨rfl, t9⟩; have HT9 := Lib.hid (HT.out.trans t9 (fun _ _ h => h)); have HO9 := Lib.hid (HO.out.touch t9 (fun _ _ h => h)); clear t9)
     go_ret
     exact ⟨G, rfl, by rw [HF.out, HGG.out]; exact HO9.out, HT9.out⟩
end Go.Proofs.YtpjdcgjoepjmcaaGreat
end
section
namespace Go.Proofs.YtpjdcgjoepjmcaaGreat
open Go.RowKit
theorem fresh_row {w w' : World} {a : Option Addr} {n c : Nat} {ys : List Nat} (h : FreshB w w' (.slice a n c) ys) (hl : ys.length = n) : RowB w' a n c ys := by
 obtain ⟨a2, c2, hv, hr⟩ := h.row
 rw [hl] at hv hr
 simp only [Value.slice.injEq, true_and] at hv
 obtain ⟨rfl, rfl⟩ := hv
 exact hr
theorem tq_of {w : World} {B : Nat} {t : TupD} {T : TypeId} (hb : w.heap[B]? = some (.cells #[.int .u32 t.src, .int .u32 t.dst, .int .i64 t.proto, .int .i64 t.sport, .int .i64 t.dport] T (0, 0))) :
 w.cell? ⟨B, 0, none⟩ = some (.int .u32 t.src) ∧ w.cell? ⟨B, 1, none⟩ = some (.int .u32 t.dst) ∧ w.cell? ⟨B, 2, none⟩ = some (.int .i64 t.proto) ∧ w.cell? ⟨B, 3, none⟩ = some (.int .i64 t.sport) ∧ w.cell? ⟨B, 4, none⟩ = some (.int .i64 t.dport) :=
 ⟨cell_of_cells hb 0, cell_of_cells hb 1, cell_of_cells hb 2, cell_of_cells hb 3, cell_of_cells hb 4⟩
def tb8 (t : TupD) : List Nat := beB 4 (u64N t.src) ++ beB 4 (u64N t.dst)
def tb9 (t : TupD) : List Nat := tb8 t ++ beB 1 (u64N t.proto)
def tb11 (t : TupD) : List Nat := tb9 t ++ beB 2 (u64N t.sport)
theorem tb_len (t : TupD) : (tb8 t).length = 8 ∧ (tb9 t).length = 9 ∧ (tb11 t).length = 11 ∧ (tbF t).length = 13 := by simp [tb8, tb9, tb11, tbF, beB_length]
theorem tb_end (t : TupD) : tb11 t ++ beB 2 (u64N t.dport) = tbF t := by simp [tb8, tb9, tb11, tbF]
set_option maxRecDepth 20000 in
set_option maxHeartbeats 8000000 in
theorem rtb_any (t : TupD) (w : World) (ok : TupOk t) :
 Calls Tryz.prog 125 #[.agg (tcs t)] w fun e w' => ∃ a' c', e = .returned (.slice a' 13 c') ∧ FreshB w w' (.slice a' 13 c') (tbF t) := by
 obtain ⟨W1, hW1⟩ : ∃ W, w.alloc (.cells (tcs t) 37) = W := ⟨_, rfl⟩
 have t1 : Touch w W1 (fun _ => False) := hW1 ▸ (Touch.refl _ _).alloc _
 have HH : RowKit.Hid (W1.heap[w.heap.size]? = some (.cells #[.int .u32 t.src, .int .u32 t.dst, .int .i64 t.proto, .int .i64 t.sport, .int .i64 t.dport] 37 (0, 0))) := Lib.hid (hW1 ▸ heap_alloc_new w _)
 have HT := Lib.hid t1
 obtain ⟨o1, o2, o3, o4, o5⟩ := ok
 simp only [u32, i64] at o1 o2 o3 o4 o5
 obtain ⟨c0, c1, c2, c3, c4⟩ := tq_of HH.out
 have HTL := Lib.hid (tb_len t)
 have HTE := Lib.hid (tb_end t)
 clear t1
 simp only [tcs] at hW1
 simp only [tcs]
 go_enter Tryz.func125, Tryz.ntmps125
 go_upto_region 1 with fail
 go_cut [3] (fun s3 wx => ∃ a9 c9, s3 = .slice a9 8 c9 ∧ OwnB wx (w.heap.size + 1) 5 (.slice a9 8 c9) (tb8 t) ∧ Touch w wx (fun _ => False) ∧ wx.heap[w.heap.size]? = some (.cells #[.int .u32 t.src, .int .u32 t.dst, .int .i64 t.proto, .int .i64 t.sport, .int .i64 t.dport] 37 (0, 0)))
 case first =>
  go_wp2_with fail
  have t2 := (Touch.refl W1 (fun _ => False)).drew
  have HT := Lib.hid (HT.out.trans t2 (fun _ _ h => h))
  have HH := Lib.hid (t2.keeps HH.out (fun h => h))
  clear t2
  go_region_law (first
   | (have _u := HR9; refine step_appendB rfl _ _ 38 rfl 5 Tryz.underlying38 infoB (w.heap.size + 1) (.slice a6 4 d6) _ rfl HO.out _ _ _ (beB 4 (u64N t.dst)) rfl HR9.out 8 (tb8 t) rfl HTL.out.1 (by omega) (heap_lt HH.out) ?_; intro a10 d10 w10 hown hrow hg hpl; have HT := Lib.hid (HT.out.grown hg (fun j hj hlt => by have := (HO.out.own.lt j hj).1; omega)); have HH := Lib.hid ((hg.block w.heap.size (heap_lt HH.out) (fun e => by have := (HO.out.own.lt _ e.symm).1; omega)).trans HH.out); have HO := Lib.hid hown; clear hown hrow hg hpl)
   | (go_simp; go_at_call_of 97 (Value.int .u32 t.src); (with_reducible refine (ref_u32 t.src _ o1).mono ?_); rintro e w6 ⟨a6, d6, rfl, hf6⟩; have hlt := heap_lt HH.out; have t6 := hf6.2; have HO := Lib.hid (hf6.1.base (base' := w.heap.size + 1) (fun j hj => by have := (hf6.1.own.lt j hj).1; omega)); have HT := Lib.hid (HT.out.trans t6 (fun _ _ h => h)); have HH := Lib.hid (t6.keeps HH.out (fun h => h)); clear c0 c1 c2 c3 c4; obtain ⟨c0, c1, c2, c3, c4⟩ := tq_of HH.out; clear hf6 t6 hlt)
   | (have _u := HO; go_simp; go_at_call_of 97 (Value.int .u32 t.dst); (with_reducible refine (ref_u32 t.dst _ o2).mono ?_); rintro e w9 ⟨a9, d9, rfl, hf9⟩; have t9 := hf9.2; have HR9 := Lib.hid (fresh_row hf9 (beB_length _ _)); have HO := Lib.hid (HO.out.touch t9 (fun _ _ h => h)); have HT := Lib.hid (HT.out.trans t9 (fun _ _ h => h)); have HH := Lib.hid (t9.keeps HH.out (fun h => h)); clear c0 c1 c2 c3 c4; obtain ⟨c0, c1, c2, c3, c4⟩ := tq_of HH.out; clear hf9 t9))
  all_goals (go_wp2_with fail; go_meet; exact ⟨_, _, rfl, HO.out, HT.out, HH.out⟩)
 case rest =>
  obtain ⟨a9, d9, rfl, ho, ht9, hh⟩ := hcut
  clear HH HT c0 c1 c2 c3 c4
  obtain ⟨c0, c1, c2, c3, c4⟩ := tq_of hh
  have HO := Lib.hid ho
  have HT := Lib.hid ht9
  have HH := Lib.hid hh
  have HRL : RowKit.Hid (∀ W : World, _) := Lib.hid (fun (W : World) => row_lit W #[.int .u8 (t.proto % 256)] 1 (beB 1 (u64N t.proto)) (be_one t.proto) (beB_length _ _) (beB_small _ _) (by omega))
  clear ho ht9 hh
  go_upto_region 3 with (at_builtin; have _u := HRL; refine wpList_appendB rfl _ _ 38 rfl 5 Tryz.underlying38 infoB (w.heap.size + 1) (.slice a9 8 d9) (tb8 t) rfl (HO.out.touch ((Touch.refl _ (fun _ => False)).alloc _) (fun _ _ h => h)) _ _ _ (beB 1 (u64N t.proto)) rfl (HRL.out _) 9 (tb9 t) rfl HTL.out.2.1 (by omega) (by have := heap_lt HH.out; simp; omega) w.heap.size w ((HT.out.alloc _).below (fun _ _ h => h.elim) (Nat.le_refl _)) (Nat.le_succ _) ?_; intro a16 d16 w16 hown hrow hg hb hs hp16 hpl; have HT := Lib.hid (Touch.ofBelow (S := fun _ => False) hb (fun k h1 h2 => by omega)); have HH := Lib.hid ((hg.block w.heap.size (by have := heap_lt HH.out; simp; omega) (fun e => by have := (HO.out.own.lt _ e.symm).1; omega)).trans ((Below.heap_alloc _ _ _ (heap_lt HH.out)).trans HH.out)); have HO := Lib.hid hown; clear hown hrow hg hb hs hp16 hpl c0 c1 c2 c3 c4; obtain ⟨c0, c1, c2, c3, c4⟩ := tq_of HH.out)
  have t2 := (Touch.refl w16 (fun _ => False)).drew
  have HT := Lib.hid (HT.out.trans t2 (fun _ _ h => h))
  have HH := Lib.hid (t2.keeps HH.out (fun h => h))
  have HO := Lib.hid (HO.out.touch t2 (fun _ _ h => h))
  clear t2 HRL
  go_region_law (first
   | (have _u := HR24; refine step_appendB rfl _ _ 38 rfl 5 Tryz.underlying38 infoB (w.heap.size + 1) (.slice a21 11 d21) _ rfl HO.out _ _ _ (beB 2 (u64N t.dport)) rfl HR24.out 13 (tbF t) HTE.out HTL.out.2.2.2 (by omega) (heap_lt HH.out) ?_; intro a25 d25 w25 hown hrow hg hpl; have HT := Lib.hid (HT.out.grown hg (fun j hj hlt => by have := (HO.out.own.lt j hj).1; omega)); have HO := Lib.hid hown; clear hown hrow hg hpl)
   | (have _u := HR20; refine step_appendB rfl _ _ 38 rfl 5 Tryz.underlying38 infoB (w.heap.size + 1) (.slice a16 9 d16) _ rfl HO.out _ _ _ (beB 2 (u64N t.sport)) rfl HR20.out 11 (tb11 t) rfl HTL.out.2.2.1 (by omega) (heap_lt HH.out) ?_; intro a21 d21 w21 hown hrow hg hpl; have HT := Lib.hid (HT.out.grown hg (fun j hj hlt => by have := (HO.out.own.lt j hj).1; omega)); have HH := Lib.hid ((hg.block w.heap.size (heap_lt HH.out) (fun e => by have := (HO.out.own.lt _ e.symm).1; omega)).trans HH.out); have HO := Lib.hid hown; clear hown hrow hg hpl c0 c1 c2 c3 c4; obtain ⟨c0, c1, c2, c3, c4⟩ := tq_of HH.out)
   | (go_simp; go_at_call_of 96 (Value.int .i64 t.sport); (with_reducible refine (ref_u16 t.sport _ o4).mono ?_); rintro e w20 ⟨a20, d20, rfl, hf20⟩; have t20 := hf20.2; have HR20 := Lib.hid (fresh_row hf20 (beB_length _ _)); have HO := Lib.hid (HO.out.touch t20 (fun _ _ h => h)); have HT := Lib.hid (HT.out.trans t20 (fun _ _ h => h)); have HH := Lib.hid (t20.keeps HH.out (fun h => h)); clear c0 c1 c2 c3 c4; obtain ⟨c0, c1, c2, c3, c4⟩ := tq_of HH.out; clear hf20 t20)
   | (go_simp; go_at_call_of 96 (Value.int .i64 t.dport); (with_reducible refine (ref_u16 t.dport _ o5).mono ?_); rintro e w24 ⟨a24, d24, rfl, hf24⟩; have t24 := hf24.2; have HR24 := Lib.hid (fresh_row hf24 (beB_length _ _)); have HO := Lib.hid (HO.out.touch t24 (fun _ _ h => h)); have HT := Lib.hid (HT.out.trans t24 (fun _ _ h => h)); have HH := Lib.hid (t24.keeps HH.out (fun h => h)); clear c0 c1 c2 c3 c4; obtain ⟨c0, c1, c2, c3, c4⟩ := tq_of HH.out; clear hf24 t24))
  all_goals (go_wp2_with fail; go_ret; exact ⟨_, _, rfl, HO.out.base (base' := w.heap.size) (fun j hj => by have := (HO.out.own.lt j hj).1; omega), HT.out⟩)
end Go.Proofs.YtpjdcgjoepjmcaaGreat
end
section
namespace Go.Proofs.YtpjdcgjoepjmcaaGreat
open Go.RowKit
set_option maxRecDepth 20000 in
set_option maxHeartbeats 2000000 in
theorem rnewch_any (n : Nat) (w : World) (hp : Prm n) :
 Calls Tryz.prog 13 #[.int .i64 n] w fun e w' => ∃ C G, e = .returned (.pointer (some ⟨C, 0, none⟩)) ∧ w'.heap[C]? = some (.cells (chC n none 0 0 (some ⟨G, 0, none⟩) n n 0) 102 (0, 0)) ∧ w.heap.size ≤ C ∧ w.heap.size ≤ G ∧ RowI w' (some ⟨G, 0, none⟩) n n (tabF [] n) ∧ Touch w w' (fun _ => False) := by
 have h3 := hp.lo
 have h251 := hp.hi
 have HTB := Lib.hid (rtable_any none 0 0 n [] w hp (RowS.nil _ _ _ _ (by omega)))
 have HP := Lib.hid hp
 go_enter Tryz.func13, Tryz.ntmps13
 go_wp2_with (go_at_call 38; (with_reducible refine HTB.out.mono ?_); rintro e w4 ⟨G, rfl, ho, t4⟩; have HI := Lib.hid (ho.rowI (tab_i64 HP.out)); have HT := Lib.hid t4; have HG := Lib.hid ho.lt.1; clear ho t4)
 go_ret
 have t5 := (Touch.refl w4 (fun _ => False)).alloc (.cells (chC n none 0 0 (some ⟨G, 0, none⟩) n n 0) 102)
 exact ⟨w4.heap.size, G, rfl, heap_alloc_new .., HT.out.size, HG.out, HI.out.still t5, HT.out.trans t5 (fun _ _ h => h)⟩
set_option maxRecDepth 20000 in
set_option maxHeartbeats 2000000 in
theorem rhash_any (t : TupD) (ok : TupOk t) (w : World) :
 Calls Tryz.prog 89 #[.agg (tcs t)] w fun e w' => e = .returned (.int .u32 (hashF t : Nat)) ∧ Touch w w' (fun _ => False) := by
 obtain ⟨W1, hW1⟩ : ∃ W, w.alloc (.cells (tcs t) 37) = W := ⟨_, rfl⟩
 obtain ⟨B, hB⟩ : ∃ B, w.heap.size = B := ⟨_, rfl⟩
 have t1 : Touch w W1 (fun _ => False) := hW1 ▸ (Touch.refl w _).alloc _
 have g1 : W1.heap[B]? = some (.cells (tcs t) 37 (0, 0)) := hB ▸ hW1 ▸ heap_alloc_new ..
 obtain ⟨q0, q1, q2, q3, q4⟩ : W1.cell? ⟨B, 0, none⟩ = some (.int .u32 t.src) ∧ W1.cell? ⟨B, 1, none⟩ = some (.int .u32 t.dst) ∧ W1.cell? ⟨B, 2, none⟩ = some (.int .i64 t.proto) ∧ W1.cell? ⟨B, 3, none⟩ = some (.int .i64 t.sport) ∧ W1.cell? ⟨B, 4, none⟩ = some (.int .i64 t.dport) := ⟨cell_of_cells g1 0, cell_of_cells g1 1, cell_of_cells g1 2, cell_of_cells g1 3, cell_of_cells g1 4⟩
 have HTB := Lib.hid (rtb_any t W1 ok)
 simp only [tcs] at HTB
 have HW1 := Lib.hid (And.intro hW1 hB)
 have HT1 := Lib.hid t1
 clear hW1 hB t1 g1
 go_enter Tryz.func89, Tryz.ntmps89
 go_upto_region 1 with (fail)
 rw [HW1.out.1, HW1.out.2]
 go_wp2_with fail
 (with_reducible refine HTB.out.mono ?_)
 rintro e w2 ⟨a2, c2, rfl, hfb⟩
 have HFB := Lib.hid hfb
 have HMX : RowKit.Hid (Calls Tryz.prog 102 #[.int .u32 0, .slice a2 13 c2] w2 fun e w' => e = .returned (.int .u32 (mixF 0 (tbF t) : Nat)) ∧ ∃ n, w' = w2.drewN n) := Lib.hid (rmix_any 0 a2 13 c2 (tbF t) w2 (by omega) hfb.row'.2)
 clear hfb q0 q1 q2 q3 q4
 go_wp2_with fail
 (with_reducible refine HMX.out.mono ?_)
 rintro e w3 ⟨rfl, n3, rfl⟩
 go_wp2_with fail
 go_ret
 exact ⟨rfl, (HT1.out.trans HFB.out.2 (fun _ _ h => h)).drewN _⟩
end Go.Proofs.YtpjdcgjoepjmcaaGreat
end
