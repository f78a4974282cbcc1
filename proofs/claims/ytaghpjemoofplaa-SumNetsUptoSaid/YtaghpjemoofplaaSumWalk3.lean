/- What Net, Fix, Mix of package sum answer, and the reference's own. -/
import Derived.Test.YtaghpjemoofplaaSumWalk2
set_option linter.unusedVariables false
namespace Go.Proofs.Ytaghpjemoofplaa
open Go.RowKit

set_option maxHeartbeats 400000 in
theorem rlow_any (s : Int) (w : World) (h : 0 ≤ s) (h2 : s ≤ 4294967295) :
    Calls Try.prog 24 #[.int .u32 s] w fun e w' => e = .returned (.int .u32 (lowF s)) ∧ ∃ n, w' = w.drewN n := by
  go_enter Try.func24, Try.ntmps24
  go_wp2
  go_loop [0] (fun t => ∃ x : Int, 0 ≤ x ∧ x ≤ 4294967295 ∧ lowF x = lowF s ∧ t = .int .u32 x) (fun t => (intOf t).toNat)
  case atStart => exact ⟨s, h, h2, rfl, rfl⟩
  case round =>
    obtain ⟨t, ht, ht2, he, rfl⟩ := hrel
    have HE := Lib.hid he
    clear he
    go_wp2
    · have hlt : 65535 < t := by assumption
      have hb : bits BinOp.and IntKind.u32 t 65535 = t % 65536 := bits_mask .u32 32 (by decide) (fun n a b => by rw [IntKind.wrap_u32]; omega) 16 (by decide) t ht (by omega)
      have e : (t / 65536 + bits BinOp.and IntKind.u32 t 65535) % 4294967296 = t / 65536 + t % 65536 := by rw [hb]; omega
      rw [e]
      refine ⟨⟨_, by omega, by omega, ?_, rfl⟩, ?_⟩
      · rw [lowF_step t hlt]; exact HE.out
      · simp [intOf]; omega
    · have hle : t ≤ 65535 := by assumption
      go_ret
      refine ⟨?_, 0, rfl⟩
      have e : lowF s = t := by rw [← HE.out]; exact lowF_small t ht (by omega)
      rw [e]; rfl

set_option maxHeartbeats 400000 in
theorem rfold_any (s : Int) (w : World) (h : 0 ≤ s) (h2 : s ≤ 4294967295) :
    Calls Try.prog 15 #[.int .u32 s] w fun e w' => e = .returned (.int .u16 (foldF s)) ∧ ∃ n, w' = w.drewN n := by
  have hb := lowF_le s
  have hs : IntKind.u16.signed = false := rfl
  have hn := not16 _ hb.1 hb.2
  go_enter Try.func15, Try.ntmps15
  go_wp2_with (go_at_call 24; refine (rlow_any _ _ (by omega) (by omega)).mono ?_; rintro e w' ⟨rfl, n, rfl⟩)
  go_ret
  exact ⟨rfl, n, rfl⟩


theorem or8 (x y : Nat) (hx : x < 256) (hy : y < 256) : bits BinOp.or IntKind.u32 ((x : Int) * 256) (y : Int) = (x : Int) * 256 + y :=
  bits_join .u32 32 (by decide) (fun n a b => by rw [IntKind.wrap_u32]; omega) 8 _ _ (by omega) (by omega) (by omega) (by omega) (by omega) (by omega)

set_option maxHeartbeats 400000 in
theorem rpart_any (s : Int) (a : Option Addr) (len cap : Nat) (xs : List Nat) (w : World) (h : 0 ≤ s) (h2 : s ≤ 4294967295) (hr : RowB w a len cap xs) :
    Calls Try.prog 13 #[.int .u32 s, .slice a len cap] w fun e w' => e = .returned (.int .u32 (partF s xs)) ∧ ∃ n, w' = w.drewN n := by
  go_enter Try.func13, Try.ntmps13
  go_wp2_with (go_at_call 24; refine (rlow_any _ _ (by omega) (by omega)).mono ?_; rintro e w' ⟨rfl, n, rfl⟩)
  go_loopw [0, 5] (fun s1 i wr => ∃ (t : Int) (k : Nat), 0 ≤ t ∧ t ≤ 65535 ∧ k ≤ len + 1 ∧ partF t (xs.drop k) = partF s xs ∧ s1 = .int .u32 t ∧ i = .int .i64 k ∧ Drew w wr) (fun _ i _ => len + 1 - (intOf i).toNat)
  case atStart => exact ⟨_, 0, (lowF_le s).1, (lowF_le s).2, by omega, partF_low s xs h, rfl, rfl, Drew.mk _ _⟩
  case round =>
    obtain ⟨t, k, ht, ht2, hk, he, rfl, rfl, hdr⟩ := hrel
    have HE := Lib.hid he
    clear he
    have hr' := hr.drew hdr
    obtain ⟨hl, hlc, hcm, hlm, hx, hc⟩ := hr'
    have HL := Lib.hid hl
    clear hl
    have HX := Lib.hid hx
    clear hx
    by_cases h1 : k < len
    · obtain h0 | ⟨b, off, rfl, hcell⟩ := hc
      · omega
      · have hkx : k < xs.length := by rw [HL.out]; exact h1
        have c0 := hcell k hkx
        have b0 := HX.out _ (List.getElem_mem hkx)
        have HS := Lib.hid (drop_cons hkx)
        by_cases h3 : k + 1 < len
        · have hkx1 : k + 1 < xs.length := by rw [HL.out]; exact h3
          have c1 := hcell (k + 1) hkx1
          have b1 := HX.out _ (List.getElem_mem hkx1)
          have HS1 := Lib.hid (drop_cons hkx1)
          generalize xs[k] = x at *
          generalize xs[k + 1] = y at *
          have hor := or8 x y b0 b1
          clear hcell
          have i0 : (k : Int) < len := by omega
          have i1 : (k : Int) + 1 < len := by omega
          have HP := Lib.hid (partF_cons t x y (xs.drop (k + 1 + 1)) ht)
          go_wp2_with (go_at_call 24; refine (rlow_any _ _ (by omega) (by omega)).mono ?_; rintro e w' ⟨rfl, n, rfl⟩)
          have HG : Hid (partF (lowF (t + ((x : Int) * 256 + y))) (xs.drop (k + 2)) = partF s xs) := Lib.hid (by
            rw [show t + ((x : Int) * 256 + y) = t + (x : Int) * 256 + y from by omega, show k + 2 = k + 1 + 1 from rfl, HP.out, ← HS1.out, ← HS.out]
            exact HE.out)
          exact ⟨⟨_, k + 2, (lowF_le _).1, (lowF_le _).2, by omega, HG.out, rfl, by go_num, hdr.more _⟩, by simp [intOf]; omega⟩
        · have hlen : xs.drop (k + 1) = [] := List.drop_of_length_le (by rw [HL.out]; omega)
          generalize xs[k] = x at *
          have HG : Hid (partF (lowF (t + (x : Int) * 256)) (xs.drop (k + 2)) = partF s xs) := Lib.hid (by
            rw [← HE.out, HS.out, hlen, partF_one]
            rw [List.drop_of_length_le (by rw [HL.out]; omega), partF_nil _ (lowF_le _).1 (lowF_le _).2])
          have i0 : (k : Int) < len := by omega
          have i1 : ¬ (k : Int) + 1 < len := by omega
          clear hcell hlen
          go_wp2_with (go_at_call 24; refine (rlow_any _ _ (by omega) (by omega)).mono ?_; rintro e w' ⟨rfl, n, rfl⟩)
          exact ⟨⟨_, k + 2, (lowF_le _).1, (lowF_le _).2, by omega, HG.out, rfl, by go_num, hdr.more _⟩, by simp [intOf]; omega⟩
    · have HG : Hid (partF s xs = t) := Lib.hid (by
        rw [← HE.out, List.drop_of_length_le (by rw [HL.out]; omega), partF_nil t ht ht2])
      have i0 : ¬ (k : Int) < len := by omega
      clear hc
      go_wp2
      go_ret
      rw [HG.out]
      exact ⟨rfl, hdr⟩

set_option maxHeartbeats 400000 in
theorem net_any (a : Option Addr) (len cap : Nat) (xs : List Nat) (w : World) (hr : RowB w a len cap xs) :
    Calls Try.prog 10 #[.slice a len cap] w fun e w' => e = .returned (.int .u16 (netF xs)) ∧ ∃ n, w' = w.drewN n := by
  have hp := partF_le 0 xs
  go_enter Try.func10, Try.ntmps10
  go_wp2_with (first | (go_at_call 12; refine (part_any _ _ _ _ xs _ (by omega) (by omega) hr).mono ?_; rintro e w' ⟨rfl, n, rfl⟩) | (go_at_call 14; refine (fold_any _ _ (by omega) (by omega)).mono ?_; rintro e w' ⟨rfl, n, rfl⟩))
  go_ret
  exact ⟨rfl, _, rfl⟩

set_option maxHeartbeats 400000 in
theorem rnet_any (a : Option Addr) (len cap : Nat) (xs : List Nat) (w : World) (hr : RowB w a len cap xs) :
    Calls Try.prog 11 #[.slice a len cap] w fun e w' => e = .returned (.int .u16 (netF xs)) ∧ ∃ n, w' = w.drewN n := by
  have hp := partF_le 0 xs
  go_enter Try.func11, Try.ntmps11
  go_wp2_with (first | (go_at_call 13; refine (rpart_any _ _ _ _ xs _ (by omega) (by omega) hr).mono ?_; rintro e w' ⟨rfl, n, rfl⟩) | (go_at_call 15; refine (rfold_any _ _ (by omega) (by omega)).mono ?_; rintro e w' ⟨rfl, n, rfl⟩))
  go_ret
  exact ⟨rfl, _, rfl⟩

def fixF (sum old now : Int) : Int := foldF (65535 - sum + (65535 - old) + now)

set_option maxHeartbeats 400000 in
theorem fix_any (s o n : Int) (w : World) (hs : 0 ≤ s) (hs2 : s ≤ 65535) (ho : 0 ≤ o) (ho2 : o ≤ 65535) (hn : 0 ≤ n) (hn2 : n ≤ 65535) :
    Calls Try.prog 16 #[.int .u16 s, .int .u16 o, .int .u16 n] w fun e w' => e = .returned (.int .u16 (fixF s o n)) ∧ ∃ n, w' = w.drewN n := by
  have e1 := not16 s hs hs2
  have e2 := not16 o ho ho2
  have hg : IntKind.u16.signed = false := rfl
  go_enter Try.func16, Try.ntmps16
  go_wp2_with (go_at_call 14; refine (fold_any _ _ (by omega) (by omega)).mono ?_; rintro e w' ⟨rfl, n, rfl⟩)
  go_ret
  exact ⟨rfl, _, rfl⟩

set_option maxHeartbeats 400000 in
theorem rfix_any (s o n : Int) (w : World) (hs : 0 ≤ s) (hs2 : s ≤ 65535) (ho : 0 ≤ o) (ho2 : o ≤ 65535) (hn : 0 ≤ n) (hn2 : n ≤ 65535) :
    Calls Try.prog 17 #[.int .u16 s, .int .u16 o, .int .u16 n] w fun e w' => e = .returned (.int .u16 (fixF s o n)) ∧ ∃ n, w' = w.drewN n := by
  have e1 := not16 s hs hs2
  have e2 := not16 o ho ho2
  have hg : IntKind.u16.signed = false := rfl
  go_enter Try.func17, Try.ntmps17
  go_wp2_with (go_at_call 15; refine (rfold_any _ _ (by omega) (by omega)).mono ?_; rintro e w' ⟨rfl, n, rfl⟩)
  go_ret
  exact ⟨rfl, _, rfl⟩

set_option maxHeartbeats 400000 in
theorem mix_any (sd : Nat) (a : Option Addr) (len cap : Nat) (xs : List Nat) (w : World) (hsd : sd < 4294967296) (hr : RowB w a len cap xs) :
    Calls Try.prog 20 #[.int .u32 sd, .slice a len cap] w fun e w' => e = .returned (.int .u32 (mixF sd xs : Nat)) ∧ ∃ n, w' = w.drewN n := by
  obtain ⟨hl, hlc, hcm, hlm, hx, hc⟩ := hr
  have HL := Lib.hid hl
  clear hl
  have HX := Lib.hid hx
  clear hx
  have hx0 : bits BinOp.xor IntKind.u32 (sd : Int) 2166136261 = ((sd ^^^ 2166136261 : Nat) : Int) := u32_xor_nat sd 2166136261 hsd (by omega)
  go_enter Try.func20, Try.ntmps20
  go_wp2
  go_loop [5, 12] (fun s i => ∃ (k c : Nat), k ≤ len ∧ c < 4294967296 ∧ i = .int .i64 k ∧ s = .int .u32 c ∧ mixAll c (xs.drop k) = mixAll (sd ^^^ 2166136261) xs) (fun _ i => len - (intOf i).toNat)
  case atStart => exact ⟨0, sd ^^^ 2166136261, Nat.zero_le _, xor_lt32 _ _ hsd (by omega), rfl, rfl, rfl⟩
  case round =>
    obtain ⟨k, c, hk, hcl, rfl, rfl, he⟩ := hrel
    have HE := Lib.hid he
    clear he
    by_cases hlt : k < len
    · obtain h0 | ⟨b, off, rfl, hcell⟩ := hc
      · omega
      · have hkx : k < xs.length := by rw [HL.out]; exact hlt
        have c0 := hcell k hkx
        clear hcell
        have hb : xs[k] < 256 := HX.out _ (List.getElem_mem hkx)
        have HS := Lib.hid (drop_cons hkx)
        generalize xs[k] = x at *
        have hxo := u32_xor_nat c x hcl (by omega)
        have hlt' : (k : Int) < len := by omega
        have hm : Hid (((c ^^^ x : Nat) : Int) * 16777619 % 4294967296 = ((mixByte c x : Nat) : Int)) := Lib.hid (by unfold mixByte; omega)
        have HC : Hid (mixAll (mixByte c x) (List.drop (k + 1) xs) = mixAll (sd ^^^ 2166136261) xs) := Lib.hid (by
          rw [← mixAll_cons, ← HS.out]; exact HE.out)
        clear hx0
        go_wp2
        rw [hm.out]
        exact ⟨⟨k + 1, mixByte c x, by omega, mixByte_lt _ _, by go_num, rfl, HC.out⟩, by simp [intOf]; omega⟩
    · have HA : Hid (c = mixAll (sd ^^^ 2166136261) xs) := Lib.hid (by
        rw [← HE.out, List.drop_of_length_le (by rw [HL.out]; omega)]; rfl)
      have hlt' : ¬ (k : Int) < len := by omega
      have hq : bits BinOp.xor IntKind.u32 (c : Int) ((c : Int) / 32768) = ((c ^^^ c / 32768 : Nat) : Int) := by
        have e := u32_xor_nat c (c / 32768) hcl (by omega)
        simpa using e
      have hm : IntKind.u32.wrap (((c ^^^ c / 32768 : Nat) : Int) * 2246822507) = ((mixEnd c : Nat) : Int) := by
        rw [IntKind.wrap_u32]; unfold mixEnd; omega
      have hq2 : Hid (bits BinOp.xor IntKind.u32 ((mixEnd c : Nat) : Int) ((mixEnd c : Int) / 8192) = ((mixEnd c ^^^ mixEnd c / 8192 : Nat) : Int)) := Lib.hid (by
        have e := u32_xor_nat (mixEnd c) (mixEnd c / 8192) (mixEnd_lt _) (by have := mixEnd_lt c; omega)
        simpa using e)
      have HM : Hid (mixF sd xs = mixEnd c ^^^ mixEnd c / 8192) := Lib.hid (by unfold mixF; rw [← HA.out])
      clear hx0 hc
      go_wp2
      rw [hq2.out]
      go_ret
      rw [HM.out]
      exact ⟨rfl, 0, rfl⟩

set_option maxHeartbeats 400000 in
theorem rmix_any (sd : Nat) (a : Option Addr) (len cap : Nat) (xs : List Nat) (w : World) (hsd : sd < 4294967296) (hr : RowB w a len cap xs) :
    Calls Try.prog 21 #[.int .u32 sd, .slice a len cap] w fun e w' => e = .returned (.int .u32 (mixF sd xs : Nat)) ∧ ∃ n, w' = w.drewN n := by
  obtain ⟨hl, hlc, hcm, hlm, hx, hc⟩ := hr
  have HL := Lib.hid hl
  clear hl
  have HX := Lib.hid hx
  clear hx
  have hx0 : bits BinOp.xor IntKind.u32 (sd : Int) 2166136261 = ((sd ^^^ 2166136261 : Nat) : Int) := u32_xor_nat sd 2166136261 hsd (by omega)
  go_enter Try.func21, Try.ntmps21
  go_wp2
  go_loop [5, 12] (fun s i => ∃ (k c : Nat), k ≤ len ∧ c < 4294967296 ∧ i = .int .i64 k ∧ s = .int .u32 c ∧ mixAll c (xs.drop k) = mixAll (sd ^^^ 2166136261) xs) (fun _ i => len - (intOf i).toNat)
  case atStart => exact ⟨0, sd ^^^ 2166136261, Nat.zero_le _, xor_lt32 _ _ hsd (by omega), rfl, rfl, rfl⟩
  case round =>
    obtain ⟨k, c, hk, hcl, rfl, rfl, he⟩ := hrel
    have HE := Lib.hid he
    clear he
    by_cases hlt : k < len
    · obtain h0 | ⟨b, off, rfl, hcell⟩ := hc
      · omega
      · have hkx : k < xs.length := by rw [HL.out]; exact hlt
        have c0 := hcell k hkx
        clear hcell
        have hb : xs[k] < 256 := HX.out _ (List.getElem_mem hkx)
        have HS := Lib.hid (drop_cons hkx)
        generalize xs[k] = x at *
        have hxo := u32_xor_nat c x hcl (by omega)
        have hlt' : (k : Int) < len := by omega
        have hm : Hid (((c ^^^ x : Nat) : Int) * 16777619 % 4294967296 = ((mixByte c x : Nat) : Int)) := Lib.hid (by unfold mixByte; omega)
        have HC : Hid (mixAll (mixByte c x) (List.drop (k + 1) xs) = mixAll (sd ^^^ 2166136261) xs) := Lib.hid (by
          rw [← mixAll_cons, ← HS.out]; exact HE.out)
        clear hx0
        go_wp2
        rw [hm.out]
        exact ⟨⟨k + 1, mixByte c x, by omega, mixByte_lt _ _, by go_num, rfl, HC.out⟩, by simp [intOf]; omega⟩
    · have HA : Hid (c = mixAll (sd ^^^ 2166136261) xs) := Lib.hid (by
        rw [← HE.out, List.drop_of_length_le (by rw [HL.out]; omega)]; rfl)
      have hlt' : ¬ (k : Int) < len := by omega
      have hq : bits BinOp.xor IntKind.u32 (c : Int) ((c : Int) / 32768) = ((c ^^^ c / 32768 : Nat) : Int) := by
        have e := u32_xor_nat c (c / 32768) hcl (by omega)
        simpa using e
      have hm : IntKind.u32.wrap (((c ^^^ c / 32768 : Nat) : Int) * 2246822507) = ((mixEnd c : Nat) : Int) := by
        rw [IntKind.wrap_u32]; unfold mixEnd; omega
      have hq2 : Hid (bits BinOp.xor IntKind.u32 ((mixEnd c : Nat) : Int) ((mixEnd c : Int) / 8192) = ((mixEnd c ^^^ mixEnd c / 8192 : Nat) : Int)) := Lib.hid (by
        have e := u32_xor_nat (mixEnd c) (mixEnd c / 8192) (mixEnd_lt _) (by have := mixEnd_lt c; omega)
        simpa using e)
      have HM : Hid (mixF sd xs = mixEnd c ^^^ mixEnd c / 8192) := Lib.hid (by unfold mixF; rw [← HA.out])
      clear hx0 hc
      go_wp2
      rw [hq2.out]
      go_ret
      rw [HM.out]
      exact ⟨rfl, 0, rfl⟩

end Go.Proofs.Ytaghpjemoofplaa
