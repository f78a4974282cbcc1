/- What Net, Fix, Mix of package sum answer, and the reference's own. -/
import Derived.Test.YthjdebcjfpokoaaSumWalk2
set_option linter.unusedVariables false
namespace Go.Proofs.Ythjdebcjfpokoaa
open Go.RowKit

set_option maxHeartbeats 400000 in
theorem rlow_any (s : Int) (w : World) (h : 0 ≤ s) (h2 : s ≤ 4294967295) :
    Calls Try.prog 68 #[.int .u32 s] w fun e w' => e = .returned (.int .u32 (lowF s)) ∧ ∃ n, w' = w.drewN n := by
  go_enter Try.func68, Try.ntmps68
  go_wp2
  go_loop [0] (fun t => ∃ x : Int, 0 ≤ x ∧ x ≤ 4294967295 ∧ lowF x = lowF s ∧ t = .int .u32 x) (fun t => (intOf t).toNat)
  case atStart => exact ⟨s, h, h2, rfl, rfl⟩
  case round =>
    obtain ⟨t, ht, ht2, he, rfl⟩ := hrel
    have HE := Lib.hid he
    clear he
    go_wp2
    · have hlt : 65535 < t := by assumption
      have hb : bits BinOp.and IntKind.u32 t 65535 = t % 65536 := bits_mask .u32 32 (by decide) (fun n a b => by rw [IntKind.wrap_u32]; omega) 16 (by decide) t ht (by omega)
      have e : (t / 65536 + bits BinOp.and IntKind.u32 t 65535) % 4294967296 = t / 65536 + t % 65536 := by rw [hb]; omega
      rw [e]
      refine ⟨⟨_, by omega, by omega, ?_, rfl⟩, ?_⟩
      · rw [lowF_step t hlt]; exact HE.out
      · simp [intOf]; omega
    · have hle : t ≤ 65535 := by assumption
      go_ret
      refine ⟨?_, 0, rfl⟩
      have e : lowF s = t := by rw [← HE.out]; exact lowF_small t ht (by omega)
      rw [e]; rfl

set_option maxHeartbeats 400000 in
theorem rfold_any (s : Int) (w : World) (h : 0 ≤ s) (h2 : s ≤ 4294967295) :
    Calls Try.prog 55 #[.int .u32 s] w fun e w' => e = .returned (.int .u16 (foldF s)) ∧ ∃ n, w' = w.drewN n := by
  have hb := lowF_le s
  have hs : IntKind.u16.signed = false := rfl
  have hn := not16 _ hb.1 hb.2
  go_enter Try.func55, Try.ntmps55
  go_wp2_with (go_at_call 68; refine (rlow_any _ _ (by omega) (by omega)).mono ?_; rintro e w' ⟨rfl, n, rfl⟩)
  go_ret
  exact ⟨rfl, n, rfl⟩


theorem or8 (x y : Nat) (hx : x < 256) (hy : y < 256) : bits BinOp.or IntKind.u32 ((x : Int) * 256) (y : Int) = (x : Int) * 256 + y :=
  bits_join .u32 32 (by decide) (fun n a b => by rw [IntKind.wrap_u32]; omega) 8 _ _ (by omega) (by omega) (by omega) (by omega) (by omega) (by omega)

set_option maxHeartbeats 400000 in
theorem rpart_any (s : Int) (a : Option Addr) (len cap : Nat) (xs : List Nat) (w : World) (h : 0 ≤ s) (h2 : s ≤ 4294967295) (hr : RowB w a len cap xs) :
    Calls Try.prog 56 #[.int .u32 s, .slice a len cap] w fun e w' => e = .returned (.int .u32 (partF s xs)) ∧ ∃ n, w' = w.drewN n := by
  go_enter Try.func56, Try.ntmps56
  go_wp2_with (go_at_call 68; refine (rlow_any _ _ (by omega) (by omega)).mono ?_; rintro e w' ⟨rfl, n, rfl⟩)
  go_loopw [0, 5] (fun s1 i wr => ∃ (t : Int) (k : Nat), 0 ≤ t ∧ t ≤ 65535 ∧ k ≤ len + 1 ∧ partF t (xs.drop k) = partF s xs ∧ s1 = .int .u32 t ∧ i = .int .i64 k ∧ Drew w wr) (fun _ i _ => len + 1 - (intOf i).toNat)
  case atStart => exact ⟨_, 0, (lowF_le s).1, (lowF_le s).2, by omega, partF_low s xs h, rfl, rfl, Drew.mk _ _⟩
  case round =>
    obtain ⟨t, k, ht, ht2, hk, he, rfl, rfl, hdr⟩ := hrel
    have HE := Lib.hid he
    clear he
    have hr' := hr.drew hdr
    obtain ⟨hl, hlc, hcm, hlm, hx, hc⟩ := hr'
    have HL := Lib.hid hl
    clear hl
    have HX := Lib.hid hx
    clear hx
    by_cases h1 : k < len
    · obtain h0 | ⟨b, off, rfl, hcell⟩ := hc
      · omega
      · have hkx : k < xs.length := by rw [HL.out]; exact h1
        have c0 := hcell k hkx
        have b0 := HX.out _ (List.getElem_mem hkx)
        have HS := Lib.hid (drop_cons hkx)
        by_cases h3 : k + 1 < len
        · have hkx1 : k + 1 < xs.length := by rw [HL.out]; exact h3
          have c1 := hcell (k + 1) hkx1
          have b1 := HX.out _ (List.getElem_mem hkx1)
          have HS1 := Lib.hid (drop_cons hkx1)
          generalize xs[k] = x at *
          generalize xs[k + 1] = y at *
          have hor := or8 x y b0 b1
          clear hcell
          have i0 : (k : Int) < len := by omega
          have i1 : (k : Int) + 1 < len := by omega
          have HP := Lib.hid (partF_cons t x y (xs.drop (k + 1 + 1)) ht)
          go_wp2_with (go_at_call 68; refine (rlow_any _ _ (by omega) (by omega)).mono ?_; rintro e w' ⟨rfl, n, rfl⟩)
          have HG : Hid (partF (lowF (t + ((x : Int) * 256 + y))) (xs.drop (k + 2)) = partF s xs) := Lib.hid (by
            rw [show t + ((x : Int) * 256 + y) = t + (x : Int) * 256 + y from by omega, show k + 2 = k + 1 + 1 from rfl, HP.out, ← HS1.out, ← HS.out]
            exact HE.out)
          exact ⟨⟨_, k + 2, (lowF_le _).1, (lowF_le _).2, by omega, HG.out, rfl, by go_num, hdr.more _⟩, by simp [intOf]; omega⟩
        · have hlen : xs.drop (k + 1) = [] := List.drop_of_length_le (by rw [HL.out]; omega)
          generalize xs[k] = x at *
          have HG : Hid (partF (lowF (t + (x : Int) * 256)) (xs.drop (k + 2)) = partF s xs) := Lib.hid (by
            rw [← HE.out, HS.out, hlen, partF_one]
            rw [List.drop_of_length_le (by rw [HL.out]; omega), partF_nil _ (lowF_le _).1 (lowF_le _).2])
          have i0 : (k : Int) < len := by omega
          have i1 : ¬ (k : Int) + 1 < len := by omega
          clear hcell hlen
          go_wp2_with (go_at_call 68; refine (rlow_any _ _ (by omega) (by omega)).mono ?_; rintro e w' ⟨rfl, n, rfl⟩)
          exact ⟨⟨_, k + 2, (lowF_le _).1, (lowF_le _).2, by omega, HG.out, rfl, by go_num, hdr.more _⟩, by simp [intOf]; omega⟩
    · have HG : Hid (partF s xs = t) := Lib.hid (by
        rw [← HE.out, List.drop_of_length_le (by rw [HL.out]; omega), partF_nil t ht ht2])
      have i0 : ¬ (k : Int) < len := by omega
      clear hc
      go_wp2
      go_ret
      rw [HG.out]
      exact ⟨rfl, hdr⟩

set_option maxHeartbeats 400000 in
theorem net_any (a : Option Addr) (len cap : Nat) (xs : List Nat) (w : World) (hr : RowB w a len cap xs) :
    Calls Try.prog 21 #[.slice a len cap] w fun e w' => e = .returned (.int .u16 (netF xs)) ∧ ∃ n, w' = w.drewN n := by
  have hp := partF_le 0 xs
  go_enter Try.func21, Try.ntmps21
  go_wp2_with (first | (go_at_call 46; refine (part_any _ _ _ _ xs _ (by omega) (by omega) hr).mono ?_; rintro e w' ⟨rfl, n, rfl⟩) | (go_at_call 45; refine (fold_any _ _ (by omega) (by omega)).mono ?_; rintro e w' ⟨rfl, n, rfl⟩))
  go_ret
  exact ⟨rfl, _, rfl⟩

set_option maxHeartbeats 400000 in
theorem rnet_any (a : Option Addr) (len cap : Nat) (xs : List Nat) (w : World) (hr : RowB w a len cap xs) :
    Calls Try.prog 38 #[.slice a len cap] w fun e w' => e = .returned (.int .u16 (netF xs)) ∧ ∃ n, w' = w.drewN n := by
  have hp := partF_le 0 xs
  go_enter Try.func38, Try.ntmps38
  go_wp2_with (first | (go_at_call 56; refine (rpart_any _ _ _ _ xs _ (by omega) (by omega) hr).mono ?_; rintro e w' ⟨rfl, n, rfl⟩) | (go_at_call 55; refine (rfold_any _ _ (by omega) (by omega)).mono ?_; rintro e w' ⟨rfl, n, rfl⟩))
  go_ret
  exact ⟨rfl, _, rfl⟩

def fixF (sum old now : Int) : Int := foldF (65535 - sum + (65535 - old) + now)

set_option maxHeartbeats 400000 in
theorem fix_any (s o n : Int) (w : World) (hs : 0 ≤ s) (hs2 : s ≤ 65535) (ho : 0 ≤ o) (ho2 : o ≤ 65535) (hn : 0 ≤ n) (hn2 : n ≤ 65535) :
    Calls Try.prog 63 #[.int .u16 s, .int .u16 o, .int .u16 n] w fun e w' => e = .returned (.int .u16 (fixF s o n)) ∧ ∃ n, w' = w.drewN n := by
  have e1 := not16 s hs hs2
  have e2 := not16 o ho ho2
  have hg : IntKind.u16.signed = false := rfl
  go_enter Try.func63, Try.ntmps63
  go_wp2_with (go_at_call 45; refine (fold_any _ _ (by omega) (by omega)).mono ?_; rintro e w' ⟨rfl, n, rfl⟩)
  go_ret
  exact ⟨rfl, _, rfl⟩

set_option maxHeartbeats 400000 in
theorem rfix_any (s o n : Int) (w : World) (hs : 0 ≤ s) (hs2 : s ≤ 65535) (ho : 0 ≤ o) (ho2 : o ≤ 65535) (hn : 0 ≤ n) (hn2 : n ≤ 65535) :
    Calls Try.prog 52 #[.int .u16 s, .int .u16 o, .int .u16 n] w fun e w' => e = .returned (.int .u16 (fixF s o n)) ∧ ∃ n, w' = w.drewN n := by
  have e1 := not16 s hs hs2
  have e2 := not16 o ho ho2
  have hg : IntKind.u16.signed = false := rfl
  go_enter Try.func52, Try.ntmps52
  go_wp2_with (go_at_call 55; refine (rfold_any _ _ (by omega) (by omega)).mono ?_; rintro e w' ⟨rfl, n, rfl⟩)
  go_ret
  exact ⟨rfl, _, rfl⟩

end Go.Proofs.Ythjdebcjfpokoaa
