/- What the functions of package sum answer: low, Fold, Part, Net, Fix, and the reference's own. Conditions: the numbers lie within their kinds; the bytes are read as a row of bytes. -/
import Derived.Test.YthjdebcjfpokoaaBase
import Derived.Test.YthjdebcjfpokoaaSumMath
import Derived.WalkKit
import Derived.WalkLawsBesides
import Derived.LoopTactic
import Derived.Outline
import Derived.Below
import Derived.Lib.Hide
import Derived.Deep.QuietTactic
import Derived.BigQuiet
set_option linter.unusedVariables false
namespace Go.Proofs.Ythjdebcjfpokoaa
open Go.RowKit

set_option maxHeartbeats 400000 in
theorem low_any (s : Int) (w : World) (h : 0 ≤ s) (h2 : s ≤ 4294967295) :
    Calls Try.prog 58 #[.int .u32 s] w fun e w' => e = .returned (.int .u32 (lowF s)) ∧ ∃ n, w' = w.drewN n := by
  go_enter Try.func58, Try.ntmps58
  go_wp2
  go_loop [0] (fun t => ∃ x : Int, 0 ≤ x ∧ x ≤ 4294967295 ∧ lowF x = lowF s ∧ t = .int .u32 x) (fun t => (intOf t).toNat)
  case atStart => exact ⟨s, h, h2, rfl, rfl⟩
  case round =>
    obtain ⟨t, ht, ht2, he, rfl⟩ := hrel
    have HE := Lib.hid he
    clear he
    go_wp2
    · have hlt : 65535 < t := by assumption
      have hb : bits BinOp.and IntKind.u32 t 65535 = t % 65536 := bits_mask .u32 32 (by decide) (fun n a b => by rw [IntKind.wrap_u32]; omega) 16 (by decide) t ht (by omega)
      have e : (t / 65536 + bits BinOp.and IntKind.u32 t 65535) % 4294967296 = t / 65536 + t % 65536 := by rw [hb]; omega
      rw [e]
      refine ⟨⟨_, by omega, by omega, ?_, rfl⟩, ?_⟩
      · rw [lowF_step t hlt]; exact HE.out
      · simp [intOf]; omega
    · have hle : t ≤ 65535 := by assumption
      go_ret
      refine ⟨?_, 0, rfl⟩
      have e : lowF s = t := by rw [← HE.out]; exact lowF_small t ht (by omega)
      rw [e]; rfl

set_option maxHeartbeats 400000 in
theorem part_any (s : Int) (a : Option Addr) (len cap : Nat) (xs : List Nat) (w : World) (h : 0 ≤ s) (h2 : s ≤ 4294967295) (hr : RowB w a len cap xs) :
    Calls Try.prog 46 #[.int .u32 s, .slice a len cap] w fun e w' => e = .returned (.int .u32 (partF s xs)) ∧ ∃ n, w' = w.drewN n := by
  go_enter Try.func46, Try.ntmps46
  go_wp2_with (go_at_call 58; refine (low_any _ _ (by omega) (by omega)).mono ?_; rintro e w' ⟨rfl, n, rfl⟩)
  go_loopw [0, 1] (fun s1 b1 wr => ∃ (t : Int) (a : Option Addr) (len cap : Nat) (ys : List Nat), 0 ≤ t ∧ t ≤ 65535 ∧ partF t ys = partF s xs ∧ RowB wr a len cap ys ∧ s1 = .int .u32 t ∧ b1 = .slice a len cap ∧ Drew w wr) (fun _ b1 _ => lenOf b1)
  case atStart => exact ⟨_, a, len, cap, xs, (lowF_le s).1, (lowF_le s).2, partF_low s xs h, hr.drewN _, rfl, rfl, Drew.mk _ _⟩
  case round =>
    obtain ⟨t, a, len, cap, ys, ht, ht2, he, hr, rfl, rfl, hdr⟩ := hrel
    have HE := Lib.hid he
    clear he
    have hr' := hr
    obtain ⟨hl, hlc, hcm, hlm, hx, hc⟩ := hr
    have HL := Lib.hid hl
    clear hl
    by_cases h1 : 1 < len
    · obtain h0 | ⟨b, off, rfl, hcell⟩ := hc
      · omega
      · match ys, HL with
        | [], HL => have := HL.out; simp at this; omega
        | [_], HL => have := HL.out; simp at this; omega
        | x :: y :: r, HL =>
          have hlen := HL.out
          have c0 := hcell 0 (by simp)
          have c1 := hcell 1 (by simp)
          simp at c0 c1 hlen
          have b0 := hx x (by simp)
          have b1 := hx y (by simp)
          have i1 : (1 : Int) < (len : Int) := by omega
          have i0 : 0 < len := by omega
          go_wp2
          have e1 : IntKind.u32.wrap (x : Int) = x := IntWalk.u32_in _ (by omega)
          have e2 : IntKind.u32.wrap ((x : Int) * 256) = x * 256 := IntWalk.u32_in _ (by omega)
          have e3 : IntKind.u32.wrap (t + (x : Int) * 256) = t + x * 256 := IntWalk.u32_in _ (by omega)
          have e4 : IntKind.u32.wrap (y : Int) = y := IntWalk.u32_in _ (by omega)
          have e5 : IntKind.u32.wrap (t + (x : Int) * 256 + y) = t + x * 256 + y := IntWalk.u32_in _ (by omega)
          have g0 : 0 ≤ t + (x : Int) * 256 + y := by omega
          have g1 : t + (x : Int) * 256 + y ≤ 4294967295 := by omega
          go_quiet ((go_at_call 58; exact Calls.quiet_of (low_any _ _ g0 g1)))
          clear e1 e2 e3 e4 e5
          have hrd := hr'.drop 2 (by omega)
          have HR := Lib.hid hrd
          have HE' := Lib.hid (partF_cons t x y r ht)
          clear hrd hcell hr' hlen
          go_wp2
          refine ⟨⟨_, _, _, _, r, (lowF_le _).1, (lowF_le _).2, ?_, ?_, rfl, rfl, hdr.more _⟩, by simp [lenOf]; omega⟩
          · rw [HE'.out]; exact HE.out
          · exact HR.out.drewN _
    · obtain h0 | ⟨b, off, rfl, hcell⟩ := hc
      · have hy : ys = [] := by have := HL.out; exact List.length_eq_zero_iff.1 (by omega)
        subst hy
        subst h0
        have HP := Lib.hid (partF_nil t ht ht2)
        clear hr'
        go_wp2
        go_ret
        refine ⟨?_, hdr⟩
        rw [← HE.out, HP.out]; rfl
      · by_cases h0 : len = 0
        · have hy : ys = [] := by have := HL.out; exact List.length_eq_zero_iff.1 (by omega)
          subst hy
          subst h0
          have HP := Lib.hid (partF_nil t ht ht2)
          clear hr' hcell
          go_wp2
          go_ret
          refine ⟨?_, hdr⟩
          rw [← HE.out, HP.out]; rfl
        · obtain rfl : len = 1 := by omega
          match ys, HL with
          | [], HL => have := HL.out; simp at this
          | _ :: _ :: _, HL => have := HL.out; simp at this
          | [x], HL =>
            have c0 := hcell 0 (by simp)
            simp at c0
            have b0 := hx x (by simp)
            have HP := Lib.hid (partF_one t x)
            clear hr' hcell
            go_wp2_with (go_at_call 58; refine (low_any _ _ (by omega) (by omega)).mono ?_; rintro e w' ⟨rfl, n, rfl⟩)
            go_ret
            refine ⟨?_, hdr.more _⟩
            rw [← HE.out, HP.out]; rfl
end Go.Proofs.Ythjdebcjfpokoaa
