/- What an octet.Reader's numbers, Raw, Left, End and NewReader answer. -/
import Derived.Test.YthjdebcjfpokoaaOctQ
set_option linter.unusedVariables false
namespace Go.Proofs.Ythjdebcjfpokoaa
open Go.RowKit

/-- A number of 64 bits as a signed one. -/
def sgn (x : Nat) : Int := if x < 9223372036854775808 then x else (x : Int) - 18446744073709551616
theorem sgn_wrap (x : Nat) (h : x < 18446744073709551616) : IntKind.i64.wrap (x : Int) = sgn x := by
  rw [IntKind.wrap_i64]; unfold sgn; split <;> omega
theorem sgn_small (x : Nat) (h : x < 9223372036854775808) : sgn x = x := by unfold sgn; rw [if_pos h]
theorem sgn_w64 (x : Nat) (h : x < 18446744073709551616) : wrap64 (x : Int) = sgn x := by
  unfold wrap64 sgn; split <;> omega

set_option maxHeartbeats 1000000 in
theorem rU8_nil (w : World) : Calls Try.prog 65 #[.pointer none] w fun e w' => e = .returned (.int .i64 0) ∧ w' = w := by
  go_enter Try.func65, Try.ntmps65
  go_wp2_with (go_at_call 61; refine (whole_nil _ _).mono ?_; rintro e w' ⟨rfl, rfl⟩)
  go_ret
  exact ⟨rfl, rfl⟩
set_option maxHeartbeats 1000000 in
theorem rU8_short (G : Nat) (a : Option Addr) (len cap : Nat) (xs : List Nat) (err : Int) (w : World) (h : RdB w G a len cap xs err) (hn : len < 1) :
    Calls Try.prog 65 #[.pointer (some ⟨G, 0, none⟩)] w fun e w' => e = .returned (.int .i64 0) ∧ RdB w' G none 0 0 [] 2 ∧ Touch w w' (fun k => k = G) := by
  have H := Lib.hid (whole_short G a len cap xs err 1 w h (by omega))
  clear h
  go_enter Try.func65, Try.ntmps65
  go_wp2_with (go_at_call 61; refine H.out.mono ?_; rintro e w' ⟨rfl, hr, ht⟩)
  go_ret
  exact ⟨rfl, hr, ht⟩
set_option maxHeartbeats 1000000 in
theorem rU8_any (G : Nat) (a : Option Addr) (len cap : Nat) (xs : List Nat) (err : Int) (w : World) (h : RdB w G a len cap xs err) (hn : 1 ≤ len) :
    Calls Try.prog 65 #[.pointer (some ⟨G, 0, none⟩)] w fun e w' => e = .returned (.int .i64 (beN (xs.take 1) : Nat)) ∧ TookB G a len cap xs err 1 w w' := by
  have H := Lib.hid (whole_any G a len cap xs err 1 w h (by omega) hn (by omega))
  have hb : beN (xs.take 1) < 256 ^ 1 := by
    have := beN_lt xs h.row.2.2.2.2.1 1 (by rw [h.row.1]; omega)
    exact this
  have hb2 : beN (xs.take 1) < 256 := by
    have e : (256 : Nat) ^ 1 = 256 := by decide
    omega
  clear h
  have HS := Lib.hid (sgn_w64 (beN (xs.take 1)) (by omega))
  generalize hz : beN (xs.take 1) = z at *
  clear hz hb
  go_enter Try.func65, Try.ntmps65
  go_wp2_with (go_at_call 61; refine H.out.mono ?_; rintro e w' ⟨rfl, ht⟩)
  try rw [HS.out]
  go_ret
  exact ⟨rfl, ht⟩

set_option maxHeartbeats 1000000 in
theorem rU16_nil (w : World) : Calls Try.prog 50 #[.pointer none] w fun e w' => e = .returned (.int .i64 0) ∧ w' = w := by
  go_enter Try.func50, Try.ntmps50
  go_wp2_with (go_at_call 61; refine (whole_nil _ _).mono ?_; rintro e w' ⟨rfl, rfl⟩)
  go_ret
  exact ⟨rfl, rfl⟩
set_option maxHeartbeats 1000000 in
theorem rU16_short (G : Nat) (a : Option Addr) (len cap : Nat) (xs : List Nat) (err : Int) (w : World) (h : RdB w G a len cap xs err) (hn : len < 2) :
    Calls Try.prog 50 #[.pointer (some ⟨G, 0, none⟩)] w fun e w' => e = .returned (.int .i64 0) ∧ RdB w' G none 0 0 [] 2 ∧ Touch w w' (fun k => k = G) := by
  have H := Lib.hid (whole_short G a len cap xs err 2 w h (by omega))
  clear h
  go_enter Try.func50, Try.ntmps50
  go_wp2_with (go_at_call 61; refine H.out.mono ?_; rintro e w' ⟨rfl, hr, ht⟩)
  go_ret
  exact ⟨rfl, hr, ht⟩
set_option maxHeartbeats 1000000 in
theorem rU16_any (G : Nat) (a : Option Addr) (len cap : Nat) (xs : List Nat) (err : Int) (w : World) (h : RdB w G a len cap xs err) (hn : 2 ≤ len) :
    Calls Try.prog 50 #[.pointer (some ⟨G, 0, none⟩)] w fun e w' => e = .returned (.int .i64 (beN (xs.take 2) : Nat)) ∧ TookB G a len cap xs err 2 w w' := by
  have H := Lib.hid (whole_any G a len cap xs err 2 w h (by omega) hn (by omega))
  have hb : beN (xs.take 2) < 256 ^ 2 := by
    have := beN_lt xs h.row.2.2.2.2.1 2 (by rw [h.row.1]; omega)
    exact this
  have hb2 : beN (xs.take 2) < 65536 := by
    have e : (256 : Nat) ^ 2 = 65536 := by decide
    omega
  clear h
  have HS := Lib.hid (sgn_w64 (beN (xs.take 2)) (by omega))
  generalize hz : beN (xs.take 2) = z at *
  clear hz hb
  go_enter Try.func50, Try.ntmps50
  go_wp2_with (go_at_call 61; refine H.out.mono ?_; rintro e w' ⟨rfl, ht⟩)
  try rw [HS.out]
  go_ret
  exact ⟨rfl, ht⟩

set_option maxHeartbeats 1000000 in
theorem rU32_nil (w : World) : Calls Try.prog 66 #[.pointer none] w fun e w' => e = .returned (.int .u32 0) ∧ w' = w := by
  go_enter Try.func66, Try.ntmps66
  go_wp2_with (go_at_call 61; refine (whole_nil _ _).mono ?_; rintro e w' ⟨rfl, rfl⟩)
  go_ret
  exact ⟨rfl, rfl⟩
set_option maxHeartbeats 1000000 in
theorem rU32_short (G : Nat) (a : Option Addr) (len cap : Nat) (xs : List Nat) (err : Int) (w : World) (h : RdB w G a len cap xs err) (hn : len < 4) :
    Calls Try.prog 66 #[.pointer (some ⟨G, 0, none⟩)] w fun e w' => e = .returned (.int .u32 0) ∧ RdB w' G none 0 0 [] 2 ∧ Touch w w' (fun k => k = G) := by
  have H := Lib.hid (whole_short G a len cap xs err 4 w h (by omega))
  clear h
  go_enter Try.func66, Try.ntmps66
  go_wp2_with (go_at_call 61; refine H.out.mono ?_; rintro e w' ⟨rfl, hr, ht⟩)
  go_ret
  exact ⟨rfl, hr, ht⟩
set_option maxHeartbeats 1000000 in
theorem rU32_any (G : Nat) (a : Option Addr) (len cap : Nat) (xs : List Nat) (err : Int) (w : World) (h : RdB w G a len cap xs err) (hn : 4 ≤ len) :
    Calls Try.prog 66 #[.pointer (some ⟨G, 0, none⟩)] w fun e w' => e = .returned (.int .u32 (beN (xs.take 4) : Nat)) ∧ TookB G a len cap xs err 4 w w' := by
  have H := Lib.hid (whole_any G a len cap xs err 4 w h (by omega) hn (by omega))
  have hb : beN (xs.take 4) < 256 ^ 4 := by
    have := beN_lt xs h.row.2.2.2.2.1 4 (by rw [h.row.1]; omega)
    exact this
  have hb2 : beN (xs.take 4) < 4294967296 := by
    have e : (256 : Nat) ^ 4 = 4294967296 := by decide
    omega
  clear h
  have HS := Lib.hid (sgn_w64 (beN (xs.take 4)) (by omega))
  generalize hz : beN (xs.take 4) = z at *
  clear hz hb
  go_enter Try.func66, Try.ntmps66
  go_wp2_with (go_at_call 61; refine H.out.mono ?_; rintro e w' ⟨rfl, ht⟩)
  try rw [HS.out]
  go_ret
  exact ⟨rfl, ht⟩

/-- What End tells. -/
def endOf (len : Nat) (err : Int) : Int := if err = 0 then (if len = 0 then 0 else 3) else err
/-- A reader that is new. -/
def NewRd (w w' : World) (v : Value) (len : Nat) (xs : List Nat) : Prop :=
  ∃ G a cap, v = .pointer (some ⟨G, 0, none⟩) ∧ RdB w' G a len cap xs 0 ∧ Touch w w' (fun _ => False) ∧ w.heap.size ≤ G ∧ (∀ x, a = some x → len = 0 ∨ w.heap.size ≤ x.block)
set_option maxHeartbeats 1000000 in
theorem newreader_any (a : Option Addr) (len cap : Nat) (xs : List Nat) (w : World) (hr : RowB w a len cap xs) (hlen : len ≤ 140737488355328) :
    Calls Try.prog 49 #[.slice a len cap] w fun e w' => ∃ v, e = .returned v ∧ NewRd w w' v len xs := by
  have H := Lib.hid (clone_any a len cap xs w hr hlen)
  have hxl := Lib.hid hr.1
  clear hr
  go_enter Try.func49, Try.ntmps49
  go_wp2_with fail
  refine H.out.mono ?_
  rintro e w1 ⟨a', cap', rfl, hf⟩
  go_wp2
  go_ret
  obtain ⟨hown, htouch⟩ := hf
  obtain ⟨a2, c2, hv, hrow, hp⟩ := hown.row
  have hl := hxl.out
  subst hl
  simp only [Value.slice.injEq, true_and] at hv
  obtain ⟨rfl, rfl⟩ := hv
  have hs := htouch.size
  refine ⟨_, rfl, w1.heap.size, a', cap', rfl, ⟨by show (w1.heap.push _)[w1.heap.size]? = _; simp, hrow.old (Below.alloc (Below.refl _ _) (Nat.le_refl _) _), ?_⟩, htouch.alloc _, hs, ?_⟩
  · intro x hx
    right
    rcases hp with h | ⟨g, h, _, hg⟩
    · rw [hx] at h; cases h
    · rw [hx] at h; cases h; simp; omega
  · intro x hx
    right
    rcases hp with h | ⟨g, h, hg, _⟩
    · rw [hx] at h; cases h
    · rw [hx] at h; cases h; exact hg
end Go.Proofs.Ythjdebcjfpokoaa
