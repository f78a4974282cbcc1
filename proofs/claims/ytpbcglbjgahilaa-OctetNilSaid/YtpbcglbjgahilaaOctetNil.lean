/- OctetNil answers true for any number and any bytes: a writer, a reader that there isn't. No condition. -/
import Derived.Test.YtpbcglbjgahilaaOctAwake
import Derived.Test.YtpbcglbjgahilaaFrOctetNil
set_option linter.unusedVariables false
namespace Go.Proofs.Ytpbcglbjgahilaa
open Go.RowKit

set_option maxHeartbeats 4000000 in
theorem nil_walk (n : Int) (a : Option Addr) (len cap : Nat) (w : World) (hn : -9223372036854775808 ≤ n ∧ n ≤ 9223372036854775807) :
    Calls Try.prog 5 #[.int .i64 n, .slice a len cap] w fun e w' => e = .returned (.bool true) ∧ Below w.heap.size w w' := by
  have hu : 0 ≤ IntKind.u32.wrap n ∧ IntKind.u32.wrap n ≤ 4294967295 := by rw [IntKind.wrap_u32]; omega
  go_enter Try.func5, Try.ntmps5
  go_wp2_with fail
  refine (wU8_nil _ _ hn).mono ?_
  rintro e w1 ⟨rfl, t1⟩
  go_wp2_with fail
  refine (wU16_nil _ _ hn).mono ?_
  rintro e w2 ⟨rfl, t2⟩
  go_wp2_with fail
  refine (wU32_nil _ _ (by first | exact hu | omega)).mono ?_
  rintro e w3 ⟨rfl, t3⟩
  go_wp2_with fail
  refine (wI64_nil _ _ hn).mono ?_
  rintro e w4 ⟨rfl, t4⟩
  have t04 : Touch w w4 (fun _ => False) := ((t1.trans t2 (fun _ _ h => h)).trans t3 (fun _ _ h => h)).trans t4 (fun _ _ h => h)
  clear t1 t2 t3 t4
  go_wp2_with (first | (go_at_call 16; refine (raw_nil _ _ _ _).mono ?_; rintro e w' ⟨rfl, rfl⟩) | (go_at_call 18; refine (wbytes_nil _).mono ?_; rintro e w' ⟨rfl, rfl⟩) | (go_at_call 17; refine (wlen_nil _).mono ?_; rintro e w' ⟨rfl, rfl⟩) | (go_at_call 21; refine (rU8_nil _).mono ?_; rintro e w' ⟨rfl, rfl⟩) | (go_at_call 23; refine (rU16_nil _).mono ?_; rintro e w' ⟨rfl, rfl⟩) | (go_at_call 25; refine (rU32_nil _).mono ?_; rintro e w' ⟨rfl, rfl⟩) | (go_at_call 27; refine (rI64_nil _).mono ?_; rintro e w' ⟨rfl, rfl⟩))
  refine (rraw_nil _ _).mono ?_
  rintro e w5 ⟨rfl, t5⟩
  have t05 := t04.trans t5 (fun _ _ h => h)
  go_wp2_with (first | (go_at_call 31; refine (rleft_nil _).mono ?_; rintro e w' ⟨rfl, rfl⟩) | (go_at_call 32; refine (rend_nil _).mono ?_; rintro e w' ⟨rfl, rfl⟩) | (go_at_call 19; refine (awake_any _).mono ?_; rintro e w' ⟨rfl, hbz⟩))
  go_ret
  exact ⟨rfl, (t05.below (fun _ _ h => h.elim) (Nat.le_refl _)).trans (hbz.mono t05.size)⟩

theorem octetNil_holds : Rows.OctetNilSaid := by
  refine octetNil.said fun H enc W base v0 v1 d0 d1 p0 p1 h0 h1 => ?_
  obtain ⟨n, rfl, hn1, hn2, _⟩ := h0.i64 Try.underlying2
  obtain ⟨a, len, cap, xs, rfl, hr, _, _⟩ := h1.bytes Try.underlying24 Try.underlying5 (by kernel_rfl) (by kernel_rfl)
  exact nil_walk n a len cap W ⟨hn1, hn2⟩
end Go.Proofs.Ytpbcglbjgahilaa
