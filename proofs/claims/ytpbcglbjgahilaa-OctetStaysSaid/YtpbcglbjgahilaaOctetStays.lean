/- OctetStays answers true for any bytes and any calls: behind a call that is short nothing is told, and the error stays. No condition. -/
import Derived.Test.YtpbcglbjgahilaaOctAwake
import Derived.Test.YtpbcglbjgahilaaOctArgs
import Derived.Test.YtpbcglbjgahilaaFrOctetStays
set_option linter.unusedVariables false
namespace Go.Proofs.Ytpbcglbjgahilaa
open Go.RowKit

/-- Raw of a reader that has nothing left. -/
theorem rraw_over (G : Nat) (n : Int) (w : World) (h : RdB w G none 0 0 [] 2) :
    Calls Try.prog 29 #[.pointer (some ⟨G, 0, none⟩), .int .i64 n] w fun e w' => e = .returned (.slice none 0 0) ∧ RdB w' G none 0 0 [] 2 ∧ Touch w w' (fun k => k = G) := by
  by_cases hn : n ≤ 0
  · refine (rraw_none G none 0 0 [] 2 n w h hn).mono ?_
    rintro e w' ⟨rfl, rfl⟩
    exact ⟨rfl, h, Touch.refl _ _⟩
  · exact rraw_short G none 0 0 [] 2 n w h (by omega)

set_option maxHeartbeats 4000000 in
theorem stays_walk (a : Option Addr) (n cap : Nat) (xs : List Nat) (la : Option Addr) (len lcap : Nat) (w : World) (hr : RowB w a n cap xs) (hlc : len ≤ lcap) (hcm : lcap ≤ 9223372036854775807)
    (hc : len = 0 ∨ ∃ b off, la = some ⟨b, off, none⟩ ∧ ∀ i, i < len → ∃ act num raw, CallIn w b off i act num raw) :
    Calls Try.prog 7 #[.slice a n cap, .slice la len lcap] w fun e w' => e = .returned (.bool true) ∧ Below w.heap.size w w' := by
  have HC := Lib.hid hc
  clear hc
  by_cases h200 : (200 : Int) < n
  · clear hr
    go_enter Try.func7, Try.ntmps7
    go_wp2_with (go_at_call 19; refine (awake_any _).mono ?_; rintro e w' ⟨rfl, hbz⟩)
    go_ret
    exact ⟨rfl, hbz⟩
  have H := Lib.hid (newreader_any a n cap xs w hr (by omega))
  clear hr
  go_enter Try.func7, Try.ntmps7
  go_wp2_with fail
  refine H.out.mono ?_
  rintro e w1 ⟨v, rfl, hnew⟩
  obtain ⟨G, a1, c1, rfl, hrd, t1, hG, hax⟩ := hnew
  go_wp2_with fail
  refine (rraw_short G a1 n c1 xs 0 _ w1 hrd (by omega)).mono ?_
  rintro e w2 ⟨rfl, hrd2, t2⟩
  have hb2 : Below w.heap.size w w2 := (t1.below (fun _ _ h => h.elim) (Nat.le_refl _)).trans (t2.below (fun k _ h => by omega) t1.size)
  clear t1 t2 hrd hax
  go_wp2_with fail
  refine (rleft_any _ _ _ _ _ _ _ hrd2).mono ?_
  rintro e w' ⟨rfl, rfl⟩
  go_wp2_with fail
  refine (rend_any _ _ _ _ _ _ _ hrd2).mono ?_
  rintro e w' ⟨rfl, rfl⟩
  rw [show endOf 0 2 = 2 by decide]
  go_wp2_with fail
  rcases HC.out with hl0 | ⟨b, off, rfl, hc⟩
  · subst hl0
    go_loop [34] (fun i => i = .int .i64 0) (fun _ => 0)
    case atStart => rfl
    case round =>
      subst hrel
      go_wp2_with (go_at_call 19; refine (awake_any _).mono ?_; rintro e w' ⟨rfl, hbz⟩)
      go_ret
      exact ⟨rfl, hb2.trans (hbz.mono hb2.size)⟩
  clear HC
  have HC := Lib.hid hc
  clear hc
  go_loopw [34] (fun i wr => ∃ (k : Nat), k ≤ len ∧ k ≤ 30 ∧ i = .int .i64 k ∧ RdB wr G none 0 0 [] 2 ∧ Below w.heap.size w wr) (fun i _ => len - (intOf i).toNat)
  case atStart => exact ⟨0, Nat.zero_le _, by omega, rfl, hrd2, hb2⟩
  case round =>
    obtain ⟨k, hk, hk30, rfl, hrd, hbel⟩ := hrel
    clear hrd2 hb2
    by_cases hlt : k < len
    · obtain ⟨act, num, raw, hcall⟩ := HC.out k hlt
      obtain ⟨c0, c1, c2, ca, cn, ra, rl, rc, rfl⟩ := hcall.old hbel
      clear hcall
      have hkI : (k : Int) < len := by omega
      obtain ⟨W1, hW1⟩ : ∃ W1, wr.alloc (.cells #[.int .i64 act, .int .i64 num, .slice ra rl rc] 28) = W1 := ⟨_, rfl⟩
      have t1 : Touch wr W1 (fun _ => False) := hW1 ▸ (Touch.refl _ _).alloc _
      have hh1 : W1.heap[wr.heap.size]? = some (.cells #[.int .i64 act, .int .i64 num, .slice ra rl rc] 28 (0, 0)) := hW1 ▸ heap_alloc_new wr _
      have d0 := cell_of_cells hh1 0
      have d1 := cell_of_cells hh1 1
      have d2 := cell_of_cells hh1 2
      simp at d0 d1 d2
      have hrd1 : RdB W1 G none 0 0 [] 2 := hrd.touch t1 (fun h => h) (fun _ h => by cases h)
      have hbel1 : Below w.heap.size w W1 := hbel.trans (t1.below (fun _ _ h => h.elim) hbel.size)
      clear hh1 t1 hrd
      by_cases hk0 : 30 ≤ k
      · have hg : (30 : Int) ≤ k := by omega
        go_wp2_with (go_at_call 19; refine (awake_any _).mono ?_; rintro e w' ⟨rfl, hbz⟩)
        go_ret
        exact ⟨rfl, hbel1.trans (hbz.mono hbel1.size)⟩
      have hg : ¬ (30 : Int) ≤ k := by omega
      by_cases h0 : act = 0
      · subst h0
        go_wp2_with fail
        refine (rU8_short G none 0 0 [] 2 _ hrd1 (by omega)).mono ?_
        rintro e W2 ⟨rfl, hrd2, t2⟩
        have hbel2 := hbel1.trans (t2.below (fun k _ h => by omega) hbel1.size)
        clear hrd1 hbel1 c0 c1 d0 d1 d2 t2
        go_wp2_with (first | (go_at_call 31; refine (rleft_any _ _ _ _ _ _ _ hrd2).mono ?_; rintro e w' ⟨rfl, rfl⟩) | (go_at_call 32; refine (rend_any _ _ _ _ _ _ _ hrd2).mono ?_; rintro e w' ⟨rfl, rfl⟩; rw [show endOf 0 2 = 2 by decide]))
        refine ⟨⟨k + 1, by omega, by omega, by go_num, hrd2, hbel2⟩, by simp [intOf]; omega⟩
      have n0 : (act == 0) = false := beq_eq_false_iff_ne.2 h0
      by_cases h1 : act = 1
      · subst h1
        go_wp2_with fail
        refine (rU16_short G none 0 0 [] 2 _ hrd1 (by omega)).mono ?_
        rintro e W2 ⟨rfl, hrd2, t2⟩
        have hbel2 := hbel1.trans (t2.below (fun k _ h => by omega) hbel1.size)
        clear hrd1 hbel1 c0 c1 d0 d1 d2 t2
        go_wp2_with (first | (go_at_call 31; refine (rleft_any _ _ _ _ _ _ _ hrd2).mono ?_; rintro e w' ⟨rfl, rfl⟩) | (go_at_call 32; refine (rend_any _ _ _ _ _ _ _ hrd2).mono ?_; rintro e w' ⟨rfl, rfl⟩; rw [show endOf 0 2 = 2 by decide]))
        refine ⟨⟨k + 1, by omega, by omega, by go_num, hrd2, hbel2⟩, by simp [intOf]; omega⟩
      have n1 : (act == 1) = false := beq_eq_false_iff_ne.2 h1
      by_cases h2 : act = 2
      · subst h2
        go_wp2_with fail
        refine (rU32_short G none 0 0 [] 2 _ hrd1 (by omega)).mono ?_
        rintro e W2 ⟨rfl, hrd2, t2⟩
        have hbel2 := hbel1.trans (t2.below (fun k _ h => by omega) hbel1.size)
        clear hrd1 hbel1 c0 c1 d0 d1 d2 t2
        go_wp2_with (first | (go_at_call 31; refine (rleft_any _ _ _ _ _ _ _ hrd2).mono ?_; rintro e w' ⟨rfl, rfl⟩) | (go_at_call 32; refine (rend_any _ _ _ _ _ _ _ hrd2).mono ?_; rintro e w' ⟨rfl, rfl⟩; rw [show endOf 0 2 = 2 by decide]))
        refine ⟨⟨k + 1, by omega, by omega, by go_num, hrd2, hbel2⟩, by simp [intOf]; omega⟩
      have n2 : (act == 2) = false := beq_eq_false_iff_ne.2 h2
      by_cases h3 : act = 3
      · subst h3
        go_wp2_with fail
        refine (rI64_short G none 0 0 [] 2 _ hrd1 (by omega)).mono ?_
        rintro e W2 ⟨rfl, hrd2, t2⟩
        have hbel2 := hbel1.trans (t2.below (fun k _ h => by omega) hbel1.size)
        clear hrd1 hbel1 c0 c1 d0 d1 d2 t2
        go_wp2_with (first | (go_at_call 31; refine (rleft_any _ _ _ _ _ _ _ hrd2).mono ?_; rintro e w' ⟨rfl, rfl⟩) | (go_at_call 32; refine (rend_any _ _ _ _ _ _ _ hrd2).mono ?_; rintro e w' ⟨rfl, rfl⟩; rw [show endOf 0 2 = 2 by decide]))
        refine ⟨⟨k + 1, by omega, by omega, by go_num, hrd2, hbel2⟩, by simp [intOf]; omega⟩
      have n3 : (act == 3) = false := beq_eq_false_iff_ne.2 h3
      have m0 := h0
      have m1 := h1
      have m2 := h2
      have m3 := h3
      clear h0 h1 h2 h3
      go_wp2_with fail
      refine (rraw_over G _ _ hrd1).mono ?_
      rintro e W2 ⟨rfl, hrd2, t2⟩
      have hbel2 := hbel1.trans (t2.below (fun k _ h => by omega) hbel1.size)
      clear hrd1 hbel1 c0 c1 d0 d1 d2 t2
      go_wp2_with (first | (go_at_call 31; refine (rleft_any _ _ _ _ _ _ _ hrd2).mono ?_; rintro e w' ⟨rfl, rfl⟩) | (go_at_call 32; refine (rend_any _ _ _ _ _ _ _ hrd2).mono ?_; rintro e w' ⟨rfl, rfl⟩; rw [show endOf 0 2 = 2 by decide]))
      refine ⟨⟨k + 1, by omega, by omega, by go_num, hrd2, hbel2⟩, by simp [intOf]; omega⟩
    · obtain rfl : len = k := by omega
      have hkI : ¬ (len : Int) < len := by omega
      go_wp2_with (go_at_call 19; refine (awake_any _).mono ?_; rintro e w' ⟨rfl, hbz⟩)
      go_ret
      exact ⟨rfl, hbel.trans (hbz.mono hbel.size)⟩

theorem octetStays_holds : Rows.OctetStaysSaid := by
  refine octetStays.said fun H enc W base v0 v1 d0 d1 p0 p1 h0 h1 => ?_
  obtain ⟨a, len, cap, xs, rfl, hr, _, _⟩ := h0.bytes Try.underlying24 Try.underlying5 (by kernel_rfl) (by kernel_rfl)
  obtain ⟨la, ln, lcap, rfl, hlc, hcm, hc⟩ := h1.callsIn Try.underlying22 Try.underlying28 (by kernel_rfl) Try.underlying3 Try.underlying2 Try.underlying24 rfl rfl rfl (by kernel_rfl) (by kernel_rfl) (by kernel_rfl)
  exact stays_walk a len cap xs la ln lcap W hr hlc hcm hc
end Go.Proofs.Ytpbcglbjgahilaa
