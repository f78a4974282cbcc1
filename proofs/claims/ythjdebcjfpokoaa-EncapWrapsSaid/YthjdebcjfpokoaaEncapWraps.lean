/- EncapWraps answers true for any header, any bytes, however spoilt, cut or mended, any addresses, any bound: what Wrap and Unwrap answer is what the reference answers. No condition. -/
import Derived.Test.YthjdebcjfpokoaaEncRWrap
import Derived.Test.YthjdebcjfpokoaaEncRUnw
import Derived.Test.YthjdebcjfpokoaaEncAwake
import Derived.Test.YthjdebcjfpokoaaIpArgs
import Derived.Test.YthjdebcjfpokoaaFrEncapWraps
set_option linter.unusedVariables false
namespace Go.Proofs.Ythjdebcjfpokoaa
open Go.RowKit

theorem str_row {w : World} {a : Option Addr} {n c : Nat} {xs : List Nat} (h : RowB w a n c xs) : Sem.run Try.prog (convert 25 9 (.slice a n c)) w = .ok (.string (strB xs)) w :=
  run_string_of (P := Try.prog) h 25 9 5 Try.underlying25 Try.underlying5 Try.underlying9
set_option maxRecDepth 20000 in
set_option maxHeartbeats 16000000 in
theorem wraps_walk (h : HArg) (ok : h.Ok) (a1 : Option Addr) (l1 c1 : Nat) (xs : List Nat) (ap : Option Addr) (lp cp : Nat) (ps : List Int) (x : Nat) (fix : Bool) (cut : Int) (a2 : Option Addr) (l2 c2 : Nat) (ys : List Nat) (p q mtu : Int) (w : World)
    (hr1 : RowB w a1 l1 c1 xs) (hi : RowI w ap lp cp ps) (hx8 : x < 256) (hcut : isI64 cut) (hr2 : RowB w a2 l2 c2 ys) (s1 : 0 ≤ p ∧ p ≤ 4294967295) (s2 : 0 ≤ q ∧ q ≤ 4294967295) :
    Calls Try.prog 10 #[.agg (acs h), .slice a1 l1 c1, .slice ap lp cp, .int .u8 x, .bool fix, .int .i64 cut, .slice a2 l2 c2, .int .u32 p, .int .u32 q, .int .i64 mtu] w fun e w' => e = .returned (.bool true) ∧ Touch w w' (fun _ => False) := by
  obtain ⟨W1, hW1⟩ : ∃ W, w.alloc (.cells (acs h) 24) = W := ⟨_, rfl⟩
  have t1 : Touch w W1 (fun _ => False) := hW1 ▸ (Touch.refl _ _).alloc _
  have HH : RowKit.Hid (W1.heap[w.heap.size]? = some (.cells (acs h) 24 (0, 0))) := Lib.hid (hW1 ▸ heap_alloc_new w _)
  have HT := Lib.hid t1
  have HW1 := Lib.hid hW1
  have HR1 := Lib.hid hr1
  have HR2 := Lib.hid hr2
  have HI := Lib.hid hi
  clear t1 hW1 hr1 hr2 hi
  by_cases hb1 : 2100 < l1
  · have hb' : (2100 : Int) < l1 := by omega
    simp only [acs] at HW1 ⊢
    go_enter Try.func10, Try.ntmps10
    go_upto_region 1 with fail
    rw [HW1.out]
    go_wp2_with (go_at_call 29; (with_reducible refine (awake22 _).mono ?_); rintro e w3 ⟨rfl, t3⟩)
    go_ret
    exact ⟨rfl, HT.out.trans t3 (fun _ _ h => h)⟩
  have hb1' : ¬ (2100 : Int) < l1 := by omega
  by_cases hb2 : 2100 < l2
  · have hb' : (2100 : Int) < l2 := by omega
    simp only [acs] at HW1 ⊢
    go_enter Try.func10, Try.ntmps10
    go_upto_region 1 with fail
    rw [HW1.out]
    go_wp2_with (go_at_call 29; (with_reducible refine (awake22 _).mono ?_); rintro e w3 ⟨rfl, t3⟩)
    go_ret
    exact ⟨rfl, HT.out.trans t3 (fun _ _ h => h)⟩
  have hb2' : ¬ (2100 : Int) < l2 := by omega
  have HP := Lib.hid (packet_any h ok a1 l1 c1 xs ap lp cp ps x fix cut W1 (HR1.out.touch HT.out (fun _ _ => .inr (fun h => h))) (by
    obtain ⟨i1, i2, i3, i4, i5⟩ := HI.out
    refine ⟨i1, i2, i3, i4, ?_⟩
    rcases i5 with i5 | ⟨b, off, hb, hlt, hc⟩
    · exact .inl i5
    · exact .inr ⟨b, off, hb, Nat.lt_of_lt_of_le hlt HT.out.size, fun i hi => (HT.out.cell (p := ⟨b, off + i, none⟩) hlt (fun h => h)).trans (hc i hi)⟩) hx8 hcut (by omega))
  have k0 := cell_of_cells HH.out 0
  have k1 := cell_of_cells HH.out 1
  have k2 := cell_of_cells HH.out 2
  have k3 := cell_of_cells HH.out 3
  have k4 := cell_of_cells HH.out 4
  have k5 := cell_of_cells HH.out 5
  have k6 := cell_of_cells HH.out 6
  have k7 := cell_of_cells HH.out 7
  have k8 := cell_of_cells HH.out 8
  have k9 := cell_of_cells HH.out 9
  have k10 := cell_of_cells HH.out 10
  simp [acs] at k0 k1 k2 k3 k4 k5 k6 k7 k8 k9 k10
  simp only [acs] at HW1 HP ⊢
  go_enter Try.func10, Try.ntmps10
  go_upto_region 1 with fail
  rw [HW1.out]
  go_wp2_with (go_at_call 14; (with_reducible refine HP.out.mono ?_); rintro e w2 ⟨a3, n3, c3, zs, rfl, hr3, hn3, t2⟩)
  have HT2 := Lib.hid (HT.out.trans t2 (fun _ _ h => h))
  have HR3 := Lib.hid hr3
  have HR2 := Lib.hid (HR2.out.touch HT2.out (fun _ _ => .inr (fun h => h)))
  have HN := Lib.hid hn3
  clear hr3 t2 HP HW1 HT HH HI k0 k1 k2 k3 k4 k5 k6 k7 k8 k9 k10 hn3
  go_loopw [53] (fun i wr => ∃ k : Nat, k ≤ 2 ∧ i = .int .i64 k ∧ Touch w2 wr (fun _ => False)) (fun i _ => 2 - (intOf i).toNat)
  case atStart => exact ⟨0, by omega, rfl, Touch.refl _ _⟩
  case round =>
    obtain ⟨k, hk, rfl, ht⟩ := hrel
    by_cases hlt : k < 2
    · have hkI : (k : Int) < 2 := by omega
      have hidx : ∃ A n C zz, (∀ W, (Instr.index 29 (.agg #[.slice a3 n3 c3, .slice a2 l2 c2]) (.int .i64 k)).run Try.prog W = .ok (.slice A n C) W) ∧ RowB w2 A n C zz ∧ n ≤ 10000 := by
        have : k = 0 ∨ k = 1 := by omega
        rcases this with rfl | rfl
        · exact ⟨_, _, _, _, fun W => by rfl, HR3.out, by have := HN.out; omega⟩
        · exact ⟨_, _, _, _, fun W => by rfl, HR2.out, by omega⟩
      obtain ⟨A, n, C, zz, hidx, hrz, hnb⟩ := hidx
      have HZ := Lib.hid (hrz.touch ht (fun _ _ => .inr (fun h => h)))
      have HT4 := Lib.hid ht
      have HP1 := Lib.hid (fun W h => wrap_any A n C zz p q mtu W h s1 s2)
      have HP2 := Lib.hid (fun W h => rwrap_any A n C zz p q mtu W h (by omega) s1 s2)
      have HP3 := Lib.hid (fun W h => unwrap_any A n C zz W h)
      have HP4 := Lib.hid (fun W h => runwrap_any A n C zz W h (by omega))
      unfold UnwrapIs at HP3 HP4
      generalize tellW zz p q mtu = TW at *
      generalize whyW zz mtu = yw at *
      generalize tellU zz = TU at *
      generalize whyU zz = yu at *
      generalize srcU zz = su at *
      generalize dstU zz = du at *
      clear hrz ht
      go_wp2_with (first
        | (go_at_call 30; (with_reducible refine (HP1.out _ HZ.out).mono ?_); rintro e w5 ⟨a5, n5, c5, rfl, hr5, t5⟩; have HT4 := Lib.hid (HT4.out.trans t5 (fun _ _ h => h)); have HZ := Lib.hid (HZ.out.touch t5 (fun _ _ => .inr (fun h => h))); have HR5 := Lib.hid hr5; clear hr5 t5)
        | (go_at_call 31; (with_reducible refine (HP2.out _ HZ.out).mono ?_); rintro e w6 ⟨a6, n6, c6, rfl, hr6, t6⟩; have HT4 := Lib.hid (HT4.out.trans t6 (fun _ _ h => h)); have HZ := Lib.hid (HZ.out.touch t6 (fun _ _ => .inr (fun h => h))); have st1 := str_row (HR5.out.touch t6 (fun _ _ => .inr (fun h => h))); have st2 := str_row hr6; clear hr6 t6 HR5)
        | (go_at_call 32; (with_reducible refine (HP3.out _ HZ.out).mono ?_); rintro e w7 ⟨a7, n7, c7, rfl, hr7, t7⟩; have HT4 := Lib.hid (HT4.out.trans t7 (fun _ _ h => h)); have HZ := Lib.hid (HZ.out.touch t7 (fun _ _ => .inr (fun h => h))); have HR7 := Lib.hid hr7; clear hr7 t7 st1 st2)
        | (go_at_call 33; (with_reducible refine (HP4.out _ HZ.out).mono ?_); rintro e w8 ⟨a8, n8, c8, rfl, hr8, t8⟩; have HT4 := Lib.hid (HT4.out.trans t8 (fun _ _ h => h)); have st3 := str_row (HR7.out.touch t8 (fun _ _ => .inr (fun h => h))); have st4 := str_row hr8; clear hr8 t8 HR7))
      exact ⟨⟨k + 1, by omega, by go_num, HT4.out⟩, by simp [intOf]; omega⟩
    · have hkI : ¬ (k : Int) < 2 := by omega
      have HT := Lib.hid (HT2.out.trans ht (fun _ _ h => h))
      go_wp2_with (go_at_call 29; (with_reducible refine (awake22 _).mono ?_); rintro e w3 ⟨rfl, t3⟩)
      go_ret
      exact ⟨rfl, HT.out.trans t3 (fun _ _ h => h)⟩
theorem encapWraps_holds : Rows.EncapWrapsSaid := by
  refine encapWraps.said fun H enc W base v0 v1 v2 v3 v4 v5 v6 v7 v8 v9 d0 d1 d2 d3 d4 d5 d6 d7 d8 d9 p0 p1 p2 p3 p4 p5 p6 p7 p8 p9 h0 h1 h2 h3 h4 h5 h6 h7 h8 h9 => ?_
  obtain ⟨h, rfl, ok⟩ := h0.header
  obtain ⟨a1, l1, c1, xs, rfl, hr1, _, _⟩ := h1.bytes Try.underlying25 Try.underlying5 (by kernel_rfl) (by kernel_rfl)
  obtain ⟨ap, lp, cp, ps, rfl, hi⟩ := h2.ints Try.underlying26 Try.underlying3 (by kernel_rfl)
  obtain ⟨x, rfl, hx⟩ := h3.u8 Try.underlying5
  obtain ⟨fix, rfl⟩ := h4.bool Try.underlying4
  obtain ⟨cut, rfl, o1, o2, _⟩ := h5.i64 Try.underlying3
  obtain ⟨a2, l2, c2, ys, rfl, hr2, _, _⟩ := h6.bytes Try.underlying25 Try.underlying5 (by kernel_rfl) (by kernel_rfl)
  obtain ⟨p, rfl, q1, q2, _⟩ := h7.u32 Try.underlying22
  obtain ⟨q, rfl, m1, m2, _⟩ := h8.u32 Try.underlying22
  obtain ⟨m, rfl, _, _, _⟩ := h9.i64 Try.underlying3
  exact (wraps_walk h ok a1 l1 c1 xs ap lp cp ps x fix cut a2 l2 c2 ys p q m W hr1 hi hx ⟨o1, o2⟩ hr2 ⟨q1, q2⟩ ⟨m1, m2⟩).mono fun e w' h => ⟨h.1, h.2.below (fun _ _ h => h.elim) (Nat.le_refl _)⟩
end Go.Proofs.Ythjdebcjfpokoaa
