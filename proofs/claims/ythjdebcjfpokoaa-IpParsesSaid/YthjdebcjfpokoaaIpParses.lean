/- IpParses answers true for any header, any bytes, however spoilt, cut or mended: what Parse tells is what the reference tells, what Build writes is what the reference writes, and so is whether it is whole. No condition. -/
import Derived.Test.YthjdebcjfpokoaaIpPacket
import Derived.Test.YthjdebcjfpokoaaIpIs
import Derived.Test.YthjdebcjfpokoaaIpAwake
import Derived.Test.YthjdebcjfpokoaaIpArgs
import Derived.Test.YthjdebcjfpokoaaFrIpParses
import Derived.Deep.RegionHeld
import Derived.Deep.DeepCutAuto
set_option linter.unusedVariables false
namespace Go.Proofs.Ythjdebcjfpokoaa
open Go.RowKit

theorem acells11_of {w : World} {B : Nat} {h : HArg} (hb : w.heap[B]? = some (.cells (acs h) 24 (0, 0))) :
    w.cell? ⟨B, 0, none⟩ = some (.int .i64 h.ihl) ∧ w.cell? ⟨B, 1, none⟩ = some (.int .i64 h.tos) ∧ w.cell? ⟨B, 2, none⟩ = some (.int .i64 h.len) ∧ w.cell? ⟨B, 3, none⟩ = some (.int .i64 h.id) ∧
    w.cell? ⟨B, 4, none⟩ = some (.int .i64 h.flags) ∧ w.cell? ⟨B, 5, none⟩ = some (.int .i64 h.off) ∧ w.cell? ⟨B, 6, none⟩ = some (.int .i64 h.ttl) ∧ w.cell? ⟨B, 7, none⟩ = some (.int .i64 h.proto) ∧
    w.cell? ⟨B, 8, none⟩ = some (.int .i64 h.sum) ∧ w.cell? ⟨B, 9, none⟩ = some (.int .u32 h.src) ∧ w.cell? ⟨B, 10, none⟩ = some (.int .u32 h.dst) :=
  ⟨cell_of_cells hb 0, cell_of_cells hb 1, cell_of_cells hb 2, cell_of_cells hb 3, cell_of_cells hb 4, cell_of_cells hb 5, cell_of_cells hb 6, cell_of_cells hb 7, cell_of_cells hb 8, cell_of_cells hb 9, cell_of_cells hb 10⟩
/-- A row of bytes as a string. -/
theorem str_of {w : World} {a : Option Addr} {n c : Nat} {xs : List Nat} (h : RowB w a n c xs) : Sem.run Try.prog (convert 25 9 (.slice a n c)) w = .ok (.string (strB xs)) w :=
  run_string_of (P := Try.prog) h 25 9 5 Try.underlying25 Try.underlying5 Try.underlying9

set_option maxRecDepth 20000 in
set_option maxHeartbeats 16000000 in
theorem parses_walk (h : HArg) (ok : h.Ok) (a1 : Option Addr) (l1 c1 : Nat) (xs : List Nat) (ap : Option Addr) (lp cp : Nat) (ps : List Int) (x : Nat) (fix : Bool) (cut : Int) (a2 : Option Addr) (l2 c2 : Nat) (ys : List Nat) (w : World)
    (hr1 : RowB w a1 l1 c1 xs) (hi : RowI w ap lp cp ps) (hx8 : x < 256) (hcut : isI64 cut) (hr2 : RowB w a2 l2 c2 ys) :
    Calls Try.prog 3 #[.agg (acs h), .slice a1 l1 c1, .slice ap lp cp, .int .u8 x, .bool fix, .int .i64 cut, .slice a2 l2 c2] w fun e w' => e = .returned (.bool true) ∧ Touch w w' (fun _ => False) := by
  obtain ⟨W1, hW1⟩ : ∃ W, w.alloc (.cells (acs h) 24) = W := ⟨_, rfl⟩
  have t1 : Touch w W1 (fun _ => False) := hW1 ▸ (Touch.refl _ _).alloc _
  have HH : RowKit.Hid (W1.heap[w.heap.size]? = some (.cells (acs h) 24 (0, 0))) := Lib.hid (hW1 ▸ heap_alloc_new w _)
  have HT := Lib.hid t1
  have HW1 := Lib.hid hW1
  have HR1 := Lib.hid hr1
  have HR2 := Lib.hid hr2
  have HI := Lib.hid hi
  clear t1 hW1 hr1 hr2 hi
  by_cases hb1 : 2000 < l1
  · have hb' : (2000 : Int) < l1 := by omega
    simp only [acs] at HW1 ⊢
    go_enter Try.func3, Try.ntmps3
    go_upto_region 1 with fail
    rw [HW1.out]
    go_wp2_with (go_at_call 13; with_reducible refine (awake20 _).mono ?_; rintro e w' ⟨rfl, ht⟩)
    go_ret
    exact ⟨rfl, HT.out.trans ht (fun _ _ h => h)⟩
  have hb1' : ¬ (2000 : Int) < l1 := by omega
  by_cases hb2 : 2000 < l2
  · have hb' : (2000 : Int) < l2 := by omega
    simp only [acs] at HW1 ⊢
    go_enter Try.func3, Try.ntmps3
    go_upto_region 1 with fail
    rw [HW1.out]
    go_wp2_with (go_at_call 13; with_reducible refine (awake20 _).mono ?_; rintro e w' ⟨rfl, ht⟩)
    go_ret
    exact ⟨rfl, HT.out.trans ht (fun _ _ h => h)⟩
  have hb2' : ¬ (2000 : Int) < l2 := by omega
  have HP := Lib.hid (packet_any h ok a1 l1 c1 xs ap lp cp ps x fix cut W1 (HR1.out.touch HT.out (fun _ _ => .inr (fun h => h))) (by
    obtain ⟨i1, i2, i3, i4, i5⟩ := HI.out
    refine ⟨i1, i2, i3, i4, ?_⟩
    rcases i5 with i5 | ⟨b, off, hb, hlt, hc⟩
    · exact .inl i5
    · exact .inr ⟨b, off, hb, Nat.lt_of_lt_of_le hlt HT.out.size, fun i hi => (HT.out.cell (p := ⟨b, off + i, none⟩) hlt (fun h => h)).trans (hc i hi)⟩) hx8 hcut (by omega))
  have HB := Lib.hid (fun W => build_any h ok W)
  have HRB := Lib.hid (fun W => rbuild_any h ok W)
  have hbl := builtF_length h
  generalize builtF h = F at *
  have HBL := Lib.hid hbl
  clear hbl
  have HCK := Lib.hid (fun (W : World) (hh : W.heap[w.heap.size]? = some (.cells (acs h) 24 (0, 0))) => acells11_of hh)
  simp only [acs] at HW1 HP HB HRB ⊢
  go_enter Try.func3, Try.ntmps3
  go_upto_region 1 with fail
  rw [HW1.out]
  obtain ⟨k0, k1, k2, k3, k4, k5, k6, k7, k8, k9, k10⟩ := HCK.out _ HH.out
  go_wp2_with (go_at_call 14; (with_reducible refine HP.out.mono ?_); rintro e w2 ⟨a3, n3, c3, zs, rfl, hr3, hn3, t2⟩)
  have HT2 := Lib.hid (HT.out.trans t2 (fun _ _ h => h))
  have HH2 := Lib.hid (t2.keeps HH.out (fun h => h))
  have HR3 := Lib.hid hr3
  have HR2 := Lib.hid (HR2.out.touch HT2.out (fun _ _ => .inr (fun h => h)))
  have HN := Lib.hid hn3
  clear hr3 t2 HP HW1 HT HH HI k0 k1 k2 k3 k4 k5 k6 k7 k8 k9 k10 hn3
  go_loopw [41] (fun i wr => ∃ k : Nat, k ≤ 2 ∧ i = .int .i64 k ∧ Touch w2 wr (fun _ => False)) (fun i _ => 2 - (intOf i).toNat)
  case atStart => exact ⟨0, by omega, rfl, Touch.refl _ _⟩
  case round =>
    obtain ⟨k, hk, rfl, ht⟩ := hrel
    by_cases hlt : k < 2
    · have hkI : (k : Int) < 2 := by omega
      have hidx : ∃ A n C zz, (∀ W, (Instr.index 29 (.agg #[.slice a3 n3 c3, .slice a2 l2 c2]) (.int .i64 k)).run Try.prog W = .ok (.slice A n C) W) ∧ RowB w2 A n C zz ∧ n ≤ 10000 := by
        have : k = 0 ∨ k = 1 := by omega
        rcases this with rfl | rfl
        · exact ⟨_, _, _, _, fun W => by rfl, HR3.out, by have := HN.out; omega⟩
        · exact ⟨_, _, _, _, fun W => by rfl, HR2.out, by omega⟩
      obtain ⟨A, n, C, zz, hidx, hrz, hnb⟩ := hidx
      have HZ := Lib.hid (hrz.touch ht (fun _ _ => .inr (fun h => h)))
      have HT4 := Lib.hid ht
      clear hrz ht
      go_wp2_with fail
      have HP1 := parse_is A n C zz wr HZ.out
      have HP2 := fun W h => rparse_is A n C zz W h (by omega)
      generalize tellH zz = TH at *
      generalize tellY zz = TY at *
      generalize whyF zz = y at *
      (with_reducible refine HP1.mono ?_)
      rintro e w5 ⟨a5, c5, rfl, hr5, t5, -⟩
      obtain ⟨W6, hW6⟩ : ∃ W, w5.alloc (.cells (hcs TH) 24) = W := ⟨_, rfl⟩
      have t6 : Touch w5 W6 (fun _ => False) := hW6 ▸ (Touch.refl _ _).alloc _
      have HG : RowKit.Hid (W6.heap[w5.heap.size]? = some (.cells (hcs TH) 24 (0, 0))) := Lib.hid (hW6 ▸ heap_alloc_new w5 _)
      have HT6 := Lib.hid ((HT4.out.trans t5 (fun _ _ h => h)).trans t6 (fun _ _ h => h))
      have HR5 := Lib.hid (hr5.touch t6 (fun _ _ => .inr (fun h => h)))
      have HZ := Lib.hid ((HZ.out.touch t5 (fun _ _ => .inr (fun h => h))).touch t6 (fun _ _ => .inr (fun h => h)))
      have HW6 := Lib.hid hW6
      clear hr5 t5 t6 hW6 HP1 hidx
      simp only [hv, hcs] at HW6 ⊢
      go_wp2_with fail
      rw [HW6.out]
      (with_reducible refine (HP2 _ HZ.out).mono ?_)
      rintro e w7 ⟨a7, c7, rfl, hr7, t7, -⟩
      obtain ⟨W8, hW8⟩ : ∃ W, w7.alloc (.cells (hcs TH) 24) = W := ⟨_, rfl⟩
      have t8 : Touch w7 W8 (fun _ => False) := hW8 ▸ (Touch.refl _ _).alloc _
      have HG2 : RowKit.Hid (W8.heap[w7.heap.size]? = some (.cells (hcs TH) 24 (0, 0))) := Lib.hid (hW8 ▸ heap_alloc_new w7 _)
      have t78 := t7.trans t8 (fun _ _ h => h)
      have HT8 := Lib.hid (HT6.out.trans t78 (fun _ _ h => h))
      have hG := t78.keeps HG.out (fun h => h)
      have st1 := str_of (HR5.out.touch t78 (fun _ _ => .inr (fun h => h)))
      have st2 := str_of (hr7.touch t8 (fun _ _ => .inr (fun h => h)))
      obtain ⟨g0, g1, g2, g3, g4, g5, g6, g7, g8, g9, g10⟩ := hcells_of hG
      obtain ⟨q0, q1, q2, q3, q4, q5, q6, q7, q8, q9, q10⟩ := hcells_of HG2.out
      have HW8 := Lib.hid hW8
      clear hr7 t7 t8 hW8 HP2 t78 hG
      simp only [hv, hcs] at HW8 ⊢
      go_upto_region 8 with fail
      rw [HW8.out]
      go_wp2_with fail
      exact ⟨⟨k + 1, by omega, by go_num, HT8.out⟩, by simp [intOf]; omega⟩
    · have hkI : ¬ (k : Int) < 2 := by omega
      have HT := Lib.hid (HT2.out.trans ht (fun _ _ h => h))
      have HH := Lib.hid (ht.keeps HH2.out (fun h => h))
      clear HT2 HH2 HR2 HR3 ht
      obtain ⟨k0, k1, k2, k3, k4, k5, k6, k7, k8, k9, k10⟩ := HCK.out _ HH.out
      go_wp2_with fail
      have t0 := (Touch.refl wr (fun _ => False)).drew
      have HT := Lib.hid (HT.out.trans t0 (fun _ _ h => h))
      have HH := Lib.hid (t0.keeps HH.out (fun h => h))
      clear t0
      go_region_held (fun w' => w'.cell? ⟨w.heap.size, 0, none⟩ = some (.int .i64 h.ihl) ∧ w'.cell? ⟨w.heap.size, 1, none⟩ = some (.int .i64 h.tos) ∧ w'.cell? ⟨w.heap.size, 2, none⟩ = some (.int .i64 h.len) ∧ w'.cell? ⟨w.heap.size, 3, none⟩ = some (.int .i64 h.id) ∧ w'.cell? ⟨w.heap.size, 4, none⟩ = some (.int .i64 h.flags) ∧ w'.cell? ⟨w.heap.size, 5, none⟩ = some (.int .i64 h.off) ∧ w'.cell? ⟨w.heap.size, 6, none⟩ = some (.int .i64 h.ttl) ∧ w'.cell? ⟨w.heap.size, 7, none⟩ = some (.int .i64 h.proto) ∧ w'.cell? ⟨w.heap.size, 8, none⟩ = some (.int .i64 h.sum) ∧ w'.cell? ⟨w.heap.size, 9, none⟩ = some (.int .u32 h.src) ∧ w'.cell? ⟨w.heap.size, 10, none⟩ = some (.int .u32 h.dst)) (first | (with_reducible exact HCK.out _ HH.out) | go_keep) (first
        | (go_simp; go_at_call 17; (with_reducible refine (HB.out _).mono ?_); rintro e w73 ⟨a73, d73, rfl, hf73⟩; have hq := ref_row (n := 0) hf73 HBL.out; have t73 := hf73.2; have HT := Lib.hid (HT.out.trans t73 (fun _ _ h => h)); have HH := Lib.hid (t73.keeps HH.out (fun h => h)); have HQ := Lib.hid hq.1; obtain ⟨k0, k1, k2, k3, k4, k5, k6, k7, k8, k9, k10⟩ := HCK.out _ HH.out; have st1 := str_of HQ.out; clear hf73 t73 hq)
        | (go_simp; go_at_call 18; (with_reducible refine (HRB.out _).mono ?_); rintro e w76 ⟨a76, d76, rfl, hf76⟩; have hq := ref_row (n := 0) hf76 HBL.out; have t76 := hf76.2; have HT := Lib.hid (HT.out.trans t76 (fun _ _ h => h)); have HH := Lib.hid (t76.keeps HH.out (fun h => h)); have HQ := Lib.hid (HQ.out.touch t76 (fun _ _ => .inr (fun h => h))); have HQ2 := Lib.hid hq.1; obtain ⟨k0, k1, k2, k3, k4, k5, k6, k7, k8, k9, k10⟩ := HCK.out _ HH.out; have st1 := str_of HQ.out; have st2 := str_of HQ2.out; clear hf76 t76 hq)
        | (go_simp; go_at_call 19; (with_reducible refine (whole_any' _ _ _ _ _ _ _ _ _ _ _ _).mono ?_); rintro e w81 ⟨rfl, t81⟩; have HT := Lib.hid (HT.out.trans t81 (fun _ _ h => h)); have HH := Lib.hid (t81.keeps HH.out (fun h => h)); have HQ := Lib.hid (HQ.out.touch t81 (fun _ _ => .inr (fun h => h))); have HQ2 := Lib.hid (HQ2.out.touch t81 (fun _ _ => .inr (fun h => h))); obtain ⟨k0, k1, k2, k3, k4, k5, k6, k7, k8, k9, k10⟩ := HCK.out _ HH.out; have st1 := str_of HQ.out; have st2 := str_of HQ2.out; clear t81)
        | (go_simp; go_at_call 20; (with_reducible refine (rwhole_any' _ _ _ _ _ _ _ _ _ _ _ _).mono ?_); rintro e w83 ⟨rfl, t83⟩; have HT := Lib.hid (HT.out.trans t83 (fun _ _ h => h)); have HH := Lib.hid (t83.keeps HH.out (fun h => h)); have HQ := Lib.hid (HQ.out.touch t83 (fun _ _ => .inr (fun h => h))); have HQ2 := Lib.hid (HQ2.out.touch t83 (fun _ _ => .inr (fun h => h))); obtain ⟨k0, k1, k2, k3, k4, k5, k6, k7, k8, k9, k10⟩ := HCK.out _ HH.out; have st1 := str_of HQ.out; have st2 := str_of HQ2.out; clear t83)
        | (go_simp; go_at_call 13; (with_reducible refine (awake20 _).mono ?_); rintro e w87 ⟨rfl, t87⟩; have HT := Lib.hid (HT.out.trans t87 (fun _ _ h => h)); have HH := Lib.hid (t87.keeps HH.out (fun h => h)); have HQ := Lib.hid (HQ.out.touch t87 (fun _ _ => .inr (fun h => h))); have HQ2 := Lib.hid (HQ2.out.touch t87 (fun _ _ => .inr (fun h => h))); obtain ⟨k0, k1, k2, k3, k4, k5, k6, k7, k8, k9, k10⟩ := HCK.out _ HH.out; have st1 := str_of HQ.out; have st2 := str_of HQ2.out; clear t87))
      all_goals (go_wp2_with fail; go_ret; exact ⟨rfl, HT.out⟩)
theorem ipParses_holds : Rows.IpParsesSaid := by
  refine ipParses.said fun H enc W base v0 v1 v2 v3 v4 v5 v6 d0 d1 d2 d3 d4 d5 d6 p0 p1 p2 p3 p4 p5 p6 h0 h1 h2 h3 h4 h5 h6 => ?_
  obtain ⟨h, rfl, ok⟩ := h0.header
  obtain ⟨a1, l1, c1, xs, rfl, hr1, _, _⟩ := h1.bytes Try.underlying25 Try.underlying5 (by kernel_rfl) (by kernel_rfl)
  obtain ⟨ap, lp, cp, ps, rfl, hi⟩ := h2.ints Try.underlying26 Try.underlying3 (by kernel_rfl)
  obtain ⟨x, rfl, hx⟩ := h3.u8 Try.underlying5
  obtain ⟨fix, rfl⟩ := h4.bool Try.underlying4
  obtain ⟨cut, rfl, o1, o2, _⟩ := h5.i64 Try.underlying3
  obtain ⟨a2, l2, c2, ys, rfl, hr2, _, _⟩ := h6.bytes Try.underlying25 Try.underlying5 (by kernel_rfl) (by kernel_rfl)
  exact (parses_walk h ok a1 l1 c1 xs ap lp cp ps x fix cut a2 l2 c2 ys W hr1 hi hx ⟨o1, o2⟩ hr2).mono fun e w' h => ⟨h.1, h.2.below (fun _ _ h => h.elim) (Nat.le_refl _)⟩
end Go.Proofs.Ythjdebcjfpokoaa
