/- PortsTells answers true for any tuple, any header, any bytes, however spoilt, cut or mended: what a packet's tuple, header and reason are, whether it ends a flow, is what the reference says. No condition. -/
import Derived.Test.YthjdebcjfpokoaaPortREnds
import Derived.Test.YthjdebcjfpokoaaPortMade
import Derived.Test.YthjdebcjfpokoaaIpPacket
import Derived.Test.YthjdebcjfpokoaaIpArgs
import Derived.Test.YthjdebcjfpokoaaFrPortsTells
import Derived.Lib.QuietBelow
import Derived.BigQuiet
import Derived.Deep.DeepCutAuto
set_option linter.unusedVariables false
namespace Go.Proofs.Ythjdebcjfpokoaa
open Go.RowKit

theorem acells11_at {w : World} {B : Nat} {h : HArg} (hb : w.heap[B]? = some (.cells (acs h) 24 (0, 0))) :
    w.cell? ⟨B, 0, none⟩ = some (.int .i64 h.ihl) ∧ w.cell? ⟨B, 1, none⟩ = some (.int .i64 h.tos) ∧ w.cell? ⟨B, 2, none⟩ = some (.int .i64 h.len) ∧ w.cell? ⟨B, 3, none⟩ = some (.int .i64 h.id) ∧
    w.cell? ⟨B, 4, none⟩ = some (.int .i64 h.flags) ∧ w.cell? ⟨B, 5, none⟩ = some (.int .i64 h.off) ∧ w.cell? ⟨B, 6, none⟩ = some (.int .i64 h.ttl) ∧ w.cell? ⟨B, 7, none⟩ = some (.int .i64 h.proto) ∧
    w.cell? ⟨B, 8, none⟩ = some (.int .i64 h.sum) ∧ w.cell? ⟨B, 9, none⟩ = some (.int .u32 h.src) ∧ w.cell? ⟨B, 10, none⟩ = some (.int .u32 h.dst) :=
  ⟨cell_of_cells hb 0, cell_of_cells hb 1, cell_of_cells hb 2, cell_of_cells hb 3, cell_of_cells hb 4, cell_of_cells hb 5, cell_of_cells hb 6, cell_of_cells hb 7, cell_of_cells hb 8, cell_of_cells hb 9, cell_of_cells hb 10⟩
/-- A told tuple as an argument. -/
def kOf (T : Tup) : KArg := ⟨T.src, T.dst, T.proto, T.sport, T.dport⟩
/-- The packet while it is spoilt: some bytes of the call's own. -/
def OwnPk (w0 : World) (v : Value) (n : Nat) (wr : World) : Prop := ∃ zs, OwnB wr w0.heap.size 5 v zs ∧ zs.length = n ∧ Touch w0 wr (fun _ => False)

set_option maxRecDepth 20000 in
set_option maxHeartbeats 16000000 in
theorem ptells_walk (k : KArg) (kok : k.Ok) (ttl flags : Int) (a1 : Option Addr) (l1 c1 : Nat) (xs : List Nat) (h : HArg) (ok : h.Ok) (ap : Option Addr) (lp cp : Nat) (ps : List Int) (x : Nat) (fix : Bool) (cut : Int) (a2 : Option Addr) (l2 c2 : Nat) (ys : List Nat) (w : World)
    (httl : isI64 ttl) (hflags : isI64 flags) (hr1 : RowB w a1 l1 c1 xs) (hi : RowI w ap lp cp ps) (hx8 : x < 256) (hcut : isI64 cut) (hr2 : RowB w a2 l2 c2 ys) :
    Calls Try.prog 7 #[.agg (kcs k), .int .i64 ttl, .int .i64 flags, .slice a1 l1 c1, .agg (acs h), .slice ap lp cp, .int .u8 x, .bool fix, .int .i64 cut, .slice a2 l2 c2] w fun e w' => e = .returned (.bool true) ∧ Touch w w' (fun _ => False) := by
  obtain ⟨W1, hW1⟩ : ∃ W, (w.alloc (.cells (kcs k) 43)).alloc (.cells (acs h) 24) = W := ⟨_, rfl⟩
  have t1 : Touch w W1 (fun _ => False) := hW1 ▸ ((Touch.refl _ _).alloc _).alloc _
  have HKC : RowKit.Hid (W1.heap[w.heap.size]? = some (.cells (kcs k) 43 (0, 0))) := Lib.hid (hW1 ▸ ((Touch.refl (w.alloc (.cells (kcs k) 43)) (fun _ => False)).alloc _).keeps (heap_alloc_new w _) (fun h => h))
  have HHC : RowKit.Hid (W1.heap[w.heap.size + 1]? = some (.cells (acs h) 24 (0, 0))) := Lib.hid (by
    have := heap_alloc_new (w.alloc (.cells (kcs k) 43)) (.cells (acs h) 24)
    rw [hW1] at this
    simpa using this)
  have HT := Lib.hid t1
  have HW1 := Lib.hid hW1
  have HR1 := Lib.hid (hr1.touch t1 (fun _ _ => .inr (fun h => h)))
  have HR2 := Lib.hid (hr2.touch t1 (fun _ _ => .inr (fun h => h)))
  have HI : RowKit.Hid (RowI W1 ap lp cp ps) := Lib.hid (by
    obtain ⟨i1, i2, i3, i4, i5⟩ := hi
    refine ⟨i1, i2, i3, i4, ?_⟩
    rcases i5 with i5 | ⟨b, off, hb, hlt, hc⟩
    · exact .inl i5
    · exact .inr ⟨b, off, hb, Nat.lt_of_lt_of_le hlt t1.size, fun i hi => (t1.cell (p := ⟨b, off + i, none⟩) hlt (fun h => h)).trans (hc i hi)⟩)
  clear t1 hW1 hr1 hr2 hi
  by_cases hb1 : 1000 < l1
  · have hb' : (1000 : Int) < l1 := by omega
    simp only [acs, kcs] at HW1 ⊢
    go_enter Try.func7, Try.ntmps7
    go_upto_region 1 with fail
    rw [HW1.out]
    go_wp2_with (go_at_call 22; with_reducible refine (awake21 _).mono ?_; rintro e w' ⟨rfl, ht⟩)
    go_ret
    exact ⟨rfl, HT.out.trans ht (fun _ _ h => h)⟩
  have hb1' : ¬ (1000 : Int) < l1 := by omega
  by_cases hb2 : 2000 < l2
  · have hb' : (2000 : Int) < l2 := by omega
    simp only [acs, kcs] at HW1 ⊢
    go_enter Try.func7, Try.ntmps7
    go_upto_region 1 with fail
    rw [HW1.out]
    go_wp2_with (go_at_call 22; with_reducible refine (awake21 _).mono ?_; rintro e w' ⟨rfl, ht⟩)
    go_ret
    exact ⟨rfl, HT.out.trans ht (fun _ _ h => h)⟩
  have hb2' : ¬ (2000 : Int) < l2 := by omega
  obtain ⟨n, hn⟩ : ∃ n, 20 + sizeK k l1 = n := ⟨_, rfl⟩
  have hn28 : 28 ≤ n ∧ n ≤ 1040 := by rw [← hn]; unfold sizeK; split <;> omega
  have HM := Lib.hid (made_any k kok ttl flags a1 l1 c1 xs W1 HR1.out (by omega) httl hflags n hn.symm)
  generalize hF : madeF k ttl flags xs = F at *
  have HP := Lib.hid (fun W hr hi => packet_any h ok a1 l1 c1 xs ap lp cp ps x fix cut W hr hi hx8 hcut (by omega))
  have HKX : RowKit.Hid (∀ W, Touch W1 W (fun _ => False) → W.cell? ⟨w.heap.size, 0, none⟩ = some (.int .u32 k.src) ∧ W.cell? ⟨w.heap.size, 1, none⟩ = some (.int .u32 k.dst) ∧ W.cell? ⟨w.heap.size, 2, none⟩ = some (.int .i64 k.proto) ∧ W.cell? ⟨w.heap.size, 3, none⟩ = some (.int .i64 k.sport) ∧ W.cell? ⟨w.heap.size, 4, none⟩ = some (.int .i64 k.dport)) := Lib.hid (fun W t => kcells_of (t.keeps HKC.out (fun h => h)))
  have HHX := Lib.hid (fun W (t : Touch W1 W (fun _ => False)) => acells11_at (t.keeps HHC.out (fun h => h)))
  have HEK := Lib.hid (fun a len cap zs W hr => ends_any k a len cap zs W hr)
  have HRK := Lib.hid (fun a len cap zs W hr hl => rends_any k a len cap zs W hr hl)
  clear hn hF
  simp only [acs, kcs] at HW1 HM HP HEK HRK ⊢
  go_enter Try.func7, Try.ntmps7
  go_upto_region 1 with fail
  rw [HW1.out]
  obtain ⟨k0, k1, k2, k3, k4⟩ := HKX.out _ (Touch.refl _ _)
  go_wp2_with (go_at_call 23; (with_reducible refine HM.out.mono ?_); rintro e w2 ⟨a3, c3, rfl, hf3⟩)
  obtain ⟨hown3, t3⟩ := hf3
  obtain ⟨a3', c3', hv3, -, hp3⟩ := hown3.row
  simp only [Value.slice.injEq] at hv3
  obtain ⟨e1, hFl, e2⟩ := hv3
  subst e1 e2
  obtain ⟨b3, rfl, hb31, hb32⟩ : ∃ g, a3 = some ⟨g, 0, none⟩ ∧ W1.heap.size ≤ g ∧ g < w2.heap.size := by
    rcases hp3 with rfl | h
    · exact (hown3.nonempty hFl.symm (by omega)).elim
    · exact h
  have hos : OwnPk W1 (.slice (some ⟨b3, 0, none⟩) n c3) n w2 := ⟨_, hown3, hFl.symm, t3⟩
  have hle : n ≤ c3 := by
    obtain ⟨a4, c4, hv4, hr4, _⟩ := hown3.row
    simp only [Value.slice.injEq] at hv4
    obtain ⟨_, q1, rfl⟩ := hv4
    have := hr4.2.1
    omega
  clear hown3 t3 hp3 hFl HM hb32
  have hn28a : 28 ≤ n := hn28.1
  have hn28b : n ≤ 1040 := hn28.2
  obtain ⟨m, hm⟩ : ∃ m, n = 20 + m := ⟨n - 20, by omega⟩
  have HMM := Lib.hid hm
  clear hm
  have hlp := HI.out.2.1
  have hcp := HI.out.2.2.1
  clear k0 k1 k2 k3 k4
  go_wp2_with fail
  go_loopw [48] (fun i wr => ∃ q : Nat, q ≤ lp ∧ i = .int .i64 q ∧ OwnPk W1 (.slice (some ⟨b3, 0, none⟩) n c3) n wr) (fun i _ => lp - (intOf i).toNat)
  case atStart => exact ⟨0, Nat.zero_le _, rfl, hos⟩
  case round =>
    obtain ⟨q, hq, rfl, zs, hown, hzl, ht⟩ := hrel
    by_cases hlt : q < lp
    case pos =>
      obtain hz | ⟨bp, op, rfl, hbp, hcell⟩ := HI.out.2.2.2.2
      · omega
      have hkp : q < ps.length := by rw [HI.out.1]; exact hlt
      have hc0 := hcell q hkp
      have hck : wr.cell? ⟨bp, op + q, none⟩ = some (.int .i64 ps[q]) := (ht.cell (p := ⟨bp, op + q, none⟩) hbp (fun h => h)).trans hc0
      clear hc0 hcell
      generalize ps[q] = p at *
      have hkI : (q : Int) < lp := by omega
      by_cases h3 : q < 2
      · have h3I : (q : Int) < 2 := by omega
        obtain ⟨j0, hj⟩ : ∃ j, u64N p % m = j := ⟨_, rfl⟩
        have hjm : j0 < m := by rw [← hj]; exact Nat.mod_lt _ (by have := HMM.out; omega)
        obtain ⟨j, hjj⟩ : ∃ j, 20 + j0 = j := ⟨_, rfl⟩
        have hjn : j < n := by have := HMM.out; omega
        have hjI : (j : Int) < n := by omega
        have e1 : ((u64N p : Int) % (m : Int)) = (j0 : Int) := by rw [← hj]; simp
        have e2 : (n : Int) - 20 = (m : Int) := by have := HMM.out; omega
        have e3 : (20 : Int) + (j0 : Int) = (j : Int) := by omega
        have hn0 : ((m : Int) == 0) = false := beq_eq_false_iff_ne.2 (by have := HMM.out; omega)
        have hn1 : ¬ (m : Int) = 0 := by have := HMM.out; omega
        have hm1 : m ≤ 1040 := by have := HMM.out; omega
        clear hjj
        have HO := Lib.hid hown
        have HZL := Lib.hid hzl
        have HT5 := Lib.hid ht
        have cj := hown.at hzl j hjn (by omega)
        have fj := hown.free hzl j
        rw [← gb_get _ _ (by omega)] at cj
        have hyb : gb zs j < 256 := gb_lt _ hown.small j
        have hxor := u8_xor_nat (gb zs j) x hyb hx8
        clear hown hzl ht hj hos
        have hu := u64N_wrap p
        go_wp2_with fail
        have hy2 : gb zs j ^^^ x < 256 := Nat.xor_lt_two_pow (n := 8) hyb hx8
        have ho := HO.out.stored HZL.out j _ hy2
        exact ⟨⟨q + 1, by omega, by go_num, _, ho, by simp [HZL.out], HT5.out.setCell ⟨b3, j, none⟩ _ (fun hh => by have h5 : b3 < W1.heap.size := hh; omega)⟩, by simp [intOf]; omega⟩
      · have h3I : ¬ (q : Int) < 2 := by omega
        have HO := Lib.hid hown
        have HZL := Lib.hid hzl
        have HT5 := Lib.hid ht
        clear hown hzl ht
        go_wp2_with fail
        exact ⟨⟨q + 1, by omega, by go_num, _, HO.out, HZL.out, HT5.out⟩, by simp [intOf]; omega⟩
    case neg =>
      have hkI : ¬ (q : Int) < lp := by omega
      have HR3 := Lib.hid (hown.rowOf hzl)
      have HT5 := Lib.hid ht
      obtain ⟨k0, k1, k2, k3, k4, k5, k6, k7, k8, k9, k10⟩ := HHX.out wr ht
      have HR15 := Lib.hid (HR1.out.touch ht (fun _ _ => .inr (fun h => h)))
      have HI5 := Lib.hid (HI.out.old (ht.below (fun _ _ h => h.elim) (Nat.le_refl _)))
      clear hown hzl ht hos
      go_wp2_with fail
      (with_reducible refine (HP.out _ HR15.out HI5.out).mono ?_)
      rintro e w6 ⟨a6, n6, c6, zs6, rfl, hr6, hn6, t6⟩
      have HR6 := Lib.hid hr6
      have HR3 := Lib.hid (HR3.out.touch t6 (fun _ _ => .inr (fun h => h)))
      have HT6 := Lib.hid (HT5.out.trans t6 (fun _ _ h => h))
      have HR26 := Lib.hid (HR2.out.touch HT6.out (fun _ _ => .inr (fun h => h)))
      clear hr6 t6 k0 k1 k2 k3 k4 k5 k6 k7 k8 k9 k10 HR15 HI5 HT5
      go_wp2_with fail
      go_loopw [81] (fun i wv => ∃ q : Nat, q ≤ 3 ∧ i = .int .i64 q ∧ Touch w6 wv (fun _ => False)) (fun i _ => 3 - (intOf i).toNat)
      case atStart => exact ⟨0, by omega, rfl, Touch.refl _ _⟩
      case round =>
        obtain ⟨q, hq, rfl, ht⟩ := hrel
        by_cases hlt : q < 3
        case neg =>
          have hkI : ¬ (q : Int) < 3 := by omega
          have HTE := Lib.hid (HT.out.trans (HT6.out.trans ht (fun _ _ h => h)) (fun _ _ h => h))
          go_wp2_with (go_at_call 22; (with_reducible refine (awake21 _).mono ?_); rintro e w9 ⟨rfl, t9⟩; have HT9 := Lib.hid (HTE.out.trans t9 (fun _ _ h => h)); clear t9)
          go_ret
          exact ⟨rfl, HT9.out⟩
        case pos =>
          have hkI : (q : Int) < 3 := by omega
          have hidx : ∃ A N C zz, (∀ W, (Instr.index 45 (.agg #[.slice (some ⟨b3, 0, none⟩) n c3, .slice a6 n6 c6, .slice a2 l2 c2]) (.int .i64 q)).run Try.prog W = .ok (.slice A N C) W) ∧ RowB w6 A N C zz ∧ N ≤ 10000 := by
            have : q = 0 ∨ q = 1 ∨ q = 2 := by omega
            rcases this with rfl | rfl | rfl
            · exact ⟨_, _, _, _, fun W => by rfl, HR3.out, by omega⟩
            · exact ⟨_, _, _, _, fun W => by rfl, HR6.out, by omega⟩
            · exact ⟨_, _, _, _, fun W => by rfl, HR26.out, by omega⟩
          obtain ⟨A, N, C, zz, hidx, hrz, hnb⟩ := hidx
          have HZ := Lib.hid (hrz.touch ht (fun _ _ => .inr (fun h => h)))
          have HT7 := Lib.hid ht
          clear hrz ht
          go_wp2_with fail
          have HP1 := tuple_any A N C zz wr HZ.out
          have HP2 := Lib.hid (fun W h => rtuple_any A N C zz W h (by omega))
          have HE1 := Lib.hid (fun W h => HEK.out A N C zz W h)
          have HE2 := Lib.hid (fun W h => HRK.out A N C zz W h (by omega))
          have HE3 := Lib.hid (fun W h => ends_any (kOf (tellT zz)) A N C zz W h)
          have HE4 := Lib.hid (fun W h => rends_any (kOf (tellT zz)) A N C zz W h (by omega))
          generalize endsB k zz = E1 at *
          generalize endsB (kOf (tellT zz)) zz = E2 at *
          generalize tellT zz = T at *
          generalize tellG zz = G at *
          generalize whyT zz = y at *
          simp only [kOf, kcs] at HE3 HE4
          clear hidx HEK HRK HP HR2 HR1 HI HHX HHC HKC HW1
          (with_reducible refine HP1.mono ?_)
          clear HP1
          rintro e w7 ⟨rfl, t7⟩
          obtain ⟨W8, hW8⟩ : ∃ W, (w7.alloc (.cells (tcs T) 43)).alloc (.cells (hcs G) 24) = W := ⟨_, rfl⟩
          obtain ⟨B1, hB1⟩ : ∃ B, w7.heap.size = B := ⟨_, rfl⟩
          have t8 : Touch w7 W8 (fun _ => False) := hW8 ▸ ((Touch.refl _ _).alloc _).alloc _
          have gt1 : W8.heap[B1]? = some (.cells (tcs T) 43 (0, 0)) := by rw [← hW8, ← hB1]; exact ((Touch.refl (w7.alloc (.cells (tcs T) 43)) (fun _ => False)).alloc _).keeps (heap_alloc_new w7 _) (fun h => h)
          have gh1 : W8.heap[B1 + 1]? = some (.cells (hcs G) 24 (0, 0)) := by
            have := heap_alloc_new (w7.alloc (.cells (tcs T) 43)) (.cells (hcs G) 24)
            rw [hW8] at this
            rw [← hB1]
            simpa using this
          have GT1 := Lib.hid gt1
          have GH1 := Lib.hid gh1
          have HT8 := Lib.hid (HT7.out.trans (t7.trans t8 (fun _ _ h => h)) (fun _ _ h => h))
          have HZ := Lib.hid (HZ.out.touch (t7.trans t8 (fun _ _ h => h)) (fun _ _ => .inr (fun h => h)))
          have HB1 := Lib.hid hB1
          simp only [hcs, tcs] at hW8
          have HW8 := Lib.hid hW8
          clear t7 t8 gt1 gh1 hW8 hB1 HT7
          simp only [hv, tv, tcs]
          go_upto_region 14 with fail
          rw [HW8.out, HB1.out]
          go_wp2_with fail
          (with_reducible refine (HP2.out _ HZ.out).mono ?_)
          clear HP2
          rintro e w9 ⟨rfl, t9⟩
          obtain ⟨W10, hW10⟩ : ∃ W, (w9.alloc (.cells (tcs T) 43)).alloc (.cells (hcs G) 24) = W := ⟨_, rfl⟩
          obtain ⟨B2, hB2⟩ : ∃ B, w9.heap.size = B := ⟨_, rfl⟩
          have t10 : Touch w9 W10 (fun _ => False) := hW10 ▸ ((Touch.refl _ _).alloc _).alloc _
          have gt2 : W10.heap[B2]? = some (.cells (tcs T) 43 (0, 0)) := by rw [← hW10, ← hB2]; exact ((Touch.refl (w9.alloc (.cells (tcs T) 43)) (fun _ => False)).alloc _).keeps (heap_alloc_new w9 _) (fun h => h)
          have gh2 : W10.heap[B2 + 1]? = some (.cells (hcs G) 24 (0, 0)) := by
            have := heap_alloc_new (w9.alloc (.cells (tcs T) 43)) (.cells (hcs G) 24)
            rw [hW10] at this
            rw [← hB2]
            simpa using this
          have t910 := t9.trans t10 (fun _ _ h => h)
          have gt1 := t910.keeps GT1.out (fun h => h)
          have gh1 := t910.keeps GH1.out (fun h => h)
          have HT10 := Lib.hid (HT8.out.trans t910 (fun _ _ h => h))
          have HZ := Lib.hid (HZ.out.touch t910 (fun _ _ => .inr (fun h => h)))
          have HB2 := Lib.hid hB2
          simp only [hcs, tcs] at hW10
          have HW10 := Lib.hid hW10
          clear hW10 hB2
          obtain ⟨k0, k1, k2, k3, k4⟩ := HKX.out W10 (HT6.out.trans HT10.out (fun _ _ h => h))
          simp only [hv, tv, tcs]
          go_upto_region 15 with fail
          rw [HW10.out, HB2.out]
          obtain ⟨g0, g1, g2, g3, g4, g5, g6, g7, g8, g9, g10⟩ := hcells_of gh1
          obtain ⟨q0, q1, q2, q3, q4, q5, q6, q7, q8, q9, q10⟩ := hcells_of gh2
          have r0 := cell_of_cells gt1 0
          have r1 := cell_of_cells gt1 1
          have r2 := cell_of_cells gt1 2
          have r3 := cell_of_cells gt1 3
          have r4 := cell_of_cells gt1 4
          have s0 := cell_of_cells gt2 0
          have s1 := cell_of_cells gt2 1
          have s2 := cell_of_cells gt2 2
          have s3 := cell_of_cells gt2 3
          have s4 := cell_of_cells gt2 4
          simp only [tcs, List.size_toArray, List.length_cons, List.length_nil] at r0 r1 r2 r3 r4 s0 s1 s2 s3 s4
          have zk0 := fun d os => cell_regrown k0 d os
          have zk1 := fun d os => cell_regrown k1 d os
          have zk2 := fun d os => cell_regrown k2 d os
          have zk3 := fun d os => cell_regrown k3 d os
          have zk4 := fun d os => cell_regrown k4 d os
          have zg0 := fun d os => cell_regrown g0 d os
          have zg1 := fun d os => cell_regrown g1 d os
          have zg2 := fun d os => cell_regrown g2 d os
          have zg3 := fun d os => cell_regrown g3 d os
          have zg4 := fun d os => cell_regrown g4 d os
          have zg5 := fun d os => cell_regrown g5 d os
          have zg6 := fun d os => cell_regrown g6 d os
          have zg7 := fun d os => cell_regrown g7 d os
          have zg8 := fun d os => cell_regrown g8 d os
          have zg9 := fun d os => cell_regrown g9 d os
          have zg10 := fun d os => cell_regrown g10 d os
          have zq0 := fun d os => cell_regrown q0 d os
          have zq1 := fun d os => cell_regrown q1 d os
          have zq2 := fun d os => cell_regrown q2 d os
          have zq3 := fun d os => cell_regrown q3 d os
          have zq4 := fun d os => cell_regrown q4 d os
          have zq5 := fun d os => cell_regrown q5 d os
          have zq6 := fun d os => cell_regrown q6 d os
          have zq7 := fun d os => cell_regrown q7 d os
          have zq8 := fun d os => cell_regrown q8 d os
          have zq9 := fun d os => cell_regrown q9 d os
          have zq10 := fun d os => cell_regrown q10 d os
          have zr0 := fun d os => cell_regrown r0 d os
          have zr1 := fun d os => cell_regrown r1 d os
          have zr2 := fun d os => cell_regrown r2 d os
          have zr3 := fun d os => cell_regrown r3 d os
          have zr4 := fun d os => cell_regrown r4 d os
          have zs0 := fun d os => cell_regrown s0 d os
          have zs1 := fun d os => cell_regrown s1 d os
          have zs2 := fun d os => cell_regrown s2 d os
          have zs3 := fun d os => cell_regrown s3 d os
          have zs4 := fun d os => cell_regrown s4 d os
          have cE1 := fun d os => Calls.regrown_of ((HE1.out (Sort.grow (redrawn W10 d) os) (HZ.out.touch (Touch.ofBelow (S := fun _ => False) (below_regrown W10 d os) (fun k h1 h2 => by omega)) (fun _ _ => .inr (fun h => h)))).mono (fun e w' h => ⟨h.1, h.2.below (fun _ _ h => h.elim) (Nat.le_refl _)⟩))
          have cE2 := fun d os => Calls.regrown_of ((HE2.out (Sort.grow (redrawn W10 d) os) (HZ.out.touch (Touch.ofBelow (S := fun _ => False) (below_regrown W10 d os) (fun k h1 h2 => by omega)) (fun _ _ => .inr (fun h => h)))).mono (fun e w' h => ⟨h.1, h.2.below (fun _ _ h => h.elim) (Nat.le_refl _)⟩))
          have cE3 := fun d os => Calls.regrown_of ((HE3.out (Sort.grow (redrawn W10 d) os) (HZ.out.touch (Touch.ofBelow (S := fun _ => False) (below_regrown W10 d os) (fun k h1 h2 => by omega)) (fun _ _ => .inr (fun h => h)))).mono (fun e w' h => ⟨h.1, h.2.below (fun _ _ h => h.elim) (Nat.le_refl _)⟩))
          have cE4 := fun d os => Calls.regrown_of ((HE4.out (Sort.grow (redrawn W10 d) os) (HZ.out.touch (Touch.ofBelow (S := fun _ => False) (below_regrown W10 d os) (fun k h1 h2 => by omega)) (fun _ _ => .inr (fun h => h)))).mono (fun e w' h => ⟨h.1, h.2.below (fun _ _ h => h.elim) (Nat.le_refl _)⟩))
          clear k0 k1 k2 k3 k4 g0 g1 g2 g3 g4 g5 g6 g7 g8 g9 g10 q0 q1 q2 q3 q4 q5 q6 q7 q8 q9 q10 r0 r1 r2 r3 r4 s0 s1 s2 s3 s4 gt1 gt2 gh1 gh2 t910 t9 t10
          refine wp_region_quiet_below (by kernel_rfl) (by kernel_rfl) ?_
          iterate 25 (go_big_quiet_step (first | exact cE1 _ _ | exact cE2 _ _))
          iterate 3 (go_big_quiet_step (exact cE3 _ _))
          iterate 3 (go_big_quiet_step (exact cE4 _ _))
          refine wpQuiet_nil ?_
          intro _ hw'
          obtain ⟨⟨dq, osq⟩, hw''⟩ := hw'
          subst hw''
          clear cE1 cE2 cE3 cE4 zk0 zk1 zk2 zk3 zk4 zg0 zg1 zg2 zg3 zg4 zg5 zg6 zg7 zg8 zg9 zg10 zq0 zq1 zq2 zq3 zq4 zq5 zq6 zq7 zq8 zq9 zq10 zr0 zr1 zr2 zr3 zr4 zs0 zs1 zs2 zs3 zs4
          have tq := Touch.ofBelow (S := fun _ => False) (below_regrown W10 dq osq) (fun k h1 h2 => by omega)
          have HTQ := Lib.hid (HT10.out.trans tq (fun _ _ h => h))
          clear tq
          go_wp2_with fail
          exact ⟨⟨q + 1, by omega, by go_num, HTQ.out⟩, by simp [intOf]; omega⟩
theorem portsTells_holds : Rows.PortsTellsSaid := by
  refine portsTells.said fun H enc W base v0 v1 v2 v3 v4 v5 v6 v7 v8 v9 d0 d1 d2 d3 d4 d5 d6 d7 d8 d9 p0 p1 p2 p3 p4 p5 p6 p7 p8 p9 h0 h1 h2 h3 h4 h5 h6 h7 h8 h9 => ?_
  obtain ⟨k, rfl, kok⟩ := h0.tuple
  obtain ⟨ttl, rfl, t1, t2, _⟩ := h1.i64 Try.underlying3
  obtain ⟨flags, rfl, f1, f2, _⟩ := h2.i64 Try.underlying3
  obtain ⟨a1, l1, c1, xs, rfl, hr1, _, _⟩ := h3.bytes Try.underlying25 Try.underlying5 (by kernel_rfl) (by kernel_rfl)
  obtain ⟨h, rfl, ok⟩ := h4.header
  obtain ⟨ap, lp, cp, ps, rfl, hi⟩ := h5.ints Try.underlying26 Try.underlying3 (by kernel_rfl)
  obtain ⟨x, rfl, hx⟩ := h6.u8 Try.underlying5
  obtain ⟨fix, rfl⟩ := h7.bool Try.underlying4
  obtain ⟨cut, rfl, o1, o2, _⟩ := h8.i64 Try.underlying3
  obtain ⟨a2, l2, c2, ys, rfl, hr2, _, _⟩ := h9.bytes Try.underlying25 Try.underlying5 (by kernel_rfl) (by kernel_rfl)
  exact (ptells_walk k kok ttl flags a1 l1 c1 xs h ok ap lp cp ps x fix cut a2 l2 c2 ys W ⟨t1, t2⟩ ⟨f1, f2⟩ hr1 hi hx ⟨o1, o2⟩ hr2).mono fun e w' h => ⟨h.1, h.2.below (fun _ _ h => h.elim) (Nat.le_refl _)⟩
end Go.Proofs.Ythjdebcjfpokoaa
