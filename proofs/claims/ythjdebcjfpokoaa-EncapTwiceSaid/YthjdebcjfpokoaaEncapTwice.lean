/- EncapTwice answers true for any tuple, any bytes, any two addresses: what was wrapped may be wrapped again; unwrapped twice it is the packet. No condition. -/
import Derived.Test.YthjdebcjfpokoaaEncAwake
import Derived.Test.YthjdebcjfpokoaaFrEncapTwice
import Derived.Test.YthjdebcjfpokoaaStrRow
import Derived.Deep.DeepCutAuto
import Derived.StillTailTactics
set_option linter.unusedVariables false
namespace Go.Proofs.Ythjdebcjfpokoaa
open Go.RowKit

set_option maxRecDepth 20000 in
set_option maxHeartbeats 8000000 in
theorem twice_walk (k : KArg) (ok : k.Ok) (a : Option Addr) (len cap : Nat) (ys : List Nat) (p q : Int) (w : World) (hr : RowB w a len cap ys) (s1 : 0 ≤ p ∧ p ≤ 4294967295) (s2 : 0 ≤ q ∧ q ≤ 4294967295) :
    Calls Try.prog 12 #[.agg (kcs k), .slice a len cap, .int .u32 p, .int .u32 q] w fun e w' => e = .returned (.bool true) ∧ Touch w w' (fun _ => False) := by
  obtain ⟨W1, hW1⟩ : ∃ W, w.alloc (.cells (kcs k) 43) = W := ⟨_, rfl⟩
  have t1 : Touch w W1 (fun _ => False) := hW1 ▸ (Touch.refl _ _).alloc _
  have HK : RowKit.Hid (W1.heap[w.heap.size]? = some (.cells (kcs k) 43 (0, 0))) := Lib.hid (hW1 ▸ heap_alloc_new w _)
  have HT := Lib.hid t1
  have HM : RowKit.Hid (∀ W, Calls Try.prog 28 #[.agg (kcs k)] W fun e w' => e = .returned (.bool (mayB k)) ∧ Touch W w' (fun _ => False)) := Lib.hid (fun W => may_any k W)
  have HW1 := Lib.hid hW1
  have HR := Lib.hid hr
  clear t1 hW1 hr
  by_cases hlen : 1000 < len
  · have hlen' : (1000 : Int) < len := by omega
    simp only [kcs] at HM HW1 ⊢
    go_enter Try.func12, Try.ntmps12
    go_upto_region 1 with fail
    rw [HW1.out]
    go_wp2_with (go_at_call 29; (with_reducible refine (awake22 _).mono ?_); rintro e w3 ⟨rfl, t3⟩)
    go_ret
    exact ⟨rfl, HT.out.trans t3 (fun _ _ h => h)⟩
  have hlen' : ¬ (1000 : Int) < len := by omega
  by_cases hm : mayB k = true
  case neg =>
    simp only [Bool.not_eq_true] at hm
    rw [hm] at HM
    simp only [kcs] at HM HW1 ⊢
    go_enter Try.func12, Try.ntmps12
    go_upto_region 1 with fail
    rw [HW1.out]
    obtain ⟨c0, c1, c2, c3, c4⟩ := kcells_of HK.out
    go_wp2_with (first
      | (go_at_call 28; (with_reducible refine (HM.out _).mono ?_); rintro e w2 ⟨rfl, t2⟩)
      | (go_at_call 29; (with_reducible refine (awake22 _).mono ?_); rintro e w3 ⟨rfl, t3⟩))
    go_ret
    exact ⟨rfl, (HT.out.trans t2 (fun _ _ h => h)).trans t3 (fun _ _ h => h)⟩
  case pos =>
    rw [hm] at HM
    have hys := HR.out.2.2.2.2.1
    have hyl : ys.length = len := HR.out.1
    obtain ⟨n, hn⟩ : ∃ n, 20 + sizeK k len = n := ⟨_, rfl⟩
    have hnb : 28 ≤ n ∧ n ≤ 1040 := by unfold sizeK at hn; split at hn <;> omega
    have HMD : RowKit.Hid (∀ W, RowB W a len cap ys → Calls Try.prog 23 #[.agg (kcs k), .int .i64 9, .int .i64 0, .slice a len cap] W fun e w' => ∃ a' cap', e = .returned (.slice a' n cap') ∧ FreshB W w' (.slice a' n cap') (madeF k 9 0 ys)) :=
      Lib.hid (fun W h => made_any k ok 9 0 a len cap ys W h (by omega) (by simp [isI64]) (by simp [isI64]) n hn.symm)
    obtain ⟨pm, hpt⟩ := pkt_made k ok 9 0 ys (by omega) hys
    have hpt9 : (hdr (madeF k 9 0 ys)).ttl = 9 := by rw [hpt]; decide
    have hml : (madeF k 9 0 ys).length = n := by rw [madeF_length, hyl, hn]
    have W1' := wrapped pm (by omega) (by omega) p q 2000 (by omega) s1 s2
    have hz1 : (wrapF (madeF k 9 0 ys) p q).length = n + 20 := by rw [W1'.len, hml]
    have W2' := wrapped W1'.pkt (by rw [W1'.ttl]; omega) (by omega) q p 2000 (by omega) s2 s1
    have hz2 : (wrapF (wrapF (madeF k 9 0 ys) p q) q p).length = n + 40 := by rw [W2'.len, hz1]
    have HA1 : RowKit.Hid (∀ a c W, RowB W a n c (madeF k 9 0 ys) → Calls Try.prog 30 #[.slice a n c, .int .u32 p, .int .u32 q, .int .i64 2000] W fun e w' => ∃ a' c', e = .returned (.tuple #[.slice a' (n + 20) c', .int .i64 0]) ∧ RowB w' a' (n + 20) c' (wrapF (madeF k 9 0 ys) p q) ∧ Touch W w' (fun _ => False)) :=
      Lib.hid (fun a c W h => wrap_good pm (by omega) (by omega) p q 2000 (by omega) s1 s2 a n (n + 20) c rfl W h)
    have HA2 : RowKit.Hid (∀ a c W, RowB W a (n + 20) c (wrapF (madeF k 9 0 ys) p q) → Calls Try.prog 30 #[.slice a (n + 20) c, .int .u32 q, .int .u32 p, .int .i64 2000] W fun e w' => ∃ a' c', e = .returned (.tuple #[.slice a' (n + 40) c', .int .i64 0]) ∧ RowB w' a' (n + 40) c' (wrapF (wrapF (madeF k 9 0 ys) p q) q p) ∧ Touch W w' (fun _ => False)) :=
      Lib.hid (fun a c W h => wrap_good W1'.pkt (by rw [W1'.ttl]; omega) (by omega) q p 2000 (by omega) s2 s1 a (n + 20) (n + 40) c rfl W h)
    have HU1 : RowKit.Hid (∀ a c W, RowB W a (n + 40) c (wrapF (wrapF (madeF k 9 0 ys) p q) q p) → Calls Try.prog 32 #[.slice a (n + 40) c] W fun e w' => ∃ a' c', e = .returned (.tuple #[.slice a' (n + 20) c', .int .u32 q, .int .u32 p, .int .i64 0]) ∧ RowB w' a' (n + 20) c' (olderF (wrapF (madeF k 9 0 ys) p q) (hdr (wrapF (madeF k 9 0 ys) p q))) ∧ Touch W w' (fun _ => False)) :=
      Lib.hid (fun a c W h => unwrap_good W2' a (n + 20) (n + 40) c hz1 W h)
    have HU2 : RowKit.Hid (∀ a c W, RowB W a (n + 20) c (olderF (wrapF (madeF k 9 0 ys) p q) (hdr (wrapF (madeF k 9 0 ys) p q))) → Calls Try.prog 32 #[.slice a (n + 20) c] W fun e w' => ∃ (a' : Option Addr) (c' s d : Nat), e = .returned (.tuple #[.slice a' n c', .int .u32 s, .int .u32 d, .int .i64 0]) ∧ RowB w' a' n c' (olderF (madeF k 9 0 ys) (hdr (madeF k 9 0 ys))) ∧ Touch W w' (fun _ => False)) :=
      Lib.hid (fun a c W h => unwrap_further pm (by omega) W1' a n (n + 20) c hml W h)
    have HDR := Lib.hid (older_drop (madeF k 9 0 ys) (hdr (madeF k 9 0 ys)))
    have HML := Lib.hid hml
    have HOL : RowKit.Hid ((olderF (madeF k 9 0 ys) (hdr (madeF k 9 0 ys))).length = n) := Lib.hid (by rw [olderF_length, hml])
    clear pm hpt hpt9 hml W1' W2' hz1 hz2 hn hm
    generalize olderF (wrapF (madeF k 9 0 ys) p q) (hdr (wrapF (madeF k 9 0 ys) p q)) = O1 at *
    generalize wrapF (wrapF (madeF k 9 0 ys) p q) q p = Z2 at *
    generalize wrapF (madeF k 9 0 ys) p q = Z1 at *
    generalize olderF (madeF k 9 0 ys) (hdr (madeF k 9 0 ys)) = O at *
    generalize madeF k 9 0 ys = M at *
    simp only [kcs] at HM HW1 HMD ⊢
    go_enter Try.func12, Try.ntmps12
    go_upto_region 1 with fail
    rw [HW1.out]
    obtain ⟨c0, c1, c2, c3, c4⟩ := kcells_of HK.out
    go_upto_region 8 with (first
      | (go_at_call 28; (with_reducible refine (HM.out _).mono ?_); rintro e w2 ⟨rfl, t2⟩; have HT := Lib.hid (HT.out.trans t2 (fun _ _ h => h)); have HK := Lib.hid (t2.keeps HK.out (fun h => h)); obtain ⟨c0, c1, c2, c3, c4⟩ := kcells_of HK.out; clear t2)
      | (go_at_call 23; (with_reducible refine (HMD.out _ (HR.out.touch HT.out (fun _ _ => .inr (fun h => h)))).mono ?_); rintro e w9 ⟨a9, d9, rfl, hf9⟩; have hq := ref_row (n := 0) hf9 HML.out; have HT := Lib.hid (HT.out.trans hf9.2 (fun _ _ h => h)); have HR9 := Lib.hid hq.1; clear hf9 hq)
      | (go_at_call 30; (with_reducible refine (HA1.out _ _ _ HR9.out).mono ?_); rintro e w10 ⟨a10, d10, rfl, hr10, t10⟩; have HT := Lib.hid (HT.out.trans t10 (fun _ _ h => h)); have HR9 := Lib.hid (HR9.out.touch t10 (fun _ _ => .inr (fun h => h))); have HR10 := Lib.hid hr10; clear hr10 t10)
      | (go_at_call 30; (with_reducible refine (HA2.out _ _ _ HR10.out).mono ?_); rintro e w12 ⟨a12, d12, rfl, hr12, t12⟩; have HT := Lib.hid (HT.out.trans t12 (fun _ _ h => h)); have HR9 := Lib.hid (HR9.out.touch t12 (fun _ _ => .inr (fun h => h))); have HR12 := Lib.hid hr12; clear hr12 t12)
      | (go_at_call 32; (with_reducible refine (HU1.out _ _ _ HR12.out).mono ?_); rintro e w14 ⟨a14, d14, rfl, hr14, t14⟩; have HT := Lib.hid (HT.out.trans t14 (fun _ _ h => h)); have HR9 := Lib.hid (HR9.out.touch t14 (fun _ _ => .inr (fun h => h))); have HR14 := Lib.hid hr14; clear hr14 t14)
      | (go_at_call 32; (with_reducible refine (HU2.out _ _ _ HR14.out).mono ?_); rintro e w18 ⟨a18, d18, s18, z18, rfl, hr18, t18⟩; have HT := Lib.hid (HT.out.trans t18 (fun _ _ h => h)); have HR9 := Lib.hid (HR9.out.touch t18 (fun _ _ => .inr (fun h => h))); have HR18 := Lib.hid hr18; clear hr18 t18))
    have hc9 := HR9.out.2.1
    have hc18 := HR18.out.2.1
    obtain ⟨A1, C1, hsl1, hP1⟩ := slice_l a18 n d18 12 12 rfl (by omega) hc18
    obtain ⟨A2, C2, hsl2, hP2⟩ := slice_l a9 n d9 12 12 rfl (by omega) hc9
    have r1 := hP1.row _ _ HR18.out (Nat.le_refl _)
    have r2 := hP2.row _ _ HR9.out (Nat.le_refl _)
    rw [show O.take n = O from by rw [show n = O.length from HOL.out.symm, List.take_length], HDR.out] at r1
    rw [show M.take n = M from by rw [show n = M.length from HML.out.symm, List.take_length]] at r2
    obtain ⟨w2, hw2⟩ : ∃ W, w18.drew = W := ⟨_, rfl⟩
    have st1 : Sem.run Try.prog (convert 25 9 (.slice A1 (n - 12) C1)) w2 = .ok (.string (strB (M.drop 12))) w2 := hw2 ▸ str_row (r1.drewN 1)
    have st2 : Sem.run Try.prog (convert 25 9 (.slice A2 (n - 12) C2)) w2 = .ok (.string (strB (M.drop 12))) w2 := hw2 ▸ str_row (r2.drewN 1)
    have HT : RowKit.Hid (Touch w w2 (fun _ => False)) := Lib.hid (hw2 ▸ HT.out.drewN 1)
    have i28 : (28 : Int) ≤ (n : Int) := by omega
    have i12 : (12 : Int) ≤ (n : Int) := by omega
    have hw40 : IntKind.i64.wrap ((n : Int) + 40) = (n : Int) + 40 := IntWalk.i64_in _ (by omega)
    clear HMD HA1 HA2 HU1 HU2 HM HW1 HK c0 c1 c2 c3 c4 hP1 hP2 HR9 HR18 HR10 HR12 HR14 r1 r2
    go_still_tail 54, (by kernel_rfl)
    change wpList _ _ _ _ _ w18.drew
    rw [hw2]
    clear hw2
    go_wp2_with (go_at_call 29; (with_reducible refine (awake22 _).mono ?_); rintro e w3 ⟨rfl, t3⟩)
    go_ret
    exact ⟨rfl, HT.out.trans t3 (fun _ _ h => h)⟩
theorem encapTwice_holds : Rows.EncapTwiceSaid := by
  refine encapTwice.said fun H enc W base v0 v1 v2 v3 d0 d1 d2 d3 p0 p1 p2 p3 h0 h1 h2 h3 => ?_
  obtain ⟨k, rfl, ok⟩ := h0.tuple
  obtain ⟨a, len, cap, ys, rfl, hr, _, _⟩ := h1.bytes Try.underlying25 Try.underlying5 (by kernel_rfl) (by kernel_rfl)
  obtain ⟨p, rfl, o1, o2, _⟩ := h2.u32 Try.underlying22
  obtain ⟨q, rfl, m1, m2, _⟩ := h3.u32 Try.underlying22
  exact (twice_walk k ok a len cap ys p q W hr ⟨o1, o2⟩ ⟨m1, m2⟩).mono fun e w' h => ⟨h.1, h.2.below (fun _ _ h => h.elim) (Nat.le_refl _)⟩
end Go.Proofs.Ythjdebcjfpokoaa
