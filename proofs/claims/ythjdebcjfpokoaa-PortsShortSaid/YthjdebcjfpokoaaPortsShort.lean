/- PortsShort answers true for any tuple, any numbers: with fewer bytes than its header a packet has no ports; of neither protocol, however long, none. No condition. -/
import Derived.Test.YthjdebcjfpokoaaPortBad
import Derived.Test.YthjdebcjfpokoaaSliceN
import Derived.Test.YthjdebcjfpokoaaFrPortsShort
set_option linter.unusedVariables false
namespace Go.Proofs.Ythjdebcjfpokoaa
open Go.RowKit

set_option maxRecDepth 20000 in
set_option maxHeartbeats 8000000 in
theorem short_walk (k : KArg) (ok : k.Ok) (n p : Int) (hn : isI64 n) (hp : isI64 p) (w : World) :
    Calls Try.prog 9 #[.agg (kcs k), .int .i64 n, .int .i64 p] w fun e w' => e = .returned (.bool true) ∧ Touch w w' (fun _ => False) := by
  obtain ⟨W1, hW1⟩ : ∃ W, w.alloc (.cells (kcs k) 43) = W := ⟨_, rfl⟩
  have t1 : Touch w W1 (fun _ => False) := hW1 ▸ (Touch.refl _ _).alloc _
  have HK1 : RowKit.Hid (W1.heap[w.heap.size]? = some (.cells (kcs k) 43 (0, 0))) := Lib.hid (hW1 ▸ heap_alloc_new w _)
  have HT1 := Lib.hid t1
  have HM : RowKit.Hid (∀ W, Calls Try.prog 28 #[.agg (kcs k)] W fun e w' => e = .returned (.bool (mayB k)) ∧ Touch W w' (fun _ => False)) := Lib.hid (fun W => may_any k W)
  have HW1 := Lib.hid hW1
  clear t1 hW1
  by_cases hm : mayB k = true
  case neg =>
    simp only [Bool.not_eq_true] at hm
    rw [hm] at HM
    simp only [kcs] at HM HW1 ⊢
    go_enter Try.func9, Try.ntmps9
    go_upto_region 1 with fail
    rw [HW1.out]
    obtain ⟨c0, c1, c2, c3, c4⟩ := kcells_of HK1.out
    go_wp2_with (first
      | (go_at_call 28; (with_reducible refine (HM.out _).mono ?_); rintro e w2 ⟨rfl, t2⟩)
      | (go_at_call 22; (with_reducible refine (awake21 _).mono ?_); rintro e w3 ⟨rfl, t3⟩))
    go_ret
    exact ⟨rfl, (HT1.out.trans t2 (fun _ _ h => h)).trans t3 (fun _ _ h => h)⟩
  case pos =>
    have hmi := (may_iff k).1 hm
    rw [hm] at HM
    by_cases hpr : k.proto = 17
    · have hsz : sizeK k 0 = 8 := by unfold sizeK; rw [if_neg (by omega)]
      obtain ⟨j, hj⟩ : ∃ j, u64N n % 8 = j := ⟨_, rfl⟩
      have hj' : j < 8 := by omega
      have hji : (u64N n : Int) % 8 = (j : Int) := by omega
      have hMD : RowKit.Hid (∀ W, Calls Try.prog 23 #[.agg (kcs k), .int .i64 9, .int .i64 0, .slice none 0 0] W fun e w' => ∃ a' cap', e = .returned (.slice a' 28 cap') ∧ FreshB W w' (.slice a' 28 cap') (madeF k 9 0 [])) :=
        Lib.hid (fun W => made_any k ok 9 0 none 0 0 [] W (RowB.nil _ _ _ (by omega)) (by omega) (by simp [isI64]) (by simp [isI64]) 28 (by omega))
      have hml := madeF_length k 9 0 []
      rw [show ([] : List Nat).length = 0 from rfl, hsz] at hml
      have hdrop : (madeF k 9 0 []).drop 20 = pK k 0 [] := by
        unfold madeF
        rw [show 20 = (builtF (hK k 9 (sizeK k ([] : List Nat).length))).length from (builtF_length _).symm, List.drop_left]
      have hpl := pK_length k 0 []
      rw [show ([] : List Nat).length = 0 from rfl, hsz] at hpl
      have HB1 : RowKit.Hid (∀ W, Calls Try.prog 18 #[.agg (acs ⟨0, 0, 20 + (j : Int), 0, 0, 0, 9, k.proto, 0, k.src, k.dst⟩)] W fun e w' => ∃ a' cap', e = .returned (.slice a' 20 cap') ∧ FreshB W w' (.slice a' 20 cap') (builtF ⟨0, 0, 20 + (j : Int), 0, 0, 0, 9, k.proto, 0, k.src, k.dst⟩)) :=
        Lib.hid (fun W => rbuild_any _ (by refine ⟨?_, ?_, ?_, ?_, ?_, ?_, ?_, ok.proto, ?_, ok.src, ok.dst⟩ <;> (simp only [isI64]; omega)) W)
      have HT1' : RowKit.Hid (∀ a cap W, RowB W a (20 + j) cap (builtF ⟨0, 0, 20 + (j : Int), 0, 0, 0, 9, k.proto, 0, k.src, k.dst⟩ ++ (pK k 0 []).take j) → Calls Try.prog 24 #[.slice a (20 + j) cap] W fun e w' => e = .returned (.tuple #[tv tup0, hv hdr0, .int .i64 9]) ∧ Touch W w' (fun _ => False)) :=
        Lib.hid (fun a cap W hr => tuple_bad ⟨0, 0, 20 + (j : Int), 0, 0, 0, 9, k.proto, 0, k.src, k.dst⟩ ((pK k 0 []).take j) j 9 (by simp; omega) (by simp) (by omega) ok.src ok.dst (ref_short _ _ (by
          have e : ((pK k 0 []).take j).length = j := by simp; omega
          rw [e]
          simp only [hpr]
          right
          exact ⟨by decide, by omega⟩)) (by omega) a cap W hr)
      obtain ⟨q, hq⟩ : ∃ q, u64N p % 256 = q := ⟨_, rfl⟩
      have hqi : (u64N p : Int) % 256 = (q : Int) := by omega
      have hq2 : q < 256 := by omega
      have HB2 : RowKit.Hid (∀ W, Calls Try.prog 18 #[.agg (acs ⟨0, 0, 28, 0, 0, 0, 9, (q : Int), 0, k.src, k.dst⟩)] W fun e w' => ∃ a' cap', e = .returned (.slice a' 20 cap') ∧ FreshB W w' (.slice a' 20 cap') (builtF ⟨0, 0, 28, 0, 0, 0, 9, (q : Int), 0, k.src, k.dst⟩)) :=
        Lib.hid (fun W => rbuild_any _ (by refine ⟨?_, ?_, ?_, ?_, ?_, ?_, ?_, ?_, ?_, ok.src, ok.dst⟩ <;> (simp only [isI64]; omega)) W)
      have HT2 : RowKit.Hid (∀ a cap W, RowB W a 28 cap (builtF ⟨0, 0, 28, 0, 0, 0, 9, (q : Int), 0, k.src, k.dst⟩ ++ pK k 0 []) → Calls Try.prog 24 #[.slice a 28 cap] W fun e w' => ∃ T G y, (y = 8 ↔ (q ≠ 6 ∧ q ≠ 17)) ∧ e = .returned (.tuple #[tv T, hv G, .int .i64 (y : Nat)]) ∧ Touch W w' (fun _ => False)) :=
        Lib.hid (fun a cap W hr => (tuple_any a 28 cap _ W hr).mono fun e w' h => ⟨_, _, _, by
          rw [why_any ⟨0, 0, 28, 0, 0, 0, 9, (q : Int), 0, k.src, k.dst⟩ (pK k 0 []) (by simp only [hpl]; rfl) (by omega) ok.src ok.dst]
          have e : u64N (q : Int) % 256 = q := by unfold u64N; omega
          simp only [e]
          exact ref_proto q _, h.1, h.2⟩)
      have HL1 := Lib.hid (builtF_length ⟨0, 0, 20 + (j : Int), 0, 0, 0, 9, k.proto, 0, k.src, k.dst⟩)
      have HL2 := Lib.hid (builtF_length ⟨0, 0, 28, 0, 0, 0, 9, (q : Int), 0, k.src, k.dst⟩)
      generalize builtF ⟨0, 0, 20 + (j : Int), 0, 0, 0, 9, k.proto, 0, k.src, k.dst⟩ = F1 at *
      generalize builtF ⟨0, 0, 28, 0, 0, 0, 9, (q : Int), 0, k.src, k.dst⟩ = F2 at *
      generalize madeF k 9 0 [] = M at *
      generalize pK k 0 [] = P at *
      have HPL := Lib.hid hpl
      have HML := Lib.hid hml
      have HDR := Lib.hid hdrop
      obtain ⟨o0, o1, o2, o3, o4⟩ := ok
      have hu := u64N_wrap n
      have hul := u64N_lt n
      have hu2 := u64N_wrap p
      have hul2 := u64N_lt p
      simp only [kcs, hpr] at HM HW1 hMD ⊢
      simp only [acs, hpr] at HB1 HB2
      clear hpl hml hdrop hsz hm hmi
      have HCK := Lib.hid (fun (W : World) (h : W.heap[w.heap.size]? = some (.cells (kcs k) 43 (0, 0))) => kcells_of h)
      simp only [hpr] at HCK
      clear hpr
      go_enter Try.func9, Try.ntmps9
      go_upto_region 1 with fail
      rw [HW1.out]
      obtain ⟨c0, c1, c2, c3, c4⟩ := HCK.out _ HK1.out
      go_upto_region 8 with (first
        | (go_at_call 28; (with_reducible refine (HM.out _).mono ?_); rintro e w2 ⟨rfl, t2⟩; have HT := Lib.hid (HT1.out.trans t2 (fun _ _ h => h)); have HK := Lib.hid (t2.keeps HK1.out (fun h => h)); obtain ⟨c0, c1, c2, c3, c4⟩ := HCK.out _ HK.out; clear t2)
        | (go_at_call 23; (with_reducible refine (hMD.out _).mono ?_); rintro e w8 ⟨a8, d8, rfl, hf8⟩; have hq8 := ref_row (n := 0) hf8 HML.out; have t8 := hf8.2; have HT := Lib.hid (HT.out.trans t8 (fun _ _ h => h)); have HK := Lib.hid (t8.keeps HK.out (fun h => h)); have HR8 := Lib.hid hq8.1; obtain ⟨c0, c1, c2, c3, c4⟩ := HCK.out _ HK.out; clear t8 hf8 hq8))
      have hcap8 := HR8.out.2.1
      obtain ⟨A1, C1, hsl1, hP1⟩ := slice_lh a8 28 d8 20 (20 + (j : Int)) 20 (20 + j) rfl (by omega) (by omega) (by omega)
      simp only [show 20 + j - 20 = j from by omega] at hsl1
      obtain ⟨A2, C2, hsl2, hP2⟩ := slice_l a8 28 d8 20 20 rfl (by omega) hcap8
      have HA1 : RowKit.Hid (∀ W, RowB W a8 28 d8 M → RowB W A1 j C1 (P.take j)) := Lib.hid (fun W h => by
        have := hP1.row W M h (by omega)
        rwa [List.drop_take, HDR.out, show 20 + j - 20 = j from by omega] at this)
      have HA2 : RowKit.Hid (∀ W, RowB W a8 28 d8 M → RowB W A2 8 C2 P) := Lib.hid (fun W h => by
        have := hP2.row W M h (by omega)
        rw [show M.take 28 = M from by rw [show 28 = M.length from by rw [HML.out], List.take_length], HDR.out] at this
        exact this)
      clear hcap8 hP1 hP2
      go_cut [9] (fun s9 wx => ∃ a9 d9, s9 = .slice a9 (20 + j) d9 ∧ RowB wx a9 (20 + j) d9 (F1 ++ P.take j) ∧ Touch w wx (fun _ => False) ∧ wx.heap[w.heap.size]? = some (.cells (kcs k) 43 (0, 0)) ∧ RowB wx a8 28 d8 M)
      case first =>
        go_wp2_with fail
        have t0 := (Touch.refl w8 (fun _ => False)).drew
        have HT := Lib.hid (HT.out.trans t0 (fun _ _ h => h))
        have HK := Lib.hid (t0.keeps HK.out (fun h => h))
        have HRL := Lib.hid HR8.out.lt
        have HR8 := Lib.hid (HR8.out.touch t0 (fun _ _ => .inr (fun h => h)))
        have HRS := Lib.hid (HA1.out _ HR8.out)
        have HSZ := Lib.hid (HT.out.size)
        clear t0
        have hwr : IntKind.i64.wrap (20 + (j : Int)) = 20 + (j : Int) := IntWalk.i64_in _ (by omega)
        go_region_law (first
          | (have _u := HO41; refine step_appendB rfl _ _ 25 rfl 5 Try.underlying25 infoB w8.heap.size (.slice a41 20 d41) _ rfl HO41.out _ _ _ (P.take j) rfl HRS.out (20 + j) (F1 ++ P.take j) rfl (by simp [HL1.out, HPL.out]; omega) (by omega) HS41.out ?_; intro a46 d46 w46 hown hrow hg hpl; have hz : ∀ x, (Value.slice a41 20 d41).ownBlock = some x → w8.heap.size ≤ x := (fun x hx => (HO41.out.own.lt x hx).1); have HR8 := Lib.hid (RowB.touch HR8.out (Touch.grown (Touch.refl _ (fun x => (Value.slice a41 20 d41).ownBlock = some x)) hg (fun x hx _ => hx)) (fun x hx => Or.imp_right (fun hlt hS => by have h1 := hz _ hS; have h2 : x.block < w8.heap.size := hlt; omega) (HRL.out x hx))); have HT := Lib.hid (HT.out.grown hg (fun x hx hlt => by have h1 := hz _ hx; have h2 : w.heap.size ≤ w8.heap.size := HSZ.out; omega)); have HK := Lib.hid ((hg.block w.heap.size (heap_lt HK.out) (fun e => by have h1 := hz _ e.symm; have h2 : w.heap.size < w8.heap.size := HKL.out; omega)).trans HK.out); have HR46 := Lib.hid hrow; clear hown hrow hg hpl hz)
          | (go_simp; go_at_call 18; ((with_reducible refine (HB1.out _).mono ?_); rintro e w41 ⟨a41, d41, rfl, hf41⟩; have t41 := hf41.2; have HO41 := Lib.hid (hf41.1.base (base' := w8.heap.size) (fun x hx => (hf41.1.own.lt x hx).1)); have HS41 : RowKit.Hid (w8.heap.size ≤ w41.heap.size) := Lib.hid t41.size; have HT := Lib.hid (HT.out.trans t41 (fun _ _ h => h)); have HKL := Lib.hid (heap_lt HK.out); have HK := Lib.hid (t41.keeps HK.out (fun h => h)); have HR8 := Lib.hid (HR8.out.touch t41 (fun _ _ => .inr (fun h => h))); have HRS := Lib.hid (HA1.out _ HR8.out); obtain ⟨c0, c1, c2, c3, c4⟩ := HCK.out _ HK.out; clear hf41 t41)))
        all_goals (go_wp2_with fail; go_meet; exact ⟨_, _, rfl, HR46.out, HT.out, HK.out, HR8.out⟩)
      case rest =>
        obtain ⟨a9, d9, rfl, hr9, ht9, hk9, hr8⟩ := hcut
        have HR8 := Lib.hid hr8
        have HT := Lib.hid ht9
        have HK := Lib.hid hk9
        obtain ⟨c0, c1, c2, c3, c4⟩ := HCK.out _ HK.out
        have HR9 := Lib.hid hr9
        clear hr8 hr9 ht9 hk9 HB1 hsl1 HA1
        go_upto_region 13 with (go_at_call 24; (with_reducible refine (HT1'.out _ _ _ HR9.out).mono ?_); rintro e w49 ⟨rfl, t49⟩; have HT := Lib.hid (HT.out.trans t49 (fun _ _ h => h)); have HK := Lib.hid (t49.keeps HK.out (fun h => h)); have HR8 := Lib.hid (HR8.out.touch t49 (fun _ _ => .inr (fun h => h))); obtain ⟨W50, hW50⟩ : ∃ W, w49.alloc (.cells #[.int .u32 0, .int .u32 0, .int .i64 0, .int .i64 0, .int .i64 0] 43) = W := ⟨_, rfl⟩; obtain ⟨W51, hW51⟩ : ∃ W, W50.alloc (.cells #[.int .i64 0, .int .i64 0, .int .i64 0, .int .i64 0, .int .i64 0, .int .i64 0, .int .i64 0, .int .i64 0, .int .i64 0, .int .u32 0, .int .u32 0] 24) = W := ⟨_, rfl⟩; have t51 : Touch w49 W51 (fun _ => False) := hW51 ▸ hW50 ▸ ((Touch.refl _ _).alloc _).alloc _; have HW50 := Lib.hid hW50; have HW51 := Lib.hid hW51; clear hW50 hW51; obtain ⟨c0, c1, c2, c3, c4⟩ := HCK.out _ HK.out; simp only [tv, tcs, tup0, hv, hdr0]; clear t49)
        rw [HW50.out, HW51.out]
        have HT := Lib.hid (HT.out.trans t51 (fun _ _ h => h))
        have HK := Lib.hid (t51.keeps HK.out (fun h => h))
        have HR8 := Lib.hid (HR8.out.touch t51 (fun _ _ => .inr (fun h => h)))
        obtain ⟨c0, c1, c2, c3, c4⟩ := HCK.out _ HK.out
        clear t51 HW50 HW51 HT1'
        go_cut [13] (fun s9 wx => ∃ a9 d9, s9 = .slice a9 28 d9 ∧ RowB wx a9 28 d9 (F2 ++ P) ∧ Touch w wx (fun _ => False))
        case first =>
          go_wp2_with fail
          have t0 := (Touch.refl W51 (fun _ => False)).drew
          have HT := Lib.hid (HT.out.trans t0 (fun _ _ h => h))
          have HK := Lib.hid (t0.keeps HK.out (fun h => h))
          have HRS := Lib.hid (HA2.out _ (HR8.out.touch t0 (fun _ _ => .inr (fun h => h))))
          have HSZ := Lib.hid (HT.out.size)
          clear t0
          go_region_law (first
            | (have _u := HO77; refine step_appendB rfl _ _ 25 rfl 5 Try.underlying25 infoB W51.heap.size (.slice a77 20 d77) _ rfl HO77.out _ _ _ P rfl HRS.out 28 (F2 ++ P) rfl (by simp [HL2.out, HPL.out]) (by omega) HS77.out ?_; intro a80 d80 w80 hown hrow hg hpl; have hz : ∀ x, (Value.slice a77 20 d77).ownBlock = some x → W51.heap.size ≤ x := (fun x hx => (HO77.out.own.lt x hx).1); have HT := Lib.hid (HT.out.grown hg (fun x hx hlt => by have h1 := hz _ hx; have h2 : w.heap.size ≤ W51.heap.size := HSZ.out; omega)); have HR80 := Lib.hid hrow; clear hown hrow hg hpl hz)
            | (go_simp; go_at_call_of 18 (Value.agg #[.int .i64 0, .int .i64 0, .int .i64 28, .int .i64 0, .int .i64 0, .int .i64 0, .int .i64 9, .int .i64 (q : Int), .int .i64 0, .int .u32 k.src, .int .u32 k.dst]); (with_reducible refine (HB2.out _).mono ?_); rintro e w77 ⟨a77, d77, rfl, hf77⟩; have t77 := hf77.2; have HO77 := Lib.hid (hf77.1.base (base' := W51.heap.size) (fun x hx => (hf77.1.own.lt x hx).1)); have HS77 : RowKit.Hid (W51.heap.size ≤ w77.heap.size) := Lib.hid t77.size; have HT := Lib.hid (HT.out.trans t77 (fun _ _ h => h)); have HK := Lib.hid (t77.keeps HK.out (fun h => h)); have HRS := Lib.hid (HRS.out.touch t77 (fun _ _ => .inr (fun h => h))); obtain ⟨c0, c1, c2, c3, c4⟩ := HCK.out _ HK.out; clear hf77 t77))
          all_goals (go_wp2_with fail; go_meet; exact ⟨_, _, rfl, HR80.out, HT.out⟩)
        case rest =>
          obtain ⟨a13, d13, rfl, hr13, ht13⟩ := hcut
          have HT := Lib.hid ht13
          clear ht13 hsl2 HA2 HB2 HR8 HK HR9
          by_cases hqq : q ≠ 6 ∧ q ≠ 17
          · have hq6 : ((q : Int) != 6) = true := bne_iff_ne.2 (by omega)
            have hq17 : ((q : Int) != 17) = true := bne_iff_ne.2 (by omega)
            go_wp2_with fail
            (with_reducible refine (HT2.out _ _ _ hr13).mono ?_)
            rintro e w83 ⟨T, G, y, hy, rfl, t83⟩
            have hy8 : y = 8 := hy.2 hqq
            subst hy8
            clear hy hr13 HT2
            simp only [tv, tcs, hv]
            have HT := Lib.hid (HT.out.trans t83 (fun _ _ h => h))
            go_wp2_with (go_at_call 22; (with_reducible refine (awake21 _).mono ?_); rintro e w97 ⟨rfl, t97⟩)
            go_ret
            exact ⟨rfl, ((HT.out.alloc _).alloc _).trans t97 (fun _ _ h => h)⟩
          · go_wp2_with fail
            (with_reducible refine (HT2.out _ _ _ hr13).mono ?_)
            rintro e w83 ⟨T, G, y, hy, rfl, t83⟩
            have hy8 : ((y : Int) == 8) = false := beq_eq_false_iff_ne.2 (by omega)
            clear hy hr13 HT2
            simp only [tv, tcs, hv]
            have HT := Lib.hid (HT.out.trans t83 (fun _ _ h => h))
            by_cases hq6 : q = 6
            · have hq6' : ((q : Int) != 6) = false := by simp [hq6]
              go_wp2_with (go_at_call 22; (with_reducible refine (awake21 _).mono ?_); rintro e w97 ⟨rfl, t97⟩)
              go_ret
              exact ⟨rfl, ((HT.out.alloc _).alloc _).trans t97 (fun _ _ h => h)⟩
            · have hq6' : ((q : Int) != 6) = true := bne_iff_ne.2 (by omega)
              have hq17' : ((q : Int) != 17) = false := by rw [bne_eq_false_iff_eq]; omega
              go_wp2_with (go_at_call 22; (with_reducible refine (awake21 _).mono ?_); rintro e w97 ⟨rfl, t97⟩)
              go_ret
              exact ⟨rfl, ((HT.out.alloc _).alloc _).trans t97 (fun _ _ h => h)⟩
    · replace hpr : k.proto = 6 := by omega
      have hsz : sizeK k 0 = 20 := by unfold sizeK; rw [if_pos (by omega)]
      obtain ⟨j, hj⟩ : ∃ j, u64N n % 20 = j := ⟨_, rfl⟩
      have hj' : j < 20 := by omega
      have hji : (u64N n : Int) % 20 = (j : Int) := by omega
      have hMD : RowKit.Hid (∀ W, Calls Try.prog 23 #[.agg (kcs k), .int .i64 9, .int .i64 0, .slice none 0 0] W fun e w' => ∃ a' cap', e = .returned (.slice a' 40 cap') ∧ FreshB W w' (.slice a' 40 cap') (madeF k 9 0 [])) :=
        Lib.hid (fun W => made_any k ok 9 0 none 0 0 [] W (RowB.nil _ _ _ (by omega)) (by omega) (by simp [isI64]) (by simp [isI64]) 40 (by omega))
      have hml := madeF_length k 9 0 []
      rw [show ([] : List Nat).length = 0 from rfl, hsz] at hml
      have hdrop : (madeF k 9 0 []).drop 20 = pK k 0 [] := by
        unfold madeF
        rw [show 20 = (builtF (hK k 9 (sizeK k ([] : List Nat).length))).length from (builtF_length _).symm, List.drop_left]
      have hpl := pK_length k 0 []
      rw [show ([] : List Nat).length = 0 from rfl, hsz] at hpl
      have HB1 : RowKit.Hid (∀ W, Calls Try.prog 18 #[.agg (acs ⟨0, 0, 20 + (j : Int), 0, 0, 0, 9, k.proto, 0, k.src, k.dst⟩)] W fun e w' => ∃ a' cap', e = .returned (.slice a' 20 cap') ∧ FreshB W w' (.slice a' 20 cap') (builtF ⟨0, 0, 20 + (j : Int), 0, 0, 0, 9, k.proto, 0, k.src, k.dst⟩)) :=
        Lib.hid (fun W => rbuild_any _ (by refine ⟨?_, ?_, ?_, ?_, ?_, ?_, ?_, ok.proto, ?_, ok.src, ok.dst⟩ <;> (simp only [isI64]; omega)) W)
      have HT1' : RowKit.Hid (∀ a cap W, RowB W a (20 + j) cap (builtF ⟨0, 0, 20 + (j : Int), 0, 0, 0, 9, k.proto, 0, k.src, k.dst⟩ ++ (pK k 0 []).take j) → Calls Try.prog 24 #[.slice a (20 + j) cap] W fun e w' => e = .returned (.tuple #[tv tup0, hv hdr0, .int .i64 9]) ∧ Touch W w' (fun _ => False)) :=
        Lib.hid (fun a cap W hr => tuple_bad ⟨0, 0, 20 + (j : Int), 0, 0, 0, 9, k.proto, 0, k.src, k.dst⟩ ((pK k 0 []).take j) j 9 (by simp; omega) (by simp) (by omega) ok.src ok.dst (ref_short _ _ (by
          have e : ((pK k 0 []).take j).length = j := by simp; omega
          rw [e]
          simp only [hpr]
          left
          exact ⟨by decide, by omega⟩)) (by omega) a cap W hr)
      obtain ⟨q, hq⟩ : ∃ q, u64N p % 256 = q := ⟨_, rfl⟩
      have hqi : (u64N p : Int) % 256 = (q : Int) := by omega
      have hq2 : q < 256 := by omega
      have HB2 : RowKit.Hid (∀ W, Calls Try.prog 18 #[.agg (acs ⟨0, 0, 40, 0, 0, 0, 9, (q : Int), 0, k.src, k.dst⟩)] W fun e w' => ∃ a' cap', e = .returned (.slice a' 20 cap') ∧ FreshB W w' (.slice a' 20 cap') (builtF ⟨0, 0, 40, 0, 0, 0, 9, (q : Int), 0, k.src, k.dst⟩)) :=
        Lib.hid (fun W => rbuild_any _ (by refine ⟨?_, ?_, ?_, ?_, ?_, ?_, ?_, ?_, ?_, ok.src, ok.dst⟩ <;> (simp only [isI64]; omega)) W)
      have HT2 : RowKit.Hid (∀ a cap W, RowB W a 40 cap (builtF ⟨0, 0, 40, 0, 0, 0, 9, (q : Int), 0, k.src, k.dst⟩ ++ pK k 0 []) → Calls Try.prog 24 #[.slice a 40 cap] W fun e w' => ∃ T G y, (y = 8 ↔ (q ≠ 6 ∧ q ≠ 17)) ∧ e = .returned (.tuple #[tv T, hv G, .int .i64 (y : Nat)]) ∧ Touch W w' (fun _ => False)) :=
        Lib.hid (fun a cap W hr => (tuple_any a 40 cap _ W hr).mono fun e w' h => ⟨_, _, _, by
          rw [why_any ⟨0, 0, 40, 0, 0, 0, 9, (q : Int), 0, k.src, k.dst⟩ (pK k 0 []) (by simp only [hpl]; rfl) (by omega) ok.src ok.dst]
          have e : u64N (q : Int) % 256 = q := by unfold u64N; omega
          simp only [e]
          exact ref_proto q _, h.1, h.2⟩)
      have HL1 := Lib.hid (builtF_length ⟨0, 0, 20 + (j : Int), 0, 0, 0, 9, k.proto, 0, k.src, k.dst⟩)
      have HL2 := Lib.hid (builtF_length ⟨0, 0, 40, 0, 0, 0, 9, (q : Int), 0, k.src, k.dst⟩)
      generalize builtF ⟨0, 0, 20 + (j : Int), 0, 0, 0, 9, k.proto, 0, k.src, k.dst⟩ = F1 at *
      generalize builtF ⟨0, 0, 40, 0, 0, 0, 9, (q : Int), 0, k.src, k.dst⟩ = F2 at *
      generalize madeF k 9 0 [] = M at *
      generalize pK k 0 [] = P at *
      have HPL := Lib.hid hpl
      have HML := Lib.hid hml
      have HDR := Lib.hid hdrop
      obtain ⟨o0, o1, o2, o3, o4⟩ := ok
      have hu := u64N_wrap n
      have hul := u64N_lt n
      have hu2 := u64N_wrap p
      have hul2 := u64N_lt p
      simp only [kcs, hpr] at HM HW1 hMD ⊢
      simp only [acs, hpr] at HB1 HB2
      clear hpl hml hdrop hsz hm hmi
      have HCK := Lib.hid (fun (W : World) (h : W.heap[w.heap.size]? = some (.cells (kcs k) 43 (0, 0))) => kcells_of h)
      simp only [hpr] at HCK
      clear hpr
      go_enter Try.func9, Try.ntmps9
      go_upto_region 1 with fail
      rw [HW1.out]
      obtain ⟨c0, c1, c2, c3, c4⟩ := HCK.out _ HK1.out
      go_upto_region 8 with (first
        | (go_at_call 28; (with_reducible refine (HM.out _).mono ?_); rintro e w2 ⟨rfl, t2⟩; have HT := Lib.hid (HT1.out.trans t2 (fun _ _ h => h)); have HK := Lib.hid (t2.keeps HK1.out (fun h => h)); obtain ⟨c0, c1, c2, c3, c4⟩ := HCK.out _ HK.out; clear t2)
        | (go_at_call 23; (with_reducible refine (hMD.out _).mono ?_); rintro e w8 ⟨a8, d8, rfl, hf8⟩; have hq8 := ref_row (n := 0) hf8 HML.out; have t8 := hf8.2; have HT := Lib.hid (HT.out.trans t8 (fun _ _ h => h)); have HK := Lib.hid (t8.keeps HK.out (fun h => h)); have HR8 := Lib.hid hq8.1; obtain ⟨c0, c1, c2, c3, c4⟩ := HCK.out _ HK.out; clear t8 hf8 hq8))
      have hcap8 := HR8.out.2.1
      obtain ⟨A1, C1, hsl1, hP1⟩ := slice_lh a8 40 d8 20 (20 + (j : Int)) 20 (20 + j) rfl (by omega) (by omega) (by omega)
      simp only [show 20 + j - 20 = j from by omega] at hsl1
      obtain ⟨A2, C2, hsl2, hP2⟩ := slice_l a8 40 d8 20 20 rfl (by omega) hcap8
      have HA1 : RowKit.Hid (∀ W, RowB W a8 40 d8 M → RowB W A1 j C1 (P.take j)) := Lib.hid (fun W h => by
        have := hP1.row W M h (by omega)
        rwa [List.drop_take, HDR.out, show 20 + j - 20 = j from by omega] at this)
      have HA2 : RowKit.Hid (∀ W, RowB W a8 40 d8 M → RowB W A2 20 C2 P) := Lib.hid (fun W h => by
        have := hP2.row W M h (by omega)
        rw [show M.take 40 = M from by rw [show 40 = M.length from by rw [HML.out], List.take_length], HDR.out] at this
        exact this)
      clear hcap8 hP1 hP2
      go_cut [9] (fun s9 wx => ∃ a9 d9, s9 = .slice a9 (20 + j) d9 ∧ RowB wx a9 (20 + j) d9 (F1 ++ P.take j) ∧ Touch w wx (fun _ => False) ∧ wx.heap[w.heap.size]? = some (.cells (kcs k) 43 (0, 0)) ∧ RowB wx a8 40 d8 M)
      case first =>
        go_wp2_with fail
        have t0 := (Touch.refl w8 (fun _ => False)).drew
        have HT := Lib.hid (HT.out.trans t0 (fun _ _ h => h))
        have HK := Lib.hid (t0.keeps HK.out (fun h => h))
        have HRL := Lib.hid HR8.out.lt
        have HR8 := Lib.hid (HR8.out.touch t0 (fun _ _ => .inr (fun h => h)))
        have HRS := Lib.hid (HA1.out _ HR8.out)
        have HSZ := Lib.hid (HT.out.size)
        clear t0
        have hwr : IntKind.i64.wrap (20 + (j : Int)) = 20 + (j : Int) := IntWalk.i64_in _ (by omega)
        go_region_law (first
          | (have _u := HO41; refine step_appendB rfl _ _ 25 rfl 5 Try.underlying25 infoB w8.heap.size (.slice a41 20 d41) _ rfl HO41.out _ _ _ (P.take j) rfl HRS.out (20 + j) (F1 ++ P.take j) rfl (by simp [HL1.out, HPL.out]; omega) (by omega) HS41.out ?_; intro a46 d46 w46 hown hrow hg hpl; have hz : ∀ x, (Value.slice a41 20 d41).ownBlock = some x → w8.heap.size ≤ x := (fun x hx => (HO41.out.own.lt x hx).1); have HR8 := Lib.hid (RowB.touch HR8.out (Touch.grown (Touch.refl _ (fun x => (Value.slice a41 20 d41).ownBlock = some x)) hg (fun x hx _ => hx)) (fun x hx => Or.imp_right (fun hlt hS => by have h1 := hz _ hS; have h2 : x.block < w8.heap.size := hlt; omega) (HRL.out x hx))); have HT := Lib.hid (HT.out.grown hg (fun x hx hlt => by have h1 := hz _ hx; have h2 : w.heap.size ≤ w8.heap.size := HSZ.out; omega)); have HK := Lib.hid ((hg.block w.heap.size (heap_lt HK.out) (fun e => by have h1 := hz _ e.symm; have h2 : w.heap.size < w8.heap.size := HKL.out; omega)).trans HK.out); have HR46 := Lib.hid hrow; clear hown hrow hg hpl hz)
          | (go_simp; go_at_call 18; ((with_reducible refine (HB1.out _).mono ?_); rintro e w41 ⟨a41, d41, rfl, hf41⟩; have t41 := hf41.2; have HO41 := Lib.hid (hf41.1.base (base' := w8.heap.size) (fun x hx => (hf41.1.own.lt x hx).1)); have HS41 : RowKit.Hid (w8.heap.size ≤ w41.heap.size) := Lib.hid t41.size; have HT := Lib.hid (HT.out.trans t41 (fun _ _ h => h)); have HKL := Lib.hid (heap_lt HK.out); have HK := Lib.hid (t41.keeps HK.out (fun h => h)); have HR8 := Lib.hid (HR8.out.touch t41 (fun _ _ => .inr (fun h => h))); have HRS := Lib.hid (HA1.out _ HR8.out); obtain ⟨c0, c1, c2, c3, c4⟩ := HCK.out _ HK.out; clear hf41 t41)))
        all_goals (go_wp2_with fail; go_meet; exact ⟨_, _, rfl, HR46.out, HT.out, HK.out, HR8.out⟩)
      case rest =>
        obtain ⟨a9, d9, rfl, hr9, ht9, hk9, hr8⟩ := hcut
        have HR8 := Lib.hid hr8
        have HT := Lib.hid ht9
        have HK := Lib.hid hk9
        obtain ⟨c0, c1, c2, c3, c4⟩ := HCK.out _ HK.out
        have HR9 := Lib.hid hr9
        clear hr8 hr9 ht9 hk9 HB1 hsl1 HA1
        go_upto_region 13 with (go_at_call 24; (with_reducible refine (HT1'.out _ _ _ HR9.out).mono ?_); rintro e w49 ⟨rfl, t49⟩; have HT := Lib.hid (HT.out.trans t49 (fun _ _ h => h)); have HK := Lib.hid (t49.keeps HK.out (fun h => h)); have HR8 := Lib.hid (HR8.out.touch t49 (fun _ _ => .inr (fun h => h))); obtain ⟨W50, hW50⟩ : ∃ W, w49.alloc (.cells #[.int .u32 0, .int .u32 0, .int .i64 0, .int .i64 0, .int .i64 0] 43) = W := ⟨_, rfl⟩; obtain ⟨W51, hW51⟩ : ∃ W, W50.alloc (.cells #[.int .i64 0, .int .i64 0, .int .i64 0, .int .i64 0, .int .i64 0, .int .i64 0, .int .i64 0, .int .i64 0, .int .i64 0, .int .u32 0, .int .u32 0] 24) = W := ⟨_, rfl⟩; have t51 : Touch w49 W51 (fun _ => False) := hW51 ▸ hW50 ▸ ((Touch.refl _ _).alloc _).alloc _; have HW50 := Lib.hid hW50; have HW51 := Lib.hid hW51; clear hW50 hW51; obtain ⟨c0, c1, c2, c3, c4⟩ := HCK.out _ HK.out; simp only [tv, tcs, tup0, hv, hdr0]; clear t49)
        rw [HW50.out, HW51.out]
        have HT := Lib.hid (HT.out.trans t51 (fun _ _ h => h))
        have HK := Lib.hid (t51.keeps HK.out (fun h => h))
        have HR8 := Lib.hid (HR8.out.touch t51 (fun _ _ => .inr (fun h => h)))
        obtain ⟨c0, c1, c2, c3, c4⟩ := HCK.out _ HK.out
        clear t51 HW50 HW51 HT1'
        go_cut [13] (fun s9 wx => ∃ a9 d9, s9 = .slice a9 40 d9 ∧ RowB wx a9 40 d9 (F2 ++ P) ∧ Touch w wx (fun _ => False))
        case first =>
          go_wp2_with fail
          have t0 := (Touch.refl W51 (fun _ => False)).drew
          have HT := Lib.hid (HT.out.trans t0 (fun _ _ h => h))
          have HK := Lib.hid (t0.keeps HK.out (fun h => h))
          have HRS := Lib.hid (HA2.out _ (HR8.out.touch t0 (fun _ _ => .inr (fun h => h))))
          have HSZ := Lib.hid (HT.out.size)
          clear t0
          go_region_law (first
            | (have _u := HO77; refine step_appendB rfl _ _ 25 rfl 5 Try.underlying25 infoB W51.heap.size (.slice a77 20 d77) _ rfl HO77.out _ _ _ P rfl HRS.out 40 (F2 ++ P) rfl (by simp [HL2.out, HPL.out]) (by omega) HS77.out ?_; intro a80 d80 w80 hown hrow hg hpl; have hz : ∀ x, (Value.slice a77 20 d77).ownBlock = some x → W51.heap.size ≤ x := (fun x hx => (HO77.out.own.lt x hx).1); have HT := Lib.hid (HT.out.grown hg (fun x hx hlt => by have h1 := hz _ hx; have h2 : w.heap.size ≤ W51.heap.size := HSZ.out; omega)); have HR80 := Lib.hid hrow; clear hown hrow hg hpl hz)
            | (go_simp; go_at_call_of 18 (Value.agg #[.int .i64 0, .int .i64 0, .int .i64 40, .int .i64 0, .int .i64 0, .int .i64 0, .int .i64 9, .int .i64 (q : Int), .int .i64 0, .int .u32 k.src, .int .u32 k.dst]); (with_reducible refine (HB2.out _).mono ?_); rintro e w77 ⟨a77, d77, rfl, hf77⟩; have t77 := hf77.2; have HO77 := Lib.hid (hf77.1.base (base' := W51.heap.size) (fun x hx => (hf77.1.own.lt x hx).1)); have HS77 : RowKit.Hid (W51.heap.size ≤ w77.heap.size) := Lib.hid t77.size; have HT := Lib.hid (HT.out.trans t77 (fun _ _ h => h)); have HK := Lib.hid (t77.keeps HK.out (fun h => h)); have HRS := Lib.hid (HRS.out.touch t77 (fun _ _ => .inr (fun h => h))); obtain ⟨c0, c1, c2, c3, c4⟩ := HCK.out _ HK.out; clear hf77 t77))
          all_goals (go_wp2_with fail; go_meet; exact ⟨_, _, rfl, HR80.out, HT.out⟩)
        case rest =>
          obtain ⟨a13, d13, rfl, hr13, ht13⟩ := hcut
          have HT := Lib.hid ht13
          clear ht13 hsl2 HA2 HB2 HR8 HK HR9
          by_cases hqq : q ≠ 6 ∧ q ≠ 17
          · have hq6 : ((q : Int) != 6) = true := bne_iff_ne.2 (by omega)
            have hq17 : ((q : Int) != 17) = true := bne_iff_ne.2 (by omega)
            go_wp2_with fail
            (with_reducible refine (HT2.out _ _ _ hr13).mono ?_)
            rintro e w83 ⟨T, G, y, hy, rfl, t83⟩
            have hy8 : y = 8 := hy.2 hqq
            subst hy8
            clear hy hr13 HT2
            simp only [tv, tcs, hv]
            have HT := Lib.hid (HT.out.trans t83 (fun _ _ h => h))
            go_wp2_with (go_at_call 22; (with_reducible refine (awake21 _).mono ?_); rintro e w97 ⟨rfl, t97⟩)
            go_ret
            exact ⟨rfl, ((HT.out.alloc _).alloc _).trans t97 (fun _ _ h => h)⟩
          · go_wp2_with fail
            (with_reducible refine (HT2.out _ _ _ hr13).mono ?_)
            rintro e w83 ⟨T, G, y, hy, rfl, t83⟩
            have hy8 : ((y : Int) == 8) = false := beq_eq_false_iff_ne.2 (by omega)
            clear hy hr13 HT2
            simp only [tv, tcs, hv]
            have HT := Lib.hid (HT.out.trans t83 (fun _ _ h => h))
            by_cases hq6 : q = 6
            · have hq6' : ((q : Int) != 6) = false := by simp [hq6]
              go_wp2_with (go_at_call 22; (with_reducible refine (awake21 _).mono ?_); rintro e w97 ⟨rfl, t97⟩)
              go_ret
              exact ⟨rfl, ((HT.out.alloc _).alloc _).trans t97 (fun _ _ h => h)⟩
            · have hq6' : ((q : Int) != 6) = true := bne_iff_ne.2 (by omega)
              have hq17' : ((q : Int) != 17) = false := by rw [bne_eq_false_iff_eq]; omega
              go_wp2_with (go_at_call 22; (with_reducible refine (awake21 _).mono ?_); rintro e w97 ⟨rfl, t97⟩)
              go_ret
              exact ⟨rfl, ((HT.out.alloc _).alloc _).trans t97 (fun _ _ h => h)⟩
theorem portsShort_holds : Rows.PortsShortSaid := by
  refine portsShort.said fun H enc W base v0 v1 v2 d0 d1 d2 p0 p1 p2 h0 h1 h2 => ?_
  obtain ⟨k, rfl, ok⟩ := h0.tuple
  obtain ⟨n, rfl, n1, n2, _⟩ := h1.i64 Try.underlying3
  obtain ⟨p, rfl, m1, m2, _⟩ := h2.i64 Try.underlying3
  exact (short_walk k ok n p ⟨n1, n2⟩ ⟨m1, m2⟩ W).mono fun e w' h => ⟨h.1, h.2.below (fun _ _ h => h.elim) (Nat.le_refl _)⟩
end Go.Proofs.Ythjdebcjfpokoaa
