/- PortsBack answers true for any tuples, any numbers, any bytes: a whole packet tells its tuple; with FIN or RST, of TCP, it ends it, and no other. No condition. -/
import Derived.Test.YthjdebcjfpokoaaPortBad
import Derived.Test.YthjdebcjfpokoaaSliceN
import Derived.Test.YthjdebcjfpokoaaFrPortsBack
set_option linter.unusedVariables false
namespace Go.Proofs.Ythjdebcjfpokoaa
open Go.RowKit

/-- What Tuple tells of a packet that was made. -/
theorem tuple_good (k : KArg) (ok : k.Ok) (hm : mayB k = true) (ttl flags : Int) (ys : List Nat) (hl : ys.length ≤ 1000) (a : Option Addr) (L cap : Nat) (W : World) (hr : RowB W a L cap (madeF k ttl flags ys)) :
    Calls Try.prog 24 #[.slice a L cap] W fun e w' => ∃ G : Hdr, (G.ttl : Int) = ttl % 256 ∧ (G.len : Int) = L ∧ e = .returned (.tuple #[.agg (kcs k), hv G, .int .i64 0]) ∧ Touch W w' (fun _ => False) := by
  obtain ⟨z1, z2, z3, z4, z5, z6⟩ := tell_made k ok hm ttl flags ys hl
  have hL := hr.1
  rw [madeF_length] at hL
  obtain ⟨h1, h2, h3, h4, h5⟩ := (may_iff k).1 hm
  have s0 := ok.src
  have s1 := ok.dst
  refine (tuple_any a L cap _ W hr).mono fun e w' h => ⟨tellG (madeF k ttl flags ys), ?_, ?_, ?_, h.2⟩
  · rw [z3]; unfold u64N; omega
  · rw [z5]; omega
  · rw [h.1, z1, z2]
    have e0 : ((k.src.toNat : Nat) : Int) = k.src := by omega
    have e1 : ((k.dst.toNat : Nat) : Int) = k.dst := by omega
    have e2 : ((k.proto.toNat : Nat) : Int) = k.proto := by omega
    have e3 : ((k.sport.toNat : Nat) : Int) = k.sport := by omega
    have e4 : ((k.dport.toNat : Nat) : Int) = k.dport := by omega
    simp only [tv, tcs, kcs, e0, e1, e2, e3, e4]
    rfl
theorem ref_part (q : Nat) (p : List Nat) : refF 1 0 q p = 6 := by
  unfold refF; rw [if_pos (by rfl)]

set_option maxRecDepth 20000 in
set_option maxHeartbeats 16000000 in
theorem back21_walk (k : KArg) (ok : k.Ok) (o : KArg) (ttl flags : Int) (ht : isI64 ttl) (hf : isI64 flags) (a : Option Addr) (len cap : Nat) (ys : List Nat) (w : World) (hr : RowB w a len cap ys) :
    Calls Try.prog 8 #[.agg (kcs k), .agg (kcs o), .int .i64 ttl, .int .i64 flags, .slice a len cap] w fun e w' => e = .returned (.bool true) ∧ Touch w w' (fun _ => False) := by
  obtain ⟨W0, hW0⟩ : ∃ W, w.alloc (.cells (kcs k) 43) = W := ⟨_, rfl⟩
  obtain ⟨W1, hW1⟩ : ∃ W, W0.alloc (.cells (kcs o) 43) = W := ⟨_, rfl⟩
  have t0 : Touch w W0 (fun _ => False) := hW0 ▸ (Touch.refl _ _).alloc _
  have t1 : Touch W0 W1 (fun _ => False) := hW1 ▸ (Touch.refl _ _).alloc _
  have hs0 : W0.heap.size = w.heap.size + 1 := by rw [← hW0]; simp
  have HK : RowKit.Hid (W1.heap[w.heap.size]? = some (.cells (kcs k) 43 (0, 0))) := Lib.hid (t1.keeps (hW0 ▸ heap_alloc_new w _) (fun h => h))
  have HO : RowKit.Hid (W1.heap[w.heap.size + 1]? = some (.cells (kcs o) 43 (0, 0))) := Lib.hid (hs0 ▸ hW1 ▸ heap_alloc_new W0 _)
  have HT := Lib.hid (t0.trans t1 (fun _ _ h => h))
  have HM : RowKit.Hid (∀ W, Calls Try.prog 28 #[.agg (kcs k)] W fun e w' => e = .returned (.bool (mayB k)) ∧ Touch W w' (fun _ => False)) := Lib.hid (fun W => may_any k W)
  have HW0 := Lib.hid hW0
  have HW1 := Lib.hid hW1
  have HR := Lib.hid hr
  clear t0 t1 hW0 hW1 hs0 hr
  by_cases hm : mayB k = true
  case neg =>
    simp only [Bool.not_eq_true] at hm
    rw [hm] at HM
    simp only [kcs] at HM HW0 HW1 ⊢
    go_enter Try.func8, Try.ntmps8
    go_upto_region 1 with fail
    rw [HW0.out, HW1.out]
    obtain ⟨c0, c1, c2, c3, c4⟩ := kcells_of HK.out
    go_wp2_with (first | (go_at_call 28; (with_reducible refine (HM.out _).mono ?_); rintro e w2 ⟨rfl, t2⟩; have HT := Lib.hid (HT.out.trans t2 (fun _ _ h => h)); have HK := Lib.hid (t2.keeps HK.out (fun h => h)); have HO := Lib.hid (t2.keeps HO.out (fun h => h)); obtain ⟨c0, c1, c2, c3, c4⟩ := kcells_of HK.out; obtain ⟨o0, o1, o2, o3, o4⟩ := kcells_of HO.out; clear t2) | (go_at_call 22; (with_reducible refine (awake21 _).mono ?_); rintro e w3 ⟨rfl, t3⟩))
    go_ret
    exact ⟨rfl, HT.out.trans t3 (fun _ _ h => h)⟩
  case pos =>
    rw [hm] at HM
    by_cases hlen : 1000 < len
    · have hlen' : (1000 : Int) < len := by omega
      simp only [kcs] at HM HW0 HW1 ⊢
      go_enter Try.func8, Try.ntmps8
      go_upto_region 1 with fail
      rw [HW0.out, HW1.out]
      obtain ⟨c0, c1, c2, c3, c4⟩ := kcells_of HK.out
      go_wp2_with (first | (go_at_call 28; (with_reducible refine (HM.out _).mono ?_); rintro e w2 ⟨rfl, t2⟩; have HT := Lib.hid (HT.out.trans t2 (fun _ _ h => h)); have HK := Lib.hid (t2.keeps HK.out (fun h => h)); have HO := Lib.hid (t2.keeps HO.out (fun h => h)); obtain ⟨c0, c1, c2, c3, c4⟩ := kcells_of HK.out; obtain ⟨o0, o1, o2, o3, o4⟩ := kcells_of HO.out; clear t2) | (go_at_call 22; (with_reducible refine (awake21 _).mono ?_); rintro e w3 ⟨rfl, t3⟩))
      go_ret
      exact ⟨rfl, HT.out.trans t3 (fun _ _ h => h)⟩
    · have hlen' : ¬ (1000 : Int) < len := by omega
      have hyl : ys.length ≤ 1000 := by have := HR.out.1; omega
      obtain ⟨h1, -, -, -, -⟩ := (may_iff k).1 hm
      obtain ⟨L, hL⟩ : ∃ L, 20 + sizeK k len = L := ⟨_, rfl⟩
      have hsz : 28 ≤ L ∧ L ≤ 1100 := by unfold sizeK at hL; split at hL <;> omega
      have HMD : RowKit.Hid (∀ W, RowB W a len cap ys → Calls Try.prog 23 #[.agg (kcs k), .int .i64 ttl, .int .i64 flags, .slice a len cap] W fun e w' => ∃ a' cap', e = .returned (.slice a' L cap') ∧ FreshB W w' (.slice a' L cap') (madeF k ttl flags ys)) :=
        Lib.hid (fun W h => made_any k ok ttl flags a len cap ys W h (by omega) ht hf L hL.symm)
      have HML : RowKit.Hid ((madeF k ttl flags ys).length = L) := Lib.hid (by rw [madeF_length, HR.out.1, hL])
      have HDR : RowKit.Hid ((madeF k ttl flags ys).drop 20 = pK k flags ys) := Lib.hid (by
        unfold madeF
        rw [show 20 = (builtF (hK k ttl (sizeK k ys.length))).length from (builtF_length _).symm, List.drop_left])
      have HPL : RowKit.Hid (20 + (pK k flags ys).length = L) := Lib.hid (by rw [pK_length, HR.out.1, hL])
      have HTU : RowKit.Hid (∀ a cap W, RowB W a L cap (madeF k ttl flags ys) → Calls Try.prog 24 #[.slice a L cap] W fun e w' => ∃ G : Hdr, (G.ttl : Int) = ttl % 256 ∧ (G.len : Int) = L ∧ e = .returned (.tuple #[.agg (kcs k), hv G, .int .i64 0]) ∧ Touch W w' (fun _ => False)) :=
        Lib.hid (fun a cap W h => tuple_good k ok hm ttl flags ys hyl a L cap W h)
      have HEN : RowKit.Hid (∀ (p : KArg) a cap W, RowB W a L cap (madeF k ttl flags ys) → Calls Try.prog 26 #[.agg (kcs p), .slice a L cap] W fun e w' => e = .returned (.bool (decide ((k.proto = 6 ∧ bits BinOp.and IntKind.i64 flags 5 ≠ 0) ∧ p.src = k.src ∧ p.dst = k.dst ∧ p.proto = k.proto ∧ p.sport = k.sport ∧ p.dport = k.dport))) ∧ Touch W w' (fun _ => False)) :=
        Lib.hid (fun p a cap W h => (ends_any p a L cap _ W h).mono fun e w' h => ⟨by
          rw [h.1]
          refine congrArg (fun b => Ending.returned (Value.bool b)) ?_
          rw [Bool.eq_iff_iff, ends_made k ok hm ttl flags ys hyl p, decide_eq_true_iff]
          obtain ⟨p1, p2, p3, p4, p5⟩ := p
          obtain ⟨b1, b2, b3, b4, b5⟩ := k
          simp only [KArg.mk.injEq], h.2⟩)
      have HB : RowKit.Hid (∀ W, Calls Try.prog 18 #[.agg (acs ⟨0, 0, L, 0, 1, 0, ttl, k.proto, 0, k.src, k.dst⟩)] W fun e w' => ∃ a' cap', e = .returned (.slice a' 20 cap') ∧ FreshB W w' (.slice a' 20 cap') (builtF ⟨0, 0, L, 0, 1, 0, ttl, k.proto, 0, k.src, k.dst⟩)) :=
        Lib.hid (fun W => rbuild_any _ (by refine ⟨?_, ?_, ?_, ?_, ?_, ?_, ht, ok.proto, ?_, ok.src, ok.dst⟩ <;> (simp only [isI64]; omega)) W)
      have HTB : RowKit.Hid (∀ a cap W, RowB W a L cap (builtF ⟨0, 0, L, 0, 1, 0, ttl, k.proto, 0, k.src, k.dst⟩ ++ pK k flags ys) → Calls Try.prog 24 #[.slice a L cap] W fun e w' => e = .returned (.tuple #[tv tup0, hv hdr0, .int .i64 6]) ∧ Touch W w' (fun _ => False)) :=
        Lib.hid (fun a cap W h => by
          have hp := HPL.out
          have := tuple_bad ⟨0, 0, L, 0, 1, 0, ttl, k.proto, 0, k.src, k.dst⟩ (pK k flags ys) (L - 20) 6 (by omega) (by simp only []; omega) (by omega) ok.src ok.dst (ref_part _ _) (by omega) a cap W
          rw [show 20 + (L - 20) = L from by omega] at this
          exact this h)
      have HBL := Lib.hid (builtF_length ⟨0, 0, L, 0, 1, 0, ttl, k.proto, 0, k.src, k.dst⟩)
      generalize builtF ⟨0, 0, L, 0, 1, 0, ttl, k.proto, 0, k.src, k.dst⟩ = F at *
      generalize madeF k ttl flags ys = M at *
      generalize pK k flags ys = P at *
      have HEk : RowKit.Hid (∀ a cap W, RowB W a L cap M → Calls Try.prog 26 #[.agg (kcs k), .slice a L cap] W fun e w' => e = .returned (.bool (decide (k.proto = 6 ∧ bits BinOp.and IntKind.i64 flags 5 ≠ 0))) ∧ Touch W w' (fun _ => False)) :=
        Lib.hid (fun a cap W h => by have := HEN.out k a cap W h; simpa using this)
      have HEo := Lib.hid (HEN.out o)
      have m255 : bits BinOp.and IntKind.i64 ttl 255 = ttl % 256 := mask_i64 _ 8 (by decide) 255 rfl
      have hrl := Lib.hid HR.out.lt
      clear HEN hm hL
      obtain ⟨s0, s1, s2, s3, s4⟩ := ok
      generalize hfl : bits BinOp.and IntKind.i64 flags 5 = FL at *
      simp only [kcs] at HM HMD HW0 HW1 HTU HEk HEo ⊢
      simp only [acs] at HB
      go_enter Try.func8, Try.ntmps8
      go_upto_region 1 with fail
      rw [HW0.out, HW1.out]
      obtain ⟨c0, c1, c2, c3, c4⟩ := kcells_of HK.out
      go_upto_region 5 with (first
        | (go_at_call 28; (with_reducible refine (HM.out _).mono ?_); rintro e w2 ⟨rfl, t2⟩; have HT := Lib.hid (HT.out.trans t2 (fun _ _ h => h)); have HK := Lib.hid (t2.keeps HK.out (fun h => h)); have HO := Lib.hid (t2.keeps HO.out (fun h => h)); obtain ⟨c0, c1, c2, c3, c4⟩ := kcells_of HK.out; obtain ⟨o0, o1, o2, o3, o4⟩ := kcells_of HO.out; clear t2)
        | (go_at_call 23; (with_reducible refine (HMD.out _ (HR.out.touch HT.out (fun _ _ => .inr (fun h => h)))).mono ?_); rintro e w8 ⟨a8, d8, rfl, hf8⟩; have hq8 := ref_row (n := 0) hf8 HML.out; have t8 := hf8.2; have HR8 := Lib.hid hq8.1; have HT := Lib.hid (HT.out.trans t8 (fun _ _ h => h)); have HK := Lib.hid (t8.keeps HK.out (fun h => h)); have HO := Lib.hid (t8.keeps HO.out (fun h => h)); obtain ⟨c0, c1, c2, c3, c4⟩ := kcells_of HK.out; obtain ⟨o0, o1, o2, o3, o4⟩ := kcells_of HO.out; clear t8 hf8 hq8)
        | (go_at_call 24; (with_reducible refine (HTU.out _ _ _ HR8.out).mono ?_); rintro e w9 ⟨G, hGt, hGl, rfl, t9⟩; obtain ⟨W10, hW10⟩ : ∃ W, w9.alloc (.cells #[.int .u32 k.src, .int .u32 k.dst, .int .i64 k.proto, .int .i64 k.sport, .int .i64 k.dport] 43) = W := ⟨_, rfl⟩; obtain ⟨W11, hW11⟩ : ∃ W, W10.alloc (.cells #[.int .i64 G.ihl, .int .i64 G.tos, .int .i64 L, .int .i64 G.id, .int .i64 G.flags, .int .i64 G.off, .int .i64 (ttl % 256), .int .i64 G.proto, .int .i64 G.sum, .int .u32 G.src, .int .u32 G.dst] 24) = W := ⟨_, rfl⟩; have t10 : Touch w9 W10 (fun _ => False) := hW10 ▸ (Touch.refl _ _).alloc _; have t11 : Touch W10 W11 (fun _ => False) := hW11 ▸ (Touch.refl _ _).alloc _; have hs10 : W10.heap.size = w9.heap.size + 1 := (by rw [← hW10]; simp); have HQ : RowKit.Hid (W11.heap[w9.heap.size]? = some (.cells (kcs k) 43 (0, 0))) := Lib.hid (t11.keeps (hW10 ▸ heap_alloc_new w9 _) (fun h => h)); have HG : RowKit.Hid (W11.heap[w9.heap.size + 1]? = some (.cells #[.int .i64 G.ihl, .int .i64 G.tos, .int .i64 L, .int .i64 G.id, .int .i64 G.flags, .int .i64 G.off, .int .i64 (ttl % 256), .int .i64 G.proto, .int .i64 G.sum, .int .u32 G.src, .int .u32 G.dst] 24 (0, 0))) := Lib.hid (hs10 ▸ hW11 ▸ heap_alloc_new W10 _); have t12 := t9.trans (t10.trans t11 (fun _ _ h => h)) (fun _ _ h => h); have HR8 := Lib.hid (HR8.out.touch t12 (fun _ _ => .inr (fun h => h))); have HT := Lib.hid (HT.out.trans t12 (fun _ _ h => h)); have HK := Lib.hid (t12.keeps HK.out (fun h => h)); have HO := Lib.hid (t12.keeps HO.out (fun h => h)); obtain ⟨c0, c1, c2, c3, c4⟩ := kcells_of HK.out; obtain ⟨o0, o1, o2, o3, o4⟩ := kcells_of HO.out; have HW10 := Lib.hid hW10; have HW11 := Lib.hid hW11; clear hW10 hW11 t9 t10 t11 t12 hs10; simp only [hv]))
      rw [HW10.out, HW11.out]
      clear HW10 HW11 HW0 HW1 HTU HM HMD
      obtain ⟨E, hE⟩ : ∃ E, decide (k.proto = 6 ∧ FL ≠ 0) = E := ⟨_, rfl⟩
      rw [hE] at HEk
      go_cut [15] (fun s15 wx => s15 = .bool E ∧ wx = W11)
      case first =>
        by_cases h6 : k.proto = 6
        · have h6' : (k.proto == 6) = true := beq_iff_eq.2 h6
          have e : (FL != 0) = E := by rw [← hE, Bool.eq_iff_iff]; simp [h6]
          clear hE
          go_wp2_with fail
          go_meet
          exact ⟨rfl, rfl⟩
        · have h6' : (k.proto == 6) = false := beq_eq_false_iff_ne.2 h6
          have e : E = false := by rw [← hE]; simp [h6]
          subst e
          clear hE
          go_wp2_with fail
          go_meet
          exact ⟨rfl, rfl⟩
      case rest =>
        obtain ⟨rfl, rfl⟩ := hcut
        obtain ⟨D, hD⟩ : ∃ D, decide ((k.proto = 6 ∧ FL ≠ 0) ∧ o.src = k.src ∧ o.dst = k.dst ∧ o.proto = k.proto ∧ o.sport = k.sport ∧ o.dport = k.dport) = D := ⟨_, rfl⟩
        rw [hD] at HEo
        have HD : RowKit.Hid (D = true ↔ (E = true ∧ o.src = k.src ∧ o.dst = k.dst ∧ o.proto = k.proto ∧ o.sport = k.sport ∧ o.dport = k.dport)) := Lib.hid (by rw [← hD, ← hE]; simp only [decide_eq_true_iff])
        clear hE hD
        obtain ⟨c0, c1, c2, c3, c4⟩ := kcells_of HK.out
        obtain ⟨o0, o1, o2, o3, o4⟩ := kcells_of HO.out
        obtain ⟨q0, q1, q2, q3, q4⟩ := kcells_of HQ.out
        have g2 := cell_of_cells HG.out 2
        have g6 := cell_of_cells HG.out 6
        simp at g2 g6
        go_upto_region 6 with fail
        go_cut [1, 15, 80] (fun s1 s15 s80 wx => s80 = .bool false ∧ Touch w wx (fun _ => False) ∧ wx.heap[w.heap.size]? = some (.cells (kcs k) 43 (0, 0)) ∧ wx.heap[w9.heap.size + 1]? = some (.cells #[.int .i64 G.ihl, .int .i64 G.tos, .int .i64 L, .int .i64 G.id, .int .i64 G.flags, .int .i64 G.off, .int .i64 (ttl % 256), .int .i64 G.proto, .int .i64 G.sum, .int .u32 G.src, .int .u32 G.dst] 24 (0, 0)) ∧ RowB wx a8 L d8 M)
        case first =>
          go_wp2_with (first
            | (go_at_call 26; (with_reducible refine (HEk.out _ _ _ HR8.out).mono ?_); rintro e w65 ⟨rfl, t65⟩; have HT := Lib.hid (HT.out.trans t65 (fun _ _ h => h)); have HK := Lib.hid (t65.keeps HK.out (fun h => h)); have HO := Lib.hid (t65.keeps HO.out (fun h => h)); obtain ⟨c0, c1, c2, c3, c4⟩ := kcells_of HK.out; obtain ⟨o0, o1, o2, o3, o4⟩ := kcells_of HO.out; have HQ := Lib.hid (t65.keeps HQ.out (fun h => h)); have HG := Lib.hid (t65.keeps HG.out (fun h => h)); have HR8 := Lib.hid (HR8.out.touch t65 (fun _ _ => .inr (fun h => h))); obtain ⟨q0, q1, q2, q3, q4⟩ := kcells_of HQ.out; have g2 := cell_of_cells HG.out 2; have g6 := cell_of_cells HG.out 6; simp at g2 g6; clear t65)
            | (go_at_call 26; (with_reducible refine (HEo.out _ _ _ HR8.out).mono ?_); rintro e w72 ⟨rfl, t72⟩; have HT := Lib.hid (HT.out.trans t72 (fun _ _ h => h)); have HK := Lib.hid (t72.keeps HK.out (fun h => h)); have HO := Lib.hid (t72.keeps HO.out (fun h => h)); obtain ⟨c0, c1, c2, c3, c4⟩ := kcells_of HK.out; obtain ⟨o0, o1, o2, o3, o4⟩ := kcells_of HO.out; have HQ := Lib.hid (t72.keeps HQ.out (fun h => h)); have HG := Lib.hid (t72.keeps HG.out (fun h => h)); have HR8 := Lib.hid (HR8.out.touch t72 (fun _ _ => .inr (fun h => h))); obtain ⟨q0, q1, q2, q3, q4⟩ := kcells_of HQ.out; have g2 := cell_of_cells HG.out 2; have g6 := cell_of_cells HG.out 6; simp at g2 g6; clear t72))
          all_goals (go_meet; refine ⟨congrArg Value.bool ?_, HT.out, HK.out, HG.out, HR8.out⟩; have hd := HD.out; clear HD HT HK HO HQ HG HR8 HEk HEo HB HTB HDR HML HPL HR c0 c1 c2 c3 c4 o0 o1 o2 o3 o4 q0 q1 q2 q3 q4 g2 g6; (first | (simp_all; done) | trace_state))
        case rest =>
          obtain ⟨rfl, ht8, hk8, hg8, hr8⟩ := hcut
          have HT := Lib.hid ht8
          have HK := Lib.hid hk8
          have HG := Lib.hid hg8
          have HR8 := Lib.hid hr8
          obtain ⟨c0, c1, c2, c3, c4⟩ := kcells_of HK.out
          have g2 := cell_of_cells HG.out 2
          simp at g2
          have hcap8 := HR8.out.2.1
          obtain ⟨A2, C2, hsl2, hP2⟩ := slice_l a8 L d8 20 20 rfl (by omega) hcap8
          have HA2 : RowKit.Hid (∀ W, RowB W a8 L d8 M → RowB W A2 (L - 20) C2 P) := Lib.hid (fun W h => by
            have := hP2.row W M h (by omega)
            rw [show M.take L = M from by rw [show L = M.length from HML.out.symm, List.take_length], HDR.out] at this
            exact this)
          clear hcap8 hP2 ht8 hk8 hg8 hr8 HD HEk HEo
          go_upto_region 8 with fail
          go_cut [16] (fun s16 wx => ∃ a9 d9, s16 = .slice a9 L d9 ∧ RowB wx a9 L d9 (F ++ P) ∧ Touch w wx (fun _ => False))
          case first =>
            go_wp2_with fail
            have t0 := (Touch.refl wc (fun _ => False)).drew
            have HT := Lib.hid (HT.out.trans t0 (fun _ _ h => h))
            have HK := Lib.hid (t0.keeps HK.out (fun h => h))
            have HG := Lib.hid (t0.keeps HG.out (fun h => h))
            have HRS := Lib.hid (HA2.out _ (HR8.out.touch t0 (fun _ _ => .inr (fun h => h))))
            have HSZ := Lib.hid (HT.out.size)
            clear t0
            go_region_law (first
              | (have _u := HO91; refine step_appendB rfl _ _ 25 rfl 5 Try.underlying25 infoB wc.heap.size (.slice a91 20 d91) _ rfl HO91.out _ _ _ P rfl HRS.out L (F ++ P) rfl (by rw [List.length_append, HBL.out]; exact HPL.out) (by omega) HS91.out ?_; intro a94 d94 w94 hown hrow hg hpl; have hz : ∀ x, (Value.slice a91 20 d91).ownBlock = some x → wc.heap.size ≤ x := (fun x hx => (HO91.out.own.lt x hx).1); have HT := Lib.hid (HT.out.grown hg (fun x hx hlt => by have h1 := hz _ hx; have h2 : w.heap.size ≤ wc.heap.size := HSZ.out; omega)); have HR94 := Lib.hid hrow; clear hown hrow hg hpl hz)
              | (go_simp; go_at_call 18; (with_reducible refine (HB.out _).mono ?_); rintro e w91 ⟨a91, d91, rfl, hf91⟩; have t91 := hf91.2; have HO91 := Lib.hid (hf91.1.base (base' := wc.heap.size) (fun x hx => (hf91.1.own.lt x hx).1)); have HS91 : RowKit.Hid (wc.heap.size ≤ w91.heap.size) := Lib.hid t91.size; have HT := Lib.hid (HT.out.trans t91 (fun _ _ h => h)); have HK := Lib.hid (t91.keeps HK.out (fun h => h)); have HG := Lib.hid (t91.keeps HG.out (fun h => h)); have HRS := Lib.hid (HRS.out.touch t91 (fun _ _ => .inr (fun h => h))); obtain ⟨c0, c1, c2, c3, c4⟩ := kcells_of HK.out; have g2 := cell_of_cells HG.out 2; simp at g2; clear hf91 t91))
            all_goals (go_wp2_with fail; go_meet; exact ⟨_, _, rfl, HR94.out, HT.out⟩)
          case rest =>
            obtain ⟨a16, d16, rfl, hr16, ht16⟩ := hcut
            have HT := Lib.hid ht16
            clear ht16 hsl2 HA2 HB HR8 HK HG
            go_wp2_with fail
            (with_reducible refine (HTB.out _ _ _ hr16).mono ?_)
            rintro e w97 ⟨rfl, t97⟩
            simp only [tv, tcs, tup0, hv, hdr0]
            have HT := Lib.hid (HT.out.trans t97 (fun _ _ h => h))
            clear hr16 t97
            go_wp2_with (go_at_call 22; (with_reducible refine (awake21 _).mono ?_); rintro e w3 ⟨rfl, t3⟩)
            go_ret
            exact ⟨rfl, ((HT.out.alloc _).alloc _).trans t3 (fun _ _ h => h)⟩
theorem portsBack_holds : Rows.PortsBackSaid := by
  refine portsBack.said fun H enc W base v0 v1 v2 v3 v4 d0 d1 d2 d3 d4 p0 p1 p2 p3 p4 h0 h1 h2 h3 h4 => ?_
  obtain ⟨k, rfl, ok⟩ := h0.tuple
  obtain ⟨o, rfl, oko⟩ := h1.tuple
  obtain ⟨n, rfl, n1, n2, _⟩ := h2.i64 Try.underlying3
  obtain ⟨p, rfl, m1, m2, _⟩ := h3.i64 Try.underlying3
  obtain ⟨a, len, cap, ys, rfl, hr, _, _⟩ := h4.bytes Try.underlying25 Try.underlying5 (by kernel_rfl) (by kernel_rfl)
  exact (back21_walk k ok o n p ⟨n1, n2⟩ ⟨m1, m2⟩ a len cap ys W hr).mono fun e w' h => ⟨h.1, h.2.below (fun _ _ h => h.elim) (Nat.le_refl _)⟩
end Go.Proofs.Ythjdebcjfpokoaa
