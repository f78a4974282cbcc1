/- EncapBack answers true for any tuple, any bytes, any addresses, any bound: unwrapped, a wrapped packet is the packet, its TTL one less, both sums right. No condition. -/
import Derived.Test.YthjdebcjfpokoaaEncAwake
import Derived.Test.YthjdebcjfpokoaaFrEncapBack
import Derived.Test.YthjdebcjfpokoaaStrRow
import Derived.Deep.DeepCutAuto
set_option linter.unusedVariables false
namespace Go.Proofs.Ythjdebcjfpokoaa
open Go.RowKit

theorem why_app (xs r : List Nat) (h : whyF xs = 0) : whyF (xs ++ r) = 0 := by
  obtain ⟨z1, z2, z3, z4, z5, z6, z7⟩ := why_zero h
  unfold whyF
  rw [gb_app _ _ _ (by omega), gb_app _ _ _ (by omega), gb_app _ _ _ (by omega), List.take_append_of_le_length (by omega), z5, List.length_append, if_neg (by omega), if_neg (by omega), if_neg (by omega), if_neg (by omega), if_neg (by omega), if_neg (by omega), if_neg (by omega)]
/-- What is behind a packet makes no difference to its wrapping. -/
theorem wrap_app {xs : List Nat} (p : Pkt xs) (r : List Nat) (self dd mtu : Int) : whyW (xs ++ r) mtu = whyW xs mtu ∧ tellW (xs ++ r) self dd mtu = tellW xs self dd mtu := by
  have h1 := why_app xs r p.why
  have h2 : hdr (xs ++ r) = hdr xs := hdr_app _ _ p.twenty
  have h3 : (xs ++ r).take (hdr xs).len = xs.take (hdr xs).len := List.take_append_of_le_length (by rw [p.len]; omega)
  have e1 : whyW (xs ++ r) mtu = whyW xs mtu := by unfold whyW; rw [h1, h2, p.why]
  refine ⟨e1, ?_⟩
  unfold tellW wrapF
  rw [e1, h2, h3]
theorem gb_older (xs : List Nat) (h : Hdr) (i : Nat) (h8 : i ≠ 8) (h10 : i ≠ 10) (h11 : i ≠ 11) : gb (olderF xs h) i = gb xs i := by
  unfold olderF; rw [gb_set_ne _ _ _ _ h11, gb_set_ne _ _ _ _ h10, gb_set_ne _ _ _ _ h8]

set_option maxRecDepth 20000 in
set_option maxHeartbeats 16000000 in
theorem eback_walk (k : KArg) (ok : k.Ok) (ttl : Int) (ht : isI64 ttl) (a1 : Option Addr) (l1 c1 : Nat) (xs : List Nat) (a2 : Option Addr) (l2 c2 : Nat) (ys : List Nat) (p q mtu : Int) (w : World) (hr1 : RowB w a1 l1 c1 xs) (hr2 : RowB w a2 l2 c2 ys) (s1 : 0 ≤ p ∧ p ≤ 4294967295) (s2 : 0 ≤ q ∧ q ≤ 4294967295) :
    Calls Try.prog 11 #[.agg (kcs k), .int .i64 ttl, .slice a1 l1 c1, .slice a2 l2 c2, .int .u32 p, .int .u32 q, .int .i64 mtu] w fun e w' => e = .returned (.bool true) ∧ Touch w w' (fun _ => False) := by
  obtain ⟨W1, hW1⟩ : ∃ W, w.alloc (.cells (kcs k) 43) = W := ⟨_, rfl⟩
  have t1 : Touch w W1 (fun _ => False) := hW1 ▸ (Touch.refl _ _).alloc _
  have HK : RowKit.Hid (W1.heap[w.heap.size]? = some (.cells (kcs k) 43 (0, 0))) := Lib.hid (hW1 ▸ heap_alloc_new w _)
  have HT := Lib.hid t1
  have HW1 := Lib.hid hW1
  have HR1 := Lib.hid hr1
  have HR2 := Lib.hid hr2
  clear t1 hW1 hr1 hr2
  by_cases hb1 : 1900 < l1
  · have hb' : (1900 : Int) < l1 := by omega
    simp only [kcs] at HW1 ⊢
    go_enter Try.func11, Try.ntmps11
    go_upto_region 1 with fail
    rw [HW1.out]
    go_wp2_with (go_at_call 29; (with_reducible refine (awake22 _).mono ?_); rintro e w3 ⟨rfl, t3⟩)
    go_ret
    exact ⟨rfl, HT.out.trans t3 (fun _ _ h => h)⟩
  have hb1' : ¬ (1900 : Int) < l1 := by omega
  by_cases hb2 : 100 < l2
  · have hb' : (100 : Int) < l2 := by omega
    simp only [kcs] at HW1 ⊢
    go_enter Try.func11, Try.ntmps11
    go_upto_region 1 with fail
    rw [HW1.out]
    go_wp2_with (go_at_call 29; (with_reducible refine (awake22 _).mono ?_); rintro e w3 ⟨rfl, t3⟩)
    go_ret
    exact ⟨rfl, HT.out.trans t3 (fun _ _ h => h)⟩
  have hb2' : ¬ (100 : Int) < l2 := by omega
  have m255 : bits BinOp.and IntKind.i64 ttl 255 = ttl % 256 := mask_i64 _ 8 (by decide) 255 rfl
  obtain ⟨T, hT⟩ : ∃ T, ttl % 256 = T := ⟨_, rfl⟩
  have hTb : 0 ≤ T ∧ T < 256 := by omega
  rw [hT] at m255
  have hxs := HR1.out.2.2.2.2.1
  have hxl : xs.length = l1 := HR1.out.1
  have hyl : ys.length = l2 := HR2.out.1
  obtain ⟨n, hn⟩ : ∃ n, 20 + sizeK k l1 = n := ⟨_, rfl⟩
  have hnb : 28 ≤ n ∧ n ≤ 1940 := by unfold sizeK at hn; split at hn <;> omega
  have HMD : RowKit.Hid (∀ W, RowB W a1 l1 c1 xs → Calls Try.prog 23 #[.agg (kcs k), .int .i64 T, .int .i64 0, .slice a1 l1 c1] W fun e w' => ∃ a' cap', e = .returned (.slice a' n cap') ∧ FreshB W w' (.slice a' n cap') (madeF k T 0 xs)) :=
    Lib.hid (fun W h => made_any k ok T 0 a1 l1 c1 xs W h (by omega) (by unfold isI64; omega) (by simp [isI64]) n hn.symm)
  obtain ⟨pm, hpt⟩ := pkt_made k ok T 0 xs (by omega) hxs
  have hpT : ((hdr (madeF k T 0 xs)).ttl : Int) = T := by rw [hpt]; unfold u64N; omega
  have hml : (madeF k T 0 xs).length = n := by rw [madeF_length, hxl, hn]
  generalize madeF k T 0 xs = M at *
  have HML := Lib.hid hml
  have hal : (M ++ ys).length = n + l2 := by simp [hml, hyl]
  have HAL := Lib.hid hal
  have HWA : RowKit.Hid (∀ a c W, RowB W a (n + l2) c (M ++ ys) → Calls Try.prog 30 #[.slice a (n + l2) c, .int .u32 p, .int .u32 q, .int .i64 mtu] W fun e w' => WrapIs W w' (tellW M p q mtu) (whyW M mtu) e) :=
    Lib.hid (fun a c W h => by have := wrap_any a (n + l2) c (M ++ ys) p q mtu W h s1 s2; rwa [(wrap_app pm ys p q mtu).1, (wrap_app pm ys p q mtu).2] at this)
  have HPM := Lib.hid pm
  have HpT := Lib.hid hpT
  clear hpt hpT hn hal hT
  simp only [kcs] at HW1 HMD ⊢
  go_enter Try.func11, Try.ntmps11
  go_upto_region 1 with fail
  rw [HW1.out]
  obtain ⟨c0, c1', c2', c3, c4⟩ := kcells_of HK.out
  go_upto_region 7 with (first
    | (go_at_call 23; (with_reducible refine (HMD.out _ (HR1.out.touch HT.out (fun _ _ => .inr (fun h => h)))).mono ?_); rintro e w15 ⟨a15, d15, rfl, hf15⟩; have hq := ref_row (n := 0) hf15 HML.out; have HT := Lib.hid (HT.out.trans hf15.2 (fun _ _ h => h)); have HR15 := Lib.hid hq.1; have HR2 := Lib.hid (HR2.out.touch HT.out (fun _ _ => .inr (fun h => h))); clear hf15 hq)
    | (at_builtin; have _u := HO50; refine wpList_appendB rfl _ _ 25 rfl 5 Try.underlying25 infoB w15.heap.size (.slice a50 n d50) M rfl HO50.out _ _ _ ys rfl HR2.out (n + l2) (M ++ ys) rfl HAL.out (by omega) HB50.out.size w15.heap.size w15 HB50.out (Nat.le_refl _) ?_; intro a52 d52 w52 hown52 hr52 hg52 hb52 hs52 hp52 hl52; have t52 : Touch w15 w52 (fun _ => False) := Touch.ofBelow hb52 (fun k h1 h2 => by omega); have HR52 := Lib.hid hr52; have HT := Lib.hid (HT15.out.trans t52 (fun _ _ h => h)); have HR15 := Lib.hid (HR150.out.touch t52 (fun _ _ => .inr (fun h => h))); clear hown52 hr52 hg52 hb52 hs52 hp52 hl52 t52)
    | (at_builtin; have _u := HR15; refine wpList_appendB rfl _ _ 25 rfl 5 Try.underlying25 infoB w15.heap.size (.slice (some ⟨w15.heap.size, 0, none⟩) 0 0) [] rfl (OwnB.lit w15 _ rfl _ (Nat.le_refl _) _ _ _ _ rfl rfl (by decide) (by decide)) _ _ _ M rfl (HR15.out.old (Below.alloc (Below.refl _ _) (Nat.le_refl _) _)) n M rfl HML.out (by omega) (by simp) w15.heap.size w15 (Below.alloc (Below.refl _ _) (Nat.le_refl _) _) (Nat.le_refl _) ?_; intro a50 d50 w50 hown50 hr50 hg50 hb50 hs50 hp50 hl50; have HO50 := Lib.hid hown50; have HB50 := Lib.hid hb50; have HR150 := HR15; have HT15 := HT; have HR2 := Lib.hid (HR2.out.old hb50); clear hown50 hr50 hg50 hb50 hs50 hp50 hl50)
    | (go_at_call 30; (with_reducible refine (HWA.out _ _ _ HR52.out).mono ?_); rintro e w17 ⟨a17, n17, d17, rfl, hr17, t17⟩; have HT := Lib.hid (HT.out.trans t17 (fun _ _ h => h)); have HR15 := Lib.hid (HR15.out.touch t17 (fun _ _ => .inr (fun h => h))); have HR17 := Lib.hid hr17; clear hr17 t17))
  have hn17 := HR17.out.1
  have hpT := HpT.out
  by_cases hT1 : T ≤ 1
  · have hy7 := why_old pm (by omega) mtu
    have hn0 : n17 = 0 := by
      rw [← hn17]; unfold tellW; rw [if_neg (by omega)]; rfl
    subst hn0
    rw [hy7]
    clear hn17 HR17 HR15 HWA HPM pm
    go_wp2_with (go_at_call 29; (with_reducible refine (awake22 _).mono ?_); rintro e w3 ⟨rfl, t3⟩)
    go_ret
    exact ⟨rfl, HT.out.trans t3 (fun _ _ h => h)⟩
  have hT1' : ¬ T ≤ 1 := hT1
  by_cases hbig : mtu < (n : Int) + 20 ∨ 2000 < n + 20
  · have hy11 : whyW M mtu = 11 := by
      have := pm.len
      unfold whyW
      rw [if_neg (by rw [pm.why]; simp), if_neg (by omega), if_pos (by omega)]
    have hn0 : n17 = 0 := by
      rw [← hn17]; unfold tellW; rw [if_neg (by omega)]; rfl
    subst hn0
    rw [hy11]
    clear hn17 HR17 HR15 HWA HPM pm
    by_cases hm1 : mtu < (n : Int) + 20
    · go_wp2_with (go_at_call 29; (with_reducible refine (awake22 _).mono ?_); rintro e w3 ⟨rfl, t3⟩)
      go_ret
      exact ⟨rfl, HT.out.trans t3 (fun _ _ h => h)⟩
    · have hm2 : (2000 : Int) < (n : Int) + 20 := by omega
      go_wp2_with (go_at_call 29; (with_reducible refine (awake22 _).mono ?_); rintro e w3 ⟨rfl, t3⟩)
      go_ret
      exact ⟨rfl, HT.out.trans t3 (fun _ _ h => h)⟩
  have hm1 : ¬ mtu < (n : Int) + 20 := by omega
  have hm2 : ¬ (2000 : Int) < (n : Int) + 20 := by omega
  have W' := wrapped pm (by omega) (by omega) p q mtu (by omega) s1 s2
  obtain ⟨q1, q2⟩ := pm.older (by omega)
  have hol := olderF_length M (hdr M)
  have hO : ((hdr (olderF M (hdr M))).ttl : Int) = T - 1 ∧ (hdr (olderF M (hdr M))).tos = (hdr M).tos ∧ (hdr (olderF M (hdr M))).id = (hdr M).id := by
    rw [q2]; refine ⟨?_, rfl, rfl⟩; simp only []; omega
  have hZ := W'.proto
  have hZ2 := W'.ttl
  have hZ3 := W'.tos
  have hZ4 := W'.id
  have hwl := W'.len
  rw [hml] at hwl hol
  have hr17 := HR17.out
  rw [W'.tell] at hr17 hn17
  rw [hwl] at hn17
  subst hn17
  rw [W'.why]
  have HR17 := Lib.hid hr17
  have HUW : RowKit.Hid (∀ a c W, RowB W a (n + 20) c (wrapF M p q) → Calls Try.prog 32 #[.slice a (n + 20) c] W fun e w' => ∃ a' c', e = .returned (.tuple #[.slice a' n c', .int .u32 p, .int .u32 q, .int .i64 0]) ∧ RowB w' a' n c' (olderF M (hdr M)) ∧ Touch W w' (fun _ => False)) :=
    Lib.hid (fun a c W h => unwrap_good W' a n (n + 20) c hml W h)
  have HPZ : RowKit.Hid (∀ a c W, RowB W a (n + 20) c (wrapF M p q) → Calls Try.prog 15 #[.slice a (n + 20) c] W fun e w' => ∃ a' c', e = .returned (.tuple #[hv (hdr (wrapF M p q)), .slice a' n c', .int .i64 0]) ∧ RowB w' a' n c' (olderF M (hdr M)) ∧ Touch W w' (fun _ => False)) :=
    Lib.hid (fun a c W h => (parse_is a (n + 20) c _ W h).mono (by
      have e1 : tellH (wrapF M p q) = hdr (wrapF M p q) := by unfold tellH; rw [if_pos W'.pkt.why]
      rw [e1, W'.body, hol, W'.pkt.why]
      rintro e w' ⟨a', c', rfl, h1, h2, _⟩
      exact ⟨a', c', rfl, h1, h2⟩))
  have HPO : RowKit.Hid (∀ a c W, RowB W a n c (olderF M (hdr M)) → Calls Try.prog 15 #[.slice a n c] W fun e w' => ∃ a' n' c', e = .returned (.tuple #[hv (hdr (olderF M (hdr M))), .slice a' n' c', .int .i64 0]) ∧ Touch W w' (fun _ => False)) :=
    Lib.hid (fun a c W h => (parse_is a n c _ W h).mono (by
      have e1 : tellH (olderF M (hdr M)) = hdr (olderF M (hdr M)) := by unfold tellH; rw [if_pos q1.why]
      rw [e1, q1.why]
      rintro e w' ⟨a', c', rfl, h1, h2, _⟩
      exact ⟨a', _, c', rfl, h2⟩))
  have HGB := Lib.hid (fun i h8 h10 h11 => gb_older M (hdr M) i h8 h10 h11)
  have HOL := Lib.hid hol
  clear W' q1 q2 pm HPM HWA hwl hol hml hr17
  generalize hdr (wrapF M p q) = HZ at *
  generalize wrapF M p q = Z at *
  generalize hdr (olderF M (hdr M)) = HO' at *
  generalize olderF M (hdr M) = O at *
  generalize (hdr M).tos = tos0 at *
  generalize (hdr M).id = id0 at *
  obtain ⟨hO1, hO2, hO3⟩ := hO
  have FZ := Lib.hid (And.intro hZ (And.intro hZ2 (And.intro hZ3 hZ4)))
  have FO := Lib.hid (And.intro hO1 (And.intro hO2 hO3))
  clear hZ hZ2 hZ3 hZ4 hO1 hO2 hO3 HpT hpT
  go_wp2_with (go_at_call 32; (with_reducible refine (HUW.out _ _ _ HR17.out).mono ?_); rintro e w19 ⟨a19, d19, rfl, hr19, t19⟩; have HT := Lib.hid (HT.out.trans t19 (fun _ _ h => h)); have HR15 := Lib.hid (HR15.out.touch t19 (fun _ _ => .inr (fun h => h))); have HR17 := Lib.hid (HR17.out.touch t19 (fun _ _ => .inr (fun h => h))); have HR19 := Lib.hid hr19; clear t19 hr19 HUW)
  (with_reducible refine (HPZ.out _ _ _ HR17.out).mono ?_)
  rintro e w23 ⟨a24, d24, rfl, hr24, t23⟩
  obtain ⟨W24, hW24⟩ : ∃ W, w23.alloc (.cells (hcs HZ) 24) = W := ⟨_, rfl⟩
  have t24 : Touch w23 W24 (fun _ => False) := hW24 ▸ (Touch.refl _ _).alloc _
  have HB1 : RowKit.Hid (W24.heap[w23.heap.size]? = some (.cells (hcs HZ) 24 (0, 0))) := Lib.hid (hW24 ▸ heap_alloc_new w23 _)
  have t234 := t23.trans t24 (fun _ _ h => h)
  have HT := Lib.hid (HT.out.trans t234 (fun _ _ h => h))
  have HR15 := Lib.hid (HR15.out.touch t234 (fun _ _ => .inr (fun h => h)))
  have HR19 := Lib.hid (HR19.out.touch t234 (fun _ _ => .inr (fun h => h)))
  have HR24 := Lib.hid (hr24.touch t24 (fun _ _ => .inr (fun h => h)))
  clear t23 t24 t234 hr24 HPZ HR17
  have HW24 := Lib.hid hW24
  clear hW24
  simp only [hv, hcs] at HW24 ⊢
  go_upto_region 15 with fail
  rw [HW24.out]
  go_wp2_with fail
  (with_reducible refine (HPO.out _ _ _ HR19.out).mono ?_)
  rintro e w26 ⟨a27, n27, d27, rfl, t26⟩
  obtain ⟨W27, hW27⟩ : ∃ W, w26.alloc (.cells (hcs HO') 24) = W := ⟨_, rfl⟩
  have t27 : Touch w26 W27 (fun _ => False) := hW27 ▸ (Touch.refl _ _).alloc _
  have HB2 : RowKit.Hid (W27.heap[w26.heap.size]? = some (.cells (hcs HO') 24 (0, 0))) := Lib.hid (hW27 ▸ heap_alloc_new w26 _)
  have t267 := t26.trans t27 (fun _ _ h => h)
  have HT := Lib.hid (HT.out.trans t267 (fun _ _ h => h))
  have HR15 := Lib.hid (HR15.out.touch t267 (fun _ _ => .inr (fun h => h)))
  have HR19 := Lib.hid (HR19.out.touch t267 (fun _ _ => .inr (fun h => h)))
  have HR24 := Lib.hid (HR24.out.touch t267 (fun _ _ => .inr (fun h => h)))
  have HB1 := Lib.hid (t267.keeps HB1.out (fun h => h))
  clear t26 t27 t267 HPO
  have HW27 := Lib.hid hW27
  clear hW27
  simp only [hv, hcs] at HW27 ⊢
  go_upto_region 16 with fail
  rw [HW27.out]
  obtain ⟨z0, z1, z2, z3, z4, z5, z6, z7, z8, z9, z10⟩ := hcells_of HB1.out
  obtain ⟨y0, y1, y2, y3, y4, y5, y6, y7, y8, y9, y10⟩ := hcells_of HB2.out
  rw [FZ.out.2.2.1] at z1
  rw [FZ.out.2.2.2] at z3
  rw [FZ.out.2.1] at z6
  rw [FZ.out.1] at z7
  rw [FO.out.2.1] at y1
  rw [FO.out.2.2] at y3
  rw [FO.out.1] at y6
  have st1 := str_row HR24.out
  have st2 := str_row HR19.out
  clear FZ FO HW24 HW27
  go_wp2_with fail
  go_loopw [186] (fun i wr => ∃ j : Nat, j ≤ n ∧ i = .int .i64 j ∧ Touch W27 wr (fun _ => False)) (fun i _ => n - (intOf i).toNat)
  case atStart => exact ⟨0, by omega, rfl, Touch.refl _ _⟩
  case round =>
    obtain ⟨j, hj, rfl, tj⟩ := hrel
    have HR15 := Lib.hid (HR15.out.touch tj (fun _ _ => .inr (fun h => h)))
    have HR19 := Lib.hid (HR19.out.touch tj (fun _ _ => .inr (fun h => h)))
    have TJ := Lib.hid tj
    clear tj z0 z1 z2 z3 z4 z5 z6 z7 z8 z9 z10 y0 y1 y2 y3 y4 y5 y6 y7 y8 y9 y10 st1 st2
    by_cases hjn : j < n
    · have hjI : (j : Int) < n := by omega
      obtain ⟨b1, o1, rfl⟩ := HR15.out.some (by omega)
      obtain ⟨b2, o2, rfl⟩ := HR19.out.some (by omega)
      have x1 := HR15.out.gb j (by omega)
      have x2 := HR19.out.gb j (by omega)
      by_cases h8 : j = 8
      · have h8' : ((j : Int) != 8) = false := by simp [h8]
        clear h8
        go_wp2_with fail
        go_quiet (fail)
        go_wp2_with fail
        exact ⟨⟨j + 1, by omega, by go_num, TJ.out.drewN nq⟩, by simp [intOf]; omega⟩
      have h8' : ((j : Int) != 8) = true := bne_iff_ne.2 (by omega)
      by_cases h10 : j = 10
      · have h10' : ((j : Int) != 10) = false := by simp [h10]
        clear h10
        go_wp2_with fail
        go_quiet (fail)
        go_wp2_with fail
        exact ⟨⟨j + 1, by omega, by go_num, TJ.out.drewN nq⟩, by simp [intOf]; omega⟩
      have h10' : ((j : Int) != 10) = true := bne_iff_ne.2 (by omega)
      by_cases h11 : j = 11
      · have h11' : ((j : Int) != 11) = false := by simp [h11]
        clear h11
        go_wp2_with fail
        go_quiet (fail)
        go_wp2_with fail
        exact ⟨⟨j + 1, by omega, by go_num, TJ.out.drewN nq⟩, by simp [intOf]; omega⟩
      have h11' : ((j : Int) != 11) = true := bne_iff_ne.2 (by omega)
      rw [HGB.out j h8 h10 h11] at x2
      generalize gb M j = v at *
      go_wp2_with fail
      go_quiet (fail)
      go_wp2_with fail
      exact ⟨⟨j + 1, by omega, by go_num, TJ.out.drewN nq⟩, by simp [intOf]; omega⟩
    · have hjI : ¬ (j : Int) < n := by omega
      have HT := Lib.hid (HT.out.trans TJ.out (fun _ _ h => h))
      go_wp2_with (go_at_call 29; (with_reducible refine (awake22 _).mono ?_); rintro e w3 ⟨rfl, t3⟩)
      go_ret
      exact ⟨rfl, HT.out.trans t3 (fun _ _ h => h)⟩
theorem encapBack_holds : Rows.EncapBackSaid := by
  refine encapBack.said fun H enc W base v0 v1 v2 v3 v4 v5 v6 d0 d1 d2 d3 d4 d5 d6 p0 p1 p2 p3 p4 p5 p6 h0 h1 h2 h3 h4 h5 h6 => ?_
  obtain ⟨k, rfl, ok⟩ := h0.tuple
  obtain ⟨t, rfl, t1, t2, _⟩ := h1.i64 Try.underlying3
  obtain ⟨a1, l1, c1, xs, rfl, hr1, _, _⟩ := h2.bytes Try.underlying25 Try.underlying5 (by kernel_rfl) (by kernel_rfl)
  obtain ⟨a2, l2, c2, ys, rfl, hr2, _, _⟩ := h3.bytes Try.underlying25 Try.underlying5 (by kernel_rfl) (by kernel_rfl)
  obtain ⟨p, rfl, o1, o2, _⟩ := h4.u32 Try.underlying22
  obtain ⟨q, rfl, m1, m2, _⟩ := h5.u32 Try.underlying22
  obtain ⟨m, rfl, _, _, _⟩ := h6.i64 Try.underlying3
  exact (eback_walk k ok t ⟨t1, t2⟩ a1 l1 c1 xs a2 l2 c2 ys p q m W hr1 hr2 ⟨o1, o2⟩ ⟨m1, m2⟩).mono fun e w' h => ⟨h.1, h.2.below (fun _ _ h => h.elim) (Nat.le_refl _)⟩
end Go.Proofs.Ythjdebcjfpokoaa
