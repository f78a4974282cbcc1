/- FlowsApart answers true for any flows, any flow and any time. -/
import Derived.Test.YtgmimdnebgncoaaGMZ
import Derived.Test.YtgmimdnebgncoaaGIZ
import Derived.Test.YtgmimdnebgncoaaFrFlowsApartZ
import Derived.Deep.DeepCutAuto
set_option linter.unusedVariables false
set_option linter.unusedSimpArgs false
namespace Go.Proofs.Ytgmimdnebgncoaa
open Go.RowKit

theorem flow_cells {w : World} {g off n cap : Nat} {l : List FlD} (h : RowS w (some ⟨g, off, none⟩) n cap 8 (l.map fcl)) (k : Nat) (hk : k < l.length) :
    w.cell? ⟨g, off + k * 8, none⟩ = some (.int .u32 (gf l k).t.src) ∧ w.cell? ⟨g, off + k * 8 + 1, none⟩ = some (.int .u32 (gf l k).t.dst) ∧ w.cell? ⟨g, off + k * 8 + 2, none⟩ = some (.int .i64 (gf l k).t.proto) ∧ w.cell? ⟨g, off + k * 8 + 3, none⟩ = some (.int .i64 (gf l k).t.sport) ∧ w.cell? ⟨g, off + k * 8 + 4, none⟩ = some (.int .i64 (gf l k).t.dport) ∧
      w.cell? ⟨g, off + k * 8 + 5, none⟩ = some (.int .i64 (gf l k).fb) ∧ w.cell? ⟨g, off + k * 8 + 6, none⟩ = some (.int .i64 (gf l k).fg) ∧ w.cell? ⟨g, off + k * 8 + 7, none⟩ = some (.int .i64 (gf l k).fs) := by
  have hk' : k < (l.map fcl).length := by simpa using hk
  have e : (l.map fcl)[k] = fcl (gf l k) := by rw [List.getElem_map, gf_get l k hk]
  have hc : ∀ j u, (fcl (gf l k))[j]? = some u → w.cell? ⟨g, off + k * 8 + j, none⟩ = some u := fun j u hu => h.cell k hk' j u (by rw [e]; exact hu)
  exact ⟨hc 0 _ rfl, hc 1 _ rfl, hc 2 _ rfl, hc 3 _ rfl, hc 4 _ rfl, hc 5 _ rfl, hc 6 _ rfl, hc 7 _ rfl⟩
/-- What Put makes of a table that has not the tuple, and has room. -/
theorem put_new {M : List FlD} {f : FlD} (hn : f.t ∉ M.map FlD.t) (hl : (M.length : Int) < 100) :
    (mayFB f = false → putE M 100 f = .tuple #[.bool false, .int .i64 1] ∧ putF M 100 f = M) ∧ (mayFB f = true → putE M 100 f = .tuple #[.bool true, .int .i64 0] ∧ putF M 100 f = f :: M) := by
  have hh : hasF M f.t = false := by
    rw [Bool.eq_false_iff]
    exact fun h => hn ((hasF_iff _ _).1 h)
  constructor
  · intro hm
    have hb : putB M 100 f = false := by unfold putB; rw [hm]; rfl
    unfold putE putF
    rw [hm, hb]
    exact ⟨rfl, rfl⟩
  · intro hm
    have hb : putB M 100 f = true := by unfold putB; rw [hm, hh, decide_eq_true hl]; rfl
    unfold putE putF
    rw [hm, hb, hh, delF_none hn]
    exact ⟨rfl, rfl⟩
theorem put_len {M : List FlD} (nd : (M.map FlD.t).Nodup) (most : Int) (f : FlD) : (putF M most f).length ≤ M.length + 1 := by
  unfold putF
  split
  · have := delF_len nd f.t
    rw [List.length_cons]
    omega
  · omega
theorem put_mem {M : List FlD} (most : Int) (f : FlD) {t : TupD} (h : t ∈ (putF M most f).map FlD.t) : t = f.t ∨ t ∈ M.map FlD.t := by
  unfold putF at h
  split at h
  · rw [List.map_cons, List.mem_cons] at h
    rcases h with h | h
    · exact .inl h
    · right
      obtain ⟨x, hx, rfl⟩ := List.mem_map.1 h
      exact List.mem_map_of_mem (List.mem_filter.1 hx).1
  · exact .inr h
theorem touch_none {M : List FlD} {t : TupD} {now : Int} (h : t ∉ M.map FlD.t) : touchF M t now = M := by
  have hh : hasF M t = false := by
    rw [Bool.eq_false_iff]
    exact fun e => h ((hasF_iff _ _).1 e)
  unfold touchF touchB
  rw [hh]
  rfl
theorem delF_perm {M M' : List FlD} (h : M.Perm M') (t : TupD) : (delF M t).Perm (delF M' t) := h.filter _
/-- Put, touched, dropped. -/
theorem apart_del {M M1 : List FlD} {f : FlD} {now : Int} (hn : f.t ∉ M.map FlD.t) (nd : (M.map FlD.t).Nodup) (hp : M1.Perm (f :: M)) :
    hasF (touchF M1 f.t now) f.t = true ∧ (delF (touchF M1 f.t now) f.t).Perm M := by
  have h1 : hasF M1 f.t = true := by
    rw [hasF_perm hp, hasF_iff]
    simp
  have hd : (delF M1 f.t).Perm M := by
    have h2 := delF_perm hp f.t
    have e : delF (f :: M) f.t = M := by
      have h3 : delF (f :: M) f.t = delF M f.t := by
        unfold delF
        rw [List.filter_cons, if_neg (by simp)]
      rw [h3, delF_none hn]
    rwa [e] at h2
  unfold touchF
  split
  · refine ⟨by rw [hasF_iff]; simp, ?_⟩
    have e : ∀ X : FlD, X.t = f.t → delF (X :: delF M1 f.t) f.t = delF M1 f.t := fun X hX => by
      have h3 : delF (X :: delF M1 f.t) f.t = delF (delF M1 f.t) f.t := by
        unfold delF
        rw [List.filter_cons, if_neg (by simp [hX])]
      rw [h3, delF_none (delF_not M1 f.t)]
    rw [show (⟨f.t, (getF M1 f.t).fb, (getF M1 f.t).fg, now⟩ : FlD) = ⟨f.t, (getF M1 f.t).fb, (getF M1 f.t).fg, now⟩ from rfl, e ⟨f.t, (getF M1 f.t).fb, (getF M1 f.t).fg, now⟩ rfl]
    exact hd
  · exact ⟨h1, hd⟩
theorem apart_all {M : List FlD} {f : FlD} {now : Int} (hn : f.t ∉ M.map FlD.t) (nd : (M.map FlD.t).Nodup) (hl : (M.length : Int) < 100) :
    ∃ (o : Bool) (er : Int), putE M 100 f = .tuple #[.bool o, .int .i64 er] ∧ (er == 0) = o ∧ ∀ M1, M1.Perm (putF M 100 f) → ∀ M2, M2.Perm (touchF M1 f.t now) → hasF M2 f.t = o ∧ (delF M2 f.t).Perm M := by
  obtain ⟨pa, pb⟩ := put_new hn hl
  cases hm : mayFB f with
  | false =>
    obtain ⟨e1, e2⟩ := pa hm
    refine ⟨false, 1, e1, rfl, fun M1 h1 M2 h2 => ?_⟩
    rw [e2] at h1
    have hn1 : f.t ∉ M1.map FlD.t := fun h => hn ((h1.map FlD.t).mem_iff.1 h)
    rw [touch_none hn1] at h2
    have h3 := h2.trans h1
    have hn2 : f.t ∉ M2.map FlD.t := fun h => hn ((h3.map FlD.t).mem_iff.1 h)
    refine ⟨?_, by rw [delF_none hn2]; exact h3⟩
    rw [Bool.eq_false_iff]
    exact fun h => hn2 ((hasF_iff _ _).1 h)
  | true =>
    obtain ⟨e1, e2⟩ := pb hm
    refine ⟨true, 0, e1, rfl, fun M1 h1 M2 h2 => ?_⟩
    rw [e2] at h1
    obtain ⟨h3, h4⟩ := apart_del (now := now) hn nd h1
    exact ⟨by rw [hasF_perm h2]; exact h3, (delF_perm h2 _).trans h4⟩
set_option maxRecDepth 20000 in
set_option maxHeartbeats 16000000 in
theorem apart11_walk (w : World) (a0 : Option Addr) (cap : Nat) (l : List FlD) (hr : RowS w a0 l.length cap 8 (l.map fcl)) (hok : ∀ f ∈ l, FlOk f) (f : FlD) (of : FlOk f) (now : Int) (hnow : i64 now) :
    Calls Try.prog 8 #[.slice a0 l.length cap, .agg (fca f), .int .i64 now] w fun e w' => e = .returned (.bool true) ∧ Below w.heap.size w w' := by
  obtain ⟨n, hn⟩ : ∃ n, l.length = n := ⟨_, rfl⟩
  rw [hn] at hr ⊢
  have hcap := hr.hcap
  have hmax := hr.hmax
  obtain ⟨W1, hW1⟩ : ∃ W, w.alloc (.cells (fca f) 26) = W := ⟨_, rfl⟩
  have t1 : Touch w W1 (fun _ => False) := hW1 ▸ (Touch.refl w _).alloc _
  have g1 : W1.heap[w.heap.size]? = some (.cells (fca f) 26 (0, 0)) := hW1 ▸ heap_alloc_new ..
  obtain ⟨bf, hbf⟩ : ∃ b, w.heap.size = b := ⟨_, rfl⟩
  rw [hbf] at g1
  have HBF : RowKit.Hid (∀ X, Touch W1 X (fun _ => False) → X.heap[bf]? = some (.cells (fca f) 26 (0, 0))) := Lib.hid (fun X x => x.keeps g1 (fun h => h))
  have HR := Lib.hid hr
  have HOK := Lib.hid hok
  have HW1 := Lib.hid hW1
  have HT1 := Lib.hid t1
  have HB := Lib.hid hbf
  have HF := Lib.hid of
  clear hW1 t1 g1 hr hok hbf of
  simp only [fca] at HW1 ⊢
  go_enter Try.func8, Try.ntmps8
  go_upto_region 1 with (fail)
  rw [HW1.out, HB.out]
  go_wp2_with fail
  refine (fnew_any W1 100 10).mono ?_
  rintro e w0 ⟨g, h, rfl, q0, t0, f0⟩
  rw [show min (max (100 : Int) 0) 256 = 100 by decide, show min (max (10 : Int) 1) 1099511627776 = 10 by decide] at q0
  have N0 := Lib.hid (FN.mk q0 t0 f0)
  clear q0 t0 f0
  go_wp2_with fail
  go_loopw [17] (fun s17 wr => ∃ (k : Nat) (h : FH) (M : List FlD), k ≤ n ∧ s17 = .int .i64 k ∧ FN W1 wr g h 100 10 M ∧ M.length ≤ k ∧ M.length ≤ 60 ∧ f.t ∉ M.map FlD.t) (fun s17 _ => n - (RowKit.intOf s17).toNat)
  case atStart => exact ⟨0, h, [], Nat.zero_le _, rfl, N0.out, Nat.le_refl _, by decide, by simp⟩
  case round =>
    obtain ⟨k, h, M, hkn, rfl, hq, hl1, hl2, hnf⟩ := hrel
    have HQ := Lib.hid hq
    have HNF := Lib.hid hnf
    clear hq hnf N0
    by_cases hlt : k < n
    case neg =>
      obtain rfl : n = k := by omega
      have HA := Lib.hid (fall_any wr g h 100 10 M HQ.out.q)
      go_wp2_with fail
      (with_reducible refine HA.out.mono ?_)
      rintro e w3 ⟨a1, c1, L1, rfl, hp1, hs1, ho1, t3⟩
      have n3 := HQ.out.still t3
      obtain ⟨y0, y1, y2, y3, y4, y5, y6, y7⟩ := fcells_of (HBF.out w3 n3.t)
      have HN3 := Lib.hid n3
      have HL1 := Lib.hid (And.intro hp1 hs1)
      have HNX : RowKit.Hid (∀ x, (Value.slice a1 L1.length c1).ownBlock = some x → ¬ footF g h x ∧ x < w3.heap.size) := Lib.hid (fun x hx => ⟨fun hf => by have h5 := (ho1.own.lt x hx).1; have h6 := HQ.out.q.footlt x hf; omega, (ho1.own.lt x hx).2⟩)
      have HO1 := Lib.hid ho1
      obtain ⟨o, er, hpe, heo, hall⟩ := apart_all (now := now) HNF.out HQ.out.q.map.nd (by omega)
      have HPU := Lib.hid (fput_any w3 g h 100 10 M n3.q f HF.out.t)
      rw [hpe] at HPU
      have HALL := Lib.hid hall
      simp only [fca] at HPU
      clear n3 hp1 hs1 ho1 t3 hpe hall
      go_wp2_with fail
      (with_reducible refine HPU.out.mono ?_)
      rintro e w4 ⟨rfl, s4⟩
      obtain ⟨h4, M4, p4, n4, f4, t4⟩ := HN3.out.step s4
      have HO4 := Lib.hid (HO1.out.touch t4 (fun x hx => (HNX.out x hx).1))
      have HNX4 : RowKit.Hid (∀ x, (Value.slice a1 L1.length c1).ownBlock = some x → ¬ footF g h4 x ∧ x < w4.heap.size) := Lib.hid (fun x hx => ⟨fun hf => (f4 x hf).elim (HNX.out x hx).1 (fun h5 => by have := (HNX.out x hx).2; omega), Nat.lt_of_lt_of_le (HNX.out x hx).2 t4.size⟩)
      have HP4 := Lib.hid p4
      have HN4 := Lib.hid n4
      have HTC := Lib.hid (ftouch_any w4 g h4 100 10 M4 n4.q f.t HF.out.t now)
      simp only [tcs] at HTC
      clear y0 y1 y2 y3 y4 y5 y6 y7
      obtain ⟨y0, y1, y2, y3, y4, y5, y6, y7⟩ := fcells_of (HBF.out w4 n4.t)
      clear s4 p4 n4 f4 t4 HNX
      go_wp2_with fail
      (with_reducible refine HTC.out.mono ?_)
      rintro e w5 ⟨rfl, s5⟩
      obtain ⟨h5, M5, p5, n5, f5, t5⟩ := HN4.out.step s5
      have HO5 := Lib.hid (HO4.out.touch t5 (fun x hx => (HNX4.out x hx).1))
      have HNX5 : RowKit.Hid (∀ x, (Value.slice a1 L1.length c1).ownBlock = some x → ¬ footF g h5 x ∧ x < w5.heap.size) := Lib.hid (fun x hx => ⟨fun hf => (f5 x hf).elim (HNX4.out x hx).1 (fun h6 => by have := (HNX4.out x hx).2; omega), Nat.lt_of_lt_of_le (HNX4.out x hx).2 t5.size⟩)
      obtain ⟨hh5, hd5⟩ := HALL.out M4 HP4.out M5 p5
      have HD5 := Lib.hid hd5
      have HN5 := Lib.hid n5
      have hdr := fdrop_any w5 g h5 100 10 M5 n5.q f.t HF.out.t
      rw [hh5] at hdr
      have HDR := Lib.hid hdr
      simp only [tcs] at HDR
      clear y0 y1 y2 y3 y4 y5 y6 y7
      obtain ⟨y0, y1, y2, y3, y4, y5, y6, y7⟩ := fcells_of (HBF.out w5 n5.t)
      clear s5 p5 n5 f5 t5 hh5 hd5 hdr HNX4
      go_wp2_with fail
      (with_reducible refine HDR.out.mono ?_)
      rintro e w6 ⟨rfl, s6⟩
      obtain ⟨h6, M6, p6, n6, f6, t6⟩ := HN5.out.step s6
      have HO6 := Lib.hid (HO5.out.touch t6 (fun x hx => (HNX5.out x hx).1))
      have hp6 := p6.trans HD5.out
      have HNF6 : RowKit.Hid (f.t ∉ M6.map FlD.t) := Lib.hid (fun h9 => HNF.out ((hp6.map FlD.t).mem_iff.1 h9))
      have HP6 := Lib.hid hp6
      have HN6 := Lib.hid n6
      have HA6 := Lib.hid (fall_any w6 g h6 100 10 M6 n6.q)
      clear y0 y1 y2 y3 y4 y5 y6 y7
      clear s6 p6 n6 f6 t6 hp6 HNX5
      go_wp2_with fail
      (with_reducible refine HA6.out.mono ?_)
      rintro e w7 ⟨a7, c7, L7, rfl, hp7, hs7, ho7, t7⟩
      have n7 := HN6.out.still t7
      obtain ⟨y0, y1, y2, y3, y4, y5, y6, y7⟩ := fcells_of (HBF.out w7 n7.t)
      obtain rfl : L7 = L1 := strict_ext (hp7.trans (HP6.out.trans HL1.out.1.symm)) hs7 HL1.out.2
      have hlen : L7.length ≤ 60 := by rw [HL1.out.1.length_eq]; exact hl2
      have HSM := Lib.hid (samefl_any w7 a7 a1 L7.length c7 c1 L7 ho7.row'.2.1 (HO6.out.still t7).row'.2.1 (by omega))
      have HN7 := Lib.hid n7
      clear n7 hp7 hs7 ho7 t7
      go_wp2_with fail
      (with_reducible refine HSM.out.mono ?_)
      rintro e w8 ⟨rfl, t8⟩
      have n8 := HN7.out.still t8
      have hdr8 := fdrop_any w8 g h6 100 10 M6 n8.q f.t HF.out.t
      rw [show hasF M6 f.t = false by rw [Bool.eq_false_iff]; exact fun h9 => HNF6.out ((hasF_iff _ _).1 h9)] at hdr8
      have HDR8 := Lib.hid hdr8
      simp only [tcs] at HDR8
      have HN8 := Lib.hid n8
      clear y0 y1 y2 y3 y4 y5 y6 y7
      obtain ⟨y0, y1, y2, y3, y4, y5, y6, y7⟩ := fcells_of (HBF.out w8 n8.t)
      clear n8 t8 hdr8
      go_wp2_with fail
      (with_reducible refine HDR8.out.mono ?_)
      rintro e w9 ⟨rfl, s9⟩
      obtain ⟨h9, M9, p9, n9, f9, t9⟩ := HN8.out.step s9
      have HT9 := Lib.hid n9.t
      clear s9 p9 n9 f9 t9
      go_wp2_with fail
      refine (awake11 w9).mono ?_
      rintro e w10 ⟨rfl, t10⟩
      have HT10 := Lib.hid ((HT1.out.trans HT9.out (fun _ _ h => h)).trans t10 (fun _ _ h => h))
      clear t10
      go_wp2_with fail
      go_ret
      exact ⟨rfl, HT10.out.below (fun _ _ h => h.elim) (Nat.le_refl _)⟩
    case pos =>
      have HRX := Lib.hid (HR.out.still (HT1.out.trans HQ.out.t (fun _ _ h => h)))
      obtain ⟨gr, off, rfl⟩ := HRX.out.some (by omega)
      obtain ⟨d0, d1, d2, d3, d4, d5, d6, d7⟩ := flow_cells HRX.out k (by omega)
      have hfok := HOK.out _ (gf_mem l k (by omega))
      generalize gf l k = x at *
      obtain ⟨W2, hW2⟩ : ∃ W, wr.alloc (.cells (fca x) 26) = W := ⟨_, rfl⟩
      have t2 : Touch wr W2 (fun _ => False) := hW2 ▸ (Touch.refl wr _).alloc _
      have g2 : W2.heap[wr.heap.size]? = some (.cells (fca x) 26 (0, 0)) := hW2 ▸ heap_alloc_new ..
      have HQ2 := Lib.hid (HQ.out.still t2)
      obtain ⟨x0, x1, x2, x3, x4, x5, x6, x7⟩ := fcells_of g2
      obtain ⟨y0, y1, y2, y3, y4, y5, y6, y7⟩ := fcells_of (HBF.out W2 HQ2.out.t)
      have HW2 := Lib.hid hW2
      have HXO := Lib.hid hfok
      have hlI : (k : Int) < n := by omega
      have HEND : RowKit.Hid (∀ W (M' : List FlD) h', FN W1 W g h' 100 10 M' → M'.length ≤ k + 1 → M'.length ≤ 60 → f.t ∉ M'.map FlD.t → ∃ (k' : Nat) (h : FH) (M : List FlD), k' ≤ n ∧ Value.int .i64 ((k : Int) + 1) = .int .i64 k' ∧ FN W1 W g h 100 10 M ∧ M.length ≤ k' ∧ M.length ≤ 60 ∧ f.t ∉ M.map FlD.t) := Lib.hid (fun W M' h' q hl hn hf => ⟨k + 1, h', M', by omega, by go_num, q, hl, hn, hf⟩)
      clear t2 g2 hW2 hfok
      simp only [fca] at HW2
      go_upto_region 5 with (fail)
      rw [HW2.out]
      clear d0 d1 d2 d3 d4 d5 d6 d7
      by_cases h60 : k < 60
      case neg =>
        have h60' : ¬ (k : Int) < 60 := by omega
        go_wp2_with fail
        go_roundw
        · exact HEND.out _ _ _ HQ2.out (by omega) hl2 HNF.out
        · simp only [RowKit.intOf]; omega
      case pos =>
        have h60' : (k : Int) < 60 := by omega
        by_cases hxt : x.t = f.t
        case pos =>
          rw [hxt] at x0 x1 x2 x3 x4
          go_wp2_with fail
          go_roundw
          · exact HEND.out _ _ _ HQ2.out (by omega) hl2 HNF.out
          · simp only [RowKit.intOf]; omega
        case neg =>
          have hne : ¬ (x.t.src = f.t.src ∧ x.t.dst = f.t.dst ∧ x.t.proto = f.t.proto ∧ x.t.sport = f.t.sport ∧ x.t.dport = f.t.dport) := fun e => hxt (by
            obtain ⟨⟨a1, a2, a3, a4, a5⟩, fb, fg, fs⟩ := x
            obtain ⟨⟨b1, b2, b3, b4, b5⟩, gb, gg, gs⟩ := f
            simp only at e
            obtain ⟨rfl, rfl, rfl, rfl, rfl⟩ := e
            rfl)
          have HPU := Lib.hid (fput_any W2 g h 100 10 M HQ2.out.q x HXO.out.1)
          have HXT := Lib.hid hxt
          go_cut [30] (fun s30 wx => s30 = .bool true ∧ wx = W2)
          case first =>
            go_wp2_with fail
            all_goals first
              | (go_meet; exact ⟨rfl, rfl⟩)
              | (exfalso; apply hne; simp_all)
          case rest =>
            obtain ⟨rfl, rfl⟩ := hcut
            simp only [fca] at HPU
            go_wp2_with (go_at_call 9; (with_reducible refine HPU.out.mono ?_); rintro e w5 ⟨rfl, s5⟩; obtain ⟨h5, M5, p5, n5, f5, t5⟩ := HQ2.out.step s5; have HN5 := Lib.hid n5; have HP5 := Lib.hid p5; clear s5 n5 f5 t5 p5)
            go_roundw
            · refine HEND.out _ _ _ HN5.out ?_ ?_ ?_
              · rw [HP5.out.length_eq]
                have := put_len HQ.out.q.map.nd 100 x
                omega
              · rw [HP5.out.length_eq]
                have := put_len HQ.out.q.map.nd 100 x
                omega
              · intro hm
                rcases put_mem 100 x ((HP5.out.map FlD.t).mem_iff.1 hm) with h9 | h9
                · exact HXT.out h9.symm
                · exact HNF.out h9
            · simp only [RowKit.intOf]; omega
theorem flowsApart_holds : Rows.FlowsApartSaid := by
  refine flowsApart.said fun H enc W base v0 v1 v2 d0 d1 d2 p0 p1 p2 h0 h1 h2 => ?_
  obtain ⟨a, cap, l, rfl, hr, hok⟩ := h0.flowsF
  obtain ⟨f, rfl, of⟩ := h1.flD
  obtain ⟨n, rfl, hn1, hn2, _⟩ := h2.i64 Try.underlying2
  exact apart11_walk W a cap l hr hok f of n ⟨hn1, hn2⟩
end Go.Proofs.Ytgmimdnebgncoaa
