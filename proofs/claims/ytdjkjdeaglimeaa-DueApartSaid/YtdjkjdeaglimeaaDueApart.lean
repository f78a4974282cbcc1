/- DueApart answers true for any calls, any key and any time. -/
import Derived.Test.YtdjkjdeaglimeaaDueTwo
import Derived.Test.YtdjkjdeaglimeaaFrDueApart
set_option linter.unusedVariables false
set_option linter.unusedSimpArgs false
namespace Go.Proofs.Ytdjkjdeaglimeaa
open Go.RowKit

theorem set_ok (L : List QR) (k : ByteArray) (t : Int) (h0 : 0 ≤ t) (h1 : t ≤ 1099511627776) (hl : L.length < 1024) : setE L k t = 0 := by
  unfold setE
  rw [if_neg (by omega)]
  split
  · rfl
  · rw [if_neg (by omega)]
theorem set_key (L : List QR) (k key : ByteArray) (t : Int) (hne : k ≠ key) (h : key ∉ L.map QR.key) : key ∉ (setQ L k t).map QR.key := by
  unfold setQ
  split
  · intro hm
    have h2 := ((ins_perm ⟨k, t⟩ (delQ L k)).map QR.key).mem_iff.1 hm
    simp only [List.map_cons, List.mem_cons] at h2
    rcases h2 with h2 | h2
    · exact hne h2.symm
    · obtain ⟨r, hr, e⟩ := List.mem_map.1 h2
      exact h (List.mem_map.2 ⟨r, (List.mem_filter.1 hr).1, e⟩)
  · exact h
theorem modw (t : Int) (m : Int) (h0 : 0 < m) (h1 : m ≤ 1000) : 0 ≤ wrap64 ((IntKind.u64.wrap t).tmod m) ∧ wrap64 ((IntKind.u64.wrap t).tmod m) < m := by
  have hu : 0 ≤ IntKind.u64.wrap t := by simp only [IntKind.wrap_u64]; omega
  have h2 : (IntKind.u64.wrap t).tmod m = (IntKind.u64.wrap t) % m := Int.tmod_eq_emod_of_nonneg hu
  have h3 := Int.emod_nonneg (IntKind.u64.wrap t) (show m ≠ 0 by omega)
  have h4 := Int.emod_lt_of_pos (IntKind.u64.wrap t) h0
  rw [h2]
  generalize (IntKind.u64.wrap t) % m = x at *
  have : wrap64 x = x := by unfold wrap64; omega
  omega
set_option maxRecDepth 20000 in
set_option maxHeartbeats 16000000 in
theorem apart_walk (w : World) (a : Option Addr) (cap : Nat) (l : List CallQ) (hr : RowS w a l.length cap 3 (l.map CallQ.cells)) (hok : ∀ c ∈ l, CallOk c) (key : ByteArray) (hk : key.size ≤ 281474976710656) (t : Int) :
    Calls Try.prog 7 #[.slice a l.length cap, .string key, .int .i64 t] w fun e w' => e = .returned (.bool true) ∧ Below w.heap.size w w' := by
  obtain ⟨n, hn⟩ : ∃ n, l.length = n := ⟨_, rfl⟩
  rw [hn] at hr ⊢
  have hcap := hr.hcap
  have hmax := hr.hmax
  have HR := Lib.hid hr
  have HOK := Lib.hid hok
  clear hr hok
  go_enter Try.func7, Try.ntmps7
  go_wp2_with fail
  refine (qnew_any w).mono ?_
  rintro e w0 ⟨rfl, q0, t0, f0⟩
  have N0 := Lib.hid (QN.new (Touch.refl w _) q0 t0 f0)
  clear q0 t0 f0
  generalize w.heap.size = b1 at *
  go_wp2_with fail
  refine (qnew_any w0).mono ?_
  rintro e w1 ⟨rfl, q1, t1, f1⟩
  have N1 := Lib.hid (Q2.new N0.out q1 t1 f1)
  clear q1 t1 f1 N0
  generalize w0.heap.size = b2 at *
  obtain ⟨M, hM⟩ : ∃ M, wrap64 ((IntKind.u64.wrap t).tmod 1000) = M := ⟨_, rfl⟩
  have hM01 := modw t 1000 (by omega) (by omega)
  rw [hM] at hM01
  obtain ⟨hM0, hM1⟩ := hM01
  have HM := Lib.hid hM
  clear hM
  go_wp2_with fail
  rw [HM.out]
  clear HM
  go_loopw [23] (fun s23 wr => ∃ (k : Nat) (L : List QR) (hp hq : QH), k ≤ n ∧ k ≤ 60 ∧ s23 = .int .i64 k ∧ Q2 w wr b1 hp L b2 hq L ∧ L.length ≤ k ∧ key ∉ L.map QR.key) (fun s23 _ => n - (intOf s23).toNat)
  case atStart => exact ⟨0, [], _, _, Nat.zero_le _, by omega, rfl, N1.out, Nat.le_refl _, by simp⟩
  case round =>
    obtain ⟨k, L, hp, hq, hkn, hk60, rfl, hq2, hLk, hky⟩ := hrel
    have HQX := Lib.hid hq2
    have HKX := Lib.hid hky
    clear hq2 hky N1
    by_cases hlt : k < n
    case neg =>
      obtain rfl : n = k := by omega
      go_upto_region 11 with (fail)
      have HP1 := Lib.hid (qset_any wr b1 _ _ HQX.out.p.q key hk M)
      have e1 : setE L key M = 0 := set_ok L key M hM0 (by omega) (by omega)
      have e2 : setQ L key M = insQ ⟨key, M⟩ L := by unfold setQ; rw [if_pos e1, del_none HKX.out]
      rw [e1, e2] at HP1
      clear e1 e2
      go_wp2_with fail
      refine HP1.out.mono ?_
      rintro e x1 ⟨rfl, s1⟩
      obtain ⟨hp1, n1, -⟩ := HQX.out.stepP s1
      have HA1 := Lib.hid (qat_any x1 b1 _ _ n1.p.q key hk)
      have HD1 := Lib.hid (qdrop_any x1 b1 _ _ n1.p.q key hk)
      have hh1 : hasQ (insQ ⟨key, M⟩ L) key = true := (has_iff _ _).2 ((ins_perm _ L).map _ |>.mem_iff.2 (by simp))
      have ht1 : timeQ (insQ ⟨key, M⟩ L) key = M := time_of (r := ⟨key, M⟩) n1.p.q.nd ((ins_perm _ L).mem_iff.2 (by simp))
      have hd1 : delQ (insQ ⟨key, M⟩ L) key = L := del_ins ⟨key, M⟩ L HKX.out
      rw [hh1, ht1] at HA1
      rw [hh1, hd1] at HD1
      have N1 := Lib.hid n1
      clear s1 n1 hh1 ht1 hd1
      go_wp2_with fail
      refine HA1.out.mono ?_
      rintro e w' ⟨rfl, rfl⟩
      go_wp2_with fail
      refine HD1.out.mono ?_
      rintro e x2 ⟨rfl, s2⟩
      obtain ⟨hp2, n2, -⟩ := N1.out.stepP s2
      have hh2 : hasQ L key = false := by rw [Bool.eq_false_iff]; intro h; exact HKX.out ((has_iff _ _).1 h)
      have HD2 := Lib.hid (qdrop_any x2 b1 _ _ n2.p.q key hk)
      rw [hh2, del_none HKX.out] at HD2
      have N2 := Lib.hid n2
      have HH2 := Lib.hid hh2
      clear s2 n2 hh2
      go_wp2_with fail
      refine HD2.out.mono ?_
      rintro e x3 ⟨rfl, s3⟩
      obtain ⟨hp3, n3, -⟩ := N2.out.stepP s3
      have HA3 := Lib.hid (qat_any x3 b1 _ _ n3.p.q key hk)
      rw [HH2.out, time_none HH2.out] at HA3
      have HL3 := Lib.hid (qlen_any x3 b1 _ _ n3.p.q)
      have HL4 := Lib.hid (qlen_any x3 b2 _ _ n3.q.q)
      have hda := due_all (L := L) (now := 2199023255552) (fun r hr => by have := n3.p.q.ok r hr; omega)
      have HU3 := Lib.hid (qdue_any x3 b1 _ _ n3.p.q 2199023255552)
      rw [hda.1, hda.2] at HU3
      have N3 := Lib.hid n3
      have HDA := Lib.hid hda
      clear s3 n3 hda
      go_wp2_with fail
      refine HA3.out.mono ?_
      rintro e w' ⟨rfl, rfl⟩
      go_wp2_with fail
      refine HL3.out.mono ?_
      rintro e w' ⟨rfl, rfl⟩
      go_wp2_with fail
      refine HL4.out.mono ?_
      rintro e w' ⟨rfl, rfl⟩
      go_wp2_with fail
      refine HU3.out.mono ?_
      rintro e x4 ⟨v4, rfl, s4⟩
      obtain ⟨a4, c4, hp4, rfl, ho4, hd4, n4, t4⟩ := N3.out.dueP s4
      have HU4 := Lib.hid (qdue_any x4 b2 _ _ n4.q.q 2199023255552)
      rw [HDA.out.1, HDA.out.2] at HU4
      have N4 := Lib.hid n4
      have HO4 := Lib.hid ho4
      have HB4 := Lib.hid hd4
      clear s4 n4 ho4 hd4 t4
      go_wp2_with fail
      refine HU4.out.mono ?_
      rintro e x5 ⟨v5, rfl, s5⟩
      obtain ⟨a5, c5, hq5, rfl, ho5, hd5, n5, t5⟩ := N4.out.dueQ' s5
      have hr4 : RowS x5 a4 L.length c4 1 (kcells L) := by
        obtain ⟨_, hr, _⟩ := HO4.out.row'
        exact hr.touch t5 (fun x hx => .inr (HB4.out x hx).2)
      have hr5 : RowS x5 a5 L.length c5 1 (kcells L) := ho5.row'.2.1
      have HSM := Lib.hid (same_any x5 a4 a5 _ c4 _ c5 L L hr4 hr5 rfl rfl (by omega) (by omega))
      have N5 := Lib.hid n5
      rw [decide_eq_true rfl] at HSM
      clear s5 n5 ho5 hd5 t5 hr4 hr5
      go_wp2_with fail
      refine HSM.out.mono ?_
      rintro e x6 ⟨rfl, t6⟩
      have HT6 := Lib.hid (N5.out.p.t.trans t6 (fun _ _ h => h))
      clear t6
      go_wp2_with fail
      refine (awake10 x6).mono ?_
      rintro e x7 ⟨rfl, t7⟩
      have HT7 := Lib.hid (HT6.out.trans t7 (fun _ _ h => h))
      clear t7
      go_wp2_with fail
      go_ret
      exact ⟨rfl, HT7.out.below (fun _ _ h => h.elim) (Nat.le_refl _)⟩
    case pos =>
      have HRX := Lib.hid (HR.out.still HQX.out.p.t)
      obtain ⟨g, off, rfl⟩ := HRX.out.some (by omega)
      obtain ⟨d0, d1, d2⟩ := call_cells HRX.out k (by omega)
      obtain ⟨ok1, ok2, ok3⟩ := HOK.out _ (gc_mem l k (by omega))
      generalize gc l k = cc at *
      obtain ⟨W2, hW2⟩ : ∃ W, wr.alloc (.cells #[.int .i64 cc.do_, .string cc.key, .int .i64 cc.at_] 30) = W := ⟨_, rfl⟩
      have t2 : Touch wr W2 (fun _ => False) := hW2 ▸ (Touch.refl wr _).alloc _
      have g2 : W2.heap[wr.heap.size]? = some (.cells #[.int .i64 cc.do_, .string cc.key, .int .i64 cc.at_] 30 (0, 0)) := hW2 ▸ heap_alloc_new ..
      have HQ2 := Lib.hid (HQX.out.still t2)
      have HG2 := Lib.hid g2
      have HW2 := Lib.hid hW2
      have hlI : (k : Int) < n := by omega
      clear t2 g2 hW2
      by_cases h60 : k < 60
      case neg =>
        have h60' : (60 : Int) ≤ k := by omega
        have HQX := HQ2
        go_upto_region 6 with (fail)
        rw [HW2.out]
        clear d0 d1 d2
        go_upto_region 11 with (fail)
        have HP1 := Lib.hid (qset_any W2 b1 _ _ HQX.out.p.q key hk M)
        have e1 : setE L key M = 0 := set_ok L key M hM0 (by omega) (by omega)
        have e2 : setQ L key M = insQ ⟨key, M⟩ L := by unfold setQ; rw [if_pos e1, del_none HKX.out]
        rw [e1, e2] at HP1
        clear e1 e2
        go_wp2_with fail
        refine HP1.out.mono ?_
        rintro e x1 ⟨rfl, s1⟩
        obtain ⟨hp1, n1, -⟩ := HQX.out.stepP s1
        have HA1 := Lib.hid (qat_any x1 b1 _ _ n1.p.q key hk)
        have HD1 := Lib.hid (qdrop_any x1 b1 _ _ n1.p.q key hk)
        have hh1 : hasQ (insQ ⟨key, M⟩ L) key = true := (has_iff _ _).2 ((ins_perm _ L).map _ |>.mem_iff.2 (by simp))
        have ht1 : timeQ (insQ ⟨key, M⟩ L) key = M := time_of (r := ⟨key, M⟩) n1.p.q.nd ((ins_perm _ L).mem_iff.2 (by simp))
        have hd1 : delQ (insQ ⟨key, M⟩ L) key = L := del_ins ⟨key, M⟩ L HKX.out
        rw [hh1, ht1] at HA1
        rw [hh1, hd1] at HD1
        have N1 := Lib.hid n1
        clear s1 n1 hh1 ht1 hd1
        go_wp2_with fail
        refine HA1.out.mono ?_
        rintro e w' ⟨rfl, rfl⟩
        go_wp2_with fail
        refine HD1.out.mono ?_
        rintro e x2 ⟨rfl, s2⟩
        obtain ⟨hp2, n2, -⟩ := N1.out.stepP s2
        have hh2 : hasQ L key = false := by rw [Bool.eq_false_iff]; intro h; exact HKX.out ((has_iff _ _).1 h)
        have HD2 := Lib.hid (qdrop_any x2 b1 _ _ n2.p.q key hk)
        rw [hh2, del_none HKX.out] at HD2
        have N2 := Lib.hid n2
        have HH2 := Lib.hid hh2
        clear s2 n2 hh2
        go_wp2_with fail
        refine HD2.out.mono ?_
        rintro e x3 ⟨rfl, s3⟩
        obtain ⟨hp3, n3, -⟩ := N2.out.stepP s3
        have HA3 := Lib.hid (qat_any x3 b1 _ _ n3.p.q key hk)
        rw [HH2.out, time_none HH2.out] at HA3
        have HL3 := Lib.hid (qlen_any x3 b1 _ _ n3.p.q)
        have HL4 := Lib.hid (qlen_any x3 b2 _ _ n3.q.q)
        have hda := due_all (L := L) (now := 2199023255552) (fun r hr => by have := n3.p.q.ok r hr; omega)
        have HU3 := Lib.hid (qdue_any x3 b1 _ _ n3.p.q 2199023255552)
        rw [hda.1, hda.2] at HU3
        have N3 := Lib.hid n3
        have HDA := Lib.hid hda
        clear s3 n3 hda
        go_wp2_with fail
        refine HA3.out.mono ?_
        rintro e w' ⟨rfl, rfl⟩
        go_wp2_with fail
        refine HL3.out.mono ?_
        rintro e w' ⟨rfl, rfl⟩
        go_wp2_with fail
        refine HL4.out.mono ?_
        rintro e w' ⟨rfl, rfl⟩
        go_wp2_with fail
        refine HU3.out.mono ?_
        rintro e x4 ⟨v4, rfl, s4⟩
        obtain ⟨a4, c4, hp4, rfl, ho4, hd4, n4, t4⟩ := N3.out.dueP s4
        have HU4 := Lib.hid (qdue_any x4 b2 _ _ n4.q.q 2199023255552)
        rw [HDA.out.1, HDA.out.2] at HU4
        have N4 := Lib.hid n4
        have HO4 := Lib.hid ho4
        have HB4 := Lib.hid hd4
        clear s4 n4 ho4 hd4 t4
        go_wp2_with fail
        refine HU4.out.mono ?_
        rintro e x5 ⟨v5, rfl, s5⟩
        obtain ⟨a5, c5, hq5, rfl, ho5, hd5, n5, t5⟩ := N4.out.dueQ' s5
        have hr4 : RowS x5 a4 L.length c4 1 (kcells L) := by
          obtain ⟨_, hr, _⟩ := HO4.out.row'
          exact hr.touch t5 (fun x hx => .inr (HB4.out x hx).2)
        have hr5 : RowS x5 a5 L.length c5 1 (kcells L) := ho5.row'.2.1
        have HSM := Lib.hid (same_any x5 a4 a5 _ c4 _ c5 L L hr4 hr5 rfl rfl (by omega) (by omega))
        have N5 := Lib.hid n5
        rw [decide_eq_true rfl] at HSM
        clear s5 n5 ho5 hd5 t5 hr4 hr5
        go_wp2_with fail
        refine HSM.out.mono ?_
        rintro e x6 ⟨rfl, t6⟩
        have HT6 := Lib.hid (N5.out.p.t.trans t6 (fun _ _ h => h))
        clear t6
        go_wp2_with fail
        refine (awake10 x6).mono ?_
        rintro e x7 ⟨rfl, t7⟩
        have HT7 := Lib.hid (HT6.out.trans t7 (fun _ _ h => h))
        clear t7
        go_wp2_with fail
        go_ret
        exact ⟨rfl, HT7.out.below (fun _ _ h => h.elim) (Nat.le_refl _)⟩
      case pos =>
        have h60' : ¬ (60 : Int) ≤ k := by omega
        have HEND : RowKit.Hid (∀ W (L' : List QR) hp' hq', Q2 w W b1 hp' L' b2 hq' L' → L'.length ≤ L.length + 1 → key ∉ L'.map QR.key → ∃ (k' : Nat) (L'' : List QR) (hp'' hq'' : QH), k' ≤ n ∧ k' ≤ 60 ∧ Value.int .i64 ((k : Int) + 1) = .int .i64 k' ∧ Q2 w W b1 hp'' L'' b2 hq'' L'' ∧ L''.length ≤ k' ∧ key ∉ L''.map QR.key) := Lib.hid (fun W L' hp' hq' q hl hn => ⟨k + 1, L', hp', hq', by omega, by omega, by go_num, q, by omega, hn⟩)
        have c0 := cell_of_cells HG2.out 0
        have c1 := cell_of_cells HG2.out 1
        have c2 := cell_of_cells HG2.out 2
        have c0 : W2.cell? ⟨wr.heap.size, 0, none⟩ = some (.int .i64 cc.do_) := c0
        have c1 : W2.cell? ⟨wr.heap.size, 1, none⟩ = some (.string cc.key) := c1
        have c2 : W2.cell? ⟨wr.heap.size, 2, none⟩ = some (.int .i64 cc.at_) := c2
        go_upto_region 6 with (fail)
        rw [HW2.out]
        clear d0 d1 d2
        by_cases hd : cc.do_ = 0
        case neg =>
          go_wp2_with fail
          go_roundw
          · exact HEND.out _ _ _ _ HQ2.out (by omega) HKX.out
          · simp only [intOf]; omega
        case pos =>
          rw [hd] at c0
          by_cases hke : cc.key = key
          case pos =>
            rw [hke] at c1
            go_wp2_with fail
            go_roundw
            · exact HEND.out _ _ _ _ HQ2.out (by omega) HKX.out
            · simp only [intOf]; omega
          case neg =>
            have hkq : (cc.key.toList == key.toList) = false := by rw [beq_eq_false_iff_ne]; intro e; exact hke (toList_inj e)
            have HS1 := Lib.hid (qset_any W2 b1 _ _ HQ2.out.p.q cc.key ok1 cc.at_)
            go_wp2_with fail
            refine HS1.out.mono ?_
            rintro e x1 ⟨rfl, s1⟩
            obtain ⟨hp1, n1, t1⟩ := HQ2.out.stepP s1
            have g1 := t1.keeps HG2.out (fun hf => by have := HQX.out.p.q.footlt _ hf; omega)
            have e1 : x1.cell? ⟨wr.heap.size, 1, none⟩ = some (.string cc.key) := cell_of_cells g1 1
            have e2 : x1.cell? ⟨wr.heap.size, 2, none⟩ = some (.int .i64 cc.at_) := cell_of_cells g1 2
            have HS2 := Lib.hid (qset_any x1 b2 _ _ n1.q.q cc.key ok1 cc.at_)
            have N1 := Lib.hid n1
            clear s1 n1 t1 g1 c0 c1 c2
            go_wp2_with fail
            refine HS2.out.mono ?_
            rintro e x2 ⟨rfl, s2⟩
            obtain ⟨hq2, n2, -⟩ := N1.out.stepQ s2
            have HX := Lib.hid (HEND.out _ _ _ _ n2 (set_length L cc.key cc.at_) (set_key L cc.key key cc.at_ hke HKX.out))
            clear s2 n2
            go_wp2_with fail
            go_roundw
            · exact HX.out
            · simp only [intOf]; omega
theorem dueApart_holds : Rows.DueApartSaid := by
  refine dueApart.said fun H enc W base v0 v1 v2 d0 d1 d2 p0 p1 p2 h0 h1 h2 => ?_
  obtain ⟨a, cap, l, rfl, hr, hok⟩ := h0.callsQ
  obtain ⟨key, rfl, hk⟩ := h1.text Try.underlying9
  obtain ⟨t, rfl, _⟩ := h2.i64 Try.underlying2
  exact apart_walk W a cap l hr hok key hk t
end Go.Proofs.Ytdjkjdeaglimeaa
