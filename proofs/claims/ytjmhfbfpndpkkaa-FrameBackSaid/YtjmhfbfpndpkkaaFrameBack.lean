/- FrameBack answers true for any frames and any number: what is put is scanned, frame by frame; of a beginning those that are whole. No condition. -/
import Derived.Test.YtjmhfbfpndpkkaaFrmThree
import Derived.Test.YtjmhfbfpndpkkaaFrFrameBack
set_option linter.unusedVariables false
namespace Go.Proofs.Ytjmhfbfpndpkkaa
open Go.RowKit

/-- At the head of its second loop. -/
def CutAt (es : List Nat) (j : Nat) (i : Value) : Prop := ∃ k : Nat, k ≤ es.length ∧ i = .int .i64 k ∧ ∀ q (h : q < es.length), q < k → es[q] ≤ j
/-- At the head of its first loop. -/
def BackAt (w : World) (fs : List FrD) (s r e i : Value) (wr : World) : Prop :=
  ∃ (k n : Nat) (a : Option Addr) (c : Nat) (ar : Option Addr) (cr : Nat) (ae : Option Addr) (ce : Nat) (es : List Nat), k ≤ fs.length ∧ i = .int .i64 k ∧
    s = .slice a n c ∧ n = (putsF ((goodsF (fs.take k)).map FrD.val)).length ∧ r = .slice ar (goodsF (fs.take k)).length cr ∧ e = .slice ae (goodsF (fs.take k)).length ce ∧
    Three wr w.heap.size (.slice a n c) (putsF ((goodsF (fs.take k)).map FrD.val)) (.slice ar (goodsF (fs.take k)).length cr) (goodsF (fs.take k)) (.slice ae (goodsF (fs.take k)).length ce) es ∧
    es.length = (goodsF (fs.take k)).length ∧ (∀ j (h : j < es.length), es[j] = endOfF (goodsF (fs.take k)) j) ∧ Touch w wr (fun _ => False)

set_option maxRecDepth 20000 in
set_option maxHeartbeats 8000000 in
theorem back_walk (a : Option Addr) (len cap : Nat) (fs : List FrD) (cut : Int) (w : World) (hr : RowF w a len cap fs) (hc1 : -9223372036854775808 ≤ cut) (hc2 : cut ≤ 9223372036854775807) :
    Calls Try.prog 7 #[.slice a len cap, .int .i64 cut] w fun e w' => e = .returned (.bool true) ∧ Touch w w' (fun _ => False) := by
  have hl := hr.hlen
  have hm := hr.hmax
  have hcp := hr.hcap
  have hold : ∀ f ∈ fs, ∀ x, f.a = some x → f.ys.length = 0 ∨ x.block < w.heap.size := fun f hf x hx => (hr.rows f hf).lt x hx
  have hsml : ∀ f ∈ fs, ∀ x ∈ f.ys, x < 256 := fun f hf => (hr.rows f hf).2.2.2.2.1
  have HR := Lib.hid hr
  have HL := Lib.hid hl
  have HIS := Lib.hid infoF
  have HOLD := Lib.hid hold
  have HSML := Lib.hid hsml
  clear hr hl hold hsml
  go_enter Try.func7, Try.ntmps7
  go_wp2_with fail
  go_loopw [5, 6, 7, 22] (fun s r e i wr => BackAt w fs s r e i wr) (fun _ _ _ i _ => len - (intOf i).toNat)
  case atStart => exact ⟨0, 0, none, 0, none, 0, none, 0, [], Nat.zero_le _, rfl, rfl, by simp [goodsF, putsF], by simp [goodsF], by simp [goodsF], by simpa [goodsF, putsF] using Three.empty _ _, by simp [goodsF], by simp, Touch.refl _ _⟩
  case round =>
    obtain ⟨k, n1, a1, c1, ar, cr, ae, ce, es, hk, rfl, rfl, hn, rfl, rfl, h3, hel, hes, ht⟩ := hrel
    have H3 := Lib.hid h3
    have HT := Lib.hid ht
    have HN := Lib.hid hn
    have HEL := Lib.hid hel
    have HES := Lib.hid hes
    have hgl := goodsF_length (fs.take k)
    have hgp := goodsF_puts (fs.take k)
    have hn4 : n1 ≤ 3792 := by omega
    have hes12 : es.length ≤ 12 := by omega
    have HNB : RowKit.Hid (∀ x, (Value.slice a1 n1 c1).ownBlock = some x → x < wr.heap.size) := Lib.hid (fun x hx => (H3.out.b.own.lt x hx).2)
    have HNR : RowKit.Hid (∀ x, (Value.slice ar (goodsF (fs.take k)).length cr).ownBlock = some x → x < wr.heap.size) := Lib.hid (fun x hx => (H3.out.r.own.lt x hx).2)
    clear h3 ht hn hel hes hgp
    rw [HL.out] at hk
    by_cases hlt : k < len
    case pos =>
      have hlt' : (k : Int) < len := by omega
      have hr := HR.out.still HT.out
      obtain ⟨b, off, rfl⟩ := hr.some (by omega)
      have hk1 : k < fs.length := by rw [HL.out]; exact hlt
      obtain ⟨c0, c1', c2⟩ := hr.cells k hk1
      have hrow := hr.rows fs[k] (List.getElem_mem hk1)
      have ho := HOLD.out fs[k] (List.getElem_mem hk1)
      have hst := goodsF_step fs k hk1
      generalize hfk : fs[k] = f at *
      have HST := Lib.hid hst
      have HROW := Lib.hid hrow
      have HOF := Lib.hid ho
      clear hr hrow hst ho hfk
      obtain ⟨fk, fv, fa, fc, fy⟩ := f
      simp only at c0 c1' c2
      have hgd : goodF ⟨fk, fv, fa, fc, fy⟩ = decide (fy.length ≤ 300 ∧ putE fk fv fy.length = 0) := rfl
      by_cases h12 : k < 12
      case neg =>
        have h12' : ¬ (k : Int) < 12 := by omega
        have h12'' : (12 : Int) ≤ k := by omega
        have T1 := Lib.hid ((Touch.refl wr (fun _ => False)).alloc (.cells #[.int .i64 fk, .int .i64 fv, .slice fa fy.length fc] 24))
        have HNX : RowKit.Hid (goodsF (fs.take (k + 1)) = goodsF (fs.take k)) := Lib.hid (by rw [HST.out, if_neg (fun h => h12 h.1)])
        clear hgd
        go_wp2
        refine ⟨⟨k + 1, n1, a1, c1, ar, cr, ae, ce, es, by rw [HL.out]; omega, by go_num, rfl, by rw [HNX.out]; exact HN.out, by rw [HNX.out], by rw [HNX.out], ?_, by rw [HNX.out]; exact HEL.out, ?_, HT.out.trans T1.out (fun _ _ h => h)⟩, by simp [intOf]; omega⟩
        · rw [HNX.out]; exact H3.out.still T1.out
        · rw [HNX.out]; exact HES.out
      case pos =>
      have h12' : (k : Int) < 12 := by omega
      have h12'' : ¬ (12 : Int) ≤ k := by omega
      by_cases h300 : fy.length ≤ 300
      case neg =>
        have h300' : (300 : Int) < fy.length := by omega
        have T1 := Lib.hid ((Touch.refl wr (fun _ => False)).alloc (.cells #[.int .i64 fk, .int .i64 fv, .slice fa fy.length fc] 24))
        have HNX : RowKit.Hid (goodsF (fs.take (k + 1)) = goodsF (fs.take k)) := Lib.hid (by rw [HST.out, hgd, if_neg (fun h => h300 (of_decide_eq_true h.2).1)])
        clear hgd
        go_wp2
        refine ⟨⟨k + 1, n1, a1, c1, ar, cr, ae, ce, es, by rw [HL.out]; omega, by go_num, rfl, by rw [HNX.out]; exact HN.out, by rw [HNX.out], by rw [HNX.out], ?_, by rw [HNX.out]; exact HEL.out, ?_, HT.out.trans T1.out (fun _ _ h => h)⟩, by simp [intOf]; omega⟩
        · rw [HNX.out]; exact H3.out.still T1.out
        · rw [HNX.out]; exact HES.out
      case pos =>
      have h300' : ¬ (300 : Int) < fy.length := by omega
      obtain ⟨W1, hW1⟩ : ∃ W, wr.alloc (.cells #[.int .i64 fk, .int .i64 fv, .slice fa fy.length fc] 24) = W := ⟨_, rfl⟩
      have t1 : Touch wr W1 (fun _ => False) := hW1 ▸ (Touch.refl _ _).alloc _
      have HG1 : RowKit.Hid (W1.heap[wr.heap.size]? = some (.cells (fcs fk fv fa fy.length fc) 24 (0, 0))) := Lib.hid (hW1 ▸ heap_alloc_new wr _)
      have HR1 := Lib.hid (HROW.out.touch t1 (fun _ _ => .inr (fun h => h)))
      have T1 := Lib.hid t1
      have HW1 := Lib.hid hW1
      have hE : putE fk fv fy.length ≤ 4 := by
        unfold putE
        by_cases h1 : fk < 0 ∨ 255 < fk ∨ fv < 0 ∨ 255 < fv
        · rw [if_pos h1]; omega
        · rw [if_neg h1]
          by_cases h2 : 4096 < fy.length
          · rw [if_pos h2]; omega
          · rw [if_neg h2]; omega
      clear t1 hW1
      go_wp2_with fail
      rw [HW1.out]
      (with_reducible refine (put_any _ _ _ _ _ _ _ HR1.out).mono ?_)
      rintro e w2 ⟨a4, c4, rfl, hf2⟩
      by_cases hE0 : putE fk fv fy.length = 0
      case neg =>
        have hb : ((putE fk fv fy.length : Int) != 0) = true := bne_iff_ne.2 (by omega)
        have T2 := Lib.hid (T1.out.trans hf2.2 (fun _ _ h => h))
        have HNX : RowKit.Hid (goodsF (fs.take (k + 1)) = goodsF (fs.take k)) := Lib.hid (by rw [HST.out, hgd, if_neg (fun h => hE0 (of_decide_eq_true h.2).2)])
        clear hf2 hgd hE0
        generalize putE fk fv fy.length = E at *
        go_wp2
        refine ⟨⟨k + 1, n1, a1, c1, ar, cr, ae, ce, es, by rw [HL.out]; omega, by go_num, rfl, by rw [HNX.out]; exact HN.out, by rw [HNX.out], by rw [HNX.out], ?_, by rw [HNX.out]; exact HEL.out, ?_, HT.out.trans T2.out (fun _ _ h => h)⟩, by simp [intOf]; omega⟩
        · rw [HNX.out]; exact H3.out.still T2.out
        · rw [HNX.out]; exact HES.out
      case pos =>
        have hb : ((putE fk fv fy.length : Int) != 0) = false := bne_eq_false_iff_eq.2 (by omega)
        have HNX : RowKit.Hid (goodsF (fs.take (k + 1)) = goodsF (fs.take k) ++ [⟨fk, fv, fa, fc, fy⟩]) := Lib.hid (by rw [HST.out, hgd, if_pos ⟨h12, decide_eq_true ⟨h300, hE0⟩⟩])
        have hP : putF fk fv fy = frmF fk fv fy := by unfold putF; rw [if_pos hE0]
        rw [hP] at hf2 ⊢
        have HPL := Lib.hid (frmF_length fk fv fy)
        have T2 := Lib.hid (T1.out.trans hf2.2 (fun _ _ h => h))
        have HG2 := Lib.hid (hf2.2.keeps HG1.out (fun h => h))
        have HRP := Lib.hid hf2.row'.2
        have H32 := Lib.hid (H3.out.still T2.out)
        have HT2 := Lib.hid (HT.out.trans T2.out (fun _ _ h => h))
        have HB2 := Lib.hid (HT2.out.under (Nat.le_refl w.heap.size))
        have HRB := Lib.hid (HROW.out.touch T2.out (fun _ _ => .inr (fun h => h)))
        have hfl : (frmF fk fv fy).length ≤ 316 := by rw [HPL.out]; omega
        obtain ⟨n2, hn2⟩ : ∃ n, n1 + (frmF fk fv fy).length = n := ⟨_, rfl⟩
        have HLN : RowKit.Hid ((putsF ((goodsF (fs.take k)).map FrD.val) ++ frmF fk fv fy).length = n2) := Lib.hid (by rw [List.length_append, ← HN.out]; exact hn2)
        have hn2l : n2 ≤ 5000 := by omega
        have HN2 := Lib.hid hn2
        have hwr2 : wr.heap.size < w2.heap.size := heap_lt HG2.out
        have HAPB : RowKit.Hid (∀ x, fa = some x → fy.length = 0 ∨ ¬ (Value.slice a1 n1 c1).ownBlock = some x.block) := Lib.hid (fun x hx => by
          rcases HOF.out x hx with h0 | h0
          · exact .inl h0
          · exact .inr (fun hb => by have := (H3.out.b.own.lt _ hb).1; have : x.block < w.heap.size := h0; omega))
        have HIF := Lib.hid infoFr
        have HII := Lib.hid infoI
        clear hf2 hP hgd hE hfl hn2
        generalize hGd : goodsF (fs.take k) = G at *
        have HGD := Lib.hid hGd
        clear hGd
        obtain ⟨g0, g1, g2⟩ := fcells_of HG2.out
        go_wp2_with (first
          | (at_builtin; have _u := H36; (with_reducible refine wp_appR HE36.out 32 Try.underlying32 _ 8 HII.out rfl (by decide) ⟨w6.heap.size, 0, none⟩ 1 1 _ rfl HQ6.out (by simp [Value.oneCell']) (by simp only [maxLen]; omega) (by omega) HB6.out (Nat.le_refl _) HB6.out.size rfl _ _ rfl rfl rfl ?_); intro a7 c7 w7 ho7 hg7 hb7 hp7; have HO7 := Lib.hid ho7; have HG7 := Lib.hid hg7; have HB7 := Lib.hid hb7; have HP7 := Lib.hid hp7; clear ho7 hg7 hb7 hp7)
          | (at_builtin; have _u := H35; (with_reducible refine wp_appR H35.out.r.own 31 Try.underlying31 _ 40 HIF.out rfl (by decide) ⟨w5.heap.size, 0, none⟩ 1 1 _ rfl HQ5.out (by simp [Value.oneCell']) (by simp only [maxLen]; omega) (by omega) HB5.out (Nat.le_refl _) HB5.out.size rfl _ _ rfl rfl rfl ?_); intro a6 c6 w6 ho6 hg6 hb6 hp6; have t6 := (Touch.refl w6 (fun _ => False)).alloc (.cells #[.int .i64 (n2 : Nat)] 3); have H36 := Lib.hid ((H35.out.addR (f := ⟨fk, fv, fa, fc, fy⟩) HRB5.out HOF.out ho6 hg6 hp6).still t6); have HB6 := Lib.hid (hb6.alloc hb6.size (.cells #[.int .i64 (n2 : Nat)] 3)); have HQ6 := Lib.hid (news_of (heap_alloc_new w6 (.cells #[.int .i64 (n2 : Nat)] 3))); have HE36 := Lib.hid (HEL.out ▸ H36.out.e); clear ho6 hg6 hb6 hp6 t6)
          | (at_builtin; (with_reducible refine wp_appB2 H32.out.b HRP.out HB2.out (Nat.le_refl _) HB2.out.size rfl _ _ rfl rfl rfl n2 _ rfl HLN.out (by omega) ?_); intro a5 c5 w5 ho5 hg5 hb5 hp5; have t5 := (Touch.refl w5 (fun _ => False)).alloc (.cells #[.int .i64 fk, .int .i64 fv, .slice fa fy.length fc] 24); have tg : Touch w2 w5 (fun k => (Value.slice a1 n1 c1).ownBlock = some k) := (Touch.refl _ _).grown hg5 (fun k hk _ => hk); have HG5 := Lib.hid (tg.keeps HG2.out (fun hk => (Nat.lt_irrefl _ (HNB.out _ hk)))); have H35 := Lib.hid ((H32.out.addB ho5 hg5 hp5).still t5); have HB5 := Lib.hid (hb5.alloc hb5.size (.cells #[.int .i64 fk, .int .i64 fv, .slice fa fy.length fc] 24)); have HQ5 := Lib.hid (news_of (heap_alloc_new w5 (.cells #[.int .i64 fk, .int .i64 fv, .slice fa fy.length fc] 24))); have HRB5 := Lib.hid ((HRB.out.touch tg HAPB.out).touch t5 (fun _ _ => .inr (fun h => h))); clear g0 g1 g2 ho5 hg5 hb5 hp5 t5 tg; obtain ⟨g0, g1, g2⟩ := fcells_of HG5.out))
        have H37 := Lib.hid (H36.out.addE (n := n2) HEL.out HO7.out HG7.out HP7.out)
        have HT7 := Lib.hid (Touch.ofBelow (S := fun _ => False) HB7.out (fun k h1 h2 => by omega))
        have eg : (G ++ [(⟨fk, fv, fa, fc, fy⟩ : FrD)]).length = G.length + 1 := by simp
        refine ⟨⟨k + 1, n2, a5, c5, a6, c6, a7, c7, es ++ [n2], by rw [HL.out]; omega, by go_num, rfl, ?_, ?_, ?_, ?_, ?_, ?_, HT7.out⟩, by simp [intOf]; omega⟩
        · rw [HNX.out, puts_step, HLN.out]
        · rw [HNX.out, eg]
        · rw [HNX.out, eg]
        · rw [HNX.out, eg, puts_step]; exact H37.out
        · rw [HNX.out, eg]; simp [HEL.out]
        · intro j hj
          rw [HNX.out]
          by_cases hj1 : j < es.length
          · rw [List.getElem_append_left hj1, endOfF_snoc _ _ _ (by rw [← HEL.out]; exact hj1)]; exact HES.out j hj1
          · have hj2 : j = es.length := by simp at hj; omega
            subst hj2
            rw [List.getElem_append_right (Nat.le_refl _)]
            have hq := endOfF_last G ⟨fk, fv, fa, fc, fy⟩
            rw [← HEL.out, ← HN.out, HN2.out] at hq
            simp [hq]
    case neg =>
      obtain rfl : len = k := by omega
      have hlt' : ¬ (len : Int) < len := by omega
      have htk : fs.take len = fs := List.take_of_length_le (by rw [HL.out]; exact Nat.le_refl _)
      have h3 := H3.out
      have hn := HN.out
      have hel := HEL.out
      have hes := HES.out
      rw [htk] at h3 hn hel hes hgl ⊢
      have hok := goods_ok fs HSML.out
      have HPT := Lib.hid (fun k n => scan_part (goodsF fs) hok k n)
      have HEA := Lib.hid (endOfF_all (goodsF fs))
      have hsc := scan_all _ hok
      rw [← hn] at hsc
      clear htk H3 HN HEL HES hok HSML HOLD HNB HNR
      generalize goodsF fs = G at *
      have H3 := Lib.hid h3
      have HN := Lib.hid hn
      have HES := Lib.hid hes
      have HEL := Lib.hid hel
      obtain ⟨hmb, hmc, hrb⟩ : n1 ≤ c1 ∧ c1 ≤ 9223372036854775807 ∧ RowB wr a1 n1 c1 (putsF (G.map FrD.val)) := by
        obtain ⟨a9, c9, hv9, hr9, _⟩ := h3.b.row
        rw [← hn] at hv9 hr9
        simp only [Value.slice.injEq, true_and] at hv9
        obtain ⟨rfl, rfl⟩ := hv9
        exact ⟨hr9.2.1, hr9.2.2.1, hr9⟩
      obtain ⟨hmr, hrr⟩ : G.length ≤ cr ∧ RowF wr ar G.length cr G := by
        obtain ⟨x9, y9, hv9, hr9, _⟩ := h3.r.row
        simp only [Value.slice.injEq, true_and] at hv9
        obtain ⟨rfl, rfl⟩ := hv9
        exact ⟨hr9.hcap, hr9⟩
      have HRB := Lib.hid hrb
      have HRR := Lib.hid hrr
      have HSC := Lib.hid hsc
      clear h3 hn hes hel hrb hrr hsc
      go_wp2_with fail
      (with_reducible refine (scan_any _ _ _ _ _ HRB.out (by omega)).mono ?_)
      rintro e w2 ⟨a2, c2, ps, rfl, hv2, ho2, t2⟩
      rw [HSC.out] at hv2 ⊢
      simp only at hv2
      have H3 := Lib.hid (H3.out.still t2)
      have HRB := Lib.hid (HRB.out.touch t2 (fun _ _ => .inr (fun h => h)))
      have HRR := Lib.hid (HRR.out.still t2)
      have HT := Lib.hid (HT.out.trans t2 (fun _ _ h => h))
      have HS : RowKit.Hid (sameFs (ps.map FrD.val) (G.map FrD.val) = true) := Lib.hid (by rw [hv2]; exact sameFs_same _)
      obtain ⟨x3, y3, hq3, hrow3, -⟩ := ho2.row
      simp only [Value.slice.injEq, true_and] at hq3
      obtain ⟨rfl, rfl⟩ := hq3
      have HRP := Lib.hid hrow3
      have hb1 : ((n1 : Int) != (n1 : Int)) = false := bne_eq_false_iff_eq.2 rfl
      clear t2 ho2 hv2 hrow3
      by_cases h0 : n1 = 0
      case pos =>
        subst h0
        go_wp2_with (first
          | (go_at_call 19; (with_reducible refine (rsames_any _ _ _ _ _ _ _ _ _ HRP.out HRR.out).mono ?_); rintro e w13 ⟨rfl, t13⟩; rw [HS.out]; have HT13 := Lib.hid (HT.out.trans t13 (fun _ _ h => h)); clear t13)
          | (go_at_call 12; (with_reducible refine (awake4 _).mono ?_); rintro e w14 ⟨rfl, t14⟩; have HT14 := Lib.hid (HT13.out.trans t14 (fun _ _ h => h)); clear t14))
        go_ret
        exact ⟨rfl, HT14.out⟩
      case neg =>
      have hb0 : ((n1 : Int) == 0) = false := beq_eq_false_iff_ne.2 (by omega)
      have h0p : 0 < n1 := by omega
      obtain ⟨j, hj⟩ : ∃ j, u64N cut % n1 = j := ⟨_, rfl⟩
      have hjl : j < n1 := by rw [← hj]; exact Nat.mod_lt _ h0p
      have hw := u64N_wrap cut
      have hul := u64N_lt cut
      have hmod : ((u64N cut : Nat) : Int).tmod (n1 : Int) = (j : Nat) := by
        rw [Int.tmod_eq_emod_of_nonneg (by omega), ← hj]; rfl
      clear hj
      go_wp2_with (first
        | (go_at_call 19; (with_reducible refine (rsames_any _ _ _ _ _ _ _ _ _ HRP.out HRR.out).mono ?_); rintro e w13 ⟨rfl, t13⟩; rw [HS.out]; have HT13 := Lib.hid (HT.out.trans t13 (fun _ _ h => h)); have H313 := Lib.hid (H3.out.still t13); have HRB13 := Lib.hid (HRB.out.touch t13 (fun _ _ => .inr (fun h => h))); have HRR13 := Lib.hid (HRR.out.still t13); clear t13))
      obtain ⟨hec1, hec2, hec3⟩ := H313.out.num HEL.out
      have hg0 : 0 < G.length := by
        rcases Nat.eq_zero_or_pos G.length with h | h
        · have : G = [] := List.length_eq_zero_iff.1 h
          subst this
          have := HN.out
          simp [putsF] at this; omega
        · exact h
      obtain ⟨ge, hae, hec⟩ : ∃ g, ae = some ⟨g, 0, none⟩ ∧ ∀ i (hi : i < es.length), w13.cell? ⟨g, i, none⟩ = some (.int .i64 (es[i] : Nat)) := by
        rcases hec3 with h | h
        · omega
        · exact h
      subst hae
      have HEC := Lib.hid hec
      clear hec hec3
      go_loop [15] (fun i => CutAt es j i) (fun i => es.length - (intOf i).toNat)
      case atStart => exact ⟨0, Nat.zero_le _, rfl, fun q h h2 => by omega⟩
      case round =>
        obtain ⟨k, hk, rfl, hle⟩ := hrel
        have HLE := Lib.hid hle
        have hel := HEL.out
        clear hle
        have hkl : k < es.length := by
          by_cases h : k < es.length
          · exact h
          · have h1 := HLE.out (G.length - 1) (by omega) (by omega)
            have h2 := HES.out (G.length - 1) (by omega)
            have h3 := HEA.out hg0
            have h4 := HN.out
            omega
        have hkl' : (k : Int) < G.length := by omega
        have ck := HEC.out k hkl
        have hEk := HES.out k hkl
        have hlast : es[k] ≤ n1 := by
          rw [hEk, HN.out]
          unfold endOfF
          have e : putsF (G.map FrD.val) = putsF ((G.take (k + 1)).map FrD.val) ++ putsF ((G.drop (k + 1)).map FrD.val) := by
            rw [← putsF_append, ← List.map_append, List.take_append_drop]
          rw [e, List.length_append]; omega
        by_cases hge : es[k] ≤ j
        case pos =>
          have HNXT : RowKit.Hid (∀ q (h : q < es.length), q < k + 1 → es[q] ≤ j) := Lib.hid (fun q h hq => by
            by_cases hqk : q < k
            · exact HLE.out q h hqk
            · obtain rfl : q = k := by omega
              exact hge)
          generalize es[k] = ek at *
          have hge' : (ek : Int) ≤ j := by omega
          clear hEk
          go_wp2
          go_round
          case rel => exact ⟨k + 1, by omega, by go_num, HNXT.out⟩
          case measure => simp [intOf]; omega
        case neg =>
          have hsp := HPT.out k j (by omega) (fun q hq => by
            have := HLE.out q (by omega) (by omega)
            rw [← HES.out q (by omega)]; exact this) (by rw [← hEk]; omega)
          have HSC2 := Lib.hid hsp
          have hpre : k = 0 ∧ (putsF ((G.take k).map FrD.val)).length = 0 ∨ ∃ q, k = q + 1 ∧ ∃ h : q < es.length, es[q] = (putsF ((G.take k).map FrD.val)).length := by
            cases hkk : k with
            | zero => left; exact ⟨rfl, by simp [putsF]⟩
            | succ q => right; exact ⟨q, rfl, by omega, by rw [HES.out q (by omega)]; rfl⟩
          generalize hek : es[k] = ek at *
          have hge' : ¬ (ek : Int) ≤ j := by omega
          have HCR := Lib.hid (HRB13.out.take j (by omega))
          have hjc : (j : Int) ≤ c1 := by omega
          have hkr : (k : Int) ≤ cr := by omega
          generalize (putsF ((G.take k).map FrD.val)).length = WW at *
          clear hsp hEk hek
          rcases hpre with ⟨rfl, hW⟩ | ⟨q, rfl, hql, hqe⟩
          · subst hW
            by_cases hjw : j = 0
            · subst hjw
              rw [if_pos rfl] at HSC2
              go_wp2_with fail
              (with_reducible refine (scan_any _ _ _ _ _ HCR.out (by omega)).mono ?_)
              rintro e w15 ⟨a5, c5, qs, rfl, hv5, ho5, t15⟩
              rw [HSC2.out] at hv5 ⊢
              simp only at hv5
              have HRR15 := Lib.hid ((HRR13.out.still t15).take 0 (by omega))
              have HT15 := Lib.hid (HT13.out.trans t15 (fun _ _ h => h))
              have HS2 : RowKit.Hid (sameFs (qs.map FrD.val) ((G.take 0).map FrD.val) = true) := Lib.hid (by rw [hv5]; exact sameFs_same _)
              obtain ⟨x6, y6, hq6, hrow6, -⟩ := ho5.row
              simp only [Value.slice.injEq, true_and] at hq6
              obtain ⟨rfl, rfl⟩ := hq6
              have HRQ := Lib.hid hrow6
              clear t15 ho5 hv5 hrow6
              go_wp2_with (first
                | (go_at_call 19; (with_reducible refine (rsames_any _ _ _ _ _ _ _ _ _ HRQ.out HRR15.out).mono ?_); rintro e w16 ⟨rfl, t16⟩; rw [HS2.out]; have HT16 := Lib.hid (HT15.out.trans t16 (fun _ _ h => h)); clear t16)
                | (go_at_call 12; (with_reducible refine (awake4 _).mono ?_); rintro e w17 ⟨rfl, t17⟩; have HT17 := Lib.hid (HT16.out.trans t17 (fun _ _ h => h)); clear t17))
              go_ret
              exact ⟨rfl, HT17.out⟩
            · rw [if_neg hjw] at HSC2
              have hb2 : ((0 : Int) == (j : Int)) = false := beq_eq_false_iff_ne.2 (by omega)
              have hb3 : ((j : Int) == 0) = false := beq_eq_false_iff_ne.2 (by omega)
              go_wp2_with fail
              (with_reducible refine (scan_any _ _ _ _ _ HCR.out (by omega)).mono ?_)
              rintro e w15 ⟨a5, c5, qs, rfl, hv5, ho5, t15⟩
              rw [HSC2.out] at hv5 ⊢
              simp only at hv5
              have HRR15 := Lib.hid ((HRR13.out.still t15).take 0 (by omega))
              have HT15 := Lib.hid (HT13.out.trans t15 (fun _ _ h => h))
              have HS2 : RowKit.Hid (sameFs (qs.map FrD.val) ((G.take 0).map FrD.val) = true) := Lib.hid (by rw [hv5]; exact sameFs_same _)
              obtain ⟨x6, y6, hq6, hrow6, -⟩ := ho5.row
              simp only [Value.slice.injEq, true_and] at hq6
              obtain ⟨rfl, rfl⟩ := hq6
              have HRQ := Lib.hid hrow6
              clear t15 ho5 hv5 hrow6
              go_wp2_with (first
                | (go_at_call 19; (with_reducible refine (rsames_any _ _ _ _ _ _ _ _ _ HRQ.out HRR15.out).mono ?_); rintro e w16 ⟨rfl, t16⟩; rw [HS2.out]; have HT16 := Lib.hid (HT15.out.trans t16 (fun _ _ h => h)); clear t16)
                | (go_at_call 12; (with_reducible refine (awake4 _).mono ?_); rintro e w17 ⟨rfl, t17⟩; have HT17 := Lib.hid (HT16.out.trans t17 (fun _ _ h => h)); clear t17))
              go_ret
              exact ⟨rfl, HT17.out⟩
          · have cq := HEC.out q hql
            rw [hqe] at cq
            have hql' : (q : Int) < G.length := by omega
            have hb4 : ((WW : Int) == (WW : Int)) = true := beq_iff_eq.2 rfl
            by_cases hjw : j = WW
            · subst hjw
              rw [if_pos rfl] at HSC2
              go_wp2_with fail
              (with_reducible refine (scan_any _ _ _ _ _ HCR.out (by omega)).mono ?_)
              rintro e w15 ⟨a5, c5, qs, rfl, hv5, ho5, t15⟩
              rw [HSC2.out] at hv5 ⊢
              simp only at hv5
              have HRR15 := Lib.hid ((HRR13.out.still t15).take (q + 1) (by omega))
              have HT15 := Lib.hid (HT13.out.trans t15 (fun _ _ h => h))
              have HS2 : RowKit.Hid (sameFs (qs.map FrD.val) ((G.take (q + 1)).map FrD.val) = true) := Lib.hid (by rw [hv5]; exact sameFs_same _)
              obtain ⟨x6, y6, hq6, hrow6, -⟩ := ho5.row
              simp only [Value.slice.injEq, true_and] at hq6
              obtain ⟨rfl, rfl⟩ := hq6
              have HRQ := Lib.hid hrow6
              clear t15 ho5 hv5 hrow6
              go_wp2_with (first
                | (go_at_call 19; (with_reducible refine (rsames_any _ _ _ _ _ _ _ _ _ HRQ.out HRR15.out).mono ?_); rintro e w16 ⟨rfl, t16⟩; rw [HS2.out]; have HT16 := Lib.hid (HT15.out.trans t16 (fun _ _ h => h)); clear t16)
                | (go_at_call 12; (with_reducible refine (awake4 _).mono ?_); rintro e w17 ⟨rfl, t17⟩; have HT17 := Lib.hid (HT16.out.trans t17 (fun _ _ h => h)); clear t17))
              go_ret
              exact ⟨rfl, HT17.out⟩
            · rw [if_neg hjw] at HSC2
              have hb2 : ((WW : Int) == (j : Int)) = false := beq_eq_false_iff_ne.2 (by omega)
              go_wp2_with fail
              (with_reducible refine (scan_any _ _ _ _ _ HCR.out (by omega)).mono ?_)
              rintro e w15 ⟨a5, c5, qs, rfl, hv5, ho5, t15⟩
              rw [HSC2.out] at hv5 ⊢
              simp only at hv5
              have HRR15 := Lib.hid ((HRR13.out.still t15).take (q + 1) (by omega))
              have HT15 := Lib.hid (HT13.out.trans t15 (fun _ _ h => h))
              have HS2 : RowKit.Hid (sameFs (qs.map FrD.val) ((G.take (q + 1)).map FrD.val) = true) := Lib.hid (by rw [hv5]; exact sameFs_same _)
              obtain ⟨x6, y6, hq6, hrow6, -⟩ := ho5.row
              simp only [Value.slice.injEq, true_and] at hq6
              obtain ⟨rfl, rfl⟩ := hq6
              have HRQ := Lib.hid hrow6
              clear t15 ho5 hv5 hrow6
              go_wp2_with (first
                | (go_at_call 19; (with_reducible refine (rsames_any _ _ _ _ _ _ _ _ _ HRQ.out HRR15.out).mono ?_); rintro e w16 ⟨rfl, t16⟩; rw [HS2.out]; have HT16 := Lib.hid (HT15.out.trans t16 (fun _ _ h => h)); clear t16)
                | (go_at_call 12; (with_reducible refine (awake4 _).mono ?_); rintro e w17 ⟨rfl, t17⟩; have HT17 := Lib.hid (HT16.out.trans t17 (fun _ _ h => h)); clear t17))
              go_ret
              exact ⟨rfl, HT17.out⟩
theorem frameBack_holds : Rows.FrameBackSaid := by
  refine frameBack.said fun H enc W base v0 v1 d0 d1 p0 p1 h0 h1 => ?_
  obtain ⟨a, len, cap, fs, rfl, hr, _⟩ := h0.frames
  obtain ⟨n, rfl, h1, h2, _⟩ := h1.i64 Try.underlying3
  exact (back_walk a len cap fs n W hr h1 h2).mono fun e w' h => ⟨h.1, h.2.under (Nat.le_refl _)⟩
end Go.Proofs.Ytjmhfbfpndpkkaa
