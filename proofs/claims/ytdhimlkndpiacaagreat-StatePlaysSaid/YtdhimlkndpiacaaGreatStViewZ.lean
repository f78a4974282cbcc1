/- A state's View. -/
import Derived.Test.YtdhimlkndpiacaaGreatStSortZ
import Derived.Test.YtdhimlkndpiacaaGreatStColZ
import Derived.Test.YtdhimlkndpiacaaGreatDrAllZ
set_option linter.unusedVariables false
set_option linter.unusedSimpArgs false
namespace Go.Proofs.YtdhimlkndpiacaaGreat
open Go.RowKit Go.Maps Go.Sort Go.Shelf

def srtD (D : List DR) : List DR := D.mergeSort (fun a b => decide (a.b ≤ b.b))
def srtF (L : List FlD) : List FlD := L.mergeSort (fun x y => !ltFl y x)
theorem srtD_perm (D : List DR) : (srtD D).Perm D := List.mergeSort_perm _ _
theorem srtF_perm (L : List FlD) : (srtF L).Perm L := List.mergeSort_perm _ _
theorem srtD_sort {D : List DR} (hn : (D.map DR.b).Nodup) : SortD (srtD D) := by
  have h1 : (srtD D).Pairwise (fun a b => decide (a.b ≤ b.b) = true) := List.pairwise_mergeSort (fun a b c => by simp only [decide_eq_true_eq]; omega) (fun a b => by simp only [Bool.or_eq_true, decide_eq_true_eq]; omega) D
  have h2 : ((srtD D).map DR.b).Nodup := ((srtD_perm D).map DR.b).nodup_iff.2 hn
  unfold SortD
  have h3 : (srtD D).Pairwise (fun a b => a.b ≠ b.b) := List.pairwise_map.1 h2
  exact (h1.and h3).imp (fun {a b} h => by have := of_decide_eq_true h.1; have := h.2; omega)
theorem srtF_sort {L : List FlD} (hn : (L.map FlD.t).Nodup) : StrictF (srtF L) := by
  have h1 : (srtF L).Pairwise (fun x y => (!ltFl y x) = true) := List.pairwise_mergeSort (fun a b c h1 h2 => by
    rw [Bool.not_eq_true'] at *
    have := swo_flows.3 c b a
    rw [Bool.eq_false_iff] at *
    intro h3
    by_cases h4 : ltFl c b = true
    · exact h2 h4
    · rw [Bool.not_eq_true] at h4
      have h5 : ltFl b a = false := by rw [Bool.eq_false_iff]; exact h1
      have := swo_flows.3 c b a h4 h5
      rw [this] at h3
      cases h3) (fun a b => by
    rw [Bool.or_eq_true, Bool.not_eq_true', Bool.not_eq_true']
    by_cases h : ltFl b a = true
    · right
      rw [Bool.eq_false_iff]
      intro h2
      have := swo_flows.2 a b a h2 h
      rw [swo_flows.1] at this
      cases this
    · left; rw [Bool.eq_false_iff]; exact h) L
  refine strict_of ?_ (((srtF_perm L).map FlD.t).nodup_iff.2 hn)
  exact h1.imp (fun {a b} h => by rw [Bool.not_eq_true'] at h; exact h)
theorem infoSt4 : (Tryz.prog.info? 35).map (·.size) = some 4 := by kernel_rfl
theorem enter_cloneS (a : Value) (w : World) : (callFunc 38 #[a]).run Tryz.prog w = .ok (.enter 38 #[a]) w := by kernel_rfl
theorem row_oneD (w : World) (x : DR) : RowS (w.alloc (.cells #[.int .i64 x.b, .int .i64 x.u] 93)) (some ⟨w.heap.size, 0, none⟩) 1 1 2 [dcl x] :=
  ((OwnS.lit w w.heap.size (Nat.le_refl _) 93 2 1 [dcl x] #[.int .i64 x.b, .int .i64 x.u] rfl rfl (by simp [dcl]) (by omega)).row').2.1
theorem one_dcl (x : DR) : ∀ l ∈ [dcl x], ∀ u ∈ l, u.oneCell' = true := by
  intro l hl u hu
  rw [List.mem_singleton.1 hl] at hu
  unfold dcl at hu
  simp only [List.mem_cons, List.not_mem_nil, or_false] at hu
  rcases hu with rfl | rfl <;> rfl
/-- What a View is. -/
def VwIs (w w' : World) (s : StS) (e : Ending) : Prop :=
  ∃ (a1 : Option Addr) (c1 : Nat) (a2 : Option Addr) (c2 : Nat) (a3 : Option Addr) (c3 : Nat), e = .returned (.agg #[.int .i64 s.gen, .slice a1 s.bs.length c1, .slice a2 s.D.length c2, .slice a3 s.F.length c3]) ∧
    OwnK w' w.heap.size (.slice a1 s.bs.length c1) s.bs ∧ OwnS w' w.heap.size 93 2 (.slice a2 s.D.length c2) ((srtD s.D).map dcl) ∧ OwnS w' w.heap.size 39 8 (.slice a3 s.F.length c3) ((srtF s.F).map fcl) ∧ Touch w w' (fun _ => False)
set_option maxRecDepth 20000 in
set_option maxHeartbeats 16000000 in
theorem stview_any (w : World) (b0 : Nat) (h : StH) (s : StS) (m : StM w b0 h s) :
    Calls Tryz.prog 13 #[.pointer (some ⟨b0, 0, none⟩)] w fun e w' => VwIs w w' s e := by
  obtain ⟨W1, hW1⟩ : ∃ W, w.alloc (.cells #[.int .i64 0, .slice none 0 0, .slice none 0 0, .slice none 0 0] 35) = W := ⟨_, rfl⟩
  have t1 : Touch w W1 (fun _ => False) := hW1 ▸ (Touch.refl w _).alloc _
  have g1 : W1.heap[w.heap.size]? = some (.cells #[.int .i64 0, .slice none 0 0, .slice none 0 0, .slice none 0 0] 35 (0, 0)) := hW1 ▸ heap_alloc_new ..
  have s1 : W1.heap.size = w.heap.size + 1 := by rw [← hW1]; simp
  have HCC : RowKit.Hid (∀ W, Touch W1 W (fun _ => False) → W.cell? ⟨b0, 0, none⟩ = some (.int .i64 s.gen) ∧ W.cell? ⟨b0, 1, none⟩ = some (.slice h.ba s.bs.length h.bc)) := Lib.hid (fun W t => ⟨(m.still (t1.trans t (fun _ _ h => h))).cells.1, (m.still (t1.trans t (fun _ _ h => h))).cells.2.1⟩)
  have HBK : RowKit.Hid (∀ W, Touch W1 W (fun _ => False) → RowK W h.ba s.bs.length h.bc s.bs) := Lib.hid (fun W t => (m.still (t1.trans t (fun _ _ h => h))).bk)
  have HBL : RowKit.Hid (s.bs.length ≤ 100000) := Lib.hid (by have := ((gmay_iff _).1 m.ok.bs).1; omega)
  have HI4 := Lib.hid infoSt4
  have HM := Lib.hid m
  have HT1 := Lib.hid t1
  have HG1 := Lib.hid g1
  have HS1 := Lib.hid s1
  have HW1 := Lib.hid hW1
  obtain ⟨G, hG⟩ : ∃ G, srtD s.D = G := ⟨_, rfl⟩
  have HGE := Lib.hid hG
  have HGP : RowKit.Hid (G.Perm s.D) := Lib.hid (hG ▸ srtD_perm s.D)
  have HGS : RowKit.Hid (SortD G) := Lib.hid (hG ▸ srtD_sort m.ok.dn)
  clear m t1 g1 s1 hW1 hG
  go_enter Tryz.func13, Tryz.ntmps13
  go_upto_region 3 with (fail)
  try rw [HW1.out]
  go_cut [3] (fun s3 wx => ∃ (B3 : Nat) (a1 : Option Addr) (c1 : Nat), s3 = .pointer (some ⟨B3, 0, none⟩) ∧ wx.heap[B3]? = some (.cells #[.int .i64 s.gen, .slice a1 s.bs.length c1, .slice none 0 0, .slice none 0 0] 35 (0, 0)) ∧ OwnS wx w.heap.size 86 3 (.slice a1 s.bs.length c1) (s.bs.map BkD.cells) ∧ Touch W1 wx (fun _ => False) ∧ W1.heap.size ≤ B3)
  case first =>
    go_wp2_with fail
    have hS := (Touch.refl W1 (fun _ => False)).drew
    refine wp_region_tree (fun w' => Touch W1 w' (fun _ => False)) (.take 0 (.take 1 (.take 2 (.take 3 (.take 4 (.take 5 (.take 6 (.take 7 (.two 8 10 (.take 9 (.one 10 (.one 11 .fin))) (.one 8 (.take 9 (.one 11 .fin)))))))))))) (by kernel_rfl) (by kernel_rfl) (by kernel_rfl) (by kernel_rfl) hS ?_
    refine walkT_take ?_
    (refine takeN_take (v := ?_) (some 9) rfl rfl (fun _ _ _ h => h) (by rfl) ?_ ?_; rotate_left; (focus (intro w' hw'; obtain ⟨y0, y1⟩ := HCC.out w' hw'; go_simp; (try with_reducible rfl))); (try simp only [Act.put, List.setIfInBounds_toArray, List.set_cons_zero, List.set_cons_succ]))
    refine walkT_take ?_
    (refine takeN_take (v := ?_) (some 10) rfl rfl (fun _ _ _ h => h) (by rfl) ?_ ?_; rotate_left; (focus (intro w' hw'; obtain ⟨y0, y1⟩ := HCC.out w' hw'; go_simp; (try with_reducible rfl))); (try simp only [Act.put, List.setIfInBounds_toArray, List.set_cons_zero, List.set_cons_succ]))
    refine walkT_take ?_
    (refine takeN_take (v := ?_) (some 11) rfl rfl (fun _ _ _ h => h) (by rfl) ?_ ?_; rotate_left; (focus (intro w' hw'; obtain ⟨y0, y1⟩ := HCC.out w' hw'; go_simp; (try with_reducible rfl))); (try simp only [Act.put, List.setIfInBounds_toArray, List.set_cons_zero, List.set_cons_succ]))
    refine walkT_take ?_
    (refine takeN_take (v := ?_) (some 12) rfl rfl (fun _ _ _ h => h) (by rfl) ?_ ?_; rotate_left; (focus (intro w' hw'; obtain ⟨y0, y1⟩ := HCC.out w' hw'; go_simp; (try with_reducible rfl))); (try simp only [Act.put, List.setIfInBounds_toArray, List.set_cons_zero, List.set_cons_succ]))
    refine walkT_take ?_
    (refine takeN_take (v := ?_) (some 13) rfl rfl (fun _ _ _ h => h) (by rfl) ?_ ?_; rotate_left; (focus (intro w' hw'; obtain ⟨y0, y1⟩ := HCC.out w' hw'; go_simp; (try with_reducible rfl))); (try simp only [Act.put, List.setIfInBounds_toArray, List.set_cons_zero, List.set_cons_succ]))
    refine walkT_take ?_
    (refine takeN_take (v := ?_) (some 14) rfl rfl (fun _ _ _ h => h) (by rfl) ?_ ?_; rotate_left; (focus (intro w' hw'; obtain ⟨y0, y1⟩ := HCC.out w' hw'; go_simp; (try with_reducible rfl))); (try simp only [Act.put, List.setIfInBounds_toArray, List.set_cons_zero, List.set_cons_succ]))
    refine walkT_take ?_
    (refine takeN_take (v := ?_) (some 15) rfl rfl (fun _ _ _ h => h) (by rfl) ?_ ?_; rotate_left; (focus (intro w' hw'; obtain ⟨y0, y1⟩ := HCC.out w' hw'; go_simp; (try with_reducible rfl))); (try simp only [Act.put, List.setIfInBounds_toArray, List.set_cons_zero, List.set_cons_succ]))
    refine walkT_take ?_
    (refine takeN_take (v := ?_) (some 16) rfl rfl (fun _ _ _ h => h) (by rfl) ?_ ?_; rotate_left; (focus (intro w' hw'; obtain ⟨y0, y1⟩ := HCC.out w' hw'; go_simp; (try with_reducible rfl))); (try simp only [Act.put, List.setIfInBounds_toArray, List.set_cons_zero, List.set_cons_succ]))
    refine walkT_two ?_ ?_
    · (refine runN_call 17 _ _ _ _ (cloneK_any h.ba s.bs.length h.bc s.bs _ (HBK.out _ hS) HBL.out) rfl rfl rfl (by rfl) rfl (enter_cloneS _ _) ?_; rintro e w2 ⟨a1, c1, rfl, o2, t2⟩; have hS0 := Lib.hid hS; have hS := hS.trans t2 (fun _ _ h => h); (try have HM7 := Lib.hid (t2.keeps HM7.out (fun h => h))); have HO := Lib.hid (OwnS.rebase (OwnK.toS o2) (base' := w.heap.size) (fun x hx => Nat.le_trans (Nat.le_trans HT1.out.size hS0.out.size) ((OwnK.toS o2).own.lt x hx).1)); refine ⟨_, rfl, hS, fun hS => ?_⟩; clear o2 t2 hS0; (try simp only [Act.put, List.setIfInBounds_toArray, List.set_cons_zero, List.set_cons_succ]))
      refine walkT_take ?_
      (refine takeN_take (v := ?_) (some 18) rfl rfl (fun _ _ _ h => h) (by rfl) ?_ ?_; rotate_left; (focus (intro w' hw'; obtain ⟨y0, y1⟩ := HCC.out w' hw'; go_simp; (try with_reducible rfl))); (try simp only [Act.put, List.setIfInBounds_toArray, List.set_cons_zero, List.set_cons_succ]))
      refine walkT_one ?_
      (refine runN_new 3 (fun W => .pointer (some ⟨W.heap.size, 0, none⟩)) #[.int .i64 0, .slice none 0 0, .slice none 0 0, .slice none 0 0] 35 rfl rfl (by rfl) (by intro W; go_simp <;> first | with_reducible rfl | rfl | exact ⟨rfl, rfl⟩) ?_; intro w7 hw7 hM7 hs7 t9; have HSZ := Lib.hid hS.size; have hS := hS.trans t9 (fun _ _ h => h.elim); have HM7 := Lib.hid hM7; (try have HO := Lib.hid (OwnS.still HO.out t9)); refine ⟨hS, fun _ => ?_⟩; clear hw7 hM7 hs7 t9; (try simp only [Act.put, List.setIfInBounds_toArray, List.set_cons_zero, List.set_cons_succ]))
      refine walkT_one ?_
      (refine runN_store rfl rfl (by rfl) 35 _ _ rfl _ #[.int .i64 s.gen, .slice a1 s.bs.length c1, .slice none 0 0, .slice none 0 0] rfl rfl _ _ HM7.out HI4.out rfl rfl ?_; intro w8 h8 t8; have H8 := Lib.hid h8; have HO := Lib.hid (OwnS.touch HO.out t8 (fun x hx e => by have h1 := HM7.out; have e : x = _ := e; rcases (HO.out.own.2) with ⟨hv, _⟩ | ⟨g, cap, cur, hv, _, hgb, _⟩ <;> rw [hv] at hx; (cases hx); (have e2 : g = x := by simpa [Value.ownBlock] using hx); subst e2; rw [e] at hgb; rw [hgb] at h1; cases h1)); have hS := hS.trans t8 (fun k hk h => by have h : k = _ := h; have := HSZ.out; subst h; exact Nat.lt_irrefl _ (Nat.lt_of_lt_of_le hk this)); refine ⟨hS, fun _ => ?_⟩; clear h8 t8; (try simp only [Act.put, List.setIfInBounds_toArray, List.set_cons_zero, List.set_cons_succ]))
      refine walkT_fin ?_
      go_wp2_with fail
      go_meet
      exact ⟨_, a1, c1, rfl, H8.out, HO.out, hS, HSZ.out⟩
    · (refine runN_new 3 (fun W => .pointer (some ⟨W.heap.size, 0, none⟩)) #[.int .i64 0, .slice none 0 0, .slice none 0 0, .slice none 0 0] 35 rfl rfl (by rfl) (by intro W; go_simp <;> first | with_reducible rfl | rfl | exact ⟨rfl, rfl⟩) ?_; intro w7 hw7 hM7 hs7 t9; have HSZ := Lib.hid hS.size; have hS := hS.trans t9 (fun _ _ h => h.elim); have HM7 := Lib.hid hM7; (try have HO := Lib.hid (OwnS.still HO.out t9)); refine ⟨hS, fun _ => ?_⟩; clear hw7 hM7 hs7 t9; (try simp only [Act.put, List.setIfInBounds_toArray, List.set_cons_zero, List.set_cons_succ]))
      refine walkT_one ?_
      (refine runN_call 17 _ _ _ _ (cloneK_any h.ba s.bs.length h.bc s.bs _ (HBK.out _ hS) HBL.out) rfl rfl rfl (by rfl) rfl (enter_cloneS _ _) ?_; rintro e w2 ⟨a1, c1, rfl, o2, t2⟩; have hS0 := Lib.hid hS; have hS := hS.trans t2 (fun _ _ h => h); (try have HM7 := Lib.hid (t2.keeps HM7.out (fun h => h))); have HO := Lib.hid (OwnS.rebase (OwnK.toS o2) (base' := w.heap.size) (fun x hx => Nat.le_trans (Nat.le_trans HT1.out.size hS0.out.size) ((OwnK.toS o2).own.lt x hx).1)); refine ⟨_, rfl, hS, fun hS => ?_⟩; clear o2 t2 hS0; (try simp only [Act.put, List.setIfInBounds_toArray, List.set_cons_zero, List.set_cons_succ]))
      refine walkT_take ?_
      (refine takeN_take (v := ?_) (some 18) rfl rfl (fun _ _ _ h => h) (by rfl) ?_ ?_; rotate_left; (focus (intro w' hw'; obtain ⟨y0, y1⟩ := HCC.out w' hw'; go_simp; (try with_reducible rfl))); (try simp only [Act.put, List.setIfInBounds_toArray, List.set_cons_zero, List.set_cons_succ]))
      refine walkT_one ?_
      (refine runN_store rfl rfl (by rfl) 35 _ _ rfl _ #[.int .i64 s.gen, .slice a1 s.bs.length c1, .slice none 0 0, .slice none 0 0] rfl rfl _ _ HM7.out HI4.out rfl rfl ?_; intro w8 h8 t8; have H8 := Lib.hid h8; have HO := Lib.hid (OwnS.touch HO.out t8 (fun x hx e => by have h1 := HM7.out; have e : x = _ := e; rcases (HO.out.own.2) with ⟨hv, _⟩ | ⟨g, cap, cur, hv, _, hgb, _⟩ <;> rw [hv] at hx; (cases hx); (have e2 : g = x := by simpa [Value.ownBlock] using hx); subst e2; rw [e] at hgb; rw [hgb] at h1; cases h1)); have hS := hS.trans t8 (fun k hk h => by have h : k = _ := h; have := HSZ.out; subst h; exact Nat.lt_irrefl _ (Nat.lt_of_lt_of_le hk this)); refine ⟨hS, fun _ => ?_⟩; clear h8 t8; (try simp only [Act.put, List.setIfInBounds_toArray, List.set_cons_zero, List.set_cons_succ]))
      refine walkT_fin ?_
      go_wp2_with fail
      go_meet
      exact ⟨_, a1, c1, rfl, H8.out, HO.out, hS, HSZ.out⟩
  case rest =>
    obtain ⟨B3, a1, c1, rfl, g3, o3, t3, hB3⟩ := hcut
    obtain ⟨w3, hw3⟩ : ∃ W, W = wc := ⟨_, rfl⟩
    rw [← hw3] at g3 o3 t3 ⊢
    have HG3 := Lib.hid g3
    have HO3 := Lib.hid o3
    have HT3 := Lib.hid (HT1.out.trans t3 (fun _ _ h => h))
    have HR3 := Lib.hid (t3.keeps HG1.out (fun h => h))
    have HB3W : RowKit.Hid (w.heap.size + 1 ≤ B3 ∧ B3 < w3.heap.size) := Lib.hid ⟨by have := HS1.out; omega, heap_lt g3⟩
    have HM3 := Lib.hid (HM.out.still HT3.out)
    clear g3 o3 t3 hB3 hw3
    obtain ⟨-, D, hown, hP⟩ := HM3.out.dr
    have hlen := HM3.out.ok.dl
    have hGl := HGP.out.length_eq
    have HK := Lib.hid (keysD_any w3 h.dm)
    have HST := Lib.hid (sortedD_any w3 h.dm s.D.length D hown (by rw [hP.size]; omega))
    have HPI := Lib.hid ((hP.ints HM3.out.ok.dn).symm.trans (HGP.out.symm.map _))
    obtain ⟨-, -, x2, x3⟩ := HM3.out.cells
    obtain ⟨N, hN⟩ : ∃ N, G.length = N := ⟨_, rfl⟩
    have HN := Lib.hid hN
    have hN4 : N ≤ 1024 := by omega
    have HNS : RowKit.Hid (N = s.D.length) := Lib.hid (by rw [← hN]; exact hGl)
    clear hown hP hGl hlen hN
    go_wp2_with fail
    refine HK.out.mono ?_
    rintro e w' ⟨rfl, rfl⟩
    go_wp2_with fail
    refine HST.out.mono ?_
    rintro e w2 ⟨v, ss, rfl, hS, hrow, hb⟩
    have hpG := hS.trans HPI.out
    have hms := merge_is hpG HGS.out
    have hsl : ss.length = N := by rw [hpG.length_eq]; simp [HN.out]
    have hil : (icells G).length = ss.length := by rw [hsl]; simp [icells, HN.out]
    have hOI : OwnS w2 (w3.heap.size + 1) 3 1 v (icells G) := ⟨by rw [icells_of, ← hms, hil]; exact hrow, by simp [icells]⟩
    obtain ⟨a2, c2, hv, hr2, hb2⟩ := hOI.row
    have e1 : (icells G).length = N := by simp [icells, HN.out]
    rw [e1] at hv hr2
    subst hv
    have HT2 := Lib.hid (((Touch.refl w3 (fun _ => False)).alloc (.cells #[.map (some h.dm)] 60)).trans (Touch.ofBelow (S := fun k => w3.heap.size < k) hb (fun k hk _ => by omega)) (fun k hk h => by omega))
    have HR2 := Lib.hid hr2
    have HA2 : RowKit.Hid (∀ y, a2 = some y → w3.heap.size + 1 ≤ y.block) := Lib.hid (fun y hy => (hb2 y hy).1)
    clear hS hrow hb hpG hms hsl hil hOI hb2 e1 hr2 x2 x3
    go_wp2_with fail
    go_loopw [26] (fun s26 wr => ∃ (j : Nat) (a : Option Addr) (c : Nat), j ≤ N ∧ s26 = .int .i64 j ∧ wr.heap[B3]? = some (.cells #[.int .i64 s.gen, .slice a1 s.bs.length c1, .slice a j c, .slice none 0 0] 35 (0, 0)) ∧ OwnS wr w2.heap.size 93 2 (.slice a j c) ((G.take j).map dcl) ∧ Touch w2 wr (fun x => x = B3)) (fun s26 _ => N - (RowKit.intOf s26).toNat)
    case atStart => exact ⟨0, none, 0, Nat.zero_le _, rfl, HT2.out.keeps HG3.out (fun h => h), OwnS.nil _ _ _ _, Touch.refl _ _⟩
    case round =>
      obtain ⟨j, a, c, hj, rfl, hh, ho, ht⟩ := hrel
      have HHD := Lib.hid hh
      have HO := Lib.hid ho
      have HOJ := HO
      have HT := Lib.hid ht
      clear hh ho ht
      by_cases hlt : j < N
      case neg =>
        obtain rfl : N = j := by omega
        have hlI : ¬ (N : Int) < N := by omega
        have hA : G.take N = G := List.take_of_length_le (by rw [HN.out]; exact Nat.le_refl _)
        rw [hA] at HO HOJ
        obtain ⟨wq, hwq⟩ : ∃ W, W = wr := ⟨_, rfl⟩
        rw [← hwq] at HHD HO HOJ HT ⊢
        clear hwq hA
        have HTQ : RowKit.Hid (Touch w wq (fun _ => False)) := Lib.hid ((HT3.out.trans HT2.out (fun _ _ h => h)).trans HT.out (fun x hx e => by have e : x = B3 := e; have := HB3W.out; omega))
        have HMQ := Lib.hid (HM.out.still HTQ.out)
        obtain ⟨-, -, -, x3⟩ := HMQ.out.cells
        have HVL := Lib.hid (valuesV wq h.fm)
        go_wp2_with fail
        refine HVL.out.mono ?_
        rintro e w4 ⟨rfl, hw4⟩
        have t4 : Touch wq w4 (fun _ => False) := hw4 ▸ (Touch.refl wq _).alloc _
        have g4 : w4.heap[wq.heap.size]? = some (.cells #[.map (some h.fm)] 61 (0, 0)) := hw4 ▸ heap_alloc_new ..
        have HCO := Lib.hid (collectV w4 wq.heap.size h.fm s.F (by have := HM.out.ok.fl; omega) (heap_lt g4) (cell_of_cells g4 0) (HMQ.out.fl.still t4))
        have HT4 := Lib.hid t4
        clear hw4 t4 g4
        go_wp2_with fail
        refine HCO.out.mono ?_
        rintro e w5 ⟨a6, c6, xs, rfl, hpx, o5, t5⟩
        have HT5 := Lib.hid (HT4.out.trans t5 (fun _ _ h => h))
        have h5 := HT5.out.keeps HHD.out (fun h => h)
        obtain ⟨v0, v1, v2, v3⟩ := (show w5.cell? ⟨B3, 0, none⟩ = _ ∧ w5.cell? ⟨B3, 1, none⟩ = _ ∧ w5.cell? ⟨B3, 2, none⟩ = _ ∧ w5.cell? ⟨B3, 3, none⟩ = _ from ⟨cell_of_cells h5 0, cell_of_cells h5 1, cell_of_cells h5 2, cell_of_cells h5 3⟩)
        have f3 := free_of_cells h5 3
        obtain ⟨w6, hw6⟩ : ∃ W, w5.setCell ⟨B3, 3, none⟩ (.slice a6 xs.length c6) = W := ⟨_, rfl⟩
        have g6 := heap_setCell_same w5 B3 3 _ _ (.slice a6 xs.length c6) h5
        rw [hw6] at g6
        have t6 : Touch w5 w6 (fun x => x = B3) := hw6 ▸ (Touch.refl w5 _).into 3 _
        have hzq : B3 < wq.heap.size := heap_lt HHD.out
        have hw45 := HT4.out.size
        have o6 := o5.touch t6 (fun x hx e => by have e : x = B3 := e; have := (o5.own.lt x hx).1; omega)
        have HXP := Lib.hid hpx
        have g6' : w6.heap[B3]? = some (.cells #[.int .i64 s.gen, .slice a1 s.bs.length c1, .slice a N c, .slice a6 xs.length c6] 35 (0, 0)) := g6
        have HSO := Lib.hid (sortsV_any (.int .i64 s.gen) (.slice a1 s.bs.length c1) (.slice a N c) xs (by have := hpx.length_eq; have := HM.out.ok.fl; omega) w6 w4.heap.size B3 a6 c6 xs (List.Perm.refl _) o6 (by omega) g6')
        have HG6 := Lib.hid g6'
        have HT6 := Lib.hid t6
        have HO6 := Lib.hid o6
        have y3 := cell_of_cells g6' 3
        have HW6 := Lib.hid hw6
        clear hpx o5 t5 h5 v0 v1 v2 g6 t6 o6 g6' hw6 x3
        go_upto_region 10 with (fail)
        rw [HW6.out]
        clear v3 f3
        go_wp2_with fail
        refine HSO.out.mono ?_
        rintro e w7 ⟨rfl, L', hp', hs', o7, t7⟩
        have hown6 : ∀ y, (Value.slice a6 xs.length c6).ownBlock = some y → w4.heap.size ≤ y := fun y hy => (HO6.out.own.lt y hy).1
        have g7 := t7.keeps HG6.out (fun e => by have := hown6 _ e; omega)
        have tw : Touch w w7 (fun _ => False) := ((HTQ.out.trans HT5.out (fun _ _ h => h)).trans HT6.out (fun x hx e => by have e : x = B3 := e; have := HB3W.out; omega)).trans t7 (fun x hx e => by have := hown6 _ e; have := HTQ.out.size; omega)
        have hF : srtF s.F = L' := strict_ext ((srtF_perm s.F).trans ((hp'.trans HXP.out).symm)) (srtF_sort HM.out.ok.fn) (strict_of hs' ((((hp'.trans HXP.out)).map FlD.t).nodup_iff.2 HM.out.ok.fn))
        have hl7 : xs.length = s.F.length := HXP.out.length_eq
        have HF7 : RowKit.Hid (OwnS w7 w.heap.size 39 8 (.slice a6 s.F.length c6) ((srtF s.F).map fcl)) := Lib.hid (by
          rw [hF, ← hl7]
          exact o7.rebase (fun y hy => by have := (o7.own.lt y hy).1; have := HTQ.out.size; omega))
        have HD7 : RowKit.Hid (OwnS w7 w.heap.size 93 2 (.slice a s.D.length c) ((srtD s.D).map dcl)) := Lib.hid (by
          rw [HGE.out, ← HNS.out]
          have q1 := HOJ.out.still HT5.out
          have q2 := q1.touch HT6.out (fun y hy e => by have e : y = B3 := e; have := (HOJ.out.own.lt y hy).1; have := HB3W.out; have := HT2.out.size; omega)
          have q3 := q2.touch t7 (fun y hy e => by have := hown6 _ e; have := (HOJ.out.own.lt y hy).2; omega)
          exact q3.rebase (fun y hy => by have := (HOJ.out.own.lt y hy).1; have := HT2.out.size; have := HT3.out.size; omega))
        have HK7 : RowKit.Hid (OwnK w7 w.heap.size (.slice a1 s.bs.length c1) s.bs) := Lib.hid (by
          have hlt3 : ∀ y, (Value.slice a1 s.bs.length c1).ownBlock = some y → y < w3.heap.size ∧ y ≠ B3 := fun y hy => ⟨(HO3.out.own.lt y hy).2, fun e => by
            have h1 := HG3.out
            rcases HO3.out.own.2 with ⟨hv, _⟩ | ⟨g, cap, cur, hv, _, hgb, _⟩ <;> rw [hv] at hy
            · cases hy
            · have e2 : g = y := by simpa [Value.ownBlock] using hy
              subst e2
              rw [e] at hgb
              rw [hgb] at h1
              cases h1⟩
          have q1 := ((HO3.out.still HT2.out).touch HT.out (fun y hy e => (hlt3 y hy).2 e)).still HT5.out
          have q2 := q1.touch HT6.out (fun y hy e => (hlt3 y hy).2 e)
          exact q2.touch t7 (fun y hy e => by have := hown6 _ e; have := (hlt3 y hy).1; have := HT2.out.size; have := HT.out.size; omega))
        have HTW := Lib.hid tw
        have HR7 := Lib.hid (t7.keeps (HT6.out.keeps (HT5.out.keeps (HT.out.keeps (HT2.out.keeps HR3.out (fun h => h)) (fun e => by have e : w.heap.size = B3 := e; have := HB3W.out; omega)) (fun h => h)) (fun e => by have e : w.heap.size = B3 := e; have := HB3W.out; omega)) (fun e => by have := hown6 _ e; have := HTQ.out.size; have := HB3W.out; omega))
        rw [hl7, HNS.out] at g7
        have z0 := cell_of_cells g7 0
        have z1 := cell_of_cells g7 1
        have z2 := cell_of_cells g7 2
        have z3 := cell_of_cells g7 3
        clear hp' hs' o7 t7 hown6 g7 tw hF hl7 hzq hw45 y3
        go_wp2_with (refine store_row rfl 35 (.tmp 2) (.tmp 56) rfl w.heap.size #[.int .i64 s.gen, .slice a1 s.bs.length c1, .slice a s.D.length c, .slice a6 s.F.length c6] rfl rfl _ _ HR7.out HI4.out rfl rfl ?_)
        have t8 : Touch w7 (w7.setRow w.heap.size #[.int .i64 s.gen, .slice a1 s.bs.length c1, .slice a s.D.length c, .slice a6 s.F.length c6]) (fun k => k = w.heap.size) := (Touch.refl w7 _).setRow _ _ (fun _ => rfl)
        have hne : ∀ {T : TypeId} {k : Nat} {v : Value} {L : List (List Value)}, OwnS w7 w.heap.size T k v L → T ≠ 35 → ∀ y, v.ownBlock = some y → ¬ y = w.heap.size := fun o hT y hy e => by
          have h1 := HR7.out
          rcases o.own.2 with ⟨hv, _⟩ | ⟨g, cap, cur, hv, _, hgb, _⟩ <;> rw [hv] at hy
          · cases hy
          · have e2 : g = y := by simpa [Value.ownBlock] using hy
            subst e2
            rw [e] at hgb
            rw [hgb] at h1
            simp only [Option.some.injEq, Obj.cells.injEq] at h1
            exact hT h1.2.1
        refine ret_row rfl rfl w.heap.size _ #[.int .i64 s.gen, .slice a1 s.bs.length c1, .slice a s.D.length c, .slice a6 s.F.length c6] _ _ rfl (setRow_heap _ _ _ _ _ _ HR7.out) Tryz.underlying35 rfl HI4.out ?_
        exact ⟨a1, c1, a, c, a6, c6, rfl, OwnS.touch (OwnK.toS HK7.out) t8 (hne (OwnK.toS HK7.out) (by decide)), HD7.out.touch t8 (hne HD7.out (by decide)), HF7.out.touch t8 (hne HF7.out (by decide)), HTW.out.trans t8 (fun k hk e => by have e : k = w.heap.size := e; omega)⟩
      case pos =>
        have hrow := HR2.out.touch HT.out (fun y hy => .inr (fun e => by have e : y.block = B3 := e; have := HA2.out y hy; have := HB3W.out; omega))
        obtain ⟨g, off, rfl⟩ := hrow.some (by omega)
        have d0 := icell_one hrow j (by rw [HN.out]; exact hlt)
        have hcap := hrow.hcap
        have hmax := hrow.hmax
        obtain ⟨x, hx⟩ : ∃ x, gd G j = x := ⟨_, rfl⟩
        rw [hx] at d0
        have hxG : x ∈ G := by rw [← hx]; exact gd_mem G j (by rw [HN.out]; exact hlt)
        have hxM := HGP.out.mem_iff.1 hxG
        have hin := HM.out.ok.dk x hxM
        have htk : (G.take j).map dcl ++ [dcl x] = (G.take (j + 1)).map dcl := by
          rw [List.take_succ_eq_append_getElem (by rw [HN.out]; exact hlt), List.map_append, ← gd_get G j (by rw [HN.out]; exact hlt), hx]
          rfl
        have hb1 : i64D x.b := by unfold mayDr at hin; rw [Bool.and_eq_true] at hin; exact idB_lt hin.1
        have hne1 : b0 ≠ B3 ∧ h.dm ≠ B3 := ⟨by have := heap_lt HM.out.head; have := HB3W.out; omega, by have := HM.out.dr.lt; have := HB3W.out; omega⟩
        have hown1 : ∀ y, (Value.slice a j c).ownBlock = some y → w2.heap.size ≤ y := fun y hy => (HO.out.own.lt y hy).1
        have hz2 := HT2.out.size
        have hz3 := HT3.out.size
        have HC2 : RowKit.Hid (∀ W, Touch wr W (fun x => x = B3 ∨ (Value.slice a j c).ownBlock = some x) → W.cell? ⟨b0, 2, none⟩ = some (.map (some h.dm))) := Lib.hid (fun W t => by
          have tt := (HT3.out.trans HT2.out (fun _ _ h => h))
          have hd := HT.out.keeps (tt.keeps HM.out.head (fun h => h)) (fun e => hne1.1 e)
          exact cell_of_cells (t.keeps hd (fun e => by
            rcases e with e | e
            · exact hne1.1 e
            · have := hown1 _ e; have := heap_lt HM.out.head; omega)) 2)
        have HGT : RowKit.Hid (∀ W, Touch wr W (fun x => x = B3 ∨ (Value.slice a j c).ownBlock = some x) → (Instr.lookup 60 (.map (some h.dm)) (.int .i64 x.b) false).run Tryz.prog W = .ok (.int .i64 x.u) W) := Lib.hid (fun W t => by
          have o1 := HM.out.dr.still (HT3.out.trans HT2.out (fun _ _ h => h))
          have o2 := (o1.touch HT.out (fun e => hne1.2 e)).touch t (fun e => by
            rcases e with e | e
            · exact hne1.2 e
            · have := hown1 _ e; have := HM.out.dr.lt; omega)
          have := o2.get (t := 60) Tryz.underlying3 Tryz.underlying2 Tryz.underlying60 (zeroI64S W) hb1
          rw [timeD_of HM.out.ok.dn hxM] at this
          exact this)
        have HDC : RowKit.Hid (¬ (Value.slice a j c).ownBlock = some B3) := Lib.hid (fun e => by have := hown1 _ e; have := HB3W.out; omega)
        have HTK := Lib.hid htk
        have HLJ : RowKit.Hid (((G.take j).map dcl).length + 1 = j + 1) := Lib.hid (by rw [List.length_map, List.length_take, HN.out]; omega)
        have HB3 : RowKit.Hid (B3 < w2.heap.size) := Lib.hid (by have := HB3W.out; omega)
        have HHD := Lib.hid (((Touch.refl wr (fun _ => False)).drew).keeps HHD.out (fun h => h))
        have HO := Lib.hid (HO.out.still ((Touch.refl wr (fun _ => False)).drew))
        have hlI : (j : Int) < N := by omega
        have hsz : w2.heap.size ≤ wr.heap.size := HT.out.size
        have hwk : wrap64 ((j : Int) + 1) = (j : Int) + 1 := by unfold wrap64; omega
        have HWK := Lib.hid hwk
        clear hrow hx hxG hxM hin htk hb1 hne1 hown1 hz2 hz3 hwk
        go_upto_region 7 with (fail)
        clear d0
        have hS := (Touch.refl wr (fun x => x = B3 ∨ (Value.slice a j c).ownBlock = some x)).drew
        refine wp_region_tree (fun w' => Touch wr w' (fun x => x = B3 ∨ (Value.slice a j c).ownBlock = some x)) (.take 0 (.take 2 (.take 3 (.take 4 (.take 5 (.take 6 (.take 7 (.take 8 (.take 9 (.two 1 10 (.one 10 (.one 11 (.take 12 (.one 13 .fin)))) (.one 1 (.one 11 (.take 12 (.one 13 .fin)))))))))))))) (by kernel_rfl) (by kernel_rfl) (by kernel_rfl) (by kernel_rfl) hS ?_
        refine walkT_take ?_
        (refine takeN_take (v := ?_) (some 30) rfl rfl (fun _ _ _ h => h) (by rfl) ?_ ?_; rotate_left; (focus (intro w' hw'; have y2 := HC2.out w' hw'; have y3 := HGT.out w' hw'; go_simp; (try with_reducible rfl))); (try simp only [Act.put, List.setIfInBounds_toArray, List.set_cons_zero, List.set_cons_succ]))
        refine walkT_take ?_
        (refine takeN_take (v := ?_) (some 32) rfl rfl (fun _ _ _ h => h) (by rfl) ?_ ?_; rotate_left; (focus (intro w' hw'; have y2 := HC2.out w' hw'; have y3 := HGT.out w' hw'; go_simp; (try with_reducible rfl))); (try simp only [Act.put, List.setIfInBounds_toArray, List.set_cons_zero, List.set_cons_succ]))
        refine walkT_take ?_
        (refine takeN_take (v := ?_) (some 33) rfl rfl (fun _ _ _ h => h) (by rfl) ?_ ?_; rotate_left; (focus (intro w' hw'; have y2 := HC2.out w' hw'; have y3 := HGT.out w' hw'; go_simp; (try with_reducible rfl))); (try simp only [Act.put, List.setIfInBounds_toArray, List.set_cons_zero, List.set_cons_succ]))
        refine walkT_take ?_
        (refine takeN_take (v := ?_) (some 34) rfl rfl (fun _ _ _ h => h) (by rfl) ?_ ?_; rotate_left; (focus (intro w' hw'; have y2 := HC2.out w' hw'; have y3 := HGT.out w' hw'; go_simp; (try with_reducible rfl))); (try simp only [Act.put, List.setIfInBounds_toArray, List.set_cons_zero, List.set_cons_succ]))
        refine walkT_take ?_
        (refine takeN_take (v := ?_) (some 35) rfl rfl (fun _ _ _ h => h) (by rfl) ?_ ?_; rotate_left; (focus (intro w' hw'; have y2 := HC2.out w' hw'; have y3 := HGT.out w' hw'; go_simp; (try with_reducible rfl))); (try simp only [Act.put, List.setIfInBounds_toArray, List.set_cons_zero, List.set_cons_succ]))
        refine walkT_take ?_
        (refine takeN_take (v := ?_) (some 36) rfl rfl (fun _ _ _ h => h) (by rfl) ?_ ?_; rotate_left; (focus (intro w' hw'; have y2 := HC2.out w' hw'; have y3 := HGT.out w' hw'; go_simp; (try with_reducible rfl))); (try simp only [Act.put, List.setIfInBounds_toArray, List.set_cons_zero, List.set_cons_succ]))
        refine walkT_take ?_
        (refine takeN_take (v := ?_) (some 37) rfl rfl (fun _ _ _ h => h) (by rfl) ?_ ?_; rotate_left; (focus (intro w' hw'; have y2 := HC2.out w' hw'; have y3 := HGT.out w' hw'; go_simp; (try with_reducible rfl))); (try simp only [Act.put, List.setIfInBounds_toArray, List.set_cons_zero, List.set_cons_succ]))
        refine walkT_take ?_
        (refine takeN_take (v := ?_) (some 38) rfl rfl (fun _ _ _ h => h) (by rfl) ?_ ?_; rotate_left; (focus (intro w' hw'; have y2 := HC2.out w' hw'; have y3 := HGT.out w' hw'; go_simp; (try with_reducible rfl))); (try simp only [Act.put, List.setIfInBounds_toArray, List.set_cons_zero, List.set_cons_succ]))
        refine walkT_take ?_
        (refine takeN_take (v := ?_) (some 39) rfl rfl (fun _ _ _ h => h) (by rfl) ?_ ?_; rotate_left; (focus (intro w' hw'; have y2 := HC2.out w' hw'; have y3 := HGT.out w' hw'; go_simp; (try with_reducible rfl))); (try simp only [Act.put, List.setIfInBounds_toArray, List.set_cons_zero, List.set_cons_succ]))
        refine walkT_two ?_ ?_
        · (have cc := cell_of_cells HHD.out 2; refine runN_do (v := .slice a j c) (w' := _) (some 31) rfl rfl (by rfl) (by go_simp; (try with_reducible rfl)) hS (fun hS => ?_); clear cc; (try simp only [Act.put, List.setIfInBounds_toArray, List.set_cons_zero, List.set_cons_succ]))
          refine walkT_one ?_
          (refine runN_new 40 (fun W => .slice (some ⟨W.heap.size, 0, none⟩) 1 1) #[.int .i64 x.b, .int .i64 x.u] 93 rfl rfl (by rfl) (by intro W; go_simp <;> first | with_reducible rfl | rfl | exact ⟨rfl, rfl⟩) ?_; intro w8 hw8 hM8 hs8 t8; have hS := hS.trans t8 (fun _ _ h => h.elim); refine ⟨hS, fun _ => ?_⟩; have HNW := Lib.hid (show RowS w8 _ 1 1 2 [dcl x] from hw8 ▸ row_oneD _ _); have HHD := Lib.hid (t8.keeps HHD.out (fun h => h)); have HO := Lib.hid (HO.out.still t8); clear hw8 hM8 hs8 t8; (try simp only [Act.put, List.setIfInBounds_toArray, List.set_cons_zero, List.set_cons_succ]))
          refine walkT_one ?_
          (refine runN_appS 41 (.tmp 31) (.tmp 40) _ rfl rfl rfl (by rfl) 93 Tryz.underlying32 (.agg #[.int .i64 0, .int .i64 0]) 2 16 infoDrain rfl (by decide) w2.heap.size _ _ rfl HO.out _ 1 1 _ rfl HNW.out (one_dcl x) (j + 1) ((G.take (j + 1)).map dcl) HTK.out HLJ.out (by simp only [maxLen]; omega) (by omega) (Nat.le_trans HT.out.size hS.size) ?_; intro a5 c5 w9 how9 hg9 hp9; have t9 := (Touch.refl _ (fun x => (Value.slice a j c).ownBlock = some x)).grown hg9 (fun x hx _ => hx); have HPL := Lib.hid (fun b hb => (hp9 b hb).imp (fun h => h) (fun hh => Nat.le_trans hS.size hh)); have hS := hS.trans t9 (fun x _ hx => .inr hx); refine ⟨hS, fun _ => ?_⟩; have HHD := Lib.hid (t9.keeps HHD.out (fun e => HDC.out e)); have HO := Lib.hid how9; clear how9 hg9 hp9 t9 HNW; (try simp only [Act.put, List.setIfInBounds_toArray, List.set_cons_zero, List.set_cons_succ]))
          refine walkT_take ?_
          (refine takeN_take (v := ?_) (some 42) rfl rfl (fun _ _ _ h => h) (by rfl) ?_ ?_; rotate_left; (focus (intro w' hw'; have y2 := HC2.out w' hw'; have y3 := HGT.out w' hw'; go_simp; (try with_reducible rfl))); (try simp only [Act.put, List.setIfInBounds_toArray, List.set_cons_zero, List.set_cons_succ]))
          refine walkT_one ?_
          (have cc := cell_of_cells HHD.out 2; have ff := free_of_cells HHD.out 2; refine runN_skip0 none rfl rfl (by rfl) (w' := World.setCell w9 ⟨B3, 2, none⟩ (.slice a5 (j + 1) c5)) (by go_simp; (try with_reducible rfl)) ?_ ?_; (exact hS.setCell _ _ (fun _ => .inl rfl)); clear cc ff; intro hS; have t6 := (Touch.refl w9 (fun x => x = B3)).setCell ⟨B3, 2, none⟩ (.slice a5 (j + 1) c5) (fun _ => rfl); have HHD := Lib.hid (heap_setCell_same _ B3 2 _ _ (.slice a5 (j + 1) c5) HHD.out); have HO := Lib.hid (HO.out.touch t6 (fun x hx e => by have e : x = B3 := e; rcases HPL.out x hx with h1 | h1; exact HDC.out (e ▸ h1); (have := HB3.out; have := HT.out.size; omega))); clear t6; (try simp only [Act.put, List.setIfInBounds_toArray, List.set_cons_zero, List.set_cons_succ]))
          refine walkT_fin ?_
          obtain ⟨wz, hwz⟩ : ∃ W, World.setCell w9 ⟨B3, 2, none⟩ (.slice a5 (j + 1) c5) = W := ⟨_, rfl⟩
          rw [hwz] at hS HHD HO ⊢
          clear hwz
          have HX : RowKit.Hid (∃ (j' : Nat) (a : Option Addr) (c : Nat), j' ≤ N ∧ Value.int .i64 ((j : Int) + 1) = .int .i64 j' ∧ wz.heap[B3]? = some (.cells #[.int .i64 s.gen, .slice a1 s.bs.length c1, .slice a j' c, .slice none 0 0] 35 (0, 0)) ∧ OwnS wz w2.heap.size 93 2 (.slice a j' c) ((G.take j').map dcl) ∧ Touch w2 wz (fun x => x = B3)) := Lib.hid ⟨j + 1, a5, c5, by omega, by go_num, HHD.out, HO.out, HT.out.trans hS (fun x hx e => by
            rcases e with e | e
            · exact e
            · have h1 := (HOJ.out.own.lt _ e).1; omega)⟩
          go_wp2_with fail
          try rw [HWK.out]
          go_roundw
          · exact HX.out
          · simp only [RowKit.intOf]; omega
        · (refine runN_new 40 (fun W => .slice (some ⟨W.heap.size, 0, none⟩) 1 1) #[.int .i64 x.b, .int .i64 x.u] 93 rfl rfl (by rfl) (by intro W; go_simp <;> first | with_reducible rfl | rfl | exact ⟨rfl, rfl⟩) ?_; intro w8 hw8 hM8 hs8 t8; have hS := hS.trans t8 (fun _ _ h => h.elim); refine ⟨hS, fun _ => ?_⟩; have HNW := Lib.hid (show RowS w8 _ 1 1 2 [dcl x] from hw8 ▸ row_oneD _ _); have HHD := Lib.hid (t8.keeps HHD.out (fun h => h)); have HO := Lib.hid (HO.out.still t8); clear hw8 hM8 hs8 t8; (try simp only [Act.put, List.setIfInBounds_toArray, List.set_cons_zero, List.set_cons_succ]))
          refine walkT_one ?_
          (have cc := cell_of_cells HHD.out 2; refine runN_do (v := .slice a j c) (w' := _) (some 31) rfl rfl (by rfl) (by go_simp; (try with_reducible rfl)) hS (fun hS => ?_); clear cc; (try simp only [Act.put, List.setIfInBounds_toArray, List.set_cons_zero, List.set_cons_succ]))
          refine walkT_one ?_
          (refine runN_appS 41 (.tmp 31) (.tmp 40) _ rfl rfl rfl (by rfl) 93 Tryz.underlying32 (.agg #[.int .i64 0, .int .i64 0]) 2 16 infoDrain rfl (by decide) w2.heap.size _ _ rfl HO.out _ 1 1 _ rfl HNW.out (one_dcl x) (j + 1) ((G.take (j + 1)).map dcl) HTK.out HLJ.out (by simp only [maxLen]; omega) (by omega) (Nat.le_trans HT.out.size hS.size) ?_; intro a5 c5 w9 how9 hg9 hp9; have t9 := (Touch.refl _ (fun x => (Value.slice a j c).ownBlock = some x)).grown hg9 (fun x hx _ => hx); have HPL := Lib.hid (fun b hb => (hp9 b hb).imp (fun h => h) (fun hh => Nat.le_trans hS.size hh)); have hS := hS.trans t9 (fun x _ hx => .inr hx); refine ⟨hS, fun _ => ?_⟩; have HHD := Lib.hid (t9.keeps HHD.out (fun e => HDC.out e)); have HO := Lib.hid how9; clear how9 hg9 hp9 t9 HNW; (try simp only [Act.put, List.setIfInBounds_toArray, List.set_cons_zero, List.set_cons_succ]))
          refine walkT_take ?_
          (refine takeN_take (v := ?_) (some 42) rfl rfl (fun _ _ _ h => h) (by rfl) ?_ ?_; rotate_left; (focus (intro w' hw'; have y2 := HC2.out w' hw'; have y3 := HGT.out w' hw'; go_simp; (try with_reducible rfl))); (try simp only [Act.put, List.setIfInBounds_toArray, List.set_cons_zero, List.set_cons_succ]))
          refine walkT_one ?_
          (have cc := cell_of_cells HHD.out 2; have ff := free_of_cells HHD.out 2; refine runN_skip0 none rfl rfl (by rfl) (w' := World.setCell w9 ⟨B3, 2, none⟩ (.slice a5 (j + 1) c5)) (by go_simp; (try with_reducible rfl)) ?_ ?_; (exact hS.setCell _ _ (fun _ => .inl rfl)); clear cc ff; intro hS; have t6 := (Touch.refl w9 (fun x => x = B3)).setCell ⟨B3, 2, none⟩ (.slice a5 (j + 1) c5) (fun _ => rfl); have HHD := Lib.hid (heap_setCell_same _ B3 2 _ _ (.slice a5 (j + 1) c5) HHD.out); have HO := Lib.hid (HO.out.touch t6 (fun x hx e => by have e : x = B3 := e; rcases HPL.out x hx with h1 | h1; exact HDC.out (e ▸ h1); (have := HB3.out; have := HT.out.size; omega))); clear t6; (try simp only [Act.put, List.setIfInBounds_toArray, List.set_cons_zero, List.set_cons_succ]))
          refine walkT_fin ?_
          obtain ⟨wz, hwz⟩ : ∃ W, World.setCell w9 ⟨B3, 2, none⟩ (.slice a5 (j + 1) c5) = W := ⟨_, rfl⟩
          rw [hwz] at hS HHD HO ⊢
          clear hwz
          have HX : RowKit.Hid (∃ (j' : Nat) (a : Option Addr) (c : Nat), j' ≤ N ∧ Value.int .i64 ((j : Int) + 1) = .int .i64 j' ∧ wz.heap[B3]? = some (.cells #[.int .i64 s.gen, .slice a1 s.bs.length c1, .slice a j' c, .slice none 0 0] 35 (0, 0)) ∧ OwnS wz w2.heap.size 93 2 (.slice a j' c) ((G.take j').map dcl) ∧ Touch w2 wz (fun x => x = B3)) := Lib.hid ⟨j + 1, a5, c5, by omega, by go_num, HHD.out, HO.out, HT.out.trans hS (fun x hx e => by
            rcases e with e | e
            · exact e
            · have h1 := (HOJ.out.own.lt _ e).1; omega)⟩
          go_wp2_with fail
          try rw [HWK.out]
          go_roundw
          · exact HX.out
          · simp only [RowKit.intOf]; omega
end Go.Proofs.YtdhimlkndpiacaaGreat
