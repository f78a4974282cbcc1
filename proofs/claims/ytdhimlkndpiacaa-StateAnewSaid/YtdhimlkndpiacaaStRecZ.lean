/- Records of a state; what is applied in turn. -/
import Derived.Test.YtdhimlkndpiacaaStRecsZ
set_option linter.unusedVariables false
set_option linter.unusedSimpArgs false
namespace Go.Proofs.Ytdhimlkndpiacaa
open Go.RowKit

set_option maxRecDepth 20000 in
set_option maxHeartbeats 8000000 in
theorem strecs_any (w : World) (b : Nat) (h : StH) (s : StS) (m : StM w b h s) :
    Calls Try.prog 11 #[.pointer (some ⟨b, 0, none⟩)] w fun e w' => ∃ a1 c1 a c, e = .returned (.slice a (1 + s.D.length + s.F.length) c) ∧ OwnS w' w.heap.size 29 14 (.slice a (1 + s.D.length + s.F.length) c) ((recsV (vwS s) a1 c1).map RecB.cells) ∧ RowK w' a1 s.bs.length c1 s.bs ∧ (∀ x, a1 = some x → w.heap.size ≤ x.block) ∧ Touch w w' (fun _ => False) := by
  have HV := Lib.hid (stvw_any w b h s m)
  have e2 : (vwS s).D.length = s.D.length := (srtD_perm _).length_eq
  have e3 : (vwS s).F.length = s.F.length := (srtF_perm _).length_eq
  have HE := Lib.hid (And.intro e2 e3)
  have HB : RowKit.Hid (s.D.length ≤ 100000 ∧ s.F.length ≤ 100000) := Lib.hid ⟨by have := m.ok.dl; omega, by have := m.ok.fl; omega⟩
  clear m e2 e3
  go_enter Try.func11, Try.ntmps11
  go_wp2_with fail
  (with_reducible refine HV.out.mono ?_)
  rintro e w2 ⟨a1, c1, a2, c2, a3, c3, rfl, ⟨va, vn⟩, t2⟩
  have HR := Lib.hid (records_any w2 (vwS s) a1 c1 a2 c2 a3 c3 va (by rw [HE.out.1]; exact HB.out.1) (by rw [HE.out.2]; exact HB.out.2))
  have HVB := Lib.hid va.b
  have HVN := Lib.hid vn.1
  have HT2 := Lib.hid t2
  clear va vn t2
  go_wp2_with fail
  (with_reducible refine HR.out.mono ?_)
  rintro e w3 ⟨a, c, rfl, o3, t3⟩
  have HO3 := Lib.hid o3
  have HT3 := Lib.hid t3
  clear o3 t3
  go_wp2_with fail
  go_ret
  have ho := HO3.out
  rw [HE.out.1, HE.out.2] at ho
  refine ⟨a1, c1, a, c, ?_, ho.rebase (fun x hx => Nat.le_trans HT2.out.size (ho.own.lt x hx).1), HVB.out.still HT3.out, HVN.out, HT2.out.trans HT3.out (fun _ _ h => h)⟩
  rw [← HE.out.1, ← HE.out.2]; rfl
/-- Records, applied in turn up to the first that is refused. -/
def ofR : List RecB → StS → Int × StS
  | [], s => (0, s)
  | x :: l, s => if stE s x.r = 0 then ofR l (stS s x.r) else (stE s x.r, s)
theorem ofR_cons (x : RecB) (l : List RecB) (s : StS) : ofR (x :: l) s = if stE s x.r = 0 then ofR l (stS s x.r) else (stE s x.r, s) := rfl
theorem ofR_app {l m : List RecB} {s : StS} (h : (ofR l s).1 = 0) : ofR (l ++ m) s = ofR m (ofR l s).2 := by
  induction l generalizing s with
  | nil => rfl
  | cons x l ih =>
    rw [ofR_cons] at h
    rw [List.cons_append, ofR_cons, ofR_cons]
    by_cases h0 : stE s x.r = 0
    · rw [if_pos h0] at h
      rw [if_pos h0, if_pos h0]
      exact ih h
    · rw [if_neg h0] at h; exact absurd h h0
theorem stS_ok {s : StS} {r : RecD} (h : stE s r = 0) : stS s r = stDo s r := by unfold stS; rw [if_pos h]
theorem ofR_dr {D : List DR} {s : StS} (hm : ∀ d ∈ D, mayDr d = true) (hn : (D.map DR.b).Nodup) (hs : ∀ d ∈ D, hasD s.D d.b = false) (hl : s.D.length + D.length ≤ 16) :
    ofR (D.map drR) s = (0, { s with D := D.reverse ++ s.D }) := by
  induction D generalizing s with
  | nil => rfl
  | cons d D ih =>
    have h1 : mayRB (drR d).r = true := by
      have := hm d (List.mem_cons_self ..)
      unfold mayDr at this
      exact this
    obtain ⟨e1, e2⟩ := st_4 (s := s) h1 rfl
    have hd := hs d (List.mem_cons_self ..)
    rw [List.length_cons] at hl
    have hp : stDrE s.D (drR d).r.be = 0 := by
      show (if hasD s.D d.b then (0 : Int) else if 16 ≤ s.D.length then 9 else 0) = 0
      rw [hd, if_neg (by decide), if_neg (by omega)]
    have hz : stDrD s.D ⟨(drR d).r.be, (drR d).r.un⟩ = d :: s.D := by
      unfold stDrD
      rw [show (⟨(drR d).r.be, (drR d).r.un⟩ : DR).b = (drR d).r.be from rfl, hp, if_pos rfl]
      show d :: delD s.D d.b = _
      rw [delD_none (fun h => by rw [← hasD_iff, hd] at h; cases h)]
    rw [hz] at e2
    rw [List.map_cons] at hn ⊢
    rw [ofR_cons, if_pos (e1.trans hp), e2]
    have hn2 := List.nodup_cons.1 hn
    rw [ih (s := { s with D := d :: s.D }) (fun y hy => hm y (List.mem_cons_of_mem _ hy)) hn2.2 (fun y hy => ?_) (by show (d :: s.D).length + D.length ≤ 16; rw [List.length_cons]; omega)]
    · simp
    · have h3 := hs y (List.mem_cons_of_mem _ hy)
      rw [Bool.eq_false_iff]
      intro h4
      rcases List.mem_cons.1 ((hasD_iff _ _).1 h4) with e | e
      · exact hn2.1 (e ▸ List.mem_map_of_mem hy)
      · rw [(hasD_iff _ _).2 e] at h3; cases h3
theorem ofR_fl {F : List FlD} {s : StS} (hm : ∀ f ∈ F, mayFl f = true) (hn : (F.map FlD.t).Nodup) (hs : ∀ f ∈ F, hasF s.F f.t = false) (hl : s.F.length + F.length ≤ 256) :
    ofR (F.map flR) s = (0, { s with F := F.reverse ++ s.F }) := by
  induction F generalizing s with
  | nil => rfl
  | cons f F ih =>
    have h1 : mayRB (flR f).r = true := hm f (List.mem_cons_self ..)
    obtain ⟨e1, e2⟩ := st_1 (s := s) h1 rfl
    have hd := hs f (List.mem_cons_self ..)
    rw [List.length_cons] at hl
    have hp : stPutE s.F (flR f).r.t = 0 := by
      show (if hasF s.F f.t then (0 : Int) else if 256 ≤ s.F.length then 9 else 0) = 0
      rw [hd, if_neg (by decide), if_neg (by omega)]
    have hz : stPutF s.F (flOf (flR f).r) = f :: s.F := by
      unfold stPutF
      rw [show (flOf (flR f).r).t = (flR f).r.t from rfl, hp, if_pos rfl]
      show f :: delF s.F f.t = _
      rw [delF_none (fun h => by rw [← hasF_iff, hd] at h; cases h)]
    rw [hz] at e2
    rw [List.map_cons] at hn ⊢
    rw [ofR_cons, if_pos (e1.trans hp), e2]
    have hn2 := List.nodup_cons.1 hn
    rw [ih (s := { s with F := f :: s.F }) (fun y hy => hm y (List.mem_cons_of_mem _ hy)) hn2.2 (fun y hy => ?_) (by show (f :: s.F).length + F.length ≤ 256; rw [List.length_cons]; omega)]
    · simp
    · have h3 := hs y (List.mem_cons_of_mem _ hy)
      rw [Bool.eq_false_iff]
      intro h4
      rcases List.mem_cons.1 ((hasF_iff _ _).1 h4) with e | e
      · exact hn2.1 (e ▸ List.mem_map_of_mem hy)
      · rw [(hasF_iff _ _).2 e] at h3; cases h3
/-- Orders that are unique. -/
theorem srtD_uniq {A B : List DR} (hp : A.Perm B) (hn : (A.map DR.b).Nodup) : srtD A = srtD B := by
  have h1 := srtD_sort hn
  have h2 := srtD_sort ((hp.map DR.b).nodup_iff.1 hn)
  exact List.Perm.eq_of_pairwise (le := fun a b : DR => a.b < b.b) (fun a b _ _ x y => by omega) h1 h2 ((srtD_perm A).trans (hp.trans (srtD_perm B).symm))
theorem srtF_uniq {A B : List FlD} (hp : A.Perm B) (hn : (A.map FlD.t).Nodup) : srtF A = srtF B := by
  have h1 := srtF_sort hn
  have h2 := srtF_sort ((hp.map FlD.t).nodup_iff.1 hn)
  exact strict_ext ((srtF_perm A).trans (hp.trans (srtF_perm B).symm)) h1 h2
/-- ITS RECORDS MAKE THE STATE ANEW. -/
theorem ofR_vw {s : StS} (o : StOk s) (a : Option Addr) (c : Nat) : (ofR (recsV (vwS s) a c) stZ).1 = 0 ∧ vwS (ofR (recsV (vwS s) a c) stZ).2 = vwS s := by
  have hg : stE stZ (geR (vwS s) a c).r = 0 ∧ stS stZ (geR (vwS s) a c).r = ⟨s.gen, s.bs, [], []⟩ := by
    have hb := (gmay_iff _).1 o.bs
    have h1 : mayRB (geR (vwS s) a c).r = true := by
      show (cntB s.gen && decide (s.bs.length ≤ 16) && s.bs.all mayKB) = true
      have h2 : s.bs.all mayKB = true := by
        rw [List.all_eq_true]
        intro b hb'
        obtain ⟨i, hi, rfl⟩ := List.getElem_of_mem hb'
        have h3 := hb.2 i hi
        unfold okAt at h3
        rw [List.getElem?_eq_getElem hi] at h3
        simp only [Bool.and_eq_true] at h3
        exact h3.1
      rw [o.gen, h2, decide_eq_true hb.1]; rfl
    obtain ⟨e1, e2⟩ := st_3 (s := stZ) h1 rfl
    have e3 : stFoE (geR (vwS s) a c).r.bs = 0 := by
      show (if gmay s.bs then (0 : Int) else 1) = 0
      rw [o.bs]; rfl
    refine ⟨e1.trans e3, e2.trans ?_⟩
    show (if gmay s.bs then _ else _) = _
    rw [o.bs]; rfl
  have hD := srtD_perm s.D
  have hF := srtF_perm s.F
  have h2 : ofR (recsV (vwS s) a c) stZ = (0, ⟨s.gen, s.bs, (srtD s.D).reverse, (srtF s.F).reverse⟩) := by
    unfold recsV
    rw [ofR_cons, if_pos hg.1, hg.2]
    have h3 := ofR_dr (D := (vwS s).D) (s := ⟨s.gen, s.bs, [], []⟩) (fun d hd => o.dk d (hD.mem_iff.1 hd)) ((hD.map DR.b).nodup_iff.2 o.dn) (fun d hd => rfl) (by show 0 + (srtD s.D).length ≤ 16; rw [hD.length_eq]; have := o.dl; omega)
    rw [ofR_app (by rw [h3]), h3]
    have h4 := ofR_fl (F := (vwS s).F) (s := ⟨s.gen, s.bs, (srtD s.D).reverse ++ [], []⟩) (fun f hf => o.fk f (hF.mem_iff.1 hf)) ((hF.map FlD.t).nodup_iff.2 o.fn) (fun f hf => rfl) (by show 0 + (srtF s.F).length ≤ 256; rw [hF.length_eq]; have := o.fl; omega)
    refine h4.trans ?_
    simp [vwS]
  rw [h2]
  refine ⟨rfl, ?_⟩
  have p1 : ((srtD s.D).reverse).Perm s.D := (List.reverse_perm _).trans hD
  have p2 : ((srtF s.F).reverse).Perm s.F := (List.reverse_perm _).trans hF
  unfold vwS
  simp only
  rw [srtD_uniq p1 ((p1.map DR.b).nodup_iff.2 o.dn), srtF_uniq p2 ((p2.map FlD.t).nodup_iff.2 o.fn)]
/-- What is applied twice is as applied once. -/
theorem st_twice {s : StS} (o : StOk s) {r : RecD} (h : stE s r = 0) : stE (stS s r) r = 0 ∧ stS (stS s r) r = stS s r := by
  have hm : mayRB r = true := by
    cases e : mayRB r with
    | true => rfl
    | false => unfold stE at h; rw [if_pos e] at h; cases h
  by_cases h1 : r.kind = 1
  · obtain ⟨e1, e2⟩ := st_1 (s := s) hm h1
    have hp : stPutE s.F r.t = 0 := e1.symm.trans h
    have hF : stPutF s.F (flOf r) = flOf r :: delF s.F r.t := by
      unfold stPutF
      rw [show (flOf r).t = r.t from rfl, hp, if_pos rfl]
    rw [hF] at e2
    rw [e2]
    obtain ⟨f1, f2⟩ := st_1 (s := { s with F := flOf r :: delF s.F r.t }) hm h1
    have hh : hasF (flOf r :: delF s.F r.t) r.t = true := by rw [hasF_consA]; simp [flOf]
    have hp2 : stPutE (flOf r :: delF s.F r.t) r.t = 0 := by unfold stPutE; rw [hh]; rfl
    refine ⟨f1.trans hp2, f2.trans ?_⟩
    have hd : delF (flOf r :: delF s.F r.t) r.t = delF s.F r.t := by
      unfold delF
      rw [List.filter_cons]
      simp [flOf]
    unfold stPutF
    rw [show (flOf r).t = r.t from rfl, hp2, if_pos rfl, hd]
  by_cases h2 : r.kind = 2
  · obtain ⟨e1, e2⟩ := st_2 (s := s) hm h2
    rw [e2]
    obtain ⟨f1, f2⟩ := st_2 (s := { s with F := delF s.F r.t }) hm h2
    refine ⟨f1, f2.trans ?_⟩
    have hd : delF (delF s.F r.t) r.t = delF s.F r.t := by unfold delF; simp
    rw [hd]
  by_cases h3 : r.kind = 3
  · obtain ⟨e1, e2⟩ := st_3 (s := s) hm h3
    have hg : gmay r.bs = true := by
      cases e : gmay r.bs with
      | true => rfl
      | false => rw [h] at e1; unfold stFoE at e1; rw [e] at e1; cases e1
    have e3 : stFoS s r.gen r.bs = { s with gen := r.gen, bs := r.bs } := by unfold stFoS; rw [hg]; rfl
    rw [e3] at e2
    rw [e2]
    obtain ⟨f1, f2⟩ := st_3 (s := { s with gen := r.gen, bs := r.bs }) hm h3
    refine ⟨f1.trans (by unfold stFoE; rw [hg]; rfl), f2.trans ?_⟩
    unfold stFoS; rw [hg]; rfl
  by_cases h4 : r.kind = 4
  · obtain ⟨e1, e2⟩ := st_4 (s := s) hm h4
    have hp : stDrE s.D r.be = 0 := e1.symm.trans h
    have hD : stDrD s.D ⟨r.be, r.un⟩ = ⟨r.be, r.un⟩ :: delD s.D r.be := by
      unfold stDrD
      rw [show (⟨r.be, r.un⟩ : DR).b = r.be from rfl, hp, if_pos rfl]
    rw [hD] at e2
    rw [e2]
    obtain ⟨f1, f2⟩ := st_4 (s := { s with D := ⟨r.be, r.un⟩ :: delD s.D r.be }) hm h4
    have hh : hasD ((⟨r.be, r.un⟩ : DR) :: delD s.D r.be) r.be = true := by rw [hasD_iff]; exact List.mem_cons_self ..
    have hp2 : stDrE ((⟨r.be, r.un⟩ : DR) :: delD s.D r.be) r.be = 0 := by unfold stDrE; rw [hh]; rfl
    refine ⟨f1.trans hp2, f2.trans ?_⟩
    have hd : delD ((⟨r.be, r.un⟩ : DR) :: delD s.D r.be) r.be = delD s.D r.be := by
      unfold delD
      rw [List.filter_cons]
      simp
    unfold stDrD
    rw [show (⟨r.be, r.un⟩ : DR).b = r.be from rfl, hp2, if_pos rfl, hd]
  by_cases h5 : r.kind = 5
  · obtain ⟨e1, e2⟩ := st_5 (s := s) hm h5
    rw [e2]
    obtain ⟨f1, f2⟩ := st_5 (s := { s with D := delD s.D r.be }) hm h5
    refine ⟨f1, f2.trans ?_⟩
    have hd : delD (delD s.D r.be) r.be = delD s.D r.be := by unfold delD; simp
    rw [hd]
  · obtain ⟨e1, _⟩ := st_6 (s := s) hm h1 h2 h3 h4 h5
    rw [h] at e1; cases e1
end Go.Proofs.Ytdhimlkndpiacaa
