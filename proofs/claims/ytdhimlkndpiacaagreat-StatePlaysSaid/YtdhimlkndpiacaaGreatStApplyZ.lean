/- The state's Apply. -/
import Derived.Test.YtdhimlkndpiacaaGreatStPutZ
set_option linter.unusedVariables false
set_option linter.unusedSimpArgs false
namespace Go.Proofs.YtdhimlkndpiacaaGreat
open Go.RowKit

theorem mapS_some (m : Nat) (w : World) : (binOp BinOp.eql 61 (.map (some m)) (.map none)).run Tryz.prog w = .ok (.bool false) w := by kernel_rfl
theorem infoRec14 (r : RecD) (a : Option Addr) (cap : Nat) : (Tryz.prog.info? 41).map (·.size) = some (rcs r a cap).size := infoRec
section
variable {w w' w2 : World} {b0 : Nat} {h : StH} {s : StS} {r : RecD}
theorem stTo_fl {F : List FlD} (m : StM w b0 h s) (t : Touch w w' (fun k => k = h.fm)) (o : OwnFl w' h.fm F) (ok : StOk { s with F := F }) : StTo w w' b0 h { s with F := F } :=
  ⟨h, ⟨t.keeps m.head m.ne.2.1, m.dr.touch t m.ne.2.2, o, m.bk.touch t (fun x hx => (m.bo x hx).imp (fun h => h) (fun h => h.2.2)), m.bo, m.ne, ok⟩, rfl, rfl, t.mono (fun k _ e => .inr (.inr e))⟩
theorem stTo_dr {D : List DR} (m : StM w b0 h s) (t : Touch w w' (fun k => k = h.dm)) (o : OwnZ w' 3 2 h.dm D) (ok : StOk { s with D := D }) : StTo w w' b0 h { s with D := D } :=
  ⟨h, ⟨t.keeps m.head m.ne.1, o, m.fl.touch t (fun e => m.ne.2.2 e.symm), m.bk.touch t (fun x hx => (m.bo x hx).imp (fun h => h) (fun h => h.2.1)), m.bo, m.ne, ok⟩, rfl, rfl, t.mono (fun k _ e => .inr (.inl e))⟩
theorem StTo.pre {s' : StS} (t : Touch w w2 (fun _ => False)) (x : StTo w2 w' b0 h s') : StTo w w' b0 h s' := by
  obtain ⟨h', m', e1, e2, t'⟩ := x
  exact ⟨h', m', e1, e2, (t.mono (fun _ _ h => h.elim)).trans t' (fun _ _ h => h)⟩
theorem StTo.post {s' : StS} (t : Touch w2 w' (fun _ => False)) (x : StTo w w2 b0 h s') : StTo w w' b0 h s' := by
  obtain ⟨h', m', e1, e2, t'⟩ := x
  exact ⟨h', m'.still t, e1, e2, t'.trans t (fun _ _ h => h.elim)⟩
theorem StM.to (m : StM w b0 h s) (t : Touch w w' (fun _ => False)) : StTo w w' b0 h s := ⟨h, m.still t, rfl, rfl, t.mono (fun _ _ h => h.elim)⟩
theorem stS_bad (h0 : stE s r ≠ 0) : stS s r = s := by unfold stS; rw [if_neg h0]
theorem st_no (hm : mayRB r = false) : stE s r = 1 ∧ stS s r = s := by
  have e : stE s r = 1 := by unfold stE; rw [if_pos hm]
  exact ⟨e, stS_bad (by rw [e]; decide)⟩
theorem st_1 (hm : mayRB r = true) (hk : r.kind = 1) : stE s r = stPutE s.F r.t ∧ stS s r = { s with F := stPutF s.F (flOf r) } := by
  have e : stE s r = stPutE s.F r.t := by unfold stE; rw [if_neg (by rw [hm]; decide), if_pos hk]
  refine ⟨e, ?_⟩
  unfold stS stPutF
  rw [e]
  show _ = { s with F := if stPutE s.F r.t = 0 then _ else _ }
  by_cases h0 : stPutE s.F r.t = 0
  · rw [if_pos h0, if_pos h0]; unfold stDo; rw [if_pos hk]; rfl
  · rw [if_neg h0, if_neg h0]
theorem st_2 (hm : mayRB r = true) (hk : r.kind = 2) : stE s r = 0 ∧ stS s r = { s with F := delF s.F r.t } := by
  have e : stE s r = 0 := by unfold stE; rw [if_neg (by rw [hm]; decide), if_neg (by omega), if_pos hk]
  refine ⟨e, ?_⟩
  unfold stS; rw [if_pos e]; unfold stDo; rw [if_neg (by omega), if_pos hk]
theorem st_3 (hm : mayRB r = true) (hk : r.kind = 3) : stE s r = stFoE r.bs ∧ stS s r = stFoS s r.gen r.bs := by
  have e : stE s r = (if gmay r.bs then 0 else 1) := by unfold stE; rw [if_neg (by rw [hm]; decide), if_neg (by omega), if_neg (by omega), if_pos hk]
  refine ⟨e, ?_⟩
  unfold stS stFoS; rw [e]
  cases hg : gmay r.bs
  · rfl
  · simp only [if_true]; unfold stDo; rw [if_neg (by omega), if_neg (by omega), if_pos hk]
theorem st_4 (hm : mayRB r = true) (hk : r.kind = 4) : stE s r = stDrE s.D r.be ∧ stS s r = { s with D := stDrD s.D ⟨r.be, r.un⟩ } := by
  have e : stE s r = stDrE s.D r.be := by unfold stE; rw [if_neg (by rw [hm]; decide), if_neg (by omega), if_neg (by omega), if_neg (by omega), if_pos hk]
  refine ⟨e, ?_⟩
  unfold stS stDrD
  rw [e]
  show _ = { s with D := if stDrE s.D r.be = 0 then _ else _ }
  by_cases h0 : stDrE s.D r.be = 0
  · rw [if_pos h0, if_pos h0]; unfold stDo; rw [if_neg (by omega), if_neg (by omega), if_neg (by omega), if_pos hk]
  · rw [if_neg h0, if_neg h0]
theorem st_5 (hm : mayRB r = true) (hk : r.kind = 5) : stE s r = 0 ∧ stS s r = { s with D := delD s.D r.be } := by
  have e : stE s r = 0 := by unfold stE; rw [if_neg (by rw [hm]; decide), if_neg (by omega), if_neg (by omega), if_neg (by omega), if_neg (by omega), if_pos hk]
  refine ⟨e, ?_⟩
  unfold stS; rw [if_pos e]; unfold stDo; rw [if_neg (by omega), if_neg (by omega), if_neg (by omega), if_neg (by omega), if_pos hk]
theorem st_6 (hm : mayRB r = true) (h1 : r.kind ≠ 1) (h2 : r.kind ≠ 2) (h3 : r.kind ≠ 3) (h4 : r.kind ≠ 4) (h5 : r.kind ≠ 5) : stE s r = 1 ∧ stS s r = s := by
  have e : stE s r = 1 := by unfold stE; rw [if_neg (by rw [hm]; decide), if_neg h1, if_neg h2, if_neg h3, if_neg h4, if_neg h5]
  exact ⟨e, stS_bad (by rw [e]; decide)⟩
end
set_option maxRecDepth 20000 in
set_option maxHeartbeats 16000000 in
theorem stapply_any (w : World) (b0 : Nat) (h : StH) (s : StS) (m : StM w b0 h s) (r : RecD) (a : Option Addr) (cap : Nat) (hr : RowK w a r.bs.length cap r.bs) (hl : r.bs.length ≤ 100000) (ok : RecOk r) :
    Calls Tryz.prog 8 #[.pointer (some ⟨b0, 0, none⟩), .agg (rcs r a cap)] w fun e w' => e = .returned (.int .i64 (stE s r)) ∧ StTo w w' b0 h (stS s r) := by
  obtain ⟨W1, hW1⟩ : ∃ W, w.alloc (.cells (rcs r a cap) 41) = W := ⟨_, rfl⟩
  have t1 : Touch w W1 (fun _ => False) := hW1 ▸ (Touch.refl w _).alloc _
  have g1 : W1.heap[w.heap.size]? = some (.cells (rcs r a cap) 41 (0, 0)) := hW1 ▸ heap_alloc_new ..
  have HMY := Lib.hid (mayR_any r a cap W1 (hr.still t1))
  have HGX : RowKit.Hid (∀ W, Touch W1 W (fun _ => False) → _) := Lib.hid (fun W t => rcells_of (t.keeps g1 (fun h => h)))
  have HG1 := Lib.hid g1
  have HI := Lib.hid (infoRec14 r a cap)
  have HM := Lib.hid m
  have HT1 := Lib.hid t1
  have HRR := Lib.hid hr
  have HOR := Lib.hid ok
  have HW1 := Lib.hid hW1
  have HSO := Lib.hid (m.ok.step r)
  have HMS := fun W => mapS_some h.fm W
  obtain ⟨y0, y1, y2, y3, y4, y5, y6, y7, y8, y9, y10, y11, y12, y13⟩ := rcells_of g1
  cases hm : mayRB r with
  | false =>
    obtain ⟨e1, e2⟩ := st_no (s := s) hm
    rw [hm] at HMY
    rw [e1, e2]
    clear m t1 g1 hr hW1 ok e1 e2 hm HGX
    obtain ⟨kind, ⟨a1, a2, a3, a4, a5⟩, fb, fg, fs, gen, bs, be, un, ct⟩ := r
    simp only [rcs] at *
    go_enter Tryz.func8, Tryz.ntmps8
    go_upto_region 1 with (fail)
    rw [HW1.out]
    go_wp2_with fail
    refine HMY.out.mono ?_
    rintro e w2 ⟨rfl, t2⟩
    have HR := Lib.hid (HM.out.to (HT1.out.trans t2 (fun _ _ h => h)))
    clear t2
    go_wp2_with fail
    go_ret
    exact ⟨rfl, HR.out⟩
  | true =>
    rw [hm] at HMY
    by_cases h1 : r.kind = 1
    · obtain ⟨e1, e2⟩ := st_1 (s := s) hm h1
      have HE : RowKit.Hid (stE s r = _) := Lib.hid e1
      have HSX : RowKit.Hid (stS s r = _) := Lib.hid e2
      have HOK := HSO
      clear e1 e2
      clear m t1 g1 hr hW1 ok hm
      obtain ⟨kind, ⟨a1, a2, a3, a4, a5⟩, fb, fg, fs, gen, bs, be, un, ct⟩ := r
      simp only [rcs, flOf] at *
      subst h1
      go_enter Tryz.func8, Tryz.ntmps8
      go_upto_region 1 with (fail)
      rw [HW1.out]
      go_wp2_with fail
      refine HMY.out.mono ?_
      rintro e w2 ⟨rfl, t2⟩
      have HTT := Lib.hid t2
      have HT2 := Lib.hid (HT1.out.trans t2 (fun _ _ h => h))
      have HM2 := Lib.hid (HM.out.still (HT1.out.trans t2 (fun _ _ h => h)))
      obtain ⟨c0, c1, c2, c3⟩ := HM2.out.cells
      clear t2 y0 y1 y2 y3 y4 y5 y6 y7 y8 y9 y10 y11 y12 y13
      obtain ⟨y0, y1, y2, y3, y4, y5, y6, y7, y8, y9, y10, y11, y12, y13⟩ := HGX.out w2 HTT.out
      try simp only at y0 y1 y2 y3 y4 y5 y6 y7 y8 y9 y10 y11 y12 y13
      have HPU := Lib.hid (stput_any w2 b0 h s HM2.out ⟨⟨a1, a2, a3, a4, a5⟩, fb, fg, fs⟩ HOR.out.t)
      simp only [fca] at HPU
      go_wp2_with fail
      (with_reducible refine HPU.out.mono ?_)
      rintro e w3 ⟨rfl, o3, t3⟩
      have HR := Lib.hid (stTo_fl HM2.out t3 o3 (HSX.out ▸ HOK.out))
      clear o3 t3
      go_wp2_with fail
      go_ret
      exact ⟨by rw [HE.out]; rfl, HSX.out ▸ StTo.pre HT2.out HR.out⟩
    by_cases h2 : r.kind = 2
    · obtain ⟨e1, e2⟩ := st_2 (s := s) hm h2
      have HE : RowKit.Hid (stE s r = _) := Lib.hid e1
      have HSX : RowKit.Hid (stS s r = _) := Lib.hid e2
      have HOK := HSO
      clear e1 e2
      clear m t1 g1 hr hW1 ok hm
      obtain ⟨kind, ⟨a1, a2, a3, a4, a5⟩, fb, fg, fs, gen, bs, be, un, ct⟩ := r
      simp only [rcs, flOf] at *
      subst h2
      go_enter Tryz.func8, Tryz.ntmps8
      go_upto_region 1 with (fail)
      rw [HW1.out]
      go_wp2_with fail
      refine HMY.out.mono ?_
      rintro e w2 ⟨rfl, t2⟩
      have HTT := Lib.hid t2
      have HT2 := Lib.hid (HT1.out.trans t2 (fun _ _ h => h))
      have HM2 := Lib.hid (HM.out.still (HT1.out.trans t2 (fun _ _ h => h)))
      obtain ⟨c0, c1, c2, c3⟩ := HM2.out.cells
      clear t2 y0 y1 y2 y3 y4 y5 y6 y7 y8 y9 y10 y11 y12 y13
      obtain ⟨y0, y1, y2, y3, y4, y5, y6, y7, y8, y9, y10, y11, y12, y13⟩ := HGX.out w2 HTT.out
      try simp only at y0 y1 y2 y3 y4 y5 y6 y7 y8 y9 y10 y11 y12 y13
      have HOT : RowKit.Hid (TupOk ⟨a1, a2, a3, a4, a5⟩) := Lib.hid HOR.out.t
      have HCF : RowKit.Hid (∀ W, Touch w2 W (fun k => k = h.fm) → W.cell? ⟨b0, 3, none⟩ = some (.map (some h.fm)) ∧ W.cell? ⟨w.heap.size, 1, none⟩ = some (.int .u32 a1) ∧ W.cell? ⟨w.heap.size, 2, none⟩ = some (.int .u32 a2) ∧ W.cell? ⟨w.heap.size, 3, none⟩ = some (.int .i64 a3) ∧ W.cell? ⟨w.heap.size, 4, none⟩ = some (.int .i64 a4) ∧ W.cell? ⟨w.heap.size, 5, none⟩ = some (.int .i64 a5)) := Lib.hid (fun W t => by
        have g := t.keeps (HTT.out.keeps HG1.out (fun h => h)) (fun e => by have e : w.heap.size = h.fm := e; have := HM.out.fl.lt; omega)
        exact ⟨cell_of_cells (t.keeps HM2.out.head HM2.out.ne.2.1) 3, cell_of_cells g 1, cell_of_cells g 2, cell_of_cells g 3, cell_of_cells g 4, cell_of_cells g 5⟩)
      go_upto_region 10 with (fail)
      have hS := (Touch.refl w2 (fun k => k = h.fm)).drew
      refine wp_region_tree (fun w' => Touch w2 w' (fun k => k = h.fm)) (.take 0 (.take 1 (.take 2 (.take 3 (.take 4 (.take 5 (.take 6 (.one 7 .fin)))))))) (by kernel_rfl) (by kernel_rfl) (by kernel_rfl) (by kernel_rfl) hS ?_
      refine walkT_take ?_
      (refine takeN_take (v := ?_) (some 32) rfl rfl (fun _ _ _ h => h) (by rfl) ?_ ?_; rotate_left; (focus (intro w' hw'; obtain ⟨y0, k1, k2, k3, k4, k5⟩ := HCF.out w' hw'; go_simp; (try with_reducible rfl))); (try simp only [Act.put, List.setIfInBounds_toArray, List.set_cons_zero, List.set_cons_succ]))
      refine walkT_take ?_
      (refine takeN_take (v := ?_) (some 33) rfl rfl (fun _ _ _ h => h) (by rfl) ?_ ?_; rotate_left; (focus (intro w' hw'; obtain ⟨y0, k1, k2, k3, k4, k5⟩ := HCF.out w' hw'; go_simp; (try with_reducible rfl))); (try simp only [Act.put, List.setIfInBounds_toArray, List.set_cons_zero, List.set_cons_succ]))
      refine walkT_take ?_
      (refine takeN_take (v := ?_) (some 34) rfl rfl (fun _ _ _ h => h) (by rfl) ?_ ?_; rotate_left; (focus (intro w' hw'; obtain ⟨y0, k1, k2, k3, k4, k5⟩ := HCF.out w' hw'; go_simp; (try with_reducible rfl))); (try simp only [Act.put, List.setIfInBounds_toArray, List.set_cons_zero, List.set_cons_succ]))
      refine walkT_take ?_
      (refine takeN_take (v := ?_) (some 35) rfl rfl (fun _ _ _ h => h) (by rfl) ?_ ?_; rotate_left; (focus (intro w' hw'; obtain ⟨y0, k1, k2, k3, k4, k5⟩ := HCF.out w' hw'; go_simp; (try with_reducible rfl))); (try simp only [Act.put, List.setIfInBounds_toArray, List.set_cons_zero, List.set_cons_succ]))
      refine walkT_take ?_
      (refine takeN_take (v := ?_) (some 36) rfl rfl (fun _ _ _ h => h) (by rfl) ?_ ?_; rotate_left; (focus (intro w' hw'; obtain ⟨y0, k1, k2, k3, k4, k5⟩ := HCF.out w' hw'; go_simp; (try with_reducible rfl))); (try simp only [Act.put, List.setIfInBounds_toArray, List.set_cons_zero, List.set_cons_succ]))
      refine walkT_take ?_
      (refine takeN_take (v := ?_) (some 37) rfl rfl (fun _ _ _ h => h) (by rfl) ?_ ?_; rotate_left; (focus (intro w' hw'; obtain ⟨y0, k1, k2, k3, k4, k5⟩ := HCF.out w' hw'; go_simp; (try with_reducible rfl))); (try simp only [Act.put, List.setIfInBounds_toArray, List.set_cons_zero, List.set_cons_succ]))
      refine walkT_take ?_
      (refine takeN_take (v := ?_) (some 38) rfl rfl (fun _ _ _ h => h) (by rfl) ?_ ?_; rotate_left; (focus (intro w' hw'; obtain ⟨y0, k1, k2, k3, k4, k5⟩ := HCF.out w' hw'; go_simp; (try with_reducible rfl))); (try simp only [Act.put, List.setIfInBounds_toArray, List.set_cons_zero, List.set_cons_succ]))
      refine walkT_one ?_
      (obtain ⟨w9, hst, o9, t9⟩ := ((HM2.out.still ((Touch.refl w2 (fun _ => False)).drew)).fl).drop ⟨a1, a2, a3, a4, a5⟩ HOT.out 0; have hst : (Builtin.delete_ #[61, 25] 0 #[.map (some h.fm), .agg #[.int .u32 a1, .int .u32 a2, .int .i64 a3, .int .i64 a4, .int .i64 a5]]).run Tryz.prog w2.drew = .ok (.tuple #[]) w9 := hst; refine runN_do (v := .tuple #[]) (w' := w9) none rfl rfl (by rfl) (by go_simp; (try with_reducible rfl)) ((Touch.refl w2 (fun k => k = h.fm)).drew.trans t9 (fun _ _ h => h)) (fun hS => ?_); (try simp only [Act.put, List.setIfInBounds_toArray, List.set_cons_zero, List.set_cons_succ]))
      refine walkT_fin ?_
      have HR := Lib.hid (stTo_fl HM2.out hS o9 (HSX.out ▸ HOK.out))
      have HT12 := Lib.hid HT2.out
      clear o9 t9 hst hS
      go_wp2_with fail
      go_ret
      exact ⟨by rw [HE.out]; rfl, HSX.out ▸ StTo.pre HT12.out HR.out⟩
    by_cases h3 : r.kind = 3
    · obtain ⟨e1, e2⟩ := st_3 (s := s) hm h3
      have HE : RowKit.Hid (stE s r = _) := Lib.hid e1
      have HSX : RowKit.Hid (stS s r = _) := Lib.hid e2
      have HOK := HSO
      have HCN := Lib.hid (may3 h3 hm).1
      clear e1 e2
      clear m t1 g1 hr hW1 ok hm
      obtain ⟨kind, ⟨a1, a2, a3, a4, a5⟩, fb, fg, fs, gen, bs, be, un, ct⟩ := r
      simp only [rcs, flOf] at *
      subst h3
      go_enter Tryz.func8, Tryz.ntmps8
      go_upto_region 1 with (fail)
      rw [HW1.out]
      go_wp2_with fail
      refine HMY.out.mono ?_
      rintro e w2 ⟨rfl, t2⟩
      have HTT := Lib.hid t2
      have HT2 := Lib.hid (HT1.out.trans t2 (fun _ _ h => h))
      have HM2 := Lib.hid (HM.out.still (HT1.out.trans t2 (fun _ _ h => h)))
      obtain ⟨c0, c1, c2, c3⟩ := HM2.out.cells
      clear t2 y0 y1 y2 y3 y4 y5 y6 y7 y8 y9 y10 y11 y12 y13
      obtain ⟨y0, y1, y2, y3, y4, y5, y6, y7, y8, y9, y10, y11, y12, y13⟩ := HGX.out w2 HTT.out
      try simp only at y0 y1 y2 y3 y4 y5 y6 y7 y8 y9 y10 y11 y12 y13
      have HFO := Lib.hid (stfollow_any w2 b0 h s HM2.out gen a cap bs HCN.out (HRR.out.still HT2.out) hl)
      go_wp2_with fail
      (with_reducible refine HFO.out.mono ?_)
      rintro e w3 ⟨rfl, o3⟩
      have HR := Lib.hid o3
      clear o3
      go_wp2_with fail
      go_ret
      exact ⟨by rw [HE.out]; rfl, HSX.out ▸ StTo.pre HT2.out HR.out⟩
    by_cases h4 : r.kind = 4
    · obtain ⟨e1, e2⟩ := st_4 (s := s) hm h4
      have HE : RowKit.Hid (stE s r = _) := Lib.hid e1
      have HSX : RowKit.Hid (stS s r = _) := Lib.hid e2
      have HOK := HSO
      have HBU : RowKit.Hid (i64D r.be ∧ i64D r.un) := Lib.hid (by have h := may4 h4 hm; unfold mayDr at h; rw [Bool.and_eq_true] at h; exact ⟨idB_lt h.1, timB_lt h.2⟩)
      clear e1 e2
      clear m t1 g1 hr hW1 ok hm
      obtain ⟨kind, ⟨a1, a2, a3, a4, a5⟩, fb, fg, fs, gen, bs, be, un, ct⟩ := r
      simp only [rcs, flOf] at *
      subst h4
      go_enter Tryz.func8, Tryz.ntmps8
      go_upto_region 1 with (fail)
      rw [HW1.out]
      go_wp2_with fail
      refine HMY.out.mono ?_
      rintro e w2 ⟨rfl, t2⟩
      have HTT := Lib.hid t2
      have HT2 := Lib.hid (HT1.out.trans t2 (fun _ _ h => h))
      have HM2 := Lib.hid (HM.out.still (HT1.out.trans t2 (fun _ _ h => h)))
      obtain ⟨c0, c1, c2, c3⟩ := HM2.out.cells
      clear t2 y0 y1 y2 y3 y4 y5 y6 y7 y8 y9 y10 y11 y12 y13
      obtain ⟨y0, y1, y2, y3, y4, y5, y6, y7, y8, y9, y10, y11, y12, y13⟩ := HGX.out w2 HTT.out
      try simp only at y0 y1 y2 y3 y4 y5 y6 y7 y8 y9 y10 y11 y12 y13
      have HDR := Lib.hid (stdrain_any w2 b0 h s HM2.out be un HBU.out.1 HBU.out.2)
      go_wp2_with fail
      (with_reducible refine HDR.out.mono ?_)
      rintro e w3 ⟨rfl, o3, t3⟩
      have HR := Lib.hid (stTo_dr HM2.out t3 o3 (HSX.out ▸ HOK.out))
      clear o3 t3
      go_wp2_with fail
      go_ret
      exact ⟨by rw [HE.out]; rfl, HSX.out ▸ StTo.pre HT2.out HR.out⟩
    by_cases h5 : r.kind = 5
    · obtain ⟨e1, e2⟩ := st_5 (s := s) hm h5
      have HE : RowKit.Hid (stE s r = _) := Lib.hid e1
      have HSX : RowKit.Hid (stS s r = _) := Lib.hid e2
      have HOK := HSO
      have HBE : RowKit.Hid (i64D r.be) := Lib.hid (idB_lt (may5 h5 hm))
      clear e1 e2
      clear m t1 g1 hr hW1 ok hm
      obtain ⟨kind, ⟨a1, a2, a3, a4, a5⟩, fb, fg, fs, gen, bs, be, un, ct⟩ := r
      simp only [rcs, flOf] at *
      subst h5
      go_enter Tryz.func8, Tryz.ntmps8
      go_upto_region 1 with (fail)
      rw [HW1.out]
      go_wp2_with fail
      refine HMY.out.mono ?_
      rintro e w2 ⟨rfl, t2⟩
      have HTT := Lib.hid t2
      have HT2 := Lib.hid (HT1.out.trans t2 (fun _ _ h => h))
      have HM2 := Lib.hid (HM.out.still (HT1.out.trans t2 (fun _ _ h => h)))
      obtain ⟨c0, c1, c2, c3⟩ := HM2.out.cells
      clear t2 y0 y1 y2 y3 y4 y5 y6 y7 y8 y9 y10 y11 y12 y13
      obtain ⟨y0, y1, y2, y3, y4, y5, y6, y7, y8, y9, y10, y11, y12, y13⟩ := HGX.out w2 HTT.out
      try simp only at y0 y1 y2 y3 y4 y5 y6 y7 y8 y9 y10 y11 y12 y13
      have HCD : RowKit.Hid (∀ W, Touch w2 W (fun k => k = h.dm) → W.cell? ⟨b0, 2, none⟩ = some (.map (some h.dm)) ∧ W.cell? ⟨w.heap.size, 11, none⟩ = some (.int .i64 be)) := Lib.hid (fun W t => by
        have g := t.keeps (HTT.out.keeps HG1.out (fun h => h)) (fun e => by have e : w.heap.size = h.dm := e; have := HM.out.dr.lt; omega)
        exact ⟨cell_of_cells (t.keeps HM2.out.head HM2.out.ne.1) 2, cell_of_cells g 11⟩)
      go_upto_region 16 with (fail)
      have hS := (Touch.refl w2 (fun k => k = h.dm)).drew
      refine wp_region_tree (fun w' => Touch w2 w' (fun k => k = h.dm)) (.take 0 (.take 1 (.take 2 (.take 3 (.take 4 (.take 5 (.one 6 .fin))))))) (by kernel_rfl) (by kernel_rfl) (by kernel_rfl) (by kernel_rfl) hS ?_
      refine walkT_take ?_
      (refine takeN_take (v := ?_) (some 57) rfl rfl (fun _ _ _ h => h) (by rfl) ?_ ?_; rotate_left; (focus (intro w' hw'; obtain ⟨y0, k1⟩ := HCD.out w' hw'; go_simp; (try with_reducible rfl))); (try simp only [Act.put, List.setIfInBounds_toArray, List.set_cons_zero, List.set_cons_succ]))
      refine walkT_take ?_
      (refine takeN_take (v := ?_) (some 58) rfl rfl (fun _ _ _ h => h) (by rfl) ?_ ?_; rotate_left; (focus (intro w' hw'; obtain ⟨y0, k1⟩ := HCD.out w' hw'; go_simp; (try with_reducible rfl))); (try simp only [Act.put, List.setIfInBounds_toArray, List.set_cons_zero, List.set_cons_succ]))
      refine walkT_take ?_
      (refine takeN_take (v := ?_) (some 59) rfl rfl (fun _ _ _ h => h) (by rfl) ?_ ?_; rotate_left; (focus (intro w' hw'; obtain ⟨y0, k1⟩ := HCD.out w' hw'; go_simp; (try with_reducible rfl))); (try simp only [Act.put, List.setIfInBounds_toArray, List.set_cons_zero, List.set_cons_succ]))
      refine walkT_take ?_
      (refine takeN_take (v := ?_) (some 60) rfl rfl (fun _ _ _ h => h) (by rfl) ?_ ?_; rotate_left; (focus (intro w' hw'; obtain ⟨y0, k1⟩ := HCD.out w' hw'; go_simp; (try with_reducible rfl))); (try simp only [Act.put, List.setIfInBounds_toArray, List.set_cons_zero, List.set_cons_succ]))
      refine walkT_take ?_
      (refine takeN_take (v := ?_) (some 61) rfl rfl (fun _ _ _ h => h) (by rfl) ?_ ?_; rotate_left; (focus (intro w' hw'; obtain ⟨y0, k1⟩ := HCD.out w' hw'; go_simp; (try with_reducible rfl))); (try simp only [Act.put, List.setIfInBounds_toArray, List.set_cons_zero, List.set_cons_succ]))
      refine walkT_take ?_
      (refine takeN_take (v := ?_) (some 62) rfl rfl (fun _ _ _ h => h) (by rfl) ?_ ?_; rotate_left; (focus (intro w' hw'; obtain ⟨y0, k1⟩ := HCD.out w' hw'; go_simp; (try with_reducible rfl))); (try simp only [Act.put, List.setIfInBounds_toArray, List.set_cons_zero, List.set_cons_succ]))
      refine walkT_one ?_
      (obtain ⟨w9, hst, o9, t9⟩ := ((HM2.out.still ((Touch.refl w2 (fun _ => False)).drew)).dr).drop (t := 60) Tryz.underlying3 Tryz.underlying60 be HBE.out 0; refine runN_do (v := .tuple #[]) (w' := w9) none rfl rfl (by rfl) (by go_simp; (try with_reducible rfl)) ((Touch.refl w2 (fun k => k = h.dm)).drew.trans t9 (fun _ _ h => h)) (fun hS => ?_); (try simp only [Act.put, List.setIfInBounds_toArray, List.set_cons_zero, List.set_cons_succ]))
      refine walkT_fin ?_
      have HR := Lib.hid (stTo_dr HM2.out hS o9 (HSX.out ▸ HOK.out))
      have HT12 := Lib.hid HT2.out
      clear o9 t9 hst hS
      go_wp2_with fail
      go_ret
      exact ⟨by rw [HE.out]; rfl, HSX.out ▸ StTo.pre HT12.out HR.out⟩
    obtain ⟨e1, e2⟩ := st_6 (s := s) hm h1 h2 h3 h4 h5
    have HE : RowKit.Hid (stE s r = _) := Lib.hid e1
    have HSX : RowKit.Hid (stS s r = _) := Lib.hid e2
    clear e1 e2
    clear m t1 g1 hr hW1 ok hm
    obtain ⟨kind, ⟨a1, a2, a3, a4, a5⟩, fb, fg, fs, gen, bs, be, un, ct⟩ := r
    simp only [rcs, flOf] at *
    have i1 : (kind == 1) = false := by simpa using h1
    have i2 : (kind == 2) = false := by simpa using h2
    have i3 : (kind == 3) = false := by simpa using h3
    have i4 : (kind == 4) = false := by simpa using h4
    have i5 : (kind == 5) = false := by simpa using h5
    go_enter Tryz.func8, Tryz.ntmps8
    go_upto_region 1 with (fail)
    rw [HW1.out]
    go_wp2_with fail
    refine HMY.out.mono ?_
    rintro e w2 ⟨rfl, t2⟩
    have HTT := Lib.hid t2
    have HT2 := Lib.hid (HT1.out.trans t2 (fun _ _ h => h))
    have HM2 := Lib.hid (HM.out.still (HT1.out.trans t2 (fun _ _ h => h)))
    obtain ⟨c0, c1, c2, c3⟩ := HM2.out.cells
    clear t2 y0 y1 y2 y3 y4 y5 y6 y7 y8 y9 y10 y11 y12 y13
    obtain ⟨y0, y1, y2, y3, y4, y5, y6, y7, y8, y9, y10, y11, y12, y13⟩ := HGX.out w2 HTT.out
    try simp only at y0 y1 y2 y3 y4 y5 y6 y7 y8 y9 y10 y11 y12 y13
    go_wp2_with fail
    go_ret
    exact ⟨by rw [HE.out]; rfl, by rw [HSX.out]; exact HM.out.to HT2.out⟩
end Go.Proofs.YtdhimlkndpiacaaGreat
