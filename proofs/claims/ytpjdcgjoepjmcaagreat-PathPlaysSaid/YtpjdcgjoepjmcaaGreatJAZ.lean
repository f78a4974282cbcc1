import Derived.Test.YtpjdcgjoepjmcaaGreatGFZ
import Derived.Test.YtpjdcgjoepjmcaaGreatTupLessZ
import Derived.Test.YtpjdcgjoepjmcaaGreatHDZ
import Derived.Test.YtpjdcgjoepjmcaaGreatGAZ
import Derived.Test.YtpjdcgjoepjmcaaGreatKLZ
import Derived.Deep.CutBlock
import Derived.Deep.DeepCutAuto
import Derived.Test.YtpjdcgjoepjmcaaGreatFlowRLessZ
import Derived.Test.YtpjdcgjoepjmcaaGreatHAZ
set_option linter.unusedVariables false
set_option linter.unusedSimpArgs false
section
namespace Go.Proofs.YtpjdcgjoepjmcaaGreat
open Go.RowKit
def SortL (L : List FlD) : Prop := L.Pairwise (fun x y => lessT x.t y.t = true)
def tailL : List FlD → FlD → List FlD
 | [], _ => []
 | x :: r, f => if sameT x.t f.t = true then r else x :: r
def putL : List FlD → FlD → List FlD
 | [], f => [f]
 | x :: r, f => if lessT x.t f.t = true then x :: putL r f else f :: tailL (x :: r) f
theorem less_ne {a b : TupD} (h : lessT a b = true) : a ≠ b := fun e => by rw [e, less_irr] at h; cases h
theorem less_tot {a b : TupD} (h : lessT a b = false) (hn : a ≠ b) : lessT b a = true := by
 have := less_tri a b hn
 rw [h] at this
 cases h2 : lessT b a with
 | true => rfl
 | false => rw [h2] at this; cases this
theorem putL_at : ∀ (L : List FlD) (f : FlD) (i : Nat), i ≤ L.length → (∀ x ∈ L.take i, lessT x.t f.t = true) → (∀ x, (L.drop i).head? = some x → lessT x.t f.t = false) → putL L f = L.take i ++ f :: tailL (L.drop i) f
 | [], f, i, hi, _, _ => by
   have : i = 0 := by simpa using hi
   subst this; rfl
 | x :: r, f, 0, _, _, h => by
   have := h x rfl
   unfold putL
   rw [if_neg (by rw [this]; decide)]
   rfl
 | x :: r, f, i + 1, hi, hl, h => by
   have hx := hl x (by simp)
   unfold putL
   rw [if_pos hx, List.take_succ_cons, List.drop_succ_cons, List.cons_append]
   congr 1
   exact putL_at r f i (by simpa using hi) (fun y hy => hl y (by rw [List.take_succ_cons]; exact List.mem_cons_of_mem _ hy)) h
theorem delF_other {x : FlD} {r : List FlD} {t : TupD} (h : x.t ≠ t) : delF (x :: r) t = x :: delF r t := by
 unfold delF; rw [List.filter_cons]; simp [h]
theorem delF_same {x : FlD} {r : List FlD} : delF (x :: r) x.t = delF r x.t := by
 unfold delF; rw [List.filter_cons]; simp
theorem putL_perm : ∀ {L : List FlD} (f : FlD), SortL L → (putL L f).Perm (f :: delF L f.t)
 | [], f, _ => .refl _
 | x :: r, f, h => by
   obtain ⟨h1, h2⟩ := List.pairwise_cons.1 h
   unfold putL
   by_cases hl : lessT x.t f.t = true
   ·rw [if_pos hl, delF_other (less_ne hl)]
    exact ((putL_perm f h2).cons x).trans (.swap f x _)
   ·rw [if_neg hl]
    simp only [tailL]
    by_cases hs : sameT x.t f.t = true
    ·have e := (sameT_iff _ _).1 hs
     rw [if_pos hs, ← e, delF_same, delF_none]
     intro hm
     obtain ⟨y, hy, e2⟩ := List.mem_map.1 hm
     exact less_ne (h1 y hy) e2.symm
    ·have hn : x.t ≠ f.t := fun e => hs ((sameT_iff _ _).2 e)
     have hfx := less_tot (by simpa using hl) hn
     rw [if_neg hs, delF_none]
     intro hm
     rw [List.map_cons, List.mem_cons] at hm
     rcases hm with e | hm
     ·exact hn e.symm
     ·obtain ⟨y, hy, e2⟩ := List.mem_map.1 hm
      exact less_ne (less_trans _ _ _ hfx (h1 y hy)) e2.symm
theorem putL_sort : ∀ {L : List FlD} (f : FlD), SortL L → SortL (putL L f)
 | [], f, _ => List.pairwise_singleton _ _
 | x :: r, f, h => by
   obtain ⟨h1, h2⟩ := List.pairwise_cons.1 h
   unfold putL
   by_cases hl : lessT x.t f.t = true
   ·rw [if_pos hl]
    refine List.pairwise_cons.2 ⟨fun y hy => ?_, putL_sort f h2⟩
    rcases List.mem_cons.1 ((putL_perm f h2).mem_iff.1 hy) with rfl | hy
    ·exact hl
    ·exact h1 y (List.mem_filter.1 hy).1
   ·rw [if_neg hl]
    simp only [tailL]
    by_cases hs : sameT x.t f.t = true
    ·have e := (sameT_iff _ _).1 hs
     rw [if_pos hs]
     exact List.pairwise_cons.2 ⟨fun y hy => by rw [← e]; exact h1 y hy, h2⟩
    ·have hn : x.t ≠ f.t := fun e => hs ((sameT_iff _ _).2 e)
     have hfx := less_tot (by simpa using hl) hn
     rw [if_neg hs]
     exact List.pairwise_cons.2 ⟨fun y hy => by
      rcases List.mem_cons.1 hy with rfl | hy
      ·exact hfx
      ·exact less_trans _ _ _ hfx (h1 y hy), h⟩
theorem delF_sort {L : List FlD} (h : SortL L) (t : TupD) : SortL (delF L t) := List.Pairwise.sublist List.filter_sublist h
def posL (L : List FlD) (t : TupD) : Nat := L.findIdx (fun f => decide (f.t = t))
def idxL (L : List FlD) (t : TupD) : Int := if hasF L t = true then (posL L t : Nat) else -1
theorem posL_at {L : List FlD} {t : TupD} {k : Nat} (hk : k < L.length) (h : hasF (L.take k) t = false) (he : L[k].t = t) : hasF L t = true ∧ posL L t = k := by
 have h1 : hasF L t = true := (hasF_iff _ _).2 (List.mem_map.2 ⟨L[k], List.getElem_mem hk, he⟩)
 refine ⟨h1, ?_⟩
 unfold posL
 rw [List.findIdx_eq hk]
 refine ⟨decide_eq_true he, fun j hj => ?_⟩
 cases h2 : decide (L[j].t = t) with
 | false => rfl
 | true =>
   have h3 : hasF (L.take k) t = true := (hasF_iff _ _).2 (List.mem_map.2 ⟨L[j], List.mem_take_iff_getElem.2 ⟨j, by omega, rfl⟩, of_decide_eq_true h2⟩)
   rw [h] at h3; cases h3
theorem hasF_snoc (L : List FlD) (f : FlD) (t : TupD) : hasF (L ++ [f]) t = (hasF L t || decide (f.t = t)) := by unfold hasF; simp
theorem posL_get {L : List FlD} {t : TupD} (hn : (L.map FlD.t).Nodup) (h : hasF L t = true) : ∃ hk : posL L t < L.length, L[posL L t] = getF L t ∧ L[posL L t].t = t ∧ L.take (posL L t) ++ L.drop (posL L t + 1) = delF L t := by
 have hex : ∃ x ∈ L, decide (x.t = t) = true := by
  obtain ⟨x, hx, e⟩ := List.mem_map.1 ((hasF_iff _ _).1 h)
  exact ⟨x, hx, decide_eq_true e⟩
 have hk : posL L t < L.length := List.findIdx_lt_length_of_exists hex
 have h2 : decide (L[posL L t].t = t) = true := List.findIdx_getElem (w := hk)
 have h3 := of_decide_eq_true h2
 refine ⟨hk, ?_, h3, ?_⟩
 ·have := getF_of hn (List.getElem_mem hk)
  rw [h3] at this
  exact this.symm
 ·have e : L = L.take (posL L t) ++ L[posL L t] :: L.drop (posL L t + 1) := by rw [List.getElem_cons_drop hk, List.take_append_drop]
  have hn2 := hn
  rw [e, List.map_append, List.map_cons] at hn2
  have hn3 := (List.perm_middle.nodup_iff).1 hn2
  rw [List.nodup_cons] at hn3
  conv => rhs; rw [e]
  unfold delF
  rw [List.filter_append, List.filter_cons]
  have h4 : (!decide (L[posL L t].t = t)) = false := by rw [h2]; rfl
  rw [h4]
  simp only [Bool.false_eq_true, if_false]
  have h5 : ∀ M : List FlD, (∀ y ∈ M, y.t ≠ t) → M.filter (fun f => !decide (f.t = t)) = M := fun M hM => by
   rw [List.filter_eq_self]; intro y hy; simp [hM y hy]
  rw [h5, h5]
  ·intro y hy e2
   exact hn3.1 (by rw [h3]; exact List.mem_append_right _ (List.mem_map.2 ⟨y, hy, e2⟩))
  ·intro y hy e2
   exact hn3.1 (by rw [h3]; exact List.mem_append_left _ (List.mem_map.2 ⟨y, hy, e2⟩))
end Go.Proofs.YtpjdcgjoepjmcaaGreat
end
section
namespace Go.Proofs.YtpjdcgjoepjmcaaGreat
open Go.RowKit
structure RF (w : World) (b : Nat) (a : Option Addr) (c : Nat) (most wait : Int) (L : List FlD) : Prop where
 head : w.heap[b]? = some (.cells #[.slice a L.length c, .int .i64 most, .int .i64 wait] 64 (0, 0))
 row : RowS w a L.length c 8 (L.map fcl)
 ne : ∀ x, a = some x → L.length = 0 ∨ x.block ≠ b
 pl : a = none ∨ ∃ g off, a = some ⟨g, off, none⟩
theorem RF.still {w w' : World} {b : Nat} {a : Option Addr} {c : Nat} {most wait : Int} {L : List FlD} (q : RF w b a c most wait L) (t : Touch w w' (fun _ => False)) : RF w' b a c most wait L := ⟨t.keeps q.head (fun h => h), q.row.still t, q.ne, q.pl⟩
def RFStep (w w' : World) (b : Nat) (a0 : Option Addr) (most wait : Int) (L' : List FlD) : Prop := ∃ a c, RF w' b a c most wait L' ∧ Touch w w' (fun k => k = b) ∧ ∀ y, a = some y → (w.heap.size ≤ y.block ∧ y.block < w'.heap.size) ∨ ∃ z, a0 = some z ∧ y.block = z.block
theorem row_flc {w : World} {b off len cap : Nat} {L : List FlD} (h : RowS w (some ⟨b, off, none⟩) len cap 8 (L.map fcl)) (i : Nat) (hi : i < L.length) :
 w.cell? ⟨b, off + i * 8, none⟩ = some (.int .u32 L[i].t.src) ∧ w.cell? ⟨b, off + i * 8 + 1, none⟩ = some (.int .u32 L[i].t.dst) ∧ w.cell? ⟨b, off + i * 8 + 2, none⟩ = some (.int .i64 L[i].t.proto) ∧ w.cell? ⟨b, off + i * 8 + 3, none⟩ = some (.int .i64 L[i].t.sport) ∧ w.cell? ⟨b, off + i * 8 + 4, none⟩ = some (.int .i64 L[i].t.dport) ∧ w.cell? ⟨b, off + i * 8 + 5, none⟩ = some (.int .i64 L[i].fb) ∧ w.cell? ⟨b, off + i * 8 + 6, none⟩ = some (.int .i64 L[i].fg) ∧ w.cell? ⟨b, off + i * 8 + 7, none⟩ = some (.int .i64 L[i].fs) := by
 have hi' : i < (L.map fcl).length := by simpa using hi
 have e : (L.map fcl)[i] = fcl L[i] := by simp
 exact ⟨h.cell i hi' 0 _ (by rw [e]; rfl), h.cell i hi' 1 _ (by rw [e]; rfl), h.cell i hi' 2 _ (by rw [e]; rfl), h.cell i hi' 3 _ (by rw [e]; rfl), h.cell i hi' 4 _ (by rw [e]; rfl), h.cell i hi' 5 _ (by rw [e]; rfl), h.cell i hi' 6 _ (by rw [e]; rfl), h.cell i hi' 7 _ (by rw [e]; rfl)⟩
set_option maxRecDepth 20000 in
set_option maxHeartbeats 4000000 in
theorem rfat_any (w : World) (b : Nat) (a : Option Addr) (c : Nat) (most wait : Int) (L : List FlD) (q : RF w b a c most wait L) (t : TupD) :
 Calls Tryz.prog 88 #[.pointer (some ⟨b, 0, none⟩), .agg (tcs t)] w fun e w' => e = .returned (.int .i64 (idxL L t)) ∧ Touch w w' (fun _ => False) := by
 obtain ⟨n, hn⟩ : ∃ n, L.length = n := ⟨_, rfl⟩
 have hmax := q.row.hmax
 have hcap := q.row.hcap
 have hb := heap_lt q.head
 obtain ⟨W1, hW1⟩ : ∃ W, w.alloc (.cells (tcs t) 37) = W := ⟨_, rfl⟩
 obtain ⟨KT, hKT⟩ : ∃ k, w.heap.size = k := ⟨_, rfl⟩
 have t1 : Touch w W1 (fun _ => False) := hW1 ▸ (Touch.refl w _).alloc _
 have HGT : RowKit.Hid (∀ W, Touch W1 W (fun _ => False) → W.cell? ⟨KT, 0, none⟩ = some (.int .u32 t.src) ∧ W.cell? ⟨KT, 1, none⟩ = some (.int .u32 t.dst) ∧ W.cell? ⟨KT, 2, none⟩ = some (.int .i64 t.proto) ∧ W.cell? ⟨KT, 3, none⟩ = some (.int .i64 t.sport) ∧ W.cell? ⟨KT, 4, none⟩ = some (.int .i64 t.dport)) := Lib.hid (fun W x => by
  have h := x.keeps (hKT ▸ hW1 ▸ heap_alloc_new w (.cells (tcs t) 37)) (fun h => h)
  exact ⟨cell_of_cells h 0, cell_of_cells h 1, cell_of_cells h 2, cell_of_cells h 3, cell_of_cells h 4⟩)
 have HQ := Lib.hid (q.still t1)
 have HN := Lib.hid hn
 have HT1 := Lib.hid t1
 have HW1 := Lib.hid (And.intro hW1 hKT)
 simp only [tcs] at HW1 ⊢
 rw [hn] at hcap
 clear q t1 hW1 hKT hn
 go_enter Tryz.func88, Tryz.ntmps88
 go_upto_region 1 with (fail)
 rw [HW1.out.1, HW1.out.2]
 have c0 : W1.cell? ⟨b, 0, none⟩ = some (.slice a n c) := by have := cell_of_cells HQ.out.head 0; rw [HN.out] at this; exact this
 go_wp2_with fail
 go_loopw [12] (fun i wr => ∃ k : Nat, k ≤ n ∧ i = .int .i64 k ∧ hasF (L.take k) t = false ∧ Touch W1 wr (fun _ => False)) (fun i _ => n - (RowKit.intOf i).toNat)
 case atStart => exact ⟨0, Nat.zero_le _, rfl, rfl, Touch.refl _ _⟩
 case round =>
  obtain ⟨k, hk, rfl, hf, ht⟩ := hrel
  have HF := Lib.hid hf
  have HT := Lib.hid ht
  clear hf ht c0
  by_cases hlt : k < n
  case neg =>
   obtain rfl : n = k := by omega
   have hlt' : ¬ (n : Int) < n := by omega
   have HE : RowKit.Hid (idxL L t = -1) := Lib.hid (by
    have h := HF.out
    rw [← HN.out, List.take_length] at h
    unfold idxL; rw [h]; rfl)
   go_wp2
   go_ret
   exact ⟨by rw [HE.out]; rfl, HT1.out.trans HT.out (fun _ _ h => h)⟩
  case pos =>
  have hr := (HQ.out.still HT.out).row
  obtain ⟨g, off, rfl⟩ := hr.some (by have := HN.out; omega)
  have hk1 : k < L.length := by rw [HN.out]; exact hlt
  obtain ⟨c0, c1, c2, c3, c4, c5, c6, c7⟩ := row_flc hr k hk1
  have HS : RowKit.Hid (hasF (L.take (k + 1)) t = (hasF (L.take k) t || decide (L[k].t = t))) := Lib.hid (by rw [List.take_succ_eq_append_getElem hk1, hasF_snoc])
  have HP : RowKit.Hid (L[k].t = t → idxL L t = k) := Lib.hid (fun h => by
   obtain ⟨h1, h2⟩ := posL_at hk1 HF.out h
   unfold idxL; rw [if_pos h1, h2])
  generalize L[k] = f at *
  obtain ⟨W3, hW3⟩ : ∃ W, wr.alloc (.cells (fca f) 83) = W := ⟨_, rfl⟩
  obtain ⟨KF, hKF⟩ : ∃ k, wr.heap.size = k := ⟨_, rfl⟩
  have t3 : Touch wr W3 (fun _ => False) := hW3 ▸ (Touch.refl wr _).alloc _
  have g3 : W3.heap[KF]? = some (.cells (fca f) 83 (0, 0)) := hKF ▸ hW3 ▸ heap_alloc_new ..
  have HT3 := Lib.hid (HT.out.trans t3 (fun _ _ h => h))
  have HG3 := Lib.hid g3
  have HW3 := Lib.hid (And.intro hW3 hKF)
  have hlI : (k : Int) < n := by omega
  simp only [fca] at HW3
  clear hr t3 g3 hW3 hKF
  go_upto_region 4 with (fail)
  rw [HW3.out.1, HW3.out.2]
  clear c0 c1 c2 c3 c4 c5 c6 c7
  obtain ⟨x0, x1, x2, x3, x4⟩ := HGT.out W3 HT3.out
  have y0 : W3.cell? ⟨KF, 0, none⟩ = some (.int .u32 f.t.src) := cell_of_cells HG3.out 0
  have y1 : W3.cell? ⟨KF, 1, none⟩ = some (.int .u32 f.t.dst) := cell_of_cells HG3.out 1
  have y2 : W3.cell? ⟨KF, 2, none⟩ = some (.int .i64 f.t.proto) := cell_of_cells HG3.out 2
  have y3 : W3.cell? ⟨KF, 3, none⟩ = some (.int .i64 f.t.sport) := cell_of_cells HG3.out 3
  have y4 : W3.cell? ⟨KF, 4, none⟩ = some (.int .i64 f.t.dport) := cell_of_cells HG3.out 4
  by_cases he : f.t = t
  ·have HX := Lib.hid (HP.out he)
   have hT2 : RowKit.Hid (Touch w W3 (fun _ => False)) := Lib.hid (HT1.out.trans HT3.out (fun _ _ h => h))
   obtain ⟨e0, e1, e2, e3, e4⟩ : f.t.src = t.src ∧ f.t.dst = t.dst ∧ f.t.proto = t.proto ∧ f.t.sport = t.sport ∧ f.t.dport = t.dport := by rw [he]; exact ⟨rfl, rfl, rfl, rfl, rfl⟩
   rw [e0] at y0; rw [e1] at y1; rw [e2] at y2; rw [e3] at y3; rw [e4] at y4
   clear he e0 e1 e2 e3 e4
   go_wp2
   go_ret
   exact ⟨by rw [HX.out]; rfl, hT2.out⟩
  ·have hne : ¬ (f.t.src = t.src ∧ f.t.dst = t.dst ∧ f.t.proto = t.proto ∧ f.t.sport = t.sport ∧ f.t.dport = t.dport) := fun h => he (by
    obtain ⟨⟨a1, a2, a3, a4, a5⟩, _, _, _⟩ := f
    obtain ⟨b1, b2, b3, b4, b5⟩ := t
    simp only at h
    obtain ⟨rfl, rfl, rfl, rfl, rfl⟩ := h
    rfl)
   have HNE := Lib.hid hne
   have HX : RowKit.Hid (hasF (L.take (k + 1)) t = false) := Lib.hid (by rw [HS.out, HF.out, decide_eq_false he]; rfl)
   clear he hne
   go_cut [20] (fun s wx => s = .bool false ∧ wx = W3)
   case first =>
    go_wp2
    all_goals first
     | (go_meet; exact ⟨rfl, rfl⟩)
     | (exfalso; apply HNE.out; simp_all)
   case rest =>
    obtain ⟨rfl, rfl⟩ := hcut
    go_wp2_with fail
    exact ⟨⟨k + 1, hlt, by go_num, HX.out, HT3.out⟩, by simp [RowKit.intOf]; omega⟩
theorem infoFlG : (Tryz.prog.info? 83).map (·.size) = some 8 := by kernel_rfl
set_option maxRecDepth 20000 in
set_option maxHeartbeats 4000000 in
theorem rfmay_any (f : FlD) (w : World) : Calls Tryz.prog 92 #[.agg (fca f)] w fun e w' => e = .returned (.bool (mayFB f)) ∧ Touch w w' (fun _ => False) := by
 obtain ⟨W1, hW1⟩ : ∃ W, w.alloc (.cells (fca f) 83) = W := ⟨_, rfl⟩
 obtain ⟨KF, hKF⟩ : ∃ k, w.heap.size = k := ⟨_, rfl⟩
 have t1 : Touch w W1 (fun _ => False) := hW1 ▸ (Touch.refl w _).alloc _
 have g1 : W1.heap[KF]? = some (.cells (fca f) 83 (0, 0)) := hKF ▸ hW1 ▸ heap_alloc_new ..
 have HMT := Lib.hid (rmayT_any f.t W1)
 have HTI := Lib.hid (fun W => rtimeD_any W f.fs)
 have HB : RowKit.Hid (mayFB f = true ↔ mayTB f.t = true ∧ (0 ≤ f.fb ∧ f.fb ≤ 65535) ∧ (0 ≤ f.fg ∧ f.fg ≤ 1000000) ∧ decide (0 ≤ f.fs ∧ f.fs ≤ 1099511627776) = true) := Lib.hid (by
  unfold mayFB rngF
  simp only [Bool.and_eq_true, decide_eq_true_eq])
 generalize mayFB f = m at *
 obtain ⟨mt, hmt⟩ : ∃ m, mayTB f.t = m := ⟨_, rfl⟩
 obtain ⟨md, hmd⟩ : ∃ m, decide (0 ≤ f.fs ∧ f.fs ≤ 1099511627776) = m := ⟨_, rfl⟩
 rw [hmt] at HMT HB
 rw [hmd] at HTI HB
 have HT1 := Lib.hid t1
 have HG1 := Lib.hid g1
 have HW1 := Lib.hid (And.intro hW1 hKF)
 simp only [fca] at HW1 ⊢
 simp only [tcs] at HMT
 clear t1 g1 hW1 hKF hmt hmd
 go_enter Tryz.func92, Tryz.ntmps92
 go_upto_region 1 with (fail)
 rw [HW1.out.1, HW1.out.2]
 have y0 : W1.cell? ⟨KF, 0, none⟩ = some (.int .u32 f.t.src) := cell_of_cells HG1.out 0
 have y1 : W1.cell? ⟨KF, 1, none⟩ = some (.int .u32 f.t.dst) := cell_of_cells HG1.out 1
 have y2 : W1.cell? ⟨KF, 2, none⟩ = some (.int .i64 f.t.proto) := cell_of_cells HG1.out 2
 have y3 : W1.cell? ⟨KF, 3, none⟩ = some (.int .i64 f.t.sport) := cell_of_cells HG1.out 3
 have y4 : W1.cell? ⟨KF, 4, none⟩ = some (.int .i64 f.t.dport) := cell_of_cells HG1.out 4
 go_wp2_with fail
 refine HMT.out.mono ?_
 rintro e w2 ⟨rfl, t2⟩
 have HT2 := Lib.hid (HT1.out.trans t2 (fun _ _ h => h))
 have g2 := t2.keeps HG1.out (fun h => h)
 have z5 : w2.cell? ⟨KF, 5, none⟩ = some (.int .i64 f.fb) := cell_of_cells g2 5
 have z6 : w2.cell? ⟨KF, 6, none⟩ = some (.int .i64 f.fg) := cell_of_cells g2 6
 have z7 : w2.cell? ⟨KF, 7, none⟩ = some (.int .i64 f.fs) := cell_of_cells g2 7
 clear t2 g2 y0 y1 y2 y3 y4
 generalize f.fb = x5 at *
 generalize f.fg = x6 at *
 generalize f.fs = x7 at *
 cases mt
 ·have hm : m = false := by
   cases m with
   | false => rfl
   | true => have := HB.out.1 rfl; simp at this
  subst hm
  go_wp2_with fail
  go_ret
  exact ⟨rfl, HT2.out⟩
 ·by_cases h1 : (0 ≤ x5 ∧ x5 ≤ 65535) ∧ (0 ≤ x6 ∧ x6 ≤ 1000000)
  ·obtain ⟨⟨a1, a2⟩, a3, a4⟩ := h1
   have hm : m = md := by
    rw [Bool.eq_iff_iff, HB.out]
    exact ⟨fun h => h.2.2.2, fun h => ⟨rfl, ⟨a1, a2⟩, ⟨a3, a4⟩, h⟩⟩
   subst hm
   go_wp2_with (go_at_call 19; (with_reducible refine (HTI.out _).mono ?_); rintro e w3 ⟨rfl, rfl⟩)
   go_ret
   exact ⟨rfl, HT2.out⟩
  ·have hm : m = false := by
    cases m with
    | false => rfl
    | true => have := HB.out.1 rfl; exact absurd ⟨this.2.1, this.2.2.1⟩ h1
   subst hm
   clear HB
   by_cases a1 : 0 ≤ x5 <;> by_cases a2 : x5 ≤ 65535 <;> by_cases a3 : 0 ≤ x6 <;> by_cases a4 : x6 ≤ 1000000
   all_goals first
    | (exfalso; omega)
    | (clear h1; go_wp2_with fail; go_ret; exact ⟨rfl, HT2.out⟩)
end Go.Proofs.YtpjdcgjoepjmcaaGreat
end
section
namespace Go.Proofs.YtpjdcgjoepjmcaaGreat
open Go.RowKit
theorem enter_rlessP (a b : Value) (w : World) : (callFunc 127 #[a, b]).run Tryz.prog w = .ok (.enter 127 #[a, b]) w := by kernel_rfl
theorem nelT_runP (a1 a2 a3 a4 a5 b1 b2 b3 b4 b5 : Int) (h : ¬ (a1 = b1 ∧ a2 = b2 ∧ a3 = b3 ∧ a4 = b4 ∧ a5 = b5)) (x y : Operand) (W : World) :
 (do eqGuard BinOp.eql 37 x y (.agg #[.int .u32 a1, .int .u32 a2, .int .i64 a3, .int .i64 a4, .int .i64 a5]) (.agg #[.int .u32 b1, .int .u32 b2, .int .i64 b3, .int .i64 b4, .int .i64 b5]); binOp BinOp.eql 37 (.agg #[.int .u32 a1, .int .u32 a2, .int .i64 a3, .int .i64 a4, .int .i64 a5]) (.agg #[.int .u32 b1, .int .u32 b2, .int .i64 b3, .int .i64 b4, .int .i64 b5]) : Sem Value).run Tryz.prog W = .ok (.bool false) W := by
 go_simp
 intro h1 h2 h3 h4 h5
 exact h ⟨h1, h2, h3, h4, h5⟩
theorem eqlT_runP (a1 a2 a3 a4 a5 : Int) (x y : Operand) (W : World) :
 (do eqGuard BinOp.eql 37 x y (.agg #[.int .u32 a1, .int .u32 a2, .int .i64 a3, .int .i64 a4, .int .i64 a5]) (.agg #[.int .u32 a1, .int .u32 a2, .int .i64 a3, .int .i64 a4, .int .i64 a5]); binOp BinOp.eql 37 (.agg #[.int .u32 a1, .int .u32 a2, .int .i64 a3, .int .i64 a4, .int .i64 a5]) (.agg #[.int .u32 a1, .int .u32 a2, .int .i64 a3, .int .i64 a4, .int .i64 a5]) : Sem Value).run Tryz.prog W = .ok (.bool true) W := by
 go_simp
theorem one_fclP (L : List FlD) : ∀ l ∈ L.map fcl, ∀ u ∈ l, u.oneCell' = true := by
 intro l hl u hu
 obtain ⟨f, _, rfl⟩ := List.mem_map.1 hl
 simp only [fcl, List.mem_cons, List.not_mem_nil, or_false] at hu
 rcases hu with rfl | rfl | rfl | rfl | rfl | rfl | rfl | rfl <;> rfl
theorem one_fcl1P (f : FlD) : ∀ l ∈ [fcl f], ∀ u ∈ l, u.oneCell' = true := one_fclP [f]
theorem row_front8 {w : World} {a : Option Addr} {n c : Nat} {L : List FlD} (h : RowS w a n c 8 (L.map fcl)) (i : Nat) (hi : i ≤ n) : RowS w a i c 8 ((L.take i).map fcl) := by
 have := RowS.take h i hi
 rwa [← List.map_take] at this
theorem row_back8 {w : World} {g off n c : Nat} {L : List FlD} (h : RowS w (some ⟨g, off, none⟩) n c 8 (L.map fcl)) (i : Nat) (hi : i ≤ n) : RowS w (if c = i then some ⟨g, off, none⟩ else some ⟨g, off + i * 8, none⟩) (n - i) (c - i) 8 ((L.drop i).map fcl) := by
 have hl : L.length = n := by have := h.hlen; simpa using this
 have hc1 := h.hcap
 have hc2 := h.hmax
 by_cases hci : c = i
 ·rw [if_pos hci]
  have e : n - i = 0 := by omega
  have hd : L.drop i = [] := List.drop_eq_nil_of_le (by omega)
  rw [e, hd]
  exact RowS.nil _ _ _ _ (by omega)
 ·rw [if_neg hci]
  refine ⟨by simp; omega, by omega, by omega, fun x hx => by obtain ⟨b, _, rfl⟩ := List.mem_map.1 hx; rfl, ?_⟩
  rcases h.at_ with h0 | ⟨b, o, e, hlt, hc⟩
  ·exact .inl (by omega)
  ·injection e with e
   injection e with e1 e2
   subst e1; subst e2
   refine .inr ⟨g, off + i * 8, rfl, hlt, fun j hj m u hu => ?_⟩
   have hj2 : j < (L.drop i).length := by simpa using hj
   rw [List.length_drop] at hj2
   have := hc (i + j) (by simp; omega) m u (by
    rw [List.getElem_map] at hu ⊢
    rw [List.getElem_drop] at hu
    exact hu)
   rw [show off + i * 8 + j * 8 + m = off + (i + j) * 8 + m by omega]
   exact this
def PutIsF (w w' : World) (L : List FlD) (f : FlD) (e : Ending) (a' : Option Addr) (c' : Nat) : Prop := e = .returned (.slice a' (putL L f).length c') ∧ OwnS w' w.heap.size 83 8 (.slice a' (putL L f).length c') ((putL L f).map fcl) ∧ Touch w w' (fun _ => False)
set_option maxRecDepth 20000 in
set_option maxHeartbeats 16000000 in
theorem rputflow_any (w : World) (a : Option Addr) (c : Nat) (L : List FlD) (f : FlD) (hr : RowS w a L.length c 8 (L.map fcl)) (hl : L.length ≤ 1000) (hpl : a = none ∨ ∃ g off, a = some ⟨g, off, none⟩) :
 Calls Tryz.prog 91 #[.slice a L.length c, .agg (fca f)] w fun e w' => ∃ a' c', PutIsF w w' L f e a' c' := by
 obtain ⟨n, hn⟩ : ∃ n, L.length = n := ⟨_, rfl⟩
 have hmax := hr.hmax
 have hcap := hr.hcap
 obtain ⟨W1, hW1⟩ : ∃ W, w.alloc (.cells (fca f) 83) = W := ⟨_, rfl⟩
 obtain ⟨KF, hKF⟩ : ∃ k, w.heap.size = k := ⟨_, rfl⟩
 have t1 : Touch w W1 (fun _ => False) := hW1 ▸ (Touch.refl w _).alloc _
 have g1 : W1.heap[KF]? = some (.cells (fca f) 83 (0, 0)) := hKF ▸ hW1 ▸ heap_alloc_new ..
 have HCK1 : RowKit.Hid (∀ W, Touch W1 W (fun _ => False) → W.heap[KF]? = some (.cells (fca f) 83 (0, 0))) := Lib.hid (fun W t => t.keeps g1 (fun h => h))
 have HCF1 : RowKit.Hid (∀ W, Touch W1 W (fun _ => False) → W.cell? ⟨KF, 0, none⟩ = some (.int .u32 f.t.src) ∧ W.cell? ⟨KF, 1, none⟩ = some (.int .u32 f.t.dst) ∧ W.cell? ⟨KF, 2, none⟩ = some (.int .i64 f.t.proto) ∧ W.cell? ⟨KF, 3, none⟩ = some (.int .i64 f.t.sport) ∧ W.cell? ⟨KF, 4, none⟩ = some (.int .i64 f.t.dport)) := Lib.hid (fun W t => by
  have h := t.keeps g1 (fun h => h)
  exact ⟨cell_of_cells h 0, cell_of_cells h 1, cell_of_cells h 2, cell_of_cells h 3, cell_of_cells h 4⟩)
 simp only [fca] at HCK1
 have HT1 := Lib.hid t1
 have HR := Lib.hid (hr.still t1)
 have HN := Lib.hid hn
 have HW1 := Lib.hid (And.intro hW1 hKF)
 simp only [fca] at HW1 ⊢
 rw [hn] at HR hcap hl ⊢
 clear hr t1 g1 hW1 hKF hn
 go_enter Tryz.func91, Tryz.ntmps91
 go_upto_region 1 with (fail)
 rw [HW1.out.1, HW1.out.2]
 go_upto_block 0 with fail
 go_cut [5] (fun s5 wx => ∃ i : Nat, i ≤ n ∧ s5 = .int .i64 i ∧ (∀ x ∈ L.take i, lessT x.t f.t = true) ∧ (∀ x, (L.drop i).head? = some x → lessT x.t f.t = false) ∧ Touch W1 wx (fun _ => False))
 case first =>
  go_wp2_with fail
  go_loopw [5] (fun s5 wr => ∃ i : Nat, i ≤ n ∧ s5 = .int .i64 i ∧ (∀ x ∈ L.take i, lessT x.t f.t = true) ∧ Touch W1 wr (fun _ => False)) (fun s5 _ => n - (RowKit.intOf s5).toNat)
  case atStart => exact ⟨0, Nat.zero_le _, rfl, fun x hx => by simp at hx, Touch.refl _ _⟩
  case round =>
   obtain ⟨i, hi, rfl, hls, ht⟩ := hrel
   have HLT := Lib.hid hls
   have HT := Lib.hid ht
   clear hls ht
   obtain ⟨wz, hwz⟩ : ∃ W, wr = W := ⟨_, rfl⟩
   rw [hwz] at HT ⊢
   clear hwz
   by_cases hlt : i < n
   case neg =>
    obtain rfl : n = i := by omega
    have hlI : ¬ (n : Int) < n := by omega
    have HEX : RowKit.Hid (∀ x, (L.drop n).head? = some x → lessT x.t f.t = false) := Lib.hid (fun x hx => by rw [List.drop_eq_nil_of_le (by have := HN.out; omega)] at hx; cases hx)
    go_wp2_with fail
    have hS := (Touch.refl wz (fun _ => False)).drew
    refine wp_region_sched (fun w' => Touch wz w' (fun _ => False)) [(0, true), (1, true), (2, true), (3, true), (4, true), (5, true), (6, true), (7, true), (8, true), (9, true), (10, true), (11, true), (12, false), (13, true)] (by kernel_rfl) (by kernel_rfl) rfl (by kernel_rfl) hS ?_
    iterate 5 ((refine walkS_take (v := ?_) (some _) rfl rfl (fun _ _ _ h => h) (by rfl) ?_ ?_; rotate_left; (focus (intro w' hw'; go_simp; (try with_reducible rfl))); (try simp only [Act.put, List.setIfInBounds_toArray, List.set_cons_zero, List.set_cons_succ])))
    iterate 7 (first | (refine walkS_skip (some _) rfl rfl (by rfl) (fun _ _ _ h => h) hS ?_; (try simp only [Act.put, List.setIfInBounds_toArray, List.set_cons_zero, List.set_cons_succ])) | (refine walkS_take (v := ?_) (some _) rfl rfl (fun _ _ _ h => h) (by rfl) ?_ ?_; rotate_left; (focus (intro w' hw'; go_simp; (try with_reducible rfl))); (try simp only [Act.put, List.setIfInBounds_toArray, List.set_cons_zero, List.set_cons_succ])))
    first | (refine walkS_skip (some 19) rfl rfl (by rfl) (fun _ _ _ h => h) hS ?_; (try simp only [Act.put, List.setIfInBounds_toArray, List.set_cons_zero, List.set_cons_succ])) | (refine walkS_call 19 _ _ _ _ (HLS.out _) rfl rfl rfl (by rfl) rfl (enter_rlessP _ _ _) ?_; rintro e x9 ⟨rfl, t9⟩; have hS := hS.trans t9 (fun _ _ h => h); refine ⟨_, rfl, hS, fun hS => ?_⟩; clear t9; (try simp only [Act.put, List.setIfInBounds_toArray, List.set_cons_zero, List.set_cons_succ]))
    (refine walkS_take (v := ?_) (some 20) rfl rfl (fun _ _ _ h => h) (by rfl) ?_ ?_; rotate_left; (focus (intro w' hw'; go_simp; (try with_reducible rfl))); (try simp only [Act.put, List.setIfInBounds_toArray, List.set_cons_zero, List.set_cons_succ]))
    refine walkS_done ?_
    go_wp2_with fail
    go_meet
    exact ⟨n, Nat.le_refl _, rfl, HLT.out, HEX.out, HT.out.trans hS (fun _ _ h => h)⟩
   case pos =>
    have hr := HR.out.still HT.out
    obtain ⟨g, off, hga⟩ := hr.some (by omega)
    subst hga
    have hk1 : i < L.length := by rw [HN.out]; exact hlt
    have HCX : RowKit.Hid (∀ W, Touch wz W (fun _ => False) → W.cell? ⟨g, off + i * 8, none⟩ = some (.int .u32 L[i].t.src) ∧ W.cell? ⟨g, off + i * 8 + 1, none⟩ = some (.int .u32 L[i].t.dst) ∧ W.cell? ⟨g, off + i * 8 + 2, none⟩ = some (.int .i64 L[i].t.proto) ∧ W.cell? ⟨g, off + i * 8 + 3, none⟩ = some (.int .i64 L[i].t.sport) ∧ W.cell? ⟨g, off + i * 8 + 4, none⟩ = some (.int .i64 L[i].t.dport)) := Lib.hid (fun W t => by
     obtain ⟨c0, c1, c2, c3, c4, _⟩ := row_flc (hr.still t) i hk1
     exact ⟨c0, c1, c2, c3, c4⟩)
    have HCF : RowKit.Hid (∀ W, Touch wz W (fun _ => False) → _) := Lib.hid (fun W t => HCF1.out W (HT.out.trans t (fun _ _ h => h)))
    have HSN : RowKit.Hid (L.take (i + 1) = L.take i ++ [L[i]]) := Lib.hid (List.take_succ_eq_append_getElem hk1)
    have HDH : RowKit.Hid ((L.drop i).head? = some L[i]) := Lib.hid (by rw [List.drop_eq_getElem_cons hk1]; rfl)
    have hlI : (i : Int) < n := by omega
    clear hr
    generalize L[i] = q at *
    have HLS := Lib.hid (fun W => rless4_any q.t f.t W)
    obtain ⟨m, hm⟩ : ∃ m, lessT q.t f.t = m := ⟨_, rfl⟩
    rw [hm] at HLS
    simp only [tcs] at HLS
    cases m with
    | true =>
      have HX : RowKit.Hid (∀ x ∈ L.take (i + 1), lessT x.t f.t = true) := Lib.hid (fun x hx => by
       rw [HSN.out] at hx
       rcases List.mem_append.1 hx with h | h
       ·exact HLT.out x h
       ·obtain rfl := List.mem_singleton.1 h; exact hm)
      clear hm
      go_wp2_with fail
      have hS := (Touch.refl wz (fun _ => False)).drew
      refine wp_region_sched (fun w' => Touch wz w' (fun _ => False)) [(0, true), (1, true), (2, true), (3, true), (4, true), (5, true), (6, true), (7, true), (8, true), (9, true), (10, true), (11, true), (12, false), (13, true)] (by kernel_rfl) (by kernel_rfl) rfl (by kernel_rfl) hS ?_
      iterate 9 ((refine walkS_take (v := ?_) (some _) rfl rfl (fun _ _ _ h => h) (by rfl) ?_ ?_; rotate_left; (focus (intro w' hw'; go_simp; (try with_reducible rfl))); (try simp only [Act.put, List.setIfInBounds_toArray, List.set_cons_zero, List.set_cons_succ])))
      (refine walkS_take (v := ?_) (some 16) rfl rfl (fun _ _ _ h => h) (by rfl) ?_ ?_; rotate_left; (focus (intro w' hw'; obtain ⟨y0, y1, y2, y3, y4⟩ := HCX.out w' hw'; go_simp; (try with_reducible rfl))); (try simp only [Act.put, List.setIfInBounds_toArray, List.set_cons_zero, List.set_cons_succ]))
      (refine walkS_take (v := ?_) (some 17) rfl rfl (fun _ _ _ h => h) (by rfl) ?_ ?_; rotate_left; (focus (intro w' hw'; go_simp; (try with_reducible rfl))); (try simp only [Act.put, List.setIfInBounds_toArray, List.set_cons_zero, List.set_cons_succ]))
      (refine walkS_take (v := ?_) (some 18) rfl rfl (fun _ _ _ h => h) (by rfl) ?_ ?_; rotate_left; (focus (intro w' hw'; obtain ⟨x0, x1, x2, x3, x4⟩ := HCF.out w' hw'; go_simp; (try with_reducible rfl))); (try simp only [Act.put, List.setIfInBounds_toArray, List.set_cons_zero, List.set_cons_succ]))
      (refine walkS_call 19 _ _ _ _ (HLS.out _) rfl rfl rfl (by rfl) rfl (enter_rlessP _ _ _) ?_; rintro e x9 ⟨rfl, t9⟩; have hS := hS.trans t9 (fun _ _ h => h); refine ⟨_, rfl, hS, fun hS => ?_⟩; clear t9; (try simp only [Act.put, List.setIfInBounds_toArray, List.set_cons_zero, List.set_cons_succ]))
      (refine walkS_take (v := ?_) (some 20) rfl rfl (fun _ _ _ h => h) (by rfl) ?_ ?_; rotate_left; (focus (intro w' hw'; go_simp; (try with_reducible rfl))); (try simp only [Act.put, List.setIfInBounds_toArray, List.set_cons_zero, List.set_cons_succ]))
      refine walkS_done ?_
      have HY : RowKit.Hid (∃ i' : Nat, i' ≤ n ∧ Value.int .i64 ((i : Int) + 1) = .int .i64 i' ∧ (∀ x ∈ L.take i', lessT x.t f.t = true) ∧ Touch W1 x9 (fun _ => False)) := Lib.hid ⟨i + 1, by omega, by go_num, HX.out, HT.out.trans hS (fun _ _ h => h)⟩
      go_wp2_with fail
      go_roundw
      ·exact HY.out
      ·simp only [RowKit.intOf]; omega
    | false =>
      have HX : RowKit.Hid (∀ x, (L.drop i).head? = some x → lessT x.t f.t = false) := Lib.hid (fun x hx => by rw [HDH.out] at hx; injection hx with hx; rw [← hx]; exact hm)
      clear hm
      go_wp2_with fail
      have hS := (Touch.refl wz (fun _ => False)).drew
      refine wp_region_sched (fun w' => Touch wz w' (fun _ => False)) [(0, true), (1, true), (2, true), (3, true), (4, true), (5, true), (6, true), (7, true), (8, true), (9, true), (10, true), (11, true), (12, false), (13, true)] (by kernel_rfl) (by kernel_rfl) rfl (by kernel_rfl) hS ?_
      iterate 9 ((refine walkS_take (v := ?_) (some _) rfl rfl (fun _ _ _ h => h) (by rfl) ?_ ?_; rotate_left; (focus (intro w' hw'; go_simp; (try with_reducible rfl))); (try simp only [Act.put, List.setIfInBounds_toArray, List.set_cons_zero, List.set_cons_succ])))
      (refine walkS_take (v := ?_) (some 16) rfl rfl (fun _ _ _ h => h) (by rfl) ?_ ?_; rotate_left; (focus (intro w' hw'; obtain ⟨y0, y1, y2, y3, y4⟩ := HCX.out w' hw'; go_simp; (try with_reducible rfl))); (try simp only [Act.put, List.setIfInBounds_toArray, List.set_cons_zero, List.set_cons_succ]))
      (refine walkS_take (v := ?_) (some 17) rfl rfl (fun _ _ _ h => h) (by rfl) ?_ ?_; rotate_left; (focus (intro w' hw'; go_simp; (try with_reducible rfl))); (try simp only [Act.put, List.setIfInBounds_toArray, List.set_cons_zero, List.set_cons_succ]))
      (refine walkS_take (v := ?_) (some 18) rfl rfl (fun _ _ _ h => h) (by rfl) ?_ ?_; rotate_left; (focus (intro w' hw'; obtain ⟨x0, x1, x2, x3, x4⟩ := HCF.out w' hw'; go_simp; (try with_reducible rfl))); (try simp only [Act.put, List.setIfInBounds_toArray, List.set_cons_zero, List.set_cons_succ]))
      (refine walkS_call 19 _ _ _ _ (HLS.out _) rfl rfl rfl (by rfl) rfl (enter_rlessP _ _ _) ?_; rintro e x9 ⟨rfl, t9⟩; have hS := hS.trans t9 (fun _ _ h => h); refine ⟨_, rfl, hS, fun hS => ?_⟩; clear t9; (try simp only [Act.put, List.setIfInBounds_toArray, List.set_cons_zero, List.set_cons_succ]))
      (refine walkS_take (v := ?_) (some 20) rfl rfl (fun _ _ _ h => h) (by rfl) ?_ ?_; rotate_left; (focus (intro w' hw'; go_simp; (try with_reducible rfl))); (try simp only [Act.put, List.setIfInBounds_toArray, List.set_cons_zero, List.set_cons_succ]))
      refine walkS_done ?_
      go_wp2_with fail
      go_meet
      exact ⟨i, by omega, rfl, HLT.out, HX.out, HT.out.trans hS (fun _ _ h => h)⟩
 case rest =>
  obtain ⟨i, hi, rfl, hls, hex, ht⟩ := hcut
  have HLT := Lib.hid hls
  have HEX := Lib.hid hex
  obtain ⟨wz, hwz⟩ : ∃ W, wc = W := ⟨_, rfl⟩
  rw [hwz] at ht ⊢
  have HT := Lib.hid ht
  have HPT : RowKit.Hid (putL L f = L.take i ++ f :: tailL (L.drop i) f) := Lib.hid (putL_at L f i (by have := HN.out; omega) hls hex)
  have HTL : RowKit.Hid ((L.take i).length = i) := Lib.hid (by rw [List.length_take]; have := HN.out; omega)
  have HCK : RowKit.Hid (∀ W, Touch wz W (fun _ => False) → _) := Lib.hid (fun W t => HCK1.out W (HT.out.trans t (fun _ _ h => h)))
  have HCF : RowKit.Hid (∀ W, Touch wz W (fun _ => False) → _) := Lib.hid (fun W t => HCF1.out W (HT.out.trans t (fun _ _ h => h)))
  have HZW : RowKit.Hid (Touch w wz (fun _ => False)) := Lib.hid (HT1.out.trans ht (fun _ _ h => h))
  have HEND : RowKit.Hid (∀ (a8 : Option Addr) (c8 k8 : Nat) (w8 : World), (putL L f).length = k8 → OwnS w8 wz.heap.size 83 8 (.slice a8 k8 c8) ((putL L f).map fcl) → Touch wz w8 (fun _ => False) → PutIsF w w8 L f (.returned (.slice a8 k8 c8)) a8 c8) := Lib.hid (fun a8 c8 k8 w8 hk o t => ⟨by rw [hk], hk ▸ OwnS.rebase o (fun x hx => Nat.le_trans HZW.out.size (o.own.lt x hx).1), HZW.out.trans t (fun _ _ h => h)⟩)
  clear hls hex ht hwz
  rcases hpl with rfl | ⟨g, off, rfl⟩
  ·have hn0 : n = 0 := by
    rcases HR.out.at_ with h | ⟨b, o, e, _⟩
    ·exact h
    ·cases e
   subst hn0
   have hL : L = [] := List.eq_nil_of_length_eq_zero HN.out
   subst hL
   obtain rfl : i = 0 := by omega
   have HRT : RowKit.Hid (∀ W, Touch wz W (fun _ => False) → RowS W none 0 c 8 (([] : List FlD).map fcl)) := Lib.hid (fun W t => RowS.nil _ _ _ _ (by omega))
   have HK8 : RowKit.Hid ((putL [] f).length = 1) := Lib.hid rfl
   go_upto_region 5 with (fail)
   go_wp2_with fail
   have hS := (Touch.refl wz (fun _ => False)).drew
   refine wp_region_sched (fun w' => Touch wz w' (fun _ => False)) [(0, true), (1, true), (2, true), (3, true), (4, true), (5, true), (6, true), (7, true), (8, true), (9, true), (10, true), (11, true)] (by kernel_rfl) (by kernel_rfl) rfl (by kernel_rfl) hS ?_
   iterate 4 ((refine walkS_take (v := ?_) (some _) rfl rfl (fun _ _ _ h => h) (by rfl) ?_ ?_; rotate_left; (focus (intro w' hw'; go_simp; (try with_reducible rfl))); (try simp only [Act.put, List.setIfInBounds_toArray, List.set_cons_zero, List.set_cons_succ])))
   iterate 7 (first | (refine walkS_skip (some _) rfl rfl (by rfl) (fun _ _ _ h => h) hS ?_; (try simp only [Act.put, List.setIfInBounds_toArray, List.set_cons_zero, List.set_cons_succ])) | (refine walkS_take (v := ?_) (some _) rfl rfl (fun _ _ _ h => h) (by rfl) ?_ ?_; rotate_left; (focus (intro w' hw'; go_simp; (try with_reducible rfl))); (try simp only [Act.put, List.setIfInBounds_toArray, List.set_cons_zero, List.set_cons_succ])))
   (refine walkS_take (v := ?_) (some 37) rfl rfl (fun _ _ _ h => h) (by rfl) ?_ ?_; rotate_left; (focus (intro w' hw'; go_simp; (try with_reducible rfl))); (try simp only [Act.put, List.setIfInBounds_toArray, List.set_cons_zero, List.set_cons_succ]))
   refine walkS_done ?_
   go_upto_region 7 with (fail)
   obtain ⟨wy, hwy⟩ : ∃ W, wz = W := ⟨_, rfl⟩
   go_wp2_with fail
   have hS := hS.drew
   refine wp_region_tree3 (fun w' => Touch wz w' (fun _ => False)) (.take 0 (.take 1 (.take 2 (.take 4 (.take 7 (.two 3 5 (.one 5 (.one 6 (.one 8 (.take 9 .fin)))) (.one 3 (.one 6 (.one 8 (.take 9 .fin)))))))))) (by kernel_rfl) (by kernel_rfl) (by kernel_rfl) (by kernel_rfl) hS ?_
   repeat' (first
    | (with_reducible refine walk3_take ?_)
    | (with_reducible refine walk3_one ?_)
    | (with_reducible refine walk3_two ?_ ?_)
    | (with_reducible refine walk3_fin ?_)
    | ((with_reducible show TakeN _ _ _ _ 4 _ _ _); ((refine takeN_row (some 44) rfl rfl 83 (.tmp 3) rfl (KF) rfl _ _ _ _ (fun w' h => HCK.out w' h) Tryz.underlying83 rfl infoFlG (fun _ _ _ h => h) (by rfl) ?_; (try simp only [Act.put, List.setIfInBounds_toArray, List.set_cons_zero, List.set_cons_succ]))))
    | ((with_reducible show TakeN _ _ _ _ _ _ _ _); ((refine takeN_take (v := ?_) (some _) rfl rfl (fun _ _ _ h => h) (by rfl) ?_ ?_; rotate_left; (focus (intro w' hw'; go_simp; (try with_reducible rfl))); (try simp only [Act.put, List.setIfInBounds_toArray, List.set_cons_zero, List.set_cons_succ]))))
    | ((with_reducible show RunN _ _ _ _ 3 _ _ _); ((refine runN_appS 43 (.const (.slice none 0 0)) (.tmp 42) _ rfl rfl rfl (by rfl) 83 Tryz.underlying61 _ 8 56 infoFlowB rfl (by decide) wz.heap.size _ _ rfl (OwnS.nil _ _ _ _) _ _ _ _ rfl (RowS.nil _ _ _ _ (by omega)) (fun l hl => by cases hl) (0) (([] : List FlD).map fcl) (by simp) (by simp) (by simp only [maxLen]; omega) (by omega) hS.size ?_; intro a3 c3 w3 how9 hg9 hp9; have t9 := (Touch.refl _ (fun q => wz.heap.size ≤ q)).grown hg9 (fun q hq _ => by cases hq); have hS := hS.trans t9 (fun q h1 h2 => by have h2 : wz.heap.size ≤ q := h2; omega); refine ⟨hS, fun _ => ?_⟩; (try have HNW := Lib.hid (HNW.out.touch ((Touch.refl _ (fun _ => False)).grown hg9 (fun q hq _ => by cases hq)) (fun _ _ => .inr (fun h => h)))); have HO3 := Lib.hid how9; clear how9 hg9 hp9 t9; (try simp only [Act.put, List.setIfInBounds_toArray, List.set_cons_zero, List.set_cons_succ]))))
    | ((with_reducible show RunN _ _ _ _ 5 _ _ _); ((refine runN_new 45 (fun W => .slice (some ⟨W.heap.size, 0, none⟩) 1 1) #[.int .u32 f.t.src, .int .u32 f.t.dst, .int .i64 f.t.proto, .int .i64 f.t.sport, .int .i64 f.t.dport, .int .i64 f.fb, .int .i64 f.fg, .int .i64 f.fs] 83 rfl rfl (by rfl) (by intro W; go_simp <;> first | with_reducible rfl | rfl | exact ⟨rfl, rfl⟩) ?_; intro w7 hw7 hM7 hs7 t9; have hS := hS.trans t9 (fun _ _ h => h.elim); refine ⟨hS, fun _ => ?_⟩; have HNW := Lib.hid (show RowS w7 _ 1 1 8 [fcl f] by rw [hw7]; exact ((OwnS.lit _ _ (Nat.le_refl _) 83 8 1 [fcl f] _ rfl rfl (by simp [fcl]) (by decide)).row').2.1); (try have HO3 := Lib.hid (HO3.out.still t9)); clear hw7 hM7 hs7 t9; (try simp only [Act.put, List.setIfInBounds_toArray, List.set_cons_zero, List.set_cons_succ]))))
    | ((with_reducible show RunN _ _ _ _ 6 _ _ _); ((refine runN_appS 46 (.tmp 43) (.tmp 45) _ rfl rfl rfl (by rfl) 83 Tryz.underlying61 _ 8 56 infoFlowB rfl (by decide) wz.heap.size _ _ rfl HO3.out _ _ _ _ rfl HNW.out (one_fcl1P f) (1) (([] : List FlD).map fcl ++ [fcl f]) (rfl) (by rfl) (by simp only [maxLen]; omega) (by omega) hS.size ?_; intro a6 c6 w6 how9 hg9 hp9; have t9 := (Touch.refl _ (fun q => wz.heap.size ≤ q)).grown hg9 (fun q hq _ => (HO3.out.own.lt q hq).1); have hS := hS.trans t9 (fun q h1 h2 => by have h2 : wz.heap.size ≤ q := h2; omega); refine ⟨hS, fun _ => ?_⟩; have HO6 := Lib.hid how9; clear how9 hg9 hp9 t9; (try simp only [Act.put, List.setIfInBounds_toArray, List.set_cons_zero, List.set_cons_succ]))))
    | ((with_reducible show RunN _ _ _ _ 8 _ _ _); ((refine runN_appS 48 (.tmp 46) (.tmp 47) _ rfl rfl rfl (by rfl) 83 Tryz.underlying61 _ 8 56 infoFlowB rfl (by decide) wz.heap.size _ _ rfl HO6.out _ _ _ _ rfl (RowS.nil _ _ _ _ (by omega)) (fun l hl => by cases hl) (1) ([fcl f]) (by simp) (by simp) (by simp only [maxLen]; omega) (by omega) hS.size ?_; intro a8 c8 w8 how9 hg9 hp9; have t9 := (Touch.refl _ (fun q => wz.heap.size ≤ q)).grown hg9 (fun q hq _ => (HO6.out.own.lt q hq).1); have hS := hS.trans t9 (fun q h1 h2 => by have h2 : wz.heap.size ≤ q := h2; omega); refine ⟨hS, fun _ => ?_⟩; have HO8 := Lib.hid how9; clear how9 hg9 hp9 t9; (try simp only [Act.put, List.setIfInBounds_toArray, List.set_cons_zero, List.set_cons_succ])))))
   all_goals
    go_wp2_with fail
    go_ret
    exact ⟨_, _, HEND.out _ _ _ _ HK8.out HO8.out hS⟩
  ·have HRT0 : RowKit.Hid (∀ W, Touch wz W (fun _ => False) → RowS W (if c = i then some ⟨g, off, none⟩ else some ⟨g, off + i * 8, none⟩) (n - i) (c - i) 8 ((L.drop i).map fcl)) := Lib.hid (fun W t => row_back8 (HR.out.still (HT.out.trans t (fun _ _ h => h))) i hi)
   have HRF : RowKit.Hid (∀ W, Touch wz W (fun _ => False) → RowS W (some ⟨g, off, none⟩) i c 8 ((L.take i).map fcl)) := Lib.hid (fun W t => row_front8 (HR.out.still (HT.out.trans t (fun _ _ h => h))) i hi)
   obtain ⟨ra, hra⟩ : ∃ ra, (if c = i then some ⟨g, off, none⟩ else some ⟨g, off + i * 8, none⟩ : Option Addr) = ra := ⟨_, rfl⟩
   rw [hra] at HRT0
   have hic : i ≤ c := by omega
   obtain ⟨q, hq⟩ : ∃ q, n - i = q := ⟨_, rfl⟩
   obtain ⟨d, hd⟩ : ∃ d, c - i = d := ⟨_, rfl⟩
   rw [hq, hd] at HRT0
   have hqd : q ≤ d := by omega
   have hdm : d ≤ 9223372036854775807 := by omega
   have hqn : i + q = n := by omega
   have hLD : RowKit.Hid ((L.drop i).length = q) := Lib.hid (by rw [List.length_drop, HN.out]; exact hq)
   cases hdr : L.drop i with
   | nil =>
     have hq0 : q = 0 := by have h := hLD.out; rw [hdr] at h; exact h.symm
     subst hq0
     rw [hdr] at HRT0 HPT
     have HRT := HRT0
     have HK8 : RowKit.Hid ((putL L f).length = i + 1 + 0) := Lib.hid (by rw [HPT.out, List.length_append, HTL.out]; rfl)
     have HPL : RowKit.Hid ((L.take i).map fcl ++ [fcl f] ++ ([] : List FlD).map fcl = (putL L f).map fcl) := Lib.hid (by rw [HPT.out, List.map_append]; simp [tailL])
     clear hdr
     go_upto_region 5 with (fail)
     go_wp2_with fail
     have hS := (Touch.refl wz (fun _ => False)).drew
     refine wp_region_sched (fun w' => Touch wz w' (fun _ => False)) [(0, true), (1, true), (2, true), (3, true), (4, true), (5, true), (6, true), (7, true), (8, true), (9, true), (10, true), (11, true)] (by kernel_rfl) (by kernel_rfl) rfl (by kernel_rfl) hS ?_
     iterate 4 ((refine walkS_take (v := ?_) (some _) rfl rfl (fun _ _ _ h => h) (by rfl) ?_ ?_; rotate_left; (focus (intro w' hw'; go_simp; (try with_reducible rfl))); (try simp only [Act.put, List.setIfInBounds_toArray, List.set_cons_zero, List.set_cons_succ])))
     iterate 7 (first | (refine walkS_skip (some _) rfl rfl (by rfl) (fun _ _ _ h => h) hS ?_; (try simp only [Act.put, List.setIfInBounds_toArray, List.set_cons_zero, List.set_cons_succ])) | (refine walkS_take (v := ?_) (some _) rfl rfl (fun _ _ _ h => h) (by rfl) ?_ ?_; rotate_left; (focus (intro w' hw'; go_simp; (try with_reducible rfl))); (try simp only [Act.put, List.setIfInBounds_toArray, List.set_cons_zero, List.set_cons_succ])))
     (refine walkS_take (v := ?_) (some 37) rfl rfl (fun _ _ _ h => h) (by rfl) ?_ ?_; rotate_left; (focus (intro w' hw'; go_simp; (try with_reducible rfl))); (try simp only [Act.put, List.setIfInBounds_toArray, List.set_cons_zero, List.set_cons_succ]))
     refine walkS_done ?_
     go_upto_region 7 with (fail)
     go_wp2_with fail
     have hS := hS.drew
     refine wp_region_tree3 (fun w' => Touch wz w' (fun _ => False)) (.take 0 (.take 1 (.take 2 (.take 4 (.take 7 (.two 3 5 (.one 5 (.one 6 (.one 8 (.take 9 .fin)))) (.one 3 (.one 6 (.one 8 (.take 9 .fin)))))))))) (by kernel_rfl) (by kernel_rfl) (by kernel_rfl) (by kernel_rfl) hS ?_
     repeat' (first
      | (with_reducible refine walk3_take ?_)
      | (with_reducible refine walk3_one ?_)
      | (with_reducible refine walk3_two ?_ ?_)
      | (with_reducible refine walk3_fin ?_)
      | ((with_reducible show TakeN _ _ _ _ 4 _ _ _); ((refine takeN_row (some 44) rfl rfl 83 (.tmp 3) rfl (KF) rfl _ _ _ _ (fun w' h => HCK.out w' h) Tryz.underlying83 rfl infoFlG (fun _ _ _ h => h) (by rfl) ?_; (try simp only [Act.put, List.setIfInBounds_toArray, List.set_cons_zero, List.set_cons_succ]))))
      | ((with_reducible show TakeN _ _ _ _ _ _ _ _); ((refine takeN_take (v := ?_) (some _) rfl rfl (fun _ _ _ h => h) (by rfl) ?_ ?_; rotate_left; (focus (intro w' hw'; go_simp; (try with_reducible rfl))); (try simp only [Act.put, List.setIfInBounds_toArray, List.set_cons_zero, List.set_cons_succ]))))
      | ((with_reducible show RunN _ _ _ _ 3 _ _ _); ((refine runN_appS 43 (.const (.slice none 0 0)) (.tmp 42) _ rfl rfl rfl (by rfl) 83 Tryz.underlying61 _ 8 56 infoFlowB rfl (by decide) wz.heap.size _ _ rfl (OwnS.nil _ _ _ _) _ _ _ _ rfl (HRF.out _ hS) (one_fclP _) (i) ((L.take i).map fcl) (by simp) (by simp) (by simp only [maxLen]; omega) (by omega) hS.size ?_; intro a3 c3 w3 how9 hg9 hp9; have t9 := (Touch.refl _ (fun q => wz.heap.size ≤ q)).grown hg9 (fun q hq _ => by cases hq); have hS := hS.trans t9 (fun q h1 h2 => by have h2 : wz.heap.size ≤ q := h2; omega); refine ⟨hS, fun _ => ?_⟩; (try have HNW := Lib.hid (HNW.out.touch ((Touch.refl _ (fun _ => False)).grown hg9 (fun q hq _ => by cases hq)) (fun _ _ => .inr (fun h => h)))); have HO3 := Lib.hid how9; clear how9 hg9 hp9 t9; (try simp only [Act.put, List.setIfInBounds_toArray, List.set_cons_zero, List.set_cons_succ]))))
      | ((with_reducible show RunN _ _ _ _ 5 _ _ _); ((refine runN_new 45 (fun W => .slice (some ⟨W.heap.size, 0, none⟩) 1 1) #[.int .u32 f.t.src, .int .u32 f.t.dst, .int .i64 f.t.proto, .int .i64 f.t.sport, .int .i64 f.t.dport, .int .i64 f.fb, .int .i64 f.fg, .int .i64 f.fs] 83 rfl rfl (by rfl) (by intro W; go_simp <;> first | with_reducible rfl | rfl | exact ⟨rfl, rfl⟩) ?_; intro w7 hw7 hM7 hs7 t9; have hS := hS.trans t9 (fun _ _ h => h.elim); refine ⟨hS, fun _ => ?_⟩; have HNW := Lib.hid (show RowS w7 _ 1 1 8 [fcl f] by rw [hw7]; exact ((OwnS.lit _ _ (Nat.le_refl _) 83 8 1 [fcl f] _ rfl rfl (by simp [fcl]) (by decide)).row').2.1); (try have HO3 := Lib.hid (HO3.out.still t9)); clear hw7 hM7 hs7 t9; (try simp only [Act.put, List.setIfInBounds_toArray, List.set_cons_zero, List.set_cons_succ]))))
      | ((with_reducible show RunN _ _ _ _ 6 _ _ _); ((refine runN_appS 46 (.tmp 43) (.tmp 45) _ rfl rfl rfl (by rfl) 83 Tryz.underlying61 _ 8 56 infoFlowB rfl (by decide) wz.heap.size _ _ rfl HO3.out _ _ _ _ rfl HNW.out (one_fcl1P f) (i + 1) ((L.take i).map fcl ++ [fcl f]) (rfl) (by rw [List.length_map, HTL.out]) (by simp only [maxLen]; omega) (by omega) hS.size ?_; intro a6 c6 w6 how9 hg9 hp9; have t9 := (Touch.refl _ (fun q => wz.heap.size ≤ q)).grown hg9 (fun q hq _ => (HO3.out.own.lt q hq).1); have hS := hS.trans t9 (fun q h1 h2 => by have h2 : wz.heap.size ≤ q := h2; omega); refine ⟨hS, fun _ => ?_⟩; have HO6 := Lib.hid how9; clear how9 hg9 hp9 t9; (try simp only [Act.put, List.setIfInBounds_toArray, List.set_cons_zero, List.set_cons_succ]))))
      | ((with_reducible show RunN _ _ _ _ 8 _ _ _); ((refine runN_appS 48 (.tmp 46) (.tmp 47) _ rfl rfl rfl (by rfl) 83 Tryz.underlying61 _ 8 56 infoFlowB rfl (by decide) wz.heap.size _ _ rfl HO6.out _ _ _ _ rfl (HRT.out _ hS) (one_fclP _) (i + 1 + 0) ((putL L f).map fcl) (HPL.out) (by rw [List.length_append, List.length_map, HTL.out]; simp) (by simp only [maxLen]; omega) (by omega) hS.size ?_; intro a8 c8 w8 how9 hg9 hp9; have t9 := (Touch.refl _ (fun q => wz.heap.size ≤ q)).grown hg9 (fun q hq _ => (HO6.out.own.lt q hq).1); have hS := hS.trans t9 (fun q h1 h2 => by have h2 : wz.heap.size ≤ q := h2; omega); refine ⟨hS, fun _ => ?_⟩; have HO8 := Lib.hid how9; clear how9 hg9 hp9 t9; (try simp only [Act.put, List.setIfInBounds_toArray, List.set_cons_zero, List.set_cons_succ])))))
     all_goals
      go_wp2_with fail
      go_ret
      exact ⟨_, _, HEND.out _ _ _ _ HK8.out HO8.out hS⟩
   | cons x r =>
     have hq1 : q = r.length + 1 := by have h := hLD.out; rw [hdr] at h; exact h.symm
     rw [hdr] at HRT0 HPT
     have hq0 : 0 < q := by omega
     have hq0I : (0 : Int) < q := by omega
     have hci : ¬ c = i := by omega
     rw [if_neg hci] at hra
     subst hra
     have HCX : RowKit.Hid (∀ W, Touch wz W (fun _ => False) → W.cell? ⟨g, off + i * 8, none⟩ = some (.int .u32 x.t.src) ∧ W.cell? ⟨g, off + i * 8 + 1, none⟩ = some (.int .u32 x.t.dst) ∧ W.cell? ⟨g, off + i * 8 + 2, none⟩ = some (.int .i64 x.t.proto) ∧ W.cell? ⟨g, off + i * 8 + 3, none⟩ = some (.int .i64 x.t.sport) ∧ W.cell? ⟨g, off + i * 8 + 4, none⟩ = some (.int .i64 x.t.dport)) := Lib.hid (fun W t => by
      have h8 := HRT0.out W t
      rw [hq1] at h8
      obtain ⟨c0, c1, c2, c3, c4, _⟩ := row_flc (L := x :: r) h8 0 (by simp)
      simp only [Nat.zero_mul, Nat.add_zero, List.getElem_cons_zero] at c0 c1 c2 c3 c4
      exact ⟨c0, c1, c2, c3, c4⟩)
     by_cases hs : sameT x.t f.t = true
     ·have he := (sameT_iff _ _).1 hs
      rw [he] at HCX
      have HRT1 : RowKit.Hid (∀ W, Touch wz W (fun _ => False) → RowS W (if d = 1 then some ⟨g, off + i * 8, none⟩ else some ⟨g, off + i * 8 + 1 * 8, none⟩) (q - 1) (d - 1) 8 ((L.drop (i + 1)).map fcl)) := Lib.hid (fun W t => by
       have h8 := HRT0.out W t
       rw [← hdr] at h8
       have h9 := row_back8 h8 1 (by omega)
       rwa [List.drop_drop] at h9)
      have hdr2 : L.drop (i + 1) = r := by rw [← List.drop_drop, hdr]; rfl
      rw [hdr2] at HRT1
      obtain ⟨rc, hrc⟩ : ∃ rc, (if d = 1 then some ⟨g, off + i * 8, none⟩ else some ⟨g, off + i * 8 + 1 * 8, none⟩ : Option Addr) = rc := ⟨_, rfl⟩
      rw [hrc] at HRT1
      rw [Nat.one_mul] at hrc
      obtain ⟨q1, hq2⟩ : ∃ q1, q - 1 = q1 := ⟨_, rfl⟩
      obtain ⟨d1, hd2⟩ : ∃ d1, d - 1 = d1 := ⟨_, rfl⟩
      rw [hq2, hd2] at HRT1
      have HRT := HRT1
      have hd0 : 1 ≤ d := by omega
      have hq9 : 1 ≤ q := by omega
      have HK8 : RowKit.Hid ((putL L f).length = i + 1 + q1) := Lib.hid (by rw [HPT.out, List.length_append, HTL.out, List.length_cons]; simp only [tailL]; rw [if_pos hs]; omega)
      have HPL : RowKit.Hid ((L.take i).map fcl ++ [fcl f] ++ r.map fcl = (putL L f).map fcl) := Lib.hid (by rw [HPT.out, List.map_append]; simp only [tailL]; rw [if_pos hs]; simp)
      have hb1 : i + 1 + q1 ≤ 1001 := by omega
      clear hdr hdr2 hs he hq1
      go_upto_region 5 with (fail)
      go_wp2_with fail
      have hS := (Touch.refl wz (fun _ => False)).drew
      refine wp_region_sched (fun w' => Touch wz w' (fun _ => False)) [(0, true), (1, true), (2, true), (3, true), (4, true), (5, true), (6, true), (7, true), (8, true), (9, true), (10, true), (11, true)] (by kernel_rfl) (by kernel_rfl) rfl (by kernel_rfl) hS ?_
      iterate 7 ((refine walkS_take (v := ?_) (some _) rfl rfl (fun _ _ _ h => h) (by rfl) ?_ ?_; rotate_left; (focus (intro w' hw'; go_simp; (try with_reducible rfl))); (try simp only [Act.put, List.setIfInBounds_toArray, List.set_cons_zero, List.set_cons_succ])))
      (refine walkS_take (v := ?_) (some 33) rfl rfl (fun _ _ _ h => h) (by rfl) ?_ ?_; rotate_left; (focus (intro w' hw'; obtain ⟨y0, y1, y2, y3, y4⟩ := HCX.out w' hw'; go_simp; (try with_reducible rfl))); (try simp only [Act.put, List.setIfInBounds_toArray, List.set_cons_zero, List.set_cons_succ]))
      (refine walkS_take (v := ?_) (some 34) rfl rfl (fun _ _ _ h => h) (by rfl) ?_ ?_; rotate_left; (focus (intro w' hw'; go_simp; (try with_reducible rfl))); (try simp only [Act.put, List.setIfInBounds_toArray, List.set_cons_zero, List.set_cons_succ]))
      (refine walkS_take (v := ?_) (some 35) rfl rfl (fun _ _ _ h => h) (by rfl) ?_ ?_; rotate_left; (focus (intro w' hw'; obtain ⟨x0, x1, x2, x3, x4⟩ := HCF.out w' hw'; go_simp; (try with_reducible rfl))); (try simp only [Act.put, List.setIfInBounds_toArray, List.set_cons_zero, List.set_cons_succ]))
      (refine walkS_bin (some 36) _ _ _ _ _ _ _ _ (eqlT_runP _ _ _ _ _) rfl rfl rfl rfl rfl (fun _ _ _ h => h) (by rfl) ?_; (try simp only [Act.put, List.setIfInBounds_toArray, List.set_cons_zero, List.set_cons_succ]))
      (refine walkS_take (v := ?_) (some 37) rfl rfl (fun _ _ _ h => h) (by rfl) ?_ ?_; rotate_left; (focus (intro w' hw'; go_simp; (try with_reducible rfl))); (try simp only [Act.put, List.setIfInBounds_toArray, List.set_cons_zero, List.set_cons_succ]))
      refine walkS_done ?_
      go_upto_region 7 with (fail)
      go_wp2_with fail
      have hS := hS.drew
      refine wp_region_tree3 (fun w' => Touch wz w' (fun _ => False)) (.take 0 (.take 1 (.take 2 (.take 4 (.take 7 (.two 3 5 (.one 5 (.one 6 (.one 8 (.take 9 .fin)))) (.one 3 (.one 6 (.one 8 (.take 9 .fin)))))))))) (by kernel_rfl) (by kernel_rfl) (by kernel_rfl) (by kernel_rfl) hS ?_
      repeat' (first
       | (with_reducible refine walk3_take ?_)
       | (with_reducible refine walk3_one ?_)
       | (with_reducible refine walk3_two ?_ ?_)
       | (with_reducible refine walk3_fin ?_)
       | ((with_reducible show TakeN _ _ _ _ 4 _ _ _); ((refine takeN_row (some 44) rfl rfl 83 (.tmp 3) rfl (KF) rfl _ _ _ _ (fun w' h => HCK.out w' h) Tryz.underlying83 rfl infoFlG (fun _ _ _ h => h) (by rfl) ?_; (try simp only [Act.put, List.setIfInBounds_toArray, List.set_cons_zero, List.set_cons_succ]))))
       | ((with_reducible show TakeN _ _ _ _ _ _ _ _); ((refine takeN_take (v := ?_) (some _) rfl rfl (fun _ _ _ h => h) (by rfl) ?_ ?_; rotate_left; (focus (intro w' hw'; go_simp; (try with_reducible rfl))); (try simp only [Act.put, List.setIfInBounds_toArray, List.set_cons_zero, List.set_cons_succ]))))
       | ((with_reducible show RunN _ _ _ _ 3 _ _ _); ((refine runN_appS 43 (.const (.slice none 0 0)) (.tmp 42) _ rfl rfl rfl (by rfl) 83 Tryz.underlying61 _ 8 56 infoFlowB rfl (by decide) wz.heap.size _ _ rfl (OwnS.nil _ _ _ _) _ _ _ _ rfl (HRF.out _ hS) (one_fclP _) (i) ((L.take i).map fcl) (by simp) (by simp) (by simp only [maxLen]; omega) (by omega) hS.size ?_; intro a3 c3 w3 how9 hg9 hp9; have t9 := (Touch.refl _ (fun q => wz.heap.size ≤ q)).grown hg9 (fun q hq _ => by cases hq); have hS := hS.trans t9 (fun q h1 h2 => by have h2 : wz.heap.size ≤ q := h2; omega); refine ⟨hS, fun _ => ?_⟩; (try have HNW := Lib.hid (HNW.out.touch ((Touch.refl _ (fun _ => False)).grown hg9 (fun q hq _ => by cases hq)) (fun _ _ => .inr (fun h => h)))); have HO3 := Lib.hid how9; clear how9 hg9 hp9 t9; (try simp only [Act.put, List.setIfInBounds_toArray, List.set_cons_zero, List.set_cons_succ]))))
       | ((with_reducible show RunN _ _ _ _ 5 _ _ _); ((refine runN_new 45 (fun W => .slice (some ⟨W.heap.size, 0, none⟩) 1 1) #[.int .u32 f.t.src, .int .u32 f.t.dst, .int .i64 f.t.proto, .int .i64 f.t.sport, .int .i64 f.t.dport, .int .i64 f.fb, .int .i64 f.fg, .int .i64 f.fs] 83 rfl rfl (by rfl) (by intro W; go_simp <;> first | with_reducible rfl | rfl | exact ⟨rfl, rfl⟩) ?_; intro w7 hw7 hM7 hs7 t9; have hS := hS.trans t9 (fun _ _ h => h.elim); refine ⟨hS, fun _ => ?_⟩; have HNW := Lib.hid (show RowS w7 _ 1 1 8 [fcl f] by rw [hw7]; exact ((OwnS.lit _ _ (Nat.le_refl _) 83 8 1 [fcl f] _ rfl rfl (by simp [fcl]) (by decide)).row').2.1); (try have HO3 := Lib.hid (HO3.out.still t9)); clear hw7 hM7 hs7 t9; (try simp only [Act.put, List.setIfInBounds_toArray, List.set_cons_zero, List.set_cons_succ]))))
       | ((with_reducible show RunN _ _ _ _ 6 _ _ _); ((refine runN_appS 46 (.tmp 43) (.tmp 45) _ rfl rfl rfl (by rfl) 83 Tryz.underlying61 _ 8 56 infoFlowB rfl (by decide) wz.heap.size _ _ rfl HO3.out _ _ _ _ rfl HNW.out (one_fcl1P f) (i + 1) ((L.take i).map fcl ++ [fcl f]) (rfl) (by rw [List.length_map, HTL.out]) (by simp only [maxLen]; omega) (by omega) hS.size ?_; intro a6 c6 w6 how9 hg9 hp9; have t9 := (Touch.refl _ (fun q => wz.heap.size ≤ q)).grown hg9 (fun q hq _ => (HO3.out.own.lt q hq).1); have hS := hS.trans t9 (fun q h1 h2 => by have h2 : wz.heap.size ≤ q := h2; omega); refine ⟨hS, fun _ => ?_⟩; have HO6 := Lib.hid how9; clear how9 hg9 hp9 t9; (try simp only [Act.put, List.setIfInBounds_toArray, List.set_cons_zero, List.set_cons_succ]))))
       | ((with_reducible show RunN _ _ _ _ 8 _ _ _); ((refine runN_appS 48 (.tmp 46) (.tmp 47) _ rfl rfl rfl (by rfl) 83 Tryz.underlying61 _ 8 56 infoFlowB rfl (by decide) wz.heap.size _ _ rfl HO6.out _ _ _ _ rfl (HRT.out _ hS) (one_fclP _) (i + 1 + q1) ((putL L f).map fcl) (HPL.out) (by rw [List.length_append, List.length_map, HTL.out]; simp) (by simp only [maxLen]; omega) (by omega) hS.size ?_; intro a8 c8 w8 how9 hg9 hp9; have t9 := (Touch.refl _ (fun q => wz.heap.size ≤ q)).grown hg9 (fun q hq _ => (HO6.out.own.lt q hq).1); have hS := hS.trans t9 (fun q h1 h2 => by have h2 : wz.heap.size ≤ q := h2; omega); refine ⟨hS, fun _ => ?_⟩; have HO8 := Lib.hid how9; clear how9 hg9 hp9 t9; (try simp only [Act.put, List.setIfInBounds_toArray, List.set_cons_zero, List.set_cons_succ])))))
      all_goals
       go_wp2_with fail
       go_ret
       exact ⟨_, _, HEND.out _ _ _ _ HK8.out HO8.out hS⟩
     ·have hne : ¬ (x.t.src = f.t.src ∧ x.t.dst = f.t.dst ∧ x.t.proto = f.t.proto ∧ x.t.sport = f.t.sport ∧ x.t.dport = f.t.dport) := fun h => hs (decide_eq_true h)
      have HNE := Lib.hid hne
      have HRT := HRT0
      have HK8 : RowKit.Hid ((putL L f).length = i + 1 + q) := Lib.hid (by rw [HPT.out, List.length_append, HTL.out, List.length_cons]; simp only [tailL]; rw [if_neg hs, List.length_cons]; omega)
      have HPL : RowKit.Hid ((L.take i).map fcl ++ [fcl f] ++ (x :: r).map fcl = (putL L f).map fcl) := Lib.hid (by rw [HPT.out, List.map_append]; simp only [tailL]; rw [if_neg hs]; simp)
      clear hdr hs hne hq1
      go_upto_region 5 with (fail)
      go_wp2_with fail
      have hS := (Touch.refl wz (fun _ => False)).drew
      refine wp_region_sched (fun w' => Touch wz w' (fun _ => False)) [(0, true), (1, true), (2, true), (3, true), (4, true), (5, true), (6, true), (7, true), (8, true), (9, true), (10, true), (11, true)] (by kernel_rfl) (by kernel_rfl) rfl (by kernel_rfl) hS ?_
      iterate 7 ((refine walkS_take (v := ?_) (some _) rfl rfl (fun _ _ _ h => h) (by rfl) ?_ ?_; rotate_left; (focus (intro w' hw'; go_simp; (try with_reducible rfl))); (try simp only [Act.put, List.setIfInBounds_toArray, List.set_cons_zero, List.set_cons_succ])))
      (refine walkS_take (v := ?_) (some 33) rfl rfl (fun _ _ _ h => h) (by rfl) ?_ ?_; rotate_left; (focus (intro w' hw'; obtain ⟨y0, y1, y2, y3, y4⟩ := HCX.out w' hw'; go_simp; (try with_reducible rfl))); (try simp only [Act.put, List.setIfInBounds_toArray, List.set_cons_zero, List.set_cons_succ]))
      (refine walkS_take (v := ?_) (some 34) rfl rfl (fun _ _ _ h => h) (by rfl) ?_ ?_; rotate_left; (focus (intro w' hw'; go_simp; (try with_reducible rfl))); (try simp only [Act.put, List.setIfInBounds_toArray, List.set_cons_zero, List.set_cons_succ]))
      (refine walkS_take (v := ?_) (some 35) rfl rfl (fun _ _ _ h => h) (by rfl) ?_ ?_; rotate_left; (focus (intro w' hw'; obtain ⟨x0, x1, x2, x3, x4⟩ := HCF.out w' hw'; go_simp; (try with_reducible rfl))); (try simp only [Act.put, List.setIfInBounds_toArray, List.set_cons_zero, List.set_cons_succ]))
      (refine walkS_bin (some 36) _ _ _ _ _ _ _ _ (nelT_runP _ _ _ _ _ _ _ _ _ _ HNE.out) rfl rfl rfl rfl rfl (fun _ _ _ h => h) (by rfl) ?_; (try simp only [Act.put, List.setIfInBounds_toArray, List.set_cons_zero, List.set_cons_succ]))
      (refine walkS_take (v := ?_) (some 37) rfl rfl (fun _ _ _ h => h) (by rfl) ?_ ?_; rotate_left; (focus (intro w' hw'; go_simp; (try with_reducible rfl))); (try simp only [Act.put, List.setIfInBounds_toArray, List.set_cons_zero, List.set_cons_succ]))
      refine walkS_done ?_
      go_upto_region 7 with (fail)
      go_wp2_with fail
      have hS := hS.drew
      refine wp_region_tree3 (fun w' => Touch wz w' (fun _ => False)) (.take 0 (.take 1 (.take 2 (.take 4 (.take 7 (.two 3 5 (.one 5 (.one 6 (.one 8 (.take 9 .fin)))) (.one 3 (.one 6 (.one 8 (.take 9 .fin)))))))))) (by kernel_rfl) (by kernel_rfl) (by kernel_rfl) (by kernel_rfl) hS ?_
      repeat' (first
       | (with_reducible refine walk3_take ?_)
       | (with_reducible refine walk3_one ?_)
       | (with_reducible refine walk3_two ?_ ?_)
       | (with_reducible refine walk3_fin ?_)
       | ((with_reducible show TakeN _ _ _ _ 4 _ _ _); ((refine takeN_row (some 44) rfl rfl 83 (.tmp 3) rfl (KF) rfl _ _ _ _ (fun w' h => HCK.out w' h) Tryz.underlying83 rfl infoFlG (fun _ _ _ h => h) (by rfl) ?_; (try simp only [Act.put, List.setIfInBounds_toArray, List.set_cons_zero, List.set_cons_succ]))))
       | ((with_reducible show TakeN _ _ _ _ _ _ _ _); ((refine takeN_take (v := ?_) (some _) rfl rfl (fun _ _ _ h => h) (by rfl) ?_ ?_; rotate_left; (focus (intro w' hw'; go_simp; (try with_reducible rfl))); (try simp only [Act.put, List.setIfInBounds_toArray, List.set_cons_zero, List.set_cons_succ]))))
       | ((with_reducible show RunN _ _ _ _ 3 _ _ _); ((refine runN_appS 43 (.const (.slice none 0 0)) (.tmp 42) _ rfl rfl rfl (by rfl) 83 Tryz.underlying61 _ 8 56 infoFlowB rfl (by decide) wz.heap.size _ _ rfl (OwnS.nil _ _ _ _) _ _ _ _ rfl (HRF.out _ hS) (one_fclP _) (i) ((L.take i).map fcl) (by simp) (by simp) (by simp only [maxLen]; omega) (by omega) hS.size ?_; intro a3 c3 w3 how9 hg9 hp9; have t9 := (Touch.refl _ (fun q => wz.heap.size ≤ q)).grown hg9 (fun q hq _ => by cases hq); have hS := hS.trans t9 (fun q h1 h2 => by have h2 : wz.heap.size ≤ q := h2; omega); refine ⟨hS, fun _ => ?_⟩; (try have HNW := Lib.hid (HNW.out.touch ((Touch.refl _ (fun _ => False)).grown hg9 (fun q hq _ => by cases hq)) (fun _ _ => .inr (fun h => h)))); have HO3 := Lib.hid how9; clear how9 hg9 hp9 t9; (try simp only [Act.put, List.setIfInBounds_toArray, List.set_cons_zero, List.set_cons_succ]))))
       | ((with_reducible show RunN _ _ _ _ 5 _ _ _); ((refine runN_new 45 (fun W => .slice (some ⟨W.heap.size, 0, none⟩) 1 1) #[.int .u32 f.t.src, .int .u32 f.t.dst, .int .i64 f.t.proto, .int .i64 f.t.sport, .int .i64 f.t.dport, .int .i64 f.fb, .int .i64 f.fg, .int .i64 f.fs] 83 rfl rfl (by rfl) (by intro W; go_simp <;> first | with_reducible rfl | rfl | exact ⟨rfl, rfl⟩) ?_; intro w7 hw7 hM7 hs7 t9; have hS := hS.trans t9 (fun _ _ h => h.elim); refine ⟨hS, fun _ => ?_⟩; have HNW := Lib.hid (show RowS w7 _ 1 1 8 [fcl f] by rw [hw7]; exact ((OwnS.lit _ _ (Nat.le_refl _) 83 8 1 [fcl f] _ rfl rfl (by simp [fcl]) (by decide)).row').2.1); (try have HO3 := Lib.hid (HO3.out.still t9)); clear hw7 hM7 hs7 t9; (try simp only [Act.put, List.setIfInBounds_toArray, List.set_cons_zero, List.set_cons_succ]))))
       | ((with_reducible show RunN _ _ _ _ 6 _ _ _); ((refine runN_appS 46 (.tmp 43) (.tmp 45) _ rfl rfl rfl (by rfl) 83 Tryz.underlying61 _ 8 56 infoFlowB rfl (by decide) wz.heap.size _ _ rfl HO3.out _ _ _ _ rfl HNW.out (one_fcl1P f) (i + 1) ((L.take i).map fcl ++ [fcl f]) (rfl) (by rw [List.length_map, HTL.out]) (by simp only [maxLen]; omega) (by omega) hS.size ?_; intro a6 c6 w6 how9 hg9 hp9; have t9 := (Touch.refl _ (fun q => wz.heap.size ≤ q)).grown hg9 (fun q hq _ => (HO3.out.own.lt q hq).1); have hS := hS.trans t9 (fun q h1 h2 => by have h2 : wz.heap.size ≤ q := h2; omega); refine ⟨hS, fun _ => ?_⟩; have HO6 := Lib.hid how9; clear how9 hg9 hp9 t9; (try simp only [Act.put, List.setIfInBounds_toArray, List.set_cons_zero, List.set_cons_succ]))))
       | ((with_reducible show RunN _ _ _ _ 8 _ _ _); ((refine runN_appS 48 (.tmp 46) (.tmp 47) _ rfl rfl rfl (by rfl) 83 Tryz.underlying61 _ 8 56 infoFlowB rfl (by decide) wz.heap.size _ _ rfl HO6.out _ _ _ _ rfl (HRT.out _ hS) (one_fclP _) (i + 1 + q) ((putL L f).map fcl) (HPL.out) (by rw [List.length_append, List.length_map, HTL.out]; simp) (by simp only [maxLen]; omega) (by omega) hS.size ?_; intro a8 c8 w8 how9 hg9 hp9; have t9 := (Touch.refl _ (fun q => wz.heap.size ≤ q)).grown hg9 (fun q hq _ => (HO6.out.own.lt q hq).1); have hS := hS.trans t9 (fun q h1 h2 => by have h2 : wz.heap.size ≤ q := h2; omega); refine ⟨hS, fun _ => ?_⟩; have HO8 := Lib.hid how9; clear how9 hg9 hp9 t9; (try simp only [Act.put, List.setIfInBounds_toArray, List.set_cons_zero, List.set_cons_succ])))))
      all_goals
       go_wp2_with fail
       go_ret
       exact ⟨_, _, HEND.out _ _ _ _ HK8.out HO8.out hS⟩
end Go.Proofs.YtpjdcgjoepjmcaaGreat
end
section
namespace Go.Proofs.YtpjdcgjoepjmcaaGreat
open Go.RowKit
theorem addI_runO (a b c : Int) (h : a + b = c ∧ -9223372036854775808 ≤ c ∧ c ≤ 9223372036854775807) (x y : Operand) (W : World) :
 (do eqGuard BinOp.add 3 x y (.int .i64 a) (.int .i64 b); binOp BinOp.add 3 (.int .i64 a) (.int .i64 b) : Sem Value).run Tryz.prog W = .ok (.int .i64 c) W := by
 obtain ⟨rfl, h1, h2⟩ := h
 have hw : wrap64 (a + b) = a + b := by unfold wrap64; omega
 have hw2 : IntKind.i64.wrap (a + b) = a + b := IntWalk.i64_in _ (by omega)
 go_simp
theorem geI_boolO (a b : Int) (c : Bool) (h : decide (a ≥ b) = c) (x y : Operand) (W : World) :
 (do eqGuard BinOp.geq 3 x y (.int .i64 a) (.int .i64 b); binOp BinOp.geq 3 (.int .i64 a) (.int .i64 b) : Sem Value).run Tryz.prog W = .ok (.bool c) W := by
 subst h
 go_simp
theorem enter_rputO (a b : Value) (w : World) : (callFunc 91 #[a, b]).run Tryz.prog w = .ok (.enter 91 #[a, b]) w := by kernel_rfl
theorem rf_end {w wz w9 : World} {b m c : Nat} {a a0 : Option Addr} {most wait : Int} {v : Value} {L' : List FlD} (HT : Touch w wz (fun _ => False)) (hb : b < w.heap.size) (t : Touch wz w9 (fun k => k = b))
 (hd : w9.heap[b]? = some (.cells #[v, .int .i64 most, .int .i64 wait] 64 (0, 0))) (o : OwnS w9 wz.heap.size 83 8 (.slice a m c) (L'.map fcl)) : RFStep w (w9.setCell ⟨b, 0, none⟩ (.slice a m c)) b a0 most wait L' := by
 have ts : Touch w9 (w9.setCell ⟨b, 0, none⟩ (.slice a m c)) (fun k => k = b) := (Touch.refl w9 (fun k => k = b)).setCell _ _ (fun _ => rfl)
 obtain ⟨h1, h2, h3⟩ := OwnS.row' o
 rw [List.length_map] at h1
 subst h1
 have hz := HT.size
 refine ⟨a, c, ⟨heap_setCell_same w9 b 0 _ _ _ hd, h2.touch ts (fun x hx => .inr (fun e => by have e : x.block = b := e; have := (h3 x hx).1; omega)), fun x hx => .inr (fun e => by have := (h3 x hx).1; omega), by rcases o.own.2 with ⟨hv, _⟩ | ⟨g, cap, cur, hv, _⟩ <;> (simp only [Value.slice.injEq] at hv; rw [hv.1]; simp)⟩, (HT.mono (fun _ _ h => h.elim)).trans (t.trans ts (fun _ _ h => h)) (fun _ _ h => h), fun y hy => .inl ⟨Nat.le_trans hz (h3 y hy).1, ?_⟩⟩
 have := (h3 y hy).2
 exact Nat.lt_of_lt_of_le this ts.size
theorem getF_no : ∀ {L : List FlD} {t : TupD}, hasF L t = false → getF L t = noF
 | [], _, _ => rfl
 | x :: r, t, h => by
   unfold hasF at h
   rw [List.any_cons, Bool.or_eq_false_iff] at h
   unfold getF
   rw [if_neg (by simpa using h.1)]
   exact getF_no h.2
theorem idxL_neg {L : List FlD} {t : TupD} (h : hasF L t = false) : idxL L t = -1 := by unfold idxL; rw [h]; rfl
set_option maxRecDepth 20000 in
set_option maxHeartbeats 8000000 in
theorem rfdrop_any (w : World) (b : Nat) (a : Option Addr) (c : Nat) (most wait : Int) (L : List FlD) (q : RF w b a c most wait L) (hnd : (L.map FlD.t).Nodup) (hl : L.length ≤ 1000) (t : TupD) :
 Calls Tryz.prog 58 #[.pointer (some ⟨b, 0, none⟩), .agg (tcs t)] w fun e w' => e = .returned (.bool (hasF L t)) ∧ RFStep w w' b a most wait (delF L t) := by
 have hb := heap_lt q.head
 obtain ⟨W1, hW1⟩ : ∃ W, w.alloc (.cells (tcs t) 37) = W := ⟨_, rfl⟩
 obtain ⟨KT, hKT⟩ : ∃ k, w.heap.size = k := ⟨_, rfl⟩
 have t1 : Touch w W1 (fun _ => False) := hW1 ▸ (Touch.refl w _).alloc _
 have g1 : W1.heap[KT]? = some (.cells (tcs t) 37 (0, 0)) := hKT ▸ hW1 ▸ heap_alloc_new ..
 have HAT := Lib.hid (rfat_any W1 b a c most wait L (q.still t1) t)
 have HG1 := Lib.hid g1
 have HT1 := Lib.hid t1
 have HQ := Lib.hid (q.still t1)
 have HB := Lib.hid hb
 have HW1 := Lib.hid (And.intro hW1 hKT)
 simp only [tcs] at HW1 HAT ⊢
 clear t1 g1 hW1 hKT hb
 go_enter Tryz.func58, Tryz.ntmps58
 go_upto_region 1 with (fail)
 rw [HW1.out.1, HW1.out.2]
 have y0 : W1.cell? ⟨KT, 0, none⟩ = some (.int .u32 t.src) := cell_of_cells HG1.out 0
 have y1 : W1.cell? ⟨KT, 1, none⟩ = some (.int .u32 t.dst) := cell_of_cells HG1.out 1
 have y2 : W1.cell? ⟨KT, 2, none⟩ = some (.int .i64 t.proto) := cell_of_cells HG1.out 2
 have y3 : W1.cell? ⟨KT, 3, none⟩ = some (.int .i64 t.sport) := cell_of_cells HG1.out 3
 have y4 : W1.cell? ⟨KT, 4, none⟩ = some (.int .i64 t.dport) := cell_of_cells HG1.out 4
 go_wp2_with fail
 (with_reducible refine HAT.out.mono ?_)
 rintro e wz ⟨rfl, t2⟩
 have HTZ := Lib.hid (HT1.out.trans t2 (fun _ _ h => h))
 have HQZ := Lib.hid (HQ.out.still t2)
 clear t2 y0 y1 y2 y3 y4
 cases hh : hasF L t with
 | false =>
   rw [idxL_neg hh]
   have HX : RowKit.Hid (RFStep w wz b a most wait (delF L t)) := Lib.hid (by
    rw [delF_none (fun h => by rw [(hasF_iff _ _).2 h] at hh; cases hh)]
    exact ⟨a, c, HQZ.out, HTZ.out.mono (fun _ _ h => h.elim), fun y hy => .inr ⟨y, hy, rfl⟩⟩)
   have HH := Lib.hid hh
   clear hh
   go_wp2_with fail
   go_ret
   exact ⟨by rw [HH.out]; rfl, HX.out⟩
 | true =>
   obtain ⟨hk, hg, ht, hd⟩ := posL_get hnd hh
   obtain ⟨i, hi⟩ : ∃ i, posL L t = i := ⟨_, rfl⟩
   rw [show idxL L t = (i : Int) by unfold idxL; rw [if_pos hh, hi]]
   rw [hi] at hk hd
   obtain ⟨n, hn⟩ : ∃ n, L.length = n := ⟨_, rfl⟩
   have hcap := HQZ.out.row.hcap
   have hmax := HQZ.out.row.hmax
   rw [hn] at hk hcap hl
   obtain ⟨g, off, hga⟩ := HQZ.out.row.some (by omega)
   subst hga
   obtain ⟨a, ha⟩ : ∃ a, (some ⟨g, off, none⟩ : Option Addr) = a := ⟨_, rfl⟩
   have HRF : RowKit.Hid (∀ W, Touch wz W (fun k => k = b) → RowS W (some ⟨g, off, none⟩) i c 8 ((L.take i).map fcl)) := Lib.hid (fun W x => by
    have h := HQZ.out.row.touch x (fun y hy => (HQZ.out.ne y hy).imp (fun h => h) (fun h e => h e))
    rw [hn] at h
    exact row_front8 h i (by omega))
   have HRB0 : RowKit.Hid (∀ W, Touch wz W (fun k => k = b) → RowS W (if c = i + 1 then some ⟨g, off, none⟩ else some ⟨g, off + (i + 1) * 8, none⟩) (n - (i + 1)) (c - (i + 1)) 8 ((L.drop (i + 1)).map fcl)) := Lib.hid (fun W x => by
    have h := HQZ.out.row.touch x (fun y hy => (HQZ.out.ne y hy).imp (fun h => h) (fun h e => h e))
    rw [hn] at h
    exact row_back8 h (i + 1) (by omega))
   obtain ⟨ra, hra⟩ : ∃ ra, (if c = i + 1 then some ⟨g, off, none⟩ else some ⟨g, off + (i + 1) * 8, none⟩ : Option Addr) = ra := ⟨_, rfl⟩
   obtain ⟨r, hr⟩ : ∃ r, n - (i + 1) = r := ⟨_, rfl⟩
   obtain ⟨d, hdd⟩ : ∃ d, c - (i + 1) = d := ⟨_, rfl⟩
   rw [hra, hr, hdd] at HRB0
   have HRB := HRB0
   have HTL : RowKit.Hid ((L.take i).length = i) := Lib.hid (by rw [List.length_take]; omega)
   have HDL : RowKit.Hid ((L.take i).map fcl ++ (L.drop (i + 1)).map fcl = (delF L t).map fcl) := Lib.hid (by rw [← hd, List.map_append])
   have HHD : RowKit.Hid (wz.drew.heap[b]? = some (.cells #[.slice (some ⟨g, off, none⟩) n c, .int .i64 most, .int .i64 wait] 64 (0, 0))) := Lib.hid (by have h := HQZ.out.head; rw [hn] at h; exact h)
   have HEND : RowKit.Hid (∀ (a9 : Option Addr) (c9 : Nat) (w9 : World), Touch wz w9 (fun k => k = b) → w9.heap[b]? = some (.cells #[.slice (some ⟨g, off, none⟩) n c, .int .i64 most, .int .i64 wait] 64 (0, 0)) → OwnS w9 wz.heap.size 83 8 (.slice a9 (i + r) c9) ((delF L t).map fcl) → RFStep w (w9.setCell ⟨b, 0, none⟩ (.slice a9 (i + r) c9)) b (some ⟨g, off, none⟩) most wait (delF L t)) := Lib.hid (fun a9 c9 w9 x h o => rf_end HTZ.out HB.out x h o)
   have hbz : b < wz.heap.size := heap_lt HQZ.out.head
   have hic : i ≤ c := by omega
   have hic1 : i + 1 ≤ c := by omega
   have hin : i + 1 ≤ n := by omega
   have hrd : r ≤ d := by omega
   have hsum : i + r ≤ 1000 := by omega
   have HH := Lib.hid hh
   have hcc : 0 ≤ (i : Int) + 1 ∧ (i : Int) + 1 ≤ n := by omega
   clear ha hh hg ht hd hi HQ HQZ HAT HRB0
   have hi0 : ¬ (i : Int) < 0 := by omega
   have hdm : d ≤ 9223372036854775807 := by omega
   go_upto_region 4 with (fail)
   go_wp2_with fail
   have hS := (Touch.refl wz (fun k => k = b)).drew
   refine wp_region_tree3 (fun w' => Touch wz w' (fun k => k = b)) (.take 0 (.take 1 (.take 2 (.take 3 (.take 5 (.take 8 (.take 9 (.take 10 (.take 12 (.take 13 (.two 4 11 (.take 6 (.two 7 11 (.one 11 (.take 14 (.one 15 (.take 16 (.take 17 (.one 18 .fin)))))) (.take 14 (.one 7 (.one 15 (.take 16 (.take 17 (.one 18 .fin)))))))) (.take 14 (.one 4 (.take 6 (.one 7 (.one 15 (.take 16 (.take 17 (.one 18 .fin))))))))))))))))))) (by kernel_rfl) (by kernel_rfl) (by kernel_rfl) (by kernel_rfl) hS ?_
   repeat' (first
    | (with_reducible refine walk3_take ?_)
    | (with_reducible refine walk3_one ?_)
    | (with_reducible refine walk3_two ?_ ?_)
    | (with_reducible refine walk3_fin ?_)
    | ((with_reducible show TakeN _ _ _ _ 13 _ _ _); ((refine takeN_bin (some 24) _ _ _ _ _ _ _ _ (addI_runO _ _ ((i : Int) + 1) ⟨rfl, by omega, by omega⟩) rfl rfl rfl rfl rfl (fun _ _ _ h => h) (by rfl) ?_; (try simp only [Act.put, List.setIfInBounds_toArray, List.set_cons_zero, List.set_cons_succ]))))
    | ((with_reducible show TakeN _ _ _ _ 14 _ _ _); ((refine takeN_take (v := ?_) (some 25) rfl rfl (fun _ _ _ h => h) (by rfl) ?_ ?_; rotate_left; (focus (intro w' hw'; go_simp; (try rw [if_pos hcc]); (try with_reducible rfl))); (try simp only [Act.put, List.setIfInBounds_toArray, List.set_cons_zero, List.set_cons_succ]))))
    | ((with_reducible show TakeN _ _ _ _ _ _ _ _); ((refine takeN_take (v := ?_) (some _) rfl rfl (fun _ _ _ h => h) (by rfl) ?_ ?_; rotate_left; (focus (intro w' hw'; go_simp; (try with_reducible rfl))); (try simp only [Act.put, List.setIfInBounds_toArray, List.set_cons_zero, List.set_cons_succ]))))
    | ((with_reducible show RunN _ _ _ _ 4 _ _ _); ((have cc := cell_of_cells HHD.out 0; refine runN_do (v := .slice (some ⟨g, off, none⟩) n c) (w' := _) (some 15) rfl rfl (by rfl) (by go_simp; (try with_reducible rfl)) hS (fun hS => ?_); clear cc; (try simp only [Act.put, List.setIfInBounds_toArray, List.set_cons_zero, List.set_cons_succ]))))
    | ((with_reducible show RunN _ _ _ _ 7 _ _ _); ((refine runN_appS 18 (.const (.slice none 0 0)) (.tmp 17) _ rfl rfl rfl (by rfl) 83 Tryz.underlying61 _ 8 56 infoFlowB rfl (by decide) wz.heap.size _ _ rfl (OwnS.nil _ _ _ _) _ _ _ _ rfl (HRF.out _ hS) (one_fclP _) (i) ((L.take i).map fcl) (by simp) (by simp) (by simp only [maxLen]; omega) (by omega) hS.size ?_; intro a7 c7 w7 how9 hg9 hp9; have t9 := (Touch.refl _ (fun _ => False)).grown hg9 (fun q hq _ => by cases hq); have hS := hS.trans t9 (fun q h1 h2 => by first | exact h2.elim | (have h2 : wz.heap.size ≤ q := h2; omega)); refine ⟨hS, fun _ => ?_⟩; have HHD := Lib.hid (t9.keeps HHD.out (fun h => h)); have HO7 := Lib.hid how9; clear how9 hg9 hp9 t9; (try simp only [Act.put, List.setIfInBounds_toArray, List.set_cons_zero, List.set_cons_succ]))))
    | ((with_reducible show RunN _ _ _ _ 11 _ _ _); ((have cc := cell_of_cells HHD.out 0; refine runN_do (v := .slice (some ⟨g, off, none⟩) n c) (w' := _) (some 22) rfl rfl (by rfl) (by go_simp; (try with_reducible rfl)) hS (fun hS => ?_); clear cc; (try simp only [Act.put, List.setIfInBounds_toArray, List.set_cons_zero, List.set_cons_succ]))))
    | ((with_reducible show RunN _ _ _ _ 15 _ _ _); ((refine runN_appS 26 (.tmp 18) (.tmp 25) _ rfl rfl rfl (by rfl) 83 Tryz.underlying61 _ 8 56 infoFlowB rfl (by decide) wz.heap.size _ _ rfl HO7.out _ _ _ _ rfl (HRB.out _ hS) (one_fclP _) (i + r) ((delF L t).map fcl) (HDL.out) (by rw [List.length_map, HTL.out]) (by simp only [maxLen]; omega) (by omega) hS.size ?_; intro a15 c15 w15 how9 hg9 hp9; have t9 := (Touch.refl _ (fun q => wz.heap.size ≤ q)).grown hg9 (fun q hq _ => (HO7.out.own.lt q hq).1); have hS := hS.trans t9 (fun q h1 h2 => by first | exact h2.elim | (have h2 : wz.heap.size ≤ q := h2; omega)); refine ⟨hS, fun _ => ?_⟩; have HHD := Lib.hid (t9.keeps HHD.out (fun h => by have h : wz.heap.size ≤ b := h; omega)); have HO15 := Lib.hid how9; clear how9 hg9 hp9 t9; (try simp only [Act.put, List.setIfInBounds_toArray, List.set_cons_zero, List.set_cons_succ]))))
    | ((with_reducible show RunN _ _ _ _ 18 _ _ _); ((have cc := cell_of_cells HHD.out 0; have ff := free_of_cells HHD.out 0; refine runN_skip0 none rfl rfl (by rfl) (w' := World.setCell w15 ⟨b, 0, none⟩ (.slice a15 (i + r) c15)) (by go_simp; (try with_reducible rfl)) ?_ ?_; (exact hS.setCell _ _ (fun _ => rfl)); clear cc ff; intro hS9; (try simp only [Act.put, List.setIfInBounds_toArray, List.set_cons_zero, List.set_cons_succ])))))
   all_goals
    go_wp2_with fail
    go_ret
    exact ⟨by rw [HH.out]; rfl, HEND.out _ _ _ hS HHD.out HO15.out⟩
def rpB (L : List FlD) (most : Int) (f : FlD) : Bool := mayFB f && !hasF L f.t && !decide ((L.length : Int) ≥ most)
def rpE (L : List FlD) (most : Int) (f : FlD) : Int := if mayFB f = false then 1 else if hasF L f.t = false ∧ (L.length : Int) ≥ most then 9 else 0
def rpL (L : List FlD) (most : Int) (f : FlD) : List FlD := if rpE L most f = 0 then putL L f else L
theorem idxL_pos {L : List FlD} {t : TupD} (h : hasF L t = true) : 0 ≤ idxL L t := by unfold idxL; rw [if_pos h]; omega
set_option maxRecDepth 20000 in
set_option maxHeartbeats 8000000 in
theorem rfput_any (w : World) (b : Nat) (a : Option Addr) (c : Nat) (most wait : Int) (L : List FlD) (q : RF w b a c most wait L) (hl : L.length ≤ 1000) (f : FlD) :
 Calls Tryz.prog 60 #[.pointer (some ⟨b, 0, none⟩), .agg (fca f)] w fun e w' => e = .returned (.tuple #[.bool (rpB L most f), .int .i64 (rpE L most f)]) ∧ RFStep w w' b a most wait (rpL L most f) := by
 have hb := heap_lt q.head
 obtain ⟨W1, hW1⟩ : ∃ W, w.alloc (.cells (fca f) 83) = W := ⟨_, rfl⟩
 obtain ⟨KF, hKF⟩ : ∃ k, w.heap.size = k := ⟨_, rfl⟩
 have t1 : Touch w W1 (fun _ => False) := hW1 ▸ (Touch.refl w _).alloc _
 have g1 : W1.heap[KF]? = some (.cells (fca f) 83 (0, 0)) := hKF ▸ hW1 ▸ heap_alloc_new ..
 have HAT := Lib.hid (fun W (x : Touch W1 W (fun _ => False)) => rfat_any W b a c most wait L ((q.still t1).still x) f.t)
 have HMY := Lib.hid (rfmay_any f W1)
 have HG1 := Lib.hid g1
 have HT1 := Lib.hid t1
 have HQ := Lib.hid (q.still t1)
 have HB := Lib.hid hb
 have HKB : RowKit.Hid (KF ≠ b) := Lib.hid (by omega)
 have HW1 := Lib.hid (And.intro hW1 hKF)
 have HPB : RowKit.Hid (rpB L most f = (mayFB f && !hasF L f.t && !decide ((L.length : Int) ≥ most))) := Lib.hid rfl
 have HPE : RowKit.Hid (rpE L most f = if mayFB f = false then 1 else if hasF L f.t = false ∧ (L.length : Int) ≥ most then 9 else 0) := Lib.hid rfl
 have HPL : RowKit.Hid (rpL L most f = if rpE L most f = 0 then putL L f else L) := Lib.hid rfl
 obtain ⟨m, hm⟩ : ∃ m, mayFB f = m := ⟨_, rfl⟩
 rw [hm] at HMY HPB HPE
 simp only [fca] at HW1 HMY ⊢
 simp only [tcs] at HAT
 clear t1 g1 hW1 hKF hb hm
 go_enter Tryz.func60, Tryz.ntmps60
 go_upto_region 1 with (fail)
 rw [HW1.out.1, HW1.out.2]
 obtain ⟨y0, y1, y2, y3, y4, y5, y6, y7⟩ := fcells_of HG1.out
 go_wp2_with fail
 (with_reducible refine HMY.out.mono ?_)
 rintro e w2 ⟨rfl, t2⟩
 have HT2 := Lib.hid t2
 have HG2 := Lib.hid (t2.keeps HG1.out (fun h => h))
 clear t2 y0 y1 y2 y3 y4 y5 y6 y7
 cases m with
 | false =>
   have HX : RowKit.Hid (RFStep w w2 b a most wait (rpL L most f)) := Lib.hid (by
    rw [HPL.out, HPE.out]
    exact ⟨a, c, HQ.out.still HT2.out, (HT1.out.trans HT2.out (fun _ _ h => h)).mono (fun _ _ h => h.elim), fun y hy => .inr ⟨y, hy, rfl⟩⟩)
   go_wp2_with fail
   go_ret2
   exact ⟨by rw [HPB.out, HPE.out]; rfl, HX.out⟩
 | true =>
   have y0 : w2.cell? ⟨KF, 0, none⟩ = some (.int .u32 f.t.src) := cell_of_cells HG2.out 0
   have y1 : w2.cell? ⟨KF, 1, none⟩ = some (.int .u32 f.t.dst) := cell_of_cells HG2.out 1
   have y2 : w2.cell? ⟨KF, 2, none⟩ = some (.int .i64 f.t.proto) := cell_of_cells HG2.out 2
   have y3 : w2.cell? ⟨KF, 3, none⟩ = some (.int .i64 f.t.sport) := cell_of_cells HG2.out 3
   have y4 : w2.cell? ⟨KF, 4, none⟩ = some (.int .i64 f.t.dport) := cell_of_cells HG2.out 4
   go_wp2_with fail
   (with_reducible refine (HAT.out _ HT2.out).mono ?_)
   rintro e wz ⟨rfl, t3⟩
   have HTZ := Lib.hid (HT1.out.trans (HT2.out.trans t3 (fun _ _ h => h)) (fun _ _ h => h))
   have HQZ := Lib.hid (HQ.out.still (HT2.out.trans t3 (fun _ _ h => h)))
   have HGZ := Lib.hid (t3.keeps HG2.out (fun h => h))
   clear t3 y0 y1 y2 y3 y4
   obtain ⟨n, hn⟩ : ∃ n, L.length = n := ⟨_, rfl⟩
   have HN := Lib.hid hn
   have HHD : RowKit.Hid (wz.drew.heap[b]? = some (.cells #[.slice a n c, .int .i64 most, .int .i64 wait] 64 (0, 0))) := Lib.hid (by have h := HQZ.out.head; rw [hn] at h; exact h)
   have HCD : RowKit.Hid (∀ W, Touch wz W (fun _ => False) → W.cell? ⟨b, 0, none⟩ = some (.slice a n c) ∧ W.cell? ⟨b, 1, none⟩ = some (.int .i64 most)) := Lib.hid (fun W t => by
    have h := t.keeps HQZ.out.head (fun h => h)
    rw [hn] at h
    exact ⟨cell_of_cells h 0, cell_of_cells h 1⟩)
   have HCK : RowKit.Hid (∀ W, Touch wz W (fun k => k = b) → W.heap[KF]? = some (.cells (fca f) 83 (0, 0))) := Lib.hid (fun W t => t.keeps HGZ.out (fun e => HKB.out e))
   have HPF : RowKit.Hid (∀ W, Touch wz W (fun k => k = b) → Calls Tryz.prog 91 #[.slice a n c, .agg (fca f)] W fun e w' => ∃ a' c', PutIsF W w' L f e a' c') := Lib.hid (fun W t => by
    have h := HQZ.out.row.touch t (fun y hy => (HQZ.out.ne y hy).imp (fun h => h) (fun h e => h e))
    have h2 := rputflow_any W a c L f h (by omega) HQZ.out.pl
    rwa [hn] at h2)
   have HEND : RowKit.Hid (∀ (a9 : Option Addr) (c9 : Nat) (w9 : World), rpE L most f = 0 → Touch wz w9 (fun k => k = b) → w9.heap[b]? = some (.cells #[.slice a n c, .int .i64 most, .int .i64 wait] 64 (0, 0)) → OwnS w9 wz.heap.size 83 8 (.slice a9 (putL L f).length c9) ((putL L f).map fcl) → RFStep w (w9.setCell ⟨b, 0, none⟩ (.slice a9 (putL L f).length c9)) b a most wait (rpL L most f)) := Lib.hid (fun a9 c9 w9 e0 x h o => by
    have h8 := rf_end (a0 := a) HTZ.out HB.out x h o
    rw [HPL.out, if_pos e0]
    exact h8)
   simp only [PutIsF] at HPF
   simp only [fca] at HCK HPF
   rw [hn] at HPB HPE
   clear hn
   cases hh : hasF L f.t with
   | true =>
     have hi0 : ¬ idxL L f.t < 0 := by have := idxL_pos hh; omega
     have HE0 : RowKit.Hid (rpE L most f = 0 ∧ rpB L most f = false) := Lib.hid ⟨by rw [HPE.out, hh]; simp, by rw [HPB.out, hh]; simp⟩
     clear hh
     generalize idxL L f.t = ix at *
     have hi1 : decide (ix < 0) = false := decide_eq_false hi0
     go_upto_region 4 with (fail)
     go_wp2_with fail
     have hS := (Touch.refl wz (fun _ => False)).drew
     refine wp_region_sched (fun w' => Touch wz w' (fun _ => False)) [(0, true), (1, true), (2, true), (3, true), (4, true), (5, true), (6, true), (7, true), (8, true), (9, true), (10, true), (11, true), (12, true)] (by kernel_rfl) (by kernel_rfl) rfl (by kernel_rfl) hS ?_
     iterate 2 ((refine walkS_take (v := ?_) (some _) rfl rfl (fun _ _ _ h => h) (by rfl) ?_ ?_; rotate_left; (focus (intro w' hw'; go_simp; (try with_reducible rfl))); (try simp only [Act.put, List.setIfInBounds_toArray, List.set_cons_zero, List.set_cons_succ])))
     iterate 10 (first | (refine walkS_skip (some _) rfl rfl (by rfl) (fun _ _ _ h => h) hS ?_; (try simp only [Act.put, List.setIfInBounds_toArray, List.set_cons_zero, List.set_cons_succ])) | (refine walkS_take (v := ?_) (some _) rfl rfl (fun _ _ _ h => h) (by rfl) ?_ ?_; rotate_left; (focus (intro w' hw'; go_simp; (try with_reducible rfl))); (try simp only [Act.put, List.setIfInBounds_toArray, List.set_cons_zero, List.set_cons_succ])))
     (refine walkS_take (v := ?_) (some 27) rfl rfl (fun _ _ _ h => h) (by rfl) ?_ ?_; rotate_left; (focus (intro w' hw'; go_simp; (try with_reducible rfl))); (try simp only [Act.put, List.setIfInBounds_toArray, List.set_cons_zero, List.set_cons_succ]))
     refine walkS_done ?_
     go_upto_region 6 with (fail)
     go_wp2_with fail
     have hS := (Touch.mono (T := fun k => k = b) hS (fun _ _ h => h.elim)).drew
     refine wp_region_tree3 (fun w' => Touch wz w' (fun k => k = b)) (.take 0 (.take 1 (.take 2 (.take 3 (.take 5 (.one 4 (.one 6 (.take 7 (.take 8 (.one 9 .fin)))))))))) (by kernel_rfl) (by kernel_rfl) (by kernel_rfl) (by kernel_rfl) hS ?_
     repeat' (first
      | (with_reducible refine walk3_take ?_)
      | (with_reducible refine walk3_one ?_)
      | (with_reducible refine walk3_two ?_ ?_)
      | (with_reducible refine walk3_fin ?_)
      | ((with_reducible show TakeN _ _ _ _ 5 _ _ _); ((refine takeN_row (some 33) rfl rfl 83 (.tmp 3) rfl (KF) rfl _ _ _ _ (fun w' h => HCK.out w' h) Tryz.underlying83 rfl infoFlG (fun _ _ _ h => h) (by rfl) ?_; (try simp only [Act.put, List.setIfInBounds_toArray, List.set_cons_zero, List.set_cons_succ]))))
      | ((with_reducible show TakeN _ _ _ _ _ _ _ _); ((refine takeN_take (v := ?_) (some _) rfl rfl (fun _ _ _ h => h) (by rfl) ?_ ?_; rotate_left; (focus (intro w' hw'; go_simp; (try with_reducible rfl))); (try simp only [Act.put, List.setIfInBounds_toArray, List.set_cons_zero, List.set_cons_succ]))))
      | ((with_reducible show RunN _ _ _ _ 4 _ _ _); ((have cc := cell_of_cells HHD.out 0; refine runN_do (v := .slice a n c) (w' := _) (some 32) rfl rfl (by rfl) (by go_simp; (try with_reducible rfl)) hS (fun hS => ?_); clear cc; (try simp only [Act.put, List.setIfInBounds_toArray, List.set_cons_zero, List.set_cons_succ]))))
      | ((with_reducible show RunN _ _ _ _ 6 _ _ _); ((refine runN_call 34 91 _ _ _ (HPF.out _ hS) rfl rfl rfl (by rfl) rfl (enter_rputO _ _ _) ?_; rintro e x9 ⟨a9, c9, rfl, o9, t9⟩; have HO9 := Lib.hid (OwnS.rebase (base' := wz.heap.size) o9 (fun x hx => Nat.le_trans hS.size (o9.own.lt x hx).1)); have HHD := Lib.hid (t9.keeps HHD.out (fun h => h)); have hS := hS.trans t9 (fun _ _ h => h.elim); refine ⟨_, rfl, hS, fun hS => ?_⟩; clear t9 o9; (try simp only [Act.put, List.setIfInBounds_toArray, List.set_cons_zero, List.set_cons_succ]))))
      | ((with_reducible show RunN _ _ _ _ 9 _ _ _); ((have cc := cell_of_cells HHD.out 0; have ff := free_of_cells HHD.out 0; refine runN_skip0 none rfl rfl (by rfl) (w' := World.setCell x9 ⟨b, 0, none⟩ (.slice a9 ((putL L f).length) c9)) (by go_simp; (try with_reducible rfl)) ?_ ?_; (exact hS.setCell _ _ (fun _ => rfl)); clear cc ff; intro hS9; (try simp only [Act.put, List.setIfInBounds_toArray, List.set_cons_zero, List.set_cons_succ])))))
     all_goals
      go_wp2_with fail
      go_ret2
      exact ⟨by rw [HE0.out.1, HE0.out.2]; rfl, HEND.out _ _ _ HE0.out.1 hS HHD.out HO9.out⟩
   | false =>
     rw [idxL_neg hh]
     obtain ⟨fl, hfl⟩ : ∃ fl, decide ((n : Int) ≥ most) = fl := ⟨_, rfl⟩
     have HFL := Lib.hid hfl
     cases fl with
     | true =>
       have HE9 : RowKit.Hid (rpE L most f = 9 ∧ rpB L most f = false ∧ rpL L most f = L) := Lib.hid (by
        have e9 : rpE L most f = 9 := by rw [HPE.out, if_neg (by decide), if_pos ⟨hh, of_decide_eq_true hfl⟩]
        exact ⟨e9, by rw [HPB.out, hfl]; simp, by rw [HPL.out, e9]; rfl⟩)
       clear hh hfl
       go_upto_region 4 with (fail)
       go_wp2_with fail
       have hS := (Touch.refl wz (fun _ => False)).drew
       refine wp_region_sched (fun w' => Touch wz w' (fun _ => False)) [(0, true), (1, true), (2, true), (3, true), (4, true), (5, true), (6, true), (7, true), (8, true), (9, true), (10, true), (11, true), (12, true)] (by kernel_rfl) (by kernel_rfl) rfl (by kernel_rfl) hS ?_
       iterate 5 ((refine walkS_take (v := ?_) (some _) rfl rfl (fun _ _ _ h => h) (by rfl) ?_ ?_; rotate_left; (focus (intro w' hw'; go_simp; (try with_reducible rfl))); (try simp only [Act.put, List.setIfInBounds_toArray, List.set_cons_zero, List.set_cons_succ])))
       (refine walkS_take (v := ?_) (some 20) rfl rfl (fun _ _ _ h => h) (by rfl) ?_ ?_; rotate_left; (focus (intro w' hw'; have c0 := (HCD.out w' hw').1; go_simp; (try with_reducible rfl))); (try simp only [Act.put, List.setIfInBounds_toArray, List.set_cons_zero, List.set_cons_succ]))
       iterate 4 ((refine walkS_take (v := ?_) (some _) rfl rfl (fun _ _ _ h => h) (by rfl) ?_ ?_; rotate_left; (focus (intro w' hw'; go_simp; (try with_reducible rfl))); (try simp only [Act.put, List.setIfInBounds_toArray, List.set_cons_zero, List.set_cons_succ])))
       (refine walkS_take (v := ?_) (some 25) rfl rfl (fun _ _ _ h => h) (by rfl) ?_ ?_; rotate_left; (focus (intro w' hw'; have c1 := (HCD.out w' hw').2; go_simp; (try with_reducible rfl))); (try simp only [Act.put, List.setIfInBounds_toArray, List.set_cons_zero, List.set_cons_succ]))
       (refine walkS_bin (some 26) _ _ _ _ _ _ _ _ (geI_boolO _ _ _ HFL.out) rfl rfl rfl rfl rfl (fun _ _ _ h => h) (by rfl) ?_; (try simp only [Act.put, List.setIfInBounds_toArray, List.set_cons_zero, List.set_cons_succ]))
       (refine walkS_take (v := ?_) (some 27) rfl rfl (fun _ _ _ h => h) (by rfl) ?_ ?_; rotate_left; (focus (intro w' hw'; go_simp; (try with_reducible rfl))); (try simp only [Act.put, List.setIfInBounds_toArray, List.set_cons_zero, List.set_cons_succ]))
       refine walkS_done ?_
       have HX : RowKit.Hid (RFStep w wz.drew b a most wait (rpL L most f)) := Lib.hid (by
        rw [HE9.out.2.2]
        exact ⟨a, c, HQZ.out.still (Touch.refl wz _).drew, (HTZ.out.trans (Touch.refl wz (fun _ => False)).drew (fun _ _ h => h)).mono (fun _ _ h => h.elim), fun y hy => .inr ⟨y, hy, rfl⟩⟩)
       go_wp2_with fail
       go_ret2
       exact ⟨by rw [HE9.out.1, HE9.out.2.1]; rfl, HX.out⟩
     | false =>
       have HE0 : RowKit.Hid (rpE L most f = 0 ∧ rpB L most f = true) := Lib.hid ⟨by rw [HPE.out, if_neg (by decide), if_neg (fun h => of_decide_eq_false hfl h.2)], by rw [HPB.out, hfl, hh]; rfl⟩
       clear hh hfl
       go_upto_region 4 with (fail)
       go_wp2_with fail
       have hS := (Touch.refl wz (fun _ => False)).drew
       refine wp_region_sched (fun w' => Touch wz w' (fun _ => False)) [(0, true), (1, true), (2, true), (3, true), (4, true), (5, true), (6, true), (7, true), (8, true), (9, true), (10, true), (11, true), (12, true)] (by kernel_rfl) (by kernel_rfl) rfl (by kernel_rfl) hS ?_
       iterate 5 ((refine walkS_take (v := ?_) (some _) rfl rfl (fun _ _ _ h => h) (by rfl) ?_ ?_; rotate_left; (focus (intro w' hw'; go_simp; (try with_reducible rfl))); (try simp only [Act.put, List.setIfInBounds_toArray, List.set_cons_zero, List.set_cons_succ])))
       (refine walkS_take (v := ?_) (some 20) rfl rfl (fun _ _ _ h => h) (by rfl) ?_ ?_; rotate_left; (focus (intro w' hw'; have c0 := (HCD.out w' hw').1; go_simp; (try with_reducible rfl))); (try simp only [Act.put, List.setIfInBounds_toArray, List.set_cons_zero, List.set_cons_succ]))
       iterate 4 ((refine walkS_take (v := ?_) (some _) rfl rfl (fun _ _ _ h => h) (by rfl) ?_ ?_; rotate_left; (focus (intro w' hw'; go_simp; (try with_reducible rfl))); (try simp only [Act.put, List.setIfInBounds_toArray, List.set_cons_zero, List.set_cons_succ])))
       (refine walkS_take (v := ?_) (some 25) rfl rfl (fun _ _ _ h => h) (by rfl) ?_ ?_; rotate_left; (focus (intro w' hw'; have c1 := (HCD.out w' hw').2; go_simp; (try with_reducible rfl))); (try simp only [Act.put, List.setIfInBounds_toArray, List.set_cons_zero, List.set_cons_succ]))
       (refine walkS_bin (some 26) _ _ _ _ _ _ _ _ (geI_boolO _ _ _ HFL.out) rfl rfl rfl rfl rfl (fun _ _ _ h => h) (by rfl) ?_; (try simp only [Act.put, List.setIfInBounds_toArray, List.set_cons_zero, List.set_cons_succ]))
       (refine walkS_take (v := ?_) (some 27) rfl rfl (fun _ _ _ h => h) (by rfl) ?_ ?_; rotate_left; (focus (intro w' hw'; go_simp; (try with_reducible rfl))); (try simp only [Act.put, List.setIfInBounds_toArray, List.set_cons_zero, List.set_cons_succ]))
       refine walkS_done ?_
       go_upto_region 6 with (fail)
       go_wp2_with fail
       have hS := (Touch.mono (T := fun k => k = b) hS (fun _ _ h => h.elim)).drew
       refine wp_region_tree3 (fun w' => Touch wz w' (fun k => k = b)) (.take 0 (.take 1 (.take 2 (.take 3 (.take 5 (.one 4 (.one 6 (.take 7 (.take 8 (.one 9 .fin)))))))))) (by kernel_rfl) (by kernel_rfl) (by kernel_rfl) (by kernel_rfl) hS ?_
       repeat' (first
        | (with_reducible refine walk3_take ?_)
        | (with_reducible refine walk3_one ?_)
        | (with_reducible refine walk3_two ?_ ?_)
        | (with_reducible refine walk3_fin ?_)
        | ((with_reducible show TakeN _ _ _ _ 5 _ _ _); ((refine takeN_row (some 33) rfl rfl 83 (.tmp 3) rfl (KF) rfl _ _ _ _ (fun w' h => HCK.out w' h) Tryz.underlying83 rfl infoFlG (fun _ _ _ h => h) (by rfl) ?_; (try simp only [Act.put, List.setIfInBounds_toArray, List.set_cons_zero, List.set_cons_succ]))))
        | ((with_reducible show TakeN _ _ _ _ _ _ _ _); ((refine takeN_take (v := ?_) (some _) rfl rfl (fun _ _ _ h => h) (by rfl) ?_ ?_; rotate_left; (focus (intro w' hw'; go_simp; (try with_reducible rfl))); (try simp only [Act.put, List.setIfInBounds_toArray, List.set_cons_zero, List.set_cons_succ]))))
        | ((with_reducible show RunN _ _ _ _ 4 _ _ _); ((have cc := cell_of_cells HHD.out 0; refine runN_do (v := .slice a n c) (w' := _) (some 32) rfl rfl (by rfl) (by go_simp; (try with_reducible rfl)) hS (fun hS => ?_); clear cc; (try simp only [Act.put, List.setIfInBounds_toArray, List.set_cons_zero, List.set_cons_succ]))))
        | ((with_reducible show RunN _ _ _ _ 6 _ _ _); ((refine runN_call 34 91 _ _ _ (HPF.out _ hS) rfl rfl rfl (by rfl) rfl (enter_rputO _ _ _) ?_; rintro e x9 ⟨a9, c9, rfl, o9, t9⟩; have HO9 := Lib.hid (OwnS.rebase (base' := wz.heap.size) o9 (fun x hx => Nat.le_trans hS.size (o9.own.lt x hx).1)); have HHD := Lib.hid (t9.keeps HHD.out (fun h => h)); have hS := hS.trans t9 (fun _ _ h => h.elim); refine ⟨_, rfl, hS, fun hS => ?_⟩; clear t9 o9; (try simp only [Act.put, List.setIfInBounds_toArray, List.set_cons_zero, List.set_cons_succ]))))
        | ((with_reducible show RunN _ _ _ _ 9 _ _ _); ((have cc := cell_of_cells HHD.out 0; have ff := free_of_cells HHD.out 0; refine runN_skip0 none rfl rfl (by rfl) (w' := World.setCell x9 ⟨b, 0, none⟩ (.slice a9 ((putL L f).length) c9)) (by go_simp; (try with_reducible rfl)) ?_ ?_; (exact hS.setCell _ _ (fun _ => rfl)); clear cc ff; intro hS9; (try simp only [Act.put, List.setIfInBounds_toArray, List.set_cons_zero, List.set_cons_succ])))))
       all_goals
        go_wp2_with fail
        go_ret2
        exact ⟨by rw [HE0.out.1, HE0.out.2]; rfl, HEND.out _ _ _ HE0.out.1 hS HHD.out HO9.out⟩
set_option maxRecDepth 20000 in
set_option maxHeartbeats 8000000 in
theorem rfget_any (w : World) (b : Nat) (a : Option Addr) (c : Nat) (most wait : Int) (L : List FlD) (q : RF w b a c most wait L) (hnd : (L.map FlD.t).Nodup) (t : TupD) :
 Calls Tryz.prog 53 #[.pointer (some ⟨b, 0, none⟩), .agg (tcs t)] w fun e w' => e = .returned (.tuple #[.agg (fca (getF L t)), .bool (hasF L t)]) ∧ Touch w w' (fun _ => False) := by
 have hb := heap_lt q.head
 obtain ⟨W1, hW1⟩ : ∃ W, w.alloc (.cells (tcs t) 37) = W := ⟨_, rfl⟩
 obtain ⟨KT, hKT⟩ : ∃ k, w.heap.size = k := ⟨_, rfl⟩
 obtain ⟨W2, hW2⟩ : ∃ W, W1.alloc (.cells #[.int .u32 0, .int .u32 0, .int .i64 0, .int .i64 0, .int .i64 0, .int .i64 0, .int .i64 0, .int .i64 0] 83) = W := ⟨_, rfl⟩
 obtain ⟨KR, hKR⟩ : ∃ k, W1.heap.size = k := ⟨_, rfl⟩
 have t1 : Touch w W1 (fun _ => False) := hW1 ▸ (Touch.refl w _).alloc _
 have t2 : Touch W1 W2 (fun _ => False) := hW2 ▸ (Touch.refl W1 _).alloc _
 have g1 : W2.heap[KT]? = some (.cells (tcs t) 37 (0, 0)) := t2.keeps (hKT ▸ hW1 ▸ heap_alloc_new ..) (fun h => h)
 have g2 : W2.heap[KR]? = some (.cells #[.int .u32 0, .int .u32 0, .int .i64 0, .int .i64 0, .int .i64 0, .int .i64 0, .int .i64 0, .int .i64 0] 83 (0, 0)) := hKR ▸ hW2 ▸ heap_alloc_new ..
 have hs1 : W1.heap.size = KT + 1 := by rw [← hW1, ← hKT]; simp
 have HKR : RowKit.Hid (KR = KT + 1 ∧ KT = w.heap.size) := Lib.hid (by omega)
 have t12 := t1.trans t2 (fun _ _ h => h)
 have HAT := Lib.hid (rfat_any W2 b a c most wait L (q.still t12) t)
 have HG1 := Lib.hid g1
 have HG2 := Lib.hid g2
 have HT1 := Lib.hid t12
 have HQ := Lib.hid (q.still t12)
 have HW1 := Lib.hid (And.intro hW1 hKT)
 have HW2 := Lib.hid (And.intro hW2 hKR)
 have HII := Lib.hid infoFlG
 simp only [tcs] at HW1 HAT ⊢
 clear t1 t2 g1 g2 t12 hW1 hKT hW2 hKR hb hs1
 go_enter Tryz.func53, Tryz.ntmps53
 go_upto_region 1 with (fail)
 rw [HW1.out.1, HW1.out.2, HW2.out.1, show KT + 1 = KR from HKR.out.1.symm]
 have y0 : W2.cell? ⟨KT, 0, none⟩ = some (.int .u32 t.src) := cell_of_cells HG1.out 0
 have y1 : W2.cell? ⟨KT, 1, none⟩ = some (.int .u32 t.dst) := cell_of_cells HG1.out 1
 have y2 : W2.cell? ⟨KT, 2, none⟩ = some (.int .i64 t.proto) := cell_of_cells HG1.out 2
 have y3 : W2.cell? ⟨KT, 3, none⟩ = some (.int .i64 t.sport) := cell_of_cells HG1.out 3
 have y4 : W2.cell? ⟨KT, 4, none⟩ = some (.int .i64 t.dport) := cell_of_cells HG1.out 4
 go_wp2_with fail
 (with_reducible refine HAT.out.mono ?_)
 rintro e wz ⟨rfl, t2⟩
 have HTZ := Lib.hid (HT1.out.trans t2 (fun _ _ h => h))
 have HQZ := Lib.hid (HQ.out.still t2)
 have HGZ := Lib.hid (t2.keeps HG2.out (fun h => h))
 have HNEW : RowKit.Hid (∀ k, k < w.heap.size → k = KR → False) := Lib.hid (fun k h1 h2 => by have := HKR.out; omega)
 clear t2 y0 y1 y2 y3 y4
 cases hh : hasF L t with
 | false =>
   rw [idxL_neg hh]
   have HE : RowKit.Hid (getF L t = noF) := Lib.hid (getF_no hh)
   have HH := Lib.hid hh
   clear hh
   go_wp2_with (refine store_row rfl 83 (.tmp 4) (.tmp 19) rfl KR _ rfl rfl _ _ HGZ.out HII.out rfl rfl ?_)
   refine ret_row1 rfl rfl KR 83 _ (0, 0) _ rfl (setRow_heap _ _ _ _ _ _ HGZ.out) Tryz.underlying83 rfl infoFlG _ rfl ?_
   exact ⟨by rw [HE.out, HH.out]; rfl, HTZ.out.setRow _ _ (fun h => HNEW.out _ h rfl)⟩
 | true =>
   obtain ⟨hk, hg, ht, hd⟩ := posL_get hnd hh
   obtain ⟨i, hi⟩ : ∃ i, posL L t = i := ⟨_, rfl⟩
   rw [show idxL L t = (i : Int) by unfold idxL; rw [if_pos hh, hi]]
   obtain ⟨n, hn⟩ : ∃ n, L.length = n := ⟨_, rfl⟩
   have hcap := HQZ.out.row.hcap
   have hmax := HQZ.out.row.hmax
   have hin : i < n := by rw [← hi, ← hn]; exact hk
   rw [hn] at hcap
   obtain ⟨g, off, hga⟩ := HQZ.out.row.some (by omega)
   subst hga
   obtain ⟨c0, c1, c2, c3, c4, c5, c6, c7⟩ := row_flc HQZ.out.row (posL L t) hk
   have z0 : wz.cell? ⟨b, 0, none⟩ = some (.slice (some ⟨g, off, none⟩) n c) := by have h := cell_of_cells HQZ.out.head 0; rw [hn] at h; exact h
   have HH := Lib.hid hh
   simp only [hg] at c0 c1 c2 c3 c4 c5 c6 c7
   rw [hi] at c0 c1 c2 c3 c4 c5 c6 c7
   obtain ⟨f, hf⟩ : ∃ f, getF L t = f := ⟨_, rfl⟩
   rw [hf] at c0 c1 c2 c3 c4 c5 c6 c7
   have HF := Lib.hid hf
   have hi0 : ¬ (i : Int) < 0 := by omega
   have hinI : (i : Int) < n := by omega
   clear hh hg ht hd hi HQ HAT hf hk
   go_wp2_with (refine store_row rfl 83 (.tmp 4) (.tmp 18) rfl KR _ rfl rfl _ _ HGZ.out HII.out rfl rfl ?_)
   refine ret_row1 rfl rfl KR 83 _ (0, 0) _ rfl (setRow_heap _ _ _ _ _ _ HGZ.out) Tryz.underlying83 rfl infoFlG _ rfl ?_
   exact ⟨by rw [HF.out, HH.out]; rfl, HTZ.out.setRow _ _ (fun h => HNEW.out _ h rfl)⟩
end Go.Proofs.YtpjdcgjoepjmcaaGreat
end
