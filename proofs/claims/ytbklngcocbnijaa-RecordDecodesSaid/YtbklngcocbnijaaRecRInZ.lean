/- Records: as a format keeps them: the reference's In. -/
import Derived.Test.YtbklngcocbnijaaRecInZ
set_option linter.unusedVariables false
set_option linter.unusedSimpArgs false
namespace Go.Proofs.Ytbklngcocbnijaa
open Go.RowKit

set_option maxRecDepth 20000 in
set_option maxHeartbeats 8000000 in
theorem rin_bad (r : RecD) (a : Option Addr) (cap : Nat) (v : Int) (w : World) (hv : verB v = false) :
    Calls Try.prog 23 #[.agg (rcs r a cap), .int .i64 v] w fun e w' => RecIs w w' (inD r v) e := by
  have hp : inD r v = zeroR := by unfold inD; rw [hv]; rfl
  rw [hp]
  have HV : RowKit.Hid (∀ w, Calls Try.prog 51 #[.int .i64 v] w fun e w' => e = .returned (.bool false) ∧ w' = w) := Lib.hid (fun w => hv ▸ rversion_any v w)
  clear hp hv
  obtain ⟨kind, ⟨src, dst, proto, sport, dport⟩, fb, fg, fs, gen, bs, be, un, ct⟩ := r
  simp only [rcs]
  go_enter Try.func23, Try.ntmps23
  go_wp2_with (go_at_call 51; (with_reducible refine (HV.out _).mono ?_); rintro e w' ⟨rfl, rfl⟩)
  refine ret_row rfl rfl (w.heap.size + 1) 29 (rcs zeroR none 0) (0, 0) _ rfl (heap_two _ _ _) Try.underlying29 rfl infoRec ?_
  exact ⟨none, 0, rfl, OwnK.none _ _, still2 _ _ _⟩

/-- At the head of the loop over the backends. -/
def RInL (w : World) (B Z top : Nat) (P : RecD) (a' : Option Addr) (c' base k : Nat) (wx : World) : Prop :=
  wx.heap[B]? = some (.cells (rcs P a' c') 29 (0, 0)) ∧ wx.heap[Z]? = some (.cells (rcs zeroR none 0) 29 (0, 0)) ∧ OwnK wx base (.slice a' P.bs.length c') (halfK P.bs k) ∧ Touch w wx (fun _ => False)
/-- The end: the record is handed back. -/
theorem rin_end {w wr : World} {Z base : Nat} {a4 : Option Addr} {c4 : Nat} (q : RecD) (bs : List BkD) {fn : Func} {x : Act} {p : Tmp} (hf : fn.results = #[.cell p 29]) (hd : x.defers = []) (hp : x.tmps.getD p undef = .pointer (some ⟨Z, 0, Option.none⟩))
    (hZ : wr.heap[Z]? = some (.cells (rcs zeroR none 0) 29 (0, 0))) (ho : OwnK wr base (.slice a4 bs.length c4) q.bs) (hb : q.bs.length = bs.length) (hT : Touch w wr (fun _ => False)) (h1 : w.heap.size ≤ Z) (h2 : Z < base) (h3 : w.heap.size ≤ base)
    (cs : Array Value) (hcs : cs = rcs q a4 c4) :
    bodyPost Try.prog fn (fun e w' => RecIs w w' q e) .ret x (wr.setRow Z cs) := by
  subst hcs
  have tS := (Touch.refl wr (fun k => k = Z)).setRow Z (rcs q a4 c4) (fun _ => rfl)
  refine ret_row hf hd Z 29 (rcs q a4 c4) (0, 0) _ hp (setRow_heap _ _ _ _ _ _ hZ) Try.underlying29 rfl infoRec ?_
  refine ⟨a4, c4, rfl, ?_, hT.trans tS (fun k h4 h5 => by omega)⟩
  rw [hb]
  exact (ho.touch tS (fun x hx h => by have h6 : base ≤ x := ((OwnS.own ho).lt x hx).1; omega)).rebase (fun x hx => by have h6 : base ≤ x := ((OwnS.own ho).lt x hx).1; omega)

set_option maxRecDepth 20000 in
set_option maxHeartbeats 8000000 in
theorem rin_v3 (r : RecD) (a : Option Addr) (cap : Nat) (w : World) (hr : RowK w a r.bs.length cap r.bs) (hl : r.bs.length ≤ 100000) :
    Calls Try.prog 23 #[.agg (rcs r a cap), .int .i64 3] w fun e w' => RecIs w w' (inD r 3) e := by
  obtain ⟨W1, hW1⟩ : ∃ W, w.alloc (.cells (rcs r a cap) 29) = W := ⟨_, rfl⟩
  obtain ⟨W2, hW2⟩ : ∃ W, W1.alloc (.cells #[.int .i64 0, .int .u32 0, .int .u32 0, .int .i64 0, .int .i64 0, .int .i64 0, .int .i64 0, .int .i64 0, .int .i64 0, .int .i64 0, .slice none 0 0, .int .i64 0, .int .i64 0, .int .i64 0] 29) = W := ⟨_, rfl⟩
  have t1 : Touch w W1 (fun _ => False) := hW1 ▸ (Touch.refl _ _).alloc _
  have t2 : Touch W1 W2 (fun _ => False) := hW2 ▸ (Touch.refl _ _).alloc _
  have hg1 : W1.heap[w.heap.size]? = some (.cells (rcs r a cap) 29 (0, 0)) := hW1 ▸ heap_alloc_new w _
  have hg2 : W2.heap[W1.heap.size]? = some (.cells (rcs zeroR none 0) 29 (0, 0)) := hW2 ▸ heap_alloc_new W1 _
  have HSZ : RowKit.Hid (w.heap.size < W1.heap.size) := Lib.hid (heap_lt hg1)
  have HSZ2 : RowKit.Hid (W1.heap.size < W2.heap.size) := Lib.hid (heap_lt hg2)
  obtain ⟨p, hp⟩ : ∃ p, plainD r = p := ⟨_, rfl⟩
  have HC : RowKit.Hid (Calls Try.prog 16 #[.agg (rcs r a cap)] W2 fun e w' => RecIs W2 w' p e) := Lib.hid (hp ▸ rplain_any r a cap W2 ((hr.still t1).still t2) hl)
  have HP : RowKit.Hid (inD r 3 = ⟨p.kind, p.t, p.fb, p.fg, p.fs, p.gen, p.bs, p.be, p.un, p.ct⟩) := Lib.hid (by rw [← hp]; unfold inD; rw [if_pos (by decide)]; simp)
  generalize inD r 3 = q at *
  have HG1 := Lib.hid (t2.keeps hg1 (fun h => h))
  have HG2 := Lib.hid hg2
  have HT := Lib.hid (t1.trans t2 (fun _ _ h => h))
  have HIR := Lib.hid infoRec
  have HV : RowKit.Hid (∀ w, Calls Try.prog 51 #[.int .i64 3] w fun e w' => e = .returned (.bool true) ∧ w = w') := Lib.hid (fun w => (rversion_any 3 w).mono fun e w' h => ⟨h.1, h.2.symm⟩)
  clear hr hl hp hg1 hg2 t1 t2
  simp only [rcs] at hW1
  simp only [rcs]
  go_enter Try.func23, Try.ntmps23
  go_wp2_with (first
    | (go_at_call 51; (with_reducible refine (HV.out _).mono ?_); rintro e w' ⟨rfl, rfl⟩)
    | (refine wpList_load_row rfl 29 (.tmp 2) rfl w.heap.size rfl _ _ _ _ HG1.out Try.underlying29 rfl HIR.out ?_)
    | (go_at_call 16; refine HC.out.mono ?_; rintro e w4 ⟨a4, c4, rfl, ho4, t4⟩; have HA4 := Lib.hid (t4.keeps HG1.out (fun h => h)); have HZ4 := Lib.hid (t4.keeps HG2.out (fun h => h)); have HO4 := Lib.hid ho4; have HT4 := Lib.hid (HT.out.trans t4 (fun _ _ h => h)); have HS4 := Lib.hid t4.size; clear ho4 t4 HC HV HG1 HG2; obtain ⟨pk, ⟨psrc, pdst, pproto, psport, pdport⟩, pfb, pfg, pfs, pgen, pbs, pbe, pun, pct⟩ := p; simp only at HO4 HP)
    | (refine store_row rfl 29 (.tmp 2) (.tmp 11) rfl w.heap.size _ rfl rfl _ _ HA4.out HIR.out rfl (rcs_all _ _ _) ?_; have tS := (Touch.refl w4 (fun k => k = w.heap.size)).setRow w.heap.size (rcs ⟨pk, ⟨psrc, pdst, pproto, psport, pdport⟩, pfb, pfg, pfs, pgen, pbs, pbe, pun, pct⟩ a4 c4) (fun _ => rfl); have hb : (w4.setRow w.heap.size (rcs ⟨pk, ⟨psrc, pdst, pproto, psport, pdport⟩, pfb, pfg, pfs, pgen, pbs, pbe, pun, pct⟩ a4 c4)).heap[w.heap.size]? = some (.cells (rcs ⟨pk, ⟨psrc, pdst, pproto, psport, pdport⟩, pfb, pfg, pfs, pgen, pbs, pbe, pun, pct⟩ a4 c4) 29 (0, 0)) := setRow_heap _ _ _ _ _ _ HA4.out; have hz := tS.keeps HZ4.out (fun h => by have := HSZ.out; omega); have ho := HO4.out.touch tS (fun x hx h => by (have h1 : W2.heap.size ≤ x := ((OwnS.own HO4.out).lt x hx).1; have := HSZ.out; have := HSZ2.out; omega)); have ht := HT4.out.trans tS (fun k h1 h2 => by omega); generalize w4.setRow w.heap.size (rcs ⟨pk, ⟨psrc, pdst, pproto, psport, pdport⟩, pfb, pfg, pfs, pgen, pbs, pbe, pun, pct⟩ a4 c4) = W5 at *; have HB := Lib.hid hb; have HZ := Lib.hid hz; have HO := Lib.hid ho; have HT5 := Lib.hid ht; clear hb hz ho ht tS HA4 HZ4 HO4 HT4; obtain ⟨k0, k1, k2, k3, k4, k5, k6, k7, k8, k9, k10, k11, k12, k13⟩ := rcells_of HB.out; simp only at k0 k1 k2 k3 k4 k5 k6 k7 k8 k9 k10 k11 k12 k13; have f7 := free_of_cells HB.out 7; have f8 := free_of_cells HB.out 8; have HBL := Lib.hid HB.out; have HZL := Lib.hid HZ.out)
    | (refine wpList_load_row rfl 29 (.tmp 2) rfl w.heap.size rfl _ _ _ _ HBL.out Try.underlying29 rfl HIR.out ?_)
    | (refine store_row rfl 29 (.tmp 4) (.tmp 32) rfl W1.heap.size _ rfl rfl _ _ HZL.out HIR.out rfl (rcs_all _ _ _) ?_))
  rw [HP.out]
  exact rin_end _ pbs rfl rfl rfl HZL.out HO.out rfl HT5.out (by have := HSZ.out; omega) HSZ2.out (by have := HSZ.out; have := HSZ2.out; omega) _ rfl

set_option maxRecDepth 20000 in
set_option maxHeartbeats 8000000 in
theorem rin_v2 (r : RecD) (a : Option Addr) (cap : Nat) (w : World) (hr : RowK w a r.bs.length cap r.bs) (hl : r.bs.length ≤ 100000) :
    Calls Try.prog 23 #[.agg (rcs r a cap), .int .i64 2] w fun e w' => RecIs w w' (inD r 2) e := by
  obtain ⟨W1, hW1⟩ : ∃ W, w.alloc (.cells (rcs r a cap) 29) = W := ⟨_, rfl⟩
  obtain ⟨W2, hW2⟩ : ∃ W, W1.alloc (.cells #[.int .i64 0, .int .u32 0, .int .u32 0, .int .i64 0, .int .i64 0, .int .i64 0, .int .i64 0, .int .i64 0, .int .i64 0, .int .i64 0, .slice none 0 0, .int .i64 0, .int .i64 0, .int .i64 0] 29) = W := ⟨_, rfl⟩
  have t1 : Touch w W1 (fun _ => False) := hW1 ▸ (Touch.refl _ _).alloc _
  have t2 : Touch W1 W2 (fun _ => False) := hW2 ▸ (Touch.refl _ _).alloc _
  have hg1 : W1.heap[w.heap.size]? = some (.cells (rcs r a cap) 29 (0, 0)) := hW1 ▸ heap_alloc_new w _
  have hg2 : W2.heap[W1.heap.size]? = some (.cells (rcs zeroR none 0) 29 (0, 0)) := hW2 ▸ heap_alloc_new W1 _
  have HSZ : RowKit.Hid (w.heap.size < W1.heap.size) := Lib.hid (heap_lt hg1)
  have HSZ2 : RowKit.Hid (W1.heap.size < W2.heap.size) := Lib.hid (heap_lt hg2)
  obtain ⟨p, hp⟩ : ∃ p, plainD r = p := ⟨_, rfl⟩
  have HC : RowKit.Hid (Calls Try.prog 16 #[.agg (rcs r a cap)] W2 fun e w' => RecIs W2 w' p e) := Lib.hid (hp ▸ rplain_any r a cap W2 ((hr.still t1).still t2) hl)
  have HP : RowKit.Hid (inD r 2 = ⟨p.kind, p.t, p.fb, p.fg, 0, p.gen, p.bs, p.be, p.un, p.ct⟩) := Lib.hid (by rw [← hp]; unfold inD; rw [if_pos (by decide)]; simp)
  generalize inD r 2 = q at *
  have HG1 := Lib.hid (t2.keeps hg1 (fun h => h))
  have HG2 := Lib.hid hg2
  have HT := Lib.hid (t1.trans t2 (fun _ _ h => h))
  have HIR := Lib.hid infoRec
  have HV : RowKit.Hid (∀ w, Calls Try.prog 51 #[.int .i64 2] w fun e w' => e = .returned (.bool true) ∧ w = w') := Lib.hid (fun w => (rversion_any 2 w).mono fun e w' h => ⟨h.1, h.2.symm⟩)
  clear hr hl hp hg1 hg2 t1 t2
  simp only [rcs] at hW1
  simp only [rcs]
  go_enter Try.func23, Try.ntmps23
  go_wp2_with (first
    | (go_at_call 51; (with_reducible refine (HV.out _).mono ?_); rintro e w' ⟨rfl, rfl⟩)
    | (refine wpList_load_row rfl 29 (.tmp 2) rfl w.heap.size rfl _ _ _ _ HG1.out Try.underlying29 rfl HIR.out ?_)
    | (go_at_call 16; refine HC.out.mono ?_; rintro e w4 ⟨a4, c4, rfl, ho4, t4⟩; have HA4 := Lib.hid (t4.keeps HG1.out (fun h => h)); have HZ4 := Lib.hid (t4.keeps HG2.out (fun h => h)); have HO4 := Lib.hid ho4; have HT4 := Lib.hid (HT.out.trans t4 (fun _ _ h => h)); have HS4 := Lib.hid t4.size; clear ho4 t4 HC HV HG1 HG2; obtain ⟨pk, ⟨psrc, pdst, pproto, psport, pdport⟩, pfb, pfg, pfs, pgen, pbs, pbe, pun, pct⟩ := p; simp only at HO4 HP)
    | (refine store_row rfl 29 (.tmp 2) (.tmp 11) rfl w.heap.size _ rfl rfl _ _ HA4.out HIR.out rfl (rcs_all _ _ _) ?_; have tS := (Touch.refl w4 (fun k => k = w.heap.size)).setRow w.heap.size (rcs ⟨pk, ⟨psrc, pdst, pproto, psport, pdport⟩, pfb, pfg, pfs, pgen, pbs, pbe, pun, pct⟩ a4 c4) (fun _ => rfl); have hb : (w4.setRow w.heap.size (rcs ⟨pk, ⟨psrc, pdst, pproto, psport, pdport⟩, pfb, pfg, pfs, pgen, pbs, pbe, pun, pct⟩ a4 c4)).heap[w.heap.size]? = some (.cells (rcs ⟨pk, ⟨psrc, pdst, pproto, psport, pdport⟩, pfb, pfg, pfs, pgen, pbs, pbe, pun, pct⟩ a4 c4) 29 (0, 0)) := setRow_heap _ _ _ _ _ _ HA4.out; have hz := tS.keeps HZ4.out (fun h => by have := HSZ.out; omega); have ho := HO4.out.touch tS (fun x hx h => by (have h1 : W2.heap.size ≤ x := ((OwnS.own HO4.out).lt x hx).1; have := HSZ.out; have := HSZ2.out; omega)); have ht := HT4.out.trans tS (fun k h1 h2 => by omega); generalize w4.setRow w.heap.size (rcs ⟨pk, ⟨psrc, pdst, pproto, psport, pdport⟩, pfb, pfg, pfs, pgen, pbs, pbe, pun, pct⟩ a4 c4) = W5 at *; have HB := Lib.hid hb; have HZ := Lib.hid hz; have HO := Lib.hid ho; have HT5 := Lib.hid ht; clear hb hz ho ht tS HA4 HZ4 HO4 HT4; obtain ⟨k0, k1, k2, k3, k4, k5, k6, k7, k8, k9, k10, k11, k12, k13⟩ := rcells_of HB.out; simp only at k0 k1 k2 k3 k4 k5 k6 k7 k8 k9 k10 k11 k12 k13; have f7 := free_of_cells HB.out 7; have f8 := free_of_cells HB.out 8; have HBL : RowKit.Hid ((W5.setCell ⟨w.heap.size, 8, none⟩ (.int .i64 0)).heap[w.heap.size]? = some (.cells (rcs ⟨pk, ⟨psrc, pdst, pproto, psport, pdport⟩, pfb, pfg, 0, pgen, pbs, pbe, pun, pct⟩ a4 c4) 29 (0, 0))) := Lib.hid (heap_setCell_same W5 w.heap.size 8 _ _ (.int .i64 0) HB.out); have HZL := Lib.hid (((Touch.refl W5 (fun k => k = w.heap.size)).setCell ⟨w.heap.size, 8, none⟩ (.int .i64 0) (fun _ => rfl)).keeps HZ.out (fun h => by have := HSZ.out; omega)))
    | (refine wpList_load_row rfl 29 (.tmp 2) rfl w.heap.size rfl _ _ _ _ HBL.out Try.underlying29 rfl HIR.out ?_)
    | (refine store_row rfl 29 (.tmp 4) (.tmp 32) rfl W1.heap.size _ rfl rfl _ _ HZL.out HIR.out rfl (rcs_all _ _ _) ?_))
  rw [HP.out]
  have tC := (Touch.refl W5 (fun k => k = w.heap.size)).setCell ⟨w.heap.size, 8, none⟩ (.int .i64 0) (fun _ => rfl)
  exact rin_end _ pbs rfl rfl rfl HZL.out (HO.out.touch tC (fun x hx h => by have h1 : W2.heap.size ≤ x := ((OwnS.own HO.out).lt x hx).1; have := HSZ.out; have := HSZ2.out; omega)) rfl (HT5.out.trans tC (fun k h1 h2 => by omega)) (by have := HSZ.out; omega) HSZ2.out (by have := HSZ.out; have := HSZ2.out; omega) _ rfl

set_option maxRecDepth 20000 in
set_option maxHeartbeats 8000000 in
theorem rin_v1 (r : RecD) (a : Option Addr) (cap : Nat) (w : World) (hr : RowK w a r.bs.length cap r.bs) (hl : r.bs.length ≤ 100000) :
    Calls Try.prog 23 #[.agg (rcs r a cap), .int .i64 1] w fun e w' => RecIs w w' (inD r 1) e := by
  obtain ⟨W1, hW1⟩ : ∃ W, w.alloc (.cells (rcs r a cap) 29) = W := ⟨_, rfl⟩
  obtain ⟨W2, hW2⟩ : ∃ W, W1.alloc (.cells #[.int .i64 0, .int .u32 0, .int .u32 0, .int .i64 0, .int .i64 0, .int .i64 0, .int .i64 0, .int .i64 0, .int .i64 0, .int .i64 0, .slice none 0 0, .int .i64 0, .int .i64 0, .int .i64 0] 29) = W := ⟨_, rfl⟩
  have t1 : Touch w W1 (fun _ => False) := hW1 ▸ (Touch.refl _ _).alloc _
  have t2 : Touch W1 W2 (fun _ => False) := hW2 ▸ (Touch.refl _ _).alloc _
  have hg1 : W1.heap[w.heap.size]? = some (.cells (rcs r a cap) 29 (0, 0)) := hW1 ▸ heap_alloc_new w _
  have hg2 : W2.heap[W1.heap.size]? = some (.cells (rcs zeroR none 0) 29 (0, 0)) := hW2 ▸ heap_alloc_new W1 _
  have HSZ : RowKit.Hid (w.heap.size < W1.heap.size) := Lib.hid (heap_lt hg1)
  have HSZ2 : RowKit.Hid (W1.heap.size < W2.heap.size) := Lib.hid (heap_lt hg2)
  obtain ⟨p, hp⟩ : ∃ p, plainD r = p := ⟨_, rfl⟩
  have HC : RowKit.Hid (Calls Try.prog 16 #[.agg (rcs r a cap)] W2 fun e w' => RecIs W2 w' p e) := Lib.hid (hp ▸ rplain_any r a cap W2 ((hr.still t1).still t2) hl)
  have HP : RowKit.Hid (inD r 1 = ⟨p.kind, p.t, p.fb, 0, 0, p.gen, p.bs.map w1K, p.be, p.un, p.ct⟩) := Lib.hid (by rw [← hp]; unfold inD; rw [if_pos (by decide)]; simp)
  generalize inD r 1 = q at *
  have HG1 := Lib.hid (t2.keeps hg1 (fun h => h))
  have HG2 := Lib.hid hg2
  have HT := Lib.hid (t1.trans t2 (fun _ _ h => h))
  have HIR := Lib.hid infoRec
  have HV : RowKit.Hid (∀ w, Calls Try.prog 51 #[.int .i64 1] w fun e w' => e = .returned (.bool true) ∧ w = w') := Lib.hid (fun w => (rversion_any 1 w).mono fun e w' h => ⟨h.1, h.2.symm⟩)
  clear hr hl hp hg1 hg2 t1 t2
  simp only [rcs] at hW1
  simp only [rcs]
  go_enter Try.func23, Try.ntmps23
  go_wp2_with (first
    | (go_at_call 51; (with_reducible refine (HV.out _).mono ?_); rintro e w' ⟨rfl, rfl⟩)
    | (refine wpList_load_row rfl 29 (.tmp 2) rfl w.heap.size rfl _ _ _ _ HG1.out Try.underlying29 rfl HIR.out ?_)
    | (go_at_call 16; refine HC.out.mono ?_; rintro e w4 ⟨a4, c4, rfl, ho4, t4⟩; have HA4 := Lib.hid (t4.keeps HG1.out (fun h => h)); have HZ4 := Lib.hid (t4.keeps HG2.out (fun h => h)); have HO4 := Lib.hid ho4; have HT4 := Lib.hid (HT.out.trans t4 (fun _ _ h => h)); have HS4 := Lib.hid t4.size; clear ho4 t4 HC HV HG1 HG2; obtain ⟨pk, ⟨psrc, pdst, pproto, psport, pdport⟩, pfb, pfg, pfs, pgen, pbs, pbe, pun, pct⟩ := p; simp only at HO4 HP)
    | (refine store_row rfl 29 (.tmp 2) (.tmp 11) rfl w.heap.size _ rfl rfl _ _ HA4.out HIR.out rfl (rcs_all _ _ _) ?_; have tS := (Touch.refl w4 (fun k => k = w.heap.size)).setRow w.heap.size (rcs ⟨pk, ⟨psrc, pdst, pproto, psport, pdport⟩, pfb, pfg, pfs, pgen, pbs, pbe, pun, pct⟩ a4 c4) (fun _ => rfl); have hb : (w4.setRow w.heap.size (rcs ⟨pk, ⟨psrc, pdst, pproto, psport, pdport⟩, pfb, pfg, pfs, pgen, pbs, pbe, pun, pct⟩ a4 c4)).heap[w.heap.size]? = some (.cells (rcs ⟨pk, ⟨psrc, pdst, pproto, psport, pdport⟩, pfb, pfg, pfs, pgen, pbs, pbe, pun, pct⟩ a4 c4) 29 (0, 0)) := setRow_heap _ _ _ _ _ _ HA4.out; have hz := tS.keeps HZ4.out (fun h => by have := HSZ.out; omega); have ho := HO4.out.touch tS (fun x hx h => by (have h1 : W2.heap.size ≤ x := ((OwnS.own HO4.out).lt x hx).1; have := HSZ.out; have := HSZ2.out; omega)); have ht := HT4.out.trans tS (fun k h1 h2 => by omega); generalize w4.setRow w.heap.size (rcs ⟨pk, ⟨psrc, pdst, pproto, psport, pdport⟩, pfb, pfg, pfs, pgen, pbs, pbe, pun, pct⟩ a4 c4) = W5 at *; have HB := Lib.hid hb; have HZ := Lib.hid hz; have HO := Lib.hid ho; have HT5 := Lib.hid ht; clear hb hz ho ht tS HA4 HZ4 HO4 HT4; obtain ⟨k0, k1, k2, k3, k4, k5, k6, k7, k8, k9, k10, k11, k12, k13⟩ := rcells_of HB.out; simp only at k0 k1 k2 k3 k4 k5 k6 k7 k8 k9 k10 k11 k12 k13; have f7 := free_of_cells HB.out 7; have f8 := free_of_cells HB.out 8)
    | (refine wpList_load_row rfl 29 (.tmp 2) rfl w.heap.size rfl _ _ _ _ HBL.out Try.underlying29 rfl HIR.out ?_)
    | (refine store_row rfl 29 (.tmp 4) (.tmp 32) rfl W1.heap.size _ rfl rfl _ _ HZL.out HIR.out rfl (rcs_all _ _ _) ?_))
  have tC := (Touch.refl W5 (fun k => k = w.heap.size)).setCell ⟨w.heap.size, 7, none⟩ (.int .i64 0) (fun _ => rfl)
  have hb6 := heap_setCell_same W5 w.heap.size 7 _ _ (.int .i64 0) HB.out
  have hz6 := tC.keeps HZ.out (fun h => by have := HSZ.out; omega)
  have ho6 := HO.out.touch tC (fun x hx h => by have h1 : W2.heap.size ≤ x := ((OwnS.own HO.out).lt x hx).1; have := HSZ.out; have := HSZ2.out; omega)
  have ht6 := HT5.out.trans tC (fun k h1 h2 => by omega)
  go_loopw [19] (fun i wr => ∃ k : Nat, k ≤ pbs.length ∧ i = .int .i64 k ∧ RInL w w.heap.size W1.heap.size W1.heap.size ⟨pk, ⟨psrc, pdst, pproto, psport, pdport⟩, pfb, 0, pfs, pgen, pbs, pbe, pun, pct⟩ a4 c4 W2.heap.size k wr) (fun i _ => pbs.length - (intOf i).toNat)
  case atStart => exact ⟨0, Nat.zero_le _, rfl, hb6, hz6, by rw [halfK_zero]; exact ho6, ht6⟩
  case round =>
    clear hb6 hz6 ho6 ht6 tC HB HZ HO HT5 k0 k1 k2 k3 k4 k5 k6 k7 k8 k9 k10 k11 k12 k13 f7 f8
    obtain ⟨k, hk, rfl, hb, hz, ho, ht⟩ := hrel
    have HB := Lib.hid hb
    have HZ := Lib.hid hz
    have HO := Lib.hid ho
    have HT := Lib.hid ht
    simp only at HO
    clear hb hz ho ht
    obtain ⟨k0, k1, k2, k3, k4, k5, k6, k7, k8, k9, k10, k11, k12, k13⟩ := rcells_of HB.out
    simp only at k0 k1 k2 k3 k4 k5 k6 k7 k8 k9 k10 k11 k12 k13
    by_cases hlt : k < pbs.length
    case neg =>
      obtain rfl : pbs.length = k := by omega
      have hlt' : ¬ (pbs.length : Int) < pbs.length := by omega
      have f8 := free_of_cells HB.out 8
      have tC := (Touch.refl wr (fun k => k = w.heap.size)).setCell ⟨w.heap.size, 8, none⟩ (.int .i64 0) (fun _ => rfl)
      have HBL : RowKit.Hid ((wr.setCell ⟨w.heap.size, 8, none⟩ (.int .i64 0)).heap[w.heap.size]? = some (.cells (rcs ⟨pk, ⟨psrc, pdst, pproto, psport, pdport⟩, pfb, 0, 0, pgen, pbs, pbe, pun, pct⟩ a4 c4) 29 (0, 0))) := Lib.hid (heap_setCell_same wr w.heap.size 8 _ _ (.int .i64 0) HB.out)
      have HZL := Lib.hid (tC.keeps HZ.out (fun h => by have := HSZ.out; omega))
      go_wp2_with (first
        | (refine wpList_load_row rfl 29 (.tmp 2) rfl w.heap.size rfl _ _ _ _ HBL.out Try.underlying29 rfl HIR.out ?_)
        | (refine store_row rfl 29 (.tmp 4) (.tmp 32) rfl W1.heap.size _ rfl rfl _ _ HZL.out HIR.out rfl (rcs_all _ _ _) ?_))
      rw [HP.out]
      have ho := HO.out
      rw [halfK_all] at ho
      exact rin_end _ pbs rfl rfl rfl HZL.out (ho.touch tC (fun x hx h => by have h1 : W2.heap.size ≤ x := ((OwnS.own ho).lt x hx).1; have := HSZ.out; have := HSZ2.out; omega)) (by simp) (HT.out.trans tC (fun k h1 h2 => by omega)) (by have := HSZ.out; omega) HSZ2.out (by have := HSZ.out; have := HSZ2.out; omega) _ (by simp only [rcs, List.length_map])
    case pos =>
      obtain ⟨g, rfl, hge⟩ := HO.out.addr (by omega)
      have hrow := HO.out.row.2.1
      have hcap := hrow.hmax
      have hcap1 := hrow.hcap
      have hkh : k < (halfK pbs k).length := by rw [halfK_len]; exact hlt
      obtain ⟨c0, c1, c2⟩ := RowK.cells hrow k hkh
      have hfr : wr.frozen? ⟨g, k * 3 + 2, none⟩ = false := OwnS.free HO.out _
      simp only [Nat.zero_add] at c2
      have i1 : (k : Int) < pbs.length := by omega
      have hnew := HO.out.w1 k hkh
      rw [halfK_step] at hnew
      have HN := Lib.hid hnew
      have HGE := Lib.hid hge
      have tS := (Touch.refl wr (fun k => k = g)).setCell ⟨g, k * 3 + 2, none⟩ (.int .i64 1) (fun _ => rfl)
      have HNW : RowKit.Hid (w.heap.size ≠ g) := Lib.hid (fun e => by have := HSZ.out; have := HSZ2.out; omega)
      clear hrow c0 c1 hnew hge
      generalize (halfK pbs k)[k] = f at *
      go_wp2
      go_roundw
      case rel =>
        have n1 := HSZ.out
        have n2 := HSZ2.out
        have n4 := HGE.out
        exact ⟨k + 1, hlt, by go_num, tS.keeps HB.out HNW.out, tS.keeps HZ.out (fun h => by omega), HN.out, HT.out.setCell _ _ (fun h => absurd h (by simp only; omega))⟩
      case measure => simp [intOf]; omega

theorem rin_any (r : RecD) (a : Option Addr) (cap : Nat) (v : Int) (w : World) (hr : RowK w a r.bs.length cap r.bs) (hl : r.bs.length ≤ 100000) :
    Calls Try.prog 23 #[.agg (rcs r a cap), .int .i64 v] w fun e w' => RecIs w w' (inD r v) e := by
  cases h : verB v with
  | false => exact rin_bad r a cap v w h
  | true =>
    rcases verB_cases v h with rfl | rfl | rfl
    · exact rin_v1 r a cap w hr hl
    · exact rin_v2 r a cap w hr hl
    · exact rin_v3 r a cap w hr hl
end Go.Proofs.Ytbklngcocbnijaa
