/- Records: as a format keeps them: In of package record. -/
import Derived.Test.YtbklngcocbnijaaGCZ
import Derived.Test.YtbklngcocbnijaaRecRPlainZ
import Derived.Test.YtbklngcocbnijaaRecSameZ
import Derived.Test.YtbklngcocbnijaaRecMayZ
import Derived.Deep.DeepCutAuto
set_option linter.unusedVariables false
set_option linter.unusedSimpArgs false
namespace Go.Proofs.Ytbklngcocbnijaa
open Go.RowKit

def w1K (b : BkD) : BkD := ⟨b.id, b.addr, 1⟩
def zeroR : RecD := ⟨0, noT, 0, 0, 0, 0, [], 0, 0, 0⟩
/-- As a format keeps it. -/
def inD (r : RecD) (v : Int) : RecD :=
  if verB v = true then ⟨(plainD r).kind, (plainD r).t, (plainD r).fb, if v < 2 then 0 else (plainD r).fg, if v < 3 then 0 else (plainD r).fs, (plainD r).gen, if v < 2 then (plainD r).bs.map w1K else (plainD r).bs, (plainD r).be, (plainD r).un, (plainD r).ct⟩ else zeroR

theorem w1K_cells (b : BkD) : (w1K b).cells = b.cells.set 2 (.int .i64 1) := rfl
theorem OwnK.w1 {w : World} {base g n cap : Nat} {bs : List BkD} (h : OwnK w base (.slice (some ⟨g, 0, Option.none⟩) n cap) bs) (k : Nat) (hk : k < bs.length) :
    OwnK (w.setCell ⟨g, k * 3 + 2, Option.none⟩ (.int .i64 1)) base (.slice (some ⟨g, 0, Option.none⟩) n cap) (bs.set k (w1K bs[k])) := by
  have := OwnS.stored (L := bs.map BkD.cells) h k (by simpa using hk) 2 (by decide) (.int .i64 1)
  unfold OwnK
  rw [List.map_set, w1K_cells]
  simpa using this
theorem OwnK.addr {w : World} {base n cap : Nat} {a : Option Addr} {bs : List BkD} (h : OwnK w base (.slice a n cap) bs) (h0 : 0 < n) : ∃ g, a = some ⟨g, 0, Option.none⟩ ∧ base ≤ g := by
  obtain ⟨hn, _, _⟩ := OwnS.row' h
  rcases (OwnS.own h).2 with ⟨h1, h2⟩ | ⟨g, cap', cur, h1, hb, _⟩
  · omega
  · simp only [Value.slice.injEq] at h1
    exact ⟨g, h1.1, hb⟩
/-- The first k with the weight 1. -/
def halfK (bs : List BkD) (k : Nat) : List BkD := (bs.take k).map w1K ++ bs.drop k
theorem halfK_len (bs : List BkD) (k : Nat) : (halfK bs k).length = bs.length := by simp [halfK]; omega
theorem halfK_zero (bs : List BkD) : halfK bs 0 = bs := by simp [halfK]
theorem halfK_all (bs : List BkD) : halfK bs bs.length = bs.map w1K := by simp [halfK]
theorem halfK_get (bs : List BkD) (k : Nat) (hk' : k < bs.length) (h : k < (halfK bs k).length) : (halfK bs k)[k] = bs[k] := by
  have hl : ((bs.take k).map w1K).length = k := by simp; omega
  have e : (halfK bs k)[k]? = bs[k]? := by
    unfold halfK
    rw [List.getElem?_append_right (by omega), hl, Nat.sub_self, List.getElem?_drop, Nat.add_zero]
  rw [List.getElem?_eq_getElem h, List.getElem?_eq_getElem hk'] at e
  simpa using e
theorem halfK_step (bs : List BkD) (k : Nat) (hk : k < (halfK bs k).length) : (halfK bs k).set k (w1K (halfK bs k)[k]) = halfK bs (k + 1) := by
  have hk' : k < bs.length := by rwa [halfK_len] at hk
  have hl : ((bs.take k).map w1K).length = k := by simp; omega
  rw [halfK_get bs k hk' hk]
  unfold halfK
  rw [List.set_append_right _ _ (by omega), hl, Nat.sub_self, List.take_succ_eq_append_getElem hk', List.drop_eq_getElem_cons hk']
  simp only [List.set_cons_zero, List.map_append, List.map_cons, List.map_nil, List.append_assoc, List.cons_append, List.nil_append]

set_option maxRecDepth 20000 in
set_option maxHeartbeats 8000000 in
theorem in_bad (r : RecD) (a : Option Addr) (cap : Nat) (v : Int) (w : World) (hv : verB v = false) :
    Calls Try.prog 22 #[.agg (rcs r a cap), .int .i64 v] w fun e w' => RecIs w w' (inD r v) e := by
  have hp : inD r v = zeroR := by unfold inD; rw [hv]; rfl
  rw [hp]
  have HV : RowKit.Hid (∀ w, Calls Try.prog 50 #[.int .i64 v] w fun e w' => e = .returned (.bool false) ∧ w' = w) := Lib.hid (fun w => hv ▸ isVersion_any v w)
  clear hp hv
  obtain ⟨kind, ⟨src, dst, proto, sport, dport⟩, fb, fg, fs, gen, bs, be, un, ct⟩ := r
  simp only [rcs]
  go_enter Try.func22, Try.ntmps22
  go_wp2_with (go_at_call 50; (with_reducible refine (HV.out _).mono ?_); rintro e w' ⟨rfl, rfl⟩)
  refine ret_row rfl rfl (w.heap.size + 1) 29 (rcs zeroR none 0) (0, 0) _ rfl (heap_two _ _ _) Try.underlying29 rfl infoRec ?_
  exact ⟨none, 0, rfl, OwnK.none _ _, still2 _ _ _⟩

/-- At the head of the loop over the backends. -/
def InL (w W1 w4 : World) (P : RecD) (a' : Option Addr) (c' base k : Nat) (wx : World) : Prop :=
  wx.heap[w4.heap.size]? = some (.cells (rcs P a' c') 29 (0, 0)) ∧ wx.heap[W1.heap.size]? = some (.cells (rcs zeroR none 0) 29 (0, 0)) ∧ OwnK wx base (.slice a' P.bs.length c') (halfK P.bs k) ∧ Touch w wx (fun _ => False) ∧ (∀ g, a' = some ⟨g, 0, none⟩ → g < w4.heap.size)

set_option maxRecDepth 20000 in
set_option maxHeartbeats 8000000 in
theorem in_v1 (r : RecD) (a : Option Addr) (cap : Nat) (w : World) (hr : RowK w a r.bs.length cap r.bs) (hl : r.bs.length ≤ 100000) :
    Calls Try.prog 22 #[.agg (rcs r a cap), .int .i64 1] w fun e w' => RecIs w w' (inD r 1) e := by
  obtain ⟨W1, hW1⟩ : ∃ W, w.alloc (.cells (rcs r a cap) 29) = W := ⟨_, rfl⟩
  obtain ⟨W2, hW2⟩ : ∃ W, W1.alloc (.cells #[.int .i64 0, .int .u32 0, .int .u32 0, .int .i64 0, .int .i64 0, .int .i64 0, .int .i64 0, .int .i64 0, .int .i64 0, .int .i64 0, .slice none 0 0, .int .i64 0, .int .i64 0, .int .i64 0] 29) = W := ⟨_, rfl⟩
  have t1 : Touch w W1 (fun _ => False) := hW1 ▸ (Touch.refl _ _).alloc _
  have t2 : Touch W1 W2 (fun _ => False) := hW2 ▸ (Touch.refl _ _).alloc _
  have hg1 : W1.heap[w.heap.size]? = some (.cells (rcs r a cap) 29 (0, 0)) := hW1 ▸ heap_alloc_new w _
  have hg2 : W2.heap[W1.heap.size]? = some (.cells (rcs zeroR none 0) 29 (0, 0)) := hW2 ▸ heap_alloc_new W1 _
  have HSZ : RowKit.Hid (w.heap.size < W1.heap.size) := Lib.hid (heap_lt hg1)
  have HSZ2 : RowKit.Hid (W1.heap.size < W2.heap.size) := Lib.hid (heap_lt hg2)
  obtain ⟨p, hp⟩ : ∃ p, plainD r = p := ⟨_, rfl⟩
  have HC : RowKit.Hid (Calls Try.prog 15 #[.agg (rcs r a cap)] W2 fun e w' => RecIs W2 w' p e) := Lib.hid (hp ▸ plain_any r a cap W2 ((hr.still t1).still t2) hl)
  have HP : RowKit.Hid (inD r 1 = ⟨p.kind, p.t, p.fb, 0, 0, p.gen, p.bs.map w1K, p.be, p.un, p.ct⟩) := Lib.hid (by rw [← hp]; unfold inD; rw [if_pos (by decide)]; simp)
  generalize inD r 1 = q at *
  have HG1 := Lib.hid (t2.keeps hg1 (fun h => h))
  have HG2 := Lib.hid hg2
  have HT := Lib.hid (t1.trans t2 (fun _ _ h => h))
  have HIR := Lib.hid infoRec
  have HV : RowKit.Hid (∀ w, Calls Try.prog 50 #[.int .i64 1] w fun e w' => e = .returned (.bool true) ∧ w = w') := Lib.hid (fun w => (isVersion_any 1 w).mono fun e w' h => ⟨h.1, h.2.symm⟩)
  clear hr hl hp hg1 hg2 t1 t2
  simp only [rcs] at hW1
  simp only [rcs]
  go_enter Try.func22, Try.ntmps22
  go_wp2_with (first
    | (go_at_call 50; (with_reducible refine (HV.out _).mono ?_); rintro e w' ⟨rfl, rfl⟩)
    | (refine wpList_load_row rfl 29 (.tmp 2) rfl w.heap.size rfl _ _ _ _ HG1.out Try.underlying29 rfl HIR.out ?_)
    | (go_at_call 15; refine HC.out.mono ?_; rintro e w4 ⟨a4, c4, rfl, ho4, t4⟩; have HG4 : RowKit.Hid (∀ B, (w4.alloc B).heap[W1.heap.size]? = some (.cells (rcs zeroR none 0) 29 (0, 0))) := Lib.hid (fun B => (((Touch.refl w4 (fun _ => False)).alloc B).keeps (t4.keeps HG2.out (fun h => h)) (fun h => h))); have HO := Lib.hid ho4; have HT4 := Lib.hid (HT.out.trans t4 (fun _ _ h => h)); have HS4 := Lib.hid t4.size; clear ho4 t4 HC HV HG1; obtain ⟨pk, ⟨psrc, pdst, pproto, psport, pdport⟩, pfb, pfg, pfs, pgen, pbs, pbe, pun, pct⟩ := p; simp only at HO HP; simp only [rcs])
    | (refine store_row rfl 29 (.tmp 4) (.tmp 35) rfl W1.heap.size _ rfl rfl _ _ (HG4.out _) HIR.out rfl rfl ?_))
  obtain ⟨W5, hW5⟩ : ∃ W, w4.alloc (.cells (rcs ⟨pk, ⟨psrc, pdst, pproto, psport, pdport⟩, pfb, 0, 0, pgen, pbs, pbe, pun, pct⟩ a4 c4) 29) = W := ⟨_, rfl⟩
  have t5 : Touch w4 W5 (fun _ => False) := hW5 ▸ (Touch.refl _ _).alloc _
  have hB5 : W5.heap[w4.heap.size]? = some (.cells (rcs ⟨pk, ⟨psrc, pdst, pproto, psport, pdport⟩, pfb, 0, 0, pgen, pbs, pbe, pun, pct⟩ a4 c4) 29 (0, 0)) := hW5 ▸ heap_alloc_new w4 _
  have hZ5 : W5.heap[W1.heap.size]? = some (.cells (rcs zeroR none 0) 29 (0, 0)) := hW5 ▸ HG4.out _
  have hO5 := HO.out.still t5
  have hT5 := HT4.out.trans t5 (fun _ _ h => h)
  have hA5 : ∀ g, a4 = some ⟨g, 0, none⟩ → g < w4.heap.size := fun g h => (HO.out.row.2.2 _ h).2
  simp only [rcs] at hW5
  rw [hW5]
  go_loopw [26] (fun i wr => ∃ k : Nat, k ≤ pbs.length ∧ i = .int .i64 k ∧ InL w W1 w4 ⟨pk, ⟨psrc, pdst, pproto, psport, pdport⟩, pfb, 0, 0, pgen, pbs, pbe, pun, pct⟩ a4 c4 W2.heap.size k wr) (fun i _ => pbs.length - (intOf i).toNat)
  case atStart => exact ⟨0, Nat.zero_le _, rfl, hB5, hZ5, by rw [halfK_zero]; exact hO5, hT5, hA5⟩
  case round =>
    clear hB5 hZ5 hO5 hT5 hA5 t5 hW5 HO HT4 HG4 HG2 HT
    obtain ⟨k, hk, rfl, hb, hz, ho, ht, ha⟩ := hrel
    have HA := Lib.hid ha
    have HB := Lib.hid hb
    have HZ := Lib.hid hz
    have HO := Lib.hid ho
    have HT := Lib.hid ht
    simp only at HO
    clear hb hz ho ht ha
    obtain ⟨k0, k1, k2, k3, k4, k5, k6, k7, k8, k9, k10, k11, k12, k13⟩ := rcells_of HB.out
    simp only at k0 k1 k2 k3 k4 k5 k6 k7 k8 k9 k10 k11 k12 k13
    by_cases hlt : k < pbs.length
    case neg =>
      obtain rfl : pbs.length = k := by omega
      have hlt' : ¬ (pbs.length : Int) < pbs.length := by omega
      go_wp2_with (first
        | (refine wpList_load_row rfl 29 (.tmp 5) rfl w4.heap.size rfl _ _ _ _ HB.out Try.underlying29 rfl HIR.out ?_)
        | (refine store_row rfl 29 (.tmp 4) (.tmp 35) rfl W1.heap.size _ rfl rfl _ _ HZ.out HIR.out rfl (rcs_all _ _ _) ?_))
      rw [HP.out]
      have n1 := HSZ.out
      have n2 := HSZ2.out
      have n3 := HS4.out
      have tS := fun (R : Array Value) => (Touch.refl wr (fun k => k = W1.heap.size)).setRow W1.heap.size R (fun _ => rfl)
      refine ret_row rfl rfl W1.heap.size 29 (rcs ⟨pk, ⟨psrc, pdst, pproto, psport, pdport⟩, pfb, 0, 0, pgen, pbs, pbe, pun, pct⟩ a4 c4) (0, 0) _ rfl (setRow_heap _ _ _ _ _ _ HZ.out) Try.underlying29 rfl infoRec ?_
      have ho := HO.out
      rw [halfK_all] at ho
      refine ⟨a4, c4, by simp only [rcs, List.length_map], ?_, HT.out.trans (tS _) (fun k h1 h2 => by omega)⟩
      simp only [List.length_map]
      exact (ho.touch (tS _) (fun x hx h => by have h1 : W2.heap.size ≤ x := ((OwnS.own ho).lt x hx).1; omega)).rebase (fun x hx => by have h1 : W2.heap.size ≤ x := ((OwnS.own ho).lt x hx).1; omega)
    case pos =>
      obtain ⟨g, rfl, hge⟩ := HO.out.addr (by omega)
      have hrow := HO.out.row.2.1
      have hcap := hrow.hmax
      have hcap1 := hrow.hcap
      have hkh : k < (halfK pbs k).length := by rw [halfK_len]; exact hlt
      obtain ⟨c0, c1, c2⟩ := RowK.cells hrow k hkh
      have hfr : wr.frozen? ⟨g, k * 3 + 2, none⟩ = false := OwnS.free HO.out _
      simp only [Nat.zero_add] at c2
      have i1 : (k : Int) < pbs.length := by omega
      have hnew := HO.out.w1 k hkh
      rw [halfK_step] at hnew
      have HN := Lib.hid hnew
      have HGE := Lib.hid hge
      have tS := (Touch.refl wr (fun k => k = g)).setCell ⟨g, k * 3 + 2, none⟩ (.int .i64 1) (fun _ => rfl)
      have n1 := HSZ.out
      have n2 := HSZ2.out
      have n3 := HS4.out
      have HNW : RowKit.Hid (w4.heap.size ≠ g) := Lib.hid (fun e => by have := HA.out g rfl; omega)
      clear hrow c0 c1 hnew hge n1 n2 n3
      generalize (halfK pbs k)[k] = f at *
      go_wp2
      go_roundw
      case rel =>
        have n1 := HSZ.out
        have n2 := HSZ2.out
        have n4 := HGE.out
        exact ⟨k + 1, hlt, by go_num, tS.keeps HB.out HNW.out, tS.keeps HZ.out (fun h => by omega), HN.out, HT.out.setCell _ _ (fun h => absurd h (by simp only; omega)), HA.out⟩
      case measure => simp [intOf]; omega

set_option maxRecDepth 20000 in
set_option maxHeartbeats 8000000 in
theorem in_v2 (r : RecD) (a : Option Addr) (cap : Nat) (w : World) (hr : RowK w a r.bs.length cap r.bs) (hl : r.bs.length ≤ 100000) :
    Calls Try.prog 22 #[.agg (rcs r a cap), .int .i64 2] w fun e w' => RecIs w w' (inD r 2) e := by
  obtain ⟨W1, hW1⟩ : ∃ W, w.alloc (.cells (rcs r a cap) 29) = W := ⟨_, rfl⟩
  obtain ⟨W2, hW2⟩ : ∃ W, W1.alloc (.cells #[.int .i64 0, .int .u32 0, .int .u32 0, .int .i64 0, .int .i64 0, .int .i64 0, .int .i64 0, .int .i64 0, .int .i64 0, .int .i64 0, .slice none 0 0, .int .i64 0, .int .i64 0, .int .i64 0] 29) = W := ⟨_, rfl⟩
  have t1 : Touch w W1 (fun _ => False) := hW1 ▸ (Touch.refl _ _).alloc _
  have t2 : Touch W1 W2 (fun _ => False) := hW2 ▸ (Touch.refl _ _).alloc _
  have hg1 : W1.heap[w.heap.size]? = some (.cells (rcs r a cap) 29 (0, 0)) := hW1 ▸ heap_alloc_new w _
  have hg2 : W2.heap[W1.heap.size]? = some (.cells (rcs zeroR none 0) 29 (0, 0)) := hW2 ▸ heap_alloc_new W1 _
  have HSZ : RowKit.Hid (w.heap.size < W1.heap.size) := Lib.hid (heap_lt hg1)
  have HSZ2 : RowKit.Hid (W1.heap.size < W2.heap.size) := Lib.hid (heap_lt hg2)
  obtain ⟨p, hp⟩ : ∃ p, plainD r = p := ⟨_, rfl⟩
  have HC : RowKit.Hid (Calls Try.prog 15 #[.agg (rcs r a cap)] W2 fun e w' => RecIs W2 w' p e) := Lib.hid (hp ▸ plain_any r a cap W2 ((hr.still t1).still t2) hl)
  have HP : RowKit.Hid (inD r 2 = ⟨p.kind, p.t, p.fb, p.fg, 0, p.gen, p.bs, p.be, p.un, p.ct⟩) := Lib.hid (by rw [← hp]; unfold inD; rw [if_pos (by decide)]; simp)
  generalize inD r 2 = q at *
  have HG1 := Lib.hid (t2.keeps hg1 (fun h => h))
  have HG2 := Lib.hid hg2
  have HT := Lib.hid (t1.trans t2 (fun _ _ h => h))
  have HIR := Lib.hid infoRec
  have HV : RowKit.Hid (∀ w, Calls Try.prog 50 #[.int .i64 2] w fun e w' => e = .returned (.bool true) ∧ w = w') := Lib.hid (fun w => (isVersion_any 2 w).mono fun e w' h => ⟨h.1, h.2.symm⟩)
  clear hr hl hp hg1 hg2 t1 t2
  simp only [rcs] at hW1
  simp only [rcs]
  go_enter Try.func22, Try.ntmps22
  go_wp2_with (first
    | (go_at_call 50; (with_reducible refine (HV.out _).mono ?_); rintro e w' ⟨rfl, rfl⟩)
    | (refine wpList_load_row rfl 29 (.tmp 2) rfl w.heap.size rfl _ _ _ _ HG1.out Try.underlying29 rfl HIR.out ?_)
    | (go_at_call 15; refine HC.out.mono ?_; rintro e w4 ⟨a4, c4, rfl, ho4, t4⟩; have HG4 : RowKit.Hid (∀ B, (w4.alloc B).heap[W1.heap.size]? = some (.cells (rcs zeroR none 0) 29 (0, 0))) := Lib.hid (fun B => (((Touch.refl w4 (fun _ => False)).alloc B).keeps (t4.keeps HG2.out (fun h => h)) (fun h => h))); have HO := Lib.hid ho4; have HT4 := Lib.hid (HT.out.trans t4 (fun _ _ h => h)); have HS4 := Lib.hid t4.size; clear ho4 t4 HC HV HG1; obtain ⟨pk, ⟨psrc, pdst, pproto, psport, pdport⟩, pfb, pfg, pfs, pgen, pbs, pbe, pun, pct⟩ := p; simp only at HO HP; simp only [rcs])
    | (refine store_row rfl 29 (.tmp 4) (.tmp 35) rfl W1.heap.size _ rfl rfl _ _ (HG4.out _) HIR.out rfl rfl ?_))
  rw [HP.out]
  have n1 := HSZ.out
  have n2 := HSZ2.out
  have n3 := HS4.out
  have tS := fun (B : Obj) (R : Array Value) => ((Touch.refl w4 (fun k => k = W1.heap.size)).alloc B).setRow W1.heap.size R (fun _ => rfl)
  refine ret_row rfl rfl W1.heap.size 29 (rcs ⟨pk, ⟨psrc, pdst, pproto, psport, pdport⟩, pfb, pfg, 0, pgen, pbs, pbe, pun, pct⟩ a4 c4) (0, 0) _ rfl (setRow_heap _ _ _ _ _ _ (HG4.out _)) Try.underlying29 rfl infoRec ?_
  refine ⟨a4, c4, rfl, ?_, HT4.out.trans (tS _ _) (fun k h1 h2 => by omega)⟩
  exact (HO.out.touch (tS _ _) (fun x hx h => by have h1 : W2.heap.size ≤ x := ((OwnS.own HO.out).lt x hx).1; omega)).rebase (fun x hx => by have h1 : W2.heap.size ≤ x := ((OwnS.own HO.out).lt x hx).1; omega)

set_option maxRecDepth 20000 in
set_option maxHeartbeats 8000000 in
theorem in_v3 (r : RecD) (a : Option Addr) (cap : Nat) (w : World) (hr : RowK w a r.bs.length cap r.bs) (hl : r.bs.length ≤ 100000) :
    Calls Try.prog 22 #[.agg (rcs r a cap), .int .i64 3] w fun e w' => RecIs w w' (inD r 3) e := by
  obtain ⟨W1, hW1⟩ : ∃ W, w.alloc (.cells (rcs r a cap) 29) = W := ⟨_, rfl⟩
  obtain ⟨W2, hW2⟩ : ∃ W, W1.alloc (.cells #[.int .i64 0, .int .u32 0, .int .u32 0, .int .i64 0, .int .i64 0, .int .i64 0, .int .i64 0, .int .i64 0, .int .i64 0, .int .i64 0, .slice none 0 0, .int .i64 0, .int .i64 0, .int .i64 0] 29) = W := ⟨_, rfl⟩
  have t1 : Touch w W1 (fun _ => False) := hW1 ▸ (Touch.refl _ _).alloc _
  have t2 : Touch W1 W2 (fun _ => False) := hW2 ▸ (Touch.refl _ _).alloc _
  have hg1 : W1.heap[w.heap.size]? = some (.cells (rcs r a cap) 29 (0, 0)) := hW1 ▸ heap_alloc_new w _
  have hg2 : W2.heap[W1.heap.size]? = some (.cells (rcs zeroR none 0) 29 (0, 0)) := hW2 ▸ heap_alloc_new W1 _
  have HSZ : RowKit.Hid (w.heap.size < W1.heap.size) := Lib.hid (heap_lt hg1)
  have HSZ2 : RowKit.Hid (W1.heap.size < W2.heap.size) := Lib.hid (heap_lt hg2)
  obtain ⟨p, hp⟩ : ∃ p, plainD r = p := ⟨_, rfl⟩
  have HC : RowKit.Hid (Calls Try.prog 15 #[.agg (rcs r a cap)] W2 fun e w' => RecIs W2 w' p e) := Lib.hid (hp ▸ plain_any r a cap W2 ((hr.still t1).still t2) hl)
  have HP : RowKit.Hid (inD r 3 = ⟨p.kind, p.t, p.fb, p.fg, p.fs, p.gen, p.bs, p.be, p.un, p.ct⟩) := Lib.hid (by rw [← hp]; unfold inD; rw [if_pos (by decide)]; simp)
  generalize inD r 3 = q at *
  have HG1 := Lib.hid (t2.keeps hg1 (fun h => h))
  have HG2 := Lib.hid hg2
  have HT := Lib.hid (t1.trans t2 (fun _ _ h => h))
  have HIR := Lib.hid infoRec
  have HV : RowKit.Hid (∀ w, Calls Try.prog 50 #[.int .i64 3] w fun e w' => e = .returned (.bool true) ∧ w = w') := Lib.hid (fun w => (isVersion_any 3 w).mono fun e w' h => ⟨h.1, h.2.symm⟩)
  clear hr hl hp hg1 hg2 t1 t2
  simp only [rcs] at hW1
  simp only [rcs]
  go_enter Try.func22, Try.ntmps22
  go_wp2_with (first
    | (go_at_call 50; (with_reducible refine (HV.out _).mono ?_); rintro e w' ⟨rfl, rfl⟩)
    | (refine wpList_load_row rfl 29 (.tmp 2) rfl w.heap.size rfl _ _ _ _ HG1.out Try.underlying29 rfl HIR.out ?_)
    | (go_at_call 15; refine HC.out.mono ?_; rintro e w4 ⟨a4, c4, rfl, ho4, t4⟩; have HG4 : RowKit.Hid (∀ B, (w4.alloc B).heap[W1.heap.size]? = some (.cells (rcs zeroR none 0) 29 (0, 0))) := Lib.hid (fun B => (((Touch.refl w4 (fun _ => False)).alloc B).keeps (t4.keeps HG2.out (fun h => h)) (fun h => h))); have HO := Lib.hid ho4; have HT4 := Lib.hid (HT.out.trans t4 (fun _ _ h => h)); have HS4 := Lib.hid t4.size; clear ho4 t4 HC HV HG1; obtain ⟨pk, ⟨psrc, pdst, pproto, psport, pdport⟩, pfb, pfg, pfs, pgen, pbs, pbe, pun, pct⟩ := p; simp only at HO HP; simp only [rcs])
    | (refine store_row rfl 29 (.tmp 4) (.tmp 35) rfl W1.heap.size _ rfl rfl _ _ (HG4.out _) HIR.out rfl rfl ?_))
  rw [HP.out]
  have n1 := HSZ.out
  have n2 := HSZ2.out
  have n3 := HS4.out
  have tS := fun (B : Obj) (R : Array Value) => ((Touch.refl w4 (fun k => k = W1.heap.size)).alloc B).setRow W1.heap.size R (fun _ => rfl)
  refine ret_row rfl rfl W1.heap.size 29 (rcs ⟨pk, ⟨psrc, pdst, pproto, psport, pdport⟩, pfb, pfg, pfs, pgen, pbs, pbe, pun, pct⟩ a4 c4) (0, 0) _ rfl (setRow_heap _ _ _ _ _ _ (HG4.out _)) Try.underlying29 rfl infoRec ?_
  refine ⟨a4, c4, rfl, ?_, HT4.out.trans (tS _ _) (fun k h1 h2 => by omega)⟩
  exact (HO.out.touch (tS _ _) (fun x hx h => by have h1 : W2.heap.size ≤ x := ((OwnS.own HO.out).lt x hx).1; omega)).rebase (fun x hx => by have h1 : W2.heap.size ≤ x := ((OwnS.own HO.out).lt x hx).1; omega)

theorem verB_cases (v : Int) (h : verB v = true) : v = 1 ∨ v = 2 ∨ v = 3 := by have := (verB_iff v).1 h; omega
theorem in_any (r : RecD) (a : Option Addr) (cap : Nat) (v : Int) (w : World) (hr : RowK w a r.bs.length cap r.bs) (hl : r.bs.length ≤ 100000) :
    Calls Try.prog 22 #[.agg (rcs r a cap), .int .i64 v] w fun e w' => RecIs w w' (inD r v) e := by
  cases h : verB v with
  | false => exact in_bad r a cap v w h
  | true =>
    rcases verB_cases v h with rfl | rfl | rfl
    · exact in_v1 r a cap w hr hl
    · exact in_v2 r a cap w hr hl
    · exact in_v3 r a cap w hr hl
end Go.Proofs.Ytbklngcocbnijaa
