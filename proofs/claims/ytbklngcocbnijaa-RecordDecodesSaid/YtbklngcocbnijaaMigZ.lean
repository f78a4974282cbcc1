/- Migration: what package migrate answers. -/
import Derived.Test.YtbklngcocbnijaaRecRInZ
import Derived.Test.YtbklngcocbnijaaRecMayZ
import Derived.Deep.RegionHeld3
import Derived.Laws.EntriesVeiled
set_option linter.unusedVariables false
set_option linter.unusedSimpArgs false
namespace Go.Proofs.Ytbklngcocbnijaa
open Go.RowKit

def leadB (f t : Int) : Bool := decide (1 ≤ f ∧ f ≤ t ∧ t ≤ 3)
theorem leadB_iff (f t : Int) : leadB f t = true ↔ (1 ≤ f ∧ f ≤ t ∧ t ≤ 3) := by unfold leadB; exact decide_eq_true_iff
set_option maxHeartbeats 1000000
theorem leads_any (f t : Int) (w : World) :
    Calls Try.prog 68 #[.int .i64 f, .int .i64 t] w fun e w' => e = .returned (.bool (leadB f t)) ∧ w = w' := by
  have HM := Lib.hid (leadB_iff f t)
  generalize leadB f t = m at *
  go_enter Try.func68, Try.ntmps68
  go_wp2
  all_goals (go_ret; refine ⟨ret_bool ?_, rfl⟩; rw [Bool.eq_iff_iff, HM.out]; clear HM; (first | (simp_all; done) | (simp_all; omega)))
def stepsN (f t : Int) : Int := if leadB f t = true then t - f else 0
theorem steps_any (f t : Int) (w : World) :
    Calls Try.prog 33 #[.int .i64 f, .int .i64 t] w fun e w' => e = .returned (.int .i64 (stepsN f t)) ∧ w = w' := by
  cases h : leadB f t with
  | false =>
    have HQ : RowKit.Hid (stepsN f t = 0) := Lib.hid (by unfold stepsN; rw [h]; rfl)
    have HC : RowKit.Hid (Calls Try.prog 68 #[.int .i64 f, .int .i64 t] w fun e w' => e = .returned (.bool false) ∧ w = w') := Lib.hid (h ▸ leads_any f t w)
    clear h
    go_enter Try.func33, Try.ntmps33
    go_wp2_with (go_at_call 68; (with_reducible refine HC.out.mono ?_); rintro e w' ⟨rfl, rfl⟩)
    go_ret
    exact ⟨by rw [HQ.out]; rfl, rfl⟩
  | true =>
    have hl := (leadB_iff f t).1 h
    have HQ : RowKit.Hid (stepsN f t = t - f) := Lib.hid (by unfold stepsN; rw [if_pos h])
    have HC : RowKit.Hid (Calls Try.prog 68 #[.int .i64 f, .int .i64 t] w fun e w' => e = .returned (.bool true) ∧ w = w') := Lib.hid (h ▸ leads_any f t w)
    clear h
    obtain ⟨l1, l2, l3⟩ := hl
    go_enter Try.func33, Try.ntmps33
    go_wp2_with (go_at_call 68; (with_reducible refine HC.out.mono ?_); rintro e w' ⟨rfl, rfl⟩)
    go_ret
    exact ⟨by rw [HQ.out]; rfl, rfl⟩

def gen1 (q : RecD) : RecD := if q.kind = 1 then ⟨q.kind, q.t, q.fb, 1, q.fs, q.gen, q.bs, q.be, q.un, q.ct⟩ else q
def seen0 (q : RecD) : RecD := if q.kind = 1 then ⟨q.kind, q.t, q.fb, q.fg, 0, q.gen, q.bs, q.be, q.un, q.ct⟩ else q
theorem gen1_bs (q : RecD) : (gen1 q).bs = q.bs := by unfold gen1; split <;> rfl
theorem seen0_bs (q : RecD) : (seen0 q).bs = q.bs := by unfold seen0; split <;> rfl

set_option maxRecDepth 20000 in
theorem gen1_any (q : RecD) (a : Option Addr) (c : Nat) (D : Nat) (T : TypeId) (w : World) (hD : w.heap[D]? = some (.cells (rcs q a c) T (0, 0))) :
    Calls Try.prog 100 #[.pointer (some ⟨D, 0, none⟩)] w fun e w' => e = .returned (.tuple #[]) ∧ w'.heap[D]? = some (.cells (rcs (gen1 q) a c) T (0, 0)) ∧ Touch w w' (fun k => k = D) := by
  have k0 : w.cell? ⟨D, 0, none⟩ = some (.int .i64 q.kind) := cell_of_cells hD 0
  have k7 : w.cell? ⟨D, 7, none⟩ = some (.int .i64 q.fg) := cell_of_cells hD 7
  have hf := free_of_cells hD 7
  have HS : RowKit.Hid ((w.setCell ⟨D, 7, none⟩ (.int .i64 1)).heap[D]? = some (.cells ((rcs q a c).setIfInBounds 7 (.int .i64 1)) T (0, 0))) := Lib.hid (heap_setCell_same w D 7 _ _ (.int .i64 1) hD)
  have HT : RowKit.Hid (Touch w (w.setCell ⟨D, 7, none⟩ (.int .i64 1)) (fun k => k = D)) := Lib.hid ((Touch.refl w _).into 7 _)
  have HD := Lib.hid hD
  by_cases hk : q.kind = 1
  · have HQ : RowKit.Hid ((rcs q a c).setIfInBounds 7 (.int .i64 1) = rcs (gen1 q) a c) := Lib.hid (by unfold gen1; rw [if_pos hk]; rfl)
    have hb : (q.kind == 1) = true := beq_iff_eq.2 hk
    clear hk hD
    go_enter Try.func100, Try.ntmps100
    go_wp2
    go_end0
    exact ⟨rfl, HQ.out ▸ HS.out, HT.out⟩
  · have HQ : RowKit.Hid (gen1 q = q) := Lib.hid (by unfold gen1; rw [if_neg hk])
    have hb : (q.kind == 1) = false := beq_eq_false_iff_ne.2 hk
    clear hk hD
    go_enter Try.func100, Try.ntmps100
    go_wp2
    go_end0
    exact ⟨rfl, by rw [HQ.out]; exact HD.out, Touch.refl _ _⟩

set_option maxRecDepth 20000 in
theorem seen0_any (q : RecD) (a : Option Addr) (c : Nat) (D : Nat) (T : TypeId) (w : World) (hD : w.heap[D]? = some (.cells (rcs q a c) T (0, 0))) :
    Calls Try.prog 101 #[.pointer (some ⟨D, 0, none⟩)] w fun e w' => e = .returned (.tuple #[]) ∧ w'.heap[D]? = some (.cells (rcs (seen0 q) a c) T (0, 0)) ∧ Touch w w' (fun k => k = D) := by
  have k0 : w.cell? ⟨D, 0, none⟩ = some (.int .i64 q.kind) := cell_of_cells hD 0
  have k7 : w.cell? ⟨D, 8, none⟩ = some (.int .i64 q.fs) := cell_of_cells hD 8
  have hf := free_of_cells hD 8
  have HS : RowKit.Hid ((w.setCell ⟨D, 8, none⟩ (.int .i64 0)).heap[D]? = some (.cells ((rcs q a c).setIfInBounds 8 (.int .i64 0)) T (0, 0))) := Lib.hid (heap_setCell_same w D 8 _ _ (.int .i64 0) hD)
  have HT : RowKit.Hid (Touch w (w.setCell ⟨D, 8, none⟩ (.int .i64 0)) (fun k => k = D)) := Lib.hid ((Touch.refl w _).into 8 _)
  have HD := Lib.hid hD
  by_cases hk : q.kind = 1
  · have HQ : RowKit.Hid ((rcs q a c).setIfInBounds 8 (.int .i64 0) = rcs (seen0 q) a c) := Lib.hid (by unfold seen0; rw [if_pos hk]; rfl)
    have hb : (q.kind == 1) = true := beq_iff_eq.2 hk
    clear hk hD
    go_enter Try.func101, Try.ntmps101
    go_wp2
    go_end0
    exact ⟨rfl, HQ.out ▸ HS.out, HT.out⟩
  · have HQ : RowKit.Hid (seen0 q = q) := Lib.hid (by unfold seen0; rw [if_neg hk])
    have hb : (q.kind == 1) = false := beq_eq_false_iff_ne.2 hk
    clear hk hD
    go_enter Try.func101, Try.ntmps101
    go_wp2
    go_end0
    exact ⟨rfl, by rw [HQ.out]; exact HD.out, Touch.refl _ _⟩

theorem infoSt : (Try.prog.info? 116).map (·.size) = some 2 := by kernel_rfl
theorem stepsT_any (w : World) :
    Calls Try.prog 88 #[] w fun e w' => e = .returned (.agg #[.func (.func 100) #[] #[], .func (.func 101) #[] #[]]) ∧ Touch w w' (fun _ => False) := by
  go_enter Try.func88, Try.ntmps88
  go_wp2
  refine ret_row rfl rfl w.heap.size 116 _ (0, 0) _ rfl (heap_alloc_new w _) Try.underlying116 rfl infoSt ?_
  exact ⟨rfl, (Touch.refl _ _).alloc _⟩
/-- At the head of the loop over the steps. -/
def MovAt (w W1 w4 w5 : World) (base : Nat) (bs : List BkD) (p : RecD) (a4 : Option Addr) (c4 : Nat) (wr : World) : Prop :=
  wr.heap[w4.heap.size]? = some (.cells (rcs p a4 c4) 114 (0, 0)) ∧ wr.heap[w5.heap.size]? = some (.cells #[.func (.func 100) #[] #[], .func (.func 101) #[] #[]] 116 (0, 0)) ∧
  wr.heap[W1.heap.size]? = some (.cells (rcs zeroR none 0) 29 (0, 0)) ∧ OwnK wr base (.slice a4 bs.length c4) bs ∧ Touch w wr (fun _ => False)
/-- A record on its way. -/
def movD (r : RecD) (f t : Int) : RecD :=
  if f = 1 ∧ t = 2 then gen1 (inD r f) else if f = 1 ∧ t = 3 then seen0 (gen1 (inD r f)) else if f = 2 ∧ t = 3 then seen0 (inD r f) else inD r f

set_option maxRecDepth 20000 in
set_option maxHeartbeats 8000000 in
theorem moved_11 (r : RecD) (a : Option Addr) (cap : Nat) (w : World) (hr : RowK w a r.bs.length cap r.bs) (hl : r.bs.length ≤ 100000) :
    Calls Try.prog 69 #[.agg (rcs r a cap), .int .i64 1, .int .i64 1] w fun e w' => RecIs w w' (movD r 1 1) e := by
  obtain ⟨q, hq⟩ : ∃ q, inD r 1 = q := ⟨_, rfl⟩
  have HMV : RowKit.Hid (movD r 1 1 = q) := Lib.hid (by unfold movD; rw [hq]; simp)
  obtain ⟨W1, hW1⟩ : ∃ W, w.alloc (.cells (rcs r a cap) 29) = W := ⟨_, rfl⟩
  obtain ⟨W2, hW2⟩ : ∃ W, W1.alloc (.cells #[.int .i64 0, .int .u32 0, .int .u32 0, .int .i64 0, .int .i64 0, .int .i64 0, .int .i64 0, .int .i64 0, .int .i64 0, .int .i64 0, .slice none 0 0, .int .i64 0, .int .i64 0, .int .i64 0] 29) = W := ⟨_, rfl⟩
  have t1 : Touch w W1 (fun _ => False) := hW1 ▸ (Touch.refl _ _).alloc _
  have t2 : Touch W1 W2 (fun _ => False) := hW2 ▸ (Touch.refl _ _).alloc _
  have hg1 : W1.heap[w.heap.size]? = some (.cells (rcs r a cap) 29 (0, 0)) := hW1 ▸ heap_alloc_new w _
  have hg2 : W2.heap[W1.heap.size]? = some (.cells (rcs zeroR none 0) 29 (0, 0)) := hW2 ▸ heap_alloc_new W1 _
  have HSZ : RowKit.Hid (w.heap.size < W1.heap.size) := Lib.hid (heap_lt hg1)
  have HSZ2 : RowKit.Hid (W1.heap.size < W2.heap.size) := Lib.hid (heap_lt hg2)
  have HC : RowKit.Hid (Calls Try.prog 22 #[.agg (rcs r a cap), .int .i64 1] W2 fun e w' => RecIs W2 w' q e) := Lib.hid (hq ▸ in_any r a cap 1 W2 ((hr.still t1).still t2) hl)
  have HG1 := Lib.hid (t2.keeps hg1 (fun h => h))
  have HZ := Lib.hid hg2
  have HT := Lib.hid (t1.trans t2 (fun _ _ h => h))
  have HIR := Lib.hid infoRec
  generalize movD r 1 1 = mv at *
  clear hr hl hq hg1 hg2 t1 t2
  simp only [rcs] at hW1
  simp only [rcs]
  go_enter Try.func69, Try.ntmps69
  go_wp2_with (first
    | (refine wpList_load_row rfl 29 (.tmp 3) rfl w.heap.size rfl _ _ _ _ HG1.out Try.underlying29 rfl HIR.out ?_)
    | (go_at_call 22; refine HC.out.mono ?_; rintro e w4 ⟨a4, c4, rfl, ho4, t4⟩; have HZ := Lib.hid (t4.keeps HZ.out (fun h => h)); have HO := Lib.hid ho4; have HT := Lib.hid (HT.out.trans t4 (fun _ _ h => h)); have HS4 := Lib.hid t4.size; clear ho4 t4; simp only [rcs])
    | (go_at_call 88; (with_reducible refine (stepsT_any _).mono ?_); rintro e w5 ⟨rfl, t5⟩))
  have td := (Touch.refl w4 (fun _ => False)).alloc (.cells (rcs q a4 c4) 114)
  have tf := (Touch.refl w5 (fun _ => False)).alloc (.cells #[.func (.func 100) #[] #[], .func (.func 101) #[] #[]] 116)
  have tu : Touch w4 (w5.alloc (.cells #[.func (.func 100) #[] #[], .func (.func 101) #[] #[]] 116)) (fun _ => False) := (td.trans t5 (fun _ _ h => h)).trans tf (fun _ _ h => h)
  have hD5 : w5.heap[w4.heap.size]? = some (.cells (rcs q a4 c4) 114 (0, 0)) := t5.keeps (heap_alloc_new w4 _) (fun h => h)
  have hDT := heap_lt hD5
  have hB := tf.keeps hD5 (fun h => h)
  have hTb := heap_alloc_new w5 (.cells #[.func (.func 100) #[] #[], .func (.func 101) #[] #[]] 116 (0, 0))
  have hZ := tu.keeps HZ.out (fun h => h)
  have hO := HO.out.still tu
  have hT := HT.out.trans tu (fun _ _ h => h)
  have HOL : RowKit.Hid (∀ x, (Value.slice a4 q.bs.length c4).ownBlock = some x → x < w4.heap.size) := Lib.hid (fun x hx => ((OwnS.own HO.out).lt x hx).2)
  have HDT := Lib.hid hDT
  clear td tf tu hD5 hDT HO HT HZ t5 HC HG1
  go_loopw [22] (fun i wr => ∃ k : Nat, k ≤ 0 ∧ i = .int .i64 k ∧ MovAt w W1 w4 w5 W2.heap.size q.bs (if k = 0 then q else if k = 1 then gen1 q else seen0 (gen1 q)) a4 c4 wr) (fun i _ => 0 - (intOf i).toNat)
  case atStart => exact ⟨0, Nat.zero_le _, rfl, hB, hTb, hZ, hO, hT⟩
  case round =>
    clear hB hTb hZ hO hT
    obtain ⟨k, hk, rfl, hb, htb, hz, ho, ht⟩ := hrel
    have hkk : k = 0 := by omega
    obtain rfl : k = 0 := by omega
    · simp only [if_true, reduceIte] at hb
      simp only [Int.natCast_zero]
      have HB := Lib.hid hb
      have HTB := Lib.hid htb
      have HZ := Lib.hid hz
      have HO := Lib.hid ho
      have HT := Lib.hid ht
      clear hb htb hz ho ht
      have j0 : wr.cell? ⟨w5.heap.size, 0, none⟩ = some (.func (.func 100) #[] #[]) := cell_of_cells HTB.out 0
      have j1 : wr.cell? ⟨w5.heap.size, 1, none⟩ = some (.func (.func 101) #[] #[]) := cell_of_cells HTB.out 1
      go_wp2_with (first
        | (refine wpList_load_row rfl 29 (.tmp 29) rfl w4.heap.size rfl _ _ _ _ HB.out Try.underlying29 rfl HIR.out ?_)
        | (refine store_row rfl 29 (.tmp 6) (.tmp 30) rfl W1.heap.size _ rfl rfl _ _ HZ.out HIR.out rfl (rcs_all _ _ _) ?_))
      rw [HMV.out]
      have n1 := HSZ.out
      have n2 := HSZ2.out
      exact rin_end (q) q.bs rfl rfl rfl HZ.out (HO.out) (rfl) HT.out (by omega) (by omega) (by omega) _ rfl


set_option maxRecDepth 20000 in
set_option maxHeartbeats 8000000 in
theorem moved_12 (r : RecD) (a : Option Addr) (cap : Nat) (w : World) (hr : RowK w a r.bs.length cap r.bs) (hl : r.bs.length ≤ 100000) :
    Calls Try.prog 69 #[.agg (rcs r a cap), .int .i64 1, .int .i64 2] w fun e w' => RecIs w w' (movD r 1 2) e := by
  obtain ⟨q, hq⟩ : ∃ q, inD r 1 = q := ⟨_, rfl⟩
  have HMV : RowKit.Hid (movD r 1 2 = gen1 q) := Lib.hid (by unfold movD; rw [hq]; simp)
  obtain ⟨W1, hW1⟩ : ∃ W, w.alloc (.cells (rcs r a cap) 29) = W := ⟨_, rfl⟩
  obtain ⟨W2, hW2⟩ : ∃ W, W1.alloc (.cells #[.int .i64 0, .int .u32 0, .int .u32 0, .int .i64 0, .int .i64 0, .int .i64 0, .int .i64 0, .int .i64 0, .int .i64 0, .int .i64 0, .slice none 0 0, .int .i64 0, .int .i64 0, .int .i64 0] 29) = W := ⟨_, rfl⟩
  have t1 : Touch w W1 (fun _ => False) := hW1 ▸ (Touch.refl _ _).alloc _
  have t2 : Touch W1 W2 (fun _ => False) := hW2 ▸ (Touch.refl _ _).alloc _
  have hg1 : W1.heap[w.heap.size]? = some (.cells (rcs r a cap) 29 (0, 0)) := hW1 ▸ heap_alloc_new w _
  have hg2 : W2.heap[W1.heap.size]? = some (.cells (rcs zeroR none 0) 29 (0, 0)) := hW2 ▸ heap_alloc_new W1 _
  have HSZ : RowKit.Hid (w.heap.size < W1.heap.size) := Lib.hid (heap_lt hg1)
  have HSZ2 : RowKit.Hid (W1.heap.size < W2.heap.size) := Lib.hid (heap_lt hg2)
  have HC : RowKit.Hid (Calls Try.prog 22 #[.agg (rcs r a cap), .int .i64 1] W2 fun e w' => RecIs W2 w' q e) := Lib.hid (hq ▸ in_any r a cap 1 W2 ((hr.still t1).still t2) hl)
  have HG1 := Lib.hid (t2.keeps hg1 (fun h => h))
  have HZ := Lib.hid hg2
  have HT := Lib.hid (t1.trans t2 (fun _ _ h => h))
  have HIR := Lib.hid infoRec
  generalize movD r 1 2 = mv at *
  clear hr hl hq hg1 hg2 t1 t2
  simp only [rcs] at hW1
  simp only [rcs]
  go_enter Try.func69, Try.ntmps69
  go_wp2_with (first
    | (refine wpList_load_row rfl 29 (.tmp 3) rfl w.heap.size rfl _ _ _ _ HG1.out Try.underlying29 rfl HIR.out ?_)
    | (go_at_call 22; refine HC.out.mono ?_; rintro e w4 ⟨a4, c4, rfl, ho4, t4⟩; have HZ := Lib.hid (t4.keeps HZ.out (fun h => h)); have HO := Lib.hid ho4; have HT := Lib.hid (HT.out.trans t4 (fun _ _ h => h)); have HS4 := Lib.hid t4.size; clear ho4 t4; simp only [rcs])
    | (go_at_call 88; (with_reducible refine (stepsT_any _).mono ?_); rintro e w5 ⟨rfl, t5⟩))
  have td := (Touch.refl w4 (fun _ => False)).alloc (.cells (rcs q a4 c4) 114)
  have tf := (Touch.refl w5 (fun _ => False)).alloc (.cells #[.func (.func 100) #[] #[], .func (.func 101) #[] #[]] 116)
  have tu : Touch w4 (w5.alloc (.cells #[.func (.func 100) #[] #[], .func (.func 101) #[] #[]] 116)) (fun _ => False) := (td.trans t5 (fun _ _ h => h)).trans tf (fun _ _ h => h)
  have hD5 : w5.heap[w4.heap.size]? = some (.cells (rcs q a4 c4) 114 (0, 0)) := t5.keeps (heap_alloc_new w4 _) (fun h => h)
  have hDT := heap_lt hD5
  have hB := tf.keeps hD5 (fun h => h)
  have hTb := heap_alloc_new w5 (.cells #[.func (.func 100) #[] #[], .func (.func 101) #[] #[]] 116 (0, 0))
  have hZ := tu.keeps HZ.out (fun h => h)
  have hO := HO.out.still tu
  have hT := HT.out.trans tu (fun _ _ h => h)
  have HOL : RowKit.Hid (∀ x, (Value.slice a4 q.bs.length c4).ownBlock = some x → x < w4.heap.size) := Lib.hid (fun x hx => ((OwnS.own HO.out).lt x hx).2)
  have HDT := Lib.hid hDT
  clear td tf tu hD5 hDT HO HT HZ t5 HC HG1
  go_loopw [22] (fun i wr => ∃ k : Nat, k ≤ 1 ∧ i = .int .i64 k ∧ MovAt w W1 w4 w5 W2.heap.size q.bs (if k = 0 then q else if k = 1 then gen1 q else seen0 (gen1 q)) a4 c4 wr) (fun i _ => 1 - (intOf i).toNat)
  case atStart => exact ⟨0, Nat.zero_le _, rfl, hB, hTb, hZ, hO, hT⟩
  case round =>
    clear hB hTb hZ hO hT
    obtain ⟨k, hk, rfl, hb, htb, hz, ho, ht⟩ := hrel
    have hkk : k = 0 ∨ k = 1 := by omega
    rcases hkk with rfl | rfl
    · simp only [if_true, reduceIte] at hb
      simp only [Int.natCast_zero]
      have HB := Lib.hid hb
      have HTB := Lib.hid htb
      have HZ := Lib.hid hz
      have HO := Lib.hid ho
      have HT := Lib.hid ht
      clear hb htb hz ho ht
      have j0 : wr.cell? ⟨w5.heap.size, 0, none⟩ = some (.func (.func 100) #[] #[]) := cell_of_cells HTB.out 0
      have j1 : wr.cell? ⟨w5.heap.size, 1, none⟩ = some (.func (.func 101) #[] #[]) := cell_of_cells HTB.out 1
      go_wp2_with (go_at_call 100; refine (gen1_any (q) a4 c4 w4.heap.size _ _ HB.out).mono ?_; rintro e w7 ⟨rfl, hb7, t7⟩)
      go_roundw
      case rel =>
        have n1 := HSZ.out
        have n2 := HSZ2.out
        have n3 := HDT.out
        have n4 := HS4.out
        exact ⟨1, by omega, rfl, hb7, t7.keeps HTB.out (fun h => by omega), t7.keeps HZ.out (fun h => by omega), HO.out.touch t7 (fun x hx h => by have := HOL.out x hx; omega), HT.out.trans t7 (fun k h1 h2 => by omega)⟩
      case measure => simp [intOf]
    · simp only [reduceIte, Nat.one_ne_zero] at hb
      simp only [Int.natCast_one]
      have HB := Lib.hid hb
      have HTB := Lib.hid htb
      have HZ := Lib.hid hz
      have HO := Lib.hid ho
      have HT := Lib.hid ht
      clear hb htb hz ho ht
      have j0 : wr.cell? ⟨w5.heap.size, 0, none⟩ = some (.func (.func 100) #[] #[]) := cell_of_cells HTB.out 0
      have j1 : wr.cell? ⟨w5.heap.size, 1, none⟩ = some (.func (.func 101) #[] #[]) := cell_of_cells HTB.out 1
      go_wp2_with (first
        | (refine wpList_load_row rfl 29 (.tmp 29) rfl w4.heap.size rfl _ _ _ _ HB.out Try.underlying29 rfl HIR.out ?_)
        | (refine store_row rfl 29 (.tmp 6) (.tmp 30) rfl W1.heap.size _ rfl rfl _ _ HZ.out HIR.out rfl (rcs_all _ _ _) ?_))
      rw [HMV.out]
      have n1 := HSZ.out
      have n2 := HSZ2.out
      exact rin_end (gen1 q) q.bs rfl rfl rfl HZ.out (by rw [gen1_bs]; exact HO.out) (by rw [gen1_bs]) HT.out (by omega) (by omega) (by omega) _ rfl


set_option maxRecDepth 20000 in
set_option maxHeartbeats 8000000 in
theorem moved_13 (r : RecD) (a : Option Addr) (cap : Nat) (w : World) (hr : RowK w a r.bs.length cap r.bs) (hl : r.bs.length ≤ 100000) :
    Calls Try.prog 69 #[.agg (rcs r a cap), .int .i64 1, .int .i64 3] w fun e w' => RecIs w w' (movD r 1 3) e := by
  obtain ⟨q, hq⟩ : ∃ q, inD r 1 = q := ⟨_, rfl⟩
  have HMV : RowKit.Hid (movD r 1 3 = seen0 (gen1 q)) := Lib.hid (by unfold movD; rw [hq]; simp)
  obtain ⟨W1, hW1⟩ : ∃ W, w.alloc (.cells (rcs r a cap) 29) = W := ⟨_, rfl⟩
  obtain ⟨W2, hW2⟩ : ∃ W, W1.alloc (.cells #[.int .i64 0, .int .u32 0, .int .u32 0, .int .i64 0, .int .i64 0, .int .i64 0, .int .i64 0, .int .i64 0, .int .i64 0, .int .i64 0, .slice none 0 0, .int .i64 0, .int .i64 0, .int .i64 0] 29) = W := ⟨_, rfl⟩
  have t1 : Touch w W1 (fun _ => False) := hW1 ▸ (Touch.refl _ _).alloc _
  have t2 : Touch W1 W2 (fun _ => False) := hW2 ▸ (Touch.refl _ _).alloc _
  have hg1 : W1.heap[w.heap.size]? = some (.cells (rcs r a cap) 29 (0, 0)) := hW1 ▸ heap_alloc_new w _
  have hg2 : W2.heap[W1.heap.size]? = some (.cells (rcs zeroR none 0) 29 (0, 0)) := hW2 ▸ heap_alloc_new W1 _
  have HSZ : RowKit.Hid (w.heap.size < W1.heap.size) := Lib.hid (heap_lt hg1)
  have HSZ2 : RowKit.Hid (W1.heap.size < W2.heap.size) := Lib.hid (heap_lt hg2)
  have HC : RowKit.Hid (Calls Try.prog 22 #[.agg (rcs r a cap), .int .i64 1] W2 fun e w' => RecIs W2 w' q e) := Lib.hid (hq ▸ in_any r a cap 1 W2 ((hr.still t1).still t2) hl)
  have HG1 := Lib.hid (t2.keeps hg1 (fun h => h))
  have HZ := Lib.hid hg2
  have HT := Lib.hid (t1.trans t2 (fun _ _ h => h))
  have HIR := Lib.hid infoRec
  generalize movD r 1 3 = mv at *
  clear hr hl hq hg1 hg2 t1 t2
  simp only [rcs] at hW1
  simp only [rcs]
  go_enter Try.func69, Try.ntmps69
  go_wp2_with (first
    | (refine wpList_load_row rfl 29 (.tmp 3) rfl w.heap.size rfl _ _ _ _ HG1.out Try.underlying29 rfl HIR.out ?_)
    | (go_at_call 22; refine HC.out.mono ?_; rintro e w4 ⟨a4, c4, rfl, ho4, t4⟩; have HZ := Lib.hid (t4.keeps HZ.out (fun h => h)); have HO := Lib.hid ho4; have HT := Lib.hid (HT.out.trans t4 (fun _ _ h => h)); have HS4 := Lib.hid t4.size; clear ho4 t4; simp only [rcs])
    | (go_at_call 88; (with_reducible refine (stepsT_any _).mono ?_); rintro e w5 ⟨rfl, t5⟩))
  have td := (Touch.refl w4 (fun _ => False)).alloc (.cells (rcs q a4 c4) 114)
  have tf := (Touch.refl w5 (fun _ => False)).alloc (.cells #[.func (.func 100) #[] #[], .func (.func 101) #[] #[]] 116)
  have tu : Touch w4 (w5.alloc (.cells #[.func (.func 100) #[] #[], .func (.func 101) #[] #[]] 116)) (fun _ => False) := (td.trans t5 (fun _ _ h => h)).trans tf (fun _ _ h => h)
  have hD5 : w5.heap[w4.heap.size]? = some (.cells (rcs q a4 c4) 114 (0, 0)) := t5.keeps (heap_alloc_new w4 _) (fun h => h)
  have hDT := heap_lt hD5
  have hB := tf.keeps hD5 (fun h => h)
  have hTb := heap_alloc_new w5 (.cells #[.func (.func 100) #[] #[], .func (.func 101) #[] #[]] 116 (0, 0))
  have hZ := tu.keeps HZ.out (fun h => h)
  have hO := HO.out.still tu
  have hT := HT.out.trans tu (fun _ _ h => h)
  have HOL : RowKit.Hid (∀ x, (Value.slice a4 q.bs.length c4).ownBlock = some x → x < w4.heap.size) := Lib.hid (fun x hx => ((OwnS.own HO.out).lt x hx).2)
  have HDT := Lib.hid hDT
  clear td tf tu hD5 hDT HO HT HZ t5 HC HG1
  go_loopw [22] (fun i wr => ∃ k : Nat, k ≤ 2 ∧ i = .int .i64 k ∧ MovAt w W1 w4 w5 W2.heap.size q.bs (if k = 0 then q else if k = 1 then gen1 q else seen0 (gen1 q)) a4 c4 wr) (fun i _ => 2 - (intOf i).toNat)
  case atStart => exact ⟨0, Nat.zero_le _, rfl, hB, hTb, hZ, hO, hT⟩
  case round =>
    clear hB hTb hZ hO hT
    obtain ⟨k, hk, rfl, hb, htb, hz, ho, ht⟩ := hrel
    have hkk : k = 0 ∨ k = 1 ∨ k = 2 := by omega
    rcases hkk with rfl | rfl | rfl
    · simp only [if_true, reduceIte] at hb
      simp only [Int.natCast_zero]
      have HB := Lib.hid hb
      have HTB := Lib.hid htb
      have HZ := Lib.hid hz
      have HO := Lib.hid ho
      have HT := Lib.hid ht
      clear hb htb hz ho ht
      have j0 : wr.cell? ⟨w5.heap.size, 0, none⟩ = some (.func (.func 100) #[] #[]) := cell_of_cells HTB.out 0
      have j1 : wr.cell? ⟨w5.heap.size, 1, none⟩ = some (.func (.func 101) #[] #[]) := cell_of_cells HTB.out 1
      go_wp2_with (go_at_call 100; refine (gen1_any (q) a4 c4 w4.heap.size _ _ HB.out).mono ?_; rintro e w7 ⟨rfl, hb7, t7⟩)
      go_roundw
      case rel =>
        have n1 := HSZ.out
        have n2 := HSZ2.out
        have n3 := HDT.out
        have n4 := HS4.out
        exact ⟨1, by omega, rfl, hb7, t7.keeps HTB.out (fun h => by omega), t7.keeps HZ.out (fun h => by omega), HO.out.touch t7 (fun x hx h => by have := HOL.out x hx; omega), HT.out.trans t7 (fun k h1 h2 => by omega)⟩
      case measure => simp [intOf]
    · simp only [reduceIte, Nat.one_ne_zero] at hb
      simp only [Int.natCast_one]
      have HB := Lib.hid hb
      have HTB := Lib.hid htb
      have HZ := Lib.hid hz
      have HO := Lib.hid ho
      have HT := Lib.hid ht
      clear hb htb hz ho ht
      have j0 : wr.cell? ⟨w5.heap.size, 0, none⟩ = some (.func (.func 100) #[] #[]) := cell_of_cells HTB.out 0
      have j1 : wr.cell? ⟨w5.heap.size, 1, none⟩ = some (.func (.func 101) #[] #[]) := cell_of_cells HTB.out 1
      go_wp2_with (go_at_call 101; refine (seen0_any (gen1 q) a4 c4 w4.heap.size _ _ HB.out).mono ?_; rintro e w7 ⟨rfl, hb7, t7⟩)
      go_roundw
      case rel =>
        have n1 := HSZ.out
        have n2 := HSZ2.out
        have n3 := HDT.out
        have n4 := HS4.out
        exact ⟨2, by omega, rfl, hb7, t7.keeps HTB.out (fun h => by omega), t7.keeps HZ.out (fun h => by omega), HO.out.touch t7 (fun x hx h => by have := HOL.out x hx; omega), HT.out.trans t7 (fun k h1 h2 => by omega)⟩
      case measure => simp [intOf]
    · have hb : wr.heap[w4.heap.size]? = some (.cells (rcs (seen0 (gen1 q)) a4 c4) 114 (0, 0)) := hb
      have hc2 : ((2 : Nat) : Int) = 2 := rfl
      rw [hc2]
      have HB := Lib.hid hb
      have HTB := Lib.hid htb
      have HZ := Lib.hid hz
      have HO := Lib.hid ho
      have HT := Lib.hid ht
      clear hb htb hz ho ht
      have j0 : wr.cell? ⟨w5.heap.size, 0, none⟩ = some (.func (.func 100) #[] #[]) := cell_of_cells HTB.out 0
      have j1 : wr.cell? ⟨w5.heap.size, 1, none⟩ = some (.func (.func 101) #[] #[]) := cell_of_cells HTB.out 1
      go_wp2_with (first
        | (refine wpList_load_row rfl 29 (.tmp 29) rfl w4.heap.size rfl _ _ _ _ HB.out Try.underlying29 rfl HIR.out ?_)
        | (refine store_row rfl 29 (.tmp 6) (.tmp 30) rfl W1.heap.size _ rfl rfl _ _ HZ.out HIR.out rfl (rcs_all _ _ _) ?_))
      rw [HMV.out]
      have n1 := HSZ.out
      have n2 := HSZ2.out
      exact rin_end (seen0 (gen1 q)) q.bs rfl rfl rfl HZ.out (by rw [seen0_bs, gen1_bs]; exact HO.out) (by rw [seen0_bs, gen1_bs]) HT.out (by omega) (by omega) (by omega) _ rfl


set_option maxRecDepth 20000 in
set_option maxHeartbeats 8000000 in
theorem moved_22 (r : RecD) (a : Option Addr) (cap : Nat) (w : World) (hr : RowK w a r.bs.length cap r.bs) (hl : r.bs.length ≤ 100000) :
    Calls Try.prog 69 #[.agg (rcs r a cap), .int .i64 2, .int .i64 2] w fun e w' => RecIs w w' (movD r 2 2) e := by
  obtain ⟨q, hq⟩ : ∃ q, inD r 2 = q := ⟨_, rfl⟩
  have HMV : RowKit.Hid (movD r 2 2 = q) := Lib.hid (by unfold movD; rw [hq]; simp)
  obtain ⟨W1, hW1⟩ : ∃ W, w.alloc (.cells (rcs r a cap) 29) = W := ⟨_, rfl⟩
  obtain ⟨W2, hW2⟩ : ∃ W, W1.alloc (.cells #[.int .i64 0, .int .u32 0, .int .u32 0, .int .i64 0, .int .i64 0, .int .i64 0, .int .i64 0, .int .i64 0, .int .i64 0, .int .i64 0, .slice none 0 0, .int .i64 0, .int .i64 0, .int .i64 0] 29) = W := ⟨_, rfl⟩
  have t1 : Touch w W1 (fun _ => False) := hW1 ▸ (Touch.refl _ _).alloc _
  have t2 : Touch W1 W2 (fun _ => False) := hW2 ▸ (Touch.refl _ _).alloc _
  have hg1 : W1.heap[w.heap.size]? = some (.cells (rcs r a cap) 29 (0, 0)) := hW1 ▸ heap_alloc_new w _
  have hg2 : W2.heap[W1.heap.size]? = some (.cells (rcs zeroR none 0) 29 (0, 0)) := hW2 ▸ heap_alloc_new W1 _
  have HSZ : RowKit.Hid (w.heap.size < W1.heap.size) := Lib.hid (heap_lt hg1)
  have HSZ2 : RowKit.Hid (W1.heap.size < W2.heap.size) := Lib.hid (heap_lt hg2)
  have HC : RowKit.Hid (Calls Try.prog 22 #[.agg (rcs r a cap), .int .i64 2] W2 fun e w' => RecIs W2 w' q e) := Lib.hid (hq ▸ in_any r a cap 2 W2 ((hr.still t1).still t2) hl)
  have HG1 := Lib.hid (t2.keeps hg1 (fun h => h))
  have HZ := Lib.hid hg2
  have HT := Lib.hid (t1.trans t2 (fun _ _ h => h))
  have HIR := Lib.hid infoRec
  generalize movD r 2 2 = mv at *
  clear hr hl hq hg1 hg2 t1 t2
  simp only [rcs] at hW1
  simp only [rcs]
  go_enter Try.func69, Try.ntmps69
  go_wp2_with (first
    | (refine wpList_load_row rfl 29 (.tmp 3) rfl w.heap.size rfl _ _ _ _ HG1.out Try.underlying29 rfl HIR.out ?_)
    | (go_at_call 22; refine HC.out.mono ?_; rintro e w4 ⟨a4, c4, rfl, ho4, t4⟩; have HZ := Lib.hid (t4.keeps HZ.out (fun h => h)); have HO := Lib.hid ho4; have HT := Lib.hid (HT.out.trans t4 (fun _ _ h => h)); have HS4 := Lib.hid t4.size; clear ho4 t4; simp only [rcs])
    | (go_at_call 88; (with_reducible refine (stepsT_any _).mono ?_); rintro e w5 ⟨rfl, t5⟩))
  have td := (Touch.refl w4 (fun _ => False)).alloc (.cells (rcs q a4 c4) 114)
  have tf := (Touch.refl w5 (fun _ => False)).alloc (.cells #[.func (.func 100) #[] #[], .func (.func 101) #[] #[]] 116)
  have tu : Touch w4 (w5.alloc (.cells #[.func (.func 100) #[] #[], .func (.func 101) #[] #[]] 116)) (fun _ => False) := (td.trans t5 (fun _ _ h => h)).trans tf (fun _ _ h => h)
  have hD5 : w5.heap[w4.heap.size]? = some (.cells (rcs q a4 c4) 114 (0, 0)) := t5.keeps (heap_alloc_new w4 _) (fun h => h)
  have hDT := heap_lt hD5
  have hB := tf.keeps hD5 (fun h => h)
  have hTb := heap_alloc_new w5 (.cells #[.func (.func 100) #[] #[], .func (.func 101) #[] #[]] 116 (0, 0))
  have hZ := tu.keeps HZ.out (fun h => h)
  have hO := HO.out.still tu
  have hT := HT.out.trans tu (fun _ _ h => h)
  have HOL : RowKit.Hid (∀ x, (Value.slice a4 q.bs.length c4).ownBlock = some x → x < w4.heap.size) := Lib.hid (fun x hx => ((OwnS.own HO.out).lt x hx).2)
  have HDT := Lib.hid hDT
  clear td tf tu hD5 hDT HO HT HZ t5 HC HG1
  go_loopw [22] (fun i wr => ∃ k : Nat, k ≤ 0 ∧ i = .int .i64 k ∧ MovAt w W1 w4 w5 W2.heap.size q.bs (if k = 0 then q else if k = 1 then seen0 q else seen0 (gen1 q)) a4 c4 wr) (fun i _ => 0 - (intOf i).toNat)
  case atStart => exact ⟨0, Nat.zero_le _, rfl, hB, hTb, hZ, hO, hT⟩
  case round =>
    clear hB hTb hZ hO hT
    obtain ⟨k, hk, rfl, hb, htb, hz, ho, ht⟩ := hrel
    have hkk : k = 0 := by omega
    obtain rfl : k = 0 := by omega
    · simp only [if_true, reduceIte] at hb
      simp only [Int.natCast_zero]
      have HB := Lib.hid hb
      have HTB := Lib.hid htb
      have HZ := Lib.hid hz
      have HO := Lib.hid ho
      have HT := Lib.hid ht
      clear hb htb hz ho ht
      have j0 : wr.cell? ⟨w5.heap.size, 0, none⟩ = some (.func (.func 100) #[] #[]) := cell_of_cells HTB.out 0
      have j1 : wr.cell? ⟨w5.heap.size, 1, none⟩ = some (.func (.func 101) #[] #[]) := cell_of_cells HTB.out 1
      go_wp2_with (first
        | (refine wpList_load_row rfl 29 (.tmp 29) rfl w4.heap.size rfl _ _ _ _ HB.out Try.underlying29 rfl HIR.out ?_)
        | (refine store_row rfl 29 (.tmp 6) (.tmp 30) rfl W1.heap.size _ rfl rfl _ _ HZ.out HIR.out rfl (rcs_all _ _ _) ?_))
      rw [HMV.out]
      have n1 := HSZ.out
      have n2 := HSZ2.out
      exact rin_end (q) q.bs rfl rfl rfl HZ.out (HO.out) (rfl) HT.out (by omega) (by omega) (by omega) _ rfl


set_option maxRecDepth 20000 in
set_option maxHeartbeats 8000000 in
theorem moved_23 (r : RecD) (a : Option Addr) (cap : Nat) (w : World) (hr : RowK w a r.bs.length cap r.bs) (hl : r.bs.length ≤ 100000) :
    Calls Try.prog 69 #[.agg (rcs r a cap), .int .i64 2, .int .i64 3] w fun e w' => RecIs w w' (movD r 2 3) e := by
  obtain ⟨q, hq⟩ : ∃ q, inD r 2 = q := ⟨_, rfl⟩
  have HMV : RowKit.Hid (movD r 2 3 = seen0 q) := Lib.hid (by unfold movD; rw [hq]; simp)
  obtain ⟨W1, hW1⟩ : ∃ W, w.alloc (.cells (rcs r a cap) 29) = W := ⟨_, rfl⟩
  obtain ⟨W2, hW2⟩ : ∃ W, W1.alloc (.cells #[.int .i64 0, .int .u32 0, .int .u32 0, .int .i64 0, .int .i64 0, .int .i64 0, .int .i64 0, .int .i64 0, .int .i64 0, .int .i64 0, .slice none 0 0, .int .i64 0, .int .i64 0, .int .i64 0] 29) = W := ⟨_, rfl⟩
  have t1 : Touch w W1 (fun _ => False) := hW1 ▸ (Touch.refl _ _).alloc _
  have t2 : Touch W1 W2 (fun _ => False) := hW2 ▸ (Touch.refl _ _).alloc _
  have hg1 : W1.heap[w.heap.size]? = some (.cells (rcs r a cap) 29 (0, 0)) := hW1 ▸ heap_alloc_new w _
  have hg2 : W2.heap[W1.heap.size]? = some (.cells (rcs zeroR none 0) 29 (0, 0)) := hW2 ▸ heap_alloc_new W1 _
  have HSZ : RowKit.Hid (w.heap.size < W1.heap.size) := Lib.hid (heap_lt hg1)
  have HSZ2 : RowKit.Hid (W1.heap.size < W2.heap.size) := Lib.hid (heap_lt hg2)
  have HC : RowKit.Hid (Calls Try.prog 22 #[.agg (rcs r a cap), .int .i64 2] W2 fun e w' => RecIs W2 w' q e) := Lib.hid (hq ▸ in_any r a cap 2 W2 ((hr.still t1).still t2) hl)
  have HG1 := Lib.hid (t2.keeps hg1 (fun h => h))
  have HZ := Lib.hid hg2
  have HT := Lib.hid (t1.trans t2 (fun _ _ h => h))
  have HIR := Lib.hid infoRec
  generalize movD r 2 3 = mv at *
  clear hr hl hq hg1 hg2 t1 t2
  simp only [rcs] at hW1
  simp only [rcs]
  go_enter Try.func69, Try.ntmps69
  go_wp2_with (first
    | (refine wpList_load_row rfl 29 (.tmp 3) rfl w.heap.size rfl _ _ _ _ HG1.out Try.underlying29 rfl HIR.out ?_)
    | (go_at_call 22; refine HC.out.mono ?_; rintro e w4 ⟨a4, c4, rfl, ho4, t4⟩; have HZ := Lib.hid (t4.keeps HZ.out (fun h => h)); have HO := Lib.hid ho4; have HT := Lib.hid (HT.out.trans t4 (fun _ _ h => h)); have HS4 := Lib.hid t4.size; clear ho4 t4; simp only [rcs])
    | (go_at_call 88; (with_reducible refine (stepsT_any _).mono ?_); rintro e w5 ⟨rfl, t5⟩))
  have td := (Touch.refl w4 (fun _ => False)).alloc (.cells (rcs q a4 c4) 114)
  have tf := (Touch.refl w5 (fun _ => False)).alloc (.cells #[.func (.func 100) #[] #[], .func (.func 101) #[] #[]] 116)
  have tu : Touch w4 (w5.alloc (.cells #[.func (.func 100) #[] #[], .func (.func 101) #[] #[]] 116)) (fun _ => False) := (td.trans t5 (fun _ _ h => h)).trans tf (fun _ _ h => h)
  have hD5 : w5.heap[w4.heap.size]? = some (.cells (rcs q a4 c4) 114 (0, 0)) := t5.keeps (heap_alloc_new w4 _) (fun h => h)
  have hDT := heap_lt hD5
  have hB := tf.keeps hD5 (fun h => h)
  have hTb := heap_alloc_new w5 (.cells #[.func (.func 100) #[] #[], .func (.func 101) #[] #[]] 116 (0, 0))
  have hZ := tu.keeps HZ.out (fun h => h)
  have hO := HO.out.still tu
  have hT := HT.out.trans tu (fun _ _ h => h)
  have HOL : RowKit.Hid (∀ x, (Value.slice a4 q.bs.length c4).ownBlock = some x → x < w4.heap.size) := Lib.hid (fun x hx => ((OwnS.own HO.out).lt x hx).2)
  have HDT := Lib.hid hDT
  clear td tf tu hD5 hDT HO HT HZ t5 HC HG1
  go_loopw [22] (fun i wr => ∃ k : Nat, k ≤ 1 ∧ i = .int .i64 k ∧ MovAt w W1 w4 w5 W2.heap.size q.bs (if k = 0 then q else if k = 1 then seen0 q else seen0 (gen1 q)) a4 c4 wr) (fun i _ => 1 - (intOf i).toNat)
  case atStart => exact ⟨0, Nat.zero_le _, rfl, hB, hTb, hZ, hO, hT⟩
  case round =>
    clear hB hTb hZ hO hT
    obtain ⟨k, hk, rfl, hb, htb, hz, ho, ht⟩ := hrel
    have hkk : k = 0 ∨ k = 1 := by omega
    rcases hkk with rfl | rfl
    · simp only [if_true, reduceIte] at hb
      simp only [Int.natCast_zero]
      have HB := Lib.hid hb
      have HTB := Lib.hid htb
      have HZ := Lib.hid hz
      have HO := Lib.hid ho
      have HT := Lib.hid ht
      clear hb htb hz ho ht
      have j0 : wr.cell? ⟨w5.heap.size, 0, none⟩ = some (.func (.func 100) #[] #[]) := cell_of_cells HTB.out 0
      have j1 : wr.cell? ⟨w5.heap.size, 1, none⟩ = some (.func (.func 101) #[] #[]) := cell_of_cells HTB.out 1
      go_wp2_with (go_at_call 101; refine (seen0_any (q) a4 c4 w4.heap.size _ _ HB.out).mono ?_; rintro e w7 ⟨rfl, hb7, t7⟩)
      go_roundw
      case rel =>
        have n1 := HSZ.out
        have n2 := HSZ2.out
        have n3 := HDT.out
        have n4 := HS4.out
        exact ⟨1, by omega, rfl, hb7, t7.keeps HTB.out (fun h => by omega), t7.keeps HZ.out (fun h => by omega), HO.out.touch t7 (fun x hx h => by have := HOL.out x hx; omega), HT.out.trans t7 (fun k h1 h2 => by omega)⟩
      case measure => simp [intOf]
    · simp only [reduceIte, Nat.one_ne_zero] at hb
      simp only [Int.natCast_one]
      have HB := Lib.hid hb
      have HTB := Lib.hid htb
      have HZ := Lib.hid hz
      have HO := Lib.hid ho
      have HT := Lib.hid ht
      clear hb htb hz ho ht
      have j0 : wr.cell? ⟨w5.heap.size, 0, none⟩ = some (.func (.func 100) #[] #[]) := cell_of_cells HTB.out 0
      have j1 : wr.cell? ⟨w5.heap.size, 1, none⟩ = some (.func (.func 101) #[] #[]) := cell_of_cells HTB.out 1
      go_wp2_with (first
        | (refine wpList_load_row rfl 29 (.tmp 29) rfl w4.heap.size rfl _ _ _ _ HB.out Try.underlying29 rfl HIR.out ?_)
        | (refine store_row rfl 29 (.tmp 6) (.tmp 30) rfl W1.heap.size _ rfl rfl _ _ HZ.out HIR.out rfl (rcs_all _ _ _) ?_))
      rw [HMV.out]
      have n1 := HSZ.out
      have n2 := HSZ2.out
      exact rin_end (seen0 q) q.bs rfl rfl rfl HZ.out (by rw [seen0_bs]; exact HO.out) (by rw [seen0_bs]) HT.out (by omega) (by omega) (by omega) _ rfl


set_option maxRecDepth 20000 in
set_option maxHeartbeats 8000000 in
theorem moved_33 (r : RecD) (a : Option Addr) (cap : Nat) (w : World) (hr : RowK w a r.bs.length cap r.bs) (hl : r.bs.length ≤ 100000) :
    Calls Try.prog 69 #[.agg (rcs r a cap), .int .i64 3, .int .i64 3] w fun e w' => RecIs w w' (movD r 3 3) e := by
  obtain ⟨q, hq⟩ : ∃ q, inD r 3 = q := ⟨_, rfl⟩
  have HMV : RowKit.Hid (movD r 3 3 = q) := Lib.hid (by unfold movD; rw [hq]; simp)
  obtain ⟨W1, hW1⟩ : ∃ W, w.alloc (.cells (rcs r a cap) 29) = W := ⟨_, rfl⟩
  obtain ⟨W2, hW2⟩ : ∃ W, W1.alloc (.cells #[.int .i64 0, .int .u32 0, .int .u32 0, .int .i64 0, .int .i64 0, .int .i64 0, .int .i64 0, .int .i64 0, .int .i64 0, .int .i64 0, .slice none 0 0, .int .i64 0, .int .i64 0, .int .i64 0] 29) = W := ⟨_, rfl⟩
  have t1 : Touch w W1 (fun _ => False) := hW1 ▸ (Touch.refl _ _).alloc _
  have t2 : Touch W1 W2 (fun _ => False) := hW2 ▸ (Touch.refl _ _).alloc _
  have hg1 : W1.heap[w.heap.size]? = some (.cells (rcs r a cap) 29 (0, 0)) := hW1 ▸ heap_alloc_new w _
  have hg2 : W2.heap[W1.heap.size]? = some (.cells (rcs zeroR none 0) 29 (0, 0)) := hW2 ▸ heap_alloc_new W1 _
  have HSZ : RowKit.Hid (w.heap.size < W1.heap.size) := Lib.hid (heap_lt hg1)
  have HSZ2 : RowKit.Hid (W1.heap.size < W2.heap.size) := Lib.hid (heap_lt hg2)
  have HC : RowKit.Hid (Calls Try.prog 22 #[.agg (rcs r a cap), .int .i64 3] W2 fun e w' => RecIs W2 w' q e) := Lib.hid (hq ▸ in_any r a cap 3 W2 ((hr.still t1).still t2) hl)
  have HG1 := Lib.hid (t2.keeps hg1 (fun h => h))
  have HZ := Lib.hid hg2
  have HT := Lib.hid (t1.trans t2 (fun _ _ h => h))
  have HIR := Lib.hid infoRec
  generalize movD r 3 3 = mv at *
  clear hr hl hq hg1 hg2 t1 t2
  simp only [rcs] at hW1
  simp only [rcs]
  go_enter Try.func69, Try.ntmps69
  go_wp2_with (first
    | (refine wpList_load_row rfl 29 (.tmp 3) rfl w.heap.size rfl _ _ _ _ HG1.out Try.underlying29 rfl HIR.out ?_)
    | (go_at_call 22; refine HC.out.mono ?_; rintro e w4 ⟨a4, c4, rfl, ho4, t4⟩; have HZ := Lib.hid (t4.keeps HZ.out (fun h => h)); have HO := Lib.hid ho4; have HT := Lib.hid (HT.out.trans t4 (fun _ _ h => h)); have HS4 := Lib.hid t4.size; clear ho4 t4; simp only [rcs])
    | (go_at_call 88; (with_reducible refine (stepsT_any _).mono ?_); rintro e w5 ⟨rfl, t5⟩))
  have td := (Touch.refl w4 (fun _ => False)).alloc (.cells (rcs q a4 c4) 114)
  have tf := (Touch.refl w5 (fun _ => False)).alloc (.cells #[.func (.func 100) #[] #[], .func (.func 101) #[] #[]] 116)
  have tu : Touch w4 (w5.alloc (.cells #[.func (.func 100) #[] #[], .func (.func 101) #[] #[]] 116)) (fun _ => False) := (td.trans t5 (fun _ _ h => h)).trans tf (fun _ _ h => h)
  have hD5 : w5.heap[w4.heap.size]? = some (.cells (rcs q a4 c4) 114 (0, 0)) := t5.keeps (heap_alloc_new w4 _) (fun h => h)
  have hDT := heap_lt hD5
  have hB := tf.keeps hD5 (fun h => h)
  have hTb := heap_alloc_new w5 (.cells #[.func (.func 100) #[] #[], .func (.func 101) #[] #[]] 116 (0, 0))
  have hZ := tu.keeps HZ.out (fun h => h)
  have hO := HO.out.still tu
  have hT := HT.out.trans tu (fun _ _ h => h)
  have HOL : RowKit.Hid (∀ x, (Value.slice a4 q.bs.length c4).ownBlock = some x → x < w4.heap.size) := Lib.hid (fun x hx => ((OwnS.own HO.out).lt x hx).2)
  have HDT := Lib.hid hDT
  clear td tf tu hD5 hDT HO HT HZ t5 HC HG1
  go_loopw [22] (fun i wr => ∃ k : Nat, k ≤ 0 ∧ i = .int .i64 k ∧ MovAt w W1 w4 w5 W2.heap.size q.bs (if k = 0 then q else if k = 1 then seen0 q else seen0 (gen1 q)) a4 c4 wr) (fun i _ => 0 - (intOf i).toNat)
  case atStart => exact ⟨0, Nat.zero_le _, rfl, hB, hTb, hZ, hO, hT⟩
  case round =>
    clear hB hTb hZ hO hT
    obtain ⟨k, hk, rfl, hb, htb, hz, ho, ht⟩ := hrel
    have hkk : k = 0 := by omega
    obtain rfl : k = 0 := by omega
    · simp only [if_true, reduceIte] at hb
      simp only [Int.natCast_zero]
      have HB := Lib.hid hb
      have HTB := Lib.hid htb
      have HZ := Lib.hid hz
      have HO := Lib.hid ho
      have HT := Lib.hid ht
      clear hb htb hz ho ht
      have j0 : wr.cell? ⟨w5.heap.size, 0, none⟩ = some (.func (.func 100) #[] #[]) := cell_of_cells HTB.out 0
      have j1 : wr.cell? ⟨w5.heap.size, 1, none⟩ = some (.func (.func 101) #[] #[]) := cell_of_cells HTB.out 1
      go_wp2_with (first
        | (refine wpList_load_row rfl 29 (.tmp 29) rfl w4.heap.size rfl _ _ _ _ HB.out Try.underlying29 rfl HIR.out ?_)
        | (refine store_row rfl 29 (.tmp 6) (.tmp 30) rfl W1.heap.size _ rfl rfl _ _ HZ.out HIR.out rfl (rcs_all _ _ _) ?_))
      rw [HMV.out]
      have n1 := HSZ.out
      have n2 := HSZ2.out
      exact rin_end (q) q.bs rfl rfl rfl HZ.out (HO.out) (rfl) HT.out (by omega) (by omega) (by omega) _ rfl

end Go.Proofs.Ytbklngcocbnijaa
