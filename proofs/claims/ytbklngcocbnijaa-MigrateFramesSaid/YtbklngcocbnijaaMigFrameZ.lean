/- Migration: what Frame of package migrate answers; what the reference's. -/
import Derived.Test.YtbklngcocbnijaaRecRDec3Z
import Derived.Test.YtbklngcocbnijaaRecREnc3Z
import Derived.Test.YtbklngcocbnijaaMigMathZ
import Derived.Test.YtbklngcocbnijaaMigLawZ
import Derived.Test.YtbklngcocbnijaaGAZ
import Derived.Test.YtbklngcocbnijaaRecBack0Z
import Derived.Deep.DeepCutAuto
set_option linter.unusedVariables false
set_option linter.unusedSimpArgs false
namespace Go.Proofs.Ytbklngcocbnijaa
open Go.RowKit

theorem inD_ok {r : RecD} (h : RecOk r) (v : Int) : RecOk (inD r v) := by
  have hp : RecOk (plainD r) := by
    obtain ⟨a, b, c, d, e, f, g, i, j, l⟩ := h
    unfold plainD
    repeat' split
    all_goals constructor
    all_goals first | assumption | exact i64_0 | exact noT_ok | (intro b hb; cases hb) | (simp only [i64]; omega)
  unfold inD
  split
  · refine ⟨hp.kind, hp.t, hp.fb, ?_, ?_, hp.gen, ?_, hp.be, hp.un, hp.ct⟩
    · simp only; split
      · exact i64_0
      · exact hp.fg
    · simp only; split
      · exact i64_0
      · exact hp.fs
    · intro x hx
      simp only at hx
      split at hx
      · simp only [List.mem_map] at hx
        obtain ⟨y, hy, rfl⟩ := hx
        exact w1K_ok (hp.bs y hy)
      · exact hp.bs x hx
  · exact ⟨i64_0, noT_ok, i64_0, i64_0, i64_0, i64_0, fun b hb => (by cases hb), i64_0, i64_0, i64_0⟩
theorem gen1_ok {r : RecD} (h : RecOk r) : RecOk (gen1 r) := by
  unfold gen1; split
  · exact ⟨h.kind, h.t, h.fb, by simp [i64], h.fs, h.gen, h.bs, h.be, h.un, h.ct⟩
  · exact h
theorem seen0_ok {r : RecD} (h : RecOk r) : RecOk (seen0 r) := by
  unfold seen0; split
  · exact ⟨h.kind, h.t, h.fb, h.fg, i64_0, h.gen, h.bs, h.be, h.un, h.ct⟩
  · exact h
theorem movD_ok {r : RecD} (h : RecOk r) (f t : Int) : RecOk (movD r f t) := by
  have hi := inD_ok h f
  unfold movD
  repeat' split
  all_goals first | exact hi | exact gen1_ok hi | exact seen0_ok hi | exact seen0_ok (gen1_ok hi) | exact gen1_ok (seen0_ok hi)

/-- The record on its way. -/
def mfR (k v t : Int) (xs : List Nat) : RecD := movD (decD k v xs) v t
/-- Does it go well? -/
def mfG (k v t : Int) (xs : List Nat) : Bool := decide (decE k v xs = 0) && leadB v t
def mfE (k v t : Int) (xs : List Nat) : Int := if decE k v xs = 0 then (if leadB v t = true then encE (mfR k v t xs) t else 10) else decE k v xs
def mfK (k v t : Int) (xs : List Nat) : Int := if mfG k v t xs = true then encK (mfR k v t xs) t else 0
def mfV (k v t : Int) (xs : List Nat) : Int := if mfG k v t xs = true then encV (mfR k v t xs) t else 0
def mfB (k v t : Int) (xs : List Nat) : List Nat := if mfG k v t xs = true then encB (mfR k v t xs) t else []
def MFIs (w : World) (k v t : Int) (xs : List Nat) (e : Ending) (w' : World) : Prop :=
  ∃ (a' : Option Addr) (c' : Nat), e = .returned (.tuple #[.agg (f3 (mfK k v t xs) (mfV k v t xs) a' (mfB k v t xs).length c'), .int .i64 (mfE k v t xs)]) ∧ RowB w' a' (mfB k v t xs).length c' (mfB k v t xs) ∧ Touch w w' (fun _ => False)
theorem mov_less (r : RecD) (f t : Int) : (movD r f t).bs.length ≤ r.bs.length := by
  have hp : (plainD r).bs.length ≤ r.bs.length := by
    unfold plainD
    repeat' split
    all_goals simp
  have hi : (inD r f).bs.length ≤ r.bs.length := by
    unfold inD
    split
    · simp only
      split
      · simpa using hp
      · exact hp
    · simp [zeroR]
  unfold movD
  repeat' split
  all_goals ((try simp only [gen1_bs, seen0_bs]); exact hi)
set_option maxRecDepth 20000 in
set_option maxHeartbeats 4000000 in
theorem mframe_bad (k v : Int) (t : Int) (a : Option Addr) (cap : Nat) (xs : List Nat) (w : World) (hrow : RowB w a xs.length cap xs) (hlen : xs.length ≤ 140737488355328) (hd : decE k v xs ≠ 0) :
    Calls Try.prog 35 #[.agg (f3 k v a xs.length cap), .int .i64 t] w (MFIs w k v t xs) := by
  obtain ⟨W1, hW1⟩ : ∃ W, w.alloc (.cells (f3 k v a xs.length cap) 39) = W := ⟨_, rfl⟩
  obtain ⟨W2, hW2⟩ : ∃ W, W1.alloc (.cells #[.int .i64 0, .int .i64 0, .slice none 0 0] 39) = W := ⟨_, rfl⟩
  have t1 : Touch w W1 (fun _ => False) := hW1 ▸ (Touch.refl _ _).alloc _
  have t2 : Touch W1 W2 (fun _ => False) := hW2 ▸ (Touch.refl _ _).alloc _
  have HF : RowKit.Hid (W2.heap[w.heap.size]? = some (.cells (f3 k v a xs.length cap) 39 (0, 0))) := Lib.hid (t2.keeps (hW1 ▸ heap_alloc_new w _) (fun h => h))
  have HZ : RowKit.Hid (W2.heap[W1.heap.size]? = some (.cells (f3 0 0 none 0 0) 39 (0, 0))) := Lib.hid (hW2 ▸ heap_alloc_new W1 _)
  have HT := Lib.hid (t1.trans t2 (fun _ _ h => h))
  have HY := Lib.hid ((hrow.touch t1 (fun _ _ => .inr (fun h => h))).touch t2 (fun _ _ => .inr (fun h => h)))
  have HIR := Lib.hid infoRec
  have HIF := Lib.hid infoFr
  have HSZ : RowKit.Hid (w.heap.size < W1.heap.size ∧ W1.heap.size < W2.heap.size) := Lib.hid ⟨by rw [← hW1]; simp, by rw [← hW2]; simp⟩
  have HX : RowKit.Hid (∀ e w', MFIs w k v t xs e w' = ∃ (a' : Option Addr) (c' : Nat), e = .returned (.tuple #[.agg (f3 (mfK k v t xs) (mfV k v t xs) a' (mfB k v t xs).length c'), .int .i64 (mfE k v t xs)]) ∧ RowB w' a' (mfB k v t xs).length c' (mfB k v t xs) ∧ Touch w w' (fun _ => False)) := Lib.hid (fun _ _ => rfl)
  obtain ⟨E1, hE1⟩ : ∃ E, decE k v xs = E := ⟨_, rfl⟩
  obtain ⟨X, hX⟩ : ∃ X, decR k v xs = X := ⟨_, rfl⟩
  have HMK : RowKit.Hid (mfK k v t xs = 0 ∧ mfV k v t xs = 0 ∧ mfB k v t xs = [] ∧ mfE k v t xs = E1) := Lib.hid (by
    have hg : mfG k v t xs = false := by unfold mfG; rw [decide_eq_false hd]; rfl
    refine ⟨by unfold mfK; rw [hg]; rfl, by unfold mfV; rw [hg]; rfl, by unfold mfB; rw [hg]; rfl, by unfold mfE; rw [if_neg hd, hE1]⟩)
  have KD : RowKit.Hid (∀ W, RowB W a xs.length cap xs → Calls Try.prog 27 #[.agg (f3 k v a xs.length cap)] W fun e w' => ∃ a' c', e = .returned (.tuple #[.agg (rcs X a' c'), .int .i64 E1]) ∧ OwnK w' W.heap.size (.slice a' X.bs.length c') X.bs ∧ Touch W w' (fun _ => False)) := Lib.hid (fun W h => by
    have := dec_any k v a cap xs W h hlen
    unfold DecIs at this
    rw [hE1, hX] at this
    exact this)
  have hb : (E1 != 0) = true := bne_iff_ne.2 (hE1 ▸ hd)
  clear hrow t1 t2 hd hE1 hX hlen
  generalize MFIs w k v t xs = Y at *
  simp only [f3] at hW1
  go_enter Try.func35, Try.ntmps35
  simp only [f3]
  go_wp2_with (first
    | (refine wpList_load_row rfl 39 (.tmp 2) rfl w.heap.size rfl _ _ _ _ HF.out Try.underlying39 rfl HIF.out ?_)
    | (go_at_call 27; (with_reducible refine (KD.out _ HY.out).mono ?_); rintro e w4 ⟨a4, c4, rfl, ho, t8⟩; obtain ⟨v4, hv4⟩ : ∃ W, w4.alloc (.cells (rcs X a4 c4) 29) = W := ⟨_, rfl⟩; have tA : Touch w4 v4 (fun _ => False) := hv4 ▸ (Touch.refl w4 (fun _ => False)).alloc (.cells (rcs X a4 c4) 29); have t9 := t8.trans tA (fun _ _ h => h); (try have HF := Lib.hid (t9.keeps HF.out (fun h => h))); (try have HZ := Lib.hid (t9.keeps HZ.out (fun h => h))); (try have HQ := Lib.hid (t9.keeps HQ.out (fun h => h))); (try have RQ := Lib.hid (RQ.out.still t9)); (try have HY := Lib.hid (HY.out.touch t9 (fun _ _ => .inr (fun h => h)))); have HT := Lib.hid (HT.out.trans t9 (fun _ _ h => h)); have HQ : RowKit.Hid (v4.heap[w4.heap.size]? = some (.cells (rcs X a4 c4) 29 (0, 0))) := Lib.hid (hv4 ▸ heap_alloc_new w4 _); have RQ := Lib.hid (ho.row.2.1.still tA); have HQS : RowKit.Hid (W2.heap.size ≤ w4.heap.size) := Lib.hid t8.size; clear t8 t9 tA ho; simp only [rcs] at hv4; simp only [rcs])
    | (refine store_row rfl 39 (.tmp 4) (.tmp 15) rfl W1.heap.size (f3 0 0 none 0 0) rfl rfl _ _ HZ.out HIF.out rfl rfl ?_))
  refine ret_row1 rfl rfl W1.heap.size 39 (f3 0 0 none 0 0) (0, 0) _ rfl (setRow_heap _ _ _ _ _ _ HZ.out) Try.underlying39 rfl infoFr _ rfl ?_
  rw [HX.out, HMK.out.1, HMK.out.2.1, HMK.out.2.2.1, HMK.out.2.2.2]
  exact ⟨none, 0, rfl, RowB.nil _ _ _ (by omega), HT.out.setRow _ _ (fun h => absurd h (by have := HSZ.out; omega))⟩
set_option maxRecDepth 20000 in
set_option maxHeartbeats 4000000 in
theorem rmframe_bad (k v : Int) (t : Int) (a : Option Addr) (cap : Nat) (xs : List Nat) (w : World) (hrow : RowB w a xs.length cap xs) (hlen : xs.length ≤ 140737488355328) (hd : decE k v xs ≠ 0) :
    Calls Try.prog 36 #[.agg (f3 k v a xs.length cap), .int .i64 t] w (MFIs w k v t xs) := by
  obtain ⟨W1, hW1⟩ : ∃ W, w.alloc (.cells (f3 k v a xs.length cap) 39) = W := ⟨_, rfl⟩
  obtain ⟨W2, hW2⟩ : ∃ W, W1.alloc (.cells #[.int .i64 0, .int .i64 0, .slice none 0 0] 39) = W := ⟨_, rfl⟩
  have t1 : Touch w W1 (fun _ => False) := hW1 ▸ (Touch.refl _ _).alloc _
  have t2 : Touch W1 W2 (fun _ => False) := hW2 ▸ (Touch.refl _ _).alloc _
  have HF : RowKit.Hid (W2.heap[w.heap.size]? = some (.cells (f3 k v a xs.length cap) 39 (0, 0))) := Lib.hid (t2.keeps (hW1 ▸ heap_alloc_new w _) (fun h => h))
  have HZ : RowKit.Hid (W2.heap[W1.heap.size]? = some (.cells (f3 0 0 none 0 0) 39 (0, 0))) := Lib.hid (hW2 ▸ heap_alloc_new W1 _)
  have HT := Lib.hid (t1.trans t2 (fun _ _ h => h))
  have HY := Lib.hid ((hrow.touch t1 (fun _ _ => .inr (fun h => h))).touch t2 (fun _ _ => .inr (fun h => h)))
  have HIR := Lib.hid infoRec
  have HIF := Lib.hid infoFr
  have HSZ : RowKit.Hid (w.heap.size < W1.heap.size ∧ W1.heap.size < W2.heap.size) := Lib.hid ⟨by rw [← hW1]; simp, by rw [← hW2]; simp⟩
  have HX : RowKit.Hid (∀ e w', MFIs w k v t xs e w' = ∃ (a' : Option Addr) (c' : Nat), e = .returned (.tuple #[.agg (f3 (mfK k v t xs) (mfV k v t xs) a' (mfB k v t xs).length c'), .int .i64 (mfE k v t xs)]) ∧ RowB w' a' (mfB k v t xs).length c' (mfB k v t xs) ∧ Touch w w' (fun _ => False)) := Lib.hid (fun _ _ => rfl)
  obtain ⟨E1, hE1⟩ : ∃ E, decE k v xs = E := ⟨_, rfl⟩
  obtain ⟨X, hX⟩ : ∃ X, decR k v xs = X := ⟨_, rfl⟩
  have HMK : RowKit.Hid (mfK k v t xs = 0 ∧ mfV k v t xs = 0 ∧ mfB k v t xs = [] ∧ mfE k v t xs = E1) := Lib.hid (by
    have hg : mfG k v t xs = false := by unfold mfG; rw [decide_eq_false hd]; rfl
    refine ⟨by unfold mfK; rw [hg]; rfl, by unfold mfV; rw [hg]; rfl, by unfold mfB; rw [hg]; rfl, by unfold mfE; rw [if_neg hd, hE1]⟩)
  have KD : RowKit.Hid (∀ W, RowB W a xs.length cap xs → Calls Try.prog 28 #[.agg (f3 k v a xs.length cap)] W fun e w' => ∃ a' c', e = .returned (.tuple #[.agg (rcs X a' c'), .int .i64 E1]) ∧ OwnK w' W.heap.size (.slice a' X.bs.length c') X.bs ∧ Touch W w' (fun _ => False)) := Lib.hid (fun W h => by
    have := rdec_any k v a cap xs W h hlen
    unfold DecIs at this
    rw [hE1, hX] at this
    exact this)
  have hb : (E1 != 0) = true := bne_iff_ne.2 (hE1 ▸ hd)
  clear hrow t1 t2 hd hE1 hX hlen
  generalize MFIs w k v t xs = Y at *
  simp only [f3] at hW1
  go_enter Try.func36, Try.ntmps36
  simp only [f3]
  go_wp2_with (first
    | (refine wpList_load_row rfl 39 (.tmp 2) rfl w.heap.size rfl _ _ _ _ HF.out Try.underlying39 rfl HIF.out ?_)
    | (go_at_call 28; (with_reducible refine (KD.out _ HY.out).mono ?_); rintro e w4 ⟨a4, c4, rfl, ho, t8⟩; obtain ⟨v4, hv4⟩ : ∃ W, w4.alloc (.cells (rcs X a4 c4) 29) = W := ⟨_, rfl⟩; have tA : Touch w4 v4 (fun _ => False) := hv4 ▸ (Touch.refl w4 (fun _ => False)).alloc (.cells (rcs X a4 c4) 29); have t9 := t8.trans tA (fun _ _ h => h); (try have HF := Lib.hid (t9.keeps HF.out (fun h => h))); (try have HZ := Lib.hid (t9.keeps HZ.out (fun h => h))); (try have HQ := Lib.hid (t9.keeps HQ.out (fun h => h))); (try have RQ := Lib.hid (RQ.out.still t9)); (try have HY := Lib.hid (HY.out.touch t9 (fun _ _ => .inr (fun h => h)))); have HT := Lib.hid (HT.out.trans t9 (fun _ _ h => h)); have HQ : RowKit.Hid (v4.heap[w4.heap.size]? = some (.cells (rcs X a4 c4) 29 (0, 0))) := Lib.hid (hv4 ▸ heap_alloc_new w4 _); have RQ := Lib.hid (ho.row.2.1.still tA); have HQS : RowKit.Hid (W2.heap.size ≤ w4.heap.size) := Lib.hid t8.size; clear t8 t9 tA ho; simp only [rcs] at hv4; simp only [rcs])
    | (refine store_row rfl 39 (.tmp 4) (.tmp 15) rfl W1.heap.size (f3 0 0 none 0 0) rfl rfl _ _ HZ.out HIF.out rfl rfl ?_))
  refine ret_row1 rfl rfl W1.heap.size 39 (f3 0 0 none 0 0) (0, 0) _ rfl (setRow_heap _ _ _ _ _ _ HZ.out) Try.underlying39 rfl infoFr _ rfl ?_
  rw [HX.out, HMK.out.1, HMK.out.2.1, HMK.out.2.2.1, HMK.out.2.2.2]
  exact ⟨none, 0, rfl, RowB.nil _ _ _ (by omega), HT.out.setRow _ _ (fun h => absurd h (by have := HSZ.out; omega))⟩
set_option maxRecDepth 20000 in
set_option maxHeartbeats 4000000 in
theorem mframe_lead (k v : Int) (t : Int) (a : Option Addr) (cap : Nat) (xs : List Nat) (w : World) (hrow : RowB w a xs.length cap xs) (hlen : xs.length ≤ 140737488355328) (hd : decE k v xs = 0) (hlead : leadB v t = false) :
    Calls Try.prog 35 #[.agg (f3 k v a xs.length cap), .int .i64 t] w (MFIs w k v t xs) := by
  obtain ⟨W1, hW1⟩ : ∃ W, w.alloc (.cells (f3 k v a xs.length cap) 39) = W := ⟨_, rfl⟩
  obtain ⟨W2, hW2⟩ : ∃ W, W1.alloc (.cells #[.int .i64 0, .int .i64 0, .slice none 0 0] 39) = W := ⟨_, rfl⟩
  have t1 : Touch w W1 (fun _ => False) := hW1 ▸ (Touch.refl _ _).alloc _
  have t2 : Touch W1 W2 (fun _ => False) := hW2 ▸ (Touch.refl _ _).alloc _
  have HF : RowKit.Hid (W2.heap[w.heap.size]? = some (.cells (f3 k v a xs.length cap) 39 (0, 0))) := Lib.hid (t2.keeps (hW1 ▸ heap_alloc_new w _) (fun h => h))
  have HZ : RowKit.Hid (W2.heap[W1.heap.size]? = some (.cells (f3 0 0 none 0 0) 39 (0, 0))) := Lib.hid (hW2 ▸ heap_alloc_new W1 _)
  have HT := Lib.hid (t1.trans t2 (fun _ _ h => h))
  have HY := Lib.hid ((hrow.touch t1 (fun _ _ => .inr (fun h => h))).touch t2 (fun _ _ => .inr (fun h => h)))
  have HIR := Lib.hid infoRec
  have HIF := Lib.hid infoFr
  have HSZ : RowKit.Hid (w.heap.size < W1.heap.size ∧ W1.heap.size < W2.heap.size) := Lib.hid ⟨by rw [← hW1]; simp, by rw [← hW2]; simp⟩
  have HX : RowKit.Hid (∀ e w', MFIs w k v t xs e w' = ∃ (a' : Option Addr) (c' : Nat), e = .returned (.tuple #[.agg (f3 (mfK k v t xs) (mfV k v t xs) a' (mfB k v t xs).length c'), .int .i64 (mfE k v t xs)]) ∧ RowB w' a' (mfB k v t xs).length c' (mfB k v t xs) ∧ Touch w w' (fun _ => False)) := Lib.hid (fun _ _ => rfl)
  obtain ⟨E1, hE1⟩ : ∃ E, decE k v xs = E := ⟨_, rfl⟩
  obtain ⟨X, hX⟩ : ∃ X, decR k v xs = X := ⟨_, rfl⟩
  have HMK : RowKit.Hid (mfK k v t xs = 0 ∧ mfV k v t xs = 0 ∧ mfB k v t xs = [] ∧ mfE k v t xs = 10) := Lib.hid (by
    have hg : mfG k v t xs = false := by unfold mfG; rw [hlead, Bool.and_false]
    refine ⟨by unfold mfK; rw [hg]; rfl, by unfold mfV; rw [hg]; rfl, by unfold mfB; rw [hg]; rfl, by unfold mfE; rw [if_pos hd, hlead]; rfl⟩)
  have KD : RowKit.Hid (∀ W, RowB W a xs.length cap xs → Calls Try.prog 27 #[.agg (f3 k v a xs.length cap)] W fun e w' => ∃ a' c', e = .returned (.tuple #[.agg (rcs X a' c'), .int .i64 E1]) ∧ OwnK w' W.heap.size (.slice a' X.bs.length c') X.bs ∧ Touch W w' (fun _ => False)) := Lib.hid (fun W h => by
    have := dec_any k v a cap xs W h hlen
    unfold DecIs at this
    rw [hE1, hX] at this
    exact this)
  have KL : RowKit.Hid (∀ W, Calls Try.prog 68 #[.int .i64 v, .int .i64 t] W fun e w' => e = .returned (.bool false) ∧ W = w') := Lib.hid (fun W => hlead ▸ leads_any v t W)
  rw [← hE1, hd] at KD
  have dv := (decE_zero hd).1
  clear hrow t1 t2 hd hE1 hX hlen
  generalize MFIs w k v t xs = Y at *
  simp only [f3] at hW1
  go_enter Try.func35, Try.ntmps35
  simp only [f3]
  go_upto_region 4 with (first
    | (refine wpList_load_row rfl 39 (.tmp 2) rfl w.heap.size rfl _ _ _ _ HF.out Try.underlying39 rfl HIF.out ?_)
    | (go_at_call 27; (with_reducible refine (KD.out _ HY.out).mono ?_); rintro e w4 ⟨a4, c4, rfl, ho, t8⟩; obtain ⟨v4, hv4⟩ : ∃ W, w4.alloc (.cells (rcs X a4 c4) 29) = W := ⟨_, rfl⟩; have tA : Touch w4 v4 (fun _ => False) := hv4 ▸ (Touch.refl w4 (fun _ => False)).alloc (.cells (rcs X a4 c4) 29); have t9 := t8.trans tA (fun _ _ h => h); (try have HF := Lib.hid (t9.keeps HF.out (fun h => h))); (try have HZ := Lib.hid (t9.keeps HZ.out (fun h => h))); (try have HQ := Lib.hid (t9.keeps HQ.out (fun h => h))); (try have RQ := Lib.hid (RQ.out.still t9)); (try have HY := Lib.hid (HY.out.touch t9 (fun _ _ => .inr (fun h => h)))); have HT := Lib.hid (HT.out.trans t9 (fun _ _ h => h)); have HQ : RowKit.Hid (v4.heap[w4.heap.size]? = some (.cells (rcs X a4 c4) 29 (0, 0))) := Lib.hid (hv4 ▸ heap_alloc_new w4 _); have RQ := Lib.hid (ho.row.2.1.still tA); have HQS : RowKit.Hid (W2.heap.size ≤ w4.heap.size) := Lib.hid t8.size; clear t8 t9 tA ho; simp only [rcs] at hv4; simp only [rcs]))
  have g1 : v4.cell? ⟨w.heap.size, 1, none⟩ = some (.int .i64 v) := cell_of_cells HF.out 1
  clear dv hlead
  go_wp2_with (first
    | (go_at_call 68; (with_reducible refine (KL.out _).mono ?_); rintro e w' ⟨rfl, rfl⟩)
    | (refine store_row rfl 39 (.tmp 4) (.tmp 22) rfl W1.heap.size (f3 0 0 none 0 0) rfl rfl _ _ HZ.out HIF.out rfl rfl ?_))
  refine ret_row1 rfl rfl W1.heap.size 39 (f3 0 0 none 0 0) (0, 0) _ rfl (setRow_heap _ _ _ _ _ _ HZ.out) Try.underlying39 rfl infoFr _ rfl ?_
  rw [HX.out, HMK.out.1, HMK.out.2.1, HMK.out.2.2.1, HMK.out.2.2.2]
  exact ⟨none, 0, rfl, RowB.nil _ _ _ (by omega), HT.out.setRow _ _ (fun h => absurd h (by have := HSZ.out; omega))⟩
set_option maxRecDepth 20000 in
set_option maxHeartbeats 4000000 in
theorem rmframe_lead (k v : Int) (t : Int) (a : Option Addr) (cap : Nat) (xs : List Nat) (w : World) (hrow : RowB w a xs.length cap xs) (hlen : xs.length ≤ 140737488355328) (hd : decE k v xs = 0) (hlead : leadB v t = false) :
    Calls Try.prog 36 #[.agg (f3 k v a xs.length cap), .int .i64 t] w (MFIs w k v t xs) := by
  obtain ⟨W1, hW1⟩ : ∃ W, w.alloc (.cells (f3 k v a xs.length cap) 39) = W := ⟨_, rfl⟩
  obtain ⟨W2, hW2⟩ : ∃ W, W1.alloc (.cells #[.int .i64 0, .int .i64 0, .slice none 0 0] 39) = W := ⟨_, rfl⟩
  have t1 : Touch w W1 (fun _ => False) := hW1 ▸ (Touch.refl _ _).alloc _
  have t2 : Touch W1 W2 (fun _ => False) := hW2 ▸ (Touch.refl _ _).alloc _
  have HF : RowKit.Hid (W2.heap[w.heap.size]? = some (.cells (f3 k v a xs.length cap) 39 (0, 0))) := Lib.hid (t2.keeps (hW1 ▸ heap_alloc_new w _) (fun h => h))
  have HZ : RowKit.Hid (W2.heap[W1.heap.size]? = some (.cells (f3 0 0 none 0 0) 39 (0, 0))) := Lib.hid (hW2 ▸ heap_alloc_new W1 _)
  have HT := Lib.hid (t1.trans t2 (fun _ _ h => h))
  have HY := Lib.hid ((hrow.touch t1 (fun _ _ => .inr (fun h => h))).touch t2 (fun _ _ => .inr (fun h => h)))
  have HIR := Lib.hid infoRec
  have HIF := Lib.hid infoFr
  have HSZ : RowKit.Hid (w.heap.size < W1.heap.size ∧ W1.heap.size < W2.heap.size) := Lib.hid ⟨by rw [← hW1]; simp, by rw [← hW2]; simp⟩
  have HX : RowKit.Hid (∀ e w', MFIs w k v t xs e w' = ∃ (a' : Option Addr) (c' : Nat), e = .returned (.tuple #[.agg (f3 (mfK k v t xs) (mfV k v t xs) a' (mfB k v t xs).length c'), .int .i64 (mfE k v t xs)]) ∧ RowB w' a' (mfB k v t xs).length c' (mfB k v t xs) ∧ Touch w w' (fun _ => False)) := Lib.hid (fun _ _ => rfl)
  obtain ⟨E1, hE1⟩ : ∃ E, decE k v xs = E := ⟨_, rfl⟩
  obtain ⟨X, hX⟩ : ∃ X, decR k v xs = X := ⟨_, rfl⟩
  have HMK : RowKit.Hid (mfK k v t xs = 0 ∧ mfV k v t xs = 0 ∧ mfB k v t xs = [] ∧ mfE k v t xs = 10) := Lib.hid (by
    have hg : mfG k v t xs = false := by unfold mfG; rw [hlead, Bool.and_false]
    refine ⟨by unfold mfK; rw [hg]; rfl, by unfold mfV; rw [hg]; rfl, by unfold mfB; rw [hg]; rfl, by unfold mfE; rw [if_pos hd, hlead]; rfl⟩)
  have KD : RowKit.Hid (∀ W, RowB W a xs.length cap xs → Calls Try.prog 28 #[.agg (f3 k v a xs.length cap)] W fun e w' => ∃ a' c', e = .returned (.tuple #[.agg (rcs X a' c'), .int .i64 E1]) ∧ OwnK w' W.heap.size (.slice a' X.bs.length c') X.bs ∧ Touch W w' (fun _ => False)) := Lib.hid (fun W h => by
    have := rdec_any k v a cap xs W h hlen
    unfold DecIs at this
    rw [hE1, hX] at this
    exact this)
  rw [← hE1, hd] at KD
  have dv := (decE_zero hd).1
  clear hrow t1 t2 hd hE1 hX hlen
  generalize MFIs w k v t xs = Y at *
  simp only [f3] at hW1
  go_enter Try.func36, Try.ntmps36
  simp only [f3]
  go_upto_region 4 with (first
    | (refine wpList_load_row rfl 39 (.tmp 2) rfl w.heap.size rfl _ _ _ _ HF.out Try.underlying39 rfl HIF.out ?_)
    | (go_at_call 28; (with_reducible refine (KD.out _ HY.out).mono ?_); rintro e w4 ⟨a4, c4, rfl, ho, t8⟩; obtain ⟨v4, hv4⟩ : ∃ W, w4.alloc (.cells (rcs X a4 c4) 29) = W := ⟨_, rfl⟩; have tA : Touch w4 v4 (fun _ => False) := hv4 ▸ (Touch.refl w4 (fun _ => False)).alloc (.cells (rcs X a4 c4) 29); have t9 := t8.trans tA (fun _ _ h => h); (try have HF := Lib.hid (t9.keeps HF.out (fun h => h))); (try have HZ := Lib.hid (t9.keeps HZ.out (fun h => h))); (try have HQ := Lib.hid (t9.keeps HQ.out (fun h => h))); (try have RQ := Lib.hid (RQ.out.still t9)); (try have HY := Lib.hid (HY.out.touch t9 (fun _ _ => .inr (fun h => h)))); have HT := Lib.hid (HT.out.trans t9 (fun _ _ h => h)); have HQ : RowKit.Hid (v4.heap[w4.heap.size]? = some (.cells (rcs X a4 c4) 29 (0, 0))) := Lib.hid (hv4 ▸ heap_alloc_new w4 _); have RQ := Lib.hid (ho.row.2.1.still tA); have HQS : RowKit.Hid (W2.heap.size ≤ w4.heap.size) := Lib.hid t8.size; clear t8 t9 tA ho; simp only [rcs] at hv4; simp only [rcs]))
  have g1 : v4.cell? ⟨w.heap.size, 1, none⟩ = some (.int .i64 v) := cell_of_cells HF.out 1
  have hvv := (verB_iff v).1 dv
  have hnl : ¬ (1 ≤ v ∧ v ≤ t ∧ t ≤ 3) := fun h => by rw [(leadB_iff v t).2 h] at hlead; cases hlead
  cases hvt : verB t with
  | false =>
    have KV : RowKit.Hid (∀ W, Calls Try.prog 51 #[.int .i64 t] W fun e w' => e = .returned (.bool false) ∧ W = w') := Lib.hid (fun W => (rversion_any t W).mono fun e w' h => ⟨hvt ▸ h.1, h.2.symm⟩)
    clear dv hlead hnl hvv hvt
    go_wp2_with (first
      | (go_at_call 51; (with_reducible refine (KV.out _).mono ?_); rintro e w' ⟨rfl, rfl⟩)
      | (refine store_row rfl 39 (.tmp 4) (.tmp 26) rfl W1.heap.size (f3 0 0 none 0 0) rfl rfl _ _ HZ.out HIF.out rfl rfl ?_))
    refine ret_row1 rfl rfl W1.heap.size 39 (f3 0 0 none 0 0) (0, 0) _ rfl (setRow_heap _ _ _ _ _ _ HZ.out) Try.underlying39 rfl infoFr _ rfl ?_
    rw [HX.out, HMK.out.1, HMK.out.2.1, HMK.out.2.2.1, HMK.out.2.2.2]
    exact ⟨none, 0, rfl, RowB.nil _ _ _ (by omega), HT.out.setRow _ _ (fun h => absurd h (by have := HSZ.out; omega))⟩
  | true =>
    have KV : RowKit.Hid (∀ W, Calls Try.prog 51 #[.int .i64 t] W fun e w' => e = .returned (.bool true) ∧ W = w') := Lib.hid (fun W => (rversion_any t W).mono fun e w' h => ⟨hvt ▸ h.1, h.2.symm⟩)
    have hvt' := (verB_iff t).1 hvt
    have hlt : t < v := by omega
    clear dv hlead hnl hvv hvt hvt'
    go_wp2_with (first
      | (go_at_call 51; (with_reducible refine (KV.out _).mono ?_); rintro e w' ⟨rfl, rfl⟩)
      | (refine store_row rfl 39 (.tmp 4) (.tmp 26) rfl W1.heap.size (f3 0 0 none 0 0) rfl rfl _ _ HZ.out HIF.out rfl rfl ?_))
    refine ret_row1 rfl rfl W1.heap.size 39 (f3 0 0 none 0 0) (0, 0) _ rfl (setRow_heap _ _ _ _ _ _ HZ.out) Try.underlying39 rfl infoFr _ rfl ?_
    rw [HX.out, HMK.out.1, HMK.out.2.1, HMK.out.2.2.1, HMK.out.2.2.2]
    exact ⟨none, 0, rfl, RowB.nil _ _ _ (by omega), HT.out.setRow _ _ (fun h => absurd h (by have := HSZ.out; omega))⟩
set_option maxRecDepth 20000 in
set_option maxHeartbeats 8000000 in
theorem mframe_good (k v : Int) (t : Int) (a : Option Addr) (cap : Nat) (xs : List Nat) (w : World) (hrow : RowB w a xs.length cap xs) (hlen : xs.length ≤ 140737488355328) (hk : i64 k) (hd : decE k v xs = 0) (hlead : leadB v t = true) :
    Calls Try.prog 35 #[.agg (f3 k v a xs.length cap), .int .i64 t] w (MFIs w k v t xs) := by
  obtain ⟨W1, hW1⟩ : ∃ W, w.alloc (.cells (f3 k v a xs.length cap) 39) = W := ⟨_, rfl⟩
  obtain ⟨W2, hW2⟩ : ∃ W, W1.alloc (.cells #[.int .i64 0, .int .i64 0, .slice none 0 0] 39) = W := ⟨_, rfl⟩
  have t1 : Touch w W1 (fun _ => False) := hW1 ▸ (Touch.refl _ _).alloc _
  have t2 : Touch W1 W2 (fun _ => False) := hW2 ▸ (Touch.refl _ _).alloc _
  have HF : RowKit.Hid (W2.heap[w.heap.size]? = some (.cells (f3 k v a xs.length cap) 39 (0, 0))) := Lib.hid (t2.keeps (hW1 ▸ heap_alloc_new w _) (fun h => h))
  have HZ : RowKit.Hid (W2.heap[W1.heap.size]? = some (.cells (f3 0 0 none 0 0) 39 (0, 0))) := Lib.hid (hW2 ▸ heap_alloc_new W1 _)
  have HT := Lib.hid (t1.trans t2 (fun _ _ h => h))
  have HY := Lib.hid ((hrow.touch t1 (fun _ _ => .inr (fun h => h))).touch t2 (fun _ _ => .inr (fun h => h)))
  have HIR := Lib.hid infoRec
  have HIF := Lib.hid infoFr
  have HSZ : RowKit.Hid (w.heap.size < W1.heap.size ∧ W1.heap.size < W2.heap.size) := Lib.hid ⟨by rw [← hW1]; simp, by rw [← hW2]; simp⟩
  have HX : RowKit.Hid (∀ e w', MFIs w k v t xs e w' = ∃ (a' : Option Addr) (c' : Nat), e = .returned (.tuple #[.agg (f3 (mfK k v t xs) (mfV k v t xs) a' (mfB k v t xs).length c'), .int .i64 (mfE k v t xs)]) ∧ RowB w' a' (mfB k v t xs).length c' (mfB k v t xs) ∧ Touch w w' (fun _ => False)) := Lib.hid (fun _ _ => rfl)
  obtain ⟨E1, hE1⟩ : ∃ E, decE k v xs = E := ⟨_, rfl⟩
  obtain ⟨X, hX⟩ : ∃ X, decR k v xs = X := ⟨_, rfl⟩
  obtain ⟨dv, db⟩ := decE_zero hd
  have hsm := hrow.2.2.2.2.1
  obtain ⟨d1, d2, d3⟩ := dec_enc k v xs hsm dv db
  have hXd : decD k v xs = X := by rw [← hX]; unfold decR; rw [if_pos hd]
  have hXo := decD_ok k v xs hk hsm dv
  have hXl : X.bs.length ≤ 100000 := by
    have h1 := rawD_len k v xs hsm
    rw [← hXd, dec_parts k v xs dv]
    simp only
    split
    · rw [List.length_map]; omega
    · omega
  rw [hXd] at d1 d2 d3 hXo
  have hmm := mov_may X v t hlead d2
  have hmo := movD_ok hXo v t
  have hml := mov_less X v t
  obtain ⟨q, hq⟩ : ∃ q, movD X v t = q := ⟨_, rfl⟩
  rw [hq] at hmm hmo hml
  have hvt : verB t = true := (verB_iff t).2 (by have := (leadB_iff v t).1 hlead; omega)
  obtain ⟨ys, hys⟩ : ∃ ys, bodyF q t = ys := ⟨_, rfl⟩
  obtain ⟨L, hL⟩ : ∃ n, ys.length = n := ⟨_, rfl⟩
  have hE0 : encE q t = 0 := by unfold encE; rw [if_pos hvt, if_pos hmm]
  have HMK : RowKit.Hid (mfK k v t xs = q.kind ∧ mfV k v t xs = t ∧ mfB k v t xs = ys ∧ mfE k v t xs = 0) := Lib.hid (by
    have hg : mfG k v t xs = true := by unfold mfG; rw [decide_eq_true hd, hlead]; rfl
    have hr : mfR k v t xs = q := by unfold mfR; rw [hXd, hq]
    refine ⟨by unfold mfK; rw [if_pos hg, hr]; unfold encK; rw [if_pos hE0], by unfold mfV; rw [if_pos hg, hr]; unfold encV; rw [if_pos hE0], by unfold mfB; rw [if_pos hg, hr]; unfold encB; rw [if_pos hE0, hys], by unfold mfE; rw [if_pos hd, if_pos hlead, hr, hE0]⟩)
  have HLY := Lib.hid hL
  have KD : RowKit.Hid (∀ W, RowB W a xs.length cap xs → Calls Try.prog 27 #[.agg (f3 k v a xs.length cap)] W fun e w' => ∃ a' c', e = .returned (.tuple #[.agg (rcs X a' c'), .int .i64 E1]) ∧ OwnK w' W.heap.size (.slice a' X.bs.length c') X.bs ∧ Touch W w' (fun _ => False)) := Lib.hid (fun W h => by
    have := dec_any k v a cap xs W h hlen
    unfold DecIs at this
    rw [hE1, hX] at this
    exact this)
  rw [← hE1, hd] at KD
  have KE : RowKit.Hid (∀ (a3 : Option Addr) (c3 : Nat) W, RowK W a3 q.bs.length c3 q.bs → Calls Try.prog 24 #[.agg (rcs q a3 c3), .int .i64 t] W fun e w' => ∃ a' c', e = .returned (.tuple #[.agg (f3 q.kind t a' L c'), .int .i64 0]) ∧ FreshB W w' (.slice a' L c') ys ∧ Touch W w' (fun _ => False)) := Lib.hid (fun a3 c3 W h => by
    refine (enc_any q a3 c3 t W h hmo).mono ?_
    rintro e w' ⟨a1, c1, rfl, hf⟩
    have k1 : encK q t = q.kind := by unfold encK; rw [if_pos hE0]
    have k2 : encV q t = t := by unfold encV; rw [if_pos hE0]
    have k3 : encB q t = ys := by unfold encB; rw [if_pos hE0, hys]
    rw [hE0, k1, k2]
    rw [k3] at hf ⊢
    rw [hL] at hf ⊢
    exact ⟨a1, c1, rfl, hf, hf.2⟩)
  have KL : RowKit.Hid (∀ W, Calls Try.prog 68 #[.int .i64 v, .int .i64 t] W fun e w' => e = .returned (.bool true) ∧ W = w') := Lib.hid (fun W => hlead ▸ leads_any v t W)
  have KM : RowKit.Hid (∀ (a3 : Option Addr) (c3 : Nat) W, RowK W a3 X.bs.length c3 X.bs → Calls Try.prog 69 #[.agg (rcs X a3 c3), .int .i64 v, .int .i64 t] W fun e w' => RecIs W w' q e) := Lib.hid (fun a3 c3 W h => hq ▸ moved_any X a3 c3 v t hlead W h hXl)
  clear hrow t1 t2 hd hE1 hX hlen hlead dv db hsm d1 d2 d3 hXd hXo hXl hmm hmo hml hq hvt hys hL hE0 hk
  generalize MFIs w k v t xs = Y at *
  simp only [f3] at hW1
  go_enter Try.func35, Try.ntmps35
  simp only [f3]
  go_upto_region 4 with (first
    | (refine wpList_load_row rfl 39 (.tmp 2) rfl w.heap.size rfl _ _ _ _ HF.out Try.underlying39 rfl HIF.out ?_)
    | (go_at_call 27; (with_reducible refine (KD.out _ HY.out).mono ?_); rintro e w4 ⟨a4, c4, rfl, ho, t8⟩; obtain ⟨v4, hv4⟩ : ∃ W, w4.alloc (.cells (rcs X a4 c4) 29) = W := ⟨_, rfl⟩; have tA : Touch w4 v4 (fun _ => False) := hv4 ▸ (Touch.refl w4 (fun _ => False)).alloc (.cells (rcs X a4 c4) 29); have t9 := t8.trans tA (fun _ _ h => h); (try have HF := Lib.hid (t9.keeps HF.out (fun h => h))); (try have HZ := Lib.hid (t9.keeps HZ.out (fun h => h))); (try have HQ := Lib.hid (t9.keeps HQ.out (fun h => h))); (try have RQ := Lib.hid (RQ.out.still t9)); (try have HY := Lib.hid (HY.out.touch t9 (fun _ _ => .inr (fun h => h)))); have HT := Lib.hid (HT.out.trans t9 (fun _ _ h => h)); have HQ : RowKit.Hid (v4.heap[w4.heap.size]? = some (.cells (rcs X a4 c4) 29 (0, 0))) := Lib.hid (hv4 ▸ heap_alloc_new w4 _); have RQ := Lib.hid (ho.row.2.1.still tA); have HQS : RowKit.Hid (W2.heap.size ≤ w4.heap.size) := Lib.hid t8.size; clear t8 t9 tA ho; simp only [rcs] at hv4; simp only [rcs]))
  have g1 : v4.cell? ⟨w.heap.size, 1, none⟩ = some (.int .i64 v) := cell_of_cells HF.out 1
  go_wp2_with (first
    | (go_at_call 68; (with_reducible refine (KL.out _).mono ?_); rintro e w' ⟨rfl, rfl⟩)
    | (refine wpList_load_row rfl 29 (.tmp 6) rfl w4.heap.size rfl _ _ _ _ HQ.out Try.underlying29 rfl HIR.out ?_)
    | (go_at_call 69; (with_reducible refine (KM.out _ _ _ RQ.out).mono ?_); rintro e w5 ⟨a5, c5, rfl, ho, t9⟩; (try have HF := Lib.hid (t9.keeps HF.out (fun h => h))); (try have HZ := Lib.hid (t9.keeps HZ.out (fun h => h))); (try have HQ := Lib.hid (t9.keeps HQ.out (fun h => h))); (try have RQ := Lib.hid (RQ.out.still t9)); (try have HY := Lib.hid (HY.out.touch t9 (fun _ _ => .inr (fun h => h)))); have HT := Lib.hid (HT.out.trans t9 (fun _ _ h => h)); have RM := Lib.hid ho.row.2.1; have HS5 : RowKit.Hid (W2.heap.size ≤ w5.heap.size) := Lib.hid (by have := heap_lt HQ.out; have := HQS.out; omega); clear ho t9)
    | (go_at_call 24; (with_reducible refine (KE.out _ _ _ RM.out).mono ?_); rintro e w6 ⟨a6, c6, rfl, hf, t9⟩; (try have HF := Lib.hid (t9.keeps HF.out (fun h => h))); (try have HZ := Lib.hid (t9.keeps HZ.out (fun h => h))); (try have HQ := Lib.hid (t9.keeps HQ.out (fun h => h))); (try have RQ := Lib.hid (RQ.out.still t9)); (try have HY := Lib.hid (HY.out.touch t9 (fun _ _ => .inr (fun h => h)))); have HT := Lib.hid (HT.out.trans t9 (fun _ _ h => h)); have HFR := Lib.hid hf; clear hf t9)
    | (refine store_row rfl 39 (.tmp 4) (.tmp 30) rfl W1.heap.size (f3 q.kind t a6 L c6) rfl rfl _ _ HZ.out HIF.out rfl rfl ?_))
  refine ret_row1 rfl rfl W1.heap.size 39 (f3 q.kind t a6 L c6) (0, 0) _ rfl (setRow_heap _ _ _ _ _ _ HZ.out) Try.underlying39 rfl infoFr _ rfl ?_
  rw [HX.out, HMK.out.1, HMK.out.2.1, HMK.out.2.2.1, HMK.out.2.2.2, HLY.out]
  exact ⟨a6, c6, rfl, (fresh_row HFR.out HLY.out).touch ((Touch.refl _ (fun k => k = W1.heap.size)).setRow _ _ (fun _ => rfl)) (fun x hx => .inr (fun h => by have h1 := (HFR.out.1.own.lt x.block (by rw [hx]; rfl)).1; have := HSZ.out; have := HS5.out; omega)), HT.out.setRow _ _ (fun h => absurd h (by have := HSZ.out; omega))⟩
theorem mframe_any (k v : Int) (t : Int) (a : Option Addr) (cap : Nat) (xs : List Nat) (w : World) (hrow : RowB w a xs.length cap xs) (hlen : xs.length ≤ 140737488355328) (hk : i64 k) :
    Calls Try.prog 35 #[.agg (f3 k v a xs.length cap), .int .i64 t] w (MFIs w k v t xs) := by
  by_cases hd : decE k v xs = 0
  · cases hl : leadB v t with
    | true => exact mframe_good k v t a cap xs w hrow hlen hk hd hl
    | false => exact mframe_lead k v t a cap xs w hrow hlen hd hl
  · exact mframe_bad k v t a cap xs w hrow hlen hd
set_option maxRecDepth 20000 in
set_option maxHeartbeats 8000000 in
theorem rmframe_good (k v : Int) (t : Int) (a : Option Addr) (cap : Nat) (xs : List Nat) (w : World) (hrow : RowB w a xs.length cap xs) (hlen : xs.length ≤ 140737488355328) (hk : i64 k) (hd : decE k v xs = 0) (hlead : leadB v t = true) :
    Calls Try.prog 36 #[.agg (f3 k v a xs.length cap), .int .i64 t] w (MFIs w k v t xs) := by
  obtain ⟨W1, hW1⟩ : ∃ W, w.alloc (.cells (f3 k v a xs.length cap) 39) = W := ⟨_, rfl⟩
  obtain ⟨W2, hW2⟩ : ∃ W, W1.alloc (.cells #[.int .i64 0, .int .i64 0, .slice none 0 0] 39) = W := ⟨_, rfl⟩
  have t1 : Touch w W1 (fun _ => False) := hW1 ▸ (Touch.refl _ _).alloc _
  have t2 : Touch W1 W2 (fun _ => False) := hW2 ▸ (Touch.refl _ _).alloc _
  have HF : RowKit.Hid (W2.heap[w.heap.size]? = some (.cells (f3 k v a xs.length cap) 39 (0, 0))) := Lib.hid (t2.keeps (hW1 ▸ heap_alloc_new w _) (fun h => h))
  have HZ : RowKit.Hid (W2.heap[W1.heap.size]? = some (.cells (f3 0 0 none 0 0) 39 (0, 0))) := Lib.hid (hW2 ▸ heap_alloc_new W1 _)
  have HT := Lib.hid (t1.trans t2 (fun _ _ h => h))
  have HY := Lib.hid ((hrow.touch t1 (fun _ _ => .inr (fun h => h))).touch t2 (fun _ _ => .inr (fun h => h)))
  have HIR := Lib.hid infoRec
  have HIF := Lib.hid infoFr
  have HSZ : RowKit.Hid (w.heap.size < W1.heap.size ∧ W1.heap.size < W2.heap.size) := Lib.hid ⟨by rw [← hW1]; simp, by rw [← hW2]; simp⟩
  have HX : RowKit.Hid (∀ e w', MFIs w k v t xs e w' = ∃ (a' : Option Addr) (c' : Nat), e = .returned (.tuple #[.agg (f3 (mfK k v t xs) (mfV k v t xs) a' (mfB k v t xs).length c'), .int .i64 (mfE k v t xs)]) ∧ RowB w' a' (mfB k v t xs).length c' (mfB k v t xs) ∧ Touch w w' (fun _ => False)) := Lib.hid (fun _ _ => rfl)
  obtain ⟨E1, hE1⟩ : ∃ E, decE k v xs = E := ⟨_, rfl⟩
  obtain ⟨X, hX⟩ : ∃ X, decR k v xs = X := ⟨_, rfl⟩
  obtain ⟨dv, db⟩ := decE_zero hd
  have hsm := hrow.2.2.2.2.1
  obtain ⟨d1, d2, d3⟩ := dec_enc k v xs hsm dv db
  have hXd : decD k v xs = X := by rw [← hX]; unfold decR; rw [if_pos hd]
  have hXo := decD_ok k v xs hk hsm dv
  have hXl : X.bs.length ≤ 100000 := by
    have h1 := rawD_len k v xs hsm
    rw [← hXd, dec_parts k v xs dv]
    simp only
    split
    · rw [List.length_map]; omega
    · omega
  rw [hXd] at d1 d2 d3 hXo
  have hmm := mov_may X v t hlead d2
  have hmo := movD_ok hXo v t
  have hml := mov_less X v t
  obtain ⟨q, hq⟩ : ∃ q, movD X v t = q := ⟨_, rfl⟩
  rw [hq] at hmm hmo hml
  have hvt : verB t = true := (verB_iff t).2 (by have := (leadB_iff v t).1 hlead; omega)
  obtain ⟨ys, hys⟩ : ∃ ys, bodyF q t = ys := ⟨_, rfl⟩
  obtain ⟨L, hL⟩ : ∃ n, ys.length = n := ⟨_, rfl⟩
  have hE0 : encE q t = 0 := by unfold encE; rw [if_pos hvt, if_pos hmm]
  have HMK : RowKit.Hid (mfK k v t xs = q.kind ∧ mfV k v t xs = t ∧ mfB k v t xs = ys ∧ mfE k v t xs = 0) := Lib.hid (by
    have hg : mfG k v t xs = true := by unfold mfG; rw [decide_eq_true hd, hlead]; rfl
    have hr : mfR k v t xs = q := by unfold mfR; rw [hXd, hq]
    refine ⟨by unfold mfK; rw [if_pos hg, hr]; unfold encK; rw [if_pos hE0], by unfold mfV; rw [if_pos hg, hr]; unfold encV; rw [if_pos hE0], by unfold mfB; rw [if_pos hg, hr]; unfold encB; rw [if_pos hE0, hys], by unfold mfE; rw [if_pos hd, if_pos hlead, hr, hE0]⟩)
  have HLY := Lib.hid hL
  have KD : RowKit.Hid (∀ W, RowB W a xs.length cap xs → Calls Try.prog 28 #[.agg (f3 k v a xs.length cap)] W fun e w' => ∃ a' c', e = .returned (.tuple #[.agg (rcs X a' c'), .int .i64 E1]) ∧ OwnK w' W.heap.size (.slice a' X.bs.length c') X.bs ∧ Touch W w' (fun _ => False)) := Lib.hid (fun W h => by
    have := rdec_any k v a cap xs W h hlen
    unfold DecIs at this
    rw [hE1, hX] at this
    exact this)
  rw [← hE1, hd] at KD
  have KE : RowKit.Hid (∀ (a3 : Option Addr) (c3 : Nat) W, RowK W a3 q.bs.length c3 q.bs → Calls Try.prog 25 #[.agg (rcs q a3 c3), .int .i64 t] W fun e w' => ∃ a' c', e = .returned (.tuple #[.agg (f3 q.kind t a' L c'), .int .i64 0]) ∧ FreshB W w' (.slice a' L c') ys ∧ Touch W w' (fun _ => False)) := Lib.hid (fun a3 c3 W h => by
    refine (renc_any q a3 c3 t W h hmo (by omega)).mono ?_
    rintro e w' ⟨a1, c1, rfl, hf⟩
    have k1 : encK q t = q.kind := by unfold encK; rw [if_pos hE0]
    have k2 : encV q t = t := by unfold encV; rw [if_pos hE0]
    have k3 : encB q t = ys := by unfold encB; rw [if_pos hE0, hys]
    rw [hE0, k1, k2]
    rw [k3] at hf ⊢
    rw [hL] at hf ⊢
    exact ⟨a1, c1, rfl, hf, hf.2⟩)
  have KV : RowKit.Hid (∀ W, Calls Try.prog 51 #[.int .i64 t] W fun e w' => e = .returned (.bool true) ∧ W = w') := Lib.hid (fun W => (rversion_any t W).mono fun e w' h => ⟨hvt ▸ h.1, h.2.symm⟩)
  have KM : RowKit.Hid (∀ (a3 : Option Addr) (c3 : Nat) W, RowK W a3 X.bs.length c3 X.bs → Calls Try.prog 32 #[.agg (rcs X a3 c3), .int .i64 v, .int .i64 t] W fun e w' => ∃ (a' : Option Addr) (c' : Nat), e = .returned (.tuple #[.agg (rcs q a' c'), .int .i64 0]) ∧ OwnK w' W.heap.size (.slice a' q.bs.length c') q.bs ∧ Touch W w' (fun _ => False)) := Lib.hid (fun a3 c3 W h => by
    have h1 := rmig_any X a3 c3 v t W h hXl
    unfold MigIs at h1
    have he : migE X v t = 0 := by unfold migE; rw [if_pos hlead, if_pos d2]
    have hr : migR X v t = q := by unfold migR; rw [if_pos he, hq]
    rw [he, hr] at h1
    exact h1)
  have hnl : ¬ t < v := by have := (leadB_iff v t).1 hlead; omega
  have HIQ : RowKit.Hid ((Try.prog.info? 29).map (·.size) = some (rcs q none 0).size) := Lib.hid infoRec
  clear hrow t1 t2 hd hE1 hX hlen hlead dv db hsm d1 d2 d3 hXd hXo hXl hmm hmo hml hq hvt hys hL hE0 hk
  generalize MFIs w k v t xs = Y at *
  simp only [f3] at hW1
  go_enter Try.func36, Try.ntmps36
  simp only [f3]
  go_upto_region 4 with (first
    | (refine wpList_load_row rfl 39 (.tmp 2) rfl w.heap.size rfl _ _ _ _ HF.out Try.underlying39 rfl HIF.out ?_)
    | (go_at_call 28; (with_reducible refine (KD.out _ HY.out).mono ?_); rintro e w4 ⟨a4, c4, rfl, ho, t8⟩; obtain ⟨v4, hv4⟩ : ∃ W, w4.alloc (.cells (rcs X a4 c4) 29) = W := ⟨_, rfl⟩; have tA : Touch w4 v4 (fun _ => False) := hv4 ▸ (Touch.refl w4 (fun _ => False)).alloc (.cells (rcs X a4 c4) 29); have t9 := t8.trans tA (fun _ _ h => h); (try have HF := Lib.hid (t9.keeps HF.out (fun h => h))); (try have HZ := Lib.hid (t9.keeps HZ.out (fun h => h))); (try have HQ := Lib.hid (t9.keeps HQ.out (fun h => h))); (try have RQ := Lib.hid (RQ.out.still t9)); (try have HY := Lib.hid (HY.out.touch t9 (fun _ _ => .inr (fun h => h)))); have HT := Lib.hid (HT.out.trans t9 (fun _ _ h => h)); have HQ : RowKit.Hid (v4.heap[w4.heap.size]? = some (.cells (rcs X a4 c4) 29 (0, 0))) := Lib.hid (hv4 ▸ heap_alloc_new w4 _); have RQ := Lib.hid (ho.row.2.1.still tA); have HQS : RowKit.Hid (W2.heap.size ≤ w4.heap.size) := Lib.hid t8.size; clear t8 t9 tA ho; simp only [rcs] at hv4; simp only [rcs]))
  have g1 : v4.cell? ⟨w.heap.size, 1, none⟩ = some (.int .i64 v) := cell_of_cells HF.out 1
  go_upto_region 7 with (first
    | (go_at_call 51; (with_reducible refine (KV.out _).mono ?_); rintro e w' ⟨rfl, rfl⟩)
    | (refine wpList_load_row rfl 29 (.tmp 6) rfl w4.heap.size rfl _ _ _ _ HQ.out Try.underlying29 rfl HIR.out ?_)
    | (go_at_call 32; (with_reducible refine (KM.out _ _ _ RQ.out).mono ?_); rintro e w5 ⟨a5, c5, rfl, ho, t9⟩; (try have HF := Lib.hid (t9.keeps HF.out (fun h => h))); (try have HZ := Lib.hid (t9.keeps HZ.out (fun h => h))); (try have HQ := Lib.hid (t9.keeps HQ.out (fun h => h))); (try have RQ := Lib.hid (RQ.out.still t9)); (try have HY := Lib.hid (HY.out.touch t9 (fun _ _ => .inr (fun h => h)))); have HT := Lib.hid (HT.out.trans t9 (fun _ _ h => h)); have HOM := Lib.hid ho; have HS5 : RowKit.Hid (W2.heap.size ≤ w5.heap.size) := Lib.hid (by have := heap_lt HQ.out; have := HQS.out; omega); have HL4 : RowKit.Hid (w4.heap.size < v4.heap.size) := Lib.hid (by rw [← hv4]; simp); clear ho t9)
    | (refine store_row rfl 29 (.tmp 6) (.tmp 33) rfl w4.heap.size (rcs q a5 c5) rfl rfl _ _ HQ.out HIQ.out rfl rfl ?_))
  obtain ⟨W9, hW9⟩ : ∃ W, w5.setRow w4.heap.size (rcs q a5 c5) = W := ⟨_, rfl⟩
  have t9 : Touch w5 W9 (fun k => k = w4.heap.size) := hW9 ▸ (Touch.refl w5 _).setRow _ _ (fun _ => rfl)
  have HQ : RowKit.Hid (W9.heap[w4.heap.size]? = some (.cells (rcs q a5 c5) 29 (0, 0))) := Lib.hid (hW9 ▸ setRow_heap _ _ _ _ _ _ HQ.out)
  have HZ := Lib.hid (t9.keeps HZ.out (fun h => by have := HSZ.out; have := HQS.out; omega))
  have RM : RowKit.Hid (RowK W9 a5 q.bs.length c5 q.bs) := Lib.hid (HOM.out.touch t9 (fun x hx h => by have h1 := (HOM.out.own.lt x hx).1; have := HL4.out; omega)).row.2.1
  have HT : RowKit.Hid (Touch w W9 (fun _ => False)) := Lib.hid (HT.out.trans t9 (fun k hk h => by have := HSZ.out; have := HQS.out; omega))
  have HS5 : RowKit.Hid (W2.heap.size ≤ W9.heap.size) := Lib.hid (Nat.le_trans HS5.out t9.size)
  rw [hW9]
  clear t9 hW9 HF HY RQ
  go_wp2_with (first
    | (refine wpList_load_row rfl 29 (.tmp 6) rfl w4.heap.size rfl _ _ _ _ HQ.out Try.underlying29 rfl HIQ.out ?_)
    | (go_at_call 25; (with_reducible refine (KE.out _ _ _ RM.out).mono ?_); rintro e w6 ⟨a6, c6, rfl, hf, t9⟩; (try have HF := Lib.hid (t9.keeps HF.out (fun h => h))); (try have HZ := Lib.hid (t9.keeps HZ.out (fun h => h))); (try have HQ := Lib.hid (t9.keeps HQ.out (fun h => h))); (try have RQ := Lib.hid (RQ.out.still t9)); (try have HY := Lib.hid (HY.out.touch t9 (fun _ _ => .inr (fun h => h)))); have HT := Lib.hid (HT.out.trans t9 (fun _ _ h => h)); have HFR := Lib.hid hf; clear hf t9)
    | (refine store_row rfl 39 (.tmp 4) (.tmp 38) rfl W1.heap.size (f3 q.kind t a6 L c6) rfl rfl _ _ HZ.out HIF.out rfl rfl ?_))
  refine ret_row1 rfl rfl W1.heap.size 39 (f3 q.kind t a6 L c6) (0, 0) _ rfl (setRow_heap _ _ _ _ _ _ HZ.out) Try.underlying39 rfl infoFr _ rfl ?_
  rw [HX.out, HMK.out.1, HMK.out.2.1, HMK.out.2.2.1, HMK.out.2.2.2, HLY.out]
  exact ⟨a6, c6, rfl, (fresh_row HFR.out HLY.out).touch ((Touch.refl _ (fun k => k = W1.heap.size)).setRow _ _ (fun _ => rfl)) (fun x hx => .inr (fun h => by have h1 := (HFR.out.1.own.lt x.block (by rw [hx]; rfl)).1; have := HSZ.out; have := HS5.out; omega)), HT.out.setRow _ _ (fun h => absurd h (by have := HSZ.out; omega))⟩
theorem rmframe_any (k v : Int) (t : Int) (a : Option Addr) (cap : Nat) (xs : List Nat) (w : World) (hrow : RowB w a xs.length cap xs) (hlen : xs.length ≤ 140737488355328) (hk : i64 k) :
    Calls Try.prog 36 #[.agg (f3 k v a xs.length cap), .int .i64 t] w (MFIs w k v t xs) := by
  by_cases hd : decE k v xs = 0
  · cases hl : leadB v t with
    | true => exact rmframe_good k v t a cap xs w hrow hlen hk hd hl
    | false => exact rmframe_lead k v t a cap xs w hrow hlen hd hl
  · exact rmframe_bad k v t a cap xs w hrow hlen hd
end Go.Proofs.Ytbklngcocbnijaa
