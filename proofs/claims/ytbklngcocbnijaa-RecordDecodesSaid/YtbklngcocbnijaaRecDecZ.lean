/- Records: what Decode of package record answers. -/
import Derived.Test.YtbklngcocbnijaaRecRWalkZ
import Derived.Test.YtbklngcocbnijaaRecInZ
import Derived.Laws.EntriesVeiled
import Derived.Deep.RegionHeld3
set_option linter.unusedVariables false
set_option linter.unusedSimpArgs false
namespace Go.Proofs.Ytbklngcocbnijaa
open Go.RowKit

/-- The record that Decode tells. -/
def decR (k v : Int) (xs : List Nat) : RecD := if decE k v xs = 0 then decD k v xs else zeroR
def DecIs (w : World) (k v : Int) (xs : List Nat) (e : Ending) (w' : World) : Prop :=
  ∃ a' c', e = .returned (.tuple #[.agg (rcs (decR k v xs) a' c'), .int .i64 (decE k v xs)]) ∧ OwnK w' w.heap.size (.slice a' (decR k v xs).bs.length c') (decR k v xs).bs ∧ Touch w w' (fun _ => False)
theorem end_iff (n : Nat) (xs : List Nat) : endOf (nxtX n xs).length (nxtE n xs 0) = 0 ↔ n = xs.length := by
  unfold endOf nxtX nxtE
  by_cases h : n ≤ xs.length
  · rw [if_pos h, if_pos h, if_pos rfl, List.length_drop]
    by_cases h2 : xs.length - n = 0
    · rw [if_pos h2]; omega
    · rw [if_neg h2]; omega
  · rw [if_neg h, if_neg h, if_neg (by decide)]; omega

set_option maxRecDepth 20000 in
set_option maxHeartbeats 1000000 in
theorem rcalls_any (G : Nat) (w : World) :
    Calls Try.prog 60 #[rdS G] w fun e w' => e = .returned (.agg (rdC G)) ∧ Touch w w' (fun _ => False) := by
  unfold rdS
  go_enter Try.func60, Try.ntmps60
  go_wp2
  refine ret_row rfl rfl (w.heap.size + 1) 76 (rdC G) (0, 0) _ rfl (heap_two _ _ _) Try.underlying76 rfl infoCl ?_
  exact ⟨rfl, still2 _ _ _⟩

set_option maxRecDepth 20000 in
set_option maxHeartbeats 4000000 in
theorem dec_ver (k v : Int) (a : Option Addr) (cap : Nat) (xs : List Nat) (w : World) (hv : verB v = false) :
    Calls Try.prog 27 #[.agg (f3 k v a xs.length cap)] w (DecIs w k v xs) := by
  have he : decE k v xs = 10 := by unfold decE; rw [hv]; rfl
  have hr : decR k v xs = zeroR := by unfold decR; rw [he]; rfl
  have hX : DecIs w k v xs = fun e w' => ∃ a' c', e = .returned (.tuple #[.agg (rcs zeroR a' c'), .int .i64 10]) ∧ OwnK w' w.heap.size (.slice a' 0 c') [] ∧ Touch w w' (fun _ => False) := by
    funext e w'; unfold DecIs; rw [he, hr]; rfl
  have HX := Lib.hid hX
  have HV : RowKit.Hid (∀ w, Calls Try.prog 50 #[.int .i64 v] w fun e w' => e = .returned (.bool false) ∧ w = w') := Lib.hid (fun w => (isVersion_any v w).mono fun e w' h => ⟨hv ▸ h.1, h.2.symm⟩)
  generalize DecIs w k v xs = X at *
  obtain ⟨W1, hW1⟩ : ∃ W, w.alloc (.cells (f3 k v a xs.length cap) 39) = W := ⟨_, rfl⟩
  obtain ⟨W2, hW2⟩ : ∃ W, W1.alloc (.cells #[.int .i64 0, .int .u32 0, .int .u32 0, .int .i64 0, .int .i64 0, .int .i64 0, .int .i64 0, .int .i64 0, .int .i64 0, .int .i64 0, .slice none 0 0, .int .i64 0, .int .i64 0, .int .i64 0] 29) = W := ⟨_, rfl⟩
  have t1 : Touch w W1 (fun _ => False) := hW1 ▸ (Touch.refl _ _).alloc _
  have t2 : Touch W1 W2 (fun _ => False) := hW2 ▸ (Touch.refl _ _).alloc _
  have HZ : RowKit.Hid (W2.heap[W1.heap.size]? = some (.cells (rcs zeroR none 0) 29 (0, 0))) := Lib.hid (hW2 ▸ heap_alloc_new W1 _)
  have HF := Lib.hid (t2.keeps (hW1 ▸ heap_alloc_new w _ : W1.heap[w.heap.size]? = some (.cells (f3 k v a xs.length cap) 39 (0, 0))) (fun h => h))
  have HT := Lib.hid (t1.trans t2 (fun _ _ h => h))
  have HIR := Lib.hid infoRec
  have HSZ : RowKit.Hid (w.heap.size < W1.heap.size) := Lib.hid (by rw [← hW1]; simp)
  have g1 : W2.cell? ⟨w.heap.size, 1, none⟩ = some (.int .i64 v) := cell_of_cells HF.out 1
  clear hX he hr hv t1 t2
  simp only [f3] at hW1
  simp only [f3]
  go_enter Try.func27, Try.ntmps27
  go_wp2_with (first
    | (go_at_call 50; (with_reducible refine (HV.out _).mono ?_); rintro e w' ⟨rfl, rfl⟩)
    | (refine store_row rfl 29 (.tmp 2) (.tmp 10) rfl W1.heap.size (rcs zeroR none 0) rfl rfl _ _ HZ.out HIR.out rfl rfl ?_))
  refine ret_row1 rfl rfl W1.heap.size 29 (rcs zeroR none 0) (0, 0) _ rfl (setRow_heap _ _ _ _ _ _ HZ.out) Try.underlying29 rfl infoRec _ rfl ?_
  rw [HX.out]
  exact ⟨none, 0, rfl, OwnK.none _ _, HT.out.setRow _ _ (fun h => absurd h (by have := HSZ.out; omega))⟩

set_option maxRecDepth 20000 in
set_option maxHeartbeats 8000000 in
theorem dec_good (k v : Int) (a : Option Addr) (cap : Nat) (xs : List Nat) (w : World) (hv : verB v = true) (hrow : RowB w a xs.length cap xs) (hlen : xs.length ≤ 140737488355328) :
    Calls Try.prog 27 #[.agg (f3 k v a xs.length cap)] w (DecIs w k v xs) := by
  have vv := verB_cases v hv
  have hsm := hrow.2.2.2.2.1
  obtain ⟨n, hn⟩ : ∃ n, lenD k v xs = n := ⟨_, rfl⟩
  obtain ⟨rr, hrr⟩ : ∃ r, rawD k v xs = r := ⟨_, rfl⟩
  have hrl : rr.bs.length ≤ 100000 := by rw [← hrr]; have := rawD_len k v xs hsm; omega
  have hE : decE k v xs = if (n = xs.length ∧ mayRB (inD rr v) = true) then 0 else 3 := by
    unfold decE decB decD
    rw [if_pos hv, hn, hrr]
    by_cases h1 : n = xs.length <;> by_cases h2 : mayRB (inD rr v) = true <;> simp [h1, h2]
  have hX1 : (n = xs.length ∧ mayRB (inD rr v) = true) → DecIs w k v xs = fun e w' => ∃ a' c', e = .returned (.tuple #[.agg (rcs (inD rr v) a' c'), .int .i64 0]) ∧ OwnK w' w.heap.size (.slice a' (inD rr v).bs.length c') (inD rr v).bs ∧ Touch w w' (fun _ => False) := by
    intro h
    have he : decE k v xs = 0 := by rw [hE, if_pos h]
    have hr : decR k v xs = inD rr v := by unfold decR decD; rw [he, if_pos rfl, hrr]
    funext e w'; unfold DecIs; rw [he, hr]
  have hX2 : ¬ (n = xs.length ∧ mayRB (inD rr v) = true) → DecIs w k v xs = fun e w' => ∃ a' c', e = .returned (.tuple #[.agg (rcs zeroR a' c'), .int .i64 3]) ∧ OwnK w' w.heap.size (.slice a' 0 c') [] ∧ Touch w w' (fun _ => False) := by
    intro h
    have he : decE k v xs = 3 := by rw [hE, if_neg h]
    have hr : decR k v xs = zeroR := by unfold decR; rw [he]; rfl
    funext e w'; unfold DecIs; rw [he, hr]; rfl
  have HX1 := Lib.hid hX1
  have HX2 := Lib.hid hX2
  have HV : RowKit.Hid (∀ w, Calls Try.prog 50 #[.int .i64 v] w fun e w' => e = .returned (.bool true) ∧ w = w') := Lib.hid (fun w => (isVersion_any v w).mono fun e w' h => ⟨hv ▸ h.1, h.2.symm⟩)
  have HW : RowKit.Hid (∀ (G R : Nat) (D : Nat → Prop) (W : World), RdD W G D xs 0 → D R → W.heap[R]? = some (.cells (rcs (r0 k) none 0) 29 (0, 0)) →
      Calls Try.prog 53 #[.agg (rdC G), .pointer (some ⟨R, 0, none⟩), .int .i64 v] W fun e w' => e = .returned (.tuple #[]) ∧ ∃ a' c', RdD w' G D (nxtX n xs) (nxtE n xs 0) ∧ w'.heap[R]? = some (.cells (rcs rr a' c') 29 (0, 0)) ∧ RowK w' a' rr.bs.length c' rr.bs ∧ Touch W w' (fun k => k = G ∨ k = R)) := Lib.hid (fun G R D W h1 h2 h3 => by
    have := rwalk_any G R D xs 0 k v vv W h1 h2 h3
    unfold WalkR at this
    rw [hn, hrr] at this
    exact this)
  have HI : RowKit.Hid (∀ (a : Option Addr) (cap : Nat) (W : World), RowK W a rr.bs.length cap rr.bs → Calls Try.prog 22 #[.agg (rcs rr a cap), .int .i64 v] W fun e w' => RecIs W w' (inD rr v) e) := Lib.hid (fun a cap W h => in_any rr a cap v W h hrl)
  have HM : RowKit.Hid (∀ (a : Option Addr) (cap : Nat) (W : World), RowK W a (inD rr v).bs.length cap (inD rr v).bs → Calls Try.prog 18 #[.agg (rcs (inD rr v) a cap)] W fun e w' => e = .returned (.bool (mayRB (inD rr v))) ∧ Touch W w' (fun _ => False)) := Lib.hid (fun a cap W h => mayR_any _ a cap W h)
  have HEI := Lib.hid (end_iff n xs)
  obtain ⟨W1, hW1⟩ : ∃ W, w.alloc (.cells (f3 k v a xs.length cap) 39) = W := ⟨_, rfl⟩
  obtain ⟨W2, hW2⟩ : ∃ W, W1.alloc (.cells #[.int .i64 0, .int .u32 0, .int .u32 0, .int .i64 0, .int .i64 0, .int .i64 0, .int .i64 0, .int .i64 0, .int .i64 0, .int .i64 0, .slice none 0 0, .int .i64 0, .int .i64 0, .int .i64 0] 29) = W := ⟨_, rfl⟩
  have t1 : Touch w W1 (fun _ => False) := hW1 ▸ (Touch.refl _ _).alloc _
  have t2 : Touch W1 W2 (fun _ => False) := hW2 ▸ (Touch.refl _ _).alloc _
  obtain ⟨W3, hW3⟩ : ∃ W, W2.alloc (.cells (rcs (r0 k) none 0) 29) = W := ⟨_, rfl⟩
  have t3 : Touch W2 W3 (fun _ => False) := hW3 ▸ (Touch.refl _ _).alloc _
  have HZ : RowKit.Hid (W3.heap[W1.heap.size]? = some (.cells (rcs zeroR none 0) 29 (0, 0))) := Lib.hid (t3.keeps (hW2 ▸ heap_alloc_new W1 _) (fun h => h))
  have HF := Lib.hid (t3.keeps (t2.keeps (hW1 ▸ heap_alloc_new w _ : W1.heap[w.heap.size]? = some (.cells (f3 k v a xs.length cap) 39 (0, 0))) (fun h => h)) (fun h => h))
  have HR : RowKit.Hid (W3.heap[W2.heap.size]? = some (.cells (rcs (r0 k) none 0) 29 (0, 0))) := Lib.hid (hW3 ▸ heap_alloc_new W2 _)
  have HT := Lib.hid ((t1.trans t2 (fun _ _ h => h)).trans t3 (fun _ _ h => h))
  have HNR : RowKit.Hid (Calls Try.prog 59 #[.slice a xs.length cap] W3 fun e w' => ∃ v, e = .returned v ∧ NewRd W3 w' v xs.length xs) := Lib.hid (newreader_any a _ cap xs W3 (((hrow.touch t1 (fun _ _ => .inr (fun h => h))).touch t2 (fun _ _ => .inr (fun h => h))).touch t3 (fun _ _ => .inr (fun h => h))) hlen)
  have HIR := Lib.hid infoRec
  have HSZ : RowKit.Hid (w.heap.size < W1.heap.size ∧ W1.heap.size < W2.heap.size ∧ W2.heap.size < W3.heap.size) := Lib.hid ⟨by rw [← hW1]; simp, by rw [← hW2]; simp, by rw [← hW3]; simp⟩
  have g1' : W2.cell? ⟨w.heap.size, 1, none⟩ = some (.int .i64 v) := cell_of_cells (t2.keeps (hW1 ▸ heap_alloc_new w _ : W1.heap[w.heap.size]? = some (.cells (f3 k v a xs.length cap) 39 (0, 0))) (fun h => h)) 1
  have g0' : W2.cell? ⟨w.heap.size, 0, none⟩ = some (.int .i64 k) := cell_of_cells (t2.keeps (hW1 ▸ heap_alloc_new w _ : W1.heap[w.heap.size]? = some (.cells (f3 k v a xs.length cap) 39 (0, 0))) (fun h => h)) 0
  have g1 : W3.cell? ⟨w.heap.size, 1, none⟩ = some (.int .i64 v) := cell_of_cells HF.out 1
  have g2 : W3.cell? ⟨w.heap.size, 2, none⟩ = some (.slice a xs.length cap) := cell_of_cells HF.out 2
  generalize DecIs w k v xs = X at *
  clear hX1 hX2 hE hrow hsm t1 t2 t3 vv hv hn hrr hrl hlen
  simp only [f3] at hW1
  simp only [rcs, r0, noT, List.length_nil] at hW3
  simp only [f3]
  have HW3 := Lib.hid hW3
  clear hW3
  go_enter Try.func27, Try.ntmps27
  go_upto_region 4 with (go_at_call 50; (with_reducible refine (HV.out _).mono ?_); rintro e w' ⟨rfl, rfl⟩)
  rw [HW3.out]
  clear g0' g1'
  go_wp2_with (first
    | (go_at_call 59; (with_reducible refine HNR.out.mono ?_); rintro e w4 ⟨u, rfl, G, aG, cG, rfl, hrd, t4, hg4, hA4⟩; have HF := Lib.hid (t4.keeps HF.out (fun h => h)); have HZ := Lib.hid (t4.keeps HZ.out (fun h => h)); have HR := Lib.hid (t4.keeps HR.out (fun h => h)); have HT := Lib.hid (HT.out.trans t4 (fun _ _ h => h)); have HRD : RowKit.Hid (RdD w4 G (fun k => k < W3.heap.size) xs 0) := Lib.hid ⟨by omega, aG, cG, hrd, fun x hx => (hA4 x hx).imp id (fun h => by omega)⟩; have HGG := Lib.hid hg4; clear hrd t4 hg4 hA4 g1 g2))
  have HCL : RowKit.Hid (∀ W, Calls Try.prog 60 #[.agg #[.pointer (some ⟨G, 0, none⟩)]] W fun e w' => e = .returned (.agg (rdC G)) ∧ Touch W w' (fun _ => False)) := Lib.hid (fun W => rcalls_any G W)
  obtain ⟨W5, hW5⟩ : ∃ W, w4.alloc (.cells #[.pointer (some ⟨G, 0, none⟩)] 88) = W := ⟨_, rfl⟩
  have t5 : Touch w4 W5 (fun _ => False) := hW5 ▸ (Touch.refl _ _).alloc _
  have HB : RowKit.Hid (W5.heap[w4.heap.size]? = some (.cells #[.pointer (some ⟨G, 0, none⟩)] 88 (0, 0))) := Lib.hid (hW5 ▸ heap_alloc_new w4 _)
  have HBS : RowKit.Hid (W3.heap.size ≤ w4.heap.size ∧ G < w4.heap.size) := Lib.hid ⟨by have := heap_lt HR.out; have := HRD.out.lt; have := HGG.out; omega, HRD.out.lt⟩
  have HF := Lib.hid (t5.keeps HF.out (fun h => h))
  have HZ := Lib.hid (t5.keeps HZ.out (fun h => h))
  have HR := Lib.hid (t5.keeps HR.out (fun h => h))
  have HRD := Lib.hid (HRD.out.still t5)
  have HT : RowKit.Hid (Touch w W5 (fun _ => False)) := Lib.hid (HT.out.trans t5 (fun _ _ h => h))
  rw [hW5]
  clear t5 hW5 HW3
  have g1 : W5.cell? ⟨w.heap.size, 1, none⟩ = some (.int .i64 v) := cell_of_cells HF.out 1
  have b0 : W5.cell? ⟨w4.heap.size, 0, none⟩ = some (.pointer (some ⟨G, 0, none⟩)) := cell_of_cells HB.out 0
  go_region_held3 (fun w' => w'.cell? ⟨w4.heap.size, 0, none⟩ = some (.pointer (some ⟨G, 0, none⟩)) ∧ w'.cell? ⟨w.heap.size, 1, none⟩ = some (.int .i64 v))
    (first | (with_reducible exact ⟨b0, g1⟩) | go_keep)
    (first
      | (go_at_call 60; (with_reducible refine (HCL.out _).mono ?_); rintro e w6 ⟨rfl, t9⟩; have t9 : Touch W5 w6 (fun _ => False) := ((Touch.refl _ _).drew).trans t9 (fun _ _ h => h); have HF := Lib.hid (t9.keeps HF.out (fun h => h)); have HZ := Lib.hid (t9.keeps HZ.out (fun h => h)); have HR := Lib.hid (t9.keeps HR.out (fun h => h)); have HB := Lib.hid (t9.keeps HB.out (fun h => h)); have HRD := Lib.hid (HRD.out.still t9); have HT := Lib.hid (HT.out.trans t9 (fun _ _ h => h)); clear t9 g1 b0; have g1 := cell_of_cells HF.out 1; have b0 := cell_of_cells HB.out 0; simp [f3] at g1 b0)
      | (go_at_call 53; (with_reducible refine (HW.out G W2.heap.size (fun k => k < W3.heap.size) _ HRD.out (by have := HSZ.out; omega) HR.out).mono ?_); rintro e w7 ⟨rfl, a7, c7, h1, h2, h3, t9⟩;  have HF := Lib.hid (t9.keeps HF.out (fun h => by have := HSZ.out; have := HGG.out; omega)); have HZ := Lib.hid (t9.keeps HZ.out (fun h => by have := HSZ.out; have := HGG.out; omega)); have HR := Lib.hid h2; have HB := Lib.hid (t9.keeps HB.out (fun h => by have := HSZ.out; have := HBS.out; omega)); have HRD := Lib.hid h1; have HRW := Lib.hid h3; have HT : RowKit.Hid (Touch w w7 (fun _ => False)) := Lib.hid (HT.out.trans t9 (fun k hk h => by have := HSZ.out; have := HGG.out; omega)); clear t9 h1 h2 h3 g1 b0; have g1 := cell_of_cells HF.out 1; have b0 := cell_of_cells HB.out 0; simp [f3] at g1 b0))
  rename_i hHeld
  clear hHeld t9 HCL HNR HW HV
  have HS7 : RowKit.Hid (W3.heap.size ≤ w7.heap.size) := Lib.hid (by have := heap_lt HB.out; have := HBS.out; omega)
  have HIQ := Lib.hid (HI.out a7 c7 w7 HRW.out)
  have HIR2 : RowKit.Hid ((Try.prog.info? 29).map (·.size) = some (rcs (inD rr v) none 0).size) := Lib.hid infoRec
  clear HI
  go_upto_region 7 with (first
    | (refine wpList_load_row rfl 29 (.tmp 4) rfl W2.heap.size rfl _ _ _ _ HR.out Try.underlying29 rfl HIR.out ?_)
    | (go_at_call 22; (with_reducible refine HIQ.out.mono ?_); rintro e w8 ⟨a8, c8, rfl, ho8, t8⟩; have HF := Lib.hid (t8.keeps HF.out (fun h => h)); have HZ := Lib.hid (t8.keeps HZ.out (fun h => h)); have HR := Lib.hid (t8.keeps HR.out (fun h => h)); have HB := Lib.hid (t8.keeps HB.out (fun h => h)); have HRD := Lib.hid (HRD.out.still t8); have HO := Lib.hid ho8; have HT : RowKit.Hid (Touch w w8 (fun _ => False)) := Lib.hid (HT.out.trans t8 (fun _ _ h => h)); clear t8 ho8)
    | (refine store_row rfl 29 (.tmp 4) (.tmp 26) rfl W2.heap.size _ rfl rfl _ _ HR.out HIR2.out rfl rfl ?_))
  obtain ⟨W9, hW9⟩ : ∃ W, w8.setRow W2.heap.size (rcs (inD rr v) a8 c8) = W := ⟨_, rfl⟩
  have t9 : Touch w8 W9 (fun k => k = W2.heap.size) := hW9 ▸ (Touch.refl w8 _).setRow _ _ (fun _ => rfl)
  have HR : RowKit.Hid (W9.heap[W2.heap.size]? = some (.cells (rcs (inD rr v) a8 c8) 29 (0, 0))) := Lib.hid (hW9 ▸ setRow_heap _ _ _ _ _ _ HR.out)
  have HZ := Lib.hid (t9.keeps HZ.out (by have := HSZ.out; omega))
  have HB := Lib.hid (t9.keeps HB.out (by have := HSZ.out; have := HBS.out; omega))
  have HRD := Lib.hid (HRD.out.touch t9 (fun k _ h => by have := HSZ.out; subst h; exact this.2.2))
  have HO := Lib.hid (HO.out.touch t9 (fun x hx h => by have h1 := (HO.out.own.lt x hx).1; have h2 := HS7.out; have := HSZ.out; omega))
  have HT : RowKit.Hid (Touch w W9 (fun _ => False)) := Lib.hid (HT.out.trans t9 (fun k hk h => by have := HSZ.out; omega))
  rw [hW9]
  clear t9 hW9
  have b0 : W9.cell? ⟨w4.heap.size, 0, none⟩ = some (.pointer (some ⟨G, 0, none⟩)) := cell_of_cells HB.out 0
  have HEN := Lib.hid (d_rEnd G _ _ _ W9 HRD.out)
  generalize inD rr v = q at *
  generalize endOf (nxtX n xs).length (nxtE n xs 0) = E at *
  have HOZ : RowKit.Hid (∀ cs, OwnK (W9.setRow W1.heap.size cs) w.heap.size (.slice a8 q.bs.length c8) q.bs) := Lib.hid (fun cs => (HO.out.touch ((Touch.refl W9 (fun k => k = W1.heap.size)).setRow _ _ (fun _ => rfl)) (fun x hx h => by have h1 := (HO.out.own.lt x hx).1; have h2 := HS7.out; have := HSZ.out; omega)).rebase (fun x hx => by have h1 := (HO.out.own.lt x hx).1; have h2 := HS7.out; have := HSZ.out; omega))
  by_cases hn : n = xs.length
  · have hE : E = 0 := HEI.out.2 hn
    subst hE
    cases hm : mayRB q with
    | true =>
      have HM := Lib.hid (fun (W : World) (h : RowK W a8 q.bs.length c8 q.bs) => hm ▸ HM.out a8 c8 W h)
      have HXX := Lib.hid (HX1.out ⟨hn, hm⟩)
      clear HX1 HX2 HEI hm
      have HRK := Lib.hid (HO.out.row.2.1)
      go_wp2_with (first
        | (go_at_call 61; (with_reducible refine HEN.out.mono ?_); rintro e w' ⟨rfl, h2⟩; obtain rfl := h2.symm)
        | (refine load_rowG rfl 29 (.tmp 4) rfl W2.heap.size rfl _ _ _ _ HR.out Try.underlying29 rfl HIR2.out ?_)
        | (go_at_call 18; (with_reducible refine (HM.out _ HRK.out).mono ?_); rintro e w10 ⟨rfl, t10⟩; have HZ := Lib.hid (t10.keeps HZ.out (fun h => h)); have HR := Lib.hid (t10.keeps HR.out (fun h => h)); have HO := Lib.hid (HO.out.still t10); have HT := Lib.hid (HT.out.trans t10 (fun _ _ h => h)); have HOZ : RowKit.Hid (∀ cs, OwnK (w10.setRow W1.heap.size cs) w.heap.size (.slice a8 q.bs.length c8) q.bs) := Lib.hid (fun cs => (HO.out.touch ((Touch.refl w10 (fun k => k = W1.heap.size)).setRow _ _ (fun _ => rfl)) (fun x hx h => by have h1 := (HO.out.own.lt x hx).1; have h2 := HS7.out; have := HSZ.out; omega)).rebase (fun x hx => by have h1 := (HO.out.own.lt x hx).1; have h2 := HS7.out; have := HSZ.out; omega)); clear t10)
        | (refine store_row rfl 29 (.tmp 2) (.tmp 37) rfl W1.heap.size _ rfl rfl _ _ HZ.out HIR2.out rfl rfl ?_))
      refine ret_row1 rfl rfl W1.heap.size 29 (rcs q a8 c8) (0, 0) _ rfl (setRow_heap _ _ _ _ _ _ HZ.out) Try.underlying29 rfl infoRec _ rfl ?_
      rw [HXX.out]
      exact ⟨a8, c8, rfl, HOZ.out _, HT.out.setRow _ _ (fun h => absurd h (by have := HSZ.out; omega))⟩
    | false =>
      have HM := Lib.hid (fun (W : World) (h : RowK W a8 q.bs.length c8 q.bs) => hm ▸ HM.out a8 c8 W h)
      have HXX := Lib.hid (HX2.out (fun h => by rw [hm] at h; cases h.2))
      clear HX1 HX2 HEI hm
      have HRK := Lib.hid (HO.out.row.2.1)
      go_wp2_with (first
        | (go_at_call 61; (with_reducible refine HEN.out.mono ?_); rintro e w' ⟨rfl, h2⟩; obtain rfl := h2.symm)
        | (refine load_rowG rfl 29 (.tmp 4) rfl W2.heap.size rfl _ _ _ _ HR.out Try.underlying29 rfl HIR2.out ?_)
        | (go_at_call 18; (with_reducible refine (HM.out _ HRK.out).mono ?_); rintro e w10 ⟨rfl, t10⟩; have HZ := Lib.hid (t10.keeps HZ.out (fun h => h)); have HT := Lib.hid (HT.out.trans t10 (fun _ _ h => h)); clear t10)
        | (refine store_row rfl 29 (.tmp 2) (.tmp 36) rfl W1.heap.size (rcs zeroR none 0) rfl rfl _ _ HZ.out HIR2.out rfl rfl ?_))
      refine ret_row1 rfl rfl W1.heap.size 29 (rcs zeroR none 0) (0, 0) _ rfl (setRow_heap _ _ _ _ _ _ HZ.out) Try.underlying29 rfl infoRec _ rfl ?_
      rw [HXX.out]
      exact ⟨none, 0, rfl, OwnK.none _ _, HT.out.setRow _ _ (fun h => absurd h (by have := HSZ.out; omega))⟩
  · have hE : E ≠ 0 := fun h => hn (HEI.out.1 h)
    have hEb : (E != 0) = true := bne_iff_ne.2 hE
    have HXX := Lib.hid (HX2.out (fun h => hn h.1))
    clear HX1 HX2 HEI hn hE
    go_wp2_with (first
      | (go_at_call 61; (with_reducible refine HEN.out.mono ?_); rintro e w' ⟨rfl, h2⟩; obtain rfl := h2.symm)
      | (refine store_row rfl 29 (.tmp 2) (.tmp 36) rfl W1.heap.size (rcs zeroR none 0) rfl rfl _ _ HZ.out HIR2.out rfl rfl ?_))
    refine ret_row1 rfl rfl W1.heap.size 29 (rcs zeroR none 0) (0, 0) _ rfl (setRow_heap _ _ _ _ _ _ HZ.out) Try.underlying29 rfl infoRec _ rfl ?_
    rw [HXX.out]
    exact ⟨none, 0, rfl, OwnK.none _ _, HT.out.setRow _ _ (fun h => absurd h (by have := HSZ.out; omega))⟩
theorem dec_any (k v : Int) (a : Option Addr) (cap : Nat) (xs : List Nat) (w : World) (hrow : RowB w a xs.length cap xs) (hlen : xs.length ≤ 140737488355328) :
    Calls Try.prog 27 #[.agg (f3 k v a xs.length cap)] w (DecIs w k v xs) := by
  cases hv : verB v with
  | true => exact dec_good k v a cap xs w hv hrow hlen
  | false => exact dec_ver k v a cap xs w hv
end Go.Proofs.Ytbklngcocbnijaa
