/- Records: what a writer's walk over a record puts. -/
import Derived.Test.YtbklngcocbnijaaRecWZ
import Derived.Deep.DeepCutAuto
set_option linter.unusedVariables false
set_option linter.unusedSimpArgs false
namespace Go.Proofs.Ytbklngcocbnijaa
open Go.RowKit

/-- What a writer's calls are. -/
def wcs (G : Nat) : Array Value := #[.func (.func 72) #[.pointer (some ⟨G, 0, none⟩)] #[], .func (.func 73) #[.pointer (some ⟨G, 0, none⟩)] #[], .func (.func 74) #[.pointer (some ⟨G, 0, none⟩)] #[], .func (.func 75) #[.pointer (some ⟨G, 0, none⟩)] #[], .func (.func 76) #[.pointer (some ⟨G, 0, none⟩)] #[], .func (.func 77) #[.pointer (some ⟨G, 0, none⟩)] #[]]
theorem wcells_of {w : World} {B G : Nat} {T : TypeId} (hb : w.heap[B]? = some (.cells (wcs G) T (0, 0))) :
    w.cell? ⟨B, 0, none⟩ = some (.func (.func 72) #[.pointer (some ⟨G, 0, none⟩)] #[]) ∧ w.cell? ⟨B, 1, none⟩ = some (.func (.func 73) #[.pointer (some ⟨G, 0, none⟩)] #[]) ∧ w.cell? ⟨B, 2, none⟩ = some (.func (.func 74) #[.pointer (some ⟨G, 0, none⟩)] #[]) ∧
    w.cell? ⟨B, 3, none⟩ = some (.func (.func 75) #[.pointer (some ⟨G, 0, none⟩)] #[]) ∧ w.cell? ⟨B, 4, none⟩ = some (.func (.func 76) #[.pointer (some ⟨G, 0, none⟩)] #[]) ∧ w.cell? ⟨B, 5, none⟩ = some (.func (.func 77) #[.pointer (some ⟨G, 0, none⟩)] #[]) :=
  ⟨cell_of_cells hb 0, cell_of_cells hb 1, cell_of_cells hb 2, cell_of_cells hb 3, cell_of_cells hb 4, cell_of_cells hb 5⟩
def flowF (r : RecD) (v : Int) : List Nat := tbF r.t ++ beB 2 (u64N r.fb) ++ (if v < 2 then [] else beB 4 (u64N r.fg)) ++ (if v < 3 then [] else beB 8 (u64N r.fs))
/-- The numbers of a record are in their bounds. -/
structure FlowOk (r : RecD) : Prop where
  t : TupOk r.t
  fb : -9223372036854775808 ≤ r.fb ∧ r.fb ≤ 9223372036854775807
  fg : 0 ≤ r.fg ∧ r.fg ≤ 4294967295
  fs : -9223372036854775808 ≤ r.fs ∧ r.fs ≤ 9223372036854775807

set_option maxRecDepth 20000 in
set_option maxHeartbeats 4000000 in
theorem wflow_v1 (base G R : Nat) (D : Nat → Prop) (xs : List Nat) (r : RecD) (a : Option Addr) (cap : Nat) (w : World) (h : WrD w base G D xs) (hr : w.heap[R]? = some (.cells (rcs r a cap) 29 (0, 0))) (hR : R < base) (ok : FlowOk r) (hlen : xs.length ≤ 800000) :
    Calls Try.prog 78 #[.agg (wcs G), .pointer (some ⟨R, 1, none⟩), .int .i64 1] w (PutD w base G D xs (flowF r 1)) := by
  obtain ⟨W1, hW1⟩ : ∃ W, w.alloc (.cells (wcs G) 76) = W := ⟨_, rfl⟩
  have hw1 : WrD W1 base G (fun k => D k ∨ k = w.heap.size) xs := hW1 ▸ h.more _
  have hc1 : W1.heap[w.heap.size]? = some (.cells (wcs G) 76 (0, 0)) := hW1 ▸ heap_alloc_new w _
  have t1 : Touch w W1 (fun k => base ≤ k ∧ ¬ D k) := hW1 ▸ (Touch.refl _ _).alloc _
  have HW := Lib.hid hw1
  have HC := Lib.hid hc1
  have HB := Lib.hid (t1.keeps hr (fun h => absurd h.1 (by omega)))
  have HT := Lib.hid t1
  have HRB := Lib.hid hR
  have HL := Lib.hid hlen
  have HOK := Lib.hid ok
  obtain ⟨k0, k1, k2, k3, k4, k5, k6, k7, k8, k9, k10, k11, k12, k13⟩ := rcells_of HB.out
  obtain ⟨m0, m1, m2, m3, m4, m5⟩ := wcells_of HC.out
  clear h hr hw1 hc1 t1 hR hlen ok
  simp only [wcs] at hW1
  simp only [wcs]
  go_enter Try.func78, Try.ntmps78
  go_wp2_with fail
  go_still_tail 5, (by kernel_rfl)
  change wpList _ _ _ _ _ W1.drew
  have HQ := Lib.hid (w_tuple base G R 1 _ _ r.t W1.drew HW.out.drew HOK.out.t (by have := HL.out; (try simp only [List.length_append, beB_length, tbF_length]); omega) k1 k2 k3 k4 k5)
  go_wp2_with (go_at_call 77; (with_reducible refine HQ.out.mono ?_); rintro e w2 ⟨rfl, h1, h2⟩; have t9 := ((Touch.refl W1 _).drew).trans h2 (fun _ _ h => h); have HW := Lib.hid h1; have HB := Lib.hid (t9.keeps HB.out (fun h => absurd h.1 (by have := HRB.out; omega))); have HC := Lib.hid (t9.keeps HC.out (fun h => h.2 (.inr rfl))); have HT := Lib.hid (HT.out.trans t9 (fun k hk h => ⟨h.1, fun hd => h.2 (.inl hd)⟩)); clear t9; clear h1 h2 k0 k1 k2 k3 k4 k5 k6 k7 k8 k9 k10 k11 k12 k13 m0 m1 m2 m3 m4 m5; obtain ⟨k0, k1, k2, k3, k4, k5, k6, k7, k8, k9, k10, k11, k12, k13⟩ := rcells_of HB.out; obtain ⟨m0, m1, m2, m3, m4, m5⟩ := wcells_of HC.out; clear HQ)
  go_wp2_with fail
  go_still_tail 5, (by kernel_rfl)
  change wpList _ _ _ _ _ w2.drew
  have HQ := Lib.hid (w_u16 base G R 6 _ _ _ w2.drew HW.out.drew k6 HOK.out.fb (by have := HL.out; (try simp only [List.length_append, beB_length, tbF_length]); omega))
  go_wp2_with (go_at_call 73; (with_reducible refine HQ.out.mono ?_); rintro e w3 ⟨rfl, h1, h2⟩; have t9 := ((Touch.refl w2 _).drew).trans h2 (fun _ _ h => h); have HW := Lib.hid h1; have HB := Lib.hid (t9.keeps HB.out (fun h => absurd h.1 (by have := HRB.out; omega))); have HC := Lib.hid (t9.keeps HC.out (fun h => h.2 (.inr rfl))); have HT := Lib.hid (HT.out.trans t9 (fun k hk h => ⟨h.1, fun hd => h.2 (.inl hd)⟩)); clear t9; clear h1 h2 k0 k1 k2 k3 k4 k5 k6 k7 k8 k9 k10 k11 k12 k13 m0 m1 m2 m3 m4 m5; obtain ⟨k0, k1, k2, k3, k4, k5, k6, k7, k8, k9, k10, k11, k12, k13⟩ := rcells_of HB.out; obtain ⟨m0, m1, m2, m3, m4, m5⟩ := wcells_of HC.out; clear HQ)
  go_end0
  refine ⟨rfl, ?_, HT.out⟩
  have hw := HW.out.mono (D' := D) (fun k hk => .inl hk)
  simp only [List.append_assoc] at hw
  simpa [flowF, List.append_assoc] using hw

set_option maxRecDepth 20000 in
set_option maxHeartbeats 4000000 in
theorem wflow_v2 (base G R : Nat) (D : Nat → Prop) (xs : List Nat) (r : RecD) (a : Option Addr) (cap : Nat) (w : World) (h : WrD w base G D xs) (hr : w.heap[R]? = some (.cells (rcs r a cap) 29 (0, 0))) (hR : R < base) (ok : FlowOk r) (hlen : xs.length ≤ 800000) :
    Calls Try.prog 78 #[.agg (wcs G), .pointer (some ⟨R, 1, none⟩), .int .i64 2] w (PutD w base G D xs (flowF r 2)) := by
  obtain ⟨W1, hW1⟩ : ∃ W, w.alloc (.cells (wcs G) 76) = W := ⟨_, rfl⟩
  have hw1 : WrD W1 base G (fun k => D k ∨ k = w.heap.size) xs := hW1 ▸ h.more _
  have hc1 : W1.heap[w.heap.size]? = some (.cells (wcs G) 76 (0, 0)) := hW1 ▸ heap_alloc_new w _
  have t1 : Touch w W1 (fun k => base ≤ k ∧ ¬ D k) := hW1 ▸ (Touch.refl _ _).alloc _
  have HW := Lib.hid hw1
  have HC := Lib.hid hc1
  have HB := Lib.hid (t1.keeps hr (fun h => absurd h.1 (by omega)))
  have HT := Lib.hid t1
  have HRB := Lib.hid hR
  have HL := Lib.hid hlen
  have HOK := Lib.hid ok
  obtain ⟨k0, k1, k2, k3, k4, k5, k6, k7, k8, k9, k10, k11, k12, k13⟩ := rcells_of HB.out
  obtain ⟨m0, m1, m2, m3, m4, m5⟩ := wcells_of HC.out
  clear h hr hw1 hc1 t1 hR hlen ok
  simp only [wcs] at hW1
  simp only [wcs]
  go_enter Try.func78, Try.ntmps78
  go_wp2_with fail
  go_still_tail 5, (by kernel_rfl)
  change wpList _ _ _ _ _ W1.drew
  have HQ := Lib.hid (w_tuple base G R 1 _ _ r.t W1.drew HW.out.drew HOK.out.t (by have := HL.out; (try simp only [List.length_append, beB_length, tbF_length]); omega) k1 k2 k3 k4 k5)
  go_wp2_with (go_at_call 77; (with_reducible refine HQ.out.mono ?_); rintro e w2 ⟨rfl, h1, h2⟩; have t9 := ((Touch.refl W1 _).drew).trans h2 (fun _ _ h => h); have HW := Lib.hid h1; have HB := Lib.hid (t9.keeps HB.out (fun h => absurd h.1 (by have := HRB.out; omega))); have HC := Lib.hid (t9.keeps HC.out (fun h => h.2 (.inr rfl))); have HT := Lib.hid (HT.out.trans t9 (fun k hk h => ⟨h.1, fun hd => h.2 (.inl hd)⟩)); clear t9; clear h1 h2 k0 k1 k2 k3 k4 k5 k6 k7 k8 k9 k10 k11 k12 k13 m0 m1 m2 m3 m4 m5; obtain ⟨k0, k1, k2, k3, k4, k5, k6, k7, k8, k9, k10, k11, k12, k13⟩ := rcells_of HB.out; obtain ⟨m0, m1, m2, m3, m4, m5⟩ := wcells_of HC.out; clear HQ)
  go_wp2_with fail
  go_still_tail 5, (by kernel_rfl)
  change wpList _ _ _ _ _ w2.drew
  have HQ := Lib.hid (w_u16 base G R 6 _ _ _ w2.drew HW.out.drew k6 HOK.out.fb (by have := HL.out; (try simp only [List.length_append, beB_length, tbF_length]); omega))
  go_wp2_with (go_at_call 73; (with_reducible refine HQ.out.mono ?_); rintro e w3 ⟨rfl, h1, h2⟩; have t9 := ((Touch.refl w2 _).drew).trans h2 (fun _ _ h => h); have HW := Lib.hid h1; have HB := Lib.hid (t9.keeps HB.out (fun h => absurd h.1 (by have := HRB.out; omega))); have HC := Lib.hid (t9.keeps HC.out (fun h => h.2 (.inr rfl))); have HT := Lib.hid (HT.out.trans t9 (fun k hk h => ⟨h.1, fun hd => h.2 (.inl hd)⟩)); clear t9; clear h1 h2 k0 k1 k2 k3 k4 k5 k6 k7 k8 k9 k10 k11 k12 k13 m0 m1 m2 m3 m4 m5; obtain ⟨k0, k1, k2, k3, k4, k5, k6, k7, k8, k9, k10, k11, k12, k13⟩ := rcells_of HB.out; obtain ⟨m0, m1, m2, m3, m4, m5⟩ := wcells_of HC.out; clear HQ)
  go_wp2_with fail
  go_still_tail 5, (by kernel_rfl)
  change wpList _ _ _ _ _ w3.drew
  have HQ := Lib.hid (w_u32 base G R 7 _ _ _ w3.drew HW.out.drew k7 HOK.out.fg (by have := HL.out; (try simp only [List.length_append, beB_length, tbF_length]); omega))
  go_wp2_with (go_at_call 74; (with_reducible refine HQ.out.mono ?_); rintro e w4 ⟨rfl, h1, h2⟩; have t9 := ((Touch.refl w3 _).drew).trans h2 (fun _ _ h => h); have HW := Lib.hid h1; have HB := Lib.hid (t9.keeps HB.out (fun h => absurd h.1 (by have := HRB.out; omega))); have HC := Lib.hid (t9.keeps HC.out (fun h => h.2 (.inr rfl))); have HT := Lib.hid (HT.out.trans t9 (fun k hk h => ⟨h.1, fun hd => h.2 (.inl hd)⟩)); clear t9; clear h1 h2 k0 k1 k2 k3 k4 k5 k6 k7 k8 k9 k10 k11 k12 k13 m0 m1 m2 m3 m4 m5; obtain ⟨k0, k1, k2, k3, k4, k5, k6, k7, k8, k9, k10, k11, k12, k13⟩ := rcells_of HB.out; obtain ⟨m0, m1, m2, m3, m4, m5⟩ := wcells_of HC.out; clear HQ)
  go_end0
  refine ⟨rfl, ?_, HT.out⟩
  have hw := HW.out.mono (D' := D) (fun k hk => .inl hk)
  simp only [List.append_assoc] at hw
  simpa [flowF, List.append_assoc] using hw

set_option maxRecDepth 20000 in
set_option maxHeartbeats 4000000 in
theorem wflow_v3 (base G R : Nat) (D : Nat → Prop) (xs : List Nat) (r : RecD) (a : Option Addr) (cap : Nat) (w : World) (h : WrD w base G D xs) (hr : w.heap[R]? = some (.cells (rcs r a cap) 29 (0, 0))) (hR : R < base) (ok : FlowOk r) (hlen : xs.length ≤ 800000) :
    Calls Try.prog 78 #[.agg (wcs G), .pointer (some ⟨R, 1, none⟩), .int .i64 3] w (PutD w base G D xs (flowF r 3)) := by
  obtain ⟨W1, hW1⟩ : ∃ W, w.alloc (.cells (wcs G) 76) = W := ⟨_, rfl⟩
  have hw1 : WrD W1 base G (fun k => D k ∨ k = w.heap.size) xs := hW1 ▸ h.more _
  have hc1 : W1.heap[w.heap.size]? = some (.cells (wcs G) 76 (0, 0)) := hW1 ▸ heap_alloc_new w _
  have t1 : Touch w W1 (fun k => base ≤ k ∧ ¬ D k) := hW1 ▸ (Touch.refl _ _).alloc _
  have HW := Lib.hid hw1
  have HC := Lib.hid hc1
  have HB := Lib.hid (t1.keeps hr (fun h => absurd h.1 (by omega)))
  have HT := Lib.hid t1
  have HRB := Lib.hid hR
  have HL := Lib.hid hlen
  have HOK := Lib.hid ok
  obtain ⟨k0, k1, k2, k3, k4, k5, k6, k7, k8, k9, k10, k11, k12, k13⟩ := rcells_of HB.out
  obtain ⟨m0, m1, m2, m3, m4, m5⟩ := wcells_of HC.out
  clear h hr hw1 hc1 t1 hR hlen ok
  simp only [wcs] at hW1
  simp only [wcs]
  go_enter Try.func78, Try.ntmps78
  go_wp2_with fail
  go_still_tail 5, (by kernel_rfl)
  change wpList _ _ _ _ _ W1.drew
  have HQ := Lib.hid (w_tuple base G R 1 _ _ r.t W1.drew HW.out.drew HOK.out.t (by have := HL.out; (try simp only [List.length_append, beB_length, tbF_length]); omega) k1 k2 k3 k4 k5)
  go_wp2_with (go_at_call 77; (with_reducible refine HQ.out.mono ?_); rintro e w2 ⟨rfl, h1, h2⟩; have t9 := ((Touch.refl W1 _).drew).trans h2 (fun _ _ h => h); have HW := Lib.hid h1; have HB := Lib.hid (t9.keeps HB.out (fun h => absurd h.1 (by have := HRB.out; omega))); have HC := Lib.hid (t9.keeps HC.out (fun h => h.2 (.inr rfl))); have HT := Lib.hid (HT.out.trans t9 (fun k hk h => ⟨h.1, fun hd => h.2 (.inl hd)⟩)); clear t9; clear h1 h2 k0 k1 k2 k3 k4 k5 k6 k7 k8 k9 k10 k11 k12 k13 m0 m1 m2 m3 m4 m5; obtain ⟨k0, k1, k2, k3, k4, k5, k6, k7, k8, k9, k10, k11, k12, k13⟩ := rcells_of HB.out; obtain ⟨m0, m1, m2, m3, m4, m5⟩ := wcells_of HC.out; clear HQ)
  go_wp2_with fail
  go_still_tail 5, (by kernel_rfl)
  change wpList _ _ _ _ _ w2.drew
  have HQ := Lib.hid (w_u16 base G R 6 _ _ _ w2.drew HW.out.drew k6 HOK.out.fb (by have := HL.out; (try simp only [List.length_append, beB_length, tbF_length]); omega))
  go_wp2_with (go_at_call 73; (with_reducible refine HQ.out.mono ?_); rintro e w3 ⟨rfl, h1, h2⟩; have t9 := ((Touch.refl w2 _).drew).trans h2 (fun _ _ h => h); have HW := Lib.hid h1; have HB := Lib.hid (t9.keeps HB.out (fun h => absurd h.1 (by have := HRB.out; omega))); have HC := Lib.hid (t9.keeps HC.out (fun h => h.2 (.inr rfl))); have HT := Lib.hid (HT.out.trans t9 (fun k hk h => ⟨h.1, fun hd => h.2 (.inl hd)⟩)); clear t9; clear h1 h2 k0 k1 k2 k3 k4 k5 k6 k7 k8 k9 k10 k11 k12 k13 m0 m1 m2 m3 m4 m5; obtain ⟨k0, k1, k2, k3, k4, k5, k6, k7, k8, k9, k10, k11, k12, k13⟩ := rcells_of HB.out; obtain ⟨m0, m1, m2, m3, m4, m5⟩ := wcells_of HC.out; clear HQ)
  go_wp2_with fail
  go_still_tail 5, (by kernel_rfl)
  change wpList _ _ _ _ _ w3.drew
  have HQ := Lib.hid (w_u32 base G R 7 _ _ _ w3.drew HW.out.drew k7 HOK.out.fg (by have := HL.out; (try simp only [List.length_append, beB_length, tbF_length]); omega))
  go_wp2_with (go_at_call 74; (with_reducible refine HQ.out.mono ?_); rintro e w4 ⟨rfl, h1, h2⟩; have t9 := ((Touch.refl w3 _).drew).trans h2 (fun _ _ h => h); have HW := Lib.hid h1; have HB := Lib.hid (t9.keeps HB.out (fun h => absurd h.1 (by have := HRB.out; omega))); have HC := Lib.hid (t9.keeps HC.out (fun h => h.2 (.inr rfl))); have HT := Lib.hid (HT.out.trans t9 (fun k hk h => ⟨h.1, fun hd => h.2 (.inl hd)⟩)); clear t9; clear h1 h2 k0 k1 k2 k3 k4 k5 k6 k7 k8 k9 k10 k11 k12 k13 m0 m1 m2 m3 m4 m5; obtain ⟨k0, k1, k2, k3, k4, k5, k6, k7, k8, k9, k10, k11, k12, k13⟩ := rcells_of HB.out; obtain ⟨m0, m1, m2, m3, m4, m5⟩ := wcells_of HC.out; clear HQ)
  go_wp2_with fail
  go_still_tail 5, (by kernel_rfl)
  change wpList _ _ _ _ _ w4.drew
  have HQ := Lib.hid (w_i64 base G R 8 _ _ _ w4.drew HW.out.drew k8 HOK.out.fs (by have := HL.out; (try simp only [List.length_append, beB_length, tbF_length]); omega))
  go_wp2_with (go_at_call 76; (with_reducible refine HQ.out.mono ?_); rintro e w5 ⟨rfl, h1, h2⟩; have t9 := ((Touch.refl w4 _).drew).trans h2 (fun _ _ h => h); have HW := Lib.hid h1; have HB := Lib.hid (t9.keeps HB.out (fun h => absurd h.1 (by have := HRB.out; omega))); have HC := Lib.hid (t9.keeps HC.out (fun h => h.2 (.inr rfl))); have HT := Lib.hid (HT.out.trans t9 (fun k hk h => ⟨h.1, fun hd => h.2 (.inl hd)⟩)); clear t9; clear h1 h2 k0 k1 k2 k3 k4 k5 k6 k7 k8 k9 k10 k11 k12 k13 m0 m1 m2 m3 m4 m5; obtain ⟨k0, k1, k2, k3, k4, k5, k6, k7, k8, k9, k10, k11, k12, k13⟩ := rcells_of HB.out; obtain ⟨m0, m1, m2, m3, m4, m5⟩ := wcells_of HC.out; clear HQ)
  go_end0
  refine ⟨rfl, ?_, HT.out⟩
  have hw := HW.out.mono (D' := D) (fun k hk => .inl hk)
  simp only [List.append_assoc] at hw
  simpa [flowF, List.append_assoc] using hw
end Go.Proofs.Ytbklngcocbnijaa
