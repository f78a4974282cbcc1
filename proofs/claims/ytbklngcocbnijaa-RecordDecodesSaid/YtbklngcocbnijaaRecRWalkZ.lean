/- Records: what a reader's walk over a record fills. -/
import Derived.Test.YtbklngcocbnijaaRecRBksZ
import Derived.Test.YtbklngcocbnijaaDecMathZ
set_option linter.unusedVariables false
set_option linter.unusedSimpArgs false
namespace Go.Proofs.Ytbklngcocbnijaa
open Go.RowKit

def r0 (k : Int) : RecD := ⟨k, noT, 0, 0, 0, 0, [], 0, 0, 0⟩
/-- What a walk over a record leaves. -/
def WalkR (w : World) (G R : Nat) (D : Nat → Prop) (xs : List Nat) (err : Int) (k v : Int) (e : Ending) (w' : World) : Prop :=
  e = .returned (.tuple #[]) ∧ ∃ a' c', RdD w' G D (nxtX (lenD k v xs) xs) (nxtE (lenD k v xs) xs err) ∧ w'.heap[R]? = some (.cells (rcs (rawD k v xs) a' c') 29 (0, 0)) ∧ RowK w' a' (rawD k v xs).bs.length c' (rawD k v xs).bs ∧ Touch w w' (fun k => k = G ∨ k = R)

set_option maxRecDepth 20000 in
set_option maxHeartbeats 4000000 in
theorem rwalk_k1 (G R : Nat) (D : Nat → Prop) (xs : List Nat) (err : Int) (v : Int) (hv : v = 1 ∨ v = 2 ∨ v = 3) (w : World) (h : RdD w G D xs err) (hD : D R) (hr : w.heap[R]? = some (.cells (rcs (r0 1) none 0) 29 (0, 0))) :
    Calls Try.prog 53 #[.agg (rdC G), .pointer (some ⟨R, 0, none⟩), .int .i64 v] w (WalkR w G R D xs err 1 v) := by
  have HV := Lib.hid hv
  clear hv
  have hne := h.ne hD
  have hlt := h.lt
  have hrl := heap_lt hr
  obtain ⟨W1, hW1⟩ : ∃ W, w.alloc (.cells (rdC G) 76) = W := ⟨_, rfl⟩
  have t1 : Touch w W1 (fun _ => False) := hW1 ▸ (Touch.refl _ _).alloc _
  have HC : RowKit.Hid (W1.heap[w.heap.size]? = some (.cells (rdC G) 76 (0, 0))) := Lib.hid (hW1 ▸ heap_alloc_new w _)
  have HR := Lib.hid (h.still t1)
  have HB := Lib.hid (t1.keeps hr (fun h => h))
  have HT : RowKit.Hid (Touch w W1 (fun k => k = G ∨ k = R)) := Lib.hid (t1.mono (fun _ _ h => h.elim))
  have HD := Lib.hid hD
  have HCN : RowKit.Hid (¬ (w.heap.size = G ∨ w.heap.size = R)) := Lib.hid (by omega)
  obtain ⟨m0, m1, m2, m3, m4, m5⟩ := rdcells_of HC.out
  obtain ⟨k0, k1, k2, k3, k4, k5, k6, k7, k8, k9, k10, k11, k12, k13⟩ := rcells_of HB.out
  simp only [r0] at k0
  clear h hr hD hne hlt hrl t1
  simp only [rdC] at hW1
  simp only [rdC]
  go_enter Try.func53, Try.ntmps53
  go_wp2_with fail
  go_still_tail 5, (by kernel_rfl)
  change wpList _ _ _ _ _ W1.drew
  have HQ := Lib.hid (rflow_any G R D _ _ (r0 1) none 0 v HV.out W1.drew HR.out.drew HD.out HB.out)
  simp only [rdC] at HQ
  go_wp2_with (go_at_call 78; (with_reducible refine HQ.out.mono ?_); rintro e w2 ⟨rfl, h1, h2, h3⟩; have t9 := ((Touch.refl W1 _).drew).trans h3 (fun _ _ h => h); have HR := Lib.hid h1; have HB := Lib.hid h2; have HT := Lib.hid (HT.out.trans t9 (fun k hk h => h)); clear t9 h1 h2 h3)
  go_end0
  exact ⟨rfl, none, 0, HR.out, HB.out, RowS.nil _ _ _ _ (by omega), HT.out⟩
set_option maxRecDepth 20000 in
set_option maxHeartbeats 4000000 in
theorem rwalk_k2 (G R : Nat) (D : Nat → Prop) (xs : List Nat) (err : Int) (v : Int) (hv : v = 1 ∨ v = 2 ∨ v = 3) (w : World) (h : RdD w G D xs err) (hD : D R) (hr : w.heap[R]? = some (.cells (rcs (r0 2) none 0) 29 (0, 0))) :
    Calls Try.prog 53 #[.agg (rdC G), .pointer (some ⟨R, 0, none⟩), .int .i64 v] w (WalkR w G R D xs err 2 v) := by
  have HV := Lib.hid hv
  clear hv
  have hne := h.ne hD
  have hlt := h.lt
  have hrl := heap_lt hr
  obtain ⟨W1, hW1⟩ : ∃ W, w.alloc (.cells (rdC G) 76) = W := ⟨_, rfl⟩
  have t1 : Touch w W1 (fun _ => False) := hW1 ▸ (Touch.refl _ _).alloc _
  have HC : RowKit.Hid (W1.heap[w.heap.size]? = some (.cells (rdC G) 76 (0, 0))) := Lib.hid (hW1 ▸ heap_alloc_new w _)
  have HR := Lib.hid (h.still t1)
  have HB := Lib.hid (t1.keeps hr (fun h => h))
  have HT : RowKit.Hid (Touch w W1 (fun k => k = G ∨ k = R)) := Lib.hid (t1.mono (fun _ _ h => h.elim))
  have HD := Lib.hid hD
  have HCN : RowKit.Hid (¬ (w.heap.size = G ∨ w.heap.size = R)) := Lib.hid (by omega)
  obtain ⟨m0, m1, m2, m3, m4, m5⟩ := rdcells_of HC.out
  obtain ⟨k0, k1, k2, k3, k4, k5, k6, k7, k8, k9, k10, k11, k12, k13⟩ := rcells_of HB.out
  simp only [r0] at k0
  clear h hr hD hne hlt hrl t1
  simp only [rdC] at hW1
  simp only [rdC]
  go_enter Try.func53, Try.ntmps53
  go_wp2_with fail
  go_still_tail 6, (by kernel_rfl)
  change wpList _ _ _ _ _ W1.drew
  have HQ := Lib.hid (f_tuple G R 1 D _ _ _ _ W1.drew HR.out.drew HD.out HB.out (by rw [rcs_size]; decide))
  rw [rset_t] at HQ
  go_wp2_with (go_at_call 86; (with_reducible refine HQ.out.mono ?_); rintro e w2 ⟨rfl, h1, h2, h3⟩; have t9 := ((Touch.refl W1 _).drew).trans h3 (fun _ _ h => h); have HR := Lib.hid h1; have HB := Lib.hid h2; have HC := Lib.hid (t9.keeps HC.out HCN.out); have HT := Lib.hid (HT.out.trans t9 (fun k hk h => h)); clear t9 h1 h2 h3 m0 m1 m2 m3 m4 m5; clear k0 k1 k2 k3 k4 k5 k6 k7 k8 k9 k10 k11 k12 k13; obtain ⟨m0, m1, m2, m3, m4, m5⟩ := rdcells_of HC.out; obtain ⟨k0, k1, k2, k3, k4, k5, k6, k7, k8, k9, k10, k11, k12, k13⟩ := rcells_of HB.out; simp only [r0] at k0)
  skip
  go_end0
  exact ⟨rfl, none, 0, HR.out, HB.out, RowS.nil _ _ _ _ (by omega), HT.out⟩
set_option maxRecDepth 20000 in
set_option maxHeartbeats 4000000 in
theorem rwalk_k4 (G R : Nat) (D : Nat → Prop) (xs : List Nat) (err : Int) (v : Int) (hv : v = 1 ∨ v = 2 ∨ v = 3) (w : World) (h : RdD w G D xs err) (hD : D R) (hr : w.heap[R]? = some (.cells (rcs (r0 4) none 0) 29 (0, 0))) :
    Calls Try.prog 53 #[.agg (rdC G), .pointer (some ⟨R, 0, none⟩), .int .i64 v] w (WalkR w G R D xs err 4 v) := by
  have HV := Lib.hid hv
  clear hv
  have hne := h.ne hD
  have hlt := h.lt
  have hrl := heap_lt hr
  obtain ⟨W1, hW1⟩ : ∃ W, w.alloc (.cells (rdC G) 76) = W := ⟨_, rfl⟩
  have t1 : Touch w W1 (fun _ => False) := hW1 ▸ (Touch.refl _ _).alloc _
  have HC : RowKit.Hid (W1.heap[w.heap.size]? = some (.cells (rdC G) 76 (0, 0))) := Lib.hid (hW1 ▸ heap_alloc_new w _)
  have HR := Lib.hid (h.still t1)
  have HB := Lib.hid (t1.keeps hr (fun h => h))
  have HT : RowKit.Hid (Touch w W1 (fun k => k = G ∨ k = R)) := Lib.hid (t1.mono (fun _ _ h => h.elim))
  have HD := Lib.hid hD
  have HCN : RowKit.Hid (¬ (w.heap.size = G ∨ w.heap.size = R)) := Lib.hid (by omega)
  obtain ⟨m0, m1, m2, m3, m4, m5⟩ := rdcells_of HC.out
  obtain ⟨k0, k1, k2, k3, k4, k5, k6, k7, k8, k9, k10, k11, k12, k13⟩ := rcells_of HB.out
  simp only [r0] at k0
  clear h hr hD hne hlt hrl t1
  simp only [rdC] at hW1
  simp only [rdC]
  go_enter Try.func53, Try.ntmps53
  go_wp2_with fail
  go_still_tail 5, (by kernel_rfl)
  change wpList _ _ _ _ _ W1.drew
  have HQ := Lib.hid (f_u16 G R 11 D _ _ _ _ W1.drew HR.out.drew HD.out HB.out (by rw [rcs_size]; decide))
  rw [rset_be] at HQ
  go_wp2_with (go_at_call 82; (with_reducible refine HQ.out.mono ?_); rintro e w2 ⟨rfl, h1, h2, h3⟩; have t9 := ((Touch.refl W1 _).drew).trans h3 (fun _ _ h => h); have HR := Lib.hid h1; have HB := Lib.hid h2; have HC := Lib.hid (t9.keeps HC.out HCN.out); have HT := Lib.hid (HT.out.trans t9 (fun k hk h => h)); clear t9 h1 h2 h3 m0 m1 m2 m3 m4 m5; clear k0 k1 k2 k3 k4 k5 k6 k7 k8 k9 k10 k11 k12 k13; obtain ⟨m0, m1, m2, m3, m4, m5⟩ := rdcells_of HC.out; obtain ⟨k0, k1, k2, k3, k4, k5, k6, k7, k8, k9, k10, k11, k12, k13⟩ := rcells_of HB.out; simp only [r0] at k0)
  skip
  go_wp2_with fail
  go_still_tail 5, (by kernel_rfl)
  change wpList _ _ _ _ _ w2.drew
  have HQ := Lib.hid (f_i64 G R 12 D _ _ _ _ w2.drew HR.out.drew HD.out HB.out (by rw [rcs_size]; decide))
  rw [rset_un] at HQ
  go_wp2_with (go_at_call 85; (with_reducible refine HQ.out.mono ?_); rintro e w3 ⟨rfl, h1, h2, h3⟩; have t9 := ((Touch.refl w2 _).drew).trans h3 (fun _ _ h => h); have HR := Lib.hid h1; have HB := Lib.hid h2; have HC := Lib.hid (t9.keeps HC.out HCN.out); have HT := Lib.hid (HT.out.trans t9 (fun k hk h => h)); clear t9 h1 h2 h3 m0 m1 m2 m3 m4 m5; clear k0 k1 k2 k3 k4 k5 k6 k7 k8 k9 k10 k11 k12 k13; obtain ⟨m0, m1, m2, m3, m4, m5⟩ := rdcells_of HC.out; obtain ⟨k0, k1, k2, k3, k4, k5, k6, k7, k8, k9, k10, k11, k12, k13⟩ := rcells_of HB.out; simp only [r0] at k0)
  rw [nxtX_nxtX, nxtE_nxtE] at HR
  go_end0
  exact ⟨rfl, none, 0, HR.out, HB.out, RowS.nil _ _ _ _ (by omega), HT.out⟩
set_option maxRecDepth 20000 in
set_option maxHeartbeats 4000000 in
theorem rwalk_k5 (G R : Nat) (D : Nat → Prop) (xs : List Nat) (err : Int) (v : Int) (hv : v = 1 ∨ v = 2 ∨ v = 3) (w : World) (h : RdD w G D xs err) (hD : D R) (hr : w.heap[R]? = some (.cells (rcs (r0 5) none 0) 29 (0, 0))) :
    Calls Try.prog 53 #[.agg (rdC G), .pointer (some ⟨R, 0, none⟩), .int .i64 v] w (WalkR w G R D xs err 5 v) := by
  have HV := Lib.hid hv
  clear hv
  have hne := h.ne hD
  have hlt := h.lt
  have hrl := heap_lt hr
  obtain ⟨W1, hW1⟩ : ∃ W, w.alloc (.cells (rdC G) 76) = W := ⟨_, rfl⟩
  have t1 : Touch w W1 (fun _ => False) := hW1 ▸ (Touch.refl _ _).alloc _
  have HC : RowKit.Hid (W1.heap[w.heap.size]? = some (.cells (rdC G) 76 (0, 0))) := Lib.hid (hW1 ▸ heap_alloc_new w _)
  have HR := Lib.hid (h.still t1)
  have HB := Lib.hid (t1.keeps hr (fun h => h))
  have HT : RowKit.Hid (Touch w W1 (fun k => k = G ∨ k = R)) := Lib.hid (t1.mono (fun _ _ h => h.elim))
  have HD := Lib.hid hD
  have HCN : RowKit.Hid (¬ (w.heap.size = G ∨ w.heap.size = R)) := Lib.hid (by omega)
  obtain ⟨m0, m1, m2, m3, m4, m5⟩ := rdcells_of HC.out
  obtain ⟨k0, k1, k2, k3, k4, k5, k6, k7, k8, k9, k10, k11, k12, k13⟩ := rcells_of HB.out
  simp only [r0] at k0
  clear h hr hD hne hlt hrl t1
  simp only [rdC] at hW1
  simp only [rdC]
  go_enter Try.func53, Try.ntmps53
  go_wp2_with fail
  go_still_tail 5, (by kernel_rfl)
  change wpList _ _ _ _ _ W1.drew
  have HQ := Lib.hid (f_u16 G R 11 D _ _ _ _ W1.drew HR.out.drew HD.out HB.out (by rw [rcs_size]; decide))
  rw [rset_be] at HQ
  go_wp2_with (go_at_call 82; (with_reducible refine HQ.out.mono ?_); rintro e w2 ⟨rfl, h1, h2, h3⟩; have t9 := ((Touch.refl W1 _).drew).trans h3 (fun _ _ h => h); have HR := Lib.hid h1; have HB := Lib.hid h2; have HC := Lib.hid (t9.keeps HC.out HCN.out); have HT := Lib.hid (HT.out.trans t9 (fun k hk h => h)); clear t9 h1 h2 h3 m0 m1 m2 m3 m4 m5; clear k0 k1 k2 k3 k4 k5 k6 k7 k8 k9 k10 k11 k12 k13; obtain ⟨m0, m1, m2, m3, m4, m5⟩ := rdcells_of HC.out; obtain ⟨k0, k1, k2, k3, k4, k5, k6, k7, k8, k9, k10, k11, k12, k13⟩ := rcells_of HB.out; simp only [r0] at k0)
  skip
  go_end0
  exact ⟨rfl, none, 0, HR.out, HB.out, RowS.nil _ _ _ _ (by omega), HT.out⟩
set_option maxRecDepth 20000 in
set_option maxHeartbeats 4000000 in
theorem rwalk_k6 (G R : Nat) (D : Nat → Prop) (xs : List Nat) (err : Int) (v : Int) (hv : v = 1 ∨ v = 2 ∨ v = 3) (w : World) (h : RdD w G D xs err) (hD : D R) (hr : w.heap[R]? = some (.cells (rcs (r0 6) none 0) 29 (0, 0))) :
    Calls Try.prog 53 #[.agg (rdC G), .pointer (some ⟨R, 0, none⟩), .int .i64 v] w (WalkR w G R D xs err 6 v) := by
  have HV := Lib.hid hv
  clear hv
  have hne := h.ne hD
  have hlt := h.lt
  have hrl := heap_lt hr
  obtain ⟨W1, hW1⟩ : ∃ W, w.alloc (.cells (rdC G) 76) = W := ⟨_, rfl⟩
  have t1 : Touch w W1 (fun _ => False) := hW1 ▸ (Touch.refl _ _).alloc _
  have HC : RowKit.Hid (W1.heap[w.heap.size]? = some (.cells (rdC G) 76 (0, 0))) := Lib.hid (hW1 ▸ heap_alloc_new w _)
  have HR := Lib.hid (h.still t1)
  have HB := Lib.hid (t1.keeps hr (fun h => h))
  have HT : RowKit.Hid (Touch w W1 (fun k => k = G ∨ k = R)) := Lib.hid (t1.mono (fun _ _ h => h.elim))
  have HD := Lib.hid hD
  have HCN : RowKit.Hid (¬ (w.heap.size = G ∨ w.heap.size = R)) := Lib.hid (by omega)
  obtain ⟨m0, m1, m2, m3, m4, m5⟩ := rdcells_of HC.out
  obtain ⟨k0, k1, k2, k3, k4, k5, k6, k7, k8, k9, k10, k11, k12, k13⟩ := rcells_of HB.out
  simp only [r0] at k0
  clear h hr hD hne hlt hrl t1
  simp only [rdC] at hW1
  simp only [rdC]
  go_enter Try.func53, Try.ntmps53
  go_wp2_with fail
  go_still_tail 5, (by kernel_rfl)
  change wpList _ _ _ _ _ W1.drew
  have HQ := Lib.hid (f_u32 G R 13 D _ _ _ _ W1.drew HR.out.drew HD.out HB.out (by rw [rcs_size]; decide))
  rw [rset_ct] at HQ
  go_wp2_with (go_at_call 83; (with_reducible refine HQ.out.mono ?_); rintro e w2 ⟨rfl, h1, h2, h3⟩; have t9 := ((Touch.refl W1 _).drew).trans h3 (fun _ _ h => h); have HR := Lib.hid h1; have HB := Lib.hid h2; have HC := Lib.hid (t9.keeps HC.out HCN.out); have HT := Lib.hid (HT.out.trans t9 (fun k hk h => h)); clear t9 h1 h2 h3 m0 m1 m2 m3 m4 m5; clear k0 k1 k2 k3 k4 k5 k6 k7 k8 k9 k10 k11 k12 k13; obtain ⟨m0, m1, m2, m3, m4, m5⟩ := rdcells_of HC.out; obtain ⟨k0, k1, k2, k3, k4, k5, k6, k7, k8, k9, k10, k11, k12, k13⟩ := rcells_of HB.out; simp only [r0] at k0)
  skip
  go_end0
  exact ⟨rfl, none, 0, HR.out, HB.out, RowS.nil _ _ _ _ (by omega), HT.out⟩
set_option maxRecDepth 20000 in
set_option maxHeartbeats 4000000 in
theorem rwalk_k3 (G R : Nat) (D : Nat → Prop) (xs : List Nat) (err : Int) (v : Int) (hv : v = 1 ∨ v = 2 ∨ v = 3) (w : World) (h : RdD w G D xs err) (hD : D R) (hr : w.heap[R]? = some (.cells (rcs (r0 3) none 0) 29 (0, 0))) :
    Calls Try.prog 53 #[.agg (rdC G), .pointer (some ⟨R, 0, none⟩), .int .i64 v] w (WalkR w G R D xs err 3 v) := by
  have HV := Lib.hid hv
  clear hv
  have hne := h.ne hD
  have hlt := h.lt
  have hrl := heap_lt hr
  obtain ⟨W1, hW1⟩ : ∃ W, w.alloc (.cells (rdC G) 76) = W := ⟨_, rfl⟩
  have t1 : Touch w W1 (fun _ => False) := hW1 ▸ (Touch.refl _ _).alloc _
  have HC : RowKit.Hid (W1.heap[w.heap.size]? = some (.cells (rdC G) 76 (0, 0))) := Lib.hid (hW1 ▸ heap_alloc_new w _)
  have HR := Lib.hid (h.still t1)
  have HB := Lib.hid (t1.keeps hr (fun h => h))
  have HT : RowKit.Hid (Touch w W1 (fun k => k = G ∨ k = R)) := Lib.hid (t1.mono (fun _ _ h => h.elim))
  have HD := Lib.hid hD
  have HCN : RowKit.Hid (¬ (w.heap.size = G ∨ w.heap.size = R)) := Lib.hid (by omega)
  obtain ⟨m0, m1, m2, m3, m4, m5⟩ := rdcells_of HC.out
  obtain ⟨k0, k1, k2, k3, k4, k5, k6, k7, k8, k9, k10, k11, k12, k13⟩ := rcells_of HB.out
  simp only [r0] at k0
  clear h hr hD hne hlt hrl t1
  simp only [rdC] at hW1
  simp only [rdC]
  have HIC : RowKit.Hid ((Try.prog.info? 76).map (·.size) = some (rdC G).size) := Lib.hid (by kernel_rfl)
  go_enter Try.func53, Try.ntmps53
  go_wp2_with fail
  go_still_tail 5, (by kernel_rfl)
  change wpList _ _ _ _ _ W1.drew
  have HQ := Lib.hid (f_u32 G R 9 D _ _ _ _ W1.drew HR.out.drew HD.out HB.out (by rw [rcs_size]; decide))
  rw [rset_gen] at HQ
  go_wp2_with (go_at_call 83; (with_reducible refine HQ.out.mono ?_); rintro e w2 ⟨rfl, h1, h2, h3⟩; have t9 := ((Touch.refl W1 _).drew).trans h3 (fun _ _ h => h); have HR := Lib.hid h1; have HB := Lib.hid h2; have HC := Lib.hid (t9.keeps HC.out HCN.out); have HT := Lib.hid (HT.out.trans t9 (fun k hk h => h)); clear t9 h1 h2 h3 m0 m1 m2 m3 m4 m5; clear k0 k1 k2 k3 k4 k5 k6 k7 k8 k9 k10 k11 k12 k13; obtain ⟨m0, m1, m2, m3, m4, m5⟩ := rdcells_of HC.out; obtain ⟨k0, k1, k2, k3, k4, k5, k6, k7, k8, k9, k10, k11, k12, k13⟩ := rcells_of HB.out; simp only [r0] at k0)
  skip
  have HQ := Lib.hid (rbacks_any G R D _ _ { r0 3 with gen := (valN 4 xs : Nat) } v HV.out w2 HR.out HD.out HB.out rfl)
  simp only [rdC] at HQ
  go_wp2_with (first
    | (refine wpList_load_row rfl 76 (.tmp 3) rfl w.heap.size rfl _ _ _ _ HC.out Try.underlying76 rfl HIC.out ?_)
    | (go_at_call 79; (with_reducible refine HQ.out.mono ?_); rintro e w3 ⟨rfl, a3, c3, h1, h2, hrw, h3⟩; have HR := Lib.hid h1; have HB := Lib.hid h2; have HRW := Lib.hid hrw; have HT := Lib.hid (HT.out.trans h3 (fun k hk h => h)); clear h1 h2 h3 hrw))
  go_end0
  refine ⟨rfl, a3, c3, ?_, ?_, ?_, HT.out⟩
  · have e : lenD 3 v xs = 4 + (1 + valN 1 (nxtX 4 xs) * bkW v) := by show 5 + _ = _; omega
    rw [e, ← nxtX_nxtX, ← nxtE_nxtE]
    exact HR.out
  · have hb := HB.out
    rw [nxtX_nxtX 1 4 xs] at hb
    exact hb
  · have hb := HRW.out
    rw [nxtX_nxtX 1 4 xs] at hb
    have e : (rawD 3 v xs).bs = bksV v (valN 1 (nxtX 4 xs)) (nxtX 5 xs) := rfl
    rw [e, bksV_length]
    exact hb
set_option maxRecDepth 20000 in
set_option maxHeartbeats 4000000 in
theorem rwalk_k0 (G R : Nat) (D : Nat → Prop) (xs : List Nat) (err : Int) (k v : Int) (n1 : k ≠ 1) (n2 : k ≠ 2) (n3 : k ≠ 3) (n4 : k ≠ 4) (n5 : k ≠ 5) (n6 : k ≠ 6) (w : World) (h : RdD w G D xs err) (hD : D R) (hr : w.heap[R]? = some (.cells (rcs (r0 k) none 0) 29 (0, 0))) :
    Calls Try.prog 53 #[.agg (rdC G), .pointer (some ⟨R, 0, none⟩), .int .i64 v] w (WalkR w G R D xs err k v) := by
  have hraw : rawD k v xs = r0 k := by unfold rawD; rw [if_neg n1, if_neg n2, if_neg n3, if_neg n4, if_neg n5, if_neg n6]; rfl
  have hlen : lenD k v xs = 0 := by unfold lenD; rw [if_neg n1, if_neg n2, if_neg n3, if_neg n4, if_neg n5, if_neg n6]
  have HRAW := Lib.hid hraw
  have HLEN := Lib.hid hlen
  have b1 : (k == 1) = false := beq_eq_false_iff_ne.2 n1
  have b2 : (k == 2) = false := beq_eq_false_iff_ne.2 n2
  have b3 : (k == 3) = false := beq_eq_false_iff_ne.2 n3
  have b4 : (k == 4) = false := beq_eq_false_iff_ne.2 n4
  have b5 : (k == 5) = false := beq_eq_false_iff_ne.2 n5
  have b6 : (k == 6) = false := beq_eq_false_iff_ne.2 n6
  clear hraw hlen n1 n2 n3 n4 n5 n6
  have hne := h.ne hD
  have hlt := h.lt
  have hrl := heap_lt hr
  obtain ⟨W1, hW1⟩ : ∃ W, w.alloc (.cells (rdC G) 76) = W := ⟨_, rfl⟩
  have t1 : Touch w W1 (fun _ => False) := hW1 ▸ (Touch.refl _ _).alloc _
  have HC : RowKit.Hid (W1.heap[w.heap.size]? = some (.cells (rdC G) 76 (0, 0))) := Lib.hid (hW1 ▸ heap_alloc_new w _)
  have HR := Lib.hid (h.still t1)
  have HB := Lib.hid (t1.keeps hr (fun h => h))
  have HT : RowKit.Hid (Touch w W1 (fun k => k = G ∨ k = R)) := Lib.hid (t1.mono (fun _ _ h => h.elim))
  have HD := Lib.hid hD
  have HCN : RowKit.Hid (¬ (w.heap.size = G ∨ w.heap.size = R)) := Lib.hid (by omega)
  obtain ⟨m0, m1, m2, m3, m4, m5⟩ := rdcells_of HC.out
  obtain ⟨k0, k1, k2, k3, k4, k5, k6, k7, k8, k9, k10, k11, k12, k13⟩ := rcells_of HB.out
  simp only [r0] at k0
  clear h hr hD hne hlt hrl t1
  simp only [rdC] at hW1
  simp only [rdC]
  go_enter Try.func53, Try.ntmps53
  go_wp2
  go_end0
  refine ⟨rfl, none, 0, ?_, ?_, ?_, HT.out⟩
  · rw [HLEN.out, nxtX_zero, nxtE_zero]; exact HR.out
  · rw [HRAW.out]; exact HB.out
  · rw [HRAW.out]; exact RowS.nil _ _ _ _ (by omega)
theorem rwalk_any (G R : Nat) (D : Nat → Prop) (xs : List Nat) (err : Int) (k v : Int) (hv : v = 1 ∨ v = 2 ∨ v = 3) (w : World) (h : RdD w G D xs err) (hD : D R) (hr : w.heap[R]? = some (.cells (rcs (r0 k) none 0) 29 (0, 0))) :
    Calls Try.prog 53 #[.agg (rdC G), .pointer (some ⟨R, 0, none⟩), .int .i64 v] w (WalkR w G R D xs err k v) := by
  by_cases n1 : k = 1
  · subst n1; exact rwalk_k1 G R D xs err v hv w h hD hr
  by_cases n2 : k = 2
  · subst n2; exact rwalk_k2 G R D xs err v hv w h hD hr
  by_cases n3 : k = 3
  · subst n3; exact rwalk_k3 G R D xs err v hv w h hD hr
  by_cases n4 : k = 4
  · subst n4; exact rwalk_k4 G R D xs err v hv w h hD hr
  by_cases n5 : k = 5
  · subst n5; exact rwalk_k5 G R D xs err v hv w h hD hr
  by_cases n6 : k = 6
  · subst n6; exact rwalk_k6 G R D xs err v hv w h hD hr
  exact rwalk_k0 G R D xs err k v n1 n2 n3 n4 n5 n6 w h hD hr
end Go.Proofs.Ytbklngcocbnijaa
