/- Records: what a reader's walk over a flow fills. -/
import Derived.Test.YtbklngcocbnijaaRecRdMZ
import Derived.Deep.DeepCutAuto
set_option linter.unusedVariables false
set_option linter.unusedSimpArgs false
namespace Go.Proofs.Ytbklngcocbnijaa
open Go.RowKit

/-- What a reader's calls are. -/
def rdC (G : Nat) : Array Value := #[.func (.func 81) #[rdS G] #[], .func (.func 82) #[rdS G] #[], .func (.func 83) #[rdS G] #[], .func (.func 84) #[rdS G] #[], .func (.func 85) #[rdS G] #[], .func (.func 86) #[rdS G] #[]]
theorem rdcells_of {w : World} {B G : Nat} {T : TypeId} (hb : w.heap[B]? = some (.cells (rdC G) T (0, 0))) :
    w.cell? ⟨B, 0, none⟩ = some (.func (.func 81) #[rdS G] #[]) ∧ w.cell? ⟨B, 1, none⟩ = some (.func (.func 82) #[rdS G] #[]) ∧ w.cell? ⟨B, 2, none⟩ = some (.func (.func 83) #[rdS G] #[]) ∧
    w.cell? ⟨B, 3, none⟩ = some (.func (.func 84) #[rdS G] #[]) ∧ w.cell? ⟨B, 4, none⟩ = some (.func (.func 85) #[rdS G] #[]) ∧ w.cell? ⟨B, 5, none⟩ = some (.func (.func 86) #[rdS G] #[]) :=
  ⟨cell_of_cells hb 0, cell_of_cells hb 1, cell_of_cells hb 2, cell_of_cells hb 3, cell_of_cells hb 4, cell_of_cells hb 5⟩
theorem rset_t (r : RecD) (a : Option Addr) (cap : Nat) (t : TupD) : tupS (rcs r a cap) 1 t = rcs { r with t := t } a cap := rfl
theorem rset_fb (r : RecD) (a : Option Addr) (cap : Nat) (x : Int) : (rcs r a cap).setIfInBounds 6 (.int .i64 x) = rcs { r with fb := x } a cap := rfl
theorem rset_fg (r : RecD) (a : Option Addr) (cap : Nat) (x : Int) : (rcs r a cap).setIfInBounds 7 (.int .i64 x) = rcs { r with fg := x } a cap := rfl
theorem rset_fs (r : RecD) (a : Option Addr) (cap : Nat) (x : Int) : (rcs r a cap).setIfInBounds 8 (.int .i64 x) = rcs { r with fs := x } a cap := rfl
theorem rset_gen (r : RecD) (a : Option Addr) (cap : Nat) (x : Int) : (rcs r a cap).setIfInBounds 9 (.int .i64 x) = rcs { r with gen := x } a cap := rfl
theorem rset_be (r : RecD) (a : Option Addr) (cap : Nat) (x : Int) : (rcs r a cap).setIfInBounds 11 (.int .i64 x) = rcs { r with be := x } a cap := rfl
theorem rset_un (r : RecD) (a : Option Addr) (cap : Nat) (x : Int) : (rcs r a cap).setIfInBounds 12 (.int .i64 x) = rcs { r with un := x } a cap := rfl
theorem rset_ct (r : RecD) (a : Option Addr) (cap : Nat) (x : Int) : (rcs r a cap).setIfInBounds 13 (.int .i64 x) = rcs { r with ct := x } a cap := rfl
theorem rcs_size (r : RecD) (a : Option Addr) (cap : Nat) : (rcs r a cap).size = 14 := rfl
/-- A flow that is read into a record. -/
def flowR (r : RecD) (v : Int) (xs : List Nat) : RecD := { r with t := rtF xs, fb := (valN 2 (nxtX 13 xs) : Nat), fg := if v < 2 then r.fg else (valN 4 (nxtX 15 xs) : Nat), fs := if v < 3 then r.fs else sgn (valN 8 (nxtX 19 xs)) }

set_option maxRecDepth 20000 in
set_option maxHeartbeats 4000000 in
theorem rflow_v1 (G R : Nat) (D : Nat → Prop) (xs : List Nat) (err : Int) (r : RecD) (a : Option Addr) (cap : Nat) (w : World) (h : RdD w G D xs err) (hD : D R) (hr : w.heap[R]? = some (.cells (rcs r a cap) 29 (0, 0))) :
    Calls Try.prog 78 #[.agg (rdC G), .pointer (some ⟨R, 1, none⟩), .int .i64 1] w (FillD w G R D xs err (flW 1) (rcs (flowR r 1 xs) a cap) 29) := by
  have hne := h.ne hD
  have hlt := h.lt
  have hrl := heap_lt hr
  obtain ⟨W1, hW1⟩ : ∃ W, w.alloc (.cells (rdC G) 76) = W := ⟨_, rfl⟩
  have t1 : Touch w W1 (fun _ => False) := hW1 ▸ (Touch.refl _ _).alloc _
  have HC : RowKit.Hid (W1.heap[w.heap.size]? = some (.cells (rdC G) 76 (0, 0))) := Lib.hid (hW1 ▸ heap_alloc_new w _)
  have HR := Lib.hid (h.still t1)
  have HB := Lib.hid (t1.keeps hr (fun h => h))
  have HT : RowKit.Hid (Touch w W1 (fun k => k = G ∨ k = R)) := Lib.hid (t1.mono (fun _ _ h => h.elim))
  have HD := Lib.hid hD
  have HCN : RowKit.Hid (¬ (w.heap.size = G ∨ w.heap.size = R)) := Lib.hid (by omega)
  obtain ⟨m0, m1, m2, m3, m4, m5⟩ := rdcells_of HC.out
  clear h hr hD hne hlt hrl t1
  simp only [rdC] at hW1
  simp only [rdC]
  go_enter Try.func78, Try.ntmps78
  go_wp2_with fail
  go_still_tail 5, (by kernel_rfl)
  change wpList _ _ _ _ _ W1.drew
  have HQ := Lib.hid (f_tuple G R 1 D _ _ _ _ W1.drew HR.out.drew HD.out HB.out (by rw [rcs_size]; decide))
  rw [rset_t] at HQ
  go_wp2_with (go_at_call 86; (with_reducible refine HQ.out.mono ?_); rintro e w2 ⟨rfl, h1, h2, h3⟩; have t9 := ((Touch.refl W1 _).drew).trans h3 (fun _ _ h => h); have HR := Lib.hid h1; have HB := Lib.hid h2; have HC := Lib.hid (t9.keeps HC.out HCN.out); have HT := Lib.hid (HT.out.trans t9 (fun k hk h => h)); clear t9 h1 h2 h3 m0 m1 m2 m3 m4 m5; obtain ⟨m0, m1, m2, m3, m4, m5⟩ := rdcells_of HC.out)
  skip
  go_wp2_with fail
  go_still_tail 5, (by kernel_rfl)
  change wpList _ _ _ _ _ w2.drew
  have HQ := Lib.hid (f_u16 G R 6 D _ _ _ _ w2.drew HR.out.drew HD.out HB.out (by rw [rcs_size]; decide))
  rw [rset_fb] at HQ
  go_wp2_with (go_at_call 82; (with_reducible refine HQ.out.mono ?_); rintro e w3 ⟨rfl, h1, h2, h3⟩; have t9 := ((Touch.refl w2 _).drew).trans h3 (fun _ _ h => h); have HR := Lib.hid h1; have HB := Lib.hid h2; have HC := Lib.hid (t9.keeps HC.out HCN.out); have HT := Lib.hid (HT.out.trans t9 (fun k hk h => h)); clear t9 h1 h2 h3 m0 m1 m2 m3 m4 m5; obtain ⟨m0, m1, m2, m3, m4, m5⟩ := rdcells_of HC.out)
  rw [nxtX_nxtX, nxtE_nxtE] at HR
  go_end0
  exact ⟨rfl, HR.out, HB.out, HT.out⟩
set_option maxRecDepth 20000 in
set_option maxHeartbeats 4000000 in
theorem rflow_v2 (G R : Nat) (D : Nat → Prop) (xs : List Nat) (err : Int) (r : RecD) (a : Option Addr) (cap : Nat) (w : World) (h : RdD w G D xs err) (hD : D R) (hr : w.heap[R]? = some (.cells (rcs r a cap) 29 (0, 0))) :
    Calls Try.prog 78 #[.agg (rdC G), .pointer (some ⟨R, 1, none⟩), .int .i64 2] w (FillD w G R D xs err (flW 2) (rcs (flowR r 2 xs) a cap) 29) := by
  have hne := h.ne hD
  have hlt := h.lt
  have hrl := heap_lt hr
  obtain ⟨W1, hW1⟩ : ∃ W, w.alloc (.cells (rdC G) 76) = W := ⟨_, rfl⟩
  have t1 : Touch w W1 (fun _ => False) := hW1 ▸ (Touch.refl _ _).alloc _
  have HC : RowKit.Hid (W1.heap[w.heap.size]? = some (.cells (rdC G) 76 (0, 0))) := Lib.hid (hW1 ▸ heap_alloc_new w _)
  have HR := Lib.hid (h.still t1)
  have HB := Lib.hid (t1.keeps hr (fun h => h))
  have HT : RowKit.Hid (Touch w W1 (fun k => k = G ∨ k = R)) := Lib.hid (t1.mono (fun _ _ h => h.elim))
  have HD := Lib.hid hD
  have HCN : RowKit.Hid (¬ (w.heap.size = G ∨ w.heap.size = R)) := Lib.hid (by omega)
  obtain ⟨m0, m1, m2, m3, m4, m5⟩ := rdcells_of HC.out
  clear h hr hD hne hlt hrl t1
  simp only [rdC] at hW1
  simp only [rdC]
  go_enter Try.func78, Try.ntmps78
  go_wp2_with fail
  go_still_tail 5, (by kernel_rfl)
  change wpList _ _ _ _ _ W1.drew
  have HQ := Lib.hid (f_tuple G R 1 D _ _ _ _ W1.drew HR.out.drew HD.out HB.out (by rw [rcs_size]; decide))
  rw [rset_t] at HQ
  go_wp2_with (go_at_call 86; (with_reducible refine HQ.out.mono ?_); rintro e w2 ⟨rfl, h1, h2, h3⟩; have t9 := ((Touch.refl W1 _).drew).trans h3 (fun _ _ h => h); have HR := Lib.hid h1; have HB := Lib.hid h2; have HC := Lib.hid (t9.keeps HC.out HCN.out); have HT := Lib.hid (HT.out.trans t9 (fun k hk h => h)); clear t9 h1 h2 h3 m0 m1 m2 m3 m4 m5; obtain ⟨m0, m1, m2, m3, m4, m5⟩ := rdcells_of HC.out)
  skip
  go_wp2_with fail
  go_still_tail 5, (by kernel_rfl)
  change wpList _ _ _ _ _ w2.drew
  have HQ := Lib.hid (f_u16 G R 6 D _ _ _ _ w2.drew HR.out.drew HD.out HB.out (by rw [rcs_size]; decide))
  rw [rset_fb] at HQ
  go_wp2_with (go_at_call 82; (with_reducible refine HQ.out.mono ?_); rintro e w3 ⟨rfl, h1, h2, h3⟩; have t9 := ((Touch.refl w2 _).drew).trans h3 (fun _ _ h => h); have HR := Lib.hid h1; have HB := Lib.hid h2; have HC := Lib.hid (t9.keeps HC.out HCN.out); have HT := Lib.hid (HT.out.trans t9 (fun k hk h => h)); clear t9 h1 h2 h3 m0 m1 m2 m3 m4 m5; obtain ⟨m0, m1, m2, m3, m4, m5⟩ := rdcells_of HC.out)
  rw [nxtX_nxtX, nxtE_nxtE] at HR
  go_wp2_with fail
  go_still_tail 5, (by kernel_rfl)
  change wpList _ _ _ _ _ w3.drew
  have HQ := Lib.hid (f_u32 G R 7 D _ _ _ _ w3.drew HR.out.drew HD.out HB.out (by rw [rcs_size]; decide))
  rw [rset_fg] at HQ
  go_wp2_with (go_at_call 83; (with_reducible refine HQ.out.mono ?_); rintro e w4 ⟨rfl, h1, h2, h3⟩; have t9 := ((Touch.refl w3 _).drew).trans h3 (fun _ _ h => h); have HR := Lib.hid h1; have HB := Lib.hid h2; have HC := Lib.hid (t9.keeps HC.out HCN.out); have HT := Lib.hid (HT.out.trans t9 (fun k hk h => h)); clear t9 h1 h2 h3 m0 m1 m2 m3 m4 m5; obtain ⟨m0, m1, m2, m3, m4, m5⟩ := rdcells_of HC.out)
  rw [nxtX_nxtX, nxtE_nxtE] at HR
  go_end0
  exact ⟨rfl, HR.out, HB.out, HT.out⟩
set_option maxRecDepth 20000 in
set_option maxHeartbeats 4000000 in
theorem rflow_v3 (G R : Nat) (D : Nat → Prop) (xs : List Nat) (err : Int) (r : RecD) (a : Option Addr) (cap : Nat) (w : World) (h : RdD w G D xs err) (hD : D R) (hr : w.heap[R]? = some (.cells (rcs r a cap) 29 (0, 0))) :
    Calls Try.prog 78 #[.agg (rdC G), .pointer (some ⟨R, 1, none⟩), .int .i64 3] w (FillD w G R D xs err (flW 3) (rcs (flowR r 3 xs) a cap) 29) := by
  have hne := h.ne hD
  have hlt := h.lt
  have hrl := heap_lt hr
  obtain ⟨W1, hW1⟩ : ∃ W, w.alloc (.cells (rdC G) 76) = W := ⟨_, rfl⟩
  have t1 : Touch w W1 (fun _ => False) := hW1 ▸ (Touch.refl _ _).alloc _
  have HC : RowKit.Hid (W1.heap[w.heap.size]? = some (.cells (rdC G) 76 (0, 0))) := Lib.hid (hW1 ▸ heap_alloc_new w _)
  have HR := Lib.hid (h.still t1)
  have HB := Lib.hid (t1.keeps hr (fun h => h))
  have HT : RowKit.Hid (Touch w W1 (fun k => k = G ∨ k = R)) := Lib.hid (t1.mono (fun _ _ h => h.elim))
  have HD := Lib.hid hD
  have HCN : RowKit.Hid (¬ (w.heap.size = G ∨ w.heap.size = R)) := Lib.hid (by omega)
  obtain ⟨m0, m1, m2, m3, m4, m5⟩ := rdcells_of HC.out
  clear h hr hD hne hlt hrl t1
  simp only [rdC] at hW1
  simp only [rdC]
  go_enter Try.func78, Try.ntmps78
  go_wp2_with fail
  go_still_tail 5, (by kernel_rfl)
  change wpList _ _ _ _ _ W1.drew
  have HQ := Lib.hid (f_tuple G R 1 D _ _ _ _ W1.drew HR.out.drew HD.out HB.out (by rw [rcs_size]; decide))
  rw [rset_t] at HQ
  go_wp2_with (go_at_call 86; (with_reducible refine HQ.out.mono ?_); rintro e w2 ⟨rfl, h1, h2, h3⟩; have t9 := ((Touch.refl W1 _).drew).trans h3 (fun _ _ h => h); have HR := Lib.hid h1; have HB := Lib.hid h2; have HC := Lib.hid (t9.keeps HC.out HCN.out); have HT := Lib.hid (HT.out.trans t9 (fun k hk h => h)); clear t9 h1 h2 h3 m0 m1 m2 m3 m4 m5; obtain ⟨m0, m1, m2, m3, m4, m5⟩ := rdcells_of HC.out)
  skip
  go_wp2_with fail
  go_still_tail 5, (by kernel_rfl)
  change wpList _ _ _ _ _ w2.drew
  have HQ := Lib.hid (f_u16 G R 6 D _ _ _ _ w2.drew HR.out.drew HD.out HB.out (by rw [rcs_size]; decide))
  rw [rset_fb] at HQ
  go_wp2_with (go_at_call 82; (with_reducible refine HQ.out.mono ?_); rintro e w3 ⟨rfl, h1, h2, h3⟩; have t9 := ((Touch.refl w2 _).drew).trans h3 (fun _ _ h => h); have HR := Lib.hid h1; have HB := Lib.hid h2; have HC := Lib.hid (t9.keeps HC.out HCN.out); have HT := Lib.hid (HT.out.trans t9 (fun k hk h => h)); clear t9 h1 h2 h3 m0 m1 m2 m3 m4 m5; obtain ⟨m0, m1, m2, m3, m4, m5⟩ := rdcells_of HC.out)
  rw [nxtX_nxtX, nxtE_nxtE] at HR
  go_wp2_with fail
  go_still_tail 5, (by kernel_rfl)
  change wpList _ _ _ _ _ w3.drew
  have HQ := Lib.hid (f_u32 G R 7 D _ _ _ _ w3.drew HR.out.drew HD.out HB.out (by rw [rcs_size]; decide))
  rw [rset_fg] at HQ
  go_wp2_with (go_at_call 83; (with_reducible refine HQ.out.mono ?_); rintro e w4 ⟨rfl, h1, h2, h3⟩; have t9 := ((Touch.refl w3 _).drew).trans h3 (fun _ _ h => h); have HR := Lib.hid h1; have HB := Lib.hid h2; have HC := Lib.hid (t9.keeps HC.out HCN.out); have HT := Lib.hid (HT.out.trans t9 (fun k hk h => h)); clear t9 h1 h2 h3 m0 m1 m2 m3 m4 m5; obtain ⟨m0, m1, m2, m3, m4, m5⟩ := rdcells_of HC.out)
  rw [nxtX_nxtX, nxtE_nxtE] at HR
  go_wp2_with fail
  go_still_tail 5, (by kernel_rfl)
  change wpList _ _ _ _ _ w4.drew
  have HQ := Lib.hid (f_i64 G R 8 D _ _ _ _ w4.drew HR.out.drew HD.out HB.out (by rw [rcs_size]; decide))
  rw [rset_fs] at HQ
  go_wp2_with (go_at_call 85; (with_reducible refine HQ.out.mono ?_); rintro e w5 ⟨rfl, h1, h2, h3⟩; have t9 := ((Touch.refl w4 _).drew).trans h3 (fun _ _ h => h); have HR := Lib.hid h1; have HB := Lib.hid h2; have HC := Lib.hid (t9.keeps HC.out HCN.out); have HT := Lib.hid (HT.out.trans t9 (fun k hk h => h)); clear t9 h1 h2 h3 m0 m1 m2 m3 m4 m5; obtain ⟨m0, m1, m2, m3, m4, m5⟩ := rdcells_of HC.out)
  rw [nxtX_nxtX, nxtE_nxtE] at HR
  go_end0
  exact ⟨rfl, HR.out, HB.out, HT.out⟩
theorem rflow_any (G R : Nat) (D : Nat → Prop) (xs : List Nat) (err : Int) (r : RecD) (a : Option Addr) (cap : Nat) (v : Int) (hv : v = 1 ∨ v = 2 ∨ v = 3) (w : World) (h : RdD w G D xs err) (hD : D R) (hr : w.heap[R]? = some (.cells (rcs r a cap) 29 (0, 0))) :
    Calls Try.prog 78 #[.agg (rdC G), .pointer (some ⟨R, 1, none⟩), .int .i64 v] w (FillD w G R D xs err (flW v) (rcs (flowR r v xs) a cap) 29) := by
  rcases hv with rfl | rfl | rfl
  · exact rflow_v1 G R D xs err r a cap w h hD hr
  · exact rflow_v2 G R D xs err r a cap w h hD hr
  · exact rflow_v3 G R D xs err r a cap w h hD hr
end Go.Proofs.Ytbklngcocbnijaa
