/- Records: a reader's calls fill what they are shown. -/
import Derived.Test.YtbklngcocbnijaaTupReadZ
import Derived.Deep.MidRow
set_option linter.unusedVariables false
set_option linter.unusedSimpArgs false
namespace Go.Proofs.Ytbklngcocbnijaa
open Go.RowKit

/-- A reader's calls hold this. -/
def rdS (G : Nat) : Value := .agg #[.pointer (some ⟨G, 0, none⟩)]
/-- What a call leaves that takes n bytes and fills block P. -/
def FillD (w : World) (G P : Nat) (D : Nat → Prop) (xs : List Nat) (err : Int) (n : Nat) (cs : Array Value) (T : TypeId) (e : Ending) (w' : World) : Prop :=
  e = .returned (.tuple #[]) ∧ RdD w' G D (nxtX n xs) (nxtE n xs err) ∧ w'.heap[P]? = some (.cells cs T (0, 0)) ∧ Touch w w' (fun k => k = G ∨ k = P)
theorem tcs_one (t : TupD) : (tcs t).all (·.oneCell') = true := by rw [← Array.all_toList]; rfl
theorem RdD.ne {w : World} {G P : Nat} {D : Nat → Prop} {xs : List Nat} {err : Int} (h : RdD w G D xs err) (hD : D P) : P ≠ G := fun e => h.dg (e ▸ hD)

set_option maxRecDepth 20000 in
set_option maxHeartbeats 2000000 in
theorem f_u8 (G P o : Nat) (D : Nat → Prop) (xs : List Nat) (err : Int) (cs : Array Value) (T : TypeId) (w : World) (h : RdD w G D xs err) (hD : D P) (hb : w.heap[P]? = some (.cells cs T (0, 0))) (ho : o < cs.size) :
    Calls Try.prog 81 #[rdS G, .pointer (some ⟨P, o, none⟩)] w (FillD w G P D xs err 1 (cs.setIfInBounds o (.int .i64 (valN 1 xs : Nat))) T) := by
  have hne := h.ne hD
  obtain ⟨W1, hW1⟩ : ∃ W, w.alloc (.cells #[.pointer (some ⟨G, 0, none⟩)] 88) = W := ⟨_, rfl⟩
  have t1 : Touch w W1 (fun _ => False) := hW1 ▸ (Touch.refl _ _).alloc _
  have hbx : W1.heap[w.heap.size]? = some (.cells #[.pointer (some ⟨G, 0, none⟩)] 88 (0, 0)) := hW1 ▸ heap_alloc_new w _
  have c0 : W1.cell? ⟨w.heap.size, 0, none⟩ = some (.pointer (some ⟨G, 0, none⟩)) := cell_of_cells hbx 0
  have HC := Lib.hid (d_rU8 G D xs err W1 (h.still t1))
  have HB := Lib.hid (t1.keeps hb (fun h => h))
  have HNE := Lib.hid hne
  have HD := Lib.hid hD
  have HO := Lib.hid ho
  have HT := Lib.hid t1
  clear h hb hbx t1 hne hD ho
  unfold rdS
  go_enter Try.func81, Try.ntmps81
  go_wp2_with (go_at_call 94; go_loud ((with_reducible refine HC.out.mono ?_); rintro e w2 ⟨rfl, h2, t2⟩; have hb2 := t2.keeps HB.out HNE.out; have k0 : w2.cell? ⟨P, o, none⟩ = some (cs[o]'HO.out) := (cell_of_cells hb2 o).trans (Array.getElem?_eq_getElem HO.out); have k1 := free_of_cells hb2 o; have HB2 := Lib.hid hb2; have HR2 := Lib.hid h2; have HT2 := Lib.hid t2; clear hb2 h2 t2))
  go_end0
  have t3 : Touch w2 (w2.setCell ⟨P, o, none⟩ (.int .i64 (valN 1 xs : Nat))) (fun k => k = P) := (Touch.refl w2 _).into o _
  exact ⟨rfl, HR2.out.touch t3 (fun k _ h => h ▸ HD.out), heap_setCell_same w2 P o _ _ _ HB2.out, (Touch.trans (S := fun k => k = G ∨ k = P) (HT.out.mono (fun _ _ h => h.elim)) HT2.out (fun _ _ h => Or.inl h)).trans t3 (fun _ _ h => Or.inr h)⟩
set_option maxRecDepth 20000 in
set_option maxHeartbeats 2000000 in
theorem f_u16 (G P o : Nat) (D : Nat → Prop) (xs : List Nat) (err : Int) (cs : Array Value) (T : TypeId) (w : World) (h : RdD w G D xs err) (hD : D P) (hb : w.heap[P]? = some (.cells cs T (0, 0))) (ho : o < cs.size) :
    Calls Try.prog 82 #[rdS G, .pointer (some ⟨P, o, none⟩)] w (FillD w G P D xs err 2 (cs.setIfInBounds o (.int .i64 (valN 2 xs : Nat))) T) := by
  have hne := h.ne hD
  obtain ⟨W1, hW1⟩ : ∃ W, w.alloc (.cells #[.pointer (some ⟨G, 0, none⟩)] 88) = W := ⟨_, rfl⟩
  have t1 : Touch w W1 (fun _ => False) := hW1 ▸ (Touch.refl _ _).alloc _
  have hbx : W1.heap[w.heap.size]? = some (.cells #[.pointer (some ⟨G, 0, none⟩)] 88 (0, 0)) := hW1 ▸ heap_alloc_new w _
  have c0 : W1.cell? ⟨w.heap.size, 0, none⟩ = some (.pointer (some ⟨G, 0, none⟩)) := cell_of_cells hbx 0
  have HC := Lib.hid (d_rU16 G D xs err W1 (h.still t1))
  have HB := Lib.hid (t1.keeps hb (fun h => h))
  have HNE := Lib.hid hne
  have HD := Lib.hid hD
  have HO := Lib.hid ho
  have HT := Lib.hid t1
  clear h hb hbx t1 hne hD ho
  unfold rdS
  go_enter Try.func82, Try.ntmps82
  go_wp2_with (go_at_call 95; go_loud ((with_reducible refine HC.out.mono ?_); rintro e w2 ⟨rfl, h2, t2⟩; have hb2 := t2.keeps HB.out HNE.out; have k0 : w2.cell? ⟨P, o, none⟩ = some (cs[o]'HO.out) := (cell_of_cells hb2 o).trans (Array.getElem?_eq_getElem HO.out); have k1 := free_of_cells hb2 o; have HB2 := Lib.hid hb2; have HR2 := Lib.hid h2; have HT2 := Lib.hid t2; clear hb2 h2 t2))
  go_end0
  have t3 : Touch w2 (w2.setCell ⟨P, o, none⟩ (.int .i64 (valN 2 xs : Nat))) (fun k => k = P) := (Touch.refl w2 _).into o _
  exact ⟨rfl, HR2.out.touch t3 (fun k _ h => h ▸ HD.out), heap_setCell_same w2 P o _ _ _ HB2.out, (Touch.trans (S := fun k => k = G ∨ k = P) (HT.out.mono (fun _ _ h => h.elim)) HT2.out (fun _ _ h => Or.inl h)).trans t3 (fun _ _ h => Or.inr h)⟩
set_option maxRecDepth 20000 in
set_option maxHeartbeats 2000000 in
theorem f_u32 (G P o : Nat) (D : Nat → Prop) (xs : List Nat) (err : Int) (cs : Array Value) (T : TypeId) (w : World) (h : RdD w G D xs err) (hD : D P) (hb : w.heap[P]? = some (.cells cs T (0, 0))) (ho : o < cs.size) :
    Calls Try.prog 83 #[rdS G, .pointer (some ⟨P, o, none⟩)] w (FillD w G P D xs err 4 (cs.setIfInBounds o (.int .i64 (valN 4 xs : Nat))) T) := by
  have hne := h.ne hD
  have hlt := valN_lt 4 xs h.small
  have hpow : (256 : Nat) ^ 4 = 4294967296 := by decide
  rw [hpow] at hlt
  obtain ⟨W1, hW1⟩ : ∃ W, w.alloc (.cells #[.pointer (some ⟨G, 0, none⟩)] 88) = W := ⟨_, rfl⟩
  have t1 : Touch w W1 (fun _ => False) := hW1 ▸ (Touch.refl _ _).alloc _
  have hbx : W1.heap[w.heap.size]? = some (.cells #[.pointer (some ⟨G, 0, none⟩)] 88 (0, 0)) := hW1 ▸ heap_alloc_new w _
  have c0 : W1.cell? ⟨w.heap.size, 0, none⟩ = some (.pointer (some ⟨G, 0, none⟩)) := cell_of_cells hbx 0
  have HC := Lib.hid (d_rU32 G D xs err W1 (h.still t1))
  have HB := Lib.hid (t1.keeps hb (fun h => h))
  have HNE := Lib.hid hne
  have HD := Lib.hid hD
  have HO := Lib.hid ho
  have HT := Lib.hid t1
  clear h hb hbx t1 hne hD ho
  unfold rdS
  go_enter Try.func83, Try.ntmps83
  go_wp2_with (go_at_call 96; go_loud ((with_reducible refine HC.out.mono ?_); rintro e w2 ⟨rfl, h2, t2⟩; have hb2 := t2.keeps HB.out HNE.out; have k0 : w2.cell? ⟨P, o, none⟩ = some (cs[o]'HO.out) := (cell_of_cells hb2 o).trans (Array.getElem?_eq_getElem HO.out); have k1 := free_of_cells hb2 o; have HB2 := Lib.hid hb2; have HR2 := Lib.hid h2; have HT2 := Lib.hid t2; clear hb2 h2 t2))
  go_end0
  have t3 : Touch w2 (w2.setCell ⟨P, o, none⟩ (.int .i64 (valN 4 xs : Nat))) (fun k => k = P) := (Touch.refl w2 _).into o _
  exact ⟨rfl, HR2.out.touch t3 (fun k _ h => h ▸ HD.out), heap_setCell_same w2 P o _ _ _ HB2.out, (Touch.trans (S := fun k => k = G ∨ k = P) (HT.out.mono (fun _ _ h => h.elim)) HT2.out (fun _ _ h => Or.inl h)).trans t3 (fun _ _ h => Or.inr h)⟩
set_option maxRecDepth 20000 in
set_option maxHeartbeats 2000000 in
theorem f_addr (G P o : Nat) (D : Nat → Prop) (xs : List Nat) (err : Int) (cs : Array Value) (T : TypeId) (w : World) (h : RdD w G D xs err) (hD : D P) (hb : w.heap[P]? = some (.cells cs T (0, 0))) (ho : o < cs.size) :
    Calls Try.prog 84 #[rdS G, .pointer (some ⟨P, o, none⟩)] w (FillD w G P D xs err 4 (cs.setIfInBounds o (.int .u32 (valN 4 xs : Nat))) T) := by
  have hne := h.ne hD
  obtain ⟨W1, hW1⟩ : ∃ W, w.alloc (.cells #[.pointer (some ⟨G, 0, none⟩)] 88) = W := ⟨_, rfl⟩
  have t1 : Touch w W1 (fun _ => False) := hW1 ▸ (Touch.refl _ _).alloc _
  have hbx : W1.heap[w.heap.size]? = some (.cells #[.pointer (some ⟨G, 0, none⟩)] 88 (0, 0)) := hW1 ▸ heap_alloc_new w _
  have c0 : W1.cell? ⟨w.heap.size, 0, none⟩ = some (.pointer (some ⟨G, 0, none⟩)) := cell_of_cells hbx 0
  have HC := Lib.hid (d_rU32 G D xs err W1 (h.still t1))
  have HB := Lib.hid (t1.keeps hb (fun h => h))
  have HNE := Lib.hid hne
  have HD := Lib.hid hD
  have HO := Lib.hid ho
  have HT := Lib.hid t1
  clear h hb hbx t1 hne hD ho
  unfold rdS
  go_enter Try.func84, Try.ntmps84
  go_wp2_with (go_at_call 96; go_loud ((with_reducible refine HC.out.mono ?_); rintro e w2 ⟨rfl, h2, t2⟩; have hb2 := t2.keeps HB.out HNE.out; have k0 : w2.cell? ⟨P, o, none⟩ = some (cs[o]'HO.out) := (cell_of_cells hb2 o).trans (Array.getElem?_eq_getElem HO.out); have k1 := free_of_cells hb2 o; have HB2 := Lib.hid hb2; have HR2 := Lib.hid h2; have HT2 := Lib.hid t2; clear hb2 h2 t2))
  go_end0
  have t3 : Touch w2 (w2.setCell ⟨P, o, none⟩ (.int .u32 (valN 4 xs : Nat))) (fun k => k = P) := (Touch.refl w2 _).into o _
  exact ⟨rfl, HR2.out.touch t3 (fun k _ h => h ▸ HD.out), heap_setCell_same w2 P o _ _ _ HB2.out, (Touch.trans (S := fun k => k = G ∨ k = P) (HT.out.mono (fun _ _ h => h.elim)) HT2.out (fun _ _ h => Or.inl h)).trans t3 (fun _ _ h => Or.inr h)⟩
set_option maxRecDepth 20000 in
set_option maxHeartbeats 2000000 in
theorem f_i64 (G P o : Nat) (D : Nat → Prop) (xs : List Nat) (err : Int) (cs : Array Value) (T : TypeId) (w : World) (h : RdD w G D xs err) (hD : D P) (hb : w.heap[P]? = some (.cells cs T (0, 0))) (ho : o < cs.size) :
    Calls Try.prog 85 #[rdS G, .pointer (some ⟨P, o, none⟩)] w (FillD w G P D xs err 8 (cs.setIfInBounds o (.int .i64 (sgn (valN 8 xs)))) T) := by
  have hne := h.ne hD
  obtain ⟨W1, hW1⟩ : ∃ W, w.alloc (.cells #[.pointer (some ⟨G, 0, none⟩)] 88) = W := ⟨_, rfl⟩
  have t1 : Touch w W1 (fun _ => False) := hW1 ▸ (Touch.refl _ _).alloc _
  have hbx : W1.heap[w.heap.size]? = some (.cells #[.pointer (some ⟨G, 0, none⟩)] 88 (0, 0)) := hW1 ▸ heap_alloc_new w _
  have c0 : W1.cell? ⟨w.heap.size, 0, none⟩ = some (.pointer (some ⟨G, 0, none⟩)) := cell_of_cells hbx 0
  have HC := Lib.hid (d_rI64 G D xs err W1 (h.still t1))
  have HB := Lib.hid (t1.keeps hb (fun h => h))
  have HNE := Lib.hid hne
  have HD := Lib.hid hD
  have HO := Lib.hid ho
  have HT := Lib.hid t1
  clear h hb hbx t1 hne hD ho
  unfold rdS
  go_enter Try.func85, Try.ntmps85
  go_wp2_with (go_at_call 97; go_loud ((with_reducible refine HC.out.mono ?_); rintro e w2 ⟨rfl, h2, t2⟩; have hb2 := t2.keeps HB.out HNE.out; have k0 : w2.cell? ⟨P, o, none⟩ = some (cs[o]'HO.out) := (cell_of_cells hb2 o).trans (Array.getElem?_eq_getElem HO.out); have k1 := free_of_cells hb2 o; have HB2 := Lib.hid hb2; have HR2 := Lib.hid h2; have HT2 := Lib.hid t2; clear hb2 h2 t2))
  go_end0
  have t3 : Touch w2 (w2.setCell ⟨P, o, none⟩ (.int .i64 (sgn (valN 8 xs)))) (fun k => k = P) := (Touch.refl w2 _).into o _
  exact ⟨rfl, HR2.out.touch t3 (fun k _ h => h ▸ HD.out), heap_setCell_same w2 P o _ _ _ HB2.out, (Touch.trans (S := fun k => k = G ∨ k = P) (HT.out.mono (fun _ _ h => h.elim)) HT2.out (fun _ _ h => Or.inl h)).trans t3 (fun _ _ h => Or.inr h)⟩
/-- A tuple is put into a record's cells. -/
def tupS (cs : Array Value) (o : Nat) (t : TupD) : Array Value := ((((cs.setIfInBounds o (.int .u32 t.src)).setIfInBounds (o + 1) (.int .u32 t.dst)).setIfInBounds (o + 1 + 1) (.int .i64 t.proto)).setIfInBounds (o + 1 + 1 + 1) (.int .i64 t.sport)).setIfInBounds (o + 1 + 1 + 1 + 1) (.int .i64 t.dport)
set_option maxRecDepth 20000 in
set_option maxHeartbeats 2000000 in
theorem f_tuple (G P o : Nat) (D : Nat → Prop) (xs : List Nat) (err : Int) (cs : Array Value) (T : TypeId) (w : World) (h : RdD w G D xs err) (hD : D P) (hb : w.heap[P]? = some (.cells cs T (0, 0))) (ho : o + 5 ≤ cs.size) :
    Calls Try.prog 86 #[rdS G, .pointer (some ⟨P, o, none⟩)] w (FillD w G P D xs err 13 (tupS cs o (rtF xs)) T) := by
  have hne := h.ne hD
  obtain ⟨W1, hW1⟩ : ∃ W, w.alloc (.cells #[.pointer (some ⟨G, 0, none⟩)] 88) = W := ⟨_, rfl⟩
  have t1 : Touch w W1 (fun _ => False) := hW1 ▸ (Touch.refl _ _).alloc _
  have hbx : W1.heap[w.heap.size]? = some (.cells #[.pointer (some ⟨G, 0, none⟩)] 88 (0, 0)) := hW1 ▸ heap_alloc_new w _
  have c0 : W1.cell? ⟨w.heap.size, 0, none⟩ = some (.pointer (some ⟨G, 0, none⟩)) := cell_of_cells hbx 0
  have HC := Lib.hid (tRead_any G D xs err W1 (h.still t1))
  have HB := Lib.hid (t1.keeps hb (fun h => h))
  have HNE := Lib.hid hne
  have HD := Lib.hid hD
  have HO := Lib.hid ho
  have HT := Lib.hid t1
  have HIT := Lib.hid infoTup
  clear h hb hbx t1 hne hD ho
  unfold rdS
  go_enter Try.func86, Try.ntmps86
  go_wp2_with (first
    | (go_at_call 98; (with_reducible refine HC.out.mono ?_); rintro e w2 ⟨rfl, h2, t2⟩; have hb2 := t2.keeps HB.out HNE.out; have HTH : RowKit.Hid (w2.there P o 5) := Lib.hid (fun j hj => ⟨by have h9 := (cell_of_cells hb2 (o + j)).trans (Array.getElem?_eq_getElem (by have := HO.out; omega)); exact Option.isSome_of_eq_some h9, free_of_cells hb2 (o + j)⟩); have HB2 := Lib.hid hb2; have HR2 := Lib.hid h2; have HT2 := Lib.hid t2; clear hb2 h2 t2)
    | (refine wpList_store_mid rfl 24 (.tmp 11) (.tmp 9) rfl P o (tcs (rtF xs)) rfl rfl HTH.out HIT.out (tcs_one _) ?_))
  go_end0
  have t3 : Touch w2 (w2.setCells P o (tcs (rtF xs)).toList) (fun k => k = P) := by
    show Touch w2 (((((w2.setCell ⟨P, o, none⟩ _).setCell ⟨P, o + 1, none⟩ _).setCell ⟨P, o + 1 + 1, none⟩ _).setCell ⟨P, o + 1 + 1 + 1, none⟩ _).setCell ⟨P, o + 1 + 1 + 1 + 1, none⟩ _) (fun k => k = P)
    exact (((((Touch.refl w2 _).into _ _).into _ _).into _ _).into _ _).into _ _
  have e3 : (w2.setCells P o (tcs (rtF xs)).toList).heap[P]? = some (.cells (tupS cs o (rtF xs)) T (0, 0)) := by
    show (((((w2.setCell ⟨P, o, none⟩ _).setCell ⟨P, o + 1, none⟩ _).setCell ⟨P, o + 1 + 1, none⟩ _).setCell ⟨P, o + 1 + 1 + 1, none⟩ _).setCell ⟨P, o + 1 + 1 + 1 + 1, none⟩ _).heap[P]? = _
    exact heap_setCell_same _ P _ _ _ _ (heap_setCell_same _ P _ _ _ _ (heap_setCell_same _ P _ _ _ _ (heap_setCell_same _ P _ _ _ _ (heap_setCell_same w2 P o _ _ _ HB2.out))))
  exact ⟨rfl, HR2.out.touch t3 (fun k _ h => h ▸ HD.out), e3, (Touch.trans (S := fun k => k = G ∨ k = P) (HT.out.mono (fun _ _ h => h.elim)) HT2.out (fun _ _ h => Or.inl h)).trans t3 (fun _ _ h => Or.inr h)⟩
end Go.Proofs.Ytbklngcocbnijaa
