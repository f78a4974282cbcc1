/- A view of a state lies in memory; what a record leaves of others. -/
import Derived.Test.YtdhimlkndpiacaaStSameZ
import Derived.Test.YtdhimlkndpiacaaStArgsZ
import Derived.Test.YtdhimlkndpiacaaGIZ
set_option linter.unusedVariables false
set_option linter.unusedSimpArgs false
namespace Go.Proofs.Ytdhimlkndpiacaa
open Go.RowKit

def vwS (s : StS) : StS := ⟨s.gen, s.bs, srtD s.D, srtF s.F⟩
/-- Its rows were laid since w. -/
def VwNew (w : World) (a1 a2 a3 : Option Addr) : Prop := (∀ x, a1 = some x → w.heap.size ≤ x.block) ∧ (∀ x, a2 = some x → w.heap.size ≤ x.block) ∧ (∀ x, a3 = some x → w.heap.size ≤ x.block)
theorem VwAt.touch {w0 w w' : World} {x : StS} {a1 : Option Addr} {c1 : Nat} {a2 : Option Addr} {c2 : Nat} {a3 : Option Addr} {c3 : Nat} {S : Nat → Prop} (h : VwAt w x a1 c1 a2 c2 a3 c3) (hn : VwNew w0 a1 a2 a3) (t : Touch w w' S) (hS : ∀ k, S k → k < w0.heap.size) : VwAt w' x a1 c1 a2 c2 a3 c3 :=
  ⟨h.b.touch t (fun y hy => .inr (fun hs => by have := hS _ hs; have := hn.1 y hy; omega)), h.d.touch t (fun y hy => .inr (fun hs => by have := hS _ hs; have := hn.2.1 y hy; omega)), h.f.touch t (fun y hy => .inr (fun hs => by have := hS _ hs; have := hn.2.2 y hy; omega))⟩
theorem VwIs.at {w w' : World} {s : StS} {e : Ending} (h : VwIs w w' s e) : ∃ a1 c1 a2 c2 a3 c3, e = .returned (.agg (vcs (vwS s) a1 c1 a2 c2 a3 c3)) ∧ (VwAt w' (vwS s) a1 c1 a2 c2 a3 c3 ∧ VwNew w a1 a2 a3) ∧ Touch w w' (fun _ => False) := by
  obtain ⟨a1, c1, a2, c2, a3, c3, rfl, o1, o2, o3, t⟩ := h
  have e2 : (srtD s.D).length = s.D.length := (srtD_perm _).length_eq
  have e3 : (srtF s.F).length = s.F.length := (srtF_perm _).length_eq
  refine ⟨a1, c1, a2, c2, a3, c3, ?_, ⟨⟨o1.row.2.1, ?_, ?_⟩, (fun x hx => (o1.row.2.2 x hx).1), (fun x hx => (o2.row'.2.2 x hx).1), (fun x hx => (o3.row'.2.2 x hx).1)⟩, t⟩
  · unfold vcs vwS; rw [e2, e3]
  · show RowS w' a2 (srtD s.D).length c2 2 ((srtD s.D).map dcl)
    rw [e2]; exact o2.row'.2.1
  · show RowS w' a3 (srtF s.F).length c3 8 ((srtF s.F).map fcl)
    rw [e3]; exact o3.row'.2.1
theorem stvw_any (w : World) (b0 : Nat) (h : StH) (s : StS) (m : StM w b0 h s) :
    Calls Try.prog 9 #[.pointer (some ⟨b0, 0, none⟩)] w fun e w' => ∃ a1 c1 a2 c2 a3 c3, e = .returned (.agg (vcs (vwS s) a1 c1 a2 c2 a3 c3)) ∧ (VwAt w' (vwS s) a1 c1 a2 c2 a3 c3 ∧ VwNew w a1 a2 a3) ∧ Touch w w' (fun _ => False) :=
  (stview_any w b0 h s m).mono fun _ _ h => h.at
/-- Is it said of flows? -/
def flowB (r : RecD) : Bool := decide (r.kind = 1) || decide (r.kind = 2)
/-- The drains that a record doesn't speak of. -/
def keepB (r : RecD) (d : DR) : Bool := flowB r || !decide (d.b = r.be)
theorem hasF_consA (f : FlD) (F : List FlD) (t : TupD) : hasF (f :: F) t = (decide (f.t = t) || hasF F t) := by
  rw [Bool.eq_iff_iff, Bool.or_eq_true, hasF_iff, hasF_iff, decide_eq_true_iff, List.map_cons, List.mem_cons]
  exact ⟨fun h => h.imp Eq.symm id, fun h => h.imp Eq.symm id⟩
theorem mem_hasF {F : List FlD} (hn : (F.map FlD.t).Nodup) {f : FlD} (hf : f ∈ F) : hasF F f.t = true ∧ getF F f.t = f :=
  ⟨(hasF_iff _ _).2 (List.mem_map_of_mem hf), getF_of hn hf⟩
theorem apart_gen {s : StS} {r : RecD} (h3 : r.kind ≠ 3) (h0 : stE s r = 0) : (stS s r).gen = s.gen ∧ (stS s r).bs = s.bs := by
  unfold stS; rw [if_pos h0]; unfold stDo
  by_cases h1 : r.kind = 1
  · rw [if_pos h1]; exact ⟨rfl, rfl⟩
  rw [if_neg h1]
  by_cases h2 : r.kind = 2
  · rw [if_pos h2]; exact ⟨rfl, rfl⟩
  rw [if_neg h2, if_neg h3]
  by_cases h4 : r.kind = 4
  · rw [if_pos h4]; exact ⟨rfl, rfl⟩
  rw [if_neg h4]
  by_cases h5 : r.kind = 5
  · rw [if_pos h5]; exact ⟨rfl, rfl⟩
  rw [if_neg h5]; exact ⟨rfl, rfl⟩
/-- Other tuples' flows stay. -/
theorem apart_flow {s : StS} {r : RecD} (o : StOk s) (h3 : r.kind ≠ 3) (h0 : stE s r = 0) {f : FlD} (hf : f ∈ s.F) (hk : flowB r = true → f.t ≠ r.t) : hasF (stS s r).F f.t = true ∧ getF (stS s r).F f.t = f := by
  have o' := o.step r
  refine mem_hasF o'.fn ?_
  unfold stS; rw [if_pos h0]; unfold stDo
  unfold flowB at hk
  by_cases h1 : r.kind = 1
  · rw [if_pos h1]
    have hne := hk (by simp [h1])
    exact List.mem_cons_of_mem _ (List.mem_filter.2 ⟨hf, by simpa using hne⟩)
  rw [if_neg h1]
  by_cases h2 : r.kind = 2
  · rw [if_pos h2]
    have hne := hk (by simp [h2])
    exact List.mem_filter.2 ⟨hf, by simpa using hne⟩
  rw [if_neg h2, if_neg h3]
  by_cases h4 : r.kind = 4
  · rw [if_pos h4]; exact hf
  rw [if_neg h4]
  by_cases h5 : r.kind = 5
  · rw [if_pos h5]; exact hf
  rw [if_neg h5]; exact hf
/-- Other backends' drains stay, and at most one comes. -/
theorem apart_drain {s : StS} {r : RecD} (h3 : r.kind ≠ 3) (h0 : stE s r = 0) :
    (∀ d ∈ s.D, keepB r d = true → d ∈ (stS s r).D) ∧ (s.D.filter (keepB r)).length ≤ (stS s r).D.length ∧ (stS s r).D.length ≤ (s.D.filter (keepB r)).length + 1 := by
  have hm : mayRB r = true := by
    cases e : mayRB r with
    | true => rfl
    | false => unfold stE at h0; rw [if_pos e] at h0; cases h0
  unfold stS; rw [if_pos h0]; unfold stDo
  have hall : flowB r = true → s.D.filter (keepB r) = s.D := fun h => List.filter_eq_self.2 fun d _ => by unfold keepB; rw [h]; rfl
  have hdel : flowB r = false → s.D.filter (keepB r) = delD s.D r.be := fun h => by
    unfold delD; congr 1; funext d; unfold keepB; rw [h]; rfl
  by_cases h1 : r.kind = 1
  · rw [if_pos h1, hall (by unfold flowB; simp [h1])]
    exact ⟨fun d hd _ => hd, Nat.le_refl _, Nat.le_succ _⟩
  rw [if_neg h1]
  by_cases h2 : r.kind = 2
  · rw [if_pos h2, hall (by unfold flowB; simp [h2])]
    exact ⟨fun d hd _ => hd, Nat.le_refl _, Nat.le_succ _⟩
  rw [if_neg h2, if_neg h3, hdel (by unfold flowB; simp [h1, h2])]
  have hk : ∀ d ∈ s.D, keepB r d = true → d ∈ delD s.D r.be := fun d hd hk => by
    rw [← hdel (by unfold flowB; simp [h1, h2])]; exact List.mem_filter.2 ⟨hd, hk⟩
  by_cases h4 : r.kind = 4
  · rw [if_pos h4]
    exact ⟨fun d hd hk' => List.mem_cons_of_mem _ (hk d hd hk'), Nat.le_succ _, Nat.le_refl _⟩
  rw [if_neg h4]
  by_cases h5 : r.kind = 5
  · rw [if_pos h5]
    exact ⟨hk, Nat.le_refl _, Nat.le_succ _⟩
  exfalso
  obtain ⟨e, _⟩ := st_6 (s := s) hm h1 h2 h3 h4 h5
  omega
def cntB14 (r : RecD) (D : List DR) (k : Nat) : Nat := ((D.take k).filter (keepB r)).length
theorem cntB14_succ {r : RecD} {D : List DR} {k : Nat} (h : k < D.length) : cntB14 r D (k + 1) = cntB14 r D k + (if keepB r (gd D k) then 1 else 0) := by
  unfold cntB14
  rw [List.take_succ_eq_append_getElem h, List.filter_append, List.length_append, ← gd_get D k h]
  congr 1
  rw [List.filter_cons]
  cases keepB r (gd D k) <;> rfl
theorem cntB14_le (r : RecD) (D : List DR) (k : Nat) : cntB14 r D k ≤ D.length :=
  Nat.le_trans (List.length_filter_le _ _) (by rw [List.length_take]; omega)
theorem cntB14_all (r : RecD) (D : List DR) : cntB14 r (srtD D) (srtD D).length = (D.filter (keepB r)).length := by
  unfold cntB14
  rw [List.take_of_length_le (Nat.le_refl _)]
  exact ((srtD_perm D).filter _).length_eq
def eqDB (e d : DR) : Bool := decide (e.b = d.b ∧ e.u = d.u)
def inD14 (L : List DR) (d : DR) : Bool := L.any (fun e => eqDB e d)
theorem inD14_mem {L : List DR} {d : DR} (h : d ∈ L) : inD14 L d = true := List.any_eq_true.2 ⟨d, h, decide_eq_true ⟨rfl, rfl⟩⟩
theorem inD14_succ {L : List DR} {d : DR} {k : Nat} (h : k < L.length) : inD14 (L.take (k + 1)) d = (inD14 (L.take k) d || eqDB (gd L k) d) := by
  unfold inD14
  rw [List.take_succ_eq_append_getElem h, List.any_append, ← gd_get L k h]
  simp
theorem dr_cells {w : World} {g off n cap : Nat} {l : List DR} (h : RowS w (some ⟨g, off, none⟩) n cap 2 (l.map dcl)) (k : Nat) (hk : k < l.length) :
    w.cell? ⟨g, off + k * 2, none⟩ = some (.int .i64 (gd l k).b) ∧ w.cell? ⟨g, off + k * 2 + 1, none⟩ = some (.int .i64 (gd l k).u) := by
  have hk' : k < (l.map dcl).length := by simpa using hk
  have e : (l.map dcl)[k] = dcl (gd l k) := by rw [List.getElem_map, gd_get l k hk]
  exact ⟨h.cell k hk' 0 _ (by rw [e]; rfl), h.cell k hk' 1 _ (by rw [e]; rfl)⟩
/-- One record by itself, as a row. -/
theorem oneRB {w : World} {B : Nat} {x : RecB} (g : w.heap[B]? = some (.cells (rcs x.r x.a x.c) 29 (0, 0))) : RowRB w (some ⟨B, 0, none⟩) 1 1 [x] := by
  refine ⟨rfl, Nat.le_refl _, by decide, ?_, .inr ⟨B, 0, rfl, heap_lt g, ?_⟩⟩
  · intro l hl
    rw [List.map_cons, List.map_nil, List.mem_singleton] at hl
    subst hl; rfl
  · intro i hi j u hu
    obtain rfl : i = 0 := by simp at hi; exact hi
    have h1 := cell_of_cells g j
    simp only [Nat.zero_mul, Nat.zero_add]
    rw [h1]
    simpa [RecB.cells] using hu
end Go.Proofs.Ytdhimlkndpiacaa
