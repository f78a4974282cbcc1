/- The steps of a region that makes two records: a load taken first, a new variable, a store, each with what it leaves. -/
import Derived.Test.YtbklngcocbnijaaStepA
import Derived.Deep.RegionHeld
set_option linter.unusedVariables false
namespace Go.Proofs.Ytbklngcocbnijaa
open Go.RowKit

theorem yieldsIf_row {P : Program} {ops : Array Oper} {S : World → Prop} {o : Oper} {a : Act} (hw : Region.wanted o (yielded ops a.tmps) = true) (ty : TypeId) (x : Operand) (ho : o.op = .load ty x)
    (g : Nat) (hx : a.eval x = .pointer (some ⟨g, 0, none⟩)) (t : TypeId) (cs : Array Value) (fr : Nat × Nat) (d : TypeDesc) (hg : ∀ w, S w → w.heap[g]? = some (.cells cs t fr))
    (hu : P.underlying ty = some d) (hd : (match d with | .struct _ | .array _ _ => true | _ => false) = true) (hi : (P.info? ty).map (·.size) = some cs.size) : YieldsIf P ops S o (.agg cs) a :=
  .inl ⟨hw, fun w hw' => by
    unfold execOp
    simp only [ho, hx, load_at (hg w hw') hu hd hi, Sem.run_bind, Sem.run_pure, Result.andThen_ok]⟩
set_option maxRecDepth 20000 in
theorem step_allocS {ops : Array Oper} {o : Oper} {d : Tmp} {a : Act} {w : World} {K : Act → World → Prop} {Q : Exit → Act → World → Prop} {X : Prop} (hgd : o.guard = none) (ho : o.op = .alloc 29) (hd : o.dst = some d)
    (h : ∀ w' g, w'.heap[g]? = some (.cells (rcs ⟨0, noT, 0, 0, 0, 0, [], 0, 0, 0⟩ none 0) 29 (0, 0)) → w.heap.size ≤ g → g < w'.heap.size → Touch w w' (fun _ => False) → K (a.put (some d) (.pointer (some ⟨g, 0, none⟩))) w') :
    if Region.wanted o (yielded ops a.tmps) = true then Oper.wp Try.prog o a w K Q else X :=
  step_allocR hgd ho (fun w' g h1 h2 h3 => by rw [hd]; exact h w' g h1 h2 (heap_lt h1) h3)
theorem step_storeS {P : Program} {ops : Array Oper} {o : Oper} {a : Act} {w : World} {K : Act → World → Prop} {Q : Exit → Act → World → Prop} {X : Prop} (hgd : o.guard = none) (ty : TypeId) (x y : Operand) (ho : o.op = .store ty x y) (hd : o.dst = none)
    (g : Nat) (cells : Array Value) (hx : a.eval x = .pointer (some ⟨g, 0, none⟩)) (hy : a.eval y = .agg cells)
    (t : TypeId) (old : Array Value) (hg : w.heap[g]? = some (.cells old t (0, 0))) (hi : (P.info? ty).map (·.size) = some cells.size)
    (hold : old.size = cells.size) (h1 : cells.toList.all (·.oneCell') = true)
    (h : ∀ w', w'.heap[g]? = some (.cells cells t (0, 0)) → Touch w w' (fun k => k = g) → K (a.put none undef) w') :
    if Region.wanted o (yielded ops a.tmps) = true then Oper.wp P o a w K Q else X := by
  have hw : Region.wanted o (yielded ops a.tmps) = true := by simp [Region.wanted, hgd]
  rw [if_pos hw]
  unfold Oper.wp execOp
  simp only [ho, hx, hy, store_at hg hi hold h1, Sem.run_bind, Sem.run_pure, Result.andThen_ok]
  have := h _ (setRow_heap _ _ _ _ _ _ hg) ((Touch.refl w _).setRow g cells (fun _ => rfl))
  rw [← hd] at this
  exact this
theorem step_callS {P : Program} {ops : Array Oper} {o : Oper} {d : Tmp} {a : Act} {w : World} {K : Act → World → Prop} {Q : Exit → Act → World → Prop} {X : Prop} (hgd : o.guard = none) (f : Nat) (x : Operand) (ts : Array TypeId) (ho : o.op = .call { callee := .value (.func f), args := #[x], argTypes := ts }) (hd : o.dst = some d)
    (v : Value) (hx : a.eval x = v) (hf1 : (callFunc f #[v]).run P w = .ok (.enter f #[v]) w) (R : Ending → World → Prop) (hc : Calls P f #[v] w R) (h : ∀ e w', R e w' → ∃ u, e = .returned u ∧ K (a.put (some d) u) w') :
    if Region.wanted o (yielded ops a.tmps) = true then Oper.wp P o a w K Q else X := by
  have hw : Region.wanted o (yielded ops a.tmps) = true := by simp [Region.wanted, hgd]
  rw [if_pos hw]
  have hf : a.eval (.func f) = .func (.func f) #[] #[] := rfl
  unfold Oper.wp execOp
  simp [ho, resolve, invoke, hx, hf, Deferred.ofValue, hf1]
  refine Calls.mono hc fun e w' he => ?_
  obtain ⟨u, rfl, hk⟩ := h e w' he
  rw [← hd] at hk
  exact hk
theorem take_rowS {P : Program} {md : Region.Mode} {ops : Array Oper} {Q : Exit → Act → World → Prop} {S : World → Prop} {i : Nat} {oi : Oper} {fuel : Nat} {listed : Array Bool} {a : Act} {w : World} {d : Tmp} (hi : ops[i]? = some oi) (hd : oi.dst = some d)
    (hs : Region.noSelect ops = true) (hf : Region.free md ops listed i = true) (hr : (Region.ready md ops listed).contains i = true)
    (ty : TypeId) (x : Operand) (ho : oi.op = .load ty x) (hgd : oi.guard = none)
    (g : Nat) (hx : a.eval x = .pointer (some ⟨g, 0, none⟩)) (t : TypeId) (cs : Array Value) (fr : Nat × Nat) (de : TypeDesc) (hg : ∀ w, S w → w.heap[g]? = some (.cells cs t fr))
    (hu : P.underlying ty = some de) (hde : (match de with | .struct _ | .array _ _ => true | _ => false) = true) (hin : (P.info? ty).map (·.size) = some cs.size)
    (hQ : ∀ c a w, Q (.panic c) (a.put (some d) (.agg cs)) w → Q (.panic c) a w) (hS : S w)
    (h : wpAnyH P md ops Q S fuel (listed.setIfInBounds i true) (a.put (some d) (.agg cs)) w) : wpAnyH P md ops Q S (fuel + 1) listed a w := by
  refine wpAnyH_take hi hs hf hr (v := .agg cs) ?_ (yieldsIf_row (by simp [Region.wanted, hgd]) ty x ho g hx t cs fr de hg hu hde hin) hS ?_
  · rw [hd]; exact hQ
  · rw [hd]; exact h
set_option maxRecDepth 20000 in
theorem enter_plain (v : Value) (w : World) : (callFunc 15 #[v]).run Try.prog w = .ok (.enter 15 #[v]) w := by kernel_rfl
set_option maxRecDepth 20000 in
theorem enter_rplain (v : Value) (w : World) : (callFunc 16 #[v]).run Try.prog w = .ok (.enter 16 #[v]) w := by kernel_rfl
end Go.Proofs.Ytbklngcocbnijaa
