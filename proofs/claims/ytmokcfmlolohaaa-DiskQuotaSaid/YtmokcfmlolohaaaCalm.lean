/- A region that draws its order, walked by one schedule: what only reads is taken first, the calls come one behind the other; and what is left out by a guard is passed by. -/
import Derived.Test.YtmokcfmlolohaaaAgg
import Derived.Deep.RegionHeld
set_option linter.unusedVariables false
namespace Go.Proofs.Ytmokcfmlolohaaa
open Go.RowKit

/-- Is this a schedule: (i, true): number i is taken first; (i, false): nothing but number i may come up. -/
def schedB (md : Region.Mode) (ops : Array Oper) : List (Nat × Bool) → Array Bool → Bool
  | [], listed => (Region.ready md ops listed) == []
  | (i, true) :: s, listed => Region.free md ops listed i && (Region.ready md ops listed).contains i && schedB md ops s (listed.setIfInBounds i true)
  | (i, false) :: s, listed => (Region.ready md ops listed == [i]) && schedB md ops s (listed.setIfInBounds i true)

/-- The walk by a schedule. -/
def walkS (P : Program) (ops : Array Oper) (Q : Exit → Act → World → Prop) (S : World → Prop) : List (Nat × Bool) → Act → World → Prop
  | [], a, w => Q .normal a w
  | (i, true) :: s, a, w => ∃ o v, ops[i]? = some o ∧ (∀ c a w, Q (.panic c) (a.put o.dst v) w → Q (.panic c) a w) ∧ YieldsIf P ops S o v a ∧ walkS P ops Q S s (a.put o.dst v) w
  | (i, false) :: s, a, w => ∃ o, ops[i]? = some o ∧ ∀ K' : Act → World → Prop, Shut (∀ a w, S w → (S w → walkS P ops Q S s a w) → K' a w) → if Region.wanted o (yielded ops a.tmps) = true then Oper.wp P o a w K' Q else K' (a.put o.dst undef) w

section
variable {P : Program} {ops : Array Oper} {Q : Exit → Act → World → Prop} {md : Region.Mode} {S : World → Prop}

theorem wpAnyH_sched (hsel : Region.noSelect ops = true) : ∀ (s : List (Nat × Bool)) (listed : Array Bool) (a : Act) (w : World), schedB md ops s listed = true → S w → walkS P ops Q S s a w → wpAnyH P md ops Q S s.length listed a w
  | [], listed, a, w, hs, _, h => wpAnyH_done (by simpa [schedB] using hs) h _
  | (i, true) :: s, listed, a, w, hs, hS, h => by
    simp only [schedB, Bool.and_eq_true] at hs
    obtain ⟨o, v, ho, hQ, hy, h⟩ := h
    exact wpAnyH_take ho hsel hs.1.1 hs.1.2 hQ hy hS (wpAnyH_sched hsel s _ _ _ hs.2 hS h)
  | (i, false) :: s, listed, a, w, hs, hS, h => by
    simp only [schedB, Bool.and_eq_true, beq_iff_eq] at hs
    obtain ⟨o, ho, h⟩ := h
    refine wpAnyH_ready hs.1 (by simp) (AllReadyH.cons ho (fun K' hK => ?_) AllReadyH.nil)
    exact h K' (fun a w hS' hW => hK a w hS' (fun _ => wpAnyH_sched hsel s _ _ _ hs.2 hS' (hW hS')))

theorem wp_region_sched {id : Nat} {a : Act} {w : World} (S : World → Prop) (s : List (Nat × Bool)) (hm : P.follows .mixedOrders = true) (hsel : Region.noSelect ops = true) (hlen : s.length = ops.size)
    (hs : schedB .any ops s (Array.replicate ops.size false) = true) (hS : S w.drew) (h : walkS P ops Q S s a w.drew) : (Code.region id ops true).wp P Q a w :=
  wp_region_held_drew (S := S) hm hS (fun hS => by have h1 := wpAnyH_sched hsel s _ _ _ hs hS h; rwa [hlen] at h1)

theorem walkS_done {a : Act} {w : World} (h : Q .normal a w) : walkS P ops Q S [] a w := h
theorem walkS_skip {i : Nat} {b : Bool} {s : List (Nat × Bool)} {a : Act} {w : World} {o : Oper} (d : Option Tmp) (ho : ops[i]? = some o) (hd : o.dst = d) (hw : Region.wanted o (yielded ops a.tmps) = false)
    (hQ : ∀ c a w, Q (.panic c) (a.put d undef) w → Q (.panic c) a w) (hS : S w) (h : walkS P ops Q S s (a.put d undef) w) : walkS P ops Q S ((i, b) :: s) a w := by
  subst hd
  cases b with
  | true => exact ⟨o, undef, ho, hQ, .inr ⟨hw, rfl⟩, h⟩
  | false => exact ⟨o, ho, fun K' hK => by rw [if_neg (by rw [hw]; decide)]; exact hK _ _ hS (fun _ => h)⟩
theorem walkS_take {i : Nat} {s : List (Nat × Bool)} {a : Act} {w : World} {o : Oper} {v : Value} (d : Option Tmp) (ho : ops[i]? = some o) (hd : o.dst = d) (hQ : ∀ c a w, Q (.panic c) (a.put d v) w → Q (.panic c) a w)
    (hw : Region.wanted o (yielded ops a.tmps) = true) (hv : ∀ w', S w' → (execOp a.eval o).run P w' = .ok (.value v) w') (h : walkS P ops Q S s (a.put d v) w) : walkS P ops Q S ((i, true) :: s) a w := by
  subst hd; exact ⟨o, v, ho, hQ, .inl ⟨hw, hv⟩, h⟩
/-- A slot is copied. -/
theorem walkS_move {i : Nat} {s : List (Nat × Bool)} {a : Act} {w : World} {o : Oper} (d : Option Tmp) (x : Operand) (v : Value) (ho : ops[i]? = some o) (hd : o.dst = d) (hop : o.op = .move x) (hx : a.eval x = v)
    (hQ : ∀ c a w, Q (.panic c) (a.put d v) w → Q (.panic c) a w) (hw : Region.wanted o (yielded ops a.tmps) = true) (h : walkS P ops Q S s (a.put d v) w) : walkS P ops Q S ((i, true) :: s) a w :=
  walkS_take d ho hd hQ hw (fun w' _ => by subst hx; unfold execOp; simp only [hop]; rfl) h
/-- Two values are compared, added .. by a fact of its own. -/
theorem walkS_bin {i : Nat} {s : List (Nat × Bool)} {a : Act} {w : World} {o : Oper} (d : Option Tmp) (k : BinOp) (t t2 : TypeId) (x y : Operand) (u1 u2 v : Value) (hr : ∀ x y W, (do eqGuard k t x y u1 u2; binOp k t u1 u2 : Sem Value).run P W = .ok v W) (ho : ops[i]? = some o) (hd : o.dst = d) (hop : o.op = .binOp k t x y t2) (hx : a.eval x = u1) (hy : a.eval y = u2)
    (hQ : ∀ c a w, Q (.panic c) (a.put d v) w → Q (.panic c) a w) (hw : Region.wanted o (yielded ops a.tmps) = true) (h : walkS P ops Q S s (a.put d v) w) : walkS P ops Q S ((i, true) :: s) a w :=
  walkS_take d ho hd hQ hw (fun w' _ => by
    subst hx hy; unfold execOp; simp only [hop]
    rw [Sem.run_bind, hr]
    rfl) h
/-- A whole struct is loaded. -/
theorem walkS_row {i : Nat} {s : List (Nat × Bool)} {a : Act} {w : World} {o : Oper} (d : Option Tmp) (ho : ops[i]? = some o) (hd : o.dst = d) (ty : TypeId) (x : Operand) (hop : o.op = .load ty x) (g : Nat) (hx : a.eval x = .pointer (some ⟨g, 0, none⟩))
    (t : TypeId) (cs : Array Value) (fr : Nat × Nat) (de : TypeDesc) (hg : ∀ w, S w → w.heap[g]? = some (.cells cs t fr)) (hu : P.underlying ty = some de) (hde : (match de with | .struct _ | .array _ _ => true | _ => false) = true) (hin : (P.info? ty).map (·.size) = some cs.size)
    (hQ : ∀ c a w, Q (.panic c) (a.put d (.agg cs)) w → Q (.panic c) a w) (hw : Region.wanted o (yielded ops a.tmps) = true) (h : walkS P ops Q S s (a.put d (.agg cs)) w) : walkS P ops Q S ((i, true) :: s) a w :=
  walkS_take d ho hd hQ hw (fun w' hS => by
    unfold execOp
    simp only [hop, hx, load_at (hg w' hS) hu hde hin, Sem.run_bind, Sem.run_pure, Result.andThen_ok]) h
/-- A function is called; behind it S holds. -/
theorem walkS_call {i : Nat} {s : List (Nat × Bool)} {a : Act} {w : World} {o : Oper} (d : Tmp) (f : Nat) (xs : Array Operand) (ts : Array TypeId) (vs : Array Value) {R : Ending → World → Prop} (hc : Calls P f vs w R)
    (ho : ops[i]? = some o) (hop : o.op = .call { callee := .value (.func f), args := xs, argTypes := ts }) (hd : o.dst = some d)
    (hw : Region.wanted o (yielded ops a.tmps) = true) (hx : (xs.toList.map a.eval) = vs.toList) (hf1 : (callFunc f vs).run P w = .ok (.enter f vs) w)
    (h : ∀ e w', R e w' → ∃ u, e = .returned u ∧ S w' ∧ (S w' → walkS P ops Q S s (a.put (some d) u) w')) : walkS P ops Q S ((i, false) :: s) a w := by
  refine ⟨o, ho, fun K' hK => ?_⟩
  rw [if_pos hw]
  have hf : a.eval (.func f) = .func (.func f) #[] #[] := rfl
  have hx' : (xs.map a.eval) = vs := by
    apply Array.ext'
    rw [Array.toList_map]
    exact hx
  unfold Oper.wp execOp
  simp [hop, resolve, invoke, hf, Deferred.ofValue, hx']
  rw [hf1]
  refine Calls.mono hc fun e w' he => ?_
  obtain ⟨u, rfl, hS, hh⟩ := h e w' he
  rw [← hd] at hh
  exact hK.out _ _ hS hh
/-- Whatever else is carried out. -/
theorem walkS_run {i : Nat} {s : List (Nat × Bool)} {a : Act} {w : World} {o : Oper} (ho : ops[i]? = some o)
    (h : ∀ K' : Act → World → Prop, Shut (∀ a w, S w → (S w → walkS P ops Q S s a w) → K' a w) → if Region.wanted o (yielded ops a.tmps) = true then Oper.wp P o a w K' Q else K' (a.put o.dst undef) w) : walkS P ops Q S ((i, false) :: s) a w := ⟨o, ho, h⟩
end
end Go.Proofs.Ytmokcfmlolohaaa
