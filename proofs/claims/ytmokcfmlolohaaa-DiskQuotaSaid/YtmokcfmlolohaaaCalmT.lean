/- A region that draws its order, walked by a tree of schedules: what only reads is taken first; of the rest one, or one of two, comes up. -/
import Derived.Test.YtmokcfmlolohaaaCalmB
import Derived.Test.YtmokcfmlolohaaaRowS
set_option linter.unusedVariables false
namespace Go.Proofs.Ytmokcfmlolohaaa
open Go.RowKit

inductive Sch where
  | fin
  | take (i : Nat) (s : Sch)
  | one (i : Nat) (s : Sch)
  | two (i j : Nat) (s t : Sch)
def Sch.okB (md : Region.Mode) (ops : Array Oper) : Sch → Array Bool → Bool
  | .fin, listed => (Region.ready md ops listed) == []
  | .take i s, listed => Region.free md ops listed i && (Region.ready md ops listed).contains i && s.okB md ops (listed.setIfInBounds i true)
  | .one i s, listed => (Region.ready md ops listed == [i]) && s.okB md ops (listed.setIfInBounds i true)
  | .two i j s t, listed => (Region.ready md ops listed == [i, j]) && (s.okB md ops (listed.setIfInBounds i true) && t.okB md ops (listed.setIfInBounds j true))
def Sch.deep : Sch → Nat
  | .fin => 0
  | .take _ s => s.deep + 1
  | .one _ s => s.deep + 1
  | .two _ _ s t => max s.deep t.deep + 1

def TakeN (P : Program) (ops : Array Oper) (Q : Exit → Act → World → Prop) (S : World → Prop) (i : Nat) (N : Act → World → Prop) (a : Act) (w : World) : Prop :=
  ∃ o v, ops[i]? = some o ∧ (∀ c a w, Q (.panic c) (a.put o.dst v) w → Q (.panic c) a w) ∧ YieldsIf P ops S o v a ∧ N (a.put o.dst v) w
def RunN (P : Program) (ops : Array Oper) (Q : Exit → Act → World → Prop) (S : World → Prop) (i : Nat) (N : Act → World → Prop) (a : Act) (w : World) : Prop :=
  ∃ o, ops[i]? = some o ∧ ∀ K' : Act → World → Prop, Shut (∀ a w, S w → (S w → N a w) → K' a w) → if Region.wanted o (yielded ops a.tmps) = true then Oper.wp P o a w K' Q else K' (a.put o.dst undef) w
def walkT (P : Program) (ops : Array Oper) (Q : Exit → Act → World → Prop) (S : World → Prop) : Sch → Act → World → Prop
  | .fin => fun a w => Q .normal a w
  | .take i s => fun a w => TakeN P ops Q S i (walkT P ops Q S s) a w
  | .one i s => fun a w => RunN P ops Q S i (walkT P ops Q S s) a w
  | .two i j s t => fun a w => RunN P ops Q S i (walkT P ops Q S s) a w ∧ RunN P ops Q S j (walkT P ops Q S t) a w

section
variable {P : Program} {ops : Array Oper} {Q : Exit → Act → World → Prop} {md : Region.Mode} {S : World → Prop}
theorem runN_ready {i : Nat} {fuel : Nat} {listed : Array Bool} {a : Act} {w : World} {N : Act → World → Prop} {rs : List Nat} (h : RunN P ops Q S i N a w)
    (hN : ∀ a w, S w → N a w → wpAnyH P md ops Q S fuel (listed.setIfInBounds i true) a w) (hs : AllReadyH P md ops Q S fuel listed a w rs) : AllReadyH P md ops Q S fuel listed a w (i :: rs) := by
  obtain ⟨o, ho, h⟩ := h
  exact AllReadyH.cons ho (fun K' hK => h K' (fun a w hS hW => hK a w hS (fun hS => hN a w hS (hW hS)))) hs
theorem wpAnyH_tree (hsel : Region.noSelect ops = true) : ∀ (s : Sch) (fuel : Nat) (listed : Array Bool) (a : Act) (w : World), s.okB md ops listed = true → s.deep ≤ fuel → S w → walkT P ops Q S s a w → wpAnyH P md ops Q S fuel listed a w
  | .fin, fuel, listed, a, w, hs, _, _, h => wpAnyH_done (by simpa [Sch.okB] using hs) h _
  | .take i s, 0, _, _, _, _, hf, _, _ => absurd hf (by simp [Sch.deep])
  | .take i s, fuel + 1, listed, a, w, hs, hf, hS, h => by
    simp only [Sch.okB, Bool.and_eq_true] at hs
    obtain ⟨o, v, ho, hQ, hy, h⟩ := h
    exact wpAnyH_take ho hsel hs.1.1 hs.1.2 hQ hy hS (wpAnyH_tree hsel s _ _ _ _ hs.2 (by simp only [Sch.deep] at hf; omega) hS h)
  | .one i s, 0, _, _, _, _, hf, _, _ => absurd hf (by simp [Sch.deep])
  | .one i s, fuel + 1, listed, a, w, hs, hf, hS, h => by
    simp only [Sch.okB, Bool.and_eq_true, beq_iff_eq] at hs
    exact wpAnyH_ready hs.1 (by simp) (runN_ready h (fun a w hS hW => wpAnyH_tree hsel s _ _ _ _ hs.2 (by simp only [Sch.deep] at hf; omega) hS hW) AllReadyH.nil)
  | .two i j s t, 0, _, _, _, _, hf, _, _ => absurd hf (by simp [Sch.deep])
  | .two i j s t, fuel + 1, listed, a, w, hs, hf, hS, h => by
    simp only [Sch.okB, Bool.and_eq_true, beq_iff_eq] at hs
    have hd : max s.deep t.deep ≤ fuel := by simp only [Sch.deep] at hf; omega
    exact wpAnyH_ready hs.1 (by simp) (runN_ready h.1 (fun a w hS hW => wpAnyH_tree hsel s _ _ _ _ hs.2.1 (by omega) hS hW)
      (runN_ready h.2 (fun a w hS hW => wpAnyH_tree hsel t _ _ _ _ hs.2.2 (by omega) hS hW) AllReadyH.nil))
theorem wp_region_tree {id : Nat} {a : Act} {w : World} (S : World → Prop) (s : Sch) (hm : P.follows .mixedOrders = true) (hsel : Region.noSelect ops = true) (hlen : Nat.ble s.deep ops.size = true)
    (hs : s.okB .any ops (Array.replicate ops.size false) = true) (hS : S w.drew) (h : walkT P ops Q S s a w.drew) : (Code.region id ops true).wp P Q a w :=
  wp_region_held_drew (S := S) hm hS (fun hS => wpAnyH_tree hsel s _ _ _ _ hs (Nat.le_of_ble_eq_true hlen) hS h)

theorem walkT_fin {a : Act} {w : World} (h : Q .normal a w) : walkT P ops Q S .fin a w := h
theorem walkT_take {i : Nat} {s : Sch} {a : Act} {w : World} (h : TakeN P ops Q S i (walkT P ops Q S s) a w) : walkT P ops Q S (.take i s) a w := h
theorem walkT_one {i : Nat} {s : Sch} {a : Act} {w : World} (h : RunN P ops Q S i (walkT P ops Q S s) a w) : walkT P ops Q S (.one i s) a w := h
theorem walkT_two {i j : Nat} {s t : Sch} {a : Act} {w : World} (h : RunN P ops Q S i (walkT P ops Q S s) a w) (h2 : RunN P ops Q S j (walkT P ops Q S t) a w) : walkT P ops Q S (.two i j s t) a w := ⟨h, h2⟩

variable {N : Act → World → Prop}
theorem takeN_skip {i : Nat} {a : Act} {w : World} {o : Oper} (d : Option Tmp) (ho : ops[i]? = some o) (hd : o.dst = d) (hw : Region.wanted o (yielded ops a.tmps) = false)
    (hQ : ∀ c a w, Q (.panic c) (a.put d undef) w → Q (.panic c) a w) (h : N (a.put d undef) w) : TakeN P ops Q S i N a w := by
  subst hd; exact ⟨o, undef, ho, hQ, .inr ⟨hw, rfl⟩, h⟩
theorem runN_skip {i : Nat} {a : Act} {w : World} {o : Oper} (d : Option Tmp) (ho : ops[i]? = some o) (hd : o.dst = d) (hw : Region.wanted o (yielded ops a.tmps) = false) (hS : S w) (h : N (a.put d undef) w) : RunN P ops Q S i N a w := by
  subst hd; exact ⟨o, ho, fun K' hK => by rw [if_neg (by rw [hw]; decide)]; exact hK _ _ hS (fun _ => h)⟩
theorem takeN_take {i : Nat} {a : Act} {w : World} {o : Oper} {v : Value} (d : Option Tmp) (ho : ops[i]? = some o) (hd : o.dst = d) (hQ : ∀ c a w, Q (.panic c) (a.put d v) w → Q (.panic c) a w)
    (hw : Region.wanted o (yielded ops a.tmps) = true) (hv : ∀ w', S w' → (execOp a.eval o).run P w' = .ok (.value v) w') (h : N (a.put d v) w) : TakeN P ops Q S i N a w := by
  subst hd; exact ⟨o, v, ho, hQ, .inl ⟨hw, hv⟩, h⟩
theorem takeN_bin {i : Nat} {a : Act} {w : World} {o : Oper} (d : Option Tmp) (k : BinOp) (t t2 : TypeId) (x y : Operand) (u1 u2 v : Value) (hr : ∀ x y W, (do eqGuard k t x y u1 u2; binOp k t u1 u2 : Sem Value).run P W = .ok v W) (ho : ops[i]? = some o) (hd : o.dst = d) (hop : o.op = .binOp k t x y t2) (hx : a.eval x = u1) (hy : a.eval y = u2)
    (hQ : ∀ c a w, Q (.panic c) (a.put d v) w → Q (.panic c) a w) (hw : Region.wanted o (yielded ops a.tmps) = true) (h : N (a.put d v) w) : TakeN P ops Q S i N a w :=
  takeN_take d ho hd hQ hw (fun w' _ => by
    subst hx hy; unfold execOp; simp only [hop]
    rw [Sem.run_bind, hr]
    rfl) h
theorem takeN_row {i : Nat} {a : Act} {w : World} {o : Oper} (d : Option Tmp) (ho : ops[i]? = some o) (hd : o.dst = d) (ty : TypeId) (x : Operand) (hop : o.op = .load ty x) (g : Nat) (hx : a.eval x = .pointer (some ⟨g, 0, none⟩))
    (t : TypeId) (cs : Array Value) (fr : Nat × Nat) (de : TypeDesc) (hg : ∀ w, S w → w.heap[g]? = some (.cells cs t fr)) (hu : P.underlying ty = some de) (hde : (match de with | .struct _ | .array _ _ => true | _ => false) = true) (hin : (P.info? ty).map (·.size) = some cs.size)
    (hQ : ∀ c a w, Q (.panic c) (a.put d (.agg cs)) w → Q (.panic c) a w) (hw : Region.wanted o (yielded ops a.tmps) = true) (h : N (a.put d (.agg cs)) w) : TakeN P ops Q S i N a w :=
  takeN_take d ho hd hQ hw (fun w' hS => by
    unfold execOp
    simp only [hop, hx, load_at (hg w' hS) hu hde hin, Sem.run_bind, Sem.run_pure, Result.andThen_ok]) h
/-- One operation is carried out in the world at hand. -/
theorem runN_do {i : Nat} {a : Act} {w w' : World} {o : Oper} {v : Value} (d : Option Tmp) (ho : ops[i]? = some o) (hd : o.dst = d) (hw : Region.wanted o (yielded ops a.tmps) = true)
    (hx : (execOp a.eval o).run P w = .ok (.value v) w') (hS : S w') (h : S w' → N (a.put d v) w') : RunN P ops Q S i N a w := by
  refine ⟨o, ho, fun K' hK => ?_⟩
  rw [if_pos hw]
  unfold Oper.wp
  rw [hx]
  subst hd
  exact hK.out _ _ hS h
/-- A block is made. -/
theorem runN_new {i : Nat} {a : Act} {w : World} {o : Oper} (d : Tmp) (v : World → Value) (cs : Array Value) (E : TypeId) (ho : ops[i]? = some o) (hd : o.dst = some d) (hw : Region.wanted o (yielded ops a.tmps) = true)
    (hx : ∀ W, (execOp a.eval o).run P W = .ok (.value (v W)) (W.alloc (.cells cs E)))
    (h : ∀ w', w' = w.alloc (.cells cs E) → w'.heap[w.heap.size]? = some (.cells cs E (0, 0)) → w'.heap.size = w.heap.size + 1 → Touch w w' (fun _ => False) → S w' ∧ (S w' → N (a.put (some d) (v w)) w')) : RunN P ops Q S i N a w := by
  refine ⟨o, ho, fun K' hK => ?_⟩
  rw [if_pos hw]
  unfold Oper.wp
  rw [hx]
  obtain ⟨k1, k2⟩ := h _ rfl (heap_alloc_new w _) (by simp) ((Touch.refl _ _).alloc _)
  have k3 := hK.out _ _ k1 k2
  rw [← hd] at k3
  exact k3
theorem runN_skip0 {i : Nat} {a : Act} {w w' : World} {o : Oper} (d : Option Tmp) (ho : ops[i]? = some o) (hd : o.dst = d) (hw : Region.wanted o (yielded ops a.tmps) = true)
    (hx : (execOp a.eval o).run P w = .ok .skip w') (hS : S w') (h : S w' → N (a.put d undef) w') : RunN P ops Q S i N a w := by
  refine ⟨o, ho, fun K' hK => ?_⟩
  rw [if_pos hw]
  unfold Oper.wp
  rw [hx]
  subst hd
  exact hK.out _ _ hS h
/-- A whole struct is loaded in the world at hand. -/
theorem runN_row {i : Nat} {a : Act} {w : World} {o : Oper} (d : Option Tmp) (ho : ops[i]? = some o) (hd : o.dst = d) (ty : TypeId) (x : Operand) (hop : o.op = .load ty x) (g : Nat) (hx : a.eval x = .pointer (some ⟨g, 0, none⟩))
    (t : TypeId) (cs : Array Value) (fr : Nat × Nat) (de : TypeDesc) (hg : w.heap[g]? = some (.cells cs t fr)) (hu : P.underlying ty = some de) (hde : (match de with | .struct _ | .array _ _ => true | _ => false) = true) (hin : (P.info? ty).map (·.size) = some cs.size)
    (hw : Region.wanted o (yielded ops a.tmps) = true) (hS : S w) (h : S w → N (a.put d (.agg cs)) w) : RunN P ops Q S i N a w :=
  runN_do d ho hd hw (by
    unfold execOp
    simp only [hop, hx, load_at hg hu hde hin, Sem.run_bind, Sem.run_pure, Result.andThen_ok]) hS h
/-- A whole struct is stored. -/
theorem runN_store {i : Nat} {a : Act} {w : World} {o : Oper} (ho : ops[i]? = some o) (hd : o.dst = none) (hw : Region.wanted o (yielded ops a.tmps) = true) (ty : TypeId) (x y : Operand) (hop : o.op = .store ty x y)
    (g : Nat) (cells : Array Value) (hx : a.eval x = .pointer (some ⟨g, 0, none⟩)) (hy : a.eval y = .agg cells)
    (t : TypeId) (old : Array Value) (hg : w.heap[g]? = some (.cells old t (0, 0))) (hi : (P.info? ty).map (·.size) = some cells.size)
    (hold : old.size = cells.size) (h1 : cells.toList.all (·.oneCell') = true)
    (h : ∀ w', w'.heap[g]? = some (.cells cells t (0, 0)) → Touch w w' (fun k => k = g) → S w' ∧ (S w' → N (a.put none undef) w')) : RunN P ops Q S i N a w := by
  refine ⟨o, ho, fun K' hK => ?_⟩
  rw [if_pos hw]
  unfold Oper.wp execOp
  simp only [hop, hx, hy, store_at hg hi hold h1, Sem.run_bind, Sem.run_pure, Result.andThen_ok]
  obtain ⟨k1, k2⟩ := h _ (setRow_heap _ _ _ _ _ _ hg) ((Touch.refl w _).setRow g cells (fun _ => rfl))
  have k3 := hK.out _ _ k1 k2
  rw [← hd] at k3
  exact k3
theorem runN_call {i : Nat} {a : Act} {w : World} {o : Oper} (d : Tmp) (f : Nat) (xs : Array Operand) (ts : Array TypeId) (vs : Array Value) {R : Ending → World → Prop} (hc : Calls P f vs w R)
    (ho : ops[i]? = some o) (hop : o.op = .call { callee := .value (.func f), args := xs, argTypes := ts }) (hd : o.dst = some d)
    (hw : Region.wanted o (yielded ops a.tmps) = true) (hx : (xs.toList.map a.eval) = vs.toList) (hf1 : (callFunc f vs).run P w = .ok (.enter f vs) w)
    (h : ∀ e w', R e w' → ∃ u, e = .returned u ∧ S w' ∧ (S w' → N (a.put (some d) u) w')) : RunN P ops Q S i N a w := by
  refine ⟨o, ho, fun K' hK => ?_⟩
  rw [if_pos hw]
  have hf : a.eval (.func f) = .func (.func f) #[] #[] := rfl
  have hx' : (xs.map a.eval) = vs := by
    apply Array.ext'
    rw [Array.toList_map]
    exact hx
  unfold Oper.wp execOp
  simp [hop, resolve, invoke, hf, Deferred.ofValue, hx']
  rw [hf1]
  refine Calls.mono hc fun e w' he => ?_
  obtain ⟨u, rfl, hS, hh⟩ := h e w' he
  rw [← hd] at hh
  exact hK.out _ _ hS hh
theorem runN_appB {i : Nat} {a : Act} {w : World} {o : Oper} (d : Tmp) (x y : Operand) (t : TypeId) (ho : ops[i]? = some o)
    (hop : o.op = .call { callee := .builtin .append, args := #[x, y], argTypes := #[t, t] }) (hd : o.dst = some d) (hw : Region.wanted o (yielded ops a.tmps) = true)
    (E : TypeId) (ht : P.underlying t = some (.slice E)) (hin : (P.info? E).map (fun i => (i.zero, i.size, i.bytes)) = some (some (.int .u8 0), 1, 1))
    (base : Nat) (v : Value) (xs : List Nat) (hs : a.eval x = v) (hown : OwnB w base E v xs) (ad : Option Addr) (len cap : Nat) (ys : List Nat) (hx : a.eval y = .slice ad len cap) (hr : RowB w ad len cap ys)
    (n : Nat) (zs : List Nat) (hz : xs ++ ys = zs) (hn : zs.length = n) (hlen : n ≤ 140737488355328) (hbase : base ≤ w.heap.size)
    (h : ∀ a' cap' w', OwnB w' base E (.slice a' n cap') zs → RowB w' a' n cap' zs → w.grownBy w' v.ownBlock → (∀ k, (Value.slice a' n cap').ownBlock = some k → v.ownBlock = some k ∨ w.heap.size ≤ k) → S w' ∧ (S w' → N (a.put (some d) (.slice a' n cap')) w')) :
    RunN P ops Q S i N a w := by
  refine ⟨o, ho, fun K' hK => ?_⟩
  rw [if_pos hw]
  have hl2 := hr.1
  obtain ⟨v', w', hrun, h1, h2, hpl⟩ := run_appendB (P := P) w t o.type E ht hin base v xs hown ad len cap ys hr (by have := congrArg List.length hz; simp at this; omega) hbase
  obtain ⟨a', cap', hv, hr', hp⟩ := h1.row
  rw [hz] at h1 hv hr'
  rw [hn] at hv hr'
  subst hv
  unfold Oper.wp execOp
  simp only [hop, resolve, invoke, builtin, Sem.run_bind, Sem.run_pure, Result.andThen_ok, List.map_toArray, List.map_cons, List.map_nil, hs, hx, hrun]
  obtain ⟨k1, k2⟩ := h a' cap' w' h1 hr' h2 hpl
  have k3 := hK.out _ _ k1 k2
  rw [← hd] at k3
  exact k3
theorem runN_appS {i : Nat} {a : Act} {w : World} {o : Oper} (d : Tmp) (x y : Operand) (t : TypeId) (ho : ops[i]? = some o)
    (hop : o.op = .call { callee := .builtin .append, args := #[x, y], argTypes := #[t, t] }) (hd : o.dst = some d) (hw : Region.wanted o (yielded ops a.tmps) = true)
    (E : TypeId) (ht : P.underlying t = some (.slice E)) (z : Value) (k bytes : Nat) (hin : (P.info? E).map (fun i => (i.zero, i.size, i.bytes)) = some (some z, k, bytes)) (hzs : z.cells.size = k) (hk : 0 < k)
    (base : Nat) (v : Value) (L : List (List Value)) (hs : a.eval x = v) (hown : OwnS w base E k v L) (ad : Option Addr) (len cap : Nat) (L2 : List (List Value)) (hx : a.eval y = .slice ad len cap) (hr : RowS w ad len cap k L2) (h1 : ∀ l ∈ L2, ∀ u ∈ l, u.oneCell' = true)
    (n : Nat) (Z : List (List Value)) (hz : L ++ L2 = Z) (hn : L.length + len = n) (hlen : n ≤ maxLen) (hbytes : n * bytes ≤ 140737488355328) (hbase : base ≤ w.heap.size)
    (h : ∀ a' cap' w', OwnS w' base E k (.slice a' n cap') Z → w.grownBy w' v.ownBlock → (∀ b, (Value.slice a' n cap').ownBlock = some b → v.ownBlock = some b ∨ w.heap.size ≤ b) → S w' ∧ (S w' → N (a.put (some d) (.slice a' n cap')) w')) :
    RunN P ops Q S i N a w := by
  subst hz hn
  refine ⟨o, ho, fun K' hK => ?_⟩
  rw [if_pos hw]
  obtain ⟨a', cap', w', hrun, h1', h2, hpl⟩ := run_appS (P := P) w t o.type E ht z k bytes hin hzs hk base v L hown ad len cap L2 hr h1 hlen hbytes hbase
  unfold Oper.wp execOp
  simp only [hop, resolve, invoke, builtin, Sem.run_bind, Sem.run_pure, Result.andThen_ok, List.map_toArray, List.map_cons, List.map_nil, hs, hx, hrun]
  obtain ⟨k1, k2⟩ := h a' cap' w' h1' h2 hpl
  have k3 := hK.out _ _ k1 k2
  rw [← hd] at k3
  exact k3
end
end Go.Proofs.Ytmokcfmlolohaaa
