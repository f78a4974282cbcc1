import Derived.Test.YtpjdcgjoepjmcaaGreatGAZ
import Derived.Deep.RegionHeld
import Derived.Lib.Hide
import Derived.Laws.MakeOwn
import Derived.Laws.OwnMore
set_option linter.unusedVariables false
section
namespace Go.Proofs.YtpjdcgjoepjmcaaGreat
open Go.RowKit
theorem wp_add1 {P : Program} {w W : World} {ops : Array Oper} {rest : List Oper} {o : Oper} {a : Act} {Q : Exit → Act → World → Prop} {base k n c : Nat} {a0 : Option Addr} {E : TypeId} {L : List (List Value)} {row : List Value} {cs : Array Value}
 (ho : OwnS W base E k (.slice a0 n c) L) (hW : w.alloc (.cells cs E) = W) (hcs : cs.toList = row) (hkr : row.length = k) (h1 : ∀ u ∈ row, u.oneCell' = true) (hn : n ≤ 4000000) (t : TypeId) (ht : P.underlying t = some (.slice E)) (z : Value) (bytes : Nat)
 (hin : (P.info? E).map (fun i => (i.zero, i.size, i.bytes)) = some (some z, k, bytes)) (hzs : z.cells.size = k) (hk : 0 < k) (hbytes : bytes ≤ 10000) (hbase : base ≤ w.heap.size)
 (hgd : Region.wanted o (yielded ops a.tmps) = true) (s x : Operand) (ho2 : o.op = .call { callee := .builtin .append, args := #[s, x], argTypes := #[t, t] })
 (hs : a.eval s = .slice a0 n c) (hx : a.eval x = .slice (some ⟨w.heap.size, 0, none⟩) 1 1)
 (h : ∀ a' c' w', OwnS w' base E k (.slice a' (n + 1) c') (L ++ [row]) → Touch w w' (fun b => (Value.slice a0 n c).ownBlock = some b) → (∀ b, (Value.slice a' (n + 1) c').ownBlock = some b → (Value.slice a0 n c).ownBlock = some b ∨ w.heap.size ≤ b) → wpList P ops Q rest (a.put o.dst (.slice a' (n + 1) c')) w') : wpList P ops Q (o :: rest) a W := by
 subst hW
 obtain ⟨hl, _, _⟩ := ho.row'
 have hr : RowS (w.alloc (.cells cs E)) (some ⟨w.heap.size, 0, none⟩) 1 1 k [row] := ((OwnS.lit w w.heap.size (Nat.le_refl _) E k 1 [row] cs (by rw [hcs]; simp) rfl (by simpa using hkr) (by omega)).row').2.1
 have hnb : (n + 1) * bytes ≤ 140737488355328 := by
  have h3 : (n + 1) * bytes ≤ 4000001 * 10000 := Nat.mul_le_mul (by omega) hbytes
  exact Nat.le_trans h3 (by decide)
 have hsz : base ≤ (w.alloc (.cells cs E)).heap.size := by simp; omega
 refine wp_appS (W := w.alloc (.cells cs E)) (B := base) ho hr (by simpa using h1) t ht z bytes hin hzs hk (by simp only [maxLen]; omega) (by rw [hl]; exact hnb) ((Touch.refl _ (fun _ => False)).below (fun _ _ h => h.elim) hsz) (Nat.le_refl _) hsz hgd s x ho2 hs hx (n + 1) _ (by rw [hl]) rfl ?_
 intro a' c' w' h1 h2 _ h4
 refine h a' c' w' h1 (((Touch.refl w _).alloc _).grown h2 (fun k hk _ => hk)) (fun b hb => (h4 b hb).imp (fun h => h) (fun h => by simp at h; omega))
end Go.Proofs.YtpjdcgjoepjmcaaGreat
end
section
namespace Go.Proofs.YtpjdcgjoepjmcaaGreat
open Go.RowKit
def schedB (md : Region.Mode) (ops : Array Oper) : List (Nat × Bool) → Array Bool → Bool
 | [], listed => (Region.ready md ops listed) == []
 | (i, true) :: s, listed => Region.free md ops listed i && (Region.ready md ops listed).contains i && schedB md ops s (listed.setIfInBounds i true)
 | (i, false) :: s, listed => (Region.ready md ops listed == [i]) && schedB md ops s (listed.setIfInBounds i true)
def walkS (P : Program) (ops : Array Oper) (Q : Exit → Act → World → Prop) (S : World → Prop) : List (Nat × Bool) → Act → World → Prop
 | [], a, w => Q .normal a w
 | (i, true) :: s, a, w => ∃ o v, ops[i]? = some o ∧ (∀ c a w, Q (.panic c) (a.put o.dst v) w → Q (.panic c) a w) ∧ YieldsIf P ops S o v a ∧ walkS P ops Q S s (a.put o.dst v) w
 | (i, false) :: s, a, w => ∃ o, ops[i]? = some o ∧ ∀ K' : Act → World → Prop, Shut (∀ a w, S w → (S w → walkS P ops Q S s a w) → K' a w) → if Region.wanted o (yielded ops a.tmps) = true then Oper.wp P o a w K' Q else K' (a.put o.dst undef) w
section
variable {P : Program} {ops : Array Oper} {Q : Exit → Act → World → Prop} {md : Region.Mode} {S : World → Prop}
theorem wpAnyH_sched (hsel : Region.noSelect ops = true) : ∀ (s : List (Nat × Bool)) (listed : Array Bool) (a : Act) (w : World), schedB md ops s listed = true → S w → walkS P ops Q S s a w → wpAnyH P md ops Q S s.length listed a w
 | [], listed, a, w, hs, _, h => wpAnyH_done (by simpa [schedB] using hs) h _
 | (i, true) :: s, listed, a, w, hs, hS, h => by
   simp only [schedB, Bool.and_eq_true] at hs
   obtain ⟨o, v, ho, hQ, hy, h⟩ := h
   exact wpAnyH_take ho hsel hs.1.1 hs.1.2 hQ hy hS (wpAnyH_sched hsel s _ _ _ hs.2 hS h)
 | (i, false) :: s, listed, a, w, hs, hS, h => by
   simp only [schedB, Bool.and_eq_true, beq_iff_eq] at hs
   obtain ⟨o, ho, h⟩ := h
   refine wpAnyH_ready hs.1 (by simp) (AllReadyH.cons ho (fun K' hK => ?_) AllReadyH.nil)
   exact h K' (fun a w hS' hW => hK a w hS' (fun _ => wpAnyH_sched hsel s _ _ _ hs.2 hS' (hW hS')))
theorem wp_region_sched {id : Nat} {a : Act} {w : World} (S : World → Prop) (s : List (Nat × Bool)) (hm : P.follows .mixedOrders = true) (hsel : Region.noSelect ops = true) (hlen : s.length = ops.size)
 (hs : schedB .any ops s (Array.replicate ops.size false) = true) (hS : S w.drew) (h : walkS P ops Q S s a w.drew) : (Code.region id ops true).wp P Q a w :=
 wp_region_held_drew (S := S) hm hS (fun hS => by have h1 := wpAnyH_sched hsel s _ _ _ hs hS h; rwa [hlen] at h1)
theorem walkS_done {a : Act} {w : World} (h : Q .normal a w) : walkS P ops Q S [] a w := h
theorem walkS_skip {i : Nat} {b : Bool} {s : List (Nat × Bool)} {a : Act} {w : World} {o : Oper} (d : Option Tmp) (ho : ops[i]? = some o) (hd : o.dst = d) (hw : Region.wanted o (yielded ops a.tmps) = false)
 (hQ : ∀ c a w, Q (.panic c) (a.put d undef) w → Q (.panic c) a w) (hS : S w) (h : walkS P ops Q S s (a.put d undef) w) : walkS P ops Q S ((i, b) :: s) a w := by
 subst hd
 cases b with
 | true => exact ⟨o, undef, ho, hQ, .inr ⟨hw, rfl⟩, h⟩
 | false => exact ⟨o, ho, fun K' hK => by rw [if_neg (by rw [hw]; decide)]; exact hK _ _ hS (fun _ => h)⟩
theorem walkS_take {i : Nat} {s : List (Nat × Bool)} {a : Act} {w : World} {o : Oper} {v : Value} (d : Option Tmp) (ho : ops[i]? = some o) (hd : o.dst = d) (hQ : ∀ c a w, Q (.panic c) (a.put d v) w → Q (.panic c) a w)
 (hw : Region.wanted o (yielded ops a.tmps) = true) (hv : ∀ w', S w' → (execOp a.eval o).run P w' = .ok (.value v) w') (h : walkS P ops Q S s (a.put d v) w) : walkS P ops Q S ((i, true) :: s) a w := by
 subst hd; exact ⟨o, v, ho, hQ, .inl ⟨hw, hv⟩, h⟩
theorem walkS_bin {i : Nat} {s : List (Nat × Bool)} {a : Act} {w : World} {o : Oper} (d : Option Tmp) (k : BinOp) (t t2 : TypeId) (x y : Operand) (u1 u2 v : Value) (hr : ∀ x y W, (do eqGuard k t x y u1 u2; binOp k t u1 u2 : Sem Value).run P W = .ok v W) (ho : ops[i]? = some o) (hd : o.dst = d) (hop : o.op = .binOp k t x y t2) (hx : a.eval x = u1) (hy : a.eval y = u2)
 (hQ : ∀ c a w, Q (.panic c) (a.put d v) w → Q (.panic c) a w) (hw : Region.wanted o (yielded ops a.tmps) = true) (h : walkS P ops Q S s (a.put d v) w) : walkS P ops Q S ((i, true) :: s) a w :=
 walkS_take d ho hd hQ hw (fun w' _ => by
  subst hx hy; unfold execOp; simp only [hop]
  rw [Sem.run_bind, hr]
  rfl) h
theorem walkS_row {i : Nat} {s : List (Nat × Bool)} {a : Act} {w : World} {o : Oper} (d : Option Tmp) (ho : ops[i]? = some o) (hd : o.dst = d) (ty : TypeId) (x : Operand) (hop : o.op = .load ty x) (g : Nat) (hx : a.eval x = .pointer (some ⟨g, 0, none⟩))
 (t : TypeId) (cs : Array Value) (fr : Nat × Nat) (de : TypeDesc) (hg : ∀ w, S w → w.heap[g]? = some (.cells cs t fr)) (hu : P.underlying ty = some de) (hde : (match de with | .struct _ | .array _ _ => true | _ => false) = true) (hin : (P.info? ty).map (·.size) = some cs.size)
 (hQ : ∀ c a w, Q (.panic c) (a.put d (.agg cs)) w → Q (.panic c) a w) (hw : Region.wanted o (yielded ops a.tmps) = true) (h : walkS P ops Q S s (a.put d (.agg cs)) w) : walkS P ops Q S ((i, true) :: s) a w :=
 walkS_take d ho hd hQ hw (fun w' hS => by
  unfold execOp
  simp only [hop, hx, load_at (hg w' hS) hu hde hin, Sem.run_bind, Sem.run_pure, Result.andThen_ok]) h
theorem walkS_call {i : Nat} {s : List (Nat × Bool)} {a : Act} {w : World} {o : Oper} (d : Tmp) (f : Nat) (xs : Array Operand) (ts : Array TypeId) (vs : Array Value) {R : Ending → World → Prop} (hc : Calls P f vs w R)
 (ho : ops[i]? = some o) (hop : o.op = .call { callee := .value (.func f), args := xs, argTypes := ts }) (hd : o.dst = some d)
 (hw : Region.wanted o (yielded ops a.tmps) = true) (hx : (xs.toList.map a.eval) = vs.toList) (hf1 : (callFunc f vs).run P w = .ok (.enter f vs) w)
 (h : ∀ e w', R e w' → ∃ u, e = .returned u ∧ S w' ∧ (S w' → walkS P ops Q S s (a.put (some d) u) w')) : walkS P ops Q S ((i, false) :: s) a w := by
 refine ⟨o, ho, fun K' hK => ?_⟩
 rw [if_pos hw]
 have hf : a.eval (.func f) = .func (.func f) #[] #[] := rfl
 have hx' : (xs.map a.eval) = vs := by
  apply Array.ext'
  rw [Array.toList_map]
  exact hx
 unfold Oper.wp execOp
 simp [hop, resolve, invoke, hf, Deferred.ofValue, hx']
 rw [hf1]
 refine Calls.mono hc fun e w' he => ?_
 obtain ⟨u, rfl, hS, hh⟩ := h e w' he
 rw [← hd] at hh
 exact hK.out _ _ hS hh
end
end Go.Proofs.YtpjdcgjoepjmcaaGreat
end
section
namespace Go.Proofs.YtpjdcgjoepjmcaaGreat
open Go.RowKit
section
variable {P : Program} {ops : Array Oper} {Q : Exit → Act → World → Prop} {S : World → Prop}
end
end Go.Proofs.YtpjdcgjoepjmcaaGreat
end
section
namespace Go.Proofs.YtpjdcgjoepjmcaaGreat
open Go.RowKit
inductive Sch where
 | fin
 | take (i : Nat) (s : Sch)
 | one (i : Nat) (s : Sch)
 | two (i j : Nat) (s t : Sch)
def Sch.okB (md : Region.Mode) (ops : Array Oper) : Sch → Array Bool → Bool
 | .fin, listed => (Region.ready md ops listed) == []
 | .take i s, listed => Region.free md ops listed i && (Region.ready md ops listed).contains i && s.okB md ops (listed.setIfInBounds i true)
 | .one i s, listed => (Region.ready md ops listed == [i]) && s.okB md ops (listed.setIfInBounds i true)
 | .two i j s t, listed => (Region.ready md ops listed == [i, j]) && (s.okB md ops (listed.setIfInBounds i true) && t.okB md ops (listed.setIfInBounds j true))
def Sch.deep : Sch → Nat
 | .fin => 0
 | .take _ s => s.deep + 1
 | .one _ s => s.deep + 1
 | .two _ _ s t => max s.deep t.deep + 1
def TakeN (P : Program) (ops : Array Oper) (Q : Exit → Act → World → Prop) (S : World → Prop) (i : Nat) (N : Act → World → Prop) (a : Act) (w : World) : Prop :=
 ∃ o v, ops[i]? = some o ∧ (∀ c a w, Q (.panic c) (a.put o.dst v) w → Q (.panic c) a w) ∧ YieldsIf P ops S o v a ∧ N (a.put o.dst v) w
def RunN (P : Program) (ops : Array Oper) (Q : Exit → Act → World → Prop) (S : World → Prop) (i : Nat) (N : Act → World → Prop) (a : Act) (w : World) : Prop :=
 ∃ o, ops[i]? = some o ∧ ∀ K' : Act → World → Prop, Shut (∀ a w, S w → (S w → N a w) → K' a w) → if Region.wanted o (yielded ops a.tmps) = true then Oper.wp P o a w K' Q else K' (a.put o.dst undef) w
def walkT (P : Program) (ops : Array Oper) (Q : Exit → Act → World → Prop) (S : World → Prop) : Sch → Act → World → Prop
 | .fin => fun a w => Q .normal a w
 | .take i s => fun a w => TakeN P ops Q S i (walkT P ops Q S s) a w
 | .one i s => fun a w => RunN P ops Q S i (walkT P ops Q S s) a w
 | .two i j s t => fun a w => RunN P ops Q S i (walkT P ops Q S s) a w ∧ RunN P ops Q S j (walkT P ops Q S t) a w
section
variable {P : Program} {ops : Array Oper} {Q : Exit → Act → World → Prop} {md : Region.Mode} {S : World → Prop}
theorem runN_ready {i : Nat} {fuel : Nat} {listed : Array Bool} {a : Act} {w : World} {N : Act → World → Prop} {rs : List Nat} (h : RunN P ops Q S i N a w)
 (hN : ∀ a w, S w → N a w → wpAnyH P md ops Q S fuel (listed.setIfInBounds i true) a w) (hs : AllReadyH P md ops Q S fuel listed a w rs) : AllReadyH P md ops Q S fuel listed a w (i :: rs) := by
 obtain ⟨o, ho, h⟩ := h
 exact AllReadyH.cons ho (fun K' hK => h K' (fun a w hS hW => hK a w hS (fun hS => hN a w hS (hW hS)))) hs
theorem wpAnyH_tree (hsel : Region.noSelect ops = true) : ∀ (s : Sch) (fuel : Nat) (listed : Array Bool) (a : Act) (w : World), s.okB md ops listed = true → s.deep ≤ fuel → S w → walkT P ops Q S s a w → wpAnyH P md ops Q S fuel listed a w
 | .fin, fuel, listed, a, w, hs, _, _, h => wpAnyH_done (by simpa [Sch.okB] using hs) h _
 | .take i s, 0, _, _, _, _, hf, _, _ => absurd hf (by simp [Sch.deep])
 | .take i s, fuel + 1, listed, a, w, hs, hf, hS, h => by
   simp only [Sch.okB, Bool.and_eq_true] at hs
   obtain ⟨o, v, ho, hQ, hy, h⟩ := h
   exact wpAnyH_take ho hsel hs.1.1 hs.1.2 hQ hy hS (wpAnyH_tree hsel s _ _ _ _ hs.2 (by simp only [Sch.deep] at hf; omega) hS h)
 | .one i s, 0, _, _, _, _, hf, _, _ => absurd hf (by simp [Sch.deep])
 | .one i s, fuel + 1, listed, a, w, hs, hf, hS, h => by
   simp only [Sch.okB, Bool.and_eq_true, beq_iff_eq] at hs
   exact wpAnyH_ready hs.1 (by simp) (runN_ready h (fun a w hS hW => wpAnyH_tree hsel s _ _ _ _ hs.2 (by simp only [Sch.deep] at hf; omega) hS hW) AllReadyH.nil)
 | .two i j s t, 0, _, _, _, _, hf, _, _ => absurd hf (by simp [Sch.deep])
 | .two i j s t, fuel + 1, listed, a, w, hs, hf, hS, h => by
   simp only [Sch.okB, Bool.and_eq_true, beq_iff_eq] at hs
   have hd : max s.deep t.deep ≤ fuel := by simp only [Sch.deep] at hf; omega
   exact wpAnyH_ready hs.1 (by simp) (runN_ready h.1 (fun a w hS hW => wpAnyH_tree hsel s _ _ _ _ hs.2.1 (by omega) hS hW)
    (runN_ready h.2 (fun a w hS hW => wpAnyH_tree hsel t _ _ _ _ hs.2.2 (by omega) hS hW) AllReadyH.nil))
theorem wp_region_tree {id : Nat} {a : Act} {w : World} (S : World → Prop) (s : Sch) (hm : P.follows .mixedOrders = true) (hsel : Region.noSelect ops = true) (hlen : Nat.ble s.deep ops.size = true)
 (hs : s.okB .any ops (Array.replicate ops.size false) = true) (hS : S w.drew) (h : walkT P ops Q S s a w.drew) : (Code.region id ops true).wp P Q a w :=
 wp_region_held_drew (S := S) hm hS (fun hS => wpAnyH_tree hsel s _ _ _ _ hs (Nat.le_of_ble_eq_true hlen) hS h)
theorem walkT_fin {a : Act} {w : World} (h : Q .normal a w) : walkT P ops Q S .fin a w := h
theorem walkT_take {i : Nat} {s : Sch} {a : Act} {w : World} (h : TakeN P ops Q S i (walkT P ops Q S s) a w) : walkT P ops Q S (.take i s) a w := h
theorem walkT_one {i : Nat} {s : Sch} {a : Act} {w : World} (h : RunN P ops Q S i (walkT P ops Q S s) a w) : walkT P ops Q S (.one i s) a w := h
theorem walkT_two {i j : Nat} {s t : Sch} {a : Act} {w : World} (h : RunN P ops Q S i (walkT P ops Q S s) a w) (h2 : RunN P ops Q S j (walkT P ops Q S t) a w) : walkT P ops Q S (.two i j s t) a w := ⟨h, h2⟩
variable {N : Act → World → Prop}
theorem takeN_take {i : Nat} {a : Act} {w : World} {o : Oper} {v : Value} (d : Option Tmp) (ho : ops[i]? = some o) (hd : o.dst = d) (hQ : ∀ c a w, Q (.panic c) (a.put d v) w → Q (.panic c) a w)
 (hw : Region.wanted o (yielded ops a.tmps) = true) (hv : ∀ w', S w' → (execOp a.eval o).run P w' = .ok (.value v) w') (h : N (a.put d v) w) : TakeN P ops Q S i N a w := by
 subst hd; exact ⟨o, v, ho, hQ, .inl ⟨hw, hv⟩, h⟩
theorem takeN_bin {i : Nat} {a : Act} {w : World} {o : Oper} (d : Option Tmp) (k : BinOp) (t t2 : TypeId) (x y : Operand) (u1 u2 v : Value) (hr : ∀ x y W, (do eqGuard k t x y u1 u2; binOp k t u1 u2 : Sem Value).run P W = .ok v W) (ho : ops[i]? = some o) (hd : o.dst = d) (hop : o.op = .binOp k t x y t2) (hx : a.eval x = u1) (hy : a.eval y = u2)
 (hQ : ∀ c a w, Q (.panic c) (a.put d v) w → Q (.panic c) a w) (hw : Region.wanted o (yielded ops a.tmps) = true) (h : N (a.put d v) w) : TakeN P ops Q S i N a w :=
 takeN_take d ho hd hQ hw (fun w' _ => by
  subst hx hy; unfold execOp; simp only [hop]
  rw [Sem.run_bind, hr]
  rfl) h
theorem takeN_row {i : Nat} {a : Act} {w : World} {o : Oper} (d : Option Tmp) (ho : ops[i]? = some o) (hd : o.dst = d) (ty : TypeId) (x : Operand) (hop : o.op = .load ty x) (g : Nat) (hx : a.eval x = .pointer (some ⟨g, 0, none⟩))
 (t : TypeId) (cs : Array Value) (fr : Nat × Nat) (de : TypeDesc) (hg : ∀ w, S w → w.heap[g]? = some (.cells cs t fr)) (hu : P.underlying ty = some de) (hde : (match de with | .struct _ | .array _ _ => true | _ => false) = true) (hin : (P.info? ty).map (·.size) = some cs.size)
 (hQ : ∀ c a w, Q (.panic c) (a.put d (.agg cs)) w → Q (.panic c) a w) (hw : Region.wanted o (yielded ops a.tmps) = true) (h : N (a.put d (.agg cs)) w) : TakeN P ops Q S i N a w :=
 takeN_take d ho hd hQ hw (fun w' hS => by
  unfold execOp
  simp only [hop, hx, load_at (hg w' hS) hu hde hin, Sem.run_bind, Sem.run_pure, Result.andThen_ok]) h
theorem runN_do {i : Nat} {a : Act} {w w' : World} {o : Oper} {v : Value} (d : Option Tmp) (ho : ops[i]? = some o) (hd : o.dst = d) (hw : Region.wanted o (yielded ops a.tmps) = true)
 (hx : (execOp a.eval o).run P w = .ok (.value v) w') (hS : S w') (h : S w' → N (a.put d v) w') : RunN P ops Q S i N a w := by
 refine ⟨o, ho, fun K' hK => ?_⟩
 rw [if_pos hw]
 unfold Oper.wp
 rw [hx]
 subst hd
 exact hK.out _ _ hS h
theorem runN_new {i : Nat} {a : Act} {w : World} {o : Oper} (d : Tmp) (v : World → Value) (cs : Array Value) (E : TypeId) (ho : ops[i]? = some o) (hd : o.dst = some d) (hw : Region.wanted o (yielded ops a.tmps) = true)
 (hx : ∀ W, (execOp a.eval o).run P W = .ok (.value (v W)) (W.alloc (.cells cs E)))
 (h : ∀ w', w' = w.alloc (.cells cs E) → w'.heap[w.heap.size]? = some (.cells cs E (0, 0)) → w'.heap.size = w.heap.size + 1 → Touch w w' (fun _ => False) → S w' ∧ (S w' → N (a.put (some d) (v w)) w')) : RunN P ops Q S i N a w := by
 refine ⟨o, ho, fun K' hK => ?_⟩
 rw [if_pos hw]
 unfold Oper.wp
 rw [hx]
 obtain ⟨k1, k2⟩ := h _ rfl (heap_alloc_new w _) (by simp) ((Touch.refl _ _).alloc _)
 have k3 := hK.out _ _ k1 k2
 rw [← hd] at k3
 exact k3
theorem runN_skip0 {i : Nat} {a : Act} {w w' : World} {o : Oper} (d : Option Tmp) (ho : ops[i]? = some o) (hd : o.dst = d) (hw : Region.wanted o (yielded ops a.tmps) = true)
 (hx : (execOp a.eval o).run P w = .ok .skip w') (hS : S w') (h : S w' → N (a.put d undef) w') : RunN P ops Q S i N a w := by
 refine ⟨o, ho, fun K' hK => ?_⟩
 rw [if_pos hw]
 unfold Oper.wp
 rw [hx]
 subst hd
 exact hK.out _ _ hS h
theorem runN_store {i : Nat} {a : Act} {w : World} {o : Oper} (ho : ops[i]? = some o) (hd : o.dst = none) (hw : Region.wanted o (yielded ops a.tmps) = true) (ty : TypeId) (x y : Operand) (hop : o.op = .store ty x y)
 (g : Nat) (cells : Array Value) (hx : a.eval x = .pointer (some ⟨g, 0, none⟩)) (hy : a.eval y = .agg cells)
 (t : TypeId) (old : Array Value) (hg : w.heap[g]? = some (.cells old t (0, 0))) (hi : (P.info? ty).map (·.size) = some cells.size)
 (hold : old.size = cells.size) (h1 : cells.toList.all (·.oneCell') = true)
 (h : ∀ w', w'.heap[g]? = some (.cells cells t (0, 0)) → Touch w w' (fun k => k = g) → S w' ∧ (S w' → N (a.put none undef) w')) : RunN P ops Q S i N a w := by
 refine ⟨o, ho, fun K' hK => ?_⟩
 rw [if_pos hw]
 unfold Oper.wp execOp
 simp only [hop, hx, hy, store_at hg hi hold h1, Sem.run_bind, Sem.run_pure, Result.andThen_ok]
 obtain ⟨k1, k2⟩ := h _ (setRow_heap _ _ _ _ _ _ hg) ((Touch.refl w _).setRow g cells (fun _ => rfl))
 have k3 := hK.out _ _ k1 k2
 rw [← hd] at k3
 exact k3
theorem runN_call {i : Nat} {a : Act} {w : World} {o : Oper} (d : Tmp) (f : Nat) (xs : Array Operand) (ts : Array TypeId) (vs : Array Value) {R : Ending → World → Prop} (hc : Calls P f vs w R)
 (ho : ops[i]? = some o) (hop : o.op = .call { callee := .value (.func f), args := xs, argTypes := ts }) (hd : o.dst = some d)
 (hw : Region.wanted o (yielded ops a.tmps) = true) (hx : (xs.toList.map a.eval) = vs.toList) (hf1 : (callFunc f vs).run P w = .ok (.enter f vs) w)
 (h : ∀ e w', R e w' → ∃ u, e = .returned u ∧ S w' ∧ (S w' → N (a.put (some d) u) w')) : RunN P ops Q S i N a w := by
 refine ⟨o, ho, fun K' hK => ?_⟩
 rw [if_pos hw]
 have hf : a.eval (.func f) = .func (.func f) #[] #[] := rfl
 have hx' : (xs.map a.eval) = vs := by
  apply Array.ext'
  rw [Array.toList_map]
  exact hx
 unfold Oper.wp execOp
 simp [hop, resolve, invoke, hf, Deferred.ofValue, hx']
 rw [hf1]
 refine Calls.mono hc fun e w' he => ?_
 obtain ⟨u, rfl, hS, hh⟩ := h e w' he
 rw [← hd] at hh
 exact hK.out _ _ hS hh
theorem runN_appS {i : Nat} {a : Act} {w : World} {o : Oper} (d : Tmp) (x y : Operand) (t : TypeId) (ho : ops[i]? = some o)
 (hop : o.op = .call { callee := .builtin .append, args := #[x, y], argTypes := #[t, t] }) (hd : o.dst = some d) (hw : Region.wanted o (yielded ops a.tmps) = true)
 (E : TypeId) (ht : P.underlying t = some (.slice E)) (z : Value) (k bytes : Nat) (hin : (P.info? E).map (fun i => (i.zero, i.size, i.bytes)) = some (some z, k, bytes)) (hzs : z.cells.size = k) (hk : 0 < k)
 (base : Nat) (v : Value) (L : List (List Value)) (hs : a.eval x = v) (hown : OwnS w base E k v L) (ad : Option Addr) (len cap : Nat) (L2 : List (List Value)) (hx : a.eval y = .slice ad len cap) (hr : RowS w ad len cap k L2) (h1 : ∀ l ∈ L2, ∀ u ∈ l, u.oneCell' = true)
 (n : Nat) (Z : List (List Value)) (hz : L ++ L2 = Z) (hn : L.length + len = n) (hlen : n ≤ maxLen) (hbytes : n * bytes ≤ 140737488355328) (hbase : base ≤ w.heap.size)
 (h : ∀ a' cap' w', OwnS w' base E k (.slice a' n cap') Z → w.grownBy w' v.ownBlock → (∀ b, (Value.slice a' n cap').ownBlock = some b → v.ownBlock = some b ∨ w.heap.size ≤ b) → S w' ∧ (S w' → N (a.put (some d) (.slice a' n cap')) w')) :
 RunN P ops Q S i N a w := by
 subst hz hn
 refine ⟨o, ho, fun K' hK => ?_⟩
 rw [if_pos hw]
 obtain ⟨a', cap', w', hrun, h1', h2, hpl⟩ := run_appS (P := P) w t o.type E ht z k bytes hin hzs hk base v L hown ad len cap L2 hr h1 hlen hbytes hbase
 unfold Oper.wp execOp
 simp only [hop, resolve, invoke, builtin, Sem.run_bind, Sem.run_pure, Result.andThen_ok, List.map_toArray, List.map_cons, List.map_nil, hs, hx, hrun]
 obtain ⟨k1, k2⟩ := h a' cap' w' h1' h2 hpl
 have k3 := hK.out _ _ k1 k2
 rw [← hd] at k3
 exact k3
end
end Go.Proofs.YtpjdcgjoepjmcaaGreat
end
section
namespace Go.Proofs.YtpjdcgjoepjmcaaGreat
def lowF (s : Int) : Int := if s = 0 then 0 else (s - 1) % 65535 + 1
theorem lowF_le (s : Int) : 0 ≤ lowF s ∧ lowF s ≤ 65535 := by unfold lowF; split <;> omega
theorem lowF_small (s : Int) (h : 0 ≤ s) (h2 : s ≤ 65535) : lowF s = s := by unfold lowF; split <;> omega
theorem lowF_step (t : Int) (h : 65535 < t) : lowF (t / 65536 + t % 65536) = lowF t := by unfold lowF; split <;> split <;> omega
theorem lowF_add (a b : Int) (ha : 0 ≤ a) (hb : 0 ≤ b) : lowF (lowF a + b) = lowF (a + b) := by
 unfold lowF; split <;> split <;> split <;> omega
theorem lowF_idem (a : Int) (ha : 0 ≤ a) : lowF (lowF a) = lowF a := by
 have := lowF_le a; exact lowF_small _ this.1 this.2
def sum16 : List Nat → Int
 | [] => 0
 | [a] => (a : Int) * 256
 | a :: b :: r => (a : Int) * 256 + b + sum16 r
theorem sum16_nonneg : ∀ l, 0 ≤ sum16 l
 | [] => by simp [sum16]
 | [a] => by simp [sum16]; omega
 | a :: b :: r => by have := sum16_nonneg r; simp [sum16]; omega
def partF (s : Int) (l : List Nat) : Int := lowF (s + sum16 l)
def foldF (s : Int) : Int := 65535 - lowF s
def netF (l : List Nat) : Int := foldF (partF 0 l)
theorem partF_le (s : Int) (l : List Nat) : 0 ≤ partF s l ∧ partF s l ≤ 65535 := lowF_le _
theorem foldF_le (s : Int) : 0 ≤ foldF s ∧ foldF s ≤ 65535 := by have := lowF_le s; unfold foldF; omega
theorem netF_le (l : List Nat) : 0 ≤ netF l ∧ netF l ≤ 65535 := foldF_le _
theorem netF_eq (l : List Nat) : netF l = 65535 - lowF (sum16 l) := by
 unfold netF foldF partF; rw [Int.zero_add, lowF_idem _ (sum16_nonneg l)]
theorem partF_cons (s : Int) (a b : Nat) (r : List Nat) (hs : 0 ≤ s) : partF (lowF (s + (a : Int) * 256 + b)) r = partF s (a :: b :: r) := by
 unfold partF; have := sum16_nonneg r
 rw [lowF_add _ _ (by omega) this]; simp [sum16]; congr 1; omega
theorem partF_low (s : Int) (l : List Nat) (hs : 0 ≤ s) : partF (lowF s) l = partF s l := by
 unfold partF; exact lowF_add _ _ hs (sum16_nonneg l)
theorem partF_nil (s : Int) (hs : 0 ≤ s) (h : s ≤ 65535) : partF s [] = s := by simp [partF, sum16, lowF_small s hs h]
theorem partF_one (s : Int) (a : Nat) : partF s [a] = lowF (s + (a : Int) * 256) := by simp [partF, sum16]
def crcBit (c : Nat) : Nat := c / 2 ^^^ (c % 2 * 2197175160)
def crcBits : Nat → Nat → Nat
 | 0, c => c
 | n + 1, c => crcBits n (crcBit c)
def crcByte (c x : Nat) : Nat := crcBits 8 (c ^^^ x)
def crcAll (c : Nat) (xs : List Nat) : Nat := xs.foldl crcByte c
def crcF (xs : List Nat) : Int := 4294967295 - (crcAll 4294967295 xs : Int)
theorem xor_lt32 (a b : Nat) (h1 : a < 4294967296) (h2 : b < 4294967296) : a ^^^ b < 4294967296 := Nat.xor_lt_two_pow (n := 32) h1 h2
def mixByte (h x : Nat) : Nat := (h ^^^ x) * 16777619 % 4294967296
def mixAll (h : Nat) (xs : List Nat) : Nat := xs.foldl mixByte h
def mixEnd (h : Nat) : Nat := (h ^^^ h / 32768) * 2246822507 % 4294967296
def mixF (seed : Nat) (xs : List Nat) : Nat := mixEnd (mixAll (seed ^^^ 2166136261) xs) ^^^ mixEnd (mixAll (seed ^^^ 2166136261) xs) / 8192
theorem mixAll_cons (c x : Nat) (r : List Nat) : mixAll c (x :: r) = mixAll (mixByte c x) r := rfl
theorem mixByte_lt (h x : Nat) : mixByte h x < 4294967296 := Nat.mod_lt _ (by omega)
theorem mixEnd_lt (h : Nat) : mixEnd h < 4294967296 := Nat.mod_lt _ (by omega)
theorem mixF_lt (seed : Nat) (xs : List Nat) : mixF seed xs < 4294967296 := by
 have := mixEnd_lt (mixAll (seed ^^^ 2166136261) xs)
 exact xor_lt32 _ _ this (by omega)
def xor3 : List Nat → List Nat → List Nat → List Nat
 | a :: r, b :: s, c :: t => (a ^^^ b ^^^ c) :: xor3 r s t
 | _, _, _ => []
def crcN (xs : List Nat) : Nat := 4294967295 ^^^ crcAll 4294967295 xs
theorem drop_cons {xs : List Nat} {k : Nat} (h : k < xs.length) : xs.drop k = xs[k] :: xs.drop (k + 1) := List.drop_eq_getElem_cons h
end Go.Proofs.YtpjdcgjoepjmcaaGreat
end
section
namespace Go.Proofs.YtpjdcgjoepjmcaaGreat
structure Rw where
 id : Int
 wt : Nat
 pos : Nat
 sk : Nat
deriving DecidableEq
def id4 (id : Int) : List Nat := [(id / 16777216 % 256).toNat, (id / 65536 % 256).toNat, (id / 256 % 256).toNat, (id % 256).toNat]
def offF (id : Int) (s : Nat) : Nat := mixF 1 (id4 id) % s
def skF (id : Int) (s : Nat) : Nat := mixF 2 (id4 id) % (s - 1) + 1
theorem id4_small (id : Int) : ∀ x ∈ id4 id, x < 256 := by
 intro x hx; simp [id4] at hx; omega
def walkF (T : List Int) (sk : Nat) : Nat → Nat → Nat
 | 0, a => a
 | f + 1, a => if T.getD a 0 = -1 then a else walkF T sk f ((a + sk) % T.length)
def takeT (S : List Int × List Rw) (i : Nat) : List Int × List Rw :=
 match S.2[i]? with
 | none => S
 | some r => (S.1.set (walkF S.1 r.sk S.1.length r.pos) r.id, S.2.set i { r with pos := walkF S.1 r.sk S.1.length r.pos })
def who : List Rw → Nat → Nat
 | [], _ => 0
 | r :: rs, x => if x < r.wt then 0 else who rs (x - r.wt) + 1
def allW : List Rw → Nat
 | [] => 0
 | r :: rs => r.wt + allW rs
def pre (rs : List Rw) (i : Nat) : Nat := allW (rs.take i)
def stM (rs : List Rw) (n : Nat) : Nat → List Int × List Rw
 | 0 => (List.replicate n (-1), rs)
 | k + 1 => takeT (stM rs n k) (who rs (k % allW rs))
def cnt (rs : List Rw) (i : Nat) : Nat → Nat
 | 0 => 0
 | k + 1 => cnt rs i k + (if who rs (k % allW rs) = i then 1 else 0)
structure Prm (n : Nat) : Prop where
 lo : 3 ≤ n
 hi : n ≤ 251
 inv : ∀ k, k < n → 0 < k → ∃ i, i < n ∧ k * i % n = 1
theorem prm13 : Prm 13 := ⟨by decide, by decide, by decide +kernel⟩
structure Rws (rs : List Rw) (n : Nat) : Prop where
 prm : Prm n
 len : rs.length ≤ 16
 each : ∀ r ∈ rs, 0 ≤ r.id ∧ r.id ≤ 65535 ∧ 1 ≤ r.wt ∧ r.wt ≤ 10 ∧ r.pos < n ∧ 1 ≤ r.sk ∧ r.sk < n
 up : rs.Pairwise (fun a b => a.id < b.id)
theorem reach (n : Nat) (hp : Prm n) (a sk x : Nat) (ha : a < n) (hs : 0 < sk) (hs2 : sk < n) (hx : x < n) : ∃ j, j < n ∧ (a + j * sk) % n = x := by
 obtain ⟨i, hi, he⟩ := hp.inv sk hs2 hs
 refine ⟨(x + n - a) * i % n, Nat.mod_lt _ (by have := hp.lo; omega), ?_⟩
 have e1 : ((x + n - a) * i % n * sk) % n = (x + n - a) % n := by
  rw [Nat.mul_mod, Nat.mod_mod, ← Nat.mul_mod, Nat.mul_assoc, Nat.mul_comm i sk, Nat.mul_mod, he, Nat.mul_one, Nat.mod_mod]
 rw [Nat.add_mod, e1, ← Nat.add_mod]
 have : a + (x + n - a) = x + n := by omega
 rw [this, Nat.add_mod_right, Nat.mod_eq_of_lt hx]
theorem walk_free (T : List Int) (sk : Nat) (h0 : 0 < T.length) : ∀ (j f a : Nat), j < f → a < T.length → T.getD ((a + j * sk) % T.length) 0 = -1 → walkF T sk f a < T.length ∧ T.getD (walkF T sk f a) 0 = -1
 | _, 0, _, h, _, _ => by omega
 | 0, f + 1, a, _, ha, h => by
   rw [Nat.zero_mul, Nat.add_zero, Nat.mod_eq_of_lt ha] at h
   unfold walkF; rw [if_pos h]; exact ⟨ha, h⟩
 | j + 1, f + 1, a, hj, ha, h => by
   unfold walkF
   by_cases hc : T.getD a 0 = -1
   ·rw [if_pos hc]; exact ⟨ha, hc⟩
   ·rw [if_neg hc]
    refine walk_free T sk h0 j f _ (by omega) (Nat.mod_lt _ h0) ?_
    rw [Nat.mod_add_mod, show a + sk + j * sk = a + (j + 1) * sk from by rw [Nat.succ_mul]; omega]; exact h
theorem walk_ok {T : List Int} {n sk a : Nat} (hp : Prm n) (hn : T.length = n) (ha : a < n) (hs : 1 ≤ sk) (hs2 : sk < n) (hf : 0 < T.count (-1)) : walkF T sk n a < n ∧ T.getD (walkF T sk n a) 0 = -1 := by
 obtain ⟨x, hx, he⟩ := List.getElem_of_mem (List.count_pos_iff.1 hf)
 obtain ⟨j, hj, hr⟩ := reach n hp a sk x ha hs hs2 (by omega)
 subst hn
 refine walk_free T sk (by omega) j _ a hj ha ?_
 rw [hr, List.getD_eq_getElem?_getD, List.getElem?_eq_getElem hx, he]; rfl
theorem who_lt : ∀ (rs : List Rw) (x : Nat), x < allW rs → who rs x < rs.length
 | [], x, h => by simp [allW] at h
 | r :: rs, x, h => by
   unfold who; simp only [allW] at h
   split
   ·simp
   ·have := who_lt rs (x - r.wt) (by omega)
    simp; omega
theorem who_pre : ∀ (rs : List Rw) (i j : Nat) (r : Rw), rs[i]? = some r → j < r.wt → who rs (pre rs i + j) = i
 | [], i, j, r, h, _ => by simp at h
 | r0 :: rs, 0, j, r, h, hj => by
   simp at h; subst h
   unfold who pre; simp only [List.take_zero, allW, Nat.zero_add, if_pos hj]
 | r0 :: rs, i + 1, j, r, h, hj => by
   have ih := who_pre rs i j r (by simpa using h) hj
   unfold pre at ih
   unfold who pre; simp only [List.take_succ_cons, allW]
   rw [if_neg (by omega), show r0.wt + allW (rs.take i) + j - r0.wt = allW (rs.take i) + j from by omega, ih]
theorem pre_zero (rs : List Rw) : pre rs 0 = 0 := by simp [pre, allW]
theorem pre_succ : ∀ (rs : List Rw) (i : Nat) (r : Rw), rs[i]? = some r → pre rs (i + 1) = pre rs i + r.wt
 | [], i, r, h => by simp at h
 | r0 :: rs, 0, r, h => by simp at h; subst h; simp [pre, allW]
 | r0 :: rs, i + 1, r, h => by
   have ih := pre_succ rs i r (by simpa using h)
   unfold pre at ih ⊢
   simp only [List.take_succ_cons, allW] at ih ⊢
   omega
theorem pre_all (rs : List Rw) : pre rs rs.length = allW rs := by unfold pre; rw [List.take_length]
theorem pre_le : ∀ (rs : List Rw) (i : Nat), pre rs i ≤ allW rs
 | [], i => by simp [pre]
 | r :: rs, 0 => by simp [pre, allW]
 | r :: rs, i + 1 => by have := pre_le rs i; unfold pre at this ⊢; simp only [List.take_succ_cons, allW]; omega
theorem allW_pos {rs : List Rw} (h : ∀ r ∈ rs, 1 ≤ r.wt) (h0 : 0 < rs.length) : 0 < allW rs := by
 cases rs with
 | nil => simp at h0
 | cons r rs => have := h r (List.mem_cons_self ..); simp only [allW]; omega
def cP (rs : List Rw) (i x : Nat) : Nat := min ((rs[i]?.map (·.wt)).getD 0) (x - pre rs i)
theorem pre_wt_le : ∀ (rs : List Rw) (i : Nat) (r : Rw), rs[i]? = some r → pre rs i + r.wt ≤ allW rs := by
 intro rs i r h
 rw [← pre_succ rs i r h]; exact pre_le rs _
structure MInv (rs : List Rw) (n k : Nat) (S : List Int × List Rw) : Prop where
 tl : S.1.length = n
 rl : S.2.length = rs.length
 same : ∀ (i : Nat) (r : Rw), S.2[i]? = some r → r.pos < n ∧ ∃ q : Rw, rs[i]? = some q ∧ r.id = q.id ∧ r.wt = q.wt ∧ r.sk = q.sk
 free : S.1.count (-1) + k = n
 mem : ∀ x ∈ S.1, x = -1 ∨ ∃ r ∈ rs, x = r.id
 has : ∀ (i : Nat) (r : Rw), rs[i]? = some r → S.1.count r.id = cnt rs i k
theorem inv0 {rs : List Rw} {n : Nat} (h : Rws rs n) : MInv rs n 0 (stM rs n 0) := by
 refine ⟨by simp [stM], rfl, fun i r hr => ⟨(h.each r (List.mem_of_getElem? hr)).2.2.2.2.1, r, hr, rfl, rfl, rfl⟩, by simp [stM], fun x hx => .inl ?_, fun i r hr => ?_⟩
 ·simp [stM] at hx; exact hx.2
 ·have := (h.each r (List.mem_of_getElem? hr)).1
  simp only [stM, List.count_replicate, cnt]
  split
  ·rename_i he; simp at he; omega
  ·rfl
theorem ids_ne {rs : List Rw} (h : rs.Pairwise (fun a b => a.id < b.id)) {i j : Nat} {a b : Rw} (hi : rs[i]? = some a) (hj : rs[j]? = some b) (hne : i ≠ j) : a.id ≠ b.id := by
 obtain ⟨h1, e1⟩ := List.getElem?_eq_some_iff.1 hi
 obtain ⟨h2, e2⟩ := List.getElem?_eq_some_iff.1 hj
 have hp := List.pairwise_iff_getElem.1 h
 rcases Nat.lt_or_ge i j with hl | hl
 ·have := hp i j h1 h2 hl; rw [e1, e2] at this; omega
 ·have := hp j i h2 h1 (by omega); rw [e1, e2] at this; omega
theorem takeT_some {S : List Int × List Rw} {i : Nat} {r : Rw} (h : S.2[i]? = some r) : takeT S i = (S.1.set (walkF S.1 r.sk S.1.length r.pos) r.id, S.2.set i { r with pos := walkF S.1 r.sk S.1.length r.pos }) := by
 unfold takeT; rw [h]
theorem invS {rs : List Rw} {n k : Nat} {S : List Int × List Rw} (h : Rws rs n) (h0 : 0 < rs.length) (hk : k < n) (hI : MInv rs n k S) : MInv rs n (k + 1) (takeT S (who rs (k % allW rs))) := by
 obtain ⟨i, hi⟩ : ∃ i, i = who rs (k % allW rs) := ⟨_, rfl⟩
 have hlt : i < rs.length := by rw [hi]; exact who_lt rs _ (Nat.mod_lt _ (allW_pos (fun r hr => (h.each r hr).2.2.1) h0))
 have hr : S.2[i]? = some (S.2[i]'(by rw [hI.rl]; exact hlt)) := List.getElem?_eq_getElem _
 generalize S.2[i]'(by rw [hI.rl]; exact hlt) = r at hr
 obtain ⟨hpos, q, hq, e1, e2, e3⟩ := hI.same i r hr
 have hqe := h.each q (List.mem_of_getElem? hq)
 have hw := walk_ok h.prm hI.tl hpos (by omega : 1 ≤ r.sk) (by omega) (by have := hI.free; omega)
 rw [← hi, takeT_some hr]
 rw [hI.tl]
 generalize walkF S.1 r.sk n r.pos = a at hw
 obtain ⟨ha, hfree⟩ := hw
 have hal : a < S.1.length := by rw [hI.tl]; exact ha
 have hge : S.1[a] = -1 := by rw [List.getD_eq_getElem?_getD, List.getElem?_eq_getElem hal] at hfree; simpa using hfree
 refine ⟨by simp [hI.tl], by simp [hI.rl], fun j s hs => ?_, ?_, fun x hx => ?_, fun j s hs => ?_⟩
 ·rw [List.getElem?_set] at hs
  split at hs
  ·rename_i hij
   subst hij
   split at hs
   ·simp only [Option.some.injEq] at hs
    subst hs
    exact ⟨ha, q, hq, e1, e2, e3⟩
   ·cases hs
  ·exact hI.same j s hs
 ·have := hI.free
  have hc := List.count_set (b := (-1 : Int)) (a := r.id) hal
  have hp : 0 < S.1.count (-1) := by omega
  simp only [hge, beq_self_eq_true, if_true] at hc
  have hn : (r.id == (-1 : Int)) = false := by simp; omega
  rw [hn] at hc
  simp only [Bool.false_eq_true, if_false] at hc
  show (S.1.set a r.id).count (-1) + (k + 1) = n
  omega
 ·rcases List.mem_or_eq_of_mem_set hx with h1 | h1
  ·exact hI.mem x h1
  ·exact .inr ⟨q, List.mem_of_getElem? hq, by rw [h1, e1]⟩
 ·have hc := List.count_set (b := s.id) (a := r.id) hal
  have hs0 := (h.each s (List.mem_of_getElem? hs)).1
  have hn : (S.1[a] == s.id) = false := by rw [hge]; simp; omega
  rw [hn] at hc
  simp only [Bool.false_eq_true, if_false, Nat.sub_zero] at hc
  show (S.1.set a r.id).count s.id = cnt rs j (k + 1)
  rw [hc, hI.has j s hs, show cnt rs j (k + 1) = cnt rs j k + (if who rs (k % allW rs) = j then 1 else 0) from rfl]
  rw [← hi]
  by_cases hij : i = j
  ·subst hij
   rw [hs] at hq
   simp only [Option.some.injEq] at hq
   subst hq
   simp [e1]
  ·have := ids_ne h.up hq hs hij
   rw [if_neg hij, if_neg (by rw [e1]; simpa using this)]
theorem inv_all {rs : List Rw} {n : Nat} (h : Rws rs n) (h0 : 0 < rs.length) : ∀ k, k ≤ n → MInv rs n k (stM rs n k)
 | 0, _ => inv0 h
 | k + 1, hk => invS h h0 (by omega) (inv_all h h0 k (by omega))
end Go.Proofs.YtpjdcgjoepjmcaaGreat
end
section
namespace Go.Proofs.YtpjdcgjoepjmcaaGreat
open Go.RowKit
def zB (n : Nat) : Array Value := madeCells #[Value.int .u8 0] n
def zL (n : Nat) : List Nat := List.replicate n 0
end Go.Proofs.YtpjdcgjoepjmcaaGreat
end
