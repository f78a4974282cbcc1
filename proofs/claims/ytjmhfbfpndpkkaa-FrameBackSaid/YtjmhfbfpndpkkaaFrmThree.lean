/- Three rows of the call's own side by side: bytes, frames, numbers. -/
import Derived.Test.YtjmhfbfpndpkkaaFrmApp
set_option linter.unusedVariables false
namespace Go.Proofs.Ytjmhfbfpndpkkaa
open Go.RowKit

theorem infoI : (Try.prog.info? 3).map (fun i => (i.zero, i.size, i.bytes)) = some (some (.int .i64 0), 1, 8) := by kernel_rfl
/-- Numbers as cells. -/
def cellsI (es : List Nat) : List Value := es.map (fun n => .int .i64 (n : Nat))
structure Three (w : World) (base : Nat) (vb : Value) (xs : List Nat) (vr : Value) (gs : List FrD) (ve : Value) (es : List Nat) : Prop where
  b : OwnB w base 5 vb xs
  r : OwnF w base vr gs
  e : w.ownsRow base 3 1 ve es.length (cellsI es)
  br : ∀ x, vb.ownBlock = some x → vr.ownBlock ≠ some x
  be : ∀ x, vb.ownBlock = some x → ve.ownBlock ≠ some x
  re : ∀ x, vr.ownBlock = some x → ve.ownBlock ≠ some x
  old : ∀ f ∈ gs, ∀ x, f.a = some x → f.ys.length = 0 ∨ x.block < base
theorem Three.empty (w : World) (base : Nat) : Three w base (.slice none 0 0) [] (.slice none 0 0) [] (.slice none 0 0) [] :=
  ⟨OwnB.nil _ _ _, OwnF.nil _ _, World.ownsRow_nil w _ _ _, fun x h => absurd h (by simp [Value.ownBlock]), fun x h => absurd h (by simp [Value.ownBlock]), fun x h => absurd h (by simp [Value.ownBlock]), fun f hf => absurd hf List.not_mem_nil⟩
section
variable {w w' : World} {base : Nat} {vb vr ve : Value} {xs : List Nat} {gs : List FrD} {es : List Nat}
theorem Three.still (h : Three w base vb xs vr gs ve es) (t : Touch w w' (fun _ => False)) : Three w' base vb xs vr gs ve es :=
  ⟨h.b.touch t (fun _ _ h => h), h.r.still t, ownsRow_touch h.e t (fun _ _ h => h), h.br, h.be, h.re, h.old⟩
theorem Three.addB {vb' : Value} {xs' : List Nat} (h : Three w base vb xs vr gs ve es) (ho : OwnB w' base 5 vb' xs') (hg : w.grownBy w' vb.ownBlock) (hp : ∀ k, vb'.ownBlock = some k → vb.ownBlock = some k ∨ w.heap.size ≤ k) : Three w' base vb' xs' vr gs ve es := by
  have t : Touch w w' (fun k => vb.ownBlock = some k) := (Touch.refl _ _).grown hg (fun k hk _ => hk)
  refine ⟨ho, h.r.touch t (fun k hk hb => h.br k hb hk) (fun f hf x hx => ?_), ownsRow_touch h.e t (fun k hk hb => h.be k hb hk), fun x hx hr => ?_, fun x hx hr => ?_, h.re, h.old⟩
  · rcases h.old f hf x hx with h0 | h0
    · exact .inl h0
    · exact .inr (fun hb => by have := (h.b.own.lt _ hb).1; omega)
  · rcases hp x hx with h1 | h1
    · exact h.br x h1 hr
    · have := (h.r.own.lt _ hr).2; omega
  · rcases hp x hx with h1 | h1
    · exact h.be x h1 hr
    · have := (h.e.lt _ hr).2; omega
theorem Three.addR {vr' : Value} {f : FrD} (h : Three w base vb xs vr gs ve es) (hr : RowB w f.a f.ys.length f.cap f.ys) (hold : ∀ x, f.a = some x → f.ys.length = 0 ∨ x.block < base)
    (ho : w'.ownsRow base 24 3 vr' (gs.length + 1) (gs.flatMap FrD.cells ++ f.cells)) (hg : w.grownBy w' vr.ownBlock) (hp : ∀ k, vr'.ownBlock = some k → vr.ownBlock = some k ∨ w.heap.size ≤ k) : Three w' base vb xs vr' (gs ++ [f]) ve es := by
  have t : Touch w w' (fun k => vr.ownBlock = some k) := (Touch.refl _ _).grown hg (fun k hk _ => hk)
  refine ⟨h.b.touch t (fun k hk hb => h.br k hk hb), h.r.add hr (fun x hx => ?_) ho hg hp, ownsRow_touch h.e t (fun k hk hb => h.re k hb hk), fun x hx he => ?_, h.be, fun x hx he => ?_, fun g hg2 x hx => ?_⟩
  · rcases hold x hx with h0 | h0
    · exact .inl h0
    · exact .inr (fun hb => by have := (h.r.own.lt _ hb).1; omega)
  · rcases hp x he with h1 | h1
    · exact h.br x hx h1
    · have := (h.b.own.lt _ hx).2; omega
  · rcases hp x hx with h1 | h1
    · exact h.re x h1 he
    · have := (h.e.lt _ he).2; omega
  · rcases List.mem_append.1 hg2 with h1 | h1
    · exact h.old g h1 x hx
    · simp at h1; subst h1; exact hold x hx
theorem Three.addE {ve' : Value} {n m : Nat} (h : Three w base vb xs vr gs ve es) (hm : es.length = m)
    (ho : w'.ownsRow base 3 1 ve' (m + 1) (cellsI es ++ [.int .i64 (n : Nat)])) (hg : w.grownBy w' ve.ownBlock) (hp : ∀ k, ve'.ownBlock = some k → ve.ownBlock = some k ∨ w.heap.size ≤ k) : Three w' base vb xs vr gs ve' (es ++ [n]) := by
  subst hm
  have t : Touch w w' (fun k => ve.ownBlock = some k) := (Touch.refl _ _).grown hg (fun k hk _ => hk)
  refine ⟨h.b.touch t (fun k hk hb => h.be k hk hb), h.r.touch t (fun k hk hb => h.re k hk hb) (fun f hf x hx => ?_), by simpa [cellsI] using ho, h.br, fun x hx he => ?_, fun x hx he => ?_, h.old⟩
  · rcases h.old f hf x hx with h0 | h0
    · exact .inl h0
    · exact .inr (fun hb => by have := (h.e.lt _ hb).1; omega)
  · rcases hp x he with h1 | h1
    · exact h.be x hx h1
    · have := (h.b.own.lt _ hx).2; omega
  · rcases hp x he with h1 | h1
    · exact h.re x hx h1
    · have := (h.r.own.lt _ hx).2; omega
/-- The numbers are read. -/
theorem Three.num {a : Option Addr} {n c : Nat} (h : Three w base vb xs vr gs (.slice a n c) es) (hn : es.length = n) : n ≤ c ∧ c ≤ 9223372036854775807 ∧ (n = 0 ∨ ∃ g, a = some ⟨g, 0, none⟩ ∧ ∀ i (hi : i < es.length), w.cell? ⟨g, i, none⟩ = some (.int .i64 (es[i] : Nat))) := by
  subst hn
  rcases h.e.2 with ⟨h1, h2⟩ | ⟨g, cap, cur, hv, hb, hg, hnc, hcm, hcs, htake⟩
  · simp only [Value.slice.injEq] at h1
    obtain ⟨_, _, rfl⟩ := h1
    exact ⟨by omega, by omega, .inl h2⟩
  · simp only [Value.slice.injEq] at hv
    obtain ⟨rfl, _, rfl⟩ := hv
    refine ⟨hnc, by simpa [maxLen] using hcm, .inr ⟨g, rfl, fun i hi => ?_⟩⟩
    have := h.e.cells (g := g) rfl i (.int .i64 (es[i] : Nat)) (by simp [cellsI, hi])
    have ea : (⟨g, 0, none⟩ : Addr).add i = ⟨g, i, none⟩ := by simp only [Addr.add]; split <;> simp_all
    rwa [ea] at this
end
theorem wp_appB2 {w : World} {ops : Array Oper} {rest : List Oper} {o : Oper} {a : Act} {Q : Exit → Act → World → Prop} {base : Nat} {v : Value} {xs : List Nat} {ad : Option Addr} {len cap : Nat} {ys : List Nat} {B : Nat} {W : World}
    (hown : OwnB w base 5 v xs) (hr : RowB w ad len cap ys) (hbel : Below B W w) (hB : B ≤ base) (hbase : base ≤ w.heap.size)
    (hgd : Region.wanted o (yielded ops a.tmps) = true) (s x : Operand) (ho : o.op = .call { callee := .builtin .append, args := #[s, x], argTypes := #[22, 22] })
    (hs : a.eval s = v) (hx : a.eval x = .slice ad len cap) (n : Nat) (zs : List Nat) (hz : xs ++ ys = zs) (hn : zs.length = n) (hlen : n ≤ 140737488355328)
    (h : ∀ a' cap' w', OwnB w' base 5 (.slice a' n cap') zs → w.grownBy w' v.ownBlock → Below B W w' → (∀ k, (Value.slice a' n cap').ownBlock = some k → v.ownBlock = some k ∨ w.heap.size ≤ k) → wpList Try.prog ops Q rest (a.put o.dst (.slice a' n cap')) w') : wpList Try.prog ops Q (o :: rest) a w :=
  wpList_appendB hgd s x 22 ho 5 Try.underlying22 infoB base v xs hs hown ad len cap ys hx hr n zs hz hn hlen hbase B W hbel hB (fun a' c' w' h1 h2 h3 h4 _ _ h7 => h a' c' w' h1 h3 h4 h7)
/-- The frames that the law takes. -/
def goodsF (fs : List FrD) : List FrD := (fs.take 12).filter goodF
theorem goodsF_step (fs : List FrD) (k : Nat) (h : k < fs.length) : goodsF (fs.take (k + 1)) = if k < 12 ∧ goodF fs[k] = true then goodsF (fs.take k) ++ [fs[k]] else goodsF (fs.take k) := by
  unfold goodsF
  rw [List.take_take, List.take_take]
  by_cases hk : k < 12
  · rw [show min 12 (k + 1) = k + 1 from by omega, show min 12 k = k from by omega, List.take_succ_eq_append_getElem h, List.filter_append]
    by_cases hg : goodF fs[k] = true
    · rw [if_pos ⟨hk, hg⟩]; simp [hg]
    · rw [if_neg (fun h => hg h.2)]; simp [hg]
  · rw [if_neg (fun h => hk h.1), show min 12 (k + 1) = 12 from by omega, show min 12 k = 12 from by omega]
theorem goodsF_length (fs : List FrD) : (goodsF fs).length ≤ 12 := by
  unfold goodsF
  have := List.length_filter_le goodF (fs.take 12)
  simp at this ⊢; omega
theorem goodsF_puts (fs : List FrD) : (putsF ((goodsF fs).map FrD.val)).length ≤ 3792 := by
  have := manyB_puts fs
  unfold valsF at this
  have h := manyB_length fs
  rw [this] at h
  exact h
/-- Where each of these ends. -/
def endOfF (gs : List FrD) (i : Nat) : Nat := (putsF ((gs.take (i + 1)).map FrD.val)).length
theorem endOfF_snoc (gs : List FrD) (f : FrD) (i : Nat) (h : i < gs.length) : endOfF (gs ++ [f]) i = endOfF gs i := by
  unfold endOfF
  rw [List.take_append_of_le_length (by omega)]
theorem endOfF_last (gs : List FrD) (f : FrD) : endOfF (gs ++ [f]) gs.length = (putsF (gs.map FrD.val)).length + (frmF f.k f.v f.ys).length := by
  unfold endOfF
  rw [List.take_of_length_le (by simp), List.map_append, putsF_append, List.length_append]
  simp [putsF, FrD.val]
theorem goods_ok (fs : List FrD) (h : ∀ f ∈ fs, ∀ x ∈ f.ys, x < 256) : ∀ g ∈ (goodsF fs).map FrD.val, okF g := valsF_ok fs h
theorem puts_step (G : List FrD) (k v : Int) (a : Option Addr) (c : Nat) (ys : List Nat) : putsF ((G ++ [(⟨k, v, a, c, ys⟩ : FrD)]).map FrD.val) = putsF (G.map FrD.val) ++ frmF k v ys := by
  rw [List.map_append, putsF_append]; simp [putsF, FrD.val]
theorem endOfF_all (G : List FrD) (h : 0 < G.length) : endOfF G (G.length - 1) = (putsF (G.map FrD.val)).length := by
  unfold endOfF
  rw [show G.length - 1 + 1 = G.length from by omega, List.take_length]
/-- Of a beginning: how much is whole. -/
theorem scan_part (G : List FrD) (hok : ∀ g ∈ G.map FrD.val, okF g) (k n : Nat) (hk : k < G.length) (h1 : ∀ q, k = q + 1 → endOfF G q ≤ n) (h2 : n < endOfF G k) :
    scanX ((putsF (G.map FrD.val)).take n) = ((G.take k).map FrD.val, (putsF ((G.take k).map FrD.val)).length, if n = (putsF ((G.take k).map FrD.val)).length then 0 else 2) := by
  have e : G.map FrD.val = (G.take k).map FrD.val ++ (G[k]).val :: (G.drop (k + 1)).map FrD.val := by
    rw [← List.map_cons, ← List.map_append, List.getElem_cons_drop, List.take_append_drop]
  have e2 : endOfF G k = (putsF ((G.take k).map FrD.val ++ [(G[k]).val])).length := by
    unfold endOfF
    rw [List.take_succ_eq_append_getElem hk, List.map_append]; rfl
  have e3 : (putsF ((G.take k).map FrD.val)).length ≤ n := by
    cases k with
    | zero => simp [putsF]
    | succ q => exact h1 q rfl
  have hok' : ∀ g ∈ (G.take k).map FrD.val ++ (G[k]).val :: (G.drop (k + 1)).map FrD.val, okF g := fun g hg => hok g (e ▸ hg)
  rw [e2] at h2
  conv => lhs; rw [e]
  exact scan_cut _ _ _ n hok' e3 h2
theorem sameFs_same (l : List (Int × Int × List Nat)) : sameFs l l = true := by unfold sameFs; simp
end Go.Proofs.Ytjmhfbfpndpkkaa
