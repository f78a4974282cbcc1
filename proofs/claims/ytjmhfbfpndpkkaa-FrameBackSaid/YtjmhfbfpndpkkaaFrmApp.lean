/- A row of frames appended to a row of frames of the call's own. -/
import Derived.Test.YtjmhfbfpndpkkaaFrmBytes
import Derived.Test.YtjmhfbfpndpkkaaFrmMany
set_option linter.unusedVariables false
namespace Go.Proofs.Ytjmhfbfpndpkkaa
open Go.RowKit

theorem OwnF.addAll {w w' : World} {base : Nat} {v v' : Value} {fs gs : List FrD} (h : OwnF w base v fs) (hr : ∀ f ∈ gs, RowB w f.a f.ys.length f.cap f.ys) (hne : ∀ f ∈ gs, ∀ x, f.a = some x → f.ys.length = 0 ∨ v.ownBlock ≠ some x.block)
    (ho : w'.ownsRow base 24 3 v' (fs.length + gs.length) (fs.flatMap FrD.cells ++ gs.flatMap FrD.cells)) (hg : w.grownBy w' v.ownBlock) (hp : ∀ k, v'.ownBlock = some k → v.ownBlock = some k ∨ w.heap.size ≤ k) : OwnF w' base v' (fs ++ gs) := by
  have t : Touch w w' (fun k => v.ownBlock = some k) := (Touch.refl _ _).grown hg (fun k hk _ => hk)
  have rows : ∀ g ∈ fs ++ gs, RowB w g.a g.ys.length g.cap g.ys ∧ ∀ x, g.a = some x → g.ys.length = 0 ∨ v.ownBlock ≠ some x.block := by
    intro g hg
    rcases List.mem_append.1 hg with h1 | h1
    · exact ⟨h.rows g h1, h.apart g h1⟩
    · exact ⟨hr g h1, hne g h1⟩
  refine ⟨?_, fun g hg => (rows g hg).1.touch t (fun x hx => (rows g hg).2 x hx), fun g hg x hx => ?_⟩
  · simpa using ho
  · rcases (rows g hg).2 x hx with h0 | h0
    · exact .inl h0
    · by_cases h1 : g.ys.length = 0
      · exact .inl h1
      · right
        intro e
        rcases hp _ e with h2 | h2
        · exact h0 h2
        · have := (rows g hg).1.lt x hx; omega

theorem run_appNone {P : Program} (w : World) (t ty E : TypeId) (ht : P.underlying t = some (.slice E)) (k : Nat) (hin : (P.info? E).map (·.size) = some k) (base : Nat) (v : Value) (n : Nat) (xs : List Value) (hown : w.ownsRow base E k v n xs) (c : Nat) :
    (Builtin.append_ #[t, t] ty #[v, .slice none 0 c]).run P w = .ok v w := by
  obtain ⟨i, hi, hk⟩ : ∃ i, P.info? E = some i ∧ i.size = k := by
    cases h : P.info? E with
    | none => rw [h] at hin; cases hin
    | some i => rw [h] at hin; exact ⟨i, rfl, by simpa using hin⟩
  rcases hown.2 with ⟨rfl, hn⟩ | ⟨g, cap', cur, rfl, hb, hg, hnc, hcm, hcs, htake⟩
  · simp [Builtin.append_, run_underlying ht, sizeOf, typeInfo, hi, Builtin.lenOf, Builtin.firstCells]
  · simp [Builtin.append_, run_underlying ht, sizeOf, typeInfo, hi, Builtin.lenOf, Builtin.firstCells, hnc, storeCells]

theorem RowF.news {w : World} {b off len cap : Nat} {gs : List FrD} (h : RowF w (Option.some ⟨b, off, none⟩) len cap gs) : ∀ j u, (gs.flatMap FrD.cells)[j]? = Option.some u → w.cell? ((⟨b, off, none⟩ : Addr).add j) = Option.some u := by
  intro j u hu
  have hj : j < gs.length * 3 := by rw [← fcells_length]; exact (List.getElem?_eq_some_iff.1 hu).1
  have hi : j / 3 < gs.length := by omega
  obtain ⟨g0, g1, g2⟩ := fcells_get gs (j / 3) hi
  obtain ⟨c0, c1, c2⟩ := h.cells (j / 3) hi
  have ea : (⟨b, off, none⟩ : Addr).add j = ⟨b, off + j, none⟩ := by simp only [Addr.add]; split <;> simp_all
  rw [ea]
  have h3 : j % 3 = 0 ∨ j % 3 = 1 ∨ j % 3 = 2 := by omega
  rcases h3 with h3 | h3 | h3
  · have e : j = j / 3 * 3 := by omega
    rw [← e] at g0 c0
    rw [hu] at g0; rw [c0]; exact g0.symm
  · have e : j = j / 3 * 3 + 1 := by omega
    rw [← e] at g1
    rw [Nat.add_assoc, ← e] at c1
    rw [hu] at g1; rw [c1]; exact g1.symm
  · have e : j = j / 3 * 3 + 2 := by omega
    rw [← e] at g2
    rw [Nat.add_assoc, ← e] at c2
    rw [hu] at g2; rw [c2]; exact g2.symm

theorem wp_appF {w : World} {ops : Array Oper} {rest : List Oper} {o : Oper} {a : Act} {Q : Exit → Act → World → Prop} {base : Nat} {v : Value} {fs : List FrD} {ad : Option Addr} {len cap : Nat} {gs : List FrD} {B : Nat} {W : World}
    (ho : OwnF w base v fs) (hr : RowF w ad len cap gs) (hap : ∀ f ∈ gs, ∀ x, f.a = some x → f.ys.length = 0 ∨ v.ownBlock ≠ some x.block) (hlen : fs.length + len ≤ 1000000) (hbel : Below B W w) (hB : B ≤ base) (hbase : base ≤ w.heap.size)
    (hgd : Region.wanted o (yielded ops a.tmps) = true) (s x : Operand) (ho2 : o.op = .call { callee := .builtin .append, args := #[s, x], argTypes := #[31, 31] })
    (hs : a.eval s = v) (hx : a.eval x = .slice ad len cap)
    (h : ∀ a' cap' w', OwnF w' base (.slice a' (fs.length + len) cap') (fs ++ gs) → Below B W w' → (∀ k, (Value.slice a' (fs.length + len) cap').ownBlock = some k → v.ownBlock = some k ∨ w.heap.size ≤ k) → Touch w w' (fun k => v.ownBlock = some k) → wpList Try.prog ops Q rest (a.put o.dst (.slice a' (fs.length + len) cap')) w') : wpList Try.prog ops Q (o :: rest) a w := by
  have hgl := hr.hlen
  cases ad with
  | none =>
    have h0 : len = 0 := by
      rcases hr.at_ with h0 | ⟨b, off, ha, _⟩
      · exact h0
      · cases ha
    subst h0
    have hg : gs = [] := List.length_eq_zero_iff.1 hgl
    subst hg
    obtain ⟨a0, c0, hv, _, _⟩ := ho.row
    refine BigFrame.wpList_want hgd fun K hK => ?_
    have hrun := run_appNone (P := Try.prog) w 31 o.type 24 Try.underlying31 3 infoF base v _ _ ho.own cap
    unfold Oper.wp execOp
    simp only [ho2, resolve, invoke, builtin, Sem.run_bind, Sem.run_pure, Result.andThen_ok, List.map_toArray, List.map_cons, List.map_nil, hs, hx, hrun]
    subst hv
    exact hK _ _ (h a0 c0 w (by simpa using ho) hbel (fun k hk => .inl hk) (Touch.refl _ _))
  | some ad =>
    by_cases h0 : len = 0
    · subst h0
      have hg : gs = [] := List.length_eq_zero_iff.1 hgl
      subst hg
      refine wp_appR ho.own 31 Try.underlying31 _ 40 infoFr rfl (by decide) ad 0 cap [] rfl (by simp) (by simp) (by simp only [maxLen]; omega) (by omega) hbel hB hbase hgd s x ho2 hs hx (fun a' cap' w' h1 h2 h3 h4 => ?_)
      exact h a' cap' w' (ho.addAll hr.rows hap (by simpa using h1) h2 h4) h3 h4 ((Touch.refl _ _).grown h2 (fun k hk _ => hk))
    · obtain ⟨b, off, hb⟩ := hr.some (by omega)
      simp only [Option.some.injEq] at hb
      subst hb
      refine wp_appR ho.own 31 Try.underlying31 _ 40 infoFr rfl (by decide) ⟨b, off, none⟩ len cap (gs.flatMap FrD.cells) (by rw [fcells_length, hgl]) hr.news (by
        intro u hu
        obtain ⟨f, _, hf⟩ := List.mem_flatMap.1 hu
        simp only [FrD.cells, List.mem_cons, List.not_mem_nil, or_false] at hf
        rcases hf with rfl | rfl | rfl <;> rfl) (by simp only [maxLen]; omega) (by omega) hbel hB hbase hgd s x ho2 hs hx (fun a' cap' w' h1 h2 h3 h4 => ?_)
      exact h a' cap' w' (ho.addAll hr.rows hap (by rw [hgl]; exact h1) h2 h4) h3 h4 ((Touch.refl _ _).grown h2 (fun k hk _ => hk))

theorem wp_appF' {w : World} {ops : Array Oper} {rest : List Oper} {o : Oper} {a : Act} {Q : Exit → Act → World → Prop} {base : Nat} {v : Value} {fs : List FrD} {ad : Option Addr} {len cap : Nat} {gs : List FrD} {B : Nat} {W : World}
    (ho : OwnF w base v fs) (hr : RowF w ad len cap gs) (hap : ∀ f ∈ gs, ∀ x, f.a = some x → f.ys.length = 0 ∨ v.ownBlock ≠ some x.block) (hlen : fs.length + len ≤ 1000000) (hbel : Below B W w) (hB : B ≤ base) (hbase : base ≤ w.heap.size)
    (hgd : Region.wanted o (yielded ops a.tmps) = true) (s x : Operand) (ho2 : o.op = .call { callee := .builtin .append, args := #[s, x], argTypes := #[31, 31] })
    (hs : a.eval s = v) (hx : a.eval x = .slice ad len cap) (n : Nat) (zs : List FrD) (hn : fs.length + len = n) (hz : fs ++ gs = zs)
    (h : ∀ a' cap' w', OwnF w' base (.slice a' n cap') zs → Below B W w' → (∀ k, (Value.slice a' n cap').ownBlock = some k → v.ownBlock = some k ∨ w.heap.size ≤ k) → Touch w w' (fun k => v.ownBlock = some k) → wpList Try.prog ops Q rest (a.put o.dst (.slice a' n cap')) w') : wpList Try.prog ops Q (o :: rest) a w := by
  subst hn hz
  exact wp_appF ho hr hap hlen hbel hB hbase hgd s x ho2 hs hx h

/-- The frames that the law takes and that may be put. -/
def goodF (f : FrD) : Bool := decide (f.ys.length ≤ 300 ∧ putE f.k f.v f.ys.length = 0)
def valsF (fs : List FrD) : List (Int × Int × List Nat) := ((fs.take 12).filter goodF).map FrD.val
theorem oneB_good (f : FrD) : oneB f = if goodF f then frmF f.k f.v f.ys else [] := by
  unfold oneB goodF putF
  by_cases h1 : f.ys.length ≤ 300
  · by_cases h2 : putE f.k f.v f.ys.length = 0 <;> simp [h1, h2]
  · simp [h1]
theorem manyB_puts (fs : List FrD) : manyB fs = putsF (valsF fs) := by
  unfold manyB valsF putsF
  induction fs.take 12 with
  | nil => rfl
  | cons f r ih =>
    rw [List.flatMap_cons, ih, oneB_good]
    by_cases h : goodF f
    · rw [if_pos h, List.filter_cons_of_pos h, List.map_cons, List.flatMap_cons]; rfl
    · rw [if_neg h, List.filter_cons_of_neg h, List.nil_append]
theorem good_ok (f : FrD) (h : goodF f = true) (hy : ∀ x ∈ f.ys, x < 256) : okF f.val := by
  unfold goodF at h
  have h := of_decide_eq_true h
  obtain ⟨h1, h2⟩ := h
  unfold putE at h2
  by_cases h3 : f.k < 0 ∨ 255 < f.k ∨ f.v < 0 ∨ 255 < f.v
  · rw [if_pos h3] at h2; omega
  · exact ⟨by show 0 ≤ f.k; omega, by show f.k ≤ 255; omega, by show 0 ≤ f.v; omega, by show f.v ≤ 255; omega, by show f.ys.length ≤ 4096; omega, hy⟩
theorem valsF_ok (fs : List FrD) (h : ∀ f ∈ fs, ∀ x ∈ f.ys, x < 256) : ∀ g ∈ valsF fs, okF g := by
  intro g hg
  obtain ⟨f, hf, rfl⟩ := List.mem_map.1 hg
  obtain ⟨h1, h2⟩ := List.mem_filter.1 hf
  exact good_ok f h2 (h f (List.mem_of_mem_take h1))
theorem valsF_length (fs : List FrD) : (valsF fs).length ≤ 12 := by
  unfold valsF
  have := List.length_filter_le goodF (fs.take 12)
  simp at this ⊢; omega
end Go.Proofs.Ytjmhfbfpndpkkaa
