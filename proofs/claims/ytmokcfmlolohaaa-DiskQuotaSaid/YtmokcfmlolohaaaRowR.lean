/- append to a row of the call's own, of whatever elements. -/
import Derived.Test.YtmokcfmlolohaaaHeap
set_option linter.unusedVariables false
namespace Go.Proofs.Ytmokcfmlolohaaa
open Go.RowKit

theorem run_appR {P : Program} (w : World) (t ty E : TypeId) (ht : P.underlying t = some (.slice E)) (z : Value) (k bytes : Nat) (hin : (P.info? E).map (fun i => (i.zero, i.size, i.bytes)) = some (some z, k, bytes)) (hzs : z.cells.size = k) (hk : 0 < k)
    (base : Nat) (v : Value) (n : Nat) (xs : List Value) (hown : w.ownsRow base E k v n xs) (a : Addr) (m c : Nat) (news : List Value) (hl : news.length = m * k) (hnews : ∀ j u, news[j]? = some u → w.cell? (a.add j) = some u) (h1 : ∀ u ∈ news, u.oneCell' = true)
    (h63 : n + m ≤ maxLen) (hbytes : (n + m) * bytes ≤ 140737488355328) (hbase : base ≤ w.heap.size) :
    ∃ a' cap' w', (Builtin.append_ #[t, t] ty #[v, .slice (some a) m c]).run P w = .ok (.slice a' (n + m) cap') w' ∧ w'.ownsRow base E k (.slice a' (n + m) cap') (n + m) (xs ++ news) ∧ w.grownBy w' v.ownBlock ∧ (∀ b, (Value.slice a' (n + m) cap').ownBlock = some b → v.ownBlock = some b ∨ w.heap.size ≤ b) := by
  obtain ⟨i, hi, hz0, hz1, hz2⟩ := info_parts hin
  obtain ⟨v', w', r1, r2, r3, r4⟩ := run_append_own (P := P) w base t ty E i z k bytes ht hi hz0 hz1 hz2 hzs hk v n xs hown a m c news hl hnews h1 h63 hbytes hbase
  have hv' : ∃ a' cap', v' = .slice a' (n + m) cap' := by
    rcases r2.2 with ⟨h, h2⟩ | ⟨g, cap, cur, h, _⟩
    · exact ⟨none, 0, by rw [h, h2]⟩
    · exact ⟨_, cap, h⟩
  obtain ⟨a', cap', rfl⟩ := hv'
  refine ⟨a', cap', w', r1, r2, r3, ?_⟩
  rcases hown.2 with ⟨rfl, hn⟩ | ⟨g, cap, cur, rfl, hbg, hg, hnc, hcm, hcs, htake⟩
  · subst hn
    have hx : xs = [] := List.eq_nil_of_length_eq_zero (by simpa using hown.1)
    subst hx
    obtain ⟨v2, w2, s1, s2, _, _⟩ := run_append_own (P := P) w w.heap.size t ty E i z k bytes ht hi hz0 hz1 hz2 hzs hk (.slice none 0 0) 0 [] (World.ownsRow_nil w _ _ _) a m c news hl hnews h1 h63 hbytes (Nat.le_refl _)
    rw [r1] at s1
    simp only [Result.ok.injEq] at s1
    obtain ⟨rfl, rfl⟩ := s1
    intro b hb
    exact .inr (s2.lt b hb).1
  · by_cases hroom : n + m ≤ cap
    · obtain ⟨w2, s1, _, _⟩ := run_append_fits (P := P) w base t ty E i k ht hi hz1 g n cap xs hown a m c news hl hnews h1 hroom
      rw [r1] at s1
      simp only [Result.ok.injEq] at s1
      obtain ⟨h9, rfl⟩ := s1
      intro b hb
      rw [h9] at hb
      exact .inl hb
    · have holds : ∀ j u, xs[j]? = some u → w.cell? ((⟨g, 0, none⟩ : Addr).add j) = some u := hown.cells (g := g) rfl
      have s1 := run_append_grow (P := P) w t ty E i z ht hi hz0 ⟨g, 0, none⟩ n cap xs (by rw [hz1]; exact hown.1) holds a m c news (by rw [hz1]; exact hl) hnews (by omega) (by simp only [maxLen] at h63; omega) (growslice_fits (by omega) (by rw [hz2]; exact hbytes))
      rw [r1] at s1
      simp only [Result.ok.injEq] at s1
      obtain ⟨h9, rfl⟩ := s1
      intro b hb
      rw [h9] at hb
      simp [Value.ownBlock] at hb
      exact .inr (by omega)

theorem wp_appR {P : Program} {w : World} {ops : Array Oper} {rest : List Oper} {o : Oper} {a : Act} {Q : Exit → Act → World → Prop} {base k n : Nat} {v : Value} {E : TypeId} {xs : List Value}
    (hown : w.ownsRow base E k v n xs) (t : TypeId) (ht : P.underlying t = some (.slice E)) (z : Value) (bytes : Nat) (hin : (P.info? E).map (fun i => (i.zero, i.size, i.bytes)) = some (some z, k, bytes)) (hzs : z.cells.size = k) (hk : 0 < k)
    (a0 : Addr) (m c : Nat) (news : List Value) (hl : news.length = m * k) (hnews : ∀ j u, news[j]? = some u → w.cell? (a0.add j) = some u) (h1 : ∀ u ∈ news, u.oneCell' = true)
    (h63 : n + m ≤ maxLen) (hbytes : (n + m) * bytes ≤ 140737488355328) {B : Nat} {W : World} (hbel : Below B W w) (hB : B ≤ base) (hbase : base ≤ w.heap.size)
    (hgd : Region.wanted o (yielded ops a.tmps) = true) (s x : Operand) (ho : o.op = .call { callee := .builtin .append, args := #[s, x], argTypes := #[t, t] })
    (hs : a.eval s = v) (hx : a.eval x = .slice (some a0) m c)
    (h : ∀ a' cap' w', w'.ownsRow base E k (.slice a' (n + m) cap') (n + m) (xs ++ news) → w.grownBy w' v.ownBlock → Below B W w' → (∀ b, (Value.slice a' (n + m) cap').ownBlock = some b → v.ownBlock = some b ∨ w.heap.size ≤ b) → wpList P ops Q rest (a.put o.dst (.slice a' (n + m) cap')) w') : wpList P ops Q (o :: rest) a w := by
  refine BigFrame.wpList_want hgd fun K hK => ?_
  obtain ⟨a', cap', w', hrun, h1', h2, hpl⟩ := run_appR (P := P) w t o.type E ht z k bytes hin hzs hk base v n xs hown a0 m c news hl hnews h1 h63 hbytes hbase
  unfold Oper.wp execOp
  simp only [ho, resolve, invoke, builtin, Sem.run_bind, Sem.run_pure, Result.andThen_ok, List.map_toArray, List.map_cons, List.map_nil, hs, hx, hrun]
  exact hK _ _ (h a' cap' w' h1' h2 (hbel.grown h2 (by omega) (fun b hb => Nat.le_trans hB (hown.lt b hb).1)) hpl)
/-- The cells of a block that was just laid, as append reads them. -/
theorem news_of {w : World} {g : Nat} {cs : Array Value} {t : TypeId} {fr : Nat × Nat} (h : w.heap[g]? = some (.cells cs t fr)) : ∀ j u, cs.toList[j]? = some u → w.cell? ((⟨g, 0, none⟩ : Addr).add j) = some u := by
  intro j u hu
  have ea : (⟨g, 0, none⟩ : Addr).add j = ⟨g, j, none⟩ := by simp only [Addr.add]; split <;> simp_all
  rw [ea, cell_of_cells h j]
  simpa using hu
end Go.Proofs.Ytmokcfmlolohaaa
