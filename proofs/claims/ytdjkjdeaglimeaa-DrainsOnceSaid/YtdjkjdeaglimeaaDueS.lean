/- The queue's rows and places: what a store of an entry does; two rows change places. -/
import Derived.Test.YtdjkjdeaglimeaaDueB
import Derived.Deep.MidRow
set_option linter.unusedVariables false
set_option linter.unusedSimpArgs false
namespace Go.Proofs.Ytdjkjdeaglimeaa
open Go.RowKit Go.ChangeMaps Go.WideElems

theorem strKeyed : Maps.Keyed Try.prog 9 := Maps.string_keyed Try.underlying9
theorem strLaw : WideMaps.KeyLaw Try.prog 9 := WideMaps.string_law Try.underlying9
theorem keyQ {k : ByteArray} (h : k.size ≤ 281474976710656) : keyOf Try.prog 9 (.string k) = some (klB k) := WideMaps.keyOf_string_mk Try.underlying9 (by simp only [maxLen]; omega)
theorem elemQ (i : Int) (h0 : -9223372036854775808 ≤ i) (h1 : i ≤ 9223372036854775807) : plainElem (H := Unit) Try.prog 3 (.int .i64 i) = some (.lit (.int .i64 i), []) := plainElem_int Try.underlying3 (by simp [Lit.wf, IntKind.min, IntKind.max, IntKind.signed, IntKind.bits]; omega)
theorem zeroI (w : World) : (zeroValue 3).run Try.prog w = .ok (.int .i64 0) w := by kernel_rfl
theorem klB_inj {a b : ByteArray} (h : klB a = klB b) : a = b := by
  unfold klB at h
  simp only [Lit.string.injEq] at h
  exact ByteArray.ext (Array.ext' h)
/-- 'm[k] = v' in its two halves. -/
theorem entry_two {w : World} {mb n : Nat} {D : DataW Unit} (ho : w.ownsMap Try.prog 9 (plainElem Try.prog 3) mb n D) (hn : n ≤ 4000) (k : ByteArray) (hk : k.size ≤ 281474976710656) (i : Nat) (hi : i ≤ 4000) :
    ∃ v0 st w1 w2, (Instr.mapEntry 81 (.map (some mb)) (.string k)).run Try.prog w = .ok (.tuple #[v0, .int .i64 st]) w1 ∧ Touch w w1 (fun x => x = mb) ∧
      (Instr.entryStore 81 (.map (some mb)) (.int .i64 st) (.int .i64 i)).run Try.prog w1 = .ok () w2 ∧ Touch w1 w2 (fun x => x = mb) ∧ w2.ownsMap Try.prog 9 (plainElem Try.prog 3) mb (n + 1) (D.put (klB k) (.lit (.int .i64 i))) := by
  obtain ⟨es, clock, hb, F, hs, hD⟩ := ho
  obtain ⟨v0, st, es1, clock1, h1, _, h2⟩ := WideElems.entry_then_store strLaw Try.underlying81 (fun u => zeroI u) hb F (keyQ hk)
  have hb1 : (setBlock w mb (.map es1 clock1)).heap[mb]? = some (.map es1 clock1) := heap_setBlock_same hb _
  obtain ⟨es', clock', h3, h4⟩ := h2 _ (.int .i64 i) hb1
  obtain ⟨w2, r1, r2, r3⟩ := World.ownsMap.store (w := w) (b := mb) (n := n) (D := D) ⟨es, clock, hb, F, hs, hD⟩ strKeyed Try.underlying81 (by simp only [maxLen]; omega) (keyQ hk) (elemQ i (by omega) (by omega))
  have e2 : w2 = setBlock w mb (.map es' clock') := by
    rw [h4] at r1
    simp only [Result.ok.injEq, true_and] at r1
    exact r1.symm
  have e3 : setBlock (setBlock w mb (.map es1 clock1)) mb (.map es' clock') = setBlock w mb (.map es' clock') := by
    unfold setBlock
    simp [Array.setIfInBounds_setIfInBounds]
  rw [e3] at h3
  refine ⟨v0, st, _, _, h1, ⟨rfl, rfl, rfl, by simp [setBlock], fun x _ hx => heap_setBlock_other hb _ hx⟩, h3, ⟨rfl, rfl, rfl, by simp [setBlock], fun x _ hx => ?_⟩, e2 ▸ r2⟩
  rw [heap_setBlock_other hb _ hx, heap_setBlock_other hb _ hx]
theorem mem_gq {l : List QR} {r : QR} (h : r ∈ l) : ∃ i, i < l.length ∧ gq l i = r := by
  obtain ⟨i, hi, e⟩ := List.getElem_of_mem h
  exact ⟨i, hi, by rw [gq_get l i hi]; exact e⟩
theorem gq_mem (l : List QR) (i : Nat) (h : i < l.length) : gq l i ∈ l := by rw [gq_get l i h]; exact List.getElem_mem h
theorem nd_inj {l : List QR} (nd : (l.map QR.key).Nodup) {i j : Nat} (hi : i < l.length) (hj : j < l.length) (h : (gq l i).key = (gq l j).key) : i = j := by
  have hi' : i < (l.map QR.key).length := by simpa using hi
  have hj' : j < (l.map QR.key).length := by simpa using hj
  rw [gq_get l i hi, gq_get l j hj] at h
  exact (List.getElem_inj (h₀ := hi') (h₁ := hj') nd).1 (by simpa using h)
theorem has_key {D : DataW Unit} {l : List QR} (p : PlQ D l) {i : Nat} (hi : i < l.length) : Maps.has D (klQ (gq l i)) = true := by
  unfold klQ
  rw [p.has, List.any_eq_true]
  exact ⟨gq l i, gq_mem l i hi, by simp⟩
theorem any_perm {l l' : List QR} (h : l'.Perm l) (f : QR → Bool) : l'.any f = l.any f := by
  rw [Bool.eq_iff_iff, List.any_eq_true, List.any_eq_true]
  exact ⟨fun ⟨x, hx, hf⟩ => ⟨x, h.mem_iff.1 hx, hf⟩, fun ⟨x, hx, hf⟩ => ⟨x, h.mem_iff.2 hx, hf⟩⟩
theorem isKey (r : QR) : WideAt.IsKeyLit (klQ r) := trivial
theorem plQ_swap {D : DataW Unit} {l : List QR} (p : PlQ D l) (nd : (l.map QR.key).Nodup) {i j : Nat} (hi : i < l.length) (hj : j < l.length) :
    PlQ ((D.put (klQ (gq (swapQ l i j) i)) (.lit (.int .i64 i))).put (klQ (gq (swapQ l i j) j)) (.lit (.int .i64 j))) (swapQ l i j) := by
  have hp := perm_swap l i j hi hj
  have hln := swapQ_length l i j
  have gs := fun m => gq_swap l i j m hi hj
  have nd' : ((swapQ l i j).map QR.key).Nodup := (hp.map QR.key).nodup_iff.2 nd
  have hk : ∀ m, m < l.length → Maps.has D (klQ (gq (swapQ l i j) m)) = true := fun m hm => by
    unfold klQ
    rw [p.has, ← any_perm hp, List.any_eq_true]
    exact ⟨_, gq_mem _ m (by omega), by simp⟩
  have t1 := Maps.Tidy.put p.tidy (isKey (gq (swapQ l i j) i)) (.lit (.int .i64 i))
  have h1 : Maps.has (D.put (klQ (gq (swapQ l i j) i)) (.lit (.int .i64 i))) (klQ (gq (swapQ l i j) j)) = true := by
    by_cases e : klQ (gq (swapQ l i j) j) = klQ (gq (swapQ l i j) i)
    · rw [e]; exact Maps.has_put_same p.tidy.isMap (isKey _) _
    · rw [Maps.has_put_other e]; exact hk j hj
  refine ⟨Maps.Tidy.put t1 (isKey _) _, ?_, fun m hm => ?_, fun k => ?_⟩
  · rw [Maps.size_put t1, h1, if_pos rfl, Maps.size_put p.tidy, hk i hi, if_pos rfl, p.size, hln]
  · rw [hln] at hm
    by_cases e : m = j
    · subst e
      rw [Maps.atKey_put_same (Maps.Tidy.isMap t1) (isKey _)]
    · have n1 : klQ (gq (swapQ l i j) m) ≠ klQ (gq (swapQ l i j) j) := fun h => e (nd_inj nd' (by omega) (by omega) (klB_inj h))
      rw [Maps.atKey_put_other n1]
      by_cases e2 : m = i
      · subst e2
        rw [Maps.atKey_put_same p.tidy.isMap (isKey _)]
      · have n2 : klQ (gq (swapQ l i j) m) ≠ klQ (gq (swapQ l i j) i) := fun h => e2 (nd_inj nd' (by omega) (by omega) (klB_inj h))
        rw [Maps.atKey_put_other n2, gs m, if_neg e, if_neg e2]
        exact p.at_ m hm
  · rw [any_perm hp, ← p.has k]
    have : ∀ m, m < l.length → klB k = klQ (gq (swapQ l i j) m) → Maps.has D (klB k) = true := fun m hm e => by rw [e]; exact hk m hm
    by_cases e : klB k = klQ (gq (swapQ l i j) j)
    · rw [this j hj e, e]; exact Maps.has_put_same (Maps.Tidy.isMap t1) (isKey _) _
    · rw [Maps.has_put_other e]
      by_cases e2 : klB k = klQ (gq (swapQ l i j) i)
      · rw [this i hi e2, e2]; exact Maps.has_put_same p.tidy.isMap (isKey _) _
      · rw [Maps.has_put_other e2]
theorem two_one (s : ByteArray) (t : Int) : (#[Value.string s, Value.int .i64 t] : Array Value).all (·.oneCell') = true := by rw [← Array.all_toList]; rfl
/-- A whole row is stored. -/
theorem own_put {w : World} {base g n c : Nat} {T : TypeId} {l : List QR} (h : OwnS w base T 2 (.slice (some ⟨g, 0, none⟩) n c) (l.map qcl)) (i : Nat) (hi : i < l.length) (x : QR) :
    OwnS (w.setCells g (i * 2) (qcl x)) base T 2 (.slice (some ⟨g, 0, none⟩) n c) ((l.set i x).map qcl) := by
  have hi' : i < (l.map qcl).length := by simpa using hi
  have h1 := OwnS.stored h i hi' 0 (by omega) (.string x.key)
  rw [Nat.add_zero] at h1
  have hi2 : i < ((l.map qcl).set i ((l.map qcl)[i].set 0 (.string x.key))).length := by simpa using hi
  have h2 := OwnS.stored h1 i hi2 1 (by omega) (.int .i64 x.time)
  have e : ((l.map qcl).set i ((l.map qcl)[i].set 0 (.string x.key))).set i ((((l.map qcl).set i ((l.map qcl)[i].set 0 (.string x.key)))[i]).set 1 (.int .i64 x.time)) = (l.set i x).map qcl := by
    rw [List.set_set, List.map_set]
    simp [qcl]
  rw [e] at h2
  exact h2
theorem own_there {w : World} {base g n c : Nat} {T : TypeId} {l : List QR} (h : OwnS w base T 2 (.slice (some ⟨g, 0, none⟩) n c) (l.map qcl)) (i : Nat) (hi : i < l.length) : w.there g (i * 2) 2 := by
  obtain ⟨hl, hr, _⟩ := h.row'
  have hi' : i < (l.map qcl).length := by simpa using hi
  intro j hj
  refine ⟨?_, h.free _⟩
  have hq : (l.map qcl)[i] = qcl l[i] := by simp
  rcases (by omega : j = 0 ∨ j = 1) with rfl | rfl
  · have := RowS.cell hr i hi' 0 (.string l[i].key) (by rw [hq]; rfl)
    rw [Nat.zero_add] at this
    rw [this]; rfl
  · have := RowS.cell hr i hi' 1 (.int .i64 l[i].time) (by rw [hq]; rfl)
    rw [Nat.zero_add] at this
    rw [this]; rfl
theorem own_cell2 {w : World} {base g n c : Nat} {T : TypeId} {l : List QR} (h : OwnS w base T 2 (.slice (some ⟨g, 0, none⟩) n c) (l.map qcl)) (i : Nat) (hi : i < l.length) : w.cell? ⟨g, i * 2, none⟩ = some (.string (gq l i).key) ∧ w.cell? ⟨g, i * 2 + 1, none⟩ = some (.int .i64 (gq l i).time) := by
  obtain ⟨hl, hr, _⟩ := h.row'
  have hi' : i < (l.map qcl).length := by simpa using hi
  have e : (l.map qcl)[i] = qcl (gq l i) := by rw [List.getElem_map, gq_get l i hi]
  have h0 := RowS.cell hr i hi' 0 (.string (gq l i).key) (by rw [e]; rfl)
  have h1 := RowS.cell hr i hi' 1 (.int .i64 (gq l i).time) (by rw [e]; rfl)
  rw [Nat.zero_add, Nat.add_zero] at h0
  rw [Nat.zero_add] at h1
  exact ⟨h0, h1⟩
theorem touch_cells (w : World) (g : Nat) : ∀ (vs : List Value) (o : Nat), Touch w (w.setCells g o vs) (fun k => k = g) := by
  intro vs
  induction vs generalizing w with
  | nil => intro o; exact Touch.refl _ _
  | cons v r ih =>
    intro o
    exact ((Touch.refl w (fun k => k = g)).setCell ⟨g, o, none⟩ v (fun _ => rfl)).trans (ih _ (o + 1)) (fun _ _ h => h)
section
variable {P : Program} {ops : Array Oper} {Q : Exit → Act → World → Prop} {S : World → Prop} {N : Act → World → Prop}
/-- A struct is stored into the middle of a block. -/
theorem runN_storeM {i : Nat} {a : Act} {w : World} {o : Oper} (ho : ops[i]? = some o) (hd : o.dst = none) (hw : Region.wanted o (yielded ops a.tmps) = true) (ty : TypeId) (x y : Operand) (hop : o.op = .store ty x y)
    (g off : Nat) (cells : Array Value) (hx : a.eval x = .pointer (some ⟨g, off, none⟩)) (hy : a.eval y = .agg cells) (ht : w.there g off cells.size) (hi : (P.info? ty).map (·.size) = some cells.size) (h1 : cells.all (·.oneCell') = true)
    (h : S (w.setCells g off cells.toList) ∧ (S (w.setCells g off cells.toList) → N (a.put none undef) (w.setCells g off cells.toList))) : RunN P ops Q S i N a w := by
  refine ⟨o, ho, fun K' hK => ?_⟩
  rw [if_pos hw]
  unfold Oper.wp execOp
  simp only [hop, hx, hy, run_storeAt_mid w g off ty cells ht hi h1, Sem.run_bind, Sem.run_pure, Result.andThen_ok]
  have k3 := hK.out _ _ h.1 h.2
  rw [← hd] at k3
  exact k3
end
theorem gq_app (l : List QR) (r : QR) (m : Nat) (h : m < l.length) : gq (l ++ [r]) m = gq l m := by
  unfold gq; rw [List.getD_eq_getElem?_getD, List.getElem?_append_left h, List.getD_eq_getElem?_getD]
theorem gq_last (l : List QR) (r : QR) : gq (l ++ [r]) l.length = r := by
  unfold gq; rw [List.getD_eq_getElem?_getD, List.getElem?_append_right (Nat.le_refl _)]; simp
theorem plQ_nil : PlQ (.map []) [] := ⟨Maps.tidy_empty, rfl, fun i hi => by simp at hi, fun k => rfl⟩
theorem plQ_push {D : DataW Unit} {l : List QR} (p : PlQ D l) (r : QR) (hn : r.key ∉ l.map QR.key) : PlQ (D.put (klQ r) (.lit (.int .i64 l.length))) (l ++ [r]) := by
  have hf : Maps.has D (klQ r) = false := by
    unfold klQ; rw [p.has, Bool.eq_false_iff]; intro h
    rw [List.any_eq_true] at h
    obtain ⟨x, hx, e⟩ := h
    exact hn (List.mem_map.2 ⟨x, hx, of_decide_eq_true e⟩)
  refine ⟨Maps.Tidy.put p.tidy (isKey r) _, ?_, fun i hi => ?_, fun k => ?_⟩
  · rw [Maps.size_put p.tidy, hf, if_neg (by decide), p.size]; simp
  · by_cases e : i = l.length
    · subst e
      rw [gq_last, Maps.atKey_put_same p.tidy.isMap (isKey r)]
    · have hi' : i < l.length := by simp at hi; omega
      have hne : klQ (gq l i) ≠ klQ r := fun h => hn (List.mem_map.2 ⟨gq l i, gq_mem l i hi', klB_inj h⟩)
      rw [gq_app l r i hi', Maps.atKey_put_other hne]
      exact p.at_ i hi'
  · rw [List.any_append]
    by_cases e : klB k = klQ r
    · have ek : r.key = k := (klB_inj e).symm
      rw [e, Maps.has_put_same p.tidy.isMap (isKey r)]
      simp [ek]
    · have ek : ¬ r.key = k := fun h => e (by rw [← h]; rfl)
      rw [Maps.has_put_other e, p.has]
      simp [ek]
theorem plQ_pop {D : DataW Unit} {l : List QR} {r : QR} (p : PlQ D (l ++ [r])) (nd : ((l ++ [r]).map QR.key).Nodup) : PlQ (D.del (klQ r)) l := by
  have hr : r.key ∉ l.map QR.key := by
    rw [List.map_append, List.nodup_append] at nd
    intro h
    exact nd.2.2 _ h _ (by simp) rfl
  have hh : Maps.has D (klQ r) = true := by
    unfold klQ; rw [p.has, List.any_eq_true]; exact ⟨r, by simp, by simp⟩
  refine ⟨Maps.Tidy.del p.tidy _, ?_, fun i hi => ?_, fun k => ?_⟩
  · have := Maps.size_del (k := klQ r) p.tidy
    rw [hh, if_pos rfl, p.size] at this
    simp at this; omega
  · have hne : klQ (gq l i) ≠ klQ r := fun h => hr (List.mem_map.2 ⟨gq l i, gq_mem l i hi, klB_inj h⟩)
    rw [Maps.atKey_del_other hne]
    have := p.at_ i (by simp; omega)
    rwa [gq_app l r i hi] at this
  · by_cases e : klB k = klQ r
    · have ek : r.key = k := (klB_inj e).symm
      rw [e, Maps.has_del_same]
      symm
      rw [Bool.eq_false_iff]; intro h
      rw [List.any_eq_true] at h
      obtain ⟨x, hx, e2⟩ := h
      exact hr (List.mem_map.2 ⟨x, hx, by rw [of_decide_eq_true e2, ek]⟩)
    · have ek : ¬ r.key = k := fun h => e (by rw [← h]; rfl)
      rw [Maps.has_del_other e, p.has, List.any_append]
      simp [ek]
/-- The head of a row of the call's own is one. -/
theorem OwnS.front {w : World} {base g n c k : Nat} {E : TypeId} {L : List (List Value)} (h : OwnS w base E k (.slice (some ⟨g, 0, none⟩) n c) L) (m : Nat) (hm : m ≤ n) : OwnS w base E k (.slice (some ⟨g, 0, none⟩) m c) (L.take m) := by
  obtain ⟨hl, hr, _⟩ := h.row'
  obtain ⟨h1, h2⟩ := h.own
  have hl' : (L.take m).length = m := by simp; omega
  have he : ∀ l ∈ L.take m, l.length = k := fun l hl => h.each l (List.mem_of_mem_take hl)
  have hft : (L.take m).flatten = L.flatten.take (m * k) := by
    have hlen := flatten_length (L.take m) he
    rw [hl'] at hlen
    have e2 : L.flatten = (L.take m).flatten ++ (L.drop m).flatten := by rw [← List.flatten_append, List.take_append_drop]
    have e3 : ((L.take m).flatten ++ (L.drop m).flatten).take (m * k) = (L.take m).flatten := by
      rw [List.take_append_of_le_length (Nat.le_of_eq hlen.symm)]
      exact List.take_of_length_le (Nat.le_of_eq hlen)
    rw [← e2] at e3
    exact e3.symm
  refine ⟨⟨by rw [flatten_length _ he], ?_⟩, he⟩
  rcases h2 with ⟨h2, -⟩ | ⟨g2, cap2, cur, hv2, hb, hg, hc, hmx, hs, ht⟩
  · cases h2
  · simp only [Value.slice.injEq, Option.some.injEq, Addr.mk.injEq, and_true] at hv2
    obtain ⟨rfl, h3, rfl⟩ := hv2
    have hmk : m * k ≤ L.length * k := Nat.mul_le_mul_right k (by omega)
    refine .inr ⟨g, c, cur, by rw [hl'], hb, hg, by omega, hmx, hs, ?_⟩
    rw [hl', hft, ← ht, List.take_take]
    congr 1; omega
/-- What a step of the queue leaves. -/
def QStep (w w' : World) (b : Nat) (h : QH) (l' : List QR) : Prop :=
  ∃ h', QB w' b h' l' ∧ Touch w w' (footQ b h) ∧ ∀ k, footQ b h' k → footQ b h k ∨ w.heap.size ≤ k
theorem QStep.refl {w : World} {b : Nat} {h : QH} {l : List QR} (q : QB w b h l) : QStep w w b h l := ⟨h, q, Touch.refl _ _, fun _ hk => .inl hk⟩
theorem QStep.still {w w' : World} {b : Nat} {h : QH} {l : List QR} (q : QB w b h l) (t : Touch w w' (fun _ => False)) : QStep w w' b h l := ⟨h, q.still t, t.mono (fun _ _ h => h.elim), fun _ hk => .inl hk⟩
theorem QStep.trans {w w1 w2 : World} {b : Nat} {h h1 : QH} {l2 : List QR} (t : Touch w w1 (footQ b h)) (hf : ∀ k, footQ b h1 k → footQ b h k ∨ w.heap.size ≤ k) (s : QStep w1 w2 b h1 l2) : QStep w w2 b h l2 := by
  obtain ⟨h2, q2, t2, f2⟩ := s
  refine ⟨h2, q2, t.trans t2 (fun k hk hq => ?_), fun k hk => ?_⟩
  · rcases hf k hq with h | h
    · exact h
    · omega
  · rcases f2 k hk with h | h
    · exact hf k h
    · exact .inr (Nat.le_trans t.size h)
end Go.Proofs.Ytdjkjdeaglimeaa
