/- Rows of structs of k cells: read, of the call's own; whatever their cells are. -/
import Derived.Test.YtmokcfmlolohaaaRowR
set_option linter.unusedVariables false
namespace Go.Proofs.Ytmokcfmlolohaaa
open Go.RowKit

/-- A slice whose elements have these cells. -/
structure RowS (w : World) (a : Option Addr) (len cap k : Nat) (L : List (List Value)) : Prop where
  hlen : L.length = len
  hcap : len ≤ cap
  hmax : cap ≤ 9223372036854775807
  each : ∀ l ∈ L, l.length = k
  at_ : len = 0 ∨ ∃ b off, a = some ⟨b, off, none⟩ ∧ b < w.heap.size ∧ ∀ i (h : i < L.length) j u, L[i][j]? = some u → w.cell? ⟨b, off + i * k + j, none⟩ = some u
theorem RowS.nil (w : World) (a : Option Addr) (cap k : Nat) (h : cap ≤ 9223372036854775807) : RowS w a 0 cap k [] := ⟨rfl, Nat.zero_le _, h, by simp, .inl rfl⟩
theorem RowS.touch {w w' : World} {a : Option Addr} {len cap k : Nat} {L : List (List Value)} {S : Nat → Prop} (h : RowS w a len cap k L) (t : Touch w w' S) (h1 : ∀ x, a = some x → len = 0 ∨ ¬ S x.block) : RowS w' a len cap k L := by
  refine ⟨h.hlen, h.hcap, h.hmax, h.each, ?_⟩
  rcases h.at_ with h0 | ⟨b, off, ha, hlt, hc⟩
  · exact .inl h0
  · by_cases h0 : len = 0
    · exact .inl h0
    · rcases h1 _ ha with h9 | h9
      · exact .inl h9
      · exact .inr ⟨b, off, ha, Nat.lt_of_lt_of_le hlt t.size, fun i hi j u hu => (t.cell (p := ⟨b, off + i * k + j, none⟩) hlt h9).trans (hc i hi j u hu)⟩
theorem RowS.still {w w' : World} {a : Option Addr} {len cap k : Nat} {L : List (List Value)} (h : RowS w a len cap k L) (t : Touch w w' (fun _ => False)) : RowS w' a len cap k L := h.touch t (fun _ _ => .inr (fun h => h))
theorem RowS.lt {w : World} {a : Option Addr} {len cap k : Nat} {L : List (List Value)} (h : RowS w a len cap k L) : ∀ x, a = some x → len = 0 ∨ x.block < w.heap.size := by
  intro x hx
  rcases h.at_ with h0 | ⟨b, off, ha, hlt, _⟩
  · exact .inl h0
  · rw [ha] at hx; cases hx; exact .inr hlt
theorem RowS.take {w : World} {a : Option Addr} {len cap k : Nat} {L : List (List Value)} (h : RowS w a len cap k L) (n : Nat) (hn : n ≤ len) : RowS w a n cap k (L.take n) := by
  obtain ⟨h1, h2, h3, h4, h5⟩ := h
  refine ⟨by simp; omega, by omega, h3, fun l hl => h4 l (List.mem_of_mem_take hl), ?_⟩
  rcases h5 with h0 | ⟨b, off, ha, hlt, hc⟩
  · exact .inl (by omega)
  · refine .inr ⟨b, off, ha, hlt, fun i hi j u hu => ?_⟩
    simp at hi
    rw [List.getElem_take] at hu
    exact hc i (by omega) j u hu
theorem RowS.some {w : World} {a : Option Addr} {len cap k : Nat} {L : List (List Value)} (h : RowS w a len cap k L) (h0 : 0 < len) : ∃ b off, a = .some ⟨b, off, none⟩ := by
  rcases h.at_ with h5 | ⟨b, off, ha, _⟩
  · omega
  · exact ⟨b, off, ha⟩
theorem RowS.cell {w : World} {b off len cap k : Nat} {L : List (List Value)} (h : RowS w (.some ⟨b, off, none⟩) len cap k L) (i : Nat) (hi : i < L.length) (j : Nat) (u : Value) (hu : L[i][j]? = Option.some u) : w.cell? ⟨b, off + i * k + j, none⟩ = Option.some u := by
  rcases h.at_ with h5 | ⟨b', off', ha, _, hc⟩
  · have := h.hlen; omega
  · simp only [Option.some.injEq, Addr.mk.injEq] at ha
    obtain ⟨rfl, rfl, _⟩ := ha
    exact hc i hi j u hu

theorem flatten_length {k : Nat} : ∀ (L : List (List Value)), (∀ l ∈ L, l.length = k) → L.flatten.length = L.length * k
  | [], _ => by simp
  | l :: r, h => by
    have := flatten_length r (fun m hm => h m (List.mem_cons_of_mem _ hm))
    have h1 := h l (List.mem_cons_self ..)
    simp only [List.flatten_cons, List.length_append, this, h1, List.length_cons, Nat.add_mul]; omega
theorem flatten_get {k : Nat} : ∀ (L : List (List Value)), (∀ l ∈ L, l.length = k) → ∀ i (h : i < L.length) j u, L[i][j]? = some u → L.flatten[i * k + j]? = some u
  | [], _, i, h, _, _, _ => by simp at h
  | l :: r, he, 0, h, j, u, hu => by
    have h1 := he l (List.mem_cons_self ..)
    simp at hu
    have hj := (List.getElem?_eq_some_iff.1 hu).1
    simp only [List.flatten_cons, Nat.zero_mul, Nat.zero_add]
    rw [List.getElem?_append_left hj]; exact hu
  | l :: r, he, i + 1, h, j, u, hu => by
    have h1 := he l (List.mem_cons_self ..)
    have ih := flatten_get r (fun m hm => he m (List.mem_cons_of_mem _ hm)) i (by simpa using h) j u (by simpa using hu)
    simp only [List.flatten_cons]
    rw [List.getElem?_append_right (by rw [h1, Nat.add_mul]; omega)]
    rw [show (i + 1) * k + j - l.length = i * k + j from by rw [h1, Nat.add_mul]; omega]
    exact ih
theorem flatten_set {k : Nat} : ∀ (L : List (List Value)), (∀ l ∈ L, l.length = k) → ∀ i (h : i < L.length) j (hj : j < k) u, L.flatten.set (i * k + j) u = (L.set i (L[i].set j u)).flatten
  | [], _, i, h, _, _, _ => by simp at h
  | l :: r, he, 0, h, j, hj, u => by
    have h1 := he l (List.mem_cons_self ..)
    simp only [List.flatten_cons, Nat.zero_mul, Nat.zero_add, List.set_cons_zero, List.getElem_cons_zero]
    rw [List.set_append_left _ _ (by omega)]
  | l :: r, he, i + 1, h, j, hj, u => by
    have h1 := he l (List.mem_cons_self ..)
    have ih := flatten_set r (fun m hm => he m (List.mem_cons_of_mem _ hm)) i (by simpa using h) j hj u
    simp only [List.flatten_cons, List.set_cons_succ, List.getElem_cons_succ]
    rw [List.set_append_right _ _ (by rw [h1, Nat.add_mul]; omega)]
    rw [show (i + 1) * k + j - l.length = i * k + j from by rw [h1, Nat.add_mul]; omega, ih]

/-- A row of structs of the call's own. -/
structure OwnS (w : World) (base : Nat) (E : TypeId) (k : Nat) (v : Value) (L : List (List Value)) : Prop where
  own : w.ownsRow base E k v L.length L.flatten
  each : ∀ l ∈ L, l.length = k
section
variable {w w' : World} {base k : Nat} {E : TypeId} {v : Value} {L : List (List Value)}
theorem OwnS.nil (w : World) (base : Nat) (E : TypeId) (k : Nat) : OwnS w base E k (.slice none 0 0) [] := ⟨World.ownsRow_nil w _ _ _, by simp⟩
theorem OwnS.touch {S : Nat → Prop} (h : OwnS w base E k v L) (t : Touch w w' S) (h1 : ∀ x, v.ownBlock = some x → ¬ S x) : OwnS w' base E k v L := ⟨ownsRow_touch h.own t h1, h.each⟩
theorem OwnS.still (h : OwnS w base E k v L) (t : Touch w w' (fun _ => False)) : OwnS w' base E k v L := h.touch t (fun _ _ h => h)
theorem OwnS.row (h : OwnS w base E k v L) : ∃ a cap, v = .slice a L.length cap ∧ RowS w a L.length cap k L ∧ (∀ x, a = some x → base ≤ x.block ∧ x.block < w.heap.size) := by
  rcases h.own.2 with ⟨rfl, hn⟩ | ⟨g, cap, cur, rfl, hb, hg, hnc, hcm, hcs, htake⟩
  · have : L = [] := List.length_eq_zero_iff.1 hn
    subst this
    exact ⟨none, 0, rfl, RowS.nil _ _ _ _ (by omega), fun x hx => by cases hx⟩
  · have hlt : g < w.heap.size := (Array.getElem?_eq_some_iff.1 hg).1
    refine ⟨_, cap, rfl, ⟨rfl, hnc, by simpa [maxLen] using hcm, h.each, .inr ⟨g, 0, rfl, hlt, fun i hi j u hu => ?_⟩⟩, fun x hx => by cases hx; exact ⟨hb, hlt⟩⟩
    have := h.own.cells (g := g) rfl (i * k + j) u (flatten_get L h.each i hi j u hu)
    have ea : (⟨g, 0, none⟩ : Addr).add (i * k + j) = ⟨g, i * k + j, none⟩ := by simp only [Addr.add]; split <;> simp_all
    rw [ea] at this
    rw [Nat.zero_add]; exact this
theorem OwnS.row' {a : Option Addr} {n c : Nat} (h : OwnS w base E k (.slice a n c) L) : L.length = n ∧ RowS w a n c k L ∧ (∀ x, a = some x → base ≤ x.block ∧ x.block < w.heap.size) := by
  obtain ⟨a', c', hv, hr, hb⟩ := h.row
  simp only [Value.slice.injEq] at hv
  obtain ⟨rfl, rfl, rfl⟩ := hv
  exact ⟨rfl, hr, hb⟩
theorem OwnS.rebase {base' : Nat} (h : OwnS w base E k v L) (hb : ∀ x, v.ownBlock = some x → base' ≤ x) : OwnS w base' E k v L := by
  refine ⟨⟨h.own.1, ?_⟩, h.each⟩
  rcases h.own.2 with h2 | ⟨g, cap, cur, rfl, _, rest⟩
  · exact .inl h2
  · exact .inr ⟨g, cap, cur, rfl, hb g rfl, rest⟩
/-- A cell of it is stored. -/
theorem OwnS.stored {g n cap : Nat} (h : OwnS w base E k (.slice (some ⟨g, 0, none⟩) n cap) L) (i : Nat) (hi : i < L.length) (j : Nat) (hj : j < k) (u : Value) :
    OwnS (w.setCell ⟨g, i * k + j, none⟩ u) base E k (.slice (some ⟨g, 0, none⟩) n cap) (L.set i (L[i].set j u)) := by
  obtain ⟨hn, _, _⟩ := h.row'
  subst hn
  have := (World.ownsRow.stored h.own (i * k + j) u).1
  refine ⟨?_, fun l hl => ?_⟩
  · rw [flatten_set L h.each i hi j hj u] at this
    rw [List.length_set]; exact this
  · rcases List.mem_or_eq_of_mem_set hl with h1 | h1
    · exact h.each l h1
    · rw [h1, List.length_set]; exact h.each _ (List.getElem_mem hi)
theorem OwnS.free {g n cap : Nat} (h : OwnS w base E k (.slice (some ⟨g, 0, none⟩) n cap) L) (j : Nat) : w.frozen? ⟨g, j, none⟩ = false := by
  obtain ⟨hn, _, _⟩ := h.row'
  subst hn; exact World.ownsRow.frozenAt h.own j
/-- Rows come behind it. -/
theorem OwnS.add {v' : Value} {L2 : List (List Value)} (h : OwnS w base E k v L) (he : ∀ l ∈ L2, l.length = k) (ho : w'.ownsRow base E k v' (L.length + L2.length) (L.flatten ++ L2.flatten)) : OwnS w' base E k v' (L ++ L2) := by
  refine ⟨by simpa using ho, fun l hl => ?_⟩
  rcases List.mem_append.1 hl with h1 | h1
  · exact h.each l h1
  · exact he l h1
end
/-- A block that was just laid is a row of the call's own. -/
theorem OwnS.lit (w : World) (base : Nat) (hb : base ≤ w.heap.size) (E : TypeId) (k n : Nat) (L : List (List Value)) (cs : Array Value) (hcs : cs.toList = L.flatten) (hn : L.length = n) (he : ∀ l ∈ L, l.length = k) (hs : n ≤ 281474976710656) :
    OwnS (w.alloc (.cells cs E)) base E k (.slice (some ⟨w.heap.size, 0, none⟩) n n) L := by
  subst hn
  have hl := flatten_length L he
  have hsz : cs.size = L.length * k := by rw [← hl, ← hcs]; simp
  have h := World.ownsRow_lit (base := base) (e := E) (size := k) w cs L.length hb (by simp only [maxLen]; omega) hsz
  rw [hcs] at h
  exact ⟨h, he⟩

theorem appNone {P : Program} (w : World) (t ty E : TypeId) (ht : P.underlying t = some (.slice E)) (k : Nat) (hin : (P.info? E).map (·.size) = some k) (base : Nat) (v : Value) (n : Nat) (xs : List Value) (hown : w.ownsRow base E k v n xs) (c : Nat) :
    (Builtin.append_ #[t, t] ty #[v, .slice none 0 c]).run P w = .ok v w := by
  obtain ⟨i, hi, hk⟩ : ∃ i, P.info? E = some i ∧ i.size = k := by
    cases h : P.info? E with
    | none => rw [h] at hin; cases hin
    | some i => rw [h] at hin; exact ⟨i, rfl, by simpa using hin⟩
  rcases hown.2 with ⟨rfl, hn⟩ | ⟨g, cap', cur, rfl, hb, hg, hnc, hcm, hcs, htake⟩
  · simp [Builtin.append_, run_underlying ht, sizeOf, typeInfo, hi, Builtin.lenOf, Builtin.firstCells]
  · simp [Builtin.append_, run_underlying ht, sizeOf, typeInfo, hi, Builtin.lenOf, Builtin.firstCells, hnc, storeCells]
theorem RowS.news {w : World} {b off len cap k : Nat} {L : List (List Value)} (h : RowS w (Option.some ⟨b, off, none⟩) len cap k L) : ∀ j u, L.flatten[j]? = Option.some u → w.cell? ((⟨b, off, none⟩ : Addr).add j) = Option.some u := by
  intro j u hu
  have hl := flatten_length L h.each
  have hj : j < L.length * k := by rw [← hl]; exact (List.getElem?_eq_some_iff.1 hu).1
  have hk : 0 < k := by rcases Nat.eq_zero_or_pos k with h0 | h0; (subst h0; omega); exact h0
  have hi : j / k < L.length := Nat.div_lt_of_lt_mul (by rw [Nat.mul_comm]; exact hj)
  have hm : j % k < k := Nat.mod_lt _ hk
  have hle : (L[j / k]).length = k := h.each _ (List.getElem_mem hi)
  have e : j / k * k + j % k = j := by rw [Nat.mul_comm]; exact Nat.div_add_mod j k
  have h1 := flatten_get L h.each (j / k) hi (j % k) _ (List.getElem?_eq_getElem (by omega))
  rw [e, hu] at h1
  have h2 := h.cell (j / k) hi (j % k) _ (List.getElem?_eq_getElem (by omega))
  have ea : (⟨b, off, none⟩ : Addr).add j = ⟨b, off + j, none⟩ := by simp only [Addr.add]; split <;> simp_all
  rw [ea]
  rw [Nat.add_assoc, e] at h2
  rw [h2, h1]
/-- append of a row of structs to one of the call's own. -/
theorem run_appS {P : Program} (w : World) (t ty E : TypeId) (ht : P.underlying t = some (.slice E)) (z : Value) (k bytes : Nat) (hin : (P.info? E).map (fun i => (i.zero, i.size, i.bytes)) = some (some z, k, bytes)) (hzs : z.cells.size = k) (hk : 0 < k)
    (base : Nat) (v : Value) (L : List (List Value)) (ho : OwnS w base E k v L) (ad : Option Addr) (len cap : Nat) (L2 : List (List Value)) (hr : RowS w ad len cap k L2) (h1 : ∀ l ∈ L2, ∀ u ∈ l, u.oneCell' = true)
    (hlen : L.length + len ≤ maxLen) (hbytes : (L.length + len) * bytes ≤ 140737488355328) (hbase : base ≤ w.heap.size) :
    ∃ a' cap' w', (Builtin.append_ #[t, t] ty #[v, .slice ad len cap]).run P w = .ok (.slice a' (L.length + len) cap') w' ∧ OwnS w' base E k (.slice a' (L.length + len) cap') (L ++ L2) ∧ w.grownBy w' v.ownBlock ∧ (∀ b, (Value.slice a' (L.length + len) cap').ownBlock = some b → v.ownBlock = some b ∨ w.heap.size ≤ b) := by
  have hgl := hr.hlen
  have hsz : (P.info? E).map (·.size) = some k := by
    cases h : P.info? E with
    | none => rw [h] at hin; cases hin
    | some i => rw [h] at hin; simp only [Option.map_some, Option.some.injEq, Prod.mk.injEq] at hin ⊢; exact hin.2.1
  have h2 : ∀ u ∈ L2.flatten, u.oneCell' = true := fun u hu => by
    obtain ⟨l, hl, hul⟩ := List.mem_flatten.1 hu
    exact h1 l hl u hul
  cases ad with
  | none =>
    have h0 : len = 0 := by
      rcases hr.at_ with h0 | ⟨b, off, ha, _⟩
      · exact h0
      · cases ha
    subst h0
    have hg : L2 = [] := List.length_eq_zero_iff.1 hgl
    subst hg
    obtain ⟨a0, c0, hv, _, _⟩ := ho.row
    have := appNone w t ty E ht k hsz base v _ _ ho.own cap
    subst hv
    exact ⟨a0, c0, w, this, by simpa using ho, ⟨rfl, rfl, rfl, Nat.le_refl _, fun _ _ _ => rfl⟩, fun b hb => .inl hb⟩
  | some ad =>
    by_cases h0 : len = 0
    · subst h0
      have hg : L2 = [] := List.length_eq_zero_iff.1 hgl
      subst hg
      obtain ⟨a', c', w', r1, r2, r3, r4⟩ := run_appR (P := P) w t ty E ht z k bytes hin hzs hk base v _ _ ho.own ad 0 cap [] (by simp) (by simp) (by simp) hlen hbytes hbase
      exact ⟨a', c', w', r1, ho.add (L2 := []) (by simp) (by simpa using r2), r3, r4⟩
    · obtain ⟨b, off, hb⟩ := hr.some (by omega)
      simp only [Option.some.injEq] at hb
      subst hb
      obtain ⟨a', c', w', r1, r2, r3, r4⟩ := run_appR (P := P) w t ty E ht z k bytes hin hzs hk base v _ _ ho.own ⟨b, off, none⟩ len cap L2.flatten (by rw [flatten_length L2 hr.each, hgl]) hr.news h2 hlen hbytes hbase
      exact ⟨a', c', w', r1, ho.add hr.each (by rw [hgl]; exact r2), r3, r4⟩
theorem wp_appS {P : Program} {w : World} {ops : Array Oper} {rest : List Oper} {o : Oper} {a : Act} {Q : Exit → Act → World → Prop} {base k : Nat} {v : Value} {E : TypeId} {L : List (List Value)} {ad : Option Addr} {len cap : Nat} {L2 : List (List Value)} {B : Nat} {W : World}
    (ho : OwnS w base E k v L) (hr : RowS w ad len cap k L2) (h1 : ∀ l ∈ L2, ∀ u ∈ l, u.oneCell' = true) (t : TypeId) (ht : P.underlying t = some (.slice E)) (z : Value) (bytes : Nat) (hin : (P.info? E).map (fun i => (i.zero, i.size, i.bytes)) = some (some z, k, bytes)) (hzs : z.cells.size = k) (hk : 0 < k)
    (hlen : L.length + len ≤ maxLen) (hbytes : (L.length + len) * bytes ≤ 140737488355328) (hbel : Below B W w) (hB : B ≤ base) (hbase : base ≤ w.heap.size)
    (hgd : Region.wanted o (yielded ops a.tmps) = true) (s x : Operand) (ho2 : o.op = .call { callee := .builtin .append, args := #[s, x], argTypes := #[t, t] })
    (hs : a.eval s = v) (hx : a.eval x = .slice ad len cap) (n : Nat) (Z : List (List Value)) (hn : L.length + len = n) (hz : L ++ L2 = Z)
    (h : ∀ a' cap' w', OwnS w' base E k (.slice a' n cap') Z → w.grownBy w' v.ownBlock → Below B W w' → (∀ b, (Value.slice a' n cap').ownBlock = some b → v.ownBlock = some b ∨ w.heap.size ≤ b) → wpList P ops Q rest (a.put o.dst (.slice a' n cap')) w') : wpList P ops Q (o :: rest) a w := by
  subst hn hz
  refine BigFrame.wpList_want hgd fun K hK => ?_
  obtain ⟨a', cap', w', hrun, h1', h2, hpl⟩ := run_appS (P := P) w t o.type E ht z k bytes hin hzs hk base v L ho ad len cap L2 hr h1 hlen hbytes hbase
  unfold Oper.wp execOp
  simp only [ho2, resolve, invoke, builtin, Sem.run_bind, Sem.run_pure, Result.andThen_ok, List.map_toArray, List.map_cons, List.map_nil, hs, hx, hrun]
  exact hK _ _ (h a' cap' w' h1' h2 (hbel.grown h2 (by omega) (fun b hb => Nat.le_trans hB (ho.own.lt b hb).1)) hpl)
end Go.Proofs.Ytmokcfmlolohaaa
