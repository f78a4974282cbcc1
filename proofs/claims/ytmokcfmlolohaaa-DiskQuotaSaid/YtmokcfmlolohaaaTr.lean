/- What came in, read by its type, part by part: numbers, texts, bytes, structs, slices. -/
import Derived.Test.YtmokcfmlolohaaaArgs2
import Derived.Test.YtmokcfmlolohaaaOctArgs
set_option linter.unusedVariables false
namespace Go.Proofs.Ytmokcfmlolohaaa
open Go.ChangeShapes Go.WideShapes Go.ChangeAt Go.RowKit

/-- These cells read as d, and each part of it is within the reach. -/
structure Tr {H : Type} (enc : TypeId × Value → H) (P : Program) (W : World) (T : TypeId) (cs : List Value) (d : DataW H) : Prop where
  trod : ∃ fuel ps, DataW.trod enc P W 0 (fun _ => true) true fuel T cs = some (d, ps)
  sized : ∀ n ∈ d.weights P T, n ≤ reachBytes

section
variable {H : Type} {enc : TypeId × Value → H} {P : Program} {W : World} {base : Nat} {T : TypeId} {v : Value} {cs : List Value} {d : DataW H} {p : List MemPlace}

theorem ArgIn.tr (h : ArgIn enc P W base T v d p) : Tr enc P W T v.cells.toList d := by
  obtain ⟨fuel, hf⟩ := h.trod
  exact ⟨⟨fuel, p, hf⟩, h.sized⟩

theorem Tr.int {k : IntKind} (h : Tr enc P W T cs d) (ht : P.underlying T = some (.int k)) : ∃ x : Int, cs = [.int k x] ∧ (Lit.int k x).wf = true ∧ d = .lit (.int k x) := by
  obtain ⟨⟨fuel, ps, h1⟩, _⟩ := h
  obtain ⟨n, h3, h4, hw⟩ := DataW.trod_int ht h1
  simp only [Prod.mk.injEq] at h4
  exact ⟨n, h3, hw, h4.1⟩
theorem Tr.i64 (h : Tr enc P W T cs d) (ht : P.underlying T = some (.int .i64)) : ∃ x : Int, cs = [.int .i64 x] ∧ -9223372036854775808 ≤ x ∧ x ≤ 9223372036854775807 ∧ d = .lit (.int .i64 x) := by
  obtain ⟨x, h1, wx, h2⟩ := h.int ht
  have := bounds_i64 wx
  exact ⟨x, h1, this.1, this.2, h2⟩
theorem Tr.u32 (h : Tr enc P W T cs d) (ht : P.underlying T = some (.int .u32)) : ∃ x : Int, cs = [.int .u32 x] ∧ 0 ≤ x ∧ x ≤ 4294967295 ∧ d = .lit (.int .u32 x) := by
  obtain ⟨x, h1, wx, h2⟩ := h.int ht
  have := bounds_u32 wx
  exact ⟨x, h1, this.1, this.2, h2⟩
theorem Tr.bool (h : Tr enc P W T cs d) (ht : P.underlying T = some .bool) : ∃ x : Bool, cs = [.bool x] ∧ d = .lit (.bool x) := by
  obtain ⟨⟨fuel, ps, h1⟩, _⟩ := h
  obtain ⟨b, h3, h4⟩ := DataW.trod_bool ht h1
  simp only [Prod.mk.injEq] at h4
  exact ⟨b, h3, h4.1⟩
theorem Tr.string (h : Tr enc P W T cs d) (ht : P.underlying T = some .string) : ∃ s : ByteArray, cs = [.string s] ∧ d = .lit (.string s.data.toList) ∧ s.size ≤ reachBytes := by
  obtain ⟨⟨fuel, ps, h1⟩, hz⟩ := h
  obtain ⟨s, h3, h4, h5⟩ := DataW.trod_string ht h1
  simp only [Prod.mk.injEq] at h4
  refine ⟨s, h3, h4.1, hz _ ?_⟩
  rw [h4.1]
  simp [DataW.weights]

/-- A slice of bytes: a row of bytes; its bulk. -/
theorem Tr.bytes {E : TypeId} (h : Tr enc P W T cs d) (ht : P.underlying T = some (.slice E)) (he : P.underlying E = some (.int .u8)) (hc : P.cellsOf E = 1) (hb : P.bytesOf E = 1) :
    ∃ (a : Option Addr) (len cap : Nat) (xs : List Nat), cs = [.slice a len cap] ∧ RowB W a len cap xs ∧ cap ≤ 140737488351232 ∧ len + 1 ≤ Rows.uptoBulk d := by
  obtain ⟨⟨fuel, ps, hf⟩, hz⟩ := h
  rcases open_ints ht he hc hf with ⟨hcs, hd⟩ | ⟨x, l, c, zs, hcs, _, hl, hm, hzz, hd, hcell, hwz⟩
  · exact ⟨_, _, _, [], hcs, RowB.nil _ _ _ (by omega), by omega, by have := bulk_one d; omega⟩
  · simp only [Prod.mk.injEq] at hd
    obtain ⟨hd, _⟩ := hd
    simp only [if_true] at hzz
    have hs := hz ((lits (H := H) .u8 (zs.take l)).length + (lits (H := H) .u8 (zs.drop l)).length * 1) (by
      rw [hd]; simp [DataW.weights, ht, hb])
    rw [reach_num] at hs
    simp [lits] at hs
    have hbk : l + 1 ≤ Rows.uptoBulk d := by
      rw [hd]
      have h1 := bulk_length (H := H) (lits .u8 (zs.take l))
      simp only [Rows.uptoBulk]
      simp only [lits, List.length_map, List.length_take] at h1
      simp only [lits]
      omega
    refine ⟨_, l, c, (zs.take l).map Int.toNat, hcs, ⟨by simp; omega, hl, by omega, by omega, ?_, ?_⟩, by omega, hbk⟩
    · intro n hn
      obtain ⟨z, hz1, rfl⟩ := List.mem_map.1 hn
      have := bounds_u8 (hwz z (List.mem_of_mem_take hz1))
      omega
    · by_cases h0 : l = 0
      · exact .inl h0
      · right
        obtain ⟨b, off, spot⟩ := x
        have hc0 := hcell 0 (by omega)
        have hspot : spot = none := by simpa [Addr.add] using World.cell?_spot hc0
        subst hspot
        refine ⟨b, off, rfl, fun i hi => ?_⟩
        simp at hi
        have := hcell i (by omega)
        have ea : (⟨b, off, none⟩ : Addr).add i = ⟨b, off + i, none⟩ := by simp only [Addr.add]; split <;> simp_all
        rw [ea] at this
        rw [List.getElem_map, List.getElem_take]
        have hb := bounds_u8 (hwz zs[i] (List.getElem_mem (by omega)))
        have e : zs.getD i 0 = zs[i] := by rw [List.getD_eq_getElem?_getD, List.getElem?_eq_getElem (by omega)]; rfl
        rw [e] at this
        rw [Int.toNat_of_nonneg hb.1]
        simpa using this

theorem weightsEach_mem {P : Program} : ∀ (ts : List TypeId) (ds : List (DataW H)) (i : Nat) (t : TypeId) (e : DataW H) (n : Nat), ts[i]? = some t → ds[i]? = some e → n ∈ e.weights P t → n ∈ DataW.weightsEach P ts ds
  | [], _, i, t, e, n, h, _, _ => by simp at h
  | _ :: _, [], i, t, e, n, _, h, _ => by simp at h
  | t0 :: ts, d0 :: ds, 0, t, e, n, h1, h2, h3 => by
    simp at h1 h2; subst h1; subst h2
    simp only [DataW.weightsEach, List.mem_append]; exact .inl h3
  | t0 :: ts, d0 :: ds, i + 1, t, e, n, h1, h2, h3 => by
    simp at h1 h2
    simp only [DataW.weightsEach, List.mem_append]; exact .inr (weightsEach_mem ts ds i t e n h1 h2 h3)
theorem weightsAll_mem {P : Program} {t : TypeId} : ∀ (ds : List (DataW H)) (i : Nat) (e : DataW H) (n : Nat), ds[i]? = some e → n ∈ e.weights P t → n ∈ DataW.weightsAll P t ds
  | [], i, e, n, h, _ => by simp at h
  | d0 :: ds, 0, e, n, h2, h3 => by
    simp at h2; subst h2
    simp only [DataW.weightsAll, List.mem_append]; exact .inl h3
  | d0 :: ds, i + 1, e, n, h2, h3 => by
    simp at h2
    simp only [DataW.weightsAll, List.mem_append]; exact .inr (weightsAll_mem ds i e n h2 h3)

/-- A struct: each field reads by its type. -/
theorem Tr.struct {fs : Array Field} (h : Tr enc P W T cs d) (ht : P.underlying T = some (.struct fs)) :
    ∃ ds : List (DataW H), d = .agg ds ∧ ds.length = fs.size ∧ cs.length = P.cellsOf T ∧ ∀ (i : Nat) (f : Field) (e : DataW H), fs[i]? = some f → ds[i]? = some e → Tr enc P W f.type ((cs.drop f.offset).take (P.cellsOf f.type)) e := by
  obtain ⟨⟨fuel, ps, hf⟩, hz⟩ := h
  obtain ⟨ys, n', _, hy, hlen', hyl, hfs⟩ := DataW.trod_struct ht hf
  simp only [Prod.mk.injEq] at hy
  refine ⟨_, hy.1, by simpa using hyl, hlen', fun i f e hi he => ⟨?_, fun n hn => hz n ?_⟩⟩
  · have := hfs i f hi
    simp only [List.getElem?_map, Option.map_eq_some_iff] at he
    obtain ⟨y, hy1, rfl⟩ := he
    rw [hy1] at this
    exact ⟨_, y.2, this⟩
  · rw [hy.1]
    simp only [DataW.weights, ht]
    exact weightsEach_mem _ _ i f.type e n (by simp [hi]) he hn

/-- A slice: nil, or each element's cells read by its type. -/
theorem Tr.slice {E : TypeId} (h : Tr enc P W T cs d) (ht : P.underlying T = some (.slice E)) :
    (cs = [.slice none 0 0] ∧ d = .nil) ∨
    ∃ (a : Addr) (len cap : Nat) (es rest : List (DataW H)), cs = [.slice (some a) len cap] ∧ d = .slice es rest ∧ es.length = len ∧ es.length + rest.length = cap ∧ len ≤ cap ∧ cap ≤ 9223372036854775807 ∧ cap * P.bytesOf E ≤ 140737488351232 ∧
      ∀ (i : Nat) (e : DataW H), es[i]? = some e → ∃ us : List Value, us.length = P.cellsOf E ∧ (∀ j (hj : j < us.length), W.cell? (a.add (i * P.cellsOf E + j)) = some us[j]) ∧ Tr enc P W E us e := by
  obtain ⟨⟨fuel, ps, hf⟩, hz⟩ := h
  rcases DataW.trod_slice ht hf with ⟨h1, h2⟩ | ⟨a, len, cap, elems, rest, n, _, hcs, hx, _, hl, hm, hel, hread, hsp, _⟩
  · simp only [Prod.mk.injEq] at h2
    exact .inl ⟨h1, h2.1⟩
  · simp only [Prod.mk.injEq] at hx
    obtain ⟨hd, _⟩ := hx
    obtain ⟨hrl, _⟩ := hsp rfl
    refine .inr ⟨a, len, cap, _, _, hcs, hd, by simpa using hel, by simp; omega, hl, by simpa [maxLen] using hm, ?_, fun i e he => ?_⟩
    · have := hz ((elems.length + rest.length) * P.bytesOf E) (by rw [hd]; simp [DataW.weights, ht])
      rw [reach_num] at this
      have e : elems.length + rest.length = cap := by omega
      rw [e] at this; exact this
    · simp only [List.getElem?_map, Option.map_eq_some_iff] at he
      obtain ⟨y, hy1, rfl⟩ := he
      have hi : i < len := by rw [← hel]; exact (List.getElem?_eq_some_iff.1 hy1).1
      have hr := hread i hi
      rw [hy1] at hr
      obtain ⟨us, hc', ht'⟩ := Option.bind_eq_some_iff.1 hr
      obtain ⟨_, hcl, hat⟩ := World.cells?_some hc'
      refine ⟨us, hcl, fun j hj => ?_, ⟨⟨_, y.2, ht'⟩, fun m hm => hz m ?_⟩⟩
      · have := hat j (by omega)
        rw [Go.Deep.add_add] at this
        rw [this, List.getElem?_eq_getElem hj]
      · rw [hd]
        simp only [DataW.weights, ht, List.mem_cons, List.mem_append]
        exact .inr (.inl (weightsAll_mem _ i y.1 m (by simp [hy1]) hm))
end
theorem one {α : Type} {l : List α} (h : l.length = 1) : ∃ a, l = [a] := by
  match l, h with
  | [a], _ => exact ⟨a, rfl⟩
theorem three {α : Type} {l : List α} (h : l.length = 3) : ∃ a b c, l = [a, b, c] := by
  match l, h with
  | [a, b, c], _ => exact ⟨a, b, c, rfl⟩
theorem bulk_mem {H : Type} : ∀ (ds : List (DataW H)) (i : Nat) (e : DataW H), ds[i]? = some e → Rows.uptoBulk e ≤ Rows.uptoBulkAll ds
  | [], i, e, h => by simp at h
  | d :: r, 0, e, h => by simp at h; subst h; simp only [Rows.uptoBulkAll]; omega
  | d :: r, i + 1, e, h => by simp at h; have := bulk_mem r i e h; simp only [Rows.uptoBulkAll]; omega
end Go.Proofs.Ytmokcfmlolohaaa
