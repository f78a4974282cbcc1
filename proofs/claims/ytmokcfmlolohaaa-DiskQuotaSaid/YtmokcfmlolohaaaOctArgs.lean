/- An argument that is a list of calls, opened. -/
import Derived.Test.YtmokcfmlolohaaaArgs
import Derived.Deep.Slices
import Derived.Deep.Fields
set_option linter.unusedVariables false
namespace Go.Proofs.Ytmokcfmlolohaaa
open Go.ChangeShapes Go.WideShapes Go.ChangeAt Go.RowKit Go.Deep

/-- A call as data: what to do, its number, its bytes and where they lie. -/
structure CallD where
  act : Int
  num : Int
  ra : Option Addr
  rl : Nat
  rc : Nat
  raw : List Nat

/-- The three cells of a call. -/
structure CallAt (w : World) (a : Addr) (i : Nat) (c : CallD) : Prop where
  act : w.cell? (a.add (i * 3 + 0)) = some (.int .i64 c.act)
  num : w.cell? (a.add (i * 3 + 1)) = some (.int .i64 c.num)
  raw : w.cell? (a.add (i * 3 + 2)) = some (.slice c.ra c.rl c.rc)
  row : RowB w c.ra c.rl c.rc c.raw
  act64 : -9223372036854775808 ≤ c.act ∧ c.act ≤ 9223372036854775807
  num64 : -9223372036854775808 ≤ c.num ∧ c.num ≤ 9223372036854775807

def rawSum : List CallD → Nat
  | [] => 0
  | c :: r => c.rl + rawSum r
theorem rawSum_append (a b : List CallD) : rawSum (a ++ b) = rawSum a + rawSum b := by
  induction a with
  | nil => simp [rawSum]
  | cons x r ih => simp [rawSum, ih]; omega

section
variable {H : Type} {enc : TypeId × Value → H} {P : Program} {W : World} {base : Nat} {T : TypeId} {v : Value} {d : DataW H} {p : List MemPlace}

theorem bulk_one (d : DataW H) : 1 ≤ Rows.uptoBulk d := by
  cases d with
  | lit l => cases l <;> simp [Rows.uptoBulk]
  | nil => simp [Rows.uptoBulk]
  | ptr d => simp [Rows.uptoBulk]
  | slice elems spare => simp [Rows.uptoBulk]
  | agg parts => simp [Rows.uptoBulk]
  | iface t d => simp [Rows.uptoBulk]
  | map entries => simp [Rows.uptoBulk]
  | held h => simp [Rows.uptoBulk]
theorem bulk_append (l r : List (DataW H)) : Rows.uptoBulkAll (l ++ r) = Rows.uptoBulkAll l + Rows.uptoBulkAll r := by
  induction l with
  | nil => simp [Rows.uptoBulkAll]
  | cons x l ih => simp only [List.cons_append, Rows.uptoBulkAll, ih]; omega
theorem bulk_length (l : List (DataW H)) : l.length ≤ Rows.uptoBulkAll l := by
  induction l with
  | nil => simp [Rows.uptoBulkAll]
  | cons x r ih => have := bulk_one x; simp only [Rows.uptoBulkAll, List.length_cons]; omega

/-- A cell that reads as a slice of bytes. -/
theorem bytes_of_trod {fuel : Nat} {E : TypeId} {u : Value} {y : DataW H × List MemPlace} (ht : P.underlying T = some (.slice E)) (he : P.underlying E = some (.int .u8)) (hc : P.cellsOf E = 1)
    (h : DataW.trod enc P W 0 (fun _ => true) true fuel T [u] = some y) (hs : Rows.uptoBulk y.1 ≤ 1048576) :
    ∃ a len cap xs, u = .slice a len cap ∧ RowB W a len cap xs ∧ len + 1 ≤ Rows.uptoBulk y.1 := by
  rcases open_ints ht he hc h with ⟨hcs, hd⟩ | ⟨x, l, c, zs, hcs, _, hl, hm, hz, hd, hcell, hwz⟩
  · simp at hcs
    exact ⟨_, _, _, [], hcs, RowB.nil _ _ _ (by omega), by have := bulk_one y.1; omega⟩
  · simp at hcs
    subst hd
    simp only [if_true] at hz
    have hb : (zs.length : Nat) + 1 ≤ Rows.uptoBulk (DataW.slice (H := H) (lits .u8 (zs.take l)) (lits .u8 (zs.drop l))) := by
      have h1 := bulk_length (H := H) (lits .u8 (zs.take l))
      have h2 := bulk_length (H := H) (lits .u8 (zs.drop l))
      simp only [Rows.uptoBulk]
      simp only [lits, List.length_map, List.length_take, List.length_drop] at h1 h2
      simp only [lits]
      omega
    refine ⟨_, l, c, (zs.take l).map Int.toNat, hcs, ⟨by simp; omega, hl, by simpa [maxLen] using hm, by simp only at hs; omega, ?_, ?_⟩, by simp only at hs ⊢; omega⟩
    · intro n hn
      obtain ⟨z, hz1, rfl⟩ := List.mem_map.1 hn
      have := bounds_u8 (hwz z (List.mem_of_mem_take hz1))
      omega
    · by_cases h0 : l = 0
      · exact .inl h0
      · right
        obtain ⟨b, off, spot⟩ := x
        have hc0 := hcell 0 (by omega)
        have hspot : spot = none := by simpa [Addr.add] using World.cell?_spot hc0
        subst hspot
        refine ⟨b, off, rfl, fun i hi => ?_⟩
        simp at hi
        have := hcell i (by omega)
        have ea : (⟨b, off, none⟩ : Addr).add i = ⟨b, off + i, none⟩ := by simp only [Addr.add]; split <;> simp_all
        rw [ea] at this
        rw [List.getElem_map, List.getElem_take]
        have hb := bounds_u8 (hwz zs[i] (List.getElem_mem (by omega)))
        have e : zs.getD i 0 = zs[i] := by rw [List.getD_eq_getElem?_getD, List.getElem?_eq_getElem (by omega)]; rfl
        rw [e] at this
        rw [Int.toNat_of_nonneg hb.1]
        simpa using this

/-- The bulk of the first n of these. -/
theorem bulk_range (D : Nat → DataW H) (n : Nat) : Rows.uptoBulkAll ((List.range (n + 1)).map D) = Rows.uptoBulkAll ((List.range n).map D) + Rows.uptoBulk (D n) := by
  rw [List.range_succ, List.map_append, bulk_append]; simp [Rows.uptoBulkAll]

theorem ArgIn.calls {E B S : TypeId} {f0 f1 f2 : Field} (h : ArgIn enc P W base T v d p) (ht : P.underlying T = some (.slice E)) (he : P.underlying E = some (.struct #[f0, f1, f2])) (hC : P.cellsOf E = 3)
    (h0 : P.underlying f0.type = some (.int .i64)) (h1 : P.underlying f1.type = some (.int .i64)) (h2 : P.underlying f2.type = some (.slice B)) (hB : P.underlying B = some (.int .u8)) (hcB : P.cellsOf B = 1)
    (o0 : f0.offset = 0) (o1 : f1.offset = 1) (o2 : f2.offset = 2) (c0 : P.cellsOf f0.type = 1) (c1 : P.cellsOf f1.type = 1) (c2 : P.cellsOf f2.type = 1) (hk : Rows.uptoBulk d ≤ 1048576) :
    ∃ (a : Option Addr) (len cap : Nat) (l : List CallD), v = .slice a len cap ∧ l.length = len ∧ len ≤ cap ∧ cap ≤ 9223372036854775807 ∧ len ≤ 1048576 ∧ rawSum l ≤ 1048576 ∧
      (len = 0 ∨ ∃ x, a = some x ∧ ∀ i (hi : i < l.length), CallAt W x i l[i]) := by
  obtain ⟨a, len, cap, rfl⟩ := okWide_slice ht h.ok
  obtain ⟨fuel, hf⟩ := h.trod
  rcases open_slice ht hf with ⟨hcs, hd⟩ | ⟨x, l, c, m, n, D, Pl, hcs, _, hl, hm, hmm, hd, hi⟩
  · simp [Value.cells] at hcs
    obtain ⟨rfl, rfl, rfl⟩ := hcs
    exact ⟨_, _, _, [], rfl, rfl, by omega, by omega, by omega, by simp [rawSum], .inl rfl⟩
  · simp [Value.cells] at hcs
    obtain ⟨rfl, rfl, rfl⟩ := hcs
    simp only [if_true] at hmm
    subst hmm
    simp only [Prod.mk.injEq] at hd
    obtain ⟨hd, _⟩ := hd
    have hbulk : Rows.uptoBulkAll ((List.range len).map D) ≤ Rows.uptoBulk d := by rw [hd]; simp only [Rows.uptoBulk]; omega
    have hlen := bulk_length ((List.range len).map D)
    simp at hlen
    have step : ∀ k, k ≤ len → ∃ q : List CallD, q.length = k ∧ (∀ i (hi : i < q.length), CallAt W x i q[i]) ∧ rawSum q ≤ Rows.uptoBulkAll ((List.range k).map D) := by
      intro k
      induction k with
      | zero => intro _; exact ⟨[], rfl, fun i hi => by simp at hi, by simp [rawSum]⟩
      | succ k ih =>
        intro hk1
        obtain ⟨q, hq1, hq2, hq3⟩ := ih (by omega)
        obtain ⟨cs', hc', ht'⟩ := hi k (by omega)
        rw [hC] at hc'
        obtain ⟨ys, n', _, hy, hlen', hyl, hfs⟩ := DataW.trod_struct he ht'
        obtain ⟨_, hcl, hat⟩ := World.cells?_some hc'
        simp only [Prod.mk.injEq] at hy
        match cs', hcl, ys, hyl with
        | [u0, u1, u2], _, [y0, y1, y2], _ =>
          have e0 := hfs 0 f0 rfl
          have e1 := hfs 1 f1 rfl
          have e2 := hfs 2 f2 rfl
          rw [o0, c0] at e0
          rw [o1, c1] at e1
          rw [o2, c2] at e2
          simp at e0 e1 e2
          obtain ⟨z0, g0, _, w0⟩ := DataW.trod_int h0 e0
          obtain ⟨z1, g1, _, w1⟩ := DataW.trod_int h1 e1
          simp at g0 g1
          subst g0; subst g1
          have hDk : Rows.uptoBulk (D k) = Rows.uptoBulk y0.1 + (Rows.uptoBulk y1.1 + (Rows.uptoBulk y2.1 + 0)) + 1 := by
            rw [hy.1]; simp only [Rows.uptoBulk, List.map_cons, List.map_nil, Rows.uptoBulkAll]
          have hrng := bulk_range D k
          have hmono : Rows.uptoBulkAll ((List.range (k + 1)).map D) ≤ Rows.uptoBulkAll ((List.range len).map D) := by
            have e : List.range len = List.range (k + 1) ++ (List.range (len - (k + 1))).map (fun x => (k + 1) + x) := by
              rw [← List.range_add]; congr 1; omega
            rw [e, List.map_append, bulk_append]; omega
          obtain ⟨ra, rl, rc, raw, hu, hrow, hrl⟩ := bytes_of_trod h2 hB hcB e2 (by omega)
          subst hu
          have a0 := hat 0 (by omega)
          have a1 := hat 1 (by omega)
          have a2 := hat 2 (by omega)
          rw [Go.Deep.add_add] at a0 a1 a2
          simp at a0 a1 a2
          refine ⟨q ++ [⟨z0, z1, ra, rl, rc, raw⟩], by simp [hq1], fun i hi' => ?_, ?_⟩
          · simp at hi'
            by_cases hik : i < q.length
            · rw [List.getElem_append_left hik]; exact hq2 i hik
            · obtain rfl : i = q.length := by omega
              rw [List.getElem_append_right (Nat.le_refl _)]
              simp only [Nat.sub_self, List.getElem_cons_zero]
              rw [hq1]
              exact ⟨by simpa using a0, by simpa using a1, by simpa using a2, hrow, bounds_i64 w0, bounds_i64 w1⟩
          · rw [rawSum_append, hrng]; simp [rawSum]; omega
    obtain ⟨q, hq1, hq2, hq3⟩ := step len (Nat.le_refl _)
    exact ⟨_, _, _, q, rfl, hq1, hl, by simpa [maxLen] using hm, by omega, by omega, .inr ⟨_, rfl, hq2⟩⟩

/-- The three cells of a call, whatever its bytes are. -/
structure CallIn (w : World) (b off i : Nat) (z0 z1 : Int) (u : Value) : Prop where
  act : w.cell? ⟨b, off + i * 3, none⟩ = some (.int .i64 z0)
  num : w.cell? ⟨b, off + i * 3 + 1, none⟩ = some (.int .i64 z1)
  raw : w.cell? ⟨b, off + i * 3 + 2, none⟩ = some u
  act64 : -9223372036854775808 ≤ z0 ∧ z0 ≤ 9223372036854775807
  num64 : -9223372036854775808 ≤ z1 ∧ z1 ≤ 9223372036854775807
  slice : ∃ ra rl rc, u = .slice ra rl rc

theorem CallIn.old {w wr : World} {b off i : Nat} {z0 z1 : Int} {u : Value} (h : CallIn w b off i z0 z1 u) (hb : Below w.heap.size w wr) : CallIn wr b off i z0 z1 u := by
  have hlt : b < w.heap.size := cell_lt (p := ⟨b, off + i * 3, none⟩) h.act
  exact ⟨(hb.cell (p := ⟨b, off + i * 3, none⟩) hlt).trans h.act, (hb.cell (p := ⟨b, off + i * 3 + 1, none⟩) hlt).trans h.num, (hb.cell (p := ⟨b, off + i * 3 + 2, none⟩) hlt).trans h.raw, h.act64, h.num64, h.slice⟩

theorem ArgIn.callsIn {E B : TypeId} {f0 f1 f2 : Field} (h : ArgIn enc P W base T v d p) (ht : P.underlying T = some (.slice E)) (he : P.underlying E = some (.struct #[f0, f1, f2])) (hC : P.cellsOf E = 3)
    (h0 : P.underlying f0.type = some (.int .i64)) (h1 : P.underlying f1.type = some (.int .i64)) (h2 : P.underlying f2.type = some (.slice B))
    (o0 : f0.offset = 0) (o1 : f1.offset = 1) (o2 : f2.offset = 2) (c0 : P.cellsOf f0.type = 1) (c1 : P.cellsOf f1.type = 1) (c2 : P.cellsOf f2.type = 1) :
    ∃ (a : Option Addr) (len cap : Nat), v = .slice a len cap ∧ len ≤ cap ∧ cap ≤ 9223372036854775807 ∧
      (len = 0 ∨ ∃ b off, a = some ⟨b, off, none⟩ ∧ ∀ i, i < len → ∃ act num raw, CallIn W b off i act num raw) := by
  obtain ⟨a, len, cap, rfl⟩ := okWide_slice ht h.ok
  obtain ⟨fuel, hf⟩ := h.trod
  rcases open_slice ht hf with ⟨hcs, hd⟩ | ⟨x, l, c, m, n, D, Pl, hcs, _, hl, hm, hmm, hd, hi⟩
  · simp [Value.cells] at hcs
    obtain ⟨rfl, rfl, rfl⟩ := hcs
    exact ⟨_, _, _, rfl, by omega, by omega, .inl rfl⟩
  · simp [Value.cells] at hcs
    obtain ⟨rfl, rfl, rfl⟩ := hcs
    simp only [if_true] at hmm
    subst hmm
    refine ⟨_, _, _, rfl, hl, by simpa [maxLen] using hm, ?_⟩
    have key : ∀ k, k < len → ∃ z0 z1 u2, W.cell? (x.add (k * 3 + 0)) = some (.int .i64 z0) ∧ W.cell? (x.add (k * 3 + 1)) = some (.int .i64 z1) ∧ W.cell? (x.add (k * 3 + 2)) = some u2 ∧
        (-9223372036854775808 ≤ z0 ∧ z0 ≤ 9223372036854775807) ∧ (-9223372036854775808 ≤ z1 ∧ z1 ≤ 9223372036854775807) ∧ ∃ ra rl rc, u2 = .slice ra rl rc := by
      intro k hk
      obtain ⟨cs', hc', ht'⟩ := hi k (by omega)
      rw [hC] at hc'
      obtain ⟨ys, n', _, hy, hlen', hyl, hfs⟩ := DataW.trod_struct he ht'
      obtain ⟨_, hcl, hat⟩ := World.cells?_some hc'
      match cs', hcl, ys, hyl with
      | [u0, u1, u2], _, [y0, y1, y2], _ =>
        have e0 := hfs 0 f0 rfl
        have e1 := hfs 1 f1 rfl
        have e2 := hfs 2 f2 rfl
        rw [o0, c0] at e0
        rw [o1, c1] at e1
        rw [o2, c2] at e2
        simp at e0 e1 e2
        obtain ⟨z0, g0, _, w0⟩ := DataW.trod_int h0 e0
        obtain ⟨z1, g1, _, w1⟩ := DataW.trod_int h1 e1
        simp at g0 g1
        subst g0; subst g1
        have a0 := hat 0 (by omega)
        have a1 := hat 1 (by omega)
        have a2 := hat 2 (by omega)
        rw [Go.Deep.add_add] at a0 a1 a2
        refine ⟨z0, z1, u2, by simpa using a0, by simpa using a1, by simpa using a2, bounds_i64 w0, bounds_i64 w1, ?_⟩
        rcases DataW.trod_slice h2 e2 with ⟨h9, _⟩ | ⟨a9, l9, c9, _, _, _, _, h9, _⟩
        · simp at h9; exact ⟨_, _, _, h9⟩
        · simp at h9; exact ⟨_, _, _, h9⟩
    by_cases hl0 : len = 0
    · exact .inl hl0
    · right
      obtain ⟨b, off, spot⟩ := x
      obtain ⟨z0, z1, u2, q0, _⟩ := key 0 (by omega)
      have hs : spot = none := by simpa [Addr.add] using World.cell?_spot q0
      subst hs
      have ea : ∀ j, (⟨b, off, none⟩ : Addr).add j = ⟨b, off + j, none⟩ := by intro j; simp only [Addr.add]; split <;> simp_all
      refine ⟨b, off, rfl, fun k hk => ?_⟩
      obtain ⟨z0, z1, u2, q0, q1, q2, b0, b1, sl⟩ := key k hk
      rw [ea] at q0 q1 q2
      exact ⟨z0, z1, u2, q0, q1, q2, b0, b1, sl⟩
end
end Go.Proofs.Ytmokcfmlolohaaa
