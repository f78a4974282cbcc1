/- A manifest, a text that came in. -/
import Derived.Test.YtibpnlhdpdfhiaaDoorManZ
import Derived.Test.YtibpnlhdpdfhiaaDoorGAZ
set_option linter.unusedVariables false
namespace Go.Proofs.YtibpnlhdpdfhiaaDoor
open Go.ChangeShapes Go.WideShapes Go.ChangeAt Go.RowKit

section
variable {H : Type} {enc : TypeId × Value → H} {P : Program} {W : World} {base : Nat} {T : TypeId} {v : Value} {cs : List Value} {d : DataW H} {p : List MemPlace}
theorem Tr.ints {E : TypeId} (h : Tr enc P W T cs d) (ht : P.underlying T = some (.slice E)) (he : P.underlying E = some (.int .i64)) (hc : P.cellsOf E = 1) :
    ∃ (a : Option Addr) (len cap : Nat) (zs : List Int), cs = [.slice a len cap] ∧ RowI W a len cap zs := by
  obtain ⟨⟨fuel, ps, hf⟩, _⟩ := h
  rcases open_ints ht he hc hf with ⟨hcs, hd⟩ | ⟨x, l, c, zs, hcs, _, hl, hm, hz, hd, hcell, hwz⟩
  · exact ⟨_, _, _, [], hcs, rfl, by omega, by omega, by simp, .inl rfl⟩
  · simp only [if_true] at hz
    refine ⟨_, _, _, zs.take l, hcs, by simp; omega, hl, by simpa [maxLen] using hm, ?_, ?_⟩
    · intro n hn
      exact bounds_i64 (hwz n (List.mem_of_mem_take hn))
    · by_cases h0 : l = 0
      · exact .inl h0
      · right
        obtain ⟨b, off, spot⟩ := x
        have hc0 := hcell 0 (by omega)
        have hspot : spot = none := by simpa [Addr.add] using World.cell?_spot hc0
        subst hspot
        have ea : ∀ i, (⟨b, off, none⟩ : Addr).add i = ⟨b, off + i, none⟩ := fun i => by simp only [Addr.add]; split <;> simp_all
        rw [ea] at hc0
        refine ⟨b, off, rfl, cell_lt (p := ⟨b, off + 0, none⟩) hc0, fun i hi => ?_⟩
        simp at hi
        have := hcell i (by omega)
        rw [ea] at this
        rw [List.getElem_take]
        have e : zs.getD i 0 = zs[i] := by rw [List.getD_eq_getElem?_getD, List.getElem?_eq_getElem (by omega)]; rfl
        rw [e] at this
        simpa using this
theorem ArgIn.text (h : ArgIn enc P W base T v d p) (ht : P.underlying T = some .string) : ∃ s : ByteArray, v = .string s ∧ s.size ≤ reachBytes := by
  obtain ⟨s, rfl⟩ := okWide_string ht h.ok
  obtain ⟨s', h1, _, h2⟩ := h.tr.string ht
  simp only [Value.cells, List.cons.injEq, Value.string.injEq, and_true] at h1
  subst h1
  exact ⟨_, rfl, h2⟩
end
theorem Tr.manD {H : Type} {enc : TypeId × Value → H} {W : World} {cs : List Value} {d : DataW H} (h : Tr enc Tryd.prog W 24 cs d) :
    ∃ (v n : Int) (a : Option Addr) (len cap : Nat) (zs : List Int), cs = (mcs v n a len cap).toList ∧ RowI W a len cap zs ∧ (-9223372036854775808 ≤ v ∧ v ≤ 9223372036854775807) ∧ (-9223372036854775808 ≤ n ∧ n ≤ 9223372036854775807) := by
  obtain ⟨ds, hd, hl, hc, hf⟩ := h.struct Tryd.underlying24
  have hc3 : Tryd.prog.cellsOf 24 = 3 := by kernel_rfl
  have ci : Tryd.prog.cellsOf 3 = 1 := by kernel_rfl
  have cb : Tryd.prog.cellsOf 22 = 1 := by kernel_rfl
  rw [hc3] at hc
  obtain ⟨u0, u1, u2, rfl⟩ := three hc
  obtain ⟨d0, d1, d2, rfl⟩ := three (l := ds) (by simpa using hl)
  have e0 : Tr enc Tryd.prog W 3 ((([u0, u1, u2] : List Value).drop 0).take (Tryd.prog.cellsOf 3)) d0 := hf 0 _ d0 rfl rfl
  have e1 : Tr enc Tryd.prog W 3 ((([u0, u1, u2] : List Value).drop 1).take (Tryd.prog.cellsOf 3)) d1 := hf 1 _ d1 rfl rfl
  have e2 : Tr enc Tryd.prog W 22 ((([u0, u1, u2] : List Value).drop 2).take (Tryd.prog.cellsOf 22)) d2 := hf 2 _ d2 rfl rfl
  rw [ci] at e0 e1
  rw [cb] at e2
  obtain ⟨k, g0, k1, k2, _⟩ := e0.i64 Tryd.underlying3
  obtain ⟨v, g1, v1, v2, _⟩ := e1.i64 Tryd.underlying3
  obtain ⟨a, len, cap, zs, g2, hr⟩ := e2.ints Tryd.underlying22 Tryd.underlying3 (by kernel_rfl)
  simp at g0 g1 g2
  subst g0 g1 g2
  exact ⟨_, _, _, _, _, zs, rfl, hr, ⟨k1, k2⟩, ⟨v1, v2⟩⟩
theorem ArgIn.manD {H : Type} {enc : TypeId × Value → H} {W : World} {base : Nat} {v : Value} {d : DataW H} {p : List MemPlace} (h : ArgIn enc Tryd.prog W base 24 v d p) :
    ∃ (x n : Int) (a : Option Addr) (len cap : Nat) (zs : List Int), v = .agg (mcs x n a len cap) ∧ RowI W a len cap zs ∧ (-9223372036854775808 ≤ x ∧ x ≤ 9223372036854775807) ∧ (-9223372036854775808 ≤ n ∧ n ≤ 9223372036854775807) := by
  obtain ⟨cs, rfl, _⟩ := h.struct Tryd.underlying24
  obtain ⟨x, n, a, len, cap, zs, hc, h1, h2, h3⟩ := h.tr.manD
  simp only [Value.cells] at hc
  subst hc
  exact ⟨x, n, a, len, cap, zs, rfl, h1, h2, h3⟩
end Go.Proofs.YtibpnlhdpdfhiaaDoor
