/- More openers: bytes, bools, structs of numbers. -/
import Derived.Test.YtmokcfmlolohaaaArgs
set_option linter.unusedVariables false
namespace Go.Proofs.Ytmokcfmlolohaaa
open Go.ChangeShapes Go.WideShapes Go.ChangeAt Go.RowKit

section
variable {H : Type} {enc : TypeId × Value → H} {P : Program} {W : World} {base : Nat} {T : TypeId} {v : Value} {d : DataW H} {p : List MemPlace}
theorem ArgIn.u8 (h : ArgIn enc P W base T v d p) (ht : P.underlying T = some (.int .u8)) : ∃ x : Nat, v = .int .u8 (x : Nat) ∧ x < 256 := by
  obtain ⟨x, h1, wx, h2⟩ := h.int ht
  have := bounds_u8 wx
  exact ⟨x.toNat, by rw [h1, Int.toNat_of_nonneg this.1], by omega⟩

/-- The cells of a struct that came in by value; each field reads by its type. -/
theorem ArgIn.struct {fs : Array Field} (h : ArgIn enc P W base T v d p) (ht : P.underlying T = some (.struct fs)) :
    ∃ cs : List Value, v = .agg cs.toArray ∧ cs.length = P.cellsOf T ∧ ∀ (i : Nat) (f : Field), fs[i]? = some f → ∃ fuel y, DataW.trod enc P W 0 (fun _ => true) true fuel f.type ((cs.drop f.offset).take (P.cellsOf f.type)) = some y := by
  have hok := h.ok
  unfold Value.okWide at hok
  rw [ht] at hok
  obtain ⟨cs, rfl, hsz, _⟩ := hok
  obtain ⟨fuel, hf⟩ := h.trod
  obtain ⟨ys, n', _, hy, hlen', hyl, hfs⟩ := DataW.trod_struct ht hf
  refine ⟨cs.toList, by simp, by simpa using hsz, fun i f hi => ?_⟩
  have := hfs i f hi
  have hlt : i < fs.size := (Array.getElem?_eq_some_iff.1 hi).1
  cases hx : ys[i]? with
  | none => have : ys.length ≤ i := List.getElem?_eq_none_iff.1 hx; omega
  | some y =>
    rw [hx] at this
    exact ⟨_, y, this⟩
end
/-- A slice of numbers reads as the list zs. -/
def RowI (w : World) (a : Option Addr) (len cap : Nat) (zs : List Int) : Prop :=
  zs.length = len ∧ len ≤ cap ∧ cap ≤ 9223372036854775807 ∧ (∀ z ∈ zs, -9223372036854775808 ≤ z ∧ z ≤ 9223372036854775807) ∧
    (len = 0 ∨ ∃ b off, a = some ⟨b, off, none⟩ ∧ b < w.heap.size ∧ ∀ i, (h : i < zs.length) → w.cell? ⟨b, off + i, none⟩ = some (.int .i64 zs[i]))
section
variable {H : Type} {enc : TypeId × Value → H} {P : Program} {W : World} {base : Nat} {T : TypeId} {v : Value} {d : DataW H} {p : List MemPlace}
theorem ArgIn.ints {E : TypeId} (h : ArgIn enc P W base T v d p) (ht : P.underlying T = some (.slice E)) (he : P.underlying E = some (.int .i64)) (hc : P.cellsOf E = 1) :
    ∃ (a : Option Addr) (len cap : Nat) (zs : List Int), v = .slice a len cap ∧ RowI W a len cap zs := by
  obtain ⟨a, len, cap, rfl⟩ := okWide_slice ht h.ok
  obtain ⟨fuel, hf⟩ := h.trod
  rcases open_ints ht he hc hf with ⟨hcs, hd⟩ | ⟨x, l, c, zs, hcs, _, hl, hm, hz, hd, hcell, hwz⟩
  · simp [Value.cells] at hcs
    obtain ⟨rfl, rfl, rfl⟩ := hcs
    exact ⟨_, _, _, [], rfl, rfl, by omega, by omega, by simp, .inl rfl⟩
  · simp [Value.cells] at hcs
    obtain ⟨rfl, rfl, rfl⟩ := hcs
    simp only [if_true] at hz
    refine ⟨_, _, _, zs.take len, rfl, by simp; omega, hl, by simpa [maxLen] using hm, ?_, ?_⟩
    · intro n hn
      exact bounds_i64 (hwz n (List.mem_of_mem_take hn))
    · by_cases h0 : len = 0
      · exact .inl h0
      · right
        obtain ⟨b, off, spot⟩ := x
        have hc0 := hcell 0 (by omega)
        have hspot : spot = none := by simpa [Addr.add] using World.cell?_spot hc0
        subst hspot
        have ea : ∀ i, (⟨b, off, none⟩ : Addr).add i = ⟨b, off + i, none⟩ := fun i => by simp only [Addr.add]; split <;> simp_all
        rw [ea] at hc0
        refine ⟨b, off, rfl, cell_lt (p := ⟨b, off + 0, none⟩) hc0, fun i hi => ?_⟩
        simp at hi
        have := hcell i (by omega)
        rw [ea] at this
        rw [List.getElem_take]
        have e : zs.getD i 0 = zs[i] := by rw [List.getD_eq_getElem?_getD, List.getElem?_eq_getElem (by omega)]; rfl
        rw [e] at this
        simpa using this
theorem RowI.old {w w' : World} {a : Option Addr} {len cap : Nat} {zs : List Int} (h : RowI w a len cap zs) (hb : Below w.heap.size w w') : RowI w' a len cap zs := by
  obtain ⟨h1, h2, h3, h4, h5⟩ := h
  refine ⟨h1, h2, h3, h4, ?_⟩
  rcases h5 with h5 | ⟨b, off, ha, hlt, hc⟩
  · exact .inl h5
  · exact .inr ⟨b, off, ha, Nat.lt_of_lt_of_le hlt hb.size, fun i hi => by rw [hb.cell (p := ⟨b, off + i, none⟩) hlt]; exact hc i hi⟩
theorem ArgIn.bool (h : ArgIn enc P W base T v d p) (ht : P.underlying T = some .bool) : ∃ x : Bool, v = .bool x := by
  obtain ⟨x, h1, _⟩ := open_bool ht h.ok h.trod
  exact ⟨x, h1⟩
end
theorem oneInt {H : Type} {enc : TypeId × Value → H} {P : Program} {W : World} {fuel : Nat} {T : TypeId} {u : Value} {y : DataW H × List MemPlace} {k : IntKind} (ht : P.underlying T = some (.int k)) (h : DataW.trod enc P W 0 (fun _ => true) true fuel T [u] = some y) :
    ∃ x : Int, u = .int k x ∧ (Lit.int k x).wf = true := by
  obtain ⟨n, h3, h4, hw⟩ := DataW.trod_int ht h
  simp at h3
  exact ⟨n, h3, hw⟩
theorem eleven {α : Type} {l : List α} (h : l.length = 11) : ∃ a b c d e f g i j k m, l = [a, b, c, d, e, f, g, i, j, k, m] := by
  match l, h with
  | [a, b, c, d, e, f, g, i, j, k, m], _ => exact ⟨a, b, c, d, e, f, g, i, j, k, m, rfl⟩
theorem five {α : Type} {l : List α} (h : l.length = 5) : ∃ a b c d e, l = [a, b, c, d, e] := by
  match l, h with
  | [a, b, c, d, e], _ => exact ⟨a, b, c, d, e, rfl⟩
end Go.Proofs.Ytmokcfmlolohaaa
