/- More openers: bytes, bools, structs of numbers. -/
import Derived.Test.YthjdebcjfpokoaaArgs
set_option linter.unusedVariables false
namespace Go.Proofs.Ythjdebcjfpokoaa
open Go.ChangeShapes Go.WideShapes Go.ChangeAt Go.RowKit

section
variable {H : Type} {enc : TypeId × Value → H} {P : Program} {W : World} {base : Nat} {T : TypeId} {v : Value} {d : DataW H} {p : List MemPlace}
theorem ArgIn.u8 (h : ArgIn enc P W base T v d p) (ht : P.underlying T = some (.int .u8)) : ∃ x : Nat, v = .int .u8 (x : Nat) ∧ x < 256 := by
  obtain ⟨x, h1, wx, h2⟩ := h.int ht
  have := bounds_u8 wx
  exact ⟨x.toNat, by rw [h1, Int.toNat_of_nonneg this.1], by omega⟩

/-- The cells of a struct that came in by value; each field reads by its type. -/
theorem ArgIn.struct {fs : Array Field} (h : ArgIn enc P W base T v d p) (ht : P.underlying T = some (.struct fs)) :
    ∃ cs : List Value, v = .agg cs.toArray ∧ cs.length = P.cellsOf T ∧ ∀ (i : Nat) (f : Field), fs[i]? = some f → ∃ fuel y, DataW.trod enc P W 0 (fun _ => true) true fuel f.type ((cs.drop f.offset).take (P.cellsOf f.type)) = some y := by
  have hok := h.ok
  unfold Value.okWide at hok
  rw [ht] at hok
  obtain ⟨cs, rfl, hsz, _⟩ := hok
  obtain ⟨fuel, hf⟩ := h.trod
  obtain ⟨ys, n', _, hy, hlen', hyl, hfs⟩ := DataW.trod_struct ht hf
  refine ⟨cs.toList, by simp, by simpa using hsz, fun i f hi => ?_⟩
  have := hfs i f hi
  have hlt : i < fs.size := (Array.getElem?_eq_some_iff.1 hi).1
  cases hx : ys[i]? with
  | none => have : ys.length ≤ i := List.getElem?_eq_none_iff.1 hx; omega
  | some y =>
    rw [hx] at this
    exact ⟨_, y, this⟩
end
theorem oneInt {H : Type} {enc : TypeId × Value → H} {P : Program} {W : World} {fuel : Nat} {T : TypeId} {u : Value} {y : DataW H × List MemPlace} {k : IntKind} (ht : P.underlying T = some (.int k)) (h : DataW.trod enc P W 0 (fun _ => true) true fuel T [u] = some y) :
    ∃ x : Int, u = .int k x ∧ (Lit.int k x).wf = true := by
  obtain ⟨n, h3, h4, hw⟩ := DataW.trod_int ht h
  simp at h3
  exact ⟨n, h3, hw⟩
theorem eleven {α : Type} {l : List α} (h : l.length = 11) : ∃ a b c d e f g i j k m, l = [a, b, c, d, e, f, g, i, j, k, m] := by
  match l, h with
  | [a, b, c, d, e, f, g, i, j, k, m], _ => exact ⟨a, b, c, d, e, f, g, i, j, k, m, rfl⟩
theorem five {α : Type} {l : List α} (h : l.length = 5) : ∃ a b c d e, l = [a, b, c, d, e] := by
  match l, h with
  | [a, b, c, d, e], _ => exact ⟨a, b, c, d, e, rfl⟩
end Go.Proofs.Ythjdebcjfpokoaa
