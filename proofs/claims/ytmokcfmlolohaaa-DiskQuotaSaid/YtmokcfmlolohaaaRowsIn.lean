/- A slice of structs that came in, whatever its elements are. -/
import Derived.Test.YtmokcfmlolohaaaTr
import Derived.Test.YtmokcfmlolohaaaRowS
set_option linter.unusedVariables false
namespace Go.Proofs.Ytmokcfmlolohaaa
open Go.ChangeShapes Go.WideShapes Go.ChangeAt Go.RowKit

theorem Tr.rowsOf {H : Type} {enc : TypeId × Value → H} {P : Program} {W : World} {T E : TypeId} {cs : List Value} {d : DataW H} {α : Type} (f : α → List Value) (Ok : α → Prop) (k : Nat) (h : Tr enc P W T cs d)
    (ht : P.underlying T = some (.slice E)) (hck : P.cellsOf E = k) (hk : ∀ b, (f b).length = k) (h0k : 0 < k) (elem : ∀ cs d, Tr enc P W E cs d → ∃ b, cs = f b ∧ Ok b) :
    ∃ (a : Option Addr) (cap : Nat) (bs : List α), cs = [.slice a bs.length cap] ∧ RowS W a bs.length cap k (bs.map f) ∧ (∀ b ∈ bs, Ok b) ∧ bs.length * P.bytesOf E ≤ 140737488355328 := by
  subst hck
  rcases h.slice ht with ⟨h1, _⟩ | ⟨a, len, cap, es, rest, h1, hd, h2, h3, h4, h5, h6, h7⟩
  · exact ⟨none, 0, [], h1, RowS.nil _ _ _ _ (by omega), by simp, by simp⟩
  · have key : ∀ i (hi : i < es.length), ∃ b : α, Ok b ∧ ∀ j u, (f b)[j]? = some u → W.cell? (a.add (i * P.cellsOf E + j)) = some u := by
      intro i hi
      obtain ⟨us, hu1, hu2, hu3⟩ := h7 i es[i] (List.getElem?_eq_getElem hi)
      obtain ⟨b, rfl, hb⟩ := elem _ _ hu3
      refine ⟨b, hb, fun j u hu => ?_⟩
      obtain ⟨hj, rfl⟩ := List.getElem?_eq_some_iff.1 hu
      exact hu2 j hj
    let bs : List α := List.ofFn (fun i : Fin es.length => Classical.choose (key i i.2))
    have hbl : bs.length = es.length := List.length_ofFn
    have hget : ∀ i (hi : i < bs.length), Ok bs[i] ∧ ∀ j u, (f bs[i])[j]? = some u → W.cell? (a.add (i * P.cellsOf E + j)) = some u := by
      intro i hi
      have e : bs[i] = Classical.choose (key i (by omega)) := List.getElem_ofFn (h := hi)
      rw [e]
      exact Classical.choose_spec (key i (by omega))
    refine ⟨some a, cap, bs, by rw [h1, hbl, h2], ⟨by simp, by rw [hbl, h2]; exact h4, h5, ?_, ?_⟩, ?_, ?_⟩
    · intro l hl
      obtain ⟨b, _, rfl⟩ := List.mem_map.1 hl
      exact hk b
    · by_cases h0 : bs.length = 0
      · exact .inl h0
      · obtain ⟨b, off, spot⟩ := a
        have hlt0 : 0 < (f bs[0]).length := by rw [hk]; exact h0k
        have hc0 := (hget 0 (by omega)).2 0 _ (List.getElem?_eq_getElem hlt0)
        have hspot : spot = none := by simpa [Addr.add] using World.cell?_spot hc0
        subst hspot
        have ea : ∀ j, (⟨b, off, none⟩ : Addr).add j = ⟨b, off + j, none⟩ := fun j => by simp only [Addr.add]; split <;> simp_all
        rw [ea] at hc0
        refine .inr ⟨b, off, rfl, cell_lt hc0, fun i hi j u hu => ?_⟩
        have hi' : i < bs.length := by simpa using hi
        have := (hget i hi').2 j u (by simpa using hu)
        rw [ea] at this
        rw [Nat.add_assoc]; exact this
    · intro b hb
      obtain ⟨i, hi, rfl⟩ := List.getElem_of_mem hb
      exact (hget i hi).1
    · rw [hbl, h2]; exact Nat.le_trans (Nat.mul_le_mul_right _ h4) (by omega)
end Go.Proofs.Ytmokcfmlolohaaa
