/- A record that came in. -/
import Derived.Test.YthliikkllagodaaDoorRecMays
set_option linter.unusedVariables false
namespace Go.Proofs.YthliikkllagodaaDoor
open Go.ChangeShapes Go.WideShapes Go.ChangeAt Go.RowKit

section
variable {H : Type} {enc : TypeId × Value → H} {W : World} {base : Nat} {v : Value} {cs : List Value} {d : DataW H} {p : List MemPlace}
theorem listFive {α : Type} {l : List α} (h : l.length = 5) : ∃ a b c d e, l = [a, b, c, d, e] := by
  match l, h with
  | [a, b, c, d, e], _ => exact ⟨a, b, c, d, e, rfl⟩
theorem listFour {α : Type} {l : List α} (h : l.length = 4) : ∃ a b c d, l = [a, b, c, d] := by
  match l, h with
  | [a, b, c, d], _ => exact ⟨a, b, c, d, rfl⟩
theorem listSeven {α : Type} {l : List α} (h : l.length = 7) : ∃ a b c d e f g, l = [a, b, c, d, e, f, g] := by
  match l, h with
  | [a, b, c, d, e, f, g], _ => exact ⟨a, b, c, d, e, f, g, rfl⟩
theorem listEight {α : Type} {l : List α} (h : l.length = 8) : ∃ a b c d e f g i, l = [a, b, c, d, e, f, g, i] := by
  match l, h with
  | [a, b, c, d, e, f, g, i], _ => exact ⟨a, b, c, d, e, f, g, i, rfl⟩
theorem listFourteen {α : Type} {l : List α} (h : l.length = 14) : ∃ a0 a1 a2 a3 a4 a5 a6 a7 a8 a9 b0 b1 b2 b3, l = [a0, a1, a2, a3, a4, a5, a6, a7, a8, a9, b0, b1, b2, b3] := by
  match l, h with
  | [a0, a1, a2, a3, a4, a5, a6, a7, a8, a9, b0, b1, b2, b3], _ => exact ⟨a0, a1, a2, a3, a4, a5, a6, a7, a8, a9, b0, b1, b2, b3, rfl⟩
theorem cint : Tryd.prog.cellsOf 3 = 1 := by kernel_rfl
theorem cint64 : Tryd.prog.cellsOf 2 = 1 := by kernel_rfl
theorem cuint32 : Tryd.prog.cellsOf 45 = 1 := by kernel_rfl
theorem cslice : Tryd.prog.cellsOf 71 = 1 := by kernel_rfl

theorem Tr.tupD (h : Tr enc Tryd.prog W 47 cs d) : ∃ t : TupD, cs = [.int .u32 t.src, .int .u32 t.dst, .int .i64 t.proto, .int .i64 t.sport, .int .i64 t.dport] ∧ TupOk t := by
  obtain ⟨ds, hd, hl, hc, hf⟩ := h.struct Tryd.underlying47
  have hc5 : Tryd.prog.cellsOf 47 = 5 := by kernel_rfl
  rw [hc5] at hc
  obtain ⟨u0, u1, u2, u3, u4, rfl⟩ := listFive hc
  obtain ⟨d0, d1, d2, d3, d4, rfl⟩ := listFive (l := ds) (by simpa using hl)
  have e0 : Tr enc Tryd.prog W 45 ((([u0, u1, u2, u3, u4] : List Value).drop 0).take (Tryd.prog.cellsOf 45)) d0 := hf 0 _ d0 rfl rfl
  have e1 : Tr enc Tryd.prog W 45 ((([u0, u1, u2, u3, u4] : List Value).drop 1).take (Tryd.prog.cellsOf 45)) d1 := hf 1 _ d1 rfl rfl
  have e2 : Tr enc Tryd.prog W 3 ((([u0, u1, u2, u3, u4] : List Value).drop 2).take (Tryd.prog.cellsOf 3)) d2 := hf 2 _ d2 rfl rfl
  have e3 : Tr enc Tryd.prog W 3 ((([u0, u1, u2, u3, u4] : List Value).drop 3).take (Tryd.prog.cellsOf 3)) d3 := hf 3 _ d3 rfl rfl
  have e4 : Tr enc Tryd.prog W 3 ((([u0, u1, u2, u3, u4] : List Value).drop 4).take (Tryd.prog.cellsOf 3)) d4 := hf 4 _ d4 rfl rfl
  rw [cuint32] at e0 e1
  rw [cint] at e2 e3 e4
  obtain ⟨x0, g0, a0, b0, _⟩ := e0.u32 Tryd.underlying45
  obtain ⟨x1, g1, a1, b1, _⟩ := e1.u32 Tryd.underlying45
  obtain ⟨x2, g2, a2, b2, _⟩ := e2.i64 Tryd.underlying3
  obtain ⟨x3, g3, a3, b3, _⟩ := e3.i64 Tryd.underlying3
  obtain ⟨x4, g4, a4, b4, _⟩ := e4.i64 Tryd.underlying3
  simp at g0 g1 g2 g3 g4
  subst g0 g1 g2 g3 g4
  exact ⟨⟨x0, x1, x2, x3, x4⟩, rfl, ⟨a0, b0⟩, ⟨a1, b1⟩, ⟨a2, b2⟩, ⟨a3, b3⟩, ⟨a4, b4⟩⟩
theorem Tr.bkD (h : Tr enc Tryd.prog W 74 cs d) : ∃ b : BkD, cs = b.cells ∧ BkOk b := by
  obtain ⟨ds, hd, hl, hc, hf⟩ := h.struct Tryd.underlying74
  have hc3 : Tryd.prog.cellsOf 74 = 3 := by kernel_rfl
  rw [hc3] at hc
  obtain ⟨u0, u1, u2, rfl⟩ := three hc
  obtain ⟨d0, d1, d2, rfl⟩ := three (l := ds) (by simpa using hl)
  have e0 : Tr enc Tryd.prog W 3 ((([u0, u1, u2] : List Value).drop 0).take (Tryd.prog.cellsOf 3)) d0 := hf 0 _ d0 rfl rfl
  have e1 : Tr enc Tryd.prog W 45 ((([u0, u1, u2] : List Value).drop 1).take (Tryd.prog.cellsOf 45)) d1 := hf 1 _ d1 rfl rfl
  have e2 : Tr enc Tryd.prog W 3 ((([u0, u1, u2] : List Value).drop 2).take (Tryd.prog.cellsOf 3)) d2 := hf 2 _ d2 rfl rfl
  rw [cuint32] at e1
  rw [cint] at e0 e2
  obtain ⟨x0, g0, a0, b0, _⟩ := e0.i64 Tryd.underlying3
  obtain ⟨x1, g1, a1, b1, _⟩ := e1.u32 Tryd.underlying45
  obtain ⟨x2, g2, a2, b2, _⟩ := e2.i64 Tryd.underlying3
  simp at g0 g1 g2
  subst g0 g1 g2
  exact ⟨⟨x0, x1, x2⟩, rfl, ⟨a0, b0⟩, ⟨a1, b1⟩, ⟨a2, b2⟩⟩
theorem Tr.backs (h : Tr enc Tryd.prog W 71 cs d) :
    ∃ (a : Option Addr) (cap : Nat) (bs : List BkD), cs = [.slice a bs.length cap] ∧ RowK W a bs.length cap bs ∧ (∀ b ∈ bs, BkOk b) := by
  have hb24 : Tryd.prog.bytesOf 74 = 24 := by kernel_rfl
  have hc3 : Tryd.prog.cellsOf 74 = 3 := by kernel_rfl
  rcases h.slice Tryd.underlying71 with ⟨h1, _⟩ | ⟨a, len, cap, es, rest, h1, _, h2, h3, h4, h5, h6, h7⟩
  · exact ⟨none, 0, [], h1, RowS.nil _ _ _ _ (by omega), by simp⟩
  · rw [hc3] at h7
    have key : ∀ i (hi : i < es.length), ∃ b : BkD, BkOk b ∧ ∀ j u, b.cells[j]? = some u → W.cell? (a.add (i * 3 + j)) = some u := by
      intro i hi
      obtain ⟨us, hu1, hu2, hu3⟩ := h7 i es[i] (List.getElem?_eq_getElem hi)
      obtain ⟨b, rfl, hb⟩ := hu3.bkD
      refine ⟨b, hb, fun j u hu => ?_⟩
      obtain ⟨hj, rfl⟩ := List.getElem?_eq_some_iff.1 hu
      exact hu2 j hj
    let bs : List BkD := List.ofFn (fun i : Fin es.length => Classical.choose (key i i.2))
    have hbl : bs.length = es.length := List.length_ofFn
    have hget : ∀ i (hi : i < bs.length), BkOk bs[i] ∧ ∀ j u, bs[i].cells[j]? = some u → W.cell? (a.add (i * 3 + j)) = some u := by
      intro i hi
      have e : bs[i] = Classical.choose (key i (by omega)) := List.getElem_ofFn (h := hi)
      rw [e]
      exact Classical.choose_spec (key i (by omega))
    refine ⟨some a, cap, bs, by rw [h1, hbl, h2], ⟨by simp, by rw [hbl, h2]; exact h4, h5, ?_, ?_⟩, ?_⟩
    · intro l hl
      obtain ⟨b, _, rfl⟩ := List.mem_map.1 hl
      rfl
    · by_cases h0 : bs.length = 0
      · exact .inl h0
      · obtain ⟨b, off, spot⟩ := a
        have hc0 := (hget 0 (by omega)).2 0 _ rfl
        have hspot : spot = none := by simpa [Addr.add] using World.cell?_spot hc0
        subst hspot
        have ea : ∀ j, (⟨b, off, none⟩ : Addr).add j = ⟨b, off + j, none⟩ := fun j => by simp only [Addr.add]; split <;> simp_all
        rw [ea] at hc0
        refine .inr ⟨b, off, rfl, cell_lt hc0, fun i hi j u hu => ?_⟩
        have hi' : i < bs.length := by simpa using hi
        have := (hget i hi').2 j u (by simpa using hu)
        rw [ea] at this
        rw [Nat.add_assoc]; exact this
    · intro b hb
      obtain ⟨i, hi, rfl⟩ := List.getElem_of_mem hb
      exact (hget i hi).1
end
end Go.Proofs.YthliikkllagodaaDoor
