/- A record that came in. -/
import Derived.Test.YtbklngcocbnijaaRecMays
set_option linter.unusedVariables false
namespace Go.Proofs.Ytbklngcocbnijaa
open Go.ChangeShapes Go.WideShapes Go.ChangeAt Go.RowKit

section
variable {H : Type} {enc : TypeId × Value → H} {W : World} {base : Nat} {v : Value} {cs : List Value} {d : DataW H} {p : List MemPlace}
theorem listFive {α : Type} {l : List α} (h : l.length = 5) : ∃ a b c d e, l = [a, b, c, d, e] := by
  match l, h with
  | [a, b, c, d, e], _ => exact ⟨a, b, c, d, e, rfl⟩
theorem listFour {α : Type} {l : List α} (h : l.length = 4) : ∃ a b c d, l = [a, b, c, d] := by
  match l, h with
  | [a, b, c, d], _ => exact ⟨a, b, c, d, rfl⟩
theorem listSeven {α : Type} {l : List α} (h : l.length = 7) : ∃ a b c d e f g, l = [a, b, c, d, e, f, g] := by
  match l, h with
  | [a, b, c, d, e, f, g], _ => exact ⟨a, b, c, d, e, f, g, rfl⟩
theorem listEight {α : Type} {l : List α} (h : l.length = 8) : ∃ a b c d e f g i, l = [a, b, c, d, e, f, g, i] := by
  match l, h with
  | [a, b, c, d, e, f, g, i], _ => exact ⟨a, b, c, d, e, f, g, i, rfl⟩
theorem listFourteen {α : Type} {l : List α} (h : l.length = 14) : ∃ a0 a1 a2 a3 a4 a5 a6 a7 a8 a9 b0 b1 b2 b3, l = [a0, a1, a2, a3, a4, a5, a6, a7, a8, a9, b0, b1, b2, b3] := by
  match l, h with
  | [a0, a1, a2, a3, a4, a5, a6, a7, a8, a9, b0, b1, b2, b3], _ => exact ⟨a0, a1, a2, a3, a4, a5, a6, a7, a8, a9, b0, b1, b2, b3, rfl⟩
theorem cint : Try.prog.cellsOf 3 = 1 := by kernel_rfl
theorem cint64 : Try.prog.cellsOf 2 = 1 := by kernel_rfl
theorem cuint32 : Try.prog.cellsOf 22 = 1 := by kernel_rfl
theorem cslice : Try.prog.cellsOf 27 = 1 := by kernel_rfl

theorem Tr.tupD (h : Tr enc Try.prog W 24 cs d) : ∃ t : TupD, cs = [.int .u32 t.src, .int .u32 t.dst, .int .i64 t.proto, .int .i64 t.sport, .int .i64 t.dport] ∧ TupOk t := by
  obtain ⟨ds, hd, hl, hc, hf⟩ := h.struct Try.underlying24
  have hc5 : Try.prog.cellsOf 24 = 5 := by kernel_rfl
  rw [hc5] at hc
  obtain ⟨u0, u1, u2, u3, u4, rfl⟩ := listFive hc
  obtain ⟨d0, d1, d2, d3, d4, rfl⟩ := listFive (l := ds) (by simpa using hl)
  have e0 : Tr enc Try.prog W 22 ((([u0, u1, u2, u3, u4] : List Value).drop 0).take (Try.prog.cellsOf 22)) d0 := hf 0 _ d0 rfl rfl
  have e1 : Tr enc Try.prog W 22 ((([u0, u1, u2, u3, u4] : List Value).drop 1).take (Try.prog.cellsOf 22)) d1 := hf 1 _ d1 rfl rfl
  have e2 : Tr enc Try.prog W 3 ((([u0, u1, u2, u3, u4] : List Value).drop 2).take (Try.prog.cellsOf 3)) d2 := hf 2 _ d2 rfl rfl
  have e3 : Tr enc Try.prog W 3 ((([u0, u1, u2, u3, u4] : List Value).drop 3).take (Try.prog.cellsOf 3)) d3 := hf 3 _ d3 rfl rfl
  have e4 : Tr enc Try.prog W 3 ((([u0, u1, u2, u3, u4] : List Value).drop 4).take (Try.prog.cellsOf 3)) d4 := hf 4 _ d4 rfl rfl
  rw [cuint32] at e0 e1
  rw [cint] at e2 e3 e4
  obtain ⟨x0, g0, a0, b0, _⟩ := e0.u32 Try.underlying22
  obtain ⟨x1, g1, a1, b1, _⟩ := e1.u32 Try.underlying22
  obtain ⟨x2, g2, a2, b2, _⟩ := e2.i64 Try.underlying3
  obtain ⟨x3, g3, a3, b3, _⟩ := e3.i64 Try.underlying3
  obtain ⟨x4, g4, a4, b4, _⟩ := e4.i64 Try.underlying3
  simp at g0 g1 g2 g3 g4
  subst g0 g1 g2 g3 g4
  exact ⟨⟨x0, x1, x2, x3, x4⟩, rfl, ⟨a0, b0⟩, ⟨a1, b1⟩, ⟨a2, b2⟩, ⟨a3, b3⟩, ⟨a4, b4⟩⟩
theorem Tr.bkD (h : Tr enc Try.prog W 61 cs d) : ∃ b : BkD, cs = b.cells ∧ BkOk b := by
  obtain ⟨ds, hd, hl, hc, hf⟩ := h.struct Try.underlying61
  have hc3 : Try.prog.cellsOf 61 = 3 := by kernel_rfl
  rw [hc3] at hc
  obtain ⟨u0, u1, u2, rfl⟩ := three hc
  obtain ⟨d0, d1, d2, rfl⟩ := three (l := ds) (by simpa using hl)
  have e0 : Tr enc Try.prog W 3 ((([u0, u1, u2] : List Value).drop 0).take (Try.prog.cellsOf 3)) d0 := hf 0 _ d0 rfl rfl
  have e1 : Tr enc Try.prog W 22 ((([u0, u1, u2] : List Value).drop 1).take (Try.prog.cellsOf 22)) d1 := hf 1 _ d1 rfl rfl
  have e2 : Tr enc Try.prog W 3 ((([u0, u1, u2] : List Value).drop 2).take (Try.prog.cellsOf 3)) d2 := hf 2 _ d2 rfl rfl
  rw [cuint32] at e1
  rw [cint] at e0 e2
  obtain ⟨x0, g0, a0, b0, _⟩ := e0.i64 Try.underlying3
  obtain ⟨x1, g1, a1, b1, _⟩ := e1.u32 Try.underlying22
  obtain ⟨x2, g2, a2, b2, _⟩ := e2.i64 Try.underlying3
  simp at g0 g1 g2
  subst g0 g1 g2
  exact ⟨⟨x0, x1, x2⟩, rfl, ⟨a0, b0⟩, ⟨a1, b1⟩, ⟨a2, b2⟩⟩
theorem Tr.backs (h : Tr enc Try.prog W 27 cs d) :
    ∃ (a : Option Addr) (cap : Nat) (bs : List BkD), cs = [.slice a bs.length cap] ∧ RowK W a bs.length cap bs ∧ (∀ b ∈ bs, BkOk b) := by
  have hb24 : Try.prog.bytesOf 61 = 24 := by kernel_rfl
  have hc3 : Try.prog.cellsOf 61 = 3 := by kernel_rfl
  rcases h.slice Try.underlying27 with ⟨h1, _⟩ | ⟨a, len, cap, es, rest, h1, _, h2, h3, h4, h5, h6, h7⟩
  · exact ⟨none, 0, [], h1, RowS.nil _ _ _ _ (by omega), by simp⟩
  · rw [hc3] at h7
    have key : ∀ i (hi : i < es.length), ∃ b : BkD, BkOk b ∧ ∀ j u, b.cells[j]? = some u → W.cell? (a.add (i * 3 + j)) = some u := by
      intro i hi
      obtain ⟨us, hu1, hu2, hu3⟩ := h7 i es[i] (List.getElem?_eq_getElem hi)
      obtain ⟨b, rfl, hb⟩ := hu3.bkD
      refine ⟨b, hb, fun j u hu => ?_⟩
      obtain ⟨hj, rfl⟩ := List.getElem?_eq_some_iff.1 hu
      exact hu2 j hj
    let bs : List BkD := List.ofFn (fun i : Fin es.length => Classical.choose (key i i.2))
    have hbl : bs.length = es.length := List.length_ofFn
    have hget : ∀ i (hi : i < bs.length), BkOk bs[i] ∧ ∀ j u, bs[i].cells[j]? = some u → W.cell? (a.add (i * 3 + j)) = some u := by
      intro i hi
      have e : bs[i] = Classical.choose (key i (by omega)) := List.getElem_ofFn (h := hi)
      rw [e]
      exact Classical.choose_spec (key i (by omega))
    refine ⟨some a, cap, bs, by rw [h1, hbl, h2], ⟨by simp, by rw [hbl, h2]; exact h4, h5, ?_, ?_⟩, ?_⟩
    · intro l hl
      obtain ⟨b, _, rfl⟩ := List.mem_map.1 hl
      rfl
    · by_cases h0 : bs.length = 0
      · exact .inl h0
      · obtain ⟨b, off, spot⟩ := a
        have hc0 := (hget 0 (by omega)).2 0 _ rfl
        have hspot : spot = none := by simpa [Addr.add] using World.cell?_spot hc0
        subst hspot
        have ea : ∀ j, (⟨b, off, none⟩ : Addr).add j = ⟨b, off + j, none⟩ := fun j => by simp only [Addr.add]; split <;> simp_all
        rw [ea] at hc0
        refine .inr ⟨b, off, rfl, cell_lt hc0, fun i hi j u hu => ?_⟩
        have hi' : i < bs.length := by simpa using hi
        have := (hget i hi').2 j u (by simpa using hu)
        rw [ea] at this
        rw [Nat.add_assoc]; exact this
    · intro b hb
      obtain ⟨i, hi, rfl⟩ := List.getElem_of_mem hb
      exact (hget i hi).1
theorem Tr.recD (h : Tr enc Try.prog W 29 cs d) : ∃ (r : RecD) (a : Option Addr) (cap : Nat), cs = (rcs r a cap).toList ∧ RecOk r ∧ RowK W a r.bs.length cap r.bs := by
  obtain ⟨ds, hd, hl, hc, hf⟩ := h.struct Try.underlying29
  have hcr : Try.prog.cellsOf 29 = 14 := by kernel_rfl
  have hcf : Try.prog.cellsOf 26 = 8 := by kernel_rfl
  have hct : Try.prog.cellsOf 24 = 5 := by kernel_rfl
  rw [hcr] at hc
  obtain ⟨u0, u1, u2, u3, u4, u5, u6, u7, u8, u9, w0, w1, w2, w3, rfl⟩ := listFourteen hc
  obtain ⟨d0, d1, d2, d3, d4, d5, d6, rfl⟩ := listSeven (l := ds) (by simpa using hl)
  have e0 : Tr enc Try.prog W 3 ((([u0, u1, u2, u3, u4, u5, u6, u7, u8, u9, w0, w1, w2, w3] : List Value).drop 0).take (Try.prog.cellsOf 3)) d0 := hf 0 _ d0 rfl rfl
  have e1 : Tr enc Try.prog W 26 ((([u0, u1, u2, u3, u4, u5, u6, u7, u8, u9, w0, w1, w2, w3] : List Value).drop 1).take (Try.prog.cellsOf 26)) d1 := hf 1 _ d1 rfl rfl
  have e2 : Tr enc Try.prog W 3 ((([u0, u1, u2, u3, u4, u5, u6, u7, u8, u9, w0, w1, w2, w3] : List Value).drop 9).take (Try.prog.cellsOf 3)) d2 := hf 2 _ d2 rfl rfl
  have e3 : Tr enc Try.prog W 27 ((([u0, u1, u2, u3, u4, u5, u6, u7, u8, u9, w0, w1, w2, w3] : List Value).drop 10).take (Try.prog.cellsOf 27)) d3 := hf 3 _ d3 rfl rfl
  have e4 : Tr enc Try.prog W 3 ((([u0, u1, u2, u3, u4, u5, u6, u7, u8, u9, w0, w1, w2, w3] : List Value).drop 11).take (Try.prog.cellsOf 3)) d4 := hf 4 _ d4 rfl rfl
  have e5 : Tr enc Try.prog W 2 ((([u0, u1, u2, u3, u4, u5, u6, u7, u8, u9, w0, w1, w2, w3] : List Value).drop 12).take (Try.prog.cellsOf 2)) d5 := hf 5 _ d5 rfl rfl
  have e6 : Tr enc Try.prog W 3 ((([u0, u1, u2, u3, u4, u5, u6, u7, u8, u9, w0, w1, w2, w3] : List Value).drop 13).take (Try.prog.cellsOf 3)) d6 := hf 6 _ d6 rfl rfl
  rw [cint] at e0 e2 e4 e6
  rw [cint64] at e5
  rw [cslice] at e3
  rw [hcf] at e1
  obtain ⟨x0, g0, a0, b0, _⟩ := e0.i64 Try.underlying3
  obtain ⟨x2, g2, a2, b2, _⟩ := e2.i64 Try.underlying3
  obtain ⟨x4, g4, a4, b4, _⟩ := e4.i64 Try.underlying3
  obtain ⟨x5, g5, a5, b5, _⟩ := e5.i64 Try.underlying2
  obtain ⟨x6, g6, a6, b6, _⟩ := e6.i64 Try.underlying3
  obtain ⟨a, cap, bs, g3, hrow, hbs⟩ := e3.backs
  obtain ⟨fs, _, hfl, _, hff⟩ := e1.struct Try.underlying26
  obtain ⟨f0, f1, f2, f3, rfl⟩ := listFour (l := fs) (by simpa using hfl)
  have k0 : Tr enc Try.prog W 24 ((([u1, u2, u3, u4, u5, u6, u7, u8] : List Value).drop 0).take (Try.prog.cellsOf 24)) f0 := hff 0 _ f0 rfl rfl
  have k1 : Tr enc Try.prog W 3 ((([u1, u2, u3, u4, u5, u6, u7, u8] : List Value).drop 5).take (Try.prog.cellsOf 3)) f1 := hff 1 _ f1 rfl rfl
  have k2 : Tr enc Try.prog W 3 ((([u1, u2, u3, u4, u5, u6, u7, u8] : List Value).drop 6).take (Try.prog.cellsOf 3)) f2 := hff 2 _ f2 rfl rfl
  have k3 : Tr enc Try.prog W 2 ((([u1, u2, u3, u4, u5, u6, u7, u8] : List Value).drop 7).take (Try.prog.cellsOf 2)) f3 := hff 3 _ f3 rfl rfl
  rw [hct] at k0
  rw [cint] at k1 k2
  rw [cint64] at k3
  obtain ⟨t, gt, ht⟩ := k0.tupD
  obtain ⟨y1, q1, m1, n1, _⟩ := k1.i64 Try.underlying3
  obtain ⟨y2, q2, m2, n2, _⟩ := k2.i64 Try.underlying3
  obtain ⟨y3, q3, m3, n3, _⟩ := k3.i64 Try.underlying2
  simp at g0 g2 g3 g4 g5 g6 q1 q2 q3 gt
  obtain ⟨r0, r1, r2, r3, r4⟩ := gt
  subst g0 g2 g3 g4 g5 g6 q1 q2 q3 r0 r1 r2 r3 r4
  exact ⟨⟨x0, t, y1, y2, y3, x2, bs, x4, x5, x6⟩, a, cap, rfl, ⟨⟨a0, b0⟩, ht, ⟨m1, n1⟩, ⟨m2, n2⟩, ⟨m3, n3⟩, ⟨a2, b2⟩, hbs, ⟨a4, b4⟩, ⟨a5, b5⟩, ⟨a6, b6⟩⟩, hrow⟩
theorem ArgIn.recD (h : ArgIn enc Try.prog W base 29 v d p) : ∃ (r : RecD) (a : Option Addr) (cap : Nat), v = .agg (rcs r a cap) ∧ RecOk r ∧ RowK W a r.bs.length cap r.bs := by
  obtain ⟨cs, rfl, _⟩ := h.struct Try.underlying29
  obtain ⟨r, a, cap, hc, h1, h2⟩ := h.tr.recD
  simp only [Value.cells] at hc
  subst hc
  exact ⟨r, a, cap, rfl, h1, h2⟩
end
end Go.Proofs.Ytbklngcocbnijaa
