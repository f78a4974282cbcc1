/- A view that comes in. -/
import Derived.Test.YtdhimlkndpiacaaGreatStArgsZ
import Derived.Test.YtdhimlkndpiacaaGreatGFZ
import Derived.Test.YtdhimlkndpiacaaGreatJDZ
set_option linter.unusedVariables false
set_option linter.unusedSimpArgs false
namespace Go.Proofs.YtdhimlkndpiacaaGreat
open Go.ChangeShapes Go.WideShapes Go.ChangeAt Go.RowKit

section
variable {H : Type} {enc : TypeId × Value → H} {W : World} {base : Nat} {v : Value} {d : DataW H} {p : List MemPlace} {cs : List Value}
def drOk (x : DR) : Prop := i64 x.b ∧ i64 x.u
/-- What is known of its numbers. -/
structure VwOk (x : StS) : Prop where
  gen : i64 x.gen
  bs : ∀ b ∈ x.bs, BkOk b
  D : ∀ d ∈ x.D, i64 d.b ∧ i64 d.u
  F : ∀ f ∈ x.F, FlOk f
theorem VwOk.recs {x : StS} (o : VwOk x) (a : Option Addr) (c : Nat) : ∀ y ∈ recsV x a c, RecOk y.r := by
  intro y hy
  unfold recsV at hy
  rcases List.mem_cons.1 hy with rfl | hy
  · exact ⟨i64_k14 3 (by decide), tupOk_0, i64_z14, i64_z14, i64_z14, o.gen, o.bs, i64_z14, i64_z14, i64_z14⟩
  · rcases List.mem_append.1 hy with hy | hy
    · obtain ⟨d, hd, rfl⟩ := List.mem_map.1 hy
      exact ⟨i64_k14 4 (by decide), tupOk_0, i64_z14, i64_z14, i64_z14, i64_z14, (fun b hb => by cases hb), (o.D d hd).1, (o.D d hd).2, i64_z14⟩
    · obtain ⟨f, hf, rfl⟩ := List.mem_map.1 hy
      have k := o.F f hf
      exact ⟨i64_k14 1 (by decide), k.t, k.fb, k.fg, k.fs, i64_z14, (fun b hb => by cases hb), i64_z14, i64_z14, i64_z14⟩
theorem two14 {α : Type} {l : List α} (h : l.length = 2) : ∃ a b, l = [a, b] := by
  match l, h with
  | [a, b], _ => exact ⟨a, b, rfl⟩
theorem Tr.drD (h : Tr enc Tryz.prog W 93 cs d) : ∃ x : DR, cs = dcl x ∧ drOk x := by
  obtain ⟨ds, hd, hl, hc, hf⟩ := h.struct Tryz.underlying93
  have hcd : Tryz.prog.cellsOf 93 = 2 := by kernel_rfl
  rw [hcd] at hc
  obtain ⟨u1, u2, rfl⟩ := two14 hc
  obtain ⟨f0, f1, rfl⟩ := two14 (l := ds) (by simpa using hl)
  have k0 : Tr enc Tryz.prog W 3 ((([u1, u2] : List Value).drop 0).take (Tryz.prog.cellsOf 3)) f0 := hf 0 _ f0 rfl rfl
  have k1 : Tr enc Tryz.prog W 2 ((([u1, u2] : List Value).drop 1).take (Tryz.prog.cellsOf 2)) f1 := hf 1 _ f1 rfl rfl
  rw [cint] at k0
  rw [cint64] at k1
  obtain ⟨y0, q0, m0, n0, _⟩ := k0.i64 Tryz.underlying3
  obtain ⟨y1, q1, m1, n1, _⟩ := k1.i64 Tryz.underlying2
  simp at q0 q1
  subst q0 q1
  exact ⟨⟨y0, y1⟩, rfl, ⟨m0, n0⟩, ⟨m1, n1⟩⟩
set_option maxRecDepth 20000 in
theorem Tr.stV (h : Tr enc Tryz.prog W 35 cs d) : ∃ (x : StS) (a1 : Option Addr) (c1 : Nat) (a2 : Option Addr) (c2 : Nat) (a3 : Option Addr) (c3 : Nat), cs = (vcs x a1 c1 a2 c2 a3 c3).toList ∧ VwAt W x a1 c1 a2 c2 a3 c3 ∧ VwOk x := by
  obtain ⟨ds, hd, hl, hc, hf⟩ := h.struct Tryz.underlying35
  have hcs : Tryz.prog.cellsOf 35 = 4 := by kernel_rfl
  have hc2 : Tryz.prog.cellsOf 32 = 1 := by kernel_rfl
  have hc3 : Tryz.prog.cellsOf 33 = 1 := by kernel_rfl
  rw [hcs] at hc
  obtain ⟨u0, u1, u2, u3, rfl⟩ := listFour hc
  obtain ⟨d0, d1, d2, d3, rfl⟩ := listFour (l := ds) (by simpa using hl)
  have e0 : Tr enc Tryz.prog W 3 ((([u0, u1, u2, u3] : List Value).drop 0).take (Tryz.prog.cellsOf 3)) d0 := hf 0 _ d0 rfl rfl
  have e1 : Tr enc Tryz.prog W 31 ((([u0, u1, u2, u3] : List Value).drop 1).take (Tryz.prog.cellsOf 31)) d1 := hf 1 _ d1 rfl rfl
  have e2 : Tr enc Tryz.prog W 32 ((([u0, u1, u2, u3] : List Value).drop 2).take (Tryz.prog.cellsOf 32)) d2 := hf 2 _ d2 rfl rfl
  have e3 : Tr enc Tryz.prog W 33 ((([u0, u1, u2, u3] : List Value).drop 3).take (Tryz.prog.cellsOf 33)) d3 := hf 3 _ d3 rfl rfl
  rw [cint] at e0
  rw [cslice] at e1
  rw [hc2] at e2
  rw [hc3] at e3
  obtain ⟨x0, g0, m0, n0, _⟩ := e0.i64 Tryz.underlying3
  obtain ⟨a1, c1, bs, g1, r1, ok1⟩ := e1.backs
  obtain ⟨a2, c2, D, g2, r2, ok2, _⟩ := e2.rowsOf dcl drOk 2 Tryz.underlying32 (by kernel_rfl) (fun _ => rfl) (by decide) (fun cs d h => h.drD)
  obtain ⟨a3, c3, L, g3, r3, ok3, _⟩ := e3.rowsOf fcl FlOk 8 Tryz.underlying33 (by kernel_rfl) (fun _ => rfl) (by decide) (fun cs d h => h.flD)
  simp at g0 g1 g2 g3
  subst g0 g1 g2 g3
  exact ⟨⟨x0, bs, D, L⟩, a1, c1, a2, c2, a3, c3, rfl, ⟨r1, r2, r3⟩, ⟨⟨m0, n0⟩, ok1, ok2, ok3⟩⟩
theorem ArgIn.stV (h : ArgIn enc Tryz.prog W base 35 v d p) : ∃ (x : StS) (a1 : Option Addr) (c1 : Nat) (a2 : Option Addr) (c2 : Nat) (a3 : Option Addr) (c3 : Nat), v = .agg (vcs x a1 c1 a2 c2 a3 c3) ∧ VwAt W x a1 c1 a2 c2 a3 c3 ∧ VwOk x := by
  obtain ⟨cs, rfl, _⟩ := h.struct Tryz.underlying35
  obtain ⟨x, a1, c1, a2, c2, a3, c3, hc, h1, h2⟩ := h.tr.stV
  simp only [Value.cells] at hc
  have := congrArg List.toArray hc
  simp at this
  exact ⟨x, a1, c1, a2, c2, a3, c3, by rw [this], h1, h2⟩
end
end Go.Proofs.YtdhimlkndpiacaaGreat
