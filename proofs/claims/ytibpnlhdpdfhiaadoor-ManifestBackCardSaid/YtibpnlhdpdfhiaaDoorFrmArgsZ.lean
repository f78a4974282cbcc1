/- A frame that came in; a row of frames. -/
import Derived.Test.YtibpnlhdpdfhiaaDoorGAZ
import Derived.Test.YtibpnlhdpdfhiaaDoorFrmSameZ
set_option linter.unusedVariables false
namespace Go.Proofs.YtibpnlhdpdfhiaaDoor
open Go.ChangeShapes Go.WideShapes Go.ChangeAt Go.RowKit

/-- A frame's parts, where its body lies, what it is. -/
structure FrD where
  k : Int
  v : Int
  a : Option Addr
  cap : Nat
  ys : List Nat
def FrD.cells (f : FrD) : List Value := [.int .i64 f.k, .int .i64 f.v, .slice f.a f.ys.length f.cap]
structure FrOk (w : World) (f : FrD) : Prop where
  row : RowB w f.a f.ys.length f.cap f.ys
  k64 : -9223372036854775808 ≤ f.k ∧ f.k ≤ 9223372036854775807
  v64 : -9223372036854775808 ≤ f.v ∧ f.v ≤ 9223372036854775807

theorem Tr.frame {H : Type} {enc : TypeId × Value → H} {W : World} {cs : List Value} {d : DataW H} (h : Tr enc Tryd.prog W 33 cs d) :
    ∃ f : FrD, cs = f.cells ∧ FrOk W f ∧ f.cap ≤ 140737488351232 ∧ f.ys.length + 2 ≤ Rows.uptoBulk d := by
  obtain ⟨ds, hd, hl, hc, hf⟩ := h.struct Tryd.underlying33
  have hc3 : Tryd.prog.cellsOf 33 = 3 := by kernel_rfl
  have ci : Tryd.prog.cellsOf 3 = 1 := by kernel_rfl
  have cb : Tryd.prog.cellsOf 25 = 1 := by kernel_rfl
  rw [hc3] at hc
  obtain ⟨u0, u1, u2, rfl⟩ := three hc
  obtain ⟨d0, d1, d2, rfl⟩ := three (l := ds) (by simpa using hl)
  have e0 : Tr enc Tryd.prog W 3 ((([u0, u1, u2] : List Value).drop 0).take (Tryd.prog.cellsOf 3)) d0 := hf 0 _ d0 rfl rfl
  have e1 : Tr enc Tryd.prog W 3 ((([u0, u1, u2] : List Value).drop 1).take (Tryd.prog.cellsOf 3)) d1 := hf 1 _ d1 rfl rfl
  have e2 : Tr enc Tryd.prog W 25 ((([u0, u1, u2] : List Value).drop 2).take (Tryd.prog.cellsOf 25)) d2 := hf 2 _ d2 rfl rfl
  rw [ci] at e0 e1
  rw [cb] at e2
  obtain ⟨k, g0, k1, k2, _⟩ := e0.i64 Tryd.underlying3
  obtain ⟨v, g1, v1, v2, _⟩ := e1.i64 Tryd.underlying3
  obtain ⟨a, len, cap, xs, g2, hr, hcap, hb⟩ := e2.bytes Tryd.underlying25 Tryd.underlying5 (by kernel_rfl) (by kernel_rfl)
  simp at g0 g1 g2
  subst g0 g1 g2 hd
  have hx := hr.1
  subst hx
  refine ⟨⟨k, v, a, cap, xs⟩, rfl, ⟨hr, ⟨k1, k2⟩, ⟨v1, v2⟩⟩, hcap, ?_⟩
  simp only [Rows.uptoBulk, Rows.uptoBulkAll]
  omega
theorem ArgIn.frame {H : Type} {enc : TypeId × Value → H} {W : World} {base : Nat} {v : Value} {d : DataW H} {p : List MemPlace} (h : ArgIn enc Tryd.prog W base 33 v d p) :
    ∃ f : FrD, v = .agg #[.int .i64 f.k, .int .i64 f.v, .slice f.a f.ys.length f.cap] ∧ FrOk W f ∧ f.cap ≤ 140737488351232 ∧ f.ys.length + 2 ≤ Rows.uptoBulk d := by
  obtain ⟨cs, rfl, _⟩ := h.struct Tryd.underlying33
  have ht := h.tr
  obtain ⟨f, hc, h1, h2, h3⟩ := ht.frame
  simp only [Value.cells] at hc
  subst hc
  exact ⟨f, rfl, h1, h2, h3⟩
end Go.Proofs.YtibpnlhdpdfhiaaDoor
