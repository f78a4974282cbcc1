/- The openers of the disk's laws. -/
import Derived.Test.YtmokcfmlolohaaaHDZ
import Derived.Test.YtmokcfmlolohaaaGAZ
set_option linter.unusedVariables false
namespace Go.Proofs.Ytmokcfmlolohaaa
open Go.ChangeShapes Go.WideShapes Go.ChangeAt Go.RowKit

/-- A call to a disk; its bytes lie elsewhere. -/
structure CallK where
  do_ : Int
  n : Int
  name : ByteArray
  tn : ByteArray
def CallK.agg (c : CallK) (a : Option Addr) (l cp : Nat) : Array Value := #[.int .i64 c.do_, .int .i64 c.n, .string c.name, .string c.tn, .slice a l cp]
structure CallKOk (c : CallK) : Prop where
  d : -9223372036854775808 ≤ c.do_ ∧ c.do_ ≤ 9223372036854775807
  n : -9223372036854775808 ≤ c.n ∧ c.n ≤ 9223372036854775807
  name : c.name.size ≤ 281474976710656
  tn : c.tn.size ≤ 281474976710656
section
variable {H : Type} {enc : TypeId × Value → H} {W : World} {base : Nat} {v : Value} {cs : List Value} {d : DataW H} {p : List MemPlace}
theorem five' {α : Type} {l : List α} (h : l.length = 5) : ∃ a b c d e, l = [a, b, c, d, e] := by
  match l, h with
  | [a, b, c, d, e], _ => exact ⟨a, b, c, d, e, rfl⟩
set_option maxRecDepth 20000 in
theorem Tr.callK (h : Tr enc Try.prog W 31 cs d) : ∃ (c : CallK) (a : Option Addr) (l cp : Nat) (xs : List Nat), cs = (c.agg a l cp).toList ∧ CallKOk c ∧ RowB W a l cp xs := by
  obtain ⟨ds, hd, hl, hc, hf⟩ := h.struct Try.underlying31
  have hc5 : Try.prog.cellsOf 31 = 5 := by kernel_rfl
  have ci : Try.prog.cellsOf 3 = 1 := by kernel_rfl
  have cs1 : Try.prog.cellsOf 9 = 1 := by kernel_rfl
  have cb : Try.prog.cellsOf 29 = 1 := by kernel_rfl
  rw [hc5] at hc
  obtain ⟨u0, u1, u2, u3, u4, rfl⟩ := five' hc
  obtain ⟨d0, d1, d2, d3, d4, rfl⟩ := five' (l := ds) (by simpa using hl)
  have e0 : Tr enc Try.prog W 3 ((([u0, u1, u2, u3, u4] : List Value).drop 0).take (Try.prog.cellsOf 3)) d0 := hf 0 _ d0 rfl rfl
  have e1 : Tr enc Try.prog W 3 ((([u0, u1, u2, u3, u4] : List Value).drop 1).take (Try.prog.cellsOf 3)) d1 := hf 1 _ d1 rfl rfl
  have e2 : Tr enc Try.prog W 9 ((([u0, u1, u2, u3, u4] : List Value).drop 2).take (Try.prog.cellsOf 9)) d2 := hf 2 _ d2 rfl rfl
  have e3 : Tr enc Try.prog W 9 ((([u0, u1, u2, u3, u4] : List Value).drop 3).take (Try.prog.cellsOf 9)) d3 := hf 3 _ d3 rfl rfl
  have e4 : Tr enc Try.prog W 29 ((([u0, u1, u2, u3, u4] : List Value).drop 4).take (Try.prog.cellsOf 29)) d4 := hf 4 _ d4 rfl rfl
  rw [cs1] at e2 e3
  rw [ci] at e0 e1
  rw [cb] at e4
  obtain ⟨x0, g0, a0, b0, _⟩ := e0.i64 Try.underlying3
  obtain ⟨x1, g1, a1, b1, _⟩ := e1.i64 Try.underlying3
  obtain ⟨x2, g2, _, a2⟩ := e2.string Try.underlying9
  obtain ⟨x3, g3, _, a3⟩ := e3.string Try.underlying9
  obtain ⟨a, l, cp, xs, g4, hr, -, -⟩ := e4.bytes Try.underlying29 Try.underlying5 (by kernel_rfl) (by kernel_rfl)
  simp at g0 g1 g2 g3 g4
  subst g0 g1 g2 g3 g4
  exact ⟨⟨x0, x1, x2, x3⟩, a, l, cp, xs, rfl, ⟨⟨a0, b0⟩, ⟨a1, b1⟩, Nat.le_trans a2 (by decide), Nat.le_trans a3 (by decide)⟩, hr⟩
set_option maxRecDepth 20000 in
theorem ArgIn.callK (h : ArgIn enc Try.prog W base 31 v d p) : ∃ (c : CallK) (a : Option Addr) (l cp : Nat), v = .agg (c.agg a l cp) ∧ CallKOk c ∧ ∃ xs, RowB W a l cp xs := by
  obtain ⟨cs, rfl, _⟩ := h.struct Try.underlying31
  obtain ⟨c, a, l, cp, xs, hcs, hok, hr⟩ := h.tr.callK
  refine ⟨c, a, l, cp, ?_, hok, xs, hr⟩
  simp only [Value.cells] at hcs
  have := congrArg List.toArray hcs
  simp at this
  rw [this]
/-- A row of bytes that lies somewhere. -/
structure RowF3 where
  a : Option Addr
  l : Nat
  c : Nat
  xs : List Nat
def RowF3.cells (r : RowF3) : List Value := [.slice r.a r.l r.c]
set_option maxRecDepth 20000 in
theorem ArgIn.rowsB (h : ArgIn enc Try.prog W base 51 v d p) : ∃ (a : Option Addr) (cap : Nat) (L : List RowF3), v = .slice a L.length cap ∧ RowS W a L.length cap 1 (L.map RowF3.cells) ∧ ∀ r ∈ L, RowB W r.a r.l r.c r.xs := by
  obtain ⟨a0, len0, cap0, rfl⟩ := okWide_slice Try.underlying51 h.ok
  obtain ⟨a, cap, bs, hcs, hr, hok, _⟩ := h.tr.rowsOf RowF3.cells (fun r => RowB W r.a r.l r.c r.xs) 1 Try.underlying51 (by kernel_rfl) (fun _ => rfl) (by decide) (fun cs d h => by
    obtain ⟨a, l, cp, xs, g4, hr, -, -⟩ := h.bytes Try.underlying29 Try.underlying5 (by kernel_rfl) (by kernel_rfl)
    exact ⟨⟨a, l, cp, xs⟩, g4, hr⟩)
  simp [Value.cells] at hcs
  obtain ⟨rfl, rfl, rfl⟩ := hcs
  exact ⟨_, _, bs, rfl, hr, hok⟩
/-- Calls to a disk that came in: each with its bytes. -/
structure CallB where
  c : CallK
  a : Option Addr
  l : Nat
  cp : Nat
  xs : List Nat
def CallB.cells (k : CallB) : List Value := (k.c.agg k.a k.l k.cp).toList
set_option maxRecDepth 20000 in
theorem ArgIn.callsK (h : ArgIn enc Try.prog W base 22 v d p) : ∃ (a : Option Addr) (cap : Nat) (L : List CallB), v = .slice a L.length cap ∧ RowS W a L.length cap 5 (L.map CallB.cells) ∧ ∀ k ∈ L, CallKOk k.c ∧ RowB W k.a k.l k.cp k.xs := by
  obtain ⟨a0, len0, cap0, rfl⟩ := okWide_slice Try.underlying22 h.ok
  obtain ⟨a, cap, bs, hcs, hr, hok, _⟩ := h.tr.rowsOf CallB.cells (fun k => CallKOk k.c ∧ RowB W k.a k.l k.cp k.xs) 5 Try.underlying22 (by kernel_rfl) (fun _ => rfl) (by decide) (fun cs d h => by
    obtain ⟨c, a, l, cp, xs, g, ok, hr⟩ := h.callK
    exact ⟨⟨c, a, l, cp, xs⟩, g, ok, hr⟩)
  simp [Value.cells] at hcs
  obtain ⟨rfl, rfl, rfl⟩ := hcs
  exact ⟨_, _, bs, rfl, hr, hok⟩
end
end Go.Proofs.Ytmokcfmlolohaaa
