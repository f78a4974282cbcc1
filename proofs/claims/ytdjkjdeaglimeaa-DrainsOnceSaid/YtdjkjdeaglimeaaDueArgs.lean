/- The openers of the queue's laws. -/
import Derived.Test.YtdjkjdeaglimeaaRowsIn
set_option linter.unusedVariables false
namespace Go.Proofs.Ytdjkjdeaglimeaa
open Go.ChangeShapes Go.WideShapes Go.ChangeAt Go.RowKit

/-- A call to a queue. -/
structure CallQ where
  do_ : Int
  key : ByteArray
  at_ : Int
def CallQ.cells (c : CallQ) : List Value := [.int .i64 c.do_, .string c.key, .int .i64 c.at_]
def CallOk (c : CallQ) : Prop := c.key.size ≤ 281474976710656 ∧ (-9223372036854775808 ≤ c.do_ ∧ c.do_ ≤ 9223372036854775807) ∧ -9223372036854775808 ≤ c.at_ ∧ c.at_ ≤ 9223372036854775807
section
variable {H : Type} {enc : TypeId × Value → H} {P : Program} {W : World} {base : Nat} {T : TypeId} {v : Value} {cs : List Value} {d : DataW H} {p : List MemPlace}
theorem ArgIn.text (h : ArgIn enc P W base T v d p) (ht : P.underlying T = some .string) : ∃ s : ByteArray, v = .string s ∧ s.size ≤ 281474976710656 := by
  obtain ⟨s, rfl⟩ := okWide_string ht h.ok
  obtain ⟨s', h1, _, h2⟩ := h.tr.string ht
  simp only [Value.cells, List.cons.injEq, Value.string.injEq, and_true] at h1
  subst h1
  exact ⟨_, rfl, Nat.le_trans h2 (by decide)⟩
theorem three' {α : Type} {l : List α} (h : l.length = 3) : ∃ a b c, l = [a, b, c] := by
  match l, h with
  | [a, b, c], _ => exact ⟨a, b, c, rfl⟩
theorem Tr.callQ (h : Tr enc Try.prog W 30 cs d) : ∃ c : CallQ, cs = c.cells ∧ CallOk c := by
  obtain ⟨ds, hd, hl, hc, hf⟩ := h.struct Try.underlying30
  have hc3 : Try.prog.cellsOf 30 = 3 := by kernel_rfl
  have ci : Try.prog.cellsOf 3 = 1 := by kernel_rfl
  have ci2 : Try.prog.cellsOf 2 = 1 := by kernel_rfl
  have cs1 : Try.prog.cellsOf 9 = 1 := by kernel_rfl
  rw [hc3] at hc
  obtain ⟨u0, u1, u2, rfl⟩ := three' hc
  obtain ⟨d0, d1, d2, rfl⟩ := three' (l := ds) (by simpa using hl)
  have e0 : Tr enc Try.prog W 3 ((([u0, u1, u2] : List Value).drop 0).take (Try.prog.cellsOf 3)) d0 := hf 0 _ d0 rfl rfl
  have e1 : Tr enc Try.prog W 9 ((([u0, u1, u2] : List Value).drop 1).take (Try.prog.cellsOf 9)) d1 := hf 1 _ d1 rfl rfl
  have e2 : Tr enc Try.prog W 2 ((([u0, u1, u2] : List Value).drop 2).take (Try.prog.cellsOf 2)) d2 := hf 2 _ d2 rfl rfl
  rw [cs1] at e1
  rw [ci] at e0
  rw [ci2] at e2
  obtain ⟨x0, g0, a0, b0, _⟩ := e0.i64 Try.underlying3
  obtain ⟨x1, g1, _, a1⟩ := e1.string Try.underlying9
  obtain ⟨x2, g2, a2, b2, _⟩ := e2.i64 Try.underlying2
  simp at g0 g1 g2
  subst g0 g1 g2
  exact ⟨⟨x0, x1, x2⟩, rfl, Nat.le_trans a1 (by decide), ⟨a0, b0⟩, a2, b2⟩
set_option maxRecDepth 20000 in
theorem ArgIn.callsQ (h : ArgIn enc Try.prog W base 22 v d p) : ∃ (a : Option Addr) (cap : Nat) (l : List CallQ), v = .slice a l.length cap ∧ RowS W a l.length cap 3 (l.map CallQ.cells) ∧ (∀ c ∈ l, CallOk c) := by
  obtain ⟨a0, len0, cap0, rfl⟩ := okWide_slice Try.underlying22 h.ok
  obtain ⟨a, cap, bs, hcs, hr, hok, _⟩ := h.tr.rowsOf CallQ.cells CallOk 3 Try.underlying22 (by kernel_rfl) (fun _ => rfl) (by decide) (fun cs d h => h.callQ)
  simp [Value.cells] at hcs
  obtain ⟨rfl, rfl, rfl⟩ := hcs
  exact ⟨_, _, bs, rfl, hr, hok⟩
set_option maxRecDepth 20000 in
theorem ArgIn.keysQ (h : ArgIn enc Try.prog W base 35 v d p) : ∃ (a : Option Addr) (cap : Nat) (l : List ByteArray), v = .slice a l.length cap ∧ RowS W a l.length cap 1 (l.map (fun k => [Value.string k])) ∧ (∀ k ∈ l, k.size ≤ 281474976710656) := by
  obtain ⟨a0, len0, cap0, rfl⟩ := okWide_slice Try.underlying35 h.ok
  obtain ⟨a, cap, bs, hcs, hr, hok, _⟩ := h.tr.rowsOf (fun k : ByteArray => [Value.string k]) (fun k => k.size ≤ 281474976710656) 1 Try.underlying35 (by kernel_rfl) (fun _ => rfl) (by decide) (fun cs d h => by
    obtain ⟨x, g, _, a1⟩ := h.string Try.underlying9
    exact ⟨x, g, Nat.le_trans a1 (by decide)⟩)
  simp [Value.cells] at hcs
  obtain ⟨rfl, rfl, rfl⟩ := hcs
  exact ⟨_, _, bs, rfl, hr, hok⟩
set_option maxRecDepth 20000 in
theorem ArgIn.timesQ (h : ArgIn enc Try.prog W base 51 v d p) : ∃ (a : Option Addr) (cap : Nat) (l : List Int), v = .slice a l.length cap ∧ RowS W a l.length cap 1 (l.map (fun k => [Value.int .i64 k])) ∧ (∀ k ∈ l, -9223372036854775808 ≤ k ∧ k ≤ 9223372036854775807) := by
  obtain ⟨a0, len0, cap0, rfl⟩ := okWide_slice Try.underlying51 h.ok
  obtain ⟨a, cap, bs, hcs, hr, hok, _⟩ := h.tr.rowsOf (fun k : Int => [Value.int .i64 k]) (fun k => -9223372036854775808 ≤ k ∧ k ≤ 9223372036854775807) 1 Try.underlying51 (by kernel_rfl) (fun _ => rfl) (by decide) (fun cs d h => by
    obtain ⟨x, g, a1, a2, _⟩ := h.i64 Try.underlying2
    exact ⟨x, g, a1, a2⟩)
  simp [Value.cells] at hcs
  obtain ⟨rfl, rfl, rfl⟩ := hcs
  exact ⟨_, _, bs, rfl, hr, hok⟩
end
end Go.Proofs.Ytdjkjdeaglimeaa
