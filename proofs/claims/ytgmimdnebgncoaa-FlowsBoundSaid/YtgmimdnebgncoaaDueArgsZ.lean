/- The openers of the queue's laws. -/
import Derived.Test.YtgmimdnebgncoaaRowsInZ
set_option linter.unusedVariables false
namespace Go.Proofs.Ytgmimdnebgncoaa
open Go.ChangeShapes Go.WideShapes Go.ChangeAt Go.RowKit

/-- A call to a queue. -/
structure CallQ where
  do_ : Int
  key : ByteArray
  at_ : Int
def CallQ.cells (c : CallQ) : List Value := [.int .i64 c.do_, .string c.key, .int .i64 c.at_]
def CallOk (c : CallQ) : Prop := c.key.size ≤ 281474976710656 ∧ (-9223372036854775808 ≤ c.do_ ∧ c.do_ ≤ 9223372036854775807) ∧ -9223372036854775808 ≤ c.at_ ∧ c.at_ ≤ 9223372036854775807
section
variable {H : Type} {enc : TypeId × Value → H} {P : Program} {W : World} {base : Nat} {T : TypeId} {v : Value} {cs : List Value} {d : DataW H} {p : List MemPlace}
theorem ArgIn.text (h : ArgIn enc P W base T v d p) (ht : P.underlying T = some .string) : ∃ s : ByteArray, v = .string s ∧ s.size ≤ 281474976710656 := by
  obtain ⟨s, rfl⟩ := okWide_string ht h.ok
  obtain ⟨s', h1, _, h2⟩ := h.tr.string ht
  simp only [Value.cells, List.cons.injEq, Value.string.injEq, and_true] at h1
  subst h1
  exact ⟨_, rfl, Nat.le_trans h2 (by decide)⟩
theorem three' {α : Type} {l : List α} (h : l.length = 3) : ∃ a b c, l = [a, b, c] := by
  match l, h with
  | [a, b, c], _ => exact ⟨a, b, c, rfl⟩
set_option maxRecDepth 20000 in
theorem ArgIn.keysQ (h : ArgIn enc Try.prog W base 65 v d p) : ∃ (a : Option Addr) (cap : Nat) (l : List ByteArray), v = .slice a l.length cap ∧ RowS W a l.length cap 1 (l.map (fun k => [Value.string k])) ∧ (∀ k ∈ l, k.size ≤ 281474976710656) := by
  obtain ⟨a0, len0, cap0, rfl⟩ := okWide_slice Try.underlying65 h.ok
  obtain ⟨a, cap, bs, hcs, hr, hok, _⟩ := h.tr.rowsOf (fun k : ByteArray => [Value.string k]) (fun k => k.size ≤ 281474976710656) 1 Try.underlying65 (by kernel_rfl) (fun _ => rfl) (by decide) (fun cs d h => by
    obtain ⟨x, g, _, a1⟩ := h.string Try.underlying9
    exact ⟨x, g, Nat.le_trans a1 (by decide)⟩)
  simp [Value.cells] at hcs
  obtain ⟨rfl, rfl, rfl⟩ := hcs
  exact ⟨_, _, bs, rfl, hr, hok⟩
end
end Go.Proofs.Ytgmimdnebgncoaa
