/- Rows of backends: are two the same? -/
import Derived.Test.YtfjnhaoiecndpaaRecClone
import Derived.BigQuiet
import Derived.StillTailTactics
set_option linter.unusedVariables false
set_option linter.unusedSimpArgs false
namespace Go.Proofs.Ytfjnhaoiecndpaa
open Go.RowKit

def BkD.val (b : BkD) : Int × Int × Int := (b.id, b.addr, b.weight)
def sameK (bs cs : List BkD) : Bool := decide (bs.map BkD.val = cs.map BkD.val)
theorem sameK_len {bs cs : List BkD} (h : bs.length ≠ cs.length) : sameK bs cs = false := by
  unfold sameK; exact decide_eq_false (fun e => h (by have := congrArg List.length e; simpa using this))
theorem sameK_at {bs cs : List BkD} (i : Nat) (h1 : i < bs.length) (h2 : i < cs.length) (h : bs[i].val ≠ cs[i].val) : sameK bs cs = false := by
  unfold sameK
  refine decide_eq_false (fun e => h ?_)
  have := congrArg (fun l : List (Int × Int × Int) => l[i]?) e
  simpa [h1, h2] using this
theorem sameK_all {bs cs : List BkD} (hl : bs.length = cs.length) (h : (bs.map BkD.val).take bs.length = (cs.map BkD.val).take bs.length) : sameK bs cs = true := by
  unfold sameK; apply decide_eq_true
  rw [List.take_of_length_le (by simp), List.take_of_length_le (by simp; omega)] at h; exact h
theorem RowK.cells {w : World} {b off len cap : Nat} {bs : List BkD} (h : RowK w (some ⟨b, off, none⟩) len cap bs) (i : Nat) (hi : i < bs.length) :
    w.cell? ⟨b, off + i * 3, none⟩ = some (.int .i64 bs[i].id) ∧ w.cell? ⟨b, off + i * 3 + 1, none⟩ = some (.int .u32 bs[i].addr) ∧ w.cell? ⟨b, off + i * 3 + 2, none⟩ = some (.int .i64 bs[i].weight) := by
  have hi' : i < (bs.map BkD.cells).length := by simpa using hi
  have e : (bs.map BkD.cells)[i] = bs[i].cells := by simp
  exact ⟨h.cell i hi' 0 _ (by rw [e]; rfl), h.cell i hi' 1 _ (by rw [e]; rfl), h.cell i hi' 2 _ (by rw [e]; rfl)⟩
theorem RowK.some {w : World} {a : Option Addr} {len cap : Nat} {bs : List BkD} (h : RowK w a len cap bs) (h0 : 0 < len) : ∃ b off, a = .some ⟨b, off, Option.none⟩ := RowS.some h h0

end Go.Proofs.Ytfjnhaoiecndpaa
