/-
  No cell of these rows narrows 'for every input' (looked for: loops, veiled, ifaces, maps, wideKeys, modest, calm, conditions, laid).
  DERIVED. THE GIVEN ROWS OF THIS SEAT. 5 by the template 'for every input the law returns true; each argument reads behind the call as it read before'; 0 by the template 'total and deterministic' (their statements: YtcfiaflcgphgbaaTotals.lean).
  GIVEN WITH THE SEED: the statements are not yours to turn. If you find one false, say at which input.
  Laid BY PROGRAM, IN A SANDBOX (cutbox-rows.mjs): the forced cells as the released guide's own fill.sh prints them over the translation 96d5803fe30ac415… (all of the seat's roots in one cut). By AI agents, Wed Nov 11 2026. No macro, syntax, notation, axiom, sorry.
-/
import Derived.Test.YtcfiaflcgphgbaaChecked
import GoSem.Claim
import GoSem.ClaimJoined
import GoSem.ClaimMapViews
import Derived.JoinedTies
import Derived.KernelRfl
namespace Go.Proofs.Ytcfiaflcgphgbaa
/- THE CELL 'sum', in the pinned program and in every row, IS THE sha256 OF THE DUMP (.gsa) THAT YtcfiaflcgphgbaaProg.lean LOADS. Nothing in Lean hashes anything: it is a label: what it is worth is what the hold of that sum in a sandbox is worth. -/
noncomputable def Try.pinned : Pinned := { name := "ytcfiaflcgphgbaa", sum := "96d5803fe30ac415465471d278e00bf57f376d954863a9c5cf528fef91be4abb", checked := Try.checked }
namespace Rows
def none {H : Type} : Left H := { results := [], args := [] }

/-- 'goitlaw18.MaglevCounts': WHATEVER THE INPUT: true; the input reads as it did. -/
def maglevCountsSpec : ChangeSpec := { name := "maglevCounts", fn := fun _ => fun
  | [d1, d2] => { results := [.lit (.bool true)], args := [d1, d2] }
  | _ => none }
def maglevCountsRow : OpenClaim := { program := "ytcfiaflcgphgbaa", sum := "96d5803fe30ac415465471d278e00bf57f376d954863a9c5cf528fef91be4abb", func := "goit/goitlaw18.MaglevCounts", spec := "maglevCounts", apart := false }
def MaglevCountsSaid : Prop := maglevCountsRow.holds Try.pinned (OpenSpec.ofChange maglevCountsSpec)

/-- ITS FALSE NEIGHBOUR: 'it returns false'. Refute it at one input. -/
def maglevCountsWrong : ChangeSpec := { name := "maglevCounts", fn := fun _ => fun
  | [d1, d2] => { results := [.lit (.bool false)], args := [d1, d2] }
  | _ => none }
def MaglevCountsWrongFalsely : Prop := maglevCountsRow.holds Try.pinned (OpenSpec.ofChange maglevCountsWrong)

/-- 'goitlaw18.MaglevFair': WHATEVER THE INPUT: true; the input reads as it did. -/
def maglevFairSpec : ChangeSpec := { name := "maglevFair", fn := fun _ => fun
  | [d1, d2, d3] => { results := [.lit (.bool true)], args := [d1, d2, d3] }
  | _ => none }
def maglevFairRow : OpenClaim := { program := "ytcfiaflcgphgbaa", sum := "96d5803fe30ac415465471d278e00bf57f376d954863a9c5cf528fef91be4abb", func := "goit/goitlaw18.MaglevFair", spec := "maglevFair", apart := false }
def MaglevFairSaid : Prop := maglevFairRow.holds Try.pinned (OpenSpec.ofChange maglevFairSpec)

/-- ITS FALSE NEIGHBOUR: 'it returns false'. Refute it at one input. -/
def maglevFairWrong : ChangeSpec := { name := "maglevFair", fn := fun _ => fun
  | [d1, d2, d3] => { results := [.lit (.bool false)], args := [d1, d2, d3] }
  | _ => none }
def MaglevFairWrongFalsely : Prop := maglevFairRow.holds Try.pinned (OpenSpec.ofChange maglevFairWrong)

/-- 'goitlaw18.MaglevOwn': WHATEVER THE INPUT: true; the input reads as it did. -/
def maglevOwnSpec : ChangeSpec := { name := "maglevOwn", fn := fun _ => fun
  | [d1, d2, d3] => { results := [.lit (.bool true)], args := [d1, d2, d3] }
  | _ => none }
def maglevOwnRow : OpenClaim := { program := "ytcfiaflcgphgbaa", sum := "96d5803fe30ac415465471d278e00bf57f376d954863a9c5cf528fef91be4abb", func := "goit/goitlaw18.MaglevOwn", spec := "maglevOwn", apart := false }
def MaglevOwnSaid : Prop := maglevOwnRow.holds Try.pinned (OpenSpec.ofChange maglevOwnSpec)

/-- ITS FALSE NEIGHBOUR: 'it returns false'. Refute it at one input. -/
def maglevOwnWrong : ChangeSpec := { name := "maglevOwn", fn := fun _ => fun
  | [d1, d2, d3] => { results := [.lit (.bool false)], args := [d1, d2, d3] }
  | _ => none }
def MaglevOwnWrongFalsely : Prop := maglevOwnRow.holds Try.pinned (OpenSpec.ofChange maglevOwnWrong)

/-- 'goitlaw18.MaglevLeaves': WHATEVER THE INPUT: true; the input reads as it did. -/
def maglevLeavesSpec : ChangeSpec := { name := "maglevLeaves", fn := fun _ => fun
  | [d1, d2, d3] => { results := [.lit (.bool true)], args := [d1, d2, d3] }
  | _ => none }
def maglevLeavesRow : OpenClaim := { program := "ytcfiaflcgphgbaa", sum := "96d5803fe30ac415465471d278e00bf57f376d954863a9c5cf528fef91be4abb", func := "goit/goitlaw18.MaglevLeaves", spec := "maglevLeaves", apart := false }
def MaglevLeavesSaid : Prop := maglevLeavesRow.holds Try.pinned (OpenSpec.ofChange maglevLeavesSpec)

/-- ITS FALSE NEIGHBOUR: 'it returns false'. Refute it at one input. -/
def maglevLeavesWrong : ChangeSpec := { name := "maglevLeaves", fn := fun _ => fun
  | [d1, d2, d3] => { results := [.lit (.bool false)], args := [d1, d2, d3] }
  | _ => none }
def MaglevLeavesWrongFalsely : Prop := maglevLeavesRow.holds Try.pinned (OpenSpec.ofChange maglevLeavesWrong)

/-- 'goitlaw18.MaglevRows': WHATEVER THE INPUT: true; the input reads as it did. -/
def maglevRowsSpec : ChangeSpec := { name := "maglevRows", fn := fun _ => fun
  | [d1, d2] => { results := [.lit (.bool true)], args := [d1, d2] }
  | _ => none }
def maglevRowsRow : OpenClaim := { program := "ytcfiaflcgphgbaa", sum := "96d5803fe30ac415465471d278e00bf57f376d954863a9c5cf528fef91be4abb", func := "goit/goitlaw18.MaglevRows", spec := "maglevRows", apart := false }
def MaglevRowsSaid : Prop := maglevRowsRow.holds Try.pinned (OpenSpec.ofChange maglevRowsSpec)

/-- ITS FALSE NEIGHBOUR: 'it returns false'. Refute it at one input. -/
def maglevRowsWrong : ChangeSpec := { name := "maglevRows", fn := fun _ => fun
  | [d1, d2] => { results := [.lit (.bool false)], args := [d1, d2] }
  | _ => none }
def MaglevRowsWrongFalsely : Prop := maglevRowsRow.holds Try.pinned (OpenSpec.ofChange maglevRowsWrong)

/- THE SECOND FORM. 'bulk': how many values and letters a reading holds, each counted each time it is reached (what is shared counts as often as it is met; a slice's spare places count too). A statement '..UptoSaid' is the law's where the arguments, and the package variables that the reading takes, are together of bulk at most 1048576: NARROWER than '..Said'. Prove '..Said' where nothing that the law and all that it calls make is longer than what came in: it says more and counts as full. Else prove '..UptoSaid'. A law counts once. -/
mutual
def uptoBulk {H : Type} : DataW H → Nat
  | .lit (.string bytes) => bytes.length + 1
  | .lit _ => 1
  | .nil => 1
  | .ptr d => uptoBulk d + 1
  | .slice elems spare => uptoBulkAll elems + uptoBulkAll spare + 1
  | .agg parts => uptoBulkAll parts + 1
  | .iface _ d => uptoBulk d + 1
  | .map entries => uptoBulkEntries entries + 1
  | .held _ => 1
def uptoBulkAll {H : Type} : List (DataW H) → Nat
  | [] => 0
  | d :: r => uptoBulk d + uptoBulkAll r
def uptoBulkEntries {H : Type} : List (Lit × DataW H) → Nat
  | [] => 0
  | x :: r => uptoBulkEntry x + uptoBulkEntries r
def uptoBulkEntry {H : Type} : Lit × DataW H → Nat
  | (.string bytes, d) => bytes.length + uptoBulk d + 1
  | (_, d) => uptoBulk d + 1
 end
def uptoSmall : (H : Type) → List (DataW H) → Bool := fun _ ds => decide (uptoBulkAll ds ≤ 1048576)
def OpenSpec.upto (s : _root_.Go.ChangeSpec) : _root_.Go.OpenSpec := { _root_.Go.OpenSpec.ofChange s with cond := some uptoSmall }

/-- 'goitlaw18.MaglevCounts', WHERE WHAT IT READS IS OF BULK AT MOST 1048576: true; the input reads as it did. -/
def maglevCountsUptoRow : OpenClaim := { program := "ytcfiaflcgphgbaa", sum := "96d5803fe30ac415465471d278e00bf57f376d954863a9c5cf528fef91be4abb", func := "goit/goitlaw18.MaglevCounts", spec := "maglevCounts", apart := false, narrowed := true }
def MaglevCountsUptoSaid : Prop := maglevCountsUptoRow.holds Try.pinned (OpenSpec.upto maglevCountsSpec)

/-- 'goitlaw18.MaglevFair', WHERE WHAT IT READS IS OF BULK AT MOST 1048576: true; the input reads as it did. -/
def maglevFairUptoRow : OpenClaim := { program := "ytcfiaflcgphgbaa", sum := "96d5803fe30ac415465471d278e00bf57f376d954863a9c5cf528fef91be4abb", func := "goit/goitlaw18.MaglevFair", spec := "maglevFair", apart := false, narrowed := true }
def MaglevFairUptoSaid : Prop := maglevFairUptoRow.holds Try.pinned (OpenSpec.upto maglevFairSpec)

/-- 'goitlaw18.MaglevOwn', WHERE WHAT IT READS IS OF BULK AT MOST 1048576: true; the input reads as it did. -/
def maglevOwnUptoRow : OpenClaim := { program := "ytcfiaflcgphgbaa", sum := "96d5803fe30ac415465471d278e00bf57f376d954863a9c5cf528fef91be4abb", func := "goit/goitlaw18.MaglevOwn", spec := "maglevOwn", apart := false, narrowed := true }
def MaglevOwnUptoSaid : Prop := maglevOwnUptoRow.holds Try.pinned (OpenSpec.upto maglevOwnSpec)

/-- 'goitlaw18.MaglevLeaves', WHERE WHAT IT READS IS OF BULK AT MOST 1048576: true; the input reads as it did. -/
def maglevLeavesUptoRow : OpenClaim := { program := "ytcfiaflcgphgbaa", sum := "96d5803fe30ac415465471d278e00bf57f376d954863a9c5cf528fef91be4abb", func := "goit/goitlaw18.MaglevLeaves", spec := "maglevLeaves", apart := false, narrowed := true }
def MaglevLeavesUptoSaid : Prop := maglevLeavesUptoRow.holds Try.pinned (OpenSpec.upto maglevLeavesSpec)

/-- 'goitlaw18.MaglevRows', WHERE WHAT IT READS IS OF BULK AT MOST 1048576: true; the input reads as it did. -/
def maglevRowsUptoRow : OpenClaim := { program := "ytcfiaflcgphgbaa", sum := "96d5803fe30ac415465471d278e00bf57f376d954863a9c5cf528fef91be4abb", func := "goit/goitlaw18.MaglevRows", spec := "maglevRows", apart := false, narrowed := true }
def MaglevRowsUptoSaid : Prop := maglevRowsUptoRow.holds Try.pinned (OpenSpec.upto maglevRowsSpec)

end Rows
end Go.Proofs.Ytcfiaflcgphgbaa
