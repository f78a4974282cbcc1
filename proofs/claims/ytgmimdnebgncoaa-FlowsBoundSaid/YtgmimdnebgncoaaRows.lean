/-
  No cell of these rows narrows 'for every input' (looked for: loops, veiled, ifaces, maps, wideKeys, modest, calm, conditions, laid).
  DERIVED. THE GIVEN ROWS OF THIS SEAT. 6 by the template 'for every input the law returns true; each argument reads behind the call as it read before'; 0 by the template 'total and deterministic' (their statements: YtgmimdnebgncoaaTotals.lean).
  GIVEN WITH THE SEED: the statements are not yours to turn. If you find one false, say at which input.
  Laid BY PROGRAM, IN A SANDBOX (cutbox-rows.mjs): the forced cells as the released guide's own fill.sh prints them over the translation 98504d77e88647ff… (all of the seat's roots in one cut). By AI agents, Wed Nov 11 2026. No macro, syntax, notation, axiom, sorry.
-/
import Derived.Test.YtgmimdnebgncoaaChecked
import GoSem.Claim
import GoSem.ClaimJoined
import GoSem.ClaimMapViews
import Derived.JoinedTies
import Derived.KernelRfl
namespace Go.Proofs.Ytgmimdnebgncoaa
/- THE CELL 'sum', in the pinned program and in every row, IS THE sha256 OF THE DUMP (.gsa) THAT YtgmimdnebgncoaaProg.lean LOADS. Nothing in Lean hashes anything: it is a label: what it is worth is what the hold of that sum in a sandbox is worth. -/
noncomputable def Try.pinned : Pinned := { name := "ytgmimdnebgncoaa", sum := "98504d77e88647fff4805711bf9685d85e6f4f0db988a03ac71545a6e8cfa983", checked := Try.checked }
namespace Rows
def none {H : Type} : Left H := { results := [], args := [] }

/-- 'goitlaw11.FlowsNil': WHATEVER THE INPUT: true; the input reads as it did. -/
def flowsNilSpec : ChangeSpec := { name := "flowsNil", fn := fun _ => fun
  | [d1, d2, d3] => { results := [.lit (.bool true)], args := [d1, d2, d3] }
  | _ => none }
def flowsNilRow : OpenClaim := { program := "ytgmimdnebgncoaa", sum := "98504d77e88647fff4805711bf9685d85e6f4f0db988a03ac71545a6e8cfa983", func := "goit/goitlaw11.FlowsNil", spec := "flowsNil", inPlace := ["internal/reflectlite.ValueOf", "internal/reflectlite.Swapper", "(internal/reflectlite.Value).Len"], unfollowed := true, recurses := true, plainKeys := false, apart := false }
def FlowsNilSaid : Prop := flowsNilRow.holds Try.pinned (OpenSpec.ofChange flowsNilSpec)

/-- ITS FALSE NEIGHBOUR: 'it returns false'. Refute it at one input. -/
def flowsNilWrong : ChangeSpec := { name := "flowsNil", fn := fun _ => fun
  | [d1, d2, d3] => { results := [.lit (.bool false)], args := [d1, d2, d3] }
  | _ => none }
def FlowsNilWrongFalsely : Prop := flowsNilRow.holds Try.pinned (OpenSpec.ofChange flowsNilWrong)

/-- 'goitlaw11.FlowsMany': WHATEVER THE INPUT: true; the input reads as it did. -/
def flowsManySpec : ChangeSpec := { name := "flowsMany", fn := fun _ => fun
  | [d1, d2] => { results := [.lit (.bool true)], args := [d1, d2] }
  | _ => none }
def flowsManyRow : OpenClaim := { program := "ytgmimdnebgncoaa", sum := "98504d77e88647fff4805711bf9685d85e6f4f0db988a03ac71545a6e8cfa983", func := "goit/goitlaw11.FlowsMany", spec := "flowsMany", inPlace := ["internal/reflectlite.ValueOf", "internal/reflectlite.Swapper", "(internal/reflectlite.Value).Len"], unfollowed := true, recurses := true, plainKeys := false, apart := false }
def FlowsManySaid : Prop := flowsManyRow.holds Try.pinned (OpenSpec.ofChange flowsManySpec)

/-- ITS FALSE NEIGHBOUR: 'it returns false'. Refute it at one input. -/
def flowsManyWrong : ChangeSpec := { name := "flowsMany", fn := fun _ => fun
  | [d1, d2] => { results := [.lit (.bool false)], args := [d1, d2] }
  | _ => none }
def FlowsManyWrongFalsely : Prop := flowsManyRow.holds Try.pinned (OpenSpec.ofChange flowsManyWrong)

/-- 'goitlaw11.FlowsBound': WHATEVER THE INPUT: true; the input reads as it did. -/
def flowsBoundSpec : ChangeSpec := { name := "flowsBound", fn := fun _ => fun
  | [d1, d2, d3] => { results := [.lit (.bool true)], args := [d1, d2, d3] }
  | _ => none }
def flowsBoundRow : OpenClaim := { program := "ytgmimdnebgncoaa", sum := "98504d77e88647fff4805711bf9685d85e6f4f0db988a03ac71545a6e8cfa983", func := "goit/goitlaw11.FlowsBound", spec := "flowsBound", inPlace := ["internal/reflectlite.ValueOf", "internal/reflectlite.Swapper", "(internal/reflectlite.Value).Len"], unfollowed := true, recurses := true, plainKeys := false, apart := false }
def FlowsBoundSaid : Prop := flowsBoundRow.holds Try.pinned (OpenSpec.ofChange flowsBoundSpec)

/-- ITS FALSE NEIGHBOUR: 'it returns false'. Refute it at one input. -/
def flowsBoundWrong : ChangeSpec := { name := "flowsBound", fn := fun _ => fun
  | [d1, d2, d3] => { results := [.lit (.bool false)], args := [d1, d2, d3] }
  | _ => none }
def FlowsBoundWrongFalsely : Prop := flowsBoundRow.holds Try.pinned (OpenSpec.ofChange flowsBoundWrong)

/-- 'goitlaw11.FlowsOrder': WHATEVER THE INPUT: true; the input reads as it did. -/
def flowsOrderSpec : ChangeSpec := { name := "flowsOrder", fn := fun _ => fun
  | [d] => { results := [.lit (.bool true)], args := [d] }
  | _ => none }
def flowsOrderRow : OpenClaim := { program := "ytgmimdnebgncoaa", sum := "98504d77e88647fff4805711bf9685d85e6f4f0db988a03ac71545a6e8cfa983", func := "goit/goitlaw11.FlowsOrder", spec := "flowsOrder", inPlace := ["internal/reflectlite.ValueOf", "internal/reflectlite.Swapper", "(internal/reflectlite.Value).Len"], unfollowed := true, recurses := true, plainKeys := false, apart := false }
def FlowsOrderSaid : Prop := flowsOrderRow.holds Try.pinned (OpenSpec.ofChange flowsOrderSpec)

/-- ITS FALSE NEIGHBOUR: 'it returns false'. Refute it at one input. -/
def flowsOrderWrong : ChangeSpec := { name := "flowsOrder", fn := fun _ => fun
  | [d] => { results := [.lit (.bool false)], args := [d] }
  | _ => none }
def FlowsOrderWrongFalsely : Prop := flowsOrderRow.holds Try.pinned (OpenSpec.ofChange flowsOrderWrong)

/-- 'goitlaw11.FlowsIdles': WHATEVER THE INPUT: true; the input reads as it did. -/
def flowsIdlesSpec : ChangeSpec := { name := "flowsIdles", fn := fun _ => fun
  | [d1, d2, d3, d4] => { results := [.lit (.bool true)], args := [d1, d2, d3, d4] }
  | _ => none }
def flowsIdlesRow : OpenClaim := { program := "ytgmimdnebgncoaa", sum := "98504d77e88647fff4805711bf9685d85e6f4f0db988a03ac71545a6e8cfa983", func := "goit/goitlaw11.FlowsIdles", spec := "flowsIdles", inPlace := ["internal/reflectlite.ValueOf", "internal/reflectlite.Swapper", "(internal/reflectlite.Value).Len"], unfollowed := true, recurses := true, plainKeys := false, apart := false }
def FlowsIdlesSaid : Prop := flowsIdlesRow.holds Try.pinned (OpenSpec.ofChange flowsIdlesSpec)

/-- ITS FALSE NEIGHBOUR: 'it returns false'. Refute it at one input. -/
def flowsIdlesWrong : ChangeSpec := { name := "flowsIdles", fn := fun _ => fun
  | [d1, d2, d3, d4] => { results := [.lit (.bool false)], args := [d1, d2, d3, d4] }
  | _ => none }
def FlowsIdlesWrongFalsely : Prop := flowsIdlesRow.holds Try.pinned (OpenSpec.ofChange flowsIdlesWrong)

/-- 'goitlaw11.FlowsApart': WHATEVER THE INPUT: true; the input reads as it did. -/
def flowsApartSpec : ChangeSpec := { name := "flowsApart", fn := fun _ => fun
  | [d1, d2, d3] => { results := [.lit (.bool true)], args := [d1, d2, d3] }
  | _ => none }
def flowsApartRow : OpenClaim := { program := "ytgmimdnebgncoaa", sum := "98504d77e88647fff4805711bf9685d85e6f4f0db988a03ac71545a6e8cfa983", func := "goit/goitlaw11.FlowsApart", spec := "flowsApart", inPlace := ["internal/reflectlite.ValueOf", "internal/reflectlite.Swapper", "(internal/reflectlite.Value).Len"], unfollowed := true, recurses := true, plainKeys := false, apart := false }
def FlowsApartSaid : Prop := flowsApartRow.holds Try.pinned (OpenSpec.ofChange flowsApartSpec)

/-- ITS FALSE NEIGHBOUR: 'it returns false'. Refute it at one input. -/
def flowsApartWrong : ChangeSpec := { name := "flowsApart", fn := fun _ => fun
  | [d1, d2, d3] => { results := [.lit (.bool false)], args := [d1, d2, d3] }
  | _ => none }
def FlowsApartWrongFalsely : Prop := flowsApartRow.holds Try.pinned (OpenSpec.ofChange flowsApartWrong)

/- THE SECOND FORM. 'bulk': how many values and letters a reading holds, each counted each time it is reached (what is shared counts as often as it is met; a slice's spare places count too). A statement '..UptoSaid' is the law's where the arguments, and the package variables that the reading takes, are together of bulk at most 1048576: NARROWER than '..Said'. Prove '..Said' where nothing that the law and all that it calls make is longer than what came in: it says more and counts as full. Else prove '..UptoSaid'. A law counts once. -/
mutual
def uptoBulk {H : Type} : DataW H → Nat
  | .lit (.string bytes) => bytes.length + 1
  | .lit _ => 1
  | .nil => 1
  | .ptr d => uptoBulk d + 1
  | .slice elems spare => uptoBulkAll elems + uptoBulkAll spare + 1
  | .agg parts => uptoBulkAll parts + 1
  | .iface _ d => uptoBulk d + 1
  | .map entries => uptoBulkEntries entries + 1
  | .held _ => 1
def uptoBulkAll {H : Type} : List (DataW H) → Nat
  | [] => 0
  | d :: r => uptoBulk d + uptoBulkAll r
def uptoBulkEntries {H : Type} : List (Lit × DataW H) → Nat
  | [] => 0
  | x :: r => uptoBulkEntry x + uptoBulkEntries r
def uptoBulkEntry {H : Type} : Lit × DataW H → Nat
  | (.string bytes, d) => bytes.length + uptoBulk d + 1
  | (_, d) => uptoBulk d + 1
 end
def uptoSmall : (H : Type) → List (DataW H) → Bool := fun _ ds => decide (uptoBulkAll ds ≤ 1048576)
def OpenSpec.upto (s : _root_.Go.ChangeSpec) : _root_.Go.OpenSpec := { _root_.Go.OpenSpec.ofChange s with cond := some uptoSmall }

/-- 'goitlaw11.FlowsNil', WHERE WHAT IT READS IS OF BULK AT MOST 1048576: true; the input reads as it did. -/
def flowsNilUptoRow : OpenClaim := { program := "ytgmimdnebgncoaa", sum := "98504d77e88647fff4805711bf9685d85e6f4f0db988a03ac71545a6e8cfa983", func := "goit/goitlaw11.FlowsNil", spec := "flowsNil", inPlace := ["internal/reflectlite.ValueOf", "internal/reflectlite.Swapper", "(internal/reflectlite.Value).Len"], unfollowed := true, recurses := true, plainKeys := false, apart := false, narrowed := true }
def FlowsNilUptoSaid : Prop := flowsNilUptoRow.holds Try.pinned (OpenSpec.upto flowsNilSpec)

/-- 'goitlaw11.FlowsMany', WHERE WHAT IT READS IS OF BULK AT MOST 1048576: true; the input reads as it did. -/
def flowsManyUptoRow : OpenClaim := { program := "ytgmimdnebgncoaa", sum := "98504d77e88647fff4805711bf9685d85e6f4f0db988a03ac71545a6e8cfa983", func := "goit/goitlaw11.FlowsMany", spec := "flowsMany", inPlace := ["internal/reflectlite.ValueOf", "internal/reflectlite.Swapper", "(internal/reflectlite.Value).Len"], unfollowed := true, recurses := true, plainKeys := false, apart := false, narrowed := true }
def FlowsManyUptoSaid : Prop := flowsManyUptoRow.holds Try.pinned (OpenSpec.upto flowsManySpec)

/-- 'goitlaw11.FlowsBound', WHERE WHAT IT READS IS OF BULK AT MOST 1048576: true; the input reads as it did. -/
def flowsBoundUptoRow : OpenClaim := { program := "ytgmimdnebgncoaa", sum := "98504d77e88647fff4805711bf9685d85e6f4f0db988a03ac71545a6e8cfa983", func := "goit/goitlaw11.FlowsBound", spec := "flowsBound", inPlace := ["internal/reflectlite.ValueOf", "internal/reflectlite.Swapper", "(internal/reflectlite.Value).Len"], unfollowed := true, recurses := true, plainKeys := false, apart := false, narrowed := true }
def FlowsBoundUptoSaid : Prop := flowsBoundUptoRow.holds Try.pinned (OpenSpec.upto flowsBoundSpec)

/-- 'goitlaw11.FlowsOrder', WHERE WHAT IT READS IS OF BULK AT MOST 1048576: true; the input reads as it did. -/
def flowsOrderUptoRow : OpenClaim := { program := "ytgmimdnebgncoaa", sum := "98504d77e88647fff4805711bf9685d85e6f4f0db988a03ac71545a6e8cfa983", func := "goit/goitlaw11.FlowsOrder", spec := "flowsOrder", inPlace := ["internal/reflectlite.ValueOf", "internal/reflectlite.Swapper", "(internal/reflectlite.Value).Len"], unfollowed := true, recurses := true, plainKeys := false, apart := false, narrowed := true }
def FlowsOrderUptoSaid : Prop := flowsOrderUptoRow.holds Try.pinned (OpenSpec.upto flowsOrderSpec)

/-- 'goitlaw11.FlowsIdles', WHERE WHAT IT READS IS OF BULK AT MOST 1048576: true; the input reads as it did. -/
def flowsIdlesUptoRow : OpenClaim := { program := "ytgmimdnebgncoaa", sum := "98504d77e88647fff4805711bf9685d85e6f4f0db988a03ac71545a6e8cfa983", func := "goit/goitlaw11.FlowsIdles", spec := "flowsIdles", inPlace := ["internal/reflectlite.ValueOf", "internal/reflectlite.Swapper", "(internal/reflectlite.Value).Len"], unfollowed := true, recurses := true, plainKeys := false, apart := false, narrowed := true }
def FlowsIdlesUptoSaid : Prop := flowsIdlesUptoRow.holds Try.pinned (OpenSpec.upto flowsIdlesSpec)

/-- 'goitlaw11.FlowsApart', WHERE WHAT IT READS IS OF BULK AT MOST 1048576: true; the input reads as it did. -/
def flowsApartUptoRow : OpenClaim := { program := "ytgmimdnebgncoaa", sum := "98504d77e88647fff4805711bf9685d85e6f4f0db988a03ac71545a6e8cfa983", func := "goit/goitlaw11.FlowsApart", spec := "flowsApart", inPlace := ["internal/reflectlite.ValueOf", "internal/reflectlite.Swapper", "(internal/reflectlite.Value).Len"], unfollowed := true, recurses := true, plainKeys := false, apart := false, narrowed := true }
def FlowsApartUptoSaid : Prop := flowsApartUptoRow.holds Try.pinned (OpenSpec.upto flowsApartSpec)

end Rows
end Go.Proofs.Ytgmimdnebgncoaa
