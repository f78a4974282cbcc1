/-
  No cell of these rows narrows 'for every input' (looked for: loops, veiled, ifaces, maps, wideKeys, modest, calm, conditions, laid).
  DERIVED. THE GIVEN ROWS OF THIS SEAT. 5 by the template 'for every input the law returns true; each argument reads behind the call as it read before'; 0 by the template 'total and deterministic' (their statements: YtdhimlkndpiacaaTotals.lean).
  GIVEN WITH THE SEED: the statements are not yours to turn. If you find one false, say at which input.
  Laid BY PROGRAM, IN A SANDBOX (cutbox-rows.mjs): the forced cells as the released guide's own fill.sh prints them over the translation 16ca6374628e3acf… (all of the seat's roots in one cut). By AI agents, Wed Nov 11 2026. No macro, syntax, notation, axiom, sorry.
-/
import Derived.Test.YtdhimlkndpiacaaChecked
import GoSem.Claim
import GoSem.ClaimJoined
import GoSem.ClaimMapViews
import Derived.JoinedTies
import Derived.KernelRfl
namespace Go.Proofs.Ytdhimlkndpiacaa
/- THE CELL 'sum', in the pinned program and in every row, IS THE sha256 OF THE DUMP (.gsa) THAT YtdhimlkndpiacaaProg.lean LOADS. Nothing in Lean hashes anything: it is a label: what it is worth is what the hold of that sum in a sandbox is worth. -/
noncomputable def Try.pinned : Pinned := { name := "ytdhimlkndpiacaa", sum := "16ca6374628e3acfa834861fdef4eedd2f26904aa0d29bb1185759e001413784", checked := Try.checked }
namespace Rows
def none {H : Type} : Left H := { results := [], args := [] }

/-- 'goitlaw14.StateNil': WHATEVER THE INPUT: true; the input reads as it did. -/
def stateNilSpec : ChangeSpec := { name := "stateNil", fn := fun _ => fun
  | [d] => { results := [.lit (.bool true)], args := [d] }
  | _ => none }
def stateNilRow : OpenClaim := { program := "ytdhimlkndpiacaa", sum := "16ca6374628e3acfa834861fdef4eedd2f26904aa0d29bb1185759e001413784", func := "goit/goitlaw14.StateNil", spec := "stateNil", inPlace := ["internal/reflectlite.ValueOf", "internal/reflectlite.Swapper", "(internal/reflectlite.Value).Len", "maps.clone"], unfollowed := true, recurses := true, plainKeys := false, apart := false }
def StateNilSaid : Prop := stateNilRow.holds Try.pinned (OpenSpec.ofChange stateNilSpec)

/-- ITS FALSE NEIGHBOUR: 'it returns false'. Refute it at one input. -/
def stateNilWrong : ChangeSpec := { name := "stateNil", fn := fun _ => fun
  | [d] => { results := [.lit (.bool false)], args := [d] }
  | _ => none }
def StateNilWrongFalsely : Prop := stateNilRow.holds Try.pinned (OpenSpec.ofChange stateNilWrong)

/-- 'goitlaw14.StateMany': WHATEVER THE INPUT: true; the input reads as it did. -/
def stateManySpec : ChangeSpec := { name := "stateMany", fn := fun _ => fun
  | [d1, d2] => { results := [.lit (.bool true)], args := [d1, d2] }
  | _ => none }
def stateManyRow : OpenClaim := { program := "ytdhimlkndpiacaa", sum := "16ca6374628e3acfa834861fdef4eedd2f26904aa0d29bb1185759e001413784", func := "goit/goitlaw14.StateMany", spec := "stateMany", inPlace := ["internal/reflectlite.ValueOf", "internal/reflectlite.Swapper", "(internal/reflectlite.Value).Len"], unfollowed := true, recurses := true, plainKeys := false, apart := false }
def StateManySaid : Prop := stateManyRow.holds Try.pinned (OpenSpec.ofChange stateManySpec)

/-- ITS FALSE NEIGHBOUR: 'it returns false'. Refute it at one input. -/
def stateManyWrong : ChangeSpec := { name := "stateMany", fn := fun _ => fun
  | [d1, d2] => { results := [.lit (.bool false)], args := [d1, d2] }
  | _ => none }
def StateManyWrongFalsely : Prop := stateManyRow.holds Try.pinned (OpenSpec.ofChange stateManyWrong)

/-- 'goitlaw14.StateAnew': WHATEVER THE INPUT: true; the input reads as it did. -/
def stateAnewSpec : ChangeSpec := { name := "stateAnew", fn := fun _ => fun
  | [d1, d2] => { results := [.lit (.bool true)], args := [d1, d2] }
  | _ => none }
def stateAnewRow : OpenClaim := { program := "ytdhimlkndpiacaa", sum := "16ca6374628e3acfa834861fdef4eedd2f26904aa0d29bb1185759e001413784", func := "goit/goitlaw14.StateAnew", spec := "stateAnew", inPlace := ["internal/reflectlite.ValueOf", "internal/reflectlite.Swapper", "(internal/reflectlite.Value).Len", "maps.clone"], unfollowed := true, recurses := true, plainKeys := false, apart := false }
def StateAnewSaid : Prop := stateAnewRow.holds Try.pinned (OpenSpec.ofChange stateAnewSpec)

/-- ITS FALSE NEIGHBOUR: 'it returns false'. Refute it at one input. -/
def stateAnewWrong : ChangeSpec := { name := "stateAnew", fn := fun _ => fun
  | [d1, d2] => { results := [.lit (.bool false)], args := [d1, d2] }
  | _ => none }
def StateAnewWrongFalsely : Prop := stateAnewRow.holds Try.pinned (OpenSpec.ofChange stateAnewWrong)

/-- 'goitlaw14.StateApart': WHATEVER THE INPUT: true; the input reads as it did. -/
def stateApartSpec : ChangeSpec := { name := "stateApart", fn := fun _ => fun
  | [d1, d2] => { results := [.lit (.bool true)], args := [d1, d2] }
  | _ => none }
def stateApartRow : OpenClaim := { program := "ytdhimlkndpiacaa", sum := "16ca6374628e3acfa834861fdef4eedd2f26904aa0d29bb1185759e001413784", func := "goit/goitlaw14.StateApart", spec := "stateApart", inPlace := ["internal/reflectlite.ValueOf", "internal/reflectlite.Swapper", "(internal/reflectlite.Value).Len"], unfollowed := true, recurses := true, plainKeys := false, apart := false }
def StateApartSaid : Prop := stateApartRow.holds Try.pinned (OpenSpec.ofChange stateApartSpec)

/-- ITS FALSE NEIGHBOUR: 'it returns false'. Refute it at one input. -/
def stateApartWrong : ChangeSpec := { name := "stateApart", fn := fun _ => fun
  | [d1, d2] => { results := [.lit (.bool false)], args := [d1, d2] }
  | _ => none }
def StateApartWrongFalsely : Prop := stateApartRow.holds Try.pinned (OpenSpec.ofChange stateApartWrong)

/-- 'goitlaw14.StateLast': WHATEVER THE INPUT: true; the input reads as it did. -/
def stateLastSpec : ChangeSpec := { name := "stateLast", fn := fun _ => fun
  | [d1, d2] => { results := [.lit (.bool true)], args := [d1, d2] }
  | _ => none }
def stateLastRow : OpenClaim := { program := "ytdhimlkndpiacaa", sum := "16ca6374628e3acfa834861fdef4eedd2f26904aa0d29bb1185759e001413784", func := "goit/goitlaw14.StateLast", spec := "stateLast", inPlace := ["internal/reflectlite.ValueOf", "internal/reflectlite.Swapper", "(internal/reflectlite.Value).Len"], unfollowed := true, recurses := true, plainKeys := false, apart := false }
def StateLastSaid : Prop := stateLastRow.holds Try.pinned (OpenSpec.ofChange stateLastSpec)

/-- ITS FALSE NEIGHBOUR: 'it returns false'. Refute it at one input. -/
def stateLastWrong : ChangeSpec := { name := "stateLast", fn := fun _ => fun
  | [d1, d2] => { results := [.lit (.bool false)], args := [d1, d2] }
  | _ => none }
def StateLastWrongFalsely : Prop := stateLastRow.holds Try.pinned (OpenSpec.ofChange stateLastWrong)

/- THE SECOND FORM. 'bulk': how many values and letters a reading holds, each counted each time it is reached (what is shared counts as often as it is met; a slice's spare places count too). A statement '..UptoSaid' is the law's where the arguments, and the package variables that the reading takes, are together of bulk at most 1048576: NARROWER than '..Said'. Prove '..Said' where nothing that the law and all that it calls make is longer than what came in: it says more and counts as full. Else prove '..UptoSaid'. A law counts once. -/
mutual
def uptoBulk {H : Type} : DataW H → Nat
  | .lit (.string bytes) => bytes.length + 1
  | .lit _ => 1
  | .nil => 1
  | .ptr d => uptoBulk d + 1
  | .slice elems spare => uptoBulkAll elems + uptoBulkAll spare + 1
  | .agg parts => uptoBulkAll parts + 1
  | .iface _ d => uptoBulk d + 1
  | .map entries => uptoBulkEntries entries + 1
  | .held _ => 1
def uptoBulkAll {H : Type} : List (DataW H) → Nat
  | [] => 0
  | d :: r => uptoBulk d + uptoBulkAll r
def uptoBulkEntries {H : Type} : List (Lit × DataW H) → Nat
  | [] => 0
  | x :: r => uptoBulkEntry x + uptoBulkEntries r
def uptoBulkEntry {H : Type} : Lit × DataW H → Nat
  | (.string bytes, d) => bytes.length + uptoBulk d + 1
  | (_, d) => uptoBulk d + 1
 end
def uptoSmall : (H : Type) → List (DataW H) → Bool := fun _ ds => decide (uptoBulkAll ds ≤ 1048576)
def OpenSpec.upto (s : _root_.Go.ChangeSpec) : _root_.Go.OpenSpec := { _root_.Go.OpenSpec.ofChange s with cond := some uptoSmall }

/-- 'goitlaw14.StateNil', WHERE WHAT IT READS IS OF BULK AT MOST 1048576: true; the input reads as it did. -/
def stateNilUptoRow : OpenClaim := { program := "ytdhimlkndpiacaa", sum := "16ca6374628e3acfa834861fdef4eedd2f26904aa0d29bb1185759e001413784", func := "goit/goitlaw14.StateNil", spec := "stateNil", inPlace := ["internal/reflectlite.ValueOf", "internal/reflectlite.Swapper", "(internal/reflectlite.Value).Len", "maps.clone"], unfollowed := true, recurses := true, plainKeys := false, apart := false, narrowed := true }
def StateNilUptoSaid : Prop := stateNilUptoRow.holds Try.pinned (OpenSpec.upto stateNilSpec)

/-- 'goitlaw14.StateMany', WHERE WHAT IT READS IS OF BULK AT MOST 1048576: true; the input reads as it did. -/
def stateManyUptoRow : OpenClaim := { program := "ytdhimlkndpiacaa", sum := "16ca6374628e3acfa834861fdef4eedd2f26904aa0d29bb1185759e001413784", func := "goit/goitlaw14.StateMany", spec := "stateMany", inPlace := ["internal/reflectlite.ValueOf", "internal/reflectlite.Swapper", "(internal/reflectlite.Value).Len"], unfollowed := true, recurses := true, plainKeys := false, apart := false, narrowed := true }
def StateManyUptoSaid : Prop := stateManyUptoRow.holds Try.pinned (OpenSpec.upto stateManySpec)

/-- 'goitlaw14.StateAnew', WHERE WHAT IT READS IS OF BULK AT MOST 1048576: true; the input reads as it did. -/
def stateAnewUptoRow : OpenClaim := { program := "ytdhimlkndpiacaa", sum := "16ca6374628e3acfa834861fdef4eedd2f26904aa0d29bb1185759e001413784", func := "goit/goitlaw14.StateAnew", spec := "stateAnew", inPlace := ["internal/reflectlite.ValueOf", "internal/reflectlite.Swapper", "(internal/reflectlite.Value).Len", "maps.clone"], unfollowed := true, recurses := true, plainKeys := false, apart := false, narrowed := true }
def StateAnewUptoSaid : Prop := stateAnewUptoRow.holds Try.pinned (OpenSpec.upto stateAnewSpec)

/-- 'goitlaw14.StateApart', WHERE WHAT IT READS IS OF BULK AT MOST 1048576: true; the input reads as it did. -/
def stateApartUptoRow : OpenClaim := { program := "ytdhimlkndpiacaa", sum := "16ca6374628e3acfa834861fdef4eedd2f26904aa0d29bb1185759e001413784", func := "goit/goitlaw14.StateApart", spec := "stateApart", inPlace := ["internal/reflectlite.ValueOf", "internal/reflectlite.Swapper", "(internal/reflectlite.Value).Len"], unfollowed := true, recurses := true, plainKeys := false, apart := false, narrowed := true }
def StateApartUptoSaid : Prop := stateApartUptoRow.holds Try.pinned (OpenSpec.upto stateApartSpec)

/-- 'goitlaw14.StateLast', WHERE WHAT IT READS IS OF BULK AT MOST 1048576: true; the input reads as it did. -/
def stateLastUptoRow : OpenClaim := { program := "ytdhimlkndpiacaa", sum := "16ca6374628e3acfa834861fdef4eedd2f26904aa0d29bb1185759e001413784", func := "goit/goitlaw14.StateLast", spec := "stateLast", inPlace := ["internal/reflectlite.ValueOf", "internal/reflectlite.Swapper", "(internal/reflectlite.Value).Len"], unfollowed := true, recurses := true, plainKeys := false, apart := false, narrowed := true }
def StateLastUptoSaid : Prop := stateLastUptoRow.holds Try.pinned (OpenSpec.upto stateLastSpec)

end Rows
end Go.Proofs.Ytdhimlkndpiacaa
