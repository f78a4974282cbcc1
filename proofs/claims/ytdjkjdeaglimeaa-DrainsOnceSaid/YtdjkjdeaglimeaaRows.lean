/-
  No cell of these rows narrows 'for every input' (looked for: loops, veiled, ifaces, maps, wideKeys, modest, calm, conditions, laid).
  DERIVED. THE GIVEN ROWS OF THIS SEAT. 9 by the template 'for every input the law returns true; each argument reads behind the call as it read before'; 0 by the template 'total and deterministic' (their statements: YtdjkjdeaglimeaaTotals.lean).
  GIVEN WITH THE SEED: the statements are not yours to turn. If you find one false, say at which input.
  Laid BY PROGRAM, IN A SANDBOX (cutbox-rows.mjs): the forced cells as the released guide's own fill.sh prints them over the translation d403ccaac9f715d3… (all of the seat's roots in one cut). By AI agents, Wed Nov 11 2026. No macro, syntax, notation, axiom, sorry.
-/
import Derived.Test.YtdjkjdeaglimeaaChecked
import GoSem.Claim
import GoSem.ClaimJoined
import GoSem.ClaimMapViews
import Derived.JoinedTies
import Derived.KernelRfl
namespace Go.Proofs.Ytdjkjdeaglimeaa
/- THE CELL 'sum', in the pinned program and in every row, IS THE sha256 OF THE DUMP (.gsa) THAT YtdjkjdeaglimeaaProg.lean LOADS. Nothing in Lean hashes anything: it is a label: what it is worth is what the hold of that sum in a sandbox is worth. -/
noncomputable def Try.pinned : Pinned := { name := "ytdjkjdeaglimeaa", sum := "d403ccaac9f715d33b7453a04744b5fd88141182c7b86933625d81fe9a0ce1b0", checked := Try.checked }
namespace Rows
def none {H : Type} : Left H := { results := [], args := [] }

/-- 'goitlaw10.DuePlays': WHATEVER THE INPUT: true; the input reads as it did. -/
def duePlaysSpec : ChangeSpec := { name := "duePlays", fn := fun _ => fun
  | [d1, d2] => { results := [.lit (.bool true)], args := [d1, d2] }
  | _ => none }
def duePlaysRow : OpenClaim := { program := "ytdjkjdeaglimeaa", sum := "d403ccaac9f715d33b7453a04744b5fd88141182c7b86933625d81fe9a0ce1b0", func := "goit/goitlaw10.DuePlays", spec := "duePlays", unfollowed := true, recurses := true, apart := false }
def DuePlaysSaid : Prop := duePlaysRow.holds Try.pinned (OpenSpec.ofChange duePlaysSpec)

/-- ITS FALSE NEIGHBOUR: 'it returns false'. Refute it at one input. -/
def duePlaysWrong : ChangeSpec := { name := "duePlays", fn := fun _ => fun
  | [d1, d2] => { results := [.lit (.bool false)], args := [d1, d2] }
  | _ => none }
def DuePlaysWrongFalsely : Prop := duePlaysRow.holds Try.pinned (OpenSpec.ofChange duePlaysWrong)

/-- 'goitlaw10.DueMany': WHATEVER THE INPUT: true; the input reads as it did. -/
def dueManySpec : ChangeSpec := { name := "dueMany", fn := fun _ => fun
  | [d] => { results := [.lit (.bool true)], args := [d] }
  | _ => none }
def dueManyRow : OpenClaim := { program := "ytdjkjdeaglimeaa", sum := "d403ccaac9f715d33b7453a04744b5fd88141182c7b86933625d81fe9a0ce1b0", func := "goit/goitlaw10.DueMany", spec := "dueMany", unfollowed := true, recurses := true, apart := false }
def DueManySaid : Prop := dueManyRow.holds Try.pinned (OpenSpec.ofChange dueManySpec)

/-- ITS FALSE NEIGHBOUR: 'it returns false'. Refute it at one input. -/
def dueManyWrong : ChangeSpec := { name := "dueMany", fn := fun _ => fun
  | [d] => { results := [.lit (.bool false)], args := [d] }
  | _ => none }
def DueManyWrongFalsely : Prop := dueManyRow.holds Try.pinned (OpenSpec.ofChange dueManyWrong)

/-- 'goitlaw10.DueNil': WHATEVER THE INPUT: true; the input reads as it did. -/
def dueNilSpec : ChangeSpec := { name := "dueNil", fn := fun _ => fun
  | [d1, d2] => { results := [.lit (.bool true)], args := [d1, d2] }
  | _ => none }
def dueNilRow : OpenClaim := { program := "ytdjkjdeaglimeaa", sum := "d403ccaac9f715d33b7453a04744b5fd88141182c7b86933625d81fe9a0ce1b0", func := "goit/goitlaw10.DueNil", spec := "dueNil", unfollowed := true, recurses := true, apart := false }
def DueNilSaid : Prop := dueNilRow.holds Try.pinned (OpenSpec.ofChange dueNilSpec)

/-- ITS FALSE NEIGHBOUR: 'it returns false'. Refute it at one input. -/
def dueNilWrong : ChangeSpec := { name := "dueNil", fn := fun _ => fun
  | [d1, d2] => { results := [.lit (.bool false)], args := [d1, d2] }
  | _ => none }
def DueNilWrongFalsely : Prop := dueNilRow.holds Try.pinned (OpenSpec.ofChange dueNilWrong)

/-- 'goitlaw10.DueOrder': WHATEVER THE INPUT: true; the input reads as it did. -/
def dueOrderSpec : ChangeSpec := { name := "dueOrder", fn := fun _ => fun
  | [d1, d2, d3] => { results := [.lit (.bool true)], args := [d1, d2, d3] }
  | _ => none }
def dueOrderRow : OpenClaim := { program := "ytdjkjdeaglimeaa", sum := "d403ccaac9f715d33b7453a04744b5fd88141182c7b86933625d81fe9a0ce1b0", func := "goit/goitlaw10.DueOrder", spec := "dueOrder", unfollowed := true, recurses := true, apart := false }
def DueOrderSaid : Prop := dueOrderRow.holds Try.pinned (OpenSpec.ofChange dueOrderSpec)

/-- ITS FALSE NEIGHBOUR: 'it returns false'. Refute it at one input. -/
def dueOrderWrong : ChangeSpec := { name := "dueOrder", fn := fun _ => fun
  | [d1, d2, d3] => { results := [.lit (.bool false)], args := [d1, d2, d3] }
  | _ => none }
def DueOrderWrongFalsely : Prop := dueOrderRow.holds Try.pinned (OpenSpec.ofChange dueOrderWrong)

/-- 'goitlaw10.DueApart': WHATEVER THE INPUT: true; the input reads as it did. -/
def dueApartSpec : ChangeSpec := { name := "dueApart", fn := fun _ => fun
  | [d1, d2, d3] => { results := [.lit (.bool true)], args := [d1, d2, d3] }
  | _ => none }
def dueApartRow : OpenClaim := { program := "ytdjkjdeaglimeaa", sum := "d403ccaac9f715d33b7453a04744b5fd88141182c7b86933625d81fe9a0ce1b0", func := "goit/goitlaw10.DueApart", spec := "dueApart", unfollowed := true, recurses := true, apart := false }
def DueApartSaid : Prop := dueApartRow.holds Try.pinned (OpenSpec.ofChange dueApartSpec)

/-- ITS FALSE NEIGHBOUR: 'it returns false'. Refute it at one input. -/
def dueApartWrong : ChangeSpec := { name := "dueApart", fn := fun _ => fun
  | [d1, d2, d3] => { results := [.lit (.bool false)], args := [d1, d2, d3] }
  | _ => none }
def DueApartWrongFalsely : Prop := dueApartRow.holds Try.pinned (OpenSpec.ofChange dueApartWrong)

/-- 'goitlaw10.DueParts': WHATEVER THE INPUT: true; the input reads as it did. -/
def duePartsSpec : ChangeSpec := { name := "dueParts", fn := fun _ => fun
  | [d1, d2, d3] => { results := [.lit (.bool true)], args := [d1, d2, d3] }
  | _ => none }
def duePartsRow : OpenClaim := { program := "ytdjkjdeaglimeaa", sum := "d403ccaac9f715d33b7453a04744b5fd88141182c7b86933625d81fe9a0ce1b0", func := "goit/goitlaw10.DueParts", spec := "dueParts", unfollowed := true, recurses := true, apart := false }
def DuePartsSaid : Prop := duePartsRow.holds Try.pinned (OpenSpec.ofChange duePartsSpec)

/-- ITS FALSE NEIGHBOUR: 'it returns false'. Refute it at one input. -/
def duePartsWrong : ChangeSpec := { name := "dueParts", fn := fun _ => fun
  | [d1, d2, d3] => { results := [.lit (.bool false)], args := [d1, d2, d3] }
  | _ => none }
def DuePartsWrongFalsely : Prop := duePartsRow.holds Try.pinned (OpenSpec.ofChange duePartsWrong)

/-- 'goitlaw12.DrainsPlay': WHATEVER THE INPUT: true; the input reads as it did. -/
def drainsPlaySpec : ChangeSpec := { name := "drainsPlay", fn := fun _ => fun
  | [d] => { results := [.lit (.bool true)], args := [d] }
  | _ => none }
def drainsPlayRow : OpenClaim := { program := "ytdjkjdeaglimeaa", sum := "d403ccaac9f715d33b7453a04744b5fd88141182c7b86933625d81fe9a0ce1b0", func := "goit/goitlaw12.DrainsPlay", spec := "drainsPlay", unfollowed := true, recurses := true, apart := false }
def DrainsPlaySaid : Prop := drainsPlayRow.holds Try.pinned (OpenSpec.ofChange drainsPlaySpec)

/-- ITS FALSE NEIGHBOUR: 'it returns false'. Refute it at one input. -/
def drainsPlayWrong : ChangeSpec := { name := "drainsPlay", fn := fun _ => fun
  | [d] => { results := [.lit (.bool false)], args := [d] }
  | _ => none }
def DrainsPlayWrongFalsely : Prop := drainsPlayRow.holds Try.pinned (OpenSpec.ofChange drainsPlayWrong)

/-- 'goitlaw12.DrainsNil': WHATEVER THE INPUT: true; the input reads as it did. -/
def drainsNilSpec : ChangeSpec := { name := "drainsNil", fn := fun _ => fun
  | [d1, d2] => { results := [.lit (.bool true)], args := [d1, d2] }
  | _ => none }
def drainsNilRow : OpenClaim := { program := "ytdjkjdeaglimeaa", sum := "d403ccaac9f715d33b7453a04744b5fd88141182c7b86933625d81fe9a0ce1b0", func := "goit/goitlaw12.DrainsNil", spec := "drainsNil", unfollowed := true, recurses := true, apart := false }
def DrainsNilSaid : Prop := drainsNilRow.holds Try.pinned (OpenSpec.ofChange drainsNilSpec)

/-- ITS FALSE NEIGHBOUR: 'it returns false'. Refute it at one input. -/
def drainsNilWrong : ChangeSpec := { name := "drainsNil", fn := fun _ => fun
  | [d1, d2] => { results := [.lit (.bool false)], args := [d1, d2] }
  | _ => none }
def DrainsNilWrongFalsely : Prop := drainsNilRow.holds Try.pinned (OpenSpec.ofChange drainsNilWrong)

/-- 'goitlaw12.DrainsOnce': WHATEVER THE INPUT: true; the input reads as it did. -/
def drainsOnceSpec : ChangeSpec := { name := "drainsOnce", fn := fun _ => fun
  | [d1, d2] => { results := [.lit (.bool true)], args := [d1, d2] }
  | _ => none }
def drainsOnceRow : OpenClaim := { program := "ytdjkjdeaglimeaa", sum := "d403ccaac9f715d33b7453a04744b5fd88141182c7b86933625d81fe9a0ce1b0", func := "goit/goitlaw12.DrainsOnce", spec := "drainsOnce", unfollowed := true, recurses := true, apart := false }
def DrainsOnceSaid : Prop := drainsOnceRow.holds Try.pinned (OpenSpec.ofChange drainsOnceSpec)

/-- ITS FALSE NEIGHBOUR: 'it returns false'. Refute it at one input. -/
def drainsOnceWrong : ChangeSpec := { name := "drainsOnce", fn := fun _ => fun
  | [d1, d2] => { results := [.lit (.bool false)], args := [d1, d2] }
  | _ => none }
def DrainsOnceWrongFalsely : Prop := drainsOnceRow.holds Try.pinned (OpenSpec.ofChange drainsOnceWrong)

/- THE SECOND FORM. 'bulk': how many values and letters a reading holds, each counted each time it is reached (what is shared counts as often as it is met; a slice's spare places count too). A statement '..UptoSaid' is the law's where the arguments, and the package variables that the reading takes, are together of bulk at most 1048576: NARROWER than '..Said'. Prove '..Said' where nothing that the law and all that it calls make is longer than what came in: it says more and counts as full. Else prove '..UptoSaid'. A law counts once. -/
mutual
def uptoBulk {H : Type} : DataW H → Nat
  | .lit (.string bytes) => bytes.length + 1
  | .lit _ => 1
  | .nil => 1
  | .ptr d => uptoBulk d + 1
  | .slice elems spare => uptoBulkAll elems + uptoBulkAll spare + 1
  | .agg parts => uptoBulkAll parts + 1
  | .iface _ d => uptoBulk d + 1
  | .map entries => uptoBulkEntries entries + 1
  | .held _ => 1
def uptoBulkAll {H : Type} : List (DataW H) → Nat
  | [] => 0
  | d :: r => uptoBulk d + uptoBulkAll r
def uptoBulkEntries {H : Type} : List (Lit × DataW H) → Nat
  | [] => 0
  | x :: r => uptoBulkEntry x + uptoBulkEntries r
def uptoBulkEntry {H : Type} : Lit × DataW H → Nat
  | (.string bytes, d) => bytes.length + uptoBulk d + 1
  | (_, d) => uptoBulk d + 1
 end
def uptoSmall : (H : Type) → List (DataW H) → Bool := fun _ ds => decide (uptoBulkAll ds ≤ 1048576)
def OpenSpec.upto (s : _root_.Go.ChangeSpec) : _root_.Go.OpenSpec := { _root_.Go.OpenSpec.ofChange s with cond := some uptoSmall }

/-- 'goitlaw10.DuePlays', WHERE WHAT IT READS IS OF BULK AT MOST 1048576: true; the input reads as it did. -/
def duePlaysUptoRow : OpenClaim := { program := "ytdjkjdeaglimeaa", sum := "d403ccaac9f715d33b7453a04744b5fd88141182c7b86933625d81fe9a0ce1b0", func := "goit/goitlaw10.DuePlays", spec := "duePlays", unfollowed := true, recurses := true, apart := false, narrowed := true }
def DuePlaysUptoSaid : Prop := duePlaysUptoRow.holds Try.pinned (OpenSpec.upto duePlaysSpec)

/-- 'goitlaw10.DueMany', WHERE WHAT IT READS IS OF BULK AT MOST 1048576: true; the input reads as it did. -/
def dueManyUptoRow : OpenClaim := { program := "ytdjkjdeaglimeaa", sum := "d403ccaac9f715d33b7453a04744b5fd88141182c7b86933625d81fe9a0ce1b0", func := "goit/goitlaw10.DueMany", spec := "dueMany", unfollowed := true, recurses := true, apart := false, narrowed := true }
def DueManyUptoSaid : Prop := dueManyUptoRow.holds Try.pinned (OpenSpec.upto dueManySpec)

/-- 'goitlaw10.DueNil', WHERE WHAT IT READS IS OF BULK AT MOST 1048576: true; the input reads as it did. -/
def dueNilUptoRow : OpenClaim := { program := "ytdjkjdeaglimeaa", sum := "d403ccaac9f715d33b7453a04744b5fd88141182c7b86933625d81fe9a0ce1b0", func := "goit/goitlaw10.DueNil", spec := "dueNil", unfollowed := true, recurses := true, apart := false, narrowed := true }
def DueNilUptoSaid : Prop := dueNilUptoRow.holds Try.pinned (OpenSpec.upto dueNilSpec)

/-- 'goitlaw10.DueOrder', WHERE WHAT IT READS IS OF BULK AT MOST 1048576: true; the input reads as it did. -/
def dueOrderUptoRow : OpenClaim := { program := "ytdjkjdeaglimeaa", sum := "d403ccaac9f715d33b7453a04744b5fd88141182c7b86933625d81fe9a0ce1b0", func := "goit/goitlaw10.DueOrder", spec := "dueOrder", unfollowed := true, recurses := true, apart := false, narrowed := true }
def DueOrderUptoSaid : Prop := dueOrderUptoRow.holds Try.pinned (OpenSpec.upto dueOrderSpec)

/-- 'goitlaw10.DueApart', WHERE WHAT IT READS IS OF BULK AT MOST 1048576: true; the input reads as it did. -/
def dueApartUptoRow : OpenClaim := { program := "ytdjkjdeaglimeaa", sum := "d403ccaac9f715d33b7453a04744b5fd88141182c7b86933625d81fe9a0ce1b0", func := "goit/goitlaw10.DueApart", spec := "dueApart", unfollowed := true, recurses := true, apart := false, narrowed := true }
def DueApartUptoSaid : Prop := dueApartUptoRow.holds Try.pinned (OpenSpec.upto dueApartSpec)

/-- 'goitlaw10.DueParts', WHERE WHAT IT READS IS OF BULK AT MOST 1048576: true; the input reads as it did. -/
def duePartsUptoRow : OpenClaim := { program := "ytdjkjdeaglimeaa", sum := "d403ccaac9f715d33b7453a04744b5fd88141182c7b86933625d81fe9a0ce1b0", func := "goit/goitlaw10.DueParts", spec := "dueParts", unfollowed := true, recurses := true, apart := false, narrowed := true }
def DuePartsUptoSaid : Prop := duePartsUptoRow.holds Try.pinned (OpenSpec.upto duePartsSpec)

/-- 'goitlaw12.DrainsPlay', WHERE WHAT IT READS IS OF BULK AT MOST 1048576: true; the input reads as it did. -/
def drainsPlayUptoRow : OpenClaim := { program := "ytdjkjdeaglimeaa", sum := "d403ccaac9f715d33b7453a04744b5fd88141182c7b86933625d81fe9a0ce1b0", func := "goit/goitlaw12.DrainsPlay", spec := "drainsPlay", unfollowed := true, recurses := true, apart := false, narrowed := true }
def DrainsPlayUptoSaid : Prop := drainsPlayUptoRow.holds Try.pinned (OpenSpec.upto drainsPlaySpec)

/-- 'goitlaw12.DrainsNil', WHERE WHAT IT READS IS OF BULK AT MOST 1048576: true; the input reads as it did. -/
def drainsNilUptoRow : OpenClaim := { program := "ytdjkjdeaglimeaa", sum := "d403ccaac9f715d33b7453a04744b5fd88141182c7b86933625d81fe9a0ce1b0", func := "goit/goitlaw12.DrainsNil", spec := "drainsNil", unfollowed := true, recurses := true, apart := false, narrowed := true }
def DrainsNilUptoSaid : Prop := drainsNilUptoRow.holds Try.pinned (OpenSpec.upto drainsNilSpec)

/-- 'goitlaw12.DrainsOnce', WHERE WHAT IT READS IS OF BULK AT MOST 1048576: true; the input reads as it did. -/
def drainsOnceUptoRow : OpenClaim := { program := "ytdjkjdeaglimeaa", sum := "d403ccaac9f715d33b7453a04744b5fd88141182c7b86933625d81fe9a0ce1b0", func := "goit/goitlaw12.DrainsOnce", spec := "drainsOnce", unfollowed := true, recurses := true, apart := false, narrowed := true }
def DrainsOnceUptoSaid : Prop := drainsOnceUptoRow.holds Try.pinned (OpenSpec.upto drainsOnceSpec)

end Rows
end Go.Proofs.Ytdjkjdeaglimeaa
