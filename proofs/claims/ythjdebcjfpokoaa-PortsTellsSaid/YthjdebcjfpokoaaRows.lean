/-
  No cell of these rows narrows 'for every input' (looked for: loops, veiled, ifaces, maps, wideKeys, modest, calm, conditions, laid).
  DERIVED. THE GIVEN ROWS OF THIS SEAT. 10 by the template 'for every input the law returns true; each argument reads behind the call as it read before'; 0 by the template 'total and deterministic' (their statements: YthjdebcjfpokoaaTotals.lean).
  GIVEN WITH THE SEED: the statements are not yours to turn. If you find one false, say at which input.
  Laid BY PROGRAM, IN A SANDBOX (cutbox-rows.mjs): the forced cells as the released guide's own fill.sh prints them over the translation ba89161bc692d140… (all of the seat's roots in one cut). By AI agents, Wed Nov 11 2026. No macro, syntax, notation, axiom, sorry.
-/
import Derived.Test.YthjdebcjfpokoaaChecked
import GoSem.Claim
import GoSem.ClaimJoined
import GoSem.ClaimMapViews
import Derived.JoinedTies
import Derived.KernelRfl
namespace Go.Proofs.Ythjdebcjfpokoaa
/- THE CELL 'sum', in the pinned program and in every row, IS THE sha256 OF THE DUMP (.gsa) THAT YthjdebcjfpokoaaProg.lean LOADS. Nothing in Lean hashes anything: it is a label: what it is worth is what the hold of that sum in a sandbox is worth. -/
noncomputable def Try.pinned : Pinned := { name := "ythjdebcjfpokoaa", sum := "ba89161bc692d14052f86d4234550600e92dbe7cff244a6f87045d07ca4a6c79", checked := Try.checked }
namespace Rows
def none {H : Type} : Left H := { results := [], args := [] }

/-- 'goitlaw20.IpParses': WHATEVER THE INPUT: true; the input reads as it did. -/
def ipParsesSpec : ChangeSpec := { name := "ipParses", fn := fun _ => fun
  | [d1, d2, d3, d4, d5, d6, d7] => { results := [.lit (.bool true)], args := [d1, d2, d3, d4, d5, d6, d7] }
  | _ => none }
def ipParsesRow : OpenClaim := { program := "ythjdebcjfpokoaa", sum := "ba89161bc692d14052f86d4234550600e92dbe7cff244a6f87045d07ca4a6c79", func := "goit/goitlaw20.IpParses", spec := "ipParses", unfollowed := true, recurses := true, apart := false }
def IpParsesSaid : Prop := ipParsesRow.holds Try.pinned (OpenSpec.ofChange ipParsesSpec)

/-- ITS FALSE NEIGHBOUR: 'it returns false'. Refute it at one input. -/
def ipParsesWrong : ChangeSpec := { name := "ipParses", fn := fun _ => fun
  | [d1, d2, d3, d4, d5, d6, d7] => { results := [.lit (.bool false)], args := [d1, d2, d3, d4, d5, d6, d7] }
  | _ => none }
def IpParsesWrongFalsely : Prop := ipParsesRow.holds Try.pinned (OpenSpec.ofChange ipParsesWrong)

/-- 'goitlaw20.IpBack': WHATEVER THE INPUT: true; the input reads as it did. -/
def ipBackSpec : ChangeSpec := { name := "ipBack", fn := fun _ => fun
  | [d1, d2, d3, d4, d5] => { results := [.lit (.bool true)], args := [d1, d2, d3, d4, d5] }
  | _ => none }
def ipBackRow : OpenClaim := { program := "ythjdebcjfpokoaa", sum := "ba89161bc692d14052f86d4234550600e92dbe7cff244a6f87045d07ca4a6c79", func := "goit/goitlaw20.IpBack", spec := "ipBack", unfollowed := true, recurses := true, apart := false }
def IpBackSaid : Prop := ipBackRow.holds Try.pinned (OpenSpec.ofChange ipBackSpec)

/-- ITS FALSE NEIGHBOUR: 'it returns false'. Refute it at one input. -/
def ipBackWrong : ChangeSpec := { name := "ipBack", fn := fun _ => fun
  | [d1, d2, d3, d4, d5] => { results := [.lit (.bool false)], args := [d1, d2, d3, d4, d5] }
  | _ => none }
def IpBackWrongFalsely : Prop := ipBackRow.holds Try.pinned (OpenSpec.ofChange ipBackWrong)

/-- 'goitlaw20.IpOrder': WHATEVER THE INPUT: true; the input reads as it did. -/
def ipOrderSpec : ChangeSpec := { name := "ipOrder", fn := fun _ => fun
  | [d1, d2] => { results := [.lit (.bool true)], args := [d1, d2] }
  | _ => none }
def ipOrderRow : OpenClaim := { program := "ythjdebcjfpokoaa", sum := "ba89161bc692d14052f86d4234550600e92dbe7cff244a6f87045d07ca4a6c79", func := "goit/goitlaw20.IpOrder", spec := "ipOrder", unfollowed := true, recurses := true, apart := false }
def IpOrderSaid : Prop := ipOrderRow.holds Try.pinned (OpenSpec.ofChange ipOrderSpec)

/-- ITS FALSE NEIGHBOUR: 'it returns false'. Refute it at one input. -/
def ipOrderWrong : ChangeSpec := { name := "ipOrder", fn := fun _ => fun
  | [d1, d2] => { results := [.lit (.bool false)], args := [d1, d2] }
  | _ => none }
def IpOrderWrongFalsely : Prop := ipOrderRow.holds Try.pinned (OpenSpec.ofChange ipOrderWrong)

/-- 'goitlaw20.IpBehind': WHATEVER THE INPUT: true; the input reads as it did. -/
def ipBehindSpec : ChangeSpec := { name := "ipBehind", fn := fun _ => fun
  | [d1, d2, d3] => { results := [.lit (.bool true)], args := [d1, d2, d3] }
  | _ => none }
def ipBehindRow : OpenClaim := { program := "ythjdebcjfpokoaa", sum := "ba89161bc692d14052f86d4234550600e92dbe7cff244a6f87045d07ca4a6c79", func := "goit/goitlaw20.IpBehind", spec := "ipBehind", unfollowed := true, recurses := true, apart := false }
def IpBehindSaid : Prop := ipBehindRow.holds Try.pinned (OpenSpec.ofChange ipBehindSpec)

/-- ITS FALSE NEIGHBOUR: 'it returns false'. Refute it at one input. -/
def ipBehindWrong : ChangeSpec := { name := "ipBehind", fn := fun _ => fun
  | [d1, d2, d3] => { results := [.lit (.bool false)], args := [d1, d2, d3] }
  | _ => none }
def IpBehindWrongFalsely : Prop := ipBehindRow.holds Try.pinned (OpenSpec.ofChange ipBehindWrong)

/-- 'goitlaw21.PortsTells': WHATEVER THE INPUT: true; the input reads as it did. -/
def portsTellsSpec : ChangeSpec := { name := "portsTells", fn := fun _ => fun
  | [d1, d2, d3, d4, d5, d6, d7, d8, d9, d10] => { results := [.lit (.bool true)], args := [d1, d2, d3, d4, d5, d6, d7, d8, d9, d10] }
  | _ => none }
def portsTellsRow : OpenClaim := { program := "ythjdebcjfpokoaa", sum := "ba89161bc692d14052f86d4234550600e92dbe7cff244a6f87045d07ca4a6c79", func := "goit/goitlaw21.PortsTells", spec := "portsTells", unfollowed := true, recurses := true, apart := false }
def PortsTellsSaid : Prop := portsTellsRow.holds Try.pinned (OpenSpec.ofChange portsTellsSpec)

/-- ITS FALSE NEIGHBOUR: 'it returns false'. Refute it at one input. -/
def portsTellsWrong : ChangeSpec := { name := "portsTells", fn := fun _ => fun
  | [d1, d2, d3, d4, d5, d6, d7, d8, d9, d10] => { results := [.lit (.bool false)], args := [d1, d2, d3, d4, d5, d6, d7, d8, d9, d10] }
  | _ => none }
def PortsTellsWrongFalsely : Prop := portsTellsRow.holds Try.pinned (OpenSpec.ofChange portsTellsWrong)

/-- 'goitlaw21.PortsBack': WHATEVER THE INPUT: true; the input reads as it did. -/
def portsBackSpec : ChangeSpec := { name := "portsBack", fn := fun _ => fun
  | [d1, d2, d3, d4, d5] => { results := [.lit (.bool true)], args := [d1, d2, d3, d4, d5] }
  | _ => none }
def portsBackRow : OpenClaim := { program := "ythjdebcjfpokoaa", sum := "ba89161bc692d14052f86d4234550600e92dbe7cff244a6f87045d07ca4a6c79", func := "goit/goitlaw21.PortsBack", spec := "portsBack", unfollowed := true, recurses := true, apart := false }
def PortsBackSaid : Prop := portsBackRow.holds Try.pinned (OpenSpec.ofChange portsBackSpec)

/-- ITS FALSE NEIGHBOUR: 'it returns false'. Refute it at one input. -/
def portsBackWrong : ChangeSpec := { name := "portsBack", fn := fun _ => fun
  | [d1, d2, d3, d4, d5] => { results := [.lit (.bool false)], args := [d1, d2, d3, d4, d5] }
  | _ => none }
def PortsBackWrongFalsely : Prop := portsBackRow.holds Try.pinned (OpenSpec.ofChange portsBackWrong)

/-- 'goitlaw21.PortsShort': WHATEVER THE INPUT: true; the input reads as it did. -/
def portsShortSpec : ChangeSpec := { name := "portsShort", fn := fun _ => fun
  | [d1, d2, d3] => { results := [.lit (.bool true)], args := [d1, d2, d3] }
  | _ => none }
def portsShortRow : OpenClaim := { program := "ythjdebcjfpokoaa", sum := "ba89161bc692d14052f86d4234550600e92dbe7cff244a6f87045d07ca4a6c79", func := "goit/goitlaw21.PortsShort", spec := "portsShort", unfollowed := true, recurses := true, apart := false }
def PortsShortSaid : Prop := portsShortRow.holds Try.pinned (OpenSpec.ofChange portsShortSpec)

/-- ITS FALSE NEIGHBOUR: 'it returns false'. Refute it at one input. -/
def portsShortWrong : ChangeSpec := { name := "portsShort", fn := fun _ => fun
  | [d1, d2, d3] => { results := [.lit (.bool false)], args := [d1, d2, d3] }
  | _ => none }
def PortsShortWrongFalsely : Prop := portsShortRow.holds Try.pinned (OpenSpec.ofChange portsShortWrong)

/-- 'goitlaw22.EncapWraps': WHATEVER THE INPUT: true; the input reads as it did. -/
def encapWrapsSpec : ChangeSpec := { name := "encapWraps", fn := fun _ => fun
  | [d1, d2, d3, d4, d5, d6, d7, d8, d9, d10] => { results := [.lit (.bool true)], args := [d1, d2, d3, d4, d5, d6, d7, d8, d9, d10] }
  | _ => none }
def encapWrapsRow : OpenClaim := { program := "ythjdebcjfpokoaa", sum := "ba89161bc692d14052f86d4234550600e92dbe7cff244a6f87045d07ca4a6c79", func := "goit/goitlaw22.EncapWraps", spec := "encapWraps", unfollowed := true, recurses := true, apart := false }
def EncapWrapsSaid : Prop := encapWrapsRow.holds Try.pinned (OpenSpec.ofChange encapWrapsSpec)

/-- ITS FALSE NEIGHBOUR: 'it returns false'. Refute it at one input. -/
def encapWrapsWrong : ChangeSpec := { name := "encapWraps", fn := fun _ => fun
  | [d1, d2, d3, d4, d5, d6, d7, d8, d9, d10] => { results := [.lit (.bool false)], args := [d1, d2, d3, d4, d5, d6, d7, d8, d9, d10] }
  | _ => none }
def EncapWrapsWrongFalsely : Prop := encapWrapsRow.holds Try.pinned (OpenSpec.ofChange encapWrapsWrong)

/-- 'goitlaw22.EncapBack': WHATEVER THE INPUT: true; the input reads as it did. -/
def encapBackSpec : ChangeSpec := { name := "encapBack", fn := fun _ => fun
  | [d1, d2, d3, d4, d5, d6, d7] => { results := [.lit (.bool true)], args := [d1, d2, d3, d4, d5, d6, d7] }
  | _ => none }
def encapBackRow : OpenClaim := { program := "ythjdebcjfpokoaa", sum := "ba89161bc692d14052f86d4234550600e92dbe7cff244a6f87045d07ca4a6c79", func := "goit/goitlaw22.EncapBack", spec := "encapBack", unfollowed := true, recurses := true, apart := false }
def EncapBackSaid : Prop := encapBackRow.holds Try.pinned (OpenSpec.ofChange encapBackSpec)

/-- ITS FALSE NEIGHBOUR: 'it returns false'. Refute it at one input. -/
def encapBackWrong : ChangeSpec := { name := "encapBack", fn := fun _ => fun
  | [d1, d2, d3, d4, d5, d6, d7] => { results := [.lit (.bool false)], args := [d1, d2, d3, d4, d5, d6, d7] }
  | _ => none }
def EncapBackWrongFalsely : Prop := encapBackRow.holds Try.pinned (OpenSpec.ofChange encapBackWrong)

/-- 'goitlaw22.EncapTwice': WHATEVER THE INPUT: true; the input reads as it did. -/
def encapTwiceSpec : ChangeSpec := { name := "encapTwice", fn := fun _ => fun
  | [d1, d2, d3, d4] => { results := [.lit (.bool true)], args := [d1, d2, d3, d4] }
  | _ => none }
def encapTwiceRow : OpenClaim := { program := "ythjdebcjfpokoaa", sum := "ba89161bc692d14052f86d4234550600e92dbe7cff244a6f87045d07ca4a6c79", func := "goit/goitlaw22.EncapTwice", spec := "encapTwice", unfollowed := true, recurses := true, apart := false }
def EncapTwiceSaid : Prop := encapTwiceRow.holds Try.pinned (OpenSpec.ofChange encapTwiceSpec)

/-- ITS FALSE NEIGHBOUR: 'it returns false'. Refute it at one input. -/
def encapTwiceWrong : ChangeSpec := { name := "encapTwice", fn := fun _ => fun
  | [d1, d2, d3, d4] => { results := [.lit (.bool false)], args := [d1, d2, d3, d4] }
  | _ => none }
def EncapTwiceWrongFalsely : Prop := encapTwiceRow.holds Try.pinned (OpenSpec.ofChange encapTwiceWrong)

/- THE SECOND FORM. 'bulk': how many values and letters a reading holds, each counted each time it is reached (what is shared counts as often as it is met; a slice's spare places count too). A statement '..UptoSaid' is the law's where the arguments, and the package variables that the reading takes, are together of bulk at most 1048576: NARROWER than '..Said'. Prove '..Said' where nothing that the law and all that it calls make is longer than what came in: it says more and counts as full. Else prove '..UptoSaid'. A law counts once. -/
mutual
def uptoBulk {H : Type} : DataW H → Nat
  | .lit (.string bytes) => bytes.length + 1
  | .lit _ => 1
  | .nil => 1
  | .ptr d => uptoBulk d + 1
  | .slice elems spare => uptoBulkAll elems + uptoBulkAll spare + 1
  | .agg parts => uptoBulkAll parts + 1
  | .iface _ d => uptoBulk d + 1
  | .map entries => uptoBulkEntries entries + 1
  | .held _ => 1
def uptoBulkAll {H : Type} : List (DataW H) → Nat
  | [] => 0
  | d :: r => uptoBulk d + uptoBulkAll r
def uptoBulkEntries {H : Type} : List (Lit × DataW H) → Nat
  | [] => 0
  | x :: r => uptoBulkEntry x + uptoBulkEntries r
def uptoBulkEntry {H : Type} : Lit × DataW H → Nat
  | (.string bytes, d) => bytes.length + uptoBulk d + 1
  | (_, d) => uptoBulk d + 1
 end
def uptoSmall : (H : Type) → List (DataW H) → Bool := fun _ ds => decide (uptoBulkAll ds ≤ 1048576)
def OpenSpec.upto (s : _root_.Go.ChangeSpec) : _root_.Go.OpenSpec := { _root_.Go.OpenSpec.ofChange s with cond := some uptoSmall }

/-- 'goitlaw20.IpParses', WHERE WHAT IT READS IS OF BULK AT MOST 1048576: true; the input reads as it did. -/
def ipParsesUptoRow : OpenClaim := { program := "ythjdebcjfpokoaa", sum := "ba89161bc692d14052f86d4234550600e92dbe7cff244a6f87045d07ca4a6c79", func := "goit/goitlaw20.IpParses", spec := "ipParses", unfollowed := true, recurses := true, apart := false, narrowed := true }
def IpParsesUptoSaid : Prop := ipParsesUptoRow.holds Try.pinned (OpenSpec.upto ipParsesSpec)

/-- 'goitlaw20.IpBack', WHERE WHAT IT READS IS OF BULK AT MOST 1048576: true; the input reads as it did. -/
def ipBackUptoRow : OpenClaim := { program := "ythjdebcjfpokoaa", sum := "ba89161bc692d14052f86d4234550600e92dbe7cff244a6f87045d07ca4a6c79", func := "goit/goitlaw20.IpBack", spec := "ipBack", unfollowed := true, recurses := true, apart := false, narrowed := true }
def IpBackUptoSaid : Prop := ipBackUptoRow.holds Try.pinned (OpenSpec.upto ipBackSpec)

/-- 'goitlaw20.IpOrder', WHERE WHAT IT READS IS OF BULK AT MOST 1048576: true; the input reads as it did. -/
def ipOrderUptoRow : OpenClaim := { program := "ythjdebcjfpokoaa", sum := "ba89161bc692d14052f86d4234550600e92dbe7cff244a6f87045d07ca4a6c79", func := "goit/goitlaw20.IpOrder", spec := "ipOrder", unfollowed := true, recurses := true, apart := false, narrowed := true }
def IpOrderUptoSaid : Prop := ipOrderUptoRow.holds Try.pinned (OpenSpec.upto ipOrderSpec)

/-- 'goitlaw20.IpBehind', WHERE WHAT IT READS IS OF BULK AT MOST 1048576: true; the input reads as it did. -/
def ipBehindUptoRow : OpenClaim := { program := "ythjdebcjfpokoaa", sum := "ba89161bc692d14052f86d4234550600e92dbe7cff244a6f87045d07ca4a6c79", func := "goit/goitlaw20.IpBehind", spec := "ipBehind", unfollowed := true, recurses := true, apart := false, narrowed := true }
def IpBehindUptoSaid : Prop := ipBehindUptoRow.holds Try.pinned (OpenSpec.upto ipBehindSpec)

/-- 'goitlaw21.PortsTells', WHERE WHAT IT READS IS OF BULK AT MOST 1048576: true; the input reads as it did. -/
def portsTellsUptoRow : OpenClaim := { program := "ythjdebcjfpokoaa", sum := "ba89161bc692d14052f86d4234550600e92dbe7cff244a6f87045d07ca4a6c79", func := "goit/goitlaw21.PortsTells", spec := "portsTells", unfollowed := true, recurses := true, apart := false, narrowed := true }
def PortsTellsUptoSaid : Prop := portsTellsUptoRow.holds Try.pinned (OpenSpec.upto portsTellsSpec)

/-- 'goitlaw21.PortsBack', WHERE WHAT IT READS IS OF BULK AT MOST 1048576: true; the input reads as it did. -/
def portsBackUptoRow : OpenClaim := { program := "ythjdebcjfpokoaa", sum := "ba89161bc692d14052f86d4234550600e92dbe7cff244a6f87045d07ca4a6c79", func := "goit/goitlaw21.PortsBack", spec := "portsBack", unfollowed := true, recurses := true, apart := false, narrowed := true }
def PortsBackUptoSaid : Prop := portsBackUptoRow.holds Try.pinned (OpenSpec.upto portsBackSpec)

/-- 'goitlaw21.PortsShort', WHERE WHAT IT READS IS OF BULK AT MOST 1048576: true; the input reads as it did. -/
def portsShortUptoRow : OpenClaim := { program := "ythjdebcjfpokoaa", sum := "ba89161bc692d14052f86d4234550600e92dbe7cff244a6f87045d07ca4a6c79", func := "goit/goitlaw21.PortsShort", spec := "portsShort", unfollowed := true, recurses := true, apart := false, narrowed := true }
def PortsShortUptoSaid : Prop := portsShortUptoRow.holds Try.pinned (OpenSpec.upto portsShortSpec)

/-- 'goitlaw22.EncapWraps', WHERE WHAT IT READS IS OF BULK AT MOST 1048576: true; the input reads as it did. -/
def encapWrapsUptoRow : OpenClaim := { program := "ythjdebcjfpokoaa", sum := "ba89161bc692d14052f86d4234550600e92dbe7cff244a6f87045d07ca4a6c79", func := "goit/goitlaw22.EncapWraps", spec := "encapWraps", unfollowed := true, recurses := true, apart := false, narrowed := true }
def EncapWrapsUptoSaid : Prop := encapWrapsUptoRow.holds Try.pinned (OpenSpec.upto encapWrapsSpec)

/-- 'goitlaw22.EncapBack', WHERE WHAT IT READS IS OF BULK AT MOST 1048576: true; the input reads as it did. -/
def encapBackUptoRow : OpenClaim := { program := "ythjdebcjfpokoaa", sum := "ba89161bc692d14052f86d4234550600e92dbe7cff244a6f87045d07ca4a6c79", func := "goit/goitlaw22.EncapBack", spec := "encapBack", unfollowed := true, recurses := true, apart := false, narrowed := true }
def EncapBackUptoSaid : Prop := encapBackUptoRow.holds Try.pinned (OpenSpec.upto encapBackSpec)

/-- 'goitlaw22.EncapTwice', WHERE WHAT IT READS IS OF BULK AT MOST 1048576: true; the input reads as it did. -/
def encapTwiceUptoRow : OpenClaim := { program := "ythjdebcjfpokoaa", sum := "ba89161bc692d14052f86d4234550600e92dbe7cff244a6f87045d07ca4a6c79", func := "goit/goitlaw22.EncapTwice", spec := "encapTwice", unfollowed := true, recurses := true, apart := false, narrowed := true }
def EncapTwiceUptoSaid : Prop := encapTwiceUptoRow.holds Try.pinned (OpenSpec.upto encapTwiceSpec)

end Rows
end Go.Proofs.Ythjdebcjfpokoaa
