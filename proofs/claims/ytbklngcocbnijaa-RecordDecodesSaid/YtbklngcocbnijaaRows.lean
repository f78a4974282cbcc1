/-
  No cell of these rows narrows 'for every input' (looked for: loops, veiled, ifaces, maps, wideKeys, modest, calm, conditions, laid).
  DERIVED. THE GIVEN ROWS OF THIS SEAT. 10 by the template 'for every input the law returns true; each argument reads behind the call as it read before'; 0 by the template 'total and deterministic' (their statements: YtbklngcocbnijaaTotals.lean).
  GIVEN WITH THE SEED: the statements are not yours to turn. If you find one false, say at which input.
  Laid BY PROGRAM, IN A SANDBOX (cutbox-rows.mjs): the forced cells as the released guide's own fill.sh prints them over the translation 5a7988d7c7c5ff0e… (all of the seat's roots in one cut). By AI agents, Wed Nov 11 2026. No macro, syntax, notation, axiom, sorry.
-/
import Derived.Test.YtbklngcocbnijaaChecked
import GoSem.Claim
import GoSem.ClaimJoined
import GoSem.ClaimMapViews
import Derived.JoinedTies
import Derived.KernelRfl
namespace Go.Proofs.Ytbklngcocbnijaa
/- THE CELL 'sum', in the pinned program and in every row, IS THE sha256 OF THE DUMP (.gsa) THAT YtbklngcocbnijaaProg.lean LOADS. Nothing in Lean hashes anything: it is a label: what it is worth is what the hold of that sum in a sandbox is worth. -/
noncomputable def Try.pinned : Pinned := { name := "ytbklngcocbnijaa", sum := "5a7988d7c7c5ff0ef4f60c720a688b36dd951e82c261a5d96102a6e2ace89c8b", checked := Try.checked }
namespace Rows
def none {H : Type} : Left H := { results := [], args := [] }

/-- 'goitlaw8.RecordForms': WHATEVER THE INPUT: true; the input reads as it did. -/
def recordFormsSpec : ChangeSpec := { name := "recordForms", fn := fun _ => fun
  | [d1, d2, d3] => { results := [.lit (.bool true)], args := [d1, d2, d3] }
  | _ => none }
def recordFormsRow : OpenClaim := { program := "ytbklngcocbnijaa", sum := "5a7988d7c7c5ff0ef4f60c720a688b36dd951e82c261a5d96102a6e2ace89c8b", func := "goit/goitlaw8.RecordForms", spec := "recordForms", unfollowed := true, recurses := true, apart := false }
def RecordFormsSaid : Prop := recordFormsRow.holds Try.pinned (OpenSpec.ofChange recordFormsSpec)

/-- ITS FALSE NEIGHBOUR: 'it returns false'. Refute it at one input. -/
def recordFormsWrong : ChangeSpec := { name := "recordForms", fn := fun _ => fun
  | [d1, d2, d3] => { results := [.lit (.bool false)], args := [d1, d2, d3] }
  | _ => none }
def RecordFormsWrongFalsely : Prop := recordFormsRow.holds Try.pinned (OpenSpec.ofChange recordFormsWrong)

/-- 'goitlaw8.RecordEncodes': WHATEVER THE INPUT: true; the input reads as it did. -/
def recordEncodesSpec : ChangeSpec := { name := "recordEncodes", fn := fun _ => fun
  | [d1, d2] => { results := [.lit (.bool true)], args := [d1, d2] }
  | _ => none }
def recordEncodesRow : OpenClaim := { program := "ytbklngcocbnijaa", sum := "5a7988d7c7c5ff0ef4f60c720a688b36dd951e82c261a5d96102a6e2ace89c8b", func := "goit/goitlaw8.RecordEncodes", spec := "recordEncodes", unfollowed := true, recurses := true, apart := false }
def RecordEncodesSaid : Prop := recordEncodesRow.holds Try.pinned (OpenSpec.ofChange recordEncodesSpec)

/-- ITS FALSE NEIGHBOUR: 'it returns false'. Refute it at one input. -/
def recordEncodesWrong : ChangeSpec := { name := "recordEncodes", fn := fun _ => fun
  | [d1, d2] => { results := [.lit (.bool false)], args := [d1, d2] }
  | _ => none }
def RecordEncodesWrongFalsely : Prop := recordEncodesRow.holds Try.pinned (OpenSpec.ofChange recordEncodesWrong)

/-- 'goitlaw8.RecordDecodes': WHATEVER THE INPUT: true; the input reads as it did. -/
def recordDecodesSpec : ChangeSpec := { name := "recordDecodes", fn := fun _ => fun
  | [d1, d2, d3, d4, d5, d6, d7] => { results := [.lit (.bool true)], args := [d1, d2, d3, d4, d5, d6, d7] }
  | _ => none }
def recordDecodesRow : OpenClaim := { program := "ytbklngcocbnijaa", sum := "5a7988d7c7c5ff0ef4f60c720a688b36dd951e82c261a5d96102a6e2ace89c8b", func := "goit/goitlaw8.RecordDecodes", spec := "recordDecodes", unfollowed := true, recurses := true, apart := false }
def RecordDecodesSaid : Prop := recordDecodesRow.holds Try.pinned (OpenSpec.ofChange recordDecodesSpec)

/-- ITS FALSE NEIGHBOUR: 'it returns false'. Refute it at one input. -/
def recordDecodesWrong : ChangeSpec := { name := "recordDecodes", fn := fun _ => fun
  | [d1, d2, d3, d4, d5, d6, d7] => { results := [.lit (.bool false)], args := [d1, d2, d3, d4, d5, d6, d7] }
  | _ => none }
def RecordDecodesWrongFalsely : Prop := recordDecodesRow.holds Try.pinned (OpenSpec.ofChange recordDecodesWrong)

/-- 'goitlaw8.RecordBack': WHATEVER THE INPUT: true; the input reads as it did. -/
def recordBackSpec : ChangeSpec := { name := "recordBack", fn := fun _ => fun
  | [d1, d2, d3] => { results := [.lit (.bool true)], args := [d1, d2, d3] }
  | _ => none }
def recordBackRow : OpenClaim := { program := "ytbklngcocbnijaa", sum := "5a7988d7c7c5ff0ef4f60c720a688b36dd951e82c261a5d96102a6e2ace89c8b", func := "goit/goitlaw8.RecordBack", spec := "recordBack", unfollowed := true, recurses := true, apart := false }
def RecordBackSaid : Prop := recordBackRow.holds Try.pinned (OpenSpec.ofChange recordBackSpec)

/-- ITS FALSE NEIGHBOUR: 'it returns false'. Refute it at one input. -/
def recordBackWrong : ChangeSpec := { name := "recordBack", fn := fun _ => fun
  | [d1, d2, d3] => { results := [.lit (.bool false)], args := [d1, d2, d3] }
  | _ => none }
def RecordBackWrongFalsely : Prop := recordBackRow.holds Try.pinned (OpenSpec.ofChange recordBackWrong)

/-- 'goitlaw8.RecordFields': WHATEVER THE INPUT: true; the input reads as it did. -/
def recordFieldsSpec : ChangeSpec := { name := "recordFields", fn := fun _ => fun
  | [d1, d2, d3] => { results := [.lit (.bool true)], args := [d1, d2, d3] }
  | _ => none }
def recordFieldsRow : OpenClaim := { program := "ytbklngcocbnijaa", sum := "5a7988d7c7c5ff0ef4f60c720a688b36dd951e82c261a5d96102a6e2ace89c8b", func := "goit/goitlaw8.RecordFields", spec := "recordFields", unfollowed := true, recurses := true, apart := false }
def RecordFieldsSaid : Prop := recordFieldsRow.holds Try.pinned (OpenSpec.ofChange recordFieldsSpec)

/-- ITS FALSE NEIGHBOUR: 'it returns false'. Refute it at one input. -/
def recordFieldsWrong : ChangeSpec := { name := "recordFields", fn := fun _ => fun
  | [d1, d2, d3] => { results := [.lit (.bool false)], args := [d1, d2, d3] }
  | _ => none }
def RecordFieldsWrongFalsely : Prop := recordFieldsRow.holds Try.pinned (OpenSpec.ofChange recordFieldsWrong)

/-- 'goitlaw8.RecordLengths': WHATEVER THE INPUT: true; the input reads as it did. -/
def recordLengthsSpec : ChangeSpec := { name := "recordLengths", fn := fun _ => fun
  | [d1, d2] => { results := [.lit (.bool true)], args := [d1, d2] }
  | _ => none }
def recordLengthsRow : OpenClaim := { program := "ytbklngcocbnijaa", sum := "5a7988d7c7c5ff0ef4f60c720a688b36dd951e82c261a5d96102a6e2ace89c8b", func := "goit/goitlaw8.RecordLengths", spec := "recordLengths", unfollowed := true, recurses := true, apart := false }
def RecordLengthsSaid : Prop := recordLengthsRow.holds Try.pinned (OpenSpec.ofChange recordLengthsSpec)

/-- ITS FALSE NEIGHBOUR: 'it returns false'. Refute it at one input. -/
def recordLengthsWrong : ChangeSpec := { name := "recordLengths", fn := fun _ => fun
  | [d1, d2] => { results := [.lit (.bool false)], args := [d1, d2] }
  | _ => none }
def RecordLengthsWrongFalsely : Prop := recordLengthsRow.holds Try.pinned (OpenSpec.ofChange recordLengthsWrong)

/-- 'goitlaw8.RecordApart': WHATEVER THE INPUT: true; the input reads as it did. -/
def recordApartSpec : ChangeSpec := { name := "recordApart", fn := fun _ => fun
  | [d1, d2] => { results := [.lit (.bool true)], args := [d1, d2] }
  | _ => none }
def recordApartRow : OpenClaim := { program := "ytbklngcocbnijaa", sum := "5a7988d7c7c5ff0ef4f60c720a688b36dd951e82c261a5d96102a6e2ace89c8b", func := "goit/goitlaw8.RecordApart", spec := "recordApart", unfollowed := true, recurses := true, apart := false }
def RecordApartSaid : Prop := recordApartRow.holds Try.pinned (OpenSpec.ofChange recordApartSpec)

/-- ITS FALSE NEIGHBOUR: 'it returns false'. Refute it at one input. -/
def recordApartWrong : ChangeSpec := { name := "recordApart", fn := fun _ => fun
  | [d1, d2] => { results := [.lit (.bool false)], args := [d1, d2] }
  | _ => none }
def RecordApartWrongFalsely : Prop := recordApartRow.holds Try.pinned (OpenSpec.ofChange recordApartWrong)

/-- 'goitlaw9.MigrateRecords': WHATEVER THE INPUT: true; the input reads as it did. -/
def migrateRecordsSpec : ChangeSpec := { name := "migrateRecords", fn := fun _ => fun
  | [d1, d2, d3] => { results := [.lit (.bool true)], args := [d1, d2, d3] }
  | _ => none }
def migrateRecordsRow : OpenClaim := { program := "ytbklngcocbnijaa", sum := "5a7988d7c7c5ff0ef4f60c720a688b36dd951e82c261a5d96102a6e2ace89c8b", func := "goit/goitlaw9.MigrateRecords", spec := "migrateRecords", unfollowed := true, recurses := true, apart := false }
def MigrateRecordsSaid : Prop := migrateRecordsRow.holds Try.pinned (OpenSpec.ofChange migrateRecordsSpec)

/-- ITS FALSE NEIGHBOUR: 'it returns false'. Refute it at one input. -/
def migrateRecordsWrong : ChangeSpec := { name := "migrateRecords", fn := fun _ => fun
  | [d1, d2, d3] => { results := [.lit (.bool false)], args := [d1, d2, d3] }
  | _ => none }
def MigrateRecordsWrongFalsely : Prop := migrateRecordsRow.holds Try.pinned (OpenSpec.ofChange migrateRecordsWrong)

/-- 'goitlaw9.MigrateFrames': WHATEVER THE INPUT: true; the input reads as it did. -/
def migrateFramesSpec : ChangeSpec := { name := "migrateFrames", fn := fun _ => fun
  | [d1, d2, d3, d4] => { results := [.lit (.bool true)], args := [d1, d2, d3, d4] }
  | _ => none }
def migrateFramesRow : OpenClaim := { program := "ytbklngcocbnijaa", sum := "5a7988d7c7c5ff0ef4f60c720a688b36dd951e82c261a5d96102a6e2ace89c8b", func := "goit/goitlaw9.MigrateFrames", spec := "migrateFrames", unfollowed := true, recurses := true, apart := false }
def MigrateFramesSaid : Prop := migrateFramesRow.holds Try.pinned (OpenSpec.ofChange migrateFramesSpec)

/-- ITS FALSE NEIGHBOUR: 'it returns false'. Refute it at one input. -/
def migrateFramesWrong : ChangeSpec := { name := "migrateFrames", fn := fun _ => fun
  | [d1, d2, d3, d4] => { results := [.lit (.bool false)], args := [d1, d2, d3, d4] }
  | _ => none }
def MigrateFramesWrongFalsely : Prop := migrateFramesRow.holds Try.pinned (OpenSpec.ofChange migrateFramesWrong)

/-- 'goitlaw9.MigrateParts': WHATEVER THE INPUT: true; the input reads as it did. -/
def migratePartsSpec : ChangeSpec := { name := "migrateParts", fn := fun _ => fun
  | [d1, d2, d3, d4] => { results := [.lit (.bool true)], args := [d1, d2, d3, d4] }
  | _ => none }
def migratePartsRow : OpenClaim := { program := "ytbklngcocbnijaa", sum := "5a7988d7c7c5ff0ef4f60c720a688b36dd951e82c261a5d96102a6e2ace89c8b", func := "goit/goitlaw9.MigrateParts", spec := "migrateParts", unfollowed := true, recurses := true, apart := false }
def MigratePartsSaid : Prop := migratePartsRow.holds Try.pinned (OpenSpec.ofChange migratePartsSpec)

/-- ITS FALSE NEIGHBOUR: 'it returns false'. Refute it at one input. -/
def migratePartsWrong : ChangeSpec := { name := "migrateParts", fn := fun _ => fun
  | [d1, d2, d3, d4] => { results := [.lit (.bool false)], args := [d1, d2, d3, d4] }
  | _ => none }
def MigratePartsWrongFalsely : Prop := migratePartsRow.holds Try.pinned (OpenSpec.ofChange migratePartsWrong)

/- THE SECOND FORM. 'bulk': how many values and letters a reading holds, each counted each time it is reached (what is shared counts as often as it is met; a slice's spare places count too). A statement '..UptoSaid' is the law's where the arguments, and the package variables that the reading takes, are together of bulk at most 1048576: NARROWER than '..Said'. Prove '..Said' where nothing that the law and all that it calls make is longer than what came in: it says more and counts as full. Else prove '..UptoSaid'. A law counts once. -/
mutual
def uptoBulk {H : Type} : DataW H → Nat
  | .lit (.string bytes) => bytes.length + 1
  | .lit _ => 1
  | .nil => 1
  | .ptr d => uptoBulk d + 1
  | .slice elems spare => uptoBulkAll elems + uptoBulkAll spare + 1
  | .agg parts => uptoBulkAll parts + 1
  | .iface _ d => uptoBulk d + 1
  | .map entries => uptoBulkEntries entries + 1
  | .held _ => 1
def uptoBulkAll {H : Type} : List (DataW H) → Nat
  | [] => 0
  | d :: r => uptoBulk d + uptoBulkAll r
def uptoBulkEntries {H : Type} : List (Lit × DataW H) → Nat
  | [] => 0
  | x :: r => uptoBulkEntry x + uptoBulkEntries r
def uptoBulkEntry {H : Type} : Lit × DataW H → Nat
  | (.string bytes, d) => bytes.length + uptoBulk d + 1
  | (_, d) => uptoBulk d + 1
 end
def uptoSmall : (H : Type) → List (DataW H) → Bool := fun _ ds => decide (uptoBulkAll ds ≤ 1048576)
def OpenSpec.upto (s : _root_.Go.ChangeSpec) : _root_.Go.OpenSpec := { _root_.Go.OpenSpec.ofChange s with cond := some uptoSmall }

/-- 'goitlaw8.RecordForms', WHERE WHAT IT READS IS OF BULK AT MOST 1048576: true; the input reads as it did. -/
def recordFormsUptoRow : OpenClaim := { program := "ytbklngcocbnijaa", sum := "5a7988d7c7c5ff0ef4f60c720a688b36dd951e82c261a5d96102a6e2ace89c8b", func := "goit/goitlaw8.RecordForms", spec := "recordForms", unfollowed := true, recurses := true, apart := false, narrowed := true }
def RecordFormsUptoSaid : Prop := recordFormsUptoRow.holds Try.pinned (OpenSpec.upto recordFormsSpec)

/-- 'goitlaw8.RecordEncodes', WHERE WHAT IT READS IS OF BULK AT MOST 1048576: true; the input reads as it did. -/
def recordEncodesUptoRow : OpenClaim := { program := "ytbklngcocbnijaa", sum := "5a7988d7c7c5ff0ef4f60c720a688b36dd951e82c261a5d96102a6e2ace89c8b", func := "goit/goitlaw8.RecordEncodes", spec := "recordEncodes", unfollowed := true, recurses := true, apart := false, narrowed := true }
def RecordEncodesUptoSaid : Prop := recordEncodesUptoRow.holds Try.pinned (OpenSpec.upto recordEncodesSpec)

/-- 'goitlaw8.RecordDecodes', WHERE WHAT IT READS IS OF BULK AT MOST 1048576: true; the input reads as it did. -/
def recordDecodesUptoRow : OpenClaim := { program := "ytbklngcocbnijaa", sum := "5a7988d7c7c5ff0ef4f60c720a688b36dd951e82c261a5d96102a6e2ace89c8b", func := "goit/goitlaw8.RecordDecodes", spec := "recordDecodes", unfollowed := true, recurses := true, apart := false, narrowed := true }
def RecordDecodesUptoSaid : Prop := recordDecodesUptoRow.holds Try.pinned (OpenSpec.upto recordDecodesSpec)

/-- 'goitlaw8.RecordBack', WHERE WHAT IT READS IS OF BULK AT MOST 1048576: true; the input reads as it did. -/
def recordBackUptoRow : OpenClaim := { program := "ytbklngcocbnijaa", sum := "5a7988d7c7c5ff0ef4f60c720a688b36dd951e82c261a5d96102a6e2ace89c8b", func := "goit/goitlaw8.RecordBack", spec := "recordBack", unfollowed := true, recurses := true, apart := false, narrowed := true }
def RecordBackUptoSaid : Prop := recordBackUptoRow.holds Try.pinned (OpenSpec.upto recordBackSpec)

/-- 'goitlaw8.RecordFields', WHERE WHAT IT READS IS OF BULK AT MOST 1048576: true; the input reads as it did. -/
def recordFieldsUptoRow : OpenClaim := { program := "ytbklngcocbnijaa", sum := "5a7988d7c7c5ff0ef4f60c720a688b36dd951e82c261a5d96102a6e2ace89c8b", func := "goit/goitlaw8.RecordFields", spec := "recordFields", unfollowed := true, recurses := true, apart := false, narrowed := true }
def RecordFieldsUptoSaid : Prop := recordFieldsUptoRow.holds Try.pinned (OpenSpec.upto recordFieldsSpec)

/-- 'goitlaw8.RecordLengths', WHERE WHAT IT READS IS OF BULK AT MOST 1048576: true; the input reads as it did. -/
def recordLengthsUptoRow : OpenClaim := { program := "ytbklngcocbnijaa", sum := "5a7988d7c7c5ff0ef4f60c720a688b36dd951e82c261a5d96102a6e2ace89c8b", func := "goit/goitlaw8.RecordLengths", spec := "recordLengths", unfollowed := true, recurses := true, apart := false, narrowed := true }
def RecordLengthsUptoSaid : Prop := recordLengthsUptoRow.holds Try.pinned (OpenSpec.upto recordLengthsSpec)

/-- 'goitlaw8.RecordApart', WHERE WHAT IT READS IS OF BULK AT MOST 1048576: true; the input reads as it did. -/
def recordApartUptoRow : OpenClaim := { program := "ytbklngcocbnijaa", sum := "5a7988d7c7c5ff0ef4f60c720a688b36dd951e82c261a5d96102a6e2ace89c8b", func := "goit/goitlaw8.RecordApart", spec := "recordApart", unfollowed := true, recurses := true, apart := false, narrowed := true }
def RecordApartUptoSaid : Prop := recordApartUptoRow.holds Try.pinned (OpenSpec.upto recordApartSpec)

/-- 'goitlaw9.MigrateRecords', WHERE WHAT IT READS IS OF BULK AT MOST 1048576: true; the input reads as it did. -/
def migrateRecordsUptoRow : OpenClaim := { program := "ytbklngcocbnijaa", sum := "5a7988d7c7c5ff0ef4f60c720a688b36dd951e82c261a5d96102a6e2ace89c8b", func := "goit/goitlaw9.MigrateRecords", spec := "migrateRecords", unfollowed := true, recurses := true, apart := false, narrowed := true }
def MigrateRecordsUptoSaid : Prop := migrateRecordsUptoRow.holds Try.pinned (OpenSpec.upto migrateRecordsSpec)

/-- 'goitlaw9.MigrateFrames', WHERE WHAT IT READS IS OF BULK AT MOST 1048576: true; the input reads as it did. -/
def migrateFramesUptoRow : OpenClaim := { program := "ytbklngcocbnijaa", sum := "5a7988d7c7c5ff0ef4f60c720a688b36dd951e82c261a5d96102a6e2ace89c8b", func := "goit/goitlaw9.MigrateFrames", spec := "migrateFrames", unfollowed := true, recurses := true, apart := false, narrowed := true }
def MigrateFramesUptoSaid : Prop := migrateFramesUptoRow.holds Try.pinned (OpenSpec.upto migrateFramesSpec)

/-- 'goitlaw9.MigrateParts', WHERE WHAT IT READS IS OF BULK AT MOST 1048576: true; the input reads as it did. -/
def migratePartsUptoRow : OpenClaim := { program := "ytbklngcocbnijaa", sum := "5a7988d7c7c5ff0ef4f60c720a688b36dd951e82c261a5d96102a6e2ace89c8b", func := "goit/goitlaw9.MigrateParts", spec := "migrateParts", unfollowed := true, recurses := true, apart := false, narrowed := true }
def MigratePartsUptoSaid : Prop := migratePartsUptoRow.holds Try.pinned (OpenSpec.upto migratePartsSpec)

end Rows
end Go.Proofs.Ytbklngcocbnijaa
