/-
  DERIVED. GIVEN WITH THE SEED: THE CARDS: each row of YtgpchkobjgglhaaGreatDoorRows.lean that lists a variable, with what it lists TIED to the program's text (the seventh form; the later family's looks); each row that meets fmt, with fmt's text TOLD by the authors' own Lean function (tested against real Go, not proved from fmt's source: count such statements apart). THE CARD IS WHAT COUNTS. Prove the row's statement (the work); the ties are given (YtgpchkobjgglhaaGreatDoorTie.lean); close each card by the builder's one call (the guide's Derived/Test/ToyasCard.lean, 'card_holds'). Laid BY PROGRAM, IN A SANDBOX (cutbox-door.mjs). By AI agents, Wed Nov 11 2026. No macro, syntax, notation, axiom, sorry.
-/
import Derived.Test.YtgpchkobjgglhaaGreatDoorRows
import GoSem.ClaimSeven
namespace Go.Proofs.YtgpchkobjgglhaaGreatDoor
namespace Rows

/-- THE TIED CARD OF 'goitlaw13.GensForms'. -/
def gensFormsCard : Claim7 := { stood := { row := gensFormsRow, standIns := [], harness := (true, "eab5a8af2fceae1ce6a4da16df29a427446f10dd6e8e9745a1aab61c8de9fd36"), looks := true }, kinds := [], alts := [], laidByText := true, laidKinds := [.data, .data, .data, .data, .sentinel, .sentinel, .pinned], laidTests := true, laidLooks := .later }
def GensFormsCardSaid : Prop := Claim7.holds Tryz.pinned (.plain (OpenSpec.ofChange gensFormsSpec)) gensFormsCard

/-- THE SECOND FORM's CARD OF 'goitlaw13.GensForms'. -/
def gensFormsUptoCard : Claim7 := { stood := { row := gensFormsUptoRow, standIns := [], harness := (true, "eab5a8af2fceae1ce6a4da16df29a427446f10dd6e8e9745a1aab61c8de9fd36"), looks := true }, kinds := [], alts := [], laidByText := true, laidKinds := [.data, .data, .data, .data, .sentinel, .sentinel, .pinned], laidTests := true, laidLooks := .later }
def GensFormsUptoCardSaid : Prop := Claim7.holds Tryz.pinned (.plain (OpenSpec.upto gensFormsSpec)) gensFormsUptoCard
end Rows
end Go.Proofs.YtgpchkobjgglhaaGreatDoor
