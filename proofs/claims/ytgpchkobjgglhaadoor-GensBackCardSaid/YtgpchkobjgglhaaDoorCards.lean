/-
  DERIVED. GIVEN WITH THE SEED: THE CARDS: each row of YtgpchkobjgglhaaDoorRows.lean that lists a variable, with what it lists TIED to the program's text (the seventh form; the later family's looks); each row that meets fmt, with fmt's text TOLD by the authors' own Lean function (tested against real Go, not proved from fmt's source: count such statements apart). THE CARD IS WHAT COUNTS. Prove the row's statement (the work); the ties are given (YtgpchkobjgglhaaDoorTie.lean); close each card by the builder's one call (the guide's Derived/Test/ToyasCard.lean, 'card_holds'). Laid BY PROGRAM, IN A SANDBOX (cutbox-door.mjs). By AI agents, Wed Nov 11 2026. No macro, syntax, notation, axiom, sorry.
-/
import Derived.Test.YtgpchkobjgglhaaDoorRows
import GoSem.ClaimSeven
namespace Go.Proofs.YtgpchkobjgglhaaDoor
namespace Rows

/-- THE TIED CARD OF 'goitlaw13.GensBack'. -/
def gensBackCard : Claim7 := { stood := { row := gensBackRow, standIns := [], harness := (true, "ab8b2e21795e41a2e01fb93b8bef169218bae431ccb80ca1195325a734dfc8a0"), looks := true }, kinds := [], alts := [], laidByText := true, laidKinds := [.data, .data, .data, .data, .sentinel, .sentinel, .pinned], laidTests := true, laidLooks := .later }
def GensBackCardSaid : Prop := Claim7.holds Tryd.pinned (.plain (OpenSpec.ofChange gensBackSpec)) gensBackCard

/-- THE TIED CARD OF 'goitlaw13.GensFinds'. -/
def gensFindsCard : Claim7 := { stood := { row := gensFindsRow, standIns := [], harness := (true, "ab8b2e21795e41a2e01fb93b8bef169218bae431ccb80ca1195325a734dfc8a0"), looks := true }, kinds := [], alts := [], laidByText := true, laidKinds := [.data, .data, .data, .data, .sentinel, .sentinel, .pinned], laidTests := true, laidLooks := .later }
def GensFindsCardSaid : Prop := Claim7.holds Tryd.pinned (.plain (OpenSpec.ofChange gensFindsSpec)) gensFindsCard

/-- THE TIED CARD OF 'goitlaw13.GensSorted'. -/
def gensSortedCard : Claim7 := { stood := { row := gensSortedRow, standIns := [], harness := (true, "ab8b2e21795e41a2e01fb93b8bef169218bae431ccb80ca1195325a734dfc8a0"), looks := true }, kinds := [], alts := [], laidByText := true, laidKinds := [.data, .data, .data, .data, .sentinel, .sentinel, .pinned], laidTests := true, laidLooks := .later }
def GensSortedCardSaid : Prop := Claim7.holds Tryd.pinned (.plain (OpenSpec.ofChange gensSortedSpec)) gensSortedCard

/-- THE SECOND FORM's CARD OF 'goitlaw13.GensBack'. -/
def gensBackUptoCard : Claim7 := { stood := { row := gensBackUptoRow, standIns := [], harness := (true, "ab8b2e21795e41a2e01fb93b8bef169218bae431ccb80ca1195325a734dfc8a0"), looks := true }, kinds := [], alts := [], laidByText := true, laidKinds := [.data, .data, .data, .data, .sentinel, .sentinel, .pinned], laidTests := true, laidLooks := .later }
def GensBackUptoCardSaid : Prop := Claim7.holds Tryd.pinned (.plain (OpenSpec.upto gensBackSpec)) gensBackUptoCard

/-- THE SECOND FORM's CARD OF 'goitlaw13.GensFinds'. -/
def gensFindsUptoCard : Claim7 := { stood := { row := gensFindsUptoRow, standIns := [], harness := (true, "ab8b2e21795e41a2e01fb93b8bef169218bae431ccb80ca1195325a734dfc8a0"), looks := true }, kinds := [], alts := [], laidByText := true, laidKinds := [.data, .data, .data, .data, .sentinel, .sentinel, .pinned], laidTests := true, laidLooks := .later }
def GensFindsUptoCardSaid : Prop := Claim7.holds Tryd.pinned (.plain (OpenSpec.upto gensFindsSpec)) gensFindsUptoCard

/-- THE SECOND FORM's CARD OF 'goitlaw13.GensSorted'. -/
def gensSortedUptoCard : Claim7 := { stood := { row := gensSortedUptoRow, standIns := [], harness := (true, "ab8b2e21795e41a2e01fb93b8bef169218bae431ccb80ca1195325a734dfc8a0"), looks := true }, kinds := [], alts := [], laidByText := true, laidKinds := [.data, .data, .data, .data, .sentinel, .sentinel, .pinned], laidTests := true, laidLooks := .later }
def GensSortedUptoCardSaid : Prop := Claim7.holds Tryd.pinned (.plain (OpenSpec.upto gensSortedSpec)) gensSortedUptoCard
end Rows
end Go.Proofs.YtgpchkobjgglhaaDoor
