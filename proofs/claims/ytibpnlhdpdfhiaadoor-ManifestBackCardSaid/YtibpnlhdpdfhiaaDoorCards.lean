/-
  DERIVED. GIVEN WITH THE SEED: THE CARDS: each row of YtibpnlhdpdfhiaaDoorRows.lean that lists a variable, with what it lists TIED to the program's text (the seventh form; the later family's looks); each row that meets fmt, with fmt's text TOLD by the authors' own Lean function (tested against real Go, not proved from fmt's source: count such statements apart). THE CARD IS WHAT COUNTS. Prove the row's statement (the work); the ties are given (YtibpnlhdpdfhiaaDoorTie.lean); close each card by the builder's one call (the guide's Derived/Test/ToyasCard.lean, 'card_holds'). Laid BY PROGRAM, IN A SANDBOX (cutbox-door.mjs). By AI agents, Wed Nov 11 2026. No macro, syntax, notation, axiom, sorry.
-/
import Derived.Test.YtibpnlhdpdfhiaaDoorRows
import GoSem.ClaimSeven
namespace Go.Proofs.YtibpnlhdpdfhiaaDoor
namespace Rows

/-- THE TIED CARD OF 'goitlaw5.ManifestEncodes'. -/
def manifestEncodesCard : Claim7 := { stood := { row := manifestEncodesRow, standIns := [], harness := (true, "aaa5d9f55fc0f9770caecdd50cacf82f47347882b16c3bb8db9318bc1074e663"), looks := true }, kinds := [], alts := [], laidByText := true, laidKinds := [.data, .data, .data], laidTests := true, laidLooks := .later }
def ManifestEncodesCardSaid : Prop := Claim7.holds Tryd.pinned (.plain (OpenSpec.ofChange manifestEncodesSpec)) manifestEncodesCard

/-- THE TIED CARD OF 'goitlaw5.ManifestDecodes'. -/
def manifestDecodesCard : Claim7 := { stood := { row := manifestDecodesRow, standIns := [], harness := (true, "aaa5d9f55fc0f9770caecdd50cacf82f47347882b16c3bb8db9318bc1074e663"), looks := true }, kinds := [], alts := [], laidByText := true, laidKinds := [.data, .data, .data], laidTests := true, laidLooks := .later }
def ManifestDecodesCardSaid : Prop := Claim7.holds Tryd.pinned (.plain (OpenSpec.ofChange manifestDecodesSpec)) manifestDecodesCard

/-- THE TIED CARD OF 'goitlaw5.ManifestNames'. -/
def manifestNamesCard : Claim7 := { stood := { row := manifestNamesRow, standIns := [], harness := (true, "aaa5d9f55fc0f9770caecdd50cacf82f47347882b16c3bb8db9318bc1074e663"), looks := true }, kinds := [], alts := [], laidByText := true, laidKinds := [.data, .data, .data, .sentinel, .sentinel], laidTests := true, laidLooks := .later }
def ManifestNamesCardSaid : Prop := Claim7.holds Tryd.pinned (.plain (OpenSpec.ofChange manifestNamesSpec)) manifestNamesCard

/-- THE TIED CARD OF 'goitlaw5.ManifestBack'. -/
def manifestBackCard : Claim7 := { stood := { row := manifestBackRow, standIns := [], harness := (true, "aaa5d9f55fc0f9770caecdd50cacf82f47347882b16c3bb8db9318bc1074e663"), looks := true }, kinds := [], alts := [], laidByText := true, laidKinds := [.data, .data, .data, .sentinel, .sentinel], laidTests := true, laidLooks := .later }
def ManifestBackCardSaid : Prop := Claim7.holds Tryd.pinned (.plain (OpenSpec.ofChange manifestBackSpec)) manifestBackCard

/-- THE TIED CARD OF 'goitlaw5.ManifestGrows'. -/
def manifestGrowsCard : Claim7 := { stood := { row := manifestGrowsRow, standIns := [], harness := (true, "aaa5d9f55fc0f9770caecdd50cacf82f47347882b16c3bb8db9318bc1074e663"), looks := true }, kinds := [], alts := [], laidByText := true, laidKinds := [.data, .data, .data], laidTests := true, laidLooks := .later }
def ManifestGrowsCardSaid : Prop := Claim7.holds Tryd.pinned (.plain (OpenSpec.ofChange manifestGrowsSpec)) manifestGrowsCard

/-- THE TIED CARD OF 'goitlaw13.GensBack'. -/
def gensBackCard : Claim7 := { stood := { row := gensBackRow, standIns := [], harness := (true, "aaa5d9f55fc0f9770caecdd50cacf82f47347882b16c3bb8db9318bc1074e663"), looks := true }, kinds := [], alts := [], laidByText := true, laidKinds := [.data, .data, .data, .data, .sentinel, .sentinel, .pinned], laidTests := true, laidLooks := .later }
def GensBackCardSaid : Prop := Claim7.holds Tryd.pinned (.plain (OpenSpec.ofChange gensBackSpec)) gensBackCard

/-- THE TIED CARD OF 'goitlaw13.GensFinds'. -/
def gensFindsCard : Claim7 := { stood := { row := gensFindsRow, standIns := [], harness := (true, "aaa5d9f55fc0f9770caecdd50cacf82f47347882b16c3bb8db9318bc1074e663"), looks := true }, kinds := [], alts := [], laidByText := true, laidKinds := [.data, .data, .data, .data, .sentinel, .sentinel, .pinned], laidTests := true, laidLooks := .later }
def GensFindsCardSaid : Prop := Claim7.holds Tryd.pinned (.plain (OpenSpec.ofChange gensFindsSpec)) gensFindsCard

/-- THE TIED CARD OF 'goitlaw13.GensSorted'. -/
def gensSortedCard : Claim7 := { stood := { row := gensSortedRow, standIns := [], harness := (true, "aaa5d9f55fc0f9770caecdd50cacf82f47347882b16c3bb8db9318bc1074e663"), looks := true }, kinds := [], alts := [], laidByText := true, laidKinds := [.data, .data, .data, .data, .sentinel, .sentinel, .pinned], laidTests := true, laidLooks := .later }
def GensSortedCardSaid : Prop := Claim7.holds Tryd.pinned (.plain (OpenSpec.ofChange gensSortedSpec)) gensSortedCard

/-- THE SECOND FORM's CARD OF 'goitlaw5.ManifestEncodes'. -/
def manifestEncodesUptoCard : Claim7 := { stood := { row := manifestEncodesUptoRow, standIns := [], harness := (true, "aaa5d9f55fc0f9770caecdd50cacf82f47347882b16c3bb8db9318bc1074e663"), looks := true }, kinds := [], alts := [], laidByText := true, laidKinds := [.data, .data, .data], laidTests := true, laidLooks := .later }
def ManifestEncodesUptoCardSaid : Prop := Claim7.holds Tryd.pinned (.plain (OpenSpec.upto manifestEncodesSpec)) manifestEncodesUptoCard

/-- THE SECOND FORM's CARD OF 'goitlaw5.ManifestDecodes'. -/
def manifestDecodesUptoCard : Claim7 := { stood := { row := manifestDecodesUptoRow, standIns := [], harness := (true, "aaa5d9f55fc0f9770caecdd50cacf82f47347882b16c3bb8db9318bc1074e663"), looks := true }, kinds := [], alts := [], laidByText := true, laidKinds := [.data, .data, .data], laidTests := true, laidLooks := .later }
def ManifestDecodesUptoCardSaid : Prop := Claim7.holds Tryd.pinned (.plain (OpenSpec.upto manifestDecodesSpec)) manifestDecodesUptoCard

/-- THE SECOND FORM's CARD OF 'goitlaw5.ManifestNames'. -/
def manifestNamesUptoCard : Claim7 := { stood := { row := manifestNamesUptoRow, standIns := [], harness := (true, "aaa5d9f55fc0f9770caecdd50cacf82f47347882b16c3bb8db9318bc1074e663"), looks := true }, kinds := [], alts := [], laidByText := true, laidKinds := [.data, .data, .data, .sentinel, .sentinel], laidTests := true, laidLooks := .later }
def ManifestNamesUptoCardSaid : Prop := Claim7.holds Tryd.pinned (.plain (OpenSpec.upto manifestNamesSpec)) manifestNamesUptoCard

/-- THE SECOND FORM's CARD OF 'goitlaw5.ManifestBack'. -/
def manifestBackUptoCard : Claim7 := { stood := { row := manifestBackUptoRow, standIns := [], harness := (true, "aaa5d9f55fc0f9770caecdd50cacf82f47347882b16c3bb8db9318bc1074e663"), looks := true }, kinds := [], alts := [], laidByText := true, laidKinds := [.data, .data, .data, .sentinel, .sentinel], laidTests := true, laidLooks := .later }
def ManifestBackUptoCardSaid : Prop := Claim7.holds Tryd.pinned (.plain (OpenSpec.upto manifestBackSpec)) manifestBackUptoCard

/-- THE SECOND FORM's CARD OF 'goitlaw5.ManifestGrows'. -/
def manifestGrowsUptoCard : Claim7 := { stood := { row := manifestGrowsUptoRow, standIns := [], harness := (true, "aaa5d9f55fc0f9770caecdd50cacf82f47347882b16c3bb8db9318bc1074e663"), looks := true }, kinds := [], alts := [], laidByText := true, laidKinds := [.data, .data, .data], laidTests := true, laidLooks := .later }
def ManifestGrowsUptoCardSaid : Prop := Claim7.holds Tryd.pinned (.plain (OpenSpec.upto manifestGrowsSpec)) manifestGrowsUptoCard

/-- THE SECOND FORM's CARD OF 'goitlaw13.GensBack'. -/
def gensBackUptoCard : Claim7 := { stood := { row := gensBackUptoRow, standIns := [], harness := (true, "aaa5d9f55fc0f9770caecdd50cacf82f47347882b16c3bb8db9318bc1074e663"), looks := true }, kinds := [], alts := [], laidByText := true, laidKinds := [.data, .data, .data, .data, .sentinel, .sentinel, .pinned], laidTests := true, laidLooks := .later }
def GensBackUptoCardSaid : Prop := Claim7.holds Tryd.pinned (.plain (OpenSpec.upto gensBackSpec)) gensBackUptoCard

/-- THE SECOND FORM's CARD OF 'goitlaw13.GensFinds'. -/
def gensFindsUptoCard : Claim7 := { stood := { row := gensFindsUptoRow, standIns := [], harness := (true, "aaa5d9f55fc0f9770caecdd50cacf82f47347882b16c3bb8db9318bc1074e663"), looks := true }, kinds := [], alts := [], laidByText := true, laidKinds := [.data, .data, .data, .data, .sentinel, .sentinel, .pinned], laidTests := true, laidLooks := .later }
def GensFindsUptoCardSaid : Prop := Claim7.holds Tryd.pinned (.plain (OpenSpec.upto gensFindsSpec)) gensFindsUptoCard

/-- THE SECOND FORM's CARD OF 'goitlaw13.GensSorted'. -/
def gensSortedUptoCard : Claim7 := { stood := { row := gensSortedUptoRow, standIns := [], harness := (true, "aaa5d9f55fc0f9770caecdd50cacf82f47347882b16c3bb8db9318bc1074e663"), looks := true }, kinds := [], alts := [], laidByText := true, laidKinds := [.data, .data, .data, .data, .sentinel, .sentinel, .pinned], laidTests := true, laidLooks := .later }
def GensSortedUptoCardSaid : Prop := Claim7.holds Tryd.pinned (.plain (OpenSpec.upto gensSortedSpec)) gensSortedUptoCard
end Rows
end Go.Proofs.YtibpnlhdpdfhiaaDoor
