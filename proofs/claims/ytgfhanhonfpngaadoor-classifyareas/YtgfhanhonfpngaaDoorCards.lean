/-
  DERIVED. GIVEN WITH THE SEED: THE CARDS: each row of YtgfhanhonfpngaaDoorRows.lean that lists a variable, with what it lists TIED to the program's text (the seventh form; the later family's looks); each row that meets fmt, with fmt's text TOLD by the authors' own Lean function (tested against real Go, not proved from fmt's source: count such statements apart). THE CARD IS WHAT COUNTS. Prove the row's statement (the work); the ties are given (YtgfhanhonfpngaaDoorTie.lean); close each card by the builder's one call (the guide's Derived/Test/ToyasCard.lean, 'card_holds'). Laid BY PROGRAM, IN A SANDBOX (cutbox-door.mjs). By AI agents, Wed Nov 11 2026. No macro, syntax, notation, axiom, sorry.
-/
import Derived.Test.YtgfhanhonfpngaaDoorRows
import GoSem.ClaimSeven
namespace Go.Proofs.YtgfhanhonfpngaaDoor
namespace Rows

/-- THE TIED CARD OF 'mapmakerlaw18.ClassifyThemes'. -/
def classifyThemesCard : Claim7 := { stood := { row := classifyThemesRow, standIns := [], harness := (true, "9e27f541a457fa5afc0de0d68910d7f0fdca4d6cc2cbe14f44358781feea58d7"), looks := false }, kinds := [], alts := [], laidByText := true, laidKinds := [.data, .data, .data], laidTests := true, laidLooks := .later }
def ClassifyThemesCardSaid : Prop := Claim7.holds Tryd.pinned (.plain (OpenSpec.ofChange classifyThemesSpec)) classifyThemesCard

/-- THE TIED CARD OF 'mapmakerlaw18.ClassifyRoads'. -/
def classifyRoadsCard : Claim7 := { stood := { row := classifyRoadsRow, standIns := [], harness := (true, "9e27f541a457fa5afc0de0d68910d7f0fdca4d6cc2cbe14f44358781feea58d7"), looks := false }, kinds := [], alts := [], laidByText := true, laidKinds := [.data, .data, .data], laidTests := true, laidLooks := .later }
def ClassifyRoadsCardSaid : Prop := Claim7.holds Tryd.pinned (.plain (OpenSpec.ofChange classifyRoadsSpec)) classifyRoadsCard

/-- THE TIED CARD OF 'mapmakerlaw18.ClassifyKeys'. -/
def classifyKeysCard : Claim7 := { stood := { row := classifyKeysRow, standIns := [], harness := (true, "9e27f541a457fa5afc0de0d68910d7f0fdca4d6cc2cbe14f44358781feea58d7"), looks := false }, kinds := [], alts := [], laidByText := true, laidKinds := [.data, .data, .data], laidTests := true, laidLooks := .later }
def ClassifyKeysCardSaid : Prop := Claim7.holds Tryd.pinned (.plain (OpenSpec.ofChange classifyKeysSpec)) classifyKeysCard

/-- THE TIED CARD OF 'mapmakerlaw18.ClassifyAreas'. -/
def classifyAreasCard : Claim7 := { stood := { row := classifyAreasRow, standIns := [], harness := (true, "9e27f541a457fa5afc0de0d68910d7f0fdca4d6cc2cbe14f44358781feea58d7"), looks := false }, kinds := [], alts := [], laidByText := true, laidKinds := [.data, .data, .data], laidTests := true, laidLooks := .later }
def ClassifyAreasCardSaid : Prop := Claim7.holds Tryd.pinned (.plain (OpenSpec.ofChange classifyAreasSpec)) classifyAreasCard

/-- THE SECOND FORM's CARD OF 'mapmakerlaw18.ClassifyThemes'. -/
def classifyThemesUptoCard : Claim7 := { stood := { row := classifyThemesUptoRow, standIns := [], harness := (true, "9e27f541a457fa5afc0de0d68910d7f0fdca4d6cc2cbe14f44358781feea58d7"), looks := false }, kinds := [], alts := [], laidByText := true, laidKinds := [.data, .data, .data], laidTests := true, laidLooks := .later }
def ClassifyThemesUptoCardSaid : Prop := Claim7.holds Tryd.pinned (.plain (OpenSpec.upto classifyThemesSpec)) classifyThemesUptoCard

/-- THE SECOND FORM's CARD OF 'mapmakerlaw18.ClassifyRoads'. -/
def classifyRoadsUptoCard : Claim7 := { stood := { row := classifyRoadsUptoRow, standIns := [], harness := (true, "9e27f541a457fa5afc0de0d68910d7f0fdca4d6cc2cbe14f44358781feea58d7"), looks := false }, kinds := [], alts := [], laidByText := true, laidKinds := [.data, .data, .data], laidTests := true, laidLooks := .later }
def ClassifyRoadsUptoCardSaid : Prop := Claim7.holds Tryd.pinned (.plain (OpenSpec.upto classifyRoadsSpec)) classifyRoadsUptoCard

/-- THE SECOND FORM's CARD OF 'mapmakerlaw18.ClassifyKeys'. -/
def classifyKeysUptoCard : Claim7 := { stood := { row := classifyKeysUptoRow, standIns := [], harness := (true, "9e27f541a457fa5afc0de0d68910d7f0fdca4d6cc2cbe14f44358781feea58d7"), looks := false }, kinds := [], alts := [], laidByText := true, laidKinds := [.data, .data, .data], laidTests := true, laidLooks := .later }
def ClassifyKeysUptoCardSaid : Prop := Claim7.holds Tryd.pinned (.plain (OpenSpec.upto classifyKeysSpec)) classifyKeysUptoCard

/-- THE SECOND FORM's CARD OF 'mapmakerlaw18.ClassifyAreas'. -/
def classifyAreasUptoCard : Claim7 := { stood := { row := classifyAreasUptoRow, standIns := [], harness := (true, "9e27f541a457fa5afc0de0d68910d7f0fdca4d6cc2cbe14f44358781feea58d7"), looks := false }, kinds := [], alts := [], laidByText := true, laidKinds := [.data, .data, .data], laidTests := true, laidLooks := .later }
def ClassifyAreasUptoCardSaid : Prop := Claim7.holds Tryd.pinned (.plain (OpenSpec.upto classifyAreasSpec)) classifyAreasUptoCard
end Rows
end Go.Proofs.YtgfhanhonfpngaaDoor
