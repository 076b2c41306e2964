/-
  DERIVED. GIVEN WITH THE SEED: THE PROGRAM's TIES (one call each: nine closed facts by the kernel) AND EACH ROW's TIE, after the 31st guide's Derived/Test/Toyas{Tie, Card}.lean. No idea stands in it: it is a product of the set-up. Laid BY PROGRAM, IN A SANDBOX (cutbox-door.mjs). By AI agents, Wed Nov 11 2026. No macro, syntax, notation, axiom, sorry.
-/
import Derived.Test.YtgfhanhonfpngaaDoorRows
import Derived.LaidByTextLater
import Derived.SevenTiedAt
import Derived.LaidSub
import Derived.LaidOnce
namespace Go.Proofs.YtgfhanhonfpngaaDoor
open Go
set_option maxRecDepth 100000
theorem seatTie1 : Tryd.prog.laidByTextLater [("mapmaker/classify.highways", Rows.laid_mapmaker_classify_highways), ("mapmaker/classify.speeds", Rows.laid_mapmaker_classify_speeds), ("mapmaker/classify.settlements", Rows.laid_mapmaker_classify_settlements)] [.data, .data, .data] true :=
  Program.laidByTextLater_by_one 27 8 8 (by kernel_rfl) (by kernel_rfl) (by kernel_rfl) (by kernel_rfl) (by kernel_rfl) (by kernel_rfl) (fun _ _ => by kernel_rfl)
theorem noOwnUnsafe : Tryd.pinned.checked.prog.headLifts.contains "ownunsafe" = false := by kernel_rfl
theorem tie : Tryd.prog.laidByTextLater [("mapmaker/classify.highways", Rows.laid_mapmaker_classify_highways), ("mapmaker/classify.speeds", Rows.laid_mapmaker_classify_speeds), ("mapmaker/classify.settlements", Rows.laid_mapmaker_classify_settlements)] [.data, .data, .data] true :=
  Program.laidByTextLater.sub seatTie1 ["mapmaker/classify.highways", "mapmaker/classify.speeds", "mapmaker/classify.settlements"] (by kernel_rfl) (by kernel_rfl)
theorem classifyThemes_row_tie : Rows.classifyThemesRow.laidByTextAt .later Tryd.pinned [.data, .data, .data] true :=
  OpenClaim.laidByTextAt_later rfl rfl tie noOwnUnsafe
theorem classifyRoads_row_tie : Rows.classifyRoadsRow.laidByTextAt .later Tryd.pinned [.data, .data, .data] true :=
  OpenClaim.laidByTextAt_later rfl rfl tie noOwnUnsafe
theorem classifyKeys_row_tie : Rows.classifyKeysRow.laidByTextAt .later Tryd.pinned [.data, .data, .data] true :=
  OpenClaim.laidByTextAt_later rfl rfl tie noOwnUnsafe
theorem classifyAreas_row_tie : Rows.classifyAreasRow.laidByTextAt .later Tryd.pinned [.data, .data, .data] true :=
  OpenClaim.laidByTextAt_later rfl rfl tie noOwnUnsafe
theorem classifyThemesUpto_row_tie : Rows.classifyThemesUptoRow.laidByTextAt .later Tryd.pinned [.data, .data, .data] true :=
  OpenClaim.laidByTextAt_later rfl rfl tie noOwnUnsafe
theorem classifyRoadsUpto_row_tie : Rows.classifyRoadsUptoRow.laidByTextAt .later Tryd.pinned [.data, .data, .data] true :=
  OpenClaim.laidByTextAt_later rfl rfl tie noOwnUnsafe
theorem classifyKeysUpto_row_tie : Rows.classifyKeysUptoRow.laidByTextAt .later Tryd.pinned [.data, .data, .data] true :=
  OpenClaim.laidByTextAt_later rfl rfl tie noOwnUnsafe
theorem classifyAreasUpto_row_tie : Rows.classifyAreasUptoRow.laidByTextAt .later Tryd.pinned [.data, .data, .data] true :=
  OpenClaim.laidByTextAt_later rfl rfl tie noOwnUnsafe
end Go.Proofs.YtgfhanhonfpngaaDoor
