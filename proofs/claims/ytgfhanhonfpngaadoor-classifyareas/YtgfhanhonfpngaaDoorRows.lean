/-
  NARROWER THAN 'FOR EVERY INPUT', by the rows' own cells (each row's printed sentence says how): ClassifyThemes: laid · ClassifyRoads: laid · ClassifyKeys: laid · ClassifyAreas: laid.
  DERIVED. THE GIVEN ROWS OF THIS SEAT. 4 by the template 'for every input the law returns true; each argument reads behind the call as it read before'; 0 by the template 'total and deterministic' (their statements: YtgfhanhonfpngaaDoorTotals.lean).
  GIVEN WITH THE SEED: the statements are not yours to turn. If you find one false, say at which input.
  Laid BY PROGRAM, IN A SANDBOX (cutbox-rows.mjs): the forced cells as the released guide's own fill.sh prints them over the translation d383bb932c9d4dcb… (all of the seat's roots in one cut). By AI agents, Wed Nov 11 2026. No macro, syntax, notation, axiom, sorry.
-/
import Derived.Test.YtgfhanhonfpngaaDoorChecked
import GoSem.Claim
import GoSem.ClaimJoined
import GoSem.ClaimMapViews
import Derived.JoinedTies
import Derived.KernelRfl
namespace Go.Proofs.YtgfhanhonfpngaaDoor
/- THE CELL 'sum', in the pinned program and in every row, IS THE sha256 OF THE DUMP (.gsa) THAT YtgfhanhonfpngaaDoorProg.lean LOADS. Nothing in Lean hashes anything: it is a label: what it is worth is what the hold of that sum in a sandbox is worth. -/
noncomputable def Tryd.pinned : Pinned := { name := "ytgfhanhonfpngaadoor", sum := "d383bb932c9d4dcb18c104777894e0c61c3c821788615383dbc9f5577892a308", checked := Tryd.checked }
namespace Rows
def none {H : Type} : Left H := { results := [], args := [] }

/- WHAT THE LISTED PACKAGE-LEVEL VARIABLES READ AS WHEN THE CALL BEGINS. Each datum BY PROGRAM (the guide's laid-datum.mjs) off the statement by which the dump's own 'gosem.cut.vars' lays the variable. In a bare row this is a premise. The card (YtgfhanhonfpngaaDoorCards.lean) ties it to the program's text. -/
def laid_mapmaker_classify_highways {H : Type} : DataW H := .agg [.lit (.string [109, 111, 116, 111, 114, 119, 97, 121]), .lit (.string [112, 114, 105, 109, 97, 114, 121]), .lit (.string [115, 101, 99, 111, 110, 100, 97, 114, 121]), .lit (.string [114, 101, 115, 105, 100, 101, 110, 116, 105, 97, 108]), .lit (.string [116, 114, 97, 99, 107])]
def laid_mapmaker_classify_speeds {H : Type} : DataW H := .agg [.lit (.int .i64 0), .lit (.int .i64 1), .lit (.int .i64 2), .lit (.int .i64 3), .lit (.int .i64 5), .lit (.int .i64 8), .lit (.int .i64 10)]
def laid_mapmaker_classify_settlements {H : Type} : DataW H := .agg [.agg [.lit (.string [99, 105, 116, 121]), .lit (.int .i64 0)], .agg [.lit (.string [116, 111, 119, 110]), .lit (.int .i64 3)], .agg [.lit (.string [118, 105, 108, 108, 97, 103, 101]), .lit (.int .i64 5)]]

/-- 'mapmakerlaw18.ClassifyThemes': WHATEVER THE INPUT: true; the input reads as it did. -/
def classifyThemesSpec : ChangeSpec := { name := "classifyThemes", fn := fun _ => fun
  | [d] => { results := [.lit (.bool true)], args := [d] }
  | _ => none }
def classifyThemesRow : OpenClaim := { program := "ytgfhanhonfpngaadoor", sum := "d383bb932c9d4dcb18c104777894e0c61c3c821788615383dbc9f5577892a308", func := "mapmaker/mapmakerlaw18.ClassifyThemes", spec := "classifyThemes", unfollowed := true, recurses := true, named := ["mapmaker/classify.highways", "mapmaker/classify.settlements", "mapmaker/classify.speeds"], apart := false, laid := [("mapmaker/classify.highways", laid_mapmaker_classify_highways), ("mapmaker/classify.speeds", laid_mapmaker_classify_speeds), ("mapmaker/classify.settlements", laid_mapmaker_classify_settlements)] }
def ClassifyThemesSaid : Prop := classifyThemesRow.holds Tryd.pinned (OpenSpec.ofChange classifyThemesSpec)

/-- ITS FALSE NEIGHBOUR: 'it returns false'. Refute it at one input. -/
def classifyThemesWrong : ChangeSpec := { name := "classifyThemes", fn := fun _ => fun
  | [d] => { results := [.lit (.bool false)], args := [d] }
  | _ => none }
def ClassifyThemesWrongFalsely : Prop := classifyThemesRow.holds Tryd.pinned (OpenSpec.ofChange classifyThemesWrong)

/-- 'mapmakerlaw18.ClassifyRoads': WHATEVER THE INPUT: true; the input reads as it did. -/
def classifyRoadsSpec : ChangeSpec := { name := "classifyRoads", fn := fun _ => fun
  | [d1, d2] => { results := [.lit (.bool true)], args := [d1, d2] }
  | _ => none }
def classifyRoadsRow : OpenClaim := { program := "ytgfhanhonfpngaadoor", sum := "d383bb932c9d4dcb18c104777894e0c61c3c821788615383dbc9f5577892a308", func := "mapmaker/mapmakerlaw18.ClassifyRoads", spec := "classifyRoads", unfollowed := true, recurses := true, named := ["mapmaker/classify.highways", "mapmaker/classify.settlements", "mapmaker/classify.speeds"], apart := false, laid := [("mapmaker/classify.highways", laid_mapmaker_classify_highways), ("mapmaker/classify.speeds", laid_mapmaker_classify_speeds), ("mapmaker/classify.settlements", laid_mapmaker_classify_settlements)] }
def ClassifyRoadsSaid : Prop := classifyRoadsRow.holds Tryd.pinned (OpenSpec.ofChange classifyRoadsSpec)

/-- ITS FALSE NEIGHBOUR: 'it returns false'. Refute it at one input. -/
def classifyRoadsWrong : ChangeSpec := { name := "classifyRoads", fn := fun _ => fun
  | [d1, d2] => { results := [.lit (.bool false)], args := [d1, d2] }
  | _ => none }
def ClassifyRoadsWrongFalsely : Prop := classifyRoadsRow.holds Tryd.pinned (OpenSpec.ofChange classifyRoadsWrong)

/-- 'mapmakerlaw18.ClassifyKeys': WHATEVER THE INPUT: true; the input reads as it did. -/
def classifyKeysSpec : ChangeSpec := { name := "classifyKeys", fn := fun _ => fun
  | [d1, d2] => { results := [.lit (.bool true)], args := [d1, d2] }
  | _ => none }
def classifyKeysRow : OpenClaim := { program := "ytgfhanhonfpngaadoor", sum := "d383bb932c9d4dcb18c104777894e0c61c3c821788615383dbc9f5577892a308", func := "mapmaker/mapmakerlaw18.ClassifyKeys", spec := "classifyKeys", inPlace := ["slices.overlaps[mapmaker/api.Tag]"], unfollowed := true, recurses := true, named := ["mapmaker/classify.highways", "mapmaker/classify.settlements", "mapmaker/classify.speeds"], apart := false, laid := [("mapmaker/classify.highways", laid_mapmaker_classify_highways), ("mapmaker/classify.speeds", laid_mapmaker_classify_speeds), ("mapmaker/classify.settlements", laid_mapmaker_classify_settlements)] }
def ClassifyKeysSaid : Prop := classifyKeysRow.holds Tryd.pinned (OpenSpec.ofChange classifyKeysSpec)

/-- ITS FALSE NEIGHBOUR: 'it returns false'. Refute it at one input. -/
def classifyKeysWrong : ChangeSpec := { name := "classifyKeys", fn := fun _ => fun
  | [d1, d2] => { results := [.lit (.bool false)], args := [d1, d2] }
  | _ => none }
def ClassifyKeysWrongFalsely : Prop := classifyKeysRow.holds Tryd.pinned (OpenSpec.ofChange classifyKeysWrong)

/-- 'mapmakerlaw18.ClassifyAreas': WHATEVER THE INPUT: true; the input reads as it did. -/
def classifyAreasSpec : ChangeSpec := { name := "classifyAreas", fn := fun _ => fun
  | [d] => { results := [.lit (.bool true)], args := [d] }
  | _ => none }
def classifyAreasRow : OpenClaim := { program := "ytgfhanhonfpngaadoor", sum := "d383bb932c9d4dcb18c104777894e0c61c3c821788615383dbc9f5577892a308", func := "mapmaker/mapmakerlaw18.ClassifyAreas", spec := "classifyAreas", inPlace := ["slices.overlaps[mapmaker/api.Tag]"], unfollowed := true, recurses := true, named := ["mapmaker/classify.highways", "mapmaker/classify.settlements", "mapmaker/classify.speeds"], apart := false, laid := [("mapmaker/classify.highways", laid_mapmaker_classify_highways), ("mapmaker/classify.speeds", laid_mapmaker_classify_speeds), ("mapmaker/classify.settlements", laid_mapmaker_classify_settlements)] }
def ClassifyAreasSaid : Prop := classifyAreasRow.holds Tryd.pinned (OpenSpec.ofChange classifyAreasSpec)

/-- ITS FALSE NEIGHBOUR: 'it returns false'. Refute it at one input. -/
def classifyAreasWrong : ChangeSpec := { name := "classifyAreas", fn := fun _ => fun
  | [d] => { results := [.lit (.bool false)], args := [d] }
  | _ => none }
def ClassifyAreasWrongFalsely : Prop := classifyAreasRow.holds Tryd.pinned (OpenSpec.ofChange classifyAreasWrong)

/- THE SECOND FORM. 'bulk': how many values and letters a reading holds, each counted each time it is reached (what is shared counts as often as it is met; a slice's spare places count too). A statement '..UptoSaid' is the law's where the arguments, and the package variables that the reading takes, are together of bulk at most 1048576: NARROWER than '..Said'. Prove '..Said' where nothing that the law and all that it calls make is longer than what came in: it says more and counts as full. Else prove '..UptoSaid'. A law counts once. -/
mutual
def uptoBulk {H : Type} : DataW H → Nat
  | .lit (.string bytes) => bytes.length + 1
  | .lit _ => 1
  | .nil => 1
  | .ptr d => uptoBulk d + 1
  | .slice elems spare => uptoBulkAll elems + uptoBulkAll spare + 1
  | .agg parts => uptoBulkAll parts + 1
  | .iface _ d => uptoBulk d + 1
  | .map entries => uptoBulkEntries entries + 1
  | .held _ => 1
def uptoBulkAll {H : Type} : List (DataW H) → Nat
  | [] => 0
  | d :: r => uptoBulk d + uptoBulkAll r
def uptoBulkEntries {H : Type} : List (Lit × DataW H) → Nat
  | [] => 0
  | x :: r => uptoBulkEntry x + uptoBulkEntries r
def uptoBulkEntry {H : Type} : Lit × DataW H → Nat
  | (.string bytes, d) => bytes.length + uptoBulk d + 1
  | (_, d) => uptoBulk d + 1
 end
def uptoSmall : (H : Type) → List (DataW H) → Bool := fun _ ds => decide (uptoBulkAll ds ≤ 1048576)
def OpenSpec.upto (s : _root_.Go.ChangeSpec) : _root_.Go.OpenSpec := { _root_.Go.OpenSpec.ofChange s with cond := some uptoSmall }

/-- 'mapmakerlaw18.ClassifyThemes', WHERE WHAT IT READS IS OF BULK AT MOST 1048576: true; the input reads as it did. -/
def classifyThemesUptoRow : OpenClaim := { program := "ytgfhanhonfpngaadoor", sum := "d383bb932c9d4dcb18c104777894e0c61c3c821788615383dbc9f5577892a308", func := "mapmaker/mapmakerlaw18.ClassifyThemes", spec := "classifyThemes", unfollowed := true, recurses := true, named := ["mapmaker/classify.highways", "mapmaker/classify.settlements", "mapmaker/classify.speeds"], apart := false, laid := [("mapmaker/classify.highways", laid_mapmaker_classify_highways), ("mapmaker/classify.speeds", laid_mapmaker_classify_speeds), ("mapmaker/classify.settlements", laid_mapmaker_classify_settlements)], narrowed := true }
def ClassifyThemesUptoSaid : Prop := classifyThemesUptoRow.holds Tryd.pinned (OpenSpec.upto classifyThemesSpec)

/-- 'mapmakerlaw18.ClassifyRoads', WHERE WHAT IT READS IS OF BULK AT MOST 1048576: true; the input reads as it did. -/
def classifyRoadsUptoRow : OpenClaim := { program := "ytgfhanhonfpngaadoor", sum := "d383bb932c9d4dcb18c104777894e0c61c3c821788615383dbc9f5577892a308", func := "mapmaker/mapmakerlaw18.ClassifyRoads", spec := "classifyRoads", unfollowed := true, recurses := true, named := ["mapmaker/classify.highways", "mapmaker/classify.settlements", "mapmaker/classify.speeds"], apart := false, laid := [("mapmaker/classify.highways", laid_mapmaker_classify_highways), ("mapmaker/classify.speeds", laid_mapmaker_classify_speeds), ("mapmaker/classify.settlements", laid_mapmaker_classify_settlements)], narrowed := true }
def ClassifyRoadsUptoSaid : Prop := classifyRoadsUptoRow.holds Tryd.pinned (OpenSpec.upto classifyRoadsSpec)

/-- 'mapmakerlaw18.ClassifyKeys', WHERE WHAT IT READS IS OF BULK AT MOST 1048576: true; the input reads as it did. -/
def classifyKeysUptoRow : OpenClaim := { program := "ytgfhanhonfpngaadoor", sum := "d383bb932c9d4dcb18c104777894e0c61c3c821788615383dbc9f5577892a308", func := "mapmaker/mapmakerlaw18.ClassifyKeys", spec := "classifyKeys", inPlace := ["slices.overlaps[mapmaker/api.Tag]"], unfollowed := true, recurses := true, named := ["mapmaker/classify.highways", "mapmaker/classify.settlements", "mapmaker/classify.speeds"], apart := false, laid := [("mapmaker/classify.highways", laid_mapmaker_classify_highways), ("mapmaker/classify.speeds", laid_mapmaker_classify_speeds), ("mapmaker/classify.settlements", laid_mapmaker_classify_settlements)], narrowed := true }
def ClassifyKeysUptoSaid : Prop := classifyKeysUptoRow.holds Tryd.pinned (OpenSpec.upto classifyKeysSpec)

/-- 'mapmakerlaw18.ClassifyAreas', WHERE WHAT IT READS IS OF BULK AT MOST 1048576: true; the input reads as it did. -/
def classifyAreasUptoRow : OpenClaim := { program := "ytgfhanhonfpngaadoor", sum := "d383bb932c9d4dcb18c104777894e0c61c3c821788615383dbc9f5577892a308", func := "mapmaker/mapmakerlaw18.ClassifyAreas", spec := "classifyAreas", inPlace := ["slices.overlaps[mapmaker/api.Tag]"], unfollowed := true, recurses := true, named := ["mapmaker/classify.highways", "mapmaker/classify.settlements", "mapmaker/classify.speeds"], apart := false, laid := [("mapmaker/classify.highways", laid_mapmaker_classify_highways), ("mapmaker/classify.speeds", laid_mapmaker_classify_speeds), ("mapmaker/classify.settlements", laid_mapmaker_classify_settlements)], narrowed := true }
def ClassifyAreasUptoSaid : Prop := classifyAreasUptoRow.holds Tryd.pinned (OpenSpec.upto classifyAreasSpec)

end Rows
end Go.Proofs.YtgfhanhonfpngaaDoor
