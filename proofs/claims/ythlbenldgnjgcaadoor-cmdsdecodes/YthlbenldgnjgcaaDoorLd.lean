/- cmds: what the listed variable holds. -/
import Derived.Test.YthlbenldgnjgcaaDoorLb
import Derived.Test.YthlbenldgnjgcaaDoorTie
import Derived.Test.YthlbenldgnjgcaaDoorCards
import Derived.ProofKit
import Derived.LaidMore
import Derived.OpenShut
import Derived.Stop.Joined
namespace Go.Proofs.YthlbenldgnjgcaaDoor
open Go.ChangeShapes Go.WideShapes Go.ChangeAt Go.RowKit Go.Joins Go.Deep

open Go.WideMaps Go.WideElems

def laid3 : List (String × DataW Unit) := [("mapmaker/cmds.commands", Rows.laid_mapmaker_cmds_commands)]
theorem g0 : Tryd.prog.globalNamed "mapmaker/cmds.commands" = some 0 := by kernel_rfl
theorem gt0 : (Tryd.prog.globals[0]?).map (·.type) = some 73 := by kernel_rfl
theorem ce72 : Tryd.prog.cellsOf 72 = 3 := by kernel_rfl
theorem ce9 : Tryd.prog.cellsOf 9 = 1 := by kernel_rfl
theorem cell3_of {cs : List Value} {i : Nat} {v u x : Value} (h : (cs.drop (i * 3)).take 3 = [v, u, x]) : cs[i * 3]? = some v ∧ cs[i * 3 + 1]? = some u ∧ cs[i * 3 + 2]? = some x := by
  have h0 := congrArg (fun l => l[0]?) h
  have h1 := congrArg (fun l => l[1]?) h
  have h2 := congrArg (fun l => l[2]?) h
  simp at h0 h1 h2
  exact ⟨h0, h1, h2⟩
theorem trod_struct3 {H : Type} {enc : TypeId × Value → H} {P : Program} {w : World} {base : Nat} {spare : Nat → Bool} {held : Bool} {t : TypeId} {f0 f1 f2 : Field} {fuel : Nat} {cs : List Value} {x : DataW H × List MemPlace} (ht : P.underlying t = some (.struct #[f0, f1, f2])) (h : DataW.trod enc P w base spare held fuel t cs = some x) :
    ∃ y0 y1 y2 n, x.1 = .agg [y0.1, y1.1, y2.1] ∧ DataW.trod enc P w base spare held n f0.type ((cs.drop f0.offset).take (P.cellsOf f0.type)) = some y0 ∧
      DataW.trod enc P w base spare held n f1.type ((cs.drop f1.offset).take (P.cellsOf f1.type)) = some y1 ∧ DataW.trod enc P w base spare held n f2.type ((cs.drop f2.offset).take (P.cellsOf f2.type)) = some y2 := by
  obtain ⟨xs, n, _, rfl, hl, hlen, hf⟩ := DataW.trod_struct ht h
  match xs, hlen with
  | [y0, y1, y2], _ => exact ⟨y0, y1, y2, n, by simp, by simpa using hf 0 f0 rfl, by simpa using hf 1 f1 rfl, by simpa using hf 2 f2 rfl⟩
def row3 (i : Nat) : DataW Unit := .agg [.lit (.string (nmL.getD i default).data.toList), .lit (.int .i64 (ctL i)), .lit (.int .i64 (prL i))]
theorem of_laid {W : World} (h : laidMetH Tryd.prog laid3 W) : GV W := by
  rw [MakeChecks.laidMetH_plain _ _ _ (by kernel_rfl)] at h
  obtain ⟨ps, ⟨q0, t0, cs0, f0, p0, r0, hg0, ht0, hv0, hd0, _, _⟩, _, _⟩ := h
  obtain rfl := Option.some.inj (g0.symm.trans hg0)
  obtain rfl := Option.some.inj (gt0.symm.trans ht0)
  have k0 := World.var?_cell hg0 hv0
  obtain ⟨zs, m3, rfl, hz, hzlen, hzn, hzel⟩ := DataW.trod_array Tryd.underlying73 hd0
  simp only [Prod.mk.injEq, DataW.agg.injEq, Rows.laid_mapmaker_cmds_commands] at hz
  rw [ce72] at hzel
  have HC : ∀ i, i < 8 → ∃ (s : ByteArray) (z y : Int), cs0.toList[i * 3]? = some (.string s) ∧ cs0.toList[i * 3 + 1]? = some (.int .i64 z) ∧ cs0.toList[i * 3 + 2]? = some (.int .i64 y) ∧ zs[i]?.map (·.1) = some (.agg [.lit (.string s.data.toList), .lit (.int .i64 z), .lit (.int .i64 y)]) := by
    intro i hi
    have he := hzel i hi
    have he2 := he.trans (List.getElem?_eq_getElem (show i < zs.length by omega))
    obtain ⟨y0, y1, y2, n2, ex, u0, u1, u2⟩ := trod_struct3 Tryd.underlying72 he2
    rw [ce9] at u0
    rw [ce3] at u1 u2
    obtain ⟨s, es, er, _⟩ := DataW.trod_string Tryd.underlying9 u0
    obtain ⟨z, ez, ey, _⟩ := DataW.trod_int Tryd.underlying3 u1
    obtain ⟨y, ez2, ey2, _⟩ := DataW.trod_int Tryd.underlying3 u2
    have hc : (cs0.toList.drop (i * 3)).take 3 = [.string s, .int .i64 z, .int .i64 y] := by
      have hl : ((cs0.toList.drop (i * 3)).take 3).length = 3 := by
        have h1 : cs0.toList.length = 24 := by rw [hzlen]; kernel_rfl
        rw [List.length_take, List.length_drop, h1]; omega
      obtain ⟨a, b, c, hab⟩ : ∃ a b c, (cs0.toList.drop (i * 3)).take 3 = [a, b, c] := by
        match (cs0.toList.drop (i * 3)).take 3, hl with
        | [a, b, c], _ => exact ⟨a, b, c, rfl⟩
      rw [hab] at es ez ez2 ⊢
      simp at es ez ez2
      rw [es, ez, ez2]
    obtain ⟨c1, c2, c3⟩ := cell3_of hc
    refine ⟨s, z, y, c1, c2, c3, ?_⟩
    rw [List.getElem?_eq_getElem (show i < zs.length by omega), Option.map_some, ex, er, ey, ey2]
  have toArr : ∀ (cs : Array Value) (i : Nat), cs[i]? = cs.toList[i]? := fun cs i => by simp
  have HX : ∀ i, i < 8 → zs[i]?.map (·.1) = some (row3 i) := by
    intro i hi
    have e := congrArg (fun l => l[i]?) hz.1
    simp only [List.getElem?_map] at e
    rw [← e]
    have h8 : i = 0 ∨ i = 1 ∨ i = 2 ∨ i = 3 ∨ i = 4 ∨ i = 5 ∨ i = 6 ∨ i = 7 := by omega
    rcases h8 with rfl | rfl | rfl | rfl | rfl | rfl | rfl | rfl <;> rfl
  refine ⟨fun i hi => ?_, ?_⟩
  · obtain ⟨s, z, y, a0, a1, a2, e⟩ := HC i hi
    rw [HX i hi] at e
    unfold row3 at e
    simp at e
    obtain ⟨e1, e2, e3⟩ := e
    have es : nmL.getD i default = s := by
      have h1 : (nmL.getD i default).data = s.data := by simpa using e1
      exact ByteArray.ext h1
    refine ⟨?_, ?_, ?_⟩
    · rw [k0, toArr, a0, es]
    · rw [k0, toArr, a1, e2]
    · rw [k0, toArr, a2, e3]
  · obtain ⟨s, z, y, a0, _⟩ := HC 0 (by decide)
    have hcell := k0 0
    rw [toArr, a0] at hcell
    exact World.block_lt_of_cell? W _ hcell
end Go.Proofs.YthlbenldgnjgcaaDoor
