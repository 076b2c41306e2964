/- classify: what the listed variables hold. -/
import Derived.Test.YtgfhanhonfpngaaDoorCh
import Derived.Test.YtgfhanhonfpngaaDoorTie
import Derived.Test.YtgfhanhonfpngaaDoorCards
import Derived.ProofKit
import Derived.LaidMore
import Derived.OpenShut
import Derived.Stop.Joined
namespace Go.Proofs.YtgfhanhonfpngaaDoor
open Go.ChangeShapes Go.WideShapes Go.ChangeAt Go.RowKit Go.Joins Go.Deep

open Go.Proofs.TagM Go.Shelf Go.Sort Go.WideMaps Go.WideElems

def laid3 : List (String × DataW Unit) := [("mapmaker/classify.highways", Rows.laid_mapmaker_classify_highways), ("mapmaker/classify.speeds", Rows.laid_mapmaker_classify_speeds), ("mapmaker/classify.settlements", Rows.laid_mapmaker_classify_settlements)]
theorem g0 : Tryd.prog.globalNamed "mapmaker/classify.highways" = some 0 := by kernel_rfl
theorem g1 : Tryd.prog.globalNamed "mapmaker/classify.speeds" = some 1 := by kernel_rfl
theorem g2 : Tryd.prog.globalNamed "mapmaker/classify.settlements" = some 2 := by kernel_rfl
theorem gt0 : (Tryd.prog.globals[0]?).map (·.type) = some 37 := by kernel_rfl
theorem gt1 : (Tryd.prog.globals[1]?).map (·.type) = some 38 := by kernel_rfl
theorem gt2 : (Tryd.prog.globals[2]?).map (·.type) = some 49 := by kernel_rfl
theorem co3 : Tryd.prog.cellsOf 3 = 1 := by kernel_rfl
theorem co48 : Tryd.prog.cellsOf 48 = 2 := by kernel_rfl
/- an array of strings, of numbers, read cell by cell -/
theorem cell_of {cs : List Value} {i k : Nat} {v : Value} (h : (cs.drop (i * 1)).take 1 = [v]) (hk : k = i) : cs[k]? = some v := by
  subst hk
  have := congrArg (fun l => l[0]?) h
  simpa using this
theorem cell2_of {cs : List Value} {i : Nat} {v u : Value} (h : (cs.drop (i * 2)).take 2 = [v, u]) : cs[i * 2]? = some v ∧ cs[i * 2 + 1]? = some u := by
  have h0 := congrArg (fun l => l[0]?) h
  have h1 := congrArg (fun l => l[1]?) h
  simp at h0 h1
  exact ⟨h0, h1⟩
theorem str_lit {s : ByteArray} {L : List UInt8} (h : s.data.toList = L) : s = ⟨L.toArray⟩ := data_inj (by rw [h])
theorem of_laid {W : World} (h : laidMetH Tryd.prog laid3 W) : GV W := by
  rw [MakeChecks.laidMetH_plain _ _ _ (by kernel_rfl)] at h
  obtain ⟨ps, ⟨q0, t0, cs0, f0, p0, r0, hg0, ht0, hv0, hd0, ⟨q1, t1, cs1, f1, p1, r1, hg1, ht1, hv1, hd1, ⟨q2, t2, cs2, f2, p2, r2, hg2, ht2, hv2, hd2, _, _⟩, _⟩, _⟩, _, _⟩ := h
  obtain rfl := Option.some.inj (g0.symm.trans hg0)
  obtain rfl := Option.some.inj (g1.symm.trans hg1)
  obtain rfl := Option.some.inj (g2.symm.trans hg2)
  obtain rfl := Option.some.inj (gt0.symm.trans ht0)
  obtain rfl := Option.some.inj (gt1.symm.trans ht1)
  obtain rfl := Option.some.inj (gt2.symm.trans ht2)
  have k0 := World.var?_cell hg0 hv0
  have k1 := World.var?_cell hg1 hv1
  have k2 := World.var?_cell hg2 hv2
  obtain ⟨xs, m1, rfl, hx, hlen, hn3, hel⟩ := DataW.trod_array Tryd.underlying37 hd0
  obtain ⟨ys, m2, rfl, hy, hylen, hyn, hyel⟩ := DataW.trod_array Tryd.underlying38 hd1
  obtain ⟨zs, m3, rfl, hz, hzlen, hzn, hzel⟩ := DataW.trod_array Tryd.underlying49 hd2
  simp only [Prod.mk.injEq, DataW.agg.injEq, Rows.laid_mapmaker_classify_highways] at hx
  simp only [Prod.mk.injEq, DataW.agg.injEq, Rows.laid_mapmaker_classify_speeds] at hy
  simp only [Prod.mk.injEq, DataW.agg.injEq, Rows.laid_mapmaker_classify_settlements] at hz
  rw [Tryd.cells9] at hel
  rw [co3] at hyel
  rw [co48] at hzel
  have HA : ∀ i, i < 5 → cs0.toList[i]? = some (.string (hws.getD i default)) := by
    intro i hi
    have he := hel i hi
    obtain ⟨s, e1, e2, _⟩ := DataW.trod_string Tryd.underlying9 (he.trans (List.getElem?_eq_getElem (by omega)))
    have hxi := congrArg (fun l => l[i]?) hx.1
    simp only [List.getElem?_map, List.getElem?_eq_getElem (show i < xs.length by omega), Option.map_some] at hxi
    rw [e2] at hxi
    rw [cell_of e1 rfl]
    have hi5 : i = 0 ∨ i = 1 ∨ i = 2 ∨ i = 3 ∨ i = 4 := by omega
    rcases hi5 with rfl | rfl | rfl | rfl | rfl <;> (simp at hxi; rw [str_lit hxi.symm]; rfl)
  have HB : ∀ i, i < 7 → cs1.toList[i]? = some (.int .i64 (([0, 1, 2, 3, 5, 8, 10] : List Int).getD i 0)) := by
    intro i hi
    have he := hyel i hi
    obtain ⟨s, e1, e2, _⟩ := DataW.trod_int Tryd.underlying3 (he.trans (List.getElem?_eq_getElem (by omega)))
    have hxi := congrArg (fun l => l[i]?) hy.1
    simp only [List.getElem?_map, List.getElem?_eq_getElem (show i < ys.length by omega), Option.map_some] at hxi
    rw [e2] at hxi
    rw [cell_of e1 rfl]
    have hi5 : i = 0 ∨ i = 1 ∨ i = 2 ∨ i = 3 ∨ i = 4 ∨ i = 5 ∨ i = 6 := by omega
    rcases hi5 with rfl | rfl | rfl | rfl | rfl | rfl | rfl <;> (simp at hxi; rw [← hxi]; rfl)
  have HC : ∀ i, i < 3 → ∃ (s : ByteArray) (z : Int), cs2.toList[i * 2]? = some (.string s) ∧ cs2.toList[i * 2 + 1]? = some (.int .i64 z) ∧ zs[i]?.map (·.1) = some (.agg [.lit (.string s.data.toList), .lit (.int .i64 z)]) := by
    intro i hi
    have he := hzel i hi
    have he2 := he.trans (List.getElem?_eq_getElem (show i < zs.length by omega))
    obtain ⟨z0, z1, n2, ex, _, u0, u1⟩ := trod_struct2 Tryd.underlying48 he2
    rw [Tryd.cells9] at u0
    rw [co3] at u1
    obtain ⟨s, es, er, _⟩ := DataW.trod_string Tryd.underlying9 u0
    obtain ⟨z, ez, ey, _⟩ := DataW.trod_int Tryd.underlying3 u1
    have hc : (cs2.toList.drop (i * 2)).take 2 = [.string s, .int .i64 z] := by
      have hl : ((cs2.toList.drop (i * 2)).take 2).length = 2 := by
        have h1 : cs2.toList.length = 6 := by rw [hzlen]; kernel_rfl
        rw [List.length_take, List.length_drop, h1]; omega
      obtain ⟨a, b, hab⟩ : ∃ a b, (cs2.toList.drop (i * 2)).take 2 = [a, b] := by
        match (cs2.toList.drop (i * 2)).take 2, hl with
        | [a, b], _ => exact ⟨a, b, rfl⟩
      rw [hab] at es ez ⊢
      simp at es ez
      rw [es, ez]
    obtain ⟨c1, c2⟩ := cell2_of hc
    refine ⟨s, z, c1, c2, ?_⟩
    rw [List.getElem?_eq_getElem (show i < zs.length by omega), Option.map_some, ex, er, ey]
  have e0 := congrArg (fun l => l[0]?) hz.1
  have e1 := congrArg (fun l => l[1]?) hz.1
  have e2 := congrArg (fun l => l[2]?) hz.1
  simp only [List.getElem?_map] at e0 e1 e2
  obtain ⟨s0, z0, a0, b0, d0⟩ := HC 0 (by decide)
  obtain ⟨s1, z1, a1, b1, d1⟩ := HC 1 (by decide)
  obtain ⟨s2, z2, a2, b2, d2⟩ := HC 2 (by decide)
  rw [d0] at e0; rw [d1] at e1; rw [d2] at e2
  simp at e0 e1 e2
  obtain rfl := str_lit e0.1.symm
  obtain rfl := str_lit e1.1.symm
  obtain rfl := str_lit e2.1.symm
  have toArr : ∀ (cs : Array Value) (i : Nat), cs[i]? = cs.toList[i]? := fun cs i => by simp
  refine ⟨fun i hi => ?_, fun i hi => ?_, ?_, ?_⟩
  · rw [k0, toArr]; exact HA i hi
  · rw [k1, toArr]; exact HB i hi
  · refine ⟨?_, ?_, ?_, ?_, ?_, ?_⟩ <;> rw [k2, toArr]
    · exact a0
    · rw [b0, ← e0.2]
    · exact a1
    · rw [b1, ← e1.2]
    · exact a2
    · rw [b2, ← e2.2]
  · have hcell := k2 0
    rw [toArr, a0] at hcell
    exact World.block_lt_of_cell? W _ hcell
end Go.Proofs.YtgfhanhonfpngaaDoor
