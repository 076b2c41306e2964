/- GridProjects. -/
import Derived.Test.YtahaigamigkhbaaWk
namespace Go.Proofs.Ytahaigamigkhbaa
open Go.ChangeShapes Go.WideShapes Go.ChangeAt Go.RowKit Go.Joins Go.Deep

theorem two {w w1 : World} {a b : Value} {t : TypeId} (hb : Below (w.alloc (.cells #[a, b] t)).heap.size (w.alloc (.cells #[a, b] t)) w1) : w1.cell? ⟨w.heap.size, 0, none⟩ = some a ∧ w1.cell? ⟨w.heap.size, 1, none⟩ = some b :=
  ⟨old hb (by go_simp), old hb (by go_simp)⟩
theorem two_old {w w1 : World} {o : Obj} {g : Nat} {a b : Value} (h : w.cell? ⟨g, 0, none⟩ = some a ∧ w.cell? ⟨g, 1, none⟩ = some b) (hb : Below (w.alloc o).heap.size (w.alloc o) w1) : w1.cell? ⟨g, 0, none⟩ = some a ∧ w1.cell? ⟨g, 1, none⟩ = some b :=
  ⟨old hb (old_alloc h.1), old hb (old_alloc h.2)⟩
theorem bel_al {w w1 w2 : World} {o : Obj} (B : Below w.heap.size w w1) (hb : Below (w1.alloc o).heap.size (w1.alloc o) w2) : Below w.heap.size w w2 :=
  (B.alloc B.size o).trans (hb.mono (by have := B.size; simp; omega))
set_option maxRecDepth 100000 in
set_option maxHeartbeats 8000000 in
theorem gridProjects_walk (vc vp : Value) (w : World) (hc : ∃ x y, vc = pt x y) (hp : ∃ x y, vp = pt x y) :
    Calls Try.prog 3 #[vc, vp] w fun e w' => e = .returned (.bool true) ∧ Below w.heap.size w w' := by
  obtain ⟨lon, lat, rfl⟩ := hc
  obtain ⟨x, y, rfl⟩ := hp
  go_enter Try.func3, Try.ntmps3
  go_wp2_with fail
  refine (project_any _ _ _).mono ?_; rintro e w1 ⟨rfl, hb⟩
  have B1 : Hid (Below w.heap.size w w1) := by show Below _ _ _; (repeat (first | exact Below.refl _ _ | (refine Below.drew ?_) | (refine below_drewN ?_ _) | (refine Below.alloc ?_ (by first | omega | (simp <;> omega)) _) | (refine Below.setCell ?_ (by first | omega | (simp <;> omega)) _) | (refine Below.trans ?_ (Below.mono (by assumption) (by first | omega | (simp <;> omega))))))
  have c1 : w1.cell? ⟨w.heap.size, 0, none⟩ = some (.int .i64 lon) := old hb (by go_simp)
  have c2 : w1.cell? ⟨w.heap.size, 1, none⟩ = some (.int .i64 lat) := old hb (by go_simp)
  have d1 : w1.cell? ⟨w.heap.size + 1, 0, none⟩ = some (.int .i64 x) := old hb (by go_simp)
  have d2 : w1.cell? ⟨w.heap.size + 1, 1, none⟩ = some (.int .i64 y) := old hb (by go_simp)
  have C1 := Lib.hid (And.intro c1 c2); have D1 := Lib.hid (And.intro d1 d2)
  have z1 : w.heap.size < w1.heap.size := cell_lt c1
  clear hb d1 d2
  go_wp2_with fail
  refine (projectr_any _ _ _).mono ?_; rintro e w2 ⟨rfl, hb⟩
  have B2 := Lib.hid (bel_al B1.out hb)
  have P2 := Lib.hid (two hb)
  have D2 := Lib.hid (two_old D1.out hb)
  obtain ⟨d1, d2⟩ := D2.out
  have z2 : w.heap.size + 1 < w2.heap.size := cell_lt d1
  clear hb c1 c2 z1 C1 D1
  go_wp2_with fail
  refine (center_any _ _ _).mono ?_; rintro e w3 ⟨rfl, hb⟩
  have B3 := Lib.hid (bel_al B2.out hb)
  have P3 := Lib.hid (two_old P2.out hb)
  have Q3 := Lib.hid (two hb)
  have D3 := Lib.hid (two_old D2.out hb)
  obtain ⟨e1, e2⟩ := D3.out
  have z3 : w.heap.size + 1 < w3.heap.size := cell_lt e1
  clear hb d1 d2 z2 D2 P2 B2
  go_wp2_with fail
  refine (centerr_any _ _ _).mono ?_; rintro e w4 ⟨rfl, hb⟩
  have B4 := Lib.hid (bel_al B3.out hb)
  have P4 := Lib.hid (two_old P3.out hb)
  have Q4' := Lib.hid (two_old Q3.out hb)
  have R4 := Lib.hid (two hb)
  have D4 := Lib.hid (two_old D3.out hb)
  clear hb e1 e2 z3 D3 P3 Q3 B3
  have S0 : Hid (∀ o W, o = Obj.cells #[.int .i64 (ctX x y), .int .i64 (ctY x y)] 23 → W = (w4.alloc o).drew → Below w.heap.size w W ∧ W.cell? ⟨w1.heap.size, 0, none⟩ = some (.int .i64 (prX lon lat)) ∧ W.cell? ⟨w1.heap.size, 1, none⟩ = some (.int .i64 (prY lon lat)) ∧ W.cell? ⟨w2.heap.size, 0, none⟩ = some (.int .i64 (prX lon lat)) ∧ W.cell? ⟨w2.heap.size, 1, none⟩ = some (.int .i64 (prY lon lat)) ∧ W.cell? ⟨w3.heap.size, 0, none⟩ = some (.int .i64 (ctX x y)) ∧ W.cell? ⟨w3.heap.size, 1, none⟩ = some (.int .i64 (ctY x y)) ∧ W.cell? ⟨w4.heap.size, 0, none⟩ = some (.int .i64 (ctX x y)) ∧ W.cell? ⟨w4.heap.size, 1, none⟩ = some (.int .i64 (ctY x y)) ∧ W.cell? ⟨w.heap.size + 1, 0, none⟩ = some (.int .i64 (x)) ∧ W.cell? ⟨w.heap.size + 1, 1, none⟩ = some (.int .i64 (y))) := by
    intro o W ho e; subst e; subst ho
    exact ⟨(B4.out.alloc B4.out.size _).drew, old_alloc P4.out.1, old_alloc P4.out.2, old_alloc Q4'.out.1, old_alloc Q4'.out.2, old_alloc R4.out.1, old_alloc R4.out.2, by go_simp, by go_simp, old_alloc D4.out.1, old_alloc D4.out.2⟩
  go_wp2_with fail
  go_region_held3 (fun w' => Below w.heap.size w w' ∧ w'.cell? ⟨w1.heap.size, 0, none⟩ = some (.int .i64 (prX lon lat)) ∧ w'.cell? ⟨w1.heap.size, 1, none⟩ = some (.int .i64 (prY lon lat)) ∧ w'.cell? ⟨w2.heap.size, 0, none⟩ = some (.int .i64 (prX lon lat)) ∧ w'.cell? ⟨w2.heap.size, 1, none⟩ = some (.int .i64 (prY lon lat)) ∧ w'.cell? ⟨w3.heap.size, 0, none⟩ = some (.int .i64 (ctX x y)) ∧ w'.cell? ⟨w3.heap.size, 1, none⟩ = some (.int .i64 (ctY x y)) ∧ w'.cell? ⟨w4.heap.size, 0, none⟩ = some (.int .i64 (ctX x y)) ∧ w'.cell? ⟨w4.heap.size, 1, none⟩ = some (.int .i64 (ctY x y)) ∧ w'.cell? ⟨w.heap.size + 1, 0, none⟩ = some (.int .i64 (x)) ∧ w'.cell? ⟨w.heap.size + 1, 1, none⟩ = some (.int .i64 (y)))
    (first | exact S0.out _ _ rfl rfl | assumption | exact keep10 (by assumption) (by assumption))
    (first
      | (go_at_call 12; (with_reducible refine (valid_any _ _ _).mono ?_); rintro en wx ⟨rfl, bb⟩)
      | (go_at_call 13; (with_reducible refine (validr_any _ _ _).mono ?_); rintro en wx ⟨rfl, bb⟩)
      | (go_at_call 14; (with_reducible refine (lives_any _).mono ?_); rintro en wx ⟨rfl, bb⟩))
  all_goals go_wp2
  all_goals go_ret
  all_goals exact ⟨rfl, bel_of (by assumption)⟩
end Go.Proofs.Ytahaigamigkhbaa
