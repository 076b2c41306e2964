/- seg: Relate at the examples; lives. -/
import Derived.Test.YtfabfnjfnildhaaSg
namespace Go.Proofs.Ytfabfnjfnildhaa
open Go.ChangeShapes Go.WideShapes Go.ChangeAt Go.RowKit Go.Joins Go.Deep

set_option maxRecDepth 100000 in
set_option maxHeartbeats 4000000 in
theorem rel_ex1 (w : World) : Calls Try.prog 25 #[sg 0 0 4 4, sg 0 4 4 0] w fun e w' => e = .returned (.int .i64 2) ∧ Below w.heap.size w w' := by
  go_enter Try.func25, Try.ntmps25
  go_wp2_with fail
  have HSZ := Lib.hid (show ((w.alloc (.cells #[.int .i64 0, .int .i64 0, .int .i64 4, .int .i64 4] 25)).alloc (.cells #[.int .i64 0, .int .i64 4, .int .i64 4, .int .i64 0] 25)).heap.size = w.heap.size + 1 + 1 by simp)
  have I0 : ∀ W, W = (w.alloc (.cells #[.int .i64 0, .int .i64 0, .int .i64 4, .int .i64 4] 25)).alloc (.cells #[.int .i64 0, .int .i64 4, .int .i64 4, .int .i64 0] 25) → (W.cell? ⟨w.heap.size, 0, none⟩ = some (.int .i64 0) ∧ W.cell? ⟨w.heap.size, 1, none⟩ = some (.int .i64 0) ∧ W.cell? ⟨w.heap.size, 2, none⟩ = some (.int .i64 4) ∧ W.cell? ⟨w.heap.size, 3, none⟩ = some (.int .i64 4) ∧ W.cell? ⟨w.heap.size + 1, 0, none⟩ = some (.int .i64 0) ∧ W.cell? ⟨w.heap.size + 1, 1, none⟩ = some (.int .i64 4) ∧ W.cell? ⟨w.heap.size + 1, 2, none⟩ = some (.int .i64 4) ∧ W.cell? ⟨w.heap.size + 1, 3, none⟩ = some (.int .i64 0)) ∧ Below w.heap.size w W := by
    intro W e; subst e
    refine ⟨⟨by go_simp, by go_simp, by go_simp, by go_simp, by go_simp, by go_simp, by go_simp, by go_simp⟩, ?_⟩
    (repeat (first | exact Below.refl _ _ | (refine Below.alloc ?_ (by first | omega | (simp <;> omega)) _)))
  have J0 := I0 _ rfl; clear I0
  generalize (w.alloc (.cells #[.int .i64 0, .int .i64 0, .int .i64 4, .int .i64 4] 25)).alloc (.cells #[.int .i64 0, .int .i64 4, .int .i64 4, .int .i64 0] 25) = W0 at J0 HSZ ⊢
  obtain ⟨⟨f1, f2, f3, f4, f5, f6, f7, f8⟩, bb0⟩ := J0
  have B0 := Lib.hid bb0; clear bb0
  refine (all_any _ _ _ [(0, 0), (4, 4), (0, 4), (4, 0)] _ (pts4 _ _ _ _ _ _ _ _ _ _ _ HSZ.out) (by omega)).mono ?_; rintro e' w1 ⟨rfl, hb'⟩; rw [show allV [(0, 0), (4, 4), (0, 4), (4, 0)] = true by decide]
  have hb := ((Below.refl _ _).alloc (Nat.le_refl _) _).trans (hb'.mono (by simp)); clear hb' HSZ
  replace f1 := old hb f1; replace f2 := old hb f2; replace f3 := old hb f3; replace f4 := old hb f4; replace f5 := old hb f5; replace f6 := old hb f6; replace f7 := old hb f7; replace f8 := old hb f8
  have B2_ := Lib.hid (B0.out.trans (hb.mono B0.out.size)); clear hb
  have hz1 : w.heap.size < w1.heap.size := cell_lt f1
  have hz2 : w.heap.size + 1 < w1.heap.size := cell_lt f5
  go_wp2_with fail
  refine (splits_any _ _ _ _ _ _ _ _ _).mono ?_; rintro e w3 ⟨rfl, hb⟩; rw [show splB (trn 0 0 4 4 0 4) (trn 0 0 4 4 4 0) = true by decide]
  replace f1 := old hb f1; replace f2 := old hb f2; replace f3 := old hb f3; replace f4 := old hb f4; replace f5 := old hb f5; replace f6 := old hb f6; replace f7 := old hb f7; replace f8 := old hb f8
  have B4_ := Lib.hid (B2_.out.trans (hb.mono B2_.out.size)); clear hb
  clear hz1 hz2
  have hz1 : w.heap.size < w3.heap.size := cell_lt f1
  have hz2 : w.heap.size + 1 < w3.heap.size := cell_lt f5
  go_wp2_with fail
  refine (splits_any _ _ _ _ _ _ _ _ _).mono ?_; rintro e w5 ⟨rfl, hb⟩; rw [show splB (trn 0 4 4 0 0 0) (trn 0 4 4 0 4 4) = true by decide]
  replace f1 := old hb f1; replace f2 := old hb f2; replace f3 := old hb f3; replace f4 := old hb f4; replace f5 := old hb f5; replace f6 := old hb f6; replace f7 := old hb f7; replace f8 := old hb f8
  have B6_ := Lib.hid (B4_.out.trans (hb.mono B4_.out.size)); clear hb
  clear hz1 hz2
  have hz1 : w.heap.size < w5.heap.size := cell_lt f1
  have hz2 : w.heap.size + 1 < w5.heap.size := cell_lt f5
  go_wp2_with fail
  go_ret
  exact ⟨rfl, B6_.out⟩
set_option maxRecDepth 100000 in
set_option maxHeartbeats 4000000 in
theorem rel_ex2 (w : World) : Calls Try.prog 25 #[sg 0 0 4 0, sg 2 0 2 3] w fun e w' => e = .returned (.int .i64 1) ∧ Below w.heap.size w w' := by
  go_enter Try.func25, Try.ntmps25
  go_wp2_with fail
  have HSZ := Lib.hid (show ((w.alloc (.cells #[.int .i64 0, .int .i64 0, .int .i64 4, .int .i64 0] 25)).alloc (.cells #[.int .i64 2, .int .i64 0, .int .i64 2, .int .i64 3] 25)).heap.size = w.heap.size + 1 + 1 by simp)
  have I0 : ∀ W, W = (w.alloc (.cells #[.int .i64 0, .int .i64 0, .int .i64 4, .int .i64 0] 25)).alloc (.cells #[.int .i64 2, .int .i64 0, .int .i64 2, .int .i64 3] 25) → (W.cell? ⟨w.heap.size, 0, none⟩ = some (.int .i64 0) ∧ W.cell? ⟨w.heap.size, 1, none⟩ = some (.int .i64 0) ∧ W.cell? ⟨w.heap.size, 2, none⟩ = some (.int .i64 4) ∧ W.cell? ⟨w.heap.size, 3, none⟩ = some (.int .i64 0) ∧ W.cell? ⟨w.heap.size + 1, 0, none⟩ = some (.int .i64 2) ∧ W.cell? ⟨w.heap.size + 1, 1, none⟩ = some (.int .i64 0) ∧ W.cell? ⟨w.heap.size + 1, 2, none⟩ = some (.int .i64 2) ∧ W.cell? ⟨w.heap.size + 1, 3, none⟩ = some (.int .i64 3)) ∧ Below w.heap.size w W := by
    intro W e; subst e
    refine ⟨⟨by go_simp, by go_simp, by go_simp, by go_simp, by go_simp, by go_simp, by go_simp, by go_simp⟩, ?_⟩
    (repeat (first | exact Below.refl _ _ | (refine Below.alloc ?_ (by first | omega | (simp <;> omega)) _)))
  have J0 := I0 _ rfl; clear I0
  generalize (w.alloc (.cells #[.int .i64 0, .int .i64 0, .int .i64 4, .int .i64 0] 25)).alloc (.cells #[.int .i64 2, .int .i64 0, .int .i64 2, .int .i64 3] 25) = W0 at J0 HSZ ⊢
  obtain ⟨⟨f1, f2, f3, f4, f5, f6, f7, f8⟩, bb0⟩ := J0
  have B0 := Lib.hid bb0; clear bb0
  refine (all_any _ _ _ [(0, 0), (4, 0), (2, 0), (2, 3)] _ (pts4 _ _ _ _ _ _ _ _ _ _ _ HSZ.out) (by omega)).mono ?_; rintro e' w1 ⟨rfl, hb'⟩; rw [show allV [(0, 0), (4, 0), (2, 0), (2, 3)] = true by decide]
  have hb := ((Below.refl _ _).alloc (Nat.le_refl _) _).trans (hb'.mono (by simp)); clear hb' HSZ
  replace f1 := old hb f1; replace f2 := old hb f2; replace f3 := old hb f3; replace f4 := old hb f4; replace f5 := old hb f5; replace f6 := old hb f6; replace f7 := old hb f7; replace f8 := old hb f8
  have B2_ := Lib.hid (B0.out.trans (hb.mono B0.out.size)); clear hb
  have hz1 : w.heap.size < w1.heap.size := cell_lt f1
  have hz2 : w.heap.size + 1 < w1.heap.size := cell_lt f5
  go_wp2_with fail
  refine (splits_any _ _ _ _ _ _ _ _ _).mono ?_; rintro e w3 ⟨rfl, hb⟩; rw [show splB (trn 0 0 4 0 2 0) (trn 0 0 4 0 2 3) = false by decide]
  replace f1 := old hb f1; replace f2 := old hb f2; replace f3 := old hb f3; replace f4 := old hb f4; replace f5 := old hb f5; replace f6 := old hb f6; replace f7 := old hb f7; replace f8 := old hb f8
  have B4_ := Lib.hid (B2_.out.trans (hb.mono B2_.out.size)); clear hb
  clear hz1 hz2
  have hz1 : w.heap.size < w3.heap.size := cell_lt f1
  have hz2 : w.heap.size + 1 < w3.heap.size := cell_lt f5
  go_wp2_with fail
  refine (straight_any _ _ _ _ _ _ _ _ _).mono ?_; rintro e w5 ⟨rfl, hb⟩; rw [show (trn 0 0 4 0 2 0 == 0 && trn 0 0 4 0 2 3 == 0) = false by decide]
  replace f1 := old hb f1; replace f2 := old hb f2; replace f3 := old hb f3; replace f4 := old hb f4; replace f5 := old hb f5; replace f6 := old hb f6; replace f7 := old hb f7; replace f8 := old hb f8
  have B6_ := Lib.hid (B4_.out.trans (hb.mono B4_.out.size)); clear hb
  clear hz1 hz2
  have hz1 : w.heap.size < w5.heap.size := cell_lt f1
  have hz2 : w.heap.size + 1 < w5.heap.size := cell_lt f5
  go_wp2_with fail
  refine (endOn_any _ _ _ _ _ _ _ _ _).mono ?_; rintro e w7 ⟨rfl, hb⟩; rw [show (onB 0 0 2 0 2 3 || onB 4 0 2 0 2 3) = false by decide]
  replace f1 := old hb f1; replace f2 := old hb f2; replace f3 := old hb f3; replace f4 := old hb f4; replace f5 := old hb f5; replace f6 := old hb f6; replace f7 := old hb f7; replace f8 := old hb f8
  have B8_ := Lib.hid (B6_.out.trans (hb.mono B6_.out.size)); clear hb
  clear hz1 hz2
  have hz1 : w.heap.size < w7.heap.size := cell_lt f1
  have hz2 : w.heap.size + 1 < w7.heap.size := cell_lt f5
  go_wp2_with fail
  refine (endOn_any _ _ _ _ _ _ _ _ _).mono ?_; rintro e w9 ⟨rfl, hb⟩; rw [show (onB 2 0 0 0 4 0 || onB 2 3 0 0 4 0) = true by decide]
  replace f1 := old hb f1; replace f2 := old hb f2; replace f3 := old hb f3; replace f4 := old hb f4; replace f5 := old hb f5; replace f6 := old hb f6; replace f7 := old hb f7; replace f8 := old hb f8
  have B10_ := Lib.hid (B8_.out.trans (hb.mono B8_.out.size)); clear hb
  clear hz1 hz2
  have hz1 : w.heap.size < w9.heap.size := cell_lt f1
  have hz2 : w.heap.size + 1 < w9.heap.size := cell_lt f5
  go_wp2_with fail
  go_ret
  exact ⟨rfl, B10_.out⟩
set_option maxRecDepth 100000 in
set_option maxHeartbeats 4000000 in
theorem rel_ex3 (w : World) : Calls Try.prog 25 #[sg 0 0 4 0, sg 2 0 6 0] w fun e w' => e = .returned (.int .i64 3) ∧ Below w.heap.size w w' := by
  go_enter Try.func25, Try.ntmps25
  go_wp2_with fail
  have HSZ := Lib.hid (show ((w.alloc (.cells #[.int .i64 0, .int .i64 0, .int .i64 4, .int .i64 0] 25)).alloc (.cells #[.int .i64 2, .int .i64 0, .int .i64 6, .int .i64 0] 25)).heap.size = w.heap.size + 1 + 1 by simp)
  have I0 : ∀ W, W = (w.alloc (.cells #[.int .i64 0, .int .i64 0, .int .i64 4, .int .i64 0] 25)).alloc (.cells #[.int .i64 2, .int .i64 0, .int .i64 6, .int .i64 0] 25) → (W.cell? ⟨w.heap.size, 0, none⟩ = some (.int .i64 0) ∧ W.cell? ⟨w.heap.size, 1, none⟩ = some (.int .i64 0) ∧ W.cell? ⟨w.heap.size, 2, none⟩ = some (.int .i64 4) ∧ W.cell? ⟨w.heap.size, 3, none⟩ = some (.int .i64 0) ∧ W.cell? ⟨w.heap.size + 1, 0, none⟩ = some (.int .i64 2) ∧ W.cell? ⟨w.heap.size + 1, 1, none⟩ = some (.int .i64 0) ∧ W.cell? ⟨w.heap.size + 1, 2, none⟩ = some (.int .i64 6) ∧ W.cell? ⟨w.heap.size + 1, 3, none⟩ = some (.int .i64 0)) ∧ Below w.heap.size w W := by
    intro W e; subst e
    refine ⟨⟨by go_simp, by go_simp, by go_simp, by go_simp, by go_simp, by go_simp, by go_simp, by go_simp⟩, ?_⟩
    (repeat (first | exact Below.refl _ _ | (refine Below.alloc ?_ (by first | omega | (simp <;> omega)) _)))
  have J0 := I0 _ rfl; clear I0
  generalize (w.alloc (.cells #[.int .i64 0, .int .i64 0, .int .i64 4, .int .i64 0] 25)).alloc (.cells #[.int .i64 2, .int .i64 0, .int .i64 6, .int .i64 0] 25) = W0 at J0 HSZ ⊢
  obtain ⟨⟨f1, f2, f3, f4, f5, f6, f7, f8⟩, bb0⟩ := J0
  have B0 := Lib.hid bb0; clear bb0
  refine (all_any _ _ _ [(0, 0), (4, 0), (2, 0), (6, 0)] _ (pts4 _ _ _ _ _ _ _ _ _ _ _ HSZ.out) (by omega)).mono ?_; rintro e' w1 ⟨rfl, hb'⟩; rw [show allV [(0, 0), (4, 0), (2, 0), (6, 0)] = true by decide]
  have hb := ((Below.refl _ _).alloc (Nat.le_refl _) _).trans (hb'.mono (by simp)); clear hb' HSZ
  replace f1 := old hb f1; replace f2 := old hb f2; replace f3 := old hb f3; replace f4 := old hb f4; replace f5 := old hb f5; replace f6 := old hb f6; replace f7 := old hb f7; replace f8 := old hb f8
  have B2_ := Lib.hid (B0.out.trans (hb.mono B0.out.size)); clear hb
  have hz1 : w.heap.size < w1.heap.size := cell_lt f1
  have hz2 : w.heap.size + 1 < w1.heap.size := cell_lt f5
  go_wp2_with fail
  refine (splits_any _ _ _ _ _ _ _ _ _).mono ?_; rintro e w3 ⟨rfl, hb⟩; rw [show splB (trn 0 0 4 0 2 0) (trn 0 0 4 0 6 0) = false by decide]
  replace f1 := old hb f1; replace f2 := old hb f2; replace f3 := old hb f3; replace f4 := old hb f4; replace f5 := old hb f5; replace f6 := old hb f6; replace f7 := old hb f7; replace f8 := old hb f8
  have B4_ := Lib.hid (B2_.out.trans (hb.mono B2_.out.size)); clear hb
  clear hz1 hz2
  have hz1 : w.heap.size < w3.heap.size := cell_lt f1
  have hz2 : w.heap.size + 1 < w3.heap.size := cell_lt f5
  go_wp2_with fail
  refine (straight_any _ _ _ _ _ _ _ _ _).mono ?_; rintro e w5 ⟨rfl, hb⟩; rw [show (trn 0 0 4 0 2 0 == 0 && trn 0 0 4 0 6 0 == 0) = true by decide]
  replace f1 := old hb f1; replace f2 := old hb f2; replace f3 := old hb f3; replace f4 := old hb f4; replace f5 := old hb f5; replace f6 := old hb f6; replace f7 := old hb f7; replace f8 := old hb f8
  have B6_ := Lib.hid (B4_.out.trans (hb.mono B4_.out.size)); clear hb
  clear hz1 hz2
  have hz1 : w.heap.size < w5.heap.size := cell_lt f1
  have hz2 : w.heap.size + 1 < w5.heap.size := cell_lt f5
  go_wp2_with fail
  refine (share_ex _).mono ?_; rintro e w7 ⟨rfl, hb⟩
  replace f1 := old hb f1; replace f2 := old hb f2; replace f3 := old hb f3; replace f4 := old hb f4; replace f5 := old hb f5; replace f6 := old hb f6; replace f7 := old hb f7; replace f8 := old hb f8
  have B8_ := Lib.hid (B6_.out.trans (hb.mono B6_.out.size)); clear hb
  clear hz1 hz2
  have hz1 : w.heap.size < w7.heap.size := cell_lt f1
  have hz2 : w.heap.size + 1 < w7.heap.size := cell_lt f5
  go_wp2_with fail
  go_ret
  exact ⟨rfl, B8_.out⟩
theorem lv_far : farQ 2 3 0 0 4 0 = (144, 16) := by decide
theorem lv_turn : trn 0 0 4 0 1 2 = 8 := by decide
theorem lv_nr : nrZ 144 16 9 1 = 0 := by decide +kernel
set_option maxRecDepth 100000 in
set_option maxHeartbeats 4000000 in
theorem lives_any (w : World) : Calls Try.prog 24 #[] w fun e w' => e = .returned (.bool true) ∧ Below w.heap.size w w' := by
  have B0 := Lib.hid (Below.refl w.heap.size w)
  go_enter Try.func24, Try.ntmps24
  go_wp2_with fail
  refine (at_any _ _ _).mono ?_; rintro e w0 ⟨rfl, hb⟩
  have B1_ := Lib.hid (B0.out.trans (hb.mono B0.out.size)); clear hb
  go_wp2_with fail
  refine (at_any _ _ _).mono ?_; rintro e w2 ⟨rfl, hb⟩
  have B3_ := Lib.hid (B1_.out.trans (hb.mono B1_.out.size)); clear hb
  go_wp2_with fail
  refine (at_any _ _ _).mono ?_; rintro e w4 ⟨rfl, hb⟩
  have B5_ := Lib.hid (B3_.out.trans (hb.mono B3_.out.size)); clear hb
  go_wp2_with fail
  refine (at_any _ _ _).mono ?_; rintro e w6 ⟨rfl, hb⟩
  have B7_ := Lib.hid (B5_.out.trans (hb.mono B5_.out.size)); clear hb
  go_wp2_with fail
  refine (rel_ex1 _).mono ?_; rintro e w8 ⟨rfl, hb⟩
  have B9_ := Lib.hid (B7_.out.trans (hb.mono B7_.out.size)); clear hb
  go_wp2_with fail
  refine (at_any _ _ _).mono ?_; rintro e w10 ⟨rfl, hb⟩
  have B11_ := Lib.hid (B9_.out.trans (hb.mono B9_.out.size)); clear hb
  go_wp2_with fail
  refine (at_any _ _ _).mono ?_; rintro e w12 ⟨rfl, hb⟩
  have B13_ := Lib.hid (B11_.out.trans (hb.mono B11_.out.size)); clear hb
  go_wp2_with fail
  refine (at_any _ _ _).mono ?_; rintro e w14 ⟨rfl, hb⟩
  have B15_ := Lib.hid (B13_.out.trans (hb.mono B13_.out.size)); clear hb
  go_wp2_with fail
  refine (at_any _ _ _).mono ?_; rintro e w16 ⟨rfl, hb⟩
  have B17_ := Lib.hid (B15_.out.trans (hb.mono B15_.out.size)); clear hb
  go_wp2_with fail
  refine (rel_ex2 _).mono ?_; rintro e w18 ⟨rfl, hb⟩
  have B19_ := Lib.hid (B17_.out.trans (hb.mono B17_.out.size)); clear hb
  go_wp2_with fail
  refine (at_any _ _ _).mono ?_; rintro e w20 ⟨rfl, hb⟩
  have B21_ := Lib.hid (B19_.out.trans (hb.mono B19_.out.size)); clear hb
  go_wp2_with fail
  refine (at_any _ _ _).mono ?_; rintro e w22 ⟨rfl, hb⟩
  have B23_ := Lib.hid (B21_.out.trans (hb.mono B21_.out.size)); clear hb
  go_wp2_with fail
  refine (at_any _ _ _).mono ?_; rintro e w24 ⟨rfl, hb⟩
  have B25_ := Lib.hid (B23_.out.trans (hb.mono B23_.out.size)); clear hb
  go_wp2_with fail
  refine (at_any _ _ _).mono ?_; rintro e w26 ⟨rfl, hb⟩
  have B27_ := Lib.hid (B25_.out.trans (hb.mono B25_.out.size)); clear hb
  go_wp2_with fail
  refine (rel_ex3 _).mono ?_; rintro e w28 ⟨rfl, hb⟩
  have B29_ := Lib.hid (B27_.out.trans (hb.mono B27_.out.size)); clear hb
  go_wp2_with fail
  refine (at_any _ _ _).mono ?_; rintro e w30 ⟨rfl, hb⟩
  have B31_ := Lib.hid (B29_.out.trans (hb.mono B29_.out.size)); clear hb
  go_wp2_with fail
  refine (at_any _ _ _).mono ?_; rintro e w32 ⟨rfl, hb⟩
  have B33_ := Lib.hid (B31_.out.trans (hb.mono B31_.out.size)); clear hb
  go_wp2_with fail
  refine (at_any _ _ _).mono ?_; rintro e w34 ⟨rfl, hb⟩
  have B35_ := Lib.hid (B33_.out.trans (hb.mono B33_.out.size)); clear hb
  go_wp2_with fail
  refine (far_any _ _ _ _ _ _ _).mono ?_; rintro e w36 ⟨rfl, hb⟩; rw [lv_far]
  have B37_ := Lib.hid (B35_.out.trans (hb.mono B35_.out.size)); clear hb
  go_wp2_with fail
  refine (at_any _ _ _).mono ?_; rintro e w38 ⟨rfl, hb⟩
  have B39_ := Lib.hid (B37_.out.trans (hb.mono B37_.out.size)); clear hb
  go_wp2_with fail
  refine (at_any _ _ _).mono ?_; rintro e w40 ⟨rfl, hb⟩
  have B41_ := Lib.hid (B39_.out.trans (hb.mono B39_.out.size)); clear hb
  go_wp2_with fail
  refine (at_any _ _ _).mono ?_; rintro e w42 ⟨rfl, hb⟩
  have B43_ := Lib.hid (B41_.out.trans (hb.mono B41_.out.size)); clear hb
  go_wp2_with fail
  refine (turn_any _ _ _ _ _ _ _).mono ?_; rintro e w44 ⟨rfl, hb⟩; rw [lv_turn]
  have B45_ := Lib.hid (B43_.out.trans (hb.mono B43_.out.size)); clear hb
  go_wp2_with fail
  refine (nr_any _ _ _ _ _ (by constructor <;> omega) (by constructor <;> omega) (by constructor <;> omega) (by constructor <;> omega)).mono ?_; rintro e w46 ⟨rfl, hb⟩; rw [lv_nr]
  have B47_ := Lib.hid (B45_.out.trans (hb.mono B45_.out.size)); clear hb
  go_wp2_with fail
  go_ret
  exact ⟨rfl, B47_.out⟩
end Go.Proofs.Ytfabfnjfnildhaa
