/- GridMeets, the good boxes. -/
import Derived.Test.YtahaigamigkhbaaWn
namespace Go.Proofs.Ytahaigamigkhbaa
open Go.ChangeShapes Go.WideShapes Go.ChangeAt Go.RowKit Go.Joins Go.Deep

theorem start14 {w wj : World} {a b c d e f g h x y j1 j2 j3 j4 : Int} (H : Below w.heap.size w wj ∧ wj.cell? ⟨w.heap.size, 0, none⟩ = some (.int .i64 a) ∧ wj.cell? ⟨w.heap.size, 1, none⟩ = some (.int .i64 b) ∧ wj.cell? ⟨w.heap.size, 2, none⟩ = some (.int .i64 c) ∧ wj.cell? ⟨w.heap.size, 3, none⟩ = some (.int .i64 d) ∧ wj.cell? ⟨w.heap.size + 1, 0, none⟩ = some (.int .i64 e) ∧ wj.cell? ⟨w.heap.size + 1, 1, none⟩ = some (.int .i64 f) ∧ wj.cell? ⟨w.heap.size + 1, 2, none⟩ = some (.int .i64 g) ∧ wj.cell? ⟨w.heap.size + 1, 3, none⟩ = some (.int .i64 h) ∧ wj.cell? ⟨w.heap.size + 1 + 1, 0, none⟩ = some (.int .i64 x) ∧ wj.cell? ⟨w.heap.size + 1 + 1, 1, none⟩ = some (.int .i64 y)) (W : World) (hW : W = (wj.alloc (.cells #[.int .i64 j1, .int .i64 j2, .int .i64 j3, .int .i64 j4] 40)).drew) :
    Below w.heap.size w W ∧ W.cell? ⟨w.heap.size, 0, none⟩ = some (.int .i64 a) ∧ W.cell? ⟨w.heap.size, 1, none⟩ = some (.int .i64 b) ∧ W.cell? ⟨w.heap.size, 2, none⟩ = some (.int .i64 c) ∧ W.cell? ⟨w.heap.size, 3, none⟩ = some (.int .i64 d) ∧ W.cell? ⟨w.heap.size + 1, 0, none⟩ = some (.int .i64 e) ∧ W.cell? ⟨w.heap.size + 1, 1, none⟩ = some (.int .i64 f) ∧ W.cell? ⟨w.heap.size + 1, 2, none⟩ = some (.int .i64 g) ∧ W.cell? ⟨w.heap.size + 1, 3, none⟩ = some (.int .i64 h) ∧ W.cell? ⟨w.heap.size + 1 + 1, 0, none⟩ = some (.int .i64 x) ∧ W.cell? ⟨w.heap.size + 1 + 1, 1, none⟩ = some (.int .i64 y) ∧ W.cell? ⟨wj.heap.size, 0, none⟩ = some (.int .i64 j1) ∧ W.cell? ⟨wj.heap.size, 1, none⟩ = some (.int .i64 j2) ∧ W.cell? ⟨wj.heap.size, 2, none⟩ = some (.int .i64 j3) ∧ W.cell? ⟨wj.heap.size, 3, none⟩ = some (.int .i64 j4) := by
  subst hW
  obtain ⟨B, u1, u2, u3, u4, u5, u6, u7, u8, u9, u10⟩ := H
  exact ⟨(B.alloc B.size _).drew, old_alloc u1, old_alloc u2, old_alloc u3, old_alloc u4, old_alloc u5, old_alloc u6, old_alloc u7, old_alloc u8, old_alloc u9, old_alloc u10, by go_simp, by go_simp, by go_simp, by go_simp⟩

set_option maxRecDepth 100000 in
set_option maxHeartbeats 32000000 in
theorem meets_yes (a b c d e f g h x y : Int) (w : World) (ga : goodB a b c d = true) (gb : goodB e f g h = true) (hv : vldB x y = true) :
    Calls Try.prog 7 #[bx a b c d, bx e f g h, pt x y] w fun e w' => e = .returned (.bool true) ∧ Below w.heap.size w w' := by
  have T := trio ga gb hv
  have G1 := Lib.hid (chk_yes ga); have G2 := Lib.hid (chk_yes gb); have V := Lib.hid hv
  have HJ : jbx a b c d e f g h = bx (minZ a e) (minZ b f) (maxZ c g) (maxZ d h) := bx_eq (jn_y (gg_mk ga gb)) (jn_y (gg_mk ga gb)) (jn_y (gg_mk ga gb)) (jn_y (gg_mk ga gb))
  clear ga gb hv
  obtain ⟨j1, q⟩ : ∃ z, minZ a e = z := ⟨_, rfl⟩
  rw [q] at T HJ; clear q
  obtain ⟨j2, q⟩ : ∃ z, minZ b f = z := ⟨_, rfl⟩
  rw [q] at T HJ; clear q
  obtain ⟨j3, q⟩ : ∃ z, maxZ c g = z := ⟨_, rfl⟩
  rw [q] at T HJ; clear q
  obtain ⟨j4, q⟩ : ∃ z, maxZ d h = z := ⟨_, rfl⟩
  rw [q] at T HJ; clear q
  have J := Lib.hid HJ; clear HJ
  obtain ⟨t1, t2, t3, t4, t5, t6, t7, t8, t9, t10⟩ := T
  obtain ⟨m, q⟩ : ∃ z, mtB a b c d e f g h = z := ⟨_, rfl⟩
  rw [q] at t1 t6; have M1 := Lib.hid q; have M2 := Lib.hid t1; have M3 := Lib.hid t2; clear q t1 t2
  have J1 := Lib.hid t3; have J2 := Lib.hid t4; have J3 := Lib.hid t5; clear t3 t4 t5
  obtain ⟨dA, q⟩ : ∃ z, ds a b c d x y = z := ⟨_, rfl⟩
  rw [q] at t8 t9 t10; have DA := Lib.hid q; clear q
  obtain ⟨dJ, q⟩ : ∃ z, ds j1 j2 j3 j4 x y = z := ⟨_, rfl⟩
  rw [q] at t9; have DJ := Lib.hid q; clear q
  obtain ⟨hA, q⟩ : ∃ z, hdB a b c d x y = z := ⟨_, rfl⟩
  rw [q] at t6 t7 t8; have HA := Lib.hid q; clear q
  obtain ⟨hB, q⟩ : ∃ z, hdB e f g h x y = z := ⟨_, rfl⟩
  rw [q] at t6; have HBB := Lib.hid q; clear q
  obtain ⟨hJ, q⟩ : ∃ z, hdB j1 j2 j3 j4 x y = z := ⟨_, rfl⟩
  rw [q] at t7; have HJJ := Lib.hid q; clear q
  have T6 := Lib.hid t6; have T7 := Lib.hid t7; have T8 := Lib.hid t8; clear t6 t7 t8
  go_enter Try.func7, Try.ntmps7
  go_wp2_with fail
  refine (check_any _ _ _ _ _).mono ?_; rintro en w1 ⟨rfl, hb⟩; rw [G1.out]
  have F1 := Lib.hid (start10 w w1 a b c d e f g h x y hb); clear hb
  obtain ⟨_, u1, u2, u3, u4, u5, u6, u7, u8, u9, u10⟩ := F1.out
  go_wp2_with fail
  refine (check_any _ _ _ _ _).mono ?_; rintro en w2 ⟨rfl, hb⟩; rw [G2.out]
  have F2 := Lib.hid (keep10 F1.out hb); clear hb F1 u1 u2 u3 u4 u5 u6 u7 u8 u9 u10
  obtain ⟨_, u1, u2, u3, u4, u5, u6, u7, u8, u9, u10⟩ := F2.out
  go_wp2_with fail
  refine (valid_any _ _ _).mono ?_; rintro en w3 ⟨rfl, hb⟩; rw [V.out]
  have F3 := Lib.hid (keep10 F2.out hb); clear hb F2 u1 u2 u3 u4 u5 u6 u7 u8 u9 u10
  obtain ⟨_, u1, u2, u3, u4, u5, u6, u7, u8, u9, u10⟩ := F3.out
  go_wp2_with fail
  refine (join_any _ _ _ _ _ _ _ _ _).mono ?_; rintro en wj ⟨rfl, hb⟩; rw [J.out]
  have F4 := Lib.hid (keep10 F3.out hb); clear hb F3 u1 u2 u3 u4 u5 u6 u7 u8 u9 u10
  have F5 := Lib.hid (start14 (j1 := j1) (j2 := j2) (j3 := j3) (j4 := j4) F4.out _ rfl); clear F4
  go_wp2_with fail
  go_region_held3 (fun w' => Below w.heap.size w w' ∧ w'.cell? ⟨w.heap.size, 0, none⟩ = some (.int .i64 a) ∧ w'.cell? ⟨w.heap.size, 1, none⟩ = some (.int .i64 b) ∧ w'.cell? ⟨w.heap.size, 2, none⟩ = some (.int .i64 c) ∧ w'.cell? ⟨w.heap.size, 3, none⟩ = some (.int .i64 d) ∧ w'.cell? ⟨w.heap.size + 1, 0, none⟩ = some (.int .i64 e) ∧ w'.cell? ⟨w.heap.size + 1, 1, none⟩ = some (.int .i64 f) ∧ w'.cell? ⟨w.heap.size + 1, 2, none⟩ = some (.int .i64 g) ∧ w'.cell? ⟨w.heap.size + 1, 3, none⟩ = some (.int .i64 h) ∧ w'.cell? ⟨w.heap.size + 1 + 1, 0, none⟩ = some (.int .i64 x) ∧ w'.cell? ⟨w.heap.size + 1 + 1, 1, none⟩ = some (.int .i64 y) ∧ w'.cell? ⟨wj.heap.size, 0, none⟩ = some (.int .i64 j1) ∧ w'.cell? ⟨wj.heap.size, 1, none⟩ = some (.int .i64 j2) ∧ w'.cell? ⟨wj.heap.size, 2, none⟩ = some (.int .i64 j3) ∧ w'.cell? ⟨wj.heap.size, 3, none⟩ = some (.int .i64 j4))
    (first | exact F5.out | assumption | exact keep14 (by assumption) (by assumption))
    (first
      | (go_at_call 21; (with_reducible refine (meets_any _ _ _ _ _ _ _ _ _).mono ?_); rintro en wx ⟨rfl, bb⟩; first | rw [M1.out] | rw [M2.out] | rw [M3.out])
      | (go_at_call 19; (with_reducible refine (join_any _ _ _ _ _ _ _ _ _).mono ?_); rintro en wx ⟨rfl, bb⟩; first | rw [J1.out] | rw [J2.out] | rw [J3.out]))
  rename_i hS
  have F6 := Lib.hid hS; clear hS F5
  cases hA
  · have t8 := T8.out
    obtain ⟨_, u1, u2, u3, u4, u5, u6, u7, u8, u9, u10, u11, u12, u13, u14⟩ := F6.out
    go_wp2_with fail
    refine (holds_any _ _ _ _ _ _ _).mono ?_; rintro en w7 ⟨rfl, hb⟩; rw [HA.out]
    have F7 := Lib.hid (keep14 F6.out hb); clear hb F6 u1 u2 u3 u4 u5 u6 u7 u8 u9 u10 u11 u12 u13 u14
    obtain ⟨_, u1, u2, u3, u4, u5, u6, u7, u8, u9, u10, u11, u12, u13, u14⟩ := F7.out
    go_wp2_with fail
    refine (holds_any _ _ _ _ _ _ _).mono ?_; rintro en w8 ⟨rfl, hb⟩; rw [HA.out]
    have F8 := Lib.hid (keep14 F7.out hb); clear hb F7 u1 u2 u3 u4 u5 u6 u7 u8 u9 u10 u11 u12 u13 u14
    obtain ⟨_, u1, u2, u3, u4, u5, u6, u7, u8, u9, u10, u11, u12, u13, u14⟩ := F8.out
    go_wp2_with fail
    clear u1 u2 u3 u4 u5 u6 u7 u8 u9 u10 u11 u12 u13 u14
    go_region_held3 (fun w' => Below w.heap.size w w' ∧ w'.cell? ⟨w.heap.size, 0, none⟩ = some (.int .i64 a) ∧ w'.cell? ⟨w.heap.size, 1, none⟩ = some (.int .i64 b) ∧ w'.cell? ⟨w.heap.size, 2, none⟩ = some (.int .i64 c) ∧ w'.cell? ⟨w.heap.size, 3, none⟩ = some (.int .i64 d) ∧ w'.cell? ⟨w.heap.size + 1, 0, none⟩ = some (.int .i64 e) ∧ w'.cell? ⟨w.heap.size + 1, 1, none⟩ = some (.int .i64 f) ∧ w'.cell? ⟨w.heap.size + 1, 2, none⟩ = some (.int .i64 g) ∧ w'.cell? ⟨w.heap.size + 1, 3, none⟩ = some (.int .i64 h) ∧ w'.cell? ⟨w.heap.size + 1 + 1, 0, none⟩ = some (.int .i64 x) ∧ w'.cell? ⟨w.heap.size + 1 + 1, 1, none⟩ = some (.int .i64 y) ∧ w'.cell? ⟨wj.heap.size, 0, none⟩ = some (.int .i64 j1) ∧ w'.cell? ⟨wj.heap.size, 1, none⟩ = some (.int .i64 j2) ∧ w'.cell? ⟨wj.heap.size, 2, none⟩ = some (.int .i64 j3) ∧ w'.cell? ⟨wj.heap.size, 3, none⟩ = some (.int .i64 j4))
      (first | exact ⟨F8.out.1.drew, F8.out.2⟩ | assumption | exact keep14 (by assumption) (by assumption))
      (first
        | (go_at_call 27; (with_reducible refine (dist_any _ _ _ _ _ _ _).mono ?_); rintro en wx ⟨rfl, bb⟩; first | rw [DA.out] | rw [DJ.out])
        | (go_at_call 25; (with_reducible refine (holds_any _ _ _ _ _ _ _).mono ?_); rintro en wx ⟨rfl, bb⟩; rw [HA.out])
        | (go_at_call 14; (with_reducible refine (lives_any _).mono ?_); rintro en wx ⟨rfl, bb⟩))
    all_goals go_wp2
    all_goals go_ret
    all_goals exact ⟨rfl, bel_of (by assumption)⟩
  · have hj := T7.out rfl
    subst hj
    have t8 := T8.out
    cases hB
    · obtain ⟨_, u1, u2, u3, u4, u5, u6, u7, u8, u9, u10, u11, u12, u13, u14⟩ := F6.out
      go_wp2_with fail
      refine (holds_any _ _ _ _ _ _ _).mono ?_; rintro en w7 ⟨rfl, hb⟩; rw [HA.out]
      have F7 := Lib.hid (keep14 F6.out hb); clear hb F6 u1 u2 u3 u4 u5 u6 u7 u8 u9 u10 u11 u12 u13 u14
      obtain ⟨_, u1, u2, u3, u4, u5, u6, u7, u8, u9, u10, u11, u12, u13, u14⟩ := F7.out
      go_wp2_with fail
      refine (holds_any _ _ _ _ _ _ _).mono ?_; rintro en w8 ⟨rfl, hb⟩; rw [HBB.out]
      have F8 := Lib.hid (keep14 F7.out hb); clear hb F7 u1 u2 u3 u4 u5 u6 u7 u8 u9 u10 u11 u12 u13 u14
      obtain ⟨_, u1, u2, u3, u4, u5, u6, u7, u8, u9, u10, u11, u12, u13, u14⟩ := F8.out
      go_wp2_with fail
      refine (holds_any _ _ _ _ _ _ _).mono ?_; rintro en w9 ⟨rfl, hb⟩; rw [HA.out]
      have F9 := Lib.hid (keep14 F8.out hb); clear hb F8 u1 u2 u3 u4 u5 u6 u7 u8 u9 u10 u11 u12 u13 u14
      obtain ⟨_, u1, u2, u3, u4, u5, u6, u7, u8, u9, u10, u11, u12, u13, u14⟩ := F9.out
      go_wp2_with fail
      refine (holds_any _ _ _ _ _ _ _).mono ?_; rintro en w10 ⟨rfl, hb⟩; rw [HJJ.out]
      have F10 := Lib.hid (keep14 F9.out hb); clear hb F9 u1 u2 u3 u4 u5 u6 u7 u8 u9 u10 u11 u12 u13 u14
      obtain ⟨_, u1, u2, u3, u4, u5, u6, u7, u8, u9, u10, u11, u12, u13, u14⟩ := F10.out
      go_wp2_with fail
      clear u1 u2 u3 u4 u5 u6 u7 u8 u9 u10 u11 u12 u13 u14
      go_region_held3 (fun w' => Below w.heap.size w w' ∧ w'.cell? ⟨w.heap.size, 0, none⟩ = some (.int .i64 a) ∧ w'.cell? ⟨w.heap.size, 1, none⟩ = some (.int .i64 b) ∧ w'.cell? ⟨w.heap.size, 2, none⟩ = some (.int .i64 c) ∧ w'.cell? ⟨w.heap.size, 3, none⟩ = some (.int .i64 d) ∧ w'.cell? ⟨w.heap.size + 1, 0, none⟩ = some (.int .i64 e) ∧ w'.cell? ⟨w.heap.size + 1, 1, none⟩ = some (.int .i64 f) ∧ w'.cell? ⟨w.heap.size + 1, 2, none⟩ = some (.int .i64 g) ∧ w'.cell? ⟨w.heap.size + 1, 3, none⟩ = some (.int .i64 h) ∧ w'.cell? ⟨w.heap.size + 1 + 1, 0, none⟩ = some (.int .i64 x) ∧ w'.cell? ⟨w.heap.size + 1 + 1, 1, none⟩ = some (.int .i64 y) ∧ w'.cell? ⟨wj.heap.size, 0, none⟩ = some (.int .i64 j1) ∧ w'.cell? ⟨wj.heap.size, 1, none⟩ = some (.int .i64 j2) ∧ w'.cell? ⟨wj.heap.size, 2, none⟩ = some (.int .i64 j3) ∧ w'.cell? ⟨wj.heap.size, 3, none⟩ = some (.int .i64 j4))
        (first | exact ⟨F10.out.1.drew, F10.out.2⟩ | assumption | exact keep14 (by assumption) (by assumption))
        (first
          | (go_at_call 27; (with_reducible refine (dist_any _ _ _ _ _ _ _).mono ?_); rintro en wx ⟨rfl, bb⟩; first | rw [DA.out] | rw [DJ.out])
          | (go_at_call 25; (with_reducible refine (holds_any _ _ _ _ _ _ _).mono ?_); rintro en wx ⟨rfl, bb⟩; rw [HA.out])
          | (go_at_call 14; (with_reducible refine (lives_any _).mono ?_); rintro en wx ⟨rfl, bb⟩))
      all_goals go_wp2
      all_goals go_ret
      all_goals exact ⟨rfl, bel_of (by assumption)⟩
    · have hm := T6.out rfl rfl
      subst hm
      obtain ⟨_, u1, u2, u3, u4, u5, u6, u7, u8, u9, u10, u11, u12, u13, u14⟩ := F6.out
      go_wp2_with fail
      refine (holds_any _ _ _ _ _ _ _).mono ?_; rintro en w7 ⟨rfl, hb⟩; rw [HA.out]
      have F7 := Lib.hid (keep14 F6.out hb); clear hb F6 u1 u2 u3 u4 u5 u6 u7 u8 u9 u10 u11 u12 u13 u14
      obtain ⟨_, u1, u2, u3, u4, u5, u6, u7, u8, u9, u10, u11, u12, u13, u14⟩ := F7.out
      go_wp2_with fail
      refine (holds_any _ _ _ _ _ _ _).mono ?_; rintro en w8 ⟨rfl, hb⟩; rw [HBB.out]
      have F8 := Lib.hid (keep14 F7.out hb); clear hb F7 u1 u2 u3 u4 u5 u6 u7 u8 u9 u10 u11 u12 u13 u14
      obtain ⟨_, u1, u2, u3, u4, u5, u6, u7, u8, u9, u10, u11, u12, u13, u14⟩ := F8.out
      go_wp2_with fail
      refine (meets_any _ _ _ _ _ _ _ _ _).mono ?_; rintro en w9 ⟨rfl, hb⟩; rw [M1.out]
      have F9 := Lib.hid (keep14 F8.out hb); clear hb F8 u1 u2 u3 u4 u5 u6 u7 u8 u9 u10 u11 u12 u13 u14
      obtain ⟨_, u1, u2, u3, u4, u5, u6, u7, u8, u9, u10, u11, u12, u13, u14⟩ := F9.out
      go_wp2_with fail
      refine (holds_any _ _ _ _ _ _ _).mono ?_; rintro en w10 ⟨rfl, hb⟩; rw [HA.out]
      have F10 := Lib.hid (keep14 F9.out hb); clear hb F9 u1 u2 u3 u4 u5 u6 u7 u8 u9 u10 u11 u12 u13 u14
      obtain ⟨_, u1, u2, u3, u4, u5, u6, u7, u8, u9, u10, u11, u12, u13, u14⟩ := F10.out
      go_wp2_with fail
      refine (holds_any _ _ _ _ _ _ _).mono ?_; rintro en w11 ⟨rfl, hb⟩; rw [HJJ.out]
      have F11 := Lib.hid (keep14 F10.out hb); clear hb F10 u1 u2 u3 u4 u5 u6 u7 u8 u9 u10 u11 u12 u13 u14
      obtain ⟨_, u1, u2, u3, u4, u5, u6, u7, u8, u9, u10, u11, u12, u13, u14⟩ := F11.out
      go_wp2_with fail
      clear u1 u2 u3 u4 u5 u6 u7 u8 u9 u10 u11 u12 u13 u14
      go_region_held3 (fun w' => Below w.heap.size w w' ∧ w'.cell? ⟨w.heap.size, 0, none⟩ = some (.int .i64 a) ∧ w'.cell? ⟨w.heap.size, 1, none⟩ = some (.int .i64 b) ∧ w'.cell? ⟨w.heap.size, 2, none⟩ = some (.int .i64 c) ∧ w'.cell? ⟨w.heap.size, 3, none⟩ = some (.int .i64 d) ∧ w'.cell? ⟨w.heap.size + 1, 0, none⟩ = some (.int .i64 e) ∧ w'.cell? ⟨w.heap.size + 1, 1, none⟩ = some (.int .i64 f) ∧ w'.cell? ⟨w.heap.size + 1, 2, none⟩ = some (.int .i64 g) ∧ w'.cell? ⟨w.heap.size + 1, 3, none⟩ = some (.int .i64 h) ∧ w'.cell? ⟨w.heap.size + 1 + 1, 0, none⟩ = some (.int .i64 x) ∧ w'.cell? ⟨w.heap.size + 1 + 1, 1, none⟩ = some (.int .i64 y) ∧ w'.cell? ⟨wj.heap.size, 0, none⟩ = some (.int .i64 j1) ∧ w'.cell? ⟨wj.heap.size, 1, none⟩ = some (.int .i64 j2) ∧ w'.cell? ⟨wj.heap.size, 2, none⟩ = some (.int .i64 j3) ∧ w'.cell? ⟨wj.heap.size, 3, none⟩ = some (.int .i64 j4))
        (first | exact ⟨F11.out.1.drew, F11.out.2⟩ | assumption | exact keep14 (by assumption) (by assumption))
        (first
          | (go_at_call 27; (with_reducible refine (dist_any _ _ _ _ _ _ _).mono ?_); rintro en wx ⟨rfl, bb⟩; first | rw [DA.out] | rw [DJ.out])
          | (go_at_call 25; (with_reducible refine (holds_any _ _ _ _ _ _ _).mono ?_); rintro en wx ⟨rfl, bb⟩; rw [HA.out])
          | (go_at_call 14; (with_reducible refine (lives_any _).mono ?_); rintro en wx ⟨rfl, bb⟩))
      all_goals go_wp2
      all_goals go_ret
      all_goals exact ⟨rfl, bel_of (by assumption)⟩

theorem gridMeets_walk (va vb vp : Value) (w : World) (ha : ∃ a b c d, va = bx a b c d) (hb : ∃ a b c d, vb = bx a b c d) (hp : ∃ x y, vp = pt x y) :
    Calls Try.prog 7 #[va, vb, vp] w fun e w' => e = .returned (.bool true) ∧ Below w.heap.size w w' := by
  obtain ⟨a, b, c, d, rfl⟩ := ha
  obtain ⟨e, f, g, h, rfl⟩ := hb
  obtain ⟨x, y, rfl⟩ := hp
  cases ga : goodB a b c d
  · exact meets_not _ _ _ _ _ _ _ _ _ _ w (Or.inl ga)
  · cases gb : goodB e f g h
    · exact meets_not _ _ _ _ _ _ _ _ _ _ w (Or.inr (Or.inl gb))
    · cases hv : vldB x y
      · exact meets_not _ _ _ _ _ _ _ _ _ _ w (Or.inr (Or.inr hv))
      · exact meets_yes _ _ _ _ _ _ _ _ _ _ w ga gb hv
end Go.Proofs.Ytahaigamigkhbaa
