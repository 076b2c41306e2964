/- GridMeets. -/
import Derived.Test.YtahaigamigkhbaaWm
namespace Go.Proofs.Ytahaigamigkhbaa
open Go.ChangeShapes Go.WideShapes Go.ChangeAt Go.RowKit Go.Joins Go.Deep

theorem gg_symm (a b c d e f g h : Int) : gg a b c d e f g h = gg e f g h a b c d := by unfold gg; exact Bool.and_comm _ _
theorem mt_symm (a b c d e f g h : Int) : mtB a b c d e f g h = mtB e f g h a b c d := by
  unfold mtB; rw [gg_symm]; congr 1; rw [decide_eq_decide]; omega
/- two good boxes, a grid point, and the box that joins them -/
def Trio (a b c d e f g h x y j1 j2 j3 j4 : Int) : Prop :=
  mtB e f g h a b c d = mtB a b c d e f g h ∧ mtB a b c d j1 j2 j3 j4 = true ∧ jbx a b c d j1 j2 j3 j4 = bx j1 j2 j3 j4 ∧ jbx e f g h j1 j2 j3 j4 = bx j1 j2 j3 j4 ∧ jbx e f g h a b c d = bx j1 j2 j3 j4 ∧
  (hdB a b c d x y = true → hdB e f g h x y = true → mtB a b c d e f g h = true) ∧ (hdB a b c d x y = true → hdB j1 j2 j3 j4 x y = true) ∧
  (ds a b c d x y == 0) = hdB a b c d x y ∧ ds j1 j2 j3 j4 x y ≤ ds a b c d x y ∧ 0 ≤ ds a b c d x y
theorem min_le_l (a b : Int) : minZ a b ≤ a := by unfold minZ; split <;> omega
theorem min_le_r (a b : Int) : minZ a b ≤ b := by unfold minZ; split <;> omega
theorem max_ge_l (a b : Int) : a ≤ maxZ a b := by unfold maxZ; split <;> omega
theorem max_ge_r (a b : Int) : b ≤ maxZ a b := by unfold maxZ; split <;> omega
theorem min_self_l {a b : Int} (h : b ≤ a) : minZ a b = b := by unfold minZ; split <;> omega
theorem max_self_l {a b : Int} (h : a ≤ b) : maxZ a b = b := by unfold maxZ; split <;> omega
theorem min_comm (a b : Int) : minZ a b = minZ b a := by unfold minZ; split <;> split <;> omega
theorem max_comm (a b : Int) : maxZ a b = maxZ b a := by unfold maxZ; split <;> split <;> omega
theorem bx_eq {a b c d x y z u : Int} (h1 : a = x) (h2 : b = y) (h3 : c = z) (h4 : d = u) : bx a b c d = bx x y z u := by rw [h1, h2, h3, h4]
theorem sq_zero {x a c : Int} : sq x (clampZ x a c) = 0 ↔ clampZ x a c = x := by
  unfold sq
  constructor
  · intro h
    rcases Int.mul_eq_zero.1 h with h | h <;> omega
  · intro h; rw [h]; simp
theorem sq_nn (x p : Int) : 0 ≤ sq x p := by
  unfold sq
  rcases Int.le_total 0 (x - p) with h | h
  · exact Int.mul_nonneg h h
  · have : (x - p) * (x - p) = (-(x - p)) * (-(x - p)) := by rw [Int.neg_mul_neg]
    rw [this]; exact Int.mul_nonneg (by omega) (by omega)
theorem sq_le {x p q : Int} (h : (x ≤ q ∧ q ≤ p) ∨ (p ≤ q ∧ q ≤ x)) : sq x q ≤ sq x p := by
  unfold sq
  rcases h with ⟨h1, h2⟩ | ⟨h1, h2⟩
  · have e1 : (x - q) * (x - q) = (q - x) * (q - x) := by rw [← Int.neg_mul_neg]; congr 1 <;> omega
    have e2 : (x - p) * (x - p) = (p - x) * (p - x) := by rw [← Int.neg_mul_neg]; congr 1 <;> omega
    rw [e1, e2]; exact Int.mul_le_mul (by omega) (by omega) (by omega) (by omega)
  · exact Int.mul_le_mul (by omega) (by omega) (by omega) (by omega)
theorem sq_mono {x a c j k : Int} (h1 : j ≤ a) (h2 : c ≤ k) (h3 : a ≤ c) : sq x (clampZ x j k) ≤ sq x (clampZ x a c) := by
  refine sq_le ?_
  unfold clampZ
  (repeat' split) <;> omega
theorem trio {a b c d e f g h x y : Int} (ga : goodB a b c d = true) (gb : goodB e f g h = true) (v : vldB x y = true) :
    Trio a b c d e f g h x y (minZ a e) (minZ b f) (maxZ c g) (maxZ d h) := by
  obtain ⟨a1, a2, a3, a4, a5, a6⟩ := goodB_iff.1 ga
  obtain ⟨b1, b2, b3, b4, b5, b6⟩ := goodB_iff.1 gb
  have l1 := min_le_l a e; have l2 := min_le_r a e; have l3 := min_le_l b f; have l4 := min_le_r b f
  have m1 := max_ge_l c g; have m2 := max_ge_r c g; have m3 := max_ge_l d h; have m4 := max_ge_r d h
  have k1 : 0 ≤ minZ a e := by unfold minZ; split <;> omega
  have k2 : 0 ≤ minZ b f := by unfold minZ; split <;> omega
  have k3 : maxZ c g ≤ 32768 := by unfold maxZ; split <;> omega
  have k4 : maxZ d h ≤ 32768 := by unfold maxZ; split <;> omega
  have gj : goodB (minZ a e) (minZ b f) (maxZ c g) (maxZ d h) = true := goodB_iff.2 ⟨k1, by omega, k3, k2, by omega, k4⟩
  have gab : gg a b c d e f g h = true := gg_mk ga gb
  have gba : gg e f g h a b c d = true := gg_mk gb ga
  have gaj : gg a b c d (minZ a e) (minZ b f) (maxZ c g) (maxZ d h) = true := gg_mk ga gj
  have gbj : gg e f g h (minZ a e) (minZ b f) (maxZ c g) (maxZ d h) = true := gg_mk gb gj
  have ia := hdB_iff ga v; have ib := hdB_iff gb v; have ij := hdB_iff gj v
  refine ⟨(mt_symm _ _ _ _ _ _ _ _).symm, (mtB_iff gaj).2 (by omega), ?_, ?_, ?_, ?_, ?_, ?_, ?_, ?_⟩
  · exact bx_eq ((jn_y gaj).trans (min_self_l l1)) ((jn_y gaj).trans (min_self_l l3)) ((jn_y gaj).trans (max_self_l m1)) ((jn_y gaj).trans (max_self_l m3))
  · exact bx_eq ((jn_y gbj).trans (min_self_l l2)) ((jn_y gbj).trans (min_self_l l4)) ((jn_y gbj).trans (max_self_l m2)) ((jn_y gbj).trans (max_self_l m4))
  · exact bx_eq ((jn_y gba).trans (min_comm _ _)) ((jn_y gba).trans (min_comm _ _)) ((jn_y gba).trans (max_comm _ _)) ((jn_y gba).trans (max_comm _ _))
  · intro h1 h2; rw [mtB_iff gab]; rw [ia] at h1; rw [ib] at h2; omega
  · intro h1; rw [ij]; rw [ia] at h1; omega
  · rw [ds_y ga v, Bool.eq_iff_iff, ia]
    have s1 := sq_nn x (clampZ x a c); have s2 := sq_nn y (clampZ y b d)
    have z1 := @sq_zero x a c; have z2 := @sq_zero y b d
    have q1 := @clamp_eq x a c; have q2 := @clamp_eq y b d
    simp
    constructor
    · intro h; have := z1.1 (by omega); have := z2.1 (by omega); omega
    · intro h; have := z1.2 (q1.2 (by omega)); have := z2.2 (q2.2 (by omega)); omega
  · rw [ds_y ga v, ds_y gj v]
    have := sq_mono (x := x) l1 m1 a2; have := sq_mono (x := y) l3 m3 a5; omega
  · rw [ds_y ga v]
    have s1 := sq_nn x (clampZ x a c); have s2 := sq_nn y (clampZ y b d); omega
theorem start10 (w w1 : World) (a b c d e f g h x y : Int) (hb : Below (((w.alloc (.cells #[.int .i64 a, .int .i64 b, .int .i64 c, .int .i64 d] 40)).alloc (.cells #[.int .i64 e, .int .i64 f, .int .i64 g, .int .i64 h] 40)).alloc (.cells #[.int .i64 x, .int .i64 y] 25)).heap.size (((w.alloc (.cells #[.int .i64 a, .int .i64 b, .int .i64 c, .int .i64 d] 40)).alloc (.cells #[.int .i64 e, .int .i64 f, .int .i64 g, .int .i64 h] 40)).alloc (.cells #[.int .i64 x, .int .i64 y] 25)) w1) :
    Below w.heap.size w w1 ∧ w1.cell? ⟨w.heap.size, 0, none⟩ = some (.int .i64 a) ∧ w1.cell? ⟨w.heap.size, 1, none⟩ = some (.int .i64 b) ∧ w1.cell? ⟨w.heap.size, 2, none⟩ = some (.int .i64 c) ∧ w1.cell? ⟨w.heap.size, 3, none⟩ = some (.int .i64 d) ∧ w1.cell? ⟨w.heap.size + 1, 0, none⟩ = some (.int .i64 e) ∧ w1.cell? ⟨w.heap.size + 1, 1, none⟩ = some (.int .i64 f) ∧ w1.cell? ⟨w.heap.size + 1, 2, none⟩ = some (.int .i64 g) ∧ w1.cell? ⟨w.heap.size + 1, 3, none⟩ = some (.int .i64 h) ∧ w1.cell? ⟨w.heap.size + 1 + 1, 0, none⟩ = some (.int .i64 x) ∧ w1.cell? ⟨w.heap.size + 1 + 1, 1, none⟩ = some (.int .i64 y) :=
  ⟨((((Below.refl _ _).alloc (Nat.le_refl _) _).alloc (by simp) _).alloc (by simp; omega) _).trans (hb.mono (by simp; omega)), old hb (by go_simp), old hb (by go_simp), old hb (by go_simp), old hb (by go_simp), old hb (by go_simp), old hb (by go_simp), old hb (by go_simp), old hb (by go_simp), old hb (by go_simp), old hb (by go_simp)⟩

set_option maxRecDepth 100000 in
set_option maxHeartbeats 16000000 in
theorem meets_not (a b c d e f g h x y : Int) (w : World) (hn : goodB a b c d = false ∨ goodB e f g h = false ∨ vldB x y = false) :
    Calls Try.prog 7 #[bx a b c d, bx e f g h, pt x y] w fun e w' => e = .returned (.bool true) ∧ Below w.heap.size w w' := by
  cases ga : goodB a b c d
  · have G1 := Lib.hid (chk_no ga)
    have M := Lib.hid (mtB_no (gg_mk (q := goodB e f g h) ga rfl)); clear ga hn
    go_enter Try.func7, Try.ntmps7
    go_wp2_with fail
    refine (check_any _ _ _ _ _).mono ?_; rintro en w1 ⟨rfl, hb⟩; rw [G1.out]
    have F1 := Lib.hid (start10 w w1 a b c d e f g h x y hb); clear hb
    obtain ⟨_, u1, u2, u3, u4, u5, u6, u7, u8, u9, u10⟩ := F1.out
    go_wp2_with fail
    refine (meets_any _ _ _ _ _ _ _ _ _).mono ?_; rintro en w2 ⟨rfl, hb⟩; rw [M.out]
    have F2 := Lib.hid (keep10 F1.out hb); clear hb F1 u1 u2 u3 u4 u5 u6 u7 u8 u9 u10
    obtain ⟨_, u1, u2, u3, u4, u5, u6, u7, u8, u9, u10⟩ := F2.out
    go_wp2_with fail
    refine (lives_any _).mono ?_; rintro en w3 ⟨rfl, hb⟩
    have F3 := Lib.hid (keep10 F2.out hb); clear hb F2 u1 u2 u3 u4 u5 u6 u7 u8 u9 u10
    go_wp2_with fail
    go_ret
    exact ⟨rfl, F3.out.1⟩
  · cases gb : goodB e f g h
    · have G1 := Lib.hid (chk_yes ga); have G2 := Lib.hid (chk_no gb)
      have M := Lib.hid (mtB_no (gg_mk ga gb)); clear ga gb hn
      go_enter Try.func7, Try.ntmps7
      go_wp2_with fail
      refine (check_any _ _ _ _ _).mono ?_; rintro en w1 ⟨rfl, hb⟩; rw [G1.out]
      have F1 := Lib.hid (start10 w w1 a b c d e f g h x y hb); clear hb
      obtain ⟨_, u1, u2, u3, u4, u5, u6, u7, u8, u9, u10⟩ := F1.out
      go_wp2_with fail
      refine (check_any _ _ _ _ _).mono ?_; rintro en w2 ⟨rfl, hb⟩; rw [G2.out]
      have F2 := Lib.hid (keep10 F1.out hb); clear hb F1 u1 u2 u3 u4 u5 u6 u7 u8 u9 u10
      obtain ⟨_, u1, u2, u3, u4, u5, u6, u7, u8, u9, u10⟩ := F2.out
      go_wp2_with fail
      refine (meets_any _ _ _ _ _ _ _ _ _).mono ?_; rintro en w3 ⟨rfl, hb⟩; rw [M.out]
      have F3 := Lib.hid (keep10 F2.out hb); clear hb F2 u1 u2 u3 u4 u5 u6 u7 u8 u9 u10
      obtain ⟨_, u1, u2, u3, u4, u5, u6, u7, u8, u9, u10⟩ := F3.out
      go_wp2_with fail
      refine (lives_any _).mono ?_; rintro en w4 ⟨rfl, hb⟩
      have F4 := Lib.hid (keep10 F3.out hb); clear hb F3 u1 u2 u3 u4 u5 u6 u7 u8 u9 u10
      go_wp2_with fail
      go_ret
      exact ⟨rfl, F4.out.1⟩
    · have hv : vldB x y = false := by rcases hn with h | h | h <;> first | exact h | (rw [h] at ga; cases ga) | (rw [h] at gb; cases gb)
      have G1 := Lib.hid (chk_yes ga); have G2 := Lib.hid (chk_yes gb); have V := Lib.hid hv; clear ga gb hn hv
      cases hm : mtB a b c d e f g h
      · have M := Lib.hid hm; clear hm
        go_enter Try.func7, Try.ntmps7
        go_wp2_with fail
        refine (check_any _ _ _ _ _).mono ?_; rintro en w1 ⟨rfl, hb⟩; rw [G1.out]
        have F1 := Lib.hid (start10 w w1 a b c d e f g h x y hb); clear hb
        obtain ⟨_, u1, u2, u3, u4, u5, u6, u7, u8, u9, u10⟩ := F1.out
        go_wp2_with fail
        refine (check_any _ _ _ _ _).mono ?_; rintro en w2 ⟨rfl, hb⟩; rw [G2.out]
        have F2 := Lib.hid (keep10 F1.out hb); clear hb F1 u1 u2 u3 u4 u5 u6 u7 u8 u9 u10
        obtain ⟨_, u1, u2, u3, u4, u5, u6, u7, u8, u9, u10⟩ := F2.out
        go_wp2_with fail
        refine (valid_any _ _ _).mono ?_; rintro en w3 ⟨rfl, hb⟩; rw [V.out]
        have F3 := Lib.hid (keep10 F2.out hb); clear hb F2 u1 u2 u3 u4 u5 u6 u7 u8 u9 u10
        obtain ⟨_, u1, u2, u3, u4, u5, u6, u7, u8, u9, u10⟩ := F3.out
        go_wp2_with fail
        refine (meets_any _ _ _ _ _ _ _ _ _).mono ?_; rintro en w4 ⟨rfl, hb⟩; rw [M.out]
        have F4 := Lib.hid (keep10 F3.out hb); clear hb F3 u1 u2 u3 u4 u5 u6 u7 u8 u9 u10
        obtain ⟨_, u1, u2, u3, u4, u5, u6, u7, u8, u9, u10⟩ := F4.out
        go_wp2_with fail
        refine (lives_any _).mono ?_; rintro en w5 ⟨rfl, hb⟩
        have F5 := Lib.hid (keep10 F4.out hb); clear hb F4 u1 u2 u3 u4 u5 u6 u7 u8 u9 u10
        go_wp2_with fail
        go_ret
        exact ⟨rfl, F5.out.1⟩
      · have M := Lib.hid hm; clear hm
        go_enter Try.func7, Try.ntmps7
        go_wp2_with fail
        refine (check_any _ _ _ _ _).mono ?_; rintro en w1 ⟨rfl, hb⟩; rw [G1.out]
        have F1 := Lib.hid (start10 w w1 a b c d e f g h x y hb); clear hb
        obtain ⟨_, u1, u2, u3, u4, u5, u6, u7, u8, u9, u10⟩ := F1.out
        go_wp2_with fail
        refine (check_any _ _ _ _ _).mono ?_; rintro en w2 ⟨rfl, hb⟩; rw [G2.out]
        have F2 := Lib.hid (keep10 F1.out hb); clear hb F1 u1 u2 u3 u4 u5 u6 u7 u8 u9 u10
        obtain ⟨_, u1, u2, u3, u4, u5, u6, u7, u8, u9, u10⟩ := F2.out
        go_wp2_with fail
        refine (valid_any _ _ _).mono ?_; rintro en w3 ⟨rfl, hb⟩; rw [V.out]
        have F3 := Lib.hid (keep10 F2.out hb); clear hb F2 u1 u2 u3 u4 u5 u6 u7 u8 u9 u10
        obtain ⟨_, u1, u2, u3, u4, u5, u6, u7, u8, u9, u10⟩ := F3.out
        go_wp2_with fail
        refine (meets_any _ _ _ _ _ _ _ _ _).mono ?_; rintro en w4 ⟨rfl, hb⟩; rw [M.out]
        have F4 := Lib.hid (keep10 F3.out hb); clear hb F3 u1 u2 u3 u4 u5 u6 u7 u8 u9 u10
        obtain ⟨_, u1, u2, u3, u4, u5, u6, u7, u8, u9, u10⟩ := F4.out
        go_wp2_with fail
        refine (check_any _ _ _ _ _).mono ?_; rintro en w5 ⟨rfl, hb⟩; rw [G1.out]
        have F5 := Lib.hid (keep10 F4.out hb); clear hb F4 u1 u2 u3 u4 u5 u6 u7 u8 u9 u10
        obtain ⟨_, u1, u2, u3, u4, u5, u6, u7, u8, u9, u10⟩ := F5.out
        go_wp2_with fail
        refine (check_any _ _ _ _ _).mono ?_; rintro en w6 ⟨rfl, hb⟩; rw [G2.out]
        have F6 := Lib.hid (keep10 F5.out hb); clear hb F5 u1 u2 u3 u4 u5 u6 u7 u8 u9 u10
        obtain ⟨_, u1, u2, u3, u4, u5, u6, u7, u8, u9, u10⟩ := F6.out
        go_wp2_with fail
        refine (lives_any _).mono ?_; rintro en w7 ⟨rfl, hb⟩
        have F7 := Lib.hid (keep10 F6.out hb); clear hb F6 u1 u2 u3 u4 u5 u6 u7 u8 u9 u10
        go_wp2_with fail
        go_ret
        exact ⟨rfl, F7.out.1⟩
end Go.Proofs.Ytahaigamigkhbaa
