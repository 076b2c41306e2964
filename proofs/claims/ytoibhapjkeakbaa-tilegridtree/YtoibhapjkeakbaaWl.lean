/- Tiles: the walk of TilegridNumbers. -/
import Derived.Test.YtoibhapjkeakbaaWk
namespace Go.Proofs.Ytoibhapjkeakbaa
open Go.ChangeShapes Go.WideShapes Go.ChangeAt Go.RowKit Go.Joins Go.Deep

theorem id_neg {z x y : Int} (h : goodT z x y = false) : idT z x y = -1 := by unfold idT; rw [if_neg (by rw [h]; simp)]
theorem mul_row {y x c : Int} (h1 : 0 ≤ y) (h2 : y < c) (_h3 : 0 ≤ x) (h4 : x < c) : 0 ≤ y * c ∧ y * c + x < c * c := by
  have a := Int.mul_nonneg h1 (show 0 ≤ c by omega)
  have b : (y + 1) * c ≤ c * c := Int.mul_le_mul_of_nonneg_right (by omega) (by omega)
  rw [Int.add_mul] at b
  omega
theorem id_in {z x y : Int} (h : goodT z x y = true) : idT z x y = bef z + y * cnt z + x ∧ bef z ≤ idT z x y ∧ idT z x y < bef (z + 1) ∧ 0 ≤ bef z ∧ 0 ≤ idT z x y ∧ idT z x y < 21845 := by
  have e : idT z x y = bef z + y * cnt z + x := by unfold idT; rw [if_pos h]
  obtain ⟨g0, g1, g2, g3, g4, g5⟩ := goodT_iff.1 h
  obtain ⟨m1, m2⟩ := mul_row g4 g5 g2 g3
  have b := bef_succ g0 g1
  have c := (bef_bd (z := z + 1) (by omega) (by omega)).2
  have d := (bef_bd (z := z) (by omega) (by omega)).1
  rw [e]; refine ⟨rfl, ?_, ?_, ?_, ?_, ?_⟩ <;> omega
theorem id_tile {z x y : Int} (h : goodT z x y = true) : tileT (idT z x y) = .tuple #[tl z x y, .bool true] := by
  obtain ⟨e, h1, h2, _, _, _⟩ := id_in h
  obtain ⟨g0, g1, g2, g3, g4, g5⟩ := goodT_iff.1 h
  have t := tile_at g0 g1 h1 h2
  injection t with t
  rw [t, e, show bef z + y * cnt z + x - bef z = x + y * cnt z by omega, Int.add_mul_emod_self_right, Int.emod_eq_of_lt g2 g3, Int.add_mul_ediv_right _ _ (by omega), Int.ediv_eq_zero_of_lt g2 g3, Int.zero_add]
theorem bef_mono {a b : Int} (h0 : 0 ≤ a) (h1 : a ≤ b) (h2 : b ≤ 8) : bef a ≤ bef b := by
  obtain ⟨v0, v1, v2, v3, v4, v5, v6, v7, v8⟩ := bef_val
  have ha : a = 0 ∨ a = 1 ∨ a = 2 ∨ a = 3 ∨ a = 4 ∨ a = 5 ∨ a = 6 ∨ a = 7 ∨ a = 8 := by omega
  have hb : b = 0 ∨ b = 1 ∨ b = 2 ∨ b = 3 ∨ b = 4 ∨ b = 5 ∨ b = 6 ∨ b = 7 ∨ b = 8 := by omega
  rcases ha with rfl | rfl | rfl | rfl | rfl | rfl | rfl | rfl | rfl <;> rcases hb with rfl | rfl | rfl | rfl | rfl | rfl | rfl | rfl | rfl <;> omega
theorem row_lt {y x t v c : Int} (h3 : 0 ≤ x) (h4 : x < c) (h5 : 0 ≤ v) (h6 : v < c) : (y * c + x < t * c + v) ↔ (y < t ∨ (y = t ∧ x < v)) := by
  rcases Int.lt_trichotomy y t with h | h | h
  · have b : (y + 1) * c ≤ t * c := Int.mul_le_mul_of_nonneg_right (by omega) (by omega)
    rw [Int.add_mul] at b; omega
  · subst h; omega
  · have b : (t + 1) * c ≤ y * c := Int.mul_le_mul_of_nonneg_right (by omega) (by omega)
    rw [Int.add_mul] at b; omega
theorem id_less {z x y u v t : Int} (h : goodT z x y = true) (k : goodT u v t = true) : decide (idT z x y < idT u v t) = lessT z x y u v t := by
  obtain ⟨e, h1, h2, _, _, _⟩ := id_in h
  obtain ⟨f, k1, k2, _, _, _⟩ := id_in k
  obtain ⟨g0, g1, g2, g3, g4, g5⟩ := goodT_iff.1 h
  obtain ⟨j0, j1, j2, j3, j4, j5⟩ := goodT_iff.1 k
  unfold lessT
  rw [Bool.eq_iff_iff]; simp only [decide_eq_true_eq]
  rcases Int.lt_trichotomy z u with q | q | q
  · have := bef_mono (a := z + 1) (b := u) (by omega) (by omega) (by omega)
    constructor
    · intro _; exact Or.inl q
    · intro _; omega
  · subst q
    rw [e, f]
    have := row_lt (y := y) (x := x) (t := t) (v := v) (c := cnt z) g2 g3 j2 j3
    constructor
    · intro a; exact Or.inr ⟨rfl, this.1 (by omega)⟩
    · rintro (a | ⟨_, a⟩)
      · omega
      · have := this.2 a; omega
  · have := bef_mono (a := u + 1) (b := z) (by omega) (by omega) (by omega)
    constructor
    · intro _; omega
    · rintro (a | ⟨a, _⟩) <;> omega
theorem tile_back {i : Int} (h0 : 0 ≤ i) (h1 : i < 21845) : ∃ z x y, tileT i = .tuple #[tl z x y, .bool true] ∧ idT z x y = i := by
  obtain ⟨v0, v1, v2, v3, v4, v5, v6, v7, v8⟩ := bef_val
  have key : ∀ z : Int, 0 ≤ z → z ≤ 7 → bef z ≤ i → i < bef (z + 1) → ∃ z x y, tileT i = .tuple #[tl z x y, .bool true] ∧ idT z x y = i := by
    intro z z0 z1 b0 b1
    have t := tile_at z0 z1 b0 b1
    injection t with t
    obtain ⟨c0, c1⟩ := cnt_bd z0 z1
    rw [bef_succ z0 z1] at b1
    have m := Int.mul_ediv_add_emod (i - bef z) (cnt z)
    have r0 := Int.emod_nonneg (i - bef z) (show cnt z ≠ 0 by omega)
    have r1 := Int.emod_lt_of_pos (i - bef z) (show 0 < cnt z by omega)
    have q0 := Int.ediv_nonneg (show 0 ≤ i - bef z by omega) (show 0 ≤ cnt z by omega)
    have q1 : (i - bef z) / cnt z < cnt z := Int.ediv_lt_of_lt_mul (by omega) (by omega)
    refine ⟨_, _, _, t, ?_⟩
    unfold idT; rw [if_pos (goodT_iff.2 ⟨z0, z1, r0, r1, q0, q1⟩)]
    rw [Int.mul_comm] at m; omega
  by_cases a1 : i < 1
  · exact key 0 (by omega) (by omega) (by omega) (by show i < bef 1; omega)
  by_cases a2 : i < 5
  · exact key 1 (by omega) (by omega) (by omega) (by show i < bef 2; omega)
  by_cases a3 : i < 21
  · exact key 2 (by omega) (by omega) (by omega) (by show i < bef 3; omega)
  by_cases a4 : i < 85
  · exact key 3 (by omega) (by omega) (by omega) (by show i < bef 4; omega)
  by_cases a5 : i < 341
  · exact key 4 (by omega) (by omega) (by omega) (by show i < bef 5; omega)
  by_cases a6 : i < 1365
  · exact key 5 (by omega) (by omega) (by omega) (by show i < bef 6; omega)
  by_cases a7 : i < 5461
  · exact key 6 (by omega) (by omega) (by omega) (by show i < bef 7; omega)
  · exact key 7 (by omega) (by omega) (by omega) (by show i < bef 8; omega)
theorem tile_out {i : Int} (h : i < 0 ∨ 21845 ≤ i) : tileT i = .tuple #[tl 0 0 0, .bool false] := by
  unfold tileT; rw [if_neg (by unfold okN; simp; omega)]
set_option maxRecDepth 100000 in
set_option maxHeartbeats 4000000 in
theorem num_0 (z x y u v t id n m : Int) (w : World) (CA : Hid (∀ W, Calls Try.prog 27 #[tl z x y] W fun e w' => e = .returned (.int .i64 n) ∧ Below W.heap.size W w')) (CB : Hid (∀ W, Calls Try.prog 27 #[tl u v t] W fun e w' => e = .returned (.int .i64 m) ∧ Below W.heap.size W w')) (hn : 0 ≤ n) (HK : Hid (chkT z x y = 0)) (CT : Hid (∀ W, Calls Try.prog 20 #[.int .i64 n] W fun e w' => e = .returned (.tuple #[tl z x y, .bool true]) ∧ Below W.heap.size W w')) (hm : 0 ≤ m) (bb : Bool) (hd : decide (n < m) = bb) (CL : Hid (∀ W, Calls Try.prog 25 #[tl z x y, tl u v t] W fun e w' => e = .returned (.bool bb) ∧ Below W.heap.size W w')) (P Q R : Int) (hi0 : 0 ≤ id) (hi1 : id < 21845) (CI : Hid (∀ W, Calls Try.prog 20 #[.int .i64 id] W fun e w' => e = .returned (.tuple #[tl P Q R, .bool true]) ∧ Below W.heap.size W w')) (CX : Hid (∀ W, Calls Try.prog 27 #[tl P Q R] W fun e w' => e = .returned (.int .i64 id) ∧ Below W.heap.size W w')) :
    Calls Try.prog 7 #[tl z x y, tl u v t, .int .i64 id] w fun e w' => e = .returned (.bool true) ∧ Below w.heap.size w w' := by
  go_enter Try.func7, Try.ntmps7
  go_wp2_with fail
  have I0 : ∀ W, W = (w.alloc (.cells #[.int .i64 z, .int .i64 x, .int .i64 y] 23)).alloc (.cells #[.int .i64 u, .int .i64 v, .int .i64 t] 23) → (W.cell? ⟨w.heap.size, 0, none⟩ = some (.int .i64 z) ∧ W.cell? ⟨w.heap.size, 1, none⟩ = some (.int .i64 x) ∧ W.cell? ⟨w.heap.size, 2, none⟩ = some (.int .i64 y) ∧ W.cell? ⟨w.heap.size + 1, 0, none⟩ = some (.int .i64 u) ∧ W.cell? ⟨w.heap.size + 1, 1, none⟩ = some (.int .i64 v) ∧ W.cell? ⟨w.heap.size + 1, 2, none⟩ = some (.int .i64 t)) ∧ Below w.heap.size w W := by
    intro W e; subst e
    refine ⟨⟨by go_simp, by go_simp, by go_simp, by go_simp, by go_simp, by go_simp⟩, ?_⟩
    (repeat (first | exact Below.refl _ _ | (refine Below.alloc ?_ (by first | omega | (simp <;> omega)) _)))
  have J0 := I0 _ rfl; clear I0
  generalize (w.alloc (.cells #[.int .i64 z, .int .i64 x, .int .i64 y] 23)).alloc (.cells #[.int .i64 u, .int .i64 v, .int .i64 t] 23) = W0 at J0 ⊢
  obtain ⟨⟨f1, f2, f3, f4, f5, f6⟩, bb0⟩ := J0
  have B0 := Lib.hid bb0; clear bb0
  have S0 : Hid (∀ W, W = W0.drew → Below w.heap.size w W ∧ W.cell? ⟨w.heap.size, 0, none⟩ = some (.int .i64 z) ∧ W.cell? ⟨w.heap.size, 1, none⟩ = some (.int .i64 x) ∧ W.cell? ⟨w.heap.size, 2, none⟩ = some (.int .i64 y) ∧ W.cell? ⟨w.heap.size + 1, 0, none⟩ = some (.int .i64 u) ∧ W.cell? ⟨w.heap.size + 1, 1, none⟩ = some (.int .i64 v) ∧ W.cell? ⟨w.heap.size + 1, 2, none⟩ = some (.int .i64 t)) := by
    intro W e; subst e
    exact ⟨B0.out.drew, by go_simp, by go_simp, by go_simp, by go_simp, by go_simp, by go_simp⟩
  go_region_held3 (fun w' => Below w.heap.size w w' ∧ w'.cell? ⟨w.heap.size, 0, none⟩ = some (.int .i64 z) ∧ w'.cell? ⟨w.heap.size, 1, none⟩ = some (.int .i64 x) ∧ w'.cell? ⟨w.heap.size, 2, none⟩ = some (.int .i64 y) ∧ w'.cell? ⟨w.heap.size + 1, 0, none⟩ = some (.int .i64 u) ∧ w'.cell? ⟨w.heap.size + 1, 1, none⟩ = some (.int .i64 v) ∧ w'.cell? ⟨w.heap.size + 1, 2, none⟩ = some (.int .i64 t))
    (first | exact S0.out _ rfl | assumption | exact keep6 (by assumption) (by assumption))
    (first | (go_at_call 27; (with_reducible refine (CA.out _).mono ?_); rintro e w9 ⟨rfl, bw9⟩) | (go_at_call 27; (with_reducible refine (CB.out _).mono ?_); rintro e w9 ⟨rfl, bw9⟩))
  rename_i hHeld
  clear f1 f2 f3 f4 f5 f6
  obtain ⟨hB, f1, f2, f3, f4, f5, f6⟩ := hHeld
  have B1_ := Lib.hid hB; clear hB S0
  have hz1 : w.heap.size < w9.heap.size := cell_lt f1
  have hz2 : w.heap.size + 1 < w9.heap.size := cell_lt f4
  go_wp2_with fail
  refine (CT.out _).mono ?_; rintro e w2 ⟨rfl, hb⟩
  replace f1 := old hb f1; replace f2 := old hb f2; replace f3 := old hb f3; replace f4 := old hb f4; replace f5 := old hb f5; replace f6 := old hb f6
  have B3_ := Lib.hid (B1_.out.trans (hb.mono B1_.out.size)); clear hb
  clear hz1 hz2
  have hz1 : w.heap.size < w2.heap.size := cell_lt f1
  have hz2 : w.heap.size + 1 < w2.heap.size := cell_lt f4
  go_wp2_with fail
  have I4 : ∀ W, W = w2.alloc (.cells #[.int .i64 z, .int .i64 x, .int .i64 y] 23) → (W.cell? ⟨w2.heap.size, 0, none⟩ = some (.int .i64 z) ∧ W.cell? ⟨w2.heap.size, 1, none⟩ = some (.int .i64 x) ∧ W.cell? ⟨w2.heap.size, 2, none⟩ = some (.int .i64 y)) ∧ Below w2.heap.size w2 W := by
    intro W e; subst e
    refine ⟨⟨by go_simp, by go_simp, by go_simp⟩, ?_⟩
    exact (Below.refl _ _).alloc (Nat.le_refl _) _
  have J4 := I4 _ rfl; clear I4
  generalize w2.alloc (.cells #[.int .i64 z, .int .i64 x, .int .i64 y] 23) = W4 at J4 ⊢
  obtain ⟨⟨f7, f8, f9⟩, bb4⟩ := J4
  replace f1 := old bb4 f1; replace f2 := old bb4 f2; replace f3 := old bb4 f3; replace f4 := old bb4 f4; replace f5 := old bb4 f5; replace f6 := old bb4 f6
  have B5_ := Lib.hid (B3_.out.trans (bb4.mono B3_.out.size)); clear bb4
  refine (checkT_any _ _ _ _).mono ?_; rintro e w6 ⟨rfl, hb⟩; rw [HK.out]
  replace f1 := old hb f1; replace f2 := old hb f2; replace f3 := old hb f3; replace f4 := old hb f4; replace f5 := old hb f5; replace f6 := old hb f6; replace f7 := old hb f7; replace f8 := old hb f8; replace f9 := old hb f9
  have B7_ := Lib.hid (B5_.out.trans (hb.mono B5_.out.size)); clear hb
  clear hz1 hz2
  have hz1 : w.heap.size < w6.heap.size := cell_lt f1
  have hz2 : w.heap.size + 1 < w6.heap.size := cell_lt f4
  have hz3 : w2.heap.size < w6.heap.size := cell_lt f7
  go_wp2_with fail
  refine (CL.out _).mono ?_; rintro e w8 ⟨rfl, hb⟩
  replace f1 := old hb f1; replace f2 := old hb f2; replace f3 := old hb f3; replace f4 := old hb f4; replace f5 := old hb f5; replace f6 := old hb f6; replace f7 := old hb f7; replace f8 := old hb f8; replace f9 := old hb f9
  have B9_ := Lib.hid (B7_.out.trans (hb.mono B7_.out.size)); clear hb
  clear hz1 hz2 hz3
  have hz1 : w.heap.size < w8.heap.size := cell_lt f1
  have hz2 : w.heap.size + 1 < w8.heap.size := cell_lt f4
  have hz3 : w2.heap.size < w8.heap.size := cell_lt f7
  go_wp2_with fail
  refine (CI.out _).mono ?_; rintro e w10 ⟨rfl, hb⟩
  replace f1 := old hb f1; replace f2 := old hb f2; replace f3 := old hb f3; replace f4 := old hb f4; replace f5 := old hb f5; replace f6 := old hb f6; replace f7 := old hb f7; replace f8 := old hb f8; replace f9 := old hb f9
  have B11_ := Lib.hid (B9_.out.trans (hb.mono B9_.out.size)); clear hb
  clear hz1 hz2 hz3
  have hz1 : w.heap.size < w10.heap.size := cell_lt f1
  have hz2 : w.heap.size + 1 < w10.heap.size := cell_lt f4
  have hz3 : w2.heap.size < w10.heap.size := cell_lt f7
  go_wp2_with fail
  have I12 : ∀ W, W = w10.alloc (.cells #[.int .i64 P, .int .i64 Q, .int .i64 R] 23) → (W.cell? ⟨w10.heap.size, 0, none⟩ = some (.int .i64 P) ∧ W.cell? ⟨w10.heap.size, 1, none⟩ = some (.int .i64 Q) ∧ W.cell? ⟨w10.heap.size, 2, none⟩ = some (.int .i64 R)) ∧ Below w10.heap.size w10 W := by
    intro W e; subst e
    refine ⟨⟨by go_simp, by go_simp, by go_simp⟩, ?_⟩
    exact (Below.refl _ _).alloc (Nat.le_refl _) _
  have J12 := I12 _ rfl; clear I12
  generalize w10.alloc (.cells #[.int .i64 P, .int .i64 Q, .int .i64 R] 23) = W12 at J12 ⊢
  obtain ⟨⟨f10, f11, f12⟩, bb12⟩ := J12
  replace f1 := old bb12 f1; replace f2 := old bb12 f2; replace f3 := old bb12 f3; replace f4 := old bb12 f4; replace f5 := old bb12 f5; replace f6 := old bb12 f6; replace f7 := old bb12 f7; replace f8 := old bb12 f8; replace f9 := old bb12 f9
  have B13_ := Lib.hid (B11_.out.trans (bb12.mono B11_.out.size)); clear bb12
  refine (CX.out _).mono ?_; rintro e w14 ⟨rfl, hb⟩
  replace f1 := old hb f1; replace f2 := old hb f2; replace f3 := old hb f3; replace f4 := old hb f4; replace f5 := old hb f5; replace f6 := old hb f6; replace f7 := old hb f7; replace f8 := old hb f8; replace f9 := old hb f9; replace f10 := old hb f10; replace f11 := old hb f11; replace f12 := old hb f12
  have B15_ := Lib.hid (B13_.out.trans (hb.mono B13_.out.size)); clear hb
  clear hz1 hz2 hz3
  have hz1 : w.heap.size < w14.heap.size := cell_lt f1
  have hz2 : w.heap.size + 1 < w14.heap.size := cell_lt f4
  have hz3 : w2.heap.size < w14.heap.size := cell_lt f7
  have hz4 : w10.heap.size < w14.heap.size := cell_lt f10
  go_wp2_with fail
  refine (lives_any _).mono ?_; rintro e w16 ⟨rfl, hb⟩
  replace f1 := old hb f1; replace f2 := old hb f2; replace f3 := old hb f3; replace f4 := old hb f4; replace f5 := old hb f5; replace f6 := old hb f6; replace f7 := old hb f7; replace f8 := old hb f8; replace f9 := old hb f9; replace f10 := old hb f10; replace f11 := old hb f11; replace f12 := old hb f12
  have B17_ := Lib.hid (B15_.out.trans (hb.mono B15_.out.size)); clear hb
  clear hz1 hz2 hz3 hz4
  have hz1 : w.heap.size < w16.heap.size := cell_lt f1
  have hz2 : w.heap.size + 1 < w16.heap.size := cell_lt f4
  have hz3 : w2.heap.size < w16.heap.size := cell_lt f7
  have hz4 : w10.heap.size < w16.heap.size := cell_lt f10
  go_wp2_with fail
  go_ret
  exact ⟨rfl, B17_.out⟩
set_option maxRecDepth 100000 in
set_option maxHeartbeats 4000000 in
theorem num_1 (z x y u v t id n m : Int) (w : World) (CA : Hid (∀ W, Calls Try.prog 27 #[tl z x y] W fun e w' => e = .returned (.int .i64 n) ∧ Below W.heap.size W w')) (CB : Hid (∀ W, Calls Try.prog 27 #[tl u v t] W fun e w' => e = .returned (.int .i64 m) ∧ Below W.heap.size W w')) (hn : 0 ≤ n) (HK : Hid (chkT z x y = 0)) (CT : Hid (∀ W, Calls Try.prog 20 #[.int .i64 n] W fun e w' => e = .returned (.tuple #[tl z x y, .bool true]) ∧ Below W.heap.size W w')) (hm : 0 ≤ m) (bb : Bool) (hd : decide (n < m) = bb) (CL : Hid (∀ W, Calls Try.prog 25 #[tl z x y, tl u v t] W fun e w' => e = .returned (.bool bb) ∧ Below W.heap.size W w')) (hi0 : id < 0) (CI : Hid (∀ W, Calls Try.prog 20 #[.int .i64 id] W fun e w' => e = .returned (.tuple #[tl 0 0 0, .bool false]) ∧ Below W.heap.size W w')) :
    Calls Try.prog 7 #[tl z x y, tl u v t, .int .i64 id] w fun e w' => e = .returned (.bool true) ∧ Below w.heap.size w w' := by
  go_enter Try.func7, Try.ntmps7
  go_wp2_with fail
  have I0 : ∀ W, W = (w.alloc (.cells #[.int .i64 z, .int .i64 x, .int .i64 y] 23)).alloc (.cells #[.int .i64 u, .int .i64 v, .int .i64 t] 23) → (W.cell? ⟨w.heap.size, 0, none⟩ = some (.int .i64 z) ∧ W.cell? ⟨w.heap.size, 1, none⟩ = some (.int .i64 x) ∧ W.cell? ⟨w.heap.size, 2, none⟩ = some (.int .i64 y) ∧ W.cell? ⟨w.heap.size + 1, 0, none⟩ = some (.int .i64 u) ∧ W.cell? ⟨w.heap.size + 1, 1, none⟩ = some (.int .i64 v) ∧ W.cell? ⟨w.heap.size + 1, 2, none⟩ = some (.int .i64 t)) ∧ Below w.heap.size w W := by
    intro W e; subst e
    refine ⟨⟨by go_simp, by go_simp, by go_simp, by go_simp, by go_simp, by go_simp⟩, ?_⟩
    (repeat (first | exact Below.refl _ _ | (refine Below.alloc ?_ (by first | omega | (simp <;> omega)) _)))
  have J0 := I0 _ rfl; clear I0
  generalize (w.alloc (.cells #[.int .i64 z, .int .i64 x, .int .i64 y] 23)).alloc (.cells #[.int .i64 u, .int .i64 v, .int .i64 t] 23) = W0 at J0 ⊢
  obtain ⟨⟨f1, f2, f3, f4, f5, f6⟩, bb0⟩ := J0
  have B0 := Lib.hid bb0; clear bb0
  have S0 : Hid (∀ W, W = W0.drew → Below w.heap.size w W ∧ W.cell? ⟨w.heap.size, 0, none⟩ = some (.int .i64 z) ∧ W.cell? ⟨w.heap.size, 1, none⟩ = some (.int .i64 x) ∧ W.cell? ⟨w.heap.size, 2, none⟩ = some (.int .i64 y) ∧ W.cell? ⟨w.heap.size + 1, 0, none⟩ = some (.int .i64 u) ∧ W.cell? ⟨w.heap.size + 1, 1, none⟩ = some (.int .i64 v) ∧ W.cell? ⟨w.heap.size + 1, 2, none⟩ = some (.int .i64 t)) := by
    intro W e; subst e
    exact ⟨B0.out.drew, by go_simp, by go_simp, by go_simp, by go_simp, by go_simp, by go_simp⟩
  go_region_held3 (fun w' => Below w.heap.size w w' ∧ w'.cell? ⟨w.heap.size, 0, none⟩ = some (.int .i64 z) ∧ w'.cell? ⟨w.heap.size, 1, none⟩ = some (.int .i64 x) ∧ w'.cell? ⟨w.heap.size, 2, none⟩ = some (.int .i64 y) ∧ w'.cell? ⟨w.heap.size + 1, 0, none⟩ = some (.int .i64 u) ∧ w'.cell? ⟨w.heap.size + 1, 1, none⟩ = some (.int .i64 v) ∧ w'.cell? ⟨w.heap.size + 1, 2, none⟩ = some (.int .i64 t))
    (first | exact S0.out _ rfl | assumption | exact keep6 (by assumption) (by assumption))
    (first | (go_at_call 27; (with_reducible refine (CA.out _).mono ?_); rintro e w9 ⟨rfl, bw9⟩) | (go_at_call 27; (with_reducible refine (CB.out _).mono ?_); rintro e w9 ⟨rfl, bw9⟩))
  rename_i hHeld
  clear f1 f2 f3 f4 f5 f6
  obtain ⟨hB, f1, f2, f3, f4, f5, f6⟩ := hHeld
  have B1_ := Lib.hid hB; clear hB S0
  have hz1 : w.heap.size < w9.heap.size := cell_lt f1
  have hz2 : w.heap.size + 1 < w9.heap.size := cell_lt f4
  go_wp2_with fail
  refine (CT.out _).mono ?_; rintro e w2 ⟨rfl, hb⟩
  replace f1 := old hb f1; replace f2 := old hb f2; replace f3 := old hb f3; replace f4 := old hb f4; replace f5 := old hb f5; replace f6 := old hb f6
  have B3_ := Lib.hid (B1_.out.trans (hb.mono B1_.out.size)); clear hb
  clear hz1 hz2
  have hz1 : w.heap.size < w2.heap.size := cell_lt f1
  have hz2 : w.heap.size + 1 < w2.heap.size := cell_lt f4
  go_wp2_with fail
  have I4 : ∀ W, W = w2.alloc (.cells #[.int .i64 z, .int .i64 x, .int .i64 y] 23) → (W.cell? ⟨w2.heap.size, 0, none⟩ = some (.int .i64 z) ∧ W.cell? ⟨w2.heap.size, 1, none⟩ = some (.int .i64 x) ∧ W.cell? ⟨w2.heap.size, 2, none⟩ = some (.int .i64 y)) ∧ Below w2.heap.size w2 W := by
    intro W e; subst e
    refine ⟨⟨by go_simp, by go_simp, by go_simp⟩, ?_⟩
    exact (Below.refl _ _).alloc (Nat.le_refl _) _
  have J4 := I4 _ rfl; clear I4
  generalize w2.alloc (.cells #[.int .i64 z, .int .i64 x, .int .i64 y] 23) = W4 at J4 ⊢
  obtain ⟨⟨f7, f8, f9⟩, bb4⟩ := J4
  replace f1 := old bb4 f1; replace f2 := old bb4 f2; replace f3 := old bb4 f3; replace f4 := old bb4 f4; replace f5 := old bb4 f5; replace f6 := old bb4 f6
  have B5_ := Lib.hid (B3_.out.trans (bb4.mono B3_.out.size)); clear bb4
  refine (checkT_any _ _ _ _).mono ?_; rintro e w6 ⟨rfl, hb⟩; rw [HK.out]
  replace f1 := old hb f1; replace f2 := old hb f2; replace f3 := old hb f3; replace f4 := old hb f4; replace f5 := old hb f5; replace f6 := old hb f6; replace f7 := old hb f7; replace f8 := old hb f8; replace f9 := old hb f9
  have B7_ := Lib.hid (B5_.out.trans (hb.mono B5_.out.size)); clear hb
  clear hz1 hz2
  have hz1 : w.heap.size < w6.heap.size := cell_lt f1
  have hz2 : w.heap.size + 1 < w6.heap.size := cell_lt f4
  have hz3 : w2.heap.size < w6.heap.size := cell_lt f7
  go_wp2_with fail
  refine (CL.out _).mono ?_; rintro e w8 ⟨rfl, hb⟩
  replace f1 := old hb f1; replace f2 := old hb f2; replace f3 := old hb f3; replace f4 := old hb f4; replace f5 := old hb f5; replace f6 := old hb f6; replace f7 := old hb f7; replace f8 := old hb f8; replace f9 := old hb f9
  have B9_ := Lib.hid (B7_.out.trans (hb.mono B7_.out.size)); clear hb
  clear hz1 hz2 hz3
  have hz1 : w.heap.size < w8.heap.size := cell_lt f1
  have hz2 : w.heap.size + 1 < w8.heap.size := cell_lt f4
  have hz3 : w2.heap.size < w8.heap.size := cell_lt f7
  go_wp2_with fail
  refine (CI.out _).mono ?_; rintro e w10 ⟨rfl, hb⟩
  replace f1 := old hb f1; replace f2 := old hb f2; replace f3 := old hb f3; replace f4 := old hb f4; replace f5 := old hb f5; replace f6 := old hb f6; replace f7 := old hb f7; replace f8 := old hb f8; replace f9 := old hb f9
  have B11_ := Lib.hid (B9_.out.trans (hb.mono B9_.out.size)); clear hb
  clear hz1 hz2 hz3
  have hz1 : w.heap.size < w10.heap.size := cell_lt f1
  have hz2 : w.heap.size + 1 < w10.heap.size := cell_lt f4
  have hz3 : w2.heap.size < w10.heap.size := cell_lt f7
  go_wp2_with fail
  have I12 : ∀ W, W = w10.alloc (.cells #[.int .i64 0, .int .i64 0, .int .i64 0] 23) → (W.cell? ⟨w10.heap.size, 0, none⟩ = some (.int .i64 0) ∧ W.cell? ⟨w10.heap.size, 1, none⟩ = some (.int .i64 0) ∧ W.cell? ⟨w10.heap.size, 2, none⟩ = some (.int .i64 0)) ∧ Below w10.heap.size w10 W := by
    intro W e; subst e
    refine ⟨⟨by go_simp, by go_simp, by go_simp⟩, ?_⟩
    exact (Below.refl _ _).alloc (Nat.le_refl _) _
  have J12 := I12 _ rfl; clear I12
  generalize w10.alloc (.cells #[.int .i64 0, .int .i64 0, .int .i64 0] 23) = W12 at J12 ⊢
  obtain ⟨⟨f10, f11, f12⟩, bb12⟩ := J12
  replace f1 := old bb12 f1; replace f2 := old bb12 f2; replace f3 := old bb12 f3; replace f4 := old bb12 f4; replace f5 := old bb12 f5; replace f6 := old bb12 f6; replace f7 := old bb12 f7; replace f8 := old bb12 f8; replace f9 := old bb12 f9
  have B13_ := Lib.hid (B11_.out.trans (bb12.mono B11_.out.size)); clear bb12
  refine (lives_any _).mono ?_; rintro e w14 ⟨rfl, hb⟩
  replace f1 := old hb f1; replace f2 := old hb f2; replace f3 := old hb f3; replace f4 := old hb f4; replace f5 := old hb f5; replace f6 := old hb f6; replace f7 := old hb f7; replace f8 := old hb f8; replace f9 := old hb f9; replace f10 := old hb f10; replace f11 := old hb f11; replace f12 := old hb f12
  have B15_ := Lib.hid (B13_.out.trans (hb.mono B13_.out.size)); clear hb
  clear hz1 hz2 hz3
  have hz1 : w.heap.size < w14.heap.size := cell_lt f1
  have hz2 : w.heap.size + 1 < w14.heap.size := cell_lt f4
  have hz3 : w2.heap.size < w14.heap.size := cell_lt f7
  have hz4 : w10.heap.size < w14.heap.size := cell_lt f10
  go_wp2_with fail
  go_ret
  exact ⟨rfl, B15_.out⟩
set_option maxRecDepth 100000 in
set_option maxHeartbeats 4000000 in
theorem num_2 (z x y u v t id n m : Int) (w : World) (CA : Hid (∀ W, Calls Try.prog 27 #[tl z x y] W fun e w' => e = .returned (.int .i64 n) ∧ Below W.heap.size W w')) (CB : Hid (∀ W, Calls Try.prog 27 #[tl u v t] W fun e w' => e = .returned (.int .i64 m) ∧ Below W.heap.size W w')) (hn : 0 ≤ n) (HK : Hid (chkT z x y = 0)) (CT : Hid (∀ W, Calls Try.prog 20 #[.int .i64 n] W fun e w' => e = .returned (.tuple #[tl z x y, .bool true]) ∧ Below W.heap.size W w')) (hm : 0 ≤ m) (bb : Bool) (hd : decide (n < m) = bb) (CL : Hid (∀ W, Calls Try.prog 25 #[tl z x y, tl u v t] W fun e w' => e = .returned (.bool bb) ∧ Below W.heap.size W w')) (hi0 : 0 ≤ id) (hi1 : decide (id < 21845) = false) (CI : Hid (∀ W, Calls Try.prog 20 #[.int .i64 id] W fun e w' => e = .returned (.tuple #[tl 0 0 0, .bool false]) ∧ Below W.heap.size W w')) :
    Calls Try.prog 7 #[tl z x y, tl u v t, .int .i64 id] w fun e w' => e = .returned (.bool true) ∧ Below w.heap.size w w' := by
  go_enter Try.func7, Try.ntmps7
  go_wp2_with fail
  have I0 : ∀ W, W = (w.alloc (.cells #[.int .i64 z, .int .i64 x, .int .i64 y] 23)).alloc (.cells #[.int .i64 u, .int .i64 v, .int .i64 t] 23) → (W.cell? ⟨w.heap.size, 0, none⟩ = some (.int .i64 z) ∧ W.cell? ⟨w.heap.size, 1, none⟩ = some (.int .i64 x) ∧ W.cell? ⟨w.heap.size, 2, none⟩ = some (.int .i64 y) ∧ W.cell? ⟨w.heap.size + 1, 0, none⟩ = some (.int .i64 u) ∧ W.cell? ⟨w.heap.size + 1, 1, none⟩ = some (.int .i64 v) ∧ W.cell? ⟨w.heap.size + 1, 2, none⟩ = some (.int .i64 t)) ∧ Below w.heap.size w W := by
    intro W e; subst e
    refine ⟨⟨by go_simp, by go_simp, by go_simp, by go_simp, by go_simp, by go_simp⟩, ?_⟩
    (repeat (first | exact Below.refl _ _ | (refine Below.alloc ?_ (by first | omega | (simp <;> omega)) _)))
  have J0 := I0 _ rfl; clear I0
  generalize (w.alloc (.cells #[.int .i64 z, .int .i64 x, .int .i64 y] 23)).alloc (.cells #[.int .i64 u, .int .i64 v, .int .i64 t] 23) = W0 at J0 ⊢
  obtain ⟨⟨f1, f2, f3, f4, f5, f6⟩, bb0⟩ := J0
  have B0 := Lib.hid bb0; clear bb0
  have S0 : Hid (∀ W, W = W0.drew → Below w.heap.size w W ∧ W.cell? ⟨w.heap.size, 0, none⟩ = some (.int .i64 z) ∧ W.cell? ⟨w.heap.size, 1, none⟩ = some (.int .i64 x) ∧ W.cell? ⟨w.heap.size, 2, none⟩ = some (.int .i64 y) ∧ W.cell? ⟨w.heap.size + 1, 0, none⟩ = some (.int .i64 u) ∧ W.cell? ⟨w.heap.size + 1, 1, none⟩ = some (.int .i64 v) ∧ W.cell? ⟨w.heap.size + 1, 2, none⟩ = some (.int .i64 t)) := by
    intro W e; subst e
    exact ⟨B0.out.drew, by go_simp, by go_simp, by go_simp, by go_simp, by go_simp, by go_simp⟩
  go_region_held3 (fun w' => Below w.heap.size w w' ∧ w'.cell? ⟨w.heap.size, 0, none⟩ = some (.int .i64 z) ∧ w'.cell? ⟨w.heap.size, 1, none⟩ = some (.int .i64 x) ∧ w'.cell? ⟨w.heap.size, 2, none⟩ = some (.int .i64 y) ∧ w'.cell? ⟨w.heap.size + 1, 0, none⟩ = some (.int .i64 u) ∧ w'.cell? ⟨w.heap.size + 1, 1, none⟩ = some (.int .i64 v) ∧ w'.cell? ⟨w.heap.size + 1, 2, none⟩ = some (.int .i64 t))
    (first | exact S0.out _ rfl | assumption | exact keep6 (by assumption) (by assumption))
    (first | (go_at_call 27; (with_reducible refine (CA.out _).mono ?_); rintro e w9 ⟨rfl, bw9⟩) | (go_at_call 27; (with_reducible refine (CB.out _).mono ?_); rintro e w9 ⟨rfl, bw9⟩))
  rename_i hHeld
  clear f1 f2 f3 f4 f5 f6
  obtain ⟨hB, f1, f2, f3, f4, f5, f6⟩ := hHeld
  have B1_ := Lib.hid hB; clear hB S0
  have hz1 : w.heap.size < w9.heap.size := cell_lt f1
  have hz2 : w.heap.size + 1 < w9.heap.size := cell_lt f4
  go_wp2_with fail
  refine (CT.out _).mono ?_; rintro e w2 ⟨rfl, hb⟩
  replace f1 := old hb f1; replace f2 := old hb f2; replace f3 := old hb f3; replace f4 := old hb f4; replace f5 := old hb f5; replace f6 := old hb f6
  have B3_ := Lib.hid (B1_.out.trans (hb.mono B1_.out.size)); clear hb
  clear hz1 hz2
  have hz1 : w.heap.size < w2.heap.size := cell_lt f1
  have hz2 : w.heap.size + 1 < w2.heap.size := cell_lt f4
  go_wp2_with fail
  have I4 : ∀ W, W = w2.alloc (.cells #[.int .i64 z, .int .i64 x, .int .i64 y] 23) → (W.cell? ⟨w2.heap.size, 0, none⟩ = some (.int .i64 z) ∧ W.cell? ⟨w2.heap.size, 1, none⟩ = some (.int .i64 x) ∧ W.cell? ⟨w2.heap.size, 2, none⟩ = some (.int .i64 y)) ∧ Below w2.heap.size w2 W := by
    intro W e; subst e
    refine ⟨⟨by go_simp, by go_simp, by go_simp⟩, ?_⟩
    exact (Below.refl _ _).alloc (Nat.le_refl _) _
  have J4 := I4 _ rfl; clear I4
  generalize w2.alloc (.cells #[.int .i64 z, .int .i64 x, .int .i64 y] 23) = W4 at J4 ⊢
  obtain ⟨⟨f7, f8, f9⟩, bb4⟩ := J4
  replace f1 := old bb4 f1; replace f2 := old bb4 f2; replace f3 := old bb4 f3; replace f4 := old bb4 f4; replace f5 := old bb4 f5; replace f6 := old bb4 f6
  have B5_ := Lib.hid (B3_.out.trans (bb4.mono B3_.out.size)); clear bb4
  refine (checkT_any _ _ _ _).mono ?_; rintro e w6 ⟨rfl, hb⟩; rw [HK.out]
  replace f1 := old hb f1; replace f2 := old hb f2; replace f3 := old hb f3; replace f4 := old hb f4; replace f5 := old hb f5; replace f6 := old hb f6; replace f7 := old hb f7; replace f8 := old hb f8; replace f9 := old hb f9
  have B7_ := Lib.hid (B5_.out.trans (hb.mono B5_.out.size)); clear hb
  clear hz1 hz2
  have hz1 : w.heap.size < w6.heap.size := cell_lt f1
  have hz2 : w.heap.size + 1 < w6.heap.size := cell_lt f4
  have hz3 : w2.heap.size < w6.heap.size := cell_lt f7
  go_wp2_with fail
  refine (CL.out _).mono ?_; rintro e w8 ⟨rfl, hb⟩
  replace f1 := old hb f1; replace f2 := old hb f2; replace f3 := old hb f3; replace f4 := old hb f4; replace f5 := old hb f5; replace f6 := old hb f6; replace f7 := old hb f7; replace f8 := old hb f8; replace f9 := old hb f9
  have B9_ := Lib.hid (B7_.out.trans (hb.mono B7_.out.size)); clear hb
  clear hz1 hz2 hz3
  have hz1 : w.heap.size < w8.heap.size := cell_lt f1
  have hz2 : w.heap.size + 1 < w8.heap.size := cell_lt f4
  have hz3 : w2.heap.size < w8.heap.size := cell_lt f7
  go_wp2_with fail
  refine (CI.out _).mono ?_; rintro e w10 ⟨rfl, hb⟩
  replace f1 := old hb f1; replace f2 := old hb f2; replace f3 := old hb f3; replace f4 := old hb f4; replace f5 := old hb f5; replace f6 := old hb f6; replace f7 := old hb f7; replace f8 := old hb f8; replace f9 := old hb f9
  have B11_ := Lib.hid (B9_.out.trans (hb.mono B9_.out.size)); clear hb
  clear hz1 hz2 hz3
  have hz1 : w.heap.size < w10.heap.size := cell_lt f1
  have hz2 : w.heap.size + 1 < w10.heap.size := cell_lt f4
  have hz3 : w2.heap.size < w10.heap.size := cell_lt f7
  go_wp2_with fail
  have I12 : ∀ W, W = w10.alloc (.cells #[.int .i64 0, .int .i64 0, .int .i64 0] 23) → (W.cell? ⟨w10.heap.size, 0, none⟩ = some (.int .i64 0) ∧ W.cell? ⟨w10.heap.size, 1, none⟩ = some (.int .i64 0) ∧ W.cell? ⟨w10.heap.size, 2, none⟩ = some (.int .i64 0)) ∧ Below w10.heap.size w10 W := by
    intro W e; subst e
    refine ⟨⟨by go_simp, by go_simp, by go_simp⟩, ?_⟩
    exact (Below.refl _ _).alloc (Nat.le_refl _) _
  have J12 := I12 _ rfl; clear I12
  generalize w10.alloc (.cells #[.int .i64 0, .int .i64 0, .int .i64 0] 23) = W12 at J12 ⊢
  obtain ⟨⟨f10, f11, f12⟩, bb12⟩ := J12
  replace f1 := old bb12 f1; replace f2 := old bb12 f2; replace f3 := old bb12 f3; replace f4 := old bb12 f4; replace f5 := old bb12 f5; replace f6 := old bb12 f6; replace f7 := old bb12 f7; replace f8 := old bb12 f8; replace f9 := old bb12 f9
  have B13_ := Lib.hid (B11_.out.trans (bb12.mono B11_.out.size)); clear bb12
  refine (lives_any _).mono ?_; rintro e w14 ⟨rfl, hb⟩
  replace f1 := old hb f1; replace f2 := old hb f2; replace f3 := old hb f3; replace f4 := old hb f4; replace f5 := old hb f5; replace f6 := old hb f6; replace f7 := old hb f7; replace f8 := old hb f8; replace f9 := old hb f9; replace f10 := old hb f10; replace f11 := old hb f11; replace f12 := old hb f12
  have B15_ := Lib.hid (B13_.out.trans (hb.mono B13_.out.size)); clear hb
  clear hz1 hz2 hz3
  have hz1 : w.heap.size < w14.heap.size := cell_lt f1
  have hz2 : w.heap.size + 1 < w14.heap.size := cell_lt f4
  have hz3 : w2.heap.size < w14.heap.size := cell_lt f7
  have hz4 : w10.heap.size < w14.heap.size := cell_lt f10
  go_wp2_with fail
  go_ret
  exact ⟨rfl, B15_.out⟩
set_option maxRecDepth 100000 in
set_option maxHeartbeats 4000000 in
theorem num_3 (z x y u v t id n m : Int) (w : World) (CA : Hid (∀ W, Calls Try.prog 27 #[tl z x y] W fun e w' => e = .returned (.int .i64 n) ∧ Below W.heap.size W w')) (CB : Hid (∀ W, Calls Try.prog 27 #[tl u v t] W fun e w' => e = .returned (.int .i64 m) ∧ Below W.heap.size W w')) (hn : 0 ≤ n) (HK : Hid (chkT z x y = 0)) (CT : Hid (∀ W, Calls Try.prog 20 #[.int .i64 n] W fun e w' => e = .returned (.tuple #[tl z x y, .bool true]) ∧ Below W.heap.size W w')) (hm : m < 0) (P Q R : Int) (hi0 : 0 ≤ id) (hi1 : id < 21845) (CI : Hid (∀ W, Calls Try.prog 20 #[.int .i64 id] W fun e w' => e = .returned (.tuple #[tl P Q R, .bool true]) ∧ Below W.heap.size W w')) (CX : Hid (∀ W, Calls Try.prog 27 #[tl P Q R] W fun e w' => e = .returned (.int .i64 id) ∧ Below W.heap.size W w')) :
    Calls Try.prog 7 #[tl z x y, tl u v t, .int .i64 id] w fun e w' => e = .returned (.bool true) ∧ Below w.heap.size w w' := by
  go_enter Try.func7, Try.ntmps7
  go_wp2_with fail
  have I0 : ∀ W, W = (w.alloc (.cells #[.int .i64 z, .int .i64 x, .int .i64 y] 23)).alloc (.cells #[.int .i64 u, .int .i64 v, .int .i64 t] 23) → (W.cell? ⟨w.heap.size, 0, none⟩ = some (.int .i64 z) ∧ W.cell? ⟨w.heap.size, 1, none⟩ = some (.int .i64 x) ∧ W.cell? ⟨w.heap.size, 2, none⟩ = some (.int .i64 y) ∧ W.cell? ⟨w.heap.size + 1, 0, none⟩ = some (.int .i64 u) ∧ W.cell? ⟨w.heap.size + 1, 1, none⟩ = some (.int .i64 v) ∧ W.cell? ⟨w.heap.size + 1, 2, none⟩ = some (.int .i64 t)) ∧ Below w.heap.size w W := by
    intro W e; subst e
    refine ⟨⟨by go_simp, by go_simp, by go_simp, by go_simp, by go_simp, by go_simp⟩, ?_⟩
    (repeat (first | exact Below.refl _ _ | (refine Below.alloc ?_ (by first | omega | (simp <;> omega)) _)))
  have J0 := I0 _ rfl; clear I0
  generalize (w.alloc (.cells #[.int .i64 z, .int .i64 x, .int .i64 y] 23)).alloc (.cells #[.int .i64 u, .int .i64 v, .int .i64 t] 23) = W0 at J0 ⊢
  obtain ⟨⟨f1, f2, f3, f4, f5, f6⟩, bb0⟩ := J0
  have B0 := Lib.hid bb0; clear bb0
  have S0 : Hid (∀ W, W = W0.drew → Below w.heap.size w W ∧ W.cell? ⟨w.heap.size, 0, none⟩ = some (.int .i64 z) ∧ W.cell? ⟨w.heap.size, 1, none⟩ = some (.int .i64 x) ∧ W.cell? ⟨w.heap.size, 2, none⟩ = some (.int .i64 y) ∧ W.cell? ⟨w.heap.size + 1, 0, none⟩ = some (.int .i64 u) ∧ W.cell? ⟨w.heap.size + 1, 1, none⟩ = some (.int .i64 v) ∧ W.cell? ⟨w.heap.size + 1, 2, none⟩ = some (.int .i64 t)) := by
    intro W e; subst e
    exact ⟨B0.out.drew, by go_simp, by go_simp, by go_simp, by go_simp, by go_simp, by go_simp⟩
  go_region_held3 (fun w' => Below w.heap.size w w' ∧ w'.cell? ⟨w.heap.size, 0, none⟩ = some (.int .i64 z) ∧ w'.cell? ⟨w.heap.size, 1, none⟩ = some (.int .i64 x) ∧ w'.cell? ⟨w.heap.size, 2, none⟩ = some (.int .i64 y) ∧ w'.cell? ⟨w.heap.size + 1, 0, none⟩ = some (.int .i64 u) ∧ w'.cell? ⟨w.heap.size + 1, 1, none⟩ = some (.int .i64 v) ∧ w'.cell? ⟨w.heap.size + 1, 2, none⟩ = some (.int .i64 t))
    (first | exact S0.out _ rfl | assumption | exact keep6 (by assumption) (by assumption))
    (first | (go_at_call 27; (with_reducible refine (CA.out _).mono ?_); rintro e w9 ⟨rfl, bw9⟩) | (go_at_call 27; (with_reducible refine (CB.out _).mono ?_); rintro e w9 ⟨rfl, bw9⟩))
  rename_i hHeld
  clear f1 f2 f3 f4 f5 f6
  obtain ⟨hB, f1, f2, f3, f4, f5, f6⟩ := hHeld
  have B1_ := Lib.hid hB; clear hB S0
  have hz1 : w.heap.size < w9.heap.size := cell_lt f1
  have hz2 : w.heap.size + 1 < w9.heap.size := cell_lt f4
  go_wp2_with fail
  refine (CT.out _).mono ?_; rintro e w2 ⟨rfl, hb⟩
  replace f1 := old hb f1; replace f2 := old hb f2; replace f3 := old hb f3; replace f4 := old hb f4; replace f5 := old hb f5; replace f6 := old hb f6
  have B3_ := Lib.hid (B1_.out.trans (hb.mono B1_.out.size)); clear hb
  clear hz1 hz2
  have hz1 : w.heap.size < w2.heap.size := cell_lt f1
  have hz2 : w.heap.size + 1 < w2.heap.size := cell_lt f4
  go_wp2_with fail
  have I4 : ∀ W, W = w2.alloc (.cells #[.int .i64 z, .int .i64 x, .int .i64 y] 23) → (W.cell? ⟨w2.heap.size, 0, none⟩ = some (.int .i64 z) ∧ W.cell? ⟨w2.heap.size, 1, none⟩ = some (.int .i64 x) ∧ W.cell? ⟨w2.heap.size, 2, none⟩ = some (.int .i64 y)) ∧ Below w2.heap.size w2 W := by
    intro W e; subst e
    refine ⟨⟨by go_simp, by go_simp, by go_simp⟩, ?_⟩
    exact (Below.refl _ _).alloc (Nat.le_refl _) _
  have J4 := I4 _ rfl; clear I4
  generalize w2.alloc (.cells #[.int .i64 z, .int .i64 x, .int .i64 y] 23) = W4 at J4 ⊢
  obtain ⟨⟨f7, f8, f9⟩, bb4⟩ := J4
  replace f1 := old bb4 f1; replace f2 := old bb4 f2; replace f3 := old bb4 f3; replace f4 := old bb4 f4; replace f5 := old bb4 f5; replace f6 := old bb4 f6
  have B5_ := Lib.hid (B3_.out.trans (bb4.mono B3_.out.size)); clear bb4
  refine (checkT_any _ _ _ _).mono ?_; rintro e w6 ⟨rfl, hb⟩; rw [HK.out]
  replace f1 := old hb f1; replace f2 := old hb f2; replace f3 := old hb f3; replace f4 := old hb f4; replace f5 := old hb f5; replace f6 := old hb f6; replace f7 := old hb f7; replace f8 := old hb f8; replace f9 := old hb f9
  have B7_ := Lib.hid (B5_.out.trans (hb.mono B5_.out.size)); clear hb
  clear hz1 hz2
  have hz1 : w.heap.size < w6.heap.size := cell_lt f1
  have hz2 : w.heap.size + 1 < w6.heap.size := cell_lt f4
  have hz3 : w2.heap.size < w6.heap.size := cell_lt f7
  go_wp2_with fail
  refine (CI.out _).mono ?_; rintro e w8 ⟨rfl, hb⟩
  replace f1 := old hb f1; replace f2 := old hb f2; replace f3 := old hb f3; replace f4 := old hb f4; replace f5 := old hb f5; replace f6 := old hb f6; replace f7 := old hb f7; replace f8 := old hb f8; replace f9 := old hb f9
  have B9_ := Lib.hid (B7_.out.trans (hb.mono B7_.out.size)); clear hb
  clear hz1 hz2 hz3
  have hz1 : w.heap.size < w8.heap.size := cell_lt f1
  have hz2 : w.heap.size + 1 < w8.heap.size := cell_lt f4
  have hz3 : w2.heap.size < w8.heap.size := cell_lt f7
  go_wp2_with fail
  have I10 : ∀ W, W = w8.alloc (.cells #[.int .i64 P, .int .i64 Q, .int .i64 R] 23) → (W.cell? ⟨w8.heap.size, 0, none⟩ = some (.int .i64 P) ∧ W.cell? ⟨w8.heap.size, 1, none⟩ = some (.int .i64 Q) ∧ W.cell? ⟨w8.heap.size, 2, none⟩ = some (.int .i64 R)) ∧ Below w8.heap.size w8 W := by
    intro W e; subst e
    refine ⟨⟨by go_simp, by go_simp, by go_simp⟩, ?_⟩
    exact (Below.refl _ _).alloc (Nat.le_refl _) _
  have J10 := I10 _ rfl; clear I10
  generalize w8.alloc (.cells #[.int .i64 P, .int .i64 Q, .int .i64 R] 23) = W10 at J10 ⊢
  obtain ⟨⟨f10, f11, f12⟩, bb10⟩ := J10
  replace f1 := old bb10 f1; replace f2 := old bb10 f2; replace f3 := old bb10 f3; replace f4 := old bb10 f4; replace f5 := old bb10 f5; replace f6 := old bb10 f6; replace f7 := old bb10 f7; replace f8 := old bb10 f8; replace f9 := old bb10 f9
  have B11_ := Lib.hid (B9_.out.trans (bb10.mono B9_.out.size)); clear bb10
  refine (CX.out _).mono ?_; rintro e w12 ⟨rfl, hb⟩
  replace f1 := old hb f1; replace f2 := old hb f2; replace f3 := old hb f3; replace f4 := old hb f4; replace f5 := old hb f5; replace f6 := old hb f6; replace f7 := old hb f7; replace f8 := old hb f8; replace f9 := old hb f9; replace f10 := old hb f10; replace f11 := old hb f11; replace f12 := old hb f12
  have B13_ := Lib.hid (B11_.out.trans (hb.mono B11_.out.size)); clear hb
  clear hz1 hz2 hz3
  have hz1 : w.heap.size < w12.heap.size := cell_lt f1
  have hz2 : w.heap.size + 1 < w12.heap.size := cell_lt f4
  have hz3 : w2.heap.size < w12.heap.size := cell_lt f7
  have hz4 : w8.heap.size < w12.heap.size := cell_lt f10
  go_wp2_with fail
  refine (lives_any _).mono ?_; rintro e w14 ⟨rfl, hb⟩
  replace f1 := old hb f1; replace f2 := old hb f2; replace f3 := old hb f3; replace f4 := old hb f4; replace f5 := old hb f5; replace f6 := old hb f6; replace f7 := old hb f7; replace f8 := old hb f8; replace f9 := old hb f9; replace f10 := old hb f10; replace f11 := old hb f11; replace f12 := old hb f12
  have B15_ := Lib.hid (B13_.out.trans (hb.mono B13_.out.size)); clear hb
  clear hz1 hz2 hz3 hz4
  have hz1 : w.heap.size < w14.heap.size := cell_lt f1
  have hz2 : w.heap.size + 1 < w14.heap.size := cell_lt f4
  have hz3 : w2.heap.size < w14.heap.size := cell_lt f7
  have hz4 : w8.heap.size < w14.heap.size := cell_lt f10
  go_wp2_with fail
  go_ret
  exact ⟨rfl, B15_.out⟩
set_option maxRecDepth 100000 in
set_option maxHeartbeats 4000000 in
theorem num_4 (z x y u v t id n m : Int) (w : World) (CA : Hid (∀ W, Calls Try.prog 27 #[tl z x y] W fun e w' => e = .returned (.int .i64 n) ∧ Below W.heap.size W w')) (CB : Hid (∀ W, Calls Try.prog 27 #[tl u v t] W fun e w' => e = .returned (.int .i64 m) ∧ Below W.heap.size W w')) (hn : 0 ≤ n) (HK : Hid (chkT z x y = 0)) (CT : Hid (∀ W, Calls Try.prog 20 #[.int .i64 n] W fun e w' => e = .returned (.tuple #[tl z x y, .bool true]) ∧ Below W.heap.size W w')) (hm : m < 0) (hi0 : id < 0) (CI : Hid (∀ W, Calls Try.prog 20 #[.int .i64 id] W fun e w' => e = .returned (.tuple #[tl 0 0 0, .bool false]) ∧ Below W.heap.size W w')) :
    Calls Try.prog 7 #[tl z x y, tl u v t, .int .i64 id] w fun e w' => e = .returned (.bool true) ∧ Below w.heap.size w w' := by
  go_enter Try.func7, Try.ntmps7
  go_wp2_with fail
  have I0 : ∀ W, W = (w.alloc (.cells #[.int .i64 z, .int .i64 x, .int .i64 y] 23)).alloc (.cells #[.int .i64 u, .int .i64 v, .int .i64 t] 23) → (W.cell? ⟨w.heap.size, 0, none⟩ = some (.int .i64 z) ∧ W.cell? ⟨w.heap.size, 1, none⟩ = some (.int .i64 x) ∧ W.cell? ⟨w.heap.size, 2, none⟩ = some (.int .i64 y) ∧ W.cell? ⟨w.heap.size + 1, 0, none⟩ = some (.int .i64 u) ∧ W.cell? ⟨w.heap.size + 1, 1, none⟩ = some (.int .i64 v) ∧ W.cell? ⟨w.heap.size + 1, 2, none⟩ = some (.int .i64 t)) ∧ Below w.heap.size w W := by
    intro W e; subst e
    refine ⟨⟨by go_simp, by go_simp, by go_simp, by go_simp, by go_simp, by go_simp⟩, ?_⟩
    (repeat (first | exact Below.refl _ _ | (refine Below.alloc ?_ (by first | omega | (simp <;> omega)) _)))
  have J0 := I0 _ rfl; clear I0
  generalize (w.alloc (.cells #[.int .i64 z, .int .i64 x, .int .i64 y] 23)).alloc (.cells #[.int .i64 u, .int .i64 v, .int .i64 t] 23) = W0 at J0 ⊢
  obtain ⟨⟨f1, f2, f3, f4, f5, f6⟩, bb0⟩ := J0
  have B0 := Lib.hid bb0; clear bb0
  have S0 : Hid (∀ W, W = W0.drew → Below w.heap.size w W ∧ W.cell? ⟨w.heap.size, 0, none⟩ = some (.int .i64 z) ∧ W.cell? ⟨w.heap.size, 1, none⟩ = some (.int .i64 x) ∧ W.cell? ⟨w.heap.size, 2, none⟩ = some (.int .i64 y) ∧ W.cell? ⟨w.heap.size + 1, 0, none⟩ = some (.int .i64 u) ∧ W.cell? ⟨w.heap.size + 1, 1, none⟩ = some (.int .i64 v) ∧ W.cell? ⟨w.heap.size + 1, 2, none⟩ = some (.int .i64 t)) := by
    intro W e; subst e
    exact ⟨B0.out.drew, by go_simp, by go_simp, by go_simp, by go_simp, by go_simp, by go_simp⟩
  go_region_held3 (fun w' => Below w.heap.size w w' ∧ w'.cell? ⟨w.heap.size, 0, none⟩ = some (.int .i64 z) ∧ w'.cell? ⟨w.heap.size, 1, none⟩ = some (.int .i64 x) ∧ w'.cell? ⟨w.heap.size, 2, none⟩ = some (.int .i64 y) ∧ w'.cell? ⟨w.heap.size + 1, 0, none⟩ = some (.int .i64 u) ∧ w'.cell? ⟨w.heap.size + 1, 1, none⟩ = some (.int .i64 v) ∧ w'.cell? ⟨w.heap.size + 1, 2, none⟩ = some (.int .i64 t))
    (first | exact S0.out _ rfl | assumption | exact keep6 (by assumption) (by assumption))
    (first | (go_at_call 27; (with_reducible refine (CA.out _).mono ?_); rintro e w9 ⟨rfl, bw9⟩) | (go_at_call 27; (with_reducible refine (CB.out _).mono ?_); rintro e w9 ⟨rfl, bw9⟩))
  rename_i hHeld
  clear f1 f2 f3 f4 f5 f6
  obtain ⟨hB, f1, f2, f3, f4, f5, f6⟩ := hHeld
  have B1_ := Lib.hid hB; clear hB S0
  have hz1 : w.heap.size < w9.heap.size := cell_lt f1
  have hz2 : w.heap.size + 1 < w9.heap.size := cell_lt f4
  go_wp2_with fail
  refine (CT.out _).mono ?_; rintro e w2 ⟨rfl, hb⟩
  replace f1 := old hb f1; replace f2 := old hb f2; replace f3 := old hb f3; replace f4 := old hb f4; replace f5 := old hb f5; replace f6 := old hb f6
  have B3_ := Lib.hid (B1_.out.trans (hb.mono B1_.out.size)); clear hb
  clear hz1 hz2
  have hz1 : w.heap.size < w2.heap.size := cell_lt f1
  have hz2 : w.heap.size + 1 < w2.heap.size := cell_lt f4
  go_wp2_with fail
  have I4 : ∀ W, W = w2.alloc (.cells #[.int .i64 z, .int .i64 x, .int .i64 y] 23) → (W.cell? ⟨w2.heap.size, 0, none⟩ = some (.int .i64 z) ∧ W.cell? ⟨w2.heap.size, 1, none⟩ = some (.int .i64 x) ∧ W.cell? ⟨w2.heap.size, 2, none⟩ = some (.int .i64 y)) ∧ Below w2.heap.size w2 W := by
    intro W e; subst e
    refine ⟨⟨by go_simp, by go_simp, by go_simp⟩, ?_⟩
    exact (Below.refl _ _).alloc (Nat.le_refl _) _
  have J4 := I4 _ rfl; clear I4
  generalize w2.alloc (.cells #[.int .i64 z, .int .i64 x, .int .i64 y] 23) = W4 at J4 ⊢
  obtain ⟨⟨f7, f8, f9⟩, bb4⟩ := J4
  replace f1 := old bb4 f1; replace f2 := old bb4 f2; replace f3 := old bb4 f3; replace f4 := old bb4 f4; replace f5 := old bb4 f5; replace f6 := old bb4 f6
  have B5_ := Lib.hid (B3_.out.trans (bb4.mono B3_.out.size)); clear bb4
  refine (checkT_any _ _ _ _).mono ?_; rintro e w6 ⟨rfl, hb⟩; rw [HK.out]
  replace f1 := old hb f1; replace f2 := old hb f2; replace f3 := old hb f3; replace f4 := old hb f4; replace f5 := old hb f5; replace f6 := old hb f6; replace f7 := old hb f7; replace f8 := old hb f8; replace f9 := old hb f9
  have B7_ := Lib.hid (B5_.out.trans (hb.mono B5_.out.size)); clear hb
  clear hz1 hz2
  have hz1 : w.heap.size < w6.heap.size := cell_lt f1
  have hz2 : w.heap.size + 1 < w6.heap.size := cell_lt f4
  have hz3 : w2.heap.size < w6.heap.size := cell_lt f7
  go_wp2_with fail
  refine (CI.out _).mono ?_; rintro e w8 ⟨rfl, hb⟩
  replace f1 := old hb f1; replace f2 := old hb f2; replace f3 := old hb f3; replace f4 := old hb f4; replace f5 := old hb f5; replace f6 := old hb f6; replace f7 := old hb f7; replace f8 := old hb f8; replace f9 := old hb f9
  have B9_ := Lib.hid (B7_.out.trans (hb.mono B7_.out.size)); clear hb
  clear hz1 hz2 hz3
  have hz1 : w.heap.size < w8.heap.size := cell_lt f1
  have hz2 : w.heap.size + 1 < w8.heap.size := cell_lt f4
  have hz3 : w2.heap.size < w8.heap.size := cell_lt f7
  go_wp2_with fail
  have I10 : ∀ W, W = w8.alloc (.cells #[.int .i64 0, .int .i64 0, .int .i64 0] 23) → (W.cell? ⟨w8.heap.size, 0, none⟩ = some (.int .i64 0) ∧ W.cell? ⟨w8.heap.size, 1, none⟩ = some (.int .i64 0) ∧ W.cell? ⟨w8.heap.size, 2, none⟩ = some (.int .i64 0)) ∧ Below w8.heap.size w8 W := by
    intro W e; subst e
    refine ⟨⟨by go_simp, by go_simp, by go_simp⟩, ?_⟩
    exact (Below.refl _ _).alloc (Nat.le_refl _) _
  have J10 := I10 _ rfl; clear I10
  generalize w8.alloc (.cells #[.int .i64 0, .int .i64 0, .int .i64 0] 23) = W10 at J10 ⊢
  obtain ⟨⟨f10, f11, f12⟩, bb10⟩ := J10
  replace f1 := old bb10 f1; replace f2 := old bb10 f2; replace f3 := old bb10 f3; replace f4 := old bb10 f4; replace f5 := old bb10 f5; replace f6 := old bb10 f6; replace f7 := old bb10 f7; replace f8 := old bb10 f8; replace f9 := old bb10 f9
  have B11_ := Lib.hid (B9_.out.trans (bb10.mono B9_.out.size)); clear bb10
  refine (lives_any _).mono ?_; rintro e w12 ⟨rfl, hb⟩
  replace f1 := old hb f1; replace f2 := old hb f2; replace f3 := old hb f3; replace f4 := old hb f4; replace f5 := old hb f5; replace f6 := old hb f6; replace f7 := old hb f7; replace f8 := old hb f8; replace f9 := old hb f9; replace f10 := old hb f10; replace f11 := old hb f11; replace f12 := old hb f12
  have B13_ := Lib.hid (B11_.out.trans (hb.mono B11_.out.size)); clear hb
  clear hz1 hz2 hz3
  have hz1 : w.heap.size < w12.heap.size := cell_lt f1
  have hz2 : w.heap.size + 1 < w12.heap.size := cell_lt f4
  have hz3 : w2.heap.size < w12.heap.size := cell_lt f7
  have hz4 : w8.heap.size < w12.heap.size := cell_lt f10
  go_wp2_with fail
  go_ret
  exact ⟨rfl, B13_.out⟩
set_option maxRecDepth 100000 in
set_option maxHeartbeats 4000000 in
theorem num_5 (z x y u v t id n m : Int) (w : World) (CA : Hid (∀ W, Calls Try.prog 27 #[tl z x y] W fun e w' => e = .returned (.int .i64 n) ∧ Below W.heap.size W w')) (CB : Hid (∀ W, Calls Try.prog 27 #[tl u v t] W fun e w' => e = .returned (.int .i64 m) ∧ Below W.heap.size W w')) (hn : 0 ≤ n) (HK : Hid (chkT z x y = 0)) (CT : Hid (∀ W, Calls Try.prog 20 #[.int .i64 n] W fun e w' => e = .returned (.tuple #[tl z x y, .bool true]) ∧ Below W.heap.size W w')) (hm : m < 0) (hi0 : 0 ≤ id) (hi1 : decide (id < 21845) = false) (CI : Hid (∀ W, Calls Try.prog 20 #[.int .i64 id] W fun e w' => e = .returned (.tuple #[tl 0 0 0, .bool false]) ∧ Below W.heap.size W w')) :
    Calls Try.prog 7 #[tl z x y, tl u v t, .int .i64 id] w fun e w' => e = .returned (.bool true) ∧ Below w.heap.size w w' := by
  go_enter Try.func7, Try.ntmps7
  go_wp2_with fail
  have I0 : ∀ W, W = (w.alloc (.cells #[.int .i64 z, .int .i64 x, .int .i64 y] 23)).alloc (.cells #[.int .i64 u, .int .i64 v, .int .i64 t] 23) → (W.cell? ⟨w.heap.size, 0, none⟩ = some (.int .i64 z) ∧ W.cell? ⟨w.heap.size, 1, none⟩ = some (.int .i64 x) ∧ W.cell? ⟨w.heap.size, 2, none⟩ = some (.int .i64 y) ∧ W.cell? ⟨w.heap.size + 1, 0, none⟩ = some (.int .i64 u) ∧ W.cell? ⟨w.heap.size + 1, 1, none⟩ = some (.int .i64 v) ∧ W.cell? ⟨w.heap.size + 1, 2, none⟩ = some (.int .i64 t)) ∧ Below w.heap.size w W := by
    intro W e; subst e
    refine ⟨⟨by go_simp, by go_simp, by go_simp, by go_simp, by go_simp, by go_simp⟩, ?_⟩
    (repeat (first | exact Below.refl _ _ | (refine Below.alloc ?_ (by first | omega | (simp <;> omega)) _)))
  have J0 := I0 _ rfl; clear I0
  generalize (w.alloc (.cells #[.int .i64 z, .int .i64 x, .int .i64 y] 23)).alloc (.cells #[.int .i64 u, .int .i64 v, .int .i64 t] 23) = W0 at J0 ⊢
  obtain ⟨⟨f1, f2, f3, f4, f5, f6⟩, bb0⟩ := J0
  have B0 := Lib.hid bb0; clear bb0
  have S0 : Hid (∀ W, W = W0.drew → Below w.heap.size w W ∧ W.cell? ⟨w.heap.size, 0, none⟩ = some (.int .i64 z) ∧ W.cell? ⟨w.heap.size, 1, none⟩ = some (.int .i64 x) ∧ W.cell? ⟨w.heap.size, 2, none⟩ = some (.int .i64 y) ∧ W.cell? ⟨w.heap.size + 1, 0, none⟩ = some (.int .i64 u) ∧ W.cell? ⟨w.heap.size + 1, 1, none⟩ = some (.int .i64 v) ∧ W.cell? ⟨w.heap.size + 1, 2, none⟩ = some (.int .i64 t)) := by
    intro W e; subst e
    exact ⟨B0.out.drew, by go_simp, by go_simp, by go_simp, by go_simp, by go_simp, by go_simp⟩
  go_region_held3 (fun w' => Below w.heap.size w w' ∧ w'.cell? ⟨w.heap.size, 0, none⟩ = some (.int .i64 z) ∧ w'.cell? ⟨w.heap.size, 1, none⟩ = some (.int .i64 x) ∧ w'.cell? ⟨w.heap.size, 2, none⟩ = some (.int .i64 y) ∧ w'.cell? ⟨w.heap.size + 1, 0, none⟩ = some (.int .i64 u) ∧ w'.cell? ⟨w.heap.size + 1, 1, none⟩ = some (.int .i64 v) ∧ w'.cell? ⟨w.heap.size + 1, 2, none⟩ = some (.int .i64 t))
    (first | exact S0.out _ rfl | assumption | exact keep6 (by assumption) (by assumption))
    (first | (go_at_call 27; (with_reducible refine (CA.out _).mono ?_); rintro e w9 ⟨rfl, bw9⟩) | (go_at_call 27; (with_reducible refine (CB.out _).mono ?_); rintro e w9 ⟨rfl, bw9⟩))
  rename_i hHeld
  clear f1 f2 f3 f4 f5 f6
  obtain ⟨hB, f1, f2, f3, f4, f5, f6⟩ := hHeld
  have B1_ := Lib.hid hB; clear hB S0
  have hz1 : w.heap.size < w9.heap.size := cell_lt f1
  have hz2 : w.heap.size + 1 < w9.heap.size := cell_lt f4
  go_wp2_with fail
  refine (CT.out _).mono ?_; rintro e w2 ⟨rfl, hb⟩
  replace f1 := old hb f1; replace f2 := old hb f2; replace f3 := old hb f3; replace f4 := old hb f4; replace f5 := old hb f5; replace f6 := old hb f6
  have B3_ := Lib.hid (B1_.out.trans (hb.mono B1_.out.size)); clear hb
  clear hz1 hz2
  have hz1 : w.heap.size < w2.heap.size := cell_lt f1
  have hz2 : w.heap.size + 1 < w2.heap.size := cell_lt f4
  go_wp2_with fail
  have I4 : ∀ W, W = w2.alloc (.cells #[.int .i64 z, .int .i64 x, .int .i64 y] 23) → (W.cell? ⟨w2.heap.size, 0, none⟩ = some (.int .i64 z) ∧ W.cell? ⟨w2.heap.size, 1, none⟩ = some (.int .i64 x) ∧ W.cell? ⟨w2.heap.size, 2, none⟩ = some (.int .i64 y)) ∧ Below w2.heap.size w2 W := by
    intro W e; subst e
    refine ⟨⟨by go_simp, by go_simp, by go_simp⟩, ?_⟩
    exact (Below.refl _ _).alloc (Nat.le_refl _) _
  have J4 := I4 _ rfl; clear I4
  generalize w2.alloc (.cells #[.int .i64 z, .int .i64 x, .int .i64 y] 23) = W4 at J4 ⊢
  obtain ⟨⟨f7, f8, f9⟩, bb4⟩ := J4
  replace f1 := old bb4 f1; replace f2 := old bb4 f2; replace f3 := old bb4 f3; replace f4 := old bb4 f4; replace f5 := old bb4 f5; replace f6 := old bb4 f6
  have B5_ := Lib.hid (B3_.out.trans (bb4.mono B3_.out.size)); clear bb4
  refine (checkT_any _ _ _ _).mono ?_; rintro e w6 ⟨rfl, hb⟩; rw [HK.out]
  replace f1 := old hb f1; replace f2 := old hb f2; replace f3 := old hb f3; replace f4 := old hb f4; replace f5 := old hb f5; replace f6 := old hb f6; replace f7 := old hb f7; replace f8 := old hb f8; replace f9 := old hb f9
  have B7_ := Lib.hid (B5_.out.trans (hb.mono B5_.out.size)); clear hb
  clear hz1 hz2
  have hz1 : w.heap.size < w6.heap.size := cell_lt f1
  have hz2 : w.heap.size + 1 < w6.heap.size := cell_lt f4
  have hz3 : w2.heap.size < w6.heap.size := cell_lt f7
  go_wp2_with fail
  refine (CI.out _).mono ?_; rintro e w8 ⟨rfl, hb⟩
  replace f1 := old hb f1; replace f2 := old hb f2; replace f3 := old hb f3; replace f4 := old hb f4; replace f5 := old hb f5; replace f6 := old hb f6; replace f7 := old hb f7; replace f8 := old hb f8; replace f9 := old hb f9
  have B9_ := Lib.hid (B7_.out.trans (hb.mono B7_.out.size)); clear hb
  clear hz1 hz2 hz3
  have hz1 : w.heap.size < w8.heap.size := cell_lt f1
  have hz2 : w.heap.size + 1 < w8.heap.size := cell_lt f4
  have hz3 : w2.heap.size < w8.heap.size := cell_lt f7
  go_wp2_with fail
  have I10 : ∀ W, W = w8.alloc (.cells #[.int .i64 0, .int .i64 0, .int .i64 0] 23) → (W.cell? ⟨w8.heap.size, 0, none⟩ = some (.int .i64 0) ∧ W.cell? ⟨w8.heap.size, 1, none⟩ = some (.int .i64 0) ∧ W.cell? ⟨w8.heap.size, 2, none⟩ = some (.int .i64 0)) ∧ Below w8.heap.size w8 W := by
    intro W e; subst e
    refine ⟨⟨by go_simp, by go_simp, by go_simp⟩, ?_⟩
    exact (Below.refl _ _).alloc (Nat.le_refl _) _
  have J10 := I10 _ rfl; clear I10
  generalize w8.alloc (.cells #[.int .i64 0, .int .i64 0, .int .i64 0] 23) = W10 at J10 ⊢
  obtain ⟨⟨f10, f11, f12⟩, bb10⟩ := J10
  replace f1 := old bb10 f1; replace f2 := old bb10 f2; replace f3 := old bb10 f3; replace f4 := old bb10 f4; replace f5 := old bb10 f5; replace f6 := old bb10 f6; replace f7 := old bb10 f7; replace f8 := old bb10 f8; replace f9 := old bb10 f9
  have B11_ := Lib.hid (B9_.out.trans (bb10.mono B9_.out.size)); clear bb10
  refine (lives_any _).mono ?_; rintro e w12 ⟨rfl, hb⟩
  replace f1 := old hb f1; replace f2 := old hb f2; replace f3 := old hb f3; replace f4 := old hb f4; replace f5 := old hb f5; replace f6 := old hb f6; replace f7 := old hb f7; replace f8 := old hb f8; replace f9 := old hb f9; replace f10 := old hb f10; replace f11 := old hb f11; replace f12 := old hb f12
  have B13_ := Lib.hid (B11_.out.trans (hb.mono B11_.out.size)); clear hb
  clear hz1 hz2 hz3
  have hz1 : w.heap.size < w12.heap.size := cell_lt f1
  have hz2 : w.heap.size + 1 < w12.heap.size := cell_lt f4
  have hz3 : w2.heap.size < w12.heap.size := cell_lt f7
  have hz4 : w8.heap.size < w12.heap.size := cell_lt f10
  go_wp2_with fail
  go_ret
  exact ⟨rfl, B13_.out⟩
set_option maxRecDepth 100000 in
set_option maxHeartbeats 4000000 in
theorem num_6 (z x y u v t id n m : Int) (w : World) (CA : Hid (∀ W, Calls Try.prog 27 #[tl z x y] W fun e w' => e = .returned (.int .i64 n) ∧ Below W.heap.size W w')) (CB : Hid (∀ W, Calls Try.prog 27 #[tl u v t] W fun e w' => e = .returned (.int .i64 m) ∧ Below W.heap.size W w')) (hn : n < 0) (_hm : 0 ≤ m) (P Q R : Int) (hi0 : 0 ≤ id) (hi1 : id < 21845) (CI : Hid (∀ W, Calls Try.prog 20 #[.int .i64 id] W fun e w' => e = .returned (.tuple #[tl P Q R, .bool true]) ∧ Below W.heap.size W w')) (CX : Hid (∀ W, Calls Try.prog 27 #[tl P Q R] W fun e w' => e = .returned (.int .i64 id) ∧ Below W.heap.size W w')) :
    Calls Try.prog 7 #[tl z x y, tl u v t, .int .i64 id] w fun e w' => e = .returned (.bool true) ∧ Below w.heap.size w w' := by
  go_enter Try.func7, Try.ntmps7
  go_wp2_with fail
  have I0 : ∀ W, W = (w.alloc (.cells #[.int .i64 z, .int .i64 x, .int .i64 y] 23)).alloc (.cells #[.int .i64 u, .int .i64 v, .int .i64 t] 23) → (W.cell? ⟨w.heap.size, 0, none⟩ = some (.int .i64 z) ∧ W.cell? ⟨w.heap.size, 1, none⟩ = some (.int .i64 x) ∧ W.cell? ⟨w.heap.size, 2, none⟩ = some (.int .i64 y) ∧ W.cell? ⟨w.heap.size + 1, 0, none⟩ = some (.int .i64 u) ∧ W.cell? ⟨w.heap.size + 1, 1, none⟩ = some (.int .i64 v) ∧ W.cell? ⟨w.heap.size + 1, 2, none⟩ = some (.int .i64 t)) ∧ Below w.heap.size w W := by
    intro W e; subst e
    refine ⟨⟨by go_simp, by go_simp, by go_simp, by go_simp, by go_simp, by go_simp⟩, ?_⟩
    (repeat (first | exact Below.refl _ _ | (refine Below.alloc ?_ (by first | omega | (simp <;> omega)) _)))
  have J0 := I0 _ rfl; clear I0
  generalize (w.alloc (.cells #[.int .i64 z, .int .i64 x, .int .i64 y] 23)).alloc (.cells #[.int .i64 u, .int .i64 v, .int .i64 t] 23) = W0 at J0 ⊢
  obtain ⟨⟨f1, f2, f3, f4, f5, f6⟩, bb0⟩ := J0
  have B0 := Lib.hid bb0; clear bb0
  have S0 : Hid (∀ W, W = W0.drew → Below w.heap.size w W ∧ W.cell? ⟨w.heap.size, 0, none⟩ = some (.int .i64 z) ∧ W.cell? ⟨w.heap.size, 1, none⟩ = some (.int .i64 x) ∧ W.cell? ⟨w.heap.size, 2, none⟩ = some (.int .i64 y) ∧ W.cell? ⟨w.heap.size + 1, 0, none⟩ = some (.int .i64 u) ∧ W.cell? ⟨w.heap.size + 1, 1, none⟩ = some (.int .i64 v) ∧ W.cell? ⟨w.heap.size + 1, 2, none⟩ = some (.int .i64 t)) := by
    intro W e; subst e
    exact ⟨B0.out.drew, by go_simp, by go_simp, by go_simp, by go_simp, by go_simp, by go_simp⟩
  go_region_held3 (fun w' => Below w.heap.size w w' ∧ w'.cell? ⟨w.heap.size, 0, none⟩ = some (.int .i64 z) ∧ w'.cell? ⟨w.heap.size, 1, none⟩ = some (.int .i64 x) ∧ w'.cell? ⟨w.heap.size, 2, none⟩ = some (.int .i64 y) ∧ w'.cell? ⟨w.heap.size + 1, 0, none⟩ = some (.int .i64 u) ∧ w'.cell? ⟨w.heap.size + 1, 1, none⟩ = some (.int .i64 v) ∧ w'.cell? ⟨w.heap.size + 1, 2, none⟩ = some (.int .i64 t))
    (first | exact S0.out _ rfl | assumption | exact keep6 (by assumption) (by assumption))
    (first | (go_at_call 27; (with_reducible refine (CA.out _).mono ?_); rintro e w9 ⟨rfl, bw9⟩) | (go_at_call 27; (with_reducible refine (CB.out _).mono ?_); rintro e w9 ⟨rfl, bw9⟩))
  rename_i hHeld
  clear f1 f2 f3 f4 f5 f6
  obtain ⟨hB, f1, f2, f3, f4, f5, f6⟩ := hHeld
  have B1_ := Lib.hid hB; clear hB S0
  have hz1 : w.heap.size < w9.heap.size := cell_lt f1
  have hz2 : w.heap.size + 1 < w9.heap.size := cell_lt f4
  go_wp2_with fail
  refine (CI.out _).mono ?_; rintro e w2 ⟨rfl, hb⟩
  replace f1 := old hb f1; replace f2 := old hb f2; replace f3 := old hb f3; replace f4 := old hb f4; replace f5 := old hb f5; replace f6 := old hb f6
  have B3_ := Lib.hid (B1_.out.trans (hb.mono B1_.out.size)); clear hb
  clear hz1 hz2
  have hz1 : w.heap.size < w2.heap.size := cell_lt f1
  have hz2 : w.heap.size + 1 < w2.heap.size := cell_lt f4
  go_wp2_with fail
  have I4 : ∀ W, W = w2.alloc (.cells #[.int .i64 P, .int .i64 Q, .int .i64 R] 23) → (W.cell? ⟨w2.heap.size, 0, none⟩ = some (.int .i64 P) ∧ W.cell? ⟨w2.heap.size, 1, none⟩ = some (.int .i64 Q) ∧ W.cell? ⟨w2.heap.size, 2, none⟩ = some (.int .i64 R)) ∧ Below w2.heap.size w2 W := by
    intro W e; subst e
    refine ⟨⟨by go_simp, by go_simp, by go_simp⟩, ?_⟩
    exact (Below.refl _ _).alloc (Nat.le_refl _) _
  have J4 := I4 _ rfl; clear I4
  generalize w2.alloc (.cells #[.int .i64 P, .int .i64 Q, .int .i64 R] 23) = W4 at J4 ⊢
  obtain ⟨⟨f7, f8, f9⟩, bb4⟩ := J4
  replace f1 := old bb4 f1; replace f2 := old bb4 f2; replace f3 := old bb4 f3; replace f4 := old bb4 f4; replace f5 := old bb4 f5; replace f6 := old bb4 f6
  have B5_ := Lib.hid (B3_.out.trans (bb4.mono B3_.out.size)); clear bb4
  refine (CX.out _).mono ?_; rintro e w6 ⟨rfl, hb⟩
  replace f1 := old hb f1; replace f2 := old hb f2; replace f3 := old hb f3; replace f4 := old hb f4; replace f5 := old hb f5; replace f6 := old hb f6; replace f7 := old hb f7; replace f8 := old hb f8; replace f9 := old hb f9
  have B7_ := Lib.hid (B5_.out.trans (hb.mono B5_.out.size)); clear hb
  clear hz1 hz2
  have hz1 : w.heap.size < w6.heap.size := cell_lt f1
  have hz2 : w.heap.size + 1 < w6.heap.size := cell_lt f4
  have hz3 : w2.heap.size < w6.heap.size := cell_lt f7
  go_wp2_with fail
  refine (lives_any _).mono ?_; rintro e w8 ⟨rfl, hb⟩
  replace f1 := old hb f1; replace f2 := old hb f2; replace f3 := old hb f3; replace f4 := old hb f4; replace f5 := old hb f5; replace f6 := old hb f6; replace f7 := old hb f7; replace f8 := old hb f8; replace f9 := old hb f9
  have B9_ := Lib.hid (B7_.out.trans (hb.mono B7_.out.size)); clear hb
  clear hz1 hz2 hz3
  have hz1 : w.heap.size < w8.heap.size := cell_lt f1
  have hz2 : w.heap.size + 1 < w8.heap.size := cell_lt f4
  have hz3 : w2.heap.size < w8.heap.size := cell_lt f7
  go_wp2_with fail
  go_ret
  exact ⟨rfl, B9_.out⟩
set_option maxRecDepth 100000 in
set_option maxHeartbeats 4000000 in
theorem num_7 (z x y u v t id n m : Int) (w : World) (CA : Hid (∀ W, Calls Try.prog 27 #[tl z x y] W fun e w' => e = .returned (.int .i64 n) ∧ Below W.heap.size W w')) (CB : Hid (∀ W, Calls Try.prog 27 #[tl u v t] W fun e w' => e = .returned (.int .i64 m) ∧ Below W.heap.size W w')) (hn : n < 0) (_hm : 0 ≤ m) (hi0 : id < 0) (CI : Hid (∀ W, Calls Try.prog 20 #[.int .i64 id] W fun e w' => e = .returned (.tuple #[tl 0 0 0, .bool false]) ∧ Below W.heap.size W w')) :
    Calls Try.prog 7 #[tl z x y, tl u v t, .int .i64 id] w fun e w' => e = .returned (.bool true) ∧ Below w.heap.size w w' := by
  go_enter Try.func7, Try.ntmps7
  go_wp2_with fail
  have I0 : ∀ W, W = (w.alloc (.cells #[.int .i64 z, .int .i64 x, .int .i64 y] 23)).alloc (.cells #[.int .i64 u, .int .i64 v, .int .i64 t] 23) → (W.cell? ⟨w.heap.size, 0, none⟩ = some (.int .i64 z) ∧ W.cell? ⟨w.heap.size, 1, none⟩ = some (.int .i64 x) ∧ W.cell? ⟨w.heap.size, 2, none⟩ = some (.int .i64 y) ∧ W.cell? ⟨w.heap.size + 1, 0, none⟩ = some (.int .i64 u) ∧ W.cell? ⟨w.heap.size + 1, 1, none⟩ = some (.int .i64 v) ∧ W.cell? ⟨w.heap.size + 1, 2, none⟩ = some (.int .i64 t)) ∧ Below w.heap.size w W := by
    intro W e; subst e
    refine ⟨⟨by go_simp, by go_simp, by go_simp, by go_simp, by go_simp, by go_simp⟩, ?_⟩
    (repeat (first | exact Below.refl _ _ | (refine Below.alloc ?_ (by first | omega | (simp <;> omega)) _)))
  have J0 := I0 _ rfl; clear I0
  generalize (w.alloc (.cells #[.int .i64 z, .int .i64 x, .int .i64 y] 23)).alloc (.cells #[.int .i64 u, .int .i64 v, .int .i64 t] 23) = W0 at J0 ⊢
  obtain ⟨⟨f1, f2, f3, f4, f5, f6⟩, bb0⟩ := J0
  have B0 := Lib.hid bb0; clear bb0
  have S0 : Hid (∀ W, W = W0.drew → Below w.heap.size w W ∧ W.cell? ⟨w.heap.size, 0, none⟩ = some (.int .i64 z) ∧ W.cell? ⟨w.heap.size, 1, none⟩ = some (.int .i64 x) ∧ W.cell? ⟨w.heap.size, 2, none⟩ = some (.int .i64 y) ∧ W.cell? ⟨w.heap.size + 1, 0, none⟩ = some (.int .i64 u) ∧ W.cell? ⟨w.heap.size + 1, 1, none⟩ = some (.int .i64 v) ∧ W.cell? ⟨w.heap.size + 1, 2, none⟩ = some (.int .i64 t)) := by
    intro W e; subst e
    exact ⟨B0.out.drew, by go_simp, by go_simp, by go_simp, by go_simp, by go_simp, by go_simp⟩
  go_region_held3 (fun w' => Below w.heap.size w w' ∧ w'.cell? ⟨w.heap.size, 0, none⟩ = some (.int .i64 z) ∧ w'.cell? ⟨w.heap.size, 1, none⟩ = some (.int .i64 x) ∧ w'.cell? ⟨w.heap.size, 2, none⟩ = some (.int .i64 y) ∧ w'.cell? ⟨w.heap.size + 1, 0, none⟩ = some (.int .i64 u) ∧ w'.cell? ⟨w.heap.size + 1, 1, none⟩ = some (.int .i64 v) ∧ w'.cell? ⟨w.heap.size + 1, 2, none⟩ = some (.int .i64 t))
    (first | exact S0.out _ rfl | assumption | exact keep6 (by assumption) (by assumption))
    (first | (go_at_call 27; (with_reducible refine (CA.out _).mono ?_); rintro e w9 ⟨rfl, bw9⟩) | (go_at_call 27; (with_reducible refine (CB.out _).mono ?_); rintro e w9 ⟨rfl, bw9⟩))
  rename_i hHeld
  clear f1 f2 f3 f4 f5 f6
  obtain ⟨hB, f1, f2, f3, f4, f5, f6⟩ := hHeld
  have B1_ := Lib.hid hB; clear hB S0
  have hz1 : w.heap.size < w9.heap.size := cell_lt f1
  have hz2 : w.heap.size + 1 < w9.heap.size := cell_lt f4
  go_wp2_with fail
  refine (CI.out _).mono ?_; rintro e w2 ⟨rfl, hb⟩
  replace f1 := old hb f1; replace f2 := old hb f2; replace f3 := old hb f3; replace f4 := old hb f4; replace f5 := old hb f5; replace f6 := old hb f6
  have B3_ := Lib.hid (B1_.out.trans (hb.mono B1_.out.size)); clear hb
  clear hz1 hz2
  have hz1 : w.heap.size < w2.heap.size := cell_lt f1
  have hz2 : w.heap.size + 1 < w2.heap.size := cell_lt f4
  go_wp2_with fail
  have I4 : ∀ W, W = w2.alloc (.cells #[.int .i64 0, .int .i64 0, .int .i64 0] 23) → (W.cell? ⟨w2.heap.size, 0, none⟩ = some (.int .i64 0) ∧ W.cell? ⟨w2.heap.size, 1, none⟩ = some (.int .i64 0) ∧ W.cell? ⟨w2.heap.size, 2, none⟩ = some (.int .i64 0)) ∧ Below w2.heap.size w2 W := by
    intro W e; subst e
    refine ⟨⟨by go_simp, by go_simp, by go_simp⟩, ?_⟩
    exact (Below.refl _ _).alloc (Nat.le_refl _) _
  have J4 := I4 _ rfl; clear I4
  generalize w2.alloc (.cells #[.int .i64 0, .int .i64 0, .int .i64 0] 23) = W4 at J4 ⊢
  obtain ⟨⟨f7, f8, f9⟩, bb4⟩ := J4
  replace f1 := old bb4 f1; replace f2 := old bb4 f2; replace f3 := old bb4 f3; replace f4 := old bb4 f4; replace f5 := old bb4 f5; replace f6 := old bb4 f6
  have B5_ := Lib.hid (B3_.out.trans (bb4.mono B3_.out.size)); clear bb4
  refine (lives_any _).mono ?_; rintro e w6 ⟨rfl, hb⟩
  replace f1 := old hb f1; replace f2 := old hb f2; replace f3 := old hb f3; replace f4 := old hb f4; replace f5 := old hb f5; replace f6 := old hb f6; replace f7 := old hb f7; replace f8 := old hb f8; replace f9 := old hb f9
  have B7_ := Lib.hid (B5_.out.trans (hb.mono B5_.out.size)); clear hb
  clear hz1 hz2
  have hz1 : w.heap.size < w6.heap.size := cell_lt f1
  have hz2 : w.heap.size + 1 < w6.heap.size := cell_lt f4
  have hz3 : w2.heap.size < w6.heap.size := cell_lt f7
  go_wp2_with fail
  go_ret
  exact ⟨rfl, B7_.out⟩
set_option maxRecDepth 100000 in
set_option maxHeartbeats 4000000 in
theorem num_8 (z x y u v t id n m : Int) (w : World) (CA : Hid (∀ W, Calls Try.prog 27 #[tl z x y] W fun e w' => e = .returned (.int .i64 n) ∧ Below W.heap.size W w')) (CB : Hid (∀ W, Calls Try.prog 27 #[tl u v t] W fun e w' => e = .returned (.int .i64 m) ∧ Below W.heap.size W w')) (hn : n < 0) (_hm : 0 ≤ m) (hi0 : 0 ≤ id) (hi1 : decide (id < 21845) = false) (CI : Hid (∀ W, Calls Try.prog 20 #[.int .i64 id] W fun e w' => e = .returned (.tuple #[tl 0 0 0, .bool false]) ∧ Below W.heap.size W w')) :
    Calls Try.prog 7 #[tl z x y, tl u v t, .int .i64 id] w fun e w' => e = .returned (.bool true) ∧ Below w.heap.size w w' := by
  go_enter Try.func7, Try.ntmps7
  go_wp2_with fail
  have I0 : ∀ W, W = (w.alloc (.cells #[.int .i64 z, .int .i64 x, .int .i64 y] 23)).alloc (.cells #[.int .i64 u, .int .i64 v, .int .i64 t] 23) → (W.cell? ⟨w.heap.size, 0, none⟩ = some (.int .i64 z) ∧ W.cell? ⟨w.heap.size, 1, none⟩ = some (.int .i64 x) ∧ W.cell? ⟨w.heap.size, 2, none⟩ = some (.int .i64 y) ∧ W.cell? ⟨w.heap.size + 1, 0, none⟩ = some (.int .i64 u) ∧ W.cell? ⟨w.heap.size + 1, 1, none⟩ = some (.int .i64 v) ∧ W.cell? ⟨w.heap.size + 1, 2, none⟩ = some (.int .i64 t)) ∧ Below w.heap.size w W := by
    intro W e; subst e
    refine ⟨⟨by go_simp, by go_simp, by go_simp, by go_simp, by go_simp, by go_simp⟩, ?_⟩
    (repeat (first | exact Below.refl _ _ | (refine Below.alloc ?_ (by first | omega | (simp <;> omega)) _)))
  have J0 := I0 _ rfl; clear I0
  generalize (w.alloc (.cells #[.int .i64 z, .int .i64 x, .int .i64 y] 23)).alloc (.cells #[.int .i64 u, .int .i64 v, .int .i64 t] 23) = W0 at J0 ⊢
  obtain ⟨⟨f1, f2, f3, f4, f5, f6⟩, bb0⟩ := J0
  have B0 := Lib.hid bb0; clear bb0
  have S0 : Hid (∀ W, W = W0.drew → Below w.heap.size w W ∧ W.cell? ⟨w.heap.size, 0, none⟩ = some (.int .i64 z) ∧ W.cell? ⟨w.heap.size, 1, none⟩ = some (.int .i64 x) ∧ W.cell? ⟨w.heap.size, 2, none⟩ = some (.int .i64 y) ∧ W.cell? ⟨w.heap.size + 1, 0, none⟩ = some (.int .i64 u) ∧ W.cell? ⟨w.heap.size + 1, 1, none⟩ = some (.int .i64 v) ∧ W.cell? ⟨w.heap.size + 1, 2, none⟩ = some (.int .i64 t)) := by
    intro W e; subst e
    exact ⟨B0.out.drew, by go_simp, by go_simp, by go_simp, by go_simp, by go_simp, by go_simp⟩
  go_region_held3 (fun w' => Below w.heap.size w w' ∧ w'.cell? ⟨w.heap.size, 0, none⟩ = some (.int .i64 z) ∧ w'.cell? ⟨w.heap.size, 1, none⟩ = some (.int .i64 x) ∧ w'.cell? ⟨w.heap.size, 2, none⟩ = some (.int .i64 y) ∧ w'.cell? ⟨w.heap.size + 1, 0, none⟩ = some (.int .i64 u) ∧ w'.cell? ⟨w.heap.size + 1, 1, none⟩ = some (.int .i64 v) ∧ w'.cell? ⟨w.heap.size + 1, 2, none⟩ = some (.int .i64 t))
    (first | exact S0.out _ rfl | assumption | exact keep6 (by assumption) (by assumption))
    (first | (go_at_call 27; (with_reducible refine (CA.out _).mono ?_); rintro e w9 ⟨rfl, bw9⟩) | (go_at_call 27; (with_reducible refine (CB.out _).mono ?_); rintro e w9 ⟨rfl, bw9⟩))
  rename_i hHeld
  clear f1 f2 f3 f4 f5 f6
  obtain ⟨hB, f1, f2, f3, f4, f5, f6⟩ := hHeld
  have B1_ := Lib.hid hB; clear hB S0
  have hz1 : w.heap.size < w9.heap.size := cell_lt f1
  have hz2 : w.heap.size + 1 < w9.heap.size := cell_lt f4
  go_wp2_with fail
  refine (CI.out _).mono ?_; rintro e w2 ⟨rfl, hb⟩
  replace f1 := old hb f1; replace f2 := old hb f2; replace f3 := old hb f3; replace f4 := old hb f4; replace f5 := old hb f5; replace f6 := old hb f6
  have B3_ := Lib.hid (B1_.out.trans (hb.mono B1_.out.size)); clear hb
  clear hz1 hz2
  have hz1 : w.heap.size < w2.heap.size := cell_lt f1
  have hz2 : w.heap.size + 1 < w2.heap.size := cell_lt f4
  go_wp2_with fail
  have I4 : ∀ W, W = w2.alloc (.cells #[.int .i64 0, .int .i64 0, .int .i64 0] 23) → (W.cell? ⟨w2.heap.size, 0, none⟩ = some (.int .i64 0) ∧ W.cell? ⟨w2.heap.size, 1, none⟩ = some (.int .i64 0) ∧ W.cell? ⟨w2.heap.size, 2, none⟩ = some (.int .i64 0)) ∧ Below w2.heap.size w2 W := by
    intro W e; subst e
    refine ⟨⟨by go_simp, by go_simp, by go_simp⟩, ?_⟩
    exact (Below.refl _ _).alloc (Nat.le_refl _) _
  have J4 := I4 _ rfl; clear I4
  generalize w2.alloc (.cells #[.int .i64 0, .int .i64 0, .int .i64 0] 23) = W4 at J4 ⊢
  obtain ⟨⟨f7, f8, f9⟩, bb4⟩ := J4
  replace f1 := old bb4 f1; replace f2 := old bb4 f2; replace f3 := old bb4 f3; replace f4 := old bb4 f4; replace f5 := old bb4 f5; replace f6 := old bb4 f6
  have B5_ := Lib.hid (B3_.out.trans (bb4.mono B3_.out.size)); clear bb4
  refine (lives_any _).mono ?_; rintro e w6 ⟨rfl, hb⟩
  replace f1 := old hb f1; replace f2 := old hb f2; replace f3 := old hb f3; replace f4 := old hb f4; replace f5 := old hb f5; replace f6 := old hb f6; replace f7 := old hb f7; replace f8 := old hb f8; replace f9 := old hb f9
  have B7_ := Lib.hid (B5_.out.trans (hb.mono B5_.out.size)); clear hb
  clear hz1 hz2
  have hz1 : w.heap.size < w6.heap.size := cell_lt f1
  have hz2 : w.heap.size + 1 < w6.heap.size := cell_lt f4
  have hz3 : w2.heap.size < w6.heap.size := cell_lt f7
  go_wp2_with fail
  go_ret
  exact ⟨rfl, B7_.out⟩
set_option maxRecDepth 100000 in
set_option maxHeartbeats 4000000 in
theorem num_9 (z x y u v t id n m : Int) (w : World) (CA : Hid (∀ W, Calls Try.prog 27 #[tl z x y] W fun e w' => e = .returned (.int .i64 n) ∧ Below W.heap.size W w')) (CB : Hid (∀ W, Calls Try.prog 27 #[tl u v t] W fun e w' => e = .returned (.int .i64 m) ∧ Below W.heap.size W w')) (hn : n < 0) (_hm : m < 0) (P Q R : Int) (hi0 : 0 ≤ id) (hi1 : id < 21845) (CI : Hid (∀ W, Calls Try.prog 20 #[.int .i64 id] W fun e w' => e = .returned (.tuple #[tl P Q R, .bool true]) ∧ Below W.heap.size W w')) (CX : Hid (∀ W, Calls Try.prog 27 #[tl P Q R] W fun e w' => e = .returned (.int .i64 id) ∧ Below W.heap.size W w')) :
    Calls Try.prog 7 #[tl z x y, tl u v t, .int .i64 id] w fun e w' => e = .returned (.bool true) ∧ Below w.heap.size w w' := by
  go_enter Try.func7, Try.ntmps7
  go_wp2_with fail
  have I0 : ∀ W, W = (w.alloc (.cells #[.int .i64 z, .int .i64 x, .int .i64 y] 23)).alloc (.cells #[.int .i64 u, .int .i64 v, .int .i64 t] 23) → (W.cell? ⟨w.heap.size, 0, none⟩ = some (.int .i64 z) ∧ W.cell? ⟨w.heap.size, 1, none⟩ = some (.int .i64 x) ∧ W.cell? ⟨w.heap.size, 2, none⟩ = some (.int .i64 y) ∧ W.cell? ⟨w.heap.size + 1, 0, none⟩ = some (.int .i64 u) ∧ W.cell? ⟨w.heap.size + 1, 1, none⟩ = some (.int .i64 v) ∧ W.cell? ⟨w.heap.size + 1, 2, none⟩ = some (.int .i64 t)) ∧ Below w.heap.size w W := by
    intro W e; subst e
    refine ⟨⟨by go_simp, by go_simp, by go_simp, by go_simp, by go_simp, by go_simp⟩, ?_⟩
    (repeat (first | exact Below.refl _ _ | (refine Below.alloc ?_ (by first | omega | (simp <;> omega)) _)))
  have J0 := I0 _ rfl; clear I0
  generalize (w.alloc (.cells #[.int .i64 z, .int .i64 x, .int .i64 y] 23)).alloc (.cells #[.int .i64 u, .int .i64 v, .int .i64 t] 23) = W0 at J0 ⊢
  obtain ⟨⟨f1, f2, f3, f4, f5, f6⟩, bb0⟩ := J0
  have B0 := Lib.hid bb0; clear bb0
  have S0 : Hid (∀ W, W = W0.drew → Below w.heap.size w W ∧ W.cell? ⟨w.heap.size, 0, none⟩ = some (.int .i64 z) ∧ W.cell? ⟨w.heap.size, 1, none⟩ = some (.int .i64 x) ∧ W.cell? ⟨w.heap.size, 2, none⟩ = some (.int .i64 y) ∧ W.cell? ⟨w.heap.size + 1, 0, none⟩ = some (.int .i64 u) ∧ W.cell? ⟨w.heap.size + 1, 1, none⟩ = some (.int .i64 v) ∧ W.cell? ⟨w.heap.size + 1, 2, none⟩ = some (.int .i64 t)) := by
    intro W e; subst e
    exact ⟨B0.out.drew, by go_simp, by go_simp, by go_simp, by go_simp, by go_simp, by go_simp⟩
  go_region_held3 (fun w' => Below w.heap.size w w' ∧ w'.cell? ⟨w.heap.size, 0, none⟩ = some (.int .i64 z) ∧ w'.cell? ⟨w.heap.size, 1, none⟩ = some (.int .i64 x) ∧ w'.cell? ⟨w.heap.size, 2, none⟩ = some (.int .i64 y) ∧ w'.cell? ⟨w.heap.size + 1, 0, none⟩ = some (.int .i64 u) ∧ w'.cell? ⟨w.heap.size + 1, 1, none⟩ = some (.int .i64 v) ∧ w'.cell? ⟨w.heap.size + 1, 2, none⟩ = some (.int .i64 t))
    (first | exact S0.out _ rfl | assumption | exact keep6 (by assumption) (by assumption))
    (first | (go_at_call 27; (with_reducible refine (CA.out _).mono ?_); rintro e w9 ⟨rfl, bw9⟩) | (go_at_call 27; (with_reducible refine (CB.out _).mono ?_); rintro e w9 ⟨rfl, bw9⟩))
  rename_i hHeld
  clear f1 f2 f3 f4 f5 f6
  obtain ⟨hB, f1, f2, f3, f4, f5, f6⟩ := hHeld
  have B1_ := Lib.hid hB; clear hB S0
  have hz1 : w.heap.size < w9.heap.size := cell_lt f1
  have hz2 : w.heap.size + 1 < w9.heap.size := cell_lt f4
  go_wp2_with fail
  refine (CI.out _).mono ?_; rintro e w2 ⟨rfl, hb⟩
  replace f1 := old hb f1; replace f2 := old hb f2; replace f3 := old hb f3; replace f4 := old hb f4; replace f5 := old hb f5; replace f6 := old hb f6
  have B3_ := Lib.hid (B1_.out.trans (hb.mono B1_.out.size)); clear hb
  clear hz1 hz2
  have hz1 : w.heap.size < w2.heap.size := cell_lt f1
  have hz2 : w.heap.size + 1 < w2.heap.size := cell_lt f4
  go_wp2_with fail
  have I4 : ∀ W, W = w2.alloc (.cells #[.int .i64 P, .int .i64 Q, .int .i64 R] 23) → (W.cell? ⟨w2.heap.size, 0, none⟩ = some (.int .i64 P) ∧ W.cell? ⟨w2.heap.size, 1, none⟩ = some (.int .i64 Q) ∧ W.cell? ⟨w2.heap.size, 2, none⟩ = some (.int .i64 R)) ∧ Below w2.heap.size w2 W := by
    intro W e; subst e
    refine ⟨⟨by go_simp, by go_simp, by go_simp⟩, ?_⟩
    exact (Below.refl _ _).alloc (Nat.le_refl _) _
  have J4 := I4 _ rfl; clear I4
  generalize w2.alloc (.cells #[.int .i64 P, .int .i64 Q, .int .i64 R] 23) = W4 at J4 ⊢
  obtain ⟨⟨f7, f8, f9⟩, bb4⟩ := J4
  replace f1 := old bb4 f1; replace f2 := old bb4 f2; replace f3 := old bb4 f3; replace f4 := old bb4 f4; replace f5 := old bb4 f5; replace f6 := old bb4 f6
  have B5_ := Lib.hid (B3_.out.trans (bb4.mono B3_.out.size)); clear bb4
  refine (CX.out _).mono ?_; rintro e w6 ⟨rfl, hb⟩
  replace f1 := old hb f1; replace f2 := old hb f2; replace f3 := old hb f3; replace f4 := old hb f4; replace f5 := old hb f5; replace f6 := old hb f6; replace f7 := old hb f7; replace f8 := old hb f8; replace f9 := old hb f9
  have B7_ := Lib.hid (B5_.out.trans (hb.mono B5_.out.size)); clear hb
  clear hz1 hz2
  have hz1 : w.heap.size < w6.heap.size := cell_lt f1
  have hz2 : w.heap.size + 1 < w6.heap.size := cell_lt f4
  have hz3 : w2.heap.size < w6.heap.size := cell_lt f7
  go_wp2_with fail
  refine (lives_any _).mono ?_; rintro e w8 ⟨rfl, hb⟩
  replace f1 := old hb f1; replace f2 := old hb f2; replace f3 := old hb f3; replace f4 := old hb f4; replace f5 := old hb f5; replace f6 := old hb f6; replace f7 := old hb f7; replace f8 := old hb f8; replace f9 := old hb f9
  have B9_ := Lib.hid (B7_.out.trans (hb.mono B7_.out.size)); clear hb
  clear hz1 hz2 hz3
  have hz1 : w.heap.size < w8.heap.size := cell_lt f1
  have hz2 : w.heap.size + 1 < w8.heap.size := cell_lt f4
  have hz3 : w2.heap.size < w8.heap.size := cell_lt f7
  go_wp2_with fail
  go_ret
  exact ⟨rfl, B9_.out⟩
set_option maxRecDepth 100000 in
set_option maxHeartbeats 4000000 in
theorem num_10 (z x y u v t id n m : Int) (w : World) (CA : Hid (∀ W, Calls Try.prog 27 #[tl z x y] W fun e w' => e = .returned (.int .i64 n) ∧ Below W.heap.size W w')) (CB : Hid (∀ W, Calls Try.prog 27 #[tl u v t] W fun e w' => e = .returned (.int .i64 m) ∧ Below W.heap.size W w')) (hn : n < 0) (_hm : m < 0) (hi0 : id < 0) (CI : Hid (∀ W, Calls Try.prog 20 #[.int .i64 id] W fun e w' => e = .returned (.tuple #[tl 0 0 0, .bool false]) ∧ Below W.heap.size W w')) :
    Calls Try.prog 7 #[tl z x y, tl u v t, .int .i64 id] w fun e w' => e = .returned (.bool true) ∧ Below w.heap.size w w' := by
  go_enter Try.func7, Try.ntmps7
  go_wp2_with fail
  have I0 : ∀ W, W = (w.alloc (.cells #[.int .i64 z, .int .i64 x, .int .i64 y] 23)).alloc (.cells #[.int .i64 u, .int .i64 v, .int .i64 t] 23) → (W.cell? ⟨w.heap.size, 0, none⟩ = some (.int .i64 z) ∧ W.cell? ⟨w.heap.size, 1, none⟩ = some (.int .i64 x) ∧ W.cell? ⟨w.heap.size, 2, none⟩ = some (.int .i64 y) ∧ W.cell? ⟨w.heap.size + 1, 0, none⟩ = some (.int .i64 u) ∧ W.cell? ⟨w.heap.size + 1, 1, none⟩ = some (.int .i64 v) ∧ W.cell? ⟨w.heap.size + 1, 2, none⟩ = some (.int .i64 t)) ∧ Below w.heap.size w W := by
    intro W e; subst e
    refine ⟨⟨by go_simp, by go_simp, by go_simp, by go_simp, by go_simp, by go_simp⟩, ?_⟩
    (repeat (first | exact Below.refl _ _ | (refine Below.alloc ?_ (by first | omega | (simp <;> omega)) _)))
  have J0 := I0 _ rfl; clear I0
  generalize (w.alloc (.cells #[.int .i64 z, .int .i64 x, .int .i64 y] 23)).alloc (.cells #[.int .i64 u, .int .i64 v, .int .i64 t] 23) = W0 at J0 ⊢
  obtain ⟨⟨f1, f2, f3, f4, f5, f6⟩, bb0⟩ := J0
  have B0 := Lib.hid bb0; clear bb0
  have S0 : Hid (∀ W, W = W0.drew → Below w.heap.size w W ∧ W.cell? ⟨w.heap.size, 0, none⟩ = some (.int .i64 z) ∧ W.cell? ⟨w.heap.size, 1, none⟩ = some (.int .i64 x) ∧ W.cell? ⟨w.heap.size, 2, none⟩ = some (.int .i64 y) ∧ W.cell? ⟨w.heap.size + 1, 0, none⟩ = some (.int .i64 u) ∧ W.cell? ⟨w.heap.size + 1, 1, none⟩ = some (.int .i64 v) ∧ W.cell? ⟨w.heap.size + 1, 2, none⟩ = some (.int .i64 t)) := by
    intro W e; subst e
    exact ⟨B0.out.drew, by go_simp, by go_simp, by go_simp, by go_simp, by go_simp, by go_simp⟩
  go_region_held3 (fun w' => Below w.heap.size w w' ∧ w'.cell? ⟨w.heap.size, 0, none⟩ = some (.int .i64 z) ∧ w'.cell? ⟨w.heap.size, 1, none⟩ = some (.int .i64 x) ∧ w'.cell? ⟨w.heap.size, 2, none⟩ = some (.int .i64 y) ∧ w'.cell? ⟨w.heap.size + 1, 0, none⟩ = some (.int .i64 u) ∧ w'.cell? ⟨w.heap.size + 1, 1, none⟩ = some (.int .i64 v) ∧ w'.cell? ⟨w.heap.size + 1, 2, none⟩ = some (.int .i64 t))
    (first | exact S0.out _ rfl | assumption | exact keep6 (by assumption) (by assumption))
    (first | (go_at_call 27; (with_reducible refine (CA.out _).mono ?_); rintro e w9 ⟨rfl, bw9⟩) | (go_at_call 27; (with_reducible refine (CB.out _).mono ?_); rintro e w9 ⟨rfl, bw9⟩))
  rename_i hHeld
  clear f1 f2 f3 f4 f5 f6
  obtain ⟨hB, f1, f2, f3, f4, f5, f6⟩ := hHeld
  have B1_ := Lib.hid hB; clear hB S0
  have hz1 : w.heap.size < w9.heap.size := cell_lt f1
  have hz2 : w.heap.size + 1 < w9.heap.size := cell_lt f4
  go_wp2_with fail
  refine (CI.out _).mono ?_; rintro e w2 ⟨rfl, hb⟩
  replace f1 := old hb f1; replace f2 := old hb f2; replace f3 := old hb f3; replace f4 := old hb f4; replace f5 := old hb f5; replace f6 := old hb f6
  have B3_ := Lib.hid (B1_.out.trans (hb.mono B1_.out.size)); clear hb
  clear hz1 hz2
  have hz1 : w.heap.size < w2.heap.size := cell_lt f1
  have hz2 : w.heap.size + 1 < w2.heap.size := cell_lt f4
  go_wp2_with fail
  have I4 : ∀ W, W = w2.alloc (.cells #[.int .i64 0, .int .i64 0, .int .i64 0] 23) → (W.cell? ⟨w2.heap.size, 0, none⟩ = some (.int .i64 0) ∧ W.cell? ⟨w2.heap.size, 1, none⟩ = some (.int .i64 0) ∧ W.cell? ⟨w2.heap.size, 2, none⟩ = some (.int .i64 0)) ∧ Below w2.heap.size w2 W := by
    intro W e; subst e
    refine ⟨⟨by go_simp, by go_simp, by go_simp⟩, ?_⟩
    exact (Below.refl _ _).alloc (Nat.le_refl _) _
  have J4 := I4 _ rfl; clear I4
  generalize w2.alloc (.cells #[.int .i64 0, .int .i64 0, .int .i64 0] 23) = W4 at J4 ⊢
  obtain ⟨⟨f7, f8, f9⟩, bb4⟩ := J4
  replace f1 := old bb4 f1; replace f2 := old bb4 f2; replace f3 := old bb4 f3; replace f4 := old bb4 f4; replace f5 := old bb4 f5; replace f6 := old bb4 f6
  have B5_ := Lib.hid (B3_.out.trans (bb4.mono B3_.out.size)); clear bb4
  refine (lives_any _).mono ?_; rintro e w6 ⟨rfl, hb⟩
  replace f1 := old hb f1; replace f2 := old hb f2; replace f3 := old hb f3; replace f4 := old hb f4; replace f5 := old hb f5; replace f6 := old hb f6; replace f7 := old hb f7; replace f8 := old hb f8; replace f9 := old hb f9
  have B7_ := Lib.hid (B5_.out.trans (hb.mono B5_.out.size)); clear hb
  clear hz1 hz2
  have hz1 : w.heap.size < w6.heap.size := cell_lt f1
  have hz2 : w.heap.size + 1 < w6.heap.size := cell_lt f4
  have hz3 : w2.heap.size < w6.heap.size := cell_lt f7
  go_wp2_with fail
  go_ret
  exact ⟨rfl, B7_.out⟩
set_option maxRecDepth 100000 in
set_option maxHeartbeats 4000000 in
theorem num_11 (z x y u v t id n m : Int) (w : World) (CA : Hid (∀ W, Calls Try.prog 27 #[tl z x y] W fun e w' => e = .returned (.int .i64 n) ∧ Below W.heap.size W w')) (CB : Hid (∀ W, Calls Try.prog 27 #[tl u v t] W fun e w' => e = .returned (.int .i64 m) ∧ Below W.heap.size W w')) (hn : n < 0) (_hm : m < 0) (hi0 : 0 ≤ id) (hi1 : decide (id < 21845) = false) (CI : Hid (∀ W, Calls Try.prog 20 #[.int .i64 id] W fun e w' => e = .returned (.tuple #[tl 0 0 0, .bool false]) ∧ Below W.heap.size W w')) :
    Calls Try.prog 7 #[tl z x y, tl u v t, .int .i64 id] w fun e w' => e = .returned (.bool true) ∧ Below w.heap.size w w' := by
  go_enter Try.func7, Try.ntmps7
  go_wp2_with fail
  have I0 : ∀ W, W = (w.alloc (.cells #[.int .i64 z, .int .i64 x, .int .i64 y] 23)).alloc (.cells #[.int .i64 u, .int .i64 v, .int .i64 t] 23) → (W.cell? ⟨w.heap.size, 0, none⟩ = some (.int .i64 z) ∧ W.cell? ⟨w.heap.size, 1, none⟩ = some (.int .i64 x) ∧ W.cell? ⟨w.heap.size, 2, none⟩ = some (.int .i64 y) ∧ W.cell? ⟨w.heap.size + 1, 0, none⟩ = some (.int .i64 u) ∧ W.cell? ⟨w.heap.size + 1, 1, none⟩ = some (.int .i64 v) ∧ W.cell? ⟨w.heap.size + 1, 2, none⟩ = some (.int .i64 t)) ∧ Below w.heap.size w W := by
    intro W e; subst e
    refine ⟨⟨by go_simp, by go_simp, by go_simp, by go_simp, by go_simp, by go_simp⟩, ?_⟩
    (repeat (first | exact Below.refl _ _ | (refine Below.alloc ?_ (by first | omega | (simp <;> omega)) _)))
  have J0 := I0 _ rfl; clear I0
  generalize (w.alloc (.cells #[.int .i64 z, .int .i64 x, .int .i64 y] 23)).alloc (.cells #[.int .i64 u, .int .i64 v, .int .i64 t] 23) = W0 at J0 ⊢
  obtain ⟨⟨f1, f2, f3, f4, f5, f6⟩, bb0⟩ := J0
  have B0 := Lib.hid bb0; clear bb0
  have S0 : Hid (∀ W, W = W0.drew → Below w.heap.size w W ∧ W.cell? ⟨w.heap.size, 0, none⟩ = some (.int .i64 z) ∧ W.cell? ⟨w.heap.size, 1, none⟩ = some (.int .i64 x) ∧ W.cell? ⟨w.heap.size, 2, none⟩ = some (.int .i64 y) ∧ W.cell? ⟨w.heap.size + 1, 0, none⟩ = some (.int .i64 u) ∧ W.cell? ⟨w.heap.size + 1, 1, none⟩ = some (.int .i64 v) ∧ W.cell? ⟨w.heap.size + 1, 2, none⟩ = some (.int .i64 t)) := by
    intro W e; subst e
    exact ⟨B0.out.drew, by go_simp, by go_simp, by go_simp, by go_simp, by go_simp, by go_simp⟩
  go_region_held3 (fun w' => Below w.heap.size w w' ∧ w'.cell? ⟨w.heap.size, 0, none⟩ = some (.int .i64 z) ∧ w'.cell? ⟨w.heap.size, 1, none⟩ = some (.int .i64 x) ∧ w'.cell? ⟨w.heap.size, 2, none⟩ = some (.int .i64 y) ∧ w'.cell? ⟨w.heap.size + 1, 0, none⟩ = some (.int .i64 u) ∧ w'.cell? ⟨w.heap.size + 1, 1, none⟩ = some (.int .i64 v) ∧ w'.cell? ⟨w.heap.size + 1, 2, none⟩ = some (.int .i64 t))
    (first | exact S0.out _ rfl | assumption | exact keep6 (by assumption) (by assumption))
    (first | (go_at_call 27; (with_reducible refine (CA.out _).mono ?_); rintro e w9 ⟨rfl, bw9⟩) | (go_at_call 27; (with_reducible refine (CB.out _).mono ?_); rintro e w9 ⟨rfl, bw9⟩))
  rename_i hHeld
  clear f1 f2 f3 f4 f5 f6
  obtain ⟨hB, f1, f2, f3, f4, f5, f6⟩ := hHeld
  have B1_ := Lib.hid hB; clear hB S0
  have hz1 : w.heap.size < w9.heap.size := cell_lt f1
  have hz2 : w.heap.size + 1 < w9.heap.size := cell_lt f4
  go_wp2_with fail
  refine (CI.out _).mono ?_; rintro e w2 ⟨rfl, hb⟩
  replace f1 := old hb f1; replace f2 := old hb f2; replace f3 := old hb f3; replace f4 := old hb f4; replace f5 := old hb f5; replace f6 := old hb f6
  have B3_ := Lib.hid (B1_.out.trans (hb.mono B1_.out.size)); clear hb
  clear hz1 hz2
  have hz1 : w.heap.size < w2.heap.size := cell_lt f1
  have hz2 : w.heap.size + 1 < w2.heap.size := cell_lt f4
  go_wp2_with fail
  have I4 : ∀ W, W = w2.alloc (.cells #[.int .i64 0, .int .i64 0, .int .i64 0] 23) → (W.cell? ⟨w2.heap.size, 0, none⟩ = some (.int .i64 0) ∧ W.cell? ⟨w2.heap.size, 1, none⟩ = some (.int .i64 0) ∧ W.cell? ⟨w2.heap.size, 2, none⟩ = some (.int .i64 0)) ∧ Below w2.heap.size w2 W := by
    intro W e; subst e
    refine ⟨⟨by go_simp, by go_simp, by go_simp⟩, ?_⟩
    exact (Below.refl _ _).alloc (Nat.le_refl _) _
  have J4 := I4 _ rfl; clear I4
  generalize w2.alloc (.cells #[.int .i64 0, .int .i64 0, .int .i64 0] 23) = W4 at J4 ⊢
  obtain ⟨⟨f7, f8, f9⟩, bb4⟩ := J4
  replace f1 := old bb4 f1; replace f2 := old bb4 f2; replace f3 := old bb4 f3; replace f4 := old bb4 f4; replace f5 := old bb4 f5; replace f6 := old bb4 f6
  have B5_ := Lib.hid (B3_.out.trans (bb4.mono B3_.out.size)); clear bb4
  refine (lives_any _).mono ?_; rintro e w6 ⟨rfl, hb⟩
  replace f1 := old hb f1; replace f2 := old hb f2; replace f3 := old hb f3; replace f4 := old hb f4; replace f5 := old hb f5; replace f6 := old hb f6; replace f7 := old hb f7; replace f8 := old hb f8; replace f9 := old hb f9
  have B7_ := Lib.hid (B5_.out.trans (hb.mono B5_.out.size)); clear hb
  clear hz1 hz2
  have hz1 : w.heap.size < w6.heap.size := cell_lt f1
  have hz2 : w.heap.size + 1 < w6.heap.size := cell_lt f4
  have hz3 : w2.heap.size < w6.heap.size := cell_lt f7
  go_wp2_with fail
  go_ret
  exact ⟨rfl, B7_.out⟩
theorem idT_yes (z x y : Int) (W : World) : Calls Try.prog 27 #[tl z x y] W fun e w' => e = .returned (.int .i64 (idT z x y)) ∧ Below W.heap.size W w' := idT_any z x y W
theorem tilegridNumbers_walk (vt vu : Value) (id : Int) (w : World) (ht : IsTl vt) (hu : IsTl vu) (hi : I64 id) :
    Calls Try.prog 7 #[vt, vu, .int .i64 id] w fun e w' => e = .returned (.bool true) ∧ Below w.heap.size w w' := by
  obtain ⟨z, x, y, rfl, _, _, _⟩ := ht
  obtain ⟨u, v, t, rfl, _, _, _⟩ := hu
  have CA := Lib.hid (fun W => idT_any z x y W)
  have CB := Lib.hid (fun W => idT_any u v t W)
  have hI : ∀ n : Int, 0 ≤ n → n < 21845 → I64 n := fun n a b => ⟨by omega, by omega⟩
  have CT : goodT z x y = true → ∀ W, Calls Try.prog 20 #[.int .i64 (idT z x y)] W fun e w' => e = .returned (.tuple #[tl z x y, .bool true]) ∧ Below W.heap.size W w' := by
    intro h W; rw [← id_tile h]; obtain ⟨_, _, _, _, a, b⟩ := id_in h; exact tile_any _ W (hI _ a b)
  have HK : goodT z x y = true → chkT z x y = 0 := fun h => by unfold chkT; rw [if_pos h]
  have CN : (id < 0 ∨ 21845 ≤ id) → ∀ W, Calls Try.prog 20 #[.int .i64 id] W fun e w' => e = .returned (.tuple #[tl 0 0 0, .bool false]) ∧ Below W.heap.size W w' := by
    intro h W; rw [← tile_out h]; exact tile_any _ W hi
  have CY : 0 ≤ id → id < 21845 → ∃ P Q R, (∀ W, Calls Try.prog 20 #[.int .i64 id] W fun e w' => e = .returned (.tuple #[tl P Q R, .bool true]) ∧ Below W.heap.size W w') ∧ (∀ W, Calls Try.prog 27 #[tl P Q R] W fun e w' => e = .returned (.int .i64 id) ∧ Below W.heap.size W w') := by
    intro a b
    obtain ⟨P, Q, R, h1, h2⟩ := tile_back a b
    refine ⟨P, Q, R, fun W => ?_, fun W => ?_⟩
    · rw [← h1]; exact tile_any _ W hi
    · have := idT_any P Q R W; rw [h2] at this; exact this
  have hid : (0 ≤ id ∧ id < 21845) ∨ id < 0 ∨ (0 ≤ id ∧ 21845 ≤ id) := by omega
  cases hg : goodT z x y <;> cases hh : goodT u v t
  · have N := (show idT z x y < 0 by rw [id_neg hg]; omega)
    have M := (show idT u v t < 0 by rw [id_neg hh]; omega)
    rcases hid with ⟨i0, i1⟩ | i0 | ⟨i0, i1⟩
    · obtain ⟨P, Q, R, c1, c2⟩ := CY i0 i1
      exact num_9 z x y u v t id _ _ w CA CB N M P Q R i0 i1 c1 c2
    · exact num_10 z x y u v t id _ _ w CA CB N M i0 (CN (Or.inl i0))
    · exact num_11 z x y u v t id _ _ w CA CB N M i0 (by simp; omega) (CN (Or.inr i1))
  · have N := (show idT z x y < 0 by rw [id_neg hg]; omega)
    have M := (id_in hh).2.2.2.2.1
    rcases hid with ⟨i0, i1⟩ | i0 | ⟨i0, i1⟩
    · obtain ⟨P, Q, R, c1, c2⟩ := CY i0 i1
      exact num_6 z x y u v t id _ _ w CA CB N M P Q R i0 i1 c1 c2
    · exact num_7 z x y u v t id _ _ w CA CB N M i0 (CN (Or.inl i0))
    · exact num_8 z x y u v t id _ _ w CA CB N M i0 (by simp; omega) (CN (Or.inr i1))
  · have N := (id_in hg).2.2.2.2.1
    have M := (show idT u v t < 0 by rw [id_neg hh]; omega)
    rcases hid with ⟨i0, i1⟩ | i0 | ⟨i0, i1⟩
    · obtain ⟨P, Q, R, c1, c2⟩ := CY i0 i1
      exact num_3 z x y u v t id _ _ w CA CB N (HK hg) (CT hg) M P Q R i0 i1 c1 c2
    · exact num_4 z x y u v t id _ _ w CA CB N (HK hg) (CT hg) M i0 (CN (Or.inl i0))
    · exact num_5 z x y u v t id _ _ w CA CB N (HK hg) (CT hg) M i0 (by simp; omega) (CN (Or.inr i1))
  · have N := (id_in hg).2.2.2.2.1
    have M := (id_in hh).2.2.2.2.1
    rcases hid with ⟨i0, i1⟩ | i0 | ⟨i0, i1⟩
    · obtain ⟨P, Q, R, c1, c2⟩ := CY i0 i1
      exact num_0 z x y u v t id _ _ w CA CB N (HK hg) (CT hg) M _ (id_less hg hh) (Lib.hid (fun W => lessT_any _ _ _ _ _ _ W)) P Q R i0 i1 c1 c2
    · exact num_1 z x y u v t id _ _ w CA CB N (HK hg) (CT hg) M _ (id_less hg hh) (Lib.hid (fun W => lessT_any _ _ _ _ _ _ W)) i0 (CN (Or.inl i0))
    · exact num_2 z x y u v t id _ _ w CA CB N (HK hg) (CT hg) M _ (id_less hg hh) (Lib.hid (fun W => lessT_any _ _ _ _ _ _ W)) i0 (by simp; omega) (CN (Or.inr i1))
end Go.Proofs.Ytoibhapjkeakbaa
