/- Tiles: the walk of TilegridHolds. -/
import Derived.Test.YtoibhapjkeakbaaWq
namespace Go.Proofs.Ytoibhapjkeakbaa
open Go.ChangeShapes Go.WideShapes Go.ChangeAt Go.RowKit Go.Joins Go.Deep

theorem siz_vals : siz 0 = 32768 ∧ siz 1 = 16384 ∧ siz 2 = 8192 ∧ siz 3 = 4096 ∧ siz 4 = 2048 ∧ siz 5 = 1024 ∧ siz 6 = 512 ∧ siz 7 = 256 := by decide
theorem of_up {p z : Int} (h0 : 0 < z) (h1 : z ≤ 7) : p / siz (z - 1) = p / siz z / 2 := by
  obtain ⟨v0, v1, v2, v3, v4, v5, v6, v7⟩ := siz_vals
  have : z = 1 ∨ z = 2 ∨ z = 3 ∨ z = 4 ∨ z = 5 ∨ z = 6 ∨ z = 7 := by omega
  rcases this with rfl | rfl | rfl | rfl | rfl | rfl | rfl
  · rw [show (1 : Int) - 1 = 0 from rfl, v0, v1]; omega
  · rw [show (2 : Int) - 1 = 1 from rfl, v1, v2]; omega
  · rw [show (3 : Int) - 1 = 2 from rfl, v2, v3]; omega
  · rw [show (4 : Int) - 1 = 3 from rfl, v3, v4]; omega
  · rw [show (5 : Int) - 1 = 4 from rfl, v4, v5]; omega
  · rw [show (6 : Int) - 1 = 5 from rfl, v5, v6]; omega
  · rw [show (7 : Int) - 1 = 6 from rfl, v6, v7]; omega
theorem dv {p s c : Int} (hs : 256 ≤ s) (hsc : s * c = 32768) (p0 : 0 ≤ p) (p1 : p ≤ 32767) : 0 ≤ p / s ∧ p / s < c ∧ p / s * s ≤ p ∧ p < (p / s + 1) * s := by
  rw [Int.mul_comm] at hsc
  exact ⟨Int.ediv_nonneg p0 (by omega), Int.ediv_lt_of_lt_mul (by omega) (by omega), Int.ediv_mul_le p (by omega), Int.lt_ediv_add_one_mul_self p (by omega)⟩
theorem of_good {p q z : Int} (hv : vldB p q = true) (h0 : 0 ≤ z) (h1 : z ≤ 7) : goodT z (p / siz z) (q / siz z) = true := by
  obtain ⟨a, b, c, d⟩ := vldB_iff.1 hv
  obtain ⟨_, e2, e3, _⟩ := siz_in h0 h1
  obtain ⟨u1, u2, _⟩ := dv e3 e2 a b
  obtain ⟨v1, v2, _⟩ := dv e3 e2 c d
  rw [goodT_iff]; exact ⟨h0, h1, u1, u2, v1, v2⟩
theorem of_hold {p q z : Int} (hv : vldB p q = true) (h0 : 0 ≤ z) (h1 : z ≤ 7) : hdB (p / siz z * siz z) (q / siz z * siz z) ((p / siz z + 1) * siz z) ((q / siz z + 1) * siz z) p q = true := by
  obtain ⟨a, b, c, d⟩ := vldB_iff.1 hv
  obtain ⟨_, e2, e3, _⟩ := siz_in h0 h1
  obtain ⟨u1, u2, u3, u4⟩ := dv e3 e2 a b
  obtain ⟨v1, v2, v3, v4⟩ := dv e3 e2 c d
  obtain ⟨m1, m2, m3, m4⟩ := mul_in u1 u2 (by omega) e2
  obtain ⟨n1, n2, n3, n4⟩ := mul_in v1 v2 (by omega) e2
  generalize (p / siz z + 1) * siz z = a1 at *
  generalize (q / siz z + 1) * siz z = a2 at *
  generalize p / siz z * siz z = a3 at *
  generalize q / siz z * siz z = a4 at *
  rw [hdB_iff (by rw [goodB_iff]; omega) hv]; omega
theorem cov_mem {a b c d z p q : Int} (hh : hdB a b c d p q = true) (h0 : 0 ≤ z) (h1 : z ≤ 7) : (z, p / siz z, q / siz z) ∈ covT a b c d z := by
  have hg : goodB a b c d = true := by
    cases h : goodB a b c d
    · rw [hdB_no h] at hh; cases hh
    · rfl
  have hv : vldB p q = true := by
    cases h : vldB p q
    · rw [hdB_nv h] at hh; cases hh
    · rfl
  obtain ⟨k1, k2, k3, k4⟩ := (hdB_iff hg hv).1 hh
  obtain ⟨g0, g1, g2, g3, g4, g5⟩ := goodB_iff.1 hg
  obtain ⟨w1, w2, w3, w4⟩ := vldB_iff.1 hv
  obtain ⟨_, e2, e3, _⟩ := siz_in h0 h1
  obtain ⟨u1, u2, u3, u4⟩ := dv e3 e2 w1 w2
  obtain ⟨v1, v2, v3, v4⟩ := dv e3 e2 w3 w4
  obtain ⟨x1, x2⟩ := (cv_in (b := a) (d := c) e3 e2 u1 u2 g0 g1 g2).1 ⟨by omega, by omega⟩
  obtain ⟨y1, y2⟩ := (cv_in (b := b) (d := d) e3 e2 v1 v2 g3 g4 g5).1 ⟨by omega, by omega⟩
  rw [covT_yes ⟨hg, h0, h1⟩]
  unfold btw rowT covM
  generalize p / siz z = X at *
  generalize q / siz z = Y at *
  generalize cvF (siz z) (cnt z) a = FX at *
  generalize cvF (siz z) (cnt z) b = FY at *
  generalize cvL (siz z) (cnt z) c = LX at *
  generalize cvL (siz z) (cnt z) d = LY at *
  rw [List.mem_flatMap]
  refine ⟨(Y - FY).toNat, by rw [List.mem_range]; omega, ?_⟩
  rw [List.mem_map]
  refine ⟨(X - FX).toNat, by rw [List.mem_range]; omega, ?_⟩
  rw [show FX + ((X - FX).toNat : Int) = X by omega, show FY + ((Y - FY).toNat : Int) = Y by omega]
theorem mem_nth {l : List Tl} {t : Tl} (h : t ∈ l) : ∃ i, i < l.length ∧ l.getD i (0, 0, 0) = t := by
  obtain ⟨i, hi, e⟩ := List.getElem_of_mem h
  exact ⟨i, hi, by simp [List.getD, hi, e]⟩
theorem holdT (a b c d x y : Int) (W : World) (k : Bool) (h : hdB a b c d x y = k) : Calls Try.prog 32 #[bx a b c d, pt x y] W fun e w' => e = .returned (.bool k) ∧ Below W.heap.size W w' := by
  rw [← h]; exact holdsr_any a b c d x y W
set_option maxRecDepth 100000 in
set_option maxHeartbeats 8000000 in
theorem hold_bad (p q a b c d z : Int) (w : World) (E : Int) (hE : (E != 0) = true) (CO : Hid (∀ W, Calls Try.prog 11 #[pt p q, .int .i64 z] W fun e w' => e = .returned (.tuple #[tl 0 0 0, .int .i64 E]) ∧ Below W.heap.size W w')) :
    Calls Try.prog 8 #[pt p q, bx a b c d, .int .i64 z] w fun e w' => e = .returned (.bool true) ∧ Below w.heap.size w w' := by
  go_enter Try.func8, Try.ntmps8
  go_wp2_with fail
  have I0 : ∀ W, W = (w.alloc (.cells #[.int .i64 p, .int .i64 q] 25)).alloc (.cells #[.int .i64 a, .int .i64 b, .int .i64 c, .int .i64 d] 27) → (W.cell? ⟨w.heap.size, 0, none⟩ = some (.int .i64 p) ∧ W.cell? ⟨w.heap.size, 1, none⟩ = some (.int .i64 q) ∧ W.cell? ⟨w.heap.size + 1, 0, none⟩ = some (.int .i64 a) ∧ W.cell? ⟨w.heap.size + 1, 1, none⟩ = some (.int .i64 b) ∧ W.cell? ⟨w.heap.size + 1, 2, none⟩ = some (.int .i64 c) ∧ W.cell? ⟨w.heap.size + 1, 3, none⟩ = some (.int .i64 d)) ∧ Below w.heap.size w W := by
    intro W e; subst e
    refine ⟨⟨by go_simp, by go_simp, by go_simp, by go_simp, by go_simp, by go_simp⟩, ?_⟩
    (repeat (first | exact Below.refl _ _ | (refine Below.alloc ?_ (by first | omega | (simp <;> omega)) _)))
  have J0 := I0 _ rfl; clear I0
  generalize (w.alloc (.cells #[.int .i64 p, .int .i64 q] 25)).alloc (.cells #[.int .i64 a, .int .i64 b, .int .i64 c, .int .i64 d] 27) = W0 at J0 ⊢
  obtain ⟨⟨f1, f2, f3, f4, f5, f6⟩, bb0⟩ := J0
  have B0 := Lib.hid bb0; clear bb0
  refine (CO.out _).mono ?_; rintro e w1 ⟨rfl, hb⟩
  replace f1 := old hb f1; replace f2 := old hb f2; replace f3 := old hb f3; replace f4 := old hb f4; replace f5 := old hb f5; replace f6 := old hb f6
  have B2_ := Lib.hid (B0.out.trans (hb.mono B0.out.size)); clear hb
  have hz1 : w.heap.size < w1.heap.size := cell_lt f1
  have hz2 : w.heap.size + 1 < w1.heap.size := cell_lt f3
  go_wp2_with fail
  have I3 : ∀ W, W = w1.alloc (.cells #[.int .i64 0, .int .i64 0, .int .i64 0] 23) → (W.cell? ⟨w1.heap.size, 0, none⟩ = some (.int .i64 0) ∧ W.cell? ⟨w1.heap.size, 1, none⟩ = some (.int .i64 0) ∧ W.cell? ⟨w1.heap.size, 2, none⟩ = some (.int .i64 0)) ∧ Below w1.heap.size w1 W := by
    intro W e; subst e
    refine ⟨⟨by go_simp, by go_simp, by go_simp⟩, ?_⟩
    exact (Below.refl _ _).alloc (Nat.le_refl _) _
  have J3 := I3 _ rfl; clear I3
  generalize w1.alloc (.cells #[.int .i64 0, .int .i64 0, .int .i64 0] 23) = W3 at J3 ⊢
  obtain ⟨⟨f7, f8, f9⟩, bb3⟩ := J3
  replace f1 := old bb3 f1; replace f2 := old bb3 f2; replace f3 := old bb3 f3; replace f4 := old bb3 f4; replace f5 := old bb3 f5; replace f6 := old bb3 f6
  have B4_ := Lib.hid (B2_.out.trans (bb3.mono B2_.out.size)); clear bb3
  refine (lives_any _).mono ?_; rintro e w5 ⟨rfl, hb⟩
  replace f1 := old hb f1; replace f2 := old hb f2; replace f3 := old hb f3; replace f4 := old hb f4; replace f5 := old hb f5; replace f6 := old hb f6; replace f7 := old hb f7; replace f8 := old hb f8; replace f9 := old hb f9
  have B6_ := Lib.hid (B4_.out.trans (hb.mono B4_.out.size)); clear hb
  clear hz1 hz2
  have hz1 : w.heap.size < w5.heap.size := cell_lt f1
  have hz2 : w.heap.size + 1 < w5.heap.size := cell_lt f3
  have hz3 : w1.heap.size < w5.heap.size := cell_lt f7
  go_wp2_with fail
  go_ret
  exact ⟨rfl, B6_.out⟩
set_option maxRecDepth 100000 in
set_option maxHeartbeats 8000000 in
theorem hold_00 (p q a b c d : Int) (w : World) (X Y A B C D : Int) (CO : Hid (∀ W, Calls Try.prog 11 #[pt p q, .int .i64 0] W fun e w' => e = .returned (.tuple #[tl 0 X Y, .int .i64 0]) ∧ Below W.heap.size W w')) (CB : Hid (∀ W, Calls Try.prog 9 #[tl 0 X Y] W fun e w' => e = .returned (.tuple #[bx A B C D, .int .i64 0]) ∧ Below W.heap.size W w')) (CH : Hid (∀ W, Calls Try.prog 32 #[bx A B C D, pt p q] W fun e w' => e = .returned (.bool true) ∧ Below W.heap.size W w')) (CP : Hid (∀ W, Calls Try.prog 18 #[tl 0 X Y] W fun e w' => e = .returned (.tuple #[tl 0 0 0, .bool false]) ∧ Below W.heap.size W w')) (CK : Hid (∀ W, Calls Try.prog 32 #[bx a b c d, pt p q] W fun e w' => e = .returned (.bool false) ∧ Below W.heap.size W w')) :
    Calls Try.prog 8 #[pt p q, bx a b c d, .int .i64 0] w fun e w' => e = .returned (.bool true) ∧ Below w.heap.size w w' := by
  go_enter Try.func8, Try.ntmps8
  go_wp2_with fail
  have I0 : ∀ W, W = (w.alloc (.cells #[.int .i64 p, .int .i64 q] 25)).alloc (.cells #[.int .i64 a, .int .i64 b, .int .i64 c, .int .i64 d] 27) → (W.cell? ⟨w.heap.size, 0, none⟩ = some (.int .i64 p) ∧ W.cell? ⟨w.heap.size, 1, none⟩ = some (.int .i64 q) ∧ W.cell? ⟨w.heap.size + 1, 0, none⟩ = some (.int .i64 a) ∧ W.cell? ⟨w.heap.size + 1, 1, none⟩ = some (.int .i64 b) ∧ W.cell? ⟨w.heap.size + 1, 2, none⟩ = some (.int .i64 c) ∧ W.cell? ⟨w.heap.size + 1, 3, none⟩ = some (.int .i64 d)) ∧ Below w.heap.size w W := by
    intro W e; subst e
    refine ⟨⟨by go_simp, by go_simp, by go_simp, by go_simp, by go_simp, by go_simp⟩, ?_⟩
    (repeat (first | exact Below.refl _ _ | (refine Below.alloc ?_ (by first | omega | (simp <;> omega)) _)))
  have J0 := I0 _ rfl; clear I0
  generalize (w.alloc (.cells #[.int .i64 p, .int .i64 q] 25)).alloc (.cells #[.int .i64 a, .int .i64 b, .int .i64 c, .int .i64 d] 27) = W0 at J0 ⊢
  obtain ⟨⟨f1, f2, f3, f4, f5, f6⟩, bb0⟩ := J0
  have B0 := Lib.hid bb0; clear bb0
  refine (CO.out _).mono ?_; rintro e w1 ⟨rfl, hb⟩
  replace f1 := old hb f1; replace f2 := old hb f2; replace f3 := old hb f3; replace f4 := old hb f4; replace f5 := old hb f5; replace f6 := old hb f6
  have B2_ := Lib.hid (B0.out.trans (hb.mono B0.out.size)); clear hb
  have hz1 : w.heap.size < w1.heap.size := cell_lt f1
  have hz2 : w.heap.size + 1 < w1.heap.size := cell_lt f3
  go_wp2_with fail
  have I3 : ∀ W, W = w1.alloc (.cells #[.int .i64 0, .int .i64 X, .int .i64 Y] 23) → (W.cell? ⟨w1.heap.size, 0, none⟩ = some (.int .i64 0) ∧ W.cell? ⟨w1.heap.size, 1, none⟩ = some (.int .i64 X) ∧ W.cell? ⟨w1.heap.size, 2, none⟩ = some (.int .i64 Y)) ∧ Below w1.heap.size w1 W := by
    intro W e; subst e
    refine ⟨⟨by go_simp, by go_simp, by go_simp⟩, ?_⟩
    exact (Below.refl _ _).alloc (Nat.le_refl _) _
  have J3 := I3 _ rfl; clear I3
  generalize w1.alloc (.cells #[.int .i64 0, .int .i64 X, .int .i64 Y] 23) = W3 at J3 ⊢
  obtain ⟨⟨f7, f8, f9⟩, bb3⟩ := J3
  replace f1 := old bb3 f1; replace f2 := old bb3 f2; replace f3 := old bb3 f3; replace f4 := old bb3 f4; replace f5 := old bb3 f5; replace f6 := old bb3 f6
  have B4_ := Lib.hid (B2_.out.trans (bb3.mono B2_.out.size)); clear bb3
  refine (CB.out _).mono ?_; rintro e w5 ⟨rfl, hb⟩
  replace f1 := old hb f1; replace f2 := old hb f2; replace f3 := old hb f3; replace f4 := old hb f4; replace f5 := old hb f5; replace f6 := old hb f6; replace f7 := old hb f7; replace f8 := old hb f8; replace f9 := old hb f9
  have B6_ := Lib.hid (B4_.out.trans (hb.mono B4_.out.size)); clear hb
  clear hz1 hz2
  have hz1 : w.heap.size < w5.heap.size := cell_lt f1
  have hz2 : w.heap.size + 1 < w5.heap.size := cell_lt f3
  have hz3 : w1.heap.size < w5.heap.size := cell_lt f7
  go_wp2_with fail
  have I7 : ∀ W, W = w5.alloc (.cells #[.int .i64 A, .int .i64 B, .int .i64 C, .int .i64 D] 27) → (W.cell? ⟨w5.heap.size, 0, none⟩ = some (.int .i64 A) ∧ W.cell? ⟨w5.heap.size, 1, none⟩ = some (.int .i64 B) ∧ W.cell? ⟨w5.heap.size, 2, none⟩ = some (.int .i64 C) ∧ W.cell? ⟨w5.heap.size, 3, none⟩ = some (.int .i64 D)) ∧ Below w5.heap.size w5 W := by
    intro W e; subst e
    refine ⟨⟨by go_simp, by go_simp, by go_simp, by go_simp⟩, ?_⟩
    exact (Below.refl _ _).alloc (Nat.le_refl _) _
  have J7 := I7 _ rfl; clear I7
  generalize w5.alloc (.cells #[.int .i64 A, .int .i64 B, .int .i64 C, .int .i64 D] 27) = W7 at J7 ⊢
  obtain ⟨⟨f10, f11, f12, f13⟩, bb7⟩ := J7
  replace f1 := old bb7 f1; replace f2 := old bb7 f2; replace f3 := old bb7 f3; replace f4 := old bb7 f4; replace f5 := old bb7 f5; replace f6 := old bb7 f6; replace f7 := old bb7 f7; replace f8 := old bb7 f8; replace f9 := old bb7 f9
  have B8_ := Lib.hid (B6_.out.trans (bb7.mono B6_.out.size)); clear bb7
  refine (CH.out _).mono ?_; rintro e w9 ⟨rfl, hb⟩
  replace f1 := old hb f1; replace f2 := old hb f2; replace f3 := old hb f3; replace f4 := old hb f4; replace f5 := old hb f5; replace f6 := old hb f6; replace f7 := old hb f7; replace f8 := old hb f8; replace f9 := old hb f9; replace f10 := old hb f10; replace f11 := old hb f11; replace f12 := old hb f12; replace f13 := old hb f13
  have B10_ := Lib.hid (B8_.out.trans (hb.mono B8_.out.size)); clear hb
  clear hz1 hz2 hz3
  have hz1 : w.heap.size < w9.heap.size := cell_lt f1
  have hz2 : w.heap.size + 1 < w9.heap.size := cell_lt f3
  have hz3 : w1.heap.size < w9.heap.size := cell_lt f7
  have hz4 : w5.heap.size < w9.heap.size := cell_lt f10
  go_wp2_with fail
  refine (CP.out _).mono ?_; rintro e w11 ⟨rfl, hb⟩
  replace f1 := old hb f1; replace f2 := old hb f2; replace f3 := old hb f3; replace f4 := old hb f4; replace f5 := old hb f5; replace f6 := old hb f6; replace f7 := old hb f7; replace f8 := old hb f8; replace f9 := old hb f9; replace f10 := old hb f10; replace f11 := old hb f11; replace f12 := old hb f12; replace f13 := old hb f13
  have B12_ := Lib.hid (B10_.out.trans (hb.mono B10_.out.size)); clear hb
  clear hz1 hz2 hz3 hz4
  have hz1 : w.heap.size < w11.heap.size := cell_lt f1
  have hz2 : w.heap.size + 1 < w11.heap.size := cell_lt f3
  have hz3 : w1.heap.size < w11.heap.size := cell_lt f7
  have hz4 : w5.heap.size < w11.heap.size := cell_lt f10
  go_wp2_with fail
  have I13 : ∀ W, W = w11.alloc (.cells #[.int .i64 0, .int .i64 0, .int .i64 0] 23) → (W.cell? ⟨w11.heap.size, 0, none⟩ = some (.int .i64 0) ∧ W.cell? ⟨w11.heap.size, 1, none⟩ = some (.int .i64 0) ∧ W.cell? ⟨w11.heap.size, 2, none⟩ = some (.int .i64 0)) ∧ Below w11.heap.size w11 W := by
    intro W e; subst e
    refine ⟨⟨by go_simp, by go_simp, by go_simp⟩, ?_⟩
    exact (Below.refl _ _).alloc (Nat.le_refl _) _
  have J13 := I13 _ rfl; clear I13
  generalize w11.alloc (.cells #[.int .i64 0, .int .i64 0, .int .i64 0] 23) = W13 at J13 ⊢
  obtain ⟨⟨f14, f15, f16⟩, bb13⟩ := J13
  replace f1 := old bb13 f1; replace f2 := old bb13 f2; replace f3 := old bb13 f3; replace f4 := old bb13 f4; replace f5 := old bb13 f5; replace f6 := old bb13 f6; replace f7 := old bb13 f7; replace f8 := old bb13 f8; replace f9 := old bb13 f9; replace f10 := old bb13 f10; replace f11 := old bb13 f11; replace f12 := old bb13 f12; replace f13 := old bb13 f13
  have B14_ := Lib.hid (B12_.out.trans (bb13.mono B12_.out.size)); clear bb13
  refine (CK.out _).mono ?_; rintro e w15 ⟨rfl, hb⟩
  replace f1 := old hb f1; replace f2 := old hb f2; replace f3 := old hb f3; replace f4 := old hb f4; replace f5 := old hb f5; replace f6 := old hb f6; replace f7 := old hb f7; replace f8 := old hb f8; replace f9 := old hb f9; replace f10 := old hb f10; replace f11 := old hb f11; replace f12 := old hb f12; replace f13 := old hb f13; replace f14 := old hb f14; replace f15 := old hb f15; replace f16 := old hb f16
  have B16_ := Lib.hid (B14_.out.trans (hb.mono B14_.out.size)); clear hb
  clear hz1 hz2 hz3 hz4
  have hz1 : w.heap.size < w15.heap.size := cell_lt f1
  have hz2 : w.heap.size + 1 < w15.heap.size := cell_lt f3
  have hz3 : w1.heap.size < w15.heap.size := cell_lt f7
  have hz4 : w5.heap.size < w15.heap.size := cell_lt f10
  have hz5 : w11.heap.size < w15.heap.size := cell_lt f14
  go_wp2_with fail
  refine (lives_any _).mono ?_; rintro e w17 ⟨rfl, hb⟩
  replace f1 := old hb f1; replace f2 := old hb f2; replace f3 := old hb f3; replace f4 := old hb f4; replace f5 := old hb f5; replace f6 := old hb f6; replace f7 := old hb f7; replace f8 := old hb f8; replace f9 := old hb f9; replace f10 := old hb f10; replace f11 := old hb f11; replace f12 := old hb f12; replace f13 := old hb f13; replace f14 := old hb f14; replace f15 := old hb f15; replace f16 := old hb f16
  have B18_ := Lib.hid (B16_.out.trans (hb.mono B16_.out.size)); clear hb
  clear hz1 hz2 hz3 hz4 hz5
  have hz1 : w.heap.size < w17.heap.size := cell_lt f1
  have hz2 : w.heap.size + 1 < w17.heap.size := cell_lt f3
  have hz3 : w1.heap.size < w17.heap.size := cell_lt f7
  have hz4 : w5.heap.size < w17.heap.size := cell_lt f10
  have hz5 : w11.heap.size < w17.heap.size := cell_lt f14
  go_wp2_with fail
  go_ret
  exact ⟨rfl, B18_.out⟩
set_option maxRecDepth 100000 in
set_option maxHeartbeats 8000000 in
theorem hold_01 (p q a b c d : Int) (w : World) (X Y A B C D : Int) (CO : Hid (∀ W, Calls Try.prog 11 #[pt p q, .int .i64 0] W fun e w' => e = .returned (.tuple #[tl 0 X Y, .int .i64 0]) ∧ Below W.heap.size W w')) (CB : Hid (∀ W, Calls Try.prog 9 #[tl 0 X Y] W fun e w' => e = .returned (.tuple #[bx A B C D, .int .i64 0]) ∧ Below W.heap.size W w')) (CH : Hid (∀ W, Calls Try.prog 32 #[bx A B C D, pt p q] W fun e w' => e = .returned (.bool true) ∧ Below W.heap.size W w')) (CP : Hid (∀ W, Calls Try.prog 18 #[tl 0 X Y] W fun e w' => e = .returned (.tuple #[tl 0 0 0, .bool false]) ∧ Below W.heap.size W w')) (CK : Hid (∀ W, Calls Try.prog 32 #[bx a b c d, pt p q] W fun e w' => e = .returned (.bool true) ∧ Below W.heap.size W w')) (L : List Tl) (i0 : Nat) (hi0 : i0 < L.length) (hlen : L.length ≤ 20000) (HI : Hid (L.getD i0 (0, 0, 0) = (0, X, Y))) (CV : Hid (∀ W, Calls Try.prog 29 #[bx a b c d, .int .i64 0] W (RetTs L W))) :
    Calls Try.prog 8 #[pt p q, bx a b c d, .int .i64 0] w fun e w' => e = .returned (.bool true) ∧ Below w.heap.size w w' := by
  go_enter Try.func8, Try.ntmps8
  go_wp2_with fail
  have I0 : ∀ W, W = (w.alloc (.cells #[.int .i64 p, .int .i64 q] 25)).alloc (.cells #[.int .i64 a, .int .i64 b, .int .i64 c, .int .i64 d] 27) → (W.cell? ⟨w.heap.size, 0, none⟩ = some (.int .i64 p) ∧ W.cell? ⟨w.heap.size, 1, none⟩ = some (.int .i64 q) ∧ W.cell? ⟨w.heap.size + 1, 0, none⟩ = some (.int .i64 a) ∧ W.cell? ⟨w.heap.size + 1, 1, none⟩ = some (.int .i64 b) ∧ W.cell? ⟨w.heap.size + 1, 2, none⟩ = some (.int .i64 c) ∧ W.cell? ⟨w.heap.size + 1, 3, none⟩ = some (.int .i64 d)) ∧ Below w.heap.size w W := by
    intro W e; subst e
    refine ⟨⟨by go_simp, by go_simp, by go_simp, by go_simp, by go_simp, by go_simp⟩, ?_⟩
    (repeat (first | exact Below.refl _ _ | (refine Below.alloc ?_ (by first | omega | (simp <;> omega)) _)))
  have J0 := I0 _ rfl; clear I0
  generalize (w.alloc (.cells #[.int .i64 p, .int .i64 q] 25)).alloc (.cells #[.int .i64 a, .int .i64 b, .int .i64 c, .int .i64 d] 27) = W0 at J0 ⊢
  obtain ⟨⟨f1, f2, f3, f4, f5, f6⟩, bb0⟩ := J0
  have B0 := Lib.hid bb0; clear bb0
  refine (CO.out _).mono ?_; rintro e w1 ⟨rfl, hb⟩
  replace f1 := old hb f1; replace f2 := old hb f2; replace f3 := old hb f3; replace f4 := old hb f4; replace f5 := old hb f5; replace f6 := old hb f6
  have B2_ := Lib.hid (B0.out.trans (hb.mono B0.out.size)); clear hb
  have hz1 : w.heap.size < w1.heap.size := cell_lt f1
  have hz2 : w.heap.size + 1 < w1.heap.size := cell_lt f3
  go_wp2_with fail
  have I3 : ∀ W, W = w1.alloc (.cells #[.int .i64 0, .int .i64 X, .int .i64 Y] 23) → (W.cell? ⟨w1.heap.size, 0, none⟩ = some (.int .i64 0) ∧ W.cell? ⟨w1.heap.size, 1, none⟩ = some (.int .i64 X) ∧ W.cell? ⟨w1.heap.size, 2, none⟩ = some (.int .i64 Y)) ∧ Below w1.heap.size w1 W := by
    intro W e; subst e
    refine ⟨⟨by go_simp, by go_simp, by go_simp⟩, ?_⟩
    exact (Below.refl _ _).alloc (Nat.le_refl _) _
  have J3 := I3 _ rfl; clear I3
  generalize w1.alloc (.cells #[.int .i64 0, .int .i64 X, .int .i64 Y] 23) = W3 at J3 ⊢
  obtain ⟨⟨f7, f8, f9⟩, bb3⟩ := J3
  replace f1 := old bb3 f1; replace f2 := old bb3 f2; replace f3 := old bb3 f3; replace f4 := old bb3 f4; replace f5 := old bb3 f5; replace f6 := old bb3 f6
  have B4_ := Lib.hid (B2_.out.trans (bb3.mono B2_.out.size)); clear bb3
  refine (CB.out _).mono ?_; rintro e w5 ⟨rfl, hb⟩
  replace f1 := old hb f1; replace f2 := old hb f2; replace f3 := old hb f3; replace f4 := old hb f4; replace f5 := old hb f5; replace f6 := old hb f6; replace f7 := old hb f7; replace f8 := old hb f8; replace f9 := old hb f9
  have B6_ := Lib.hid (B4_.out.trans (hb.mono B4_.out.size)); clear hb
  clear hz1 hz2
  have hz1 : w.heap.size < w5.heap.size := cell_lt f1
  have hz2 : w.heap.size + 1 < w5.heap.size := cell_lt f3
  have hz3 : w1.heap.size < w5.heap.size := cell_lt f7
  go_wp2_with fail
  have I7 : ∀ W, W = w5.alloc (.cells #[.int .i64 A, .int .i64 B, .int .i64 C, .int .i64 D] 27) → (W.cell? ⟨w5.heap.size, 0, none⟩ = some (.int .i64 A) ∧ W.cell? ⟨w5.heap.size, 1, none⟩ = some (.int .i64 B) ∧ W.cell? ⟨w5.heap.size, 2, none⟩ = some (.int .i64 C) ∧ W.cell? ⟨w5.heap.size, 3, none⟩ = some (.int .i64 D)) ∧ Below w5.heap.size w5 W := by
    intro W e; subst e
    refine ⟨⟨by go_simp, by go_simp, by go_simp, by go_simp⟩, ?_⟩
    exact (Below.refl _ _).alloc (Nat.le_refl _) _
  have J7 := I7 _ rfl; clear I7
  generalize w5.alloc (.cells #[.int .i64 A, .int .i64 B, .int .i64 C, .int .i64 D] 27) = W7 at J7 ⊢
  obtain ⟨⟨f10, f11, f12, f13⟩, bb7⟩ := J7
  replace f1 := old bb7 f1; replace f2 := old bb7 f2; replace f3 := old bb7 f3; replace f4 := old bb7 f4; replace f5 := old bb7 f5; replace f6 := old bb7 f6; replace f7 := old bb7 f7; replace f8 := old bb7 f8; replace f9 := old bb7 f9
  have B8_ := Lib.hid (B6_.out.trans (bb7.mono B6_.out.size)); clear bb7
  refine (CH.out _).mono ?_; rintro e w9 ⟨rfl, hb⟩
  replace f1 := old hb f1; replace f2 := old hb f2; replace f3 := old hb f3; replace f4 := old hb f4; replace f5 := old hb f5; replace f6 := old hb f6; replace f7 := old hb f7; replace f8 := old hb f8; replace f9 := old hb f9; replace f10 := old hb f10; replace f11 := old hb f11; replace f12 := old hb f12; replace f13 := old hb f13
  have B10_ := Lib.hid (B8_.out.trans (hb.mono B8_.out.size)); clear hb
  clear hz1 hz2 hz3
  have hz1 : w.heap.size < w9.heap.size := cell_lt f1
  have hz2 : w.heap.size + 1 < w9.heap.size := cell_lt f3
  have hz3 : w1.heap.size < w9.heap.size := cell_lt f7
  have hz4 : w5.heap.size < w9.heap.size := cell_lt f10
  go_wp2_with fail
  refine (CP.out _).mono ?_; rintro e w11 ⟨rfl, hb⟩
  replace f1 := old hb f1; replace f2 := old hb f2; replace f3 := old hb f3; replace f4 := old hb f4; replace f5 := old hb f5; replace f6 := old hb f6; replace f7 := old hb f7; replace f8 := old hb f8; replace f9 := old hb f9; replace f10 := old hb f10; replace f11 := old hb f11; replace f12 := old hb f12; replace f13 := old hb f13
  have B12_ := Lib.hid (B10_.out.trans (hb.mono B10_.out.size)); clear hb
  clear hz1 hz2 hz3 hz4
  have hz1 : w.heap.size < w11.heap.size := cell_lt f1
  have hz2 : w.heap.size + 1 < w11.heap.size := cell_lt f3
  have hz3 : w1.heap.size < w11.heap.size := cell_lt f7
  have hz4 : w5.heap.size < w11.heap.size := cell_lt f10
  go_wp2_with fail
  have I13 : ∀ W, W = w11.alloc (.cells #[.int .i64 0, .int .i64 0, .int .i64 0] 23) → (W.cell? ⟨w11.heap.size, 0, none⟩ = some (.int .i64 0) ∧ W.cell? ⟨w11.heap.size, 1, none⟩ = some (.int .i64 0) ∧ W.cell? ⟨w11.heap.size, 2, none⟩ = some (.int .i64 0)) ∧ Below w11.heap.size w11 W := by
    intro W e; subst e
    refine ⟨⟨by go_simp, by go_simp, by go_simp⟩, ?_⟩
    exact (Below.refl _ _).alloc (Nat.le_refl _) _
  have J13 := I13 _ rfl; clear I13
  generalize w11.alloc (.cells #[.int .i64 0, .int .i64 0, .int .i64 0] 23) = W13 at J13 ⊢
  obtain ⟨⟨f14, f15, f16⟩, bb13⟩ := J13
  replace f1 := old bb13 f1; replace f2 := old bb13 f2; replace f3 := old bb13 f3; replace f4 := old bb13 f4; replace f5 := old bb13 f5; replace f6 := old bb13 f6; replace f7 := old bb13 f7; replace f8 := old bb13 f8; replace f9 := old bb13 f9; replace f10 := old bb13 f10; replace f11 := old bb13 f11; replace f12 := old bb13 f12; replace f13 := old bb13 f13
  have B14_ := Lib.hid (B12_.out.trans (bb13.mono B12_.out.size)); clear bb13
  refine (CK.out _).mono ?_; rintro e w15 ⟨rfl, hb⟩
  replace f1 := old hb f1; replace f2 := old hb f2; replace f3 := old hb f3; replace f4 := old hb f4; replace f5 := old hb f5; replace f6 := old hb f6; replace f7 := old hb f7; replace f8 := old hb f8; replace f9 := old hb f9; replace f10 := old hb f10; replace f11 := old hb f11; replace f12 := old hb f12; replace f13 := old hb f13; replace f14 := old hb f14; replace f15 := old hb f15; replace f16 := old hb f16
  have B16_ := Lib.hid (B14_.out.trans (hb.mono B14_.out.size)); clear hb
  clear hz1 hz2 hz3 hz4
  have hz1 : w.heap.size < w15.heap.size := cell_lt f1
  have hz2 : w.heap.size + 1 < w15.heap.size := cell_lt f3
  have hz3 : w1.heap.size < w15.heap.size := cell_lt f7
  have hz4 : w5.heap.size < w15.heap.size := cell_lt f10
  have hz5 : w11.heap.size < w15.heap.size := cell_lt f14
  go_wp2_with fail
  refine (CV.out _).mono ?_; rintro e w17 ⟨v, rfl, ht, hb⟩
  obtain ⟨a1, c1, e1⟩ := ht.form; subst e1
  obtain ⟨n, hn⟩ : ∃ n, L.length = n := ⟨_, rfl⟩
  rw [hn] at ht hi0 hlen ⊢
  have HN := Lib.hid hn; clear hn
  have TL := Lib.hid ht; clear ht
  replace f1 := old hb f1; replace f2 := old hb f2; replace f3 := old hb f3; replace f4 := old hb f4; replace f5 := old hb f5; replace f6 := old hb f6; replace f7 := old hb f7; replace f8 := old hb f8; replace f9 := old hb f9; replace f10 := old hb f10; replace f11 := old hb f11; replace f12 := old hb f12; replace f13 := old hb f13; replace f14 := old hb f14; replace f15 := old hb f15; replace f16 := old hb f16
  have B18_ := Lib.hid (B16_.out.trans (hb.mono B16_.out.size)); clear hb
  clear hz1 hz2 hz3 hz4 hz5
  have hz1 : w.heap.size < w17.heap.size := cell_lt f1
  have hz2 : w.heap.size + 1 < w17.heap.size := cell_lt f3
  have hz3 : w1.heap.size < w17.heap.size := cell_lt f7
  have hz4 : w5.heap.size < w17.heap.size := cell_lt f10
  have hz5 : w11.heap.size < w17.heap.size := cell_lt f14
  clear f1 f2 f3 f4 f5 f6 f10 f11 f12 f13 f14 f15 f16 hz1 hz2 hz3 hz4 hz5
  go_wp2_with fail
  have TF := Lib.hid (And.intro f7 (And.intro f8 f9))
  clear f7 f8 f9
  go_loopw [16] (fun s16 wr => ∃ k : Nat, k ≤ i0 ∧ s16 = .int .i64 (k : Int) ∧ Hid (Below w17.heap.size w17 wr)) (fun s16 _ => n - (intOf s16).toNat)
  case atStart => exact ⟨0, by omega, rfl, Below.refl _ _⟩
  case round =>
    obtain ⟨k, hk, rfl, BB⟩ := hrel
    have hkn : k < n := by omega
    obtain ⟨d1, d2, d3⟩ := TF.out
    have t1 := old BB.out d1; have t2 := old BB.out d2; have t3 := old BB.out d3
    clear d1 d2 d3
    have hk' : k < L.length := by have := HN.out; omega
    obtain ⟨bl, ol, ee, x1, x2, x3⟩ := (TL.out.below BB.out).at hk'
    subst ee
    have i1 : (0 : Int) ≤ (k : Int) := by omega
    have i2 : (k : Int) < (n : Int) := by omega
    have NE : Hid (L.getD k (0, 0, 0) ≠ (0, X, Y) → k < i0) := by
      intro h
      by_cases e : k = i0
      · rw [e] at h; exact absurd HI.out h
      · omega
    obtain ⟨t, ht⟩ : ∃ t, L.getD k (0, 0, 0) = t := ⟨_, rfl⟩
    rw [ht] at x1 x2 x3 NE
    clear ht hk'
    obtain ⟨e1, e2, e3⟩ := t
    have hcase : (e1 = 0 ∧ e2 = X ∧ e3 = Y) ∨ ((e1 == 0) = false ∧ k < i0) ∨ (e1 = 0 ∧ (e2 == X) = false ∧ k < i0) ∨ (e1 = 0 ∧ e2 = X ∧ (e3 == Y) = false ∧ k < i0) := by
      by_cases h1 : e1 = 0
      · by_cases h2 : e2 = X
        · by_cases h3 : e3 = Y
          · exact Or.inl ⟨h1, h2, h3⟩
          · exact Or.inr (Or.inr (Or.inr ⟨h1, h2, by simpa using h3, NE.out (by intro h; injection h with _ h; injection h with _ h; exact h3 h)⟩))
        · exact Or.inr (Or.inr (Or.inl ⟨h1, by simpa using h2, NE.out (by intro h; injection h with _ h; injection h with h _; exact h2 h)⟩))
      · exact Or.inr (Or.inl ⟨by simpa using h1, NE.out (by intro h; injection h with h _; exact h1 h)⟩)
    clear NE
    rcases hcase with ⟨rfl, rfl, rfl⟩ | ⟨h1, hlt⟩ | ⟨rfl, h2, hlt⟩ | ⟨rfl, rfl, h3, hlt⟩
    · go_wp2_with fail
      go_quiet (fail)
      go_wp2_with fail
      refine (lives_any _).mono ?_; rintro e w9 ⟨rfl, hb9⟩
      have HB9 := Lib.hid hb9; clear hb9
      go_wp2_with fail
      go_ret
      refine ⟨rfl, ?_⟩
      have b1 := B18_.out; have b2 := BB.out; have b3 := HB9.out
      exact (b1.trans (b2.mono b1.size)).trans ((below_drewN (Below.refl _ _) _).trans b3 |>.mono (Nat.le_trans b1.size b2.size))
    all_goals
      go_wp2_with fail
      go_quiet (fail)
      go_wp2
      go_roundw
      case rel => exact ⟨k + 1, by omega, by go_num, below_drewN BB.out _⟩
      case measure => simp [intOf]; omega
set_option maxRecDepth 100000 in
set_option maxHeartbeats 8000000 in
theorem hold_10 (p q a b c d z : Int) (w : World) (X Y A B C D : Int) (z0 : 0 < z) (z1 : z ≤ 7) (CO : Hid (∀ W, Calls Try.prog 11 #[pt p q, .int .i64 z] W fun e w' => e = .returned (.tuple #[tl z X Y, .int .i64 0]) ∧ Below W.heap.size W w')) (CB : Hid (∀ W, Calls Try.prog 9 #[tl z X Y] W fun e w' => e = .returned (.tuple #[bx A B C D, .int .i64 0]) ∧ Below W.heap.size W w')) (CH : Hid (∀ W, Calls Try.prog 32 #[bx A B C D, pt p q] W fun e w' => e = .returned (.bool true) ∧ Below W.heap.size W w')) (PX PY : Int) (CP : Hid (∀ W, Calls Try.prog 18 #[tl z X Y] W fun e w' => e = .returned (.tuple #[tl (z - 1) PX PY, .bool true]) ∧ Below W.heap.size W w')) (CU : Hid (∀ W, Calls Try.prog 11 #[pt p q, .int .i64 (z - 1)] W fun e w' => e = .returned (.tuple #[tl (z - 1) PX PY, .int .i64 0]) ∧ Below W.heap.size W w')) (CK : Hid (∀ W, Calls Try.prog 32 #[bx a b c d, pt p q] W fun e w' => e = .returned (.bool false) ∧ Below W.heap.size W w')) :
    Calls Try.prog 8 #[pt p q, bx a b c d, .int .i64 z] w fun e w' => e = .returned (.bool true) ∧ Below w.heap.size w w' := by
  go_enter Try.func8, Try.ntmps8
  go_wp2_with fail
  have I0 : ∀ W, W = (w.alloc (.cells #[.int .i64 p, .int .i64 q] 25)).alloc (.cells #[.int .i64 a, .int .i64 b, .int .i64 c, .int .i64 d] 27) → (W.cell? ⟨w.heap.size, 0, none⟩ = some (.int .i64 p) ∧ W.cell? ⟨w.heap.size, 1, none⟩ = some (.int .i64 q) ∧ W.cell? ⟨w.heap.size + 1, 0, none⟩ = some (.int .i64 a) ∧ W.cell? ⟨w.heap.size + 1, 1, none⟩ = some (.int .i64 b) ∧ W.cell? ⟨w.heap.size + 1, 2, none⟩ = some (.int .i64 c) ∧ W.cell? ⟨w.heap.size + 1, 3, none⟩ = some (.int .i64 d)) ∧ Below w.heap.size w W := by
    intro W e; subst e
    refine ⟨⟨by go_simp, by go_simp, by go_simp, by go_simp, by go_simp, by go_simp⟩, ?_⟩
    (repeat (first | exact Below.refl _ _ | (refine Below.alloc ?_ (by first | omega | (simp <;> omega)) _)))
  have J0 := I0 _ rfl; clear I0
  generalize (w.alloc (.cells #[.int .i64 p, .int .i64 q] 25)).alloc (.cells #[.int .i64 a, .int .i64 b, .int .i64 c, .int .i64 d] 27) = W0 at J0 ⊢
  obtain ⟨⟨f1, f2, f3, f4, f5, f6⟩, bb0⟩ := J0
  have B0 := Lib.hid bb0; clear bb0
  refine (CO.out _).mono ?_; rintro e w1 ⟨rfl, hb⟩
  replace f1 := old hb f1; replace f2 := old hb f2; replace f3 := old hb f3; replace f4 := old hb f4; replace f5 := old hb f5; replace f6 := old hb f6
  have B2_ := Lib.hid (B0.out.trans (hb.mono B0.out.size)); clear hb
  have hz1 : w.heap.size < w1.heap.size := cell_lt f1
  have hz2 : w.heap.size + 1 < w1.heap.size := cell_lt f3
  go_wp2_with fail
  have I3 : ∀ W, W = w1.alloc (.cells #[.int .i64 z, .int .i64 X, .int .i64 Y] 23) → (W.cell? ⟨w1.heap.size, 0, none⟩ = some (.int .i64 z) ∧ W.cell? ⟨w1.heap.size, 1, none⟩ = some (.int .i64 X) ∧ W.cell? ⟨w1.heap.size, 2, none⟩ = some (.int .i64 Y)) ∧ Below w1.heap.size w1 W := by
    intro W e; subst e
    refine ⟨⟨by go_simp, by go_simp, by go_simp⟩, ?_⟩
    exact (Below.refl _ _).alloc (Nat.le_refl _) _
  have J3 := I3 _ rfl; clear I3
  generalize w1.alloc (.cells #[.int .i64 z, .int .i64 X, .int .i64 Y] 23) = W3 at J3 ⊢
  obtain ⟨⟨f7, f8, f9⟩, bb3⟩ := J3
  replace f1 := old bb3 f1; replace f2 := old bb3 f2; replace f3 := old bb3 f3; replace f4 := old bb3 f4; replace f5 := old bb3 f5; replace f6 := old bb3 f6
  have B4_ := Lib.hid (B2_.out.trans (bb3.mono B2_.out.size)); clear bb3
  refine (CB.out _).mono ?_; rintro e w5 ⟨rfl, hb⟩
  replace f1 := old hb f1; replace f2 := old hb f2; replace f3 := old hb f3; replace f4 := old hb f4; replace f5 := old hb f5; replace f6 := old hb f6; replace f7 := old hb f7; replace f8 := old hb f8; replace f9 := old hb f9
  have B6_ := Lib.hid (B4_.out.trans (hb.mono B4_.out.size)); clear hb
  clear hz1 hz2
  have hz1 : w.heap.size < w5.heap.size := cell_lt f1
  have hz2 : w.heap.size + 1 < w5.heap.size := cell_lt f3
  have hz3 : w1.heap.size < w5.heap.size := cell_lt f7
  go_wp2_with fail
  have I7 : ∀ W, W = w5.alloc (.cells #[.int .i64 A, .int .i64 B, .int .i64 C, .int .i64 D] 27) → (W.cell? ⟨w5.heap.size, 0, none⟩ = some (.int .i64 A) ∧ W.cell? ⟨w5.heap.size, 1, none⟩ = some (.int .i64 B) ∧ W.cell? ⟨w5.heap.size, 2, none⟩ = some (.int .i64 C) ∧ W.cell? ⟨w5.heap.size, 3, none⟩ = some (.int .i64 D)) ∧ Below w5.heap.size w5 W := by
    intro W e; subst e
    refine ⟨⟨by go_simp, by go_simp, by go_simp, by go_simp⟩, ?_⟩
    exact (Below.refl _ _).alloc (Nat.le_refl _) _
  have J7 := I7 _ rfl; clear I7
  generalize w5.alloc (.cells #[.int .i64 A, .int .i64 B, .int .i64 C, .int .i64 D] 27) = W7 at J7 ⊢
  obtain ⟨⟨f10, f11, f12, f13⟩, bb7⟩ := J7
  replace f1 := old bb7 f1; replace f2 := old bb7 f2; replace f3 := old bb7 f3; replace f4 := old bb7 f4; replace f5 := old bb7 f5; replace f6 := old bb7 f6; replace f7 := old bb7 f7; replace f8 := old bb7 f8; replace f9 := old bb7 f9
  have B8_ := Lib.hid (B6_.out.trans (bb7.mono B6_.out.size)); clear bb7
  refine (CH.out _).mono ?_; rintro e w9 ⟨rfl, hb⟩
  replace f1 := old hb f1; replace f2 := old hb f2; replace f3 := old hb f3; replace f4 := old hb f4; replace f5 := old hb f5; replace f6 := old hb f6; replace f7 := old hb f7; replace f8 := old hb f8; replace f9 := old hb f9; replace f10 := old hb f10; replace f11 := old hb f11; replace f12 := old hb f12; replace f13 := old hb f13
  have B10_ := Lib.hid (B8_.out.trans (hb.mono B8_.out.size)); clear hb
  clear hz1 hz2 hz3
  have hz1 : w.heap.size < w9.heap.size := cell_lt f1
  have hz2 : w.heap.size + 1 < w9.heap.size := cell_lt f3
  have hz3 : w1.heap.size < w9.heap.size := cell_lt f7
  have hz4 : w5.heap.size < w9.heap.size := cell_lt f10
  go_wp2_with fail
  refine (CP.out _).mono ?_; rintro e w11 ⟨rfl, hb⟩
  replace f1 := old hb f1; replace f2 := old hb f2; replace f3 := old hb f3; replace f4 := old hb f4; replace f5 := old hb f5; replace f6 := old hb f6; replace f7 := old hb f7; replace f8 := old hb f8; replace f9 := old hb f9; replace f10 := old hb f10; replace f11 := old hb f11; replace f12 := old hb f12; replace f13 := old hb f13
  have B12_ := Lib.hid (B10_.out.trans (hb.mono B10_.out.size)); clear hb
  clear hz1 hz2 hz3 hz4
  have hz1 : w.heap.size < w11.heap.size := cell_lt f1
  have hz2 : w.heap.size + 1 < w11.heap.size := cell_lt f3
  have hz3 : w1.heap.size < w11.heap.size := cell_lt f7
  have hz4 : w5.heap.size < w11.heap.size := cell_lt f10
  go_wp2_with fail
  have I13 : ∀ W, W = w11.alloc (.cells #[.int .i64 (z - 1), .int .i64 PX, .int .i64 PY] 23) → (W.cell? ⟨w11.heap.size, 0, none⟩ = some (.int .i64 (z - 1)) ∧ W.cell? ⟨w11.heap.size, 1, none⟩ = some (.int .i64 PX) ∧ W.cell? ⟨w11.heap.size, 2, none⟩ = some (.int .i64 PY)) ∧ Below w11.heap.size w11 W := by
    intro W e; subst e
    refine ⟨⟨by go_simp, by go_simp, by go_simp⟩, ?_⟩
    exact (Below.refl _ _).alloc (Nat.le_refl _) _
  have J13 := I13 _ rfl; clear I13
  generalize w11.alloc (.cells #[.int .i64 (z - 1), .int .i64 PX, .int .i64 PY] 23) = W13 at J13 ⊢
  obtain ⟨⟨f14, f15, f16⟩, bb13⟩ := J13
  replace f1 := old bb13 f1; replace f2 := old bb13 f2; replace f3 := old bb13 f3; replace f4 := old bb13 f4; replace f5 := old bb13 f5; replace f6 := old bb13 f6; replace f7 := old bb13 f7; replace f8 := old bb13 f8; replace f9 := old bb13 f9; replace f10 := old bb13 f10; replace f11 := old bb13 f11; replace f12 := old bb13 f12; replace f13 := old bb13 f13
  have B14_ := Lib.hid (B12_.out.trans (bb13.mono B12_.out.size)); clear bb13
  refine (CU.out _).mono ?_; rintro e w15 ⟨rfl, hb⟩
  replace f1 := old hb f1; replace f2 := old hb f2; replace f3 := old hb f3; replace f4 := old hb f4; replace f5 := old hb f5; replace f6 := old hb f6; replace f7 := old hb f7; replace f8 := old hb f8; replace f9 := old hb f9; replace f10 := old hb f10; replace f11 := old hb f11; replace f12 := old hb f12; replace f13 := old hb f13; replace f14 := old hb f14; replace f15 := old hb f15; replace f16 := old hb f16
  have B16_ := Lib.hid (B14_.out.trans (hb.mono B14_.out.size)); clear hb
  clear hz1 hz2 hz3 hz4
  have hz1 : w.heap.size < w15.heap.size := cell_lt f1
  have hz2 : w.heap.size + 1 < w15.heap.size := cell_lt f3
  have hz3 : w1.heap.size < w15.heap.size := cell_lt f7
  have hz4 : w5.heap.size < w15.heap.size := cell_lt f10
  have hz5 : w11.heap.size < w15.heap.size := cell_lt f14
  go_wp2_with fail
  have I17 : ∀ W, W = w15.alloc (.cells #[.int .i64 (z - 1), .int .i64 PX, .int .i64 PY] 23) → (W.cell? ⟨w15.heap.size, 0, none⟩ = some (.int .i64 (z - 1)) ∧ W.cell? ⟨w15.heap.size, 1, none⟩ = some (.int .i64 PX) ∧ W.cell? ⟨w15.heap.size, 2, none⟩ = some (.int .i64 PY)) ∧ Below w15.heap.size w15 W := by
    intro W e; subst e
    refine ⟨⟨by go_simp, by go_simp, by go_simp⟩, ?_⟩
    exact (Below.refl _ _).alloc (Nat.le_refl _) _
  have J17 := I17 _ rfl; clear I17
  generalize w15.alloc (.cells #[.int .i64 (z - 1), .int .i64 PX, .int .i64 PY] 23) = W17 at J17 ⊢
  obtain ⟨⟨f17, f18, f19⟩, bb17⟩ := J17
  replace f1 := old bb17 f1; replace f2 := old bb17 f2; replace f3 := old bb17 f3; replace f4 := old bb17 f4; replace f5 := old bb17 f5; replace f6 := old bb17 f6; replace f7 := old bb17 f7; replace f8 := old bb17 f8; replace f9 := old bb17 f9; replace f10 := old bb17 f10; replace f11 := old bb17 f11; replace f12 := old bb17 f12; replace f13 := old bb17 f13; replace f14 := old bb17 f14; replace f15 := old bb17 f15; replace f16 := old bb17 f16
  have B18_ := Lib.hid (B16_.out.trans (bb17.mono B16_.out.size)); clear bb17
  refine (CK.out _).mono ?_; rintro e w19 ⟨rfl, hb⟩
  replace f1 := old hb f1; replace f2 := old hb f2; replace f3 := old hb f3; replace f4 := old hb f4; replace f5 := old hb f5; replace f6 := old hb f6; replace f7 := old hb f7; replace f8 := old hb f8; replace f9 := old hb f9; replace f10 := old hb f10; replace f11 := old hb f11; replace f12 := old hb f12; replace f13 := old hb f13; replace f14 := old hb f14; replace f15 := old hb f15; replace f16 := old hb f16; replace f17 := old hb f17; replace f18 := old hb f18; replace f19 := old hb f19
  have B20_ := Lib.hid (B18_.out.trans (hb.mono B18_.out.size)); clear hb
  clear hz1 hz2 hz3 hz4 hz5
  have hz1 : w.heap.size < w19.heap.size := cell_lt f1
  have hz2 : w.heap.size + 1 < w19.heap.size := cell_lt f3
  have hz3 : w1.heap.size < w19.heap.size := cell_lt f7
  have hz4 : w5.heap.size < w19.heap.size := cell_lt f10
  have hz5 : w11.heap.size < w19.heap.size := cell_lt f14
  have hz6 : w15.heap.size < w19.heap.size := cell_lt f17
  go_wp2_with fail
  refine (lives_any _).mono ?_; rintro e w21 ⟨rfl, hb⟩
  replace f1 := old hb f1; replace f2 := old hb f2; replace f3 := old hb f3; replace f4 := old hb f4; replace f5 := old hb f5; replace f6 := old hb f6; replace f7 := old hb f7; replace f8 := old hb f8; replace f9 := old hb f9; replace f10 := old hb f10; replace f11 := old hb f11; replace f12 := old hb f12; replace f13 := old hb f13; replace f14 := old hb f14; replace f15 := old hb f15; replace f16 := old hb f16; replace f17 := old hb f17; replace f18 := old hb f18; replace f19 := old hb f19
  have B22_ := Lib.hid (B20_.out.trans (hb.mono B20_.out.size)); clear hb
  clear hz1 hz2 hz3 hz4 hz5 hz6
  have hz1 : w.heap.size < w21.heap.size := cell_lt f1
  have hz2 : w.heap.size + 1 < w21.heap.size := cell_lt f3
  have hz3 : w1.heap.size < w21.heap.size := cell_lt f7
  have hz4 : w5.heap.size < w21.heap.size := cell_lt f10
  have hz5 : w11.heap.size < w21.heap.size := cell_lt f14
  have hz6 : w15.heap.size < w21.heap.size := cell_lt f17
  go_wp2_with fail
  go_ret
  exact ⟨rfl, B22_.out⟩
set_option maxRecDepth 100000 in
set_option maxHeartbeats 8000000 in
theorem hold_11 (p q a b c d z : Int) (w : World) (X Y A B C D : Int) (z0 : 0 < z) (z1 : z ≤ 7) (CO : Hid (∀ W, Calls Try.prog 11 #[pt p q, .int .i64 z] W fun e w' => e = .returned (.tuple #[tl z X Y, .int .i64 0]) ∧ Below W.heap.size W w')) (CB : Hid (∀ W, Calls Try.prog 9 #[tl z X Y] W fun e w' => e = .returned (.tuple #[bx A B C D, .int .i64 0]) ∧ Below W.heap.size W w')) (CH : Hid (∀ W, Calls Try.prog 32 #[bx A B C D, pt p q] W fun e w' => e = .returned (.bool true) ∧ Below W.heap.size W w')) (PX PY : Int) (CP : Hid (∀ W, Calls Try.prog 18 #[tl z X Y] W fun e w' => e = .returned (.tuple #[tl (z - 1) PX PY, .bool true]) ∧ Below W.heap.size W w')) (CU : Hid (∀ W, Calls Try.prog 11 #[pt p q, .int .i64 (z - 1)] W fun e w' => e = .returned (.tuple #[tl (z - 1) PX PY, .int .i64 0]) ∧ Below W.heap.size W w')) (CK : Hid (∀ W, Calls Try.prog 32 #[bx a b c d, pt p q] W fun e w' => e = .returned (.bool true) ∧ Below W.heap.size W w')) (L : List Tl) (i0 : Nat) (hi0 : i0 < L.length) (hlen : L.length ≤ 20000) (HI : Hid (L.getD i0 (0, 0, 0) = (z, X, Y))) (CV : Hid (∀ W, Calls Try.prog 29 #[bx a b c d, .int .i64 z] W (RetTs L W))) :
    Calls Try.prog 8 #[pt p q, bx a b c d, .int .i64 z] w fun e w' => e = .returned (.bool true) ∧ Below w.heap.size w w' := by
  go_enter Try.func8, Try.ntmps8
  go_wp2_with fail
  have I0 : ∀ W, W = (w.alloc (.cells #[.int .i64 p, .int .i64 q] 25)).alloc (.cells #[.int .i64 a, .int .i64 b, .int .i64 c, .int .i64 d] 27) → (W.cell? ⟨w.heap.size, 0, none⟩ = some (.int .i64 p) ∧ W.cell? ⟨w.heap.size, 1, none⟩ = some (.int .i64 q) ∧ W.cell? ⟨w.heap.size + 1, 0, none⟩ = some (.int .i64 a) ∧ W.cell? ⟨w.heap.size + 1, 1, none⟩ = some (.int .i64 b) ∧ W.cell? ⟨w.heap.size + 1, 2, none⟩ = some (.int .i64 c) ∧ W.cell? ⟨w.heap.size + 1, 3, none⟩ = some (.int .i64 d)) ∧ Below w.heap.size w W := by
    intro W e; subst e
    refine ⟨⟨by go_simp, by go_simp, by go_simp, by go_simp, by go_simp, by go_simp⟩, ?_⟩
    (repeat (first | exact Below.refl _ _ | (refine Below.alloc ?_ (by first | omega | (simp <;> omega)) _)))
  have J0 := I0 _ rfl; clear I0
  generalize (w.alloc (.cells #[.int .i64 p, .int .i64 q] 25)).alloc (.cells #[.int .i64 a, .int .i64 b, .int .i64 c, .int .i64 d] 27) = W0 at J0 ⊢
  obtain ⟨⟨f1, f2, f3, f4, f5, f6⟩, bb0⟩ := J0
  have B0 := Lib.hid bb0; clear bb0
  refine (CO.out _).mono ?_; rintro e w1 ⟨rfl, hb⟩
  replace f1 := old hb f1; replace f2 := old hb f2; replace f3 := old hb f3; replace f4 := old hb f4; replace f5 := old hb f5; replace f6 := old hb f6
  have B2_ := Lib.hid (B0.out.trans (hb.mono B0.out.size)); clear hb
  have hz1 : w.heap.size < w1.heap.size := cell_lt f1
  have hz2 : w.heap.size + 1 < w1.heap.size := cell_lt f3
  go_wp2_with fail
  have I3 : ∀ W, W = w1.alloc (.cells #[.int .i64 z, .int .i64 X, .int .i64 Y] 23) → (W.cell? ⟨w1.heap.size, 0, none⟩ = some (.int .i64 z) ∧ W.cell? ⟨w1.heap.size, 1, none⟩ = some (.int .i64 X) ∧ W.cell? ⟨w1.heap.size, 2, none⟩ = some (.int .i64 Y)) ∧ Below w1.heap.size w1 W := by
    intro W e; subst e
    refine ⟨⟨by go_simp, by go_simp, by go_simp⟩, ?_⟩
    exact (Below.refl _ _).alloc (Nat.le_refl _) _
  have J3 := I3 _ rfl; clear I3
  generalize w1.alloc (.cells #[.int .i64 z, .int .i64 X, .int .i64 Y] 23) = W3 at J3 ⊢
  obtain ⟨⟨f7, f8, f9⟩, bb3⟩ := J3
  replace f1 := old bb3 f1; replace f2 := old bb3 f2; replace f3 := old bb3 f3; replace f4 := old bb3 f4; replace f5 := old bb3 f5; replace f6 := old bb3 f6
  have B4_ := Lib.hid (B2_.out.trans (bb3.mono B2_.out.size)); clear bb3
  refine (CB.out _).mono ?_; rintro e w5 ⟨rfl, hb⟩
  replace f1 := old hb f1; replace f2 := old hb f2; replace f3 := old hb f3; replace f4 := old hb f4; replace f5 := old hb f5; replace f6 := old hb f6; replace f7 := old hb f7; replace f8 := old hb f8; replace f9 := old hb f9
  have B6_ := Lib.hid (B4_.out.trans (hb.mono B4_.out.size)); clear hb
  clear hz1 hz2
  have hz1 : w.heap.size < w5.heap.size := cell_lt f1
  have hz2 : w.heap.size + 1 < w5.heap.size := cell_lt f3
  have hz3 : w1.heap.size < w5.heap.size := cell_lt f7
  go_wp2_with fail
  have I7 : ∀ W, W = w5.alloc (.cells #[.int .i64 A, .int .i64 B, .int .i64 C, .int .i64 D] 27) → (W.cell? ⟨w5.heap.size, 0, none⟩ = some (.int .i64 A) ∧ W.cell? ⟨w5.heap.size, 1, none⟩ = some (.int .i64 B) ∧ W.cell? ⟨w5.heap.size, 2, none⟩ = some (.int .i64 C) ∧ W.cell? ⟨w5.heap.size, 3, none⟩ = some (.int .i64 D)) ∧ Below w5.heap.size w5 W := by
    intro W e; subst e
    refine ⟨⟨by go_simp, by go_simp, by go_simp, by go_simp⟩, ?_⟩
    exact (Below.refl _ _).alloc (Nat.le_refl _) _
  have J7 := I7 _ rfl; clear I7
  generalize w5.alloc (.cells #[.int .i64 A, .int .i64 B, .int .i64 C, .int .i64 D] 27) = W7 at J7 ⊢
  obtain ⟨⟨f10, f11, f12, f13⟩, bb7⟩ := J7
  replace f1 := old bb7 f1; replace f2 := old bb7 f2; replace f3 := old bb7 f3; replace f4 := old bb7 f4; replace f5 := old bb7 f5; replace f6 := old bb7 f6; replace f7 := old bb7 f7; replace f8 := old bb7 f8; replace f9 := old bb7 f9
  have B8_ := Lib.hid (B6_.out.trans (bb7.mono B6_.out.size)); clear bb7
  refine (CH.out _).mono ?_; rintro e w9 ⟨rfl, hb⟩
  replace f1 := old hb f1; replace f2 := old hb f2; replace f3 := old hb f3; replace f4 := old hb f4; replace f5 := old hb f5; replace f6 := old hb f6; replace f7 := old hb f7; replace f8 := old hb f8; replace f9 := old hb f9; replace f10 := old hb f10; replace f11 := old hb f11; replace f12 := old hb f12; replace f13 := old hb f13
  have B10_ := Lib.hid (B8_.out.trans (hb.mono B8_.out.size)); clear hb
  clear hz1 hz2 hz3
  have hz1 : w.heap.size < w9.heap.size := cell_lt f1
  have hz2 : w.heap.size + 1 < w9.heap.size := cell_lt f3
  have hz3 : w1.heap.size < w9.heap.size := cell_lt f7
  have hz4 : w5.heap.size < w9.heap.size := cell_lt f10
  go_wp2_with fail
  refine (CP.out _).mono ?_; rintro e w11 ⟨rfl, hb⟩
  replace f1 := old hb f1; replace f2 := old hb f2; replace f3 := old hb f3; replace f4 := old hb f4; replace f5 := old hb f5; replace f6 := old hb f6; replace f7 := old hb f7; replace f8 := old hb f8; replace f9 := old hb f9; replace f10 := old hb f10; replace f11 := old hb f11; replace f12 := old hb f12; replace f13 := old hb f13
  have B12_ := Lib.hid (B10_.out.trans (hb.mono B10_.out.size)); clear hb
  clear hz1 hz2 hz3 hz4
  have hz1 : w.heap.size < w11.heap.size := cell_lt f1
  have hz2 : w.heap.size + 1 < w11.heap.size := cell_lt f3
  have hz3 : w1.heap.size < w11.heap.size := cell_lt f7
  have hz4 : w5.heap.size < w11.heap.size := cell_lt f10
  go_wp2_with fail
  have I13 : ∀ W, W = w11.alloc (.cells #[.int .i64 (z - 1), .int .i64 PX, .int .i64 PY] 23) → (W.cell? ⟨w11.heap.size, 0, none⟩ = some (.int .i64 (z - 1)) ∧ W.cell? ⟨w11.heap.size, 1, none⟩ = some (.int .i64 PX) ∧ W.cell? ⟨w11.heap.size, 2, none⟩ = some (.int .i64 PY)) ∧ Below w11.heap.size w11 W := by
    intro W e; subst e
    refine ⟨⟨by go_simp, by go_simp, by go_simp⟩, ?_⟩
    exact (Below.refl _ _).alloc (Nat.le_refl _) _
  have J13 := I13 _ rfl; clear I13
  generalize w11.alloc (.cells #[.int .i64 (z - 1), .int .i64 PX, .int .i64 PY] 23) = W13 at J13 ⊢
  obtain ⟨⟨f14, f15, f16⟩, bb13⟩ := J13
  replace f1 := old bb13 f1; replace f2 := old bb13 f2; replace f3 := old bb13 f3; replace f4 := old bb13 f4; replace f5 := old bb13 f5; replace f6 := old bb13 f6; replace f7 := old bb13 f7; replace f8 := old bb13 f8; replace f9 := old bb13 f9; replace f10 := old bb13 f10; replace f11 := old bb13 f11; replace f12 := old bb13 f12; replace f13 := old bb13 f13
  have B14_ := Lib.hid (B12_.out.trans (bb13.mono B12_.out.size)); clear bb13
  refine (CU.out _).mono ?_; rintro e w15 ⟨rfl, hb⟩
  replace f1 := old hb f1; replace f2 := old hb f2; replace f3 := old hb f3; replace f4 := old hb f4; replace f5 := old hb f5; replace f6 := old hb f6; replace f7 := old hb f7; replace f8 := old hb f8; replace f9 := old hb f9; replace f10 := old hb f10; replace f11 := old hb f11; replace f12 := old hb f12; replace f13 := old hb f13; replace f14 := old hb f14; replace f15 := old hb f15; replace f16 := old hb f16
  have B16_ := Lib.hid (B14_.out.trans (hb.mono B14_.out.size)); clear hb
  clear hz1 hz2 hz3 hz4
  have hz1 : w.heap.size < w15.heap.size := cell_lt f1
  have hz2 : w.heap.size + 1 < w15.heap.size := cell_lt f3
  have hz3 : w1.heap.size < w15.heap.size := cell_lt f7
  have hz4 : w5.heap.size < w15.heap.size := cell_lt f10
  have hz5 : w11.heap.size < w15.heap.size := cell_lt f14
  go_wp2_with fail
  have I17 : ∀ W, W = w15.alloc (.cells #[.int .i64 (z - 1), .int .i64 PX, .int .i64 PY] 23) → (W.cell? ⟨w15.heap.size, 0, none⟩ = some (.int .i64 (z - 1)) ∧ W.cell? ⟨w15.heap.size, 1, none⟩ = some (.int .i64 PX) ∧ W.cell? ⟨w15.heap.size, 2, none⟩ = some (.int .i64 PY)) ∧ Below w15.heap.size w15 W := by
    intro W e; subst e
    refine ⟨⟨by go_simp, by go_simp, by go_simp⟩, ?_⟩
    exact (Below.refl _ _).alloc (Nat.le_refl _) _
  have J17 := I17 _ rfl; clear I17
  generalize w15.alloc (.cells #[.int .i64 (z - 1), .int .i64 PX, .int .i64 PY] 23) = W17 at J17 ⊢
  obtain ⟨⟨f17, f18, f19⟩, bb17⟩ := J17
  replace f1 := old bb17 f1; replace f2 := old bb17 f2; replace f3 := old bb17 f3; replace f4 := old bb17 f4; replace f5 := old bb17 f5; replace f6 := old bb17 f6; replace f7 := old bb17 f7; replace f8 := old bb17 f8; replace f9 := old bb17 f9; replace f10 := old bb17 f10; replace f11 := old bb17 f11; replace f12 := old bb17 f12; replace f13 := old bb17 f13; replace f14 := old bb17 f14; replace f15 := old bb17 f15; replace f16 := old bb17 f16
  have B18_ := Lib.hid (B16_.out.trans (bb17.mono B16_.out.size)); clear bb17
  refine (CK.out _).mono ?_; rintro e w19 ⟨rfl, hb⟩
  replace f1 := old hb f1; replace f2 := old hb f2; replace f3 := old hb f3; replace f4 := old hb f4; replace f5 := old hb f5; replace f6 := old hb f6; replace f7 := old hb f7; replace f8 := old hb f8; replace f9 := old hb f9; replace f10 := old hb f10; replace f11 := old hb f11; replace f12 := old hb f12; replace f13 := old hb f13; replace f14 := old hb f14; replace f15 := old hb f15; replace f16 := old hb f16; replace f17 := old hb f17; replace f18 := old hb f18; replace f19 := old hb f19
  have B20_ := Lib.hid (B18_.out.trans (hb.mono B18_.out.size)); clear hb
  clear hz1 hz2 hz3 hz4 hz5
  have hz1 : w.heap.size < w19.heap.size := cell_lt f1
  have hz2 : w.heap.size + 1 < w19.heap.size := cell_lt f3
  have hz3 : w1.heap.size < w19.heap.size := cell_lt f7
  have hz4 : w5.heap.size < w19.heap.size := cell_lt f10
  have hz5 : w11.heap.size < w19.heap.size := cell_lt f14
  have hz6 : w15.heap.size < w19.heap.size := cell_lt f17
  go_wp2_with fail
  refine (CV.out _).mono ?_; rintro e w21 ⟨v, rfl, ht, hb⟩
  obtain ⟨a1, c1, e1⟩ := ht.form; subst e1
  obtain ⟨n, hn⟩ : ∃ n, L.length = n := ⟨_, rfl⟩
  rw [hn] at ht hi0 hlen ⊢
  have HN := Lib.hid hn; clear hn
  have TL := Lib.hid ht; clear ht
  replace f1 := old hb f1; replace f2 := old hb f2; replace f3 := old hb f3; replace f4 := old hb f4; replace f5 := old hb f5; replace f6 := old hb f6; replace f7 := old hb f7; replace f8 := old hb f8; replace f9 := old hb f9; replace f10 := old hb f10; replace f11 := old hb f11; replace f12 := old hb f12; replace f13 := old hb f13; replace f14 := old hb f14; replace f15 := old hb f15; replace f16 := old hb f16; replace f17 := old hb f17; replace f18 := old hb f18; replace f19 := old hb f19
  have B22_ := Lib.hid (B20_.out.trans (hb.mono B20_.out.size)); clear hb
  clear hz1 hz2 hz3 hz4 hz5 hz6
  have hz1 : w.heap.size < w21.heap.size := cell_lt f1
  have hz2 : w.heap.size + 1 < w21.heap.size := cell_lt f3
  have hz3 : w1.heap.size < w21.heap.size := cell_lt f7
  have hz4 : w5.heap.size < w21.heap.size := cell_lt f10
  have hz5 : w11.heap.size < w21.heap.size := cell_lt f14
  have hz6 : w15.heap.size < w21.heap.size := cell_lt f17
  clear f1 f2 f3 f4 f5 f6 f10 f11 f12 f13 f14 f15 f16 f17 f18 f19 hz1 hz2 hz3 hz4 hz5 hz6
  go_wp2_with fail
  have TF := Lib.hid (And.intro f7 (And.intro f8 f9))
  clear f7 f8 f9
  go_loopw [16] (fun s16 wr => ∃ k : Nat, k ≤ i0 ∧ s16 = .int .i64 (k : Int) ∧ Hid (Below w21.heap.size w21 wr)) (fun s16 _ => n - (intOf s16).toNat)
  case atStart => exact ⟨0, by omega, rfl, Below.refl _ _⟩
  case round =>
    obtain ⟨k, hk, rfl, BB⟩ := hrel
    have hkn : k < n := by omega
    obtain ⟨d1, d2, d3⟩ := TF.out
    have t1 := old BB.out d1; have t2 := old BB.out d2; have t3 := old BB.out d3
    clear d1 d2 d3
    have hk' : k < L.length := by have := HN.out; omega
    obtain ⟨bl, ol, ee, x1, x2, x3⟩ := (TL.out.below BB.out).at hk'
    subst ee
    have i1 : (0 : Int) ≤ (k : Int) := by omega
    have i2 : (k : Int) < (n : Int) := by omega
    have NE : Hid (L.getD k (0, 0, 0) ≠ (z, X, Y) → k < i0) := by
      intro h
      by_cases e : k = i0
      · rw [e] at h; exact absurd HI.out h
      · omega
    obtain ⟨t, ht⟩ : ∃ t, L.getD k (0, 0, 0) = t := ⟨_, rfl⟩
    rw [ht] at x1 x2 x3 NE
    clear ht hk'
    obtain ⟨e1, e2, e3⟩ := t
    have hcase : (e1 = z ∧ e2 = X ∧ e3 = Y) ∨ ((e1 == z) = false ∧ k < i0) ∨ (e1 = z ∧ (e2 == X) = false ∧ k < i0) ∨ (e1 = z ∧ e2 = X ∧ (e3 == Y) = false ∧ k < i0) := by
      by_cases h1 : e1 = z
      · by_cases h2 : e2 = X
        · by_cases h3 : e3 = Y
          · exact Or.inl ⟨h1, h2, h3⟩
          · exact Or.inr (Or.inr (Or.inr ⟨h1, h2, by simpa using h3, NE.out (by intro h; injection h with _ h; injection h with _ h; exact h3 h)⟩))
        · exact Or.inr (Or.inr (Or.inl ⟨h1, by simpa using h2, NE.out (by intro h; injection h with _ h; injection h with h _; exact h2 h)⟩))
      · exact Or.inr (Or.inl ⟨by simpa using h1, NE.out (by intro h; injection h with h _; exact h1 h)⟩)
    clear NE
    rcases hcase with ⟨rfl, rfl, rfl⟩ | ⟨h1, hlt⟩ | ⟨rfl, h2, hlt⟩ | ⟨rfl, rfl, h3, hlt⟩
    · go_wp2_with fail
      go_quiet (fail)
      go_wp2_with fail
      refine (lives_any _).mono ?_; rintro e w9 ⟨rfl, hb9⟩
      have HB9 := Lib.hid hb9; clear hb9
      go_wp2_with fail
      go_ret
      refine ⟨rfl, ?_⟩
      have b1 := B22_.out; have b2 := BB.out; have b3 := HB9.out
      exact (b1.trans (b2.mono b1.size)).trans ((below_drewN (Below.refl _ _) _).trans b3 |>.mono (Nat.le_trans b1.size b2.size))
    all_goals
      go_wp2_with fail
      go_quiet (fail)
      go_wp2
      go_roundw
      case rel => exact ⟨k + 1, by omega, by go_num, below_drewN BB.out _⟩
      case measure => simp [intOf]; omega
theorem tilegridHolds_walk (vp vb : Value) (z : Int) (w : World) (hp : IsPt vp) (hb : IsBx vb) (_hz : I64 z) :
    Calls Try.prog 8 #[vp, vb, .int .i64 z] w fun e w' => e = .returned (.bool true) ∧ Below w.heap.size w w' := by
  obtain ⟨p, q, rfl, _, _⟩ := hp
  obtain ⟨a, b, c, d, rfl, _, _, _, _⟩ := hb
  cases hv : vldB p q
  · refine hold_bad p q a b c d z w 11 rfl (fun W => ?_)
    have := ofT_any p q z W; rw [of_bad hv] at this; exact this
  · by_cases hz : 0 ≤ z ∧ z ≤ 7
    · obtain ⟨h0, h1⟩ := hz
      have hg := of_good hv h0 h1
      have CO : ∀ W, Calls Try.prog 11 #[pt p q, .int .i64 z] W fun e w' => e = .returned (.tuple #[tl z (p / siz z) (q / siz z), .int .i64 0]) ∧ Below W.heap.size W w' := by
        intro W; have := ofT_any p q z W; rw [of_ok hv h0 h1] at this; exact this
      have CB : ∀ W, Calls Try.prog 9 #[tl z (p / siz z) (q / siz z)] W fun e w' => e = .returned (.tuple #[bx (p / siz z * siz z) (q / siz z * siz z) ((p / siz z + 1) * siz z) ((q / siz z + 1) * siz z), .int .i64 0]) ∧ Below W.heap.size W w' := by
        intro W; have := boxT_any z (p / siz z) (q / siz z) W
        unfold bxT qB chkT at this; rw [if_pos hg, if_pos hg] at this; exact this
      have CH := fun W => holdT _ _ _ _ p q W true (of_hold hv h0 h1)
      have CK : ∀ k, hdB a b c d p q = k → ∀ W, Calls Try.prog 32 #[bx a b c d, pt p q] W fun e w' => e = .returned (.bool k) ∧ Below W.heap.size W w' := fun k h W => holdT a b c d p q W k h
      by_cases hz0 : z = 0
      · subst hz0
        have CP : ∀ W, Calls Try.prog 18 #[tl 0 (p / siz 0) (q / siz 0)] W fun e w' => e = .returned (.tuple #[tl 0 0 0, .bool false]) ∧ Below W.heap.size W w' := by
          intro W; have := parT_any 0 (p / siz 0) (q / siz 0) W; rw [par_no (Or.inr rfl)] at this; exact this
        cases hk : hdB a b c d p q
        · exact hold_00 p q a b c d w _ _ _ _ _ _ CO CB CH CP (CK _ hk)
        · obtain ⟨i, hi, he⟩ := mem_nth (cov_mem hk h0 h1)
          exact hold_01 p q a b c d w _ _ _ _ _ _ CO CB CH CP (CK _ hk) _ i hi (cov_len a b c d 0) he (fun W => cover_any a b c d 0 W)
      · have CP : ∀ W, Calls Try.prog 18 #[tl z (p / siz z) (q / siz z)] W fun e w' => e = .returned (.tuple #[tl (z - 1) (p / siz z / 2) (q / siz z / 2), .bool true]) ∧ Below W.heap.size W w' := by
          intro W; have := parT_any z (p / siz z) (q / siz z) W; rw [par_yes hg hz0] at this; exact this
        have CU : ∀ W, Calls Try.prog 11 #[pt p q, .int .i64 (z - 1)] W fun e w' => e = .returned (.tuple #[tl (z - 1) (p / siz z / 2) (q / siz z / 2), .int .i64 0]) ∧ Below W.heap.size W w' := by
          intro W; have := ofT_any p q (z - 1) W; rw [of_ok hv (by omega) (by omega), of_up (by omega) h1, of_up (by omega) h1] at this; exact this
        cases hk : hdB a b c d p q
        · exact hold_10 p q a b c d z w _ _ _ _ _ _ (by omega) h1 CO CB CH _ _ CP CU (CK _ hk)
        · obtain ⟨i, hi, he⟩ := mem_nth (cov_mem hk h0 h1)
          exact hold_11 p q a b c d z w _ _ _ _ _ _ (by omega) h1 CO CB CH _ _ CP CU (CK _ hk) _ i hi (cov_len a b c d z) he (fun W => cover_any a b c d z W)
    · refine hold_bad p q a b c d z w 2 rfl (fun W => ?_)
      have := ofT_any p q z W; rw [of_out hv hz] at this; exact this
end Go.Proofs.Ytoibhapjkeakbaa
