/- Tiles: the walk of TilegridTree. -/
import Derived.Test.YtoibhapjkeakbaaWp
namespace Go.Proofs.Ytoibhapjkeakbaa
open Go.ChangeShapes Go.WideShapes Go.ChangeAt Go.RowKit Go.Joins Go.Deep

theorem cnt_next {z : Int} (h0 : 0 ≤ z) (h1 : z < 7) : cnt (z + 1) = 2 * cnt z ∧ siz z = 2 * siz (z + 1) := by
  have : z = 0 ∨ z = 1 ∨ z = 2 ∨ z = 3 ∨ z = 4 ∨ z = 5 ∨ z = 6 := by omega
  rcases this with rfl | rfl | rfl | rfl | rfl | rfl | rfl <;> decide
theorem ch_good {z x y i j : Int} (h : goodT z x y = true) (hz : z ≠ 7) (i0 : 0 ≤ i) (i1 : i ≤ 1) (j0 : 0 ≤ j) (j1 : j ≤ 1) : goodT (z + 1) (2 * x + i) (2 * y + j) = true := by
  obtain ⟨g0, g1, g2, g3, g4, g5⟩ := goodT_iff.1 h
  obtain ⟨e1, _⟩ := cnt_next g0 (by omega)
  rw [goodT_iff, e1]; omega
theorem ch_par {z x y i j : Int} (h : goodT z x y = true) (hz : z ≠ 7) (i0 : 0 ≤ i) (i1 : i ≤ 1) (j0 : 0 ≤ j) (j1 : j ≤ 1) : parT (z + 1) (2 * x + i) (2 * y + j) = .tuple #[tl z x y, .bool true] := by
  have g := ch_good h hz i0 i1 j0 j1
  obtain ⟨g0, g1, _⟩ := goodT_iff.1 h
  have e := par_yes g (by omega)
  injection e with e
  rw [e, show z + 1 - 1 = z by omega, show (2 * x + i) / 2 = x by omega, show (2 * y + j) / 2 = y by omega]
theorem mul_i {x s i : Int} (hi : i = 0 ∨ i = 1) : (2 * x + i) * s = x * (2 * s) + i * s ∧ (2 * x + i + 1) * s = (2 * x + i) * s + s ∧ i * s = (if i = 0 then 0 else s) ∧ (x + 1) * (2 * s) = x * (2 * s) + 2 * s := by
  rcases hi with rfl | rfl <;> refine ⟨by grind, by grind, by simp, by grind⟩
structure Chi (z x y b0 b1 b2 b3 s' X Y : Int) : Prop where
  par : ∀ W, Calls Try.prog 18 #[tl (z + 1) X Y] W fun e w' => e = .returned (.tuple #[tl z x y, .bool true]) ∧ Below W.heap.size W w'
  box : ∃ A B C D, (∀ W, Calls Try.prog 9 #[tl (z + 1) X Y] W fun e w' => e = .returned (.tuple #[bx A B C D, .int .i64 0]) ∧ Below W.heap.size W w') ∧ (∀ W, Calls Try.prog 31 #[bx b0 b1 b2 b3, bx A B C D] W fun e w' => e = .returned (bx b0 b1 b2 b3) ∧ Below W.heap.size W w') ∧ C - A = s' ∧ D - B = s' ∧ 0 ≤ A ∧ 0 ≤ B ∧ C ≤ 32768 ∧ D ≤ 32768
theorem chi_any {z x y i j : Int} (h : goodT z x y = true) (hz : z ≠ 7) (hi : i = 0 ∨ i = 1) (hj : j = 0 ∨ j = 1) : Chi z x y (x * siz z) (y * siz z) ((x + 1) * siz z) ((y + 1) * siz z) (siz (z + 1)) (2 * x + i) (2 * y + j) := by
  obtain ⟨g0, g1, g2, g3, g4, g5⟩ := goodT_iff.1 h
  obtain ⟨e1, e2⟩ := cnt_next g0 (by omega)
  have gc := ch_good h hz (show 0 ≤ i by omega) (by omega) (show 0 ≤ j by omega) (by omega)
  obtain ⟨k0, k1, k2, k3, k4, k5⟩ := goodT_iff.1 gc
  obtain ⟨_, d2, d3, d4⟩ := siz_in g0 g1
  obtain ⟨_, c2, c3, c4⟩ := siz_in k0 k1
  obtain ⟨m1, m2, m3, m4⟩ := mul_in k2 k3 (by omega) c2
  obtain ⟨n1, n2, n3, n4⟩ := mul_in k4 k5 (by omega) c2
  obtain ⟨p1, p2, p3, p4⟩ := mul_in g2 g3 (by omega) d2
  obtain ⟨q1, q2, q3, q4⟩ := mul_in g4 g5 (by omega) d2
  refine ⟨fun W => ?_, ?_⟩
  · rw [← ch_par h hz (show 0 ≤ i by omega) (by omega) (show 0 ≤ j by omega) (by omega)]; exact parT_any _ _ _ W
  · refine ⟨(2 * x + i) * siz (z + 1), (2 * y + j) * siz (z + 1), (2 * x + i + 1) * siz (z + 1), (2 * y + j + 1) * siz (z + 1), fun W => ?_, fun W => ?_, ?_⟩
    · have := boxT_any (z + 1) (2 * x + i) (2 * y + j) W
      unfold bxT qB chkT at this
      rw [if_pos gc, if_pos gc] at this
      exact this
    · have hj1 := joinr_any (x * siz z) (y * siz z) ((x + 1) * siz z) ((y + 1) * siz z) ((2 * x + i) * siz (z + 1)) ((2 * y + j) * siz (z + 1)) ((2 * x + i + 1) * siz (z + 1)) ((2 * y + j + 1) * siz (z + 1)) W
      obtain ⟨u1, u2, u3, u4⟩ := mul_i (x := x) (s := siz (z + 1)) hi
      obtain ⟨v1, v2, v3, v4⟩ := mul_i (x := y) (s := siz (z + 1)) hj
      rw [e2] at hj1 p1 p2 p3 p4 q1 q2 q3 q4 ⊢
      rw [u3] at u1; rw [v3] at v1
      have G : gg (x * (2 * siz (z + 1))) (y * (2 * siz (z + 1))) ((x + 1) * (2 * siz (z + 1))) ((y + 1) * (2 * siz (z + 1))) ((2 * x + i) * siz (z + 1)) ((2 * y + j) * siz (z + 1)) ((2 * x + i + 1) * siz (z + 1)) ((2 * y + j + 1) * siz (z + 1)) = true := by
        unfold gg
        rw [Bool.and_eq_true, goodB_iff, goodB_iff]
        generalize (2 * x + i) * siz (z + 1) = a1 at *
        generalize (2 * x + i + 1) * siz (z + 1) = a2 at *
        generalize (2 * y + j) * siz (z + 1) = a3 at *
        generalize (2 * y + j + 1) * siz (z + 1) = a4 at *
        generalize x * (2 * siz (z + 1)) = a5 at *
        generalize y * (2 * siz (z + 1)) = a6 at *
        generalize (x + 1) * (2 * siz (z + 1)) = a7 at *
        generalize (y + 1) * (2 * siz (z + 1)) = a8 at *
        omega
      unfold jbx at hj1
      rw [jn_y G, jn_y G, jn_y G, jn_y G] at hj1
      have r1 : minZ (x * (2 * siz (z + 1))) ((2 * x + i) * siz (z + 1)) = x * (2 * siz (z + 1)) := by
        unfold minZ; rw [if_neg]; split at u1 <;> omega
      have r2 : minZ (y * (2 * siz (z + 1))) ((2 * y + j) * siz (z + 1)) = y * (2 * siz (z + 1)) := by
        unfold minZ; rw [if_neg]; split at v1 <;> omega
      have r3 : maxZ ((x + 1) * (2 * siz (z + 1))) ((2 * x + i + 1) * siz (z + 1)) = (x + 1) * (2 * siz (z + 1)) := by
        unfold maxZ; rw [if_neg]; rw [u2, u4]; split at u1 <;> omega
      have r4 : maxZ ((y + 1) * (2 * siz (z + 1))) ((2 * y + j + 1) * siz (z + 1)) = (y + 1) * (2 * siz (z + 1)) := by
        unfold maxZ; rw [if_neg]; rw [v2, v4]; split at v1 <;> omega
      rw [r1, r2, r3, r4] at hj1
      exact hj1
    · obtain ⟨u1, u2, u3, u4⟩ := mul_i (x := x) (s := siz (z + 1)) hi
      obtain ⟨v1, v2, v3, v4⟩ := mul_i (x := y) (s := siz (z + 1)) hj
      refine ⟨?_, ?_, m1, n1, m4, n4⟩ <;> omega
end Go.Proofs.Ytoibhapjkeakbaa
