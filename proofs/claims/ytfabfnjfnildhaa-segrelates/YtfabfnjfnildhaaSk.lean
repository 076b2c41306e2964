/- seg: what SegCycles says of the plain functions. -/
import Derived.Test.YtfabfnjfnildhaaSi
namespace Go.Proofs.Ytfabfnjfnildhaa
open Go.ChangeShapes Go.WideShapes Go.ChangeAt Go.RowKit Go.Joins Go.Deep

theorem v3_cyc (a b c d e f : Int) : v3 c d e f a b = v3 a b c d e f := by unfold v3; cases vldB a b <;> cases vldB c d <;> cases vldB e f <;> rfl
theorem v3_sw (a b c d e f : Int) : v3 c d a b e f = v3 a b c d e f := by unfold v3; cases vldB a b <;> cases vldB c d <;> cases vldB e f <;> rfl
theorem trn_cyc (a b c d e f : Int) : trn c d e f a b = trn a b c d e f := by
  unfold trn; rw [v3_cyc]; split
  · unfold tr; grind
  · rfl
theorem trn_sw (a b c d e f : Int) : trn c d a b e f = -trn a b c d e f := by
  unfold trn; rw [v3_sw]; split
  · unfold tr; grind
  · rfl
theorem d2_comm (a b c d : Int) : d2 a b c d = d2 c d a b := by unfold d2; grind
theorem al_sw (a b c d e f : Int) : al a b e f c d = d2 c d e f - al a b c d e f := by unfold al d2; grind
theorem v3_23 (a b c d e f : Int) : v3 a b e f c d = v3 a b c d e f := by unfold v3; cases vldB a b <;> cases vldB c d <;> cases vldB e f <;> rfl
theorem farQ_sw (a b c d e f : Int) : farQ a b e f c d = farQ a b c d e f := by
  cases h : v3 a b c d e f
  · rw [farQ_no h, farQ_no (by rw [v3_23]; exact h)]
  · have h' : v3 a b e f c d = true := by rw [v3_23]; exact h
    have e1 := al_sw a b c d e f
    have e2 := d2_comm e f c d
    by_cases k : al a b c d e f ≤ 0 ∨ d2 c d e f ≤ al a b c d e f
    · rw [farQ_end h k, farQ_end h' (by omega), Int.min_comm]
    · rw [farQ_mid h k, farQ_mid h' (by omega), e2, trn_sw c d e f a b, Int.neg_mul_neg]
theorem far_pos {a b c d e f : Int} (h : v3 a b c d e f = true) : 0 < (farQ a b c d e f).2 := by
  by_cases k : al a b c d e f ≤ 0 ∨ d2 c d e f ≤ al a b c d e f
  · rw [farQ_end h k]; simp
  · rw [farQ_mid h k]; simp; omega
theorem between {L A x u : Int} (h0 : 0 < A) (h1 : A < L) (h : L * x = u * A) : (0 ≤ x ∧ x ≤ u) ∨ (u ≤ x ∧ x ≤ 0) := by
  have hL : 0 < L := by omega
  by_cases hu : 0 ≤ u
  · left
    constructor
    · by_cases hx : 0 ≤ x
      · exact hx
      · have := Int.mul_neg_of_pos_of_neg hL (show x < 0 by omega)
        have := Int.mul_nonneg hu (show 0 ≤ A by omega)
        omega
    · by_cases hx : x ≤ u
      · exact hx
      · have p1 := Int.mul_lt_mul_of_pos_left (show u < x by omega) hL
        have p2 := Int.mul_le_mul_of_nonneg_left (show A ≤ L by omega) hu
        rw [Int.mul_comm L u] at p1
        omega
  · right
    constructor
    · by_cases hx : u ≤ x
      · exact hx
      · have p1 := Int.mul_lt_mul_of_pos_left (show x < u by omega) hL
        have p2 := Int.mul_le_mul_of_nonpos_left (show u ≤ 0 by omega) (show A ≤ L by omega)
        rw [Int.mul_comm L u] at p1
        omega
    · by_cases hx : x ≤ 0
      · exact hx
      · have := Int.mul_pos hL (show 0 < x by omega)
        have := Int.mul_neg_of_neg_of_pos (show u < 0 by omega) h0
        omega
theorem btw_sq {x u : Int} (h : (0 ≤ x ∧ x ≤ u) ∨ (u ≤ x ∧ x ≤ 0)) : x * x ≤ u * x := by
  rcases h with ⟨h1, h2⟩ | ⟨h1, h2⟩
  · exact Int.mul_le_mul_of_nonneg_right h2 h1
  · exact Int.mul_le_mul_of_nonpos_right h1 h2
theorem d2_zero {a b c d : Int} (h : d2 a b c d ≤ 0) : a = c ∧ b = d := by
  unfold d2 at h
  have s1 : 0 ≤ (a - c) * (a - c) := by
    by_cases k : 0 ≤ a - c
    · exact Int.mul_nonneg k k
    · have := Int.mul_nonneg (show 0 ≤ -(a - c) by omega) (show 0 ≤ -(a - c) by omega)
      rw [Int.neg_mul_neg] at this; exact this
  have s2 : 0 ≤ (b - d) * (b - d) := by
    by_cases k : 0 ≤ b - d
    · exact Int.mul_nonneg k k
    · have := Int.mul_nonneg (show 0 ≤ -(b - d) by omega) (show 0 ≤ -(b - d) by omega)
      rw [Int.neg_mul_neg] at this; exact this
  have z1 : (a - c) * (a - c) = 0 := by omega
  have z2 : (b - d) * (b - d) = 0 := by omega
  rcases Int.mul_eq_zero.1 z1 with k1 | k1 <;> rcases Int.mul_eq_zero.1 z2 with k2 | k2 <;> omega
theorem on_iff {a b c d e f : Int} (h : v3 a b c d e f = true) : onB a b c d e f = true ↔ ((((0 ≤ a - c ∧ a - c ≤ e - c) ∨ (e - c ≤ a - c ∧ a - c ≤ 0)) ∧ ((0 ≤ b - d ∧ b - d ≤ f - d) ∨ (f - d ≤ b - d ∧ b - d ≤ 0))) ∧ trn c d e f a b = 0) := by
  obtain ⟨h1, h2, h3⟩ := v3_iff.1 h
  obtain ⟨⟨a0, a1, b0, b1⟩, ⟨c0, c1, d0, d1⟩, ⟨e0, e1, f0, f1⟩⟩ := v3_bd h
  unfold onB vab
  rw [h2, h3]
  have g : goodB (minZ c e) (minZ d f) (maxZ c e) (maxZ d f) = true := by
    rw [goodB_iff]; unfold minZ maxZ; split <;> split <;> (try split) <;> (try split) <;> omega
  have k := hdB_iff (x := a) (y := b) g h1
  simp only [Bool.and_self, Bool.true_and, Bool.and_eq_true, beq_iff_eq, k]
  have e1 : (minZ c e ≤ a ∧ a ≤ maxZ c e) ↔ ((0 ≤ a - c ∧ a - c ≤ e - c) ∨ (e - c ≤ a - c ∧ a - c ≤ 0)) := by
    unfold minZ maxZ; split <;> split <;> omega
  have e2 : (minZ d f ≤ b ∧ b ≤ maxZ d f) ↔ ((0 ≤ b - d ∧ b - d ≤ f - d) ∨ (f - d ≤ b - d ∧ b - d ≤ 0)) := by
    unfold minZ maxZ; split <;> split <;> omega
  rw [← e1, ← e2]
  constructor
  · rintro ⟨⟨p1, p2, p3, p4⟩, q⟩; exact ⟨⟨⟨p1, p2⟩, p3, p4⟩, q⟩
  · rintro ⟨⟨⟨p1, p2⟩, p3, p4⟩, q⟩; exact ⟨⟨p1, p2, p3, p4⟩, q⟩
theorem mix (u v x y : Int) : (u * u + v * v) * x = u * (u * x + v * y) - v * (u * y - v * x) ∧ (u * u + v * v) * y = v * (u * x + v * y) + u * (u * y - v * x) := by constructor <;> grind
theorem far_zero {a b c d e f : Int} (h : v3 a b c d e f = true) : (farQ a b c d e f).1 = 0 ↔ onB a b c d e f = true := by
  rw [on_iff h]
  obtain ⟨h1, h2, h3⟩ := v3_iff.1 h
  have et : trn c d e f a b = (e - c) * (b - d) - (f - d) * (a - c) := by
    unfold trn; rw [if_pos (v3_iff.2 ⟨h2, h3, h1⟩)]; rfl
  have ea : al a b c d e f = (e - c) * (a - c) + (f - d) * (b - d) := rfl
  have eL : d2 c d e f = (e - c) * (e - c) + (f - d) * (f - d) := by unfold d2; grind
  have eA : d2 a b c d = (a - c) * (a - c) + (b - d) * (b - d) := rfl
  have eB : d2 a b e f = d2 a b c d - 2 * al a b c d e f + d2 c d e f := by rw [eL, ea]; unfold d2; grind
  obtain ⟨⟨a0, a1, b0, b1⟩, ⟨c0, c1, d0, d1⟩, ⟨e0, e1, f0, f1⟩⟩ := v3_bd h
  have m1 := (d2_bd (a := a) (b := b) (c := c) (d := d) ⟨a0, a1, b0, b1⟩ ⟨c0, c1, d0, d1⟩).1
  have m2 := (d2_bd (a := a) (b := b) (c := e) (d := f) ⟨a0, a1, b0, b1⟩ ⟨e0, e1, f0, f1⟩).1
  by_cases k : al a b c d e f ≤ 0 ∨ d2 c d e f ≤ al a b c d e f
  · rw [farQ_end h k]
    constructor
    · intro z
      replace z : min (d2 a b c d) (d2 a b e f) = 0 := z
      rcases (show d2 a b c d ≤ 0 ∨ d2 a b e f ≤ 0 by omega) with q | q
      · obtain ⟨rfl, rfl⟩ := d2_zero q
        rw [et]; refine ⟨⟨by omega, by omega⟩, by simp⟩
      · obtain ⟨rfl, rfl⟩ := d2_zero q
        rw [et]; refine ⟨⟨by omega, by omega⟩, by rw [Int.mul_comm]; omega⟩
    · rintro ⟨⟨p1, p2⟩, _⟩
      have q1 := btw_sq p1
      have q2 := btw_sq p2
      show min (d2 a b c d) (d2 a b e f) = 0
      omega
  · rw [farQ_mid h k]
    obtain ⟨i1, i2⟩ := mix (e - c) (f - d) (a - c) (b - d)
    rw [← eL, ← ea, ← et] at i1 i2
    constructor
    · intro z
      replace z : trn c d e f a b * trn c d e f a b = 0 := z
      have t0 : trn c d e f a b = 0 := by rcases Int.mul_eq_zero.1 z with q | q <;> exact q
      rw [t0] at i1 i2
      refine ⟨⟨?_, ?_⟩, t0⟩
      · exact between (L := d2 c d e f) (A := al a b c d e f) (by omega) (by omega) (by rw [i1]; omega)
      · exact between (L := d2 c d e f) (A := al a b c d e f) (by omega) (by omega) (by rw [i2]; omega)
    · rintro ⟨_, t0⟩
      show trn c d e f a b * trn c d e f a b = 0
      rw [t0]; rfl
theorem onB_sw (a b c d e f : Int) : onB a b e f c d = onB a b c d e f := by
  cases h : v3 a b c d e f
  · have key : ∀ c d e f : Int, v3 a b c d e f = false → onB a b c d e f = false := by
      intro c d e f h
      unfold onB vab
      unfold v3 at h
      cases h1 : vldB a b
      · rw [hdB_nv h1]; simp
      · rw [h1] at h
        cases h2 : vldB c d <;> cases h3 : vldB e f <;> simp_all
    rw [key _ _ _ _ h, key _ _ _ _ (by rw [v3_23]; exact h)]
  · have h' : v3 a b e f c d = true := by rw [v3_23]; exact h
    rw [Bool.eq_iff_iff, ← far_zero h, ← far_zero h', farQ_sw]
end Go.Proofs.Ytfabfnjfnildhaa
