/- Check. -/
import Derived.Test.YtahaigamigkhbaaWc
namespace Go.Proofs.Ytahaigamigkhbaa
open Go.ChangeShapes Go.WideShapes Go.ChangeAt Go.RowKit Go.Joins Go.Deep

def chk (a b c d : Int) : Int := if goodB a b c d = true then 0 else 2
theorem chk_yes {a b c d : Int} (h : goodB a b c d = true) : chk a b c d = 0 := by unfold chk; rw [if_pos h]
theorem chk_no {a b c d : Int} (h : goodB a b c d = false) : chk a b c d = 2 := by unfold chk; rw [if_neg (by rw [h]; simp)]

set_option maxHeartbeats 1000000 in
theorem good_any (a b c d : Int) (w : World) :
    Calls Try.prog 34 #[bx a b c d] w fun e w' => e = .returned (.bool (goodB a b c d)) ∧ Below w.heap.size w w' := by
  go_enter Try.func34, Try.ntmps34
  go_wp2
  all_goals go_ret
  all_goals refine ⟨ret_bool ?_, (Below.refl _ _).alloc (Nat.le_refl _) _⟩
  all_goals (have e3 := @goodB_iff a b c d; cases hv : goodB a b c d <;> simp [hv] at e3 ⊢ <;> omega)

set_option maxHeartbeats 1000000 in
theorem checkr_any (a b c d : Int) (w : World) :
    Calls Try.prog 18 #[bx a b c d] w fun e w' => e = .returned (.int .i64 (chk a b c d)) ∧ Below w.heap.size w w' := by
  cases hg : goodB a b c d
  all_goals
    have HG := Lib.hid hg; clear hg
    go_enter Try.func18, Try.ntmps18
    go_wp2_with fail
    refine (good_any _ _ _ _ _).mono ?_; rintro e w1 ⟨rfl, hb⟩; rw [HG.out]
    have HB := Lib.hid hb; clear hb
    go_wp2_with fail
    go_ret
    refine ⟨ret_i64 (by first | (rw [chk_yes HG.out]; done) | (rw [chk_no HG.out]; done)), ?_⟩
    have hb := HB.out
    (repeat (first | exact Below.refl _ _ | (refine Below.drew ?_) | (refine below_drewN ?_ _) | (refine Below.alloc ?_ (by first | omega | (simp <;> omega)) _) | (refine Below.setCell ?_ (by first | omega | (simp <;> omega)) _) | (refine Below.trans ?_ (Below.mono (by assumption) (by first | omega | (simp <;> omega))))))

theorem span_good {a b c d : Int} (h1 : a ≤ c) (h2 : b ≤ d) : goodB a b c d = (minZ 0 a == 0 && minZ 0 b == 0 && maxZ 32768 c == 32768 && maxZ 32768 d == 32768) := by
  unfold goodB
  have e1 : (minZ 0 a = 0) ↔ 0 ≤ a := by unfold minZ; split <;> omega
  have e2 : (minZ 0 b = 0) ↔ 0 ≤ b := by unfold minZ; split <;> omega
  have e3 : (maxZ 32768 c = 32768) ↔ c ≤ 32768 := by unfold maxZ; split <;> omega
  have e4 : (maxZ 32768 d = 32768) ↔ d ≤ 32768 := by unfold maxZ; split <;> omega
  rw [Bool.eq_iff_iff]; simp [e1, e2, e3, e4]; omega

set_option maxHeartbeats 1000000 in
theorem check_any (a b c d : Int) (w : World) :
    Calls Try.prog 17 #[bx a b c d] w fun e w' => e = .returned (.int .i64 (chk a b c d)) ∧ Below w.heap.size w w' := by
  have S0 : Hid (∀ W, W = ((w.alloc (.cells #[.int .i64 a, .int .i64 b, .int .i64 c, .int .i64 d] 40)).alloc (.cells #[.int .i64 0, .int .i64 0, .int .i64 32768, .int .i64 32768] 40)).drew →
      Below w.heap.size w W ∧ W.cell? ⟨w.heap.size + 1, 0, none⟩ = some (.int .i64 0) ∧ W.cell? ⟨w.heap.size + 1, 1, none⟩ = some (.int .i64 0) ∧ W.cell? ⟨w.heap.size + 1, 2, none⟩ = some (.int .i64 32768) ∧ W.cell? ⟨w.heap.size + 1, 3, none⟩ = some (.int .i64 32768) ∧ W.cell? ⟨w.heap.size, 0, none⟩ = some (.int .i64 a) ∧ W.cell? ⟨w.heap.size, 1, none⟩ = some (.int .i64 b) ∧ W.cell? ⟨w.heap.size, 2, none⟩ = some (.int .i64 c) ∧ W.cell? ⟨w.heap.size, 3, none⟩ = some (.int .i64 d)) := by
    intro W e; subst e
    exact ⟨(((Below.refl _ _).alloc (Nat.le_refl _) _).alloc (by simp) _).drew, by go_simp, by go_simp, by go_simp, by go_simp, by go_simp, by go_simp, by go_simp, by go_simp⟩
  by_cases h1 : c < a
  · have G : Hid (chk a b c d = 2) := chk_no (by unfold goodB; simp; omega)
    go_enter Try.func17, Try.ntmps17
    go_wp2_with fail
    go_quiet (fail)
    go_wp2
    go_ret
    exact ⟨ret_i64 G.out.symm, below_drewN (((Below.refl _ _).alloc (Nat.le_refl _) _).alloc (by simp) _) _⟩
  · have d1 : decide (c < a) = false := by simpa using h1
    by_cases h2 : d < b
    · have G : Hid (chk a b c d = 2) := chk_no (by unfold goodB; simp; omega)
      go_enter Try.func17, Try.ntmps17
      go_wp2_with fail
      go_quiet (fail)
      go_wp2
      go_ret
      exact ⟨ret_i64 G.out.symm, below_drewN (((Below.refl _ _).alloc (Nat.le_refl _) _).alloc (by simp) _) _⟩
    · have d2 : decide (d < b) = false := by simpa using h2
      have hcase : (goodB a b c d = true ∧ minZ 0 a = 0 ∧ minZ 0 b = 0 ∧ maxZ 32768 c = 32768 ∧ maxZ 32768 d = 32768) ∨ (goodB a b c d = false ∧ (minZ 0 a == 0) = false) ∨ (goodB a b c d = false ∧ minZ 0 a = 0 ∧ (minZ 0 b == 0) = false) ∨ (goodB a b c d = false ∧ minZ 0 a = 0 ∧ minZ 0 b = 0 ∧ (maxZ 32768 c == 32768) = false) ∨ (goodB a b c d = false ∧ minZ 0 a = 0 ∧ minZ 0 b = 0 ∧ maxZ 32768 c = 32768 ∧ (maxZ 32768 d == 32768) = false) := by
        rw [span_good (a := a) (b := b) (c := c) (d := d) (by omega) (by omega)]
        by_cases e1 : minZ 0 a = 0
        · by_cases e2 : minZ 0 b = 0
          · by_cases e3 : maxZ 32768 c = 32768
            · by_cases e4 : maxZ 32768 d = 32768
              · exact Or.inl ⟨by simp [e1, e2, e3, e4], e1, e2, e3, e4⟩
              · exact Or.inr (Or.inr (Or.inr (Or.inr ⟨by simp [e1, e2, e3, e4], e1, e2, e3, by simpa using e4⟩)))
            · exact Or.inr (Or.inr (Or.inr (Or.inl ⟨by simp [e1, e2, e3], e1, e2, by simpa using e3⟩)))
          · exact Or.inr (Or.inr (Or.inl ⟨by simp [e1, e2], e1, by simpa using e2⟩))
        · exact Or.inr (Or.inl ⟨by simp [e1], by simpa using e1⟩)
      rcases hcase with ⟨hv, k1, k2, k3, k4⟩ | ⟨hv, k1⟩ | ⟨hv, k1, k2⟩ | ⟨hv, k1, k2, k3⟩ | ⟨hv, k1, k2, k3, k4⟩
      all_goals
        have HV := Lib.hid hv; clear hv
        go_enter Try.func17, Try.ntmps17
        go_wp2_with fail
        go_region_held3 (fun w' => Below w.heap.size w w' ∧ w'.cell? ⟨w.heap.size + 1, 0, none⟩ = some (.int .i64 0) ∧ w'.cell? ⟨w.heap.size + 1, 1, none⟩ = some (.int .i64 0) ∧ w'.cell? ⟨w.heap.size + 1, 2, none⟩ = some (.int .i64 32768) ∧ w'.cell? ⟨w.heap.size + 1, 3, none⟩ = some (.int .i64 32768) ∧ w'.cell? ⟨w.heap.size, 0, none⟩ = some (.int .i64 a) ∧ w'.cell? ⟨w.heap.size, 1, none⟩ = some (.int .i64 b) ∧ w'.cell? ⟨w.heap.size, 2, none⟩ = some (.int .i64 c) ∧ w'.cell? ⟨w.heap.size, 3, none⟩ = some (.int .i64 d))
          (first | exact S0.out _ rfl | assumption | exact keep8 (by assumption) (by assumption))
          (first | (go_at_call 32; (with_reducible refine (span_any _ _ _ _ _ _ _ _ _).mono ?_); rintro e w1 ⟨rfl, b1⟩))
        all_goals go_wp2
        all_goals go_ret
        all_goals refine ⟨ret_i64 ?_, bel_of (by assumption)⟩
        all_goals first | exact (chk_yes HV.out).symm | exact (chk_no HV.out).symm

def jn (g : Bool) (a : Int) : Int := if g = true then a else 0
def gg (a b c d x y z u : Int) : Bool := goodB a b c d && goodB x y z u

set_option maxHeartbeats 1000000 in
theorem both_any (a b c d x y z u : Int) (w : World) :
    Calls Try.prog 35 #[bx a b c d, bx x y z u] w fun e w' => e = .returned (.bool (gg a b c d x y z u)) ∧ Below w.heap.size w w' := by
  have HG : Hid (gg a b c d x y z u = (goodB a b c d && goodB x y z u)) := rfl
  cases h1 : goodB a b c d
  · have H1 := Lib.hid (chk_no h1); have G1 := Lib.hid h1; clear h1
    go_enter Try.func35, Try.ntmps35
    go_wp2_with fail
    refine (check_any _ _ _ _ _).mono ?_; rintro e w1 ⟨rfl, hb⟩; rw [H1.out]
    have HB := Lib.hid hb; clear hb
    go_wp2_with fail
    go_ret
    refine ⟨ret_bool (by rw [HG.out, G1.out]; rfl), ?_⟩
    have hb := HB.out
    (repeat (first | exact Below.refl _ _ | (refine Below.drew ?_) | (refine below_drewN ?_ _) | (refine Below.alloc ?_ (by first | omega | (simp <;> omega)) _) | (refine Below.setCell ?_ (by first | omega | (simp <;> omega)) _) | (refine Below.trans ?_ (Below.mono (by assumption) (by first | omega | (simp <;> omega))))))
  · have H1 := Lib.hid (chk_yes h1); have G1 := Lib.hid h1; clear h1
    cases h2 : goodB x y z u
    all_goals
      have H2 : Hid (chk x y z u = if goodB x y z u = true then 0 else 2) := rfl
      have G2 := Lib.hid h2; clear h2
      go_enter Try.func35, Try.ntmps35
      go_wp2_with fail
      refine (check_any _ _ _ _ _).mono ?_; rintro e w1 ⟨rfl, hb⟩; rw [H1.out]
      obtain ⟨hc, hf⟩ := bcell hb
      have hz : w.heap.size + 1 < w1.heap.size := by have := hb.size; simp at this; omega
      have HB := Lib.hid hb; clear hb
      go_wp2_with fail
      refine (check_any _ _ _ _ _).mono ?_; rintro e w2 ⟨rfl, hb2⟩; rw [H2.out, G2.out]
      have HB2 := Lib.hid hb2; clear hb2
      go_wp2_with fail
      go_ret
      refine ⟨ret_bool (by rw [HG.out, G1.out, G2.out]; rfl), ?_⟩
      have hb := HB.out; have hb2 := HB2.out
      (repeat (first | exact Below.refl _ _ | (refine Below.drew ?_) | (refine below_drewN ?_ _) | (refine Below.alloc ?_ (by first | omega | (simp <;> omega)) _) | (refine Below.setCell ?_ (by first | omega | (simp <;> omega)) _) | (refine Below.trans ?_ (Below.mono (by assumption) (by first | omega | (simp <;> omega))))))
end Go.Proofs.Ytahaigamigkhbaa
