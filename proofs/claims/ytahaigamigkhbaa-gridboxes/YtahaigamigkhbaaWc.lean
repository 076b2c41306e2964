/- Valid, Center and their references. -/
import Derived.Test.YtahaigamigkhbaaWb
namespace Go.Proofs.Ytahaigamigkhbaa
open Go.ChangeShapes Go.WideShapes Go.ChangeAt Go.RowKit Go.Joins Go.Deep

def ctX (x y : Int) : Int := if vldB x y = true then cx x else 0
def ctY (x y : Int) : Int := if vldB x y = true then cy y else 0
def ctE (x y : Int) : Int := if vldB x y = true then 0 else 11
theorem vld_clamp {x y : Int} (h : vldB x y = true) : clampZ x 0 32767 = x ∧ clampZ y 0 32767 = y := by
  obtain ⟨h1, h2, h3, h4⟩ := vldB_iff.1 h
  exact ⟨clamp_eq.2 ⟨h1, h2⟩, clamp_eq.2 ⟨h3, h4⟩⟩
theorem vld_not {x y : Int} (h : ¬ vldB x y = true) : (clampZ x 0 32767 == x && clampZ y 0 32767 == y) = false := by
  rw [vldB_iff] at h
  have := @clamp_eq x 0 32767
  have := @clamp_eq y 0 32767
  simp; omega

set_option maxHeartbeats 1000000 in
theorem valid_any (x y : Int) (w : World) :
    Calls Try.prog 12 #[pt x y] w fun e w' => e = .returned (.bool (vldB x y)) ∧ Below w.heap.size w w' := by
  have S0 : Hid (∀ W, W = ((w.alloc (.cells #[.int .i64 x, .int .i64 y] 25)).alloc (.cells #[.int .i64 0, .int .i64 0, .int .i64 32767, .int .i64 32767] 40)).drew →
      Below w.heap.size w W ∧ W.cell? ⟨w.heap.size + 1, 0, none⟩ = some (.int .i64 0) ∧ W.cell? ⟨w.heap.size + 1, 1, none⟩ = some (.int .i64 0) ∧ W.cell? ⟨w.heap.size + 1, 2, none⟩ = some (.int .i64 32767) ∧ W.cell? ⟨w.heap.size + 1, 3, none⟩ = some (.int .i64 32767) ∧ W.cell? ⟨w.heap.size, 0, none⟩ = some (.int .i64 x) ∧ W.cell? ⟨w.heap.size, 1, none⟩ = some (.int .i64 y)) := by
    intro W e; subst e
    exact ⟨(((Below.refl _ _).alloc (Nat.le_refl _) _).alloc (by simp) _).drew, by go_simp, by go_simp, by go_simp, by go_simp, by go_simp, by go_simp⟩
  have hcase : (vldB x y = true ∧ clampZ x 0 32767 = x ∧ clampZ y 0 32767 = y) ∨ (vldB x y = false ∧ (clampZ x 0 32767 == x) = false) ∨ (vldB x y = false ∧ clampZ x 0 32767 = x ∧ (clampZ y 0 32767 == y) = false) := by
    have e1 := @clamp_eq x 0 32767
    have e2 := @clamp_eq y 0 32767
    have e3 := @vldB_iff x y
    cases hv : vldB x y
    · simp [hv] at e3
      by_cases hx : clampZ x 0 32767 = x
      · exact Or.inr (Or.inr ⟨rfl, hx, by simp; omega⟩)
      · exact Or.inr (Or.inl ⟨rfl, by simpa using hx⟩)
    · obtain ⟨a, b⟩ := vld_clamp hv
      exact Or.inl ⟨rfl, a, b⟩
  rcases hcase with ⟨hv, k1, k2⟩ | ⟨hv, k1⟩ | ⟨hv, k1, k2⟩
  all_goals
    have HV := Lib.hid hv; clear hv
    go_enter Try.func12, Try.ntmps12
    go_wp2_with fail
    go_region_held3 (fun w' => Below w.heap.size w w' ∧ w'.cell? ⟨w.heap.size + 1, 0, none⟩ = some (.int .i64 0) ∧ w'.cell? ⟨w.heap.size + 1, 1, none⟩ = some (.int .i64 0) ∧ w'.cell? ⟨w.heap.size + 1, 2, none⟩ = some (.int .i64 32767) ∧ w'.cell? ⟨w.heap.size + 1, 3, none⟩ = some (.int .i64 32767) ∧ w'.cell? ⟨w.heap.size, 0, none⟩ = some (.int .i64 x) ∧ w'.cell? ⟨w.heap.size, 1, none⟩ = some (.int .i64 y))
      (first | exact S0.out _ rfl | assumption | exact keep6 (by assumption) (by assumption))
      (first | (go_at_call 30; (with_reducible refine (nearest_any _ _ _ _ _ _ _).mono ?_); rintro e w1 ⟨rfl, b1⟩))
    all_goals go_wp2
    all_goals go_ret
    all_goals exact ⟨ret_bool HV.out.symm, bel_of (by assumption)⟩

set_option maxHeartbeats 1000000 in
theorem validr_any (x y : Int) (w : World) :
    Calls Try.prog 13 #[pt x y] w fun e w' => e = .returned (.bool (vldB x y)) ∧ Below w.heap.size w w' := by
  go_enter Try.func13, Try.ntmps13
  go_wp2
  all_goals go_ret
  all_goals refine ⟨ret_bool ?_, (Below.refl _ _).alloc (Nat.le_refl _) _⟩
  all_goals (have e3 := @vldB_iff x y; cases hv : vldB x y <;> simp [hv] at e3 ⊢ <;> omega)

set_option maxHeartbeats 1000000 in
theorem center_any (x y : Int) (w : World) :
    Calls Try.prog 10 #[pt x y] w fun e w' => e = .returned (.tuple #[pt (ctX x y) (ctY x y), .int .i64 (ctE x y)]) ∧ Below w.heap.size w w' := by
  by_cases hv : vldB x y = true
  · obtain ⟨h1, h2, h3, h4⟩ := vldB_iff.1 hv
    have e1 := Lib.hid (show ctX x y = cx x by unfold ctX; rw [if_pos hv])
    have e2 := Lib.hid (show ctY x y = cy y by unfold ctY; rw [if_pos hv])
    have e3 := Lib.hid (show ctE x y = 0 by unfold ctE; rw [if_pos hv])
    have HV := Lib.hid hv; clear hv
    go_enter Try.func10, Try.ntmps10
    go_wp2_with fail
    refine (valid_any _ _ _).mono ?_; rintro e w1 ⟨rfl, hb⟩; rw [HV.out]
    obtain ⟨hc, hf⟩ := bcell hb
    have hz : w.heap.size + 1 < w1.heap.size := by have := hb.size; simp at this; omega
    have HB := Lib.hid hb; clear hb
    go_wp2_with (first | (go_at_call 29; refine (floor_any _ _ _ (by omega) (by omega) (by omega)).mono ?_; rintro e w' ⟨rfl, rfl⟩))
    refine bodyPost_ret (by simp [results, Try.results10, go_sem, hc]; rfl) rfl ⟨?_, ?_⟩
    · exact ret_pe (by rw [e1.out]; unfold cx; omega) (by rw [e2.out]; unfold cy; omega) e3.out.symm
    · have hb := HB.out
      (repeat (first | exact Below.refl _ _ | (refine Below.drew ?_) | (refine Below.alloc ?_ (by first | omega | (simp <;> omega)) _) | (refine Below.setCell ?_ (by first | omega | (simp <;> omega)) _) | (refine Below.trans ?_ (Below.mono (by assumption) (by first | omega | (simp <;> omega))))))
  · have e1 := Lib.hid (show ctX x y = 0 by unfold ctX; rw [if_neg hv])
    have e2 := Lib.hid (show ctY x y = 0 by unfold ctY; rw [if_neg hv])
    have e3 := Lib.hid (show ctE x y = 11 by unfold ctE; rw [if_neg hv])
    rw [Bool.not_eq_true] at hv
    have HV := Lib.hid hv; clear hv
    go_enter Try.func10, Try.ntmps10
    go_wp2_with fail
    refine (valid_any _ _ _).mono ?_; rintro e w1 ⟨rfl, hb⟩; rw [HV.out]
    obtain ⟨hc, hf⟩ := bcell hb
    have hz : w.heap.size + 1 < w1.heap.size := by have := hb.size; simp at this; omega
    have HB := Lib.hid hb; clear hb
    go_wp2_with fail
    refine bodyPost_ret (by simp [results, Try.results10, go_sem, hc]; rfl) rfl ⟨?_, ?_⟩
    · exact ret_pe e1.out.symm e2.out.symm e3.out.symm
    · have hb := HB.out
      (repeat (first | exact Below.refl _ _ | (refine Below.drew ?_) | (refine Below.alloc ?_ (by first | omega | (simp <;> omega)) _) | (refine Below.setCell ?_ (by first | omega | (simp <;> omega)) _) | (refine Below.trans ?_ (Below.mono (by assumption) (by first | omega | (simp <;> omega))))))

set_option maxHeartbeats 1000000 in
theorem centerr_any (x y : Int) (w : World) :
    Calls Try.prog 11 #[pt x y] w fun e w' => e = .returned (.tuple #[pt (ctX x y) (ctY x y), .int .i64 (ctE x y)]) ∧ Below w.heap.size w w' := by
  by_cases hv : vldB x y = true
  · obtain ⟨h1, h2, h3, h4⟩ := vldB_iff.1 hv
    have e1 := Lib.hid (show ctX x y = cx x by unfold ctX; rw [if_pos hv])
    have e2 := Lib.hid (show ctY x y = cy y by unfold ctY; rw [if_pos hv])
    have e3 := Lib.hid (show ctE x y = 0 by unfold ctE; rw [if_pos hv])
    have HV := Lib.hid hv; clear hv
    go_enter Try.func11, Try.ntmps11
    go_wp2_with fail
    refine (validr_any _ _ _).mono ?_; rintro e w1 ⟨rfl, hb⟩; rw [HV.out]
    obtain ⟨hc, hf⟩ := bcell hb
    have hz : w.heap.size + 1 < w1.heap.size := by have := hb.size; simp at this; omega
    have HB := Lib.hid hb; clear hb
    go_wp2_with fail
    refine bodyPost_ret (by simp [results, Try.results11, go_sem, hc]; rfl) rfl ⟨?_, ?_⟩
    · exact ret_pe (by rw [e1.out]; unfold cx; omega) (by rw [e2.out]; unfold cy; omega) e3.out.symm
    · have hb := HB.out
      (repeat (first | exact Below.refl _ _ | (refine Below.drew ?_) | (refine Below.alloc ?_ (by first | omega | (simp <;> omega)) _) | (refine Below.setCell ?_ (by first | omega | (simp <;> omega)) _) | (refine Below.trans ?_ (Below.mono (by assumption) (by first | omega | (simp <;> omega))))))
  · have e1 := Lib.hid (show ctX x y = 0 by unfold ctX; rw [if_neg hv])
    have e2 := Lib.hid (show ctY x y = 0 by unfold ctY; rw [if_neg hv])
    have e3 := Lib.hid (show ctE x y = 11 by unfold ctE; rw [if_neg hv])
    rw [Bool.not_eq_true] at hv
    have HV := Lib.hid hv; clear hv
    go_enter Try.func11, Try.ntmps11
    go_wp2_with fail
    refine (validr_any _ _ _).mono ?_; rintro e w1 ⟨rfl, hb⟩; rw [HV.out]
    obtain ⟨hc, hf⟩ := bcell hb
    have hz : w.heap.size + 1 < w1.heap.size := by have := hb.size; simp at this; omega
    have HB := Lib.hid hb; clear hb
    go_wp2_with fail
    refine bodyPost_ret (by simp [results, Try.results11, go_sem, hc]; rfl) rfl ⟨?_, ?_⟩
    · exact ret_pe e1.out.symm e2.out.symm e3.out.symm
    · have hb := HB.out
      (repeat (first | exact Below.refl _ _ | (refine Below.drew ?_) | (refine Below.alloc ?_ (by first | omega | (simp <;> omega)) _) | (refine Below.setCell ?_ (by first | omega | (simp <;> omega)) _) | (refine Below.trans ?_ (Below.mono (by assumption) (by first | omega | (simp <;> omega))))))
end Go.Proofs.Ytahaigamigkhbaa
