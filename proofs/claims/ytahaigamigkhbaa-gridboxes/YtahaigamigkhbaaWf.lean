/- Holds, Dist2 and their references. -/
import Derived.Test.YtahaigamigkhbaaWe
import Derived.Deep.RegionWith
import Derived.Laws.Cover1
namespace Go.Proofs.Ytahaigamigkhbaa
open Go.ChangeShapes Go.WideShapes Go.ChangeAt Go.RowKit Go.Joins Go.Deep

def hdB (a b c d x y : Int) : Bool := goodB a b c d && vldB x y && decide (a ≤ x ∧ x ≤ c ∧ b ≤ y ∧ y ≤ d)
theorem hdB_no {a b c d x y : Int} (h : goodB a b c d = false) : hdB a b c d x y = false := by unfold hdB; rw [h]; rfl
theorem hdB_nv {a b c d x y : Int} (h : vldB x y = false) : hdB a b c d x y = false := by unfold hdB; rw [h]; simp
theorem hdB_iff {a b c d x y : Int} (h : goodB a b c d = true) (k : vldB x y = true) : hdB a b c d x y = true ↔ (a ≤ x ∧ x ≤ c ∧ b ≤ y ∧ y ≤ d) := by unfold hdB; rw [h, k]; simp

theorem hold_start (w : World) (a b c d x y : Int) : ∀ W, W = ((w.alloc (.cells #[.int .i64 a, .int .i64 b, .int .i64 c, .int .i64 d] 40)).alloc (.cells #[.int .i64 x, .int .i64 y] 25)).drew →
      Below w.heap.size w W ∧ W.cell? ⟨w.heap.size, 0, none⟩ = some (.int .i64 a) ∧ W.cell? ⟨w.heap.size, 1, none⟩ = some (.int .i64 b) ∧ W.cell? ⟨w.heap.size, 2, none⟩ = some (.int .i64 c) ∧ W.cell? ⟨w.heap.size, 3, none⟩ = some (.int .i64 d) ∧ W.cell? ⟨w.heap.size + 1, 0, none⟩ = some (.int .i64 x) ∧ W.cell? ⟨w.heap.size + 1, 1, none⟩ = some (.int .i64 y) := by
  intro W e; subst e
  exact ⟨(((Below.refl _ _).alloc (Nat.le_refl _) _).alloc (by simp) _).drew, by go_simp, by go_simp, by go_simp, by go_simp, by go_simp, by go_simp⟩

set_option maxHeartbeats 4000000 in
theorem holds_any (a b c d x y : Int) (w : World) :
    Calls Try.prog 25 #[bx a b c d, pt x y] w fun e w' => e = .returned (.bool (hdB a b c d x y)) ∧ Below w.heap.size w w' := by
  have S0 := Lib.hid (hold_start w a b c d x y)
  have hcase : (goodB a b c d = false) ∨ (goodB a b c d = true ∧ vldB x y = false) ∨ (goodB a b c d = true ∧ vldB x y = true ∧ hdB a b c d x y = true ∧ clampZ x a c = x ∧ clampZ y b d = y) ∨ (goodB a b c d = true ∧ vldB x y = true ∧ hdB a b c d x y = false ∧ (clampZ x a c == x) = false) ∨ (goodB a b c d = true ∧ vldB x y = true ∧ hdB a b c d x y = false ∧ clampZ x a c = x ∧ (clampZ y b d == y) = false) := by
    cases hg : goodB a b c d
    · exact Or.inl rfl
    · cases hv : vldB x y
      · exact Or.inr (Or.inl ⟨rfl, rfl⟩)
      · have e3 := hdB_iff hg hv
        have e1 := @clamp_eq x a c
        have e2 := @clamp_eq y b d
        by_cases k1 : clampZ x a c = x
        · by_cases k2 : clampZ y b d = y
          · exact Or.inr (Or.inr (Or.inl ⟨rfl, rfl, e3.2 (by omega), k1, k2⟩))
          · exact Or.inr (Or.inr (Or.inr (Or.inr ⟨rfl, rfl, by rw [Bool.eq_false_iff, ne_eq, e3]; omega, k1, by simpa using k2⟩)))
        · exact Or.inr (Or.inr (Or.inr (Or.inl ⟨rfl, rfl, by rw [Bool.eq_false_iff, ne_eq, e3]; omega, by simpa using k1⟩)))
  rcases hcase with hg | ⟨hg, hv⟩ | ⟨hg, hv, hh, k1, k2⟩ | ⟨hg, hv, hh, k1⟩ | ⟨hg, hv, hh, k1, k2⟩
  · have HC := Lib.hid (chk_no hg); have HH := Lib.hid (hdB_no (x := x) (y := y) hg); clear hg
    go_enter Try.func25, Try.ntmps25
    go_wp2_with fail
    go_region_with (first | (go_at_call 17; (with_reducible refine (check_any _ _ _ _ _).mono ?_); rintro e w1 ⟨rfl, b1⟩; rw [HC.out]))
    all_goals go_wp2
    all_goals go_ret
    all_goals
      refine ⟨ret_bool HH.out.symm, ?_⟩
      (repeat (first | exact Below.refl _ _ | (refine Below.drew ?_) | (refine below_drewN ?_ _) | (refine Below.alloc ?_ (by first | omega | (simp <;> omega)) _) | (refine Below.setCell ?_ (by first | omega | (simp <;> omega)) _) | (refine Below.trans ?_ (Below.mono (by assumption) (by first | omega | (simp <;> omega))))))
  · have HC := Lib.hid (chk_yes hg); have HV := Lib.hid hv; have HH := Lib.hid (hdB_nv (a := a) (b := b) (c := c) (d := d) hv); clear hg hv
    go_enter Try.func25, Try.ntmps25
    go_wp2_with fail
    go_region_with (first | (go_at_call 17; (with_reducible refine (check_any _ _ _ _ _).mono ?_); rintro e w1 ⟨rfl, b1⟩; rw [HC.out]; obtain ⟨hc, hf⟩ := bcell b1; have hz : w.heap.size + 1 < w1.heap.size := (by have := b1.size; (try simp at this); omega)) | (go_at_call 12; (with_reducible refine (valid_any _ _ _).mono ?_); rintro e w1 ⟨rfl, b1⟩; rw [HV.out]))
    all_goals go_wp2
    all_goals go_ret
    all_goals
      refine ⟨ret_bool HH.out.symm, ?_⟩
      (repeat (first | exact Below.refl _ _ | (refine Below.drew ?_) | (refine below_drewN ?_ _) | (refine Below.alloc ?_ (by first | omega | (simp <;> omega)) _) | (refine Below.setCell ?_ (by first | omega | (simp <;> omega)) _) | (refine Below.trans ?_ (Below.mono (by assumption) (by first | omega | (simp <;> omega))))))
  all_goals
    have HC := Lib.hid (chk_yes hg); have HV := Lib.hid hv; have HH := Lib.hid hh; clear hg hv hh
    go_enter Try.func25, Try.ntmps25
    go_wp2_with fail
    go_region_held3 (fun w' => Below w.heap.size w w' ∧ w'.cell? ⟨w.heap.size, 0, none⟩ = some (.int .i64 a) ∧ w'.cell? ⟨w.heap.size, 1, none⟩ = some (.int .i64 b) ∧ w'.cell? ⟨w.heap.size, 2, none⟩ = some (.int .i64 c) ∧ w'.cell? ⟨w.heap.size, 3, none⟩ = some (.int .i64 d) ∧ w'.cell? ⟨w.heap.size + 1, 0, none⟩ = some (.int .i64 x) ∧ w'.cell? ⟨w.heap.size + 1, 1, none⟩ = some (.int .i64 y))
      (first | exact S0.out _ rfl | assumption | exact keep6 (by assumption) (by assumption))
      (first | (go_at_call 17; (with_reducible refine (check_any _ _ _ _ _).mono ?_); rintro e w1 ⟨rfl, b1⟩; rw [HC.out]) | (go_at_call 12; (with_reducible refine (valid_any _ _ _).mono ?_); rintro e w1 ⟨rfl, b1⟩; rw [HV.out]) | (go_at_call 30; (with_reducible refine (nearest_any _ _ _ _ _ _ _).mono ?_); rintro e w1 ⟨rfl, b1⟩))
    all_goals go_wp2
    all_goals go_ret
    all_goals exact ⟨ret_bool HH.out.symm, bel_of (by assumption)⟩

set_option maxHeartbeats 2000000 in
theorem holdsr_any (a b c d x y : Int) (w : World) :
    Calls Try.prog 26 #[bx a b c d, pt x y] w fun e w' => e = .returned (.bool (hdB a b c d x y)) ∧ Below w.heap.size w w' := by
  cases hg : goodB a b c d
  · have HG := Lib.hid hg; clear hg
    go_enter Try.func26, Try.ntmps26
    go_wp2_with fail
    refine (good_any _ _ _ _ _).mono ?_; rintro e w1 ⟨rfl, hb1⟩; rw [HG.out]
    obtain ⟨hc1, hf1⟩ := bcell hb1
    have hz10 : w.heap.size < w1.heap.size := by have := hb1.size; (try simp at this); omega
    have hz11 : w.heap.size + 1 < w1.heap.size := by have := hb1.size; (try simp at this); omega
    have HB1 := Lib.hid hb1; clear hb1
    go_wp2
    go_ret
    refine ⟨ret_bool (hdB_no HG.out).symm, ?_⟩
    have hb := HB1.out
    (repeat (first | exact Below.refl _ _ | (refine Below.drew ?_) | (refine below_drewN ?_ _) | (refine Below.alloc ?_ (by first | omega | (simp <;> omega)) _) | (refine Below.setCell ?_ (by first | omega | (simp <;> omega)) _) | (refine Below.trans ?_ (Below.mono (by assumption) (by first | omega | (simp <;> omega))))))
  · cases hv : vldB x y
    · have HG := Lib.hid hg; have HV := Lib.hid hv; clear hg hv
      go_enter Try.func26, Try.ntmps26
      go_wp2_with fail
      refine (good_any _ _ _ _ _).mono ?_; rintro e w1 ⟨rfl, hb1⟩; rw [HG.out]
      obtain ⟨hc1, hf1⟩ := bcell hb1
      have hz10 : w.heap.size < w1.heap.size := by have := hb1.size; (try simp at this); omega
      have hz11 : w.heap.size + 1 < w1.heap.size := by have := hb1.size; (try simp at this); omega
      have HB1 := Lib.hid hb1; clear hb1
      go_wp2_with fail
      refine (validr_any _ _ _).mono ?_; rintro e w2 ⟨rfl, hb2⟩; rw [HV.out]
      obtain ⟨hc2, hf2⟩ := bcell hb2
      have hz20 : w.heap.size < w2.heap.size := by have := hb2.size; (try simp at this); omega
      have hz21 : w.heap.size + 1 < w2.heap.size := by have := hb2.size; (try simp at this); omega
      have HB2 := Lib.hid hb2; clear hb2
      go_wp2
      go_ret
      refine ⟨ret_bool (hdB_nv HV.out).symm, ?_⟩
      have hb := HB1.out; have hb2 := HB2.out
      (repeat (first | exact Below.refl _ _ | (refine Below.drew ?_) | (refine below_drewN ?_ _) | (refine Below.alloc ?_ (by first | omega | (simp <;> omega)) _) | (refine Below.setCell ?_ (by first | omega | (simp <;> omega)) _) | (refine Below.trans ?_ (Below.mono (by assumption) (by first | omega | (simp <;> omega))))))
    · have HG := Lib.hid hg; have HV := Lib.hid hv; clear hg hv
      go_enter Try.func26, Try.ntmps26
      go_wp2_with fail
      refine (good_any _ _ _ _ _).mono ?_; rintro e w1 ⟨rfl, hb1⟩; rw [HG.out]
      obtain ⟨hc1, hf1⟩ := bcell hb1
      have hz10 : w.heap.size < w1.heap.size := by have := hb1.size; (try simp at this); omega
      have hz11 : w.heap.size + 1 < w1.heap.size := by have := hb1.size; (try simp at this); omega
      have HB1 := Lib.hid hb1; clear hb1
      go_wp2_with fail
      refine (validr_any _ _ _).mono ?_; rintro e w2 ⟨rfl, hb2⟩; rw [HV.out]
      obtain ⟨hc2, hf2⟩ := bcell hb2
      have hz20 : w.heap.size < w2.heap.size := by have := hb2.size; (try simp at this); omega
      have hz21 : w.heap.size + 1 < w2.heap.size := by have := hb2.size; (try simp at this); omega
      have HB2 := Lib.hid hb2; clear hb2
      go_wp2
      all_goals go_ret
      all_goals
        refine ⟨ret_bool ?_, ?_⟩
        · have e3 := hdB_iff HG.out HV.out; cases hv : hdB a b c d x y <;> simp [hv] at e3 ⊢ <;> omega
        · have hb := HB1.out; have hb2 := HB2.out
          (repeat (first | exact Below.refl _ _ | (refine Below.drew ?_) | (refine below_drewN ?_ _) | (refine Below.alloc ?_ (by first | omega | (simp <;> omega)) _) | (refine Below.setCell ?_ (by first | omega | (simp <;> omega)) _) | (refine Below.trans ?_ (Below.mono (by assumption) (by first | omega | (simp <;> omega))))))

def sq (x p : Int) : Int := (x - p) * (x - p)
def ds (a b c d x y : Int) : Int := if (goodB a b c d && vldB x y) = true then sq x (clampZ x a c) + sq y (clampZ y b d) else 0
theorem ds_y {a b c d x y : Int} (h : goodB a b c d = true) (k : vldB x y = true) : ds a b c d x y = sq x (clampZ x a c) + sq y (clampZ y b d) := by unfold ds; rw [h, k]; rfl
theorem ds_g {a b c d x y : Int} (h : goodB a b c d = false) : ds a b c d x y = 0 := by unfold ds; rw [h]; rfl
theorem ds_v {a b c d x y : Int} (k : vldB x y = false) : ds a b c d x y = 0 := by unfold ds; rw [k]; simp
theorem sq_bd {z : Int} (h : -32768 ≤ z) (k : z ≤ 32768) : 0 ≤ z * z ∧ z * z ≤ 1073741824 := by
  have e : z * z = ((z.natAbs : Int) * (z.natAbs : Int)) := by
    rcases Int.natAbs_eq z with h | h
    · rw [← h]
    · conv => lhs; rw [h]
      rw [Int.neg_mul_neg]
  have hn : (z.natAbs : Int) ≤ 32768 := by omega
  have := Int.mul_le_mul hn hn (by omega) (by omega)
  constructor
  · rw [e]; exact Int.mul_nonneg (by omega) (by omega)
  · rw [e]; exact Int.le_trans this (by decide)
theorem clamp_in {x a c : Int} (h : a ≤ c) (h0 : 0 ≤ a) (h1 : c ≤ 32768) : 0 ≤ clampZ x a c ∧ clampZ x a c ≤ 32768 := by unfold clampZ; split <;> (try split) <;> omega
theorem sq_max {x a c m : Int} (h : a ≤ c) (hm : m = max (max (a - x) (x - c)) 0) : m * m = sq x (clampZ x a c) := by
  unfold sq clampZ
  split
  · have : m = -(x - a) := by omega
    rw [this, Int.neg_mul_neg]
  · split
    · have : m = x - c := by omega
      rw [this]
    · have : m = 0 := by omega
      rw [this]; simp

theorem wsum {U V S T : Int} (h1 : U = S) (h2 : V = T) (b1 : 0 ≤ S ∧ S ≤ 1073741824) (b2 : 0 ≤ T ∧ T ≤ 1073741824) : wrap64 (wrap64 U + wrap64 V) = S + T := by
  subst h1 h2
  rw [IntWalk.wrap64_in U ⟨by omega, by omega⟩, IntWalk.wrap64_in V ⟨by omega, by omega⟩]
  exact IntWalk.wrap64_in _ ⟨by omega, by omega⟩

set_option maxHeartbeats 2000000 in
theorem dist_any (a b c d x y : Int) (w : World) :
    Calls Try.prog 27 #[bx a b c d, pt x y] w fun e w' => e = .returned (.int .i64 (ds a b c d x y)) ∧ Below w.heap.size w w' := by
  cases hg : goodB a b c d
  · have HC := Lib.hid (chk_no hg); have HG := Lib.hid hg; clear hg
    go_enter Try.func27, Try.ntmps27
    go_wp2_with fail
    refine (check_any _ _ _ _ _).mono ?_; rintro e w1 ⟨rfl, hb1⟩; rw [HC.out]
    obtain ⟨hc1, hf1⟩ := bcell hb1
    have hz10 : w.heap.size < w1.heap.size := by have := hb1.size; (try simp at this); omega
    have hz11 : w.heap.size + 1 < w1.heap.size := by have := hb1.size; (try simp at this); omega
    have HB1 := Lib.hid hb1; clear hb1
    go_wp2
    go_ret
    refine ⟨ret_i64 (ds_g HG.out).symm, ?_⟩
    have hb := HB1.out
    (repeat (first | exact Below.refl _ _ | (refine Below.drew ?_) | (refine below_drewN ?_ _) | (refine Below.alloc ?_ (by first | omega | (simp <;> omega)) _) | (refine Below.setCell ?_ (by first | omega | (simp <;> omega)) _) | (refine Below.trans ?_ (Below.mono (by assumption) (by first | omega | (simp <;> omega))))))
  · cases hv : vldB x y
    · have HC := Lib.hid (chk_yes hg); have HV := Lib.hid hv; clear hg hv
      go_enter Try.func27, Try.ntmps27
      go_wp2_with fail
      refine (check_any _ _ _ _ _).mono ?_; rintro e w1 ⟨rfl, hb1⟩; rw [HC.out]
      obtain ⟨hc1, hf1⟩ := bcell hb1
      have hz10 : w.heap.size < w1.heap.size := by have := hb1.size; (try simp at this); omega
      have hz11 : w.heap.size + 1 < w1.heap.size := by have := hb1.size; (try simp at this); omega
      have HB1 := Lib.hid hb1; clear hb1
      go_wp2_with fail
      refine (valid_any _ _ _).mono ?_; rintro e w2 ⟨rfl, hb2⟩; rw [HV.out]
      obtain ⟨hc2, hf2⟩ := bcell hb2
      have hz20 : w.heap.size < w2.heap.size := by have := hb2.size; (try simp at this); omega
      have hz21 : w.heap.size + 1 < w2.heap.size := by have := hb2.size; (try simp at this); omega
      have HB2 := Lib.hid hb2; clear hb2
      go_wp2
      go_ret
      refine ⟨ret_i64 (ds_v HV.out).symm, ?_⟩
      have hb := HB1.out; have hb2 := HB2.out
      (repeat (first | exact Below.refl _ _ | (refine Below.drew ?_) | (refine below_drewN ?_ _) | (refine Below.alloc ?_ (by first | omega | (simp <;> omega)) _) | (refine Below.setCell ?_ (by first | omega | (simp <;> omega)) _) | (refine Below.trans ?_ (Below.mono (by assumption) (by first | omega | (simp <;> omega))))))
    · have HD := Lib.hid (ds_y hg hv)
      obtain ⟨g1, g2, g3, g4, g5, g6⟩ := goodB_iff.1 hg
      obtain ⟨v1, v2, v3, v4⟩ := vldB_iff.1 hv
      have HC := Lib.hid (chk_yes hg); have HV := Lib.hid hv; clear hg hv
      have p1 := clamp_in (x := x) g2 g1 g3
      have p2 := clamp_in (x := y) g5 g4 g6
      obtain ⟨p, hp⟩ : ∃ p, clampZ x a c = p := ⟨_, rfl⟩
      obtain ⟨q, hq⟩ : ∃ q, clampZ y b d = q := ⟨_, rfl⟩
      have HP := Lib.hid hp; have HQ := Lib.hid hq
      rw [hp] at p1; rw [hq] at p2; clear hp hq
      obtain ⟨p3, p4⟩ := p1; obtain ⟨p5, p6⟩ := p2
      have s1 := sq_bd (z := x - p) (by omega) (by omega)
      have s2 := sq_bd (z := y - q) (by omega) (by omega)
      obtain ⟨s3, s4⟩ := s1; obtain ⟨s5, s6⟩ := s2
      go_enter Try.func27, Try.ntmps27
      go_wp2_with fail
      refine (check_any _ _ _ _ _).mono ?_; rintro e w1 ⟨rfl, hb1⟩; rw [HC.out]
      obtain ⟨hc1, hf1⟩ := bcell hb1
      have hz10 : w.heap.size < w1.heap.size := by have := hb1.size; (try simp at this); omega
      have hz11 : w.heap.size + 1 < w1.heap.size := by have := hb1.size; (try simp at this); omega
      have HB1 := Lib.hid hb1; clear hb1
      go_wp2_with fail
      refine (valid_any _ _ _).mono ?_; rintro e w2 ⟨rfl, hb2⟩; rw [HV.out]
      obtain ⟨hc2, hf2⟩ := bcell hb2
      have hz20 : w.heap.size < w2.heap.size := by have := hb2.size; (try simp at this); omega
      have hz21 : w.heap.size + 1 < w2.heap.size := by have := hb2.size; (try simp at this); omega
      have HB2 := Lib.hid hb2; clear hb2
      go_wp2_with fail
      refine (nearest_any _ _ _ _ _ _ _).mono ?_; rintro e w3 ⟨rfl, hb3⟩; rw [HP.out, HQ.out]
      obtain ⟨hc3, hf3⟩ := bcell hb3
      have hz30 : w.heap.size < w3.heap.size := by have := hb3.size; (try simp at this); omega
      have hz31 : w.heap.size + 1 < w3.heap.size := by have := hb3.size; (try simp at this); omega
      have HB3 := Lib.hid hb3; clear hb3
      go_wp2_with fail
      go_quiet (fail)
      go_wp2
      go_ret
      refine ⟨ret_i64 (by rw [HD.out, HP.out, HQ.out]; unfold sq; try rfl), ?_⟩
      have hb := HB1.out; have hb2 := HB2.out; have hb3 := HB3.out
      (repeat (first | exact Below.refl _ _ | (refine Below.drew ?_) | (refine below_drewN ?_ _) | (refine Below.alloc ?_ (by first | omega | (simp <;> omega)) _) | (refine Below.setCell ?_ (by first | omega | (simp <;> omega)) _) | (refine Below.trans ?_ (Below.mono (by assumption) (by first | omega | (simp <;> omega))))))

set_option maxHeartbeats 4000000 in
theorem distr_any (a b c d x y : Int) (w : World) :
    Calls Try.prog 28 #[bx a b c d, pt x y] w fun e w' => e = .returned (.int .i64 (ds a b c d x y)) ∧ Below w.heap.size w w' := by
  cases hg : goodB a b c d
  · have HG := Lib.hid hg; clear hg
    go_enter Try.func28, Try.ntmps28
    go_wp2_with fail
    refine (good_any _ _ _ _ _).mono ?_; rintro e w1 ⟨rfl, hb1⟩; rw [HG.out]
    obtain ⟨hc1, hf1⟩ := bcell hb1
    have hz10 : w.heap.size < w1.heap.size := by have := hb1.size; (try simp at this); omega
    have hz11 : w.heap.size + 1 < w1.heap.size := by have := hb1.size; (try simp at this); omega
    have HB1 := Lib.hid hb1; clear hb1
    go_wp2
    go_ret
    refine ⟨ret_i64 (ds_g HG.out).symm, ?_⟩
    have hb := HB1.out
    (repeat (first | exact Below.refl _ _ | (refine Below.drew ?_) | (refine below_drewN ?_ _) | (refine Below.alloc ?_ (by first | omega | (simp <;> omega)) _) | (refine Below.setCell ?_ (by first | omega | (simp <;> omega)) _) | (refine Below.trans ?_ (Below.mono (by assumption) (by first | omega | (simp <;> omega))))))
  · cases hv : vldB x y
    · have HG := Lib.hid hg; have HV := Lib.hid hv; clear hg hv
      go_enter Try.func28, Try.ntmps28
      go_wp2_with fail
      refine (good_any _ _ _ _ _).mono ?_; rintro e w1 ⟨rfl, hb1⟩; rw [HG.out]
      obtain ⟨hc1, hf1⟩ := bcell hb1
      have hz10 : w.heap.size < w1.heap.size := by have := hb1.size; (try simp at this); omega
      have hz11 : w.heap.size + 1 < w1.heap.size := by have := hb1.size; (try simp at this); omega
      have HB1 := Lib.hid hb1; clear hb1
      go_wp2_with fail
      refine (validr_any _ _ _).mono ?_; rintro e w2 ⟨rfl, hb2⟩; rw [HV.out]
      obtain ⟨hc2, hf2⟩ := bcell hb2
      have hz20 : w.heap.size < w2.heap.size := by have := hb2.size; (try simp at this); omega
      have hz21 : w.heap.size + 1 < w2.heap.size := by have := hb2.size; (try simp at this); omega
      have HB2 := Lib.hid hb2; clear hb2
      go_wp2
      go_ret
      refine ⟨ret_i64 (ds_v HV.out).symm, ?_⟩
      have hb := HB1.out; have hb2 := HB2.out
      (repeat (first | exact Below.refl _ _ | (refine Below.drew ?_) | (refine below_drewN ?_ _) | (refine Below.alloc ?_ (by first | omega | (simp <;> omega)) _) | (refine Below.setCell ?_ (by first | omega | (simp <;> omega)) _) | (refine Below.trans ?_ (Below.mono (by assumption) (by first | omega | (simp <;> omega))))))
    · have HD := Lib.hid (ds_y hg hv)
      obtain ⟨g1, g2, g3, g4, g5, g6⟩ := goodB_iff.1 hg
      obtain ⟨v1, v2, v3, v4⟩ := vldB_iff.1 hv
      have HG := Lib.hid hg; have HV := Lib.hid hv; clear hg hv
      have s1 := sq_bd (z := a - x) (by omega) (by omega)
      have s2 := sq_bd (z := x - c) (by omega) (by omega)
      have s3 := sq_bd (z := b - y) (by omega) (by omega)
      have s4 := sq_bd (z := y - d) (by omega) (by omega)
      obtain ⟨s11, s12⟩ := s1; obtain ⟨s21, s22⟩ := s2; obtain ⟨s31, s32⟩ := s3; obtain ⟨s41, s42⟩ := s4
      go_enter Try.func28, Try.ntmps28
      go_wp2_with fail
      refine (good_any _ _ _ _ _).mono ?_; rintro e w1 ⟨rfl, hb1⟩; rw [HG.out]
      obtain ⟨hc1, hf1⟩ := bcell hb1
      have hz10 : w.heap.size < w1.heap.size := by have := hb1.size; (try simp at this); omega
      have hz11 : w.heap.size + 1 < w1.heap.size := by have := hb1.size; (try simp at this); omega
      have HB1 := Lib.hid hb1; clear hb1
      go_wp2_with fail
      refine (validr_any _ _ _).mono ?_; rintro e w2 ⟨rfl, hb2⟩; rw [HV.out]
      obtain ⟨hc2, hf2⟩ := bcell hb2
      have hz20 : w.heap.size < w2.heap.size := by have := hb2.size; (try simp at this); omega
      have hz21 : w.heap.size + 1 < w2.heap.size := by have := hb2.size; (try simp at this); omega
      have HB2 := Lib.hid hb2; clear hb2
      go_wp2
      all_goals go_ret
      all_goals
        refine ⟨ret_i64 ?_, ?_⟩
        · rw [HD.out, ← sq_max (x := x) (a := a) (c := c) (m := max (max (a - x) (x - c)) 0) g2 rfl, ← sq_max (x := y) (a := b) (c := d) (m := max (max (b - y) (y - d)) 0) g5 rfl]
          obtain ⟨m, hm⟩ : ∃ m, m = max (max (a - x) (x - c)) 0 := ⟨_, rfl⟩
          obtain ⟨n, hn⟩ : ∃ n, n = max (max (b - y) (y - d)) 0 := ⟨_, rfl⟩
          rw [← hm, ← hn]
          refine wsum ?_ ?_ (sq_bd (z := m) (by omega) (by omega)) (sq_bd (z := n) (by omega) (by omega))
          · first | (have e : m = 0 := by omega
                     rw [e]; rfl) | (have e : m = a - x := by omega
                                     rw [e]; done) | (have e : m = x - c := by omega
                                                      rw [e]; done)
          · first | (have e : n = 0 := by omega
                     rw [e]; rfl) | (have e : n = b - y := by omega
                                     rw [e]; done) | (have e : n = y - d := by omega
                                                      rw [e]; done)
        · have hb := HB1.out; have hb2 := HB2.out
          (repeat (first | exact Below.refl _ _ | (refine Below.drew ?_) | (refine below_drewN ?_ _) | (refine Below.alloc ?_ (by first | omega | (simp <;> omega)) _) | (refine Below.setCell ?_ (by first | omega | (simp <;> omega)) _) | (refine Below.trans ?_ (Below.mono (by assumption) (by first | omega | (simp <;> omega))))))
end Go.Proofs.Ytahaigamigkhbaa
