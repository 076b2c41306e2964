/- Tiles: the grid's reference of Join and of Holds; Cover's reference. -/
import Derived.Test.YtoibhapjkeakbaaWm
import Derived.Laws.Cover1
namespace Go.Proofs.Ytoibhapjkeakbaa
open Go.ChangeShapes Go.WideShapes Go.ChangeAt Go.RowKit Go.Joins Go.Deep

def jn (g : Bool) (a : Int) : Int := if g = true then a else 0

theorem jn_y {g : Bool} {a : Int} (h : g = true) : jn g a = a := by unfold jn; rw [if_pos h]

theorem jn_n {g : Bool} {a : Int} (h : g = false) : jn g a = 0 := by unfold jn; rw [if_neg (by rw [h]; simp)]

def gg (a b c d x y z u : Int) : Bool := goodB a b c d && goodB x y z u

theorem gg_mk {a b c d x y z u : Int} {p q : Bool} (h : goodB a b c d = p) (k : goodB x y z u = q) : gg a b c d x y z u = (p && q) := by unfold gg; rw [h, k]

abbrev jbx (a b c d x y z u : Int) : Value := bx (jn (gg a b c d x y z u) (minZ a x)) (jn (gg a b c d x y z u) (minZ b y)) (jn (gg a b c d x y z u) (maxZ c z)) (jn (gg a b c d x y z u) (maxZ d u))

set_option maxHeartbeats 8000000 in
theorem joinr_any (a b c d x y z u : Int) (w : World) :
    Calls Try.prog 31 #[bx a b c d, bx x y z u] w fun e w' => e = .returned (jbx a b c d x y z u) ∧ Below w.heap.size w w' := by
  cases h1 : goodB a b c d
  · have H1 := Lib.hid h1
    have HG := Lib.hid (gg_mk (q := goodB x y z u) h1 rfl); clear h1
    go_enter Try.func31, Try.ntmps31
    go_wp2_with fail
    refine (good_any _ _ _ _ _).mono ?_; rintro e w1 ⟨rfl, hb1⟩; rw [H1.out]
    obtain ⟨hc1, hf1⟩ := bcell hb1
    have hz10 : w.heap.size < w1.heap.size := by have := hb1.size; (try simp at this); omega
    have hz11 : w.heap.size + 1 < w1.heap.size := by have := hb1.size; (try simp at this); omega
    have hz12 : w.heap.size + 1 + 1 < w1.heap.size := by have := hb1.size; (try simp at this); omega
    have HB1 := Lib.hid hb1; clear hb1
    go_wp2_with fail
    refine bodyPost_ret (by simp [results, Try.results31, go_sem, hc1]; rfl) rfl ⟨?_, ?_⟩
    · exact ret_bx (jn_n (by rw [HG.out]; rfl)).symm (jn_n (by rw [HG.out]; rfl)).symm (jn_n (by rw [HG.out]; rfl)).symm (jn_n (by rw [HG.out]; rfl)).symm
    · have hb := HB1.out
      (repeat (first | exact Below.refl _ _ | (refine Below.drew ?_) | (refine below_drewN ?_ _) | (refine Below.alloc ?_ (by first | omega | (simp <;> omega)) _) | (refine Below.setCell ?_ (by first | omega | (simp <;> omega)) _) | (refine Below.trans ?_ (Below.mono (by assumption) (by first | omega | (simp <;> omega))))))
  · cases h2 : goodB x y z u
    · have H1 := Lib.hid h1; have H2 := Lib.hid h2
      have HG := Lib.hid (gg_mk h1 h2); clear h1 h2
      go_enter Try.func31, Try.ntmps31
      go_wp2_with fail
      refine (good_any _ _ _ _ _).mono ?_; rintro e w1 ⟨rfl, hb1⟩; rw [H1.out]
      obtain ⟨hc1, hf1⟩ := bcell hb1
      have hz10 : w.heap.size < w1.heap.size := by have := hb1.size; (try simp at this); omega
      have hz11 : w.heap.size + 1 < w1.heap.size := by have := hb1.size; (try simp at this); omega
      have hz12 : w.heap.size + 1 + 1 < w1.heap.size := by have := hb1.size; (try simp at this); omega
      have HB1 := Lib.hid hb1; clear hb1
      go_wp2_with fail
      refine (good_any _ _ _ _ _).mono ?_; rintro e w2 ⟨rfl, hb2⟩; rw [H2.out]
      obtain ⟨hc2, hf2⟩ := bcell hb2
      have hz20 : w.heap.size < w2.heap.size := by have := hb2.size; (try simp at this); omega
      have hz21 : w.heap.size + 1 < w2.heap.size := by have := hb2.size; (try simp at this); omega
      have hz22 : w.heap.size + 1 + 1 < w2.heap.size := by have := hb2.size; (try simp at this); omega
      have HB2 := Lib.hid hb2; clear hb2
      go_wp2_with fail
      refine bodyPost_ret (by simp [results, Try.results31, go_sem, hc1, hc2, hz12]; rfl) rfl ⟨?_, ?_⟩
      · exact ret_bx (jn_n HG.out).symm (jn_n HG.out).symm (jn_n HG.out).symm (jn_n HG.out).symm
      · have hb := HB1.out; have hb2 := HB2.out
        (repeat (first | exact Below.refl _ _ | (refine Below.drew ?_) | (refine below_drewN ?_ _) | (refine Below.alloc ?_ (by first | omega | (simp <;> omega)) _) | (refine Below.setCell ?_ (by first | omega | (simp <;> omega)) _) | (refine Below.trans ?_ (Below.mono (by assumption) (by first | omega | (simp <;> omega))))))
    · have H1 := Lib.hid h1; have H2 := Lib.hid h2
      have HG := Lib.hid (gg_mk h1 h2); clear h1 h2
      go_enter Try.func31, Try.ntmps31
      go_wp2_with fail
      refine (good_any _ _ _ _ _).mono ?_; rintro e w1 ⟨rfl, hb1⟩; rw [H1.out]
      obtain ⟨hc1, hf1⟩ := bcell hb1
      have hz10 : w.heap.size < w1.heap.size := by have := hb1.size; (try simp at this); omega
      have hz11 : w.heap.size + 1 < w1.heap.size := by have := hb1.size; (try simp at this); omega
      have hz12 : w.heap.size + 1 + 1 < w1.heap.size := by have := hb1.size; (try simp at this); omega
      have HB1 := Lib.hid hb1; clear hb1
      go_wp2_with fail
      refine (good_any _ _ _ _ _).mono ?_; rintro e w2 ⟨rfl, hb2⟩; rw [H2.out]
      obtain ⟨hc2, hf2⟩ := bcell hb2
      have hz20 : w.heap.size < w2.heap.size := by have := hb2.size; (try simp at this); omega
      have hz21 : w.heap.size + 1 < w2.heap.size := by have := hb2.size; (try simp at this); omega
      have hz22 : w.heap.size + 1 + 1 < w2.heap.size := by have := hb2.size; (try simp at this); omega
      have HB2 := Lib.hid hb2; clear hb2
      go_wp2_with fail
      all_goals
        refine bodyPost_ret (by simp [results, Try.results31, go_sem, hc1, hc2, hz12]; rfl) rfl ⟨?_, ?_⟩
        · exact ret_bx (by first | (rw [jn_y HG.out]; unfold minZ; split <;> omega)) (by first | (rw [jn_y HG.out]; unfold minZ; split <;> omega)) (by rw [jn_y HG.out]; unfold maxZ; split <;> omega) (by rw [jn_y HG.out]; unfold maxZ; split <;> omega)
        · have hb := HB1.out; have hb2 := HB2.out
          (repeat (first | exact Below.refl _ _ | (refine Below.drew ?_) | (refine below_drewN ?_ _) | (refine Below.alloc ?_ (by first | omega | (simp <;> omega)) _) | (refine Below.setCell ?_ (by first | omega | (simp <;> omega)) _) | (refine Below.trans ?_ (Below.mono (by assumption) (by first | omega | (simp <;> omega))))))

def hdB (a b c d x y : Int) : Bool := goodB a b c d && vldB x y && decide (a ≤ x ∧ x ≤ c ∧ b ≤ y ∧ y ≤ d)

theorem hdB_no {a b c d x y : Int} (h : goodB a b c d = false) : hdB a b c d x y = false := by unfold hdB; rw [h]; rfl

theorem hdB_nv {a b c d x y : Int} (h : vldB x y = false) : hdB a b c d x y = false := by unfold hdB; rw [h]; simp

theorem hdB_iff {a b c d x y : Int} (h : goodB a b c d = true) (k : vldB x y = true) : hdB a b c d x y = true ↔ (a ≤ x ∧ x ≤ c ∧ b ≤ y ∧ y ≤ d) := by unfold hdB; rw [h, k]; simp

set_option maxHeartbeats 2000000 in
theorem holdsr_any (a b c d x y : Int) (w : World) :
    Calls Try.prog 32 #[bx a b c d, pt x y] w fun e w' => e = .returned (.bool (hdB a b c d x y)) ∧ Below w.heap.size w w' := by
  cases hg : goodB a b c d
  · have HG := Lib.hid hg; clear hg
    go_enter Try.func32, Try.ntmps32
    go_wp2_with fail
    refine (good_any _ _ _ _ _).mono ?_; rintro e w1 ⟨rfl, hb1⟩; rw [HG.out]
    obtain ⟨hc1, hf1⟩ := bcell hb1
    have hz10 : w.heap.size < w1.heap.size := by have := hb1.size; (try simp at this); omega
    have hz11 : w.heap.size + 1 < w1.heap.size := by have := hb1.size; (try simp at this); omega
    have HB1 := Lib.hid hb1; clear hb1
    go_wp2
    go_ret
    refine ⟨ret_bool (hdB_no HG.out).symm, ?_⟩
    have hb := HB1.out
    (repeat (first | exact Below.refl _ _ | (refine Below.drew ?_) | (refine below_drewN ?_ _) | (refine Below.alloc ?_ (by first | omega | (simp <;> omega)) _) | (refine Below.setCell ?_ (by first | omega | (simp <;> omega)) _) | (refine Below.trans ?_ (Below.mono (by assumption) (by first | omega | (simp <;> omega))))))
  · cases hv : vldB x y
    · have HG := Lib.hid hg; have HV := Lib.hid hv; clear hg hv
      go_enter Try.func32, Try.ntmps32
      go_wp2_with fail
      refine (good_any _ _ _ _ _).mono ?_; rintro e w1 ⟨rfl, hb1⟩; rw [HG.out]
      obtain ⟨hc1, hf1⟩ := bcell hb1
      have hz10 : w.heap.size < w1.heap.size := by have := hb1.size; (try simp at this); omega
      have hz11 : w.heap.size + 1 < w1.heap.size := by have := hb1.size; (try simp at this); omega
      have HB1 := Lib.hid hb1; clear hb1
      go_wp2_with fail
      refine (validr_any _ _ _).mono ?_; rintro e w2 ⟨rfl, hb2⟩; rw [HV.out]
      obtain ⟨hc2, hf2⟩ := bcell hb2
      have hz20 : w.heap.size < w2.heap.size := by have := hb2.size; (try simp at this); omega
      have hz21 : w.heap.size + 1 < w2.heap.size := by have := hb2.size; (try simp at this); omega
      have HB2 := Lib.hid hb2; clear hb2
      go_wp2
      go_ret
      refine ⟨ret_bool (hdB_nv HV.out).symm, ?_⟩
      have hb := HB1.out; have hb2 := HB2.out
      (repeat (first | exact Below.refl _ _ | (refine Below.drew ?_) | (refine below_drewN ?_ _) | (refine Below.alloc ?_ (by first | omega | (simp <;> omega)) _) | (refine Below.setCell ?_ (by first | omega | (simp <;> omega)) _) | (refine Below.trans ?_ (Below.mono (by assumption) (by first | omega | (simp <;> omega))))))
    · have HG := Lib.hid hg; have HV := Lib.hid hv; clear hg hv
      go_enter Try.func32, Try.ntmps32
      go_wp2_with fail
      refine (good_any _ _ _ _ _).mono ?_; rintro e w1 ⟨rfl, hb1⟩; rw [HG.out]
      obtain ⟨hc1, hf1⟩ := bcell hb1
      have hz10 : w.heap.size < w1.heap.size := by have := hb1.size; (try simp at this); omega
      have hz11 : w.heap.size + 1 < w1.heap.size := by have := hb1.size; (try simp at this); omega
      have HB1 := Lib.hid hb1; clear hb1
      go_wp2_with fail
      refine (validr_any _ _ _).mono ?_; rintro e w2 ⟨rfl, hb2⟩; rw [HV.out]
      obtain ⟨hc2, hf2⟩ := bcell hb2
      have hz20 : w.heap.size < w2.heap.size := by have := hb2.size; (try simp at this); omega
      have hz21 : w.heap.size + 1 < w2.heap.size := by have := hb2.size; (try simp at this); omega
      have HB2 := Lib.hid hb2; clear hb2
      go_wp2
      all_goals go_ret
      all_goals
        refine ⟨ret_bool ?_, ?_⟩
        · have e3 := hdB_iff HG.out HV.out; cases hv : hdB a b c d x y <;> simp [hv] at e3 ⊢ <;> omega
        · have hb := HB1.out; have hb2 := HB2.out
          (repeat (first | exact Below.refl _ _ | (refine Below.drew ?_) | (refine below_drewN ?_ _) | (refine Below.alloc ?_ (by first | omega | (simp <;> omega)) _) | (refine Below.setCell ?_ (by first | omega | (simp <;> omega)) _) | (refine Below.trans ?_ (Below.mono (by assumption) (by first | omega | (simp <;> omega))))))

end Go.Proofs.Ytoibhapjkeakbaa
