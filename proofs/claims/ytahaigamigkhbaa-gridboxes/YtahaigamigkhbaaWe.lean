/- Less, Meets, Join and their references. -/
import Derived.Test.YtahaigamigkhbaaWd
namespace Go.Proofs.Ytahaigamigkhbaa
open Go.ChangeShapes Go.WideShapes Go.ChangeAt Go.RowKit Go.Joins Go.Deep

def lsB (x y p q : Int) : Bool := decide (x < p ∨ x = p ∧ y < q)
theorem lsB_iff {x y p q : Int} : lsB x y p q = true ↔ (x < p ∨ x = p ∧ y < q) := by unfold lsB; simp
set_option maxHeartbeats 1000000 in
theorem less_any (x y p q : Int) (w : World) :
    Calls Try.prog 23 #[pt x y, pt p q] w fun e w' => e = .returned (.bool (lsB x y p q)) ∧ Below w.heap.size w w' := by
  have e3 := Lib.hid (@lsB_iff x y p q)
  rcases Int.lt_trichotomy x p with h | h | h
  · have h1 : (x == p) = false := by simp; omega
    have h2 : (x != p) = true := by simp; omega
    have HV : Hid (lsB x y p q = true) := e3.out.2 (by omega)
    clear e3
    go_enter Try.func23, Try.ntmps23
    go_wp2
    go_ret
    exact ⟨ret_bool HV.out.symm, ((Below.refl _ _).alloc (Nat.le_refl _) _).alloc (by simp) _⟩
  · subst h
    have h1 : (x == x) = true := by simp
    have h2 : (x != x) = false := by simp
    have h3 : ¬ x < x := by omega
    have HV : Hid (lsB x y x q = decide (y < q)) := by show lsB x y x q = decide (y < q); unfold lsB; simp
    clear e3
    go_enter Try.func23, Try.ntmps23
    go_wp2
    all_goals go_ret
    all_goals exact ⟨ret_bool HV.out.symm, ((Below.refl _ _).alloc (Nat.le_refl _) _).alloc (by simp) _⟩
  · have h1 : (x == p) = false := by simp; omega
    have h2 : (x != p) = true := by simp; omega
    have h3 : decide (x < p) = false := by simp; omega
    have HV : Hid (lsB x y p q = false) := by show lsB x y p q = false; rw [Bool.eq_false_iff, ne_eq, e3.out]; omega
    clear e3
    go_enter Try.func23, Try.ntmps23
    go_wp2
    all_goals go_ret
    all_goals exact ⟨ret_bool HV.out.symm, ((Below.refl _ _).alloc (Nat.le_refl _) _).alloc (by simp) _⟩
set_option maxHeartbeats 1000000 in
theorem lessr_any (x y p q : Int) (w : World) :
    Calls Try.prog 24 #[pt x y, pt p q] w fun e w' => e = .returned (.bool (lsB x y p q)) ∧ Below w.heap.size w w' := by
  have e3 := Lib.hid (@lsB_iff x y p q)
  rcases Int.lt_trichotomy x p with h | h | h
  · have h1 : (x == p) = false := by simp; omega
    have h2 : (x != p) = true := by simp; omega
    have HV : Hid (lsB x y p q = true) := e3.out.2 (by omega)
    clear e3
    go_enter Try.func24, Try.ntmps24
    go_wp2
    go_ret
    exact ⟨ret_bool HV.out.symm, ((Below.refl _ _).alloc (Nat.le_refl _) _).alloc (by simp) _⟩
  · subst h
    have h1 : (x == x) = true := by simp
    have h2 : (x != x) = false := by simp
    have h3 : ¬ x < x := by omega
    have HV : Hid (lsB x y x q = decide (y < q)) := by show lsB x y x q = decide (y < q); unfold lsB; simp
    clear e3
    go_enter Try.func24, Try.ntmps24
    go_wp2
    all_goals go_ret
    all_goals exact ⟨ret_bool HV.out.symm, ((Below.refl _ _).alloc (Nat.le_refl _) _).alloc (by simp) _⟩
  · have h1 : (x == p) = false := by simp; omega
    have h2 : (x != p) = true := by simp; omega
    have h3 : decide (x < p) = false := by simp; omega
    have HV : Hid (lsB x y p q = false) := by show lsB x y p q = false; rw [Bool.eq_false_iff, ne_eq, e3.out]; omega
    clear e3
    go_enter Try.func24, Try.ntmps24
    go_wp2
    all_goals go_ret
    all_goals exact ⟨ret_bool HV.out.symm, ((Below.refl _ _).alloc (Nat.le_refl _) _).alloc (by simp) _⟩

def mtB (a b c d x y z u : Int) : Bool := gg a b c d x y z u && decide (a ≤ z ∧ x ≤ c ∧ b ≤ u ∧ y ≤ d)
theorem mtB_no {a b c d x y z u : Int} (h : gg a b c d x y z u = false) : mtB a b c d x y z u = false := by unfold mtB; rw [h]; rfl
theorem mtB_iff {a b c d x y z u : Int} (h : gg a b c d x y z u = true) : mtB a b c d x y z u = true ↔ (a ≤ z ∧ x ≤ c ∧ b ≤ u ∧ y ≤ d) := by unfold mtB; rw [h]; simp
set_option maxHeartbeats 1000000 in
theorem meets_any (a b c d x y z u : Int) (w : World) :
    Calls Try.prog 21 #[bx a b c d, bx x y z u] w fun e w' => e = .returned (.bool (mtB a b c d x y z u)) ∧ Below w.heap.size w w' := by
  cases hg : gg a b c d x y z u
  · have HG := Lib.hid hg; clear hg
    go_enter Try.func21, Try.ntmps21
    go_wp2_with fail
    refine (both_any _ _ _ _ _ _ _ _ _).mono ?_; rintro e w1 ⟨rfl, hb1⟩; rw [HG.out]
    obtain ⟨hc1, hf1⟩ := bcell hb1
    have hz10 : w.heap.size < w1.heap.size := by have := hb1.size; (try simp at this); omega
    have hz11 : w.heap.size + 1 < w1.heap.size := by have := hb1.size; (try simp at this); omega
    have HB1 := Lib.hid hb1; clear hb1
    go_wp2
    go_ret
    refine ⟨ret_bool (mtB_no HG.out).symm, ?_⟩
    have hb := HB1.out
    (repeat (first | exact Below.refl _ _ | (refine Below.drew ?_) | (refine below_drewN ?_ _) | (refine Below.alloc ?_ (by first | omega | (simp <;> omega)) _) | (refine Below.setCell ?_ (by first | omega | (simp <;> omega)) _) | (refine Below.trans ?_ (Below.mono (by assumption) (by first | omega | (simp <;> omega))))))
  · have HG := Lib.hid hg; clear hg
    go_enter Try.func21, Try.ntmps21
    go_wp2_with fail
    refine (both_any _ _ _ _ _ _ _ _ _).mono ?_; rintro e w1 ⟨rfl, hb1⟩; rw [HG.out]
    obtain ⟨hc1, hf1⟩ := bcell hb1
    have hz10 : w.heap.size < w1.heap.size := by have := hb1.size; (try simp at this); omega
    have hz11 : w.heap.size + 1 < w1.heap.size := by have := hb1.size; (try simp at this); omega
    have HB1 := Lib.hid hb1; clear hb1
    go_wp2
    all_goals go_ret
    all_goals
      refine ⟨ret_bool ?_, ?_⟩
      · have e3 := mtB_iff HG.out; cases hv : mtB a b c d x y z u <;> simp [hv] at e3 ⊢ <;> omega
      · have hb := HB1.out
        (repeat (first | exact Below.refl _ _ | (refine Below.drew ?_) | (refine below_drewN ?_ _) | (refine Below.alloc ?_ (by first | omega | (simp <;> omega)) _) | (refine Below.setCell ?_ (by first | omega | (simp <;> omega)) _) | (refine Below.trans ?_ (Below.mono (by assumption) (by first | omega | (simp <;> omega))))))
theorem gg_mk {a b c d x y z u : Int} {p q : Bool} (h : goodB a b c d = p) (k : goodB x y z u = q) : gg a b c d x y z u = (p && q) := by unfold gg; rw [h, k]
set_option maxHeartbeats 1000000 in
theorem meetsr_any (a b c d x y z u : Int) (w : World) :
    Calls Try.prog 22 #[bx a b c d, bx x y z u] w fun e w' => e = .returned (.bool (mtB a b c d x y z u)) ∧ Below w.heap.size w w' := by
  cases h1 : goodB a b c d
  · have H1 := Lib.hid h1
    have HG := Lib.hid (gg_mk (q := goodB x y z u) h1 rfl); clear h1
    go_enter Try.func22, Try.ntmps22
    go_wp2_with fail
    refine (good_any _ _ _ _ _).mono ?_; rintro e w1 ⟨rfl, hb1⟩; rw [H1.out]
    obtain ⟨hc1, hf1⟩ := bcell hb1
    have hz10 : w.heap.size < w1.heap.size := by have := hb1.size; (try simp at this); omega
    have hz11 : w.heap.size + 1 < w1.heap.size := by have := hb1.size; (try simp at this); omega
    have HB1 := Lib.hid hb1; clear hb1
    go_wp2
    go_ret
    refine ⟨ret_bool (mtB_no (by rw [HG.out]; rfl)).symm, ?_⟩
    have hb := HB1.out
    (repeat (first | exact Below.refl _ _ | (refine Below.drew ?_) | (refine below_drewN ?_ _) | (refine Below.alloc ?_ (by first | omega | (simp <;> omega)) _) | (refine Below.setCell ?_ (by first | omega | (simp <;> omega)) _) | (refine Below.trans ?_ (Below.mono (by assumption) (by first | omega | (simp <;> omega))))))
  · cases h2 : goodB x y z u
    · have H1 := Lib.hid h1; have H2 := Lib.hid h2
      have HG := Lib.hid (gg_mk h1 h2); clear h1 h2
      go_enter Try.func22, Try.ntmps22
      go_wp2_with fail
      refine (good_any _ _ _ _ _).mono ?_; rintro e w1 ⟨rfl, hb1⟩; rw [H1.out]
      obtain ⟨hc1, hf1⟩ := bcell hb1
      have hz10 : w.heap.size < w1.heap.size := by have := hb1.size; (try simp at this); omega
      have hz11 : w.heap.size + 1 < w1.heap.size := by have := hb1.size; (try simp at this); omega
      have HB1 := Lib.hid hb1; clear hb1
      go_wp2_with fail
      refine (good_any _ _ _ _ _).mono ?_; rintro e w2 ⟨rfl, hb2⟩; rw [H2.out]
      obtain ⟨hc2, hf2⟩ := bcell hb2
      have hz20 : w.heap.size < w2.heap.size := by have := hb2.size; (try simp at this); omega
      have hz21 : w.heap.size + 1 < w2.heap.size := by have := hb2.size; (try simp at this); omega
      have HB2 := Lib.hid hb2; clear hb2
      go_wp2
      go_ret
      refine ⟨ret_bool (mtB_no HG.out).symm, ?_⟩
      have hb := HB1.out; have hb2 := HB2.out
      (repeat (first | exact Below.refl _ _ | (refine Below.drew ?_) | (refine below_drewN ?_ _) | (refine Below.alloc ?_ (by first | omega | (simp <;> omega)) _) | (refine Below.setCell ?_ (by first | omega | (simp <;> omega)) _) | (refine Below.trans ?_ (Below.mono (by assumption) (by first | omega | (simp <;> omega))))))
    · have H1 := Lib.hid h1; have H2 := Lib.hid h2
      have HG := Lib.hid (gg_mk h1 h2); clear h1 h2
      go_enter Try.func22, Try.ntmps22
      go_wp2_with fail
      refine (good_any _ _ _ _ _).mono ?_; rintro e w1 ⟨rfl, hb1⟩; rw [H1.out]
      obtain ⟨hc1, hf1⟩ := bcell hb1
      have hz10 : w.heap.size < w1.heap.size := by have := hb1.size; (try simp at this); omega
      have hz11 : w.heap.size + 1 < w1.heap.size := by have := hb1.size; (try simp at this); omega
      have HB1 := Lib.hid hb1; clear hb1
      go_wp2_with fail
      refine (good_any _ _ _ _ _).mono ?_; rintro e w2 ⟨rfl, hb2⟩; rw [H2.out]
      obtain ⟨hc2, hf2⟩ := bcell hb2
      have hz20 : w.heap.size < w2.heap.size := by have := hb2.size; (try simp at this); omega
      have hz21 : w.heap.size + 1 < w2.heap.size := by have := hb2.size; (try simp at this); omega
      have HB2 := Lib.hid hb2; clear hb2
      go_wp2
      all_goals go_ret
      all_goals
        refine ⟨ret_bool ?_, ?_⟩
        · have e3 := mtB_iff HG.out; cases hv : mtB a b c d x y z u <;> simp [hv] at e3 ⊢ <;> omega
        · have hb := HB1.out; have hb2 := HB2.out
          (repeat (first | exact Below.refl _ _ | (refine Below.drew ?_) | (refine below_drewN ?_ _) | (refine Below.alloc ?_ (by first | omega | (simp <;> omega)) _) | (refine Below.setCell ?_ (by first | omega | (simp <;> omega)) _) | (refine Below.trans ?_ (Below.mono (by assumption) (by first | omega | (simp <;> omega))))))

theorem jn_y {g : Bool} {a : Int} (h : g = true) : jn g a = a := by unfold jn; rw [if_pos h]
theorem jn_n {g : Bool} {a : Int} (h : g = false) : jn g a = 0 := by unfold jn; rw [if_neg (by rw [h]; simp)]
abbrev jbx (a b c d x y z u : Int) : Value := bx (jn (gg a b c d x y z u) (minZ a x)) (jn (gg a b c d x y z u) (minZ b y)) (jn (gg a b c d x y z u) (maxZ c z)) (jn (gg a b c d x y z u) (maxZ d u))
set_option maxHeartbeats 1000000 in
theorem join_any (a b c d x y z u : Int) (w : World) :
    Calls Try.prog 19 #[bx a b c d, bx x y z u] w fun e w' => e = .returned (jbx a b c d x y z u) ∧ Below w.heap.size w w' := by
  cases hg : gg a b c d x y z u
  · have HG := Lib.hid hg; clear hg
    go_enter Try.func19, Try.ntmps19
    go_wp2_with fail
    refine (both_any _ _ _ _ _ _ _ _ _).mono ?_; rintro e w1 ⟨rfl, hb1⟩; rw [HG.out]
    obtain ⟨hc1, hf1⟩ := bcell hb1
    have hz10 : w.heap.size < w1.heap.size := by have := hb1.size; (try simp at this); omega
    have hz11 : w.heap.size + 1 < w1.heap.size := by have := hb1.size; (try simp at this); omega
    have hz12 : w.heap.size + 1 + 1 < w1.heap.size := by have := hb1.size; (try simp at this); omega
    have HB1 := Lib.hid hb1; clear hb1
    go_wp2_with fail
    refine bodyPost_ret (by simp [results, Try.results19, go_sem, hc1]; rfl) rfl ⟨?_, ?_⟩
    · exact ret_bx (jn_n HG.out).symm (jn_n HG.out).symm (jn_n HG.out).symm (jn_n HG.out).symm
    · have hb := HB1.out
      (repeat (first | exact Below.refl _ _ | (refine Below.drew ?_) | (refine below_drewN ?_ _) | (refine Below.alloc ?_ (by first | omega | (simp <;> omega)) _) | (refine Below.setCell ?_ (by first | omega | (simp <;> omega)) _) | (refine Below.trans ?_ (Below.mono (by assumption) (by first | omega | (simp <;> omega))))))
  · have HG := Lib.hid hg; clear hg
    go_enter Try.func19, Try.ntmps19
    go_wp2_with fail
    refine (both_any _ _ _ _ _ _ _ _ _).mono ?_; rintro e w1 ⟨rfl, hb1⟩; rw [HG.out]
    obtain ⟨hc1, hf1⟩ := bcell hb1
    have hz10 : w.heap.size < w1.heap.size := by have := hb1.size; (try simp at this); omega
    have hz11 : w.heap.size + 1 < w1.heap.size := by have := hb1.size; (try simp at this); omega
    have hz12 : w.heap.size + 1 + 1 < w1.heap.size := by have := hb1.size; (try simp at this); omega
    have HB1 := Lib.hid hb1; clear hb1
    go_wp2_with fail
    refine (span_any _ _ _ _ _ _ _ _ _).mono ?_; rintro e w2 ⟨rfl, hb2⟩
    obtain ⟨hc2, hf2⟩ := bcell hb2
    have hz20 : w.heap.size < w2.heap.size := by have := hb2.size; (try simp at this); omega
    have hz21 : w.heap.size + 1 < w2.heap.size := by have := hb2.size; (try simp at this); omega
    have hz22 : w.heap.size + 1 + 1 < w2.heap.size := by have := hb2.size; (try simp at this); omega
    have HB2 := Lib.hid hb2; clear hb2
    go_wp2_with fail
    refine bodyPost_ret (by simp [results, Try.results19, go_sem, hc1, hc2, hz12]; rfl) rfl ⟨?_, ?_⟩
    · exact ret_bx (jn_y HG.out).symm (jn_y HG.out).symm (jn_y HG.out).symm (jn_y HG.out).symm
    · have hb := HB1.out; have hb2 := HB2.out
      (repeat (first | exact Below.refl _ _ | (refine Below.drew ?_) | (refine below_drewN ?_ _) | (refine Below.alloc ?_ (by first | omega | (simp <;> omega)) _) | (refine Below.setCell ?_ (by first | omega | (simp <;> omega)) _) | (refine Below.trans ?_ (Below.mono (by assumption) (by first | omega | (simp <;> omega))))))
set_option maxHeartbeats 8000000 in
theorem joinr_any (a b c d x y z u : Int) (w : World) :
    Calls Try.prog 20 #[bx a b c d, bx x y z u] w fun e w' => e = .returned (jbx a b c d x y z u) ∧ Below w.heap.size w w' := by
  cases h1 : goodB a b c d
  · have H1 := Lib.hid h1
    have HG := Lib.hid (gg_mk (q := goodB x y z u) h1 rfl); clear h1
    go_enter Try.func20, Try.ntmps20
    go_wp2_with fail
    refine (good_any _ _ _ _ _).mono ?_; rintro e w1 ⟨rfl, hb1⟩; rw [H1.out]
    obtain ⟨hc1, hf1⟩ := bcell hb1
    have hz10 : w.heap.size < w1.heap.size := by have := hb1.size; (try simp at this); omega
    have hz11 : w.heap.size + 1 < w1.heap.size := by have := hb1.size; (try simp at this); omega
    have hz12 : w.heap.size + 1 + 1 < w1.heap.size := by have := hb1.size; (try simp at this); omega
    have HB1 := Lib.hid hb1; clear hb1
    go_wp2_with fail
    refine bodyPost_ret (by simp [results, Try.results20, go_sem, hc1]; rfl) rfl ⟨?_, ?_⟩
    · exact ret_bx (jn_n (by rw [HG.out]; rfl)).symm (jn_n (by rw [HG.out]; rfl)).symm (jn_n (by rw [HG.out]; rfl)).symm (jn_n (by rw [HG.out]; rfl)).symm
    · have hb := HB1.out
      (repeat (first | exact Below.refl _ _ | (refine Below.drew ?_) | (refine below_drewN ?_ _) | (refine Below.alloc ?_ (by first | omega | (simp <;> omega)) _) | (refine Below.setCell ?_ (by first | omega | (simp <;> omega)) _) | (refine Below.trans ?_ (Below.mono (by assumption) (by first | omega | (simp <;> omega))))))
  · cases h2 : goodB x y z u
    · have H1 := Lib.hid h1; have H2 := Lib.hid h2
      have HG := Lib.hid (gg_mk h1 h2); clear h1 h2
      go_enter Try.func20, Try.ntmps20
      go_wp2_with fail
      refine (good_any _ _ _ _ _).mono ?_; rintro e w1 ⟨rfl, hb1⟩; rw [H1.out]
      obtain ⟨hc1, hf1⟩ := bcell hb1
      have hz10 : w.heap.size < w1.heap.size := by have := hb1.size; (try simp at this); omega
      have hz11 : w.heap.size + 1 < w1.heap.size := by have := hb1.size; (try simp at this); omega
      have hz12 : w.heap.size + 1 + 1 < w1.heap.size := by have := hb1.size; (try simp at this); omega
      have HB1 := Lib.hid hb1; clear hb1
      go_wp2_with fail
      refine (good_any _ _ _ _ _).mono ?_; rintro e w2 ⟨rfl, hb2⟩; rw [H2.out]
      obtain ⟨hc2, hf2⟩ := bcell hb2
      have hz20 : w.heap.size < w2.heap.size := by have := hb2.size; (try simp at this); omega
      have hz21 : w.heap.size + 1 < w2.heap.size := by have := hb2.size; (try simp at this); omega
      have hz22 : w.heap.size + 1 + 1 < w2.heap.size := by have := hb2.size; (try simp at this); omega
      have HB2 := Lib.hid hb2; clear hb2
      go_wp2_with fail
      refine bodyPost_ret (by simp [results, Try.results20, go_sem, hc1, hc2, hz12]; rfl) rfl ⟨?_, ?_⟩
      · exact ret_bx (jn_n HG.out).symm (jn_n HG.out).symm (jn_n HG.out).symm (jn_n HG.out).symm
      · have hb := HB1.out; have hb2 := HB2.out
        (repeat (first | exact Below.refl _ _ | (refine Below.drew ?_) | (refine below_drewN ?_ _) | (refine Below.alloc ?_ (by first | omega | (simp <;> omega)) _) | (refine Below.setCell ?_ (by first | omega | (simp <;> omega)) _) | (refine Below.trans ?_ (Below.mono (by assumption) (by first | omega | (simp <;> omega))))))
    · have H1 := Lib.hid h1; have H2 := Lib.hid h2
      have HG := Lib.hid (gg_mk h1 h2); clear h1 h2
      go_enter Try.func20, Try.ntmps20
      go_wp2_with fail
      refine (good_any _ _ _ _ _).mono ?_; rintro e w1 ⟨rfl, hb1⟩; rw [H1.out]
      obtain ⟨hc1, hf1⟩ := bcell hb1
      have hz10 : w.heap.size < w1.heap.size := by have := hb1.size; (try simp at this); omega
      have hz11 : w.heap.size + 1 < w1.heap.size := by have := hb1.size; (try simp at this); omega
      have hz12 : w.heap.size + 1 + 1 < w1.heap.size := by have := hb1.size; (try simp at this); omega
      have HB1 := Lib.hid hb1; clear hb1
      go_wp2_with fail
      refine (good_any _ _ _ _ _).mono ?_; rintro e w2 ⟨rfl, hb2⟩; rw [H2.out]
      obtain ⟨hc2, hf2⟩ := bcell hb2
      have hz20 : w.heap.size < w2.heap.size := by have := hb2.size; (try simp at this); omega
      have hz21 : w.heap.size + 1 < w2.heap.size := by have := hb2.size; (try simp at this); omega
      have hz22 : w.heap.size + 1 + 1 < w2.heap.size := by have := hb2.size; (try simp at this); omega
      have HB2 := Lib.hid hb2; clear hb2
      go_wp2_with fail
      all_goals
        refine bodyPost_ret (by simp [results, Try.results20, go_sem, hc1, hc2, hz12]; rfl) rfl ⟨?_, ?_⟩
        · exact ret_bx (by first | (rw [jn_y HG.out]; unfold minZ; split <;> omega)) (by first | (rw [jn_y HG.out]; unfold minZ; split <;> omega)) (by rw [jn_y HG.out]; unfold maxZ; split <;> omega) (by rw [jn_y HG.out]; unfold maxZ; split <;> omega)
        · have hb := HB1.out; have hb2 := HB2.out
          (repeat (first | exact Below.refl _ _ | (refine Below.drew ?_) | (refine below_drewN ?_ _) | (refine Below.alloc ?_ (by first | omega | (simp <;> omega)) _) | (refine Below.setCell ?_ (by first | omega | (simp <;> omega)) _) | (refine Below.trans ?_ (Below.mono (by assumption) (by first | omega | (simp <;> omega))))))
end Go.Proofs.Ytahaigamigkhbaa
