/- seg: the references of Of, On and Within; Less and its reference. -/
import Derived.Test.YtfabfnjfnildhaaSk
namespace Go.Proofs.Ytfabfnjfnildhaa
open Go.ChangeShapes Go.WideShapes Go.ChangeAt Go.RowKit Go.Joins Go.Deep

theorem ofr_yes (a b c d : Int) (w : World) (h : lsB c d a b = true) : Calls Try.prog 15 #[pt a b, pt c d] w fun e' w' => e' = .returned (sg c d a b) ∧ Below w.heap.size w w' := by
  have K0 := Lib.hid h; clear h
  go_enter Try.func15, Try.ntmps15
  go_wp2_with fail
  go_wp2_with fail
  refine (lessr_any _ _ _ _ _).mono ?_; rintro e w1 ⟨rfl, hb1⟩; rw [K0.out]
  obtain ⟨hc1, hf1⟩ := bcell hb1
  have hz10 : w.heap.size < w1.heap.size := by have := hb1.size; (try simp at this); omega
  have hz11 : w.heap.size + 1 < w1.heap.size := by have := hb1.size; (try simp at this); omega
  have hz12 : w.heap.size + 1 + 1 < w1.heap.size := by have := hb1.size; (try simp at this); omega
  have HB1 := Lib.hid hb1; clear hb1
  go_wp2_with fail
  refine bodyPost_ret (v := sg c d a b) (by simp [results, Try.results15, go_sem, hc1]) rfl ⟨rfl, ?_⟩
  have hb1 := HB1.out
  (repeat (first | exact Below.refl _ _ | (refine Below.drew ?_) | (refine below_drewN ?_ _) | (refine Below.alloc ?_ (by first | omega | (simp <;> omega)) _) | (refine Below.setCell ?_ (by first | omega | (simp <;> omega)) _) | (refine Below.trans ?_ (Below.mono (by assumption) (by first | omega | (simp <;> omega))))))
theorem ofr_not (a b c d : Int) (w : World) (h : lsB c d a b = false) : Calls Try.prog 15 #[pt a b, pt c d] w fun e' w' => e' = .returned (sg a b c d) ∧ Below w.heap.size w w' := by
  have K0 := Lib.hid h; clear h
  go_enter Try.func15, Try.ntmps15
  go_wp2_with fail
  go_wp2_with fail
  refine (lessr_any _ _ _ _ _).mono ?_; rintro e w1 ⟨rfl, hb1⟩; rw [K0.out]
  obtain ⟨hc1, hf1⟩ := bcell hb1
  have hz10 : w.heap.size < w1.heap.size := by have := hb1.size; (try simp at this); omega
  have hz11 : w.heap.size + 1 < w1.heap.size := by have := hb1.size; (try simp at this); omega
  have hz12 : w.heap.size + 1 + 1 < w1.heap.size := by have := hb1.size; (try simp at this); omega
  have HB1 := Lib.hid hb1; clear hb1
  go_wp2_with fail
  refine bodyPost_ret (v := sg a b c d) (by simp [results, Try.results15, go_sem, hc1]) rfl ⟨rfl, ?_⟩
  have hb1 := HB1.out
  (repeat (first | exact Below.refl _ _ | (refine Below.drew ?_) | (refine below_drewN ?_ _) | (refine Below.alloc ?_ (by first | omega | (simp <;> omega)) _) | (refine Below.setCell ?_ (by first | omega | (simp <;> omega)) _) | (refine Below.trans ?_ (Below.mono (by assumption) (by first | omega | (simp <;> omega))))))
theorem of_ex (a b c d : Int) : ∃ p q r s, (∀ W, Calls Try.prog 14 #[pt a b, pt c d] W fun e' w' => e' = .returned (sg p q r s) ∧ Below W.heap.size W w') ∧ (∀ W, Calls Try.prog 15 #[pt a b, pt c d] W fun e' w' => e' = .returned (sg p q r s) ∧ Below W.heap.size W w') := by
  cases h : lsB c d a b
  · exact ⟨a, b, c, d, fun W => of_not a b c d W h, fun W => ofr_not a b c d W h⟩
  · exact ⟨c, d, a, b, fun W => of_yes a b c d W h, fun W => ofr_yes a b c d W h⟩
def lsS (a b c d e f g h : Int) : Bool := if a = e ∧ b = f then lsB c d g h else lsB a b e f
set_option maxRecDepth 100000 in
set_option maxHeartbeats 4000000 in
theorem lessS_any (a b c d e f g h : Int) (w : World) : Calls Try.prog 16 #[sg a b c d, sg e f g h] w fun e' w' => e' = .returned (.bool (lsS a b c d e f g h)) ∧ Below w.heap.size w w' := by
  by_cases heq : a = e ∧ b = f
  · have HR := Lib.hid (show lsS a b c d e f g h = lsB c d g h by unfold lsS; rw [if_pos heq])
    obtain ⟨rfl, rfl⟩ := heq
    go_enter Try.func16, Try.ntmps16
    go_wp2_with fail
    have I0 : ∀ W, W = (w.alloc (.cells #[.int .i64 a, .int .i64 b, .int .i64 c, .int .i64 d] 25)).alloc (.cells #[.int .i64 a, .int .i64 b, .int .i64 g, .int .i64 h] 25) → (W.cell? ⟨w.heap.size, 0, none⟩ = some (.int .i64 a) ∧ W.cell? ⟨w.heap.size, 1, none⟩ = some (.int .i64 b) ∧ W.cell? ⟨w.heap.size, 2, none⟩ = some (.int .i64 c) ∧ W.cell? ⟨w.heap.size, 3, none⟩ = some (.int .i64 d) ∧ W.cell? ⟨w.heap.size + 1, 0, none⟩ = some (.int .i64 a) ∧ W.cell? ⟨w.heap.size + 1, 1, none⟩ = some (.int .i64 b) ∧ W.cell? ⟨w.heap.size + 1, 2, none⟩ = some (.int .i64 g) ∧ W.cell? ⟨w.heap.size + 1, 3, none⟩ = some (.int .i64 h)) ∧ Below w.heap.size w W := by
      intro W e; subst e
      refine ⟨⟨by go_simp, by go_simp, by go_simp, by go_simp, by go_simp, by go_simp, by go_simp, by go_simp⟩, ?_⟩
      (repeat (first | exact Below.refl _ _ | (refine Below.alloc ?_ (by first | omega | (simp <;> omega)) _)))
    have J0 := I0 _ rfl; clear I0
    generalize (w.alloc (.cells #[.int .i64 a, .int .i64 b, .int .i64 c, .int .i64 d] 25)).alloc (.cells #[.int .i64 a, .int .i64 b, .int .i64 g, .int .i64 h] 25) = W0 at J0 ⊢
    obtain ⟨⟨f1, f2, f3, f4, f5, f6, f7, f8⟩, bb0⟩ := J0
    have B0 := Lib.hid bb0; clear bb0
    refine (less_any _ _ _ _ _).mono ?_; rintro e' w1 ⟨rfl, hb⟩
    replace f1 := old hb f1; replace f2 := old hb f2; replace f3 := old hb f3; replace f4 := old hb f4; replace f5 := old hb f5; replace f6 := old hb f6; replace f7 := old hb f7; replace f8 := old hb f8
    have B2_ := Lib.hid (B0.out.trans (hb.mono B0.out.size)); clear hb
    have hz1 : w.heap.size < w1.heap.size := cell_lt f1
    have hz2 : w.heap.size + 1 < w1.heap.size := cell_lt f5
    go_wp2_with fail
    go_ret
    exact ⟨ret_bool (by rw [HR.out]), B2_.out⟩
  · have HR := Lib.hid (show lsS a b c d e f g h = lsB a b e f by unfold lsS; rw [if_neg heq])
    have hne : (a == e) = false ∨ (a = e ∧ (b == f) = false) := by simp only [beq_eq_false_iff_ne, ne_eq]; omega
    clear heq
    rcases hne with n1 | ⟨rfl, n1⟩
    · go_enter Try.func16, Try.ntmps16
      go_wp2_with fail
      have I0 : ∀ W, W = (w.alloc (.cells #[.int .i64 a, .int .i64 b, .int .i64 c, .int .i64 d] 25)).alloc (.cells #[.int .i64 e, .int .i64 f, .int .i64 g, .int .i64 h] 25) → (W.cell? ⟨w.heap.size, 0, none⟩ = some (.int .i64 a) ∧ W.cell? ⟨w.heap.size, 1, none⟩ = some (.int .i64 b) ∧ W.cell? ⟨w.heap.size, 2, none⟩ = some (.int .i64 c) ∧ W.cell? ⟨w.heap.size, 3, none⟩ = some (.int .i64 d) ∧ W.cell? ⟨w.heap.size + 1, 0, none⟩ = some (.int .i64 e) ∧ W.cell? ⟨w.heap.size + 1, 1, none⟩ = some (.int .i64 f) ∧ W.cell? ⟨w.heap.size + 1, 2, none⟩ = some (.int .i64 g) ∧ W.cell? ⟨w.heap.size + 1, 3, none⟩ = some (.int .i64 h)) ∧ Below w.heap.size w W := by
        intro W e; subst e
        refine ⟨⟨by go_simp, by go_simp, by go_simp, by go_simp, by go_simp, by go_simp, by go_simp, by go_simp⟩, ?_⟩
        (repeat (first | exact Below.refl _ _ | (refine Below.alloc ?_ (by first | omega | (simp <;> omega)) _)))
      have J0 := I0 _ rfl; clear I0
      generalize (w.alloc (.cells #[.int .i64 a, .int .i64 b, .int .i64 c, .int .i64 d] 25)).alloc (.cells #[.int .i64 e, .int .i64 f, .int .i64 g, .int .i64 h] 25) = W0 at J0 ⊢
      obtain ⟨⟨f1, f2, f3, f4, f5, f6, f7, f8⟩, bb0⟩ := J0
      have B0 := Lib.hid bb0; clear bb0
      refine (less_any _ _ _ _ _).mono ?_; rintro e' w1 ⟨rfl, hb⟩
      replace f1 := old hb f1; replace f2 := old hb f2; replace f3 := old hb f3; replace f4 := old hb f4; replace f5 := old hb f5; replace f6 := old hb f6; replace f7 := old hb f7; replace f8 := old hb f8
      have B2_ := Lib.hid (B0.out.trans (hb.mono B0.out.size)); clear hb
      have hz1 : w.heap.size < w1.heap.size := cell_lt f1
      have hz2 : w.heap.size + 1 < w1.heap.size := cell_lt f5
      go_wp2_with fail
      go_ret
      exact ⟨ret_bool (by rw [HR.out]), B2_.out⟩
    · go_enter Try.func16, Try.ntmps16
      go_wp2_with fail
      have I0 : ∀ W, W = (w.alloc (.cells #[.int .i64 a, .int .i64 b, .int .i64 c, .int .i64 d] 25)).alloc (.cells #[.int .i64 a, .int .i64 f, .int .i64 g, .int .i64 h] 25) → (W.cell? ⟨w.heap.size, 0, none⟩ = some (.int .i64 a) ∧ W.cell? ⟨w.heap.size, 1, none⟩ = some (.int .i64 b) ∧ W.cell? ⟨w.heap.size, 2, none⟩ = some (.int .i64 c) ∧ W.cell? ⟨w.heap.size, 3, none⟩ = some (.int .i64 d) ∧ W.cell? ⟨w.heap.size + 1, 0, none⟩ = some (.int .i64 a) ∧ W.cell? ⟨w.heap.size + 1, 1, none⟩ = some (.int .i64 f) ∧ W.cell? ⟨w.heap.size + 1, 2, none⟩ = some (.int .i64 g) ∧ W.cell? ⟨w.heap.size + 1, 3, none⟩ = some (.int .i64 h)) ∧ Below w.heap.size w W := by
        intro W e; subst e
        refine ⟨⟨by go_simp, by go_simp, by go_simp, by go_simp, by go_simp, by go_simp, by go_simp, by go_simp⟩, ?_⟩
        (repeat (first | exact Below.refl _ _ | (refine Below.alloc ?_ (by first | omega | (simp <;> omega)) _)))
      have J0 := I0 _ rfl; clear I0
      generalize (w.alloc (.cells #[.int .i64 a, .int .i64 b, .int .i64 c, .int .i64 d] 25)).alloc (.cells #[.int .i64 a, .int .i64 f, .int .i64 g, .int .i64 h] 25) = W0 at J0 ⊢
      obtain ⟨⟨f1, f2, f3, f4, f5, f6, f7, f8⟩, bb0⟩ := J0
      have B0 := Lib.hid bb0; clear bb0
      refine (less_any _ _ _ _ _).mono ?_; rintro e' w1 ⟨rfl, hb⟩
      replace f1 := old hb f1; replace f2 := old hb f2; replace f3 := old hb f3; replace f4 := old hb f4; replace f5 := old hb f5; replace f6 := old hb f6; replace f7 := old hb f7; replace f8 := old hb f8
      have B2_ := Lib.hid (B0.out.trans (hb.mono B0.out.size)); clear hb
      have hz1 : w.heap.size < w1.heap.size := cell_lt f1
      have hz2 : w.heap.size + 1 < w1.heap.size := cell_lt f5
      go_wp2_with fail
      go_ret
      exact ⟨ret_bool (by rw [HR.out]), B2_.out⟩
set_option maxRecDepth 100000 in
set_option maxHeartbeats 4000000 in
theorem lessSr_any (a b c d e f g h : Int) (w : World) : Calls Try.prog 17 #[sg a b c d, sg e f g h] w fun e' w' => e' = .returned (.bool (lsS a b c d e f g h)) ∧ Below w.heap.size w w' := by
  by_cases heq : a = e ∧ b = f
  · have HR := Lib.hid (show lsS a b c d e f g h = lsB c d g h by unfold lsS; rw [if_pos heq])
    obtain ⟨rfl, rfl⟩ := heq
    go_enter Try.func17, Try.ntmps17
    go_wp2_with fail
    have I0 : ∀ W, W = (w.alloc (.cells #[.int .i64 a, .int .i64 b, .int .i64 c, .int .i64 d] 25)).alloc (.cells #[.int .i64 a, .int .i64 b, .int .i64 g, .int .i64 h] 25) → (W.cell? ⟨w.heap.size, 0, none⟩ = some (.int .i64 a) ∧ W.cell? ⟨w.heap.size, 1, none⟩ = some (.int .i64 b) ∧ W.cell? ⟨w.heap.size, 2, none⟩ = some (.int .i64 c) ∧ W.cell? ⟨w.heap.size, 3, none⟩ = some (.int .i64 d) ∧ W.cell? ⟨w.heap.size + 1, 0, none⟩ = some (.int .i64 a) ∧ W.cell? ⟨w.heap.size + 1, 1, none⟩ = some (.int .i64 b) ∧ W.cell? ⟨w.heap.size + 1, 2, none⟩ = some (.int .i64 g) ∧ W.cell? ⟨w.heap.size + 1, 3, none⟩ = some (.int .i64 h)) ∧ Below w.heap.size w W := by
      intro W e; subst e
      refine ⟨⟨by go_simp, by go_simp, by go_simp, by go_simp, by go_simp, by go_simp, by go_simp, by go_simp⟩, ?_⟩
      (repeat (first | exact Below.refl _ _ | (refine Below.alloc ?_ (by first | omega | (simp <;> omega)) _)))
    have J0 := I0 _ rfl; clear I0
    generalize (w.alloc (.cells #[.int .i64 a, .int .i64 b, .int .i64 c, .int .i64 d] 25)).alloc (.cells #[.int .i64 a, .int .i64 b, .int .i64 g, .int .i64 h] 25) = W0 at J0 ⊢
    obtain ⟨⟨f1, f2, f3, f4, f5, f6, f7, f8⟩, bb0⟩ := J0
    have B0 := Lib.hid bb0; clear bb0
    refine (lessr_any _ _ _ _ _).mono ?_; rintro e' w1 ⟨rfl, hb⟩
    replace f1 := old hb f1; replace f2 := old hb f2; replace f3 := old hb f3; replace f4 := old hb f4; replace f5 := old hb f5; replace f6 := old hb f6; replace f7 := old hb f7; replace f8 := old hb f8
    have B2_ := Lib.hid (B0.out.trans (hb.mono B0.out.size)); clear hb
    have hz1 : w.heap.size < w1.heap.size := cell_lt f1
    have hz2 : w.heap.size + 1 < w1.heap.size := cell_lt f5
    go_wp2_with fail
    go_ret
    exact ⟨ret_bool (by rw [HR.out]), B2_.out⟩
  · have HR := Lib.hid (show lsS a b c d e f g h = lsB a b e f by unfold lsS; rw [if_neg heq])
    have hne : (a == e) = false ∨ (a = e ∧ (b == f) = false) := by simp only [beq_eq_false_iff_ne, ne_eq]; omega
    clear heq
    rcases hne with n1 | ⟨rfl, n1⟩
    · go_enter Try.func17, Try.ntmps17
      go_wp2_with fail
      have I0 : ∀ W, W = (w.alloc (.cells #[.int .i64 a, .int .i64 b, .int .i64 c, .int .i64 d] 25)).alloc (.cells #[.int .i64 e, .int .i64 f, .int .i64 g, .int .i64 h] 25) → (W.cell? ⟨w.heap.size, 0, none⟩ = some (.int .i64 a) ∧ W.cell? ⟨w.heap.size, 1, none⟩ = some (.int .i64 b) ∧ W.cell? ⟨w.heap.size, 2, none⟩ = some (.int .i64 c) ∧ W.cell? ⟨w.heap.size, 3, none⟩ = some (.int .i64 d) ∧ W.cell? ⟨w.heap.size + 1, 0, none⟩ = some (.int .i64 e) ∧ W.cell? ⟨w.heap.size + 1, 1, none⟩ = some (.int .i64 f) ∧ W.cell? ⟨w.heap.size + 1, 2, none⟩ = some (.int .i64 g) ∧ W.cell? ⟨w.heap.size + 1, 3, none⟩ = some (.int .i64 h)) ∧ Below w.heap.size w W := by
        intro W e; subst e
        refine ⟨⟨by go_simp, by go_simp, by go_simp, by go_simp, by go_simp, by go_simp, by go_simp, by go_simp⟩, ?_⟩
        (repeat (first | exact Below.refl _ _ | (refine Below.alloc ?_ (by first | omega | (simp <;> omega)) _)))
      have J0 := I0 _ rfl; clear I0
      generalize (w.alloc (.cells #[.int .i64 a, .int .i64 b, .int .i64 c, .int .i64 d] 25)).alloc (.cells #[.int .i64 e, .int .i64 f, .int .i64 g, .int .i64 h] 25) = W0 at J0 ⊢
      obtain ⟨⟨f1, f2, f3, f4, f5, f6, f7, f8⟩, bb0⟩ := J0
      have B0 := Lib.hid bb0; clear bb0
      refine (lessr_any _ _ _ _ _).mono ?_; rintro e' w1 ⟨rfl, hb⟩
      replace f1 := old hb f1; replace f2 := old hb f2; replace f3 := old hb f3; replace f4 := old hb f4; replace f5 := old hb f5; replace f6 := old hb f6; replace f7 := old hb f7; replace f8 := old hb f8
      have B2_ := Lib.hid (B0.out.trans (hb.mono B0.out.size)); clear hb
      have hz1 : w.heap.size < w1.heap.size := cell_lt f1
      have hz2 : w.heap.size + 1 < w1.heap.size := cell_lt f5
      go_wp2_with fail
      go_ret
      exact ⟨ret_bool (by rw [HR.out]), B2_.out⟩
    · go_enter Try.func17, Try.ntmps17
      go_wp2_with fail
      have I0 : ∀ W, W = (w.alloc (.cells #[.int .i64 a, .int .i64 b, .int .i64 c, .int .i64 d] 25)).alloc (.cells #[.int .i64 a, .int .i64 f, .int .i64 g, .int .i64 h] 25) → (W.cell? ⟨w.heap.size, 0, none⟩ = some (.int .i64 a) ∧ W.cell? ⟨w.heap.size, 1, none⟩ = some (.int .i64 b) ∧ W.cell? ⟨w.heap.size, 2, none⟩ = some (.int .i64 c) ∧ W.cell? ⟨w.heap.size, 3, none⟩ = some (.int .i64 d) ∧ W.cell? ⟨w.heap.size + 1, 0, none⟩ = some (.int .i64 a) ∧ W.cell? ⟨w.heap.size + 1, 1, none⟩ = some (.int .i64 f) ∧ W.cell? ⟨w.heap.size + 1, 2, none⟩ = some (.int .i64 g) ∧ W.cell? ⟨w.heap.size + 1, 3, none⟩ = some (.int .i64 h)) ∧ Below w.heap.size w W := by
        intro W e; subst e
        refine ⟨⟨by go_simp, by go_simp, by go_simp, by go_simp, by go_simp, by go_simp, by go_simp, by go_simp⟩, ?_⟩
        (repeat (first | exact Below.refl _ _ | (refine Below.alloc ?_ (by first | omega | (simp <;> omega)) _)))
      have J0 := I0 _ rfl; clear I0
      generalize (w.alloc (.cells #[.int .i64 a, .int .i64 b, .int .i64 c, .int .i64 d] 25)).alloc (.cells #[.int .i64 a, .int .i64 f, .int .i64 g, .int .i64 h] 25) = W0 at J0 ⊢
      obtain ⟨⟨f1, f2, f3, f4, f5, f6, f7, f8⟩, bb0⟩ := J0
      have B0 := Lib.hid bb0; clear bb0
      refine (lessr_any _ _ _ _ _).mono ?_; rintro e' w1 ⟨rfl, hb⟩
      replace f1 := old hb f1; replace f2 := old hb f2; replace f3 := old hb f3; replace f4 := old hb f4; replace f5 := old hb f5; replace f6 := old hb f6; replace f7 := old hb f7; replace f8 := old hb f8
      have B2_ := Lib.hid (B0.out.trans (hb.mono B0.out.size)); clear hb
      have hz1 : w.heap.size < w1.heap.size := cell_lt f1
      have hz2 : w.heap.size + 1 < w1.heap.size := cell_lt f5
      go_wp2_with fail
      go_ret
      exact ⟨ret_bool (by rw [HR.out]), B2_.out⟩
theorem onB_nv {a b c d e f : Int} (h : v3 a b c d e f = false) : onB a b c d e f = false := by
  unfold onB vab
  unfold v3 at h
  cases h1 : vldB a b
  · rw [hdB_nv h1]; simp
  · rw [h1] at h
    cases h2 : vldB c d <;> cases h3 : vldB e f <;> simp_all
set_option maxRecDepth 100000 in
set_option maxHeartbeats 4000000 in
theorem onr_any (a b c d e f : Int) (w : World) : Calls Try.prog 21 #[pt a b, pt c d, pt e f] w fun e' w' => e' = .returned (.bool (onB a b c d e f)) ∧ Below w.heap.size w w' := by
  cases hv : v3 a b c d e f
  · have HR := Lib.hid (onB_nv hv)
    have HV := Lib.hid hv; clear hv
    go_enter Try.func21, Try.ntmps21
    go_wp2_with fail
    have I0 : ∀ W, W = ((w.alloc (.cells #[.int .i64 a, .int .i64 b] 23)).alloc (.cells #[.int .i64 c, .int .i64 d] 23)).alloc (.cells #[.int .i64 e, .int .i64 f] 23) → (W.cell? ⟨w.heap.size, 0, none⟩ = some (.int .i64 a) ∧ W.cell? ⟨w.heap.size, 1, none⟩ = some (.int .i64 b) ∧ W.cell? ⟨w.heap.size + 1, 0, none⟩ = some (.int .i64 c) ∧ W.cell? ⟨w.heap.size + 1, 1, none⟩ = some (.int .i64 d) ∧ W.cell? ⟨w.heap.size + 1 + 1, 0, none⟩ = some (.int .i64 e) ∧ W.cell? ⟨w.heap.size + 1 + 1, 1, none⟩ = some (.int .i64 f)) ∧ Below w.heap.size w W := by
      intro W e; subst e
      refine ⟨⟨by go_simp, by go_simp, by go_simp, by go_simp, by go_simp, by go_simp⟩, ?_⟩
      (repeat (first | exact Below.refl _ _ | (refine Below.alloc ?_ (by first | omega | (simp <;> omega)) _)))
    have J0 := I0 _ rfl; clear I0
    generalize ((w.alloc (.cells #[.int .i64 a, .int .i64 b] 23)).alloc (.cells #[.int .i64 c, .int .i64 d] 23)).alloc (.cells #[.int .i64 e, .int .i64 f] 23) = W0 at J0 ⊢
    obtain ⟨⟨f1, f2, f3, f4, f5, f6⟩, bb0⟩ := J0
    have B0 := Lib.hid bb0; clear bb0
    refine (three_any _ _ _ _ _ _ _).mono ?_; rintro e' w1 ⟨rfl, hb⟩; rw [HV.out]
    replace f1 := old hb f1; replace f2 := old hb f2; replace f3 := old hb f3; replace f4 := old hb f4; replace f5 := old hb f5; replace f6 := old hb f6
    have B2_ := Lib.hid (B0.out.trans (hb.mono B0.out.size)); clear hb
    have hz1 : w.heap.size < w1.heap.size := cell_lt f1
    have hz2 : w.heap.size + 1 < w1.heap.size := cell_lt f3
    have hz3 : w.heap.size + 1 + 1 < w1.heap.size := cell_lt f5
    go_wp2_with fail
    go_ret
    exact ⟨ret_bool (by rw [HR.out]), B2_.out⟩
  · have HI := Lib.hid (on_iff hv)
    have HV := Lib.hid hv; clear hv
    have CT := Lib.hid (fun W => turnr_any c d e f a b W)
    generalize trn c d e f a b = T at *
    by_cases hT : T = 0
    · subst hT
      go_enter Try.func21, Try.ntmps21
      go_wp2_with fail
      have I0 : ∀ W, W = ((w.alloc (.cells #[.int .i64 a, .int .i64 b] 23)).alloc (.cells #[.int .i64 c, .int .i64 d] 23)).alloc (.cells #[.int .i64 e, .int .i64 f] 23) → (W.cell? ⟨w.heap.size, 0, none⟩ = some (.int .i64 a) ∧ W.cell? ⟨w.heap.size, 1, none⟩ = some (.int .i64 b) ∧ W.cell? ⟨w.heap.size + 1, 0, none⟩ = some (.int .i64 c) ∧ W.cell? ⟨w.heap.size + 1, 1, none⟩ = some (.int .i64 d) ∧ W.cell? ⟨w.heap.size + 1 + 1, 0, none⟩ = some (.int .i64 e) ∧ W.cell? ⟨w.heap.size + 1 + 1, 1, none⟩ = some (.int .i64 f)) ∧ Below w.heap.size w W := by
        intro W e; subst e
        refine ⟨⟨by go_simp, by go_simp, by go_simp, by go_simp, by go_simp, by go_simp⟩, ?_⟩
        (repeat (first | exact Below.refl _ _ | (refine Below.alloc ?_ (by first | omega | (simp <;> omega)) _)))
      have J0 := I0 _ rfl; clear I0
      generalize ((w.alloc (.cells #[.int .i64 a, .int .i64 b] 23)).alloc (.cells #[.int .i64 c, .int .i64 d] 23)).alloc (.cells #[.int .i64 e, .int .i64 f] 23) = W0 at J0 ⊢
      obtain ⟨⟨f1, f2, f3, f4, f5, f6⟩, bb0⟩ := J0
      have B0 := Lib.hid bb0; clear bb0
      refine (three_any _ _ _ _ _ _ _).mono ?_; rintro e' w1 ⟨rfl, hb⟩; rw [HV.out]
      replace f1 := old hb f1; replace f2 := old hb f2; replace f3 := old hb f3; replace f4 := old hb f4; replace f5 := old hb f5; replace f6 := old hb f6
      have B2_ := Lib.hid (B0.out.trans (hb.mono B0.out.size)); clear hb
      have hz1 : w.heap.size < w1.heap.size := cell_lt f1
      have hz2 : w.heap.size + 1 < w1.heap.size := cell_lt f3
      have hz3 : w.heap.size + 1 + 1 < w1.heap.size := cell_lt f5
      go_wp2_with fail
      refine (CT.out _).mono ?_; rintro e' w3 ⟨rfl, hb⟩
      replace f1 := old hb f1; replace f2 := old hb f2; replace f3 := old hb f3; replace f4 := old hb f4; replace f5 := old hb f5; replace f6 := old hb f6
      have B4_ := Lib.hid (B2_.out.trans (hb.mono B2_.out.size)); clear hb
      clear hz1 hz2 hz3
      have hz1 : w.heap.size < w3.heap.size := cell_lt f1
      have hz2 : w.heap.size + 1 < w3.heap.size := cell_lt f3
      have hz3 : w.heap.size + 1 + 1 < w3.heap.size := cell_lt f5
      go_wp2
      all_goals go_ret
      all_goals refine ⟨ret_bool ?_, B4_.out⟩
      all_goals (have hi := HI.out; rw [Bool.eq_iff_iff, hi]; simp <;> omega)
    · have HR := Lib.hid (show onB a b c d e f = false by have := HI.out; cases hh : onB a b c d e f; rfl; exact absurd (this.1 hh).2 hT)
      have hTb : (T != 0) = true := by simpa using hT
      go_enter Try.func21, Try.ntmps21
      go_wp2_with fail
      have I0 : ∀ W, W = ((w.alloc (.cells #[.int .i64 a, .int .i64 b] 23)).alloc (.cells #[.int .i64 c, .int .i64 d] 23)).alloc (.cells #[.int .i64 e, .int .i64 f] 23) → (W.cell? ⟨w.heap.size, 0, none⟩ = some (.int .i64 a) ∧ W.cell? ⟨w.heap.size, 1, none⟩ = some (.int .i64 b) ∧ W.cell? ⟨w.heap.size + 1, 0, none⟩ = some (.int .i64 c) ∧ W.cell? ⟨w.heap.size + 1, 1, none⟩ = some (.int .i64 d) ∧ W.cell? ⟨w.heap.size + 1 + 1, 0, none⟩ = some (.int .i64 e) ∧ W.cell? ⟨w.heap.size + 1 + 1, 1, none⟩ = some (.int .i64 f)) ∧ Below w.heap.size w W := by
        intro W e; subst e
        refine ⟨⟨by go_simp, by go_simp, by go_simp, by go_simp, by go_simp, by go_simp⟩, ?_⟩
        (repeat (first | exact Below.refl _ _ | (refine Below.alloc ?_ (by first | omega | (simp <;> omega)) _)))
      have J0 := I0 _ rfl; clear I0
      generalize ((w.alloc (.cells #[.int .i64 a, .int .i64 b] 23)).alloc (.cells #[.int .i64 c, .int .i64 d] 23)).alloc (.cells #[.int .i64 e, .int .i64 f] 23) = W0 at J0 ⊢
      obtain ⟨⟨f1, f2, f3, f4, f5, f6⟩, bb0⟩ := J0
      have B0 := Lib.hid bb0; clear bb0
      refine (three_any _ _ _ _ _ _ _).mono ?_; rintro e' w1 ⟨rfl, hb⟩; rw [HV.out]
      replace f1 := old hb f1; replace f2 := old hb f2; replace f3 := old hb f3; replace f4 := old hb f4; replace f5 := old hb f5; replace f6 := old hb f6
      have B2_ := Lib.hid (B0.out.trans (hb.mono B0.out.size)); clear hb
      have hz1 : w.heap.size < w1.heap.size := cell_lt f1
      have hz2 : w.heap.size + 1 < w1.heap.size := cell_lt f3
      have hz3 : w.heap.size + 1 + 1 < w1.heap.size := cell_lt f5
      go_wp2_with fail
      refine (CT.out _).mono ?_; rintro e' w3 ⟨rfl, hb⟩
      replace f1 := old hb f1; replace f2 := old hb f2; replace f3 := old hb f3; replace f4 := old hb f4; replace f5 := old hb f5; replace f6 := old hb f6
      have B4_ := Lib.hid (B2_.out.trans (hb.mono B2_.out.size)); clear hb
      clear hz1 hz2 hz3
      have hz1 : w.heap.size < w3.heap.size := cell_lt f1
      have hz2 : w.heap.size + 1 < w3.heap.size := cell_lt f3
      have hz3 : w.heap.size + 1 + 1 < w3.heap.size := cell_lt f5
      go_wp2_with fail
      go_ret
      exact ⟨ret_bool (by rw [HR.out]), B4_.out⟩
set_option maxRecDepth 100000 in
set_option maxHeartbeats 4000000 in
theorem withinr_any (a b c d e f : Int) (w : World) : Calls Try.prog 23 #[pt a b, pt c d, pt e f] w fun e' w' => e' = .returned (.bool (wiB a b c d e f)) ∧ Below w.heap.size w w' := by
  have HD : Hid (wiB a b c d e f = (onB a b c d e f && !(a == c && b == d) && !(a == e && b == f))) := rfl
  cases h1 : onB a b c d e f
  · have K0 := Lib.hid h1; clear h1
    go_enter Try.func23, Try.ntmps23
    go_wp2_with fail
    have I0 : ∀ W, W = ((w.alloc (.cells #[.int .i64 a, .int .i64 b] 23)).alloc (.cells #[.int .i64 c, .int .i64 d] 23)).alloc (.cells #[.int .i64 e, .int .i64 f] 23) → (W.cell? ⟨w.heap.size, 0, none⟩ = some (.int .i64 a) ∧ W.cell? ⟨w.heap.size, 1, none⟩ = some (.int .i64 b) ∧ W.cell? ⟨w.heap.size + 1, 0, none⟩ = some (.int .i64 c) ∧ W.cell? ⟨w.heap.size + 1, 1, none⟩ = some (.int .i64 d) ∧ W.cell? ⟨w.heap.size + 1 + 1, 0, none⟩ = some (.int .i64 e) ∧ W.cell? ⟨w.heap.size + 1 + 1, 1, none⟩ = some (.int .i64 f)) ∧ Below w.heap.size w W := by
      intro W e; subst e
      refine ⟨⟨by go_simp, by go_simp, by go_simp, by go_simp, by go_simp, by go_simp⟩, ?_⟩
      (repeat (first | exact Below.refl _ _ | (refine Below.alloc ?_ (by first | omega | (simp <;> omega)) _)))
    have J0 := I0 _ rfl; clear I0
    generalize ((w.alloc (.cells #[.int .i64 a, .int .i64 b] 23)).alloc (.cells #[.int .i64 c, .int .i64 d] 23)).alloc (.cells #[.int .i64 e, .int .i64 f] 23) = W0 at J0 ⊢
    obtain ⟨⟨f1, f2, f3, f4, f5, f6⟩, bb0⟩ := J0
    have B0 := Lib.hid bb0; clear bb0
    refine (onr_any _ _ _ _ _ _ _).mono ?_; rintro e w1 ⟨rfl, hb⟩; rw [K0.out]
    replace f1 := old hb f1; replace f2 := old hb f2; replace f3 := old hb f3; replace f4 := old hb f4; replace f5 := old hb f5; replace f6 := old hb f6
    have B2_ := Lib.hid (B0.out.trans (hb.mono B0.out.size)); clear hb
    have hz1 : w.heap.size < w1.heap.size := cell_lt f1
    have hz2 : w.heap.size + 1 < w1.heap.size := cell_lt f3
    have hz3 : w.heap.size + 1 + 1 < w1.heap.size := cell_lt f5
    go_wp2_with fail
    go_ret
    exact ⟨ret_bool (by rw [HD.out, K0.out]; simp), B2_.out⟩
  · have K0 := Lib.hid h1; clear h1
    have hcase : (a = c ∧ b = d) ∨ (((a == c) = false ∨ (a = c ∧ (b == d) = false)) ∧ ((a = e ∧ b = f) ∨ (a == e) = false ∨ (a = e ∧ (b == f) = false))) := by
      simp only [beq_eq_false_iff_ne, ne_eq]; omega
    rcases hcase with ⟨rfl, rfl⟩ | ⟨h3 | ⟨rfl, h3⟩, ⟨rfl, rfl⟩ | h4 | ⟨rfl, h4⟩⟩
    all_goals
      go_enter Try.func23, Try.ntmps23
      go_wp2_with fail
      refine (onr_any _ _ _ _ _ _ _).mono ?_; rintro e' w1 ⟨rfl, hb1⟩; rw [K0.out]
      obtain ⟨hc1, hf1⟩ := bcell hb1
      have hz0 : w.heap.size < w1.heap.size := by have := hb1.size; (try simp at this); omega
      have hz1 : w.heap.size + 1 < w1.heap.size := by have := hb1.size; (try simp at this); omega
      have hz2 : w.heap.size + 1 + 1 < w1.heap.size := by have := hb1.size; (try simp at this); omega
      have HB1 := Lib.hid hb1; clear hb1
      go_wp2_with fail
      go_ret
      refine ⟨ret_bool (by rw [HD.out, K0.out]; simp_all), ?_⟩
      have b1 := HB1.out
      (repeat (first | exact Below.refl _ _ | (refine Below.drew ?_) | (refine below_drewN ?_ _) | (refine Below.alloc ?_ (by first | omega | (simp <;> omega)) _) | (refine Below.setCell ?_ (by first | omega | (simp <;> omega)) _) | (refine Below.trans ?_ (Below.mono (by assumption) (by first | omega | (simp <;> omega))))))
end Go.Proofs.Ytfabfnjfnildhaa
