/- seg: the references of Far and Nearer; the walk of SegFars. -/
import Derived.Test.YtlcbmikcjgidjaaSi
namespace Go.Proofs.Ytlcbmikcjgidjaa
open Go.ChangeShapes Go.WideShapes Go.ChangeAt Go.RowKit Go.Joins Go.Deep

set_option maxHeartbeats 2000000 in
theorem square_any (a b c d : Int) (w : World) (h : InG a b) (k : InG c d) : Calls Try.prog 50 #[pt a b, pt c d] w fun e' w' => e' = .returned (.int .i64 (d2 a b c d)) ∧ Below w.heap.size w w' := by
  obtain ⟨h1, h2, h3, h4⟩ := h
  obtain ⟨k1, k2, k3, k4⟩ := k
  obtain ⟨p1, p2⟩ := sqb (x := a - c) (by omega) (by omega)
  obtain ⟨q1, q2⟩ := sqb (x := b - d) (by omega) (by omega)
  go_enter Try.func50, Try.ntmps50
  go_wp2
  go_ret
  refine ⟨ret_i64 rfl, ?_⟩
  (repeat (first | exact Below.refl _ _ | (refine Below.drew ?_) | (refine below_drewN ?_ _) | (refine Below.alloc ?_ (by first | omega | (simp <;> omega)) _) | (refine Below.setCell ?_ (by first | omega | (simp <;> omega)) _) | (refine Below.trans ?_ (Below.mono (by assumption) (by first | omega | (simp <;> omega))))))
set_option maxRecDepth 100000 in
set_option maxHeartbeats 4000000 in
theorem farr_any (a b c d e f : Int) (w : World) : Calls Try.prog 28 #[pt a b, pt c d, pt e f] w fun e' w' => e' = .returned (.tuple #[.int .i64 (farQ a b c d e f).1, .int .i64 (farQ a b c d e f).2]) ∧ Below w.heap.size w w' := by
  cases hv : v3 a b c d e f
  · have HR := Lib.hid (farQ_no hv)
    have HV := Lib.hid hv; clear hv
    go_enter Try.func28, Try.ntmps28
    go_wp2_with fail
    have I0 : ∀ W, W = ((w.alloc (.cells #[.int .i64 a, .int .i64 b] 23)).alloc (.cells #[.int .i64 c, .int .i64 d] 23)).alloc (.cells #[.int .i64 e, .int .i64 f] 23) → (W.cell? ⟨w.heap.size, 0, none⟩ = some (.int .i64 a) ∧ W.cell? ⟨w.heap.size, 1, none⟩ = some (.int .i64 b) ∧ W.cell? ⟨w.heap.size + 1, 0, none⟩ = some (.int .i64 c) ∧ W.cell? ⟨w.heap.size + 1, 1, none⟩ = some (.int .i64 d) ∧ W.cell? ⟨w.heap.size + 1 + 1, 0, none⟩ = some (.int .i64 e) ∧ W.cell? ⟨w.heap.size + 1 + 1, 1, none⟩ = some (.int .i64 f)) ∧ Below w.heap.size w W := by
      intro W e; subst e
      refine ⟨⟨by go_simp, by go_simp, by go_simp, by go_simp, by go_simp, by go_simp⟩, ?_⟩
      (repeat (first | exact Below.refl _ _ | (refine Below.alloc ?_ (by first | omega | (simp <;> omega)) _)))
    have J0 := I0 _ rfl; clear I0
    generalize ((w.alloc (.cells #[.int .i64 a, .int .i64 b] 23)).alloc (.cells #[.int .i64 c, .int .i64 d] 23)).alloc (.cells #[.int .i64 e, .int .i64 f] 23) = W0 at J0 ⊢
    obtain ⟨⟨f1, f2, f3, f4, f5, f6⟩, bb0⟩ := J0
    have B0 := Lib.hid bb0; clear bb0
    refine (three_any _ _ _ _ _ _ _).mono ?_; rintro e w1 ⟨rfl, hb⟩; rw [HV.out]
    replace f1 := old hb f1; replace f2 := old hb f2; replace f3 := old hb f3; replace f4 := old hb f4; replace f5 := old hb f5; replace f6 := old hb f6
    have B2_ := Lib.hid (B0.out.trans (hb.mono B0.out.size)); clear hb
    have hz1 : w.heap.size < w1.heap.size := cell_lt f1
    have hz2 : w.heap.size + 1 < w1.heap.size := cell_lt f3
    have hz3 : w.heap.size + 1 + 1 < w1.heap.size := cell_lt f5
    go_wp2_with fail
    go_ret2
    exact ⟨ret_ii (by rw [HR.out]) (by rw [HR.out]), B2_.out⟩
  · obtain ⟨⟨a0, a1, b0', b1⟩, ⟨c0, c1, d0, d1⟩, ⟨e0, e1, f0', f1'⟩⟩ := v3_bd hv
    have CL := Lib.hid (fun W => square_any c d e f W ⟨c0, c1, d0, d1⟩ ⟨e0, e1, f0', f1'⟩)
    have CM := Lib.hid (fun W => square_any a b c d W ⟨a0, a1, b0', b1⟩ ⟨c0, c1, d0, d1⟩)
    have CN := Lib.hid (fun W => square_any a b e f W ⟨a0, a1, b0', b1⟩ ⟨e0, e1, f0', f1'⟩)
    have CT := Lib.hid (fun W => turnr_any c d e f a b W)
    obtain ⟨l1, l2⟩ := d2_bd (a := c) (b := d) (c := e) (d := f) ⟨c0, c1, d0, d1⟩ ⟨e0, e1, f0', f1'⟩
    obtain ⟨t1, t2⟩ := trn_bd c d e f a b
    have t3 := sqt t1 t2
    have HE := Lib.hid (fun k => farQ_end hv k)
    have HM := Lib.hid (fun k => farQ_mid hv k)
    have HAL : Hid (al a b c d e f = (e - c) * (a - c) + (f - d) * (b - d)) := rfl
    have HV := Lib.hid hv; clear hv
    by_cases heq : c = e ∧ d = f
    · obtain ⟨rfl, rfl⟩ := heq
      have HR := Lib.hid (HE.out (Or.inl (by have := HAL.out; simp at this; omega))); clear HE HM
      generalize d2 c d c d = L at *
      generalize d2 a b c d = M at *
      generalize farQ a b c d c d = Q at *
      clear HAL CT
      go_enter Try.func28, Try.ntmps28
      go_wp2_with fail
      have I0 : ∀ W, W = ((w.alloc (.cells #[.int .i64 a, .int .i64 b] 23)).alloc (.cells #[.int .i64 c, .int .i64 d] 23)).alloc (.cells #[.int .i64 c, .int .i64 d] 23) → (W.cell? ⟨w.heap.size, 0, none⟩ = some (.int .i64 a) ∧ W.cell? ⟨w.heap.size, 1, none⟩ = some (.int .i64 b) ∧ W.cell? ⟨w.heap.size + 1, 0, none⟩ = some (.int .i64 c) ∧ W.cell? ⟨w.heap.size + 1, 1, none⟩ = some (.int .i64 d) ∧ W.cell? ⟨w.heap.size + 1 + 1, 0, none⟩ = some (.int .i64 c) ∧ W.cell? ⟨w.heap.size + 1 + 1, 1, none⟩ = some (.int .i64 d)) ∧ Below w.heap.size w W := by
        intro W e; subst e
        refine ⟨⟨by go_simp, by go_simp, by go_simp, by go_simp, by go_simp, by go_simp⟩, ?_⟩
        (repeat (first | exact Below.refl _ _ | (refine Below.alloc ?_ (by first | omega | (simp <;> omega)) _)))
      have J0 := I0 _ rfl; clear I0
      generalize ((w.alloc (.cells #[.int .i64 a, .int .i64 b] 23)).alloc (.cells #[.int .i64 c, .int .i64 d] 23)).alloc (.cells #[.int .i64 c, .int .i64 d] 23) = W0 at J0 ⊢
      obtain ⟨⟨f1, f2, f3, f4, f5, f6⟩, bb0⟩ := J0
      have B0 := Lib.hid bb0; clear bb0
      refine (three_any _ _ _ _ _ _ _).mono ?_; rintro e w1 ⟨rfl, hb⟩; rw [HV.out]
      replace f1 := old hb f1; replace f2 := old hb f2; replace f3 := old hb f3; replace f4 := old hb f4; replace f5 := old hb f5; replace f6 := old hb f6
      have B2_ := Lib.hid (B0.out.trans (hb.mono B0.out.size)); clear hb
      have hz1 : w.heap.size < w1.heap.size := cell_lt f1
      have hz2 : w.heap.size + 1 < w1.heap.size := cell_lt f3
      have hz3 : w.heap.size + 1 + 1 < w1.heap.size := cell_lt f5
      go_wp2_with fail
      refine (CL.out _).mono ?_; rintro e w3 ⟨rfl, hb⟩
      replace f1 := old hb f1; replace f2 := old hb f2; replace f3 := old hb f3; replace f4 := old hb f4; replace f5 := old hb f5; replace f6 := old hb f6
      have B4_ := Lib.hid (B2_.out.trans (hb.mono B2_.out.size)); clear hb
      clear hz1 hz2 hz3
      have hz1 : w.heap.size < w3.heap.size := cell_lt f1
      have hz2 : w.heap.size + 1 < w3.heap.size := cell_lt f3
      have hz3 : w.heap.size + 1 + 1 < w3.heap.size := cell_lt f5
      go_wp2_with fail
      have S0 : Hid (∀ W, W = w3.drew → Below w.heap.size w W ∧ W.cell? ⟨w.heap.size, 0, none⟩ = some (.int .i64 a) ∧ W.cell? ⟨w.heap.size, 1, none⟩ = some (.int .i64 b) ∧ W.cell? ⟨w.heap.size + 1, 0, none⟩ = some (.int .i64 c) ∧ W.cell? ⟨w.heap.size + 1, 1, none⟩ = some (.int .i64 d) ∧ W.cell? ⟨w.heap.size + 1 + 1, 0, none⟩ = some (.int .i64 c) ∧ W.cell? ⟨w.heap.size + 1 + 1, 1, none⟩ = some (.int .i64 d)) := by
        intro W e; subst e
        exact ⟨B4_.out.drew, by go_simp, by go_simp, by go_simp, by go_simp, by go_simp, by go_simp⟩
      go_region_held3 (fun w' => Below w.heap.size w w' ∧ w'.cell? ⟨w.heap.size, 0, none⟩ = some (.int .i64 a) ∧ w'.cell? ⟨w.heap.size, 1, none⟩ = some (.int .i64 b) ∧ w'.cell? ⟨w.heap.size + 1, 0, none⟩ = some (.int .i64 c) ∧ w'.cell? ⟨w.heap.size + 1, 1, none⟩ = some (.int .i64 d) ∧ w'.cell? ⟨w.heap.size + 1 + 1, 0, none⟩ = some (.int .i64 c) ∧ w'.cell? ⟨w.heap.size + 1 + 1, 1, none⟩ = some (.int .i64 d))
        (first | exact S0.out _ rfl | assumption | exact keep6 (by assumption) (by assumption))
        (first | (go_at_call 50; (with_reducible refine (CM.out _).mono ?_); rintro e' w9 ⟨rfl, bw9⟩) | (go_at_call 50; (with_reducible refine (CN.out _).mono ?_); rintro e' w9 ⟨rfl, bw9⟩))
      all_goals go_wp2
      all_goals go_ret2
      all_goals refine ⟨ret_ii ?_ (by rw [HR.out]), bel_of (by assumption)⟩
      all_goals (rw [HR.out]; first | rfl | omega | (simp; omega))
    · obtain ⟨m1, m2⟩ := mulb (x := e - c) (y := a - c) (by omega) (by omega) (by omega) (by omega)
      obtain ⟨m3, m4⟩ := mulb (x := f - d) (y := b - d) (by omega) (by omega) (by omega) (by omega)
      generalize d2 c d e f = L at *
      generalize d2 a b c d = M at *
      generalize d2 a b e f = O at *
      generalize trn c d e f a b = T at *
      obtain ⟨t3a, t3b⟩ := t3
      generalize farQ a b c d e f = Q at *
      generalize al a b c d e f = A at *
      have hne : (c == e) = false ∨ (c = e ∧ (d == f) = false) := by simp only [beq_eq_false_iff_ne, ne_eq]; omega
      clear heq
      rcases hne with n1 | ⟨rfl, n1⟩
      · by_cases hk1 : A ≤ 0
        · have HR := Lib.hid (HE.out (Or.inl hk1)); clear HE HM
          have hk1 : (e - c) * (a - c) + (f - d) * (b - d) ≤ 0 := by have hal := HAL.out; omega
          go_enter Try.func28, Try.ntmps28
          go_wp2_with fail
          have I0 : ∀ W, W = ((w.alloc (.cells #[.int .i64 a, .int .i64 b] 23)).alloc (.cells #[.int .i64 c, .int .i64 d] 23)).alloc (.cells #[.int .i64 e, .int .i64 f] 23) → (W.cell? ⟨w.heap.size, 0, none⟩ = some (.int .i64 a) ∧ W.cell? ⟨w.heap.size, 1, none⟩ = some (.int .i64 b) ∧ W.cell? ⟨w.heap.size + 1, 0, none⟩ = some (.int .i64 c) ∧ W.cell? ⟨w.heap.size + 1, 1, none⟩ = some (.int .i64 d) ∧ W.cell? ⟨w.heap.size + 1 + 1, 0, none⟩ = some (.int .i64 e) ∧ W.cell? ⟨w.heap.size + 1 + 1, 1, none⟩ = some (.int .i64 f)) ∧ Below w.heap.size w W := by
            intro W e; subst e
            refine ⟨⟨by go_simp, by go_simp, by go_simp, by go_simp, by go_simp, by go_simp⟩, ?_⟩
            (repeat (first | exact Below.refl _ _ | (refine Below.alloc ?_ (by first | omega | (simp <;> omega)) _)))
          have J0 := I0 _ rfl; clear I0
          generalize ((w.alloc (.cells #[.int .i64 a, .int .i64 b] 23)).alloc (.cells #[.int .i64 c, .int .i64 d] 23)).alloc (.cells #[.int .i64 e, .int .i64 f] 23) = W0 at J0 ⊢
          obtain ⟨⟨f1, f2, f3, f4, f5, f6⟩, bb0⟩ := J0
          have B0 := Lib.hid bb0; clear bb0
          refine (three_any _ _ _ _ _ _ _).mono ?_; rintro e w1 ⟨rfl, hb⟩; rw [HV.out]
          replace f1 := old hb f1; replace f2 := old hb f2; replace f3 := old hb f3; replace f4 := old hb f4; replace f5 := old hb f5; replace f6 := old hb f6
          have B2_ := Lib.hid (B0.out.trans (hb.mono B0.out.size)); clear hb
          have hz1 : w.heap.size < w1.heap.size := cell_lt f1
          have hz2 : w.heap.size + 1 < w1.heap.size := cell_lt f3
          have hz3 : w.heap.size + 1 + 1 < w1.heap.size := cell_lt f5
          go_wp2_with fail
          refine (CL.out _).mono ?_; rintro e w3 ⟨rfl, hb⟩
          replace f1 := old hb f1; replace f2 := old hb f2; replace f3 := old hb f3; replace f4 := old hb f4; replace f5 := old hb f5; replace f6 := old hb f6
          have B4_ := Lib.hid (B2_.out.trans (hb.mono B2_.out.size)); clear hb
          clear hz1 hz2 hz3
          have hz1 : w.heap.size < w3.heap.size := cell_lt f1
          have hz2 : w.heap.size + 1 < w3.heap.size := cell_lt f3
          have hz3 : w.heap.size + 1 + 1 < w3.heap.size := cell_lt f5
          go_wp2_with fail
          have S0 : Hid (∀ W, W = w3.drew → Below w.heap.size w W ∧ W.cell? ⟨w.heap.size, 0, none⟩ = some (.int .i64 a) ∧ W.cell? ⟨w.heap.size, 1, none⟩ = some (.int .i64 b) ∧ W.cell? ⟨w.heap.size + 1, 0, none⟩ = some (.int .i64 c) ∧ W.cell? ⟨w.heap.size + 1, 1, none⟩ = some (.int .i64 d) ∧ W.cell? ⟨w.heap.size + 1 + 1, 0, none⟩ = some (.int .i64 e) ∧ W.cell? ⟨w.heap.size + 1 + 1, 1, none⟩ = some (.int .i64 f)) := by
            intro W e; subst e
            exact ⟨B4_.out.drew, by go_simp, by go_simp, by go_simp, by go_simp, by go_simp, by go_simp⟩
          go_region_held3 (fun w' => Below w.heap.size w w' ∧ w'.cell? ⟨w.heap.size, 0, none⟩ = some (.int .i64 a) ∧ w'.cell? ⟨w.heap.size, 1, none⟩ = some (.int .i64 b) ∧ w'.cell? ⟨w.heap.size + 1, 0, none⟩ = some (.int .i64 c) ∧ w'.cell? ⟨w.heap.size + 1, 1, none⟩ = some (.int .i64 d) ∧ w'.cell? ⟨w.heap.size + 1 + 1, 0, none⟩ = some (.int .i64 e) ∧ w'.cell? ⟨w.heap.size + 1 + 1, 1, none⟩ = some (.int .i64 f))
            (first | exact S0.out _ rfl | assumption | exact keep6 (by assumption) (by assumption))
            (first | (go_at_call 50; (with_reducible refine (CM.out _).mono ?_); rintro e' w9 ⟨rfl, bw9⟩) | (go_at_call 50; (with_reducible refine (CN.out _).mono ?_); rintro e' w9 ⟨rfl, bw9⟩))
          all_goals go_wp2
          all_goals go_ret2
          all_goals refine ⟨ret_ii ?_ (by rw [HR.out]), bel_of (by assumption)⟩
          all_goals (rw [HR.out]; first | rfl | omega | (simp; omega))
        · by_cases hk2 : L ≤ A
          · have HR := Lib.hid (HE.out (Or.inr hk2)); clear HE HM
            have hk1 : 0 < (e - c) * (a - c) + (f - d) * (b - d) := by have hal := HAL.out; omega
            have hk2 : L ≤ (e - c) * (a - c) + (f - d) * (b - d) := by have hal := HAL.out; omega
            go_enter Try.func28, Try.ntmps28
            go_wp2_with fail
            have I0 : ∀ W, W = ((w.alloc (.cells #[.int .i64 a, .int .i64 b] 23)).alloc (.cells #[.int .i64 c, .int .i64 d] 23)).alloc (.cells #[.int .i64 e, .int .i64 f] 23) → (W.cell? ⟨w.heap.size, 0, none⟩ = some (.int .i64 a) ∧ W.cell? ⟨w.heap.size, 1, none⟩ = some (.int .i64 b) ∧ W.cell? ⟨w.heap.size + 1, 0, none⟩ = some (.int .i64 c) ∧ W.cell? ⟨w.heap.size + 1, 1, none⟩ = some (.int .i64 d) ∧ W.cell? ⟨w.heap.size + 1 + 1, 0, none⟩ = some (.int .i64 e) ∧ W.cell? ⟨w.heap.size + 1 + 1, 1, none⟩ = some (.int .i64 f)) ∧ Below w.heap.size w W := by
              intro W e; subst e
              refine ⟨⟨by go_simp, by go_simp, by go_simp, by go_simp, by go_simp, by go_simp⟩, ?_⟩
              (repeat (first | exact Below.refl _ _ | (refine Below.alloc ?_ (by first | omega | (simp <;> omega)) _)))
            have J0 := I0 _ rfl; clear I0
            generalize ((w.alloc (.cells #[.int .i64 a, .int .i64 b] 23)).alloc (.cells #[.int .i64 c, .int .i64 d] 23)).alloc (.cells #[.int .i64 e, .int .i64 f] 23) = W0 at J0 ⊢
            obtain ⟨⟨f1, f2, f3, f4, f5, f6⟩, bb0⟩ := J0
            have B0 := Lib.hid bb0; clear bb0
            refine (three_any _ _ _ _ _ _ _).mono ?_; rintro e w1 ⟨rfl, hb⟩; rw [HV.out]
            replace f1 := old hb f1; replace f2 := old hb f2; replace f3 := old hb f3; replace f4 := old hb f4; replace f5 := old hb f5; replace f6 := old hb f6
            have B2_ := Lib.hid (B0.out.trans (hb.mono B0.out.size)); clear hb
            have hz1 : w.heap.size < w1.heap.size := cell_lt f1
            have hz2 : w.heap.size + 1 < w1.heap.size := cell_lt f3
            have hz3 : w.heap.size + 1 + 1 < w1.heap.size := cell_lt f5
            go_wp2_with fail
            refine (CL.out _).mono ?_; rintro e w3 ⟨rfl, hb⟩
            replace f1 := old hb f1; replace f2 := old hb f2; replace f3 := old hb f3; replace f4 := old hb f4; replace f5 := old hb f5; replace f6 := old hb f6
            have B4_ := Lib.hid (B2_.out.trans (hb.mono B2_.out.size)); clear hb
            clear hz1 hz2 hz3
            have hz1 : w.heap.size < w3.heap.size := cell_lt f1
            have hz2 : w.heap.size + 1 < w3.heap.size := cell_lt f3
            have hz3 : w.heap.size + 1 + 1 < w3.heap.size := cell_lt f5
            go_wp2_with fail
            have S0 : Hid (∀ W, W = w3.drew → Below w.heap.size w W ∧ W.cell? ⟨w.heap.size, 0, none⟩ = some (.int .i64 a) ∧ W.cell? ⟨w.heap.size, 1, none⟩ = some (.int .i64 b) ∧ W.cell? ⟨w.heap.size + 1, 0, none⟩ = some (.int .i64 c) ∧ W.cell? ⟨w.heap.size + 1, 1, none⟩ = some (.int .i64 d) ∧ W.cell? ⟨w.heap.size + 1 + 1, 0, none⟩ = some (.int .i64 e) ∧ W.cell? ⟨w.heap.size + 1 + 1, 1, none⟩ = some (.int .i64 f)) := by
              intro W e; subst e
              exact ⟨B4_.out.drew, by go_simp, by go_simp, by go_simp, by go_simp, by go_simp, by go_simp⟩
            go_region_held3 (fun w' => Below w.heap.size w w' ∧ w'.cell? ⟨w.heap.size, 0, none⟩ = some (.int .i64 a) ∧ w'.cell? ⟨w.heap.size, 1, none⟩ = some (.int .i64 b) ∧ w'.cell? ⟨w.heap.size + 1, 0, none⟩ = some (.int .i64 c) ∧ w'.cell? ⟨w.heap.size + 1, 1, none⟩ = some (.int .i64 d) ∧ w'.cell? ⟨w.heap.size + 1 + 1, 0, none⟩ = some (.int .i64 e) ∧ w'.cell? ⟨w.heap.size + 1 + 1, 1, none⟩ = some (.int .i64 f))
              (first | exact S0.out _ rfl | assumption | exact keep6 (by assumption) (by assumption))
              (first | (go_at_call 50; (with_reducible refine (CM.out _).mono ?_); rintro e' w9 ⟨rfl, bw9⟩) | (go_at_call 50; (with_reducible refine (CN.out _).mono ?_); rintro e' w9 ⟨rfl, bw9⟩))
            all_goals go_wp2
            all_goals go_ret2
            all_goals refine ⟨ret_ii ?_ (by rw [HR.out]), bel_of (by assumption)⟩
            all_goals (rw [HR.out]; first | rfl | omega | (simp; omega))
          · have HR := Lib.hid (HM.out (by omega)); clear HE HM
            have hk1 : 0 < (e - c) * (a - c) + (f - d) * (b - d) := by have hal := HAL.out; omega
            have hk2 : (e - c) * (a - c) + (f - d) * (b - d) < L := by have hal := HAL.out; omega
            go_enter Try.func28, Try.ntmps28
            go_wp2_with fail
            have I0 : ∀ W, W = ((w.alloc (.cells #[.int .i64 a, .int .i64 b] 23)).alloc (.cells #[.int .i64 c, .int .i64 d] 23)).alloc (.cells #[.int .i64 e, .int .i64 f] 23) → (W.cell? ⟨w.heap.size, 0, none⟩ = some (.int .i64 a) ∧ W.cell? ⟨w.heap.size, 1, none⟩ = some (.int .i64 b) ∧ W.cell? ⟨w.heap.size + 1, 0, none⟩ = some (.int .i64 c) ∧ W.cell? ⟨w.heap.size + 1, 1, none⟩ = some (.int .i64 d) ∧ W.cell? ⟨w.heap.size + 1 + 1, 0, none⟩ = some (.int .i64 e) ∧ W.cell? ⟨w.heap.size + 1 + 1, 1, none⟩ = some (.int .i64 f)) ∧ Below w.heap.size w W := by
              intro W e; subst e
              refine ⟨⟨by go_simp, by go_simp, by go_simp, by go_simp, by go_simp, by go_simp⟩, ?_⟩
              (repeat (first | exact Below.refl _ _ | (refine Below.alloc ?_ (by first | omega | (simp <;> omega)) _)))
            have J0 := I0 _ rfl; clear I0
            generalize ((w.alloc (.cells #[.int .i64 a, .int .i64 b] 23)).alloc (.cells #[.int .i64 c, .int .i64 d] 23)).alloc (.cells #[.int .i64 e, .int .i64 f] 23) = W0 at J0 ⊢
            obtain ⟨⟨f1, f2, f3, f4, f5, f6⟩, bb0⟩ := J0
            have B0 := Lib.hid bb0; clear bb0
            refine (three_any _ _ _ _ _ _ _).mono ?_; rintro e w1 ⟨rfl, hb⟩; rw [HV.out]
            replace f1 := old hb f1; replace f2 := old hb f2; replace f3 := old hb f3; replace f4 := old hb f4; replace f5 := old hb f5; replace f6 := old hb f6
            have B2_ := Lib.hid (B0.out.trans (hb.mono B0.out.size)); clear hb
            have hz1 : w.heap.size < w1.heap.size := cell_lt f1
            have hz2 : w.heap.size + 1 < w1.heap.size := cell_lt f3
            have hz3 : w.heap.size + 1 + 1 < w1.heap.size := cell_lt f5
            go_wp2_with fail
            refine (CL.out _).mono ?_; rintro e w3 ⟨rfl, hb⟩
            replace f1 := old hb f1; replace f2 := old hb f2; replace f3 := old hb f3; replace f4 := old hb f4; replace f5 := old hb f5; replace f6 := old hb f6
            have B4_ := Lib.hid (B2_.out.trans (hb.mono B2_.out.size)); clear hb
            clear hz1 hz2 hz3
            have hz1 : w.heap.size < w3.heap.size := cell_lt f1
            have hz2 : w.heap.size + 1 < w3.heap.size := cell_lt f3
            have hz3 : w.heap.size + 1 + 1 < w3.heap.size := cell_lt f5
            go_wp2_with fail
            refine (CT.out _).mono ?_; rintro e w5 ⟨rfl, hb⟩
            replace f1 := old hb f1; replace f2 := old hb f2; replace f3 := old hb f3; replace f4 := old hb f4; replace f5 := old hb f5; replace f6 := old hb f6
            have B6_ := Lib.hid (B4_.out.trans (hb.mono B4_.out.size)); clear hb
            clear hz1 hz2 hz3
            have hz1 : w.heap.size < w5.heap.size := cell_lt f1
            have hz2 : w.heap.size + 1 < w5.heap.size := cell_lt f3
            have hz3 : w.heap.size + 1 + 1 < w5.heap.size := cell_lt f5
            go_wp2_with fail
            go_ret2
            exact ⟨ret_ii (by rw [HR.out]) (by rw [HR.out]), B6_.out⟩
      · by_cases hk1 : A ≤ 0
        · have HR := Lib.hid (HE.out (Or.inl hk1)); clear HE HM
          have hk1 : (f - d) * (b - d) ≤ 0 := by have hal := HAL.out; simp only [Int.sub_self, Int.zero_mul, Int.zero_add] at hal; omega
          go_enter Try.func28, Try.ntmps28
          go_wp2_with fail
          have I0 : ∀ W, W = ((w.alloc (.cells #[.int .i64 a, .int .i64 b] 23)).alloc (.cells #[.int .i64 c, .int .i64 d] 23)).alloc (.cells #[.int .i64 c, .int .i64 f] 23) → (W.cell? ⟨w.heap.size, 0, none⟩ = some (.int .i64 a) ∧ W.cell? ⟨w.heap.size, 1, none⟩ = some (.int .i64 b) ∧ W.cell? ⟨w.heap.size + 1, 0, none⟩ = some (.int .i64 c) ∧ W.cell? ⟨w.heap.size + 1, 1, none⟩ = some (.int .i64 d) ∧ W.cell? ⟨w.heap.size + 1 + 1, 0, none⟩ = some (.int .i64 c) ∧ W.cell? ⟨w.heap.size + 1 + 1, 1, none⟩ = some (.int .i64 f)) ∧ Below w.heap.size w W := by
            intro W e; subst e
            refine ⟨⟨by go_simp, by go_simp, by go_simp, by go_simp, by go_simp, by go_simp⟩, ?_⟩
            (repeat (first | exact Below.refl _ _ | (refine Below.alloc ?_ (by first | omega | (simp <;> omega)) _)))
          have J0 := I0 _ rfl; clear I0
          generalize ((w.alloc (.cells #[.int .i64 a, .int .i64 b] 23)).alloc (.cells #[.int .i64 c, .int .i64 d] 23)).alloc (.cells #[.int .i64 c, .int .i64 f] 23) = W0 at J0 ⊢
          obtain ⟨⟨f1, f2, f3, f4, f5, f6⟩, bb0⟩ := J0
          have B0 := Lib.hid bb0; clear bb0
          refine (three_any _ _ _ _ _ _ _).mono ?_; rintro e w1 ⟨rfl, hb⟩; rw [HV.out]
          replace f1 := old hb f1; replace f2 := old hb f2; replace f3 := old hb f3; replace f4 := old hb f4; replace f5 := old hb f5; replace f6 := old hb f6
          have B2_ := Lib.hid (B0.out.trans (hb.mono B0.out.size)); clear hb
          have hz1 : w.heap.size < w1.heap.size := cell_lt f1
          have hz2 : w.heap.size + 1 < w1.heap.size := cell_lt f3
          have hz3 : w.heap.size + 1 + 1 < w1.heap.size := cell_lt f5
          go_wp2_with fail
          refine (CL.out _).mono ?_; rintro e w3 ⟨rfl, hb⟩
          replace f1 := old hb f1; replace f2 := old hb f2; replace f3 := old hb f3; replace f4 := old hb f4; replace f5 := old hb f5; replace f6 := old hb f6
          have B4_ := Lib.hid (B2_.out.trans (hb.mono B2_.out.size)); clear hb
          clear hz1 hz2 hz3
          have hz1 : w.heap.size < w3.heap.size := cell_lt f1
          have hz2 : w.heap.size + 1 < w3.heap.size := cell_lt f3
          have hz3 : w.heap.size + 1 + 1 < w3.heap.size := cell_lt f5
          go_wp2_with fail
          have S0 : Hid (∀ W, W = w3.drew → Below w.heap.size w W ∧ W.cell? ⟨w.heap.size, 0, none⟩ = some (.int .i64 a) ∧ W.cell? ⟨w.heap.size, 1, none⟩ = some (.int .i64 b) ∧ W.cell? ⟨w.heap.size + 1, 0, none⟩ = some (.int .i64 c) ∧ W.cell? ⟨w.heap.size + 1, 1, none⟩ = some (.int .i64 d) ∧ W.cell? ⟨w.heap.size + 1 + 1, 0, none⟩ = some (.int .i64 c) ∧ W.cell? ⟨w.heap.size + 1 + 1, 1, none⟩ = some (.int .i64 f)) := by
            intro W e; subst e
            exact ⟨B4_.out.drew, by go_simp, by go_simp, by go_simp, by go_simp, by go_simp, by go_simp⟩
          go_region_held3 (fun w' => Below w.heap.size w w' ∧ w'.cell? ⟨w.heap.size, 0, none⟩ = some (.int .i64 a) ∧ w'.cell? ⟨w.heap.size, 1, none⟩ = some (.int .i64 b) ∧ w'.cell? ⟨w.heap.size + 1, 0, none⟩ = some (.int .i64 c) ∧ w'.cell? ⟨w.heap.size + 1, 1, none⟩ = some (.int .i64 d) ∧ w'.cell? ⟨w.heap.size + 1 + 1, 0, none⟩ = some (.int .i64 c) ∧ w'.cell? ⟨w.heap.size + 1 + 1, 1, none⟩ = some (.int .i64 f))
            (first | exact S0.out _ rfl | assumption | exact keep6 (by assumption) (by assumption))
            (first | (go_at_call 50; (with_reducible refine (CM.out _).mono ?_); rintro e' w9 ⟨rfl, bw9⟩) | (go_at_call 50; (with_reducible refine (CN.out _).mono ?_); rintro e' w9 ⟨rfl, bw9⟩))
          all_goals go_wp2
          all_goals go_ret2
          all_goals refine ⟨ret_ii ?_ (by rw [HR.out]), bel_of (by assumption)⟩
          all_goals (rw [HR.out]; first | rfl | omega | (simp; omega))
        · by_cases hk2 : L ≤ A
          · have HR := Lib.hid (HE.out (Or.inr hk2)); clear HE HM
            have hk1 : 0 < (f - d) * (b - d) := by have hal := HAL.out; simp only [Int.sub_self, Int.zero_mul, Int.zero_add] at hal; omega
            have hk2 : L ≤ (f - d) * (b - d) := by have hal := HAL.out; simp only [Int.sub_self, Int.zero_mul, Int.zero_add] at hal; omega
            go_enter Try.func28, Try.ntmps28
            go_wp2_with fail
            have I0 : ∀ W, W = ((w.alloc (.cells #[.int .i64 a, .int .i64 b] 23)).alloc (.cells #[.int .i64 c, .int .i64 d] 23)).alloc (.cells #[.int .i64 c, .int .i64 f] 23) → (W.cell? ⟨w.heap.size, 0, none⟩ = some (.int .i64 a) ∧ W.cell? ⟨w.heap.size, 1, none⟩ = some (.int .i64 b) ∧ W.cell? ⟨w.heap.size + 1, 0, none⟩ = some (.int .i64 c) ∧ W.cell? ⟨w.heap.size + 1, 1, none⟩ = some (.int .i64 d) ∧ W.cell? ⟨w.heap.size + 1 + 1, 0, none⟩ = some (.int .i64 c) ∧ W.cell? ⟨w.heap.size + 1 + 1, 1, none⟩ = some (.int .i64 f)) ∧ Below w.heap.size w W := by
              intro W e; subst e
              refine ⟨⟨by go_simp, by go_simp, by go_simp, by go_simp, by go_simp, by go_simp⟩, ?_⟩
              (repeat (first | exact Below.refl _ _ | (refine Below.alloc ?_ (by first | omega | (simp <;> omega)) _)))
            have J0 := I0 _ rfl; clear I0
            generalize ((w.alloc (.cells #[.int .i64 a, .int .i64 b] 23)).alloc (.cells #[.int .i64 c, .int .i64 d] 23)).alloc (.cells #[.int .i64 c, .int .i64 f] 23) = W0 at J0 ⊢
            obtain ⟨⟨f1, f2, f3, f4, f5, f6⟩, bb0⟩ := J0
            have B0 := Lib.hid bb0; clear bb0
            refine (three_any _ _ _ _ _ _ _).mono ?_; rintro e w1 ⟨rfl, hb⟩; rw [HV.out]
            replace f1 := old hb f1; replace f2 := old hb f2; replace f3 := old hb f3; replace f4 := old hb f4; replace f5 := old hb f5; replace f6 := old hb f6
            have B2_ := Lib.hid (B0.out.trans (hb.mono B0.out.size)); clear hb
            have hz1 : w.heap.size < w1.heap.size := cell_lt f1
            have hz2 : w.heap.size + 1 < w1.heap.size := cell_lt f3
            have hz3 : w.heap.size + 1 + 1 < w1.heap.size := cell_lt f5
            go_wp2_with fail
            refine (CL.out _).mono ?_; rintro e w3 ⟨rfl, hb⟩
            replace f1 := old hb f1; replace f2 := old hb f2; replace f3 := old hb f3; replace f4 := old hb f4; replace f5 := old hb f5; replace f6 := old hb f6
            have B4_ := Lib.hid (B2_.out.trans (hb.mono B2_.out.size)); clear hb
            clear hz1 hz2 hz3
            have hz1 : w.heap.size < w3.heap.size := cell_lt f1
            have hz2 : w.heap.size + 1 < w3.heap.size := cell_lt f3
            have hz3 : w.heap.size + 1 + 1 < w3.heap.size := cell_lt f5
            go_wp2_with fail
            have S0 : Hid (∀ W, W = w3.drew → Below w.heap.size w W ∧ W.cell? ⟨w.heap.size, 0, none⟩ = some (.int .i64 a) ∧ W.cell? ⟨w.heap.size, 1, none⟩ = some (.int .i64 b) ∧ W.cell? ⟨w.heap.size + 1, 0, none⟩ = some (.int .i64 c) ∧ W.cell? ⟨w.heap.size + 1, 1, none⟩ = some (.int .i64 d) ∧ W.cell? ⟨w.heap.size + 1 + 1, 0, none⟩ = some (.int .i64 c) ∧ W.cell? ⟨w.heap.size + 1 + 1, 1, none⟩ = some (.int .i64 f)) := by
              intro W e; subst e
              exact ⟨B4_.out.drew, by go_simp, by go_simp, by go_simp, by go_simp, by go_simp, by go_simp⟩
            go_region_held3 (fun w' => Below w.heap.size w w' ∧ w'.cell? ⟨w.heap.size, 0, none⟩ = some (.int .i64 a) ∧ w'.cell? ⟨w.heap.size, 1, none⟩ = some (.int .i64 b) ∧ w'.cell? ⟨w.heap.size + 1, 0, none⟩ = some (.int .i64 c) ∧ w'.cell? ⟨w.heap.size + 1, 1, none⟩ = some (.int .i64 d) ∧ w'.cell? ⟨w.heap.size + 1 + 1, 0, none⟩ = some (.int .i64 c) ∧ w'.cell? ⟨w.heap.size + 1 + 1, 1, none⟩ = some (.int .i64 f))
              (first | exact S0.out _ rfl | assumption | exact keep6 (by assumption) (by assumption))
              (first | (go_at_call 50; (with_reducible refine (CM.out _).mono ?_); rintro e' w9 ⟨rfl, bw9⟩) | (go_at_call 50; (with_reducible refine (CN.out _).mono ?_); rintro e' w9 ⟨rfl, bw9⟩))
            all_goals go_wp2
            all_goals go_ret2
            all_goals refine ⟨ret_ii ?_ (by rw [HR.out]), bel_of (by assumption)⟩
            all_goals (rw [HR.out]; first | rfl | omega | (simp; omega))
          · have HR := Lib.hid (HM.out (by omega)); clear HE HM
            have hk1 : 0 < (f - d) * (b - d) := by have hal := HAL.out; simp only [Int.sub_self, Int.zero_mul, Int.zero_add] at hal; omega
            have hk2 : (f - d) * (b - d) < L := by have hal := HAL.out; simp only [Int.sub_self, Int.zero_mul, Int.zero_add] at hal; omega
            go_enter Try.func28, Try.ntmps28
            go_wp2_with fail
            have I0 : ∀ W, W = ((w.alloc (.cells #[.int .i64 a, .int .i64 b] 23)).alloc (.cells #[.int .i64 c, .int .i64 d] 23)).alloc (.cells #[.int .i64 c, .int .i64 f] 23) → (W.cell? ⟨w.heap.size, 0, none⟩ = some (.int .i64 a) ∧ W.cell? ⟨w.heap.size, 1, none⟩ = some (.int .i64 b) ∧ W.cell? ⟨w.heap.size + 1, 0, none⟩ = some (.int .i64 c) ∧ W.cell? ⟨w.heap.size + 1, 1, none⟩ = some (.int .i64 d) ∧ W.cell? ⟨w.heap.size + 1 + 1, 0, none⟩ = some (.int .i64 c) ∧ W.cell? ⟨w.heap.size + 1 + 1, 1, none⟩ = some (.int .i64 f)) ∧ Below w.heap.size w W := by
              intro W e; subst e
              refine ⟨⟨by go_simp, by go_simp, by go_simp, by go_simp, by go_simp, by go_simp⟩, ?_⟩
              (repeat (first | exact Below.refl _ _ | (refine Below.alloc ?_ (by first | omega | (simp <;> omega)) _)))
            have J0 := I0 _ rfl; clear I0
            generalize ((w.alloc (.cells #[.int .i64 a, .int .i64 b] 23)).alloc (.cells #[.int .i64 c, .int .i64 d] 23)).alloc (.cells #[.int .i64 c, .int .i64 f] 23) = W0 at J0 ⊢
            obtain ⟨⟨f1, f2, f3, f4, f5, f6⟩, bb0⟩ := J0
            have B0 := Lib.hid bb0; clear bb0
            refine (three_any _ _ _ _ _ _ _).mono ?_; rintro e w1 ⟨rfl, hb⟩; rw [HV.out]
            replace f1 := old hb f1; replace f2 := old hb f2; replace f3 := old hb f3; replace f4 := old hb f4; replace f5 := old hb f5; replace f6 := old hb f6
            have B2_ := Lib.hid (B0.out.trans (hb.mono B0.out.size)); clear hb
            have hz1 : w.heap.size < w1.heap.size := cell_lt f1
            have hz2 : w.heap.size + 1 < w1.heap.size := cell_lt f3
            have hz3 : w.heap.size + 1 + 1 < w1.heap.size := cell_lt f5
            go_wp2_with fail
            refine (CL.out _).mono ?_; rintro e w3 ⟨rfl, hb⟩
            replace f1 := old hb f1; replace f2 := old hb f2; replace f3 := old hb f3; replace f4 := old hb f4; replace f5 := old hb f5; replace f6 := old hb f6
            have B4_ := Lib.hid (B2_.out.trans (hb.mono B2_.out.size)); clear hb
            clear hz1 hz2 hz3
            have hz1 : w.heap.size < w3.heap.size := cell_lt f1
            have hz2 : w.heap.size + 1 < w3.heap.size := cell_lt f3
            have hz3 : w.heap.size + 1 + 1 < w3.heap.size := cell_lt f5
            go_wp2_with fail
            refine (CT.out _).mono ?_; rintro e w5 ⟨rfl, hb⟩
            replace f1 := old hb f1; replace f2 := old hb f2; replace f3 := old hb f3; replace f4 := old hb f4; replace f5 := old hb f5; replace f6 := old hb f6
            have B6_ := Lib.hid (B4_.out.trans (hb.mono B4_.out.size)); clear hb
            clear hz1 hz2 hz3
            have hz1 : w.heap.size < w5.heap.size := cell_lt f1
            have hz2 : w.heap.size + 1 < w5.heap.size := cell_lt f3
            have hz3 : w.heap.size + 1 + 1 < w5.heap.size := cell_lt f5
            go_wp2_with fail
            go_ret2
            exact ⟨ret_ii (by rw [HR.out]) (by rw [HR.out]), B6_.out⟩
theorem nrr_any (n d m e : Int) (w : World) (hn : I64 n) (hd : I64 d) (hm : I64 m) (he : I64 e) : Calls Try.prog 30 #[.int .i64 n, .int .i64 d, .int .i64 m, .int .i64 e] w fun e' w' => e' = .returned (.int .i64 (nrZ n d m e)) ∧ w = w' := by
  have CC := Lib.hid (fun W => cmpmulr_any n e m d W hn he hm hd)
  clear hn hd hm he
  by_cases h : n < 0 ∨ d ≤ 0 ∨ m < 0 ∨ e ≤ 0
  · have HR := Lib.hid (show nrZ n d m e = 0 by unfold nrZ; rw [if_pos h])
    rcases (show n < 0 ∨ (0 ≤ n ∧ m < 0) ∨ (0 ≤ n ∧ 0 ≤ m ∧ d ≤ 0) ∨ (0 ≤ n ∧ 0 < d ∧ 0 ≤ m ∧ e ≤ 0) by omega) with k | ⟨k0, k⟩ | ⟨k0, k1, k⟩ | ⟨k0, k1, k2, k⟩
    all_goals
      clear h CC
      go_enter Try.func30, Try.ntmps30
      go_wp2
      go_ret
      exact ⟨ret_i64 (by rw [HR.out]), rfl⟩
  · have HR := Lib.hid (show nrZ n d m e = cmpZ n e m d by unfold nrZ; rw [if_neg h])
    obtain ⟨k0, k1, k2, k3⟩ : 0 ≤ n ∧ 0 < d ∧ 0 ≤ m ∧ 0 < e := by omega
    clear h
    go_enter Try.func30, Try.ntmps30
    go_wp2_with fail
    refine (CC.out _).mono ?_; rintro e' w1 ⟨rfl, rfl⟩
    go_wp2_with fail
    go_ret
    exact ⟨ret_i64 (by rw [HR.out]), rfl⟩
set_option maxRecDepth 100000 in
set_option maxHeartbeats 4000000 in
theorem segFars_walk (vp va vb : Value) (n dd m ee : Int) (w : World) (hp : IsPt vp) (ha : IsPt va) (hb : IsPt vb) (hn : I64 n) (hd : I64 dd) (hm : I64 m) (he : I64 ee) :
    Calls Try.prog 5 #[vp, va, vb, .int .i64 n, .int .i64 dd, .int .i64 m, .int .i64 ee] w fun e w' => e = .returned (.bool true) ∧ Below w.heap.size w w' := by
  obtain ⟨a, b, rfl, _, _⟩ := hp
  obtain ⟨c, d, rfl, _, _⟩ := ha
  obtain ⟨e, f, rfl, _, _⟩ := hb
  have C1 := Lib.hid (fun W => nr_any n dd m ee W hn hd hm he)
  have C2 := Lib.hid (fun W => nrr_any n dd m ee W hn hd hm he)
  generalize nrZ n dd m ee = r at *
  have CF := Lib.hid (fun W => far_any a b c d e f W)
  have CG := Lib.hid (fun W => farr_any a b c d e f W)
  obtain ⟨x1, x2, x3, x4⟩ := farQ_bd a b c d e f
  have C3 := Lib.hid (fun W => nr_any (farQ a b c d e f).1 (farQ a b c d e f).2 n dd W ⟨by omega, by omega⟩ ⟨by omega, by omega⟩ hn hd)
  have C4 := Lib.hid (fun W => nrr_any (farQ a b c d e f).1 (farQ a b c d e f).2 n dd W ⟨by omega, by omega⟩ ⟨by omega, by omega⟩ hn hd)
  generalize nrZ (farQ a b c d e f).1 (farQ a b c d e f).2 n dd = s at *
  generalize (farQ a b c d e f).1 = X at *
  generalize (farQ a b c d e f).2 = Y at *
  clear hn hd hm he
  go_enter Try.func5, Try.ntmps5
  go_wp2_with fail
  have I0 : ∀ W, W = ((w.alloc (.cells #[.int .i64 a, .int .i64 b] 23)).alloc (.cells #[.int .i64 c, .int .i64 d] 23)).alloc (.cells #[.int .i64 e, .int .i64 f] 23) → (W.cell? ⟨w.heap.size, 0, none⟩ = some (.int .i64 a) ∧ W.cell? ⟨w.heap.size, 1, none⟩ = some (.int .i64 b) ∧ W.cell? ⟨w.heap.size + 1, 0, none⟩ = some (.int .i64 c) ∧ W.cell? ⟨w.heap.size + 1, 1, none⟩ = some (.int .i64 d) ∧ W.cell? ⟨w.heap.size + 1 + 1, 0, none⟩ = some (.int .i64 e) ∧ W.cell? ⟨w.heap.size + 1 + 1, 1, none⟩ = some (.int .i64 f)) ∧ Below w.heap.size w W := by
    intro W e; subst e
    refine ⟨⟨by go_simp, by go_simp, by go_simp, by go_simp, by go_simp, by go_simp⟩, ?_⟩
    (repeat (first | exact Below.refl _ _ | (refine Below.alloc ?_ (by first | omega | (simp <;> omega)) _)))
  have J0 := I0 _ rfl; clear I0
  generalize ((w.alloc (.cells #[.int .i64 a, .int .i64 b] 23)).alloc (.cells #[.int .i64 c, .int .i64 d] 23)).alloc (.cells #[.int .i64 e, .int .i64 f] 23) = W0 at J0 ⊢
  obtain ⟨⟨f1, f2, f3, f4, f5, f6⟩, bb0⟩ := J0
  have B0 := Lib.hid bb0; clear bb0
  refine (CF.out _).mono ?_; rintro e w1 ⟨rfl, hb⟩
  replace f1 := old hb f1; replace f2 := old hb f2; replace f3 := old hb f3; replace f4 := old hb f4; replace f5 := old hb f5; replace f6 := old hb f6
  have B2_ := Lib.hid (B0.out.trans (hb.mono B0.out.size)); clear hb
  have hz1 : w.heap.size < w1.heap.size := cell_lt f1
  have hz2 : w.heap.size + 1 < w1.heap.size := cell_lt f3
  have hz3 : w.heap.size + 1 + 1 < w1.heap.size := cell_lt f5
  go_wp2_with fail
  refine (CG.out _).mono ?_; rintro e w3 ⟨rfl, hb⟩
  replace f1 := old hb f1; replace f2 := old hb f2; replace f3 := old hb f3; replace f4 := old hb f4; replace f5 := old hb f5; replace f6 := old hb f6
  have B4_ := Lib.hid (B2_.out.trans (hb.mono B2_.out.size)); clear hb
  clear hz1 hz2 hz3
  have hz1 : w.heap.size < w3.heap.size := cell_lt f1
  have hz2 : w.heap.size + 1 < w3.heap.size := cell_lt f3
  have hz3 : w.heap.size + 1 + 1 < w3.heap.size := cell_lt f5
  go_wp2_with fail
  refine (C1.out _).mono ?_; rintro e w5 ⟨rfl, hb⟩
  replace f1 := old hb f1; replace f2 := old hb f2; replace f3 := old hb f3; replace f4 := old hb f4; replace f5 := old hb f5; replace f6 := old hb f6
  have B6_ := Lib.hid (B4_.out.trans (hb.mono B4_.out.size)); clear hb
  clear hz1 hz2 hz3
  have hz1 : w.heap.size < w5.heap.size := cell_lt f1
  have hz2 : w.heap.size + 1 < w5.heap.size := cell_lt f3
  have hz3 : w.heap.size + 1 + 1 < w5.heap.size := cell_lt f5
  go_wp2_with fail
  refine (C2.out _).mono ?_; rintro e w7 ⟨rfl, rfl⟩
  go_wp2_with fail
  refine (C3.out _).mono ?_; rintro e w8 ⟨rfl, hb⟩
  replace f1 := old hb f1; replace f2 := old hb f2; replace f3 := old hb f3; replace f4 := old hb f4; replace f5 := old hb f5; replace f6 := old hb f6
  have B9_ := Lib.hid (B6_.out.trans (hb.mono B6_.out.size)); clear hb
  clear hz1 hz2 hz3
  have hz1 : w.heap.size < w8.heap.size := cell_lt f1
  have hz2 : w.heap.size + 1 < w8.heap.size := cell_lt f3
  have hz3 : w.heap.size + 1 + 1 < w8.heap.size := cell_lt f5
  go_wp2_with fail
  refine (C4.out _).mono ?_; rintro e w10 ⟨rfl, rfl⟩
  go_wp2_with fail
  refine (lives_any _).mono ?_; rintro e w11 ⟨rfl, hb⟩
  replace f1 := old hb f1; replace f2 := old hb f2; replace f3 := old hb f3; replace f4 := old hb f4; replace f5 := old hb f5; replace f6 := old hb f6
  have B12_ := Lib.hid (B9_.out.trans (hb.mono B9_.out.size)); clear hb
  clear hz1 hz2 hz3
  have hz1 : w.heap.size < w11.heap.size := cell_lt f1
  have hz2 : w.heap.size + 1 < w11.heap.size := cell_lt f3
  have hz3 : w.heap.size + 1 + 1 < w11.heap.size := cell_lt f5
  go_wp2_with fail
  go_ret
  exact ⟨rfl, B12_.out⟩
end Go.Proofs.Ytlcbmikcjgidjaa
