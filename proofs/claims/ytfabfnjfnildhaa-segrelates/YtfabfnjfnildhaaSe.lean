/- seg: distance2, Far, Nearer. -/
import Derived.Test.YtfabfnjfnildhaaSd
import Derived.Test.YtfabfnjfnildhaaNc
namespace Go.Proofs.Ytfabfnjfnildhaa
open Go.ChangeShapes Go.WideShapes Go.ChangeAt Go.RowKit Go.Joins Go.Deep

theorem at_any (x y : Int) (w : World) : Calls Try.prog 43 #[.int .i64 x, .int .i64 y] w fun e' w' => e' = .returned (pt x y) ∧ Below w.heap.size w w' := by
  go_enter Try.func43, Try.ntmps43
  go_wp2
  refine bodyPost_ret (v := pt x y) (by simp [results, Try.results43, go_sem]) rfl ⟨rfl, ?_⟩
  (repeat (first | exact Below.refl _ _ | (refine Below.drew ?_) | (refine below_drewN ?_ _) | (refine Below.alloc ?_ (by first | omega | (simp <;> omega)) _) | (refine Below.setCell ?_ (by first | omega | (simp <;> omega)) _) | (refine Below.trans ?_ (Below.mono (by assumption) (by first | omega | (simp <;> omega))))))
def d2 (a b c d : Int) : Int := (a - c) * (a - c) + (b - d) * (b - d)
def InG (a b : Int) : Prop := 0 ≤ a ∧ a ≤ 32767 ∧ 0 ≤ b ∧ b ≤ 32767
theorem sqb {x : Int} (h0 : -32767 ≤ x) (h1 : x ≤ 32767) : 0 ≤ x * x ∧ x * x ≤ 1073676289 := by
  refine ⟨?_, (mulb h0 h1 h0 h1).2⟩
  by_cases h : 0 ≤ x
  · exact Int.mul_nonneg h h
  · have := Int.mul_nonneg (show 0 ≤ -x by omega) (show 0 ≤ -x by omega)
    rw [Int.neg_mul_neg] at this; exact this
theorem d2_bd {a b c d : Int} (h : InG a b) (k : InG c d) : 0 ≤ d2 a b c d ∧ d2 a b c d ≤ 2147352578 := by
  obtain ⟨h1, h2, h3, h4⟩ := h
  obtain ⟨k1, k2, k3, k4⟩ := k
  have p := sqb (x := a - c) (by omega) (by omega)
  have q := sqb (x := b - d) (by omega) (by omega)
  unfold d2; omega
set_option maxHeartbeats 2000000 in
theorem dist_any (a b c d : Int) (w : World) (h : InG a b) (k : InG c d) : Calls Try.prog 49 #[pt a b, pt c d] w fun e' w' => e' = .returned (.int .i64 (d2 a b c d)) ∧ Below w.heap.size w w' := by
  obtain ⟨h1, h2, h3, h4⟩ := h
  obtain ⟨k1, k2, k3, k4⟩ := k
  obtain ⟨p1, p2⟩ := sqb (x := a - c) (by omega) (by omega)
  obtain ⟨q1, q2⟩ := sqb (x := b - d) (by omega) (by omega)
  have x1 := Lib.hid (IntWalk.i64_in (a - c) (by omega))
  have x2 := Lib.hid (IntWalk.i64_in (b - d) (by omega))
  go_enter Try.func49, Try.ntmps49
  go_wp2_with fail
  have y1 := x1.out; have y2 := x2.out
  go_quiet (fail)
  clear y1 y2
  go_wp2
  go_ret
  refine ⟨ret_i64 rfl, ?_⟩
  (repeat (first | exact Below.refl _ _ | (refine Below.drew ?_) | (refine below_drewN ?_ _) | (refine Below.alloc ?_ (by first | omega | (simp <;> omega)) _) | (refine Below.setCell ?_ (by first | omega | (simp <;> omega)) _) | (refine Below.trans ?_ (Below.mono (by assumption) (by first | omega | (simp <;> omega))))))
def al (a b c d e f : Int) : Int := (e - c) * (a - c) + (f - d) * (b - d)
def farQ (a b c d e f : Int) : Int × Int := if v3 a b c d e f = true then (if al a b c d e f ≤ 0 ∨ d2 c d e f ≤ al a b c d e f then (min (d2 a b c d) (d2 a b e f), 1) else (trn c d e f a b * trn c d e f a b, d2 c d e f)) else (0, 0)
theorem farQ_no {a b c d e f : Int} (h : v3 a b c d e f = false) : farQ a b c d e f = (0, 0) := by unfold farQ; rw [if_neg (by rw [h]; simp)]
theorem farQ_end {a b c d e f : Int} (h : v3 a b c d e f = true) (k : al a b c d e f ≤ 0 ∨ d2 c d e f ≤ al a b c d e f) : farQ a b c d e f = (min (d2 a b c d) (d2 a b e f), 1) := by unfold farQ; rw [if_pos h, if_pos k]
theorem farQ_mid {a b c d e f : Int} (h : v3 a b c d e f = true) (k : ¬ (al a b c d e f ≤ 0 ∨ d2 c d e f ≤ al a b c d e f)) : farQ a b c d e f = (trn c d e f a b * trn c d e f a b, d2 c d e f) := by unfold farQ; rw [if_pos h, if_neg k]
theorem ret_ii {a b c d : Int} (h : a = c) (k : b = d) : Ending.returned (.tuple #[.int .i64 a, .int .i64 b]) = .returned (.tuple #[.int .i64 c, .int .i64 d]) := by rw [h, k]
theorem trn_bd (a b c d e f : Int) : -2147352578 ≤ trn a b c d e f ∧ trn a b c d e f ≤ 2147352578 := by
  unfold trn; split
  · rename_i hv
    obtain ⟨⟨a0, a1, b0, b1⟩, ⟨c0, c1, d0, d1⟩, ⟨e0, e1, f0, f1⟩⟩ := v3_bd hv
    have m1 := mulb (x := c - a) (y := f - b) (by omega) (by omega) (by omega) (by omega)
    have m2 := mulb (x := d - b) (y := e - a) (by omega) (by omega) (by omega) (by omega)
    unfold tr; omega
  · omega
theorem sqt {t : Int} (h0 : -2147352578 ≤ t) (h1 : t ≤ 2147352578) : 0 ≤ t * t ∧ t * t ≤ 4611123094243246084 := by
  constructor
  · by_cases h : 0 ≤ t
    · exact Int.mul_nonneg h h
    · have := Int.mul_nonneg (show 0 ≤ -t by omega) (show 0 ≤ -t by omega)
      rw [Int.neg_mul_neg] at this; exact this
  · have e1 : 0 ≤ (2147352578 - t) * (2147352578 + t) := Int.mul_nonneg (by omega) (by omega)
    have e2 : (2147352578 - t) * (2147352578 + t) = 4611123094243246084 - t * t := by grind
    omega
set_option maxRecDepth 100000 in
set_option maxHeartbeats 4000000 in
theorem far_any (a b c d e f : Int) (w : World) : Calls Try.prog 27 #[pt a b, pt c d, pt e f] w fun e' w' => e' = .returned (.tuple #[.int .i64 (farQ a b c d e f).1, .int .i64 (farQ a b c d e f).2]) ∧ Below w.heap.size w w' := by
  cases hv : v3 a b c d e f
  · have HR := Lib.hid (farQ_no hv)
    have HV := Lib.hid hv; clear hv
    go_enter Try.func27, Try.ntmps27
    go_wp2_with fail
    have HSZ := Lib.hid (show (((w.alloc (.cells #[.int .i64 a, .int .i64 b] 23)).alloc (.cells #[.int .i64 c, .int .i64 d] 23)).alloc (.cells #[.int .i64 e, .int .i64 f] 23)).heap.size = w.heap.size + 1 + 1 + 1 by simp)
    have I0 : ∀ W, W = ((w.alloc (.cells #[.int .i64 a, .int .i64 b] 23)).alloc (.cells #[.int .i64 c, .int .i64 d] 23)).alloc (.cells #[.int .i64 e, .int .i64 f] 23) → (W.cell? ⟨w.heap.size, 0, none⟩ = some (.int .i64 a) ∧ W.cell? ⟨w.heap.size, 1, none⟩ = some (.int .i64 b) ∧ W.cell? ⟨w.heap.size + 1, 0, none⟩ = some (.int .i64 c) ∧ W.cell? ⟨w.heap.size + 1, 1, none⟩ = some (.int .i64 d) ∧ W.cell? ⟨w.heap.size + 1 + 1, 0, none⟩ = some (.int .i64 e) ∧ W.cell? ⟨w.heap.size + 1 + 1, 1, none⟩ = some (.int .i64 f)) ∧ Below w.heap.size w W := by
      intro W e; subst e
      refine ⟨⟨by go_simp, by go_simp, by go_simp, by go_simp, by go_simp, by go_simp⟩, ?_⟩
      (repeat (first | exact Below.refl _ _ | (refine Below.alloc ?_ (by first | omega | (simp <;> omega)) _)))
    have J0 := I0 _ rfl; clear I0
    generalize ((w.alloc (.cells #[.int .i64 a, .int .i64 b] 23)).alloc (.cells #[.int .i64 c, .int .i64 d] 23)).alloc (.cells #[.int .i64 e, .int .i64 f] 23) = W0 at J0 HSZ ⊢
    obtain ⟨⟨f1, f2, f3, f4, f5, f6⟩, bb0⟩ := J0
    have B0 := Lib.hid bb0; clear bb0
    refine (all_any _ _ _ [(a, b), (c, d), (e, f)] _ (pts3 _ _ _ _ _ _ _ _ _ HSZ.out) (by omega)).mono ?_; rintro e' w1 ⟨rfl, hb'⟩; rw [allV3, HV.out]
    have hb := ((Below.refl _ _).alloc (Nat.le_refl _) _).trans (hb'.mono (by simp)); clear hb' HSZ
    replace f1 := old hb f1; replace f2 := old hb f2; replace f3 := old hb f3; replace f4 := old hb f4; replace f5 := old hb f5; replace f6 := old hb f6
    have B2_ := Lib.hid (B0.out.trans (hb.mono B0.out.size)); clear hb
    have hz1 : w.heap.size < w1.heap.size := cell_lt f1
    have hz2 : w.heap.size + 1 < w1.heap.size := cell_lt f3
    have hz3 : w.heap.size + 1 + 1 < w1.heap.size := cell_lt f5
    go_wp2_with fail
    go_ret2
    exact ⟨ret_ii (by rw [HR.out]) (by rw [HR.out]), B2_.out⟩
  · obtain ⟨⟨a0, a1, b0', b1⟩, ⟨c0, c1, d0, d1⟩, ⟨e0, e1, f0', f1'⟩⟩ := v3_bd hv
    have CL := Lib.hid (fun W => dist_any c d e f W ⟨c0, c1, d0, d1⟩ ⟨e0, e1, f0', f1'⟩)
    have CM := Lib.hid (fun W => dist_any a b c d W ⟨a0, a1, b0', b1⟩ ⟨c0, c1, d0, d1⟩)
    have CN := Lib.hid (fun W => dist_any a b e f W ⟨a0, a1, b0', b1⟩ ⟨e0, e1, f0', f1'⟩)
    have CT := Lib.hid (fun W => turn_any c d e f a b W)
    obtain ⟨l1, l2⟩ := d2_bd (a := c) (b := d) (c := e) (d := f) ⟨c0, c1, d0, d1⟩ ⟨e0, e1, f0', f1'⟩
    obtain ⟨t1, t2⟩ := trn_bd c d e f a b
    have t3 := sqt t1 t2
    have HE := Lib.hid (fun k => farQ_end hv k)
    have HM := Lib.hid (fun k => farQ_mid hv k)
    have HAL : Hid (al a b c d e f = (e - c) * (a - c) + (f - d) * (b - d)) := rfl
    have HV := Lib.hid hv; clear hv
    obtain ⟨m1, m2⟩ := mulb (x := e - c) (y := a - c) (by omega) (by omega) (by omega) (by omega)
    obtain ⟨m3, m4⟩ := mulb (x := f - d) (y := b - d) (by omega) (by omega) (by omega) (by omega)
    generalize d2 c d e f = L at *
    generalize d2 a b c d = M at *
    generalize d2 a b e f = O at *
    generalize trn c d e f a b = T at *
    obtain ⟨t3a, t3b⟩ := t3
    generalize farQ a b c d e f = Q at *
    generalize al a b c d e f = A at *
    by_cases hk1 : A ≤ 0
    · have HR := Lib.hid (HE.out (Or.inl hk1)); clear HE HM
      have hk1 : (e - c) * (a - c) + (f - d) * (b - d) ≤ 0 := by have := HAL.out; omega
      go_enter Try.func27, Try.ntmps27
      go_wp2_with fail
      have HSZ := Lib.hid (show (((w.alloc (.cells #[.int .i64 a, .int .i64 b] 23)).alloc (.cells #[.int .i64 c, .int .i64 d] 23)).alloc (.cells #[.int .i64 e, .int .i64 f] 23)).heap.size = w.heap.size + 1 + 1 + 1 by simp)
      have I0 : ∀ W, W = ((w.alloc (.cells #[.int .i64 a, .int .i64 b] 23)).alloc (.cells #[.int .i64 c, .int .i64 d] 23)).alloc (.cells #[.int .i64 e, .int .i64 f] 23) → (W.cell? ⟨w.heap.size, 0, none⟩ = some (.int .i64 a) ∧ W.cell? ⟨w.heap.size, 1, none⟩ = some (.int .i64 b) ∧ W.cell? ⟨w.heap.size + 1, 0, none⟩ = some (.int .i64 c) ∧ W.cell? ⟨w.heap.size + 1, 1, none⟩ = some (.int .i64 d) ∧ W.cell? ⟨w.heap.size + 1 + 1, 0, none⟩ = some (.int .i64 e) ∧ W.cell? ⟨w.heap.size + 1 + 1, 1, none⟩ = some (.int .i64 f)) ∧ Below w.heap.size w W := by
        intro W e; subst e
        refine ⟨⟨by go_simp, by go_simp, by go_simp, by go_simp, by go_simp, by go_simp⟩, ?_⟩
        (repeat (first | exact Below.refl _ _ | (refine Below.alloc ?_ (by first | omega | (simp <;> omega)) _)))
      have J0 := I0 _ rfl; clear I0
      generalize ((w.alloc (.cells #[.int .i64 a, .int .i64 b] 23)).alloc (.cells #[.int .i64 c, .int .i64 d] 23)).alloc (.cells #[.int .i64 e, .int .i64 f] 23) = W0 at J0 HSZ ⊢
      obtain ⟨⟨f1, f2, f3, f4, f5, f6⟩, bb0⟩ := J0
      have B0 := Lib.hid bb0; clear bb0
      refine (all_any _ _ _ [(a, b), (c, d), (e, f)] _ (pts3 _ _ _ _ _ _ _ _ _ HSZ.out) (by omega)).mono ?_; rintro e' w1 ⟨rfl, hb'⟩; rw [allV3, HV.out]
      have hb := ((Below.refl _ _).alloc (Nat.le_refl _) _).trans (hb'.mono (by simp)); clear hb' HSZ
      replace f1 := old hb f1; replace f2 := old hb f2; replace f3 := old hb f3; replace f4 := old hb f4; replace f5 := old hb f5; replace f6 := old hb f6
      have B2_ := Lib.hid (B0.out.trans (hb.mono B0.out.size)); clear hb
      have hz1 : w.heap.size < w1.heap.size := cell_lt f1
      have hz2 : w.heap.size + 1 < w1.heap.size := cell_lt f3
      have hz3 : w.heap.size + 1 + 1 < w1.heap.size := cell_lt f5
      go_wp2_with fail
      refine (CL.out _).mono ?_; rintro e w3 ⟨rfl, hb⟩
      replace f1 := old hb f1; replace f2 := old hb f2; replace f3 := old hb f3; replace f4 := old hb f4; replace f5 := old hb f5; replace f6 := old hb f6
      have B4_ := Lib.hid (B2_.out.trans (hb.mono B2_.out.size)); clear hb
      clear hz1 hz2 hz3
      have hz1 : w.heap.size < w3.heap.size := cell_lt f1
      have hz2 : w.heap.size + 1 < w3.heap.size := cell_lt f3
      have hz3 : w.heap.size + 1 + 1 < w3.heap.size := cell_lt f5
      go_wp2_with fail
      have S0 : Hid (∀ W, W = w3.drew → Below w.heap.size w W ∧ W.cell? ⟨w.heap.size, 0, none⟩ = some (.int .i64 a) ∧ W.cell? ⟨w.heap.size, 1, none⟩ = some (.int .i64 b) ∧ W.cell? ⟨w.heap.size + 1, 0, none⟩ = some (.int .i64 c) ∧ W.cell? ⟨w.heap.size + 1, 1, none⟩ = some (.int .i64 d) ∧ W.cell? ⟨w.heap.size + 1 + 1, 0, none⟩ = some (.int .i64 e) ∧ W.cell? ⟨w.heap.size + 1 + 1, 1, none⟩ = some (.int .i64 f)) := by
        intro W e; subst e
        exact ⟨B4_.out.drew, by go_simp, by go_simp, by go_simp, by go_simp, by go_simp, by go_simp⟩
      go_region_held3 (fun w' => Below w.heap.size w w' ∧ w'.cell? ⟨w.heap.size, 0, none⟩ = some (.int .i64 a) ∧ w'.cell? ⟨w.heap.size, 1, none⟩ = some (.int .i64 b) ∧ w'.cell? ⟨w.heap.size + 1, 0, none⟩ = some (.int .i64 c) ∧ w'.cell? ⟨w.heap.size + 1, 1, none⟩ = some (.int .i64 d) ∧ w'.cell? ⟨w.heap.size + 1 + 1, 0, none⟩ = some (.int .i64 e) ∧ w'.cell? ⟨w.heap.size + 1 + 1, 1, none⟩ = some (.int .i64 f))
        (first | exact S0.out _ rfl | assumption | exact keep6 (by assumption) (by assumption))
        (first | (go_at_call 49; (with_reducible refine (CM.out _).mono ?_); rintro e' w9 ⟨rfl, bw9⟩) | (go_at_call 49; (with_reducible refine (CN.out _).mono ?_); rintro e' w9 ⟨rfl, bw9⟩))
      all_goals go_wp2
      all_goals go_ret2
      all_goals refine ⟨ret_ii ?_ (by rw [HR.out]), bel_of (by assumption)⟩
      all_goals (rw [HR.out]; first | rfl | omega | (simp; omega))
    · by_cases hk2 : L ≤ A
      · have HR := Lib.hid (HE.out (Or.inr hk2)); clear HE HM
        have hk1 : 0 < (e - c) * (a - c) + (f - d) * (b - d) := by have := HAL.out; omega
        have hk2 : L ≤ (e - c) * (a - c) + (f - d) * (b - d) := by have := HAL.out; omega
        go_enter Try.func27, Try.ntmps27
        go_wp2_with fail
        have HSZ := Lib.hid (show (((w.alloc (.cells #[.int .i64 a, .int .i64 b] 23)).alloc (.cells #[.int .i64 c, .int .i64 d] 23)).alloc (.cells #[.int .i64 e, .int .i64 f] 23)).heap.size = w.heap.size + 1 + 1 + 1 by simp)
        have I0 : ∀ W, W = ((w.alloc (.cells #[.int .i64 a, .int .i64 b] 23)).alloc (.cells #[.int .i64 c, .int .i64 d] 23)).alloc (.cells #[.int .i64 e, .int .i64 f] 23) → (W.cell? ⟨w.heap.size, 0, none⟩ = some (.int .i64 a) ∧ W.cell? ⟨w.heap.size, 1, none⟩ = some (.int .i64 b) ∧ W.cell? ⟨w.heap.size + 1, 0, none⟩ = some (.int .i64 c) ∧ W.cell? ⟨w.heap.size + 1, 1, none⟩ = some (.int .i64 d) ∧ W.cell? ⟨w.heap.size + 1 + 1, 0, none⟩ = some (.int .i64 e) ∧ W.cell? ⟨w.heap.size + 1 + 1, 1, none⟩ = some (.int .i64 f)) ∧ Below w.heap.size w W := by
          intro W e; subst e
          refine ⟨⟨by go_simp, by go_simp, by go_simp, by go_simp, by go_simp, by go_simp⟩, ?_⟩
          (repeat (first | exact Below.refl _ _ | (refine Below.alloc ?_ (by first | omega | (simp <;> omega)) _)))
        have J0 := I0 _ rfl; clear I0
        generalize ((w.alloc (.cells #[.int .i64 a, .int .i64 b] 23)).alloc (.cells #[.int .i64 c, .int .i64 d] 23)).alloc (.cells #[.int .i64 e, .int .i64 f] 23) = W0 at J0 HSZ ⊢
        obtain ⟨⟨f1, f2, f3, f4, f5, f6⟩, bb0⟩ := J0
        have B0 := Lib.hid bb0; clear bb0
        refine (all_any _ _ _ [(a, b), (c, d), (e, f)] _ (pts3 _ _ _ _ _ _ _ _ _ HSZ.out) (by omega)).mono ?_; rintro e' w1 ⟨rfl, hb'⟩; rw [allV3, HV.out]
        have hb := ((Below.refl _ _).alloc (Nat.le_refl _) _).trans (hb'.mono (by simp)); clear hb' HSZ
        replace f1 := old hb f1; replace f2 := old hb f2; replace f3 := old hb f3; replace f4 := old hb f4; replace f5 := old hb f5; replace f6 := old hb f6
        have B2_ := Lib.hid (B0.out.trans (hb.mono B0.out.size)); clear hb
        have hz1 : w.heap.size < w1.heap.size := cell_lt f1
        have hz2 : w.heap.size + 1 < w1.heap.size := cell_lt f3
        have hz3 : w.heap.size + 1 + 1 < w1.heap.size := cell_lt f5
        go_wp2_with fail
        refine (CL.out _).mono ?_; rintro e w3 ⟨rfl, hb⟩
        replace f1 := old hb f1; replace f2 := old hb f2; replace f3 := old hb f3; replace f4 := old hb f4; replace f5 := old hb f5; replace f6 := old hb f6
        have B4_ := Lib.hid (B2_.out.trans (hb.mono B2_.out.size)); clear hb
        clear hz1 hz2 hz3
        have hz1 : w.heap.size < w3.heap.size := cell_lt f1
        have hz2 : w.heap.size + 1 < w3.heap.size := cell_lt f3
        have hz3 : w.heap.size + 1 + 1 < w3.heap.size := cell_lt f5
        go_wp2_with fail
        have S0 : Hid (∀ W, W = w3.drew → Below w.heap.size w W ∧ W.cell? ⟨w.heap.size, 0, none⟩ = some (.int .i64 a) ∧ W.cell? ⟨w.heap.size, 1, none⟩ = some (.int .i64 b) ∧ W.cell? ⟨w.heap.size + 1, 0, none⟩ = some (.int .i64 c) ∧ W.cell? ⟨w.heap.size + 1, 1, none⟩ = some (.int .i64 d) ∧ W.cell? ⟨w.heap.size + 1 + 1, 0, none⟩ = some (.int .i64 e) ∧ W.cell? ⟨w.heap.size + 1 + 1, 1, none⟩ = some (.int .i64 f)) := by
          intro W e; subst e
          exact ⟨B4_.out.drew, by go_simp, by go_simp, by go_simp, by go_simp, by go_simp, by go_simp⟩
        go_region_held3 (fun w' => Below w.heap.size w w' ∧ w'.cell? ⟨w.heap.size, 0, none⟩ = some (.int .i64 a) ∧ w'.cell? ⟨w.heap.size, 1, none⟩ = some (.int .i64 b) ∧ w'.cell? ⟨w.heap.size + 1, 0, none⟩ = some (.int .i64 c) ∧ w'.cell? ⟨w.heap.size + 1, 1, none⟩ = some (.int .i64 d) ∧ w'.cell? ⟨w.heap.size + 1 + 1, 0, none⟩ = some (.int .i64 e) ∧ w'.cell? ⟨w.heap.size + 1 + 1, 1, none⟩ = some (.int .i64 f))
          (first | exact S0.out _ rfl | assumption | exact keep6 (by assumption) (by assumption))
          (first | (go_at_call 49; (with_reducible refine (CM.out _).mono ?_); rintro e' w9 ⟨rfl, bw9⟩) | (go_at_call 49; (with_reducible refine (CN.out _).mono ?_); rintro e' w9 ⟨rfl, bw9⟩))
        all_goals go_wp2
        all_goals go_ret2
        all_goals refine ⟨ret_ii ?_ (by rw [HR.out]), bel_of (by assumption)⟩
        all_goals (rw [HR.out]; first | rfl | omega | (simp; omega))
      · have HR := Lib.hid (HM.out (by omega)); clear HE HM
        have hk1 : 0 < (e - c) * (a - c) + (f - d) * (b - d) := by have := HAL.out; omega
        have hk2 : (e - c) * (a - c) + (f - d) * (b - d) < L := by have := HAL.out; omega
        go_enter Try.func27, Try.ntmps27
        go_wp2_with fail
        have HSZ := Lib.hid (show (((w.alloc (.cells #[.int .i64 a, .int .i64 b] 23)).alloc (.cells #[.int .i64 c, .int .i64 d] 23)).alloc (.cells #[.int .i64 e, .int .i64 f] 23)).heap.size = w.heap.size + 1 + 1 + 1 by simp)
        have I0 : ∀ W, W = ((w.alloc (.cells #[.int .i64 a, .int .i64 b] 23)).alloc (.cells #[.int .i64 c, .int .i64 d] 23)).alloc (.cells #[.int .i64 e, .int .i64 f] 23) → (W.cell? ⟨w.heap.size, 0, none⟩ = some (.int .i64 a) ∧ W.cell? ⟨w.heap.size, 1, none⟩ = some (.int .i64 b) ∧ W.cell? ⟨w.heap.size + 1, 0, none⟩ = some (.int .i64 c) ∧ W.cell? ⟨w.heap.size + 1, 1, none⟩ = some (.int .i64 d) ∧ W.cell? ⟨w.heap.size + 1 + 1, 0, none⟩ = some (.int .i64 e) ∧ W.cell? ⟨w.heap.size + 1 + 1, 1, none⟩ = some (.int .i64 f)) ∧ Below w.heap.size w W := by
          intro W e; subst e
          refine ⟨⟨by go_simp, by go_simp, by go_simp, by go_simp, by go_simp, by go_simp⟩, ?_⟩
          (repeat (first | exact Below.refl _ _ | (refine Below.alloc ?_ (by first | omega | (simp <;> omega)) _)))
        have J0 := I0 _ rfl; clear I0
        generalize ((w.alloc (.cells #[.int .i64 a, .int .i64 b] 23)).alloc (.cells #[.int .i64 c, .int .i64 d] 23)).alloc (.cells #[.int .i64 e, .int .i64 f] 23) = W0 at J0 HSZ ⊢
        obtain ⟨⟨f1, f2, f3, f4, f5, f6⟩, bb0⟩ := J0
        have B0 := Lib.hid bb0; clear bb0
        refine (all_any _ _ _ [(a, b), (c, d), (e, f)] _ (pts3 _ _ _ _ _ _ _ _ _ HSZ.out) (by omega)).mono ?_; rintro e' w1 ⟨rfl, hb'⟩; rw [allV3, HV.out]
        have hb := ((Below.refl _ _).alloc (Nat.le_refl _) _).trans (hb'.mono (by simp)); clear hb' HSZ
        replace f1 := old hb f1; replace f2 := old hb f2; replace f3 := old hb f3; replace f4 := old hb f4; replace f5 := old hb f5; replace f6 := old hb f6
        have B2_ := Lib.hid (B0.out.trans (hb.mono B0.out.size)); clear hb
        have hz1 : w.heap.size < w1.heap.size := cell_lt f1
        have hz2 : w.heap.size + 1 < w1.heap.size := cell_lt f3
        have hz3 : w.heap.size + 1 + 1 < w1.heap.size := cell_lt f5
        go_wp2_with fail
        refine (CL.out _).mono ?_; rintro e w3 ⟨rfl, hb⟩
        replace f1 := old hb f1; replace f2 := old hb f2; replace f3 := old hb f3; replace f4 := old hb f4; replace f5 := old hb f5; replace f6 := old hb f6
        have B4_ := Lib.hid (B2_.out.trans (hb.mono B2_.out.size)); clear hb
        clear hz1 hz2 hz3
        have hz1 : w.heap.size < w3.heap.size := cell_lt f1
        have hz2 : w.heap.size + 1 < w3.heap.size := cell_lt f3
        have hz3 : w.heap.size + 1 + 1 < w3.heap.size := cell_lt f5
        go_wp2_with fail
        refine (CT.out _).mono ?_; rintro e w5 ⟨rfl, hb⟩
        replace f1 := old hb f1; replace f2 := old hb f2; replace f3 := old hb f3; replace f4 := old hb f4; replace f5 := old hb f5; replace f6 := old hb f6
        have B6_ := Lib.hid (B4_.out.trans (hb.mono B4_.out.size)); clear hb
        clear hz1 hz2 hz3
        have hz1 : w.heap.size < w5.heap.size := cell_lt f1
        have hz2 : w.heap.size + 1 < w5.heap.size := cell_lt f3
        have hz3 : w.heap.size + 1 + 1 < w5.heap.size := cell_lt f5
        go_wp2_with fail
        go_ret2
        exact ⟨ret_ii (by rw [HR.out]) (by rw [HR.out]), B6_.out⟩
def nrZ (n d m e : Int) : Int := if n < 0 ∨ d ≤ 0 ∨ m < 0 ∨ e ≤ 0 then 0 else cmpZ n e m d
theorem comp_any (a b c d : Int) (w : World) (ha : I64 a) (hb : I64 b) (hc : I64 c) (hd : I64 d) : Calls Try.prog 51 #[.int .i64 a, .int .i64 b, .int .i64 c, .int .i64 d] w fun e' w' => e' = .returned (.int .i64 (cmpZ a b c d)) ∧ Below w.heap.size w w' := by
  have CC := Lib.hid (fun W => cmpmul_any a b c d W ha hb hc hd)
  clear ha hb hc hd
  go_enter Try.func51, Try.ntmps51
  go_wp2_with fail
  refine (CC.out _).mono ?_; rintro e' w1 ⟨rfl, hb⟩
  have HB := Lib.hid hb; clear hb
  go_wp2_with fail
  go_ret
  exact ⟨rfl, HB.out⟩
theorem nr_any (n d m e : Int) (w : World) (hn : I64 n) (hd : I64 d) (hm : I64 m) (he : I64 e) : Calls Try.prog 29 #[.int .i64 n, .int .i64 d, .int .i64 m, .int .i64 e] w fun e' w' => e' = .returned (.int .i64 (nrZ n d m e)) ∧ Below w.heap.size w w' := by
  have CC := Lib.hid (fun W => comp_any n e m d W hn he hm hd)
  clear hn hd hm he
  by_cases h : n < 0 ∨ d ≤ 0 ∨ m < 0 ∨ e ≤ 0
  · have HR := Lib.hid (show nrZ n d m e = 0 by unfold nrZ; rw [if_pos h])
    rcases (show n < 0 ∨ (0 ≤ n ∧ d ≤ 0) ∨ (0 ≤ n ∧ 0 < d ∧ m < 0) ∨ (0 ≤ n ∧ 0 < d ∧ 0 ≤ m ∧ e ≤ 0) by omega) with k | ⟨k0, k⟩ | ⟨k0, k1, k⟩ | ⟨k0, k1, k2, k⟩
    all_goals
      clear h CC
      go_enter Try.func29, Try.ntmps29
      go_wp2
      go_ret
      exact ⟨ret_i64 (by rw [HR.out]), Below.refl _ _⟩
  · have HR := Lib.hid (show nrZ n d m e = cmpZ n e m d by unfold nrZ; rw [if_neg h])
    obtain ⟨k0, k1, k2, k3⟩ : 0 ≤ n ∧ 0 < d ∧ 0 ≤ m ∧ 0 < e := by omega
    clear h
    go_enter Try.func29, Try.ntmps29
    go_wp2_with fail
    refine (CC.out _).mono ?_; rintro e' w1 ⟨rfl, hb⟩
    have HB := Lib.hid hb; clear hb
    go_wp2_with fail
    go_ret
    exact ⟨ret_i64 (by rw [HR.out]), HB.out⟩
end Go.Proofs.Ytfabfnjfnildhaa
