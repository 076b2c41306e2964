/- seg: Of; splits, straight, endOn. -/
import Derived.Test.YtfabfnjfnildhaaSc
namespace Go.Proofs.Ytfabfnjfnildhaa
open Go.ChangeShapes Go.WideShapes Go.ChangeAt Go.RowKit Go.Joins Go.Deep

abbrev sg (a b c d : Int) : Value := .agg #[.int .i64 a, .int .i64 b, .int .i64 c, .int .i64 d]
theorem of_yes (a b c d : Int) (w : World) (h : lsB c d a b = true) : Calls Try.prog 14 #[pt a b, pt c d] w fun e' w' => e' = .returned (sg c d a b) ∧ Below w.heap.size w w' := by
  have K0 := Lib.hid h; clear h
  go_enter Try.func14, Try.ntmps14
  go_wp2_with fail
  go_wp2_with fail
  refine (less_any _ _ _ _ _).mono ?_; rintro e w1 ⟨rfl, hb1⟩; rw [K0.out]
  obtain ⟨hc1, hf1⟩ := bcell hb1
  have hz10 : w.heap.size < w1.heap.size := by have := hb1.size; (try simp at this); omega
  have hz11 : w.heap.size + 1 < w1.heap.size := by have := hb1.size; (try simp at this); omega
  have hz12 : w.heap.size + 1 + 1 < w1.heap.size := by have := hb1.size; (try simp at this); omega
  have HB1 := Lib.hid hb1; clear hb1
  go_wp2_with fail
  refine bodyPost_ret (v := sg c d a b) (by simp [results, Try.results14, go_sem, hc1]) rfl ⟨rfl, ?_⟩
  have hb1 := HB1.out
  (repeat (first | exact Below.refl _ _ | (refine Below.drew ?_) | (refine below_drewN ?_ _) | (refine Below.alloc ?_ (by first | omega | (simp <;> omega)) _) | (refine Below.setCell ?_ (by first | omega | (simp <;> omega)) _) | (refine Below.trans ?_ (Below.mono (by assumption) (by first | omega | (simp <;> omega))))))
theorem of_not (a b c d : Int) (w : World) (h : lsB c d a b = false) : Calls Try.prog 14 #[pt a b, pt c d] w fun e' w' => e' = .returned (sg a b c d) ∧ Below w.heap.size w w' := by
  have K0 := Lib.hid h; clear h
  go_enter Try.func14, Try.ntmps14
  go_wp2_with fail
  go_wp2_with fail
  refine (less_any _ _ _ _ _).mono ?_; rintro e w1 ⟨rfl, hb1⟩; rw [K0.out]
  obtain ⟨hc1, hf1⟩ := bcell hb1
  have hz10 : w.heap.size < w1.heap.size := by have := hb1.size; (try simp at this); omega
  have hz11 : w.heap.size + 1 < w1.heap.size := by have := hb1.size; (try simp at this); omega
  have hz12 : w.heap.size + 1 + 1 < w1.heap.size := by have := hb1.size; (try simp at this); omega
  have HB1 := Lib.hid hb1; clear hb1
  go_wp2_with fail
  refine bodyPost_ret (v := sg a b c d) (by simp [results, Try.results14, go_sem, hc1]) rfl ⟨rfl, ?_⟩
  have hb1 := HB1.out
  (repeat (first | exact Below.refl _ _ | (refine Below.drew ?_) | (refine below_drewN ?_ _) | (refine Below.alloc ?_ (by first | omega | (simp <;> omega)) _) | (refine Below.setCell ?_ (by first | omega | (simp <;> omega)) _) | (refine Below.trans ?_ (Below.mono (by assumption) (by first | omega | (simp <;> omega))))))
def splB (u v : Int) : Bool := (decide (u < 0) && decide (0 < v)) || (decide (0 < u) && decide (v < 0))
theorem keep10 {w wr w2 : World} {p1 p2 p3 p4 p5 p6 p7 p8 p9 p10 : Addr} {v1 v2 v3 v4 v5 v6 v7 v8 v9 v10 : Value}
    (h : Below w.heap.size w wr ∧ wr.cell? p1 = some v1 ∧ wr.cell? p2 = some v2 ∧ wr.cell? p3 = some v3 ∧ wr.cell? p4 = some v4 ∧ wr.cell? p5 = some v5 ∧ wr.cell? p6 = some v6 ∧ wr.cell? p7 = some v7 ∧ wr.cell? p8 = some v8 ∧ wr.cell? p9 = some v9 ∧ wr.cell? p10 = some v10) (hb : Below wr.heap.size wr w2) :
    Below w.heap.size w w2 ∧ w2.cell? p1 = some v1 ∧ w2.cell? p2 = some v2 ∧ w2.cell? p3 = some v3 ∧ w2.cell? p4 = some v4 ∧ w2.cell? p5 = some v5 ∧ w2.cell? p6 = some v6 ∧ w2.cell? p7 = some v7 ∧ w2.cell? p8 = some v8 ∧ w2.cell? p9 = some v9 ∧ w2.cell? p10 = some v10 :=
  ⟨h.1.trans (hb.mono h.1.size), old hb h.2.1, old hb h.2.2.1, old hb h.2.2.2.1, old hb h.2.2.2.2.1, old hb h.2.2.2.2.2.1, old hb h.2.2.2.2.2.2.1, old hb h.2.2.2.2.2.2.2.1, old hb h.2.2.2.2.2.2.2.2.1, old hb h.2.2.2.2.2.2.2.2.2.1, old hb h.2.2.2.2.2.2.2.2.2.2⟩
set_option maxRecDepth 100000 in
set_option maxHeartbeats 4000000 in
theorem splits_any (a b c d e f g h : Int) (w : World) : Calls Try.prog 44 #[sg a b c d, sg e f g h] w fun e' w' => e' = .returned (.bool (splB (trn a b c d e f) (trn a b c d g h))) ∧ Below w.heap.size w w' := by
  have CA := Lib.hid (fun W => turn_any a b c d e f W)
  have CB := Lib.hid (fun W => turn_any a b c d g h W)
  generalize trn a b c d e f = u at *
  generalize trn a b c d g h = v at *
  have HD : Hid (splB u v = ((decide (u < 0) && decide (0 < v)) || (decide (0 < u) && decide (v < 0)))) := rfl
  go_enter Try.func44, Try.ntmps44
  go_wp2_with fail
  have I0 : ∀ W, W = (w.alloc (.cells #[.int .i64 a, .int .i64 b, .int .i64 c, .int .i64 d] 25)).alloc (.cells #[.int .i64 e, .int .i64 f, .int .i64 g, .int .i64 h] 25) → (W.cell? ⟨w.heap.size, 0, none⟩ = some (.int .i64 a) ∧ W.cell? ⟨w.heap.size, 1, none⟩ = some (.int .i64 b) ∧ W.cell? ⟨w.heap.size, 2, none⟩ = some (.int .i64 c) ∧ W.cell? ⟨w.heap.size, 3, none⟩ = some (.int .i64 d) ∧ W.cell? ⟨w.heap.size + 1, 0, none⟩ = some (.int .i64 e) ∧ W.cell? ⟨w.heap.size + 1, 1, none⟩ = some (.int .i64 f) ∧ W.cell? ⟨w.heap.size + 1, 2, none⟩ = some (.int .i64 g) ∧ W.cell? ⟨w.heap.size + 1, 3, none⟩ = some (.int .i64 h)) ∧ Below w.heap.size w W := by
    intro W e; subst e
    refine ⟨⟨by go_simp, by go_simp, by go_simp, by go_simp, by go_simp, by go_simp, by go_simp, by go_simp⟩, ?_⟩
    (repeat (first | exact Below.refl _ _ | (refine Below.alloc ?_ (by first | omega | (simp <;> omega)) _)))
  have J0 := I0 _ rfl; clear I0
  generalize (w.alloc (.cells #[.int .i64 a, .int .i64 b, .int .i64 c, .int .i64 d] 25)).alloc (.cells #[.int .i64 e, .int .i64 f, .int .i64 g, .int .i64 h] 25) = W0 at J0 ⊢
  obtain ⟨⟨f1, f2, f3, f4, f5, f6, f7, f8⟩, bb0⟩ := J0
  have B0 := Lib.hid bb0; clear bb0
  have S0 : Hid (∀ W, W = W0.drew → Below w.heap.size w W ∧ W.cell? ⟨w.heap.size, 0, none⟩ = some (.int .i64 a) ∧ W.cell? ⟨w.heap.size, 1, none⟩ = some (.int .i64 b) ∧ W.cell? ⟨w.heap.size, 2, none⟩ = some (.int .i64 c) ∧ W.cell? ⟨w.heap.size, 3, none⟩ = some (.int .i64 d) ∧ W.cell? ⟨w.heap.size + 1, 0, none⟩ = some (.int .i64 e) ∧ W.cell? ⟨w.heap.size + 1, 1, none⟩ = some (.int .i64 f) ∧ W.cell? ⟨w.heap.size + 1, 2, none⟩ = some (.int .i64 g) ∧ W.cell? ⟨w.heap.size + 1, 3, none⟩ = some (.int .i64 h)) := by
    intro W e; subst e
    exact ⟨B0.out.drew, by go_simp, by go_simp, by go_simp, by go_simp, by go_simp, by go_simp, by go_simp, by go_simp⟩
  go_region_held3 (fun w' => Below w.heap.size w w' ∧ w'.cell? ⟨w.heap.size, 0, none⟩ = some (.int .i64 a) ∧ w'.cell? ⟨w.heap.size, 1, none⟩ = some (.int .i64 b) ∧ w'.cell? ⟨w.heap.size, 2, none⟩ = some (.int .i64 c) ∧ w'.cell? ⟨w.heap.size, 3, none⟩ = some (.int .i64 d) ∧ w'.cell? ⟨w.heap.size + 1, 0, none⟩ = some (.int .i64 e) ∧ w'.cell? ⟨w.heap.size + 1, 1, none⟩ = some (.int .i64 f) ∧ w'.cell? ⟨w.heap.size + 1, 2, none⟩ = some (.int .i64 g) ∧ w'.cell? ⟨w.heap.size + 1, 3, none⟩ = some (.int .i64 h))
    (first | exact S0.out _ rfl | assumption | exact keep8 (by assumption) (by assumption))
    (first | (go_at_call 18; (with_reducible refine (CA.out _).mono ?_); rintro e' w9 ⟨rfl, bw9⟩) | (go_at_call 18; (with_reducible refine (CB.out _).mono ?_); rintro e' w9 ⟨rfl, bw9⟩))
  all_goals
    have hbel := bel_of (by assumption)
    have HBEL := Lib.hid hbel; clear hbel
    rcases Int.lt_trichotomy u 0 with k1 | k1 | k1 <;> rcases Int.lt_trichotomy v 0 with k2 | k2 | k2
  all_goals
    have J1 := Lib.hid k1; have J2 := Lib.hid k2
    (try subst k1); (try subst k2)
    go_wp2
    go_ret
    refine ⟨ret_bool (by have k1 := J1.out; have k2 := J2.out; rw [HD.out, Bool.eq_iff_iff]; simp <;> omega), HBEL.out⟩
set_option maxRecDepth 100000 in
set_option maxHeartbeats 4000000 in
theorem straight_any (a b c d e f g h : Int) (w : World) : Calls Try.prog 45 #[sg a b c d, sg e f g h] w fun e' w' => e' = .returned (.bool (trn a b c d e f == 0 && trn a b c d g h == 0)) ∧ Below w.heap.size w w' := by
  have CA := Lib.hid (fun W => turn_any a b c d e f W)
  have CB := Lib.hid (fun W => turn_any a b c d g h W)
  generalize trn a b c d e f = u at *
  generalize trn a b c d g h = v at *
  by_cases hu : u = 0
  · subst hu
    go_enter Try.func45, Try.ntmps45
    go_wp2_with fail
    have I0 : ∀ W, W = (w.alloc (.cells #[.int .i64 a, .int .i64 b, .int .i64 c, .int .i64 d] 25)).alloc (.cells #[.int .i64 e, .int .i64 f, .int .i64 g, .int .i64 h] 25) → (W.cell? ⟨w.heap.size, 0, none⟩ = some (.int .i64 a) ∧ W.cell? ⟨w.heap.size, 1, none⟩ = some (.int .i64 b) ∧ W.cell? ⟨w.heap.size, 2, none⟩ = some (.int .i64 c) ∧ W.cell? ⟨w.heap.size, 3, none⟩ = some (.int .i64 d) ∧ W.cell? ⟨w.heap.size + 1, 0, none⟩ = some (.int .i64 e) ∧ W.cell? ⟨w.heap.size + 1, 1, none⟩ = some (.int .i64 f) ∧ W.cell? ⟨w.heap.size + 1, 2, none⟩ = some (.int .i64 g) ∧ W.cell? ⟨w.heap.size + 1, 3, none⟩ = some (.int .i64 h)) ∧ Below w.heap.size w W := by
      intro W e; subst e
      refine ⟨⟨by go_simp, by go_simp, by go_simp, by go_simp, by go_simp, by go_simp, by go_simp, by go_simp⟩, ?_⟩
      (repeat (first | exact Below.refl _ _ | (refine Below.alloc ?_ (by first | omega | (simp <;> omega)) _)))
    have J0 := I0 _ rfl; clear I0
    generalize (w.alloc (.cells #[.int .i64 a, .int .i64 b, .int .i64 c, .int .i64 d] 25)).alloc (.cells #[.int .i64 e, .int .i64 f, .int .i64 g, .int .i64 h] 25) = W0 at J0 ⊢
    obtain ⟨⟨f1, f2, f3, f4, f5, f6, f7, f8⟩, bb0⟩ := J0
    have B0 := Lib.hid bb0; clear bb0
    refine (CA.out _).mono ?_; rintro e' w1 ⟨rfl, hb⟩
    replace f1 := old hb f1; replace f2 := old hb f2; replace f3 := old hb f3; replace f4 := old hb f4; replace f5 := old hb f5; replace f6 := old hb f6; replace f7 := old hb f7; replace f8 := old hb f8
    have B2_ := Lib.hid (B0.out.trans (hb.mono B0.out.size)); clear hb
    have hz1 : w.heap.size < w1.heap.size := cell_lt f1
    have hz2 : w.heap.size + 1 < w1.heap.size := cell_lt f5
    go_wp2_with fail
    refine (CB.out _).mono ?_; rintro e' w3 ⟨rfl, hb⟩
    replace f1 := old hb f1; replace f2 := old hb f2; replace f3 := old hb f3; replace f4 := old hb f4; replace f5 := old hb f5; replace f6 := old hb f6; replace f7 := old hb f7; replace f8 := old hb f8
    have B4_ := Lib.hid (B2_.out.trans (hb.mono B2_.out.size)); clear hb
    clear hz1 hz2
    have hz1 : w.heap.size < w3.heap.size := cell_lt f1
    have hz2 : w.heap.size + 1 < w3.heap.size := cell_lt f5
    go_wp2_with fail
    go_ret
    exact ⟨ret_bool (by simp), B4_.out⟩
  · have hub : (u == 0) = false := by simpa using hu
    go_enter Try.func45, Try.ntmps45
    go_wp2_with fail
    have I0 : ∀ W, W = (w.alloc (.cells #[.int .i64 a, .int .i64 b, .int .i64 c, .int .i64 d] 25)).alloc (.cells #[.int .i64 e, .int .i64 f, .int .i64 g, .int .i64 h] 25) → (W.cell? ⟨w.heap.size, 0, none⟩ = some (.int .i64 a) ∧ W.cell? ⟨w.heap.size, 1, none⟩ = some (.int .i64 b) ∧ W.cell? ⟨w.heap.size, 2, none⟩ = some (.int .i64 c) ∧ W.cell? ⟨w.heap.size, 3, none⟩ = some (.int .i64 d) ∧ W.cell? ⟨w.heap.size + 1, 0, none⟩ = some (.int .i64 e) ∧ W.cell? ⟨w.heap.size + 1, 1, none⟩ = some (.int .i64 f) ∧ W.cell? ⟨w.heap.size + 1, 2, none⟩ = some (.int .i64 g) ∧ W.cell? ⟨w.heap.size + 1, 3, none⟩ = some (.int .i64 h)) ∧ Below w.heap.size w W := by
      intro W e; subst e
      refine ⟨⟨by go_simp, by go_simp, by go_simp, by go_simp, by go_simp, by go_simp, by go_simp, by go_simp⟩, ?_⟩
      (repeat (first | exact Below.refl _ _ | (refine Below.alloc ?_ (by first | omega | (simp <;> omega)) _)))
    have J0 := I0 _ rfl; clear I0
    generalize (w.alloc (.cells #[.int .i64 a, .int .i64 b, .int .i64 c, .int .i64 d] 25)).alloc (.cells #[.int .i64 e, .int .i64 f, .int .i64 g, .int .i64 h] 25) = W0 at J0 ⊢
    obtain ⟨⟨f1, f2, f3, f4, f5, f6, f7, f8⟩, bb0⟩ := J0
    have B0 := Lib.hid bb0; clear bb0
    refine (CA.out _).mono ?_; rintro e' w1 ⟨rfl, hb⟩
    replace f1 := old hb f1; replace f2 := old hb f2; replace f3 := old hb f3; replace f4 := old hb f4; replace f5 := old hb f5; replace f6 := old hb f6; replace f7 := old hb f7; replace f8 := old hb f8
    have B2_ := Lib.hid (B0.out.trans (hb.mono B0.out.size)); clear hb
    have hz1 : w.heap.size < w1.heap.size := cell_lt f1
    have hz2 : w.heap.size + 1 < w1.heap.size := cell_lt f5
    go_wp2_with fail
    go_ret
    exact ⟨ret_bool (by rw [hub]; simp), B2_.out⟩
set_option maxRecDepth 100000 in
set_option maxHeartbeats 4000000 in
theorem endOn_any (a b c d e f g h : Int) (w : World) : Calls Try.prog 47 #[sg a b c d, sg e f g h] w fun e' w' => e' = .returned (.bool (onB a b e f g h || onB c d e f g h)) ∧ Below w.heap.size w w' := by
  have CA := Lib.hid (fun W => on_any a b e f g h W)
  have CB := Lib.hid (fun W => on_any c d e f g h W)
  generalize onB a b e f g h = u at *
  generalize onB c d e f g h = v at *
  cases u
  · go_enter Try.func47, Try.ntmps47
    go_wp2_with fail
    have I0 : ∀ W, W = (w.alloc (.cells #[.int .i64 a, .int .i64 b, .int .i64 c, .int .i64 d] 25)).alloc (.cells #[.int .i64 e, .int .i64 f, .int .i64 g, .int .i64 h] 25) → (W.cell? ⟨w.heap.size, 0, none⟩ = some (.int .i64 a) ∧ W.cell? ⟨w.heap.size, 1, none⟩ = some (.int .i64 b) ∧ W.cell? ⟨w.heap.size, 2, none⟩ = some (.int .i64 c) ∧ W.cell? ⟨w.heap.size, 3, none⟩ = some (.int .i64 d) ∧ W.cell? ⟨w.heap.size + 1, 0, none⟩ = some (.int .i64 e) ∧ W.cell? ⟨w.heap.size + 1, 1, none⟩ = some (.int .i64 f) ∧ W.cell? ⟨w.heap.size + 1, 2, none⟩ = some (.int .i64 g) ∧ W.cell? ⟨w.heap.size + 1, 3, none⟩ = some (.int .i64 h)) ∧ Below w.heap.size w W := by
      intro W e; subst e
      refine ⟨⟨by go_simp, by go_simp, by go_simp, by go_simp, by go_simp, by go_simp, by go_simp, by go_simp⟩, ?_⟩
      (repeat (first | exact Below.refl _ _ | (refine Below.alloc ?_ (by first | omega | (simp <;> omega)) _)))
    have J0 := I0 _ rfl; clear I0
    generalize (w.alloc (.cells #[.int .i64 a, .int .i64 b, .int .i64 c, .int .i64 d] 25)).alloc (.cells #[.int .i64 e, .int .i64 f, .int .i64 g, .int .i64 h] 25) = W0 at J0 ⊢
    obtain ⟨⟨f1, f2, f3, f4, f5, f6, f7, f8⟩, bb0⟩ := J0
    have B0 := Lib.hid bb0; clear bb0
    refine (CA.out _).mono ?_; rintro e' w1 ⟨rfl, hb⟩
    replace f1 := old hb f1; replace f2 := old hb f2; replace f3 := old hb f3; replace f4 := old hb f4; replace f5 := old hb f5; replace f6 := old hb f6; replace f7 := old hb f7; replace f8 := old hb f8
    have B2_ := Lib.hid (B0.out.trans (hb.mono B0.out.size)); clear hb
    have hz1 : w.heap.size < w1.heap.size := cell_lt f1
    have hz2 : w.heap.size + 1 < w1.heap.size := cell_lt f5
    go_wp2_with fail
    refine (CB.out _).mono ?_; rintro e' w3 ⟨rfl, hb⟩
    replace f1 := old hb f1; replace f2 := old hb f2; replace f3 := old hb f3; replace f4 := old hb f4; replace f5 := old hb f5; replace f6 := old hb f6; replace f7 := old hb f7; replace f8 := old hb f8
    have B4_ := Lib.hid (B2_.out.trans (hb.mono B2_.out.size)); clear hb
    clear hz1 hz2
    have hz1 : w.heap.size < w3.heap.size := cell_lt f1
    have hz2 : w.heap.size + 1 < w3.heap.size := cell_lt f5
    go_wp2_with fail
    go_ret
    exact ⟨ret_bool (by simp), B4_.out⟩
  · go_enter Try.func47, Try.ntmps47
    go_wp2_with fail
    have I0 : ∀ W, W = (w.alloc (.cells #[.int .i64 a, .int .i64 b, .int .i64 c, .int .i64 d] 25)).alloc (.cells #[.int .i64 e, .int .i64 f, .int .i64 g, .int .i64 h] 25) → (W.cell? ⟨w.heap.size, 0, none⟩ = some (.int .i64 a) ∧ W.cell? ⟨w.heap.size, 1, none⟩ = some (.int .i64 b) ∧ W.cell? ⟨w.heap.size, 2, none⟩ = some (.int .i64 c) ∧ W.cell? ⟨w.heap.size, 3, none⟩ = some (.int .i64 d) ∧ W.cell? ⟨w.heap.size + 1, 0, none⟩ = some (.int .i64 e) ∧ W.cell? ⟨w.heap.size + 1, 1, none⟩ = some (.int .i64 f) ∧ W.cell? ⟨w.heap.size + 1, 2, none⟩ = some (.int .i64 g) ∧ W.cell? ⟨w.heap.size + 1, 3, none⟩ = some (.int .i64 h)) ∧ Below w.heap.size w W := by
      intro W e; subst e
      refine ⟨⟨by go_simp, by go_simp, by go_simp, by go_simp, by go_simp, by go_simp, by go_simp, by go_simp⟩, ?_⟩
      (repeat (first | exact Below.refl _ _ | (refine Below.alloc ?_ (by first | omega | (simp <;> omega)) _)))
    have J0 := I0 _ rfl; clear I0
    generalize (w.alloc (.cells #[.int .i64 a, .int .i64 b, .int .i64 c, .int .i64 d] 25)).alloc (.cells #[.int .i64 e, .int .i64 f, .int .i64 g, .int .i64 h] 25) = W0 at J0 ⊢
    obtain ⟨⟨f1, f2, f3, f4, f5, f6, f7, f8⟩, bb0⟩ := J0
    have B0 := Lib.hid bb0; clear bb0
    refine (CA.out _).mono ?_; rintro e' w1 ⟨rfl, hb⟩
    replace f1 := old hb f1; replace f2 := old hb f2; replace f3 := old hb f3; replace f4 := old hb f4; replace f5 := old hb f5; replace f6 := old hb f6; replace f7 := old hb f7; replace f8 := old hb f8
    have B2_ := Lib.hid (B0.out.trans (hb.mono B0.out.size)); clear hb
    have hz1 : w.heap.size < w1.heap.size := cell_lt f1
    have hz2 : w.heap.size + 1 < w1.heap.size := cell_lt f5
    go_wp2_with fail
    go_ret
    exact ⟨ret_bool (by simp), B2_.out⟩
end Go.Proofs.Ytfabfnjfnildhaa
