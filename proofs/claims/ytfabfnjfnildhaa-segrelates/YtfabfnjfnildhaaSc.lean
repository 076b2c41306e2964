/- seg: On, Within, Of, Less and their references. -/
import Derived.Test.YtfabfnjfnildhaaSb
namespace Go.Proofs.Ytfabfnjfnildhaa
open Go.ChangeShapes Go.WideShapes Go.ChangeAt Go.RowKit Go.Joins Go.Deep

def vab (c d e f : Int) : Bool := vldB c d && vldB e f
theorem bok2 (c d e f : Int) : bok [(c, d), (e, f)] = vab c d e f := by simp [bok, allV, vab]
theorem box_no {c d e f : Int} (h : vab c d e f = false) (a : Option Addr) (cap : Nat) (w : World) (hp : PtsAt w a 2 [(c, d), (e, f)]) :
    Calls Try.prog 41 #[.slice a 2 cap] w fun e' w' => e' = .returned (.tuple #[bx 0 0 0 0, .bool false]) ∧ Below w.heap.size w w' := by
  have := box_any a 2 cap _ w hp (by omega)
  unfold boxT at this
  rw [bq_no (by rw [bok2]; exact h), bok2, h] at this; exact this
theorem box_yes {c d e f : Int} (h : vab c d e f = true) (a : Option Addr) (cap : Nat) (w : World) (hp : PtsAt w a 2 [(c, d), (e, f)]) :
    Calls Try.prog 41 #[.slice a 2 cap] w fun e' w' => e' = .returned (.tuple #[bx (minZ c e) (minZ d f) (maxZ c e) (maxZ d f), .bool true]) ∧ Below w.heap.size w w' := by
  have := box_any a 2 cap _ w hp (by omega)
  unfold boxT at this
  rw [bq_yes (by rw [bok2]; exact h), bok2, h] at this
  rw [show bfk [(c, d), (e, f)] [(c, d), (e, f)].length = (minZ c e, minZ d f, maxZ c e, maxZ d f) by simp [bfk, b0, bst, minZ, maxZ]] at this
  exact this
def onB (a b c d e f : Int) : Bool := vab c d e f && hdB (minZ c e) (minZ d f) (maxZ c e) (maxZ d f) a b && (trn c d e f a b == 0)
set_option maxRecDepth 100000 in
set_option maxHeartbeats 4000000 in
theorem on_any (a b c d e f : Int) (w : World) : Calls Try.prog 20 #[pt a b, pt c d, pt e f] w fun e' w' => e' = .returned (.bool (onB a b c d e f)) ∧ Below w.heap.size w w' := by
  have HD : Hid (onB a b c d e f = (vab c d e f && hdB (minZ c e) (minZ d f) (maxZ c e) (maxZ d f) a b && (trn c d e f a b == 0))) := rfl
  cases h1 : vab c d e f
  · have K0 := Lib.hid h1; clear h1
    go_enter Try.func20, Try.ntmps20
    go_wp2_with fail
    have HSZ := Lib.hid (show (((w.alloc (.cells #[.int .i64 a, .int .i64 b] 23)).alloc (.cells #[.int .i64 c, .int .i64 d] 23)).alloc (.cells #[.int .i64 e, .int .i64 f] 23)).heap.size = w.heap.size + 1 + 1 + 1 by simp)
    have I0 : ∀ W, W = ((w.alloc (.cells #[.int .i64 a, .int .i64 b] 23)).alloc (.cells #[.int .i64 c, .int .i64 d] 23)).alloc (.cells #[.int .i64 e, .int .i64 f] 23) → (W.cell? ⟨w.heap.size, 0, none⟩ = some (.int .i64 a) ∧ W.cell? ⟨w.heap.size, 1, none⟩ = some (.int .i64 b) ∧ W.cell? ⟨w.heap.size + 1, 0, none⟩ = some (.int .i64 c) ∧ W.cell? ⟨w.heap.size + 1, 1, none⟩ = some (.int .i64 d) ∧ W.cell? ⟨w.heap.size + 1 + 1, 0, none⟩ = some (.int .i64 e) ∧ W.cell? ⟨w.heap.size + 1 + 1, 1, none⟩ = some (.int .i64 f)) ∧ Below w.heap.size w W := by
      intro W e; subst e
      refine ⟨⟨by go_simp, by go_simp, by go_simp, by go_simp, by go_simp, by go_simp⟩, ?_⟩
      (repeat (first | exact Below.refl _ _ | (refine Below.alloc ?_ (by first | omega | (simp <;> omega)) _)))
    have J0 := I0 _ rfl; clear I0
    generalize ((w.alloc (.cells #[.int .i64 a, .int .i64 b] 23)).alloc (.cells #[.int .i64 c, .int .i64 d] 23)).alloc (.cells #[.int .i64 e, .int .i64 f] 23) = W0 at J0 HSZ ⊢
    obtain ⟨⟨f1, f2, f3, f4, f5, f6⟩, bb0⟩ := J0
    have B0 := Lib.hid bb0; clear bb0
    refine (box_no K0.out _ _ _ (pts2 _ _ _ _ _ _ _ HSZ.out)).mono ?_; rintro e' w1 ⟨rfl, hb'⟩
    have hb := ((Below.refl _ _).alloc (Nat.le_refl _) _).trans (hb'.mono (by simp)); clear hb' HSZ
    replace f1 := old hb f1; replace f2 := old hb f2; replace f3 := old hb f3; replace f4 := old hb f4; replace f5 := old hb f5; replace f6 := old hb f6
    have B2_ := Lib.hid (B0.out.trans (hb.mono B0.out.size)); clear hb
    have hz1 : w.heap.size < w1.heap.size := cell_lt f1
    have hz2 : w.heap.size + 1 < w1.heap.size := cell_lt f3
    have hz3 : w.heap.size + 1 + 1 < w1.heap.size := cell_lt f5
    go_wp2_with fail
    go_ret
    refine ⟨ret_bool (by rw [HD.out, K0.out]; simp), ?_⟩
    have b1 := B2_.out; have s1 := b1.size
    (repeat (first | exact Below.refl _ _ | (refine Below.drew ?_) | (refine below_drewN ?_ _) | (refine Below.alloc ?_ (by first | omega | (simp <;> omega)) _) | (refine Below.setCell ?_ (by first | omega | (simp <;> omega)) _) | (refine Below.trans ?_ (Below.mono (by assumption) (by first | omega | (simp <;> omega))))))
  · cases h2 : hdB (minZ c e) (minZ d f) (maxZ c e) (maxZ d f) a b
    · have K0 := Lib.hid h1; have K1 := Lib.hid h2; clear h1 h2
      go_enter Try.func20, Try.ntmps20
      go_wp2_with fail
      have HSZ := Lib.hid (show (((w.alloc (.cells #[.int .i64 a, .int .i64 b] 23)).alloc (.cells #[.int .i64 c, .int .i64 d] 23)).alloc (.cells #[.int .i64 e, .int .i64 f] 23)).heap.size = w.heap.size + 1 + 1 + 1 by simp)
      have I0 : ∀ W, W = ((w.alloc (.cells #[.int .i64 a, .int .i64 b] 23)).alloc (.cells #[.int .i64 c, .int .i64 d] 23)).alloc (.cells #[.int .i64 e, .int .i64 f] 23) → (W.cell? ⟨w.heap.size, 0, none⟩ = some (.int .i64 a) ∧ W.cell? ⟨w.heap.size, 1, none⟩ = some (.int .i64 b) ∧ W.cell? ⟨w.heap.size + 1, 0, none⟩ = some (.int .i64 c) ∧ W.cell? ⟨w.heap.size + 1, 1, none⟩ = some (.int .i64 d) ∧ W.cell? ⟨w.heap.size + 1 + 1, 0, none⟩ = some (.int .i64 e) ∧ W.cell? ⟨w.heap.size + 1 + 1, 1, none⟩ = some (.int .i64 f)) ∧ Below w.heap.size w W := by
        intro W e; subst e
        refine ⟨⟨by go_simp, by go_simp, by go_simp, by go_simp, by go_simp, by go_simp⟩, ?_⟩
        (repeat (first | exact Below.refl _ _ | (refine Below.alloc ?_ (by first | omega | (simp <;> omega)) _)))
      have J0 := I0 _ rfl; clear I0
      generalize ((w.alloc (.cells #[.int .i64 a, .int .i64 b] 23)).alloc (.cells #[.int .i64 c, .int .i64 d] 23)).alloc (.cells #[.int .i64 e, .int .i64 f] 23) = W0 at J0 HSZ ⊢
      obtain ⟨⟨f1, f2, f3, f4, f5, f6⟩, bb0⟩ := J0
      have B0 := Lib.hid bb0; clear bb0
      refine (box_yes K0.out _ _ _ (pts2 _ _ _ _ _ _ _ HSZ.out)).mono ?_; rintro e' w1 ⟨rfl, hb'⟩
      have hb := ((Below.refl _ _).alloc (Nat.le_refl _) _).trans (hb'.mono (by simp)); clear hb' HSZ
      replace f1 := old hb f1; replace f2 := old hb f2; replace f3 := old hb f3; replace f4 := old hb f4; replace f5 := old hb f5; replace f6 := old hb f6
      have B2_ := Lib.hid (B0.out.trans (hb.mono B0.out.size)); clear hb
      have hz1 : w.heap.size < w1.heap.size := cell_lt f1
      have hz2 : w.heap.size + 1 < w1.heap.size := cell_lt f3
      have hz3 : w.heap.size + 1 + 1 < w1.heap.size := cell_lt f5
      go_wp2_with fail
      have I3 : ∀ W, W = w1.alloc (.cells #[.int .i64 (minZ c e), .int .i64 (minZ d f), .int .i64 (maxZ c e), .int .i64 (maxZ d f)] 46) → (W.cell? ⟨w1.heap.size, 0, none⟩ = some (.int .i64 (minZ c e)) ∧ W.cell? ⟨w1.heap.size, 1, none⟩ = some (.int .i64 (minZ d f)) ∧ W.cell? ⟨w1.heap.size, 2, none⟩ = some (.int .i64 (maxZ c e)) ∧ W.cell? ⟨w1.heap.size, 3, none⟩ = some (.int .i64 (maxZ d f))) ∧ Below w1.heap.size w1 W := by
        intro W e; subst e
        refine ⟨⟨by go_simp, by go_simp, by go_simp, by go_simp⟩, ?_⟩
        exact (Below.refl _ _).alloc (Nat.le_refl _) _
      have J3 := I3 _ rfl; clear I3
      generalize w1.alloc (.cells #[.int .i64 (minZ c e), .int .i64 (minZ d f), .int .i64 (maxZ c e), .int .i64 (maxZ d f)] 46) = W3 at J3 ⊢
      obtain ⟨⟨f7, f8, f9, f10⟩, bb3⟩ := J3
      replace f1 := old bb3 f1; replace f2 := old bb3 f2; replace f3 := old bb3 f3; replace f4 := old bb3 f4; replace f5 := old bb3 f5; replace f6 := old bb3 f6
      have B4_ := Lib.hid (B2_.out.trans (bb3.mono B2_.out.size)); clear bb3
      refine (holds_any _ _ _ _ _ _ _).mono ?_; rintro e w5 ⟨rfl, hb⟩; rw [K1.out]
      replace f1 := old hb f1; replace f2 := old hb f2; replace f3 := old hb f3; replace f4 := old hb f4; replace f5 := old hb f5; replace f6 := old hb f6; replace f7 := old hb f7; replace f8 := old hb f8; replace f9 := old hb f9; replace f10 := old hb f10
      have B6_ := Lib.hid (B4_.out.trans (hb.mono B4_.out.size)); clear hb
      clear hz1 hz2 hz3
      have hz1 : w.heap.size < w5.heap.size := cell_lt f1
      have hz2 : w.heap.size + 1 < w5.heap.size := cell_lt f3
      have hz3 : w.heap.size + 1 + 1 < w5.heap.size := cell_lt f5
      have hz4 : w1.heap.size < w5.heap.size := cell_lt f7
      go_wp2_with fail
      go_ret
      exact ⟨ret_bool (by rw [HD.out, K0.out, K1.out]; simp), B6_.out⟩
    · have K0 := Lib.hid h1; have K1 := Lib.hid h2; clear h1 h2
      go_enter Try.func20, Try.ntmps20
      go_wp2_with fail
      have HSZ := Lib.hid (show (((w.alloc (.cells #[.int .i64 a, .int .i64 b] 23)).alloc (.cells #[.int .i64 c, .int .i64 d] 23)).alloc (.cells #[.int .i64 e, .int .i64 f] 23)).heap.size = w.heap.size + 1 + 1 + 1 by simp)
      have I0 : ∀ W, W = ((w.alloc (.cells #[.int .i64 a, .int .i64 b] 23)).alloc (.cells #[.int .i64 c, .int .i64 d] 23)).alloc (.cells #[.int .i64 e, .int .i64 f] 23) → (W.cell? ⟨w.heap.size, 0, none⟩ = some (.int .i64 a) ∧ W.cell? ⟨w.heap.size, 1, none⟩ = some (.int .i64 b) ∧ W.cell? ⟨w.heap.size + 1, 0, none⟩ = some (.int .i64 c) ∧ W.cell? ⟨w.heap.size + 1, 1, none⟩ = some (.int .i64 d) ∧ W.cell? ⟨w.heap.size + 1 + 1, 0, none⟩ = some (.int .i64 e) ∧ W.cell? ⟨w.heap.size + 1 + 1, 1, none⟩ = some (.int .i64 f)) ∧ Below w.heap.size w W := by
        intro W e; subst e
        refine ⟨⟨by go_simp, by go_simp, by go_simp, by go_simp, by go_simp, by go_simp⟩, ?_⟩
        (repeat (first | exact Below.refl _ _ | (refine Below.alloc ?_ (by first | omega | (simp <;> omega)) _)))
      have J0 := I0 _ rfl; clear I0
      generalize ((w.alloc (.cells #[.int .i64 a, .int .i64 b] 23)).alloc (.cells #[.int .i64 c, .int .i64 d] 23)).alloc (.cells #[.int .i64 e, .int .i64 f] 23) = W0 at J0 HSZ ⊢
      obtain ⟨⟨f1, f2, f3, f4, f5, f6⟩, bb0⟩ := J0
      have B0 := Lib.hid bb0; clear bb0
      refine (box_yes K0.out _ _ _ (pts2 _ _ _ _ _ _ _ HSZ.out)).mono ?_; rintro e' w1 ⟨rfl, hb'⟩
      have hb := ((Below.refl _ _).alloc (Nat.le_refl _) _).trans (hb'.mono (by simp)); clear hb' HSZ
      replace f1 := old hb f1; replace f2 := old hb f2; replace f3 := old hb f3; replace f4 := old hb f4; replace f5 := old hb f5; replace f6 := old hb f6
      have B2_ := Lib.hid (B0.out.trans (hb.mono B0.out.size)); clear hb
      have hz1 : w.heap.size < w1.heap.size := cell_lt f1
      have hz2 : w.heap.size + 1 < w1.heap.size := cell_lt f3
      have hz3 : w.heap.size + 1 + 1 < w1.heap.size := cell_lt f5
      go_wp2_with fail
      have I3 : ∀ W, W = w1.alloc (.cells #[.int .i64 (minZ c e), .int .i64 (minZ d f), .int .i64 (maxZ c e), .int .i64 (maxZ d f)] 46) → (W.cell? ⟨w1.heap.size, 0, none⟩ = some (.int .i64 (minZ c e)) ∧ W.cell? ⟨w1.heap.size, 1, none⟩ = some (.int .i64 (minZ d f)) ∧ W.cell? ⟨w1.heap.size, 2, none⟩ = some (.int .i64 (maxZ c e)) ∧ W.cell? ⟨w1.heap.size, 3, none⟩ = some (.int .i64 (maxZ d f))) ∧ Below w1.heap.size w1 W := by
        intro W e; subst e
        refine ⟨⟨by go_simp, by go_simp, by go_simp, by go_simp⟩, ?_⟩
        exact (Below.refl _ _).alloc (Nat.le_refl _) _
      have J3 := I3 _ rfl; clear I3
      generalize w1.alloc (.cells #[.int .i64 (minZ c e), .int .i64 (minZ d f), .int .i64 (maxZ c e), .int .i64 (maxZ d f)] 46) = W3 at J3 ⊢
      obtain ⟨⟨f7, f8, f9, f10⟩, bb3⟩ := J3
      replace f1 := old bb3 f1; replace f2 := old bb3 f2; replace f3 := old bb3 f3; replace f4 := old bb3 f4; replace f5 := old bb3 f5; replace f6 := old bb3 f6
      have B4_ := Lib.hid (B2_.out.trans (bb3.mono B2_.out.size)); clear bb3
      refine (holds_any _ _ _ _ _ _ _).mono ?_; rintro e w5 ⟨rfl, hb⟩; rw [K1.out]
      replace f1 := old hb f1; replace f2 := old hb f2; replace f3 := old hb f3; replace f4 := old hb f4; replace f5 := old hb f5; replace f6 := old hb f6; replace f7 := old hb f7; replace f8 := old hb f8; replace f9 := old hb f9; replace f10 := old hb f10
      have B6_ := Lib.hid (B4_.out.trans (hb.mono B4_.out.size)); clear hb
      clear hz1 hz2 hz3
      have hz1 : w.heap.size < w5.heap.size := cell_lt f1
      have hz2 : w.heap.size + 1 < w5.heap.size := cell_lt f3
      have hz3 : w.heap.size + 1 + 1 < w5.heap.size := cell_lt f5
      have hz4 : w1.heap.size < w5.heap.size := cell_lt f7
      go_wp2_with fail
      refine (turn_any _ _ _ _ _ _ _).mono ?_; rintro e w7 ⟨rfl, hb⟩
      replace f1 := old hb f1; replace f2 := old hb f2; replace f3 := old hb f3; replace f4 := old hb f4; replace f5 := old hb f5; replace f6 := old hb f6; replace f7 := old hb f7; replace f8 := old hb f8; replace f9 := old hb f9; replace f10 := old hb f10
      have B8_ := Lib.hid (B6_.out.trans (hb.mono B6_.out.size)); clear hb
      clear hz1 hz2 hz3 hz4
      have hz1 : w.heap.size < w7.heap.size := cell_lt f1
      have hz2 : w.heap.size + 1 < w7.heap.size := cell_lt f3
      have hz3 : w.heap.size + 1 + 1 < w7.heap.size := cell_lt f5
      have hz4 : w1.heap.size < w7.heap.size := cell_lt f7
      go_wp2_with fail
      go_ret
      exact ⟨ret_bool (by rw [HD.out, K0.out, K1.out]; simp), B8_.out⟩
def wiB (a b c d e f : Int) : Bool := onB a b c d e f && !(a == c && b == d) && !(a == e && b == f)
set_option maxRecDepth 100000 in
set_option maxHeartbeats 4000000 in
theorem within_any (a b c d e f : Int) (w : World) : Calls Try.prog 22 #[pt a b, pt c d, pt e f] w fun e' w' => e' = .returned (.bool (wiB a b c d e f)) ∧ Below w.heap.size w w' := by
  have HD : Hid (wiB a b c d e f = (onB a b c d e f && !(a == c && b == d) && !(a == e && b == f))) := rfl
  cases h1 : onB a b c d e f
  · have K0 := Lib.hid h1; clear h1
    go_enter Try.func22, Try.ntmps22
    go_wp2_with fail
    have I0 : ∀ W, W = ((w.alloc (.cells #[.int .i64 a, .int .i64 b] 23)).alloc (.cells #[.int .i64 c, .int .i64 d] 23)).alloc (.cells #[.int .i64 e, .int .i64 f] 23) → (W.cell? ⟨w.heap.size, 0, none⟩ = some (.int .i64 a) ∧ W.cell? ⟨w.heap.size, 1, none⟩ = some (.int .i64 b) ∧ W.cell? ⟨w.heap.size + 1, 0, none⟩ = some (.int .i64 c) ∧ W.cell? ⟨w.heap.size + 1, 1, none⟩ = some (.int .i64 d) ∧ W.cell? ⟨w.heap.size + 1 + 1, 0, none⟩ = some (.int .i64 e) ∧ W.cell? ⟨w.heap.size + 1 + 1, 1, none⟩ = some (.int .i64 f)) ∧ Below w.heap.size w W := by
      intro W e; subst e
      refine ⟨⟨by go_simp, by go_simp, by go_simp, by go_simp, by go_simp, by go_simp⟩, ?_⟩
      (repeat (first | exact Below.refl _ _ | (refine Below.alloc ?_ (by first | omega | (simp <;> omega)) _)))
    have J0 := I0 _ rfl; clear I0
    generalize ((w.alloc (.cells #[.int .i64 a, .int .i64 b] 23)).alloc (.cells #[.int .i64 c, .int .i64 d] 23)).alloc (.cells #[.int .i64 e, .int .i64 f] 23) = W0 at J0 ⊢
    obtain ⟨⟨f1, f2, f3, f4, f5, f6⟩, bb0⟩ := J0
    have B0 := Lib.hid bb0; clear bb0
    refine (on_any _ _ _ _ _ _ _).mono ?_; rintro e w1 ⟨rfl, hb⟩; rw [K0.out]
    replace f1 := old hb f1; replace f2 := old hb f2; replace f3 := old hb f3; replace f4 := old hb f4; replace f5 := old hb f5; replace f6 := old hb f6
    have B2_ := Lib.hid (B0.out.trans (hb.mono B0.out.size)); clear hb
    have hz1 : w.heap.size < w1.heap.size := cell_lt f1
    have hz2 : w.heap.size + 1 < w1.heap.size := cell_lt f3
    have hz3 : w.heap.size + 1 + 1 < w1.heap.size := cell_lt f5
    go_wp2_with fail
    go_ret
    exact ⟨ret_bool (by rw [HD.out, K0.out]; simp), B2_.out⟩
  · have K0 := Lib.hid h1; clear h1
    have hcase : (a = c ∧ b = d) ∨ (((a == c) = false ∨ (a = c ∧ (b == d) = false)) ∧ ((a = e ∧ b = f) ∨ (a == e) = false ∨ (a = e ∧ (b == f) = false))) := by
      simp only [beq_eq_false_iff_ne, ne_eq]; omega
    rcases hcase with ⟨rfl, rfl⟩ | ⟨h3 | ⟨rfl, h3⟩, ⟨rfl, rfl⟩ | h4 | ⟨rfl, h4⟩⟩
    all_goals
      go_enter Try.func22, Try.ntmps22
      go_wp2_with fail
      refine (on_any _ _ _ _ _ _ _).mono ?_; rintro e' w1 ⟨rfl, hb1⟩; rw [K0.out]
      obtain ⟨hc1, hf1⟩ := bcell hb1
      have hz0 : w.heap.size < w1.heap.size := by have := hb1.size; (try simp at this); omega
      have hz1 : w.heap.size + 1 < w1.heap.size := by have := hb1.size; (try simp at this); omega
      have hz2 : w.heap.size + 1 + 1 < w1.heap.size := by have := hb1.size; (try simp at this); omega
      have HB1 := Lib.hid hb1; clear hb1
      go_wp2_with fail
      go_ret
      refine ⟨ret_bool (by rw [HD.out, K0.out]; simp_all), ?_⟩
      have b1 := HB1.out
      (repeat (first | exact Below.refl _ _ | (refine Below.drew ?_) | (refine below_drewN ?_ _) | (refine Below.alloc ?_ (by first | omega | (simp <;> omega)) _) | (refine Below.setCell ?_ (by first | omega | (simp <;> omega)) _) | (refine Below.trans ?_ (Below.mono (by assumption) (by first | omega | (simp <;> omega))))))
end Go.Proofs.Ytfabfnjfnildhaa
