/- seg: allValid, Turn, and the references' three and Turn. -/
import Derived.Test.YtfabfnjfnildhaaSa
namespace Go.Proofs.Ytfabfnjfnildhaa
open Go.ChangeShapes Go.WideShapes Go.ChangeAt Go.RowKit Go.Joins Go.Deep

theorem pts3 (w : World) (a b c d e f : Int) (t : TypeId) (g : Nat) (hg : w.heap.size = g) : PtsAt (w.alloc (.cells #[.int .i64 a, .int .i64 b, .int .i64 c, .int .i64 d, .int .i64 e, .int .i64 f] t)) (some ⟨g, 0, none⟩) 3 [(a, b), (c, d), (e, f)] := by
  subst hg
  refine ⟨rfl, Or.inr ⟨_, 0, rfl, by simp, fun i hi => ?_⟩⟩
  match i, hi with
  | 0, _ => exact ⟨by go_simp, by go_simp⟩
  | 1, _ => exact ⟨by go_simp, by go_simp⟩
  | 2, _ => exact ⟨by go_simp, by go_simp⟩
theorem pts2 (w : World) (a b c d : Int) (t : TypeId) (g : Nat) (hg : w.heap.size = g) : PtsAt (w.alloc (.cells #[.int .i64 a, .int .i64 b, .int .i64 c, .int .i64 d] t)) (some ⟨g, 0, none⟩) 2 [(a, b), (c, d)] := by
  subst hg
  refine ⟨rfl, Or.inr ⟨_, 0, rfl, by simp, fun i hi => ?_⟩⟩
  match i, hi with
  | 0, _ => exact ⟨by go_simp, by go_simp⟩
  | 1, _ => exact ⟨by go_simp, by go_simp⟩
theorem pts4 (w : World) (a b c d e f h i : Int) (t : TypeId) (g : Nat) (hg : w.heap.size = g) : PtsAt (w.alloc (.cells #[.int .i64 a, .int .i64 b, .int .i64 c, .int .i64 d, .int .i64 e, .int .i64 f, .int .i64 h, .int .i64 i] t)) (some ⟨g, 0, none⟩) 4 [(a, b), (c, d), (e, f), (h, i)] := by
  subst hg
  refine ⟨rfl, Or.inr ⟨_, 0, rfl, by simp, fun i hi => ?_⟩⟩
  match i, hi with
  | 0, _ => exact ⟨by go_simp, by go_simp⟩
  | 1, _ => exact ⟨by go_simp, by go_simp⟩
  | 2, _ => exact ⟨by go_simp, by go_simp⟩
  | 3, _ => exact ⟨by go_simp, by go_simp⟩
set_option maxRecDepth 100000 in
set_option maxHeartbeats 4000000 in
theorem all_any (a : Option Addr) (len cap : Nat) (l : List Pt) (w : World) (h : PtsAt w a len l) (hl : len ≤ 1000) :
    Calls Try.prog 39 #[.slice a len cap] w fun e w' => e = .returned (.bool (allV l)) ∧ Below w.heap.size w w' := by
  have HP := Lib.hid h
  have HL := Lib.hid h.1; clear h
  go_enter Try.func39, Try.ntmps39
  go_wp2_with fail
  go_loopw [7] (fun s7 wr => ∃ k : Nat, k ≤ len ∧ s7 = .int .i64 (k : Int) ∧ Hid (allV (l.take k) = true) ∧ Hid (Below w.heap.size w wr)) (fun s7 _ => len - (intOf s7).toNat)
  case atStart => exact ⟨0, by omega, rfl, by simp [Hid, allV], Below.refl _ _⟩
  case round =>
    obtain ⟨k, hk, rfl, HA, HB⟩ := hrel
    by_cases hlt : k < len
    · obtain ⟨b, off, rfl, c1, c2⟩ := (HP.out.below HB.out).at hlt
      have hk' : Hid (k < l.length) := by show k < l.length; rw [← HL.out]; exact hlt
      obtain ⟨⟨x, y⟩, hxy⟩ : ∃ p, l.getD k (0, 0) = p := ⟨_, rfl⟩
      rw [hxy] at c1 c2
      have HXY := Lib.hid hxy; clear hxy
      have i1 : (0 : Int) ≤ (k : Int) := by omega
      have i2 : (k : Int) < (len : Int) := by omega
      have hbs : b < wr.heap.size := cell_lt c1
      cases hv : vldB x y
      · have HV := Lib.hid hv; clear hv
        have HN := Lib.hid (allV_no hk'.out (by rw [HXY.out]; exact HV.out))
        go_wp2_with fail
        refine (valid_any _ _ _).mono ?_; rintro e w2 ⟨rfl, hb⟩; rw [HV.out]
        have HB2 := Lib.hid hb; clear hb
        go_wp2_with fail
        go_ret
        refine ⟨ret_bool (by rw [HN.out]), ?_⟩
        have b1 := HB.out; have b2 := HB2.out; have s1 := b1.size
        (repeat (first | exact Below.refl _ _ | (refine Below.drew ?_) | (refine below_drewN ?_ _) | (refine Below.alloc ?_ (by first | omega | (simp <;> omega)) _) | (refine Below.setCell ?_ (by first | omega | (simp <;> omega)) _) | (refine Below.trans ?_ (Below.mono (by assumption) (by first | omega | (simp <;> omega))))))
      · have HV := Lib.hid hv; clear hv
        have HN := Lib.hid (show allV (l.take (k + 1)) = true by rw [allV_succ l k hk'.out, HA.out, HXY.out, HV.out]; rfl)
        go_wp2_with fail
        refine (valid_any _ _ _).mono ?_; rintro e w2 ⟨rfl, hb⟩; rw [HV.out]
        have HB2 := Lib.hid hb; clear hb
        go_wp2_with fail
        go_roundw
        case rel =>
          refine ⟨k + 1, by omega, by go_num, HN, ?_⟩
          show Below _ _ _
          have b1 := HB.out; have b2 := HB2.out; have s1 := b1.size
          (repeat (first | exact Below.refl _ _ | (refine Below.drew ?_) | (refine below_drewN ?_ _) | (refine Below.alloc ?_ (by first | omega | (simp <;> omega)) _) | (refine Below.setCell ?_ (by first | omega | (simp <;> omega)) _) | (refine Below.trans ?_ (Below.mono (by assumption) (by first | omega | (simp <;> omega))))))
        case measure => simp [intOf]; omega
    · obtain rfl : k = len := by omega
      have HN := Lib.hid (show allV l = true by have := HA.out; rw [List.take_of_length_le (by have := HL.out; omega)] at this; exact this)
      go_wp2
      go_ret
      exact ⟨ret_bool (by rw [HN.out]), HB.out⟩
def v3 (a b c d e f : Int) : Bool := vldB a b && vldB c d && vldB e f
theorem allV3 (a b c d e f : Int) : allV [(a, b), (c, d), (e, f)] = v3 a b c d e f := by simp [allV, v3, Bool.and_assoc]
theorem v3_iff {a b c d e f : Int} : v3 a b c d e f = true ↔ (vldB a b = true ∧ vldB c d = true ∧ vldB e f = true) := by unfold v3; simp [and_assoc]
def tr (a b c d e f : Int) : Int := (c - a) * (f - b) - (d - b) * (e - a)
def trn (a b c d e f : Int) : Int := if v3 a b c d e f = true then tr a b c d e f else 0
theorem mulb {x y : Int} (h0 : -32767 ≤ x) (h1 : x ≤ 32767) (h2 : -32767 ≤ y) (h3 : y ≤ 32767) : -1073676289 ≤ x * y ∧ x * y ≤ 1073676289 := by
  have e1 : 0 ≤ (32767 - x) * (32767 - y) := Int.mul_nonneg (by omega) (by omega)
  have e2 : 0 ≤ (32767 + x) * (32767 + y) := Int.mul_nonneg (by omega) (by omega)
  have e3 : 0 ≤ (32767 - x) * (32767 + y) := Int.mul_nonneg (by omega) (by omega)
  have e4 : 0 ≤ (32767 + x) * (32767 - y) := Int.mul_nonneg (by omega) (by omega)
  have f1 : (32767 - x) * (32767 - y) = 1073676289 - 32767 * y - 32767 * x + x * y := by grind
  have f2 : (32767 + x) * (32767 + y) = 1073676289 + 32767 * y + 32767 * x + x * y := by grind
  have f3 : (32767 - x) * (32767 + y) = 1073676289 + 32767 * y - 32767 * x - x * y := by grind
  have f4 : (32767 + x) * (32767 - y) = 1073676289 - 32767 * y + 32767 * x - x * y := by grind
  omega
theorem v3_bd {a b c d e f : Int} (h : v3 a b c d e f = true) : (0 ≤ a ∧ a ≤ 32767 ∧ 0 ≤ b ∧ b ≤ 32767) ∧ (0 ≤ c ∧ c ≤ 32767 ∧ 0 ≤ d ∧ d ≤ 32767) ∧ (0 ≤ e ∧ e ≤ 32767 ∧ 0 ≤ f ∧ f ≤ 32767) := by
  obtain ⟨h1, h2, h3⟩ := v3_iff.1 h
  exact ⟨vldB_iff.1 h1, vldB_iff.1 h2, vldB_iff.1 h3⟩
set_option maxRecDepth 100000 in
set_option maxHeartbeats 4000000 in
theorem three_any (a b c d e f : Int) (w : World) : Calls Try.prog 40 #[pt a b, pt c d, pt e f] w fun e' w' => e' = .returned (.bool (v3 a b c d e f)) ∧ Below w.heap.size w w' := by
  have HD : Hid (v3 a b c d e f = (vldB a b && vldB c d && vldB e f)) := rfl
  cases h1 : vldB a b
  · have K0 := Lib.hid h1
    clear h1
    go_enter Try.func40, Try.ntmps40
    go_wp2_with fail
    have I0 : ∀ W, W = ((w.alloc (.cells #[.int .i64 a, .int .i64 b] 23)).alloc (.cells #[.int .i64 c, .int .i64 d] 23)).alloc (.cells #[.int .i64 e, .int .i64 f] 23) → (W.cell? ⟨w.heap.size, 0, none⟩ = some (.int .i64 a) ∧ W.cell? ⟨w.heap.size, 1, none⟩ = some (.int .i64 b) ∧ W.cell? ⟨w.heap.size + 1, 0, none⟩ = some (.int .i64 c) ∧ W.cell? ⟨w.heap.size + 1, 1, none⟩ = some (.int .i64 d) ∧ W.cell? ⟨w.heap.size + 1 + 1, 0, none⟩ = some (.int .i64 e) ∧ W.cell? ⟨w.heap.size + 1 + 1, 1, none⟩ = some (.int .i64 f)) ∧ Below w.heap.size w W := by
      intro W e; subst e
      refine ⟨⟨by go_simp, by go_simp, by go_simp, by go_simp, by go_simp, by go_simp⟩, ?_⟩
      (repeat (first | exact Below.refl _ _ | (refine Below.alloc ?_ (by first | omega | (simp <;> omega)) _)))
    have J0 := I0 _ rfl; clear I0
    generalize ((w.alloc (.cells #[.int .i64 a, .int .i64 b] 23)).alloc (.cells #[.int .i64 c, .int .i64 d] 23)).alloc (.cells #[.int .i64 e, .int .i64 f] 23) = W0 at J0 ⊢
    obtain ⟨⟨f1, f2, f3, f4, f5, f6⟩, bb0⟩ := J0
    have B0 := Lib.hid bb0; clear bb0
    refine (validr_any _ _ _).mono ?_; rintro e w1 ⟨rfl, hb⟩; rw [K0.out]
    replace f1 := old hb f1; replace f2 := old hb f2; replace f3 := old hb f3; replace f4 := old hb f4; replace f5 := old hb f5; replace f6 := old hb f6
    have B2_ := Lib.hid (B0.out.trans (hb.mono B0.out.size)); clear hb
    have hz1 : w.heap.size < w1.heap.size := cell_lt f1
    have hz2 : w.heap.size + 1 < w1.heap.size := cell_lt f3
    have hz3 : w.heap.size + 1 + 1 < w1.heap.size := cell_lt f5
    go_wp2_with fail
    go_ret
    exact ⟨ret_bool (by rw [HD.out, K0.out]; simp), B2_.out⟩
  · cases h2 : vldB c d
    · have K0 := Lib.hid h1
      have K1 := Lib.hid h2
      clear h1 h2
      go_enter Try.func40, Try.ntmps40
      go_wp2_with fail
      have I0 : ∀ W, W = ((w.alloc (.cells #[.int .i64 a, .int .i64 b] 23)).alloc (.cells #[.int .i64 c, .int .i64 d] 23)).alloc (.cells #[.int .i64 e, .int .i64 f] 23) → (W.cell? ⟨w.heap.size, 0, none⟩ = some (.int .i64 a) ∧ W.cell? ⟨w.heap.size, 1, none⟩ = some (.int .i64 b) ∧ W.cell? ⟨w.heap.size + 1, 0, none⟩ = some (.int .i64 c) ∧ W.cell? ⟨w.heap.size + 1, 1, none⟩ = some (.int .i64 d) ∧ W.cell? ⟨w.heap.size + 1 + 1, 0, none⟩ = some (.int .i64 e) ∧ W.cell? ⟨w.heap.size + 1 + 1, 1, none⟩ = some (.int .i64 f)) ∧ Below w.heap.size w W := by
        intro W e; subst e
        refine ⟨⟨by go_simp, by go_simp, by go_simp, by go_simp, by go_simp, by go_simp⟩, ?_⟩
        (repeat (first | exact Below.refl _ _ | (refine Below.alloc ?_ (by first | omega | (simp <;> omega)) _)))
      have J0 := I0 _ rfl; clear I0
      generalize ((w.alloc (.cells #[.int .i64 a, .int .i64 b] 23)).alloc (.cells #[.int .i64 c, .int .i64 d] 23)).alloc (.cells #[.int .i64 e, .int .i64 f] 23) = W0 at J0 ⊢
      obtain ⟨⟨f1, f2, f3, f4, f5, f6⟩, bb0⟩ := J0
      have B0 := Lib.hid bb0; clear bb0
      refine (validr_any _ _ _).mono ?_; rintro e w1 ⟨rfl, hb⟩; rw [K0.out]
      replace f1 := old hb f1; replace f2 := old hb f2; replace f3 := old hb f3; replace f4 := old hb f4; replace f5 := old hb f5; replace f6 := old hb f6
      have B2_ := Lib.hid (B0.out.trans (hb.mono B0.out.size)); clear hb
      have hz1 : w.heap.size < w1.heap.size := cell_lt f1
      have hz2 : w.heap.size + 1 < w1.heap.size := cell_lt f3
      have hz3 : w.heap.size + 1 + 1 < w1.heap.size := cell_lt f5
      go_wp2_with fail
      refine (validr_any _ _ _).mono ?_; rintro e w3 ⟨rfl, hb⟩; rw [K1.out]
      replace f1 := old hb f1; replace f2 := old hb f2; replace f3 := old hb f3; replace f4 := old hb f4; replace f5 := old hb f5; replace f6 := old hb f6
      have B4_ := Lib.hid (B2_.out.trans (hb.mono B2_.out.size)); clear hb
      clear hz1 hz2 hz3
      have hz1 : w.heap.size < w3.heap.size := cell_lt f1
      have hz2 : w.heap.size + 1 < w3.heap.size := cell_lt f3
      have hz3 : w.heap.size + 1 + 1 < w3.heap.size := cell_lt f5
      go_wp2_with fail
      go_ret
      exact ⟨ret_bool (by rw [HD.out, K0.out, K1.out]; simp), B4_.out⟩
    · cases h3 : vldB e f
      · have K0 := Lib.hid h1
        have K1 := Lib.hid h2
        have K2 := Lib.hid h3
        clear h1 h2 h3
        go_enter Try.func40, Try.ntmps40
        go_wp2_with fail
        have I0 : ∀ W, W = ((w.alloc (.cells #[.int .i64 a, .int .i64 b] 23)).alloc (.cells #[.int .i64 c, .int .i64 d] 23)).alloc (.cells #[.int .i64 e, .int .i64 f] 23) → (W.cell? ⟨w.heap.size, 0, none⟩ = some (.int .i64 a) ∧ W.cell? ⟨w.heap.size, 1, none⟩ = some (.int .i64 b) ∧ W.cell? ⟨w.heap.size + 1, 0, none⟩ = some (.int .i64 c) ∧ W.cell? ⟨w.heap.size + 1, 1, none⟩ = some (.int .i64 d) ∧ W.cell? ⟨w.heap.size + 1 + 1, 0, none⟩ = some (.int .i64 e) ∧ W.cell? ⟨w.heap.size + 1 + 1, 1, none⟩ = some (.int .i64 f)) ∧ Below w.heap.size w W := by
          intro W e; subst e
          refine ⟨⟨by go_simp, by go_simp, by go_simp, by go_simp, by go_simp, by go_simp⟩, ?_⟩
          (repeat (first | exact Below.refl _ _ | (refine Below.alloc ?_ (by first | omega | (simp <;> omega)) _)))
        have J0 := I0 _ rfl; clear I0
        generalize ((w.alloc (.cells #[.int .i64 a, .int .i64 b] 23)).alloc (.cells #[.int .i64 c, .int .i64 d] 23)).alloc (.cells #[.int .i64 e, .int .i64 f] 23) = W0 at J0 ⊢
        obtain ⟨⟨f1, f2, f3, f4, f5, f6⟩, bb0⟩ := J0
        have B0 := Lib.hid bb0; clear bb0
        refine (validr_any _ _ _).mono ?_; rintro e w1 ⟨rfl, hb⟩; rw [K0.out]
        replace f1 := old hb f1; replace f2 := old hb f2; replace f3 := old hb f3; replace f4 := old hb f4; replace f5 := old hb f5; replace f6 := old hb f6
        have B2_ := Lib.hid (B0.out.trans (hb.mono B0.out.size)); clear hb
        have hz1 : w.heap.size < w1.heap.size := cell_lt f1
        have hz2 : w.heap.size + 1 < w1.heap.size := cell_lt f3
        have hz3 : w.heap.size + 1 + 1 < w1.heap.size := cell_lt f5
        go_wp2_with fail
        refine (validr_any _ _ _).mono ?_; rintro e w3 ⟨rfl, hb⟩; rw [K1.out]
        replace f1 := old hb f1; replace f2 := old hb f2; replace f3 := old hb f3; replace f4 := old hb f4; replace f5 := old hb f5; replace f6 := old hb f6
        have B4_ := Lib.hid (B2_.out.trans (hb.mono B2_.out.size)); clear hb
        clear hz1 hz2 hz3
        have hz1 : w.heap.size < w3.heap.size := cell_lt f1
        have hz2 : w.heap.size + 1 < w3.heap.size := cell_lt f3
        have hz3 : w.heap.size + 1 + 1 < w3.heap.size := cell_lt f5
        go_wp2_with fail
        refine (validr_any _ _ _).mono ?_; rintro e w5 ⟨rfl, hb⟩; rw [K2.out]
        replace f1 := old hb f1; replace f2 := old hb f2; replace f3 := old hb f3; replace f4 := old hb f4; replace f5 := old hb f5; replace f6 := old hb f6
        have B6_ := Lib.hid (B4_.out.trans (hb.mono B4_.out.size)); clear hb
        clear hz1 hz2 hz3
        have hz1 : w.heap.size < w5.heap.size := cell_lt f1
        have hz2 : w.heap.size + 1 < w5.heap.size := cell_lt f3
        have hz3 : w.heap.size + 1 + 1 < w5.heap.size := cell_lt f5
        go_wp2_with fail
        go_ret
        exact ⟨ret_bool (by rw [HD.out, K0.out, K1.out, K2.out]; simp), B6_.out⟩
      · have K0 := Lib.hid h1
        have K1 := Lib.hid h2
        have K2 := Lib.hid h3
        clear h1 h2 h3
        go_enter Try.func40, Try.ntmps40
        go_wp2_with fail
        have I0 : ∀ W, W = ((w.alloc (.cells #[.int .i64 a, .int .i64 b] 23)).alloc (.cells #[.int .i64 c, .int .i64 d] 23)).alloc (.cells #[.int .i64 e, .int .i64 f] 23) → (W.cell? ⟨w.heap.size, 0, none⟩ = some (.int .i64 a) ∧ W.cell? ⟨w.heap.size, 1, none⟩ = some (.int .i64 b) ∧ W.cell? ⟨w.heap.size + 1, 0, none⟩ = some (.int .i64 c) ∧ W.cell? ⟨w.heap.size + 1, 1, none⟩ = some (.int .i64 d) ∧ W.cell? ⟨w.heap.size + 1 + 1, 0, none⟩ = some (.int .i64 e) ∧ W.cell? ⟨w.heap.size + 1 + 1, 1, none⟩ = some (.int .i64 f)) ∧ Below w.heap.size w W := by
          intro W e; subst e
          refine ⟨⟨by go_simp, by go_simp, by go_simp, by go_simp, by go_simp, by go_simp⟩, ?_⟩
          (repeat (first | exact Below.refl _ _ | (refine Below.alloc ?_ (by first | omega | (simp <;> omega)) _)))
        have J0 := I0 _ rfl; clear I0
        generalize ((w.alloc (.cells #[.int .i64 a, .int .i64 b] 23)).alloc (.cells #[.int .i64 c, .int .i64 d] 23)).alloc (.cells #[.int .i64 e, .int .i64 f] 23) = W0 at J0 ⊢
        obtain ⟨⟨f1, f2, f3, f4, f5, f6⟩, bb0⟩ := J0
        have B0 := Lib.hid bb0; clear bb0
        refine (validr_any _ _ _).mono ?_; rintro e w1 ⟨rfl, hb⟩; rw [K0.out]
        replace f1 := old hb f1; replace f2 := old hb f2; replace f3 := old hb f3; replace f4 := old hb f4; replace f5 := old hb f5; replace f6 := old hb f6
        have B2_ := Lib.hid (B0.out.trans (hb.mono B0.out.size)); clear hb
        have hz1 : w.heap.size < w1.heap.size := cell_lt f1
        have hz2 : w.heap.size + 1 < w1.heap.size := cell_lt f3
        have hz3 : w.heap.size + 1 + 1 < w1.heap.size := cell_lt f5
        go_wp2_with fail
        refine (validr_any _ _ _).mono ?_; rintro e w3 ⟨rfl, hb⟩; rw [K1.out]
        replace f1 := old hb f1; replace f2 := old hb f2; replace f3 := old hb f3; replace f4 := old hb f4; replace f5 := old hb f5; replace f6 := old hb f6
        have B4_ := Lib.hid (B2_.out.trans (hb.mono B2_.out.size)); clear hb
        clear hz1 hz2 hz3
        have hz1 : w.heap.size < w3.heap.size := cell_lt f1
        have hz2 : w.heap.size + 1 < w3.heap.size := cell_lt f3
        have hz3 : w.heap.size + 1 + 1 < w3.heap.size := cell_lt f5
        go_wp2_with fail
        refine (validr_any _ _ _).mono ?_; rintro e w5 ⟨rfl, hb⟩; rw [K2.out]
        replace f1 := old hb f1; replace f2 := old hb f2; replace f3 := old hb f3; replace f4 := old hb f4; replace f5 := old hb f5; replace f6 := old hb f6
        have B6_ := Lib.hid (B4_.out.trans (hb.mono B4_.out.size)); clear hb
        clear hz1 hz2 hz3
        have hz1 : w.heap.size < w5.heap.size := cell_lt f1
        have hz2 : w.heap.size + 1 < w5.heap.size := cell_lt f3
        have hz3 : w.heap.size + 1 + 1 < w5.heap.size := cell_lt f5
        go_wp2_with fail
        go_ret
        exact ⟨ret_bool (by rw [HD.out, K0.out, K1.out, K2.out]; simp), B6_.out⟩
set_option maxRecDepth 100000 in
set_option maxHeartbeats 4000000 in
theorem turn_any (a b c d e f : Int) (w : World) : Calls Try.prog 18 #[pt a b, pt c d, pt e f] w fun e' w' => e' = .returned (.int .i64 (trn a b c d e f)) ∧ Below w.heap.size w w' := by
  cases hv : v3 a b c d e f
  · have HR := Lib.hid (show trn a b c d e f = 0 by unfold trn; rw [if_neg (by rw [hv]; simp)])
    have HV := Lib.hid hv; clear hv
    go_enter Try.func18, Try.ntmps18
    go_wp2_with fail
    have HSZ := Lib.hid (show (((w.alloc (.cells #[.int .i64 a, .int .i64 b] 23)).alloc (.cells #[.int .i64 c, .int .i64 d] 23)).alloc (.cells #[.int .i64 e, .int .i64 f] 23)).heap.size = w.heap.size + 1 + 1 + 1 by simp)
    have I0 : ∀ W, W = ((w.alloc (.cells #[.int .i64 a, .int .i64 b] 23)).alloc (.cells #[.int .i64 c, .int .i64 d] 23)).alloc (.cells #[.int .i64 e, .int .i64 f] 23) → (W.cell? ⟨w.heap.size, 0, none⟩ = some (.int .i64 a) ∧ W.cell? ⟨w.heap.size, 1, none⟩ = some (.int .i64 b) ∧ W.cell? ⟨w.heap.size + 1, 0, none⟩ = some (.int .i64 c) ∧ W.cell? ⟨w.heap.size + 1, 1, none⟩ = some (.int .i64 d) ∧ W.cell? ⟨w.heap.size + 1 + 1, 0, none⟩ = some (.int .i64 e) ∧ W.cell? ⟨w.heap.size + 1 + 1, 1, none⟩ = some (.int .i64 f)) ∧ Below w.heap.size w W := by
      intro W e; subst e
      refine ⟨⟨by go_simp, by go_simp, by go_simp, by go_simp, by go_simp, by go_simp⟩, ?_⟩
      (repeat (first | exact Below.refl _ _ | (refine Below.alloc ?_ (by first | omega | (simp <;> omega)) _)))
    have J0 := I0 _ rfl; clear I0
    generalize ((w.alloc (.cells #[.int .i64 a, .int .i64 b] 23)).alloc (.cells #[.int .i64 c, .int .i64 d] 23)).alloc (.cells #[.int .i64 e, .int .i64 f] 23) = W0 at J0 HSZ ⊢
    obtain ⟨⟨f1, f2, f3, f4, f5, f6⟩, bb0⟩ := J0
    have B0 := Lib.hid bb0; clear bb0
    refine (all_any _ _ _ [(a, b), (c, d), (e, f)] _ (pts3 _ _ _ _ _ _ _ _ _ HSZ.out) (by omega)).mono ?_; rintro e' w1 ⟨rfl, hb'⟩; rw [allV3, HV.out]
    have hb := ((Below.refl _ _).alloc (Nat.le_refl _) _).trans (hb'.mono (by simp)); clear hb' HSZ
    replace f1 := old hb f1; replace f2 := old hb f2; replace f3 := old hb f3; replace f4 := old hb f4; replace f5 := old hb f5; replace f6 := old hb f6
    have B2_ := Lib.hid (B0.out.trans (hb.mono B0.out.size)); clear hb
    have hz1 : w.heap.size < w1.heap.size := cell_lt f1
    have hz2 : w.heap.size + 1 < w1.heap.size := cell_lt f3
    have hz3 : w.heap.size + 1 + 1 < w1.heap.size := cell_lt f5
    go_wp2_with fail
    go_ret
    exact ⟨ret_i64 (by rw [HR.out]), B2_.out⟩
  · have HR := Lib.hid (show trn a b c d e f = tr a b c d e f by unfold trn; rw [if_pos hv])
    obtain ⟨⟨a0, a1, b0', b1⟩, ⟨c0, c1, d0, d1⟩, ⟨e0, e1, f0', f1'⟩⟩ := v3_bd hv
    have HV := Lib.hid hv; clear hv
    obtain ⟨m1, m2⟩ := mulb (x := c - a) (y := f - b) (by omega) (by omega) (by omega) (by omega)
    obtain ⟨m3, m4⟩ := mulb (x := d - b) (y := e - a) (by omega) (by omega) (by omega) (by omega)
    go_enter Try.func18, Try.ntmps18
    go_wp2_with fail
    have HSZ := Lib.hid (show (((w.alloc (.cells #[.int .i64 a, .int .i64 b] 23)).alloc (.cells #[.int .i64 c, .int .i64 d] 23)).alloc (.cells #[.int .i64 e, .int .i64 f] 23)).heap.size = w.heap.size + 1 + 1 + 1 by simp)
    have I0 : ∀ W, W = ((w.alloc (.cells #[.int .i64 a, .int .i64 b] 23)).alloc (.cells #[.int .i64 c, .int .i64 d] 23)).alloc (.cells #[.int .i64 e, .int .i64 f] 23) → (W.cell? ⟨w.heap.size, 0, none⟩ = some (.int .i64 a) ∧ W.cell? ⟨w.heap.size, 1, none⟩ = some (.int .i64 b) ∧ W.cell? ⟨w.heap.size + 1, 0, none⟩ = some (.int .i64 c) ∧ W.cell? ⟨w.heap.size + 1, 1, none⟩ = some (.int .i64 d) ∧ W.cell? ⟨w.heap.size + 1 + 1, 0, none⟩ = some (.int .i64 e) ∧ W.cell? ⟨w.heap.size + 1 + 1, 1, none⟩ = some (.int .i64 f)) ∧ Below w.heap.size w W := by
      intro W e; subst e
      refine ⟨⟨by go_simp, by go_simp, by go_simp, by go_simp, by go_simp, by go_simp⟩, ?_⟩
      (repeat (first | exact Below.refl _ _ | (refine Below.alloc ?_ (by first | omega | (simp <;> omega)) _)))
    have J0 := I0 _ rfl; clear I0
    generalize ((w.alloc (.cells #[.int .i64 a, .int .i64 b] 23)).alloc (.cells #[.int .i64 c, .int .i64 d] 23)).alloc (.cells #[.int .i64 e, .int .i64 f] 23) = W0 at J0 HSZ ⊢
    obtain ⟨⟨f1, f2, f3, f4, f5, f6⟩, bb0⟩ := J0
    have B0 := Lib.hid bb0; clear bb0
    refine (all_any _ _ _ [(a, b), (c, d), (e, f)] _ (pts3 _ _ _ _ _ _ _ _ _ HSZ.out) (by omega)).mono ?_; rintro e' w1 ⟨rfl, hb'⟩; rw [allV3, HV.out]
    have hb := ((Below.refl _ _).alloc (Nat.le_refl _) _).trans (hb'.mono (by simp)); clear hb' HSZ
    replace f1 := old hb f1; replace f2 := old hb f2; replace f3 := old hb f3; replace f4 := old hb f4; replace f5 := old hb f5; replace f6 := old hb f6
    have B2_ := Lib.hid (B0.out.trans (hb.mono B0.out.size)); clear hb
    have hz1 : w.heap.size < w1.heap.size := cell_lt f1
    have hz2 : w.heap.size + 1 < w1.heap.size := cell_lt f3
    have hz3 : w.heap.size + 1 + 1 < w1.heap.size := cell_lt f5
    go_wp2_with fail
    go_ret
    exact ⟨ret_i64 (by rw [HR.out]; rfl), B2_.out⟩
set_option maxRecDepth 100000 in
set_option maxHeartbeats 4000000 in
theorem turnr_any (a b c d e f : Int) (w : World) : Calls Try.prog 19 #[pt a b, pt c d, pt e f] w fun e' w' => e' = .returned (.int .i64 (trn a b c d e f)) ∧ Below w.heap.size w w' := by
  cases hv : v3 a b c d e f
  · have HR := Lib.hid (show trn a b c d e f = 0 by unfold trn; rw [if_neg (by rw [hv]; simp)])
    have HV := Lib.hid hv; clear hv
    go_enter Try.func19, Try.ntmps19
    go_wp2_with fail
    have I0 : ∀ W, W = ((w.alloc (.cells #[.int .i64 a, .int .i64 b] 23)).alloc (.cells #[.int .i64 c, .int .i64 d] 23)).alloc (.cells #[.int .i64 e, .int .i64 f] 23) → (W.cell? ⟨w.heap.size, 0, none⟩ = some (.int .i64 a) ∧ W.cell? ⟨w.heap.size, 1, none⟩ = some (.int .i64 b) ∧ W.cell? ⟨w.heap.size + 1, 0, none⟩ = some (.int .i64 c) ∧ W.cell? ⟨w.heap.size + 1, 1, none⟩ = some (.int .i64 d) ∧ W.cell? ⟨w.heap.size + 1 + 1, 0, none⟩ = some (.int .i64 e) ∧ W.cell? ⟨w.heap.size + 1 + 1, 1, none⟩ = some (.int .i64 f)) ∧ Below w.heap.size w W := by
      intro W e; subst e
      refine ⟨⟨by go_simp, by go_simp, by go_simp, by go_simp, by go_simp, by go_simp⟩, ?_⟩
      (repeat (first | exact Below.refl _ _ | (refine Below.alloc ?_ (by first | omega | (simp <;> omega)) _)))
    have J0 := I0 _ rfl; clear I0
    generalize ((w.alloc (.cells #[.int .i64 a, .int .i64 b] 23)).alloc (.cells #[.int .i64 c, .int .i64 d] 23)).alloc (.cells #[.int .i64 e, .int .i64 f] 23) = W0 at J0 ⊢
    obtain ⟨⟨f1, f2, f3, f4, f5, f6⟩, bb0⟩ := J0
    have B0 := Lib.hid bb0; clear bb0
    refine (three_any _ _ _ _ _ _ _).mono ?_; rintro e w1 ⟨rfl, hb⟩; rw [HV.out]
    replace f1 := old hb f1; replace f2 := old hb f2; replace f3 := old hb f3; replace f4 := old hb f4; replace f5 := old hb f5; replace f6 := old hb f6
    have B2_ := Lib.hid (B0.out.trans (hb.mono B0.out.size)); clear hb
    have hz1 : w.heap.size < w1.heap.size := cell_lt f1
    have hz2 : w.heap.size + 1 < w1.heap.size := cell_lt f3
    have hz3 : w.heap.size + 1 + 1 < w1.heap.size := cell_lt f5
    go_wp2_with fail
    go_ret
    exact ⟨ret_i64 (by rw [HR.out]), B2_.out⟩
  · have HR := Lib.hid (show trn a b c d e f = tr a b c d e f by unfold trn; rw [if_pos hv])
    obtain ⟨⟨a0, a1, b0', b1⟩, ⟨c0, c1, d0, d1⟩, ⟨e0, e1, f0', f1'⟩⟩ := v3_bd hv
    have HV := Lib.hid hv; clear hv
    obtain ⟨m1, m2⟩ := mulb (x := c - a) (y := f - b) (by omega) (by omega) (by omega) (by omega)
    obtain ⟨m3, m4⟩ := mulb (x := d - b) (y := e - a) (by omega) (by omega) (by omega) (by omega)
    go_enter Try.func19, Try.ntmps19
    go_wp2_with fail
    have I0 : ∀ W, W = ((w.alloc (.cells #[.int .i64 a, .int .i64 b] 23)).alloc (.cells #[.int .i64 c, .int .i64 d] 23)).alloc (.cells #[.int .i64 e, .int .i64 f] 23) → (W.cell? ⟨w.heap.size, 0, none⟩ = some (.int .i64 a) ∧ W.cell? ⟨w.heap.size, 1, none⟩ = some (.int .i64 b) ∧ W.cell? ⟨w.heap.size + 1, 0, none⟩ = some (.int .i64 c) ∧ W.cell? ⟨w.heap.size + 1, 1, none⟩ = some (.int .i64 d) ∧ W.cell? ⟨w.heap.size + 1 + 1, 0, none⟩ = some (.int .i64 e) ∧ W.cell? ⟨w.heap.size + 1 + 1, 1, none⟩ = some (.int .i64 f)) ∧ Below w.heap.size w W := by
      intro W e; subst e
      refine ⟨⟨by go_simp, by go_simp, by go_simp, by go_simp, by go_simp, by go_simp⟩, ?_⟩
      (repeat (first | exact Below.refl _ _ | (refine Below.alloc ?_ (by first | omega | (simp <;> omega)) _)))
    have J0 := I0 _ rfl; clear I0
    generalize ((w.alloc (.cells #[.int .i64 a, .int .i64 b] 23)).alloc (.cells #[.int .i64 c, .int .i64 d] 23)).alloc (.cells #[.int .i64 e, .int .i64 f] 23) = W0 at J0 ⊢
    obtain ⟨⟨f1, f2, f3, f4, f5, f6⟩, bb0⟩ := J0
    have B0 := Lib.hid bb0; clear bb0
    refine (three_any _ _ _ _ _ _ _).mono ?_; rintro e w1 ⟨rfl, hb⟩; rw [HV.out]
    replace f1 := old hb f1; replace f2 := old hb f2; replace f3 := old hb f3; replace f4 := old hb f4; replace f5 := old hb f5; replace f6 := old hb f6
    have B2_ := Lib.hid (B0.out.trans (hb.mono B0.out.size)); clear hb
    have hz1 : w.heap.size < w1.heap.size := cell_lt f1
    have hz2 : w.heap.size + 1 < w1.heap.size := cell_lt f3
    have hz3 : w.heap.size + 1 + 1 < w1.heap.size := cell_lt f5
    go_wp2_with fail
    go_ret
    exact ⟨ret_i64 (by rw [HR.out]; rfl), B2_.out⟩
end Go.Proofs.Ytfabfnjfnildhaa
