/- Tiles: lives, Children and its reference. -/
import Derived.Test.YtoibhapjkeakbaaWi
namespace Go.Proofs.Ytoibhapjkeakbaa
open Go.ChangeShapes Go.WideShapes Go.ChangeAt Go.RowKit Go.Joins Go.Deep

theorem ts2 (w : World) (a b c d e f : Int) (t : TypeId) (g : Nat) (hg : w.heap.size = g) : TsAt (w.alloc (.cells #[.int .i64 a, .int .i64 b, .int .i64 c, .int .i64 d, .int .i64 e, .int .i64 f] t)) (.slice (some ⟨g, 0, none⟩) 2 2) [(a, b, c), (d, e, f)] := by
  subst hg
  refine ⟨_, _, rfl, Or.inr ⟨w.heap.size, 0, rfl, by simp, fun i hi => ?_⟩⟩
  have : i = 0 ∨ i = 1 := by simp at hi; omega
  rcases this with rfl | rfl <;> exact ⟨by go_simp, by go_simp, by go_simp⟩
theorem id_1 : idT 1 0 0 = 1 := by decide
theorem id_5 : idT 2 0 0 = 5 := by decide
theorem siz_7 : siz 7 = 256 := by decide
theorem cov_ex : covT 16384 0 16384 0 1 = [(1, 0, 0), (1, 1, 0)] := by decide
set_option maxHeartbeats 2000000 in
theorem lives_any (w : World) : Calls Try.prog 17 #[] w fun e w' => e = .returned (.bool true) ∧ Below w.heap.size w w' := by
  go_enter Try.func17, Try.ntmps17
  go_wp2_with fail
  refine (cover_any _ _ _ _ _ _).mono ?_; rintro e w1 ⟨v, rfl, ht, hb1⟩
  rw [cov_ex] at ht
  obtain ⟨a1, c1, e1⟩ := ht.form
  replace e1 : v = .slice a1 2 c1 := e1
  subst e1
  have HT := Lib.hid ht; have HB1 := Lib.hid hb1; clear ht hb1
  go_wp2_with fail
  refine (idT_any _ _ _ _).mono ?_; rintro e w2 ⟨rfl, hb2⟩; rw [id_1]
  have HB2 := Lib.hid hb2; clear hb2
  go_wp2_with fail
  refine (idT_any _ _ _ _).mono ?_; rintro e w3 ⟨rfl, hb3⟩; rw [id_5]
  have HB3 := Lib.hid hb3; clear hb3
  go_wp2_with fail
  have T1 : TsAt w3 (.slice a1 2 c1) [(1, 0, 0), (1, 1, 0)] := (HT.out.below HB2.out).below HB3.out
  refine (same_any (T1.below ((Below.refl _ _).alloc (Nat.le_refl _) _)) (ts2 w3 1 0 0 1 1 0 _ _ rfl) (by simp)).mono ?_; rintro e w4 ⟨rfl, hq⟩
  obtain ⟨q, rfl⟩ := hq
  clear T1
  go_wp2_with fail
  refine (size_any _ _).mono ?_; rintro e w5 ⟨rfl, rfl⟩; rw [siz_7]
  go_wp2_with fail
  go_ret
  refine ⟨rfl, ?_⟩
  have b1 := HB1.out; have b2 := HB2.out; have b3 := HB3.out
  have s1 := b1.size; have s2 := b2.size; have s3 := b3.size
  (repeat (first | exact Below.refl _ _ | (refine Below.drew ?_) | (refine below_drewN ?_ _) | (refine Below.alloc ?_ (by first | omega | (simp <;> omega)) _) | (refine Below.setCell ?_ (by first | omega | (simp <;> omega)) _) | (refine Below.trans ?_ (Below.mono (by assumption) (by first | omega | (simp <;> omega))))))
def chT (z x y : Int) : List Tl := if goodT z x y = true ∧ z ≠ 7 then btw (z + 1) (2 * x) (2 * y) 2 2 else []
theorem chT_no {z x y : Int} (h : ¬ (goodT z x y = true ∧ z ≠ 7)) : chT z x y = [] := by unfold chT; rw [if_neg h]
theorem chT_yes {z x y : Int} (h : goodT z x y = true ∧ z ≠ 7) : chT z x y = btw (z + 1) (2 * x) (2 * y) 2 2 := by unfold chT; rw [if_pos h]
set_option maxRecDepth 100000 in
set_option maxHeartbeats 4000000 in
theorem child_any (z x y : Int) (w : World) : Calls Try.prog 23 #[tl z x y] w (RetTs (chT z x y) w) := by
  have C : ∀ W, W = w.alloc (.cells #[.int .i64 z, .int .i64 x, .int .i64 y] 23) → W.cell? ⟨w.heap.size, 0, none⟩ = some (.int .i64 z) ∧ W.cell? ⟨w.heap.size, 1, none⟩ = some (.int .i64 x) ∧ W.cell? ⟨w.heap.size, 2, none⟩ = some (.int .i64 y) := by
    intro W e; subst e
    exact ⟨by go_simp, by go_simp, by go_simp⟩
  have C0 := Lib.hid (C _ rfl); clear C
  have HB0 := Lib.hid ((Below.refl w.heap.size w).alloc (Nat.le_refl _) (.cells #[.int .i64 z, .int .i64 x, .int .i64 y] 23))
  cases hg : goodT z x y
  · have HL := Lib.hid (chT_no (z := z) (x := x) (y := y) (by rw [hg]; simp))
    have HC := Lib.hid (show chkT z x y = 16 by unfold chkT; rw [if_neg (by rw [hg]; simp)])
    clear hg
    go_enter Try.func23, Try.ntmps23
    go_wp2_with fail
    generalize w.alloc (.cells #[.int .i64 z, .int .i64 x, .int .i64 y] 23) = W0 at C0 HB0 ⊢
    refine (checkT_any _ _ _ _).mono ?_; rintro e w1 ⟨rfl, hb1⟩; rw [HC.out]
    have HB1 := Lib.hid (HB0.out.trans (hb1.mono HB0.out.size)); clear hb1 HB0 C0
    go_wp2_with fail
    go_ret
    exact RetTs.nil HL.out HB1.out
  · have HC := Lib.hid (show chkT z x y = 0 by unfold chkT; rw [if_pos hg])
    by_cases hz : z = 7
    · have HL := Lib.hid (chT_no (z := z) (x := x) (y := y) (by rw [hz]; simp))
      subst hz
      clear hg
      go_enter Try.func23, Try.ntmps23
      go_wp2_with fail
      generalize w.alloc (.cells #[.int .i64 7, .int .i64 x, .int .i64 y] 23) = W0 at C0 HB0 ⊢
      refine (checkT_any _ _ _ _).mono ?_; rintro e w1 ⟨rfl, hb1⟩; rw [HC.out]
      obtain ⟨f0, f1, f2⟩ := C0.out
      replace f0 := old hb1 f0; replace f1 := old hb1 f1; replace f2 := old hb1 f2
      have HB1 := Lib.hid (HB0.out.trans (hb1.mono HB0.out.size)); clear hb1 HB0 C0
      go_wp2_with fail
      go_ret
      exact RetTs.nil HL.out HB1.out
    · have HL := Lib.hid (chT_yes ⟨hg, hz⟩)
      obtain ⟨g0, g1, g2, g3, g4, g5⟩ := goodT_iff.1 hg
      have cb := (cnt_bd g0 g1).2
      have g3b : x ≤ 127 := by omega
      have g5b : y ≤ 127 := by omega
      have hzb : (z == 7) = false := by simpa using hz
      clear hg g3 g5 cb hz
      go_enter Try.func23, Try.ntmps23
      go_wp2_with fail
      generalize w.alloc (.cells #[.int .i64 z, .int .i64 x, .int .i64 y] 23) = W0 at C0 HB0 ⊢
      refine (checkT_any _ _ _ _).mono ?_; rintro e w1 ⟨rfl, hb1⟩; rw [HC.out]
      obtain ⟨f0, f1, f2⟩ := C0.out
      replace f0 := old hb1 f0; replace f1 := old hb1 f1; replace f2 := old hb1 f2
      have HB1 := Lib.hid (HB0.out.trans (hb1.mono HB0.out.size)); clear hb1 HB0 C0
      go_wp2_with fail
      refine (between_any _ _ _ _ _ _ 2 2 _ (by omega) (by omega) (by omega) (by omega) (by omega) (by omega) (by omega) (by omega)).mono ?_; rintro e w2 ⟨v, rfl, ht, hb2⟩
      have HT := Lib.hid ht; clear ht
      have HB2 := Lib.hid hb2; clear hb2
      go_wp2_with fail
      go_ret
      have b1 := HB1.out; have b2 := HB2.out
      have s1 := b1.size; have s2 := b2.size
      refine ⟨_, rfl, (by rw [HL.out]; exact HT.out), ?_⟩
      (repeat (first | exact Below.refl _ _ | (refine Below.drew ?_) | (refine below_drewN ?_ _) | (refine Below.alloc ?_ (by first | omega | (simp <;> omega)) _) | (refine Below.setCell ?_ (by first | omega | (simp <;> omega)) _) | (refine Below.trans ?_ (Below.mono (by assumption) (by first | omega | (simp <;> omega))))))
end Go.Proofs.Ytoibhapjkeakbaa
