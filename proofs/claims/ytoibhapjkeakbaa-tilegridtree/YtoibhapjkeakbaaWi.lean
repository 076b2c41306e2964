/- Tiles: Cover. -/
import Derived.Test.YtoibhapjkeakbaaWh
namespace Go.Proofs.Ytoibhapjkeakbaa
open Go.ChangeShapes Go.WideShapes Go.ChangeAt Go.RowKit Go.Joins Go.Deep

def cvF (s c a : Int) : Int := clampZ ((a - 1) / s) 0 (c - 1)
def cvL (s c a : Int) : Int := clampZ (a / s) 0 (c - 1)
theorem cv_bd {s c a b : Int} (hc : 1 ≤ c) (hc2 : c ≤ 128) (hs : 256 ≤ s) (h1 : a ≤ b) : 0 ≤ cvF s c a ∧ cvF s c a ≤ cvL s c b ∧ cvL s c b ≤ c - 1 := by
  have h : (a - 1) / s ≤ b / s := Int.ediv_le_ediv (by omega) (by omega)
  unfold cvF cvL clampZ
  generalize (a - 1) / s = p at *
  generalize b / s = q at *
  split <;> split <;> (try split) <;> (try split) <;> omega
def covM (z a c : Int) : Nat := (cvL (siz z) (cnt z) c - cvF (siz z) (cnt z) a + 1).toNat
def covT (a b c d z : Int) : List Tl := if goodB a b c d = true ∧ 0 ≤ z ∧ z ≤ 7 then btw z (cvF (siz z) (cnt z) a) (cvF (siz z) (cnt z) b) (covM z a c) (covM z b d) else []
theorem covT_no {a b c d z : Int} (h : ¬ (goodB a b c d = true ∧ 0 ≤ z ∧ z ≤ 7)) : covT a b c d z = [] := by unfold covT; rw [if_neg h]
theorem covT_yes {a b c d z : Int} (h : goodB a b c d = true ∧ 0 ≤ z ∧ z ≤ 7) : covT a b c d z = btw z (cvF (siz z) (cnt z) a) (cvF (siz z) (cnt z) b) (covM z a c) (covM z b d) := by unfold covT; rw [if_pos h]
theorem RetTs.nil {w w' : World} {l : List Tl} (h : l = []) (hb : Below w.heap.size w w') : RetTs l w (.returned (.slice none 0 0)) w' := by
  subst h; exact ⟨_, rfl, ⟨none, 0, rfl, Or.inl rfl⟩, hb⟩
set_option maxRecDepth 100000 in
set_option maxHeartbeats 4000000 in
theorem cover_any (a b c d z : Int) (w : World) : Calls Try.prog 29 #[bx a b c d, .int .i64 z] w (RetTs (covT a b c d z) w) := by
  have C : ∀ W, W = w.alloc (.cells #[.int .i64 a, .int .i64 b, .int .i64 c, .int .i64 d] 27) → W.cell? ⟨w.heap.size, 0, none⟩ = some (.int .i64 a) ∧ W.cell? ⟨w.heap.size, 1, none⟩ = some (.int .i64 b) ∧ W.cell? ⟨w.heap.size, 2, none⟩ = some (.int .i64 c) ∧ W.cell? ⟨w.heap.size, 3, none⟩ = some (.int .i64 d) := by
    intro W e; subst e
    exact ⟨by go_simp, by go_simp, by go_simp, by go_simp⟩
  have C0 := Lib.hid (C _ rfl); clear C
  have HB0 := Lib.hid ((Below.refl w.heap.size w).alloc (Nat.le_refl _) (.cells #[.int .i64 a, .int .i64 b, .int .i64 c, .int .i64 d] 27))
  by_cases hgz : goodB a b c d = true ∧ 0 ≤ z ∧ z ≤ 7
  · have HL := Lib.hid (covT_yes hgz)
    obtain ⟨hg, z0, z1⟩ := hgz
    obtain ⟨g0, g1, g2, g3, g4, g5⟩ := goodB_iff.1 hg
    have HC := Lib.hid (chk_yes hg)
    obtain ⟨_, e2, e3, e4⟩ := siz_in z0 z1
    obtain ⟨c0, c1⟩ := cnt_bd z0 z1
    obtain ⟨x1, x2, x3⟩ := cv_bd (a := a) (b := c) c0 c1 e3 (by omega)
    obtain ⟨y1, y2, y3⟩ := cv_bd (a := b) (b := d) c0 c1 e3 (by omega)
    have HZ := Lib.hid (show nz z = z from clamp_eq.2 ⟨z0, z1⟩)
    have N1 := Lib.hid (show nx z ((a - 1) / siz z) = cvF (siz z) (cnt z) a by unfold nx cvF; rw [HZ.out])
    have N2 := Lib.hid (show nx z ((b - 1) / siz z) = cvF (siz z) (cnt z) b by unfold nx cvF; rw [HZ.out])
    have N3 := Lib.hid (show nx z (c / siz z) = cvL (siz z) (cnt z) c by unfold nx cvL; rw [HZ.out])
    have N4 := Lib.hid (show nx z (d / siz z) = cvL (siz z) (cnt z) d by unfold nx cvL; rw [HZ.out])
    have M1 := Lib.hid (show cvL (siz z) (cnt z) c - cvF (siz z) (cnt z) a + 1 = ((covM z a c : Nat) : Int) ∧ covM z a c ≤ 128 by unfold covM; omega)
    have M2 := Lib.hid (show cvL (siz z) (cnt z) d - cvF (siz z) (cnt z) b + 1 = ((covM z b d : Nat) : Int) ∧ covM z b d ≤ 128 by unfold covM; omega)
    generalize cvF (siz z) (cnt z) a = FX at *
    generalize cvF (siz z) (cnt z) b = FY at *
    generalize cvL (siz z) (cnt z) c = LX at *
    generalize cvL (siz z) (cnt z) d = LY at *
    generalize covM z a c = mm at *
    generalize covM z b d = nn at *
    clear e2 hg
    obtain ⟨s, hs⟩ : ∃ s, siz z = s := ⟨_, rfl⟩
    rw [hs] at e3 e4 N1 N2 N3 N4
    have HS := Lib.hid hs; clear hs
    have k1 : IntKind.i64.wrap (a - 1) = a - 1 := w64 (by omega) (by omega)
    have k2 : IntKind.i64.wrap (b - 1) = b - 1 := w64 (by omega) (by omega)
    have K1 := Lib.hid k1; have K2 := Lib.hid k2; clear k1 k2
    have ne : ¬ (s = 0) := by omega
    have FA := Lib.hid (fun W => floor_any (a - 1) s W (by omega) (by omega) (by omega) (by omega))
    have FB := Lib.hid (fun W => floor_any (b - 1) s W (by omega) (by omega) (by omega) (by omega))
    go_enter Try.func29, Try.ntmps29
    go_wp2_with fail
    generalize w.alloc (.cells #[.int .i64 a, .int .i64 b, .int .i64 c, .int .i64 d] 27) = W0 at C0 HB0 ⊢
    refine (size_any _ _).mono ?_; rintro e w1 ⟨rfl, rfl⟩; rw [HS.out]
    obtain ⟨f0, f1, f2, f3⟩ := C0.out
    go_wp2_with fail
    refine (check_any _ _ _ _ _).mono ?_; rintro e w1 ⟨rfl, hb1⟩; rw [HC.out]
    replace f0 := old hb1 f0; replace f1 := old hb1 f1; replace f2 := old hb1 f2; replace f3 := old hb1 f3
    have HB1 := Lib.hid (HB0.out.trans (hb1.mono HB0.out.size)); clear hb1 HB0 C0
    have hz : w.heap.size < w1.heap.size := cell_lt f0
    have dx := Int.ediv_nonneg (show 0 ≤ c by omega) (show 0 ≤ s by omega)
    have dy := Int.ediv_nonneg (show 0 ≤ d by omega) (show 0 ≤ s by omega)
    have dx2 := Int.ediv_le_self s (show 0 ≤ c by omega)
    have dy2 := Int.ediv_le_self s (show 0 ≤ d by omega)
    have tx : c.tdiv s = c / s := Int.tdiv_eq_ediv_of_nonneg (by omega)
    have ty : d.tdiv s = d / s := Int.tdiv_eq_ediv_of_nonneg (by omega)
    have TX := Lib.hid tx; have TY := Lib.hid ty; clear tx ty
    generalize c / s = CX at *
    generalize d / s = DY at *
    generalize (a - 1) / s = AX at *
    generalize (b - 1) / s = BY at *
    go_upto_region 4 with (fail)
    go_cut [6] (fun s6 wx => s6 = .pointer (some ⟨w1.heap.size, 0, none⟩) ∧ wx = (w1.alloc (.cells #[.int .i64 z, .int .i64 AX, .int .i64 BY] 23)).drew)
    case first =>
      have k1 := K1.out; have k2 := K2.out
      go_region_with (first | (go_at_call 40; (with_reducible refine (FA.out _).mono ?_); rintro e w' ⟨rfl, rfl⟩) | (go_at_call 40; (with_reducible refine (FB.out _).mono ?_); rintro e w' ⟨rfl, rfl⟩))
      all_goals (go_wp2_with fail)
      all_goals go_meet
      all_goals exact ⟨rfl, rfl⟩
    case rest =>
      obtain ⟨rfl, rfl⟩ := hcut
      clear FA FB
      have tx := TX.out; have ty := TY.out
      have S0 : Hid (∀ W, W = ((w1.alloc (.cells #[.int .i64 z, .int .i64 AX, .int .i64 BY] 23)).alloc (.cells #[.int .i64 z, .int .i64 CX, .int .i64 DY] 23)).drew.drew.drew → Below w.heap.size w W ∧ W.cell? ⟨w1.heap.size, 0, none⟩ = some (.int .i64 z) ∧ W.cell? ⟨w1.heap.size, 1, none⟩ = some (.int .i64 AX) ∧ W.cell? ⟨w1.heap.size, 2, none⟩ = some (.int .i64 BY) ∧ W.cell? ⟨w1.heap.size + 1, 0, none⟩ = some (.int .i64 z) ∧ W.cell? ⟨w1.heap.size + 1, 1, none⟩ = some (.int .i64 CX) ∧ W.cell? ⟨w1.heap.size + 1, 2, none⟩ = some (.int .i64 DY)) := by
        intro W e; subst e
        refine ⟨?_, by go_simp, by go_simp, by go_simp, by go_simp, by go_simp, by go_simp⟩
        have hs := HB1.out.size
        exact ((((HB1.out.alloc (by omega) _).alloc (by simp; omega) _).drew).drew).drew
      have NA := Lib.hid (fun W => near_any z AX BY W)
      have NB := Lib.hid (fun W => near_any z CX DY W)
      rw [HZ.out, N1.out, N2.out] at NA
      rw [HZ.out, N3.out, N4.out] at NB
      have BT := Lib.hid (fun W => between_any z FX FY z LX LY mm nn W (by omega) (by omega) (by omega) (by omega) M1.out.2 M2.out.2 M1.out.1 M2.out.1)
      go_wp2_with fail
      go_region
      clear tx ty
      go_wp2_with fail
      go_region_held3 (fun w' => Below w.heap.size w w' ∧ w'.cell? ⟨w1.heap.size, 0, none⟩ = some (.int .i64 z) ∧ w'.cell? ⟨w1.heap.size, 1, none⟩ = some (.int .i64 AX) ∧ w'.cell? ⟨w1.heap.size, 2, none⟩ = some (.int .i64 BY) ∧ w'.cell? ⟨w1.heap.size + 1, 0, none⟩ = some (.int .i64 z) ∧ w'.cell? ⟨w1.heap.size + 1, 1, none⟩ = some (.int .i64 CX) ∧ w'.cell? ⟨w1.heap.size + 1, 2, none⟩ = some (.int .i64 DY))
        (first | exact S0.out _ rfl | assumption | exact keep6 (by assumption) (by assumption))
        (first | (go_at_call 35; (with_reducible refine (NA.out _).mono ?_); rintro e w2 ⟨rfl, b2⟩) | (go_at_call 35; (with_reducible refine (NB.out _).mono ?_); rintro e w2 ⟨rfl, b2⟩) | (go_at_call 38; (with_reducible refine (BT.out _).mono ?_); rintro e w2 ⟨v, rfl, ht, b2⟩))
      all_goals go_wp2
      all_goals go_ret
      all_goals exact ⟨_, rfl, (by rw [HL.out]; exact ht), bel_of (by assumption)⟩
  · have HL := Lib.hid (covT_no hgz)
    cases hg : goodB a b c d
    · have HC := Lib.hid (chk_no hg)
      clear hgz hg
      obtain ⟨s, hs⟩ : ∃ s, siz z = s := ⟨_, rfl⟩
      have HS := Lib.hid hs; clear hs
      go_enter Try.func29, Try.ntmps29
      go_wp2_with fail
      generalize w.alloc (.cells #[.int .i64 a, .int .i64 b, .int .i64 c, .int .i64 d] 27) = W0 at C0 HB0 ⊢
      refine (size_any _ _).mono ?_; rintro e w1 ⟨rfl, rfl⟩; rw [HS.out]
      obtain ⟨f0, f1, f2, f3⟩ := C0.out
      go_wp2_with fail
      refine (check_any _ _ _ _ _).mono ?_; rintro e w1 ⟨rfl, hb1⟩; rw [HC.out]
      have HB1 := Lib.hid (HB0.out.trans (hb1.mono HB0.out.size)); clear hb1 HB0 C0
      go_wp2_with fail
      go_ret
      exact RetTs.nil HL.out HB1.out
    · have HC := Lib.hid (chk_yes hg)
      have HS := Lib.hid (siz_out (z := z) (by simp [hg] at hgz; omega))
      clear hgz hg
      go_enter Try.func29, Try.ntmps29
      go_wp2_with fail
      generalize w.alloc (.cells #[.int .i64 a, .int .i64 b, .int .i64 c, .int .i64 d] 27) = W0 at C0 HB0 ⊢
      refine (size_any _ _).mono ?_; rintro e w1 ⟨rfl, rfl⟩; rw [HS.out]
      obtain ⟨f0, f1, f2, f3⟩ := C0.out
      go_wp2_with fail
      refine (check_any _ _ _ _ _).mono ?_; rintro e w1 ⟨rfl, hb1⟩; rw [HC.out]
      have HB1 := Lib.hid (HB0.out.trans (hb1.mono HB0.out.size)); clear hb1 HB0 C0
      go_wp2_with fail
      go_ret
      exact RetTs.nil HL.out HB1.out
end Go.Proofs.Ytoibhapjkeakbaa
