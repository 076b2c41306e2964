/- GridInverse. -/
import Derived.Test.YtahaigamigkhbaaWl
namespace Go.Proofs.Ytahaigamigkhbaa
open Go.ChangeShapes Go.WideShapes Go.ChangeAt Go.RowKit Go.Joins Go.Deep

/- what the second half of the law asks of two projected coordinates -/
def Half (c1 c2 d1 d2 a1 a2 ge b1 b2 he : Int) : Prop :=
  (ge = 11) ∨ (ge = 0 ∧ vldB a1 a2 = true ∧ he = 11) ∨ (ge = 0 ∧ vldB a1 a2 = true ∧ he = 0 ∧ (d1 < c1 ∨ c1 ≤ d1 ∧ a1 ≤ b1) ∧ (d2 < c2 ∨ c2 ≤ d2 ∧ b2 ≤ a2))
theorem half_any (c1 c2 d1 d2 : Int) : Half c1 c2 d1 d2 (prX c1 c2) (prY c1 c2) (prE c1 c2) (prX d1 d2) (prY d1 d2) (prE d1 d2) := by
  unfold Half prX prY prE
  cases hc : inB c1 c2
  · left; rfl
  · right
    obtain ⟨h1, h2, h3, h4⟩ := inB_iff.1 hc
    have v : vldB (px c1) (py c2) = true := by
      rw [vldB_iff]; have := px_bd h1 h2; have := py_bd h3 h4; omega
    simp only [if_true]
    cases hd : inB d1 d2
    · left; exact ⟨by simp, v, by simp⟩
    · right
      refine ⟨by simp, v, by simp, ?_, ?_⟩
      · by_cases h : c1 ≤ d1
        · right; exact ⟨h, px_mono h⟩
        · left; omega
      · by_cases h : c2 ≤ d2
        · right; exact ⟨h, py_mono h⟩
        · left; omega
def Inv (x y e q1 q2 f : Int) (v : Bool) : Prop := (v = true ∧ e = 0 ∧ f = 0 ∧ x = q1 ∧ y = q2) ∨ (v = false ∧ e = 11)
theorem inv_any (x y : Int) : Inv x y (ctE x y) (prX (ctX x y) (ctY x y)) (prY (ctX x y) (ctY x y)) (prE (ctX x y) (ctY x y)) (vldB x y) := by
  unfold Inv
  cases hv : vldB x y
  · right; unfold ctE; rw [hv]; exact ⟨rfl, rfl⟩
  · left
    obtain ⟨h1, h2, h3, h4⟩ := vldB_iff.1 hv
    have e1 : ctX x y = cx x := by unfold ctX; rw [if_pos hv]
    have e2 : ctY x y = cy y := by unfold ctY; rw [if_pos hv]
    have e3 : ctE x y = 0 := by unfold ctE; rw [if_pos hv]
    have hi : inB (cx x) (cy y) = true := by
      rw [inB_iff]; have := cx_bd h1 h2; have := cy_bd h3 h4; omega
    rw [e1, e2, e3]
    refine ⟨rfl, rfl, ?_, ?_, ?_⟩
    · unfold prE; rw [if_pos hi]
    · unfold prX; rw [if_pos hi, px_cx h1 h2]
    · unfold prY; rw [if_pos hi, py_cy h3 h4]

set_option maxRecDepth 100000 in
set_option maxHeartbeats 16000000 in
theorem gridInverse_walk (vp vc vd : Value) (w : World) (hp : ∃ x y, vp = pt x y) (hc : ∃ x y, vc = pt x y) (hd : ∃ x y, vd = pt x y) :
    Calls Try.prog 6 #[vp, vc, vd] w fun e w' => e = .returned (.bool true) ∧ Below w.heap.size w w' := by
  obtain ⟨x, y, rfl⟩ := hp
  obtain ⟨c1, c2, rfl⟩ := hc
  obtain ⟨d1, d2, rfl⟩ := hd
  have HH := half_any c1 c2 d1 d2
  have HI := inv_any x y
  obtain ⟨a1, q⟩ : ∃ z, prX c1 c2 = z := ⟨_, rfl⟩
  rw [q] at HH; have A1 := Lib.hid q; clear q
  obtain ⟨a2, q⟩ : ∃ z, prY c1 c2 = z := ⟨_, rfl⟩
  rw [q] at HH; have A2 := Lib.hid q; clear q
  obtain ⟨ge, q⟩ : ∃ z, prE c1 c2 = z := ⟨_, rfl⟩
  rw [q] at HH; have A3 := Lib.hid q; clear q
  obtain ⟨b1, q⟩ : ∃ z, prX d1 d2 = z := ⟨_, rfl⟩
  rw [q] at HH; have D1 := Lib.hid q; clear q
  obtain ⟨b2, q⟩ : ∃ z, prY d1 d2 = z := ⟨_, rfl⟩
  rw [q] at HH; have D2 := Lib.hid q; clear q
  obtain ⟨he, q⟩ : ∃ z, prE d1 d2 = z := ⟨_, rfl⟩
  rw [q] at HH; have D3 := Lib.hid q; clear q
  obtain ⟨X, q⟩ : ∃ z, ctX x y = z := ⟨_, rfl⟩
  rw [q] at HI; have C1 := Lib.hid q; clear q
  obtain ⟨Y, q⟩ : ∃ z, ctY x y = z := ⟨_, rfl⟩
  rw [q] at HI; have C2 := Lib.hid q; clear q
  obtain ⟨ce, q⟩ : ∃ z, ctE x y = z := ⟨_, rfl⟩
  rw [q] at HI; have C3 := Lib.hid q; clear q
  obtain ⟨q1, q⟩ : ∃ z, prX X Y = z := ⟨_, rfl⟩
  rw [q] at HI; have E1 := Lib.hid q; clear q
  obtain ⟨q2, q⟩ : ∃ z, prY X Y = z := ⟨_, rfl⟩
  rw [q] at HI; have E2 := Lib.hid q; clear q
  obtain ⟨fe, q⟩ : ∃ z, prE X Y = z := ⟨_, rfl⟩
  rw [q] at HI; have E3 := Lib.hid q; clear q
  obtain ⟨vv, q⟩ : ∃ z, vldB x y = z := ⟨_, rfl⟩
  rw [q] at HI; have V := Lib.hid q; clear q
  obtain ⟨va, q⟩ : ∃ z, vldB a1 a2 = z := ⟨_, rfl⟩
  unfold Half at HH; unfold Inv at HI
  rw [q] at HH; have VA := Lib.hid q; clear q
  rcases HI with ⟨rfl, rfl, rfl, rfl, rfl⟩ | ⟨rfl, rfl⟩
  all_goals rcases HH with rfl | ⟨rfl, rfl, rfl⟩ | ⟨rfl, rfl, rfl, g1 | ⟨g1, g2⟩, g3 | ⟨g3, g4⟩⟩
  all_goals
    go_enter Try.func6, Try.ntmps6
    go_wp2_with fail
    refine (center_any _ _ _).mono ?_; rintro e w1 ⟨rfl, hb⟩; rw [C1.out, C2.out, C3.out]
    have B1 : Hid (Below w.heap.size w w1) := by show Below _ _ _; (repeat (first | exact Below.refl _ _ | (refine Below.drew ?_) | (refine below_drewN ?_ _) | (refine Below.alloc ?_ (by first | omega | (simp <;> omega)) _) | (refine Below.setCell ?_ (by first | omega | (simp <;> omega)) _) | (refine Below.trans ?_ (Below.mono (by assumption) (by first | omega | (simp <;> omega))))))
    have P1 := Lib.hid (And.intro (old hb (show World.cell? _ ⟨w.heap.size, 0, none⟩ = some (.int .i64 x) by go_simp)) (old hb (show World.cell? _ ⟨w.heap.size, 1, none⟩ = some (.int .i64 y) by go_simp)))
    have Q1 := Lib.hid (And.intro (old hb (show World.cell? _ ⟨w.heap.size + 1, 0, none⟩ = some (.int .i64 c1) by go_simp)) (old hb (show World.cell? _ ⟨w.heap.size + 1, 1, none⟩ = some (.int .i64 c2) by go_simp)))
    have R1 := Lib.hid (And.intro (old hb (show World.cell? _ ⟨w.heap.size + 1 + 1, 0, none⟩ = some (.int .i64 d1) by go_simp)) (old hb (show World.cell? _ ⟨w.heap.size + 1 + 1, 1, none⟩ = some (.int .i64 d2) by go_simp)))
    clear hb
    go_wp2_with fail
    refine (project_any _ _ _).mono ?_; rintro e w2 ⟨rfl, hb⟩; rw [E1.out, E2.out, E3.out]
    have B2 := Lib.hid (bel_al B1.out hb)
    have P2 := Lib.hid (two_old P1.out hb); have Q2 := Lib.hid (two_old Q1.out hb); have R2 := Lib.hid (two_old R1.out hb)
    obtain ⟨p1, p2⟩ := P2.out
    have z1 : w.heap.size < w2.heap.size := cell_lt p1
    clear hb P1 Q1 R1 B1
    go_wp2_with fail
    refine (valid_any _ _ _).mono ?_; rintro e w3 ⟨rfl, hb⟩; rw [V.out]
    have T3 := Lib.hid (two hb)
    have B3 := Lib.hid (bel_al B2.out hb)
    have P3 := Lib.hid (two_old P2.out hb); have Q3 := Lib.hid (two_old Q2.out hb); have R3 := Lib.hid (two_old R2.out hb)
    clear p1 p2 z1
    obtain ⟨p1, p2⟩ := P3.out; obtain ⟨k1, k2⟩ := Q3.out; obtain ⟨r1, r2⟩ := R3.out; obtain ⟨t1, t2⟩ := T3.out
    clear hb P2 Q2 R2 B2
    go_wp2_with fail
    refine (project_any _ _ _).mono ?_; rintro e w4 ⟨rfl, hb⟩; rw [A1.out, A2.out, A3.out]
    have B4 := Lib.hid (B3.out.trans (hb.mono B3.out.size))
    have Q4' := Lib.hid (And.intro (old hb Q3.out.1) (old hb Q3.out.2)); have R4 := Lib.hid (And.intro (old hb R3.out.1) (old hb R3.out.2))
    clear p1 p2 k1 k2 r1 r2 t1 t2 hb P3 Q3 R3 T3 B3
    obtain ⟨k1, k2⟩ := Q4'.out; obtain ⟨r1, r2⟩ := R4.out
    have z1 : w.heap.size + 1 < w4.heap.size := cell_lt k1
    have z2 : w.heap.size + 1 + 1 < w4.heap.size := cell_lt r1
    go_wp2_with fail
    refine (project_any _ _ _).mono ?_; rintro e w5 ⟨rfl, hb⟩; rw [D1.out, D2.out, D3.out]
    have T5 := Lib.hid (two hb)
    have B5 := Lib.hid (bel_al B4.out hb)
    have Q5 := Lib.hid (two_old Q4'.out hb); have R5 := Lib.hid (two_old R4.out hb)
    clear k1 k2 r1 r2 hb z1 z2 Q4' R4 B4
    obtain ⟨k1, k2⟩ := Q5.out; obtain ⟨r1, r2⟩ := R5.out; obtain ⟨t1, t2⟩ := T5.out
    have z1 : w.heap.size + 1 < w5.heap.size := cell_lt k1
    have z2 : w.heap.size + 1 + 1 < w5.heap.size := cell_lt r1
    have z3 : w4.heap.size < w5.heap.size := cell_lt t1
  all_goals first
    | (go_wp2_with fail
       refine (lives_any _).mono ?_; rintro e w6 ⟨rfl, hb⟩
       have B6 := Lib.hid (bel_al B5.out hb)
       clear hb
       go_wp2_with fail
       go_ret
       exact ⟨rfl, B6.out⟩)
    | (go_wp2_with fail
       refine (valid_any _ _ _).mono ?_; rintro e w6 ⟨rfl, hb⟩; rw [VA.out]
       have U6 := Lib.hid (two hb)
       have B6 := Lib.hid (bel_al B5.out hb)
       have Q6 := Lib.hid (two_old Q5.out hb); have R6 := Lib.hid (two_old R5.out hb); have T6 := Lib.hid (two_old T5.out hb)
       clear k1 k2 r1 r2 t1 t2 z1 z2 z3 hb Q5 R5 T5 B5
       obtain ⟨k1, k2⟩ := Q6.out; obtain ⟨r1, r2⟩ := R6.out; obtain ⟨t1, t2⟩ := T6.out; obtain ⟨u1, u2⟩ := U6.out
       go_wp2_with fail
       refine (lives_any _).mono ?_; rintro e w7 ⟨rfl, hb⟩
       have B7 := Lib.hid (B6.out.trans (hb.mono B6.out.size))
       clear hb
       go_wp2_with fail
       go_ret
       exact ⟨rfl, B7.out⟩)
end Go.Proofs.Ytahaigamigkhbaa
