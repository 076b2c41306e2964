/- The Hilbert curve: HilbertBack, HilbertCells. -/
import Derived.Test.YtdiigackkbnkmaaHf
namespace Go.Proofs.Ytdiigackkbnkmaa
open Go.ChangeShapes Go.WideShapes Go.ChangeAt Go.RowKit Go.Joins Go.Deep

theorem idx_bd {x y : Int} (h : vldB x y = true) : okI (idx x y) = true := by
  obtain ⟨a, b, c, d⟩ := vldB_iff.1 h
  obtain ⟨u, v⟩ := hI_bd 15 a (by omega : x < 2 ^ 15) c (by omega : y < 2 ^ 15)
  unfold idx okI; rw [if_pos h]
  simp; exact ⟨u, v⟩
theorem back1 {x y : Int} (h : vldB x y = true) : pX (idx x y) = x ∧ pY (idx x y) = y := by
  obtain ⟨e1, e2⟩ := pX_yes (idx_bd h)
  obtain ⟨a, b, c, d⟩ := vldB_iff.1 h
  have e := hX_hI 15 a (by omega : x < 2 ^ 15) c (by omega : y < 2 ^ 15)
  rw [e1, e2]; unfold idx; rw [if_pos h, e]; exact ⟨rfl, rfl⟩
theorem back2 {i : Int} (h : okI i = true) : idx (pX i) (pY i) = i := by
  have hb := p_bd h
  obtain ⟨e1, e2⟩ := pX_yes h
  unfold okI at h; simp at h
  have e := hI_hX 15 h.1 (by omega : i < 4 ^ 15)
  unfold idx
  rw [if_pos (vldB_iff.2 hb), e1, e2]; exact e
set_option maxHeartbeats 8000000 in
theorem back_walk (x y i : Int) (w : World) :
    Calls Try.prog 11 #[pt x y, .int .i64 i] w fun e w' => e = .returned (.bool true) ∧ Below w.heap.size w w' := by
  have hi : (i < 0 ∧ okI i = false) ∨ (0 ≤ i ∧ 1073741824 ≤ i ∧ okI i = false) ∨ (0 ≤ i ∧ i < 1073741824 ∧ okI i = true) := by
    by_cases h : i < 0
    · exact Or.inl ⟨h, by unfold okI; simp; omega⟩
    · by_cases k : i < 1073741824
      · exact Or.inr (Or.inr ⟨by omega, k, by unfold okI; simp; omega⟩)
      · exact Or.inr (Or.inl ⟨by omega, by omega, by unfold okI; simp; omega⟩)
  have hv : (vldB x y = true ∧ 0 ≤ x ∧ x < 32768 ∧ 0 ≤ y ∧ y < 32768) ∨ (decide (0 ≤ x) = false) ∨ (0 ≤ x ∧ decide (x < 32768) = false) ∨ (0 ≤ x ∧ x < 32768 ∧ decide (0 ≤ y) = false) ∨ (0 ≤ x ∧ x < 32768 ∧ 0 ≤ y ∧ decide (y < 32768) = false) := by
    rw [vldB_iff]; simp; omega
  have S0 : Hid (∀ W, W = (w.alloc (.cells #[.int .i64 x, .int .i64 y] 23)).drew → Below w.heap.size w W ∧ W.cell? ⟨w.heap.size, 0, none⟩ = some (.int .i64 x) ∧ W.cell? ⟨w.heap.size, 1, none⟩ = some (.int .i64 y)) := by
    intro W e; subst e
    exact ⟨((Below.refl _ _).alloc (Nat.le_refl _) _).drew, by go_simp, by go_simp⟩
  rcases hv with ⟨hv, k1, k2, k3, k4⟩ | k1 | ⟨k1, k2⟩ | ⟨k1, k2, k3⟩ | ⟨k1, k2, k3, k4⟩
  · have B1 := Lib.hid (back1 hv).1; have B2 := Lib.hid (back1 hv).2; clear hv
    go_enter Try.func11, Try.ntmps11
    go_wp2_with fail
    go_region_held3 (fun w' => Below w.heap.size w w' ∧ w'.cell? ⟨w.heap.size, 0, none⟩ = some (.int .i64 x) ∧ w'.cell? ⟨w.heap.size, 1, none⟩ = some (.int .i64 y))
      (first | exact S0.out _ rfl | assumption | exact keep2 (by assumption) (by assumption))
      (first
        | (go_at_call 32; (with_reducible refine (index_any _ _ _).mono ?_); rintro en w1 ⟨rfl, b1⟩)
        | (go_at_call 35; (with_reducible refine (point_any _ _).mono ?_); rintro en w1 ⟨rfl, b1⟩; rw [B1.out, B2.out]))
    rename_i wq HW
    rcases hi with ⟨i1, HI⟩ | ⟨i1, i2, HI⟩ | ⟨i1, i2, HI⟩
    · clear HI
      go_wp2_with fail
      refine (livesH_any _).mono ?_; rintro e w3 ⟨rfl, hb3⟩
      go_wp2_with fail
      go_ret
      exact ⟨rfl, (bel_of HW).trans (hb3.mono (bel_of HW).size)⟩
    · clear HI
      go_wp2_with fail
      refine (livesH_any _).mono ?_; rintro e w3 ⟨rfl, hb3⟩
      go_wp2_with fail
      go_ret
      exact ⟨rfl, (bel_of HW).trans (hb3.mono (bel_of HW).size)⟩
    · have B3 := Lib.hid (back2 HI); clear HI
      have HX := Lib.hid (bel_of HW)
      clear HW
      go_wp2_with fail
      refine (point_any _ _).mono ?_; rintro e w3 ⟨rfl, hb3⟩
      have HX3 := Lib.hid (HX.out.trans (hb3.mono HX.out.size)); clear hb3
      go_wp2_with fail
      refine (index_any _ _ _).mono ?_; rintro e w4 ⟨rfl, hb4⟩; rw [B3.out]
      have HX4 := Lib.hid (HX3.out.trans (hb4.mono HX3.out.size)); clear hb4
      go_wp2_with fail
      refine (livesH_any _).mono ?_; rintro e w5 ⟨rfl, hb5⟩
      have HX5 := Lib.hid (HX4.out.trans (hb5.mono HX4.out.size)); clear hb5
      go_wp2_with fail
      go_ret
      exact ⟨rfl, HX5.out⟩
  all_goals
    clear S0
    go_enter Try.func11, Try.ntmps11
    go_wp2_with fail
    go_quiet (fail)
    have HW : ∀ nq, Below w.heap.size w ((w.alloc (.cells #[.int .i64 x, .int .i64 y] 23)).drewN nq) ∧ True := fun nq => ⟨below_drewN ((Below.refl _ _).alloc (Nat.le_refl _) _) nq, trivial⟩
    have HW := HW nq
    generalize (w.alloc (.cells #[.int .i64 x, .int .i64 y] 23)).drewN nq = wq at HW ⊢
    rcases hi with ⟨i1, HI⟩ | ⟨i1, i2, HI⟩ | ⟨i1, i2, HI⟩
    · clear HI
      go_wp2_with fail
      refine (livesH_any _).mono ?_; rintro e w3 ⟨rfl, hb3⟩
      go_wp2_with fail
      go_ret
      exact ⟨rfl, (bel_of HW).trans (hb3.mono (bel_of HW).size)⟩
    · clear HI
      go_wp2_with fail
      refine (livesH_any _).mono ?_; rintro e w3 ⟨rfl, hb3⟩
      go_wp2_with fail
      go_ret
      exact ⟨rfl, (bel_of HW).trans (hb3.mono (bel_of HW).size)⟩
    · have B3 := Lib.hid (back2 HI); clear HI
      have HX := Lib.hid (bel_of HW)
      clear HW
      go_wp2_with fail
      refine (point_any _ _).mono ?_; rintro e w3 ⟨rfl, hb3⟩
      have HX3 := Lib.hid (HX.out.trans (hb3.mono HX.out.size)); clear hb3
      go_wp2_with fail
      refine (index_any _ _ _).mono ?_; rintro e w4 ⟨rfl, hb4⟩; rw [B3.out]
      have HX4 := Lib.hid (HX3.out.trans (hb4.mono HX3.out.size)); clear hb4
      go_wp2_with fail
      refine (livesH_any _).mono ?_; rintro e w5 ⟨rfl, hb5⟩
      have HX5 := Lib.hid (HX4.out.trans (hb5.mono HX4.out.size)); clear hb5
      go_wp2_with fail
      go_ret
      exact ⟨rfl, HX5.out⟩

theorem hilbertBack_walk (vp : Value) (i : Int) (w : World) (hp : IsPt vp) (_ : (Lit.int .i64 i).wf = true) :
    Calls Try.prog 11 #[vp, .int .i64 i] w fun e w' => e = .returned (.bool true) ∧ Below w.heap.size w w' := by
  obtain ⟨x, y, rfl, _, _⟩ := hp
  exact back_walk x y i w
end Go.Proofs.Ytdiigackkbnkmaa
