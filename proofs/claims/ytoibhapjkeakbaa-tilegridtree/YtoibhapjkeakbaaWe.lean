/- Tiles: the reference's Of; ID and Tile with their references. -/
import Derived.Test.YtoibhapjkeakbaaWd
namespace Go.Proofs.Ytoibhapjkeakbaa
open Go.ChangeShapes Go.WideShapes Go.ChangeAt Go.RowKit Go.Joins Go.Deep

set_option maxHeartbeats 2000000 in
theorem ofTr_any (x y z : Int) (w : World) :
    Calls Try.prog 12 #[pt x y, .int .i64 z] w fun e w' => e = .returned (ofT x y z) ∧ Below w.heap.size w w' := by
  cases hv : vldB x y
  · have HV := Lib.hid hv; 
    have HO := Lib.hid (of_bad (z := z) hv); clear hv
    go_enter Try.func12, Try.ntmps12
    go_wp2_with fail
    refine (validr_any _ _ _).mono ?_; rintro e w1 ⟨rfl, hb1⟩; rw [HV.out]
    obtain ⟨hc1, hf1⟩ := bcell hb1
    have hz10 : w.heap.size < w1.heap.size := by have := hb1.size; (try simp at this); omega
    have hz11 : w.heap.size + 1 < w1.heap.size := by have := hb1.size; (try simp at this); omega
    have HB1 := Lib.hid hb1; clear hb1
    go_wp2_with fail
    refine bodyPost_ret (by simp [results, Try.results12, go_sem, hc1]; rfl) rfl ⟨?_, ?_⟩
    · exact HO.out.symm
    · have hb1 := HB1.out
      (repeat (first | exact Below.refl _ _ | (refine Below.drew ?_) | (refine below_drewN ?_ _) | (refine Below.alloc ?_ (by first | omega | (simp <;> omega)) _) | (refine Below.setCell ?_ (by first | omega | (simp <;> omega)) _) | (refine Below.trans ?_ (Below.mono (by assumption) (by first | omega | (simp <;> omega))))))
  · have HV := Lib.hid hv
    obtain ⟨x0, x1, y0, y1⟩ := vldB_iff.1 hv
    by_cases hz : 0 ≤ z ∧ z ≤ 7
    · obtain ⟨z0, z1⟩ := hz
      have HO := Lib.hid (of_ok hv z0 z1)
      obtain ⟨_, e2, e3, e4⟩ := siz_in z0 z1
      obtain ⟨s, hs⟩ : ∃ s, siz z = s := ⟨_, rfl⟩
      rw [hs] at HO e3 e4
      have HS := Lib.hid hs
      clear hs e2 hv
      have tx : x.tdiv s = x / s := Int.tdiv_eq_ediv_of_nonneg x0
      have ty : y.tdiv s = y / s := Int.tdiv_eq_ediv_of_nonneg y0
      have q0 : 0 ≤ x / s := Int.ediv_nonneg x0 (by omega)
      have q1 : x / s ≤ x := Int.ediv_le_self s x0
      have r0 : 0 ≤ y / s := Int.ediv_nonneg y0 (by omega)
      have r1 : y / s ≤ y := Int.ediv_le_self s y0
      have ne : ¬ (s = 0) := by omega
      obtain ⟨X, hX⟩ : ∃ X, x / s = X := ⟨_, rfl⟩
      obtain ⟨Y, hY⟩ : ∃ Y, y / s = Y := ⟨_, rfl⟩
      rw [hX] at tx q0 q1 HO; rw [hY] at ty r0 r1 HO
      clear hX hY
      have wX := Lib.hid (w64 (z := X) (by omega) (by omega)); have wY := Lib.hid (w64 (z := Y) (by omega) (by omega))
      go_enter Try.func12, Try.ntmps12
      go_wp2_with fail
      refine (validr_any _ _ _).mono ?_; rintro e w1 ⟨rfl, hb1⟩; rw [HV.out]
      obtain ⟨hc1, hf1⟩ := bcell hb1
      have hz10 : w.heap.size < w1.heap.size := by have := hb1.size; (try simp at this); omega
      have hz11 : w.heap.size + 1 < w1.heap.size := by have := hb1.size; (try simp at this); omega
      have HB1 := Lib.hid hb1; clear hb1
      go_wp2_with fail
      refine (sizer_any _ _).mono ?_; rintro e w2 ⟨rfl, rfl⟩; rw [HS.out]
      go_wp2_with fail
      have wx := wX.out; have wy := wY.out
      have a0 : w1.cell? ⟨w.heap.size, 0, none⟩ = some (.int .i64 x) := by rw [hc1 _ _ (by simp; omega)]; go_simp
      have a1 : w1.cell? ⟨w.heap.size, 1, none⟩ = some (.int .i64 y) := by rw [hc1 _ _ (by simp; omega)]; go_simp
      go_region_held3 (fun w' => w'.cell? ⟨w.heap.size, 0, none⟩ = some (.int .i64 x) ∧ w'.cell? ⟨w.heap.size, 1, none⟩ = some (.int .i64 y))
        (go_keep) (first | (go_at_call 16; (with_reducible refine (sizer_any _ _).mono ?_); rintro e w' ⟨rfl, rfl⟩; rw [HS.out]))
      all_goals go_wp2
      all_goals
        refine bodyPost_ret (by simp [results, Try.results12, go_sem, hc1]; rfl) rfl ⟨?_, ?_⟩
        · exact HO.out.symm
        · have hb1 := HB1.out
          (repeat (first | exact Below.refl _ _ | (refine Below.drew ?_) | (refine below_drewN ?_ _) | (refine Below.alloc ?_ (by first | omega | (simp <;> omega)) _) | (refine Below.setCell ?_ (by first | omega | (simp <;> omega)) _) | (refine Below.trans ?_ (Below.mono (by assumption) (by first | omega | (simp <;> omega))))))
    · have HO := Lib.hid (of_out (x := x) (y := y) (z := z) hv hz); clear hv
      have HS := Lib.hid (siz_out (z := z) (by omega))
      go_enter Try.func12, Try.ntmps12
      go_wp2_with fail
      refine (validr_any _ _ _).mono ?_; rintro e w1 ⟨rfl, hb1⟩; rw [HV.out]
      obtain ⟨hc1, hf1⟩ := bcell hb1
      have hz10 : w.heap.size < w1.heap.size := by have := hb1.size; (try simp at this); omega
      have hz11 : w.heap.size + 1 < w1.heap.size := by have := hb1.size; (try simp at this); omega
      have HB1 := Lib.hid hb1; clear hb1
      go_wp2_with fail
      refine (sizer_any _ _).mono ?_; rintro e w2 ⟨rfl, rfl⟩; rw [HS.out]
      go_wp2_with fail
      refine bodyPost_ret (by simp [results, Try.results12, go_sem, hc1]; rfl) rfl ⟨?_, ?_⟩
      · exact HO.out.symm
      · have hb1 := HB1.out
        (repeat (first | exact Below.refl _ _ | (refine Below.drew ?_) | (refine below_drewN ?_ _) | (refine Below.alloc ?_ (by first | omega | (simp <;> omega)) _) | (refine Below.setCell ?_ (by first | omega | (simp <;> omega)) _) | (refine Below.trans ?_ (Below.mono (by assumption) (by first | omega | (simp <;> omega))))))

/-- The number of tiles of the zooms below z. -/
def bef (z : Int) : Int := (4 ^ z.toNat - 1) / 3
def idT (z x y : Int) : Int := if goodT z x y = true then bef z + y * cnt z + x else -1
theorem bef_bd {z : Int} (h0 : 0 ≤ z) (h1 : z ≤ 8) : 0 ≤ bef z ∧ bef z ≤ 21845 := by
  rcases (show z = 0 ∨ z = 1 ∨ z = 2 ∨ z = 3 ∨ z = 4 ∨ z = 5 ∨ z = 6 ∨ z = 7 ∨ z = 8 by omega) with rfl | rfl | rfl | rfl | rfl | rfl | rfl | rfl | rfl <;> decide
theorem bef_succ {z : Int} (h0 : 0 ≤ z) (h1 : z ≤ 7) : bef (z + 1) = bef z + cnt z * cnt z := by
  rcases z8 h0 h1 with rfl | rfl | rfl | rfl | rfl | rfl | rfl | rfl <;> decide
theorem sq_bd {z : Int} (h0 : 0 ≤ z) (h1 : z ≤ 7) : 1 ≤ cnt z * cnt z ∧ cnt z * cnt z ≤ 16384 := by
  rcases z8 h0 h1 with rfl | rfl | rfl | rfl | rfl | rfl | rfl | rfl <;> decide
theorem mul_bd {y n : Int} (h0 : 0 ≤ y) (h1 : y < n) (h2 : n ≤ 128) : 0 ≤ y * n ∧ y * n ≤ 16384 := by
  have a := Int.mul_nonneg h0 (show 0 ≤ n by omega)
  have b : y * n ≤ 128 * 128 := Int.mul_le_mul (by omega) h2 (by omega) (by omega)
  omega
set_option maxHeartbeats 4000000 in
theorem idT_any (z x y : Int) (w : World) :
    Calls Try.prog 27 #[tl z x y] w fun e w' => e = .returned (.int .i64 (idT z x y)) ∧ Below w.heap.size w w' := by
  cases hg : goodT z x y
  · have HC := Lib.hid (show chkT z x y = 16 by unfold chkT; rw [if_neg (by rw [hg]; simp)])
    have HQ := Lib.hid (show idT z x y = -1 by unfold idT; rw [if_neg (by rw [hg]; simp)])
    clear hg
    go_enter Try.func27, Try.ntmps27
    go_wp2_with fail
    refine (checkT_any _ _ _ _).mono ?_; rintro e w1 ⟨rfl, hb1⟩; rw [HC.out]
    obtain ⟨hc1, hf1⟩ := bcell hb1
    have hz10 : w.heap.size < w1.heap.size := by have := hb1.size; (try simp at this); omega
    have HB1 := Lib.hid hb1; clear hb1
    go_wp2_with fail
    go_ret
    refine ⟨ret_i64 HQ.out.symm, ?_⟩
    have hb1 := HB1.out
    (repeat (first | exact Below.refl _ _ | (refine Below.drew ?_) | (refine below_drewN ?_ _) | (refine Below.alloc ?_ (by first | omega | (simp <;> omega)) _) | (refine Below.setCell ?_ (by first | omega | (simp <;> omega)) _) | (refine Below.trans ?_ (Below.mono (by assumption) (by first | omega | (simp <;> omega))))))
  · have HC := Lib.hid (show chkT z x y = 0 by unfold chkT; rw [if_pos hg])
    have HQ := Lib.hid (show idT z x y = bef z + y * cnt z + x by unfold idT; rw [if_pos hg])
    obtain ⟨g0, g1, g2, g3, g4, g5⟩ := goodT_iff.1 hg
    obtain ⟨nb0, nb1⟩ := cnt_bd g0 g1
    obtain ⟨m0, m1⟩ := mul_bd g4 g5 nb1
    have g3b : x ≤ 127 := by omega
    clear hg g3 g5
    obtain ⟨n, rfl⟩ := Int.eq_ofNat_of_zero_le g0
    go_enter Try.func27, Try.ntmps27
    go_wp2_with fail
    refine (checkT_any _ _ _ _).mono ?_; rintro e w1 ⟨rfl, hb1⟩; rw [HC.out]
    obtain ⟨hc1, hf1⟩ := bcell hb1
    have hz10 : w.heap.size < w1.heap.size := by have := hb1.size; (try simp at this); omega
    have HB1 := Lib.hid hb1; clear hb1
    go_wp2_with fail
    go_loopw [3, 10] (fun s3 sl wr => Hid (wr = w1) ∧ ∃ i : Nat, i ≤ n ∧ sl = .int .i64 (i : Int) ∧ s3 = .int .i64 (bef i)) (fun _ sl _ => n - (intOf sl).toNat)
    case atStart => exact ⟨rfl, 0, by omega, rfl, rfl⟩
    case round =>
      obtain ⟨HW, i, hi, rfl, rfl⟩ := hrel
      have hwe := HW.out; subst hwe
      obtain ⟨f0, f1⟩ := bef_bd (z := (i : Int)) (by omega) (by omega)
      by_cases hij : i < n
      · obtain ⟨s0, s1⟩ := sq_bd (z := (i : Int)) (by omega) (by omega)
        obtain ⟨c0, c1⟩ := cnt_bd (z := (i : Int)) (by omega) (by omega)
        have HE := Lib.hid (bef_succ (z := (i : Int)) (by omega) (by omega))
        have i0 : (0 : Int) ≤ (i : Int) := by omega
        have i7 : (i : Int) ≤ 7 := by omega
        go_wp2_with fail
        refine (count_any _ _ i0 i7).mono ?_; rintro e w2 ⟨rfl, rfl⟩
        go_wp2_with fail
        refine (count_any _ _ i0 i7).mono ?_; rintro e w2 ⟨rfl, rfl⟩
        obtain ⟨c, hcc⟩ : ∃ c, cnt (i : Int) = c := ⟨_, rfl⟩
        obtain ⟨f, hff⟩ : ∃ c, bef (i : Int) = c := ⟨_, rfl⟩
        rw [hcc] at s0 s1 c0 c1 HE ⊢
        rw [hff] at f0 f1 HE ⊢
        clear hcc hff
        go_wp2
        go_roundw
        case rel => exact ⟨(by first | exact rfl | trivial), i + 1, by omega, by go_num, by rw [show ((i + 1 : Nat) : Int) = (i : Int) + 1 by omega, HE.out]⟩
        case measure => simp [intOf]; omega
      · obtain rfl : i = n := by omega
        obtain ⟨c, hcc⟩ : ∃ c, cnt (i : Int) = c := ⟨_, rfl⟩
        obtain ⟨f, hff⟩ : ∃ c, bef (i : Int) = c := ⟨_, rfl⟩
        rw [hcc] at m0 m1 nb0 nb1 HQ
        rw [hff] at f0 f1 HQ ⊢
        have CC : Hid (∀ W, Calls Try.prog 37 #[.int .i64 (i : Int)] W fun e w' => e = .returned (.int .i64 c) ∧ W = w') := by
          intro W; rw [← hcc]; exact count_any _ W g0 g1
        clear hcc hff
        go_wp2_with fail
        go_quiet (first | (go_at_call 37; with_reducible exact qsame (CC.out _)))
        go_wp2
        go_ret
        refine ⟨ret_i64 (by rw [HQ.out]), ?_⟩
        have hb1 := HB1.out
        (repeat (first | exact Below.refl _ _ | (refine Below.drew ?_) | (refine below_drewN ?_ _) | (refine Below.alloc ?_ (by first | omega | (simp <;> omega)) _) | (refine Below.setCell ?_ (by first | omega | (simp <;> omega)) _) | (refine Below.trans ?_ (Below.mono (by assumption) (by first | omega | (simp <;> omega))))))
set_option maxHeartbeats 4000000 in
theorem idTr_any (z x y : Int) (w : World) :
    Calls Try.prog 28 #[tl z x y] w fun e w' => e = .returned (.int .i64 (idT z x y)) ∧ Below w.heap.size w w' := by
  cases hg : goodT z x y
  · have HC := Lib.hid (show chkT z x y = 16 by unfold chkT; rw [if_neg (by rw [hg]; simp)])
    have HQ := Lib.hid (show idT z x y = -1 by unfold idT; rw [if_neg (by rw [hg]; simp)])
    clear hg
    go_enter Try.func28, Try.ntmps28
    go_wp2_with fail
    refine (checkTr_any _ _ _ _).mono ?_; rintro e w1 ⟨rfl, hb1⟩; rw [HC.out]
    obtain ⟨hc1, hf1⟩ := bcell hb1
    have hz10 : w.heap.size < w1.heap.size := by have := hb1.size; (try simp at this); omega
    have HB1 := Lib.hid hb1; clear hb1
    go_wp2_with fail
    go_ret
    refine ⟨ret_i64 HQ.out.symm, ?_⟩
    have hb1 := HB1.out
    (repeat (first | exact Below.refl _ _ | (refine Below.drew ?_) | (refine below_drewN ?_ _) | (refine Below.alloc ?_ (by first | omega | (simp <;> omega)) _) | (refine Below.setCell ?_ (by first | omega | (simp <;> omega)) _) | (refine Below.trans ?_ (Below.mono (by assumption) (by first | omega | (simp <;> omega))))))
  · have HC := Lib.hid (show chkT z x y = 0 by unfold chkT; rw [if_pos hg])
    have HQ := Lib.hid (show idT z x y = bef z + y * cnt z + x by unfold idT; rw [if_pos hg])
    obtain ⟨g0, g1, g2, g3, g4, g5⟩ := goodT_iff.1 hg
    obtain ⟨nb0, nb1⟩ := cnt_bd g0 g1
    obtain ⟨m0, m1⟩ := mul_bd g4 g5 nb1
    have g3b : x ≤ 127 := by omega
    clear hg g3 g5
    obtain ⟨n, rfl⟩ := Int.eq_ofNat_of_zero_le g0
    go_enter Try.func28, Try.ntmps28
    go_wp2_with fail
    refine (checkTr_any _ _ _ _).mono ?_; rintro e w1 ⟨rfl, hb1⟩; rw [HC.out]
    obtain ⟨hc1, hf1⟩ := bcell hb1
    have hz10 : w.heap.size < w1.heap.size := by have := hb1.size; (try simp at this); omega
    have HB1 := Lib.hid hb1; clear hb1
    go_wp2_with fail
    go_loopw [3, 4] (fun s3 sl wr => Hid (wr = w1) ∧ ∃ i : Nat, i ≤ n ∧ sl = .int .i64 (i : Int) ∧ s3 = .int .i64 (bef i)) (fun _ sl _ => n - (intOf sl).toNat)
    case atStart => exact ⟨rfl, 0, by omega, rfl, rfl⟩
    case round =>
      obtain ⟨HW, i, hi, rfl, rfl⟩ := hrel
      have hwe := HW.out; subst hwe
      obtain ⟨f0, f1⟩ := bef_bd (z := (i : Int)) (by omega) (by omega)
      by_cases hij : i < n
      · obtain ⟨s0, s1⟩ := sq_bd (z := (i : Int)) (by omega) (by omega)
        obtain ⟨c0, c1⟩ := cnt_bd (z := (i : Int)) (by omega) (by omega)
        have HE := Lib.hid (bef_succ (z := (i : Int)) (by omega) (by omega))
        have i0 : (0 : Int) ≤ (i : Int) := by omega
        have i7 : (i : Int) ≤ 7 := by omega
        go_wp2_with fail
        refine (power_any _ _ i0 i7).mono ?_; rintro e w2 ⟨rfl, rfl⟩
        go_wp2_with fail
        refine (power_any _ _ i0 i7).mono ?_; rintro e w2 ⟨rfl, rfl⟩
        obtain ⟨c, hcc⟩ : ∃ c, cnt (i : Int) = c := ⟨_, rfl⟩
        obtain ⟨f, hff⟩ : ∃ c, bef (i : Int) = c := ⟨_, rfl⟩
        rw [hcc] at s0 s1 c0 c1 HE ⊢
        rw [hff] at f0 f1 HE ⊢
        clear hcc hff
        go_wp2
        go_roundw
        case rel => exact ⟨(by first | exact rfl | trivial), i + 1, by omega, by go_num, by rw [show ((i + 1 : Nat) : Int) = (i : Int) + 1 by omega, HE.out]⟩
        case measure => simp [intOf]; omega
      · obtain rfl : i = n := by omega
        obtain ⟨c, hcc⟩ : ∃ c, cnt (i : Int) = c := ⟨_, rfl⟩
        obtain ⟨f, hff⟩ : ∃ c, bef (i : Int) = c := ⟨_, rfl⟩
        rw [hcc] at m0 m1 nb0 nb1 HQ
        rw [hff] at f0 f1 HQ ⊢
        have CC : Hid (∀ W, Calls Try.prog 36 #[.int .i64 (i : Int)] W fun e w' => e = .returned (.int .i64 c) ∧ W = w') := by
          intro W; rw [← hcc]; exact power_any _ W g0 g1
        clear hcc hff
        go_wp2_with fail
        go_quiet (first | (go_at_call 36; with_reducible exact qsame (CC.out _)))
        go_wp2
        go_ret
        refine ⟨ret_i64 (by rw [HQ.out]), ?_⟩
        have hb1 := HB1.out
        (repeat (first | exact Below.refl _ _ | (refine Below.drew ?_) | (refine below_drewN ?_ _) | (refine Below.alloc ?_ (by first | omega | (simp <;> omega)) _) | (refine Below.setCell ?_ (by first | omega | (simp <;> omega)) _) | (refine Below.trans ?_ (Below.mono (by assumption) (by first | omega | (simp <;> omega))))))
end Go.Proofs.Ytoibhapjkeakbaa
