/- Tiles: nearest, Check and its reference, Size and its reference. -/
import Derived.Test.YtoibhapjkeakbaaWb
namespace Go.Proofs.Ytoibhapjkeakbaa
open Go.ChangeShapes Go.WideShapes Go.ChangeAt Go.RowKit Go.Joins Go.Deep

theorem qsame {P : Program} {f : FuncId} {args : Array Value} {w : World} {n : Nat} {v : Value}
    (h : Calls P f args (w.drewN n) fun e w' => e = .returned v ∧ w.drewN n = w') : Calls P f args (w.drewN n) fun e w'' => e = .returned v ∧ ∃ m, w'' = w.drewN m :=
  h.mono fun _ _ ⟨he, hm⟩ => ⟨he, n, hm.symm⟩
theorem keep3 {w wr w2 : World} {p1 p2 p3 : Addr} {v1 v2 v3 : Value}
    (h : Below w.heap.size w wr ∧ wr.cell? p1 = some v1 ∧ wr.cell? p2 = some v2 ∧ wr.cell? p3 = some v3) (hb : Below wr.heap.size wr w2) :
    Below w.heap.size w w2 ∧ w2.cell? p1 = some v1 ∧ w2.cell? p2 = some v2 ∧ w2.cell? p3 = some v3 :=
  ⟨h.1.trans (hb.mono h.1.size), old hb h.2.1, old hb h.2.2.1, old hb h.2.2.2⟩
set_option maxHeartbeats 2000000 in
theorem near_any (z x y : Int) (w : World) :
    Calls Try.prog 35 #[tl z x y] w fun e w' => e = .returned (tl (nz z) (nx z x) (nx z y)) ∧ Below w.heap.size w w' := by
  obtain ⟨z0, z1⟩ := nz_bd z
  obtain ⟨c0, c1⟩ := cnt_bd z0 z1
  have EZ := Lib.hid (show clampZ z 0 7 = nz z from rfl)
  have EX := Lib.hid (show clampZ x 0 (cnt (nz z) - 1) = nx z x from rfl)
  have EY := Lib.hid (show clampZ y 0 (cnt (nz z) - 1) = nx z y from rfl)
  go_enter Try.func35, Try.ntmps35
  go_wp2_with fail
  refine (clamp_any _ _ _ _).mono ?_; rintro e w1 ⟨rfl, rfl⟩; rw [EZ.out]
  go_wp2_with fail
  refine (count_any _ _ z0 z1).mono ?_; rintro e w1 ⟨rfl, rfl⟩
  obtain ⟨n, hn⟩ : ∃ n, cnt (nz z) = n := ⟨_, rfl⟩
  rw [hn] at EX EY c0 c1 ⊢
  clear hn
  go_wp2_with fail
  go_region_held3 (fun w' => w'.cell? ⟨w.heap.size, 0, none⟩ = some (.int .i64 z) ∧ w'.cell? ⟨w.heap.size, 1, none⟩ = some (.int .i64 x) ∧ w'.cell? ⟨w.heap.size, 2, none⟩ = some (.int .i64 y))
    (go_keep) (first | (go_at_call 44; (with_reducible refine (clamp_any _ _ _ _).mono ?_); rintro e w' ⟨rfl, rfl⟩))
  go_wp2
  refine bodyPost_ret (by simp [results, Try.results35, go_sem]; rfl) rfl ⟨?_, ?_⟩
  · rw [EX.out, EY.out]
  · (repeat (first | exact Below.refl _ _ | (refine Below.drew ?_) | (refine below_drewN ?_ _) | (refine Below.alloc ?_ (by first | omega | (simp <;> omega)) _) | (refine Below.setCell ?_ (by first | omega | (simp <;> omega)) _) | (refine Below.trans ?_ (Below.mono (by assumption) (by first | omega | (simp <;> omega))))))

def chkT (z x y : Int) : Int := if goodT z x y = true then 0 else 16
theorem near_iff (z x y : Int) : goodT z x y = true ↔ (nz z = z ∧ nx z x = x ∧ nx z y = y) := by
  rw [goodT_iff]
  constructor
  · rintro ⟨h0, h1, h2, h3, h4, h5⟩
    have e : nz z = z := clamp_eq.2 ⟨h0, h1⟩
    unfold nx; rw [e]
    exact ⟨rfl, clamp_eq.2 ⟨h2, by omega⟩, clamp_eq.2 ⟨h4, by omega⟩⟩
  · rintro ⟨h0, h1, h2⟩
    unfold nx at h1 h2; rw [h0] at h1 h2
    obtain ⟨a, b⟩ := clamp_eq.1 h0
    obtain ⟨c, d⟩ := clamp_eq.1 h1
    obtain ⟨e, f⟩ := clamp_eq.1 h2
    exact ⟨a, b, c, by omega, e, by omega⟩
set_option maxHeartbeats 2000000 in
theorem checkT_any (z x y : Int) (w : World) :
    Calls Try.prog 13 #[tl z x y] w fun e w' => e = .returned (.int .i64 (chkT z x y)) ∧ Below w.heap.size w w' := by
  have S0 : Hid (∀ W, W = (w.alloc (.cells #[.int .i64 z, .int .i64 x, .int .i64 y] 23)).drew → Below w.heap.size w W ∧ W.cell? ⟨w.heap.size, 0, none⟩ = some (.int .i64 z) ∧ W.cell? ⟨w.heap.size, 1, none⟩ = some (.int .i64 x) ∧ W.cell? ⟨w.heap.size, 2, none⟩ = some (.int .i64 y)) := by
    intro W e; subst e
    exact ⟨((Below.refl _ _).alloc (Nat.le_refl _) _).drew, by go_simp, by go_simp, by go_simp⟩
  have hcase : (chkT z x y = 0 ∧ nz z = z ∧ nx z x = x ∧ nx z y = y) ∨ (chkT z x y = 16 ∧ (nz z == z) = false) ∨ (chkT z x y = 16 ∧ nz z = z ∧ (nx z x == x) = false) ∨ (chkT z x y = 16 ∧ nz z = z ∧ nx z x = x ∧ (nx z y == y) = false) := by
    have e := near_iff z x y
    unfold chkT
    by_cases h1 : nz z = z
    · by_cases h2 : nx z x = x
      · by_cases h3 : nx z y = y
        · exact Or.inl ⟨by rw [if_pos (e.2 ⟨h1, h2, h3⟩)], h1, h2, h3⟩
        · exact Or.inr (Or.inr (Or.inr ⟨by rw [if_neg (fun h => h3 (e.1 h).2.2)], h1, h2, by simpa using h3⟩))
      · exact Or.inr (Or.inr (Or.inl ⟨by rw [if_neg (fun h => h2 (e.1 h).2.1)], h1, by simpa using h2⟩))
    · exact Or.inr (Or.inl ⟨by rw [if_neg (fun h => h1 (e.1 h).1)], by simpa using h1⟩)
  rcases hcase with ⟨hv, k1, k2, k3⟩ | ⟨hv, k1⟩ | ⟨hv, k1, k2⟩ | ⟨hv, k1, k2, k3⟩
  all_goals
    have HV := Lib.hid hv; clear hv
    go_enter Try.func13, Try.ntmps13
    go_wp2_with fail
    go_region_held3 (fun w' => Below w.heap.size w w' ∧ w'.cell? ⟨w.heap.size, 0, none⟩ = some (.int .i64 z) ∧ w'.cell? ⟨w.heap.size, 1, none⟩ = some (.int .i64 x) ∧ w'.cell? ⟨w.heap.size, 2, none⟩ = some (.int .i64 y))
      (first | exact S0.out _ rfl | assumption | exact keep3 (by assumption) (by assumption))
      (first | (go_at_call 35; (with_reducible refine (near_any _ _ _ _).mono ?_); rintro e w1 ⟨rfl, b1⟩))
    all_goals go_wp2
    all_goals go_ret
    all_goals exact ⟨ret_i64 HV.out.symm, bel_of (by assumption)⟩

set_option maxHeartbeats 4000000 in
theorem checkTr_any (z x y : Int) (w : World) :
    Calls Try.prog 14 #[tl z x y] w fun e w' => e = .returned (.int .i64 (chkT z x y)) ∧ Below w.heap.size w w' := by
  have hcase : (chkT z x y = 16 ∧ decide (z < 0) = true) ∨ (chkT z x y = 16 ∧ decide (z < 0) = false ∧ decide (7 < z) = true)
      ∨ (chkT z x y = 16 ∧ 0 ≤ z ∧ z ≤ 7 ∧ decide (z < 0) = false ∧ decide (7 < z) = false ∧ decide (x < 0) = true)
      ∨ (chkT z x y = 16 ∧ 0 ≤ z ∧ z ≤ 7 ∧ decide (z < 0) = false ∧ decide (7 < z) = false ∧ decide (x < 0) = false ∧ decide (y < 0) = true)
      ∨ (chkT z x y = 16 ∧ 0 ≤ z ∧ z ≤ 7 ∧ decide (z < 0) = false ∧ decide (7 < z) = false ∧ decide (x < 0) = false ∧ decide (y < 0) = false ∧ decide (cnt z ≤ x) = true)
      ∨ (chkT z x y = 16 ∧ 0 ≤ z ∧ z ≤ 7 ∧ decide (z < 0) = false ∧ decide (7 < z) = false ∧ decide (x < 0) = false ∧ decide (y < 0) = false ∧ decide (cnt z ≤ x) = false ∧ decide (cnt z ≤ y) = true)
      ∨ (chkT z x y = 0 ∧ 0 ≤ z ∧ z ≤ 7 ∧ decide (z < 0) = false ∧ decide (7 < z) = false ∧ decide (x < 0) = false ∧ decide (y < 0) = false ∧ decide (cnt z ≤ x) = false ∧ decide (cnt z ≤ y) = false) := by
    have e := @goodT_iff z x y
    unfold chkT
    cases hg : goodT z x y
    · simp [hg] at e ⊢; omega
    · simp [hg] at e ⊢; omega
  rcases hcase with ⟨hv, k1⟩ | ⟨hv, k1, k2⟩ | ⟨hv, z0, z1, k1, k2, k3⟩ | ⟨hv, z0, z1, k1, k2, k3, k4⟩ | ⟨hv, z0, z1, k1, k2, k3, k4, k5⟩ | ⟨hv, z0, z1, k1, k2, k3, k4, k5, k6⟩ | ⟨hv, z0, z1, k1, k2, k3, k4, k5, k6⟩
  all_goals
    have HV := Lib.hid hv; clear hv
    go_enter Try.func14, Try.ntmps14
    go_wp2_with fail
    go_quiet (first | (go_at_call 36; with_reducible exact qsame (power_any _ _ (by assumption) (by assumption))))
    go_wp2
    go_ret
    refine ⟨ret_i64 HV.out.symm, ?_⟩
    (repeat (first | exact Below.refl _ _ | (refine Below.drew ?_) | (refine below_drewN ?_ _) | (refine Below.alloc ?_ (by first | omega | (simp <;> omega)) _) | (refine Below.setCell ?_ (by first | omega | (simp <;> omega)) _) | (refine Below.trans ?_ (Below.mono (by assumption) (by first | omega | (simp <;> omega))))))
theorem size_any (z : Int) (w : World) :
    Calls Try.prog 15 #[.int .i64 z] w fun e w' => e = .returned (.int .i64 (siz z)) ∧ w = w' := by
  by_cases h : 0 ≤ z ∧ z ≤ 7
  · obtain ⟨h0, h1⟩ := h
    obtain ⟨c0, c1⟩ := cnt_bd h0 h1
    obtain ⟨e1, e2, e3, e4⟩ := siz_in h0 h1
    have E1 := Lib.hid e1
    clear e1 e2 e3 e4
    go_enter Try.func15, Try.ntmps15
    go_wp2_with fail
    refine (count_any _ _ h0 h1).mono ?_; rintro e w1 ⟨rfl, rfl⟩
    obtain ⟨n, hn⟩ : ∃ n, cnt z = n := ⟨_, rfl⟩
    rw [hn] at E1 c0 c1 ⊢
    clear hn
    have hd : Int.tdiv 32768 n = 32768 / n := Int.tdiv_eq_ediv_of_nonneg (by omega)
    have hb : 0 ≤ 32768 / n := Int.ediv_nonneg (by omega) (by omega)
    have hb2 : 32768 / n ≤ 32768 := Int.ediv_le_self n (by omega)
    have ne : ¬ (n = 0) := by omega
    go_wp2
    go_ret
    exact ⟨ret_i64 E1.out.symm, rfl⟩
  · have hs := Lib.hid (siz_out (z := z) (by omega))
    rcases (show z < 0 ∨ (0 ≤ z ∧ 7 < z) by omega) with h | ⟨h1, h⟩
    all_goals
      go_enter Try.func15, Try.ntmps15
      go_wp2
      go_ret
      exact ⟨ret_i64 hs.out.symm, rfl⟩
theorem sizer_any (z : Int) (w : World) :
    Calls Try.prog 16 #[.int .i64 z] w fun e w' => e = .returned (.int .i64 (siz z)) ∧ w = w' := by
  by_cases h : 0 ≤ z ∧ z ≤ 7
  · obtain ⟨h0, h1⟩ := h
    obtain ⟨c0, c1⟩ := cnt_bd h0 h1
    obtain ⟨e1, e2, e3, e4⟩ := siz_in h0 h1
    have E1 := Lib.hid e1
    clear e1 e2 e3 e4
    go_enter Try.func16, Try.ntmps16
    go_wp2_with fail
    refine (power_any _ _ h0 h1).mono ?_; rintro e w1 ⟨rfl, rfl⟩
    obtain ⟨n, hn⟩ : ∃ n, cnt z = n := ⟨_, rfl⟩
    rw [hn] at E1 c0 c1 ⊢
    clear hn
    have hd : Int.tdiv 32768 n = 32768 / n := Int.tdiv_eq_ediv_of_nonneg (by omega)
    have hb : 0 ≤ 32768 / n := Int.ediv_nonneg (by omega) (by omega)
    have hb2 : 32768 / n ≤ 32768 := Int.ediv_le_self n (by omega)
    have ne : ¬ (n = 0) := by omega
    go_wp2
    go_ret
    exact ⟨ret_i64 E1.out.symm, rfl⟩
  · have hs := Lib.hid (siz_out (z := z) (by omega))
    rcases (show z < 0 ∨ (0 ≤ z ∧ 7 < z) by omega) with h | ⟨h1, h⟩
    all_goals
      go_enter Try.func16, Try.ntmps16
      go_wp2
      go_ret
      exact ⟨ret_i64 hs.out.symm, rfl⟩
end Go.Proofs.Ytoibhapjkeakbaa
