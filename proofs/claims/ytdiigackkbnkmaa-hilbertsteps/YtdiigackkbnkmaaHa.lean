/- The Hilbert curve: its small functions. -/
import Derived.Test.YtdiigackkbnkmaaWa
import Derived.Laws.NewDeep
import Derived.Laws.Cells
import Derived.ScopeJumps
namespace Go.Proofs.Ytdiigackkbnkmaa
open Go.ChangeShapes Go.WideShapes Go.ChangeAt Go.RowKit Go.Joins Go.Deep

def qd (x y h : Int) : Int := if x < h then (if y < h then 0 else 1) else (if y < h then 3 else 2)

set_option maxHeartbeats 1000000 in
theorem quadrant_any (x y h : Int) (w : World) (h0 : 0 < h) (h1 : h ≤ 16384) (x0 : 0 ≤ x) (x1 : x < 2 * h) (y0 : 0 ≤ y) (y1 : y < 2 * h) :
    Calls Try.prog 54 #[pt x y, .int .i64 h] w fun e w' => e = .returned (.int .i64 (qd x y h)) ∧ Below w.heap.size w w' := by
  have hx : (x < h ∧ x.tdiv h = 0) ∨ (¬ x < h ∧ x.tdiv h = 1) := by
    by_cases k : x < h
    · exact Or.inl ⟨k, Int.tdiv_eq_zero_of_lt x0 k⟩
    · refine Or.inr ⟨k, ?_⟩
      rw [Int.tdiv_eq_ediv_of_nonneg x0]
      have : x / h = 1 := by
        rw [Int.ediv_eq_iff_of_pos h0]; omega
      exact this
  have hy : (y < h ∧ y.tdiv h = 0) ∨ (¬ y < h ∧ y.tdiv h = 1) := by
    by_cases k : y < h
    · exact Or.inl ⟨k, Int.tdiv_eq_zero_of_lt y0 k⟩
    · refine Or.inr ⟨k, ?_⟩
      rw [Int.tdiv_eq_ediv_of_nonneg y0]
      have : y / h = 1 := by
        rw [Int.ediv_eq_iff_of_pos h0]; omega
      exact this
  rcases hx with ⟨kx, ex⟩ | ⟨kx, ex⟩ <;> rcases hy with ⟨ky, ey⟩ | ⟨ky, ey⟩
  all_goals
    have KX := Lib.hid kx; have KY := Lib.hid ky; clear kx ky
    have hne : (h == 0) = false := by simp; omega
    go_enter Try.func54, Try.ntmps54
    go_wp2_with fail
    go_quiet (fail)
    go_wp2
    go_ret
    refine ⟨ret_i64 (by have a := KX.out; have b := KY.out; unfold qd; split <;> (try split) <;> omega), ?_⟩
    (repeat (first | exact Below.refl _ _ | (refine Below.drew ?_) | (refine below_drewN ?_ _) | (refine Below.alloc ?_ (by first | omega | (simp <;> omega)) _) | (refine Below.setCell ?_ (by first | omega | (simp <;> omega)) _) | (refine Below.trans ?_ (Below.mono (by assumption) (by first | omega | (simp <;> omega))))))

abbrev ar4 (a b c d e f g h : Int) : Value := .agg #[.int .i64 a, .int .i64 b, .int .i64 c, .int .i64 d, .int .i64 e, .int .i64 f, .int .i64 g, .int .i64 h]
set_option maxHeartbeats 1000000 in
theorem inner_any (x y h : Int) (w : World) (h0 : 0 < h) (h1 : h ≤ 16384) (x0 : 0 ≤ x) (x1 : x < 2 * h) (y0 : 0 ≤ y) (y1 : y < 2 * h) :
    Calls Try.prog 55 #[pt x y, .int .i64 h] w fun e w' => e = .returned (ar4 y x x (y - h) (x - h) (y - h) (h - 1 - y) (2 * h - 1 - x)) ∧ Below w.heap.size w w' := by
  go_enter Try.func55, Try.ntmps55
  go_wp2
  refine bodyPost_ret (by simp [results, Try.results55, go_sem]; rfl) rfl ⟨?_, ?_⟩
  · rfl
  · (repeat (first | exact Below.refl _ _ | (refine Below.drew ?_) | (refine below_drewN ?_ _) | (refine Below.alloc ?_ (by first | omega | (simp <;> omega)) _) | (refine Below.setCell ?_ (by first | omega | (simp <;> omega)) _) | (refine Below.trans ?_ (Below.mono (by assumption) (by first | omega | (simp <;> omega))))))
set_option maxHeartbeats 1000000 in
theorem outer_any (x y h : Int) (w : World) (h0 : 0 < h) (h1 : h ≤ 16384) (x0 : 0 ≤ x) (x1 : x < h) (y0 : 0 ≤ y) (y1 : y < h) :
    Calls Try.prog 57 #[pt x y, .int .i64 h] w fun e w' => e = .returned (ar4 y x x (y + h) (x + h) (y + h) (2 * h - 1 - y) (h - 1 - x)) ∧ Below w.heap.size w w' := by
  go_enter Try.func57, Try.ntmps57
  go_wp2
  refine bodyPost_ret (by simp [results, Try.results57, go_sem]; rfl) rfl ⟨?_, ?_⟩
  · rfl
  · (repeat (first | exact Below.refl _ _ | (refine Below.drew ?_) | (refine below_drewN ?_ _) | (refine Below.alloc ?_ (by first | omega | (simp <;> omega)) _) | (refine Below.setCell ?_ (by first | omega | (simp <;> omega)) _) | (refine Below.trans ?_ (Below.mono (by assumption) (by first | omega | (simp <;> omega))))))
end Go.Proofs.Ytdiigackkbnkmaa
