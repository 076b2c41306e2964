/- The Hilbert curve: HilbertCells. -/
import Derived.Test.YtdiigackkbnkmaaHg
namespace Go.Proofs.Ytdiigackkbnkmaa
open Go.ChangeShapes Go.WideShapes Go.ChangeAt Go.RowKit Go.Joins Go.Deep

set_option maxHeartbeats 8000000 in
theorem cells_no (x y u v k : Int) (w : World) (h : k < 0 ∨ (0 ≤ k ∧ 15 < k) ∨ (0 ≤ k ∧ k ≤ 15 ∧ x < 0) ∨ (0 ≤ k ∧ k ≤ 15 ∧ 0 ≤ x ∧ 32768 ≤ x) ∨ (0 ≤ k ∧ k ≤ 15 ∧ 0 ≤ x ∧ x < 32768 ∧ y < 0) ∨ (0 ≤ k ∧ k ≤ 15 ∧ 0 ≤ x ∧ x < 32768 ∧ 0 ≤ y ∧ 32768 ≤ y)
    ∨ (0 ≤ k ∧ k ≤ 15 ∧ 0 ≤ x ∧ x < 32768 ∧ 0 ≤ y ∧ y < 32768 ∧ u < 0) ∨ (0 ≤ k ∧ k ≤ 15 ∧ 0 ≤ x ∧ x < 32768 ∧ 0 ≤ y ∧ y < 32768 ∧ 0 ≤ u ∧ 32768 ≤ u) ∨ (0 ≤ k ∧ k ≤ 15 ∧ 0 ≤ x ∧ x < 32768 ∧ 0 ≤ y ∧ y < 32768 ∧ 0 ≤ u ∧ u < 32768 ∧ v < 0) ∨ (0 ≤ k ∧ k ≤ 15 ∧ 0 ≤ x ∧ x < 32768 ∧ 0 ≤ y ∧ y < 32768 ∧ 0 ≤ u ∧ u < 32768 ∧ 0 ≤ v ∧ 32768 ≤ v)) :
    Calls Try.prog 13 #[pt x y, pt u v, .int .i64 k] w fun e w' => e = .returned (.bool true) ∧ Below w.heap.size w w' := by
  rcases h with h1 | ⟨h1, h2⟩ | ⟨h1, h2, h3⟩ | ⟨h1, h2, h3, h4⟩ | ⟨h1, h2, h3, h4, h5⟩ | ⟨h1, h2, h3, h4, h5, h6⟩ | ⟨h1, h2, h3, h4, h5, h6, h7⟩ | ⟨h1, h2, h3, h4, h5, h6, h7, h8⟩ | ⟨h1, h2, h3, h4, h5, h6, h7, h8, h9⟩ | ⟨h1, h2, h3, h4, h5, h6, h7, h8, h9, h10⟩
  all_goals
    go_enter Try.func13, Try.ntmps13
    go_wp2_with fail
    refine (livesH_any _).mono ?_; rintro e w3 ⟨rfl, hb3⟩
    go_wp2_with fail
    go_ret
    refine ⟨rfl, ?_⟩
    (repeat (first | exact Below.refl _ _ | (refine Below.drew ?_) | (refine below_drewN ?_ _) | (refine Below.alloc ?_ (by first | omega | (simp <;> omega)) _) | (refine Below.setCell ?_ (by first | omega | (simp <;> omega)) _) | (refine Below.trans ?_ (Below.mono (by assumption) (by first | omega | (simp <;> omega))))))
theorem cell_eq (k : Nat) (hk : k ≤ 15) {x y u v : Int} (h1 : vldB x y = true) (h2 : vldB u v = true) :
    (idx x y / 2 ^ k / 2 ^ k = idx u v / 2 ^ k / 2 ^ k) ↔ (x / 2 ^ k = u / 2 ^ k ∧ y / 2 ^ k = v / 2 ^ k) := by
  obtain ⟨a, b, c, d⟩ := vldB_iff.1 h1
  obtain ⟨a', b', c', d'⟩ := vldB_iff.1 h2
  have e4 : ∀ z : Int, z / 2 ^ k / 2 ^ k = z / 4 ^ k := by
    intro z
    have : (4 : Int) ^ k = 2 ^ k * 2 ^ k := by rw [← Int.mul_pow]; rfl
    rw [this]
    first | (rw [Int.ediv_ediv_of_nonneg (by have := p2pos k; omega)]) | (rw [Int.ediv_ediv (by have := p2pos k; omega)]) | (rw [Int.ediv_mul])
  have e := hI_cells (15 - k) k (x := x) (y := y) (u := u) (v := v) a (by rw [show 15 - k + k = 15 by omega]; omega) c (by rw [show 15 - k + k = 15 by omega]; omega) a' (by rw [show 15 - k + k = 15 by omega]; omega) c' (by rw [show 15 - k + k = 15 by omega]; omega)
  rw [show 15 - k + k = 15 by omega] at e
  unfold idx
  rw [if_pos h1, if_pos h2, e4, e4]
  exact e
end Go.Proofs.Ytdiigackkbnkmaa
