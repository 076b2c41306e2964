/- graph: rows of rows. -/
import Derived.Test.YtgofachgoflgnaaGe
namespace Go.Proofs.Ytgofachgoflgnaa
open Go.ChangeShapes Go.WideShapes Go.ChangeAt Go.RowKit Go.Joins Go.Deep

/- a row of rows of numbers -/
def RowsAt (w : World) (v : Value) (ls : List (List Int)) : Prop :=
  ∃ a cap, v = .slice a ls.length cap ∧ (ls = [] ∨ ∃ ob, a = some ⟨ob, 0, none⟩ ∧ ∀ j, j < ls.length → ∃ u, w.cell? ⟨ob, j, none⟩ = some u ∧ IntsAt w u (ls.getD j []))
theorem RowsAt.below {w W : World} {v : Value} {ls : List (List Int)} (h : RowsAt w v ls) (b : Below w.heap.size w W) : RowsAt W v ls := by
  obtain ⟨a, cap, h1, h2⟩ := h
  refine ⟨a, cap, h1, ?_⟩
  rcases h2 with h2 | ⟨ob, e, hc⟩
  · exact Or.inl h2
  · refine Or.inr ⟨ob, e, fun j hj => ?_⟩
    obtain ⟨u, hu, hi⟩ := hc j hj
    exact ⟨u, by rw [b.cell (cell_lt hu)]; exact hu, hi.below b⟩
theorem RowsAt.at_ {w : World} {a : Option Addr} {n cap j : Nat} {ls : List (List Int)} (h : RowsAt w (.slice a n cap) ls) (hj : j < ls.length) : ∃ ob u, a = some ⟨ob, 0, none⟩ ∧ w.cell? ⟨ob, j, none⟩ = some u ∧ IntsAt w u (ls.getD j []) := by
  obtain ⟨a', cap', e, h⟩ := h
  injection e with e1 e2 e3
  subst e1
  rcases h with h | ⟨ob, e, hc⟩
  · rw [h] at hj; exact absurd hj (by simp)
  · obtain ⟨u, h1, h2⟩ := hc j hj
    exact ⟨ob, u, e, h1, h2⟩
def Small (ls : List (List Int)) : Prop := ls.length ≤ 1048576 ∧ ∀ j, j < ls.length → (ls.getD j []).length ≤ 1000000
theorem lists_eq {ls ms : List (List Int)} (hl : ls.length = ms.length) (h : ∀ k, k < ls.length → ls.getD k [] = ms.getD k []) : decide (ls = ms) = true := by
  apply decide_eq_true
  apply List.ext_getElem hl
  intro k h1 h2
  have := h k h1
  rw [List.getD, List.getD, List.getElem?_eq_getElem h1, List.getElem?_eq_getElem h2] at this
  exact this
theorem lists_ne {ls ms : List (List Int)} {k : Nat} (h : ls.getD k [] ≠ ms.getD k []) : decide (ls = ms) = false := by
  apply decide_eq_false; rintro rfl; exact h rfl
end Go.Proofs.Ytgofachgoflgnaa

