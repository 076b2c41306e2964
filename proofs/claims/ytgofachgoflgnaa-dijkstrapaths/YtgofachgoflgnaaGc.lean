/- graph: sameArcs. -/
import Derived.Test.YtgofachgoflgnaaGb
namespace Go.Proofs.Ytgofachgoflgnaa
open Go.ChangeShapes Go.WideShapes Go.ChangeAt Go.RowKit Go.Joins Go.Deep

def sameA (N M : Int) (l m : List (Int × Int)) : Bool := decide (N = M ∧ l = m)
theorem sameA_ne {N M : Int} {l m : List (Int × Int)} {k : Nat} (h : l.getD k (0, 0) ≠ m.getD k (0, 0)) : sameA N M l m = false := by
  unfold sameA; apply decide_eq_false; rintro ⟨_, rfl⟩; exact h rfl
theorem sameA_eq {N : Int} {l m : List (Int × Int)} (hl : l.length = m.length) (h : ∀ k, k < l.length → l.getD k (0, 0) = m.getD k (0, 0)) : sameA N N l m = true := by
  unfold sameA; apply decide_eq_true; refine ⟨rfl, ?_⟩
  apply List.ext_getElem hl
  intro k h1 h2
  have := h k h1
  rw [List.getD, List.getD, List.getElem?_eq_getElem h1, List.getElem?_eq_getElem h2] at this
  exact this
theorem sameA_len {N M : Int} {l m : List (Int × Int)} (h : ¬ (N = M ∧ l.length = m.length)) : sameA N M l m = false := by
  unfold sameA; apply decide_eq_false; rintro ⟨h1, h2⟩; exact h ⟨h1, by rw [h2]⟩
structure Bx2 (w W : World) (u v : List Value) : Prop where
  a : Row W w.heap.size 24 u
  c : Row W (w.heap.size + 1) 24 v
  b : Below w.heap.size w W
theorem bx2_new (w : World) (u v : List Value) : ∃ W1 W2, w.alloc (.cells u.toArray 24) = W1 ∧ W1.alloc (.cells v.toArray 24) = W2 ∧ W1.heap.size = w.heap.size + 1 ∧ Bx2 w W2 u v := by
  refine ⟨_, _, rfl, rfl, by simp, (Row.new w 24 u).alloc _, ?_, ((Below.refl _ _).alloc (Nat.le_refl _) _).alloc (by simp) _⟩
  have := Row.new (w.alloc (.cells u.toArray 24)) 24 v
  rw [World.size_alloc] at this; exact this
end Go.Proofs.Ytgofachgoflgnaa

