/- pq: rows of integers, and the queue's blocks. -/
import Derived.Test.YtgofachgoflgnaaRows
import Derived.WalkKit
import Derived.ProofKit
import Derived.OpenShut
import Derived.Below
import Derived.ChangeOld
import Derived.Lib.Hide
import Derived.Lib.SmallJoins
import Derived.Maps.AppendAt
import Derived.Test.YtgofachgoflgnaaDr
namespace Go.Proofs.Ytgofachgoflgnaa
open Go.ChangeShapes Go.WideShapes Go.ChangeAt Go.RowKit Go.Joins Go.Deep

theorem q_cell_lt {w : World} {p : Addr} {v : Value} (h : w.cell? p = some v) : p.block < w.heap.size := World.block_lt_of_cell? w p h
theorem old {wr w2 : World} (hb : Below wr.heap.size wr w2) {p : Addr} {v : Value} (h : wr.cell? p = some v) : w2.cell? p = some v := by rw [hb.cell (q_cell_lt h)]; exact h
abbrev ivs (l : List Int) : List Value := l.map fun x => .int .i64 x
/- a row of integers: the slice v holds l, in a block of its own from 'base' on -/
abbrev Ints (w : World) (base : Nat) (v : Value) (l : List Int) : Prop := w.ownsRow base 3 1 v l.length (ivs l)
theorem Ints.form {w : World} {base : Nat} {v : Value} {l : List Int} (h : Ints w base v l) : ∃ a cap, v = .slice a l.length cap := by
  rcases h.2 with ⟨rfl, h0⟩ | ⟨g, cap, cur, rfl, _⟩
  · rw [h0]; exact ⟨none, 0, rfl⟩
  · exact ⟨_, cap, rfl⟩
theorem Ints.keep {w w' : World} {base : Nat} {v : Value} {l : List Int} (h : Ints w base v l) (b : Below w.heap.size w w') : Ints w' base v l := by
  refine ⟨h.1, ?_⟩
  rcases h.2 with h0 | ⟨g, cap, cur, h1, h2, hg, h3⟩
  · exact Or.inl h0
  · refine Or.inr ⟨g, cap, cur, h1, h2, ?_, h3⟩
    rw [b.block _ ?_]; exact hg
    by_cases hl : g < w.heap.size
    · exact hl
    · rw [Array.getElem?_eq_none (Nat.le_of_not_lt hl)] at hg; cases hg
/- the block of a row that is not empty, its cells, and what a store does -/
theorem Ints.block {w : World} {base : Nat} {a : Option Addr} {n cap : Nat} {l : List Int} (h : Ints w base (.slice a n cap) l) (hp : 0 < l.length) : ∃ g, a = some ⟨g, 0, none⟩ ∧ base ≤ g ∧ g < w.heap.size ∧
    (∀ i, i < l.length → w.cell? ⟨g, i, none⟩ = some (.int .i64 (l.getD i 0)) ∧ w.frozen? ⟨g, i, none⟩ = false) ∧
    (∀ i x, i < l.length → Ints (w.setCell ⟨g, i, none⟩ (.int .i64 x)) base (.slice a n cap) (l.set i x)) ∧
    (∀ W : World, W.heap[g]? = w.heap[g]? → Ints W base (.slice a n cap) l) := by
  rcases h.2 with ⟨_, h0⟩ | ⟨g, cap', cur, e, hb, hg, h1, h2, h3, h4⟩
  · omega
  · injection e with e1 e2 e3
    subst e1 e2 e3
    have hlt : g < w.heap.size := by
      by_cases hl : g < w.heap.size
      · exact hl
      · rw [Array.getElem?_eq_none (Nat.le_of_not_lt hl)] at hg; cases hg
    refine ⟨g, rfl, hb, hlt, fun i hi => ?_, fun i x hi => ?_, fun W hW => ⟨h.1, Or.inr ⟨g, cap, cur, rfl, hb, by rw [hW]; exact hg, h1, h2, h3, h4⟩⟩⟩
    · have key : cur.toList[i]? = some (.int .i64 (l.getD i 0)) := by
        have e4 : (ivs l)[i]? = some (.int .i64 (l.getD i 0)) := by
          simp [List.getD, List.getElem?_eq_getElem hi]
        rw [← h4, List.getElem?_take, if_pos (by omega)] at e4
        exact e4
      refine ⟨?_, ?_⟩
      · unfold World.cell?; rw [hg]; simpa using key
      · unfold World.frozen?; rw [hg]; simp
    · refine ⟨by simp, Or.inr ⟨g, cap, cur.setIfInBounds i (.int .i64 x), by simp, hb, ?_, by simpa using h1, h2, by simpa using h3, ?_⟩⟩
      · rw [heap_setCell_same _ _ _ _ _ _ hg]
      · simp only [Array.toList_setIfInBounds, List.length_set]
        have : (ivs (l.set i x)) = (ivs l).set i (.int .i64 x) := by simp [ivs, List.map_set]
        rw [this, ← h4, List.take_set]
def QCells (w : World) (qb : Nat) (vh vk vp : Value) : Prop := w.heap[qb]? = some (.cells #[vh, vk, vp] 73)
theorem QCells.c0 {w : World} {qb : Nat} {vh vk vp : Value} (h : QCells w qb vh vk vp) : w.cell? ⟨qb, 0, none⟩ = some vh := by unfold QCells at h; simp [World.cell?, h]
theorem QCells.c1 {w : World} {qb : Nat} {vh vk vp : Value} (h : QCells w qb vh vk vp) : w.cell? ⟨qb, 1, none⟩ = some vk := by unfold QCells at h; simp [World.cell?, h]
theorem QCells.c2 {w : World} {qb : Nat} {vh vk vp : Value} (h : QCells w qb vh vk vp) : w.cell? ⟨qb, 2, none⟩ = some vp := by unfold QCells at h; simp [World.cell?, h]
theorem QCells.fr {w : World} {qb i : Nat} {vh vk vp : Value} (h : QCells w qb vh vk vp) : w.frozen? ⟨qb, i, none⟩ = false := by unfold QCells at h; simp [World.frozen?, h]
theorem QCells.lt {w : World} {qb : Nat} {vh vk vp : Value} (h : QCells w qb vh vk vp) : qb < w.heap.size := q_cell_lt h.c0
theorem QCells.below {w w' : World} {qb B : Nat} {vh vk vp : Value} (h : QCells w qb vh vk vp) (hb : Below B w w') (hn : qb < B) : QCells w' qb vh vk vp := by
  unfold QCells; rw [hb.block _ hn]; exact h
theorem QCells.other {w : World} {qb : Nat} {vh vk vp u : Value} {a : Addr} (h : QCells w qb vh vk vp) (hn : qb ≠ a.block) : QCells (w.setCell a u) qb vh vk vp := by
  unfold QCells; rw [Below.heap_setCell _ _ _ _ hn]; exact h
end Go.Proofs.Ytgofachgoflgnaa
