/- graph: smallest. -/
import Derived.Test.YtgofachgoflgnaaGh
namespace Go.Proofs.Ytgofachgoflgnaa
open Go.ChangeShapes Go.WideShapes Go.ChangeAt Go.RowKit Go.Joins Go.Deep

/- a row of numbers in block g -/
structure Nums (w : World) (g n cap : Nat) (l : List Int) : Prop where
  own : w.ownsRow 0 3 1 (.slice (some ⟨g, 0, none⟩) n cap) n (nums l)
  len : l.length = n
theorem Nums.lt {w : World} {g n cap : Nat} {l : List Int} (h : Nums w g n cap l) : g < w.heap.size := (h.own.lt g rfl).2
theorem Nums.at_ {w : World} {g n cap i : Nat} {l : List Int} (h : Nums w g n cap l) (hi : i < n) : w.cell? ⟨g, i, none⟩ = some (.int .i64 (l.getD i 0)) ∧ w.frozen? ⟨g, i, none⟩ = false := by
  rcases h.own.2 with ⟨e, _⟩ | ⟨g', cap', cur, e, _, hg, h1, h2, h3, h4⟩
  · cases e
  · injection e with e1 e2 e3
    injection e1 with e1; injection e1 with e1; subst e1
    have hl : i < l.length := by rw [h.len]; exact hi
    have key : cur.toList[i]? = some (.int .i64 (l.getD i 0)) := by
      have e4 : (nums l)[i]? = some (.int .i64 (l.getD i 0)) := by simp [nums, List.getD, List.getElem?_eq_getElem hl]
      rw [← h4, List.getElem?_take, if_pos (by omega)] at e4
      exact e4
    refine ⟨?_, ?_⟩
    · unfold World.cell?; rw [hg]; simpa using key
    · unfold World.frozen?; rw [hg]; simp
theorem Nums.set {w : World} {g n cap i : Nat} {l : List Int} (h : Nums w g n cap l) (x : Int) : Nums (w.setCell ⟨g, i, none⟩ (.int .i64 x)) g n cap (l.set i x) := by
  rcases h.own.2 with ⟨e, _⟩ | ⟨g', cap', cur, e, hb, hg, h1, h2, h3, h4⟩
  · cases e
  · injection e with e1 e2 e3
    injection e1 with e1; injection e1 with e1; subst e1 e3
    refine ⟨⟨by simp [nums, h.len], Or.inr ⟨g, cap, cur.setIfInBounds i (.int .i64 x), rfl, hb, ?_, h1, h2, by simpa using h3, ?_⟩⟩, by rw [List.length_set]; exact h.len⟩
    · rw [heap_setCell_same _ _ _ _ _ _ hg]
    · simp only [Array.toList_setIfInBounds]
      have : nums (l.set i x) = (nums l).set i (.int .i64 x) := by simp [nums, List.map_set]
      rw [this, ← h4, List.take_set]
theorem Nums.same {w W : World} {g n cap : Nat} {l : List Int} (h : Nums w g n cap l) (e : W.heap[g]? = w.heap[g]?) : Nums W g n cap l := by
  refine ⟨⟨h.own.1, ?_⟩, h.len⟩
  rcases h.own.2 with ⟨e, _⟩ | ⟨g', cap', cur, e', hb, hg, h3⟩
  · cases e
  · injection e' with e1 e2 e3
    injection e1 with e1; injection e1 with e1; subst e1 e3
    exact Or.inr ⟨g, cap, cur, rfl, hb, by rw [e]; exact hg, h3⟩
/- nothing but block g has changed -/
structure OnlyG (g : Nat) (w w' : World) : Prop where
  os : w'.os = w.os
  tape : w'.tape = w.tape
  output : w'.output = w.output
  size : w'.heap.size = w.heap.size
  block : ∀ k, k ≠ g → w'.heap[k]? = w.heap[k]?
theorem OnlyG.refl (g : Nat) (w : World) : OnlyG g w w := ⟨rfl, rfl, rfl, rfl, fun _ _ => rfl⟩
theorem OnlyG.set {g i : Nat} {w w' : World} {x : Value} (h : OnlyG g w w') : OnlyG g w (w'.setCell ⟨g, i, none⟩ x) :=
  ⟨h.os, h.tape, h.output, by rw [← h.size]; simp, fun k hk => by rw [Below.heap_setCell _ _ _ _ hk]; exact h.block k hk⟩
theorem OnlyG.below {g B : Nat} {w w' : World} (h : OnlyG g w w') (hB : B ≤ g) : Below B w w' := ⟨h.os, h.tape, h.output, Nat.le_of_eq h.size.symm, fun k hk => h.block k (by omega)⟩
/- every number leads to one that is not greater -/
end Go.Proofs.Ytgofachgoflgnaa

