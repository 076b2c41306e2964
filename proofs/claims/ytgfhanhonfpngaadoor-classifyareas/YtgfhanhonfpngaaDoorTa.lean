/- tags: rows of tags; valid, Check, the program's and the reference's. -/
import Derived.Test.YtgfhanhonfpngaaDoorRows
import Derived.Test.YtgfhanhonfpngaaDoorMath
import Derived.WalkKit
import Derived.ProofKit
import Derived.OpenShut
import Derived.Deep.QuietTactic
import Derived.BigQuiet
import Derived.Lib.Hide
import Derived.Lib.SmallJoins
import Derived.Deep.Slices
import Derived.ChangeSame
import Derived.WalkSmall
import Derived.WalkMore
import Derived.Deep.LoopGhost
import Derived.Deep.DeepCutAuto
import Derived.Deep.CutBlock
import Derived.Deep.RegionHeld3
import Derived.Deep.RegionHeld
import Derived.Maps.AppendAt
import Derived.WalkLawsBesides
namespace Go.Proofs.YtgfhanhonfpngaaDoor
open Go.ChangeShapes Go.WideShapes Go.ChangeAt Go.RowKit Go.Joins Go.Deep

open Go.Proofs.TagM

/- a row of tags -/
def TagsAt (w : World) (v : Value) (l : List Tg) : Prop :=
  ∃ a cap, v = .slice a l.length cap ∧ (a = none → l = [] ∧ cap = 0) ∧ (l = [] ∨ ∃ b off, a = some ⟨b, off, none⟩ ∧ b < w.heap.size ∧ ∀ j, j < l.length → w.cell? ⟨b, off + j * 2, none⟩ = some (.string (l.getD j default).1) ∧ w.cell? ⟨b, off + j * 2 + 1, none⟩ = some (.string (l.getD j default).2))
theorem TagsAt.below {w w' : World} {v : Value} {l : List Tg} (h : TagsAt w v l) (hb : Below w.heap.size w w') : TagsAt w' v l := by
  obtain ⟨a, cap, h1, hz, h2⟩ := h
  refine ⟨a, cap, h1, hz, ?_⟩
  rcases h2 with h2 | ⟨b, off, e, hl, hc⟩
  · exact Or.inl h2
  · refine Or.inr ⟨b, off, e, by have := hb.size; omega, fun j hj => ?_⟩
    rw [hb.cell hl, hb.cell hl]; exact hc j hj
theorem TagsAt.at_ {w : World} {a : Option Addr} {n cap j : Nat} {l : List Tg} (h : TagsAt w (.slice a n cap) l) (hj : j < l.length) : ∃ b off, a = some ⟨b, off, none⟩ ∧ b < w.heap.size ∧ w.cell? ⟨b, off + j * 2, none⟩ = some (.string (l.getD j default).1) ∧ w.cell? ⟨b, off + j * 2 + 1, none⟩ = some (.string (l.getD j default).2) := by
  obtain ⟨a', cap', e, _, h⟩ := h
  injection e with e1 e2 e3
  subst e1
  rcases h with h | ⟨b, off, e, hl, hc⟩
  · rw [h] at hj; exact absurd hj (by simp)
  · exact ⟨b, off, e, hl, hc j hj⟩
/- a block as a row -/
def Row (w : World) (b : Nat) (T : TypeId) (cs : List Value) : Prop := w.heap[b]? = some (.cells cs.toArray T (0, 0))
theorem Row.cell {w : World} {b T i : Nat} {cs : List Value} {v : Value} (h : Row w b T cs) (hv : cs[i]? = some v) : w.cell? ⟨b, i, none⟩ = some v := by
  unfold Row at h; unfold World.cell?; rw [h]; simpa using hv
theorem Row.fr {w : World} {b T i : Nat} {cs : List Value} (h : Row w b T cs) : w.frozen? ⟨b, i, none⟩ = false := by
  unfold Row at h; unfold World.frozen?; rw [h]; simp
theorem Row.lt {w : World} {b T : Nat} {cs : List Value} (h : Row w b T cs) : b < w.heap.size := by
  by_cases hl : b < w.heap.size
  · exact hl
  · unfold Row at h; rw [Array.getElem?_eq_none (Nat.le_of_not_lt hl)] at h; cases h
theorem Row.set {w : World} {b T i : Nat} {cs : List Value} (h : Row w b T cs) (v : Value) : Row (w.setCell ⟨b, i, none⟩ v) b T (cs.set i v) := by
  unfold Row at h ⊢; rw [heap_setCell_same _ _ _ _ _ _ h]; simp
theorem Row.other {w : World} {b T : Nat} {cs : List Value} {a : Addr} {v : Value} (h : Row w b T cs) (hn : b ≠ a.block) : Row (w.setCell a v) b T cs := by
  unfold Row at h ⊢; rw [Below.heap_setCell _ _ _ _ hn]; exact h
theorem Row.same {w W : World} {b T : Nat} {cs : List Value} (h : Row w b T cs) (e : W.heap[b]? = w.heap[b]?) : Row W b T cs := by unfold Row; rw [e]; exact h
theorem Row.below {w W : World} {b T B : Nat} {cs : List Value} (h : Row w b T cs) (hb : Below B w W) (hn : b < B) : Row W b T cs := h.same (hb.block b hn)
theorem Row.alloc {w : World} {b T : Nat} {cs : List Value} (h : Row w b T cs) (o : Obj) : Row (w.alloc o) b T cs := h.same (Below.heap_alloc _ _ _ h.lt)
theorem Row.new (w : World) (T : TypeId) (cs : List Value) : Row (w.alloc (.cells cs.toArray T)) w.heap.size T cs := heap_alloc_new _ _
abbrev tv (t : Tg) : Value := .agg #[.string t.1, .string t.2]
/- two strings, as the walk compares them -/
theorem bytes_inj {u s : ByteArray} (h : u.toList = s.toList) : u = s := by
  obtain ⟨⟨l⟩⟩ := u
  obtain ⟨⟨m⟩⟩ := s
  simp at h
  rw [h]
theorem str_ne {u s : ByteArray} (h : u ≠ s) : (u.toList == s.toList) = false := by
  rw [beq_eq_false_iff_ne]
  exact fun e => h (bytes_inj e)
theorem size_zero {u : ByteArray} (h : u.size = 0) : u = ⟨#[]⟩ := by
  obtain ⟨⟨l⟩⟩ := u
  cases l with
  | nil => rfl
  | cons a l => exact absurd h (by simp [ByteArray.size])
theorem str_nil {u : ByteArray} (h : u.size ≠ 0) : (u.toList == (⟨#[]⟩ : ByteArray).toList) = false := str_ne (by rintro rfl; exact h rfl)
theorem str_nil' {u : ByteArray} (h : u.size ≠ 0) : (u.toList == ([] : List UInt8)) = false := by
  rw [beq_eq_false_iff_ne]
  exact fun e => h (by have := bytes_inj (u := u) (s := ⟨#[]⟩) (e.trans (by simp)); rw [this]; rfl)
end Go.Proofs.YtgfhanhonfpngaaDoor

