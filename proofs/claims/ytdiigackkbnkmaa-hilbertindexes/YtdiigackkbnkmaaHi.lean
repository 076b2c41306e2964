/- Indexing an array of four points. -/
import Derived.Test.YtdiigackkbnkmaaHa
namespace Go.Proofs.Ytdiigackkbnkmaa
open Go.ChangeShapes Go.WideShapes Go.ChangeAt Go.RowKit Go.Joins Go.Deep

theorem ix0 (a b c d e f g h : Int) (w : World) : Sem.run Try.prog (Instr.index 55 (ar4 a b c d e f g h) (.int .i64 0)) w = .ok (pt a b) w := by
  rfl
theorem ix1 (a b c d e f g h : Int) (w : World) : Sem.run Try.prog (Instr.index 55 (ar4 a b c d e f g h) (.int .i64 1)) w = .ok (pt c d) w := by
  rfl
theorem ix2 (a b c d e f g h : Int) (w : World) : Sem.run Try.prog (Instr.index 55 (ar4 a b c d e f g h) (.int .i64 2)) w = .ok (pt e f) w := by
  rfl
theorem ix3 (a b c d e f g h : Int) (w : World) : Sem.run Try.prog (Instr.index 55 (ar4 a b c d e f g h) (.int .i64 3)) w = .ok (pt g h) w := by
  rfl

def Pb (w : World) (g : Nat) (x y : Int) : Prop := w.heap[g]? = some (.cells #[.int .i64 x, .int .i64 y] 23)
theorem Pb.facts {w : World} {g : Nat} {x y : Int} (h : Pb w g x y) : w.cell? ⟨g, 0, none⟩ = some (.int .i64 x) ∧ w.cell? ⟨g, 1, none⟩ = some (.int .i64 y) ∧ (∀ i, w.frozen? ⟨g, i, none⟩ = false) := by
  unfold Pb at h
  refine ⟨?_, ?_, fun i => ?_⟩ <;> simp [World.cell?, World.frozen?, h]
theorem Pb.lt {w : World} {g : Nat} {x y : Int} (h : Pb w g x y) : g < w.heap.size := cell_lt h.facts.1
theorem Pb.below {w w' : World} {g B : Nat} {x y : Int} (h : Pb w g x y) (hb : Below B w w') (hn : g < B) : Pb w' g x y := by
  unfold Pb; rw [hb.block _ hn]; exact h
theorem Pb.new (w : World) (x y : Int) : Pb (w.alloc (.cells #[.int .i64 x, .int .i64 y] 23)) w.heap.size x y := by
  show (w.heap.push _)[w.heap.size]? = _
  rw [Array.getElem?_push, if_pos rfl]
theorem set_blk {w : World} {g i : Nat} {cs : Array Value} {t : TypeId} {u : Value} (h : w.heap[g]? = some (.cells cs t)) : (w.setCell ⟨g, i, none⟩ u).heap[g]? = some (.cells (cs.setIfInBounds i u) t) := by
  simp [World.setCell, Array.getElem?_modify, h]
theorem Pb.set {w : World} {g : Nat} {x y : Int} (h : Pb w g x y) (a b : Int) :
    Pb ((w.setCell ⟨g, 0, none⟩ (.int .i64 a)).setCell ⟨g, 1, none⟩ (.int .i64 b)) g a b := by
  have k := set_blk (i := 1) (u := .int .i64 b) (set_blk (i := 0) (u := .int .i64 a) h)
  exact k
theorem Pb.other {w : World} {g : Nat} {x y : Int} {u : Value} {a : Addr} (h : Pb w g x y) (hn : g ≠ a.block) : Pb (w.setCell a u) g x y := by
  unfold Pb; rw [Below.heap_setCell _ _ _ _ hn]; exact h
end Go.Proofs.Ytdiigackkbnkmaa
