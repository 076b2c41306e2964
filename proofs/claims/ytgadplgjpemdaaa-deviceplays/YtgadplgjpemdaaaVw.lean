/- device: DevicePlays, for all inputs. -/
import Derived.Test.YtgadplgjpemdaaaVu
import Derived.Test.YtgadplgjpemdaaaVv
namespace Go.Proofs.Ytgadplgjpemdaaa
open Go.ChangeShapes Go.WideShapes Go.ChangeAt Go.RowKit Go.Joins Go.Deep

theorem devicePlays_walk (x : Int) (v : Value) (w : World) (_ : (Lit.int .i64 x).wf = true) (h : ∃ n g, OpsAt w v n g) : Calls Try.prog 3 #[.int .i64 x, v] w fun e w' => e = .returned (.bool true) ∧ Below w.heap.size w w' := by
  obtain ⟨m, g, h⟩ := h
  have h0 := h
  obtain ⟨a, cap, rfl, _⟩ := h
  by_cases hb : 16 < x ∨ 40 < m
  · exact plays_few w x m cap a hb
  · exact plays_main w x m cap a g h0 (by omega) (by omega)
end Go.Proofs.Ytgadplgjpemdaaa
