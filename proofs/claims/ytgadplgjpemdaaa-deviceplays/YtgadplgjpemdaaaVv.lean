/- device: DevicePlays, many blocks or many operations; the opening. -/
import Derived.Test.YtgadplgjpemdaaaVt
set_option linter.unusedSimpArgs false
namespace Go.Proofs.Ytgadplgjpemdaaa
open Go.ChangeShapes Go.WideShapes Go.ChangeAt Go.RowKit Go.Joins Go.Deep

set_option maxRecDepth 100000 in
set_option maxHeartbeats 8000000 in
theorem plays_few (w : World) (x : Int) (m cap : Nat) (a : Option Addr) (h : 16 < x ∨ 40 < m) :
    Calls Try.prog 3 #[.int .i64 x, .slice a m cap] w fun e w' => e = .returned (.bool true) ∧ Below w.heap.size w w' := by
  by_cases h1 : 16 < x
  · have n1 : decide (16 < x) = true := by simpa using h1
    clear h h1
    go_enter Try.func3, Try.ntmps3
    go_wp2_with fail
    refine (lives_any _).mono ?_; rintro e w2 ⟨rfl, b⟩
    have BB := Lib.hid b
    clear b
    go_wp2_with fail
    go_ret
    exact ⟨rfl, BB.out⟩
  have n1 : decide (16 < x) = false := by simpa using h1
  have h2 : 40 < m := by omega
  have m1 : decide ((40 : Int) < (m : Int)) = true := by simp; omega
  have m2 : decide (40 < m) = true := by simpa using h2
  have m3 : (40 : Int) < (m : Int) := by omega
  clear h h1 h2
  go_enter Try.func3, Try.ntmps3
  go_wp2_with fail
  refine (lives_any _).mono ?_; rintro e w2 ⟨rfl, b⟩
  have BB := Lib.hid b
  clear b
  go_wp2_with fail
  go_ret
  exact ⟨rfl, BB.out⟩
theorem devicePlays_open1 {H : Type} {enc : TypeId × Value → H} {W : World} {base b0 : Nat} {spare : Nat → Bool} {held : Bool} {r : Reach} {v : Value} {d : DataW H} {p : List MemPlace}
    (hv : Value.okWide Try.prog W r b0 22 v) (h : DataW.Trod enc Try.prog W base spare held 22 v d p) : ∃ n g, OpsAt W v n g := ops_open hv h
end Go.Proofs.Ytgadplgjpemdaaa
