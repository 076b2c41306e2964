/- cmds: unzigzag, both; Same. -/
import Derived.Test.YthlbenldgnjgcaaDoorKm
import Derived.Laws.DeepNot64
namespace Go.Proofs.YthlbenldgnjgcaaDoor
open Go.ChangeShapes Go.WideShapes Go.ChangeAt Go.RowKit Go.Joins Go.Deep

def uz (n : Int) : Int := if n % 2 = 1 then -((n + 1) / 2) else n / 2
def uzOk (n : Int) : Prop := 0 ≤ n ∧ n ≤ 9223372036854775806
theorem uz_any (x : Int) (h0 : 0 ≤ x) (h9 : x ≤ 9223372036854775807) (w : World) : Calls Tryd.prog 33 #[.int .i64 x] w fun e w' => e = .returned (.int .i64 (uz x)) ∧ w' = w := by
  have d1 : Int.tmod x 2 = x % 2 := Int.tmod_eq_emod_of_nonneg h0
  have d2 : Int.tdiv x 2 = x / 2 := Int.tdiv_eq_ediv_of_nonneg h0
  have e1 : IntKind.i64.wrap (x / 2) = x / 2 := by rw [IntKind.wrap_i64]; omega
  have e2 : IntKind.i64.wrap (x % 2) = x % 2 := by rw [IntKind.wrap_i64]; omega
  by_cases h : x % 2 = 1
  · have V := Lib.hid (show uz x = -((x + 1) / 2) from if_pos h)
    have hb : (x % 2 == 1) = true := by simpa using h
    have e3 : IntKind.i64.wrap (-(x / 2) - 1) = -(x / 2) - 1 := by rw [IntKind.wrap_i64]; omega
    have e5 : bits .xor .i64 (-1) (x / 2) = -(x / 2) - 1 := by
      have e := i64_not (x / 2).toNat (by omega)
      have t : ((x / 2).toNat : Int) = x / 2 := Int.toNat_of_nonneg (by omega)
      rw [t] at e; rw [e]; omega
    have e4 : Hid (-(x / 2) - 1 = -((x + 1) / 2)) := by show _ = _; omega
    go_enter Tryd.func33, Tryd.ntmps33
    go_wp2_with fail
    go_ret
    exact ⟨by rw [V.out, ← e4.out]; rfl, rfl⟩
  · have V := Lib.hid (show uz x = x / 2 from if_neg h)
    have hb : (x % 2 == 1) = false := by simpa using h
    go_enter Tryd.func33, Tryd.ntmps33
    go_wp2_with fail
    go_ret
    exact ⟨by rw [V.out]; rfl, rfl⟩
theorem uzr_any (x : Int) (h0 : 0 ≤ x) (h9 : x ≤ 1000000) (w : World) : Calls Tryd.prog 32 #[.int .i64 x] w fun e w' => e = .returned (.int .i64 (uz x)) ∧ w' = w := by
  have d1 : Int.tmod x 2 = x % 2 := Int.tmod_eq_emod_of_nonneg h0
  have d2 : Int.tdiv x 2 = x / 2 := Int.tdiv_eq_ediv_of_nonneg h0
  have e1 : IntKind.i64.wrap (x / 2) = x / 2 := by rw [IntKind.wrap_i64]; omega
  have e2 : IntKind.i64.wrap (x % 2) = x % 2 := by rw [IntKind.wrap_i64]; omega
  by_cases h : x % 2 = 1
  · have V := Lib.hid (show uz x = -((x + 1) / 2) from if_pos h)
    have hb : (x % 2 == 1) = true := by simpa using h
    obtain ⟨y, hy⟩ : ∃ y, x + 1 = y := ⟨_, rfl⟩
    have e3 : IntKind.i64.wrap y = y := by rw [IntKind.wrap_i64]; omega
    have e4 : IntKind.i64.wrap (-y) = -y := by rw [IntKind.wrap_i64]; omega
    have d3 : Int.tdiv (-y) 2 = -(y / 2) := by rw [Int.neg_tdiv, Int.tdiv_eq_ediv_of_nonneg (by omega)]
    have d4 : Int.tdiv y 2 = y / 2 := Int.tdiv_eq_ediv_of_nonneg (by omega)
    have e5 : IntKind.i64.wrap (-(y / 2)) = -(y / 2) := by rw [IntKind.wrap_i64]; omega
    rw [hy] at V
    go_enter Tryd.func32, Tryd.ntmps32
    go_wp2_with fail
    go_ret
    exact ⟨by rw [V.out]; rfl, rfl⟩
  · have V := Lib.hid (show uz x = x / 2 from if_neg h)
    have hb : (x % 2 == 1) = false := by simpa using h
    go_enter Tryd.func32, Tryd.ntmps32
    go_wp2_with fail
    go_ret
    exact ⟨by rw [V.out]; rfl, rfl⟩
end Go.Proofs.YthlbenldgnjgcaaDoor
