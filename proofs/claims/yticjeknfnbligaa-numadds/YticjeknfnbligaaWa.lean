/- Contracts of num's small functions and of their references. -/
import Derived.Test.YticjeknfnbligaaRows
import Derived.Test.YticjeknfnbligaaMath
import Derived.WalkKit
import Derived.ProofKit
import Derived.OpenShut
import Derived.Deep.QuietTactic
import Derived.BigQuiet
import Derived.Lib.Hide
namespace Go.Proofs.Yticjeknfnbligaa
open Go.ChangeShapes Go.WideShapes Go.ChangeAt Go.RowKit

def clampZ (x lo hi : Int) : Int := if x < lo then lo else if hi < x then hi else x

theorem ret_i64 {a b : Int} (h : a = b) : Ending.returned (.int .i64 a) = .returned (.int .i64 b) := by rw [h]

theorem clamp_any (x lo hi : Int) (w : World) :
    Calls Try.prog 11 #[.int .i64 x, .int .i64 lo, .int .i64 hi] w fun e w' => e = .returned (.int .i64 (clampZ x lo hi)) ∧ w = w' := by
  go_enter Try.func11, Try.ntmps11
  go_wp2
  all_goals
    go_ret
    exact ⟨ret_i64 (by unfold clampZ; split <;> (try split) <;> omega), rfl⟩

theorem clampr_any (x lo hi : Int) (w : World) :
    Calls Try.prog 12 #[.int .i64 x, .int .i64 lo, .int .i64 hi] w fun e w' => e = .returned (.int .i64 (clampZ x lo hi)) ∧ w = w' := by
  go_enter Try.func12, Try.ntmps12
  go_wp2
  all_goals
    go_ret
    exact ⟨ret_i64 (by unfold clampZ; split <;> (try split) <;> omega), rfl⟩

def I64 (a : Int) : Prop := -9223372036854775808 ≤ a ∧ a ≤ 9223372036854775807
theorem w64 {a b : Int} (h : a = b) (hb : I64 b) : wrap64 a = b := by
  subst h; exact IntWalk.wrap64_in _ hb

/- FloorDiv -/
theorem floor_neg (k : Nat) (a b : Int) (hb : b ≤ 0) (w : World) (hk : k = 14 ∨ k = 15 ∨ k = 16 ∨ k = 17) :
    Calls Try.prog k #[.int .i64 a, .int .i64 b] w fun e w' => e = .returned (.int .i64 0) ∧ w = w' := by
  rcases hk with rfl | rfl | rfl | rfl
  · go_enter Try.func14, Try.ntmps14
    go_wp2; go_ret; exact ⟨rfl, rfl⟩
  · go_enter Try.func15, Try.ntmps15
    go_wp2; go_ret; exact ⟨rfl, rfl⟩
  · go_enter Try.func16, Try.ntmps16
    go_wp2; go_ret; exact ⟨rfl, rfl⟩
  · go_enter Try.func17, Try.ntmps17
    go_wp2; go_ret; exact ⟨rfl, rfl⟩

theorem floor_any (a b : Int) (w : World) (ha : I64 a) (hb : 0 < b) :
    Calls Try.prog 14 #[.int .i64 a, .int .i64 b] w fun e w' => e = .returned (.int .i64 (a / b)) ∧ w = w' := by
  have hf : I64 (a / b) := ediv_fits a b hb ha.1 ha.2
  obtain ⟨ha1, ha2⟩ := ha
  go_enter Try.func14, Try.ntmps14
  go_wp2
  · go_ret
    exact ⟨ret_i64 (w64 (td_neg a b hb ‹_›) hf), rfl⟩
  · go_ret
    exact ⟨ret_i64 (td_pos a b hb ‹_›), rfl⟩
theorem floorr_any (a b : Int) (w : World) (ha : I64 a) (hb : 0 < b) :
    Calls Try.prog 15 #[.int .i64 a, .int .i64 b] w fun e w' => e = .returned (.int .i64 (a / b)) ∧ w = w' := by
  have hf : I64 (a / b) := ediv_fits a b hb ha.1 ha.2
  obtain ⟨ha1, ha2⟩ := ha
  by_cases h : a.tmod b < 0
  · obtain ⟨h1, h2⟩ := (tmod_neg_iff a b).1 h
    have h3 : (a.tmod b != 0) = true := by simpa using h2
    have e := Lib.hid (td_neg a b hb h)
    clear h2
    go_enter Try.func15, Try.ntmps15
    go_wp2
    go_ret
    exact ⟨ret_i64 (w64 e.out hf), rfl⟩
  · have e := Lib.hid (td_pos a b hb (by omega))
    by_cases h0 : a < 0
    · have h2 : (a.tmod b != 0) = false := by
        simp; have := (tmod_neg_iff a b).2; omega
      go_enter Try.func15, Try.ntmps15
      go_wp2
      go_ret
      exact ⟨ret_i64 e.out, rfl⟩
    · go_enter Try.func15, Try.ntmps15
      go_wp2
      go_ret
      exact ⟨rfl, rfl⟩

/- RoundDiv -/
def roundZ (a b : Int) : Int := if b - a % b ≤ a % b then a / b + 1 else a / b


theorem round_fits (a b : Int) (hb : 0 < b) (ha : I64 a) (h : b - a % b ≤ a % b) : I64 (a / b + 1) := by
  have hf := ediv_fits a b hb ha.1 ha.2
  refine ⟨by omega, ?_⟩
  have h2 : 2 ≤ b := by
    have := Int.emod_lt_of_pos a hb
    have := Int.emod_nonneg a (show b ≠ 0 by omega)
    omega
  have h3 : a / b ≤ a / 2 ∨ a / b ≤ 0 := by
    by_cases h0 : 0 ≤ a
    · left
      have q0 : 0 ≤ a / b := Int.ediv_nonneg h0 (by omega)
      have q1 := Int.ediv_mul_le a (show b ≠ 0 by omega)
      have q2 : a / b * 2 ≤ a / b * b := Int.mul_le_mul_of_nonneg_left h2 q0
      omega
    · right; exact Int.le_of_lt (Int.ediv_neg_of_neg_of_pos (by omega) hb)
  have := ha.2
  omega

theorem round_any (a b : Int) (w : World) (ha : I64 a) (hb : 0 < b) (hb2 : I64 b) :
    Calls Try.prog 16 #[.int .i64 a, .int .i64 b] w fun e w' => e = .returned (.int .i64 (roundZ a b)) ∧ ∃ n, w' = w.drewN n := by
  have hf : I64 (a / b) := ediv_fits a b hb ha.1 ha.2
  have hr := Lib.hid (round_fits a b hb ha)
  have g1 := tm_lt a b hb
  have g2 := tm_gt a b hb
  have en := Lib.hid (td_neg a b hb)
  have ep := Lib.hid (td_pos a b hb)
  have mn := Lib.hid (tm_neg a b hb)
  have mp := Lib.hid (tm_pos a b hb)
  have hbz : (b == 0) = false := by simp; omega
  obtain ⟨ha1, ha2⟩ := ha
  obtain ⟨hb3, hb4⟩ := hb2
  go_enter Try.func16, Try.ntmps16
  go_wp2
  go_quiet (fail)
  go_wp2
  · rename_i h1 h2 
    go_ret
    have e1 := en.out (by assumption)
    have e2 := mn.out (by assumption)
    have e3 : b - (a.tmod b + b) ≤ a.tmod b + b := by assumption
    rw [e2] at e3
    refine ⟨ret_i64 ?_, _, rfl⟩
    unfold roundZ; rw [if_pos e3]
    exact w64 (by rw [w64 e1 hf]) (hr.out e3)
  · go_ret
    have e1 := en.out (by assumption)
    have e2 := mn.out (by assumption)
    have e3 : a.tmod b + b < b - (a.tmod b + b) := by assumption
    rw [e2] at e3
    refine ⟨ret_i64 ?_, _, rfl⟩
    unfold roundZ; rw [if_neg (by omega)]
    exact w64 e1 hf
  · go_ret
    have e1 := ep.out (by assumption)
    have e2 := mp.out (by assumption)
    have e3 : b - a.tmod b ≤ a.tmod b := by assumption
    rw [e2] at e3
    refine ⟨ret_i64 ?_, _, rfl⟩
    unfold roundZ; rw [if_pos e3]
    exact w64 (by rw [e1]) (hr.out e3)
  · go_ret
    have e1 := ep.out (by assumption)
    have e2 := mp.out (by assumption)
    have e3 : a.tmod b < b - a.tmod b := by assumption
    rw [e2] at e3
    refine ⟨ret_i64 ?_, _, rfl⟩
    unfold roundZ; rw [if_neg (by omega)]
    exact e1

theorem roundr_any (a b : Int) (w : World) (ha : I64 a) (hb : 0 < b) (hb2 : I64 b) :
    Calls Try.prog 17 #[.int .i64 a, .int .i64 b] w fun e w' => e = .returned (.int .i64 (roundZ a b)) ∧ w = w' := by
  have hf : I64 (a / b) := ediv_fits a b hb ha.1 ha.2
  have hA := Lib.hid ha
  have hr := Lib.hid (round_fits a b hb ha)
  have g1 := tm_lt a b hb
  have g2 := tm_gt a b hb
  have mn := Lib.hid (tm_neg a b hb)
  have mp := Lib.hid (tm_pos a b hb)
  have hbz : (b == 0) = false := by simp; omega
  obtain ⟨ha1, ha2⟩ := ha
  obtain ⟨hb3, hb4⟩ := hb2
  have hf1 := hf.1
  have hf2 := hf.2
  go_enter Try.func17, Try.ntmps17
  go_wp2_with (go_at_call 15; refine (floorr_any _ _ _ hA.out hb).mono ?_; rintro e w' ⟨rfl, rfl⟩)
  · go_ret
    have e2 := mn.out (by assumption)
    have e3 : b - (a.tmod b + b) ≤ a.tmod b + b := by assumption
    rw [e2] at e3
    refine ⟨ret_i64 ?_, rfl⟩
    unfold roundZ; rw [if_pos e3]
    exact w64 rfl (hr.out e3)
  · go_ret
    have e2 := mn.out (by assumption)
    have e3 : a.tmod b + b < b - (a.tmod b + b) := by assumption
    rw [e2] at e3
    refine ⟨ret_i64 ?_, rfl⟩
    unfold roundZ; rw [if_neg (by omega)]
  · go_ret
    have e2 := mp.out (by assumption)
    have e3 : b - a.tmod b ≤ a.tmod b := by assumption
    rw [e2] at e3
    refine ⟨ret_i64 ?_, rfl⟩
    unfold roundZ; rw [if_pos e3]
    exact w64 rfl (hr.out e3)
  · go_ret
    have e2 := mp.out (by assumption)
    have e3 : a.tmod b < b - a.tmod b := by assumption
    rw [e2] at e3
    refine ⟨ret_i64 ?_, rfl⟩
    unfold roundZ; rw [if_neg (by omega)]
end Go.Proofs.Yticjeknfnbligaa
