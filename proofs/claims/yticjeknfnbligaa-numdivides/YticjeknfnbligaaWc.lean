/- Contracts: magnitudes, products, comparisons. -/
import Derived.Test.YticjeknfnbligaaWb
namespace Go.Proofs.Yticjeknfnbligaa
open Go.ChangeShapes Go.WideShapes Go.ChangeAt Go.RowKit

def mag (n : Int) : Int := if n < 0 then -n else n
theorem mag_bd (n : Int) (h : I64 n) : 0 ≤ mag n ∧ mag n ≤ 9223372036854775808 := by
  unfold mag; obtain ⟨a, b⟩ := h; split <;> omega
theorem ret_u64 {a b : Int} (h : a = b) : Ending.returned (.int .u64 a) = .returned (.int .u64 b) := by rw [h]

theorem ret_uu {a b c d : Int} (h : a = c) (k : b = d) : Ending.returned (.tuple #[.int .u64 a, .int .u64 b]) = .returned (.tuple #[.int .u64 c, .int .u64 d]) := by rw [h, k]

theorem magnitude_any (n : Int) (w : World) (h : I64 n) : Calls Try.prog 35 #[.int .i64 n] w fun e w' => e = .returned (.int .u64 (mag n)) ∧ w = w' := by
  obtain ⟨h1, h2⟩ := h
  by_cases hn : n < 0
  · go_enter Try.func35, Try.ntmps35
    go_wp2
    go_ret
    exact ⟨ret_u64 (by unfold mag; rw [if_pos hn]; simp only [IntKind.wrap_u64]; omega), rfl⟩
  · go_enter Try.func35, Try.ntmps35
    go_wp2
    go_ret
    exact ⟨ret_u64 (by unfold mag; rw [if_neg (by omega)]), rfl⟩
theorem magr_any (n : Int) (w : World) (h : I64 n) : Calls Try.prog 30 #[.int .i64 n] w fun e w' => e = .returned (.int .u64 (mag n)) ∧ w = w' := by
  obtain ⟨h1, h2⟩ := h
  by_cases hn : n < 0
  · go_enter Try.func30, Try.ntmps30
    go_wp2
    go_ret
    exact ⟨ret_u64 (by unfold mag; rw [if_pos hn]; omega), rfl⟩
  · go_enter Try.func30, Try.ntmps30
    go_wp2
    go_ret
    exact ⟨ret_u64 (by unfold mag; rw [if_neg (by omega)]), rfl⟩

theorem mul64_any (x y : Int) (w : World) (hx0 : 0 ≤ x) (hx : x < 18446744073709551616) (hy0 : 0 ≤ y) (hy : y < 18446744073709551616) :
    Calls Try.prog 34 #[.int .u64 x, .int .u64 y] w fun e w' => e = .returned (.tuple #[.int .u64 (x * y / 18446744073709551616), .int .u64 (x * y % 18446744073709551616)]) ∧ w = w' := by
  go_enter Try.func34, Try.ntmps34
  go_wp2
  go_ret2
  refine ⟨ret_uu ?_ ?_, rfl⟩
  · rw [← mul64_arith x y hx0 hx hy0 hy]
    simp only [IntKind.wrap_u64]
    rw [and_low32 x hx0 hx, and_low32 y hy0 hy, and_low32 _ (by omega) (by omega)]
  · simp only [IntKind.wrap_u64]

def sgn (a b : Int) : Int := if a < b then -1 else if b < a then 1 else 0
theorem cmpi_any (a b : Int) (w : World) : Calls Try.prog 31 #[.int .i64 a, .int .i64 b] w fun e w' => e = .returned (.int .i64 (sgn a b)) ∧ w = w' := by
  go_enter Try.func31, Try.ntmps31
  go_wp2
  all_goals
    go_ret
    exact ⟨ret_i64 (by unfold sgn; (try rw [if_pos (by omega)]); (try rw [if_neg (by omega)]); (try rw [if_pos (by omega)]); (try rw [if_neg (by omega)])), rfl⟩
theorem cmpu_any (a b : Int) (w : World) : Calls Try.prog 38 #[.int .u64 a, .int .u64 b] w fun e w' => e = .returned (.int .i64 (sgn a b)) ∧ w = w' := by
  go_enter Try.func38, Try.ntmps38
  go_wp2
  all_goals
    go_ret
    exact ⟨ret_i64 (by unfold sgn; (try rw [if_pos (by omega)]); (try rw [if_neg (by omega)]); (try rw [if_pos (by omega)]); (try rw [if_neg (by omega)])), rfl⟩
theorem sgn_bd (a b : Int) : -1 ≤ sgn a b ∧ sgn a b ≤ 1 := by unfold sgn; split <;> (try split) <;> omega

theorem sgn_lt {a b : Int} (h : a < b) : sgn a b = -1 := if_pos h
theorem sgn_gt {a b : Int} (h : b < a) : sgn a b = 1 := by unfold sgn; rw [if_neg (by omega), if_pos h]
theorem sgn_eq {a b : Int} (h : a = b) : sgn a b = 0 := by unfold sgn; rw [if_neg (by omega), if_neg (by omega)]
theorem sgn_cases (a : Int) : sgn a 0 = -1 ∨ sgn a 0 = 0 ∨ sgn a 0 = 1 := by unfold sgn; split <;> (try split) <;> omega
def psgn (a b : Int) : Int := sgn a 0 * sgn b 0
theorem psgn_bd (a b : Int) : -1 ≤ psgn a b ∧ psgn a b ≤ 1 := by
  rcases sgn_cases a with h | h | h <;> rcases sgn_cases b with k | k | k <;> (unfold psgn; rw [h, k]; omega)
theorem psgn_w (a b : Int) : wrap64 (sgn a 0 * sgn b 0) = psgn a b := by
  have := psgn_bd a b
  exact w64 rfl ⟨by omega, by omega⟩

/- the high and the low word of the product of the magnitudes -/
def phi (a b : Int) : Int := mag a * mag b / 18446744073709551616
def plo (a b : Int) : Int := mag a * mag b % 18446744073709551616
theorem phi_bd (a b : Int) (ha : I64 a) (hb : I64 b) : 0 ≤ phi a b ∧ phi a b ≤ 4611686018427387904 := by
  obtain ⟨a1, a2⟩ := mag_bd a ha
  obtain ⟨b1, b2⟩ := mag_bd b hb
  have h0 := Int.mul_nonneg a1 b1
  have h1 := Int.mul_le_mul a2 b2 b1 (by omega)
  unfold phi; omega
theorem plo_bd (a b : Int) : 0 ≤ plo a b ∧ plo a b < 18446744073709551616 := by unfold plo; omega

theorem multiply_any (a b : Int) (w : World) (ha : I64 a) (hb : I64 b) :
    Calls Try.prog 26 #[.int .i64 a, .int .i64 b] w fun e w' => e = .returned (.agg #[.int .i64 (psgn a b), .int .u64 (phi a b), .int .u64 (plo a b)]) ∧ w.alloc (.cells #[.int .i64 (psgn a b), .int .u64 (phi a b), .int .u64 (plo a b)] 38) = w' := by
  have ma := mag_bd a ha
  have mb := mag_bd b hb
  obtain ⟨ma1, ma2⟩ := ma
  obtain ⟨mb1, mb2⟩ := mb
  have hA := Lib.hid ha
  have hB := Lib.hid hb
  clear ha hb
  go_enter Try.func26, Try.ntmps26
  go_wp2_with fail
  refine (magnitude_any a _ hA.out).mono ?_; rintro e w' ⟨rfl, rfl⟩
  go_wp2_with fail
  refine (magnitude_any b _ hB.out).mono ?_; rintro e w' ⟨rfl, rfl⟩
  go_wp2_with fail
  refine (mul64_any _ _ _ ma1 (by omega) mb1 (by omega)).mono ?_; rintro e w' ⟨rfl, rfl⟩
  go_wp2_with fail
  refine (cmpi_any a 0 _).mono ?_; rintro e w' ⟨rfl, rfl⟩
  go_wp2_with fail
  refine (cmpi_any b 0 _).mono ?_; rintro e w' ⟨rfl, rfl⟩
  go_wp2_with fail
  rw [psgn_w]
  exact bodyPost_ret (v := .agg #[.int .i64 (psgn a b), .int .u64 (phi a b), .int .u64 (plo a b)]) (by simp [results, Try.results26, go_sem, phi, plo]) rfl ⟨rfl, rfl⟩

theorem times_any (x y : Int) (w : World) (hx0 : 0 ≤ x) (hx : x < 18446744073709551616) (hy0 : 0 ≤ y) (hy : y < 18446744073709551616) :
    Calls Try.prog 29 #[.int .u64 x, .int .u64 y] w fun e w' => e = .returned (.tuple #[.int .u64 (x * y / 18446744073709551616), .int .u64 (x * y % 18446744073709551616)]) ∧ w = w' := by
  go_enter Try.func29, Try.ntmps29
  go_wp2
  go_ret2
  refine ⟨ret_uu ?_ ?_, rfl⟩
  · obtain ⟨A, B, C, D, e1, e2, e3, e4, e5, b1, b2, b3, b4, b5, b6, b7, b8⟩ := times_arith x y hx0 hx hy0 hy
    simp only [IntKind.wrap_u64, td32, tm32, e1, e2, e3, e4, e5]
    omega
  · obtain ⟨A, B, C, D, e1, e2, e3, e4, e5, b1, b2, b3, b4, b5, b6, b7, b8⟩ := times_arith x y hx0 hx hy0 hy
    simp only [IntKind.wrap_u64, td32, tm32, e2, e3, e4, e5]
    omega
theorem sign_any (a b : Int) (w : World) : Calls Try.prog 33 #[.int .i64 a, .int .i64 b] w fun e w' => e = .returned (.int .i64 (psgn a b)) ∧ w = w' := by
  by_cases hz : a = 0 ∨ b = 0
  · have hp : psgn a b = 0 := by unfold psgn sgn; rcases hz with rfl | rfl <;> simp
    by_cases ha : a = 0
    · subst ha
      have HP := Lib.hid hp; clear hp hz
      go_enter Try.func33, Try.ntmps33
      go_wp2
      go_ret
      exact ⟨ret_i64 HP.out.symm, rfl⟩
    · have hb : b = 0 := by omega
      subst hb
      have ha2 : (a == 0) = false := by simpa using ha
      have HP := Lib.hid hp; clear hp hz
      go_enter Try.func33, Try.ntmps33
      go_wp2
      go_ret
      exact ⟨ret_i64 HP.out.symm, rfl⟩
  · have ha2 : (a == 0) = false := by simp; omega
    have hb2 : (b == 0) = false := by simp; omega
    rcases (show a < 0 ∨ 0 < a by omega) with h | h <;> rcases (show b < 0 ∨ 0 < b by omega) with k | k
    · have hp : Hid (psgn a b = 1) := by show psgn a b = _; unfold psgn; rw [sgn_lt h, sgn_lt k]; rfl
      clear hz
      go_enter Try.func33, Try.ntmps33
      go_wp2
      go_ret
      exact ⟨ret_i64 hp.out.symm, rfl⟩
    · have hp : Hid (psgn a b = -1) := by show psgn a b = _; unfold psgn; rw [sgn_lt h, sgn_gt k]; rfl
      have dk : decide (b < 0) = false := by simp; omega
      clear hz
      go_enter Try.func33, Try.ntmps33
      go_wp2
      go_ret
      exact ⟨ret_i64 hp.out.symm, rfl⟩
    · have hp : Hid (psgn a b = -1) := by show psgn a b = _; unfold psgn; rw [sgn_gt h, sgn_lt k]; rfl
      have dh : decide (a < 0) = false := by simp; omega
      clear hz
      go_enter Try.func33, Try.ntmps33
      go_wp2
      go_ret
      exact ⟨ret_i64 hp.out.symm, rfl⟩
    · have hp : Hid (psgn a b = 1) := by show psgn a b = _; unfold psgn; rw [sgn_gt h, sgn_gt k]; rfl
      have dh : decide (a < 0) = false := by simp; omega
      have dk : decide (b < 0) = false := by simp; omega
      clear hz
      go_enter Try.func33, Try.ntmps33
      go_wp2
      go_ret
      exact ⟨ret_i64 hp.out.symm, rfl⟩
end Go.Proofs.Yticjeknfnbligaa
