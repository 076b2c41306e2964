/- Contracts: floorNegative, MulDiv. -/
import Derived.Test.YticjeknfnbligaaWe
namespace Go.Proofs.Yticjeknfnbligaa
open Go.ChangeShapes Go.WideShapes Go.ChangeAt Go.RowKit

theorem ret_ib {a b : Int} {c d : Bool} (h : a = b) (k : c = d) : Ending.returned (.tuple #[.int .i64 a, .bool c]) = .returned (.tuple #[.int .i64 b, .bool d]) := by rw [h, k]

/- the product by its sign and magnitude -/
theorem mag_neg {a : Int} (h : a < 0) : mag a = -a := if_pos h
theorem mag_pos {a : Int} (h : 0 ≤ a) : mag a = a := if_neg (by omega)
theorem prod_sign (a b : Int) : a * b = if psgn a b < 0 then -(mag a * mag b) else mag a * mag b := by
  rcases Int.lt_trichotomy a 0 with h | h | h <;> rcases Int.lt_trichotomy b 0 with k | k | k
  · rw [mag_neg h, mag_neg k]; unfold psgn; rw [sgn_lt h, sgn_lt k, if_neg (by omega), Int.neg_mul_neg]
  · subst k; unfold psgn mag; simp [sgn]
  · rw [mag_neg h, mag_pos (by omega)]; unfold psgn; rw [sgn_lt h, sgn_gt k, if_pos (by omega), Int.neg_mul, Int.neg_neg]
  · subst h; unfold psgn mag; simp [sgn]
  · subst h; unfold psgn mag; simp [sgn]
  · subst h; unfold psgn mag; simp [sgn]
  · rw [mag_pos (by omega), mag_neg k]; unfold psgn; rw [sgn_gt h, sgn_lt k, if_pos (by omega), Int.mul_neg, Int.neg_neg]
  · subst k; unfold psgn mag; simp [sgn]
  · rw [mag_pos (by omega), mag_pos (by omega)]; unfold psgn; rw [sgn_gt h, sgn_gt k, if_neg (by omega)]
theorem neg_ediv (M c : Int) (hc : 0 < c) : (-M) / c = if 0 < M % c then -(M / c) - 1 else -(M / c) := by
  have e := Int.mul_ediv_add_emod M c
  have m0 := Int.emod_nonneg M (show c ≠ 0 by omega)
  have m1 := Int.emod_lt_of_pos M hc
  split
  · exact ediv_of _ _ _ (c - M % c) hc (by rw [Int.mul_sub, Int.mul_neg]; omega) (by omega) (by omega)
  · exact ediv_of _ _ _ 0 hc (by rw [Int.mul_neg]; omega) (by omega) hc
theorem M_split (a b : Int) : phi a b * 18446744073709551616 + plo a b = mag a * mag b := by unfold phi plo; omega

/- the negated quotient -/
def nq (q r : Int) : Int := if 0 < r then -q - 1 else -q
theorem floorneg_yes (q r : Int) (w : World) (q0 : 0 ≤ q) (r0 : 0 ≤ r) (r1 : r < 18446744073709551616) (h : q < 9223372036854775808 ∨ q = 9223372036854775808 ∧ r = 0) :
    Calls Try.prog 28 #[.int .u64 q, .int .u64 r] w fun e w' => e = .returned (.tuple #[.int .i64 (nq q r), .bool true]) ∧ w = w' := by
  rcases h with h | ⟨rfl, rfl⟩
  · have hb : (q == 9223372036854775808) = false := by simp; omega
    by_cases hr : 0 < r
    · go_enter Try.func28, Try.ntmps28
      go_wp2
      go_ret2
      refine ⟨ret_ib ?_ rfl, rfl⟩
      unfold nq; rw [if_pos hr]; unfold wrap64; simp only [IntKind.wrap_u64]; omega
    · go_enter Try.func28, Try.ntmps28
      go_wp2
      go_ret2
      refine ⟨ret_ib ?_ rfl, rfl⟩
      unfold nq; rw [if_neg (by omega)]; unfold wrap64; simp only [IntKind.wrap_u64]; omega
  · go_enter Try.func28, Try.ntmps28
    go_wp2
    go_ret2
    exact ⟨ret_ib (by unfold nq wrap64; simp only [IntKind.wrap_u64]; omega) rfl, rfl⟩
theorem floorneg_no (q r : Int) (w : World) (h : 9223372036854775808 < q ∨ q = 9223372036854775808 ∧ 0 < r) :
    Calls Try.prog 28 #[.int .u64 q, .int .u64 r] w fun e w' => e = .returned (.tuple #[.int .i64 0, .bool false]) ∧ w = w' := by
  rcases h with h | ⟨rfl, h⟩
  · go_enter Try.func28, Try.ntmps28
    go_wp2
    go_ret2
    exact ⟨rfl, rfl⟩
  · go_enter Try.func28, Try.ntmps28
    go_wp2
    go_ret2
    exact ⟨rfl, rfl⟩

/- Div64, whatever the upper word -/
set_option maxRecDepth 100000 in
set_option maxHeartbeats 1000000 in
theorem div64_any (hi lo y : Int) (w : World) (h0 : 0 ≤ hi) (hy : hi < y) (hy2 : y < 9223372036854775808) (hl0 : 0 ≤ lo) (hl : lo < 18446744073709551616) :
    Calls Try.prog 27 #[.int .u64 hi, .int .u64 lo, .int .u64 y] w fun e w' => e = .returned (.tuple #[.int .u64 ((hi * 18446744073709551616 + lo) / y), .int .u64 ((hi * 18446744073709551616 + lo) % y)]) ∧ ∃ n, w' = w.drewN n := by
  by_cases hz : hi = 0
  · subst hz
    have yz : (y == 0) = false := by simp; omega
    go_enter Try.func27, Try.ntmps27
    go_wp2
    go_quiet (fail)
    go_wp2
    go_ret2
    refine ⟨ret_uu ?_ ?_, _, rfl⟩
    · rw [Int.zero_mul, Int.zero_add]
    · rw [Int.zero_mul, Int.zero_add]
  · exact (div64_big hi lo y w (by omega) hy hy2 hl0 hl).mono fun e w' ⟨he, hw⟩ => ⟨he, 0, hw ▸ rfl⟩

theorem muldiv_neg (a b c : Int) (w : World) (hc : c ≤ 0) : Calls Try.prog 22 #[.int .i64 a, .int .i64 b, .int .i64 c] w fun e w' => e = .returned (.tuple #[.int .i64 0, .bool false]) ∧ w = w' := by
  go_enter Try.func22, Try.ntmps22
  go_wp2
  go_ret2
  exact ⟨rfl, rfl⟩

/- what MulDiv answers -/
def mdv (a b c v : Int) (o : Bool) : Prop := if -9223372036854775808 ≤ a * b / c ∧ a * b / c ≤ 9223372036854775807 then v = a * b / c ∧ o = true else v = 0 ∧ o = false
def MulDivs (a b c : Int) (w : World) (e : Ending) (w' : World) : Prop := ∃ v o, mdv a b c v o ∧ e = .returned (.tuple #[.int .i64 v, .bool o]) ∧ Below w.heap.size w w'
theorem mdv_unique {a b c v v' : Int} {o o' : Bool} (h : mdv a b c v o) (k : mdv a b c v' o') : v = v' ∧ o = o' := by
  unfold mdv at h k
  split at h
  · rw [if_pos (by assumption)] at k; exact ⟨h.1.trans k.1.symm, h.2.trans k.2.symm⟩
  · rw [if_neg (by assumption)] at k; exact ⟨h.1.trans k.1.symm, h.2.trans k.2.symm⟩
theorem mdv_yes {a b c v : Int} (h : a * b / c = v) (h1 : -9223372036854775808 ≤ v) (h2 : v ≤ 9223372036854775807) : mdv a b c v true := by
  unfold mdv; rw [if_pos (by omega)]; exact ⟨h.symm, rfl⟩
theorem mdv_no {a b c : Int} (h : a * b / c < -9223372036854775808 ∨ 9223372036854775807 < a * b / c) : mdv a b c 0 false := by
  unfold mdv; rw [if_neg (by omega)]; exact ⟨rfl, rfl⟩

/- by the quotient and the rest of the magnitude -/
theorem mdv_pos {a b c q : Int} (hs : ¬ psgn a b < 0) (hq : mag a * mag b / c = q) : a * b / c = q := by
  rw [prod_sign, if_neg hs]; exact hq
theorem mdv_neg {a b c q r : Int} (hc : 0 < c) (hs : psgn a b < 0) (hq : mag a * mag b / c = q) (hr : mag a * mag b % c = r) : a * b / c = nq q r := by
  rw [prod_sign, if_pos hs, neg_ediv _ _ hc, hq, hr]; rfl
theorem nq_bd (q r : Int) : -q - 1 ≤ nq q r ∧ nq q r ≤ -q := by unfold nq; split <;> omega

set_option maxHeartbeats 1000000 in
theorem muldiv_any (a b c : Int) (w : World) (ha : I64 a) (hb : I64 b) (hc : 0 < c) (hc2 : c ≤ 9223372036854775807) :
    Calls Try.prog 22 #[.int .i64 a, .int .i64 b, .int .i64 c] w (MulDivs a b c w) := by
  have p1 := (phi_bd a b ha hb).1; have p2 := (phi_bd a b ha hb).2
  have l1 := (plo_bd a b).1; have l2 := (plo_bd a b).2
  have MS := Lib.hid (M_split a b)
  have HA := Lib.hid ha; have HB := Lib.hid hb
  clear ha hb
  by_cases h1 : c ≤ phi a b
  · have fin : Hid (mdv a b c 0 false) := by
      have big : 18446744073709551616 ≤ mag a * mag b / c := by
        rw [Int.le_ediv_iff_mul_le hc, ← MS.out]; omega
      refine mdv_no ?_
      by_cases hs : psgn a b < 0
      · left; rw [mdv_neg hc hs rfl rfl]; have := nq_bd (mag a * mag b / c) (mag a * mag b % c); omega
      · right; rw [mdv_pos hs rfl]; omega
    go_enter Try.func22, Try.ntmps22
    go_wp2_with fail
    refine (multiply_any a b _ HA.out HB.out).mono ?_; rintro e w' ⟨rfl, rfl⟩
    go_wp2_with fail
    go_ret2
    exact ⟨0, false, fin.out, rfl, ((Below.refl _ _).alloc (Nat.le_refl _) _).alloc (by simp) _⟩
  · obtain ⟨q, hq⟩ : ∃ q, mag a * mag b / c = q := ⟨_, rfl⟩
    obtain ⟨r, hr⟩ : ∃ r, mag a * mag b % c = r := ⟨_, rfl⟩
    have q0 : 0 ≤ q := by rw [← hq]; exact Int.ediv_nonneg (by rw [← MS.out]; omega) (by omega)
    have q1 : q < 18446744073709551616 := by rw [← hq, Int.ediv_lt_iff_lt_mul hc, ← MS.out]; omega
    have r0 : 0 ≤ r := by rw [← hr]; exact Int.emod_nonneg _ (by omega)
    have r1 : r < c := by rw [← hr]; exact Int.emod_lt_of_pos _ hc
    have HQ := Lib.hid hq; have HR := Lib.hid hr
    have hq' : (phi a b * 18446744073709551616 + plo a b) / c = q := by rw [MS.out]; exact HQ.out
    have hr' : (phi a b * 18446744073709551616 + plo a b) % c = r := by rw [MS.out]; exact HR.out
    have HQ' := Lib.hid hq'; have HR' := Lib.hid hr'
    clear hq hr hq' hr'
    by_cases hs : psgn a b < 0
    · by_cases hn : q < 9223372036854775808 ∨ q = 9223372036854775808 ∧ r = 0
      · have fin : Hid (mdv a b c (nq q r) true) := mdv_yes (mdv_neg hc hs HQ.out HR.out) (by unfold nq; split <;> omega) (by unfold nq; split <;> omega)
        have HNN := Lib.hid hn; clear hn
        go_enter Try.func22, Try.ntmps22
        go_wp2_with fail
        refine (multiply_any a b _ HA.out HB.out).mono ?_; rintro e w' ⟨rfl, rfl⟩
        go_wp2_with fail
        refine (div64_any _ _ _ _ p1 (by omega) (by omega) l1 l2).mono ?_; rintro e w' ⟨rfl, n, rfl⟩
        rw [HQ'.out, HR'.out]
        go_wp2_with fail
        refine (floorneg_yes q r _ q0 r0 (by omega) HNN.out).mono ?_; rintro e w' ⟨rfl, rfl⟩
        go_wp2_with fail
        go_ret2
        exact ⟨nq q r, true, fin.out, rfl, below_drewN (((Below.refl _ _).alloc (Nat.le_refl _) _).alloc (by simp) _) _⟩
      · have fin : Hid (mdv a b c 0 false) := mdv_no (by rw [mdv_neg hc hs HQ.out HR.out]; left; unfold nq; split <;> omega)
        have HNN := Lib.hid hn; clear hn
        go_enter Try.func22, Try.ntmps22
        go_wp2_with fail
        refine (multiply_any a b _ HA.out HB.out).mono ?_; rintro e w' ⟨rfl, rfl⟩
        go_wp2_with fail
        refine (div64_any _ _ _ _ p1 (by omega) (by omega) l1 l2).mono ?_; rintro e w' ⟨rfl, n, rfl⟩
        rw [HQ'.out, HR'.out]
        go_wp2_with fail
        refine (floorneg_no q r _ (by have := HNN.out; omega)).mono ?_; rintro e w' ⟨rfl, rfl⟩
        go_wp2_with fail
        go_ret2
        exact ⟨0, false, fin.out, rfl, below_drewN (((Below.refl _ _).alloc (Nat.le_refl _) _).alloc (by simp) _) _⟩
    · by_cases hn : q ≤ 9223372036854775807
      · have fin : Hid (mdv a b c q true) := mdv_yes (mdv_pos hs HQ.out) (by omega) (by omega)
        go_enter Try.func22, Try.ntmps22
        go_wp2_with fail
        refine (multiply_any a b _ HA.out HB.out).mono ?_; rintro e w' ⟨rfl, rfl⟩
        go_wp2_with fail
        refine (div64_any _ _ _ _ p1 (by omega) (by omega) l1 l2).mono ?_; rintro e w' ⟨rfl, n, rfl⟩
        rw [HQ'.out, HR'.out]
        go_wp2_with fail
        go_ret2
        exact ⟨q, true, fin.out, rfl, below_drewN (((Below.refl _ _).alloc (Nat.le_refl _) _).alloc (by simp) _) _⟩
      · have fin : Hid (mdv a b c 0 false) := mdv_no (by rw [mdv_pos hs HQ.out]; omega)
        go_enter Try.func22, Try.ntmps22
        go_wp2_with fail
        refine (multiply_any a b _ HA.out HB.out).mono ?_; rintro e w' ⟨rfl, rfl⟩
        go_wp2_with fail
        refine (div64_any _ _ _ _ p1 (by omega) (by omega) l1 l2).mono ?_; rintro e w' ⟨rfl, n, rfl⟩
        rw [HQ'.out, HR'.out]
        go_wp2_with fail
        go_ret2
        exact ⟨0, false, fin.out, rfl, below_drewN (((Below.refl _ _).alloc (Nat.le_refl _) _).alloc (by simp) _) _⟩
end Go.Proofs.Yticjeknfnbligaa
