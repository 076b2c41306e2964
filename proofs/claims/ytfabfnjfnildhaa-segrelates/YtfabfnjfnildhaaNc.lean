/- num's CmpMul and its reference. -/
import Derived.Test.YtfabfnjfnildhaaWa
import Derived.Laws.MathBits
namespace Go.Proofs.Ytfabfnjfnildhaa
open Go.ChangeShapes Go.WideShapes Go.ChangeAt Go.RowKit Go.Joins Go.Deep

theorem prod32 (a b : Int) (ha0 : 0 ≤ a) (ha : a ≤ 4294967295) (hb0 : 0 ≤ b) (hb : b ≤ 4294967295) : 0 ≤ a * b ∧ a * b ≤ 18446744065119617025 := by
  refine ⟨Int.mul_nonneg ha0 hb0, ?_⟩
  have := Int.mul_le_mul ha hb hb0 (by omega : (0 : Int) ≤ 4294967295)
  simpa using this

theorem td32 (z : Int) : (z % 18446744073709551616).tdiv 4294967296 = z % 18446744073709551616 / 4294967296 := Int.tdiv_eq_ediv_of_nonneg (by omega)

theorem tm32 (z : Int) : (z % 18446744073709551616).tmod 4294967296 = z % 18446744073709551616 % 4294967296 := Int.tmod_eq_emod_of_nonneg (by omega)

theorem times_arith (x y : Int) (hx0 : 0 ≤ x) (hx : x < 18446744073709551616) (hy0 : 0 ≤ y) (hy : y < 18446744073709551616) :
    ∃ A B C D : Int, x / 4294967296 * (y / 4294967296) = A ∧ x / 4294967296 * (y % 4294967296) = B ∧ x % 4294967296 * (y % 4294967296) = C ∧ x % 4294967296 * (y / 4294967296) = D ∧
      x * y = A * 18446744073709551616 + (B + D) * 4294967296 + C ∧ 0 ≤ A ∧ A ≤ 18446744065119617025 ∧ 0 ≤ B ∧ B ≤ 18446744065119617025 ∧ 0 ≤ C ∧ C ≤ 18446744065119617025 ∧ 0 ≤ D ∧ D ≤ 18446744065119617025 := by
  have ex : x = x / 4294967296 * 4294967296 + x % 4294967296 := by omega
  have ey : y = y / 4294967296 * 4294967296 + y % 4294967296 := by omega
  obtain ⟨p1, p2⟩ := prod32 (x / 4294967296) (y / 4294967296) (by omega) (by omega) (by omega) (by omega)
  obtain ⟨p3, p4⟩ := prod32 (x / 4294967296) (y % 4294967296) (by omega) (by omega) (by omega) (by omega)
  obtain ⟨p5, p6⟩ := prod32 (x % 4294967296) (y % 4294967296) (by omega) (by omega) (by omega) (by omega)
  obtain ⟨p7, p8⟩ := prod32 (x % 4294967296) (y / 4294967296) (by omega) (by omega) (by omega) (by omega)
  refine ⟨_, _, _, _, rfl, rfl, rfl, rfl, ?_, p1, p2, p3, p4, p5, p6, p7, p8⟩
  generalize x / 4294967296 = x1 at *
  generalize x % 4294967296 = x0 at *
  generalize y / 4294967296 = y1 at *
  generalize y % 4294967296 = y0 at *
  subst ex ey
  grind

theorem w64 {a b : Int} (h : a = b) (hb : I64 b) : wrap64 a = b := by
  subst h; exact IntWalk.wrap64_in _ hb

def mag (n : Int) : Int := if n < 0 then -n else n

theorem mag_bd (n : Int) (h : I64 n) : 0 ≤ mag n ∧ mag n ≤ 9223372036854775808 := by
  unfold mag; obtain ⟨a, b⟩ := h; split <;> omega

theorem ret_u64 {a b : Int} (h : a = b) : Ending.returned (.int .u64 a) = .returned (.int .u64 b) := by rw [h]

theorem ret_uu {a b c d : Int} (h : a = c) (k : b = d) : Ending.returned (.tuple #[.int .u64 a, .int .u64 b]) = .returned (.tuple #[.int .u64 c, .int .u64 d]) := by rw [h, k]

theorem magnitude_any (n : Int) (w : World) (h : I64 n) : Calls Try.prog 71 #[.int .i64 n] w fun e w' => e = .returned (.int .u64 (mag n)) ∧ w = w' := by
  obtain ⟨h1, h2⟩ := h
  by_cases hn : n < 0
  · go_enter Try.func71, Try.ntmps71
    go_wp2
    go_ret
    exact ⟨ret_u64 (by unfold mag; rw [if_pos hn]; simp only [IntKind.wrap_u64]; omega), rfl⟩
  · go_enter Try.func71, Try.ntmps71
    go_wp2
    go_ret
    exact ⟨ret_u64 (by unfold mag; rw [if_neg (by omega)]), rfl⟩

theorem magr_any (n : Int) (w : World) (h : I64 n) : Calls Try.prog 65 #[.int .i64 n] w fun e w' => e = .returned (.int .u64 (mag n)) ∧ w = w' := by
  obtain ⟨h1, h2⟩ := h
  by_cases hn : n < 0
  · go_enter Try.func65, Try.ntmps65
    go_wp2
    go_ret
    exact ⟨ret_u64 (by unfold mag; rw [if_pos hn]; omega), rfl⟩
  · go_enter Try.func65, Try.ntmps65
    go_wp2
    go_ret
    exact ⟨ret_u64 (by unfold mag; rw [if_neg (by omega)]), rfl⟩

theorem mul64_any (x y : Int) (w : World) (hx0 : 0 ≤ x) (hx : x < 18446744073709551616) (hy0 : 0 ≤ y) (hy : y < 18446744073709551616) :
    Calls Try.prog 70 #[.int .u64 x, .int .u64 y] w fun e w' => e = .returned (.tuple #[.int .u64 (x * y / 18446744073709551616), .int .u64 (x * y % 18446744073709551616)]) ∧ w = w' := by
  go_enter Try.func70, Try.ntmps70
  go_wp2
  go_ret2
  refine ⟨ret_uu ?_ ?_, rfl⟩
  · rw [← mul64_arith x y hx0 hx hy0 hy]
    simp only [IntKind.wrap_u64]
    rw [and_low32 x hx0 hx, and_low32 y hy0 hy, and_low32 _ (by omega) (by omega)]
  · simp only [IntKind.wrap_u64]

def sgn (a b : Int) : Int := if a < b then -1 else if b < a then 1 else 0

theorem cmpi_any (a b : Int) (w : World) : Calls Try.prog 68 #[.int .i64 a, .int .i64 b] w fun e w' => e = .returned (.int .i64 (sgn a b)) ∧ w = w' := by
  go_enter Try.func68, Try.ntmps68
  go_wp2
  all_goals
    go_ret
    exact ⟨ret_i64 (by unfold sgn; (try rw [if_pos (by omega)]); (try rw [if_neg (by omega)]); (try rw [if_pos (by omega)]); (try rw [if_neg (by omega)])), rfl⟩

theorem cmpu_any (a b : Int) (w : World) : Calls Try.prog 73 #[.int .u64 a, .int .u64 b] w fun e w' => e = .returned (.int .i64 (sgn a b)) ∧ w = w' := by
  go_enter Try.func73, Try.ntmps73
  go_wp2
  all_goals
    go_ret
    exact ⟨ret_i64 (by unfold sgn; (try rw [if_pos (by omega)]); (try rw [if_neg (by omega)]); (try rw [if_pos (by omega)]); (try rw [if_neg (by omega)])), rfl⟩

theorem sgn_bd (a b : Int) : -1 ≤ sgn a b ∧ sgn a b ≤ 1 := by unfold sgn; split <;> (try split) <;> omega

theorem sgn_lt {a b : Int} (h : a < b) : sgn a b = -1 := if_pos h

theorem sgn_gt {a b : Int} (h : b < a) : sgn a b = 1 := by unfold sgn; rw [if_neg (by omega), if_pos h]

theorem sgn_eq {a b : Int} (h : a = b) : sgn a b = 0 := by unfold sgn; rw [if_neg (by omega), if_neg (by omega)]

theorem sgn_cases (a : Int) : sgn a 0 = -1 ∨ sgn a 0 = 0 ∨ sgn a 0 = 1 := by unfold sgn; split <;> (try split) <;> omega

def psgn (a b : Int) : Int := sgn a 0 * sgn b 0

theorem psgn_bd (a b : Int) : -1 ≤ psgn a b ∧ psgn a b ≤ 1 := by
  rcases sgn_cases a with h | h | h <;> rcases sgn_cases b with k | k | k <;> (unfold psgn; rw [h, k]; omega)

theorem psgn_w (a b : Int) : wrap64 (sgn a 0 * sgn b 0) = psgn a b := by
  have := psgn_bd a b
  exact w64 rfl ⟨by omega, by omega⟩

def phi (a b : Int) : Int := mag a * mag b / 18446744073709551616

def plo (a b : Int) : Int := mag a * mag b % 18446744073709551616

theorem phi_bd (a b : Int) (ha : I64 a) (hb : I64 b) : 0 ≤ phi a b ∧ phi a b ≤ 4611686018427387904 := by
  obtain ⟨a1, a2⟩ := mag_bd a ha
  obtain ⟨b1, b2⟩ := mag_bd b hb
  have h0 := Int.mul_nonneg a1 b1
  have h1 := Int.mul_le_mul a2 b2 b1 (by omega)
  unfold phi; omega

theorem plo_bd (a b : Int) : 0 ≤ plo a b ∧ plo a b < 18446744073709551616 := by unfold plo; omega

theorem multiply_any (a b : Int) (w : World) (ha : I64 a) (hb : I64 b) :
    Calls Try.prog 67 #[.int .i64 a, .int .i64 b] w fun e w' => e = .returned (.agg #[.int .i64 (psgn a b), .int .u64 (phi a b), .int .u64 (plo a b)]) ∧ w.alloc (.cells #[.int .i64 (psgn a b), .int .u64 (phi a b), .int .u64 (plo a b)] 72) = w' := by
  have ma := mag_bd a ha
  have mb := mag_bd b hb
  obtain ⟨ma1, ma2⟩ := ma
  obtain ⟨mb1, mb2⟩ := mb
  have hA := Lib.hid ha
  have hB := Lib.hid hb
  clear ha hb
  go_enter Try.func67, Try.ntmps67
  go_wp2_with fail
  refine (magnitude_any a _ hA.out).mono ?_; rintro e w' ⟨rfl, rfl⟩
  go_wp2_with fail
  refine (magnitude_any b _ hB.out).mono ?_; rintro e w' ⟨rfl, rfl⟩
  go_wp2_with fail
  refine (mul64_any _ _ _ ma1 (by omega) mb1 (by omega)).mono ?_; rintro e w' ⟨rfl, rfl⟩
  go_wp2_with fail
  refine (cmpi_any a 0 _).mono ?_; rintro e w' ⟨rfl, rfl⟩
  go_wp2_with fail
  refine (cmpi_any b 0 _).mono ?_; rintro e w' ⟨rfl, rfl⟩
  go_wp2_with fail
  rw [psgn_w]
  exact bodyPost_ret (v := .agg #[.int .i64 (psgn a b), .int .u64 (phi a b), .int .u64 (plo a b)]) (by simp [results, Try.results67, go_sem, phi, plo]) rfl ⟨rfl, rfl⟩

theorem times_any (x y : Int) (w : World) (hx0 : 0 ≤ x) (hx : x < 18446744073709551616) (hy0 : 0 ≤ y) (hy : y < 18446744073709551616) :
    Calls Try.prog 64 #[.int .u64 x, .int .u64 y] w fun e w' => e = .returned (.tuple #[.int .u64 (x * y / 18446744073709551616), .int .u64 (x * y % 18446744073709551616)]) ∧ w = w' := by
  go_enter Try.func64, Try.ntmps64
  go_wp2
  go_ret2
  refine ⟨ret_uu ?_ ?_, rfl⟩
  · obtain ⟨A, B, C, D, e1, e2, e3, e4, e5, b1, b2, b3, b4, b5, b6, b7, b8⟩ := times_arith x y hx0 hx hy0 hy
    simp only [IntKind.wrap_u64, td32, tm32, e1, e2, e3, e4, e5]
    omega
  · obtain ⟨A, B, C, D, e1, e2, e3, e4, e5, b1, b2, b3, b4, b5, b6, b7, b8⟩ := times_arith x y hx0 hx hy0 hy
    simp only [IntKind.wrap_u64, td32, tm32, e2, e3, e4, e5]
    omega

theorem sign_any (a b : Int) (w : World) : Calls Try.prog 63 #[.int .i64 a, .int .i64 b] w fun e w' => e = .returned (.int .i64 (psgn a b)) ∧ w = w' := by
  by_cases hz : a = 0 ∨ b = 0
  · have hp : psgn a b = 0 := by unfold psgn sgn; rcases hz with rfl | rfl <;> simp
    by_cases ha : a = 0
    · subst ha
      have HP := Lib.hid hp; clear hp hz
      go_enter Try.func63, Try.ntmps63
      go_wp2
      go_ret
      exact ⟨ret_i64 HP.out.symm, rfl⟩
    · have hb : b = 0 := by omega
      subst hb
      have ha2 : (a == 0) = false := by simpa using ha
      have HP := Lib.hid hp; clear hp hz
      go_enter Try.func63, Try.ntmps63
      go_wp2
      go_ret
      exact ⟨ret_i64 HP.out.symm, rfl⟩
  · have ha2 : (a == 0) = false := by simp; omega
    have hb2 : (b == 0) = false := by simp; omega
    rcases (show a < 0 ∨ 0 < a by omega) with h | h <;> rcases (show b < 0 ∨ 0 < b by omega) with k | k
    · have hp : Hid (psgn a b = 1) := by show psgn a b = _; unfold psgn; rw [sgn_lt h, sgn_lt k]; rfl
      clear hz
      go_enter Try.func63, Try.ntmps63
      go_wp2
      go_ret
      exact ⟨ret_i64 hp.out.symm, rfl⟩
    · have hp : Hid (psgn a b = -1) := by show psgn a b = _; unfold psgn; rw [sgn_lt h, sgn_gt k]; rfl
      have dk : decide (b < 0) = false := by simp; omega
      clear hz
      go_enter Try.func63, Try.ntmps63
      go_wp2
      go_ret
      exact ⟨ret_i64 hp.out.symm, rfl⟩
    · have hp : Hid (psgn a b = -1) := by show psgn a b = _; unfold psgn; rw [sgn_gt h, sgn_lt k]; rfl
      have dh : decide (a < 0) = false := by simp; omega
      clear hz
      go_enter Try.func63, Try.ntmps63
      go_wp2
      go_ret
      exact ⟨ret_i64 hp.out.symm, rfl⟩
    · have hp : Hid (psgn a b = 1) := by show psgn a b = _; unfold psgn; rw [sgn_gt h, sgn_gt k]; rfl
      have dh : decide (a < 0) = false := by simp; omega
      have dk : decide (b < 0) = false := by simp; omega
      clear hz
      go_enter Try.func63, Try.ntmps63
      go_wp2
      go_ret
      exact ⟨ret_i64 hp.out.symm, rfl⟩

theorem qsame {P : Program} {f : FuncId} {args : Array Value} {w : World} {n : Nat} {v : Value}
    (h : Calls P f args (w.drewN n) fun e w' => e = .returned v ∧ w.drewN n = w') : Calls P f args (w.drewN n) fun e w'' => e = .returned v ∧ ∃ m, w'' = w.drewN m :=
  h.mono fun _ _ ⟨he, hm⟩ => ⟨he, n, hm.symm⟩

def lex2 (x0 x1 y0 y1 : Int) : Int := if sgn x0 y0 = 0 then sgn x1 y1 else sgn x0 y0

theorem lex2_bd (x0 x1 y0 y1 : Int) : -1 ≤ lex2 x0 x1 y0 y1 ∧ lex2 x0 x1 y0 y1 ≤ 1 := by
  unfold lex2; split
  · exact sgn_bd _ _
  · exact sgn_bd _ _

set_option maxHeartbeats 1000000 in
theorem cmp2_any (b1 o1 b2 o2 c1 c2 : Nat) (x0 x1 y0 y1 : Int) (w : World)
    (hx0 : w.cell? ⟨b1, o1, none⟩ = some (.int .u64 x0)) (hx1 : w.cell? ⟨b1, o1 + 1, none⟩ = some (.int .u64 x1))
    (hy0 : w.cell? ⟨b2, o2, none⟩ = some (.int .u64 y0)) (hy1 : w.cell? ⟨b2, o2 + 1, none⟩ = some (.int .u64 y1)) :
    Calls Try.prog 69 #[.slice (some ⟨b1, o1, none⟩) 2 c1, .slice (some ⟨b2, o2, none⟩) 2 c2] w fun e w' => e = .returned (.int .i64 (lex2 x0 x1 y0 y1)) ∧ w = w' := by
  by_cases h0 : sgn x0 y0 = 0
  · have b0 : (sgn x0 y0 != 0) = false := by simpa using h0
    by_cases h1 : sgn x1 y1 = 0
    · have b1 : (sgn x1 y1 != 0) = false := by simpa using h1
      have hp : Hid (lex2 x0 x1 y0 y1 = 0) := by show lex2 x0 x1 y0 y1 = 0; unfold lex2; rw [if_pos h0, h1]
      clear h0 h1
      go_enter Try.func69, Try.ntmps69
      go_wp2_with fail
      refine wp_loop_rounds 3 ?_; rw [rounds_succ]
      go_wp2_with fail
      refine (cmpu_any _ _ _).mono ?_; rintro e w' ⟨rfl, rfl⟩
      go_wp2_with fail
      rw [rounds_succ]
      go_wp2_with fail
      refine (cmpu_any _ _ _).mono ?_; rintro e w' ⟨rfl, rfl⟩
      go_wp2_with fail
      rw [rounds_succ]
      go_wp2_with fail
      go_ret
      exact ⟨ret_i64 hp.out.symm, rfl⟩
    · have b1 : (sgn x1 y1 != 0) = true := by simpa using h1
      have hp : Hid (lex2 x0 x1 y0 y1 = sgn x1 y1) := by show lex2 x0 x1 y0 y1 = _; unfold lex2; rw [if_pos h0]
      clear h0 h1
      go_enter Try.func69, Try.ntmps69
      go_wp2_with fail
      refine wp_loop_rounds 3 ?_; rw [rounds_succ]
      go_wp2_with fail
      refine (cmpu_any _ _ _).mono ?_; rintro e w' ⟨rfl, rfl⟩
      go_wp2_with fail
      rw [rounds_succ]
      go_wp2_with fail
      refine (cmpu_any _ _ _).mono ?_; rintro e w' ⟨rfl, rfl⟩
      go_wp2_with fail
      go_ret
      exact ⟨ret_i64 hp.out.symm, rfl⟩
  · have b0 : (sgn x0 y0 != 0) = true := by simpa using h0
    have hp : Hid (lex2 x0 x1 y0 y1 = sgn x0 y0) := by show lex2 x0 x1 y0 y1 = _; unfold lex2; rw [if_neg h0]
    clear h0
    go_enter Try.func69, Try.ntmps69
    go_wp2_with fail
    refine wp_loop_rounds 3 ?_; rw [rounds_succ]
    go_wp2_with fail
    refine (cmpu_any _ _ _).mono ?_; rintro e w' ⟨rfl, rfl⟩
    go_wp2_with fail
    go_ret
    exact ⟨ret_i64 hp.out.symm, rfl⟩

def cmpZ (a b c d : Int) : Int := if psgn a b = psgn c d then psgn a b * lex2 (phi a b) (plo a b) (phi c d) (plo c d) else sgn (psgn a b) (psgn c d)

theorem cmpZ_bd (a b c d : Int) : -1 ≤ cmpZ a b c d ∧ cmpZ a b c d ≤ 1 := by
  unfold cmpZ; split
  · have h1 := psgn_bd a b
    have h2 := lex2_bd (phi a b) (plo a b) (phi c d) (plo c d)
    have : psgn a b = -1 ∨ psgn a b = 0 ∨ psgn a b = 1 := by omega
    rcases this with h | h | h <;> (rw [h]; omega)
  · exact sgn_bd _ _

set_option maxHeartbeats 1000000 in
theorem cmpmul_any (a b c d : Int) (w : World) (ha : I64 a) (hb : I64 b) (hc : I64 c) (hd : I64 d) :
    Calls Try.prog 62 #[.int .i64 a, .int .i64 b, .int .i64 c, .int .i64 d] w fun e w' => e = .returned (.int .i64 (cmpZ a b c d)) ∧ Below w.heap.size w w' := by
  by_cases h : psgn a b = psgn c d
  · have hb0 : (psgn a b != psgn c d) = false := by simpa using h
    have hp : Hid (cmpZ a b c d = psgn a b * lex2 (phi a b) (plo a b) (phi c d) (plo c d)) := by show cmpZ a b c d = _; unfold cmpZ; rw [if_pos h]
    have HA := Lib.hid ha; have HB := Lib.hid hb; have HC := Lib.hid hc; have HD := Lib.hid hd
    clear h ha hb hc hd
    go_enter Try.func62, Try.ntmps62
    go_wp2_with fail
    refine (multiply_any a b _ HA.out HB.out).mono ?_; rintro e w' ⟨rfl, rfl⟩
    go_wp2_with fail
    refine (multiply_any c d _ HC.out HD.out).mono ?_; rintro e w' ⟨rfl, rfl⟩
    go_wp2_with fail
    go_quiet ((go_at_call 69; refine qsame (cmp2_any _ _ _ _ _ _ (phi a b) (plo a b) (phi c d) (plo c d) _ ?_ ?_ ?_ ?_) <;> go_simp))
    go_wp2_with fail
    go_ret
    have hl := lex2_bd (phi a b) (plo a b) (phi c d) (plo c d)
    have hs := psgn_bd a b
    refine ⟨ret_i64 (w64 hp.out.symm (by have := cmpZ_bd a b c d; exact ⟨by omega, by omega⟩)), ?_⟩
    refine below_drewN ?_ _
    exact ((((Below.refl _ _).alloc (Nat.le_refl _) _).alloc (by simp) _).alloc (by simp; omega) _).alloc (by simp; omega) _
  · have hb0 : (psgn a b != psgn c d) = true := by simpa using h
    have hp : Hid (cmpZ a b c d = sgn (psgn a b) (psgn c d)) := by show cmpZ a b c d = _; unfold cmpZ; rw [if_neg h]
    have HA := Lib.hid ha; have HB := Lib.hid hb; have HC := Lib.hid hc; have HD := Lib.hid hd
    clear h ha hb hc hd
    go_enter Try.func62, Try.ntmps62
    go_wp2_with fail
    refine (multiply_any a b _ HA.out HB.out).mono ?_; rintro e w' ⟨rfl, rfl⟩
    go_wp2_with fail
    refine (multiply_any c d _ HC.out HD.out).mono ?_; rintro e w' ⟨rfl, rfl⟩
    go_wp2_with fail
    refine (cmpi_any _ _ _).mono ?_; rintro e w' ⟨rfl, rfl⟩
    go_wp2_with fail
    go_ret
    refine ⟨ret_i64 hp.out.symm, ?_⟩
    exact ((((Below.refl _ _).alloc (Nat.le_refl _) _).alloc (by simp) _).alloc (by simp; omega) _).alloc (by simp; omega) _

theorem timesr_ab (a b : Int) (w : World) (ma1 : 0 ≤ mag a) (ma2 : mag a ≤ 9223372036854775808) (mb1 : 0 ≤ mag b) (mb2 : mag b ≤ 9223372036854775808) :
    Calls Try.prog 64 #[.int .u64 (mag a), .int .u64 (mag b)] w fun e w' => e = .returned (.tuple #[.int .u64 (phi a b), .int .u64 (plo a b)]) ∧ w = w' :=
  times_any _ _ _ ma1 (by omega) mb1 (by omega)

set_option maxHeartbeats 1000000 in
theorem cmpmulr_same (a b c d s v : Int) (w : World) (HA : Hid (I64 a)) (HB : Hid (I64 b)) (HC : Hid (I64 c)) (HD : Hid (I64 d)) (hs : psgn a b = s) (ht : psgn c d = s)
    (hs1 : -1 ≤ s) (hs2 : s ≤ 1)
    (t1 t2 t3 t4 : Bool) (h1 : (phi a b == phi c d) = t1) (h2 : (plo a b == plo c d) = t2) (h3 : decide (phi a b < phi c d) = t3) (h4 : decide (plo a b < plo c d) = t4)
    (hv : v = if (t1 && t2) = true then 0 else if (t3 || (t1 && t4)) = true then -s else s) :
    Calls Try.prog 52 #[.int .i64 a, .int .i64 b, .int .i64 c, .int .i64 d] w fun e w' => e = .returned (.int .i64 v) ∧ w = w' := by
  have HV := Lib.hid hv
  have Hs := Lib.hid hs; have Ht := Lib.hid ht
  have mA := mag_bd a HA.out; have mB := mag_bd b HB.out; have mC := mag_bd c HC.out; have mD := mag_bd d HD.out
  obtain ⟨ma1, ma2⟩ := mA; obtain ⟨mb1, mb2⟩ := mB; obtain ⟨mc1, mc2⟩ := mC; obtain ⟨md1, md2⟩ := mD
  clear hv hs ht
  cases t1 <;> cases t2 <;> cases t3 <;> cases t4
  all_goals
    go_enter Try.func52, Try.ntmps52
    go_wp2_with fail
    refine (sign_any a b _).mono ?_; rintro e w' ⟨rfl, rfl⟩
    rw [Hs.out]
    go_wp2_with fail
    refine (sign_any c d _).mono ?_; rintro e w' ⟨rfl, rfl⟩
    rw [Ht.out]
    go_wp2_with fail
    refine (magr_any a _ HA.out).mono ?_; rintro e w' ⟨rfl, rfl⟩
    go_wp2_with fail
    refine (magr_any b _ HB.out).mono ?_; rintro e w' ⟨rfl, rfl⟩
    go_wp2_with fail
    refine (timesr_ab a b _ ma1 ma2 mb1 mb2).mono ?_; rintro e w' ⟨rfl, rfl⟩
    go_wp2_with fail
    refine (magr_any c _ HC.out).mono ?_; rintro e w' ⟨rfl, rfl⟩
    go_wp2_with fail
    refine (magr_any d _ HD.out).mono ?_; rintro e w' ⟨rfl, rfl⟩
    go_wp2_with fail
    refine (timesr_ab c d _ mc1 mc2 md1 md2).mono ?_; rintro e w' ⟨rfl, rfl⟩
    go_wp2_with fail
    go_ret
    exact ⟨ret_i64 HV.out.symm, rfl⟩

theorem lex2_form (s x0 x1 y0 y1 : Int) : s * lex2 x0 x1 y0 y1 = if ((x0 == y0) && (x1 == y1)) = true then 0 else if (decide (x0 < y0) || ((x0 == y0) && decide (x1 < y1))) = true then -s else s := by
  rcases Int.lt_trichotomy x0 y0 with h | h | h
  · have e : (x0 == y0) = false := by simp; omega
    unfold lex2; rw [sgn_lt h, e]; simp [h]
  · have e : (x0 == y0) = true := by simp; omega
    have e2 : decide (x0 < y0) = false := by simp; omega
    unfold lex2; rw [sgn_eq h, e, e2]
    rcases Int.lt_trichotomy x1 y1 with k | k | k
    · have f : (x1 == y1) = false := by simp; omega
      rw [sgn_lt k, f]; simp [k]
    · have f : (x1 == y1) = true := by simp; omega
      rw [sgn_eq k, f]; simp
    · have f : (x1 == y1) = false := by simp; omega
      have f2 : decide (x1 < y1) = false := by simp; omega
      rw [sgn_gt k, f, f2]; simp
  · have e : (x0 == y0) = false := by simp; omega
    have e2 : decide (x0 < y0) = false := by simp; omega
    unfold lex2; rw [sgn_gt h, e, e2]; simp

set_option maxHeartbeats 1000000 in
theorem cmpmulr_any (a b c d : Int) (w : World) (ha : I64 a) (hb : I64 b) (hc : I64 c) (hd : I64 d) :
    Calls Try.prog 52 #[.int .i64 a, .int .i64 b, .int .i64 c, .int .i64 d] w fun e w' => e = .returned (.int .i64 (cmpZ a b c d)) ∧ w = w' := by
  have HA := Lib.hid ha; have HB := Lib.hid hb; have HC := Lib.hid hc; have HD := Lib.hid hd
  have sa := (psgn_bd a b).1; have sa' := (psgn_bd a b).2
  have mA := mag_bd a ha; have mB := mag_bd b hb; have mC := mag_bd c hc; have mD := mag_bd d hd
  obtain ⟨ma1, ma2⟩ := mA; obtain ⟨mb1, mb2⟩ := mB; obtain ⟨mc1, mc2⟩ := mC; obtain ⟨md1, md2⟩ := mD
  clear ha hb hc hd
  by_cases h : psgn a b < psgn c d
  · have hp : Hid (cmpZ a b c d = -1) := by show cmpZ a b c d = _; unfold cmpZ; rw [if_neg (by omega), sgn_lt h]
    go_enter Try.func52, Try.ntmps52
    go_wp2_with fail
    refine (sign_any a b _).mono ?_; rintro e w' ⟨rfl, rfl⟩
    go_wp2_with fail
    refine (sign_any c d _).mono ?_; rintro e w' ⟨rfl, rfl⟩
    go_wp2_with fail
    go_ret
    exact ⟨ret_i64 hp.out.symm, rfl⟩
  · by_cases h2 : psgn c d < psgn a b
    · have hp : Hid (cmpZ a b c d = 1) := by show cmpZ a b c d = _; unfold cmpZ; rw [if_neg (by omega), sgn_gt h2]
      go_enter Try.func52, Try.ntmps52
      go_wp2_with fail
      refine (sign_any a b _).mono ?_; rintro e w' ⟨rfl, rfl⟩
      go_wp2_with fail
      refine (sign_any c d _).mono ?_; rintro e w' ⟨rfl, rfl⟩
      go_wp2_with fail
      go_ret
      exact ⟨ret_i64 hp.out.symm, rfl⟩
    · have hp : cmpZ a b c d = psgn a b * lex2 (phi a b) (plo a b) (phi c d) (plo c d) := by unfold cmpZ; rw [if_pos (by omega)]
      rw [hp]
      exact cmpmulr_same a b c d (psgn a b) _ w HA HB HC HD rfl (by omega) sa sa' _ _ _ _ rfl rfl rfl rfl (lex2_form _ _ _ _ _)

end Go.Proofs.Ytfabfnjfnildhaa
