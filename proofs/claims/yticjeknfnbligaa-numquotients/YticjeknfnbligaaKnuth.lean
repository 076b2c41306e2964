/- The arithmetic of a division of two digits by one (base 2^32): nothing of the program. -/
namespace Go.Proofs.Yticjeknfnbligaa

/- u: the dividend's upper part, below the divisor y1 * B + y0; v: its next digit; q, r: the guess and its rest -/
structure KH (u y1 y0 v : Int) : Prop where
  u0 : 0 ≤ u
  uY : u < y1 * 4294967296 + y0
  a1 : 2147483648 ≤ y1
  a2 : y1 < 4294967296
  b1 : 0 ≤ y0
  b2 : y0 < 4294967296
  c1 : 0 ≤ v
  c2 : v < 4294967296
def kq (u y1 y0 v : Int) : Int := (u * 4294967296 + v) / (y1 * 4294967296 + y0)
def KI (u y1 y0 v q r : Int) : Prop := 0 ≤ r ∧ r < 4294967296 ∧ q * y1 + r = u ∧ kq u y1 y0 v ≤ q ∧ q ≤ 4294967297

theorem kq_le {u y1 y0 v q : Int} (h : KH u y1 y0 v) : kq u y1 y0 v < q ↔ u * 4294967296 + v < q * (y1 * 4294967296 + y0) := by
  have := h.a1; have := h.b1
  exact Int.ediv_lt_iff_lt_mul (by omega)
theorem le_kq {u y1 y0 v q : Int} (h : KH u y1 y0 v) : q ≤ kq u y1 y0 v ↔ q * (y1 * 4294967296 + y0) ≤ u * 4294967296 + v := by
  have := h.a1; have := h.b1
  exact Int.le_ediv_iff_mul_le (by omega)
theorem kq_nonneg {u y1 y0 v : Int} (h : KH u y1 y0 v) : 0 ≤ kq u y1 y0 v := by
  rw [le_kq h]; have := h.u0; have := h.c1; omega
theorem kq_lt {u y1 y0 v : Int} (h : KH u y1 y0 v) : kq u y1 y0 v < 4294967296 := by
  rw [kq_le h]; have := h.uY; have := h.c2; omega
/- q * y, by digits -/
theorem qY (q y1 y0 : Int) : q * (y1 * 4294967296 + y0) = q * y1 * 4294967296 + q * y0 := by
  rw [Int.mul_add, Int.mul_assoc]

theorem k_start {u y1 y0 v : Int} (h : KH u y1 y0 v) : KI u y1 y0 v (u / y1) (u - u / y1 * y1) := by
  have a1 := h.a1; have a2 := h.a2; have b1 := h.b1; have b2 := h.b2; have u0 := h.u0; have uY := h.uY; have c1 := h.c1; have c2 := h.c2
  have e := Int.mul_ediv_add_emod u y1
  have m0 := Int.emod_nonneg u (show y1 ≠ 0 by omega)
  have m1 := Int.emod_lt_of_pos u (show 0 < y1 by omega)
  have er : u - u / y1 * y1 = u % y1 := by rw [Int.mul_comm]; omega
  refine ⟨by omega, by omega, by omega, ?_, ?_⟩
  · rw [Int.le_ediv_iff_mul_le (by omega)]
    have k := (le_kq h (q := kq u y1 y0 v)).1 (Int.le_refl _)
    have k0 := kq_nonneg h
    rw [qY] at k
    have := Int.mul_nonneg k0 b1
    omega
  · have : u / y1 < 4294967298 := by
      rw [Int.ediv_lt_iff_lt_mul (by omega)]; omega
    omega
/- the test says yes: the guess is too great -/
theorem k_yes {u y1 y0 v q r : Int} (h : KH u y1 y0 v) (i : KI u y1 y0 v q r) (c : 4294967296 ≤ q ∨ 4294967296 * r + v < q * y0) : kq u y1 y0 v ≤ q - 1 := by
  rcases c with c | c
  · have := kq_lt h; omega
  · have : kq u y1 y0 v < q := by
      rw [kq_le h, qY]
      have := i.2.2.1
      omega
    omega
theorem k_next {u y1 y0 v q r : Int} (h : KH u y1 y0 v) (i : KI u y1 y0 v q r) (c : 4294967296 ≤ q ∨ 4294967296 * r + v < q * y0) (hr : r + y1 < 4294967296) : KI u y1 y0 v (q - 1) (r + y1) := by
  have k := k_yes h i c
  obtain ⟨i1, i2, i3, i4, i5⟩ := i
  have a1 := h.a1
  refine ⟨by omega, hr, ?_, k, by omega⟩
  rw [Int.sub_mul]; omega
theorem k_break {u y1 y0 v q r : Int} (h : KH u y1 y0 v) (i : KI u y1 y0 v q r) (c : 4294967296 ≤ q ∨ 4294967296 * r + v < q * y0) (hr : 4294967296 ≤ r + y1) : q - 1 = kq u y1 y0 v := by
  have k := k_yes h i c
  obtain ⟨i1, i2, i3, i4, i5⟩ := i
  have b1 := h.b1; have b2 := h.b2; have c1 := h.c1
  have k0 := kq_nonneg h
  have : q - 1 ≤ kq u y1 y0 v := by
    rw [le_kq h, qY]
    have e : (q - 1) * y1 = u - (r + y1) := by rw [Int.sub_mul]; omega
    have m : (q - 1) * y0 ≤ 4294967296 * 4294967296 := Int.mul_le_mul (by omega) (by omega) b1 (by omega)
    omega
  omega
theorem k_no {u y1 y0 v q r : Int} (h : KH u y1 y0 v) (i : KI u y1 y0 v q r) (c : q * y0 ≤ 4294967296 * r + v) : q = kq u y1 y0 v := by
  obtain ⟨i1, i2, i3, i4, i5⟩ := i
  have : q ≤ kq u y1 y0 v := by
    rw [le_kq h, qY]; omega
  omega
/- what is left of the two digits -/
def kr (u y1 y0 v : Int) : Int := (u * 4294967296 + v) % (y1 * 4294967296 + y0)
theorem kr_bd {u y1 y0 v : Int} (h : KH u y1 y0 v) : 0 ≤ kr u y1 y0 v ∧ kr u y1 y0 v < y1 * 4294967296 + y0 := by
  have := h.a1; have := h.b1
  exact ⟨Int.emod_nonneg _ (by omega), Int.emod_lt_of_pos _ (by omega)⟩
theorem k_div {u y1 y0 v : Int} : kq u y1 y0 v * (y1 * 4294967296 + y0) + kr u y1 y0 v = u * 4294967296 + v := by
  unfold kq kr; rw [Int.mul_comm]; exact Int.mul_ediv_add_emod _ _
theorem k_rest {u y1 y0 v : Int} (h : KH u y1 y0 v) : (((u * 4294967296) % 18446744073709551616 + v) % 18446744073709551616 - kq u y1 y0 v * (y1 * 4294967296 + y0) % 18446744073709551616) % 18446744073709551616 = kr u y1 y0 v := by
  have d := k_div (u := u) (y1 := y1) (y0 := y0) (v := v)
  have b := kr_bd h
  have a2 := h.a2; have b2 := h.b2
  generalize kq u y1 y0 v * (y1 * 4294967296 + y0) = z at *
  omega
/- two steps make the whole quotient -/
theorem k_whole (Y M s : Int) (u y1 y0 v0 v1 N : Int) (hs : 0 < s) (hY : y1 * 4294967296 + y0 = Y * s) (hY0 : 0 < Y) (hN : (u * 4294967296 + v1) * 4294967296 + v0 = N) (hM : N = M * s)
    (h2 : KH (kr u y1 y0 v1) y1 y0 v0) :
    kq u y1 y0 v1 * 4294967296 + kq (kr u y1 y0 v1) y1 y0 v0 = M / Y ∧ kr (kr u y1 y0 v1) y1 y0 v0 / s = M % Y := by
  have d1 := k_div (u := u) (y1 := y1) (y0 := y0) (v := v1)
  have d2 := k_div (u := kr u y1 y0 v1) (y1 := y1) (y0 := y0) (v := v0)
  have b2 := kr_bd h2
  generalize kq u y1 y0 v1 = q1 at *
  generalize kr u y1 y0 v1 = r1 at *
  generalize kq r1 y1 y0 v0 = q0 at *
  generalize kr r1 y1 y0 v0 = r0 at *
  rw [hY] at d1 d2 b2
  have e : (q1 * 4294967296 + q0) * (Y * s) + r0 = M * s := by
    rw [← hM, ← hN, ← d1, Int.add_mul, Int.add_mul]
    rw [show q1 * 4294967296 * (Y * s) = q1 * (Y * s) * 4294967296 from by rw [Int.mul_right_comm]]
    omega
  have f : r0 = (M - (q1 * 4294967296 + q0) * Y) * s := by
    rw [Int.sub_mul, Int.mul_assoc]; omega
  have g : r0 / s = M - (q1 * 4294967296 + q0) * Y := by rw [f, Int.mul_ediv_cancel _ (by omega)]
  have g0 : 0 ≤ M - (q1 * 4294967296 + q0) * Y := by rw [← g]; exact Int.ediv_nonneg b2.1 (by omega)
  have g1 : M - (q1 * 4294967296 + q0) * Y < Y := by
    rw [← g, Int.ediv_lt_iff_lt_mul hs]; exact b2.2
  have hq : M / Y = q1 * 4294967296 + q0 := by
    have : M = (M - (q1 * 4294967296 + q0) * Y) + Y * (q1 * 4294967296 + q0) := by rw [Int.mul_comm Y]; omega
    rw [this, Int.add_mul_ediv_left _ _ (by omega), Int.ediv_eq_zero_of_lt g0 g1]; omega
  refine ⟨hq.symm, ?_⟩
  rw [g]
  have := Int.mul_ediv_add_emod M Y
  rw [hq, Int.mul_comm] at this; omega
end Go.Proofs.Yticjeknfnbligaa
