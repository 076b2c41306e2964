/- The arithmetic of long division, bit by bit: nothing of the program. -/
namespace Go.Proofs.Yticjeknfnbligaa
/- after i rounds: M * 2^i = A * 2^128 + X, X = hi * 2^64 + lo, A = Z * d + rest, Z = top * 2^64 + low -/
structure LI (M d : Int) (i : Nat) (hi lo rest top low : Int) : Prop where
  h0 : 0 ≤ hi
  h1 : hi < 18446744073709551616
  l0 : 0 ≤ lo
  l1 : lo < 18446744073709551616
  r0 : 0 ≤ rest
  r1 : rest < d
  t0 : 0 ≤ top
  t1 : top < 18446744073709551616
  w0 : 0 ≤ low
  w1 : low < 18446744073709551616
  eq : M * 2 ^ i = ((top * 18446744073709551616 + low) * d + rest) * 340282366920938463463374607431768211456 + (hi * 18446744073709551616 + lo)

theorem LI.start (M d hi lo : Int) (hd : 0 < d) (h0 : 0 ≤ hi) (h1 : hi < 18446744073709551616) (l0 : 0 ≤ lo) (l1 : lo < 18446744073709551616) (hM : hi * 18446744073709551616 + lo = M) : LI M d 0 hi lo 0 0 0 :=
  ⟨h0, h1, l0, l1, by omega, hd, by omega, by omega, by omega, by omega, by simp; omega⟩

/- the dividend's part that has come down is at most M -/
theorem LI.part {M d : Int} {i : Nat} {hi lo rest top low : Int} (h : LI M d i hi lo rest top low) (hM : 0 ≤ M) (hi2 : i ≤ 128) : (top * 18446744073709551616 + low) * d + rest ≤ M := by
  have e := h.eq
  have p : (2 : Int) ^ i ≤ 340282366920938463463374607431768211456 := by
    have : (2 : Nat) ^ i ≤ 2 ^ 128 := Nat.pow_le_pow_right (by omega) hi2
    have c : ((2 ^ i : Nat) : Int) = (2 : Int) ^ i := by rw [Int.natCast_pow]; rfl
    omega
  have m : M * 2 ^ i ≤ M * 340282366920938463463374607431768211456 := Int.mul_le_mul_of_nonneg_left p hM
  have := h.h0; have := h.l0
  omega

/- one round: the doubled numbers, with the carries -/
theorem LI.round {M d : Int} {i : Nat} {hi lo rest top low : Int} (h : LI M d i hi lo rest top low) (hM : 0 ≤ M) (hM2 : M < 340282366920938463463374607431768211456) (hi2 : i < 128) (hd : 0 < d) (hd2 : d < 9223372036854775808) :
    ∃ hi' lo' rest' top' low' : Int, (hi * 2 % 18446744073709551616 + lo / 9223372036854775808) % 18446744073709551616 = hi' ∧ lo * 2 % 18446744073709551616 = lo' ∧ rest * 2 + hi / 9223372036854775808 = rest' ∧
      (top * 2 % 18446744073709551616 + low / 9223372036854775808) % 18446744073709551616 = top' ∧ low * 2 % 18446744073709551616 = low' ∧ 0 ≤ rest' ∧ rest' < 18446744073709551616 ∧ 0 ≤ low' ∧ low' < 18446744073709551615 ∧
      (d ≤ rest' → LI M d (i + 1) hi' lo' (rest' - d) top' (low' + 1)) ∧ (rest' < d → LI M d (i + 1) hi' lo' rest' top' low') := by
  obtain ⟨h0, h1, l0, l1, r0, r1, t0, t1, w0, w1, e⟩ := h
  have hpart := LI.part ⟨h0, h1, l0, l1, r0, r1, t0, t1, w0, w1, e⟩ hM (by omega)
  have e2 : M * 2 ^ (i + 1) = (((top * 2 * 18446744073709551616 + low * 2) * d + (rest * 2 + hi / 9223372036854775808))) * 340282366920938463463374607431768211456 + ((hi * 2 % 18446744073709551616 + lo / 9223372036854775808) % 18446744073709551616 * 18446744073709551616 + lo * 2 % 18446744073709551616) := by
    rw [Int.pow_succ, ← Int.mul_assoc, e]
    have : (top * 2 * 18446744073709551616 + low * 2) * d = (top * 18446744073709551616 + low) * d * 2 := by
      rw [show top * 2 * 18446744073709551616 + low * 2 = (top * 18446744073709551616 + low) * 2 from by omega, Int.mul_right_comm]
    rw [this]
    generalize (top * 18446744073709551616 + low) * d = z
    omega
  /- Z is below 2^127: it does not run over -/
  have zd : (top * 18446744073709551616 + low) * 1 ≤ (top * 18446744073709551616 + low) * d := Int.mul_le_mul_of_nonneg_left (by omega) (by omega)
  have ztop : top < 9223372036854775808 := by
    have p : (2 : Int) ^ (i + 1) ≤ 340282366920938463463374607431768211456 := by
      have : (2 : Nat) ^ (i + 1) ≤ 2 ^ 128 := Nat.pow_le_pow_right (by omega) (by omega)
      have c : ((2 ^ (i + 1) : Nat) : Int) = (2 : Int) ^ (i + 1) := by rw [Int.natCast_pow]; rfl
      omega
    have m : M * 2 ^ (i + 1) ≤ M * 340282366920938463463374607431768211456 := Int.mul_le_mul_of_nonneg_left p hM
    rw [Int.pow_succ, ← Int.mul_assoc, e] at m
    generalize (top * 18446744073709551616 + low) * d = z at *
    omega
  refine ⟨_, _, _, _, _, rfl, rfl, rfl, rfl, rfl, by omega, by omega, by omega, by omega, ?_, ?_⟩
  · intro hc
    refine ⟨by omega, by omega, by omega, by omega, by omega, by omega, by omega, by omega, by omega, by omega, ?_⟩
    rw [e2]
    have f : ((top * 2 % 18446744073709551616 + low / 9223372036854775808) % 18446744073709551616 * 18446744073709551616 + (low * 2 % 18446744073709551616 + 1)) = (top * 2 * 18446744073709551616 + low * 2) + 1 := by omega
    rw [f, Int.add_mul (top * 2 * 18446744073709551616 + low * 2) 1 d]
    generalize (top * 2 * 18446744073709551616 + low * 2) * d = z
    omega
  · intro hc
    refine ⟨by omega, by omega, by omega, by omega, by omega, by omega, by omega, by omega, by omega, by omega, ?_⟩
    rw [e2]
    have f : ((top * 2 % 18446744073709551616 + low / 9223372036854775808) % 18446744073709551616 * 18446744073709551616 + low * 2 % 18446744073709551616) = (top * 2 * 18446744073709551616 + low * 2) := by omega
    rw [f]
theorem LI.finish {M d : Int} {hi lo rest top low : Int} (h : LI M d 128 hi lo rest top low) (hd : 0 < d) : M / d = top * 18446744073709551616 + low ∧ M % d = rest := by
  obtain ⟨h0, h1, l0, l1, r0, r1, t0, t1, w0, w1, e⟩ := h
  have p : (2 : Int) ^ 128 = 340282366920938463463374607431768211456 := by decide
  rw [p] at e
  have eM : M = (top * 18446744073709551616 + low) * d + rest := by
    generalize (top * 18446744073709551616 + low) * d = z at *
    omega
  have q : M / d = top * 18446744073709551616 + low := by
    rw [eM, Int.add_comm, Int.add_mul_ediv_right _ _ (by omega), Int.ediv_eq_zero_of_lt r0 r1]; omega
  refine ⟨q, ?_⟩
  have := Int.mul_ediv_add_emod M d
  rw [q, Int.mul_comm] at this; omega
end Go.Proofs.Yticjeknfnbligaa
