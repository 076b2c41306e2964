/- Plain mathematics of integer division: nothing of the program. -/
namespace Go.Proofs.Yticjeknfnbligaa

theorem tm_lt (a b : Int) (hb : 0 < b) : a.tmod b < b := Int.tmod_lt_of_pos a hb
theorem tm_gt (a b : Int) (hb : 0 < b) : -b < a.tmod b := by
  have h := Int.tmod_lt_of_pos (-a) hb
  rw [Int.neg_tmod] at h; omega

theorem ediv_of (a b q r : Int) (hb : 0 < b) (h : b * q + r = a) (h0 : 0 ≤ r) (h1 : r < b) : a / b = q := by
  have e : a = r + b * q := by omega
  rw [e, Int.add_mul_ediv_left _ _ (by omega), Int.ediv_eq_zero_of_lt h0 h1]; omega

theorem td_neg (a b : Int) (hb : 0 < b) (h : a.tmod b < 0) : a.tdiv b - 1 = a / b := by
  have e := Int.mul_tdiv_add_tmod a b
  have g := tm_gt a b hb
  refine (ediv_of a b (a.tdiv b - 1) (a.tmod b + b) hb ?_ (by omega) (by omega)).symm
  rw [Int.mul_sub]; omega
theorem td_pos (a b : Int) (hb : 0 < b) (h : 0 ≤ a.tmod b) : a.tdiv b = a / b := by
  have e := Int.mul_tdiv_add_tmod a b
  exact (ediv_of a b (a.tdiv b) (a.tmod b) hb e h (tm_lt a b hb)).symm
theorem tm_neg (a b : Int) (hb : 0 < b) (h : a.tmod b < 0) : a.tmod b + b = a % b := by
  have e := Int.mul_tdiv_add_tmod a b
  have e2 := Int.mul_ediv_add_emod a b
  rw [← td_neg a b hb h, Int.mul_sub] at e2; omega
theorem tm_pos (a b : Int) (hb : 0 < b) (h : 0 ≤ a.tmod b) : a.tmod b = a % b := by
  have e := Int.mul_tdiv_add_tmod a b
  have e2 := Int.mul_ediv_add_emod a b
  rw [← td_pos a b hb h] at e2; omega
/- the quotient of a number of 64 bits by a positive one fits -/
theorem ediv_fits (a b : Int) (hb : 0 < b) (ha : -9223372036854775808 ≤ a) (ha' : a ≤ 9223372036854775807) : -9223372036854775808 ≤ a / b ∧ a / b ≤ 9223372036854775807 := by
  constructor
  · rw [Int.le_ediv_iff_mul_le hb]
    have : -9223372036854775808 * b ≤ -9223372036854775808 * 1 := Int.mul_le_mul_of_nonpos_left (by omega) (by omega)
    omega
  · by_cases h : 0 ≤ a
    · have := Int.ediv_le_self b h; omega
    · have : a / b < 0 := Int.ediv_neg_of_neg_of_pos (by omega) hb
      omega
theorem tmod_neg_iff (a b : Int) : a.tmod b < 0 ↔ a < 0 ∧ a.tmod b ≠ 0 := by
  constructor
  · intro h
    refine ⟨?_, by omega⟩
    by_cases h0 : 0 ≤ a
    · have := Int.tmod_nonneg b h0; omega
    · omega
  · rintro ⟨h, h2⟩
    have := Int.tmod_nonneg b (show 0 ≤ -a by omega)
    rw [Int.neg_tmod] at this; omega
end Go.Proofs.Yticjeknfnbligaa
namespace Go.Proofs.Yticjeknfnbligaa
/- the integer square root -/
def IsRoot (n r : Int) : Prop := 0 ≤ r ∧ r ≤ 3037000499 ∧ (n < 0 → r = 0) ∧ (0 ≤ n → r * r ≤ n ∧ n < (r + 1) * (r + 1))
theorem sq_mono (a b : Int) (h0 : 0 ≤ a) (h : a ≤ b) : a * a ≤ b * b := Int.mul_le_mul h h h0 (by omega)
theorem root_unique (n r s : Int) (hr : IsRoot n r) (hs : IsRoot n s) : r = s := by
  obtain ⟨r0, _, rn, rp⟩ := hr
  obtain ⟨s0, _, sn, sp⟩ := hs
  by_cases h : n < 0
  · rw [rn h, sn h]
  · obtain ⟨a, b⟩ := rp (by omega)
    obtain ⟨c, d⟩ := sp (by omega)
    by_cases h1 : r < s
    · have := sq_mono (r + 1) s (by omega) (by omega); omega
    · by_cases h2 : s < r
      · have := sq_mono (s + 1) r (by omega) (by omega); omega
      · omega
theorem root_of_sq (k : Int) (h0 : 0 ≤ k) (h1 : k ≤ 3037000499) : IsRoot (k * k) k := by
  have e : (k + 1) * (k + 1) = k * k + 2 * k + 1 := by
    rw [Int.add_mul, Int.mul_add]; omega
  have := sq_mono 0 k (by omega) h0
  exact ⟨h0, h1, fun h => by omega, fun _ => ⟨Int.le_refl _, by omega⟩⟩
theorem sq_top (k : Int) (h0 : 0 ≤ k) (h1 : k ≤ 3037000499) : 0 ≤ k * k ∧ k * k ≤ 9223372036854775807 := by
  have := sq_mono 0 k (by omega) h0
  have := sq_mono k 3037000499 h0 h1
  omega
/- the loop of num.Sqrt: lo is good, hi + 1 is not -/
def SqInv (n lo hi : Int) : Prop := 0 ≤ lo ∧ lo ≤ hi ∧ hi ≤ 3037000499 ∧ (0 < lo → lo * lo ≤ n) ∧ n < (hi + 1) * (hi + 1)
theorem sq_start (n : Int) (h : n ≤ 9223372036854775807) : SqInv n 0 3037000499 := ⟨by omega, by omega, by omega, fun h => by omega, by omega⟩
theorem sq_lo (n lo hi m : Int) (h : SqInv n lo hi) (h1 : lo < m) (h2 : m ≤ hi) (hm : m * m ≤ n) : SqInv n m hi := by
  obtain ⟨a, b, c, d, e⟩ := h; exact ⟨by omega, h2, c, fun _ => hm, e⟩
theorem sq_hi (n lo hi m : Int) (h : SqInv n lo hi) (h1 : lo < m) (h2 : m ≤ hi) (hm : n < m * m) : SqInv n lo (m - 1) := by
  obtain ⟨a, b, c, d, e⟩ := h
  refine ⟨a, by omega, by omega, d, ?_⟩
  rw [show m - 1 + 1 = m from by omega]; exact hm
theorem sq_end (n lo : Int) (h : SqInv n lo lo) : IsRoot n lo := by
  obtain ⟨a, b, c, d, e⟩ := h
  refine ⟨a, c, fun hn => ?_, fun hn => ⟨?_, e⟩⟩
  · by_cases h0 : 0 < lo
    · have := d h0; have := sq_mono 0 lo (by omega) a; omega
    · omega
  · by_cases h0 : 0 < lo
    · exact d h0
    · have : lo = 0 := by omega
      subst this; omega
/- the loop of the reference: lo is good, hi is not, and their distance is halved -/
def SrInv (n lo hi : Int) (i : Nat) : Prop := 1 ≤ lo ∧ lo < hi ∧ hi ≤ 3037000500 ∧ lo * lo ≤ n ∧ n < hi * hi ∧ i ≤ 32 ∧ hi - lo ≤ (2 ^ (32 - i) : Nat)
theorem sr_start (n : Int) (h0 : 0 < n) (h : n ≤ 9223372036854775807) : SrInv n 1 3037000500 0 := ⟨by omega, by omega, by omega, by omega, by omega, by omega, by decide⟩
theorem sr_room (n lo hi : Int) (i : Nat) (h : SrInv n lo hi i) (h1 : 1 < hi - lo) : i < 32 := by
  obtain ⟨_, _, _, _, _, a, b⟩ := h
  by_cases e : i = 32
  · subst e; simp at b; omega
  · omega
theorem pow_half (i : Nat) (h : i < 32) : (2 ^ (32 - i) : Nat) = 2 * 2 ^ (32 - (i + 1)) := by
  rw [show 32 - i = (32 - (i + 1)) + 1 from by omega, Nat.pow_succ]; omega
theorem sr_lo (n lo hi m : Int) (i : Nat) (h : SrInv n lo hi i) (h1 : 1 < hi - lo) (hm : m = (lo + hi) / 2) (hl : m ≤ n / m) : SrInv n m hi (i + 1) := by
  have hi32 := sr_room n lo hi i h h1
  obtain ⟨a, b, c, d, e, f, g⟩ := h
  have p := pow_half i hi32
  rw [p] at g
  have q := (Int.le_ediv_iff_mul_le (show 0 < m by omega)).1 hl
  exact ⟨by omega, by omega, c, q, e, by omega, by omega⟩
theorem sr_hi (n lo hi m : Int) (i : Nat) (h : SrInv n lo hi i) (h1 : 1 < hi - lo) (hm : m = (lo + hi) / 2) (hl : n / m < m) : SrInv n lo m (i + 1) := by
  have hi32 := sr_room n lo hi i h h1
  obtain ⟨a, b, c, d, e, f, g⟩ := h
  have p := pow_half i hi32
  rw [p] at g
  have q := (Int.ediv_lt_iff_lt_mul (show 0 < m by omega)).1 hl
  exact ⟨a, by omega, by omega, d, q, by omega, by omega⟩
theorem sr_end (n lo hi : Int) (i : Nat) (h : SrInv n lo hi i) (h1 : hi - lo ≤ 1) : IsRoot n lo := by
  obtain ⟨a, b, c, d, e, f, g⟩ := h
  have : hi = lo + 1 := by omega
  subst this
  exact ⟨by omega, by omega, fun hn => by have := sq_mono 0 lo (by omega) (by omega); omega, fun _ => ⟨d, e⟩⟩
end Go.Proofs.Yticjeknfnbligaa
namespace Go.Proofs.Yticjeknfnbligaa
theorem td32 (z : Int) : (z % 18446744073709551616).tdiv 4294967296 = z % 18446744073709551616 / 4294967296 := Int.tdiv_eq_ediv_of_nonneg (by omega)
theorem tm32 (z : Int) : (z % 18446744073709551616).tmod 4294967296 = z % 18446744073709551616 % 4294967296 := Int.tmod_eq_emod_of_nonneg (by omega)
theorem prod32 (a b : Int) (ha0 : 0 ≤ a) (ha : a ≤ 4294967295) (hb0 : 0 ≤ b) (hb : b ≤ 4294967295) : 0 ≤ a * b ∧ a * b ≤ 18446744065119617025 := by
  refine ⟨Int.mul_nonneg ha0 hb0, ?_⟩
  have := Int.mul_le_mul ha hb hb0 (by omega : (0 : Int) ≤ 4294967295)
  simpa using this
theorem times_arith (x y : Int) (hx0 : 0 ≤ x) (hx : x < 18446744073709551616) (hy0 : 0 ≤ y) (hy : y < 18446744073709551616) :
    ∃ A B C D : Int, x / 4294967296 * (y / 4294967296) = A ∧ x / 4294967296 * (y % 4294967296) = B ∧ x % 4294967296 * (y % 4294967296) = C ∧ x % 4294967296 * (y / 4294967296) = D ∧
      x * y = A * 18446744073709551616 + (B + D) * 4294967296 + C ∧ 0 ≤ A ∧ A ≤ 18446744065119617025 ∧ 0 ≤ B ∧ B ≤ 18446744065119617025 ∧ 0 ≤ C ∧ C ≤ 18446744065119617025 ∧ 0 ≤ D ∧ D ≤ 18446744065119617025 := by
  have ex : x = x / 4294967296 * 4294967296 + x % 4294967296 := by omega
  have ey : y = y / 4294967296 * 4294967296 + y % 4294967296 := by omega
  obtain ⟨p1, p2⟩ := prod32 (x / 4294967296) (y / 4294967296) (by omega) (by omega) (by omega) (by omega)
  obtain ⟨p3, p4⟩ := prod32 (x / 4294967296) (y % 4294967296) (by omega) (by omega) (by omega) (by omega)
  obtain ⟨p5, p6⟩ := prod32 (x % 4294967296) (y % 4294967296) (by omega) (by omega) (by omega) (by omega)
  obtain ⟨p7, p8⟩ := prod32 (x % 4294967296) (y / 4294967296) (by omega) (by omega) (by omega) (by omega)
  refine ⟨_, _, _, _, rfl, rfl, rfl, rfl, ?_, p1, p2, p3, p4, p5, p6, p7, p8⟩
  generalize x / 4294967296 = x1 at *
  generalize x % 4294967296 = x0 at *
  generalize y / 4294967296 = y1 at *
  generalize y % 4294967296 = y0 at *
  subst ex ey
  grind
end Go.Proofs.Yticjeknfnbligaa
