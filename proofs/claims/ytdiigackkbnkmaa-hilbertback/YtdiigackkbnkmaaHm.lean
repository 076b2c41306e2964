/- The Hilbert curve, as plain arithmetic. -/
import Derived.Test.YtdiigackkbnkmaaWa
namespace Go.Proofs.Ytdiigackkbnkmaa
open Go.ChangeShapes Go.WideShapes Go.ChangeAt Go.RowKit Go.Joins Go.Deep

def hAcc : Nat → Int → Int → Int → Int
  | 0, n, _, _ => n
  | k + 1, n, x, y =>
    let h : Int := 2 ^ k
    if x < h then (if y < h then hAcc k (4 * n) y x else hAcc k (4 * n + 1) x (y - h))
    else if y < h then hAcc k (4 * n + 3) (h - 1 - y) (2 * h - 1 - x) else hAcc k (4 * n + 2) (x - h) (y - h)
def outX (q h x y : Int) : Int := if q = 0 then y else if q = 1 then x else if q = 2 then x + h else 2 * h - 1 - y
def outY (q h x y : Int) : Int := if q = 0 then x else if q = 1 then y + h else if q = 2 then y + h else h - 1 - x
def hX : Nat → Int → Int × Int
  | 0, _ => (0, 0)
  | k + 1, i => (outX (i / 4 ^ k % 4) (2 ^ k) (hX k i).1 (hX k i).2, outY (i / 4 ^ k % 4) (2 ^ k) (hX k i).1 (hX k i).2)
abbrev hI (k : Nat) (x y : Int) : Int := hAcc k 0 x y

theorem p2 (k : Nat) : (2 : Int) ^ (k + 1) = 2 * 2 ^ k := by rw [Int.pow_succ]; omega
theorem p4 (k : Nat) : (4 : Int) ^ (k + 1) = 4 * 4 ^ k := by rw [Int.pow_succ]; omega
theorem p2pos (k : Nat) : (0 : Int) < 2 ^ k := Int.pow_pos (by omega)
theorem p4pos (k : Nat) : (0 : Int) < 4 ^ k := Int.pow_pos (by omega)

theorem hAcc_add (k : Nat) : ∀ (n x y : Int), hAcc k n x y = n * 4 ^ k + hAcc k 0 x y := by
  induction k with
  | zero => intro n x y; simp [hAcc]
  | succ k ih =>
    intro n x y
    have e := p4 k
    have d : ∀ c : Int, (4 * n + c) * 4 ^ k = n * 4 ^ (k + 1) + c * 4 ^ k := by intro c; rw [e]; grind
    have d0 : (4 * n) * 4 ^ k = n * 4 ^ (k + 1) := by rw [e]; grind
    simp only [hAcc]
    split <;> split
    · rw [ih (4 * n), ih (4 * 0), d0]; omega
    · rw [ih (4 * n + 1), ih (4 * 0 + 1), d]; omega
    · rw [ih (4 * n + 3), ih (4 * 0 + 3), d]; omega
    · rw [ih (4 * n + 2), ih (4 * 0 + 2), d]; omega

theorem hI_succ (k : Nat) (x y : Int) : hI (k + 1) x y = if x < 2 ^ k then (if y < 2 ^ k then hI k y x else 4 ^ k + hI k x (y - 2 ^ k))
    else if y < 2 ^ k then 3 * 4 ^ k + hI k (2 ^ k - 1 - y) (2 * 2 ^ k - 1 - x) else 2 * 4 ^ k + hI k (x - 2 ^ k) (y - 2 ^ k) := by
  unfold hI
  simp only [hAcc]
  split <;> split
  · rfl
  · rw [hAcc_add k (4 * 0 + 1)]; omega
  · rw [hAcc_add k (4 * 0 + 3)]; omega
  · rw [hAcc_add k (4 * 0 + 2)]; omega

theorem hI_bd (k : Nat) : ∀ {x y : Int}, 0 ≤ x → x < 2 ^ k → 0 ≤ y → y < 2 ^ k → 0 ≤ hI k x y ∧ hI k x y < 4 ^ k := by
  induction k with
  | zero => intro x y _ _ _ _; simp [hI, hAcc]
  | succ k ih =>
    intro x y a b c d
    rw [p2 k] at b d
    rw [p4 k, hI_succ]
    have := p4pos k
    split <;> split
    · have := @ih y x c (by omega) a (by omega); omega
    · have := @ih x (y - 2 ^ k) a (by omega) (by omega) (by omega); omega
    · have := @ih (2 ^ k - 1 - y) (2 * 2 ^ k - 1 - x) (by omega) (by omega) (by omega) (by omega); omega
    · have := @ih (x - 2 ^ k) (y - 2 ^ k) (by omega) (by omega) (by omega) (by omega); omega

theorem out_bd {q h x y : Int} (x0 : 0 ≤ x) (x1 : x < h) (y0 : 0 ≤ y) (y1 : y < h) : 0 ≤ outX q h x y ∧ outX q h x y < 2 * h ∧ 0 ≤ outY q h x y ∧ outY q h x y < 2 * h := by
  unfold outX outY
  split
  · omega
  · split
    · omega
    · split <;> omega
theorem hX_bd (k : Nat) (i : Int) : 0 ≤ (hX k i).1 ∧ (hX k i).1 < 2 ^ k ∧ 0 ≤ (hX k i).2 ∧ (hX k i).2 < 2 ^ k := by
  induction k with
  | zero => simp [hX]
  | succ k ih =>
    rw [p2 k]
    exact out_bd ih.1 ih.2.1 ih.2.2.1 ih.2.2.2

theorem div4 (k : Nat) (i : Int) : i / 4 ^ (k + 1) = i / 4 ^ k / 4 := by
  first | (rw [Int.ediv_ediv_of_nonneg (by have := p4pos k; omega), Int.pow_succ]) | (rw [Int.ediv_ediv (by have := p4pos k; omega), Int.pow_succ]) | (rw [Int.pow_succ, Int.ediv_mul]) | (rw [Int.pow_succ, ← Int.ediv_ediv_of_nonneg])
theorem div_add (c r : Int) (j : Nat) : ∀ (k : Nat), j ≤ k → (c * 4 ^ k + r) / 4 ^ j = c * 4 ^ (k - j) + r / 4 ^ j := by
  intro k h
  have e : (4 : Int) ^ k = 4 ^ (k - j) * 4 ^ j := by rw [← Int.pow_add]; congr 1; omega
  rw [e, ← Int.mul_assoc, Int.add_comm, Int.add_mul_ediv_right _ _ (by have := p4pos j; omega), Int.add_comm]
theorem hX_add (k m : Nat) (h : k ≤ m) (c r : Int) : hX k (c * 4 ^ m + r) = hX k r := by
  induction k with
  | zero => rfl
  | succ k ih =>
    simp only [hX]
    rw [ih (by omega), div_add c r k m (by omega)]
    have e : (4 : Int) ^ (m - k) = 4 ^ (m - k - 1) * 4 := by rw [← Int.pow_succ]; congr 1; omega
    have : (c * 4 ^ (m - k) + r / 4 ^ k) % 4 = r / 4 ^ k % 4 := by rw [e, ← Int.mul_assoc]; omega
    rw [this]
theorem hX_top (k : Nat) {q r : Int} (q0 : 0 ≤ q) (q1 : q < 4) (r0 : 0 ≤ r) (r1 : r < 4 ^ k) :
    hX (k + 1) (q * 4 ^ k + r) = (outX q (2 ^ k) (hX k r).1 (hX k r).2, outY q (2 ^ k) (hX k r).1 (hX k r).2) := by
  simp only [hX]
  rw [hX_add k k (Nat.le_refl _)]
  have e := div_add q r k k (Nat.le_refl _)
  have z : r / 4 ^ k = 0 := Int.ediv_eq_zero_of_lt r0 r1
  rw [Nat.sub_self, z] at e
  have e2 : (q * 4 ^ k + r) / 4 ^ k % 4 = q := by rw [e]; simp; omega
  rw [e2]

theorem hX_hI (k : Nat) : ∀ {x y : Int}, 0 ≤ x → x < 2 ^ k → 0 ≤ y → y < 2 ^ k → hX k (hI k x y) = (x, y) := by
  induction k with
  | zero => intro x y a b c d; simp only [hX]; simp at b d; simp; omega
  | succ k ih =>
    intro x y a b c d
    rw [p2 k] at b d
    rw [hI_succ]
    split <;> split
    · obtain ⟨u, v⟩ := hI_bd k c (by omega) a (by omega) (x := y) (y := x)
      have e := hX_top k (q := 0) (by omega) (by omega) u v
      rw [Int.zero_mul, Int.zero_add] at e
      rw [e, ih c (by omega) a (by omega)]; simp [outX, outY]
    · obtain ⟨u, v⟩ := hI_bd k a (by omega) (by omega) (by omega) (x := x) (y := y - 2 ^ k)
      have e := hX_top k (q := 1) (by omega) (by omega) u v
      rw [Int.one_mul] at e
      rw [e, ih a (by omega) (by omega) (by omega)]; simp [outX, outY]
    · obtain ⟨u, v⟩ := hI_bd k (by omega) (by omega) (by omega) (by omega) (x := 2 ^ k - 1 - y) (y := 2 * 2 ^ k - 1 - x)
      have e := hX_top k (q := 3) (by omega) (by omega) u v
      rw [e, ih (by omega) (by omega) (by omega) (by omega)]; simp [outX, outY]; omega
    · obtain ⟨u, v⟩ := hI_bd k (by omega) (by omega) (by omega) (by omega) (x := x - 2 ^ k) (y := y - 2 ^ k)
      have e := hX_top k (q := 2) (by omega) (by omega) u v
      rw [e, ih (by omega) (by omega) (by omega) (by omega)]; simp [outX, outY]

theorem split4 (k : Nat) {i : Int} (h0 : 0 ≤ i) (h1 : i < 4 ^ (k + 1)) : ∃ q r : Int, i = q * 4 ^ k + r ∧ 0 ≤ q ∧ q < 4 ∧ 0 ≤ r ∧ r < 4 ^ k := by
  have p := p4pos k
  refine ⟨i / 4 ^ k, i % 4 ^ k, ?_, Int.ediv_nonneg h0 (by omega), ?_, Int.emod_nonneg _ (by omega), Int.emod_lt_of_pos _ p⟩
  · rw [Int.mul_comm]; exact (Int.mul_ediv_add_emod _ _).symm
  · rw [p4 k] at h1; exact Int.ediv_lt_of_lt_mul p h1

theorem hI_hX (k : Nat) : ∀ {i : Int}, 0 ≤ i → i < 4 ^ k → hI k (hX k i).1 (hX k i).2 = i := by
  induction k with
  | zero => intro i a b; simp at b; simp [hI, hAcc]; omega
  | succ k ih =>
    intro i a b
    obtain ⟨q, r, rfl, q0, q1, r0, r1⟩ := split4 k a b
    rw [hX_top k q0 q1 r0 r1, hI_succ]
    obtain ⟨u0, u1, v0, v1⟩ := hX_bd k r
    have e := ih r0 r1
    have hq : q = 0 ∨ q = 1 ∨ q = 2 ∨ q = 3 := by omega
    rcases hq with rfl | rfl | rfl | rfl
    · simp only [outX, outY, if_true]; rw [if_pos v1, if_pos u1, e]; omega
    · simp only [outX, outY]; simp
      rw [if_pos u1, if_neg (by omega)]
      rw [e]
    · simp only [outX, outY]; simp
      rw [if_neg (by omega), if_neg (by omega)]
      rw [e]
    · simp only [outX, outY]; simp
      rw [if_neg (by omega), if_pos (by omega)]
      rw [show (2 ^ k - 1 - (2 ^ k - 1 - (hX k r).1)) = (hX k r).1 by omega, show (2 * 2 ^ k - 1 - (2 * 2 ^ k - 1 - (hX k r).2)) = (hX k r).2 by omega, e]

theorem hX_first (k : Nat) : hX k 0 = (0, 0) := by
  induction k with
  | zero => rfl
  | succ k ih => simp [hX, ih, outX, outY]
theorem hX_last (k : Nat) : hX k (4 ^ k - 1) = (2 ^ k - 1, 0) := by
  induction k with
  | zero => rfl
  | succ k ih =>
    have p := p4pos k
    have e : (4 : Int) ^ (k + 1) - 1 = 3 * 4 ^ k + (4 ^ k - 1) := by rw [p4]; omega
    rw [e, hX_top k (by omega) (by omega) (by omega) (by omega), ih, p2 k]
    simp [outX, outY]
def d2 (a b : Int × Int) : Int := (a.1 - b.1) * (a.1 - b.1) + (a.2 - b.2) * (a.2 - b.2)
theorem out_d2 (q h x y u v : Int) : d2 (outX q h x y, outY q h x y) (outX q h u v, outY q h u v) = d2 (x, y) (u, v) := by
  unfold d2 outX outY
  simp only
  split
  · grind
  · split
    · grind
    · split <;> grind
theorem hX_step (k : Nat) : ∀ {i : Int}, 0 ≤ i → i + 1 < 4 ^ k → d2 (hX k i) (hX k (i + 1)) = 1 := by
  induction k with
  | zero => intro i a b; simp at b; omega
  | succ k ih =>
    intro i a b
    obtain ⟨q, r, rfl, q0, q1, r0, r1⟩ := split4 k a (by omega)
    by_cases hr : r + 1 < 4 ^ k
    · rw [Int.add_assoc, hX_top k q0 q1 r0 r1, hX_top k q0 q1 (by omega) hr, out_d2]
      exact ih r0 hr
    · have er : r = 4 ^ k - 1 := by omega
      subst er
      have p := p4pos k
      have hq3 : q < 3 := by
        rw [p4 k] at b
        by_cases h : q = 3
        · subst h; omega
        · omega
      have e2 : q * 4 ^ k + (4 ^ k - 1) + 1 = (q + 1) * 4 ^ k + 0 := by grind
      rw [e2, hX_top k q0 q1 r0 r1, hX_top k (by omega) (by omega) (by omega) p, hX_first, hX_last]
      have hq : q = 0 ∨ q = 1 ∨ q = 2 := by omega
      rcases hq with rfl | rfl | rfl
      · simp [outX, outY, d2]; grind
      · simp [outX, outY, d2]; grind
      · simp [outX, outY, d2]; grind

theorem cdiv {h k : Nat} (hk : k ≤ h) : (2 : Int) ^ h = 2 ^ (h - k) * 2 ^ k := by rw [← Int.pow_add]; congr 1; omega
theorem sub_div (a b : Int) {c : Int} (hc : 0 < c) : (a * c - 1 - b) / c = a - 1 - b / c := by
  have e := Int.mul_ediv_add_emod b c
  have r0 := Int.emod_nonneg b (show c ≠ 0 by omega)
  have r1 := Int.emod_lt_of_pos b hc
  have : a * c - 1 - b = (c - 1 - b % c) + (a - 1 - b / c) * c := by grind
  rw [this, Int.add_mul_ediv_right _ _ (by omega), Int.ediv_eq_zero_of_lt (by omega) (by omega)]; omega
theorem sub_div2 (a b : Int) {c : Int} (hc : 0 < c) : (b - a * c) / c = b / c - a := by
  rw [show b - a * c = b + (-a) * c by grind, Int.add_mul_ediv_right _ _ (by omega)]; omega
theorem lt_div (a b : Int) {c : Int} (hc : 0 < c) : (b < a * c) ↔ b / c < a := by
  rw [Int.ediv_lt_iff_lt_mul hc]
theorem hI_div (k m : Nat) : ∀ {x y : Int}, 0 ≤ x → x < 2 ^ (m + k) → 0 ≤ y → y < 2 ^ (m + k) → hI (m + k) x y / 4 ^ k = hI m (x / 2 ^ k) (y / 2 ^ k) := by
  induction m with
  | zero =>
    intro x y a b c d
    rw [Nat.zero_add] at b d ⊢
    obtain ⟨u, v⟩ := hI_bd k a b c d
    rw [Int.ediv_eq_zero_of_lt u v]; simp [hI, hAcc]
  | succ m ih =>
    intro x y a b c d
    have pk := p2pos k
    have e2 : (2 : Int) ^ (m + k) = 2 ^ m * 2 ^ k := Int.pow_add ..
    have e4 : (4 : Int) ^ (m + k) = 4 ^ m * 4 ^ k := Int.pow_add ..
    have e1 : m + 1 + k = (m + k) + 1 := by omega
    have h4 : ∀ q z : Int, (q * 4 ^ (m + k) + z) / 4 ^ k = q * 4 ^ m + z / 4 ^ k := by
      intro q z
      rw [e4, ← Int.mul_assoc, Int.add_comm, Int.add_mul_ediv_right _ _ (by have := p4pos k; omega), Int.add_comm]
    rw [e1] at b d ⊢
    rw [p2 (m + k)] at b d
    rw [hI_succ (m + k), hI_succ m]
    have cx := lt_div (2 ^ m) x pk
    have cy := lt_div (2 ^ m) y pk
    rw [← e2] at cx cy
    have sx := sub_div2 (2 ^ m) x pk
    have sy := sub_div2 (2 ^ m) y pk
    have ty := sub_div (2 ^ m) y pk
    have tx := sub_div (2 * 2 ^ m) x pk
    rw [Int.mul_assoc] at tx
    rw [← e2] at sx sy ty tx
    by_cases kx : x < 2 ^ (m + k) <;> by_cases ky : y < 2 ^ (m + k)
    · rw [if_pos kx, if_pos ky, if_pos (cx.1 kx), if_pos (cy.1 ky)]
      exact ih c (by omega) a (by omega)
    · rw [if_pos kx, if_neg ky, if_pos (cx.1 kx), if_neg (fun h => ky (cy.2 h))]
      have := h4 1 (hI (m + k) x (y - 2 ^ (m + k)))
      rw [Int.one_mul, Int.one_mul] at this
      rw [this, ih a (by omega) (by omega) (by omega), sy]
    · rw [if_neg kx, if_pos ky, if_neg (fun h => kx (cx.2 h)), if_pos (cy.1 ky)]
      rw [h4, ih (by omega) (by omega) (by omega) (by omega), ty, tx]
    · rw [if_neg kx, if_neg ky, if_neg (fun h => kx (cx.2 h)), if_neg (fun h => ky (cy.2 h))]
      rw [h4, ih (by omega) (by omega) (by omega) (by omega), sx, sy]
theorem hI_inj (k : Nat) {x y u v : Int} (a : 0 ≤ x) (b : x < 2 ^ k) (c : 0 ≤ y) (d : y < 2 ^ k) (a' : 0 ≤ u) (b' : u < 2 ^ k) (c' : 0 ≤ v) (d' : v < 2 ^ k) :
    hI k x y = hI k u v ↔ x = u ∧ y = v := by
  constructor
  · intro h
    have e := hX_hI k a b c d
    rw [h, hX_hI k a' b' c' d'] at e
    injection e with e1 e2
    exact ⟨e1.symm, e2.symm⟩
  · rintro ⟨rfl, rfl⟩; rfl
theorem div_bd (m k : Nat) {x : Int} (a : 0 ≤ x) (b : x < 2 ^ (m + k)) : 0 ≤ x / 2 ^ k ∧ x / 2 ^ k < 2 ^ m := by
  have pk := p2pos k
  refine ⟨Int.ediv_nonneg a (by omega), ?_⟩
  rw [← lt_div _ _ pk, ← Int.pow_add]; exact b
theorem hI_cells (m k : Nat) {x y u v : Int} (a : 0 ≤ x) (b : x < 2 ^ (m + k)) (c : 0 ≤ y) (d : y < 2 ^ (m + k)) (a' : 0 ≤ u) (b' : u < 2 ^ (m + k)) (c' : 0 ≤ v) (d' : v < 2 ^ (m + k)) :
    hI (m + k) x y / 4 ^ k = hI (m + k) u v / 4 ^ k ↔ x / 2 ^ k = u / 2 ^ k ∧ y / 2 ^ k = v / 2 ^ k := by
  rw [hI_div k m a b c d, hI_div k m a' b' c' d']
  have h1 := div_bd m k a b; have h2 := div_bd m k c d; have h3 := div_bd m k a' b'; have h4 := div_bd m k c' d'
  exact hI_inj m h1.1 h1.2 h2.1 h2.2 h3.1 h3.2 h4.1 h4.2
end Go.Proofs.Ytdiigackkbnkmaa
