/- Contracts: Len64, LeadingZeros64, Div64. -/
import Derived.Test.YticjeknfnbligaaWd
import Derived.Test.YticjeknfnbligaaKnuth
import Derived.Lib.Tables
import Derived.Lib.BitFns
import Derived.Deep.Cut
import Derived.Deep.DeepCutAuto
import Derived.Deep.CutBlock
namespace Go.Proofs.Yticjeknfnbligaa
open Go.ChangeShapes Go.WideShapes Go.ChangeAt Go.RowKit

/- the last step of each way through Len64 -/
theorem len_way (x q : Int) (k : Nat) (hk : k ≤ 56) (h0 : 0 ≤ x) (h1 : x < 18446744073709551616) (hq : q = x / 2 ^ k) (h2 : k = 0 ∨ (2 ^ k : Int) ≤ x) (h3 : q < 256) :
    (k : Int) + Lib.len8 (q % 256) = (Lib.bitLen x.toNat : Int) ∧ Lib.len8 (q % 256) ≤ 8 ∧ 0 ≤ Lib.len8 (q % 256) := by
  have p : (0 : Int) < 2 ^ k := Int.pow_pos (by decide)
  have q0 : 0 ≤ q := by rw [hq]; exact Int.ediv_nonneg h0 (by omega)
  have e : q % 256 = q := by omega
  rw [e, Lib.len8_of q q0 (by omega)]
  have l := Lib.bitLen_le8' q q0 (by omega)
  refine ⟨?_, by omega, by omega⟩
  have ex : ((x.toNat / 2 ^ k : Nat) : Int) = q := by
    rw [hq, Int.natCast_ediv, Int.natCast_pow, Int.toNat_of_nonneg h0]; rfl
  have en : q.toNat = x.toNat / 2 ^ k := by omega
  rw [en]
  rcases h2 with rfl | h2
  · simp
  · have h2' : 2 ^ k ≤ x.toNat := by
      have : ((2 ^ k : Nat) : Int) ≤ x := by rw [Int.natCast_pow]; exact h2
      omega
    have := Lib.bitLen_shift k x.toNat h2' (by omega)
    omega

theorem len8_get (y : Int) (h : y.toNat < Lib.len8tab.size) : ((Lib.len8tab[y.toNat]'h).toNat : Int) = Lib.len8 y := by
  unfold Lib.len8
  rw [getElem?_pos Lib.len8tab y.toNat h]; rfl
theorem len_way2 (x q : Int) (k : Nat) (hk : k ≤ 56) (h0 : 0 ≤ x) (h1 : x < 18446744073709551616) (hq : q = x / 2 ^ k) (h2 : k = 0 ∨ (2 ^ k : Int) ≤ x) (h3 : q < 256) (h : q.toNat < Lib.len8tab.size) :
    wrap64 ((k : Int) + wrap64 ((Lib.len8tab[q.toNat]'h).toNat : Int)) = (Lib.bitLen x.toNat : Int) := by
  have p : (0 : Int) < 2 ^ k := Int.pow_pos (by decide)
  have q0 : 0 ≤ q := by rw [hq]; exact Int.ediv_nonneg h0 (by omega)
  have e : q % 256 = q := by omega
  obtain ⟨a, b, c⟩ := len_way x q k hk h0 h1 hq h2 h3
  rw [e] at a b c
  rw [len8_get, IntWalk.wrap64_in (Lib.len8 q) ⟨by omega, by omega⟩, IntWalk.wrap64_in _ ⟨by omega, by omega⟩]
  exact a

set_option maxRecDepth 100000 in
set_option maxHeartbeats 1000000 in
theorem len64_any (x : Int) (w : World) (h0 : 0 ≤ x) (h1 : x < 18446744073709551616) :
    Calls Try.prog 39 #[.int .u64 x] w fun e w' => e = .returned (.int .i64 (Lib.bitLen x.toNat : Nat)) ∧ w = w' := by
  have hz : (Lib.len8tab.size : Int) = 256 := by rw [Lib.len8tab_size]; rfl
  go_enter Try.func39, Try.ntmps39
  go_wp2
  all_goals go_ret
  all_goals refine ⟨ret_i64 ?_, rfl⟩
  · exact len_way2 x (x / 4294967296 / 65536 / 256) 56 (by omega) h0 h1 (by omega) (Or.inr (by omega)) (by omega) _
  · exact len_way2 x (x / 4294967296 / 65536) 48 (by omega) h0 h1 (by omega) (Or.inr (by omega)) (by omega) _
  · exact len_way2 x (x / 4294967296 / 256) 40 (by omega) h0 h1 (by omega) (Or.inr (by omega)) (by omega) _
  · exact len_way2 x (x / 4294967296) 32 (by omega) h0 h1 (by omega) (Or.inr (by omega)) (by omega) _
  · exact len_way2 x (x / 65536 / 256) 24 (by omega) h0 h1 (by omega) (Or.inr (by omega)) (by omega) _
  · exact len_way2 x (x / 65536) 16 (by omega) h0 h1 (by omega) (Or.inr (by omega)) (by omega) _
  · exact len_way2 x (x / 256) 8 (by omega) h0 h1 (by omega) (Or.inr (by omega)) (by omega) _
  · have t := len_way2 x x 0 (by omega) h0 h1 (by simp) (Or.inl rfl) (by omega) (by omega)
    rw [show ((0 : Nat) : Int) = 0 from rfl, Int.zero_add] at t
    exact t

theorem lz64_any (x : Int) (w : World) (h0 : 0 ≤ x) (h1 : x < 18446744073709551616) :
    Calls Try.prog 36 #[.int .u64 x] w fun e w' => e = .returned (.int .i64 (64 - (Lib.bitLen x.toNat : Int))) ∧ w = w' := by
  have hb := Lib.bitLen_le x.toNat 64 (by omega) (by omega)
  go_enter Try.func36, Try.ntmps36
  go_wp2_with (go_at_call 39; refine (len64_any _ _ h0 h1).mono ?_; rintro e w' ⟨rfl, rfl⟩)
  go_ret
  exact ⟨rfl, rfl⟩

/- the shift that brings y to 64 bits -/
theorem shift_facts (y : Nat) (h0 : 0 < y) (h1 : y < 9223372036854775808) : ∃ s : Nat, 64 - Lib.bitLen y = s ∧ Lib.bitLen y + s = 64 ∧ 1 ≤ s ∧ s ≤ 63 ∧ y * 2 ^ s < 18446744073709551616 ∧ 9223372036854775808 ≤ y * 2 ^ s := by
  have l63 := Lib.bitLen_le y 63 (by omega) (by omega)
  have up : y < 2 ^ Lib.bitLen y := by
    apply Nat.lt_of_not_le
    intro h
    have e := Lib.bitLen_shift (Lib.bitLen y) y h (by omega)
    have q : Lib.bitLen (y / 2 ^ Lib.bitLen y) = 0 := by omega
    have q1 : 1 ≤ y / 2 ^ Lib.bitLen y := (Nat.le_div_iff_mul_le (Nat.two_pow_pos _)).2 (by omega)
    have hlt : y / 2 ^ Lib.bitLen y < 2 ^ 64 := Nat.lt_of_le_of_lt (Nat.div_le_self _ _) (by omega)
    have := Lib.bitLen_half (y / 2 ^ Lib.bitLen y) (by omega) hlt
    omega
  have pos : 1 ≤ Lib.bitLen y := by
    have := Lib.bitLen_half y (by omega) (by omega); omega
  have lo : 2 ^ (Lib.bitLen y - 1) ≤ y := by
    apply Nat.le_of_not_lt
    intro h
    have := Lib.bitLen_le y (Lib.bitLen y - 1) (by omega) h
    omega
  refine ⟨64 - Lib.bitLen y, rfl, by omega, by omega, by omega, ?_, ?_⟩
  · have : y * 2 ^ (64 - Lib.bitLen y) < 2 ^ Lib.bitLen y * 2 ^ (64 - Lib.bitLen y) := Nat.mul_lt_mul_of_pos_right up (Nat.two_pow_pos _)
    rw [← Nat.pow_add, show Lib.bitLen y + (64 - Lib.bitLen y) = 64 from by omega] at this
    omega
  · have : 2 ^ (Lib.bitLen y - 1) * 2 ^ (64 - Lib.bitLen y) ≤ y * 2 ^ (64 - Lib.bitLen y) := Nat.mul_le_mul_right _ lo
    rw [← Nat.pow_add, show Lib.bitLen y - 1 + (64 - Lib.bitLen y) = 63 from by omega] at this
    omega

/- the numbers that Div64 starts from, in the walk's own spelling -/
theorem norm_facts (hi lo y : Int) (h0 : 0 < hi) (hy : hi < y) (hy2 : y < 9223372036854775808) (hl0 : 0 ≤ lo) (hl : lo < 18446744073709551616) :
    ∃ (s : Nat) (Y U L y1 y0 u1 u0 : Int), (64 - (Lib.bitLen y.toNat : Int)) = (s : Int) ∧ 1 ≤ s ∧ s ≤ 63 ∧
      IntKind.u64.wrap (y * 2 ^ s) = Y ∧ Y / 4294967296 = y1 ∧ bits .and .u64 Y 4294967295 = y0 ∧ bits .or .u64 (IntKind.u64.wrap (hi * 2 ^ s)) (lo / 2 ^ (64 - s)) = U ∧
      IntKind.u64.wrap (lo * 2 ^ s) = L ∧ L / 4294967296 = u1 ∧ bits .and .u64 L 4294967295 = u0 ∧ KH U y1 y0 u1 ∧ 0 ≤ u0 ∧ u0 < 4294967296 ∧
      y1 * 4294967296 + y0 = y * 2 ^ s ∧ y1 * 4294967296 + y0 = Y ∧ (U * 4294967296 + u1) * 4294967296 + u0 = (hi * 18446744073709551616 + lo) * 2 ^ s := by
  obtain ⟨s, e1, e2, s1, s2, n1, n2⟩ := shift_facts y.toNat (by omega) (by omega)
  have n1' : y * 2 ^ s < 18446744073709551616 := by
    have : ((y.toNat * 2 ^ s : Nat) : Int) = y * 2 ^ s := by rw [Int.natCast_mul, Int.natCast_pow, Int.toNat_of_nonneg (by omega)]; rfl
    omega
  have n2' : 9223372036854775808 ≤ y * 2 ^ s := by
    have : ((y.toNat * 2 ^ s : Nat) : Int) = y * 2 ^ s := by rw [Int.natCast_mul, Int.natCast_pow, Int.toNat_of_nonneg (by omega)]; rfl
    omega
  have hPQ : (2 : Int) ^ s * 2 ^ (64 - s) = 18446744073709551616 := by
    rw [← Int.pow_add, show s + (64 - s) = 64 from by omega]; rfl
  have hP : (0 : Int) < 2 ^ s := Int.pow_pos (by decide)
  have hQ : (0 : Int) < 2 ^ (64 - s) := Int.pow_pos (by decide)
  have hq1 : lo / 2 ^ (64 - s) < 2 ^ s := by
    rw [Int.ediv_lt_iff_lt_mul hQ, hPQ]; exact hl
  have hq0 : 0 ≤ lo / 2 ^ (64 - s) := Int.ediv_nonneg hl0 (by omega)
  have hhi : hi * 2 ^ s + 2 ^ s ≤ y * 2 ^ s := by
    have : (hi + 1) * 2 ^ s ≤ y * 2 ^ s := Int.mul_le_mul_of_nonneg_right (by omega) (by omega)
    rw [Int.add_mul] at this; omega
  have hh0 : 0 < hi * 2 ^ s := Int.mul_pos h0 hP
  have wY : IntKind.u64.wrap (y * 2 ^ s) = y * 2 ^ s := by rw [IntKind.wrap_u64]; omega
  have wH : IntKind.u64.wrap (hi * 2 ^ s) = hi * 2 ^ s := by rw [IntKind.wrap_u64]; omega
  have lsplit : lo * 2 ^ s = lo / 2 ^ (64 - s) * 18446744073709551616 + lo % 2 ^ (64 - s) * 2 ^ s := by
    have e := Int.mul_ediv_add_emod lo (2 ^ (64 - s))
    calc lo * 2 ^ s = (2 ^ (64 - s) * (lo / 2 ^ (64 - s)) + lo % 2 ^ (64 - s)) * 2 ^ s := by rw [e]
      _ = _ := by rw [Int.add_mul, ← hPQ]; grind
  have m0 : 0 ≤ lo % 2 ^ (64 - s) * 2 ^ s := Int.mul_nonneg (Int.emod_nonneg _ (by omega)) (by omega)
  have m1 : lo % 2 ^ (64 - s) * 2 ^ s < 18446744073709551616 := by
    rw [← hPQ, Int.mul_comm (2 ^ s)]; exact Int.mul_lt_mul_of_pos_right (Int.emod_lt_of_pos _ hQ) hP
  have wL : IntKind.u64.wrap (lo * 2 ^ s) = lo % 2 ^ (64 - s) * 2 ^ s := by rw [IntKind.wrap_u64, lsplit]; omega
  have wU : bits .or .u64 (IntKind.u64.wrap (hi * 2 ^ s)) (lo / 2 ^ (64 - s)) = hi * 2 ^ s + lo / 2 ^ (64 - s) := by
    rw [wH]
    obtain ⟨h, rfl⟩ := Int.eq_ofNat_of_zero_le (show 0 ≤ hi by omega)
    obtain ⟨l, hl'⟩ := Int.eq_ofNat_of_zero_le hq0
    rw [hl'] at hq1 ⊢
    have c : ((2 ^ s * h : Nat) : Int) = (h : Int) * 2 ^ s := by rw [Int.natCast_mul, Int.natCast_pow, Int.mul_comm]; rfl
    have hl2 : l < 2 ^ s := by
      have : ((2 ^ s : Nat) : Int) = (2 : Int) ^ s := by rw [Int.natCast_pow]; rfl
      omega
    rw [← c, bits_or_u64_nat _ _ (by omega) (by omega), ← Nat.two_pow_add_eq_or_of_lt hl2 h, Int.natCast_add]
  refine ⟨s, y * 2 ^ s, hi * 2 ^ s + lo / 2 ^ (64 - s), lo % 2 ^ (64 - s) * 2 ^ s, _, _, _, _, by omega, s1, s2, wY, rfl, and_low32 _ (by omega) (by omega), wU, wL, rfl, and_low32 _ m0 m1, ?_, by omega, by omega, by omega, by omega, ?_⟩
  · exact ⟨by omega, by omega, by omega, by omega, by omega, by omega, by omega, by omega⟩
  · rw [Int.add_mul (hi * 18446744073709551616), lsplit]
    generalize lo / 2 ^ (64 - s) = a at *
    generalize lo % 2 ^ (64 - s) * 2 ^ s = b at *
    rw [Int.mul_right_comm hi]
    omega

/- a step's first guess, in the walk's own spelling -/
theorem k_begin {u y1 y0 v : Int} (h : KH u y1 y0 v) : ∃ q r : Int, IntKind.u64.wrap (u.tdiv y1) = q ∧ IntKind.u64.wrap (u - IntKind.u64.wrap (q * y1)) = r ∧ KI u y1 y0 v q r := by
  have k := k_start h
  have a1 := h.a1; have a2 := h.a2; have b1 := h.b1; have b2 := h.b2; have u0 := h.u0; have uY := h.uY
  have e0 : u.tdiv y1 = u / y1 := Int.tdiv_eq_ediv_of_nonneg u0
  have q0 : 0 ≤ u / y1 := Int.ediv_nonneg u0 (by omega)
  obtain ⟨i1, i2, i3, i4, i5⟩ := k
  have e1 : IntKind.u64.wrap (u.tdiv y1) = u / y1 := by rw [e0, IntKind.wrap_u64]; omega
  have m0 : 0 ≤ u / y1 * y1 := Int.mul_nonneg q0 (by omega)
  have e2 : IntKind.u64.wrap (u - IntKind.u64.wrap (u / y1 * y1)) = u - u / y1 * y1 := by
    simp only [IntKind.wrap_u64]
    generalize u / y1 * y1 = z at *
    omega
  exact ⟨_, _, e1, e2, i1, i2, i3, i4, i5⟩

theorem k_prod (q y0 : Int) (h0 : 0 ≤ q) (h1 : q < 4294967296) (b1 : 0 ≤ y0) (b2 : y0 < 4294967296) : ∃ m : Int, IntKind.u64.wrap (q * y0) = m ∧ q * y0 = m := by
  obtain ⟨p1, p2⟩ := prod32 q y0 h0 (by omega) b1 (by omega)
  exact ⟨q * y0, by rw [IntKind.wrap_u64]; omega, rfl⟩

theorem k_left {u y1 y0 v q Y : Int} (h : KH u y1 y0 v) (hq : kq u y1 y0 v = q) (hY : y1 * 4294967296 + y0 = Y) :
    ∃ R : Int, IntKind.u64.wrap (IntKind.u64.wrap (IntKind.u64.wrap (u * 4294967296) + v) - IntKind.u64.wrap (q * Y)) = R ∧ kr u y1 y0 v = R := by
  refine ⟨_, rfl, ?_⟩
  subst hq hY
  simp only [IntKind.wrap_u64]
  exact (k_rest h).symm

set_option maxRecDepth 100000 in
set_option maxHeartbeats 4000000 in
theorem div64_big (hi lo y : Int) (w : World) (h0 : 0 < hi) (hy : hi < y) (hy2 : y < 9223372036854775808) (hl0 : 0 ≤ lo) (hl : lo < 18446744073709551616) :
    Calls Try.prog 27 #[.int .u64 hi, .int .u64 lo, .int .u64 y] w fun e w' => e = .returned (.tuple #[.int .u64 ((hi * 18446744073709551616 + lo) / y), .int .u64 ((hi * 18446744073709551616 + lo) % y)]) ∧ w = w' := by
  obtain ⟨s, Y, U, L, y1, y0, u1, u0, es, s1, s2, hY, hy1, hy0, hU, hL, hu1, hu0, K, v0, v1, hYs, hYY, hN⟩ := norm_facts hi lo y h0 hy hy2 hl0 hl
  have ES := Lib.hid es; have HYs := Lib.hid hYs; have HYY := Lib.hid hYY; have HN := Lib.hid hN
  clear es hYs hYY hN
  have a1 := K.a1; have a2 := K.a2; have b1 := K.b1; have b2 := K.b2; have c1 := K.c1; have c2 := K.c2; have ku0 := K.u0
  have hz : (hi == 0) = false := by simp; omega
  have yz : (y == 0) = false := by simp; omega
  have y1z : (y1 == 0) = false := by simp; omega
  have KK := Lib.hid K
  obtain ⟨q, r, hq, hr, I⟩ : ∃ q r : Int, IntKind.u64.wrap (U.tdiv y1) = q ∧ IntKind.u64.wrap (U - IntKind.u64.wrap (q * y1)) = r ∧ KI U y1 y0 u1 q r := k_begin K
  have II := Lib.hid I
  obtain ⟨Q1, hQ1⟩ : ∃ Q1, kq U y1 y0 u1 = Q1 := ⟨_, rfl⟩
  have HQ1 := Lib.hid hQ1
  clear K I hQ1
  go_enter Try.func27, Try.ntmps27
  go_wp2_with fail
  refine (lz64_any y _ (by omega) (by omega)).mono ?_; rintro e w' ⟨rfl, rfl⟩
  rw [ES.out]
  go_upto_block 0 with fail
  go_cut [15, 16] (fun q r wx => q = .int .u64 Q1 ∧ w = wx)
  case first =>
    go_wp2_with fail
    go_loop [15, 16] (fun a b => ∃ q r : Int, Hid (KI U y1 y0 u1 q r) ∧ a = .int .u64 q ∧ b = .int .u64 r) (fun a _ => (intOf a).toNat)
    case atStart => exact ⟨q, r, II, rfl, rfl⟩
    case round =>
      clear II
      obtain ⟨q, r, II, rfl, rfl⟩ := hrel
      have i1 := II.out.1; have i2 := II.out.2.1
      have i4 : 0 ≤ q := Int.le_trans (kq_nonneg KK.out) II.out.2.2.2.1
      have i5 := II.out.2.2.2.2
      by_cases c1 : 4294967296 ≤ q
      · by_cases c2 : 4294967296 ≤ r + y1
        · go_wp2
          go_meet
          exact ⟨by rw [k_break KK.out II.out (Or.inl c1) c2, HQ1.out], rfl⟩
        · go_wp2
          go_round
          case rel => exact ⟨q - 1, r + y1, k_next KK.out II.out (Or.inl c1) (by omega), rfl, rfl⟩
          case measure => simp [intOf]; omega
      · obtain ⟨m, hm, em⟩ := k_prod q y0 i4 (by omega) b1 b2
        have EM := Lib.hid em; clear em
        by_cases c3 : 4294967296 * r + u1 < m
        · have c4 : 4294967296 ≤ q ∨ 4294967296 * r + u1 < q * y0 := Or.inr (by rw [EM.out]; exact c3)
          have C4 := Lib.hid c4; clear c4
          have q1 : 1 ≤ q := by
            have := k_yes KK.out II.out C4.out
            have := kq_nonneg KK.out
            omega
          by_cases c2 : 4294967296 ≤ r + y1
          · go_wp2
            go_meet
            exact ⟨by rw [k_break KK.out II.out C4.out c2, HQ1.out], rfl⟩
          · go_wp2
            go_round
            case rel => exact ⟨q - 1, r + y1, k_next KK.out II.out C4.out (by omega), rfl, rfl⟩
            case measure => simp [intOf]; omega
        · go_wp2
          go_meet
          exact ⟨by rw [k_no KK.out II.out (by rw [EM.out]; omega), HQ1.out], rfl⟩
  case rest =>
    obtain ⟨rfl, rfl⟩ := hcut
    clear II
    obtain ⟨R, hR, eR⟩ := k_left KK.out HQ1.out HYY.out
    have K2 : KH R y1 y0 u0 := by
      have b := kr_bd KK.out
      rw [eR] at b
      exact ⟨b.1, b.2, a1, a2, b1, b2, v0, v1⟩
    have ER := Lib.hid eR; clear eR
    have R0 := K2.u0
    obtain ⟨q2, r2, hq2, hr2, I2⟩ := k_begin K2
    have II := Lib.hid I2
    have KK2 := Lib.hid K2
    obtain ⟨Q0, hQ0⟩ : ∃ Q0, kq R y1 y0 u0 = Q0 := ⟨_, rfl⟩
    have HQ0 := Lib.hid hQ0
    obtain ⟨S, hS, eS⟩ := k_left KK2.out HQ0.out HYY.out
    have ES2 := Lib.hid eS; clear eS
    have S0 : 0 ≤ S := by rw [← ES2.out]; exact (kr_bd KK2.out).1
    have Q1a : 0 ≤ Q1 := by rw [← HQ1.out]; exact kq_nonneg KK.out
    have Q1b : Q1 < 4294967296 := by rw [← HQ1.out]; exact kq_lt KK.out
    have Q0a : 0 ≤ Q0 := by rw [← HQ0.out]; exact kq_nonneg KK2.out
    have Q0b : Q0 < 4294967296 := by rw [← HQ0.out]; exact kq_lt KK2.out
    have W := Lib.hid (k_whole y (hi * 18446744073709551616 + lo) (2 ^ s) U y1 y0 u0 u1 _ (Int.pow_pos (by decide)) HYs.out (by omega) rfl HN.out (by rw [ER.out]; exact KK2.out))
    clear K2 I2 hQ0
    go_upto_block 2 with fail
    go_cut [18, 16] (fun q r wx => q = .int .u64 Q0 ∧ w = wx)
    case first =>
      go_wp2_with fail
      go_loop [18, 16] (fun a b => ∃ q r : Int, Hid (KI R y1 y0 u0 q r) ∧ a = .int .u64 q ∧ b = .int .u64 r) (fun a _ => (intOf a).toNat)
      case atStart => exact ⟨q2, r2, II, rfl, rfl⟩
      case round =>
        clear II
        obtain ⟨q, r, II, rfl, rfl⟩ := hrel
        have i1 := II.out.1; have i2 := II.out.2.1
        have i4 : 0 ≤ q := Int.le_trans (kq_nonneg KK2.out) II.out.2.2.2.1
        have i5 := II.out.2.2.2.2
        by_cases c1 : 4294967296 ≤ q
        · by_cases c2 : 4294967296 ≤ r + y1
          · go_wp2
            go_meet
            exact ⟨by rw [k_break KK2.out II.out (Or.inl c1) c2, HQ0.out], rfl⟩
          · go_wp2
            go_round
            case rel => exact ⟨q - 1, r + y1, k_next KK2.out II.out (Or.inl c1) (by omega), rfl, rfl⟩
            case measure => simp [intOf]; omega
        · obtain ⟨m, hm, em⟩ := k_prod q y0 i4 (by omega) b1 b2
          have EM := Lib.hid em; clear em
          by_cases c3 : 4294967296 * r + u0 < m
          · have c4 : 4294967296 ≤ q ∨ 4294967296 * r + u0 < q * y0 := Or.inr (by rw [EM.out]; exact c3)
            have C4 := Lib.hid c4; clear c4
            have q1 : 1 ≤ q := by
              have := k_yes KK2.out II.out C4.out
              have := kq_nonneg KK2.out
              omega
            by_cases c2 : 4294967296 ≤ r + y1
            · go_wp2
              go_meet
              exact ⟨by rw [k_break KK2.out II.out C4.out c2, HQ0.out], rfl⟩
            · go_wp2
              go_round
              case rel => exact ⟨q - 1, r + y1, k_next KK2.out II.out C4.out (by omega), rfl, rfl⟩
              case measure => simp [intOf]; omega
          · go_wp2
            go_meet
            exact ⟨by rw [k_no KK2.out II.out (by rw [EM.out]; omega), HQ0.out], rfl⟩
    case rest =>
      obtain ⟨rfl, rfl⟩ := hcut
      go_wp2
      go_ret2
      refine ⟨ret_uu ?_ ?_, rfl⟩
      · rw [← W.out.1, ER.out, HQ1.out, HQ0.out]
      · rw [← W.out.2, ER.out, ES2.out]
end Go.Proofs.Yticjeknfnbligaa
