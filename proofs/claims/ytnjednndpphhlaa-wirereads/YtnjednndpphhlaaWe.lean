/- parseUint, for every string. -/
import Derived.Test.YtnjednndpphhlaaWd
namespace Go.Proofs.Ytnjednndpphhlaa
open Go.ChangeShapes Go.WideShapes Go.ChangeAt Go.RowKit Go.Maps Go.WideMaps

/- the i-th byte as a number (0 behind the end) -/
def byt (s : ByteArray) (i : Nat) : Nat := if h : i < s.size then s[i].toNat else 0
theorem byt_at {s : ByteArray} {i : Nat} (h : i < s.size) : s[i].toNat = byt s i := by rw [byt, dif_pos h]
theorem byt_lt (s : ByteArray) (i : Nat) : byt s i < 256 := by
  unfold byt; split
  · exact UInt8.toNat_lt _
  · decide
/- the sum of the first i bytes' low seven bits -/
def val (s : ByteArray) : Nat → Nat
  | 0 => 0
  | i + 1 => val s i + byt s i % 128 * 128 ^ i
theorem val_lt (s : ByteArray) (i : Nat) : val s i < 128 ^ i := by
  induction i with
  | zero => exact Nat.one_pos
  | succ i ih =>
    have h1 : byt s i % 128 * 128 ^ i ≤ 127 * 128 ^ i := Nat.mul_le_mul_right _ (by omega)
    have h2 : 128 ^ (i + 1) = 128 * 128 ^ i := by rw [Nat.pow_succ, Nat.mul_comm]
    rw [val, h2]; omega
/- the first i bytes say that more follow -/
def More (s : ByteArray) (i : Nat) : Prop := ∀ j, j < i → 128 ≤ byt s j
/- what a parse finds -/
inductive Parse (s : ByteArray) : Nat → Nat → Int → Prop
  | ends (h : More s s.size) (hl : s.size < 10) : Parse s 0 0 3
  | long (h : More s 10) (hl : 10 ≤ s.size) : Parse s 0 0 4
  | bad (k : Nat) (h : More s k) (hk : k < s.size) (h9 : k < 10) (hc : byt s k < 128) (hb : (0 < k ∧ byt s k = 0) ∨ (k = 9 ∧ 1 < byt s k)) : Parse s 0 0 4
  | good (k : Nat) (h : More s k) (hk : k < s.size) (h9 : k < 10) (hc : byt s k < 128) (hb : ¬ (0 < k ∧ byt s k = 0)) (hb' : ¬ (k = 9 ∧ 1 < byt s k)) : Parse s (val s (k + 1)) (k + 1) 0

def Parsed (s : ByteArray) (w : World) (e : Ending) (w' : World) : Prop := ∃ (n k : Nat) (c : Int), Parse s n k c ∧ e = .returned (.tuple #[.int .u64 n, .int .i64 k, .int .i64 c]) ∧ w = w'
theorem pow_le8 {i x : Nat} (hi : i ≤ 8) (hx : x < 128) : (x + 1) * 128 ^ i ≤ 18446744073709551616 := by
  have h1 : 128 ^ i ≤ 128 ^ 8 := Nat.pow_le_pow_right (by decide) hi
  have h2 := Nat.mul_le_mul (show x + 1 ≤ 128 by omega) h1
  omega
theorem or_add (n x i : Nat) (hn : n < 128 ^ i) (h : (x + 1) * 128 ^ i ≤ 18446744073709551616) : bits BinOp.or IntKind.u64 (n : Int) ((x * 128 ^ i : Nat) : Int) = ((n + x * 128 ^ i : Nat) : Int) := by
  have hp : 128 ^ i = 2 ^ (7 * i) := by rw [Nat.pow_mul]
  show IntKind.u64.wrap ↑(BitVec.ofInt 64 (n : Int) ||| BitVec.ofInt 64 ((x * 128 ^ i : Nat) : Int)).toNat = _
  have e3 : n ||| x * 128 ^ i = n + x * 128 ^ i := by
    rw [Nat.or_comm, hp, Nat.mul_comm, ← Nat.two_pow_add_eq_or_of_lt (by rw [← hp]; exact hn), Nat.add_comm]
  rw [Nat.add_mul, Nat.one_mul] at h
  generalize x * 128 ^ i = y at *
  generalize 128 ^ i = z at *
  have e1 : (BitVec.ofInt 64 (n : Int)).toNat = n := by rw [BitVec.toNat_ofInt]; omega
  have e2 : (BitVec.ofInt 64 (y : Int)).toNat = y := by rw [BitVec.toNat_ofInt]; omega
  rw [BitVec.toNat_or, e1, e2, e3, IntKind.wrap_u64]
  omega
theorem pow_cast (i : Nat) : ((128 ^ i : Nat) : Int) = 2 ^ (7 * i) := by
  have hp : 128 ^ i = 2 ^ (7 * i) := by rw [Nat.pow_mul]
  rw [hp]; simp
theorem shl_cast (x i : Nat) (h : (x + 1) * 128 ^ i ≤ 18446744073709551616) : IntKind.u64.wrap ((x : Int) * 2 ^ (7 * i)) = ((x * 128 ^ i : Nat) : Int) := by
  have e : (x : Int) * 2 ^ (7 * i) = ((x * 128 ^ i : Nat) : Int) := by rw [← pow_cast]; simp
  rw [Nat.add_mul, Nat.one_mul] at h
  have hz : 0 < 128 ^ i := Nat.pow_pos (by decide)
  rw [e, IntKind.wrap_u64]
  omega
theorem or_nat (x y : Int) : ∃ n : Nat, bits BinOp.or IntKind.u64 x y = n := by
  refine ⟨(bits BinOp.or IntKind.u64 x y).toNat, ?_⟩
  have : 0 ≤ bits BinOp.or IntKind.u64 x y := by unfold bits; simp only; rw [IntKind.wrap_u64]; omega
  omega
theorem or_ex (n c i : Nat) (hc : 128 ≤ c) (hc2 : c < 256) : ∃ n' : Nat, bits BinOp.or IntKind.u64 (n : Int) (IntKind.u64.wrap (((c : Int) - 128) * 2 ^ (7 * i))) = n' ∧ (i ≤ 8 → n < 128 ^ i → n' = n + c % 128 * 128 ^ i) := by
  obtain ⟨n', h⟩ := or_nat (n : Int) (IntKind.u64.wrap (((c : Int) - 128) * 2 ^ (7 * i)))
  refine ⟨n', h, fun h8 hn => ?_⟩
  have hm : c % 128 = c - 128 := by omega
  have e : (c : Int) - 128 = ((c % 128 : Nat) : Int) := by omega
  rw [e, shl_cast _ _ (pow_le8 h8 (by omega)), or_add _ _ _ hn (pow_le8 h8 (by omega))] at h
  omega
theorem More.succ {s : ByteArray} {i : Nat} (h : More s i) (hi : 128 ≤ byt s i) : More s (i + 1) := fun j hj => by
  by_cases e : j = i
  · subst e; exact hi
  · exact h j (by omega)
set_option maxRecDepth 100000 in
set_option maxHeartbeats 1000000 in
theorem parse_any (s : ByteArray) (w : World) (hs : s.size ≤ 1000000) : Calls Try.prog 33 #[.string s] w (Parsed s w) := by
  obtain ⟨L, hL⟩ : ∃ L, s.size = L := ⟨_, rfl⟩
  have HL := Lib.hid hL
  rw [hL] at hs
  by_cases hh : 10 < (L : Int)
  all_goals
    go_enter Try.func33, Try.ntmps33
    go_wp2_with fail
    go_loopw [2, 10] (fun s2 s10 wr => ∃ (i n : Nat), i ≤ L ∧ i ≤ 10 ∧ s10 = .int .i64 i ∧ s2 = .int .u64 n ∧ Hid (More s i) ∧ Hid (i ≤ 9 → n = val s i) ∧ Hid (w = wr)) (fun _ s10 _ => 10 - (intOf s10).toNat)
    case atStart => exact ⟨0, 0, by omega, by omega, rfl, rfl, fun j h => absurd h (Nat.not_lt_zero j), fun _ => rfl, rfl⟩
    case round =>
      obtain ⟨i, n, hi, hi10, rfl, rfl, MO, VA, HW⟩ := hrel
      by_cases hlt : i < L ∧ i < 10
      · obtain ⟨hl1, hl2⟩ := hlt
        have hi' : i < s.size := by omega
        have hb := byt_at hi'
        obtain ⟨c, hc⟩ : ∃ c, byt s i = c := ⟨_, rfl⟩
        rw [hc] at hb
        have hc2 : c < 256 := by rw [← hc]; exact byt_lt s i
        have HC := Lib.hid hc
        clear hc
        by_cases h128 : 128 ≤ c
        · obtain ⟨n', hor, hval⟩ := or_ex n c i h128 hc2
          have MO2 : Hid (More s (i + 1)) := MO.out.succ (by rw [HC.out]; exact h128)
          have VA2 : Hid (i + 1 ≤ 9 → n' = val s (i + 1)) := fun h9 => by
            have e := VA.out (by omega)
            have := hval (by omega) (by rw [e]; exact val_lt s i)
            rw [this, val, HC.out, e]
          clear hval
          go_wp2_with fail
          go_roundw
          case rel => exact ⟨i + 1, n', by omega, by omega, by go_num, rfl, MO2, VA2, HW⟩
          case measure => simp [intOf]; omega
        · have hcm : c % 128 = c := Nat.mod_eq_of_lt (by omega)
          have hv : val s (i + 1) = n + c * 128 ^ i := by rw [val, HC.out, hcm, VA.out (by omega)]
          have hnl : n < 128 ^ i := by rw [VA.out (by omega)]; exact val_lt s i
          have HV := Lib.hid hv; have HCM := Lib.hid hcm
          by_cases hc0 : c = 0
          · subst hc0
            by_cases hi0 : i = 0
            · subst hi0
              have O := or_add n 0 0 hnl (by decide)
              rw [← hv] at O
              simp only [Nat.zero_mul] at O
              have V0 : (0 : Int) = ((0 : Nat) : Int) := rfl
              rw [← V0] at O
              obtain ⟨V, hV⟩ : ∃ V, val s (0 + 1) = V := ⟨_, rfl⟩
              rw [hV] at O
              have HVV := Lib.hid hV
              clear hv hcm hnl hV V0
              go_wp2_with fail
              go_ret3
              exact ⟨V, 1, 0, by rw [← HVV.out]; exact .good 0 MO.out (by omega) (by omega) (by rw [HC.out]; decide) (by omega) (by omega), rfl, HW.out⟩
            · have hp : 0 < i := by omega
              clear hv hcm hnl
              go_wp2_with fail
              go_ret3
              exact ⟨0, 0, 4, .bad i MO.out (by omega) hl2 (by rw [HC.out]; decide) (Or.inl ⟨hp, HC.out⟩), rfl, HW.out⟩
          · have bc : ((c : Int) == 0) = false := by simp; omega
            by_cases hi9 : i = 9
            · subst hi9
              by_cases hc1 : 1 < c
              · clear hv hcm hnl
                go_wp2_with fail
                go_ret3
                exact ⟨0, 0, 4, .bad 9 MO.out (by omega) hl2 (by rw [HC.out]; omega) (Or.inr ⟨rfl, by rw [HC.out]; exact hc1⟩), rfl, HW.out⟩
              · obtain rfl : c = 1 := by omega
                have O := or_add n 1 9 hnl (by decide)
                rw [← hv] at O
                have V9 : ((1 * 128 ^ 9 : Nat) : Int) = 9223372036854775808 := by decide
                rw [V9] at O
                obtain ⟨V, hV⟩ : ∃ V, val s (9 + 1) = V := ⟨_, rfl⟩
                rw [hV] at O
                have HVV := Lib.hid hV
                clear hv hcm hnl hV V9
                go_wp2_with fail
                go_ret3
                exact ⟨V, 10, 0, by rw [← HVV.out]; exact .good 9 MO.out (by omega) (by omega) (by rw [HC.out]; decide) (by rw [HC.out]; omega) (by rw [HC.out]; omega), rfl, HW.out⟩
            · have b9 : ((i : Int) == 9) = false := by simp; omega
              by_cases hi0 : i = 0
              · subst hi0
                have O := or_add n c 0 hnl (by omega)
                rw [← hv] at O
                simp only [Nat.pow_zero, Nat.mul_one] at O
                obtain ⟨V, hV⟩ : ∃ V, val s (0 + 1) = V := ⟨_, rfl⟩
                rw [hV] at O
                have HVV := Lib.hid hV
                clear hv hcm hnl hV
                go_wp2_with fail
                go_ret3
                exact ⟨V, 1, 0, by rw [← HVV.out]; exact .good 0 MO.out (by omega) (by omega) (by rw [HC.out]; omega) (by omega) (by omega), rfl, HW.out⟩
              · have hp : 0 < i := by omega
                have h8 := pow_le8 (i := i) (x := c) (by omega) (by omega)
                have O := or_add n c i hnl h8
                have S := shl_cast c i h8
                rw [← hv] at O
                obtain ⟨X, hX⟩ : ∃ X, c * 128 ^ i = X := ⟨_, rfl⟩
                rw [hX] at O S
                obtain ⟨V, hV⟩ : ∃ V, val s (i + 1) = V := ⟨_, rfl⟩
                rw [hV] at O
                have HVV := Lib.hid hV
                clear hv hcm hnl hV hX h8
                go_wp2_with fail
                go_ret3
                exact ⟨V, i + 1, 0, by rw [← HVV.out]; exact .good i MO.out (by omega) (by omega) (by rw [HC.out]; omega) (by rw [HC.out]; omega) (by omega), rfl, HW.out⟩
      · rcases Nat.lt_or_ge L 10 with h10 | h10
        · first
          | (exfalso; omega)
          | (go_wp2
             go_ret3
             have e : i = L := by omega
             subst e
             exact ⟨0, 0, 3, .ends (by rw [HL.out]; exact MO.out) (by omega), rfl, HW.out⟩)
        · go_wp2
          go_ret3
          have e : i = 10 := by omega
          subst e
          exact ⟨0, 0, 4, .long MO.out (by omega), rfl, HW.out⟩
end Go.Proofs.Ytnjednndpphhlaa
