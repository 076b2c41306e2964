/- Writing integers and strings. -/
import Derived.Test.YtnjednndpphhlaaWa
namespace Go.Proofs.Ytnjednndpphhlaa
open Go.ChangeShapes Go.WideShapes Go.ChangeAt Go.RowKit Go.Maps Go.WideMaps

def zz (i : Int) : Nat := if i < 0 then (-(i + 1) * 2 + 1).toNat else (i * 2).toNat
theorem zz_neg {i : Int} (h : i < 0) : ((zz i : Nat) : Int) = -(i + 1) * 2 + 1 := by rw [zz, if_pos h]; omega
theorem zz_pos {i : Int} (h : 0 ≤ i) : ((zz i : Nat) : Int) = i * 2 := by rw [zz, if_neg (by omega)]; omega
theorem zz_lt {i : Int} (h0 : -9223372036854775808 ≤ i) (h1 : i ≤ 9223372036854775807) : zz i < 18446744073709551616 := by
  by_cases h : i < 0
  · have := zz_neg h; omega
  · have := zz_pos (i := i) (by omega); omega

theorem xor_all {i : Int} (h0 : -9223372036854775808 ≤ i) (h1 : i ≤ 9223372036854775807) : bits BinOp.xor IntKind.i64 (-1) i = -(i + 1) := by
  have e : BitVec.ofInt 64 (-1) = BitVec.allOnes 64 := by decide
  show IntKind.i64.wrap ↑(BitVec.ofInt 64 (-1) ^^^ BitVec.ofInt 64 i).toNat = _
  rw [e, BitVec.allOnes_xor, BitVec.toNat_not, BitVec.toNat_ofInt, IntKind.wrap_i64]
  omega
theorem or_one (x : Nat) (h : x < 9223372036854775808) : bits BinOp.or IntKind.u64 (((x * 2 : Nat)) : Int) 1 = ((x * 2 + 1 : Nat) : Int) := by
  show IntKind.u64.wrap ↑(BitVec.ofInt 64 ((x * 2 : Nat) : Int) ||| BitVec.ofInt 64 1).toNat = _
  have e1 : (BitVec.ofInt 64 ((x * 2 : Nat) : Int)).toNat = 2 ^ 1 * x := by rw [BitVec.toNat_ofInt]; omega
  have e2 : (BitVec.ofInt 64 1).toNat = 1 := by decide
  rw [BitVec.toNat_or, e1, e2, ← Nat.two_pow_add_eq_or_of_lt (by decide), IntKind.wrap_u64]
  omega
set_option maxRecDepth 100000 in
set_option maxHeartbeats 1000000 in
theorem rpint_any (b : ByteArray) (i : Int) (w : World) (hb : b.size ≤ 1000000) (h0 : -9223372036854775808 ≤ i) (h1 : i ≤ 9223372036854775807) :
    Calls Try.prog 11 #[.string b, .int .i64 i] w fun e w' => e = .returned (.string (put b (zz i))) ∧ Below w.heap.size w w' := by
  have C := Lib.hid (rput_any b (zz i) w hb (zz_lt h0 h1))
  by_cases h : i < 0
  · have Z := zz_neg h
    have w1 : IntKind.i64.wrap (i + 1) = i + 1 := by rw [IntKind.wrap_i64]; omega
    have w2 : IntKind.i64.wrap (-(i + 1)) = -(i + 1) := by rw [IntKind.wrap_i64]; omega
    have w3 : IntKind.u64.wrap (-(i + 1)) = -(i + 1) := by rw [IntKind.wrap_u64]; omega
    have w4 : IntKind.u64.wrap (-(i + 1) * 2) = -(i + 1) * 2 := by rw [IntKind.wrap_u64]; omega
    have w5 : IntKind.u64.wrap (-(i + 1) * 2 + 1) = zz i := by rw [IntKind.wrap_u64]; omega
    clear Z hb h0 h1
    go_enter Try.func11, Try.ntmps11
    go_wp2_with fail
    refine C.out.mono ?_; rintro e w1 ⟨rfl, b1⟩
    go_wp2_with fail
    go_ret
    exact ⟨rfl, b1⟩
  · have Z := (zz_pos (i := i) (by omega)).symm
    clear hb
    go_enter Try.func11, Try.ntmps11
    go_wp2_with fail
    refine C.out.mono ?_; rintro e w1 ⟨rfl, b1⟩
    go_wp2_with fail
    go_ret
    exact ⟨rfl, b1⟩
set_option maxRecDepth 100000 in
set_option maxHeartbeats 1000000 in
theorem pint_any (b : ByteArray) (i : Int) (w : World) (hb : b.size ≤ 1000000) (h0 : -9223372036854775808 ≤ i) (h1 : i ≤ 9223372036854775807) :
    Calls Try.prog 10 #[.string b, .int .i64 i] w fun e w' => e = .returned (.string (put b (zz i))) ∧ Below w.heap.size w w' := by
  have C := Lib.hid (put_any b (zz i) w hb (zz_lt h0 h1))
  by_cases h : i < 0
  · have Z := zz_neg h
    have X1 := xor_all h0 h1
    obtain ⟨x, hx⟩ : ∃ x : Nat, -(i + 1) = (x : Int) := ⟨(-(i + 1)).toNat, by omega⟩
    rw [hx] at X1
    have w3 : IntKind.u64.wrap (x : Int) = x := by rw [IntKind.wrap_u64]; omega
    have w4 : IntKind.u64.wrap ((x : Int) * 2) = ((x * 2 : Nat) : Int) := by rw [IntKind.wrap_u64]; omega
    have O1 := or_one x (by omega)
    have e : ((x * 2 + 1 : Nat) : Int) = (zz i : Nat) := by omega
    rw [e] at O1
    obtain ⟨X, hX⟩ : ∃ X, x * 2 = X := ⟨_, rfl⟩
    rw [hX] at w4 O1
    clear Z hb h0 h1 hx e hX
    go_enter Try.func10, Try.ntmps10
    go_wp2_with fail
    refine C.out.mono ?_; rintro e w1 ⟨rfl, b1⟩
    go_wp2_with fail
    go_ret
    exact ⟨rfl, b1⟩
  · have Z := (zz_pos (i := i) (by omega)).symm
    clear hb
    go_enter Try.func10, Try.ntmps10
    go_wp2_with fail
    refine C.out.mono ?_; rintro e w1 ⟨rfl, b1⟩
    go_wp2_with fail
    go_ret
    exact ⟨rfl, b1⟩
set_option maxRecDepth 100000 in
set_option maxHeartbeats 1000000 in
theorem ptext_any (b s : ByteArray) (w : World) (hb : b.size ≤ 100000) (hs : s.size ≤ 100000) :
    Calls Try.prog 12 #[.string b, .string s] w fun e w' => e = .returned (.string (put b s.size ++ s)) ∧ Below w.heap.size w w' := by
  have C := Lib.hid (put_any b s.size w (by omega) (by omega))
  have w1 : IntKind.u64.wrap (s.size : Int) = s.size := by rw [IntKind.wrap_u64]; omega
  have SZ : ¬ 9223372036854775807 < (put b s.size).size + s.size := by have := (put_size (b := b) (n := s.size) (by omega)).2; omega
  clear hb hs
  go_enter Try.func12, Try.ntmps12
  go_wp2_with fail
  refine C.out.mono ?_; rintro e w1 ⟨rfl, b1⟩
  go_wp2_with fail
  go_ret
  exact ⟨rfl, b1⟩
set_option maxRecDepth 100000 in
set_option maxHeartbeats 1000000 in
theorem rptext_any (b s : ByteArray) (w : World) (hb : b.size ≤ 100000) (hs : s.size ≤ 100000) :
    Calls Try.prog 13 #[.string b, .string s] w fun e w' => e = .returned (.string (put b s.size ++ s)) ∧ Below w.heap.size w w' := by
  have C := Lib.hid (rput_any b s.size w (by omega) (by omega))
  have w1 : IntKind.u64.wrap (s.size : Int) = s.size := by rw [IntKind.wrap_u64]; omega
  have SZ : ¬ 9223372036854775807 < (put b s.size).size + s.size := by have := (put_size (b := b) (n := s.size) (by omega)).2; omega
  clear hb hs
  go_enter Try.func13, Try.ntmps13
  go_wp2_with fail
  refine C.out.mono ?_; rintro e w1 ⟨rfl, b1⟩
  go_wp2_with fail
  go_ret
  exact ⟨rfl, b1⟩
end Go.Proofs.Ytnjednndpphhlaa
