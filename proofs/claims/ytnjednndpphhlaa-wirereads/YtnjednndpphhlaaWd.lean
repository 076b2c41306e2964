/- The walk of WirePuts. -/
import Derived.Test.YtnjednndpphhlaaWc
namespace Go.Proofs.Ytnjednndpphhlaa
open Go.ChangeShapes Go.WideShapes Go.ChangeAt Go.RowKit Go.Maps Go.WideMaps

theorem put300 : put ⟨#[]⟩ 300 = ⟨#[172, 2]⟩ := by rw [put_big (by decide), put_small (by decide)]; rfl
theorem zz3 : zz (-3) = 5 := by decide
theorem put5 : put ⟨#[]⟩ 5 = ⟨#[5]⟩ := by rw [put_small (by decide)]; rfl
theorem puta : put ⟨#[97]⟩ 2 ++ ⟨#[98, 99]⟩ = ⟨#[97, 2, 98, 99]⟩ := by rw [put_small (by decide)]; rfl
theorem liv1 (w : World) : Calls Try.prog 8 #[.string ⟨#[]⟩, .int .u64 300] w fun e w' => e = .returned (.string ⟨#[172, 2]⟩) ∧ Below w.heap.size w w' := by
  have := put_any ⟨#[]⟩ 300 w (by decide) (by decide)
  rw [put300] at this; exact this
theorem liv2 (w : World) : Calls Try.prog 10 #[.string ⟨#[]⟩, .int .i64 (-3)] w fun e w' => e = .returned (.string ⟨#[5]⟩) ∧ Below w.heap.size w w' := by
  have := pint_any ⟨#[]⟩ (-3) w (by decide) (by decide) (by decide)
  rw [zz3, put5] at this; exact this
theorem liv3 (w : World) : Calls Try.prog 12 #[.string ⟨#[97]⟩, .string ⟨#[98, 99]⟩] w fun e w' => e = .returned (.string ⟨#[97, 2, 98, 99]⟩) ∧ Below w.heap.size w w' := by
  have := ptext_any ⟨#[97]⟩ ⟨#[98, 99]⟩ w (by decide) (by decide)
  have e : (⟨#[98, 99]⟩ : ByteArray).size = 2 := rfl
  rw [e, puta] at this; exact this
theorem read80 (w : World) : Calls Try.prog 14 #[.string ⟨#[128]⟩] w fun e w' => e = .returned (.pointer (some ⟨w.heap.size, 0, none⟩)) ∧ RdAt w' w.heap.size s80 0 ∧ Below w.heap.size w w' := read_any s80 w
set_option maxRecDepth 100000 in
set_option maxHeartbeats 2000000 in
theorem lives_any (w : World) : Calls Try.prog 7 #[] w fun e w' => e = .returned (.bool true) ∧ Below w.heap.size w w' := by
  obtain ⟨rb, hrb⟩ : ∃ rb, w.heap.size = rb := ⟨_, rfl⟩
  have HRB := Lib.hid hrb
  clear hrb
  go_enter Try.func7, Try.ntmps7
  go_wp2_with fail
  refine (read80 _).mono ?_; rintro e w1 ⟨rfl, r1, b1⟩
  rw [HRB.out] at r1 b1 ⊢
  have R1 := Lib.hid r1; have B1 := Lib.hid b1; clear r1 b1
  go_wp2_with fail
  refine (liv1 _).mono ?_; rintro e w2 ⟨rfl, b⟩
  have R2 := Lib.hid (R1.out.below b R1.out.lt); have B2 := Lib.hid (B1.out.trans (b.mono (Nat.le_of_lt R1.out.lt))); clear b R1 B1
  go_wp2_with fail
  refine (liv2 _).mono ?_; rintro e w3 ⟨rfl, b⟩
  have R3 := Lib.hid (R2.out.below b R2.out.lt); have B3 := Lib.hid (B2.out.trans (b.mono (Nat.le_of_lt R2.out.lt))); clear b R2 B2
  go_wp2_with fail
  refine (liv3 _).mono ?_; rintro e w4 ⟨rfl, b⟩
  have R4 := Lib.hid (R3.out.below b R3.out.lt); have B4 := Lib.hid (B3.out.trans (b.mono (Nat.le_of_lt R3.out.lt))); clear b R3 B3
  go_wp2_with fail
  refine (uint_80 R4.out).mono ?_; rintro e w5 ⟨rfl, r5, b⟩
  have R5 := Lib.hid r5; have B5 := Lib.hid (B4.out.trans b); clear b r5 R4 B4
  go_wp2_with fail
  refine (err_any R5.out).mono ?_; rintro e w' ⟨rfl, rfl⟩
  go_wp2_with fail
  refine (left_any R5.out).mono ?_; rintro e w' ⟨rfl, rfl⟩
  have z := s80_size
  go_wp2_with fail
  refine (err_nil _).mono ?_; rintro e w' ⟨rfl, rfl⟩
  go_wp2_with fail
  refine (done_nil _).mono ?_; rintro e w' ⟨rfl, rfl⟩
  go_wp2_with fail
  refine (text_nil _ _).mono ?_; rintro e w6 ⟨rfl, b⟩
  have B6 := Lib.hid (B5.out.trans (b.mono (Nat.le_of_lt R5.out.lt))); clear b R5 B5
  have hsz := Lib.hid B6.out.size
  go_wp2_with fail
  refine (int_nil _).mono ?_; rintro e w7 ⟨rfl, b⟩
  have B7 := Lib.hid (B6.out.trans (b.mono (by have := hsz.out; have := HRB.out; omega))); clear b
  go_wp2_with fail
  go_ret
  refine ⟨rfl, ?_⟩
  rw [HRB.out]; exact B7.out
theorem i64_wf {a : Int} (h : (Lit.int .i64 a).wf = true) : -9223372036854775808 ≤ a ∧ a ≤ 9223372036854775807 := by
  have := bounds_i64 h; exact ⟨by omega, by omega⟩
theorem u64_wf {a : Int} (h : (Lit.int .u64 a).wf = true) : 0 ≤ a ∧ a < 18446744073709551616 := by
  have := bounds_u64 h; exact ⟨by omega, by omega⟩
set_option maxRecDepth 100000 in
set_option maxHeartbeats 2000000 in
theorem wirePuts_walk (b : ByteArray) (n i : Int) (s : ByteArray) (w : World) (hb : b.size ≤ maxLen) (hn : (Lit.int .u64 n).wf = true) (hi : (Lit.int .i64 i).wf = true) (hs : s.size ≤ maxLen) :
    Calls Try.prog 3 #[.string b, .int .u64 n, .int .i64 i, .string s] w fun e w' => e = .returned (.bool true) ∧ Below w.heap.size w w' := by
  obtain ⟨n0, n1⟩ := u64_wf hn
  obtain ⟨i0, i1⟩ := i64_wf hi
  obtain ⟨n, rfl⟩ : ∃ m : Nat, n = m := ⟨n.toNat, by omega⟩
  have HN : Hid (n < 18446744073709551616) := by show n < _; omega
  have HI0 := Lib.hid i0; have HI1 := Lib.hid i1
  unfold maxLen at hb hs
  clear n0 n1 i0 i1 hn hi
  by_cases h1 : 2000 < b.size
  · go_enter Try.func3, Try.ntmps3
    go_wp2_with fail
    refine (lives_any _).mono ?_; rintro e w1 ⟨rfl, b⟩
    go_wp2_with fail
    go_ret
    exact ⟨rfl, b⟩
  · by_cases h2 : 2000 < s.size
    · go_enter Try.func3, Try.ntmps3
      go_wp2_with fail
      refine (lives_any _).mono ?_; rintro e w1 ⟨rfl, b⟩
      go_wp2_with fail
      go_ret
      exact ⟨rfl, b⟩
    · have q1 : ((put b n).toList == (put b n).toList) = true := by simp
      have q2 : ((put b (zz i)).toList == (put b (zz i)).toList) = true := by simp
      have q3 : ((put b s.size ++ s).toList == (put b s.size ++ s).toList) = true := by simp
      have M1 : Hid (b.size ≤ 100000) := by show _ ≤ _; omega
      have M2 : Hid (s.size ≤ 100000) := by show _ ≤ _; omega
      have M3 : Hid (b.size ≤ 1000000) := by show _ ≤ _; omega
      go_enter Try.func3, Try.ntmps3
      go_wp2_with fail
      refine (put_any b n _ M3.out HN.out).mono ?_; rintro e w1 ⟨rfl, b1⟩
      have B1 := Lib.hid b1; clear b1
      go_wp2_with fail
      refine (rput_any b n _ M3.out HN.out).mono ?_; rintro e w2 ⟨rfl, b1⟩
      have B2 := Lib.hid (B1.out.trans (b1.mono B1.out.size)); clear b1 B1
      go_wp2_with fail
      refine (pint_any b i _ M3.out HI0.out HI1.out).mono ?_; rintro e w3 ⟨rfl, b1⟩
      have B3 := Lib.hid (B2.out.trans (b1.mono B2.out.size)); clear b1 B2
      go_wp2_with fail
      refine (rpint_any b i _ M3.out HI0.out HI1.out).mono ?_; rintro e w4 ⟨rfl, b1⟩
      have B4 := Lib.hid (B3.out.trans (b1.mono B3.out.size)); clear b1 B3
      go_wp2_with fail
      refine (ptext_any b s _ M1.out M2.out).mono ?_; rintro e w5 ⟨rfl, b1⟩
      have B5 := Lib.hid (B4.out.trans (b1.mono B4.out.size)); clear b1 B4
      go_wp2_with fail
      refine (rptext_any b s _ M1.out M2.out).mono ?_; rintro e w6 ⟨rfl, b1⟩
      have B6 := Lib.hid (B5.out.trans (b1.mono B5.out.size)); clear b1 B5
      go_wp2_with fail
      refine (lives_any _).mono ?_; rintro e w7 ⟨rfl, b1⟩
      have B7 := Lib.hid (B6.out.trans (b1.mono B6.out.size)); clear b1 B6
      go_wp2_with fail
      go_ret
      exact ⟨rfl, B7.out⟩
end Go.Proofs.Ytnjednndpphhlaa
