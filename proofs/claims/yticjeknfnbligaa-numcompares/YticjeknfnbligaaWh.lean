/- The walks of the laws over num. -/
import Derived.Test.YticjeknfnbligaaWg
namespace Go.Proofs.Yticjeknfnbligaa
open Go.ChangeShapes Go.WideShapes Go.ChangeAt Go.RowKit

theorem wf_i64 {a : Int} (h : (Lit.int .i64 a).wf = true) : I64 a := by
  have := bounds_i64 h; exact ⟨by omega, by omega⟩

theorem numClamps_walk (a0 a1 a2 : Int) (w : World) (_ : (Lit.int .i64 a0).wf = true) (_ : (Lit.int .i64 a1).wf = true) (_ : (Lit.int .i64 a2).wf = true) :
    Calls Try.prog 3 #[.int .i64 a0, .int .i64 a1, .int .i64 a2] w fun e w' => e = .returned (.bool true) ∧ Below w.heap.size w w' := by
  go_enter Try.func3, Try.ntmps3
  go_wp2_with fail
  refine (clamp_any _ _ _ _).mono ?_; rintro e w' ⟨rfl, rfl⟩
  go_wp2_with fail
  refine (clampr_any _ _ _ _).mono ?_; rintro e w' ⟨rfl, rfl⟩
  go_wp2_with fail
  refine (lives_any _).mono ?_; rintro e w1 ⟨rfl, b1⟩
  go_wp2_with fail
  go_ret
  exact ⟨rfl, b1⟩

theorem numDivides_walk (a b : Int) (w : World) (h0 : (Lit.int .i64 a).wf = true) (h1 : (Lit.int .i64 b).wf = true) :
    Calls Try.prog 4 #[.int .i64 a, .int .i64 b] w fun e w' => e = .returned (.bool true) ∧ Below w.heap.size w w' := by
  have ha := Lib.hid (wf_i64 h0); have hb := Lib.hid (wf_i64 h1)
  clear h0 h1
  by_cases h : b ≤ 0
  · go_enter Try.func4, Try.ntmps4
    go_wp2_with fail
    refine (floor_neg 14 a b h _ (by omega)).mono ?_; rintro e w' ⟨rfl, rfl⟩
    go_wp2_with fail
    refine (floor_neg 15 a b h _ (by omega)).mono ?_; rintro e w' ⟨rfl, rfl⟩
    go_wp2_with fail
    refine (floor_neg 16 a b h _ (by omega)).mono ?_; rintro e w' ⟨rfl, rfl⟩
    go_wp2_with fail
    refine (floor_neg 17 a b h _ (by omega)).mono ?_; rintro e w' ⟨rfl, rfl⟩
    go_wp2_with fail
    refine (lives_any _).mono ?_; rintro e w1 ⟨rfl, b1⟩
    go_wp2_with fail
    go_ret
    exact ⟨rfl, b1⟩
  · go_enter Try.func4, Try.ntmps4
    go_wp2_with fail
    refine (floor_any a b _ ha.out (by omega)).mono ?_; rintro e w' ⟨rfl, rfl⟩
    go_wp2_with fail
    refine (floorr_any a b _ ha.out (by omega)).mono ?_; rintro e w' ⟨rfl, rfl⟩
    go_wp2_with fail
    refine (round_any a b _ ha.out (by omega) hb.out).mono ?_; rintro e w' ⟨rfl, n, rfl⟩
    go_wp2_with fail
    refine (roundr_any a b _ ha.out (by omega) hb.out).mono ?_; rintro e w' ⟨rfl, rfl⟩
    go_wp2_with fail
    refine (lives_any _).mono ?_; rintro e w1 ⟨rfl, b1⟩
    go_wp2_with fail
    go_ret
    exact ⟨rfl, (below_drewN (Below.refl _ _) n).trans b1⟩

theorem numRoots_walk (n k : Int) (w : World) (h0 : (Lit.int .i64 n).wf = true) (_ : (Lit.int .i64 k).wf = true) :
    Calls Try.prog 5 #[.int .i64 n, .int .i64 k] w fun e w' => e = .returned (.bool true) ∧ Below w.heap.size w w' := by
  have hn := (wf_i64 h0).2
  by_cases hk : 0 ≤ k ∧ k ≤ 3037000499
  · obtain ⟨k1, k2⟩ := hk
    obtain ⟨s1, s2⟩ := sq_top k k1 k2
    go_enter Try.func5, Try.ntmps5
    go_wp2_with fail
    refine (sqrt_at (k * k) k _ s2 (root_of_sq k k1 k2)).mono ?_; rintro e w' ⟨rfl, rfl⟩
    go_wp2_with fail
    refine (sqrt_any n _ hn).mono ?_; rintro e w' ⟨r, hr, rfl, rfl⟩
    have HR := Lib.hid hr; clear hr
    go_wp2_with fail
    refine (sqrtr_any n _ hn).mono ?_; rintro e w' ⟨r', hr', rfl, rfl⟩
    obtain rfl := root_unique n r r' HR.out hr'
    clear hr'
    go_wp2_with fail
    refine (lives_any _).mono ?_; rintro e w1 ⟨rfl, b1⟩
    go_wp2_with fail
    go_ret
    exact ⟨rfl, b1⟩
  · by_cases k1 : 0 ≤ k
    · have k2 : ¬ k ≤ 3037000499 := by omega
      clear hk
      go_enter Try.func5, Try.ntmps5
      go_wp2_with fail
      refine (sqrt_any n _ hn).mono ?_; rintro e w' ⟨r, hr, rfl, rfl⟩
      have HR := Lib.hid hr; clear hr
      go_wp2_with fail
      refine (sqrtr_any n _ hn).mono ?_; rintro e w' ⟨r', hr', rfl, rfl⟩
      obtain rfl := root_unique n r r' HR.out hr'
      clear hr'
      go_wp2_with fail
      refine (lives_any _).mono ?_; rintro e w1 ⟨rfl, b1⟩
      go_wp2_with fail
      go_ret
      exact ⟨rfl, b1⟩
    · clear hk
      go_enter Try.func5, Try.ntmps5
      go_wp2_with fail
      refine (sqrt_any n _ hn).mono ?_; rintro e w' ⟨r, hr, rfl, rfl⟩
      have HR := Lib.hid hr; clear hr
      go_wp2_with fail
      refine (sqrtr_any n _ hn).mono ?_; rintro e w' ⟨r', hr', rfl, rfl⟩
      obtain rfl := root_unique n r r' HR.out hr'
      clear hr'
      go_wp2_with fail
      refine (lives_any _).mono ?_; rintro e w1 ⟨rfl, b1⟩
      go_wp2_with fail
      go_ret
      exact ⟨rfl, b1⟩

theorem numAdds_walk (a b : Int) (w : World) (h0 : (Lit.int .i64 a).wf = true) (h1 : (Lit.int .i64 b).wf = true) :
    Calls Try.prog 6 #[.int .i64 a, .int .i64 b] w fun e w' => e = .returned (.bool true) ∧ Below w.heap.size w w' := by
  have ha := Lib.hid (wf_i64 h0); have hb := Lib.hid (wf_i64 h1)
  clear h0 h1
  by_cases h : -9223372036854775808 ≤ a + b ∧ a + b ≤ 9223372036854775807
  · go_enter Try.func6, Try.ntmps6
    go_wp2_with fail
    refine (add_any a b _ ha.out hb.out).mono ?_; rintro e w' ⟨rfl, rfl⟩
    rw [if_pos h]
    go_wp2_with fail
    refine (addr_any a b _ ha.out hb.out).mono ?_; rintro e w' ⟨rfl, rfl⟩
    rw [if_pos h]
    go_wp2_with fail
    refine (lives_any _).mono ?_; rintro e w1 ⟨rfl, b1⟩
    go_wp2_with fail
    go_ret
    exact ⟨rfl, b1⟩
  · have HH := Lib.hid h; clear h
    go_enter Try.func6, Try.ntmps6
    go_wp2_with fail
    refine (add_any a b _ ha.out hb.out).mono ?_; rintro e w' ⟨rfl, rfl⟩
    rw [if_neg HH.out]
    go_wp2_with fail
    refine (addr_any a b _ ha.out hb.out).mono ?_; rintro e w' ⟨rfl, rfl⟩
    rw [if_neg HH.out]
    go_wp2_with fail
    refine (lives_any _).mono ?_; rintro e w1 ⟨rfl, b1⟩
    go_wp2_with fail
    go_ret
    exact ⟨rfl, b1⟩
end Go.Proofs.Yticjeknfnbligaa
