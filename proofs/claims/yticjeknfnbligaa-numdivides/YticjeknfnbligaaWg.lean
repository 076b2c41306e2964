/- Contract: the chapter's examples hold ('lives' returns true). -/
import Derived.Test.YticjeknfnbligaaWf
namespace Go.Proofs.Yticjeknfnbligaa
open Go.ChangeShapes Go.WideShapes Go.ChangeAt Go.RowKit

theorem i64_of (a : Int) (h1 : -9223372036854775808 ≤ a) (h2 : a ≤ 9223372036854775807) : I64 a := ⟨h1, h2⟩
theorem muldiv_at (a b c v : Int) (w : World) (ha : I64 a) (hb : I64 b) (hc : 0 < c) (hc2 : c ≤ 9223372036854775807) (hv : a * b / c = v) (h1 : -9223372036854775808 ≤ v) (h2 : v ≤ 9223372036854775807) :
    Calls Try.prog 22 #[.int .i64 a, .int .i64 b, .int .i64 c] w fun e w' => e = .returned (.tuple #[.int .i64 v, .bool true]) ∧ Below w.heap.size w w' := by
  refine (muldiv_any a b c w ha hb hc hc2).mono ?_
  rintro e w' ⟨v', o, hm, rfl, hb⟩
  obtain ⟨rfl, rfl⟩ := mdv_unique hm (mdv_yes hv h1 h2)
  exact ⟨rfl, hb⟩
theorem sqrt_at (n r : Int) (w : World) (hn : n ≤ 9223372036854775807) (hr : IsRoot n r) : Calls Try.prog 18 #[.int .i64 n] w fun e w' => e = .returned (.int .i64 r) ∧ w = w' := by
  refine (sqrt_any n w hn).mono ?_
  rintro e w' ⟨r', h, rfl, rfl⟩
  obtain rfl := root_unique n r' r h hr
  exact ⟨rfl, rfl⟩
theorem cmpmul_at (a b c d v : Int) (w : World) (ha : I64 a) (hb : I64 b) (hc : I64 c) (hd : I64 d) (hv : cmpZ a b c d = v) :
    Calls Try.prog 24 #[.int .i64 a, .int .i64 b, .int .i64 c, .int .i64 d] w fun e w' => e = .returned (.int .i64 v) ∧ Below w.heap.size w w' := hv ▸ cmpmul_any a b c d w ha hb hc hd
theorem round_at (a b v : Int) (w : World) (ha : I64 a) (hb : 0 < b) (hb2 : I64 b) (hv : roundZ a b = v) :
    Calls Try.prog 16 #[.int .i64 a, .int .i64 b] w fun e w' => e = .returned (.int .i64 v) ∧ ∃ n, w' = w.drewN n := hv ▸ round_any a b w ha hb hb2
theorem floor_at (a b v : Int) (w : World) (ha : I64 a) (hb : 0 < b) (hv : a / b = v) :
    Calls Try.prog 14 #[.int .i64 a, .int .i64 b] w fun e w' => e = .returned (.int .i64 v) ∧ w = w' := hv ▸ floor_any a b w ha hb
theorem clamp_at (x lo hi v : Int) (w : World) (hv : clampZ x lo hi = v) :
    Calls Try.prog 11 #[.int .i64 x, .int .i64 lo, .int .i64 hi] w fun e w' => e = .returned (.int .i64 v) ∧ w = w' := hv ▸ clamp_any x lo hi w
theorem add_at (a b : Int) (w : World) (ha : I64 a) (hb : I64 b) (h1 : -9223372036854775808 ≤ a + b) (h2 : a + b ≤ 9223372036854775807) :
    Calls Try.prog 20 #[.int .i64 a, .int .i64 b] w fun e w' => e = .returned (.tuple #[.int .i64 (a + b), .bool true]) ∧ w = w' := by
  refine (add_any a b w ha hb).mono ?_
  rintro e w' ⟨rfl, rfl⟩
  rw [if_pos ⟨h1, h2⟩]; exact ⟨rfl, rfl⟩

set_option maxRecDepth 100000 in
set_option maxHeartbeats 1000000 in
theorem lives_any (w : World) : Calls Try.prog 13 #[] w fun e w' => e = .returned (.bool true) ∧ Below w.heap.size w w' := by
  go_enter Try.func13, Try.ntmps13
  go_wp2_with fail
  refine (muldiv_at (-7) 3 2 (-11) _ (i64_of _ (by omega) (by omega)) (i64_of _ (by omega) (by omega)) (by omega) (by omega) (by decide) (by omega) (by omega)).mono ?_; rintro e w1 ⟨rfl, b1⟩
  go_wp2_with fail
  refine (muldiv_at 4611686018427387904 4 8 2305843009213693952 _ (i64_of _ (by omega) (by omega)) (i64_of _ (by omega) (by omega)) (by omega) (by omega) (by decide) (by omega) (by omega)).mono ?_; rintro e w2 ⟨rfl, b2⟩
  go_wp2_with fail
  refine (add_at 2 3 _ (i64_of _ (by omega) (by omega)) (i64_of _ (by omega) (by omega)) (by omega) (by omega)).mono ?_; rintro e w' ⟨rfl, rfl⟩
  go_wp2_with fail
  refine (floor_at (-7) 2 (-4) _ (i64_of _ (by omega) (by omega)) (by omega) (by decide)).mono ?_; rintro e w' ⟨rfl, rfl⟩
  go_wp2_with fail
  refine (round_at (-7) 2 (-3) _ (i64_of _ (by omega) (by omega)) (by omega) (i64_of _ (by omega) (by omega)) (by decide)).mono ?_; rintro e w' ⟨rfl, n1, rfl⟩
  go_wp2_with fail
  refine (round_at 7 2 4 _ (i64_of _ (by omega) (by omega)) (by omega) (i64_of _ (by omega) (by omega)) (by decide)).mono ?_; rintro e w' ⟨rfl, n2, rfl⟩
  go_wp2_with fail
  refine (sqrt_at 24 4 _ (by omega) ⟨by omega, by omega, fun _ => by omega, fun _ => by omega⟩).mono ?_; rintro e w' ⟨rfl, rfl⟩
  go_wp2_with fail
  refine (clamp_at 5 0 3 3 _ (by decide)).mono ?_; rintro e w' ⟨rfl, rfl⟩
  go_wp2_with fail
  refine (clamp_at 5 7 3 7 _ (by decide)).mono ?_; rintro e w' ⟨rfl, rfl⟩
  go_wp2_with fail
  refine (cmpmul_at 2 3 1 7 (-1) _ (i64_of _ (by omega) (by omega)) (i64_of _ (by omega) (by omega)) (i64_of _ (by omega) (by omega)) (i64_of _ (by omega) (by omega)) (by decide)).mono ?_; rintro e w3 ⟨rfl, b3⟩
  go_wp2_with fail
  go_ret
  refine ⟨rfl, ?_⟩
  have b2' := b2.mono b1.size
  have c := below_drewN (b1.trans b2') (n1 + n2)
  exact c.trans (b3.mono c.size)
end Go.Proofs.Yticjeknfnbligaa
