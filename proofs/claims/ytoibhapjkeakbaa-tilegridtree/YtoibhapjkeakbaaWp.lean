/- Tiles: the walks of TilegridCovers and TilegridKin. -/
import Derived.Test.YtoibhapjkeakbaaWo
namespace Go.Proofs.Ytoibhapjkeakbaa
open Go.ChangeShapes Go.WideShapes Go.ChangeAt Go.RowKit Go.Joins Go.Deep

theorem same_b {w : World} {va vb : Value} {l : List Tl} (h1 : TsAt w va l) (h2 : TsAt w vb l) (hl : l.length ≤ 20000) :
    Calls Try.prog 22 #[va, vb] w fun e w' => e = .returned (.bool true) ∧ Below w.heap.size w w' :=
  (same_any h1 h2 hl).mono fun _ _ ⟨he, q, hq⟩ => ⟨he, hq ▸ below_drewN (Below.refl _ _) q⟩
theorem cov_len (a b c d z : Int) : (covT a b c d z).length ≤ 20000 := by
  by_cases h : goodB a b c d = true ∧ 0 ≤ z ∧ z ≤ 7
  · rw [covT_yes h, btw_len]
    obtain ⟨hg, z0, z1⟩ := h
    obtain ⟨g0, g1, g2, g3, g4, g5⟩ := goodB_iff.1 hg
    obtain ⟨c0, c1⟩ := cnt_bd z0 z1
    obtain ⟨_, _, e3, _⟩ := siz_in z0 z1
    obtain ⟨x1, x2, x3⟩ := cv_bd (a := a) (b := c) c0 c1 e3 (by omega)
    obtain ⟨y1, y2, y3⟩ := cv_bd (a := b) (b := d) c0 c1 e3 (by omega)
    have m1 : covM z a c ≤ 128 := by unfold covM; omega
    have m2 : covM z b d ≤ 128 := by unfold covM; omega
    have : covM z b d * covM z a c ≤ 128 * 128 := Nat.mul_le_mul m2 m1
    omega
  · rw [covT_no h]; simp
theorem ch_len (z x y : Int) : (chT z x y).length ≤ 20000 := by
  unfold chT; split
  · rw [btw_len]; omega
  · simp
theorem par_tup (z x y : Int) : ∃ A B C k, parT z x y = .tuple #[tl A B C, .bool k] := by
  unfold parT; split <;> exact ⟨_, _, _, _, rfl⟩
theorem tile_tup (i : Int) : ∃ A B C k, tileT i = .tuple #[tl A B C, .bool k] := by
  unfold tileT; split <;> exact ⟨_, _, _, _, rfl⟩
theorem par_ex (z x y : Int) : ∃ A B C k, (∀ W, Calls Try.prog 18 #[tl z x y] W fun e w' => e = .returned (.tuple #[tl A B C, .bool k]) ∧ Below W.heap.size W w') ∧ (∀ W, Calls Try.prog 19 #[tl z x y] W fun e w' => e = .returned (.tuple #[tl A B C, .bool k]) ∧ Below W.heap.size W w') := by
  obtain ⟨A, B, C, k, h⟩ := par_tup z x y
  exact ⟨A, B, C, k, fun W => by rw [← h]; exact parT_any z x y W, fun W => by rw [← h]; exact parTr_any z x y W⟩
theorem tile_ex (i : Int) (hi : I64 i) : ∃ A B C k, (∀ W, Calls Try.prog 20 #[.int .i64 i] W fun e w' => e = .returned (.tuple #[tl A B C, .bool k]) ∧ Below W.heap.size W w') ∧ (∀ W, Calls Try.prog 21 #[.int .i64 i] W fun e w' => e = .returned (.tuple #[tl A B C, .bool k]) ∧ Below W.heap.size W w') := by
  obtain ⟨A, B, C, k, h⟩ := tile_tup i
  exact ⟨A, B, C, k, fun W => by rw [← h]; exact tile_any i W hi, fun W => by rw [← h]; exact tiler_any i W hi⟩
theorem keep4 {w wr w2 : World} {p1 p2 p3 p4 : Addr} {v1 v2 v3 v4 : Value}
    (h : Below w.heap.size w wr ∧ wr.cell? p1 = some v1 ∧ wr.cell? p2 = some v2 ∧ wr.cell? p3 = some v3 ∧ wr.cell? p4 = some v4) (hb : Below wr.heap.size wr w2) :
    Below w.heap.size w w2 ∧ w2.cell? p1 = some v1 ∧ w2.cell? p2 = some v2 ∧ w2.cell? p3 = some v3 ∧ w2.cell? p4 = some v4 :=
  ⟨h.1.trans (hb.mono h.1.size), old hb h.2.1, old hb h.2.2.1, old hb h.2.2.2.1, old hb h.2.2.2.2⟩
theorem keep18 {w wr w2 : World} {p1 p2 p3 p4 p5 p6 p7 p8 p9 p10 p11 p12 p13 p14 p15 p16 p17 p18 : Addr} {v1 v2 v3 v4 v5 v6 v7 v8 v9 v10 v11 v12 v13 v14 v15 v16 v17 v18 : Value}
    (h : Below w.heap.size w wr ∧ wr.cell? p1 = some v1 ∧ wr.cell? p2 = some v2 ∧ wr.cell? p3 = some v3 ∧ wr.cell? p4 = some v4 ∧ wr.cell? p5 = some v5 ∧ wr.cell? p6 = some v6 ∧ wr.cell? p7 = some v7 ∧ wr.cell? p8 = some v8 ∧ wr.cell? p9 = some v9 ∧ wr.cell? p10 = some v10 ∧ wr.cell? p11 = some v11 ∧ wr.cell? p12 = some v12 ∧ wr.cell? p13 = some v13 ∧ wr.cell? p14 = some v14 ∧ wr.cell? p15 = some v15 ∧ wr.cell? p16 = some v16 ∧ wr.cell? p17 = some v17 ∧ wr.cell? p18 = some v18) (hb : Below wr.heap.size wr w2) :
    Below w.heap.size w w2 ∧ w2.cell? p1 = some v1 ∧ w2.cell? p2 = some v2 ∧ w2.cell? p3 = some v3 ∧ w2.cell? p4 = some v4 ∧ w2.cell? p5 = some v5 ∧ w2.cell? p6 = some v6 ∧ w2.cell? p7 = some v7 ∧ w2.cell? p8 = some v8 ∧ w2.cell? p9 = some v9 ∧ w2.cell? p10 = some v10 ∧ w2.cell? p11 = some v11 ∧ w2.cell? p12 = some v12 ∧ w2.cell? p13 = some v13 ∧ w2.cell? p14 = some v14 ∧ w2.cell? p15 = some v15 ∧ w2.cell? p16 = some v16 ∧ w2.cell? p17 = some v17 ∧ w2.cell? p18 = some v18 :=
  ⟨h.1.trans (hb.mono h.1.size), old hb h.2.1, old hb h.2.2.1, old hb h.2.2.2.1, old hb h.2.2.2.2.1, old hb h.2.2.2.2.2.1, old hb h.2.2.2.2.2.2.1, old hb h.2.2.2.2.2.2.2.1, old hb h.2.2.2.2.2.2.2.2.1, old hb h.2.2.2.2.2.2.2.2.2.1, old hb h.2.2.2.2.2.2.2.2.2.2.1, old hb h.2.2.2.2.2.2.2.2.2.2.2.1, old hb h.2.2.2.2.2.2.2.2.2.2.2.2.1, old hb h.2.2.2.2.2.2.2.2.2.2.2.2.2.1, old hb h.2.2.2.2.2.2.2.2.2.2.2.2.2.2.1, old hb h.2.2.2.2.2.2.2.2.2.2.2.2.2.2.2.1, old hb h.2.2.2.2.2.2.2.2.2.2.2.2.2.2.2.2.1, old hb h.2.2.2.2.2.2.2.2.2.2.2.2.2.2.2.2.2.1, old hb h.2.2.2.2.2.2.2.2.2.2.2.2.2.2.2.2.2.2⟩
set_option maxRecDepth 100000 in
set_option maxHeartbeats 8000000 in
theorem tilegridCovers_walk (vb : Value) (z : Int) (w : World) (hv : IsBx vb) (_hz : I64 z) :
    Calls Try.prog 5 #[vb, .int .i64 z] w fun e w' => e = .returned (.bool true) ∧ Below w.heap.size w w' := by
  obtain ⟨a, b, c, d, rfl, _, _, _, _⟩ := hv
  have CA := Lib.hid (fun W => cover_any a b c d z W)
  have CB := Lib.hid (fun W => coverr_any a b c d z W)
  have LN := Lib.hid (cov_len a b c d z)
  generalize covT a b c d z = L at *
  go_enter Try.func5, Try.ntmps5
  go_wp2_with fail
  have I0 : ∀ W, W = w.alloc (.cells #[.int .i64 a, .int .i64 b, .int .i64 c, .int .i64 d] 27) → (W.cell? ⟨w.heap.size, 0, none⟩ = some (.int .i64 a) ∧ W.cell? ⟨w.heap.size, 1, none⟩ = some (.int .i64 b) ∧ W.cell? ⟨w.heap.size, 2, none⟩ = some (.int .i64 c) ∧ W.cell? ⟨w.heap.size, 3, none⟩ = some (.int .i64 d)) ∧ Below w.heap.size w W := by
    intro W e; subst e
    refine ⟨⟨by go_simp, by go_simp, by go_simp, by go_simp⟩, ?_⟩
    (repeat (first | exact Below.refl _ _ | (refine Below.alloc ?_ (by first | omega | (simp <;> omega)) _)))
  have J0 := I0 _ rfl; clear I0
  generalize w.alloc (.cells #[.int .i64 a, .int .i64 b, .int .i64 c, .int .i64 d] 27) = W0 at J0 ⊢
  obtain ⟨⟨f1, f2, f3, f4⟩, bb0⟩ := J0
  have B0 := Lib.hid bb0; clear bb0
  have S0 : Hid (∀ W, W = W0.drew → Below w.heap.size w W ∧ W.cell? ⟨w.heap.size, 0, none⟩ = some (.int .i64 a) ∧ W.cell? ⟨w.heap.size, 1, none⟩ = some (.int .i64 b) ∧ W.cell? ⟨w.heap.size, 2, none⟩ = some (.int .i64 c) ∧ W.cell? ⟨w.heap.size, 3, none⟩ = some (.int .i64 d)) := by
    intro W e; subst e
    exact ⟨B0.out.drew, by go_simp, by go_simp, by go_simp, by go_simp⟩
  go_region_held3 (fun w' => Below w.heap.size w w' ∧ w'.cell? ⟨w.heap.size, 0, none⟩ = some (.int .i64 a) ∧ w'.cell? ⟨w.heap.size, 1, none⟩ = some (.int .i64 b) ∧ w'.cell? ⟨w.heap.size, 2, none⟩ = some (.int .i64 c) ∧ w'.cell? ⟨w.heap.size, 3, none⟩ = some (.int .i64 d))
    (first | exact S0.out _ rfl | assumption | exact keep4 (by assumption) (by assumption))
    (first | (go_at_call 29; (with_reducible refine (CA.out _).mono ?_); rintro e w9 ⟨v9, rfl, t9, b9⟩) | (go_at_call 30; (with_reducible refine (CB.out _).mono ?_); rintro e w9 ⟨v9, rfl, t9, b9⟩) | (go_at_call 22; (with_reducible refine (same_b (l := L) (by first | assumption | exact TsAt.below (by assumption) (by assumption)) (by first | assumption | exact TsAt.below (by assumption) (by assumption)) LN.out).mono ?_); rintro e w9 ⟨rfl, b9⟩) | (go_at_call 17; (with_reducible refine (lives_any _).mono ?_); rintro e w9 ⟨rfl, bw9⟩))
  all_goals go_wp2
  all_goals go_ret
  all_goals exact ⟨rfl, bel_of (by assumption)⟩
set_option maxRecDepth 100000 in
set_option maxHeartbeats 16000000 in
theorem tilegridKin_walk (vt vu : Value) (id : Int) (w : World) (ht : IsTl vt) (hu : IsTl vu) (hi : I64 id) :
    Calls Try.prog 4 #[vt, vu, .int .i64 id] w fun e w' => e = .returned (.bool true) ∧ Below w.heap.size w w' := by
  obtain ⟨z, x, y, rfl, _, _, _⟩ := ht
  obtain ⟨u, v, t, rfl, _, _, _⟩ := hu
  obtain ⟨A, B, C, k, c18, c19⟩ := par_ex z x y
  obtain ⟨P, Q, R, m, c20, c21⟩ := tile_ex id hi
  have C18 := Lib.hid c18; have C19 := Lib.hid c19; have C20 := Lib.hid c20; have C21 := Lib.hid c21
  clear c18 c19 c20 c21
  have CA := Lib.hid (fun W => child_any z x y W)
  have CB := Lib.hid (fun W => childr_any z x y W)
  have LN := Lib.hid (ch_len z x y)
  generalize chT z x y = L at *
  go_enter Try.func4, Try.ntmps4
  go_wp2_with fail
  have I0 : ∀ W, W = (w.alloc (.cells #[.int .i64 z, .int .i64 x, .int .i64 y] 23)).alloc (.cells #[.int .i64 u, .int .i64 v, .int .i64 t] 23) → (W.cell? ⟨w.heap.size, 0, none⟩ = some (.int .i64 z) ∧ W.cell? ⟨w.heap.size, 1, none⟩ = some (.int .i64 x) ∧ W.cell? ⟨w.heap.size, 2, none⟩ = some (.int .i64 y) ∧ W.cell? ⟨w.heap.size + 1, 0, none⟩ = some (.int .i64 u) ∧ W.cell? ⟨w.heap.size + 1, 1, none⟩ = some (.int .i64 v) ∧ W.cell? ⟨w.heap.size + 1, 2, none⟩ = some (.int .i64 t)) ∧ Below w.heap.size w W := by
    intro W e; subst e
    refine ⟨⟨by go_simp, by go_simp, by go_simp, by go_simp, by go_simp, by go_simp⟩, ?_⟩
    (repeat (first | exact Below.refl _ _ | (refine Below.alloc ?_ (by first | omega | (simp <;> omega)) _)))
  have J0 := I0 _ rfl; clear I0
  generalize (w.alloc (.cells #[.int .i64 z, .int .i64 x, .int .i64 y] 23)).alloc (.cells #[.int .i64 u, .int .i64 v, .int .i64 t] 23) = W0 at J0 ⊢
  obtain ⟨⟨f1, f2, f3, f4, f5, f6⟩, bb0⟩ := J0
  have B0 := Lib.hid bb0; clear bb0
  refine (C18.out _).mono ?_; rintro e w1 ⟨rfl, hb⟩
  replace f1 := old hb f1; replace f2 := old hb f2; replace f3 := old hb f3; replace f4 := old hb f4; replace f5 := old hb f5; replace f6 := old hb f6
  have B2_ := Lib.hid (B0.out.trans (hb.mono B0.out.size)); clear hb
  have hz1 : w.heap.size < w1.heap.size := cell_lt f1
  have hz2 : w.heap.size + 1 < w1.heap.size := cell_lt f4
  go_wp2_with fail
  have I3 : ∀ W, W = w1.alloc (.cells #[.int .i64 A, .int .i64 B, .int .i64 C] 23) → (W.cell? ⟨w1.heap.size, 0, none⟩ = some (.int .i64 A) ∧ W.cell? ⟨w1.heap.size, 1, none⟩ = some (.int .i64 B) ∧ W.cell? ⟨w1.heap.size, 2, none⟩ = some (.int .i64 C)) ∧ Below w1.heap.size w1 W := by
    intro W e; subst e
    refine ⟨⟨by go_simp, by go_simp, by go_simp⟩, ?_⟩
    exact (Below.refl _ _).alloc (Nat.le_refl _) _
  have J3 := I3 _ rfl; clear I3
  generalize w1.alloc (.cells #[.int .i64 A, .int .i64 B, .int .i64 C] 23) = W3 at J3 ⊢
  obtain ⟨⟨f7, f8, f9⟩, bb3⟩ := J3
  replace f1 := old bb3 f1; replace f2 := old bb3 f2; replace f3 := old bb3 f3; replace f4 := old bb3 f4; replace f5 := old bb3 f5; replace f6 := old bb3 f6
  have B4_ := Lib.hid (B2_.out.trans (bb3.mono B2_.out.size)); clear bb3
  refine (C19.out _).mono ?_; rintro e w5 ⟨rfl, hb⟩
  replace f1 := old hb f1; replace f2 := old hb f2; replace f3 := old hb f3; replace f4 := old hb f4; replace f5 := old hb f5; replace f6 := old hb f6; replace f7 := old hb f7; replace f8 := old hb f8; replace f9 := old hb f9
  have B6_ := Lib.hid (B4_.out.trans (hb.mono B4_.out.size)); clear hb
  clear hz1 hz2
  have hz1 : w.heap.size < w5.heap.size := cell_lt f1
  have hz2 : w.heap.size + 1 < w5.heap.size := cell_lt f4
  have hz3 : w1.heap.size < w5.heap.size := cell_lt f7
  go_wp2_with fail
  have I7 : ∀ W, W = w5.alloc (.cells #[.int .i64 A, .int .i64 B, .int .i64 C] 23) → (W.cell? ⟨w5.heap.size, 0, none⟩ = some (.int .i64 A) ∧ W.cell? ⟨w5.heap.size, 1, none⟩ = some (.int .i64 B) ∧ W.cell? ⟨w5.heap.size, 2, none⟩ = some (.int .i64 C)) ∧ Below w5.heap.size w5 W := by
    intro W e; subst e
    refine ⟨⟨by go_simp, by go_simp, by go_simp⟩, ?_⟩
    exact (Below.refl _ _).alloc (Nat.le_refl _) _
  have J7 := I7 _ rfl; clear I7
  generalize w5.alloc (.cells #[.int .i64 A, .int .i64 B, .int .i64 C] 23) = W7 at J7 ⊢
  obtain ⟨⟨f10, f11, f12⟩, bb7⟩ := J7
  replace f1 := old bb7 f1; replace f2 := old bb7 f2; replace f3 := old bb7 f3; replace f4 := old bb7 f4; replace f5 := old bb7 f5; replace f6 := old bb7 f6; replace f7 := old bb7 f7; replace f8 := old bb7 f8; replace f9 := old bb7 f9
  have B8_ := Lib.hid (B6_.out.trans (bb7.mono B6_.out.size)); clear bb7
  refine (C20.out _).mono ?_; rintro e w9 ⟨rfl, hb⟩
  replace f1 := old hb f1; replace f2 := old hb f2; replace f3 := old hb f3; replace f4 := old hb f4; replace f5 := old hb f5; replace f6 := old hb f6; replace f7 := old hb f7; replace f8 := old hb f8; replace f9 := old hb f9; replace f10 := old hb f10; replace f11 := old hb f11; replace f12 := old hb f12
  have B10_ := Lib.hid (B8_.out.trans (hb.mono B8_.out.size)); clear hb
  clear hz1 hz2 hz3
  have hz1 : w.heap.size < w9.heap.size := cell_lt f1
  have hz2 : w.heap.size + 1 < w9.heap.size := cell_lt f4
  have hz3 : w1.heap.size < w9.heap.size := cell_lt f7
  have hz4 : w5.heap.size < w9.heap.size := cell_lt f10
  go_wp2_with fail
  have I11 : ∀ W, W = w9.alloc (.cells #[.int .i64 P, .int .i64 Q, .int .i64 R] 23) → (W.cell? ⟨w9.heap.size, 0, none⟩ = some (.int .i64 P) ∧ W.cell? ⟨w9.heap.size, 1, none⟩ = some (.int .i64 Q) ∧ W.cell? ⟨w9.heap.size, 2, none⟩ = some (.int .i64 R)) ∧ Below w9.heap.size w9 W := by
    intro W e; subst e
    refine ⟨⟨by go_simp, by go_simp, by go_simp⟩, ?_⟩
    exact (Below.refl _ _).alloc (Nat.le_refl _) _
  have J11 := I11 _ rfl; clear I11
  generalize w9.alloc (.cells #[.int .i64 P, .int .i64 Q, .int .i64 R] 23) = W11 at J11 ⊢
  obtain ⟨⟨f13, f14, f15⟩, bb11⟩ := J11
  replace f1 := old bb11 f1; replace f2 := old bb11 f2; replace f3 := old bb11 f3; replace f4 := old bb11 f4; replace f5 := old bb11 f5; replace f6 := old bb11 f6; replace f7 := old bb11 f7; replace f8 := old bb11 f8; replace f9 := old bb11 f9; replace f10 := old bb11 f10; replace f11 := old bb11 f11; replace f12 := old bb11 f12
  have B12_ := Lib.hid (B10_.out.trans (bb11.mono B10_.out.size)); clear bb11
  refine (C21.out _).mono ?_; rintro e w13 ⟨rfl, hb⟩
  replace f1 := old hb f1; replace f2 := old hb f2; replace f3 := old hb f3; replace f4 := old hb f4; replace f5 := old hb f5; replace f6 := old hb f6; replace f7 := old hb f7; replace f8 := old hb f8; replace f9 := old hb f9; replace f10 := old hb f10; replace f11 := old hb f11; replace f12 := old hb f12; replace f13 := old hb f13; replace f14 := old hb f14; replace f15 := old hb f15
  have B14_ := Lib.hid (B12_.out.trans (hb.mono B12_.out.size)); clear hb
  clear hz1 hz2 hz3 hz4
  have hz1 : w.heap.size < w13.heap.size := cell_lt f1
  have hz2 : w.heap.size + 1 < w13.heap.size := cell_lt f4
  have hz3 : w1.heap.size < w13.heap.size := cell_lt f7
  have hz4 : w5.heap.size < w13.heap.size := cell_lt f10
  have hz5 : w9.heap.size < w13.heap.size := cell_lt f13
  go_wp2_with fail
  have I15 : ∀ W, W = w13.alloc (.cells #[.int .i64 P, .int .i64 Q, .int .i64 R] 23) → (W.cell? ⟨w13.heap.size, 0, none⟩ = some (.int .i64 P) ∧ W.cell? ⟨w13.heap.size, 1, none⟩ = some (.int .i64 Q) ∧ W.cell? ⟨w13.heap.size, 2, none⟩ = some (.int .i64 R)) ∧ Below w13.heap.size w13 W := by
    intro W e; subst e
    refine ⟨⟨by go_simp, by go_simp, by go_simp⟩, ?_⟩
    exact (Below.refl _ _).alloc (Nat.le_refl _) _
  have J15 := I15 _ rfl; clear I15
  generalize w13.alloc (.cells #[.int .i64 P, .int .i64 Q, .int .i64 R] 23) = W15 at J15 ⊢
  obtain ⟨⟨f16, f17, f18⟩, bb15⟩ := J15
  replace f1 := old bb15 f1; replace f2 := old bb15 f2; replace f3 := old bb15 f3; replace f4 := old bb15 f4; replace f5 := old bb15 f5; replace f6 := old bb15 f6; replace f7 := old bb15 f7; replace f8 := old bb15 f8; replace f9 := old bb15 f9; replace f10 := old bb15 f10; replace f11 := old bb15 f11; replace f12 := old bb15 f12; replace f13 := old bb15 f13; replace f14 := old bb15 f14; replace f15 := old bb15 f15
  have B16_ := Lib.hid (B14_.out.trans (bb15.mono B14_.out.size)); clear bb15
  have S0 : Hid (∀ W, W = W15.drew → Below w.heap.size w W ∧ W.cell? ⟨w.heap.size, 0, none⟩ = some (.int .i64 z) ∧ W.cell? ⟨w.heap.size, 1, none⟩ = some (.int .i64 x) ∧ W.cell? ⟨w.heap.size, 2, none⟩ = some (.int .i64 y) ∧ W.cell? ⟨w.heap.size + 1, 0, none⟩ = some (.int .i64 u) ∧ W.cell? ⟨w.heap.size + 1, 1, none⟩ = some (.int .i64 v) ∧ W.cell? ⟨w.heap.size + 1, 2, none⟩ = some (.int .i64 t) ∧ W.cell? ⟨w1.heap.size, 0, none⟩ = some (.int .i64 A) ∧ W.cell? ⟨w1.heap.size, 1, none⟩ = some (.int .i64 B) ∧ W.cell? ⟨w1.heap.size, 2, none⟩ = some (.int .i64 C) ∧ W.cell? ⟨w5.heap.size, 0, none⟩ = some (.int .i64 A) ∧ W.cell? ⟨w5.heap.size, 1, none⟩ = some (.int .i64 B) ∧ W.cell? ⟨w5.heap.size, 2, none⟩ = some (.int .i64 C) ∧ W.cell? ⟨w9.heap.size, 0, none⟩ = some (.int .i64 P) ∧ W.cell? ⟨w9.heap.size, 1, none⟩ = some (.int .i64 Q) ∧ W.cell? ⟨w9.heap.size, 2, none⟩ = some (.int .i64 R) ∧ W.cell? ⟨w13.heap.size, 0, none⟩ = some (.int .i64 P) ∧ W.cell? ⟨w13.heap.size, 1, none⟩ = some (.int .i64 Q) ∧ W.cell? ⟨w13.heap.size, 2, none⟩ = some (.int .i64 R)) := by
    intro W e; subst e
    exact ⟨B16_.out.drew, by go_simp, by go_simp, by go_simp, by go_simp, by go_simp, by go_simp, by go_simp, by go_simp, by go_simp, by go_simp, by go_simp, by go_simp, by go_simp, by go_simp, by go_simp, by go_simp, by go_simp, by go_simp⟩
  go_region_held3 (fun w' => Below w.heap.size w w' ∧ w'.cell? ⟨w.heap.size, 0, none⟩ = some (.int .i64 z) ∧ w'.cell? ⟨w.heap.size, 1, none⟩ = some (.int .i64 x) ∧ w'.cell? ⟨w.heap.size, 2, none⟩ = some (.int .i64 y) ∧ w'.cell? ⟨w.heap.size + 1, 0, none⟩ = some (.int .i64 u) ∧ w'.cell? ⟨w.heap.size + 1, 1, none⟩ = some (.int .i64 v) ∧ w'.cell? ⟨w.heap.size + 1, 2, none⟩ = some (.int .i64 t) ∧ w'.cell? ⟨w1.heap.size, 0, none⟩ = some (.int .i64 A) ∧ w'.cell? ⟨w1.heap.size, 1, none⟩ = some (.int .i64 B) ∧ w'.cell? ⟨w1.heap.size, 2, none⟩ = some (.int .i64 C) ∧ w'.cell? ⟨w5.heap.size, 0, none⟩ = some (.int .i64 A) ∧ w'.cell? ⟨w5.heap.size, 1, none⟩ = some (.int .i64 B) ∧ w'.cell? ⟨w5.heap.size, 2, none⟩ = some (.int .i64 C) ∧ w'.cell? ⟨w9.heap.size, 0, none⟩ = some (.int .i64 P) ∧ w'.cell? ⟨w9.heap.size, 1, none⟩ = some (.int .i64 Q) ∧ w'.cell? ⟨w9.heap.size, 2, none⟩ = some (.int .i64 R) ∧ w'.cell? ⟨w13.heap.size, 0, none⟩ = some (.int .i64 P) ∧ w'.cell? ⟨w13.heap.size, 1, none⟩ = some (.int .i64 Q) ∧ w'.cell? ⟨w13.heap.size, 2, none⟩ = some (.int .i64 R))
    (first | exact S0.out _ rfl | assumption | exact keep18 (by assumption) (by assumption))
    (first | (go_at_call 23; (with_reducible refine (CA.out _).mono ?_); rintro e w9 ⟨v9, rfl, t9, b9⟩) | (go_at_call 24; (with_reducible refine (CB.out _).mono ?_); rintro e w9 ⟨v9, rfl, t9, b9⟩) | (go_at_call 22; (with_reducible refine (same_b (l := L) (by first | assumption | exact TsAt.below (by assumption) (by assumption)) (by first | assumption | exact TsAt.below (by assumption) (by assumption)) LN.out).mono ?_); rintro e w9 ⟨rfl, b9⟩) | (go_at_call 25; (with_reducible refine (lessT_any _ _ _ _ _ _ _).mono ?_); rintro e w9 ⟨rfl, bw9⟩) | (go_at_call 26; (with_reducible refine (lessTr_any _ _ _ _ _ _ _).mono ?_); rintro e w9 ⟨rfl, bw9⟩) | (go_at_call 27; (with_reducible refine (idT_any _ _ _ _).mono ?_); rintro e w9 ⟨rfl, bw9⟩) | (go_at_call 28; (with_reducible refine (idTr_any _ _ _ _).mono ?_); rintro e w9 ⟨rfl, bw9⟩) | (go_at_call 17; (with_reducible refine (lives_any _).mono ?_); rintro e w9 ⟨rfl, bw9⟩))
  all_goals go_wp2
  all_goals go_ret
  all_goals exact ⟨rfl, bel_of (by assumption)⟩
end Go.Proofs.Ytoibhapjkeakbaa
