/- Tiles: the walk of TilegridTree. -/
import Derived.Test.YtoibhapjkeakbaaWq
namespace Go.Proofs.Ytoibhapjkeakbaa
open Go.ChangeShapes Go.WideShapes Go.ChangeAt Go.RowKit Go.Joins Go.Deep

theorem ch_list {z x y : Int} (h : goodT z x y = true) (hz : z ≠ 7) : chT z x y = [(z + 1, 2 * x + 0, 2 * y + 0), (z + 1, 2 * x + 1, 2 * y + 0), (z + 1, 2 * x + 0, 2 * y + 1), (z + 1, 2 * x + 1, 2 * y + 1)] := by
  rw [chT_yes ⟨h, hz⟩]; rfl
theorem nth4 {z x y : Int} {k : Nat} (hk : k < 4) : ∃ i j : Int, (i = 0 ∨ i = 1) ∧ (j = 0 ∨ j = 1) ∧ [(z + 1, 2 * x + 0, 2 * y + 0), (z + 1, 2 * x + 1, 2 * y + 0), (z + 1, 2 * x + 0, 2 * y + 1), (z + 1, 2 * x + 1, 2 * y + 1)].getD k (0, 0, 0) = (z + 1, 2 * x + i, 2 * y + j) ∧ i + 2 * j = (k : Int) := by
  have : k = 0 ∨ k = 1 ∨ k = 2 ∨ k = 3 := by omega
  rcases this with rfl | rfl | rfl | rfl
  · exact ⟨0, 0, Or.inl rfl, Or.inl rfl, rfl, rfl⟩
  · exact ⟨1, 0, Or.inr rfl, Or.inl rfl, rfl, rfl⟩
  · exact ⟨0, 1, Or.inl rfl, Or.inr rfl, rfl, rfl⟩
  · exact ⟨1, 1, Or.inr rfl, Or.inr rfl, rfl, rfl⟩
theorem less_at {z x y i j i' j' : Int} (hi : i = 0 ∨ i = 1) (hj : j = 0 ∨ j = 1) (hi' : i' = 0 ∨ i' = 1) (hj' : j' = 0 ∨ j' = 1) (h : i' + 2 * j' + 1 = i + 2 * j) : ∀ W, Calls Try.prog 25 #[tl (z + 1) (2 * x + i') (2 * y + j'), tl (z + 1) (2 * x + i) (2 * y + j)] W fun e w' => e = .returned (.bool true) ∧ Below W.heap.size W w' := by
  intro W
  have := lessT_any (z + 1) (2 * x + i') (2 * y + j') (z + 1) (2 * x + i) (2 * y + j) W
  rw [show lessT (z + 1) (2 * x + i') (2 * y + j') (z + 1) (2 * x + i) (2 * y + j) = true by unfold lessT; simp; omega] at this
  exact this
theorem area4 {x s : Int} : (x + 1) * s - x * s = s := by rw [Int.add_mul]; omega
theorem keep17 {w wr w2 : World} {p1 p2 p3 p4 p5 p6 p7 p8 p9 p10 p11 p12 p13 p14 p15 p16 p17 : Addr} {v1 v2 v3 v4 v5 v6 v7 v8 v9 v10 v11 v12 v13 v14 v15 v16 v17 : Value}
    (h : Below w.heap.size w wr ∧ wr.cell? p1 = some v1 ∧ wr.cell? p2 = some v2 ∧ wr.cell? p3 = some v3 ∧ wr.cell? p4 = some v4 ∧ wr.cell? p5 = some v5 ∧ wr.cell? p6 = some v6 ∧ wr.cell? p7 = some v7 ∧ wr.cell? p8 = some v8 ∧ wr.cell? p9 = some v9 ∧ wr.cell? p10 = some v10 ∧ wr.cell? p11 = some v11 ∧ wr.cell? p12 = some v12 ∧ wr.cell? p13 = some v13 ∧ wr.cell? p14 = some v14 ∧ wr.cell? p15 = some v15 ∧ wr.cell? p16 = some v16 ∧ wr.cell? p17 = some v17) (hb : Below wr.heap.size wr w2) :
    Below w.heap.size w w2 ∧ w2.cell? p1 = some v1 ∧ w2.cell? p2 = some v2 ∧ w2.cell? p3 = some v3 ∧ w2.cell? p4 = some v4 ∧ w2.cell? p5 = some v5 ∧ w2.cell? p6 = some v6 ∧ w2.cell? p7 = some v7 ∧ w2.cell? p8 = some v8 ∧ w2.cell? p9 = some v9 ∧ w2.cell? p10 = some v10 ∧ w2.cell? p11 = some v11 ∧ w2.cell? p12 = some v12 ∧ w2.cell? p13 = some v13 ∧ w2.cell? p14 = some v14 ∧ w2.cell? p15 = some v15 ∧ w2.cell? p16 = some v16 ∧ w2.cell? p17 = some v17 :=
  ⟨h.1.trans (hb.mono h.1.size), old hb h.2.1, old hb h.2.2.1, old hb h.2.2.2.1, old hb h.2.2.2.2.1, old hb h.2.2.2.2.2.1, old hb h.2.2.2.2.2.2.1, old hb h.2.2.2.2.2.2.2.1, old hb h.2.2.2.2.2.2.2.2.1, old hb h.2.2.2.2.2.2.2.2.2.1, old hb h.2.2.2.2.2.2.2.2.2.2.1, old hb h.2.2.2.2.2.2.2.2.2.2.2.1, old hb h.2.2.2.2.2.2.2.2.2.2.2.2.1, old hb h.2.2.2.2.2.2.2.2.2.2.2.2.2.1, old hb h.2.2.2.2.2.2.2.2.2.2.2.2.2.2.1, old hb h.2.2.2.2.2.2.2.2.2.2.2.2.2.2.2.1, old hb h.2.2.2.2.2.2.2.2.2.2.2.2.2.2.2.2.1, old hb h.2.2.2.2.2.2.2.2.2.2.2.2.2.2.2.2.2⟩
theorem keep20 {w wr w2 : World} {p1 p2 p3 p4 p5 p6 p7 p8 p9 p10 p11 p12 p13 p14 p15 p16 p17 p18 p19 p20 : Addr} {v1 v2 v3 v4 v5 v6 v7 v8 v9 v10 v11 v12 v13 v14 v15 v16 v17 v18 v19 v20 : Value}
    (h : Below w.heap.size w wr ∧ wr.cell? p1 = some v1 ∧ wr.cell? p2 = some v2 ∧ wr.cell? p3 = some v3 ∧ wr.cell? p4 = some v4 ∧ wr.cell? p5 = some v5 ∧ wr.cell? p6 = some v6 ∧ wr.cell? p7 = some v7 ∧ wr.cell? p8 = some v8 ∧ wr.cell? p9 = some v9 ∧ wr.cell? p10 = some v10 ∧ wr.cell? p11 = some v11 ∧ wr.cell? p12 = some v12 ∧ wr.cell? p13 = some v13 ∧ wr.cell? p14 = some v14 ∧ wr.cell? p15 = some v15 ∧ wr.cell? p16 = some v16 ∧ wr.cell? p17 = some v17 ∧ wr.cell? p18 = some v18 ∧ wr.cell? p19 = some v19 ∧ wr.cell? p20 = some v20) (hb : Below wr.heap.size wr w2) :
    Below w.heap.size w w2 ∧ w2.cell? p1 = some v1 ∧ w2.cell? p2 = some v2 ∧ w2.cell? p3 = some v3 ∧ w2.cell? p4 = some v4 ∧ w2.cell? p5 = some v5 ∧ w2.cell? p6 = some v6 ∧ w2.cell? p7 = some v7 ∧ w2.cell? p8 = some v8 ∧ w2.cell? p9 = some v9 ∧ w2.cell? p10 = some v10 ∧ w2.cell? p11 = some v11 ∧ w2.cell? p12 = some v12 ∧ w2.cell? p13 = some v13 ∧ w2.cell? p14 = some v14 ∧ w2.cell? p15 = some v15 ∧ w2.cell? p16 = some v16 ∧ w2.cell? p17 = some v17 ∧ w2.cell? p18 = some v18 ∧ w2.cell? p19 = some v19 ∧ w2.cell? p20 = some v20 :=
  ⟨h.1.trans (hb.mono h.1.size), old hb h.2.1, old hb h.2.2.1, old hb h.2.2.2.1, old hb h.2.2.2.2.1, old hb h.2.2.2.2.2.1, old hb h.2.2.2.2.2.2.1, old hb h.2.2.2.2.2.2.2.1, old hb h.2.2.2.2.2.2.2.2.1, old hb h.2.2.2.2.2.2.2.2.2.1, old hb h.2.2.2.2.2.2.2.2.2.2.1, old hb h.2.2.2.2.2.2.2.2.2.2.2.1, old hb h.2.2.2.2.2.2.2.2.2.2.2.2.1, old hb h.2.2.2.2.2.2.2.2.2.2.2.2.2.1, old hb h.2.2.2.2.2.2.2.2.2.2.2.2.2.2.1, old hb h.2.2.2.2.2.2.2.2.2.2.2.2.2.2.2.1, old hb h.2.2.2.2.2.2.2.2.2.2.2.2.2.2.2.2.1, old hb h.2.2.2.2.2.2.2.2.2.2.2.2.2.2.2.2.2.1, old hb h.2.2.2.2.2.2.2.2.2.2.2.2.2.2.2.2.2.2.1, old hb h.2.2.2.2.2.2.2.2.2.2.2.2.2.2.2.2.2.2.2.1, old hb h.2.2.2.2.2.2.2.2.2.2.2.2.2.2.2.2.2.2.2.2⟩
set_option maxRecDepth 100000 in
set_option maxHeartbeats 8000000 in
theorem tree_no (z x y : Int) (w : World) (h : ¬ (goodT z x y = true ∧ z ≠ 7)) (hk : (chkT z x y != 0) = true ∨ (chkT z x y = 0 ∧ z = 7)) :
    Calls Try.prog 6 #[tl z x y] w fun e w' => e = .returned (.bool true) ∧ Below w.heap.size w w' := by
  have CC := Lib.hid (fun W => child_any z x y W)
  rw [chT_no h] at CC
  have CB := Lib.hid (fun W => boxT_any z x y W)
  clear h
  unfold bxT at CB
  generalize (qB z x y).1 = A at CB
  generalize (qB z x y).2.1 = B at CB
  generalize (qB z x y).2.2.1 = C at CB
  generalize (qB z x y).2.2.2 = D at CB
  generalize chkT z x y = E at *
  rcases hk with hk | ⟨rfl, rfl⟩
  · go_enter Try.func6, Try.ntmps6
    go_wp2_with fail
    have I0 : ∀ W, W = w.alloc (.cells #[.int .i64 z, .int .i64 x, .int .i64 y] 23) → (W.cell? ⟨w.heap.size, 0, none⟩ = some (.int .i64 z) ∧ W.cell? ⟨w.heap.size, 1, none⟩ = some (.int .i64 x) ∧ W.cell? ⟨w.heap.size, 2, none⟩ = some (.int .i64 y)) ∧ Below w.heap.size w W := by
      intro W e; subst e
      refine ⟨⟨by go_simp, by go_simp, by go_simp⟩, ?_⟩
      (repeat (first | exact Below.refl _ _ | (refine Below.alloc ?_ (by first | omega | (simp <;> omega)) _)))
    have J0 := I0 _ rfl; clear I0
    generalize w.alloc (.cells #[.int .i64 z, .int .i64 x, .int .i64 y] 23) = W0 at J0 ⊢
    obtain ⟨⟨f1, f2, f3⟩, bb0⟩ := J0
    have B0 := Lib.hid bb0; clear bb0
    refine (CC.out _).mono ?_; rintro e w1 ⟨v, rfl, ht, hb⟩
    obtain ⟨a1, c1, e1⟩ := ht.form; replace e1 : v = .slice a1 0 c1 := e1; subst e1; clear ht
    replace f1 := old hb f1; replace f2 := old hb f2; replace f3 := old hb f3
    have B2_ := Lib.hid (B0.out.trans (hb.mono B0.out.size)); clear hb
    have hz1 : w.heap.size < w1.heap.size := cell_lt f1
    go_wp2_with fail
    refine (CB.out _).mono ?_; rintro e w3 ⟨rfl, hb⟩
    replace f1 := old hb f1; replace f2 := old hb f2; replace f3 := old hb f3
    have B4_ := Lib.hid (B2_.out.trans (hb.mono B2_.out.size)); clear hb
    clear hz1
    have hz1 : w.heap.size < w3.heap.size := cell_lt f1
    go_wp2_with fail
    have I5 : ∀ W, W = w3.alloc (.cells #[.int .i64 A, .int .i64 B, .int .i64 C, .int .i64 D] 27) → (W.cell? ⟨w3.heap.size, 0, none⟩ = some (.int .i64 A) ∧ W.cell? ⟨w3.heap.size, 1, none⟩ = some (.int .i64 B) ∧ W.cell? ⟨w3.heap.size, 2, none⟩ = some (.int .i64 C) ∧ W.cell? ⟨w3.heap.size, 3, none⟩ = some (.int .i64 D)) ∧ Below w3.heap.size w3 W := by
      intro W e; subst e
      refine ⟨⟨by go_simp, by go_simp, by go_simp, by go_simp⟩, ?_⟩
      exact (Below.refl _ _).alloc (Nat.le_refl _) _
    have J5 := I5 _ rfl; clear I5
    generalize w3.alloc (.cells #[.int .i64 A, .int .i64 B, .int .i64 C, .int .i64 D] 27) = W5 at J5 ⊢
    obtain ⟨⟨f4, f5, f6, f7⟩, bb5⟩ := J5
    replace f1 := old bb5 f1; replace f2 := old bb5 f2; replace f3 := old bb5 f3
    have B6_ := Lib.hid (B4_.out.trans (bb5.mono B4_.out.size)); clear bb5
    refine (lives_any _).mono ?_; rintro e w7 ⟨rfl, hb⟩
    replace f1 := old hb f1; replace f2 := old hb f2; replace f3 := old hb f3; replace f4 := old hb f4; replace f5 := old hb f5; replace f6 := old hb f6; replace f7 := old hb f7
    have B8_ := Lib.hid (B6_.out.trans (hb.mono B6_.out.size)); clear hb
    clear hz1
    have hz1 : w.heap.size < w7.heap.size := cell_lt f1
    have hz2 : w3.heap.size < w7.heap.size := cell_lt f4
    go_wp2_with fail
    go_ret
    exact ⟨rfl, B8_.out⟩
  · go_enter Try.func6, Try.ntmps6
    go_wp2_with fail
    have I0 : ∀ W, W = w.alloc (.cells #[.int .i64 7, .int .i64 x, .int .i64 y] 23) → (W.cell? ⟨w.heap.size, 0, none⟩ = some (.int .i64 7) ∧ W.cell? ⟨w.heap.size, 1, none⟩ = some (.int .i64 x) ∧ W.cell? ⟨w.heap.size, 2, none⟩ = some (.int .i64 y)) ∧ Below w.heap.size w W := by
      intro W e; subst e
      refine ⟨⟨by go_simp, by go_simp, by go_simp⟩, ?_⟩
      (repeat (first | exact Below.refl _ _ | (refine Below.alloc ?_ (by first | omega | (simp <;> omega)) _)))
    have J0 := I0 _ rfl; clear I0
    generalize w.alloc (.cells #[.int .i64 7, .int .i64 x, .int .i64 y] 23) = W0 at J0 ⊢
    obtain ⟨⟨f1, f2, f3⟩, bb0⟩ := J0
    have B0 := Lib.hid bb0; clear bb0
    refine (CC.out _).mono ?_; rintro e w1 ⟨v, rfl, ht, hb⟩
    obtain ⟨a1, c1, e1⟩ := ht.form; replace e1 : v = .slice a1 0 c1 := e1; subst e1; clear ht
    replace f1 := old hb f1; replace f2 := old hb f2; replace f3 := old hb f3
    have B2_ := Lib.hid (B0.out.trans (hb.mono B0.out.size)); clear hb
    have hz1 : w.heap.size < w1.heap.size := cell_lt f1
    go_wp2_with fail
    refine (CB.out _).mono ?_; rintro e w3 ⟨rfl, hb⟩
    replace f1 := old hb f1; replace f2 := old hb f2; replace f3 := old hb f3
    have B4_ := Lib.hid (B2_.out.trans (hb.mono B2_.out.size)); clear hb
    clear hz1
    have hz1 : w.heap.size < w3.heap.size := cell_lt f1
    go_wp2_with fail
    have I5 : ∀ W, W = w3.alloc (.cells #[.int .i64 A, .int .i64 B, .int .i64 C, .int .i64 D] 27) → (W.cell? ⟨w3.heap.size, 0, none⟩ = some (.int .i64 A) ∧ W.cell? ⟨w3.heap.size, 1, none⟩ = some (.int .i64 B) ∧ W.cell? ⟨w3.heap.size, 2, none⟩ = some (.int .i64 C) ∧ W.cell? ⟨w3.heap.size, 3, none⟩ = some (.int .i64 D)) ∧ Below w3.heap.size w3 W := by
      intro W e; subst e
      refine ⟨⟨by go_simp, by go_simp, by go_simp, by go_simp⟩, ?_⟩
      exact (Below.refl _ _).alloc (Nat.le_refl _) _
    have J5 := I5 _ rfl; clear I5
    generalize w3.alloc (.cells #[.int .i64 A, .int .i64 B, .int .i64 C, .int .i64 D] 27) = W5 at J5 ⊢
    obtain ⟨⟨f4, f5, f6, f7⟩, bb5⟩ := J5
    replace f1 := old bb5 f1; replace f2 := old bb5 f2; replace f3 := old bb5 f3
    have B6_ := Lib.hid (B4_.out.trans (bb5.mono B4_.out.size)); clear bb5
    refine (lives_any _).mono ?_; rintro e w7 ⟨rfl, hb⟩
    replace f1 := old hb f1; replace f2 := old hb f2; replace f3 := old hb f3; replace f4 := old hb f4; replace f5 := old hb f5; replace f6 := old hb f6; replace f7 := old hb f7
    have B8_ := Lib.hid (B6_.out.trans (hb.mono B6_.out.size)); clear hb
    clear hz1
    have hz1 : w.heap.size < w7.heap.size := cell_lt f1
    have hz2 : w3.heap.size < w7.heap.size := cell_lt f4
    go_wp2_with fail
    go_ret
    exact ⟨rfl, B8_.out⟩
set_option maxRecDepth 100000 in
set_option maxHeartbeats 16000000 in
theorem tree_yes (z x y : Int) (w : World) (h : goodT z x y = true) (hz : z ≠ 7) :
    Calls Try.prog 6 #[tl z x y] w fun e w' => e = .returned (.bool true) ∧ Below w.heap.size w w' := by
  have CH := Lib.hid (fun (i j : Int) (hi : i = 0 ∨ i = 1) (hj : j = 0 ∨ j = 1) => chi_any h hz hi hj)
  have CC := Lib.hid (fun W => child_any z x y W)
  rw [ch_list h hz] at CC
  have CB : Hid (∀ W, Calls Try.prog 9 #[tl z x y] W fun e w' => e = .returned (.tuple #[bx (x * siz z) (y * siz z) ((x + 1) * siz z) ((y + 1) * siz z), .int .i64 0]) ∧ Below W.heap.size W w') := by
    intro W
    have := boxT_any z x y W
    unfold bxT qB chkT at this
    rw [if_pos h, if_pos h] at this
    exact this
  obtain ⟨g0, g1, g2, g3, g4, g5⟩ := goodT_iff.1 h
  obtain ⟨_, d2, d3, d4⟩ := siz_in g0 g1
  obtain ⟨p1, p2, p3, p4⟩ := mul_in g2 g3 (by omega) d2
  obtain ⟨q1, q2, q3, q4⟩ := mul_in g4 g5 (by omega) d2
  obtain ⟨_, e2⟩ := cnt_next g0 (by omega)
  have a1 : (x + 1) * siz z - x * siz z = siz z := area4
  have a2 : (y + 1) * siz z - y * siz z = siz z := area4
  generalize x * siz z = b0 at *
  generalize y * siz z = b1 at *
  generalize (x + 1) * siz z = b2 at *
  generalize (y + 1) * siz z = b3 at *
  have HA : Hid (siz z * siz z = 4 * (siz (z + 1) * siz (z + 1))) := by show siz z * siz z = _; rw [e2]; grind
  have hq1 : 0 ≤ siz (z + 1) * siz (z + 1) := Int.mul_nonneg (by omega) (by omega)
  have hq2 : siz (z + 1) * siz (z + 1) ≤ 16384 * 16384 := Int.mul_le_mul (by omega) (by omega) (by omega) (by omega)
  obtain ⟨q, hq⟩ : ∃ q, siz (z + 1) * siz (z + 1) = q := ⟨_, rfl⟩
  obtain ⟨Q, hQ⟩ : ∃ q, siz z * siz z = q := ⟨_, rfl⟩
  rw [hq] at hq1 hq2 HA
  rw [hQ] at HA
  obtain ⟨s', hs'⟩ : ∃ q, siz (z + 1) = q := ⟨_, rfl⟩
  obtain ⟨s, hs⟩ : ∃ q, siz z = q := ⟨_, rfl⟩
  rw [hs'] at hq e2 CH
  rw [hs] at hQ e2 a1 a2 d3 d4
  have A1 := Lib.hid a1; have A2 := Lib.hid a2; have HQ1 := Lib.hid hq; have HQ2 := Lib.hid hQ
  have hs2 : 0 ≤ s' ∧ s' ≤ 16384 := by omega
  obtain ⟨sp0, sp1⟩ := hs2
  have hQb : 0 ≤ Q ∧ Q ≤ 1073741824 := by have := HA.out; omega
  clear hs hs' hq hQ a1 a2 e2 d2 h hz g3 g5
  go_enter Try.func6, Try.ntmps6
  go_wp2_with fail
  have I0 : ∀ W, W = w.alloc (.cells #[.int .i64 z, .int .i64 x, .int .i64 y] 23) → (W.cell? ⟨w.heap.size, 0, none⟩ = some (.int .i64 z) ∧ W.cell? ⟨w.heap.size, 1, none⟩ = some (.int .i64 x) ∧ W.cell? ⟨w.heap.size, 2, none⟩ = some (.int .i64 y)) ∧ Below w.heap.size w W := by
    intro W e; subst e
    refine ⟨⟨by go_simp, by go_simp, by go_simp⟩, ?_⟩
    (repeat (first | exact Below.refl _ _ | (refine Below.alloc ?_ (by first | omega | (simp <;> omega)) _)))
  have J0 := I0 _ rfl; clear I0
  generalize w.alloc (.cells #[.int .i64 z, .int .i64 x, .int .i64 y] 23) = W0 at J0 ⊢
  obtain ⟨⟨f1, f2, f3⟩, bb0⟩ := J0
  have B0 := Lib.hid bb0; clear bb0
  refine (CC.out _).mono ?_; rintro e w1 ⟨v, rfl, ht, hb⟩
  obtain ⟨n4, hn4⟩ : ∃ n : Nat, n = 4 := ⟨4, rfl⟩
  obtain ⟨a1, c1, e1⟩ := ht.form; replace e1 : v = .slice a1 n4 c1 := by rw [hn4]; exact e1
  subst e1; have HN4 := Lib.hid hn4; clear hn4
  have hn0 : (n4 == 0) = false := by rw [HN4.out]; rfl
  have hn44 : n4 ≤ 4 := by have := HN4.out; omega
  have hnI : ((n4 : Int) == 0) = false := by rw [HN4.out]; rfl
  have TL := Lib.hid ht; clear ht
  replace f1 := old hb f1; replace f2 := old hb f2; replace f3 := old hb f3
  have B2_ := Lib.hid (B0.out.trans (hb.mono B0.out.size)); clear hb
  have hz1 : w.heap.size < w1.heap.size := cell_lt f1
  go_wp2_with fail
  refine (CB.out _).mono ?_; rintro e w3 ⟨rfl, hb⟩
  replace f1 := old hb f1; replace f2 := old hb f2; replace f3 := old hb f3
  replace TL := Lib.hid (TL.out.below hb)
  have B4_ := Lib.hid (B2_.out.trans (hb.mono B2_.out.size)); clear hb
  clear hz1
  have hz1 : w.heap.size < w3.heap.size := cell_lt f1
  go_wp2_with fail
  have I5 : ∀ W, W = w3.alloc (.cells #[.int .i64 b0, .int .i64 b1, .int .i64 b2, .int .i64 b3] 27) → (W.cell? ⟨w3.heap.size, 0, none⟩ = some (.int .i64 b0) ∧ W.cell? ⟨w3.heap.size, 1, none⟩ = some (.int .i64 b1) ∧ W.cell? ⟨w3.heap.size, 2, none⟩ = some (.int .i64 b2) ∧ W.cell? ⟨w3.heap.size, 3, none⟩ = some (.int .i64 b3)) ∧ Below w3.heap.size w3 W := by
    intro W e; subst e
    refine ⟨⟨by go_simp, by go_simp, by go_simp, by go_simp⟩, ?_⟩
    exact (Below.refl _ _).alloc (Nat.le_refl _) _
  have J5 := I5 _ rfl; clear I5
  generalize w3.alloc (.cells #[.int .i64 b0, .int .i64 b1, .int .i64 b2, .int .i64 b3] 27) = W5 at J5 ⊢
  obtain ⟨⟨f4, f5, f6, f7⟩, bb5⟩ := J5
  replace f1 := old bb5 f1; replace f2 := old bb5 f2; replace f3 := old bb5 f3
  replace TL := Lib.hid (TL.out.below bb5)
  have B6_ := Lib.hid (B4_.out.trans (bb5.mono B4_.out.size)); clear bb5
  go_loopw [6, 7] (fun s6 s7 wr => ∃ k : Nat, ∃ A : Int, k ≤ n4 ∧ s7 = .int .i64 (k : Int) ∧ s6 = .int .i64 A ∧ Hid (A = (k : Int) * q) ∧ 0 ≤ A ∧ A ≤ 1073741824 * (k : Int) ∧ Hid (Below W5.heap.size W5 wr)) (fun _ s7 _ => n4 - (intOf s7).toNat)
  case atStart => exact ⟨0, 0, by omega, rfl, rfl, (by show (0 : Int) = _; simp), by omega, by omega, Below.refl _ _⟩
  case round =>
    obtain ⟨k, A, hk, rfl, rfl, HAK, hA0, hA1, BB⟩ := hrel
    have bb := BB.out
    replace f1 := old bb f1; replace f2 := old bb f2; replace f3 := old bb f3; replace f4 := old bb f4; replace f5 := old bb f5; replace f6 := old bb f6; replace f7 := old bb f7
    replace TL := Lib.hid (TL.out.below bb)
    have B7_ := Lib.hid (B6_.out.trans (bb.mono B6_.out.size)); clear bb
    clear hz1
    have hz1 : w.heap.size < wr.heap.size := cell_lt f1
    have hz2 : w3.heap.size < wr.heap.size := cell_lt f4
    have BW := B7_
    by_cases hk4 : k < n4
    · have hk4' : k < 4 := by have := HN4.out; omega
      obtain ⟨i, j, hi, hj, hnth, hsum⟩ := nth4 (z := z) (x := x) (y := y) hk4'
      obtain ⟨cpar, A0, B0, C0, D0, cbox, cjoin, eca, edb, u1, u2, u3, u4⟩ := CH.out i j hi hj
      obtain ⟨bl, ol, e1, x1, x2, x3⟩ := TL.out.at (k := k) (by simpa using hk4')
      subst e1
      rw [hnth] at x1 x2 x3
      have CPAR := Lib.hid cpar; have CBOX := Lib.hid cbox; have CJ := Lib.hid cjoin
      clear cpar cbox cjoin hnth
      have i1 : (0 : Int) ≤ (k : Int) := by omega
      have i2 : (k : Int) < (n4 : Int) := by omega
      have ECA := Lib.hid eca; have EDB := Lib.hid edb; clear eca edb
      by_cases h0 : 0 < k
      · obtain ⟨i', j', hi', hj', hnth', hsum'⟩ := nth4 (z := z) (x := x) (y := y) (k := k - 1) (by omega)
        obtain ⟨bl', ol', e1, y1, y2, y3⟩ := TL.out.at (k := k - 1) (by simp; omega)
        injection e1 with e1; injection e1 with ee1 ee2; subst ee1 ee2
        rw [hnth'] at y1 y2 y3
        have LT := Lib.hid (less_at (z := z) (x := x) (y := y) hi hj hi' hj' (by omega))
        clear hnth' hi' hj' hsum' hsum hi hj hk4'
        generalize 2 * x + i = X at *
        generalize 2 * y + j = Y at *
        generalize 2 * x + i' = X' at *
        generalize 2 * y + j' = Y' at *
        have g1 : decide (0 < k) = true := by simpa using h0
        have g3 : ((k : Int) - 1).toNat = k - 1 := by omega
        have g4 : (0 : Int) ≤ (k : Int) - 1 := by omega
        have g5 : (k : Int) - 1 < (n4 : Int) := by omega
        have g4b : (1 : Int) ≤ (k : Int) := by omega
        have g5b : (k : Int) ≤ (n4 : Int) := by omega
        have g4c : 1 ≤ k := by omega
        have g6 : IntKind.i64.wrap ((k : Int) - 1) = (k : Int) - 1 := w64 (by omega) (by omega)
        have G3 := Lib.hid g3; have G6 := Lib.hid g6; clear g3 g6
        go_wp2_with fail
        refine (CPAR.out _).mono ?_; rintro e w8 ⟨rfl, hb⟩
        replace f1 := old hb f1; replace f2 := old hb f2; replace f3 := old hb f3; replace f4 := old hb f4; replace f5 := old hb f5; replace f6 := old hb f6; replace f7 := old hb f7; replace x1 := old hb x1; replace x2 := old hb x2; replace x3 := old hb x3; replace y1 := old hb y1; replace y2 := old hb y2; replace y3 := old hb y3
        have B9_ := Lib.hid (BB.out.trans (hb.mono BB.out.size)); clear hb
        clear hz1 hz2
        have hz1 : w.heap.size < w8.heap.size := cell_lt f1
        have hz2 : w3.heap.size < w8.heap.size := cell_lt f4
        have hz3 : bl < w8.heap.size := cell_lt x1
        go_wp2_with fail
        have I10 : ∀ W, W = w8.alloc (.cells #[.int .i64 z, .int .i64 x, .int .i64 y] 23) → (W.cell? ⟨w8.heap.size, 0, none⟩ = some (.int .i64 z) ∧ W.cell? ⟨w8.heap.size, 1, none⟩ = some (.int .i64 x) ∧ W.cell? ⟨w8.heap.size, 2, none⟩ = some (.int .i64 y)) ∧ Below w8.heap.size w8 W := by
          intro W e; subst e
          refine ⟨⟨by go_simp, by go_simp, by go_simp⟩, ?_⟩
          exact (Below.refl _ _).alloc (Nat.le_refl _) _
        have J10 := I10 _ rfl; clear I10
        generalize w8.alloc (.cells #[.int .i64 z, .int .i64 x, .int .i64 y] 23) = W10 at J10 ⊢
        obtain ⟨⟨f8, f9, f10⟩, bb10⟩ := J10
        replace f1 := old bb10 f1; replace f2 := old bb10 f2; replace f3 := old bb10 f3; replace f4 := old bb10 f4; replace f5 := old bb10 f5; replace f6 := old bb10 f6; replace f7 := old bb10 f7; replace x1 := old bb10 x1; replace x2 := old bb10 x2; replace x3 := old bb10 x3; replace y1 := old bb10 y1; replace y2 := old bb10 y2; replace y3 := old bb10 y3
        have B11_ := Lib.hid (B9_.out.trans (bb10.mono B9_.out.size)); clear bb10
        refine (CBOX.out _).mono ?_; rintro e w12 ⟨rfl, hb⟩
        replace f1 := old hb f1; replace f2 := old hb f2; replace f3 := old hb f3; replace f4 := old hb f4; replace f5 := old hb f5; replace f6 := old hb f6; replace f7 := old hb f7; replace x1 := old hb x1; replace x2 := old hb x2; replace x3 := old hb x3; replace y1 := old hb y1; replace y2 := old hb y2; replace y3 := old hb y3; replace f8 := old hb f8; replace f9 := old hb f9; replace f10 := old hb f10
        have B13_ := Lib.hid (B11_.out.trans (hb.mono B11_.out.size)); clear hb
        clear hz1 hz2 hz3
        have hz1 : w.heap.size < w12.heap.size := cell_lt f1
        have hz2 : w3.heap.size < w12.heap.size := cell_lt f4
        have hz3 : bl < w12.heap.size := cell_lt x1
        have hz4 : w8.heap.size < w12.heap.size := cell_lt f8
        go_wp2_with fail
        have I14 : ∀ W, W = w12.alloc (.cells #[.int .i64 A0, .int .i64 B0, .int .i64 C0, .int .i64 D0] 27) → (W.cell? ⟨w12.heap.size, 0, none⟩ = some (.int .i64 A0) ∧ W.cell? ⟨w12.heap.size, 1, none⟩ = some (.int .i64 B0) ∧ W.cell? ⟨w12.heap.size, 2, none⟩ = some (.int .i64 C0) ∧ W.cell? ⟨w12.heap.size, 3, none⟩ = some (.int .i64 D0)) ∧ Below w12.heap.size w12 W := by
          intro W e; subst e
          refine ⟨⟨by go_simp, by go_simp, by go_simp, by go_simp⟩, ?_⟩
          exact (Below.refl _ _).alloc (Nat.le_refl _) _
        have J14 := I14 _ rfl; clear I14
        generalize w12.alloc (.cells #[.int .i64 A0, .int .i64 B0, .int .i64 C0, .int .i64 D0] 27) = W14 at J14 ⊢
        obtain ⟨⟨f11, f12, f13, f14⟩, bb14⟩ := J14
        replace f1 := old bb14 f1; replace f2 := old bb14 f2; replace f3 := old bb14 f3; replace f4 := old bb14 f4; replace f5 := old bb14 f5; replace f6 := old bb14 f6; replace f7 := old bb14 f7; replace x1 := old bb14 x1; replace x2 := old bb14 x2; replace x3 := old bb14 x3; replace y1 := old bb14 y1; replace y2 := old bb14 y2; replace y3 := old bb14 y3; replace f8 := old bb14 f8; replace f9 := old bb14 f9; replace f10 := old bb14 f10
        have B15_ := Lib.hid (B13_.out.trans (bb14.mono B13_.out.size)); clear bb14
        have g3 := G3.out; have g6 := G6.out
        have S0 : Hid (∀ W, W = W14.drew → Below W5.heap.size W5 W ∧ W.cell? ⟨w.heap.size, 0, none⟩ = some (.int .i64 z) ∧ W.cell? ⟨w.heap.size, 1, none⟩ = some (.int .i64 x) ∧ W.cell? ⟨w.heap.size, 2, none⟩ = some (.int .i64 y) ∧ W.cell? ⟨w3.heap.size, 0, none⟩ = some (.int .i64 b0) ∧ W.cell? ⟨w3.heap.size, 1, none⟩ = some (.int .i64 b1) ∧ W.cell? ⟨w3.heap.size, 2, none⟩ = some (.int .i64 b2) ∧ W.cell? ⟨w3.heap.size, 3, none⟩ = some (.int .i64 b3) ∧ W.cell? ⟨bl, ol + k * 3, none⟩ = some (.int .i64 (z + 1)) ∧ W.cell? ⟨bl, ol + k * 3 + 1, none⟩ = some (.int .i64 X) ∧ W.cell? ⟨bl, ol + k * 3 + 2, none⟩ = some (.int .i64 Y) ∧ W.cell? ⟨bl, ol + (k - 1) * 3, none⟩ = some (.int .i64 (z + 1)) ∧ W.cell? ⟨bl, ol + (k - 1) * 3 + 1, none⟩ = some (.int .i64 X') ∧ W.cell? ⟨bl, ol + (k - 1) * 3 + 2, none⟩ = some (.int .i64 Y') ∧ W.cell? ⟨w8.heap.size, 0, none⟩ = some (.int .i64 z) ∧ W.cell? ⟨w8.heap.size, 1, none⟩ = some (.int .i64 x) ∧ W.cell? ⟨w8.heap.size, 2, none⟩ = some (.int .i64 y) ∧ W.cell? ⟨w12.heap.size, 0, none⟩ = some (.int .i64 A0) ∧ W.cell? ⟨w12.heap.size, 1, none⟩ = some (.int .i64 B0) ∧ W.cell? ⟨w12.heap.size, 2, none⟩ = some (.int .i64 C0) ∧ W.cell? ⟨w12.heap.size, 3, none⟩ = some (.int .i64 D0)) := by
          intro W e; subst e
          exact ⟨B15_.out.drew, by go_simp, by go_simp, by go_simp, by go_simp, by go_simp, by go_simp, by go_simp, by go_simp, by go_simp, by go_simp, by go_simp, by go_simp, by go_simp, by go_simp, by go_simp, by go_simp, by go_simp, by go_simp, by go_simp, by go_simp⟩
        go_region_held3 (fun w' => Below W5.heap.size W5 w' ∧ w'.cell? ⟨w.heap.size, 0, none⟩ = some (.int .i64 z) ∧ w'.cell? ⟨w.heap.size, 1, none⟩ = some (.int .i64 x) ∧ w'.cell? ⟨w.heap.size, 2, none⟩ = some (.int .i64 y) ∧ w'.cell? ⟨w3.heap.size, 0, none⟩ = some (.int .i64 b0) ∧ w'.cell? ⟨w3.heap.size, 1, none⟩ = some (.int .i64 b1) ∧ w'.cell? ⟨w3.heap.size, 2, none⟩ = some (.int .i64 b2) ∧ w'.cell? ⟨w3.heap.size, 3, none⟩ = some (.int .i64 b3) ∧ w'.cell? ⟨bl, ol + k * 3, none⟩ = some (.int .i64 (z + 1)) ∧ w'.cell? ⟨bl, ol + k * 3 + 1, none⟩ = some (.int .i64 X) ∧ w'.cell? ⟨bl, ol + k * 3 + 2, none⟩ = some (.int .i64 Y) ∧ w'.cell? ⟨bl, ol + (k - 1) * 3, none⟩ = some (.int .i64 (z + 1)) ∧ w'.cell? ⟨bl, ol + (k - 1) * 3 + 1, none⟩ = some (.int .i64 X') ∧ w'.cell? ⟨bl, ol + (k - 1) * 3 + 2, none⟩ = some (.int .i64 Y') ∧ w'.cell? ⟨w8.heap.size, 0, none⟩ = some (.int .i64 z) ∧ w'.cell? ⟨w8.heap.size, 1, none⟩ = some (.int .i64 x) ∧ w'.cell? ⟨w8.heap.size, 2, none⟩ = some (.int .i64 y) ∧ w'.cell? ⟨w12.heap.size, 0, none⟩ = some (.int .i64 A0) ∧ w'.cell? ⟨w12.heap.size, 1, none⟩ = some (.int .i64 B0) ∧ w'.cell? ⟨w12.heap.size, 2, none⟩ = some (.int .i64 C0) ∧ w'.cell? ⟨w12.heap.size, 3, none⟩ = some (.int .i64 D0))
          (first | exact S0.out _ rfl | assumption | exact keep20 (by assumption) (by assumption))
          (first | (go_at_call 25; (with_reducible refine (LT.out _).mono ?_); rintro e w9 ⟨rfl, bw9⟩) | (go_at_call 31; (with_reducible refine (CJ.out _).mono ?_); rintro e w9 ⟨rfl, bw9⟩))
        clear g3 g6
        rename_i hHeld
        clear f1 f2 f3 f4 f5 f6 f7 x1 x2 x3 y1 y2 y3 f8 f9 f10 f11 f12 f13 f14 hz1 hz2 hz3 hz4
        obtain ⟨hB, f1, f2, f3, f4, f5, f6, f7, x1, x2, x3, y1, y2, y3, f8, f9, f10, f11, f12, f13, f14⟩ := hHeld
        have B9 := Lib.hid hB; clear hB S0
        have eca := ECA.out; have edb := EDB.out; have hqq := HQ1.out
        go_wp2_with fail
        go_roundw
        case rel => exact ⟨k + 1, A + q, by omega, by go_num, rfl, (by show A + q = ((k + 1 : Nat) : Int) * q; have := HAK.out; rw [this]; grind), by omega, by omega, B9⟩
        case measure => simp [intOf]; omega
      · obtain rfl : k = 0 := by omega
        clear hsum hi hj hk4' i1 i2
        generalize 2 * x + i = X at *
        generalize 2 * y + j = Y at *
        simp only [Nat.zero_mul, Nat.add_zero] at x1 x2 x3
        have i2 : (0 : Int) < (n4 : Int) := by omega
        go_wp2_with fail
        refine (CPAR.out _).mono ?_; rintro e w8 ⟨rfl, hb⟩
        replace f1 := old hb f1; replace f2 := old hb f2; replace f3 := old hb f3; replace f4 := old hb f4; replace f5 := old hb f5; replace f6 := old hb f6; replace f7 := old hb f7; replace x1 := old hb x1; replace x2 := old hb x2; replace x3 := old hb x3
        have B9_ := Lib.hid (BB.out.trans (hb.mono BB.out.size)); clear hb
        clear hz1 hz2
        have hz1 : w.heap.size < w8.heap.size := cell_lt f1
        have hz2 : w3.heap.size < w8.heap.size := cell_lt f4
        have hz3 : bl < w8.heap.size := cell_lt x1
        go_wp2_with fail
        have I10 : ∀ W, W = w8.alloc (.cells #[.int .i64 z, .int .i64 x, .int .i64 y] 23) → (W.cell? ⟨w8.heap.size, 0, none⟩ = some (.int .i64 z) ∧ W.cell? ⟨w8.heap.size, 1, none⟩ = some (.int .i64 x) ∧ W.cell? ⟨w8.heap.size, 2, none⟩ = some (.int .i64 y)) ∧ Below w8.heap.size w8 W := by
          intro W e; subst e
          refine ⟨⟨by go_simp, by go_simp, by go_simp⟩, ?_⟩
          exact (Below.refl _ _).alloc (Nat.le_refl _) _
        have J10 := I10 _ rfl; clear I10
        generalize w8.alloc (.cells #[.int .i64 z, .int .i64 x, .int .i64 y] 23) = W10 at J10 ⊢
        obtain ⟨⟨f8, f9, f10⟩, bb10⟩ := J10
        replace f1 := old bb10 f1; replace f2 := old bb10 f2; replace f3 := old bb10 f3; replace f4 := old bb10 f4; replace f5 := old bb10 f5; replace f6 := old bb10 f6; replace f7 := old bb10 f7; replace x1 := old bb10 x1; replace x2 := old bb10 x2; replace x3 := old bb10 x3
        have B11_ := Lib.hid (B9_.out.trans (bb10.mono B9_.out.size)); clear bb10
        refine (CBOX.out _).mono ?_; rintro e w12 ⟨rfl, hb⟩
        replace f1 := old hb f1; replace f2 := old hb f2; replace f3 := old hb f3; replace f4 := old hb f4; replace f5 := old hb f5; replace f6 := old hb f6; replace f7 := old hb f7; replace x1 := old hb x1; replace x2 := old hb x2; replace x3 := old hb x3; replace f8 := old hb f8; replace f9 := old hb f9; replace f10 := old hb f10
        have B13_ := Lib.hid (B11_.out.trans (hb.mono B11_.out.size)); clear hb
        clear hz1 hz2 hz3
        have hz1 : w.heap.size < w12.heap.size := cell_lt f1
        have hz2 : w3.heap.size < w12.heap.size := cell_lt f4
        have hz3 : bl < w12.heap.size := cell_lt x1
        have hz4 : w8.heap.size < w12.heap.size := cell_lt f8
        go_wp2_with fail
        have I14 : ∀ W, W = w12.alloc (.cells #[.int .i64 A0, .int .i64 B0, .int .i64 C0, .int .i64 D0] 27) → (W.cell? ⟨w12.heap.size, 0, none⟩ = some (.int .i64 A0) ∧ W.cell? ⟨w12.heap.size, 1, none⟩ = some (.int .i64 B0) ∧ W.cell? ⟨w12.heap.size, 2, none⟩ = some (.int .i64 C0) ∧ W.cell? ⟨w12.heap.size, 3, none⟩ = some (.int .i64 D0)) ∧ Below w12.heap.size w12 W := by
          intro W e; subst e
          refine ⟨⟨by go_simp, by go_simp, by go_simp, by go_simp⟩, ?_⟩
          exact (Below.refl _ _).alloc (Nat.le_refl _) _
        have J14 := I14 _ rfl; clear I14
        generalize w12.alloc (.cells #[.int .i64 A0, .int .i64 B0, .int .i64 C0, .int .i64 D0] 27) = W14 at J14 ⊢
        obtain ⟨⟨f11, f12, f13, f14⟩, bb14⟩ := J14
        replace f1 := old bb14 f1; replace f2 := old bb14 f2; replace f3 := old bb14 f3; replace f4 := old bb14 f4; replace f5 := old bb14 f5; replace f6 := old bb14 f6; replace f7 := old bb14 f7; replace x1 := old bb14 x1; replace x2 := old bb14 x2; replace x3 := old bb14 x3; replace f8 := old bb14 f8; replace f9 := old bb14 f9; replace f10 := old bb14 f10
        have B15_ := Lib.hid (B13_.out.trans (bb14.mono B13_.out.size)); clear bb14
        have S0 : Hid (∀ W, W = W14.drew → Below W5.heap.size W5 W ∧ W.cell? ⟨w.heap.size, 0, none⟩ = some (.int .i64 z) ∧ W.cell? ⟨w.heap.size, 1, none⟩ = some (.int .i64 x) ∧ W.cell? ⟨w.heap.size, 2, none⟩ = some (.int .i64 y) ∧ W.cell? ⟨w3.heap.size, 0, none⟩ = some (.int .i64 b0) ∧ W.cell? ⟨w3.heap.size, 1, none⟩ = some (.int .i64 b1) ∧ W.cell? ⟨w3.heap.size, 2, none⟩ = some (.int .i64 b2) ∧ W.cell? ⟨w3.heap.size, 3, none⟩ = some (.int .i64 b3) ∧ W.cell? ⟨bl, ol, none⟩ = some (.int .i64 (z + 1)) ∧ W.cell? ⟨bl, ol + 1, none⟩ = some (.int .i64 X) ∧ W.cell? ⟨bl, ol + 2, none⟩ = some (.int .i64 Y) ∧ W.cell? ⟨w8.heap.size, 0, none⟩ = some (.int .i64 z) ∧ W.cell? ⟨w8.heap.size, 1, none⟩ = some (.int .i64 x) ∧ W.cell? ⟨w8.heap.size, 2, none⟩ = some (.int .i64 y) ∧ W.cell? ⟨w12.heap.size, 0, none⟩ = some (.int .i64 A0) ∧ W.cell? ⟨w12.heap.size, 1, none⟩ = some (.int .i64 B0) ∧ W.cell? ⟨w12.heap.size, 2, none⟩ = some (.int .i64 C0) ∧ W.cell? ⟨w12.heap.size, 3, none⟩ = some (.int .i64 D0)) := by
          intro W e; subst e
          exact ⟨B15_.out.drew, by go_simp, by go_simp, by go_simp, by go_simp, by go_simp, by go_simp, by go_simp, by go_simp, by go_simp, by go_simp, by go_simp, by go_simp, by go_simp, by go_simp, by go_simp, by go_simp, by go_simp⟩
        refine wp_region_held_drew (S := fun w' => Below W5.heap.size W5 w' ∧ w'.cell? ⟨w.heap.size, 0, none⟩ = some (.int .i64 z) ∧ w'.cell? ⟨w.heap.size, 1, none⟩ = some (.int .i64 x) ∧ w'.cell? ⟨w.heap.size, 2, none⟩ = some (.int .i64 y) ∧ w'.cell? ⟨w3.heap.size, 0, none⟩ = some (.int .i64 b0) ∧ w'.cell? ⟨w3.heap.size, 1, none⟩ = some (.int .i64 b1) ∧ w'.cell? ⟨w3.heap.size, 2, none⟩ = some (.int .i64 b2) ∧ w'.cell? ⟨w3.heap.size, 3, none⟩ = some (.int .i64 b3) ∧ w'.cell? ⟨bl, ol, none⟩ = some (.int .i64 (z + 1)) ∧ w'.cell? ⟨bl, ol + 1, none⟩ = some (.int .i64 X) ∧ w'.cell? ⟨bl, ol + 2, none⟩ = some (.int .i64 Y) ∧ w'.cell? ⟨w8.heap.size, 0, none⟩ = some (.int .i64 z) ∧ w'.cell? ⟨w8.heap.size, 1, none⟩ = some (.int .i64 x) ∧ w'.cell? ⟨w8.heap.size, 2, none⟩ = some (.int .i64 y) ∧ w'.cell? ⟨w12.heap.size, 0, none⟩ = some (.int .i64 A0) ∧ w'.cell? ⟨w12.heap.size, 1, none⟩ = some (.int .i64 B0) ∧ w'.cell? ⟨w12.heap.size, 2, none⟩ = some (.int .i64 C0) ∧ w'.cell? ⟨w12.heap.size, 3, none⟩ = some (.int .i64 D0)) (by kernel_rfl) (S0.out _ rfl) (fun hHeld => ?_)
        refine wpAnyH_take (i := 0) (v := ?_) rfl (by kernel_rfl) (by kernel_rfl) (by kernel_rfl) (fun _ _ _ h => h) (Or.inl ⟨by rfl, ?_⟩) (by assumption) ?_
        rotate_left 1
        · (intro w hSw; (try dsimp only at hSw); first | (go_simp; done) | (go_simp; with_reducible rfl))
        simp only [Act.put, List.getElem_toArray, List.getElem_cons_zero, List.getElem_cons_succ, List.setIfInBounds_toArray, List.set_cons_zero, List.set_cons_succ]
        refine wpAnyH_take (i := 1) (v := ?_) rfl (by kernel_rfl) (by kernel_rfl) (by kernel_rfl) (fun _ _ _ h => h) (Or.inl ⟨by rfl, ?_⟩) (by assumption) ?_
        rotate_left 1
        · (intro w hSw; (try dsimp only at hSw); first | (go_simp; done) | (go_simp; with_reducible rfl))
        simp only [Act.put, List.getElem_toArray, List.getElem_cons_zero, List.getElem_cons_succ, List.setIfInBounds_toArray, List.set_cons_zero, List.set_cons_succ]
        refine wpAnyH_take (i := 2) (v := ?_) rfl (by kernel_rfl) (by kernel_rfl) (by kernel_rfl) (fun _ _ _ h => h) (Or.inl ⟨by rfl, ?_⟩) (by assumption) ?_
        rotate_left 1
        · (intro w hSw; (try dsimp only at hSw); first | (go_simp; done) | (go_simp; with_reducible rfl))
        simp only [Act.put, List.getElem_toArray, List.getElem_cons_zero, List.getElem_cons_succ, List.setIfInBounds_toArray, List.set_cons_zero, List.set_cons_succ]
        refine wpAnyH_take (i := 3) (v := ?_) rfl (by kernel_rfl) (by kernel_rfl) (by kernel_rfl) (fun _ _ _ h => h) (Or.inl ⟨by rfl, ?_⟩) (by assumption) ?_
        rotate_left 1
        · (intro w hSw; (try dsimp only at hSw); first | (go_simp; done) | (go_simp; with_reducible rfl))
        simp only [Act.put, List.getElem_toArray, List.getElem_cons_zero, List.getElem_cons_succ, List.setIfInBounds_toArray, List.set_cons_zero, List.set_cons_succ]
        refine wpAnyH_take (i := 4) (v := ?_) rfl (by kernel_rfl) (by kernel_rfl) (by kernel_rfl) (fun _ _ _ h => h) (Or.inl ⟨by rfl, ?_⟩) (by assumption) ?_
        rotate_left 1
        · (intro w hSw; (try dsimp only at hSw); first | (go_simp; done) | (go_simp; with_reducible rfl))
        simp only [Act.put, List.getElem_toArray, List.getElem_cons_zero, List.getElem_cons_succ, List.setIfInBounds_toArray, List.set_cons_zero, List.set_cons_succ]
        refine wpAnyH_take (i := 5) (v := ?_) rfl (by kernel_rfl) (by kernel_rfl) (by kernel_rfl) (fun _ _ _ h => h) (Or.inl ⟨by rfl, ?_⟩) (by assumption) ?_
        rotate_left 1
        · (intro w hSw; (try dsimp only at hSw); first | (go_simp; done) | (go_simp; with_reducible rfl))
        simp only [Act.put, List.getElem_toArray, List.getElem_cons_zero, List.getElem_cons_succ, List.setIfInBounds_toArray, List.set_cons_zero, List.set_cons_succ]
        refine wpAnyH_take (i := 6) (v := ?_) rfl (by kernel_rfl) (by kernel_rfl) (by kernel_rfl) (fun _ _ _ h => h) (Or.inl ⟨by rfl, ?_⟩) (by assumption) ?_
        rotate_left 1
        · (intro w hSw; (try dsimp only at hSw); first | (go_simp; done) | (go_simp; with_reducible rfl))
        simp only [Act.put, List.getElem_toArray, List.getElem_cons_zero, List.getElem_cons_succ, List.setIfInBounds_toArray, List.set_cons_zero, List.set_cons_succ]
        refine wpAnyH_take (i := 7) (v := ?_) rfl (by kernel_rfl) (by kernel_rfl) (by kernel_rfl) (fun _ _ _ h => h) (Or.inl ⟨by rfl, ?_⟩) (by assumption) ?_
        rotate_left 1
        · (intro w hSw; (try dsimp only at hSw); first | (go_simp; done) | (go_simp; with_reducible rfl))
        simp only [Act.put, List.getElem_toArray, List.getElem_cons_zero, List.getElem_cons_succ, List.setIfInBounds_toArray, List.set_cons_zero, List.set_cons_succ]
        refine wpAnyH_take (i := 8) (v := ?_) rfl (by kernel_rfl) (by kernel_rfl) (by kernel_rfl) (fun _ _ _ h => h) (Or.inl ⟨by rfl, ?_⟩) (by assumption) ?_
        rotate_left 1
        · (intro w hSw; (try dsimp only at hSw); first | (go_simp; done) | (go_simp; with_reducible rfl))
        simp only [Act.put, List.getElem_toArray, List.getElem_cons_zero, List.getElem_cons_succ, List.setIfInBounds_toArray, List.set_cons_zero, List.set_cons_succ]
        refine wpAnyH_take (i := 9) (v := ?_) rfl (by kernel_rfl) (by kernel_rfl) (by kernel_rfl) (fun _ _ _ h => h) (Or.inl ⟨by rfl, ?_⟩) (by assumption) ?_
        rotate_left 1
        · (intro w hSw; (try dsimp only at hSw); first | (go_simp; done) | (go_simp; with_reducible rfl))
        simp only [Act.put, List.getElem_toArray, List.getElem_cons_zero, List.getElem_cons_succ, List.setIfInBounds_toArray, List.set_cons_zero, List.set_cons_succ]
        refine wpAnyH_take (i := 10) (v := ?_) rfl (by kernel_rfl) (by kernel_rfl) (by kernel_rfl) (fun _ _ _ h => h) (Or.inl ⟨by rfl, ?_⟩) (by assumption) ?_
        rotate_left 1
        · (intro w hSw; (try dsimp only at hSw); first | (go_simp; done) | (go_simp; with_reducible rfl))
        simp only [Act.put, List.getElem_toArray, List.getElem_cons_zero, List.getElem_cons_succ, List.setIfInBounds_toArray, List.set_cons_zero, List.set_cons_succ]
        refine wpAnyH_take (i := 11) (v := ?_) rfl (by kernel_rfl) (by kernel_rfl) (by kernel_rfl) (fun _ _ _ h => h) (Or.inl ⟨by rfl, ?_⟩) (by assumption) ?_
        rotate_left 1
        · (intro w hSw; (try dsimp only at hSw); first | (go_simp; done) | (go_simp; with_reducible rfl))
        simp only [Act.put, List.getElem_toArray, List.getElem_cons_zero, List.getElem_cons_succ, List.setIfInBounds_toArray, List.set_cons_zero, List.set_cons_succ]
        refine wpAnyH_take (i := 12) (v := ?_) rfl (by kernel_rfl) (by kernel_rfl) (by kernel_rfl) (fun _ _ _ h => h) (Or.inl ⟨by rfl, ?_⟩) (by assumption) ?_
        rotate_left 1
        · (intro w hSw; (try dsimp only at hSw); first | (go_simp; done) | (go_simp; with_reducible rfl))
        simp only [Act.put, List.getElem_toArray, List.getElem_cons_zero, List.getElem_cons_succ, List.setIfInBounds_toArray, List.set_cons_zero, List.set_cons_succ]
        refine wpAnyH_take (i := 13) (v := ?_) rfl (by kernel_rfl) (by kernel_rfl) (by kernel_rfl) (fun _ _ _ h => h) (Or.inl ⟨by rfl, ?_⟩) (by assumption) ?_
        rotate_left 1
        · (intro w hSw; (try dsimp only at hSw); first | (go_simp; done) | (go_simp; with_reducible rfl))
        simp only [Act.put, List.getElem_toArray, List.getElem_cons_zero, List.getElem_cons_succ, List.setIfInBounds_toArray, List.set_cons_zero, List.set_cons_succ]
        refine wpAnyH_take (i := 14) (v := ?_) rfl (by kernel_rfl) (by kernel_rfl) (by kernel_rfl) (fun _ _ _ h => h) (Or.inl ⟨by rfl, ?_⟩) (by assumption) ?_
        rotate_left 1
        · (intro w hSw; (try dsimp only at hSw); first | (go_simp; done) | (go_simp; with_reducible rfl))
        simp only [Act.put, List.getElem_toArray, List.getElem_cons_zero, List.getElem_cons_succ, List.setIfInBounds_toArray, List.set_cons_zero, List.set_cons_succ]
        refine wpAnyH_take (i := 15) (v := undef) rfl (by kernel_rfl) (by kernel_rfl) (by kernel_rfl) (fun _ _ _ h => h) (Or.inr ⟨by rfl, rfl⟩) (by assumption) ?_
        simp only [Act.put, List.getElem_toArray, List.getElem_cons_zero, List.getElem_cons_succ, List.setIfInBounds_toArray, List.set_cons_zero, List.set_cons_succ]
        refine wpAnyH_take (i := 16) (v := undef) rfl (by kernel_rfl) (by kernel_rfl) (by kernel_rfl) (fun _ _ _ h => h) (Or.inr ⟨by rfl, rfl⟩) (by assumption) ?_
        simp only [Act.put, List.getElem_toArray, List.getElem_cons_zero, List.getElem_cons_succ, List.setIfInBounds_toArray, List.set_cons_zero, List.set_cons_succ]
        refine wpAnyH_take (i := 17) (v := undef) rfl (by kernel_rfl) (by kernel_rfl) (by kernel_rfl) (fun _ _ _ h => h) (Or.inr ⟨by rfl, rfl⟩) (by assumption) ?_
        simp only [Act.put, List.getElem_toArray, List.getElem_cons_zero, List.getElem_cons_succ, List.setIfInBounds_toArray, List.set_cons_zero, List.set_cons_succ]
        refine wpAnyH_take (i := 18) (v := undef) rfl (by kernel_rfl) (by kernel_rfl) (by kernel_rfl) (fun _ _ _ h => h) (Or.inr ⟨by rfl, rfl⟩) (by assumption) ?_
        simp only [Act.put, List.getElem_toArray, List.getElem_cons_zero, List.getElem_cons_succ, List.setIfInBounds_toArray, List.set_cons_zero, List.set_cons_succ]
        refine wpAnyH_take (i := 19) (v := undef) rfl (by kernel_rfl) (by kernel_rfl) (by kernel_rfl) (fun _ _ _ h => h) (Or.inr ⟨by rfl, rfl⟩) (by assumption) ?_
        simp only [Act.put, List.getElem_toArray, List.getElem_cons_zero, List.getElem_cons_succ, List.setIfInBounds_toArray, List.set_cons_zero, List.set_cons_succ]
        refine wpAnyH_take (i := 20) (v := undef) rfl (by kernel_rfl) (by kernel_rfl) (by kernel_rfl) (fun _ _ _ h => h) (Or.inr ⟨by rfl, rfl⟩) (by assumption) ?_
        simp only [Act.put, List.getElem_toArray, List.getElem_cons_zero, List.getElem_cons_succ, List.setIfInBounds_toArray, List.set_cons_zero, List.set_cons_succ]
        refine wpAnyH_take (i := 21) (v := undef) rfl (by kernel_rfl) (by kernel_rfl) (by kernel_rfl) (fun _ _ _ h => h) (Or.inr ⟨by rfl, rfl⟩) (by assumption) ?_
        simp only [Act.put, List.getElem_toArray, List.getElem_cons_zero, List.getElem_cons_succ, List.setIfInBounds_toArray, List.set_cons_zero, List.set_cons_succ]
        refine wpAnyH_take (i := 22) (v := undef) rfl (by kernel_rfl) (by kernel_rfl) (by kernel_rfl) (fun _ _ _ h => h) (Or.inr ⟨by rfl, rfl⟩) (by assumption) ?_
        simp only [Act.put, List.getElem_toArray, List.getElem_cons_zero, List.getElem_cons_succ, List.setIfInBounds_toArray, List.set_cons_zero, List.set_cons_succ]
        refine wpAnyH_take (i := 23) (v := undef) rfl (by kernel_rfl) (by kernel_rfl) (by kernel_rfl) (fun _ _ _ h => h) (Or.inr ⟨by rfl, rfl⟩) (by assumption) ?_
        simp only [Act.put, List.getElem_toArray, List.getElem_cons_zero, List.getElem_cons_succ, List.setIfInBounds_toArray, List.set_cons_zero, List.set_cons_succ]
        refine wpAnyH_take (i := 24) (v := undef) rfl (by kernel_rfl) (by kernel_rfl) (by kernel_rfl) (fun _ _ _ h => h) (Or.inr ⟨by rfl, rfl⟩) (by assumption) ?_
        simp only [Act.put, List.getElem_toArray, List.getElem_cons_zero, List.getElem_cons_succ, List.setIfInBounds_toArray, List.set_cons_zero, List.set_cons_succ]
        refine wpAnyH_take (i := 25) (v := undef) rfl (by kernel_rfl) (by kernel_rfl) (by kernel_rfl) (fun _ _ _ h => h) (Or.inr ⟨by rfl, rfl⟩) (by assumption) ?_
        simp only [Act.put, List.getElem_toArray, List.getElem_cons_zero, List.getElem_cons_succ, List.setIfInBounds_toArray, List.set_cons_zero, List.set_cons_succ]
        refine wpAnyH_take (i := 26) (v := ?_) rfl (by kernel_rfl) (by kernel_rfl) (by kernel_rfl) (fun _ _ _ h => h) (Or.inl ⟨by rfl, ?_⟩) (by assumption) ?_
        rotate_left 1
        · (intro w hSw; (try dsimp only at hSw); first | (go_simp; done) | (go_simp; with_reducible rfl))
        simp only [Act.put, List.getElem_toArray, List.getElem_cons_zero, List.getElem_cons_succ, List.setIfInBounds_toArray, List.set_cons_zero, List.set_cons_succ]
        refine wpAnyH_take (i := 27) (v := ?_) rfl (by kernel_rfl) (by kernel_rfl) (by kernel_rfl) (fun _ _ _ h => h) (Or.inl ⟨by rfl, ?_⟩) (by assumption) ?_
        rotate_left 1
        · (intro w hSw; (try dsimp only at hSw); first | (go_simp; done) | (go_simp; with_reducible rfl))
        simp only [Act.put, List.getElem_toArray, List.getElem_cons_zero, List.getElem_cons_succ, List.setIfInBounds_toArray, List.set_cons_zero, List.set_cons_succ]
        refine wpAnyH_take (i := 28) (v := ?_) rfl (by kernel_rfl) (by kernel_rfl) (by kernel_rfl) (fun _ _ _ h => h) (Or.inl ⟨by rfl, ?_⟩) (by assumption) ?_
        rotate_left 1
        · (intro w hSw; (try dsimp only at hSw); first | (go_simp; done) | (go_simp; with_reducible rfl))
        simp only [Act.put, List.getElem_toArray, List.getElem_cons_zero, List.getElem_cons_succ, List.setIfInBounds_toArray, List.set_cons_zero, List.set_cons_succ]
        refine wpAnyH_take (i := 29) (v := ?_) rfl (by kernel_rfl) (by kernel_rfl) (by kernel_rfl) (fun _ _ _ h => h) (Or.inl ⟨by rfl, ?_⟩) (by assumption) ?_
        rotate_left 1
        · (intro w hSw; (try dsimp only at hSw); first | (go_simp; done) | (go_simp; with_reducible rfl))
        simp only [Act.put, List.getElem_toArray, List.getElem_cons_zero, List.getElem_cons_succ, List.setIfInBounds_toArray, List.set_cons_zero, List.set_cons_succ]
        refine wpAnyH_take (i := 30) (v := ?_) rfl (by kernel_rfl) (by kernel_rfl) (by kernel_rfl) (fun _ _ _ h => h) (Or.inl ⟨by rfl, ?_⟩) (by assumption) ?_
        rotate_left 1
        · (intro w hSw; (try dsimp only at hSw); first | (go_simp; done) | (go_simp; with_reducible rfl))
        simp only [Act.put, List.getElem_toArray, List.getElem_cons_zero, List.getElem_cons_succ, List.setIfInBounds_toArray, List.set_cons_zero, List.set_cons_succ]
        refine wpAnyH_take (i := 32) (v := ?_) rfl (by kernel_rfl) (by kernel_rfl) (by kernel_rfl) (fun _ _ _ h => h) (Or.inl ⟨by rfl, ?_⟩) (by assumption) ?_
        rotate_left 1
        · (intro w hSw; (try dsimp only at hSw); first | (go_simp; done) | (go_simp; with_reducible rfl))
        simp only [Act.put, List.getElem_toArray, List.getElem_cons_zero, List.getElem_cons_succ, List.setIfInBounds_toArray, List.set_cons_zero, List.set_cons_succ]
        refine wpAnyH_ready (rs := [31]) (by kernel_rfl) (by simp) ?_
        refine AllReadyH.cons rfl (fun K hK => ?_) AllReadyH.nil
        go_simp
        go_wp2_with (first | (go_at_call 31; (with_reducible refine (CJ.out _).mono ?_); rintro e w9 ⟨rfl, b9⟩))
        refine hK.out _ _ (by first | assumption | exact keep17 (by assumption) (by assumption)) (fun hHeld2 => ?_)
        clear hK K hHeld; have hHeld := hHeld2; clear hHeld2
        refine wpAnyH_take (i := 33) (v := ?_) rfl (by kernel_rfl) (by kernel_rfl) (by kernel_rfl) (fun _ _ _ h => h) (Or.inl ⟨by rfl, ?_⟩) (by assumption) ?_
        rotate_left 1
        · (intro w hSw; (try dsimp only at hSw); first | (go_simp; done) | (go_simp; with_reducible rfl))
        simp only [Act.put, List.getElem_toArray, List.getElem_cons_zero, List.getElem_cons_succ, List.setIfInBounds_toArray, List.set_cons_zero, List.set_cons_succ]
        refine wpAnyH_take (i := 34) (v := ?_) rfl (by kernel_rfl) (by kernel_rfl) (by kernel_rfl) (fun _ _ _ h => h) (Or.inl ⟨by rfl, ?_⟩) (by assumption) ?_
        rotate_left 1
        · (intro w hSw; (try dsimp only at hSw); first | (go_simp; done) | (go_simp; with_reducible rfl))
        simp only [Act.put, List.getElem_toArray, List.getElem_cons_zero, List.getElem_cons_succ, List.setIfInBounds_toArray, List.set_cons_zero, List.set_cons_succ]
        refine wpAnyH_done (by kernel_rfl) ?_ _
        clear f1 f2 f3 f4 f5 f6 f7 x1 x2 x3 f8 f9 f10 f11 f12 f13 f14 hz1 hz2 hz3 hz4
        obtain ⟨hB, f1, f2, f3, f4, f5, f6, f7, x1, x2, x3, f8, f9, f10, f11, f12, f13, f14⟩ := hHeld
        have B9 := Lib.hid hB; clear hB S0
        have eca := ECA.out; have edb := EDB.out; have hqq := HQ1.out
        go_wp2_with fail
        go_roundw
        case rel => exact ⟨0 + 1, A + q, by omega, by go_num, rfl, (by show A + q = ((0 + 1 : Nat) : Int) * q; have := HAK.out; rw [this]; grind), by omega, by omega, B9⟩
        case measure => simp [intOf]; omega
    · obtain rfl : k = n4 := by omega
      have a1 := A1.out; have a2 := A2.out; have hqq := HQ2.out
      have hAQ : A = Q := by have h1 := HAK.out; have h2 := HA.out; have h3 := HN4.out; rw [h3] at h1; rw [h1, h2]; rfl
      subst hAQ
      have hn4b : ((k : Int) == 4) = true := by rw [HN4.out]; rfl
      have hn4c : (k == 4) = true := by rw [HN4.out]; rfl
      go_wp2_with fail
      refine (lives_any _).mono ?_; rintro e w9 ⟨rfl, hb9⟩
      have HB9 := Lib.hid (BW.out.trans (hb9.mono BW.out.size)); clear hb9
      go_wp2_with fail
      go_ret
      exact ⟨rfl, HB9.out⟩
theorem tilegridTree_walk (vt : Value) (w : World) (ht : IsTl vt) : Calls Try.prog 6 #[vt] w fun e w' => e = .returned (.bool true) ∧ Below w.heap.size w w' := by
  obtain ⟨z, x, y, rfl, _, _, _⟩ := ht
  cases hg : goodT z x y
  · refine tree_no z x y w (by rw [hg]; simp) (Or.inl ?_)
    unfold chkT; rw [if_neg (by rw [hg]; simp)]; rfl
  · by_cases hz : z = 7
    · exact tree_no z x y w (by rw [hz]; simp) (Or.inr ⟨by unfold chkT; rw [if_pos hg], hz⟩)
    · exact tree_yes z x y w hg hz
end Go.Proofs.Ytoibhapjkeakbaa
