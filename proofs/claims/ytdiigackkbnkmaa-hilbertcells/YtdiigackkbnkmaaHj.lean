/- The Hilbert curve: HilbertCells, the squares. -/
import Derived.Test.YtdiigackkbnkmaaHh
namespace Go.Proofs.Ytdiigackkbnkmaa
open Go.ChangeShapes Go.WideShapes Go.ChangeAt Go.RowKit Go.Joins Go.Deep

theorem keep0 {w wr w2 : World} {p : Prop} (h : Below w.heap.size w wr ∧ p) (hb : Below wr.heap.size wr w2) : Below w.heap.size w w2 ∧ p :=
  ⟨h.1.trans (hb.mono h.1.size), h.2⟩
theorem tdiv_bd {x s : Int} (h : 0 ≤ x) (hs : 0 < s) : x.tdiv s = x / s ∧ 0 ≤ x / s ∧ x / s ≤ x := by
  exact ⟨Int.tdiv_eq_ediv_of_nonneg h, Int.ediv_nonneg h (by omega), Int.ediv_le_self s h⟩
set_option maxHeartbeats 8000000 in
theorem cells_yes (x y u v k : Int) (w : World) (k0 : 0 ≤ k) (k1 : k ≤ 15) (h1 : 0 ≤ x) (h2 : x < 32768) (h3 : 0 ≤ y) (h4 : y < 32768) (h5 : 0 ≤ u) (h6 : u < 32768) (h7 : 0 ≤ v) (h8 : v < 32768) :
    Calls Try.prog 13 #[pt x y, pt u v, .int .i64 k] w fun e w' => e = .returned (.bool true) ∧ Below w.heap.size w w' := by
  obtain ⟨n, rfl⟩ := Int.eq_ofNat_of_zero_le k0
  have v1 : vldB x y = true := vldB_iff.2 ⟨h1, by omega, h3, by omega⟩
  have v2 : vldB u v = true := vldB_iff.2 ⟨h5, by omega, h7, by omega⟩
  have hE := cell_eq n (by omega) v1 v2
  have ia := idx_bd v1; have ib := idx_bd v2
  obtain ⟨A, hA⟩ : ∃ A, idx x y = A := ⟨_, rfl⟩
  obtain ⟨B, hB⟩ : ∃ B, idx u v = B := ⟨_, rfl⟩
  rw [hA, hB] at hE; rw [hA] at ia; rw [hB] at ib
  have ia' : 0 ≤ A ∧ A < 1073741824 := by unfold okI at ia; simpa using ia
  have ib' : 0 ≤ B ∧ B < 1073741824 := by unfold okI at ib; simpa using ib
  obtain ⟨a0, a1⟩ := ia'; obtain ⟨b0, b1⟩ := ib'
  have sp := p2pos n
  have sle : (2 : Int) ^ n ≤ 32768 := by
    rcases Nat.lt_or_ge n 15 with h | h
    · have := p2le (k := n) (by omega); omega
    · obtain rfl : n = 15 := by omega
      decide
  obtain ⟨s, hs⟩ : ∃ s : Int, 2 ^ n = s := ⟨_, rfl⟩
  rw [hs] at hE sp sle
  have sne : (s == 0) = false := by simp; omega
  have HA := Lib.hid hA; have HB := Lib.hid hB
  clear hA hB ia ib v1 v2
  obtain ⟨tx, x0, x1⟩ := tdiv_bd h1 sp
  obtain ⟨ty, y0, y1⟩ := tdiv_bd h3 sp
  obtain ⟨tu, u0, u1⟩ := tdiv_bd h5 sp
  obtain ⟨tv, v0, v1⟩ := tdiv_bd h7 sp
  obtain ⟨ta, p0, p1⟩ := tdiv_bd a0 sp
  obtain ⟨tb, q0, q1⟩ := tdiv_bd b0 sp
  obtain ⟨ta2, p2, p3⟩ := tdiv_bd p0 sp
  obtain ⟨tb2, q2, q3⟩ := tdiv_bd q0 sp
  obtain ⟨X, eX⟩ : ∃ X, x / s = X := ⟨_, rfl⟩
  obtain ⟨Y, eY⟩ : ∃ X, y / s = X := ⟨_, rfl⟩
  obtain ⟨U, eU⟩ : ∃ X, u / s = X := ⟨_, rfl⟩
  obtain ⟨V, eV⟩ : ∃ X, v / s = X := ⟨_, rfl⟩
  obtain ⟨A1, eA1⟩ : ∃ X, A / s = X := ⟨_, rfl⟩
  obtain ⟨B1, eB1⟩ : ∃ X, B / s = X := ⟨_, rfl⟩
  rw [eX] at tx x0 x1 hE; rw [eY] at ty y0 y1 hE; rw [eU] at tu u0 u1 hE; rw [eV] at tv v0 v1 hE
  rw [eA1] at ta p0 p1 ta2 p2 p3 hE; rw [eB1] at tb q0 q1 tb2 q2 q3 hE
  obtain ⟨A2, eA2⟩ : ∃ X, A1 / s = X := ⟨_, rfl⟩
  obtain ⟨B2, eB2⟩ : ∃ X, B1 / s = X := ⟨_, rfl⟩
  rw [eA2] at ta2 p2 p3 hE; rw [eB2] at tb2 q2 q3 hE
  clear eX eY eU eV eA1 eB1 eA2 eB2
  have wr64 : ∀ z : Int, 0 ≤ z → z < 1073741824 → IntKind.i64.wrap z = z := by
    intro z z0 z1
    rw [IntKind.wrap_i64]; omega
  have W1 := Lib.hid (wr64 A1 p0 (by omega)); have W2 := Lib.hid (wr64 A2 p2 (by omega)); have W3 := Lib.hid (wr64 B1 q0 (by omega)); have W4 := Lib.hid (wr64 B2 q2 (by omega)); have W5 := Lib.hid sne; have W6 := Lib.hid ta; have W7 := Lib.hid tb; have W8 := Lib.hid ta2; have W9 := Lib.hid tb2
  clear wr64
  have hc : (X = U ∧ Y = V ∧ A2 = B2) ∨ ((X == U) = false ∧ (A2 == B2) = false) ∨ (X = U ∧ (Y == V) = false ∧ (A2 == B2) = false) := by
    simp; omega
  have S0 : Hid (∀ W, W = ((w.alloc (.cells #[.int .i64 x, .int .i64 y] 23)).alloc (.cells #[.int .i64 u, .int .i64 v] 23)).drew → Below w.heap.size w W ∧ W.cell? ⟨w.heap.size, 0, none⟩ = some (.int .i64 x) ∧ W.cell? ⟨w.heap.size, 1, none⟩ = some (.int .i64 y) ∧ W.cell? ⟨w.heap.size + 1, 0, none⟩ = some (.int .i64 u) ∧ W.cell? ⟨w.heap.size + 1, 1, none⟩ = some (.int .i64 v)) := by
    intro W e; subst e
    exact ⟨(((Below.refl _ _).alloc (Nat.le_refl _) _).alloc (by simp) _).drew, by go_simp, by go_simp, by go_simp, by go_simp⟩
  clear hE
  go_enter Try.func13, Try.ntmps13
  go_wp2_with fail
  go_region_held3 (fun w' => Below w.heap.size w w' ∧ w'.cell? ⟨w.heap.size, 0, none⟩ = some (.int .i64 x) ∧ w'.cell? ⟨w.heap.size, 1, none⟩ = some (.int .i64 y) ∧ w'.cell? ⟨w.heap.size + 1, 0, none⟩ = some (.int .i64 u) ∧ w'.cell? ⟨w.heap.size + 1, 1, none⟩ = some (.int .i64 v))
    (first | exact S0.out _ rfl | assumption | exact keep4 (by assumption) (by assumption))
    (first
      | (go_at_call 32; (with_reducible refine (index_any _ _ _).mono ?_); rintro en w1 ⟨rfl, b1⟩; first | rw [HA.out] | rw [HB.out]))
  rename_i wq HW
  obtain ⟨HWB, c0, c1, c2, c3⟩ := HW
  have HWB' := Lib.hid HWB
  clear HWB S0
  rcases hc with ⟨rfl, rfl, rfl⟩ | ⟨e1, e2⟩ | ⟨rfl, e1, e2⟩
  all_goals
    go_wp2_with fail
    go_quiet (fail)
    go_wp2_with fail
    clear sne ta tb ta2 tb2
    have w1 := W1.out; have w2 := W2.out; have w3 := W3.out; have w4 := W4.out; have sne := W5.out; have ta := W6.out; have tb := W7.out; have ta2 := W8.out; have tb2 := W9.out
    have sne2 : ¬ (s = 0) := by omega
    have sne3 : decide (s = 0) = false := by simp; omega
    have ga := W6.out; have gb := W7.out
    clear W1 W2 W3 W4 W5 W6 W7 W8 W9
    first
    | (go_region_held3 (fun w' => Below w.heap.size w w' ∧ True)
      (first | exact ⟨(below_drewN HWB'.out _).drew, trivial⟩ | assumption | exact keep0 (by assumption) (by assumption))
      (first
        | (go_at_call 34; (with_reducible refine (livesH_any _).mono ?_); rintro en w1 ⟨rfl, b1⟩)))
    | fail
    all_goals go_wp2
    all_goals go_ret
    all_goals exact ⟨rfl, bel_of (by assumption)⟩
theorem hilbertCells_walk (vp vq : Value) (k : Int) (w : World) (hp : IsPt vp) (hq : IsPt vq) (_ : (Lit.int .i64 k).wf = true) :
    Calls Try.prog 13 #[vp, vq, .int .i64 k] w fun e w' => e = .returned (.bool true) ∧ Below w.heap.size w w' := by
  obtain ⟨x, y, rfl, _, _⟩ := hp
  obtain ⟨u, v, rfl, _, _⟩ := hq
  rcases Int.lt_or_le k 0 with h1 | h1
  · exact cells_no x y u v k w (Or.inl h1)
  rcases Int.lt_or_le 15 k with h2 | h2
  · exact cells_no x y u v k w (Or.inr (Or.inl ⟨h1, h2⟩))
  rcases Int.lt_or_le x 0 with h3 | h3
  · exact cells_no x y u v k w (Or.inr (Or.inr (Or.inl ⟨h1, h2, h3⟩)))
  rcases Int.lt_or_le x 32768 with h4 | h4
  rotate_left
  · exact cells_no x y u v k w (Or.inr (Or.inr (Or.inr (Or.inl ⟨h1, h2, h3, h4⟩))))
  rcases Int.lt_or_le y 0 with h5 | h5
  · exact cells_no x y u v k w (Or.inr (Or.inr (Or.inr (Or.inr (Or.inl ⟨h1, h2, h3, h4, h5⟩)))))
  rcases Int.lt_or_le y 32768 with h6 | h6
  rotate_left
  · exact cells_no x y u v k w (Or.inr (Or.inr (Or.inr (Or.inr (Or.inr (Or.inl ⟨h1, h2, h3, h4, h5, h6⟩))))))
  rcases Int.lt_or_le u 0 with h7 | h7
  · exact cells_no x y u v k w (Or.inr (Or.inr (Or.inr (Or.inr (Or.inr (Or.inr (Or.inl ⟨h1, h2, h3, h4, h5, h6, h7⟩)))))))
  rcases Int.lt_or_le u 32768 with h8 | h8
  rotate_left
  · exact cells_no x y u v k w (Or.inr (Or.inr (Or.inr (Or.inr (Or.inr (Or.inr (Or.inr (Or.inl ⟨h1, h2, h3, h4, h5, h6, h7, h8⟩))))))))
  rcases Int.lt_or_le v 0 with h9 | h9
  · exact cells_no x y u v k w (Or.inr (Or.inr (Or.inr (Or.inr (Or.inr (Or.inr (Or.inr (Or.inr (Or.inl ⟨h1, h2, h3, h4, h5, h6, h7, h8, h9⟩)))))))))
  rcases Int.lt_or_le v 32768 with h10 | h10
  rotate_left
  · exact cells_no x y u v k w (Or.inr (Or.inr (Or.inr (Or.inr (Or.inr (Or.inr (Or.inr (Or.inr (Or.inr ⟨h1, h2, h3, h4, h5, h6, h7, h8, h9, h10⟩)))))))))
  exact cells_yes x y u v k w h1 h2 h3 h4 h5 h6 h7 h8 h9 h10
end Go.Proofs.Ytdiigackkbnkmaa
