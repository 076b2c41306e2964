/- seg: the walk of SegTurns. -/
import Derived.Test.YtlcbmikcjgidjaaSm
namespace Go.Proofs.Ytlcbmikcjgidjaa
open Go.ChangeShapes Go.WideShapes Go.ChangeAt Go.RowKit Go.Joins Go.Deep

theorem keep16 {w wr w2 : World} {p1 p2 p3 p4 p5 p6 p7 p8 p9 p10 p11 p12 p13 p14 p15 p16 : Addr} {v1 v2 v3 v4 v5 v6 v7 v8 v9 v10 v11 v12 v13 v14 v15 v16 : Value}
    (h : Below w.heap.size w wr ∧ wr.cell? p1 = some v1 ∧ wr.cell? p2 = some v2 ∧ wr.cell? p3 = some v3 ∧ wr.cell? p4 = some v4 ∧ wr.cell? p5 = some v5 ∧ wr.cell? p6 = some v6 ∧ wr.cell? p7 = some v7 ∧ wr.cell? p8 = some v8 ∧ wr.cell? p9 = some v9 ∧ wr.cell? p10 = some v10 ∧ wr.cell? p11 = some v11 ∧ wr.cell? p12 = some v12 ∧ wr.cell? p13 = some v13 ∧ wr.cell? p14 = some v14 ∧ wr.cell? p15 = some v15 ∧ wr.cell? p16 = some v16) (hb : Below wr.heap.size wr w2) :
    Below w.heap.size w w2 ∧ w2.cell? p1 = some v1 ∧ w2.cell? p2 = some v2 ∧ w2.cell? p3 = some v3 ∧ w2.cell? p4 = some v4 ∧ w2.cell? p5 = some v5 ∧ w2.cell? p6 = some v6 ∧ w2.cell? p7 = some v7 ∧ w2.cell? p8 = some v8 ∧ w2.cell? p9 = some v9 ∧ w2.cell? p10 = some v10 ∧ w2.cell? p11 = some v11 ∧ w2.cell? p12 = some v12 ∧ w2.cell? p13 = some v13 ∧ w2.cell? p14 = some v14 ∧ w2.cell? p15 = some v15 ∧ w2.cell? p16 = some v16 :=
  ⟨h.1.trans (hb.mono h.1.size), old hb h.2.1, old hb h.2.2.1, old hb h.2.2.2.1, old hb h.2.2.2.2.1, old hb h.2.2.2.2.2.1, old hb h.2.2.2.2.2.2.1, old hb h.2.2.2.2.2.2.2.1, old hb h.2.2.2.2.2.2.2.2.1, old hb h.2.2.2.2.2.2.2.2.2.1, old hb h.2.2.2.2.2.2.2.2.2.2.1, old hb h.2.2.2.2.2.2.2.2.2.2.2.1, old hb h.2.2.2.2.2.2.2.2.2.2.2.2.1, old hb h.2.2.2.2.2.2.2.2.2.2.2.2.2.1, old hb h.2.2.2.2.2.2.2.2.2.2.2.2.2.2.1, old hb h.2.2.2.2.2.2.2.2.2.2.2.2.2.2.2.1, old hb h.2.2.2.2.2.2.2.2.2.2.2.2.2.2.2.2⟩
theorem read4 {w : World} {g1 g2 i : Nat} {a b c d v : Value} (hne : g2 ≠ g1) (h : w.cell? ⟨g1, i, none⟩ = some v) :
    ((((w.setCell ⟨g2, 0, none⟩ a).setCell ⟨g2, 1, none⟩ b).setCell ⟨g2, 2, none⟩ c).setCell ⟨g2, 3, none⟩ d).cell? ⟨g1, i, none⟩ = some v := by
  rw [World.cell?_setCell_far _ ⟨g2, 3, none⟩ ⟨g1, i, none⟩ d hne, World.cell?_setCell_far _ ⟨g2, 2, none⟩ ⟨g1, i, none⟩ c hne, World.cell?_setCell_far _ ⟨g2, 1, none⟩ ⟨g1, i, none⟩ b hne, World.cell?_setCell_far _ ⟨g2, 0, none⟩ ⟨g1, i, none⟩ a hne]
  exact h
theorem own4 {w : World} {g : Nat} {a b c d z : Value} (k0 : w.cell? ⟨g, 0, none⟩ = some z) (k1 : w.cell? ⟨g, 1, none⟩ = some z) (k2 : w.cell? ⟨g, 2, none⟩ = some z) (k3 : w.cell? ⟨g, 3, none⟩ = some z) :
    ((((w.setCell ⟨g, 0, none⟩ a).setCell ⟨g, 1, none⟩ b).setCell ⟨g, 2, none⟩ c).setCell ⟨g, 3, none⟩ d).cell? ⟨g, 0, none⟩ = some a ∧ ((((w.setCell ⟨g, 0, none⟩ a).setCell ⟨g, 1, none⟩ b).setCell ⟨g, 2, none⟩ c).setCell ⟨g, 3, none⟩ d).cell? ⟨g, 1, none⟩ = some b ∧ ((((w.setCell ⟨g, 0, none⟩ a).setCell ⟨g, 1, none⟩ b).setCell ⟨g, 2, none⟩ c).setCell ⟨g, 3, none⟩ d).cell? ⟨g, 2, none⟩ = some c ∧ ((((w.setCell ⟨g, 0, none⟩ a).setCell ⟨g, 1, none⟩ b).setCell ⟨g, 2, none⟩ c).setCell ⟨g, 3, none⟩ d).cell? ⟨g, 3, none⟩ = some d := by
  refine ⟨?_, ?_, ?_, ?_⟩ <;> go_simp
theorem fin8 {w : World} {g1 g2 : Nat} {z a b c d a' b' c' d' : Value} (hne : g2 ≠ g1)
    (k : (w.cell? ⟨g1, 0, none⟩ = some z ∧ w.cell? ⟨g1, 1, none⟩ = some z ∧ w.cell? ⟨g1, 2, none⟩ = some z ∧ w.cell? ⟨g1, 3, none⟩ = some z) ∧ w.cell? ⟨g2, 0, none⟩ = some z ∧ w.cell? ⟨g2, 1, none⟩ = some z ∧ w.cell? ⟨g2, 2, none⟩ = some z ∧ w.cell? ⟨g2, 3, none⟩ = some z) :
    (((((((((w.setCell ⟨g1, 0, none⟩ a).setCell ⟨g1, 1, none⟩ b).setCell ⟨g1, 2, none⟩ c).setCell ⟨g1, 3, none⟩ d).setCell ⟨g2, 0, none⟩ a').setCell ⟨g2, 1, none⟩ b').setCell ⟨g2, 2, none⟩ c').setCell ⟨g2, 3, none⟩ d').cell? ⟨g1, 0, none⟩ = some a ∧ ((((((((w.setCell ⟨g1, 0, none⟩ a).setCell ⟨g1, 1, none⟩ b).setCell ⟨g1, 2, none⟩ c).setCell ⟨g1, 3, none⟩ d).setCell ⟨g2, 0, none⟩ a').setCell ⟨g2, 1, none⟩ b').setCell ⟨g2, 2, none⟩ c').setCell ⟨g2, 3, none⟩ d').cell? ⟨g1, 1, none⟩ = some b ∧ ((((((((w.setCell ⟨g1, 0, none⟩ a).setCell ⟨g1, 1, none⟩ b).setCell ⟨g1, 2, none⟩ c).setCell ⟨g1, 3, none⟩ d).setCell ⟨g2, 0, none⟩ a').setCell ⟨g2, 1, none⟩ b').setCell ⟨g2, 2, none⟩ c').setCell ⟨g2, 3, none⟩ d').cell? ⟨g1, 2, none⟩ = some c ∧ ((((((((w.setCell ⟨g1, 0, none⟩ a).setCell ⟨g1, 1, none⟩ b).setCell ⟨g1, 2, none⟩ c).setCell ⟨g1, 3, none⟩ d).setCell ⟨g2, 0, none⟩ a').setCell ⟨g2, 1, none⟩ b').setCell ⟨g2, 2, none⟩ c').setCell ⟨g2, 3, none⟩ d').cell? ⟨g1, 3, none⟩ = some d) ∧ ((((((((w.setCell ⟨g1, 0, none⟩ a).setCell ⟨g1, 1, none⟩ b).setCell ⟨g1, 2, none⟩ c).setCell ⟨g1, 3, none⟩ d).setCell ⟨g2, 0, none⟩ a').setCell ⟨g2, 1, none⟩ b').setCell ⟨g2, 2, none⟩ c').setCell ⟨g2, 3, none⟩ d').cell? ⟨g2, 0, none⟩ = some a' ∧ ((((((((w.setCell ⟨g1, 0, none⟩ a).setCell ⟨g1, 1, none⟩ b).setCell ⟨g1, 2, none⟩ c).setCell ⟨g1, 3, none⟩ d).setCell ⟨g2, 0, none⟩ a').setCell ⟨g2, 1, none⟩ b').setCell ⟨g2, 2, none⟩ c').setCell ⟨g2, 3, none⟩ d').cell? ⟨g2, 1, none⟩ = some b' ∧ ((((((((w.setCell ⟨g1, 0, none⟩ a).setCell ⟨g1, 1, none⟩ b).setCell ⟨g1, 2, none⟩ c).setCell ⟨g1, 3, none⟩ d).setCell ⟨g2, 0, none⟩ a').setCell ⟨g2, 1, none⟩ b').setCell ⟨g2, 2, none⟩ c').setCell ⟨g2, 3, none⟩ d').cell? ⟨g2, 2, none⟩ = some c' ∧ ((((((((w.setCell ⟨g1, 0, none⟩ a).setCell ⟨g1, 1, none⟩ b).setCell ⟨g1, 2, none⟩ c).setCell ⟨g1, 3, none⟩ d).setCell ⟨g2, 0, none⟩ a').setCell ⟨g2, 1, none⟩ b').setCell ⟨g2, 2, none⟩ c').setCell ⟨g2, 3, none⟩ d').cell? ⟨g2, 3, none⟩ = some d' := by
  obtain ⟨⟨k0, k1, k2, k3⟩, l0, l1, l2, l3⟩ := k
  obtain ⟨o0, o1, o2, o3⟩ := own4 (a := a) (b := b) (c := c) (d := d) k0 k1 k2 k3
  exact ⟨⟨read4 hne o0, read4 hne o1, read4 hne o2, read4 hne o3⟩, own4 (read4 (Ne.symm hne) l0) (read4 (Ne.symm hne) l1) (read4 (Ne.symm hne) l2) (read4 (Ne.symm hne) l3)⟩
set_option maxRecDepth 100000 in
set_option maxHeartbeats 8000000 in
theorem segTurns_walk (va vb vc vd : Value) (w : World) (ha : IsPt va) (hb : IsPt vb) (hc : IsPt vc) (hd : IsPt vd) :
    Calls Try.prog 3 #[va, vb, vc, vd] w fun e w' => e = .returned (.bool true) ∧ Below w.heap.size w w' := by
  obtain ⟨a, b, rfl, _, _⟩ := ha
  obtain ⟨c, d, rfl, _, _⟩ := hb
  obtain ⟨e, f, rfl, _, _⟩ := hc
  obtain ⟨g, h, rfl, _, _⟩ := hd
  obtain ⟨p, q, r, s, co, cr⟩ := of_ex a b c d
  have COa := Lib.hid co; have CRa := Lib.hid cr; clear co cr
  obtain ⟨p', q', r', s', co, cr⟩ := of_ex e f g h
  have COb := Lib.hid co; have CRb := Lib.hid cr; clear co cr
  go_enter Try.func3, Try.ntmps3
  go_wp2_with fail
  have I0 : ∀ W, W = (((w.alloc (.cells #[.int .i64 a, .int .i64 b] 23)).alloc (.cells #[.int .i64 c, .int .i64 d] 23)).alloc (.cells #[.int .i64 e, .int .i64 f] 23)).alloc (.cells #[.int .i64 g, .int .i64 h] 23) → (W.cell? ⟨w.heap.size, 0, none⟩ = some (.int .i64 a) ∧ W.cell? ⟨w.heap.size, 1, none⟩ = some (.int .i64 b) ∧ W.cell? ⟨w.heap.size + 1, 0, none⟩ = some (.int .i64 c) ∧ W.cell? ⟨w.heap.size + 1, 1, none⟩ = some (.int .i64 d) ∧ W.cell? ⟨w.heap.size + 1 + 1, 0, none⟩ = some (.int .i64 e) ∧ W.cell? ⟨w.heap.size + 1 + 1, 1, none⟩ = some (.int .i64 f) ∧ W.cell? ⟨w.heap.size + 1 + 1 + 1, 0, none⟩ = some (.int .i64 g) ∧ W.cell? ⟨w.heap.size + 1 + 1 + 1, 1, none⟩ = some (.int .i64 h)) ∧ Below w.heap.size w W := by
    intro W e0; subst e0
    refine ⟨⟨by go_simp, by go_simp, by go_simp, by go_simp, by go_simp, by go_simp, by go_simp, by go_simp⟩, ?_⟩
    (repeat (first | exact Below.refl _ _ | (refine Below.alloc ?_ (by first | omega | (simp <;> omega)) _)))
  have J0 := I0 _ rfl; clear I0
  generalize (((w.alloc (.cells #[.int .i64 a, .int .i64 b] 23)).alloc (.cells #[.int .i64 c, .int .i64 d] 23)).alloc (.cells #[.int .i64 e, .int .i64 f] 23)).alloc (.cells #[.int .i64 g, .int .i64 h] 23) = W0 at J0 ⊢
  obtain ⟨⟨f1, f2, f3, f4, f5, f6, f7, f8⟩, bb0⟩ := J0
  have B0 := Lib.hid bb0; clear bb0
  have KB : Hid (∀ W, Below W0.heap.size W0 W → Below W0.heap.size W0 W ∧ W.cell? ⟨w.heap.size, 0, none⟩ = some (.int .i64 a) ∧ W.cell? ⟨w.heap.size, 1, none⟩ = some (.int .i64 b) ∧ W.cell? ⟨w.heap.size + 1, 0, none⟩ = some (.int .i64 c) ∧ W.cell? ⟨w.heap.size + 1, 1, none⟩ = some (.int .i64 d) ∧ W.cell? ⟨w.heap.size + 1 + 1, 0, none⟩ = some (.int .i64 e) ∧ W.cell? ⟨w.heap.size + 1 + 1, 1, none⟩ = some (.int .i64 f) ∧ W.cell? ⟨w.heap.size + 1 + 1 + 1, 0, none⟩ = some (.int .i64 g) ∧ W.cell? ⟨w.heap.size + 1 + 1 + 1, 1, none⟩ = some (.int .i64 h)) := fun W hb => ⟨hb, old hb f1, old hb f2, old hb f3, old hb f4, old hb f5, old hb f6, old hb f7, old hb f8⟩
  have hu0 : w.heap.size < W0.heap.size := cell_lt f1
  have hu1 : w.heap.size + 1 < W0.heap.size := cell_lt f3
  have hu2 : w.heap.size + 1 + 1 < W0.heap.size := cell_lt f5
  have hu3 : w.heap.size + 1 + 1 + 1 < W0.heap.size := cell_lt f7
  go_cut [9, 10] (fun s9 s10 wx => ∃ b1 b2 : Nat, s9 = .pointer (some ⟨b1, 0, none⟩) ∧ s10 = .pointer (some ⟨b2, 0, none⟩) ∧ Hid (Below W0.heap.size W0 wx ∧ (wx.cell? ⟨b1, 0, none⟩ = some (.int .i64 p) ∧ wx.cell? ⟨b1, 1, none⟩ = some (.int .i64 q) ∧ wx.cell? ⟨b1, 2, none⟩ = some (.int .i64 r) ∧ wx.cell? ⟨b1, 3, none⟩ = some (.int .i64 s)) ∧ (wx.cell? ⟨b2, 0, none⟩ = some (.int .i64 p') ∧ wx.cell? ⟨b2, 1, none⟩ = some (.int .i64 q') ∧ wx.cell? ⟨b2, 2, none⟩ = some (.int .i64 r') ∧ wx.cell? ⟨b2, 3, none⟩ = some (.int .i64 s'))))
  case first =>
    go_region_held3 (fun w' => Below W0.heap.size W0 w' ∧ w'.cell? ⟨w.heap.size, 0, none⟩ = some (.int .i64 a) ∧ w'.cell? ⟨w.heap.size, 1, none⟩ = some (.int .i64 b) ∧ w'.cell? ⟨w.heap.size + 1, 0, none⟩ = some (.int .i64 c) ∧ w'.cell? ⟨w.heap.size + 1, 1, none⟩ = some (.int .i64 d) ∧ w'.cell? ⟨w.heap.size + 1 + 1, 0, none⟩ = some (.int .i64 e) ∧ w'.cell? ⟨w.heap.size + 1 + 1, 1, none⟩ = some (.int .i64 f) ∧ w'.cell? ⟨w.heap.size + 1 + 1 + 1, 0, none⟩ = some (.int .i64 g) ∧ w'.cell? ⟨w.heap.size + 1 + 1 + 1, 1, none⟩ = some (.int .i64 h))
      (first | (with_reducible assumption) | (refine KB.out _ ?_; (repeat (first | (with_reducible assumption) | (with_reducible exact bel_of (by assumption)) | (with_reducible exact Below.refl _ _) | (with_reducible refine Below.drew ?_) | (with_reducible refine Below.alloc ?_ (by first | omega | (simp <;> omega)) _) | (with_reducible refine Below.setCell ?_ (by first | omega | (simp <;> omega)) _))); done))
      (first | (go_at_call 14; (with_reducible refine (COa.out _).mono ?_); rintro e' w8 ⟨rfl, bw8⟩; (with_reducible have hBw8 := Below.trans (bel_of (by assumption)) (Below.mono bw8 (Below.size (bel_of (by assumption))))); have hszw8 := Below.size hBw8; obtain ⟨hcw8, hfw8⟩ := bcell bw8; have hsw8 := bw8.size; (try simp only [World.size_drew, World.size_alloc] at hsw8); (try have hqw80 : W0.heap.size < w8.heap.size := by omega); (try have hqw81 : W0.heap.size + 1 < w8.heap.size := by omega)) | (go_at_call 14; (with_reducible refine (COb.out _).mono ?_); rintro e' w9 ⟨rfl, bw9⟩; (with_reducible have hBw9 := Below.trans (bel_of (by assumption)) (Below.mono bw9 (Below.size (bel_of (by assumption))))); have hszw9 := Below.size hBw9; obtain ⟨hcw9, hfw9⟩ := bcell bw9; have hsw9 := bw9.size; (try simp only [World.size_drew, World.size_alloc] at hsw9); (try have hqw90 : W0.heap.size < w9.heap.size := by omega); (try have hqw91 : W0.heap.size + 1 < w9.heap.size := by omega); (try have hqw92 : w8.heap.size < w9.heap.size := by omega); (try have hqw93 : w8.heap.size + 1 < w9.heap.size := by omega)))
    all_goals (go_wp2_with fail)
    all_goals go_meet
    all_goals refine ⟨_, _, rfl, rfl, ⟨?_, ?_⟩⟩
    all_goals first | (with_reducible exact bel_of (by assumption)) | (refine ⟨⟨?_, ?_, ?_, ?_⟩, ?_, ?_, ?_, ?_⟩ <;> (go_simp; done)) | (refine fin8 (z := .int .i64 0) ?_ ⟨⟨?_, ?_, ?_, ?_⟩, ?_, ?_, ?_, ?_⟩ <;> first | omega | (go_simp; done))
  case rest =>
    obtain ⟨b1, b2, rfl, rfl, HH⟩ := hcut
    obtain ⟨hb, ⟨x1, x2, x3, x4⟩, y1, y2, y3, y4⟩ := HH.out
    clear HH KB hu0 hu1 hu2 hu3
    replace f1 := old hb f1; replace f2 := old hb f2; replace f3 := old hb f3; replace f4 := old hb f4; replace f5 := old hb f5; replace f6 := old hb f6; replace f7 := old hb f7; replace f8 := old hb f8
    have B1_ := Lib.hid (B0.out.trans (hb.mono B0.out.size)); clear hb
    have hz1 : w.heap.size < wc.heap.size := cell_lt f1
    have hz2 : w.heap.size + 1 < wc.heap.size := cell_lt f3
    have hz3 : w.heap.size + 1 + 1 < wc.heap.size := cell_lt f5
    have hz4 : w.heap.size + 1 + 1 + 1 < wc.heap.size := cell_lt f7
    go_wp2_with fail
    have S0 : Hid (∀ W, W = wc.drew → Below w.heap.size w W ∧ W.cell? ⟨w.heap.size, 0, none⟩ = some (.int .i64 a) ∧ W.cell? ⟨w.heap.size, 1, none⟩ = some (.int .i64 b) ∧ W.cell? ⟨w.heap.size + 1, 0, none⟩ = some (.int .i64 c) ∧ W.cell? ⟨w.heap.size + 1, 1, none⟩ = some (.int .i64 d) ∧ W.cell? ⟨w.heap.size + 1 + 1, 0, none⟩ = some (.int .i64 e) ∧ W.cell? ⟨w.heap.size + 1 + 1, 1, none⟩ = some (.int .i64 f) ∧ W.cell? ⟨w.heap.size + 1 + 1 + 1, 0, none⟩ = some (.int .i64 g) ∧ W.cell? ⟨w.heap.size + 1 + 1 + 1, 1, none⟩ = some (.int .i64 h) ∧ W.cell? ⟨b1, 0, none⟩ = some (.int .i64 p) ∧ W.cell? ⟨b1, 1, none⟩ = some (.int .i64 q) ∧ W.cell? ⟨b1, 2, none⟩ = some (.int .i64 r) ∧ W.cell? ⟨b1, 3, none⟩ = some (.int .i64 s) ∧ W.cell? ⟨b2, 0, none⟩ = some (.int .i64 p') ∧ W.cell? ⟨b2, 1, none⟩ = some (.int .i64 q') ∧ W.cell? ⟨b2, 2, none⟩ = some (.int .i64 r') ∧ W.cell? ⟨b2, 3, none⟩ = some (.int .i64 s')) := by
      intro W e0; subst e0
      exact ⟨B1_.out.drew, by go_simp, by go_simp, by go_simp, by go_simp, by go_simp, by go_simp, by go_simp, by go_simp, by go_simp, by go_simp, by go_simp, by go_simp, by go_simp, by go_simp, by go_simp, by go_simp⟩
    go_region_held3 (fun w' => Below w.heap.size w w' ∧ w'.cell? ⟨w.heap.size, 0, none⟩ = some (.int .i64 a) ∧ w'.cell? ⟨w.heap.size, 1, none⟩ = some (.int .i64 b) ∧ w'.cell? ⟨w.heap.size + 1, 0, none⟩ = some (.int .i64 c) ∧ w'.cell? ⟨w.heap.size + 1, 1, none⟩ = some (.int .i64 d) ∧ w'.cell? ⟨w.heap.size + 1 + 1, 0, none⟩ = some (.int .i64 e) ∧ w'.cell? ⟨w.heap.size + 1 + 1, 1, none⟩ = some (.int .i64 f) ∧ w'.cell? ⟨w.heap.size + 1 + 1 + 1, 0, none⟩ = some (.int .i64 g) ∧ w'.cell? ⟨w.heap.size + 1 + 1 + 1, 1, none⟩ = some (.int .i64 h) ∧ w'.cell? ⟨b1, 0, none⟩ = some (.int .i64 p) ∧ w'.cell? ⟨b1, 1, none⟩ = some (.int .i64 q) ∧ w'.cell? ⟨b1, 2, none⟩ = some (.int .i64 r) ∧ w'.cell? ⟨b1, 3, none⟩ = some (.int .i64 s) ∧ w'.cell? ⟨b2, 0, none⟩ = some (.int .i64 p') ∧ w'.cell? ⟨b2, 1, none⟩ = some (.int .i64 q') ∧ w'.cell? ⟨b2, 2, none⟩ = some (.int .i64 r') ∧ w'.cell? ⟨b2, 3, none⟩ = some (.int .i64 s'))
      (first | exact S0.out _ rfl | assumption | exact keep16 (by assumption) (by assumption))
      (first | (go_at_call 15; (with_reducible refine (CRa.out _).mono ?_); rintro e' w9 ⟨rfl, bw9⟩) | (go_at_call 15; (with_reducible refine (CRb.out _).mono ?_); rintro e' w9 ⟨rfl, bw9⟩) | (go_at_call 16; (with_reducible refine (lessS_any _ _ _ _ _ _ _ _ _).mono ?_); rintro e' w9 ⟨rfl, bw9⟩) | (go_at_call 17; (with_reducible refine (lessSr_any _ _ _ _ _ _ _ _ _).mono ?_); rintro e' w9 ⟨rfl, bw9⟩))
    rename_i hHeld
    clear f1 f2 f3 f4 f5 f6 f7 f8 x1 x2 x3 x4 y1 y2 y3 y4 hz1 hz2 hz3 hz4
    obtain ⟨hB, f1, f2, f3, f4, f5, f6, f7, f8, x1, x2, x3, x4, y1, y2, y3, y4⟩ := hHeld
    have B2_ := Lib.hid hB; clear hB S0
    have hz1 : w.heap.size < w9.heap.size := cell_lt f1
    have hz2 : w.heap.size + 1 < w9.heap.size := cell_lt f3
    have hz3 : w.heap.size + 1 + 1 < w9.heap.size := cell_lt f5
    have hz4 : w.heap.size + 1 + 1 + 1 < w9.heap.size := cell_lt f7
    have hz5 : b1 < w9.heap.size := cell_lt x1
    have hz6 : b2 < w9.heap.size := cell_lt y1
    go_wp2_with fail
    clear x1 x2 x3 x4 y1 y2 y3 y4
    have S0 : Hid (∀ W, W = w9.drew → Below w.heap.size w W ∧ W.cell? ⟨w.heap.size, 0, none⟩ = some (.int .i64 a) ∧ W.cell? ⟨w.heap.size, 1, none⟩ = some (.int .i64 b) ∧ W.cell? ⟨w.heap.size + 1, 0, none⟩ = some (.int .i64 c) ∧ W.cell? ⟨w.heap.size + 1, 1, none⟩ = some (.int .i64 d) ∧ W.cell? ⟨w.heap.size + 1 + 1, 0, none⟩ = some (.int .i64 e) ∧ W.cell? ⟨w.heap.size + 1 + 1, 1, none⟩ = some (.int .i64 f) ∧ W.cell? ⟨w.heap.size + 1 + 1 + 1, 0, none⟩ = some (.int .i64 g) ∧ W.cell? ⟨w.heap.size + 1 + 1 + 1, 1, none⟩ = some (.int .i64 h)) := by
      intro W e0; subst e0
      exact ⟨B2_.out.drew, by go_simp, by go_simp, by go_simp, by go_simp, by go_simp, by go_simp, by go_simp, by go_simp⟩
    go_region_held3 (fun w' => Below w.heap.size w w' ∧ w'.cell? ⟨w.heap.size, 0, none⟩ = some (.int .i64 a) ∧ w'.cell? ⟨w.heap.size, 1, none⟩ = some (.int .i64 b) ∧ w'.cell? ⟨w.heap.size + 1, 0, none⟩ = some (.int .i64 c) ∧ w'.cell? ⟨w.heap.size + 1, 1, none⟩ = some (.int .i64 d) ∧ w'.cell? ⟨w.heap.size + 1 + 1, 0, none⟩ = some (.int .i64 e) ∧ w'.cell? ⟨w.heap.size + 1 + 1, 1, none⟩ = some (.int .i64 f) ∧ w'.cell? ⟨w.heap.size + 1 + 1 + 1, 0, none⟩ = some (.int .i64 g) ∧ w'.cell? ⟨w.heap.size + 1 + 1 + 1, 1, none⟩ = some (.int .i64 h))
      (first | exact S0.out _ rfl | assumption | exact keep8 (by assumption) (by assumption))
      (first | (go_at_call 18; (with_reducible refine (turn_any _ _ _ _ _ _ _).mono ?_); rintro e' w9 ⟨rfl, bw9⟩) | (go_at_call 19; (with_reducible refine (turnr_any _ _ _ _ _ _ _).mono ?_); rintro e' w9 ⟨rfl, bw9⟩) | (go_at_call 20; (with_reducible refine (on_any _ _ _ _ _ _ _).mono ?_); rintro e' w9 ⟨rfl, bw9⟩) | (go_at_call 21; (with_reducible refine (onr_any _ _ _ _ _ _ _).mono ?_); rintro e' w9 ⟨rfl, bw9⟩) | (go_at_call 22; (with_reducible refine (within_any _ _ _ _ _ _ _).mono ?_); rintro e' w9 ⟨rfl, bw9⟩) | (go_at_call 23; (with_reducible refine (withinr_any _ _ _ _ _ _ _).mono ?_); rintro e' w9 ⟨rfl, bw9⟩) | (go_at_call 24; (with_reducible refine (lives_any _).mono ?_); rintro e' w9 ⟨rfl, bw9⟩))
    all_goals go_wp2
    all_goals go_ret
    all_goals exact ⟨rfl, bel_of (by assumption)⟩
end Go.Proofs.Ytlcbmikcjgidjaa
