/- The Hilbert curve: its examples; HilbertIndexes, HilbertPoints, HilbertSteps. -/
import Derived.Test.YtdiigackkbnkmaaHd
namespace Go.Proofs.Ytdiigackkbnkmaa
open Go.ChangeShapes Go.WideShapes Go.ChangeAt Go.RowKit Go.Joins Go.Deep

theorem keep2 {w wr w2 : World} {p1 p2 : Addr} {v1 v2 : Value}
    (h : Below w.heap.size w wr ∧ wr.cell? p1 = some v1 ∧ wr.cell? p2 = some v2) (hb : Below wr.heap.size wr w2) :
    Below w.heap.size w w2 ∧ w2.cell? p1 = some v1 ∧ w2.cell? p2 = some v2 :=
  ⟨h.1.trans (hb.mono h.1.size), old hb h.2.1, old hb h.2.2⟩
theorem keep4 {w wr w2 : World} {p1 p2 p3 p4 : Addr} {v1 v2 v3 v4 : Value}
    (h : Below w.heap.size w wr ∧ wr.cell? p1 = some v1 ∧ wr.cell? p2 = some v2 ∧ wr.cell? p3 = some v3 ∧ wr.cell? p4 = some v4) (hb : Below wr.heap.size wr w2) :
    Below w.heap.size w w2 ∧ w2.cell? p1 = some v1 ∧ w2.cell? p2 = some v2 ∧ w2.cell? p3 = some v3 ∧ w2.cell? p4 = some v4 :=
  ⟨h.1.trans (hb.mono h.1.size), old hb h.2.1, old hb h.2.2.1, old hb h.2.2.2.1, old hb h.2.2.2.2⟩
theorem lv1 : idx 32767 0 = 1073741823 := by decide +kernel
theorem lv2 : idx 1 1 = 2 := by decide +kernel
theorem lv3 : pX 1 = 0 ∧ pY 1 = 1 := by decide +kernel
theorem lv4 : pX 3 = 1 ∧ pY 3 = 0 := by decide +kernel
theorem lv5 : pX (-1) = -1 ∧ pY (-1) = -1 := by decide +kernel
set_option maxHeartbeats 1000000 in
theorem livesH_any (w : World) :
    Calls Try.prog 34 #[] w fun e w' => e = .returned (.bool true) ∧ Below w.heap.size w w' := by
  go_enter Try.func34, Try.ntmps34
  go_wp2_with fail
  refine (index_any _ _ _).mono ?_; rintro e w1 ⟨rfl, hb1⟩; rw [lv1]
  have HB1 := Lib.hid hb1; clear hb1
  go_wp2_with fail
  refine (index_any _ _ _).mono ?_; rintro e w2 ⟨rfl, hb2⟩; rw [lv2]
  have HB2 := Lib.hid (HB1.out.trans (hb2.mono HB1.out.size)); clear hb2
  go_wp2_with fail
  refine (point_any _ _).mono ?_; rintro e w3 ⟨rfl, hb3⟩; rw [lv3.1, lv3.2]
  have HB3 := Lib.hid (HB2.out.trans (hb3.mono HB2.out.size)); clear hb3
  go_wp2_with fail
  refine (point_any _ _).mono ?_; rintro e w4 ⟨rfl, hb4⟩; rw [lv4.1, lv4.2]
  have HB4 := Lib.hid (HB3.out.trans (hb4.mono HB3.out.size)); clear hb4
  go_wp2_with fail
  refine (point_any _ _).mono ?_; rintro e w5 ⟨rfl, hb5⟩; rw [lv5.1, lv5.2]
  have HB5 := Lib.hid (HB4.out.trans (hb5.mono HB4.out.size)); clear hb5
  go_wp2_with fail
  go_ret
  exact ⟨rfl, HB5.out⟩

theorem Try.cells23 : Try.prog.cellsOf 23 = 2 := by kernel_rfl
theorem Try.cells3 : Try.prog.cellsOf 3 = 1 := by kernel_rfl
theorem wf_i64 {x : Int} (h : (Lit.int .i64 x).wf = true) : I64 x := by
  simp only [Lit.wf, Bool.and_eq_true, decide_eq_true_eq] at h; exact h
abbrev IsPt (v : Value) : Prop := ∃ x y, v = pt x y ∧ I64 x ∧ I64 y
theorem pt_open {H : Type} {enc : TypeId × Value → H} {W : World} {base b0 : Nat} {spare : Nat → Bool} {held : Bool} {r : Reach} {v : Value} {d : DataW H} {p : List MemPlace}
    (hv : Value.okWide Try.prog W r b0 23 v) (h : DataW.Trod enc Try.prog W base spare held 23 v d p) : IsPt v := by
  obtain ⟨v0, v1, y0, y1, n, rfl, _, _, h0, h1⟩ := open_agg2 Try.underlying23 (by kernel_rfl) Try.cells23 hv h
  obtain ⟨x, e1, _, k1⟩ := DataW.trod_int Try.underlying3 h0
  obtain ⟨y, e2, _, k2⟩ := DataW.trod_int Try.underlying3 h1
  simp at e1 e2
  subst e1 e2
  exact ⟨x, y, rfl, wf_i64 k1, wf_i64 k2⟩
abbrev hilbertIndexes_zero0 : Value := pt 0 0
theorem hilbertIndexes_open0 {H : Type} {enc : TypeId × Value → H} {W : World} {base b0 : Nat} {spare : Nat → Bool} {held : Bool} {r : Reach} {v : Value} {d : DataW H} {p : List MemPlace}
    (hv : Value.okWide Try.prog W r b0 23 v) (h : DataW.Trod enc Try.prog W base spare held 23 v d p) : IsPt v := pt_open hv h
abbrev hilbertBack_zero0 : Value := pt 0 0
theorem hilbertBack_open0 {H : Type} {enc : TypeId × Value → H} {W : World} {base b0 : Nat} {spare : Nat → Bool} {held : Bool} {r : Reach} {v : Value} {d : DataW H} {p : List MemPlace}
    (hv : Value.okWide Try.prog W r b0 23 v) (h : DataW.Trod enc Try.prog W base spare held 23 v d p) : IsPt v := pt_open hv h
abbrev hilbertCells_zero0 : Value := pt 0 0
theorem hilbertCells_open0 {H : Type} {enc : TypeId × Value → H} {W : World} {base b0 : Nat} {spare : Nat → Bool} {held : Bool} {r : Reach} {v : Value} {d : DataW H} {p : List MemPlace}
    (hv : Value.okWide Try.prog W r b0 23 v) (h : DataW.Trod enc Try.prog W base spare held 23 v d p) : IsPt v := pt_open hv h
abbrev hilbertCells_zero1 : Value := pt 0 0
theorem hilbertCells_open1 {H : Type} {enc : TypeId × Value → H} {W : World} {base b0 : Nat} {spare : Nat → Bool} {held : Bool} {r : Reach} {v : Value} {d : DataW H} {p : List MemPlace}
    (hv : Value.okWide Try.prog W r b0 23 v) (h : DataW.Trod enc Try.prog W base spare held 23 v d p) : IsPt v := pt_open hv h
abbrev segTurns_zero0 : Value := pt 0 0
theorem segTurns_open0 {H : Type} {enc : TypeId × Value → H} {W : World} {base b0 : Nat} {spare : Nat → Bool} {held : Bool} {r : Reach} {v : Value} {d : DataW H} {p : List MemPlace}
    (hv : Value.okWide Try.prog W r b0 23 v) (h : DataW.Trod enc Try.prog W base spare held 23 v d p) : IsPt v := pt_open hv h
abbrev segTurns_zero1 : Value := pt 0 0
theorem segTurns_open1 {H : Type} {enc : TypeId × Value → H} {W : World} {base b0 : Nat} {spare : Nat → Bool} {held : Bool} {r : Reach} {v : Value} {d : DataW H} {p : List MemPlace}
    (hv : Value.okWide Try.prog W r b0 23 v) (h : DataW.Trod enc Try.prog W base spare held 23 v d p) : IsPt v := pt_open hv h
abbrev segTurns_zero2 : Value := pt 0 0
theorem segTurns_open2 {H : Type} {enc : TypeId × Value → H} {W : World} {base b0 : Nat} {spare : Nat → Bool} {held : Bool} {r : Reach} {v : Value} {d : DataW H} {p : List MemPlace}
    (hv : Value.okWide Try.prog W r b0 23 v) (h : DataW.Trod enc Try.prog W base spare held 23 v d p) : IsPt v := pt_open hv h
abbrev segTurns_zero3 : Value := pt 0 0
theorem segTurns_open3 {H : Type} {enc : TypeId × Value → H} {W : World} {base b0 : Nat} {spare : Nat → Bool} {held : Bool} {r : Reach} {v : Value} {d : DataW H} {p : List MemPlace}
    (hv : Value.okWide Try.prog W r b0 23 v) (h : DataW.Trod enc Try.prog W base spare held 23 v d p) : IsPt v := pt_open hv h
abbrev segFars_zero0 : Value := pt 0 0
theorem segFars_open0 {H : Type} {enc : TypeId × Value → H} {W : World} {base b0 : Nat} {spare : Nat → Bool} {held : Bool} {r : Reach} {v : Value} {d : DataW H} {p : List MemPlace}
    (hv : Value.okWide Try.prog W r b0 23 v) (h : DataW.Trod enc Try.prog W base spare held 23 v d p) : IsPt v := pt_open hv h
abbrev segFars_zero1 : Value := pt 0 0
theorem segFars_open1 {H : Type} {enc : TypeId × Value → H} {W : World} {base b0 : Nat} {spare : Nat → Bool} {held : Bool} {r : Reach} {v : Value} {d : DataW H} {p : List MemPlace}
    (hv : Value.okWide Try.prog W r b0 23 v) (h : DataW.Trod enc Try.prog W base spare held 23 v d p) : IsPt v := pt_open hv h
abbrev segFars_zero2 : Value := pt 0 0
theorem segFars_open2 {H : Type} {enc : TypeId × Value → H} {W : World} {base b0 : Nat} {spare : Nat → Bool} {held : Bool} {r : Reach} {v : Value} {d : DataW H} {p : List MemPlace}
    (hv : Value.okWide Try.prog W r b0 23 v) (h : DataW.Trod enc Try.prog W base spare held 23 v d p) : IsPt v := pt_open hv h
abbrev segCycles_zero0 : Value := pt 0 0
theorem segCycles_open0 {H : Type} {enc : TypeId × Value → H} {W : World} {base b0 : Nat} {spare : Nat → Bool} {held : Bool} {r : Reach} {v : Value} {d : DataW H} {p : List MemPlace}
    (hv : Value.okWide Try.prog W r b0 23 v) (h : DataW.Trod enc Try.prog W base spare held 23 v d p) : IsPt v := pt_open hv h
abbrev segCycles_zero1 : Value := pt 0 0
theorem segCycles_open1 {H : Type} {enc : TypeId × Value → H} {W : World} {base b0 : Nat} {spare : Nat → Bool} {held : Bool} {r : Reach} {v : Value} {d : DataW H} {p : List MemPlace}
    (hv : Value.okWide Try.prog W r b0 23 v) (h : DataW.Trod enc Try.prog W base spare held 23 v d p) : IsPt v := pt_open hv h
abbrev segCycles_zero2 : Value := pt 0 0
theorem segCycles_open2 {H : Type} {enc : TypeId × Value → H} {W : World} {base b0 : Nat} {spare : Nat → Bool} {held : Bool} {r : Reach} {v : Value} {d : DataW H} {p : List MemPlace}
    (hv : Value.okWide Try.prog W r b0 23 v) (h : DataW.Trod enc Try.prog W base spare held 23 v d p) : IsPt v := pt_open hv h
abbrev segOrders_zero0 : Value := pt 0 0
theorem segOrders_open0 {H : Type} {enc : TypeId × Value → H} {W : World} {base b0 : Nat} {spare : Nat → Bool} {held : Bool} {r : Reach} {v : Value} {d : DataW H} {p : List MemPlace}
    (hv : Value.okWide Try.prog W r b0 23 v) (h : DataW.Trod enc Try.prog W base spare held 23 v d p) : IsPt v := pt_open hv h
abbrev segOrders_zero1 : Value := pt 0 0
theorem segOrders_open1 {H : Type} {enc : TypeId × Value → H} {W : World} {base b0 : Nat} {spare : Nat → Bool} {held : Bool} {r : Reach} {v : Value} {d : DataW H} {p : List MemPlace}
    (hv : Value.okWide Try.prog W r b0 23 v) (h : DataW.Trod enc Try.prog W base spare held 23 v d p) : IsPt v := pt_open hv h
abbrev segOrders_zero2 : Value := pt 0 0
theorem segOrders_open2 {H : Type} {enc : TypeId × Value → H} {W : World} {base b0 : Nat} {spare : Nat → Bool} {held : Bool} {r : Reach} {v : Value} {d : DataW H} {p : List MemPlace}
    (hv : Value.okWide Try.prog W r b0 23 v) (h : DataW.Trod enc Try.prog W base spare held 23 v d p) : IsPt v := pt_open hv h

set_option maxHeartbeats 4000000 in
theorem hilbertIndexes_walk (vp : Value) (w : World) (hp : IsPt vp) :
    Calls Try.prog 9 #[vp] w fun e w' => e = .returned (.bool true) ∧ Below w.heap.size w w' := by
  obtain ⟨x, y, rfl, _, _⟩ := hp
  have S0 : Hid (∀ W, W = (w.alloc (.cells #[.int .i64 x, .int .i64 y] 23)).drew → Below w.heap.size w W ∧ W.cell? ⟨w.heap.size, 0, none⟩ = some (.int .i64 x) ∧ W.cell? ⟨w.heap.size, 1, none⟩ = some (.int .i64 y)) := by
    intro W e; subst e
    exact ⟨((Below.refl _ _).alloc (Nat.le_refl _) _).drew, by go_simp, by go_simp⟩
  go_enter Try.func9, Try.ntmps9
  go_wp2_with fail
  go_region_held3 (fun w' => Below w.heap.size w w' ∧ w'.cell? ⟨w.heap.size, 0, none⟩ = some (.int .i64 x) ∧ w'.cell? ⟨w.heap.size, 1, none⟩ = some (.int .i64 y))
    (first | exact S0.out _ rfl | assumption | exact keep2 (by assumption) (by assumption))
    (first
      | (go_at_call 32; (with_reducible refine (index_any _ _ _).mono ?_); rintro en w1 ⟨rfl, b1⟩)
      | (go_at_call 33; (with_reducible refine (indexr_any _ _ _).mono ?_); rintro en w1 ⟨rfl, b1⟩)
      | (go_at_call 34; (with_reducible refine (livesH_any _).mono ?_); rintro en w1 ⟨rfl, b1⟩))
  all_goals go_wp2
  all_goals go_ret
  all_goals exact ⟨rfl, bel_of (by assumption)⟩

set_option maxHeartbeats 4000000 in
theorem hilbertPoints_walk (i : Int) (w : World) (_ : (Lit.int .i64 i).wf = true) :
    Calls Try.prog 10 #[.int .i64 i] w fun e w' => e = .returned (.bool true) ∧ Below w.heap.size w w' := by
  go_enter Try.func10, Try.ntmps10
  go_wp2_with fail
  refine (point_any _ _).mono ?_; rintro e w1 ⟨rfl, hb1⟩
  have HB1 := Lib.hid hb1; clear hb1
  go_wp2_with fail
  refine (pointr_any _ _).mono ?_; rintro e w2 ⟨rfl, hb2⟩
  have HB2 := Lib.hid (HB1.out.trans (hb2.mono HB1.out.size)); clear hb2
  go_wp2_with fail
  refine (livesH_any _).mono ?_; rintro e w3 ⟨rfl, hb3⟩
  have HB3 := Lib.hid (HB2.out.trans (hb3.mono HB2.out.size)); clear hb3
  go_wp2_with fail
  go_ret
  exact ⟨rfl, HB3.out⟩

theorem p_bd {i : Int} (h : okI i = true) : 0 ≤ pX i ∧ pX i ≤ 32767 ∧ 0 ≤ pY i ∧ pY i ≤ 32767 := by
  obtain ⟨e1, e2⟩ := pX_yes h
  rw [e1, e2]
  obtain ⟨a, b, c, d⟩ := hX_bd 15 i
  exact ⟨a, by omega, c, by omega⟩
theorem p_step {i : Int} (h0 : 0 ≤ i) (h1 : i < 1073741823) : (pX i - pX (i + 1)) * (pX i - pX (i + 1)) + (pY i - pY (i + 1)) * (pY i - pY (i + 1)) = 1 := by
  have k1 : okI i = true := by unfold okI; simp; omega
  have k2 : okI (i + 1) = true := by unfold okI; simp; omega
  obtain ⟨e1, e2⟩ := pX_yes k1
  obtain ⟨e3, e4⟩ := pX_yes k2
  rw [e1, e2, e3, e4]
  exact hX_step 15 h0 (by omega)
theorem sq_nn (a : Int) : 0 ≤ a * a := by
  rcases Int.le_total 0 a with h | h
  · exact Int.mul_nonneg h h
  · exact Int.mul_nonneg_of_nonpos_of_nonpos h h
theorem sq_le {a b : Int} (h : a * a + b * b = 1) : (0 ≤ a * a ∧ a * a ≤ 1) ∧ (0 ≤ b * b ∧ b * b ≤ 1) := by
  have h1 := sq_nn a
  have h2 := sq_nn b
  omega
set_option maxHeartbeats 4000000 in
theorem hilbertSteps_walk (i : Int) (w : World) (_ : (Lit.int .i64 i).wf = true) :
    Calls Try.prog 12 #[.int .i64 i] w fun e w' => e = .returned (.bool true) ∧ Below w.heap.size w w' := by
  have hc : i < 0 ∨ (0 ≤ i ∧ 1073741823 ≤ i) ∨ (0 ≤ i ∧ i < 1073741823) := by omega
  rcases hc with h | ⟨h1, h⟩ | ⟨h1, h⟩
  · go_enter Try.func12, Try.ntmps12
    go_wp2_with fail
    refine (livesH_any _).mono ?_; rintro e w3 ⟨rfl, hb3⟩
    have HB3 := Lib.hid hb3; clear hb3
    go_wp2_with fail
    go_ret
    exact ⟨rfl, HB3.out⟩
  · go_enter Try.func12, Try.ntmps12
    go_wp2_with fail
    refine (livesH_any _).mono ?_; rintro e w3 ⟨rfl, hb3⟩
    have HB3 := Lib.hid hb3; clear hb3
    go_wp2_with fail
    go_ret
    exact ⟨rfl, HB3.out⟩
  · obtain ⟨a0, a1, b0, b1⟩ := p_bd (i := i) (by unfold okI; simp; omega)
    obtain ⟨c0, c1, d0, d1⟩ := p_bd (i := i + 1) (by unfold okI; simp; omega)
    have hs := p_step h1 h
    have E : ∃ a b c d : Int, pX i = a ∧ pY i = b ∧ pX (i + 1) = c ∧ pY (i + 1) = d := ⟨_, _, _, _, rfl, rfl, rfl, rfl⟩
    obtain ⟨a, b, c, d, ea, eb, ec, ed⟩ := E
    rw [ea] at a0 a1; rw [eb] at b0 b1; rw [ec] at c0 c1; rw [ed] at d0 d1
    rw [ea, eb, ec, ed] at hs
    obtain ⟨⟨s0, s1⟩, ⟨t0, t1⟩⟩ := sq_le hs
    have EA := Lib.hid ea; have EB := Lib.hid eb; have EC := Lib.hid ec; have ED := Lib.hid ed
    clear ea eb ec ed
    go_enter Try.func12, Try.ntmps12
    go_wp2_with fail
    refine (point_any _ _).mono ?_; rintro e w1 ⟨rfl, hb1⟩; rw [EA.out, EB.out]
    have HB1 := Lib.hid hb1; clear hb1
    go_wp2_with fail
    refine (point_any _ _).mono ?_; rintro e w2 ⟨rfl, hb2⟩; rw [EC.out, ED.out]
    have HB2 := Lib.hid (HB1.out.trans (hb2.mono HB1.out.size)); clear hb2
    go_wp2_with fail
    go_quiet (fail)
    go_wp2_with fail
    refine (livesH_any _).mono ?_; rintro e w3 ⟨rfl, hb3⟩
    have HB3 := Lib.hid hb3; clear hb3
    go_wp2_with fail
    go_ret
    refine ⟨rfl, ?_⟩
    have q1 := HB2.out; have q2 := HB3.out
    have qs := HB2.out.size
    (repeat (first | exact Below.refl _ _ | (refine Below.drew ?_) | (refine below_drewN ?_ _) | (refine Below.alloc ?_ (by first | omega | (simp <;> omega)) _) | (refine Below.setCell ?_ (by first | omega | (simp <;> omega)) _) | (refine Below.trans ?_ (Below.mono (by assumption) (by first | omega | (simp <;> omega))))))
end Go.Proofs.Ytdiigackkbnkmaa
