/- Tiles: openings of the laws; the walk of TilegridChecks. -/
import Derived.Test.YtoibhapjkeakbaaWj
namespace Go.Proofs.Ytoibhapjkeakbaa
open Go.ChangeShapes Go.WideShapes Go.ChangeAt Go.RowKit Go.Joins Go.Deep

theorem Try.cells23 : Try.prog.cellsOf 23 = 3 := by kernel_rfl
theorem Try.cells25 : Try.prog.cellsOf 25 = 2 := by kernel_rfl
theorem Try.cells27 : Try.prog.cellsOf 27 = 4 := by kernel_rfl
theorem wf_i64 {x : Int} (h : (Lit.int .i64 x).wf = true) : I64 x := by
  simp only [Lit.wf, Bool.and_eq_true, decide_eq_true_eq] at h; exact h
def IsPt (v : Value) : Prop := ∃ x y, v = pt x y ∧ I64 x ∧ I64 y
def IsTl (v : Value) : Prop := ∃ x y z, v = tl x y z ∧ I64 x ∧ I64 y ∧ I64 z
def IsBx (v : Value) : Prop := ∃ x y z u, v = bx x y z u ∧ I64 x ∧ I64 y ∧ I64 z ∧ I64 u
theorem pt_open {H : Type} {enc : TypeId × Value → H} {W : World} {base b0 : Nat} {spare : Nat → Bool} {held : Bool} {r : Reach} {v : Value} {d : DataW H} {p : List MemPlace}
    (hv : Value.okWide Try.prog W r b0 25 v) (h : DataW.Trod enc Try.prog W base spare held 25 v d p) : IsPt v := by
  obtain ⟨v0, v1, y0, y1, n, rfl, _, _, h0, h1⟩ := open_agg2 Try.underlying25 (by kernel_rfl) Try.cells25 hv h
  obtain ⟨x0, e0, _, k0⟩ := DataW.trod_int Try.underlying3 h0
  obtain ⟨x1, e1, _, k1⟩ := DataW.trod_int Try.underlying3 h1
  simp at e0 e1
  subst e0 e1
  exact ⟨x0, x1, rfl, wf_i64 k0, wf_i64 k1⟩
theorem tl_open {H : Type} {enc : TypeId × Value → H} {W : World} {base b0 : Nat} {spare : Nat → Bool} {held : Bool} {r : Reach} {v : Value} {d : DataW H} {p : List MemPlace}
    (hv : Value.okWide Try.prog W r b0 23 v) (h : DataW.Trod enc Try.prog W base spare held 23 v d p) : IsTl v := by
  obtain ⟨v0, v1, v2, y0, y1, y2, n, rfl, _, _, h0, h1, h2⟩ := open_agg3 Try.underlying23 (by kernel_rfl) Try.cells23 hv h
  obtain ⟨x0, e0, _, k0⟩ := DataW.trod_int Try.underlying3 h0
  obtain ⟨x1, e1, _, k1⟩ := DataW.trod_int Try.underlying3 h1
  obtain ⟨x2, e2, _, k2⟩ := DataW.trod_int Try.underlying3 h2
  simp at e0 e1 e2
  subst e0 e1 e2
  exact ⟨x0, x1, x2, rfl, wf_i64 k0, wf_i64 k1, wf_i64 k2⟩
theorem bx_open {H : Type} {enc : TypeId × Value → H} {W : World} {base b0 : Nat} {spare : Nat → Bool} {held : Bool} {r : Reach} {v : Value} {d : DataW H} {p : List MemPlace}
    (hv : Value.okWide Try.prog W r b0 27 v) (h : DataW.Trod enc Try.prog W base spare held 27 v d p) : IsBx v := by
  obtain ⟨v0, v1, v2, v3, y0, y1, y2, y3, n, rfl, _, _, h0, h1, h2, h3⟩ := open_agg4 Try.underlying27 (by kernel_rfl) Try.cells27 hv h
  obtain ⟨x0, e0, _, k0⟩ := DataW.trod_int Try.underlying3 h0
  obtain ⟨x1, e1, _, k1⟩ := DataW.trod_int Try.underlying3 h1
  obtain ⟨x2, e2, _, k2⟩ := DataW.trod_int Try.underlying3 h2
  obtain ⟨x3, e3, _, k3⟩ := DataW.trod_int Try.underlying3 h3
  simp at e0 e1 e2 e3
  subst e0 e1 e2 e3
  exact ⟨x0, x1, x2, x3, rfl, wf_i64 k0, wf_i64 k1, wf_i64 k2, wf_i64 k3⟩
abbrev tilegridChecks_zero0 : Value := tl 0 0 0
theorem tilegridChecks_open0 {H : Type} {enc : TypeId × Value → H} {W : World} {base b0 : Nat} {spare : Nat → Bool} {held : Bool} {r : Reach} {v : Value} {d : DataW H} {p : List MemPlace}
    (hv : Value.okWide Try.prog W r b0 23 v) (h : DataW.Trod enc Try.prog W base spare held 23 v d p) : IsTl v := tl_open hv h
abbrev tilegridChecks_zero1 : Value := pt 0 0
theorem tilegridChecks_open1 {H : Type} {enc : TypeId × Value → H} {W : World} {base b0 : Nat} {spare : Nat → Bool} {held : Bool} {r : Reach} {v : Value} {d : DataW H} {p : List MemPlace}
    (hv : Value.okWide Try.prog W r b0 25 v) (h : DataW.Trod enc Try.prog W base spare held 25 v d p) : IsPt v := pt_open hv h
abbrev tilegridKin_zero0 : Value := tl 0 0 0
theorem tilegridKin_open0 {H : Type} {enc : TypeId × Value → H} {W : World} {base b0 : Nat} {spare : Nat → Bool} {held : Bool} {r : Reach} {v : Value} {d : DataW H} {p : List MemPlace}
    (hv : Value.okWide Try.prog W r b0 23 v) (h : DataW.Trod enc Try.prog W base spare held 23 v d p) : IsTl v := tl_open hv h
abbrev tilegridKin_zero1 : Value := tl 0 0 0
theorem tilegridKin_open1 {H : Type} {enc : TypeId × Value → H} {W : World} {base b0 : Nat} {spare : Nat → Bool} {held : Bool} {r : Reach} {v : Value} {d : DataW H} {p : List MemPlace}
    (hv : Value.okWide Try.prog W r b0 23 v) (h : DataW.Trod enc Try.prog W base spare held 23 v d p) : IsTl v := tl_open hv h
abbrev tilegridCovers_zero0 : Value := bx 0 0 0 0
theorem tilegridCovers_open0 {H : Type} {enc : TypeId × Value → H} {W : World} {base b0 : Nat} {spare : Nat → Bool} {held : Bool} {r : Reach} {v : Value} {d : DataW H} {p : List MemPlace}
    (hv : Value.okWide Try.prog W r b0 27 v) (h : DataW.Trod enc Try.prog W base spare held 27 v d p) : IsBx v := bx_open hv h
abbrev tilegridTree_zero0 : Value := tl 0 0 0
theorem tilegridTree_open0 {H : Type} {enc : TypeId × Value → H} {W : World} {base b0 : Nat} {spare : Nat → Bool} {held : Bool} {r : Reach} {v : Value} {d : DataW H} {p : List MemPlace}
    (hv : Value.okWide Try.prog W r b0 23 v) (h : DataW.Trod enc Try.prog W base spare held 23 v d p) : IsTl v := tl_open hv h
abbrev tilegridNumbers_zero0 : Value := tl 0 0 0
theorem tilegridNumbers_open0 {H : Type} {enc : TypeId × Value → H} {W : World} {base b0 : Nat} {spare : Nat → Bool} {held : Bool} {r : Reach} {v : Value} {d : DataW H} {p : List MemPlace}
    (hv : Value.okWide Try.prog W r b0 23 v) (h : DataW.Trod enc Try.prog W base spare held 23 v d p) : IsTl v := tl_open hv h
abbrev tilegridNumbers_zero1 : Value := tl 0 0 0
theorem tilegridNumbers_open1 {H : Type} {enc : TypeId × Value → H} {W : World} {base b0 : Nat} {spare : Nat → Bool} {held : Bool} {r : Reach} {v : Value} {d : DataW H} {p : List MemPlace}
    (hv : Value.okWide Try.prog W r b0 23 v) (h : DataW.Trod enc Try.prog W base spare held 23 v d p) : IsTl v := tl_open hv h
abbrev tilegridHolds_zero0 : Value := pt 0 0
theorem tilegridHolds_open0 {H : Type} {enc : TypeId × Value → H} {W : World} {base b0 : Nat} {spare : Nat → Bool} {held : Bool} {r : Reach} {v : Value} {d : DataW H} {p : List MemPlace}
    (hv : Value.okWide Try.prog W r b0 25 v) (h : DataW.Trod enc Try.prog W base spare held 25 v d p) : IsPt v := pt_open hv h
abbrev tilegridHolds_zero1 : Value := bx 0 0 0 0
theorem tilegridHolds_open1 {H : Type} {enc : TypeId × Value → H} {W : World} {base b0 : Nat} {spare : Nat → Bool} {held : Bool} {r : Reach} {v : Value} {d : DataW H} {p : List MemPlace}
    (hv : Value.okWide Try.prog W r b0 27 v) (h : DataW.Trod enc Try.prog W base spare held 27 v d p) : IsBx v := bx_open hv h
theorem keep19 {w wr w2 : World} {p1 p2 p3 p4 p5 p6 p7 p8 p9 p10 p11 p12 p13 p14 p15 p16 p17 p18 p19 : Addr} {v1 v2 v3 v4 v5 v6 v7 v8 v9 v10 v11 v12 v13 v14 v15 v16 v17 v18 v19 : Value}
    (h : Below w.heap.size w wr ∧ wr.cell? p1 = some v1 ∧ wr.cell? p2 = some v2 ∧ wr.cell? p3 = some v3 ∧ wr.cell? p4 = some v4 ∧ wr.cell? p5 = some v5 ∧ wr.cell? p6 = some v6 ∧ wr.cell? p7 = some v7 ∧ wr.cell? p8 = some v8 ∧ wr.cell? p9 = some v9 ∧ wr.cell? p10 = some v10 ∧ wr.cell? p11 = some v11 ∧ wr.cell? p12 = some v12 ∧ wr.cell? p13 = some v13 ∧ wr.cell? p14 = some v14 ∧ wr.cell? p15 = some v15 ∧ wr.cell? p16 = some v16 ∧ wr.cell? p17 = some v17 ∧ wr.cell? p18 = some v18 ∧ wr.cell? p19 = some v19) (hb : Below wr.heap.size wr w2) :
    Below w.heap.size w w2 ∧ w2.cell? p1 = some v1 ∧ w2.cell? p2 = some v2 ∧ w2.cell? p3 = some v3 ∧ w2.cell? p4 = some v4 ∧ w2.cell? p5 = some v5 ∧ w2.cell? p6 = some v6 ∧ w2.cell? p7 = some v7 ∧ w2.cell? p8 = some v8 ∧ w2.cell? p9 = some v9 ∧ w2.cell? p10 = some v10 ∧ w2.cell? p11 = some v11 ∧ w2.cell? p12 = some v12 ∧ w2.cell? p13 = some v13 ∧ w2.cell? p14 = some v14 ∧ w2.cell? p15 = some v15 ∧ w2.cell? p16 = some v16 ∧ w2.cell? p17 = some v17 ∧ w2.cell? p18 = some v18 ∧ w2.cell? p19 = some v19 :=
  ⟨h.1.trans (hb.mono h.1.size), old hb h.2.1, old hb h.2.2.1, old hb h.2.2.2.1, old hb h.2.2.2.2.1, old hb h.2.2.2.2.2.1, old hb h.2.2.2.2.2.2.1, old hb h.2.2.2.2.2.2.2.1, old hb h.2.2.2.2.2.2.2.2.1, old hb h.2.2.2.2.2.2.2.2.2.1, old hb h.2.2.2.2.2.2.2.2.2.2.1, old hb h.2.2.2.2.2.2.2.2.2.2.2.1, old hb h.2.2.2.2.2.2.2.2.2.2.2.2.1, old hb h.2.2.2.2.2.2.2.2.2.2.2.2.2.1, old hb h.2.2.2.2.2.2.2.2.2.2.2.2.2.2.1, old hb h.2.2.2.2.2.2.2.2.2.2.2.2.2.2.2.1, old hb h.2.2.2.2.2.2.2.2.2.2.2.2.2.2.2.2.1, old hb h.2.2.2.2.2.2.2.2.2.2.2.2.2.2.2.2.2.1, old hb h.2.2.2.2.2.2.2.2.2.2.2.2.2.2.2.2.2.2.1, old hb h.2.2.2.2.2.2.2.2.2.2.2.2.2.2.2.2.2.2.2⟩

/- both functions return the same tuple -/
theorem box_ex (z x y : Int) : ∃ A B C D E, (∀ W, Calls Try.prog 9 #[tl z x y] W fun e w' => e = .returned (.tuple #[bx A B C D, .int .i64 E]) ∧ Below W.heap.size W w') ∧ (∀ W, Calls Try.prog 10 #[tl z x y] W fun e w' => e = .returned (.tuple #[bx A B C D, .int .i64 E]) ∧ Below W.heap.size W w') :=
  ⟨_, _, _, _, _, fun W => boxT_any z x y W, fun W => boxTr_any z x y W⟩
theorem of_tup (x y z : Int) : ∃ A B C E, ofT x y z = .tuple #[tl A B C, .int .i64 E] := by
  unfold ofT; split
  · split <;> exact ⟨_, _, _, _, rfl⟩
  · exact ⟨_, _, _, _, rfl⟩
theorem of_ex (x y z : Int) : ∃ A B C E, (∀ W, Calls Try.prog 11 #[pt x y, .int .i64 z] W fun e w' => e = .returned (.tuple #[tl A B C, .int .i64 E]) ∧ Below W.heap.size W w') ∧ (∀ W, Calls Try.prog 12 #[pt x y, .int .i64 z] W fun e w' => e = .returned (.tuple #[tl A B C, .int .i64 E]) ∧ Below W.heap.size W w') := by
  obtain ⟨A, B, C, E, h⟩ := of_tup x y z
  refine ⟨A, B, C, E, fun W => ?_, fun W => ?_⟩
  · rw [← h]; exact ofT_any x y z W
  · rw [← h]; exact ofTr_any x y z W
set_option maxRecDepth 100000 in
set_option maxHeartbeats 8000000 in
theorem tilegridChecks_walk (vt vp : Value) (zz : Int) (w : World) (ht : IsTl vt) (hp : IsPt vp) (_hz : I64 zz) :
    Calls Try.prog 3 #[vt, vp, .int .i64 zz] w fun e w' => e = .returned (.bool true) ∧ Below w.heap.size w w' := by
  obtain ⟨z, x, y, rfl, _, _, _⟩ := ht
  obtain ⟨p, q, rfl, _, _⟩ := hp
  obtain ⟨A, B, C, D, E, c9, c10⟩ := box_ex z x y
  obtain ⟨P, Q, R, F, c11, c12⟩ := of_ex p q zz
  have C9 := Lib.hid c9; have C10 := Lib.hid c10; have C11 := Lib.hid c11; have C12 := Lib.hid c12
  clear c9 c10 c11 c12
  go_enter Try.func3, Try.ntmps3
  go_wp2_with fail
  have I0 : ∀ W, W = (w.alloc (.cells #[.int .i64 z, .int .i64 x, .int .i64 y] 23)).alloc (.cells #[.int .i64 p, .int .i64 q] 25) → (W.cell? ⟨w.heap.size, 0, none⟩ = some (.int .i64 z) ∧ W.cell? ⟨w.heap.size, 1, none⟩ = some (.int .i64 x) ∧ W.cell? ⟨w.heap.size, 2, none⟩ = some (.int .i64 y) ∧ W.cell? ⟨w.heap.size + 1, 0, none⟩ = some (.int .i64 p) ∧ W.cell? ⟨w.heap.size + 1, 1, none⟩ = some (.int .i64 q)) ∧ Below w.heap.size w W := by
    intro W e; subst e
    refine ⟨⟨by go_simp, by go_simp, by go_simp, by go_simp, by go_simp⟩, ?_⟩
    (repeat (first | exact Below.refl _ _ | (refine Below.alloc ?_ (by first | omega | (simp <;> omega)) _)))
  have J0 := I0 _ rfl; clear I0
  generalize (w.alloc (.cells #[.int .i64 z, .int .i64 x, .int .i64 y] 23)).alloc (.cells #[.int .i64 p, .int .i64 q] 25) = W0 at J0 ⊢
  obtain ⟨⟨f1, f2, f3, f4, f5⟩, bb0⟩ := J0
  have B0 := Lib.hid bb0; clear bb0
  refine (C9.out _).mono ?_; rintro e w1 ⟨rfl, hb⟩
  replace f1 := old hb f1; replace f2 := old hb f2; replace f3 := old hb f3; replace f4 := old hb f4; replace f5 := old hb f5
  have B2_ := Lib.hid (B0.out.trans (hb.mono B0.out.size)); clear hb
  have hz1 : w.heap.size < w1.heap.size := cell_lt f1
  have hz2 : w.heap.size + 1 < w1.heap.size := cell_lt f4
  go_wp2_with fail
  have I3 : ∀ W, W = w1.alloc (.cells #[.int .i64 A, .int .i64 B, .int .i64 C, .int .i64 D] 27) → (W.cell? ⟨w1.heap.size, 0, none⟩ = some (.int .i64 A) ∧ W.cell? ⟨w1.heap.size, 1, none⟩ = some (.int .i64 B) ∧ W.cell? ⟨w1.heap.size, 2, none⟩ = some (.int .i64 C) ∧ W.cell? ⟨w1.heap.size, 3, none⟩ = some (.int .i64 D)) ∧ Below w1.heap.size w1 W := by
    intro W e; subst e
    refine ⟨⟨by go_simp, by go_simp, by go_simp, by go_simp⟩, ?_⟩
    exact (Below.refl _ _).alloc (Nat.le_refl _) _
  have J3 := I3 _ rfl; clear I3
  generalize w1.alloc (.cells #[.int .i64 A, .int .i64 B, .int .i64 C, .int .i64 D] 27) = W3 at J3 ⊢
  obtain ⟨⟨f6, f7, f8, f9⟩, bb3⟩ := J3
  replace f1 := old bb3 f1; replace f2 := old bb3 f2; replace f3 := old bb3 f3; replace f4 := old bb3 f4; replace f5 := old bb3 f5
  have B4_ := Lib.hid (B2_.out.trans (bb3.mono B2_.out.size)); clear bb3
  refine (C10.out _).mono ?_; rintro e w5 ⟨rfl, hb⟩
  replace f1 := old hb f1; replace f2 := old hb f2; replace f3 := old hb f3; replace f4 := old hb f4; replace f5 := old hb f5; replace f6 := old hb f6; replace f7 := old hb f7; replace f8 := old hb f8; replace f9 := old hb f9
  have B6_ := Lib.hid (B4_.out.trans (hb.mono B4_.out.size)); clear hb
  clear hz1 hz2
  have hz1 : w.heap.size < w5.heap.size := cell_lt f1
  have hz2 : w.heap.size + 1 < w5.heap.size := cell_lt f4
  have hz3 : w1.heap.size < w5.heap.size := cell_lt f6
  go_wp2_with fail
  have I7 : ∀ W, W = w5.alloc (.cells #[.int .i64 A, .int .i64 B, .int .i64 C, .int .i64 D] 27) → (W.cell? ⟨w5.heap.size, 0, none⟩ = some (.int .i64 A) ∧ W.cell? ⟨w5.heap.size, 1, none⟩ = some (.int .i64 B) ∧ W.cell? ⟨w5.heap.size, 2, none⟩ = some (.int .i64 C) ∧ W.cell? ⟨w5.heap.size, 3, none⟩ = some (.int .i64 D)) ∧ Below w5.heap.size w5 W := by
    intro W e; subst e
    refine ⟨⟨by go_simp, by go_simp, by go_simp, by go_simp⟩, ?_⟩
    exact (Below.refl _ _).alloc (Nat.le_refl _) _
  have J7 := I7 _ rfl; clear I7
  generalize w5.alloc (.cells #[.int .i64 A, .int .i64 B, .int .i64 C, .int .i64 D] 27) = W7 at J7 ⊢
  obtain ⟨⟨f10, f11, f12, f13⟩, bb7⟩ := J7
  replace f1 := old bb7 f1; replace f2 := old bb7 f2; replace f3 := old bb7 f3; replace f4 := old bb7 f4; replace f5 := old bb7 f5; replace f6 := old bb7 f6; replace f7 := old bb7 f7; replace f8 := old bb7 f8; replace f9 := old bb7 f9
  have B8_ := Lib.hid (B6_.out.trans (bb7.mono B6_.out.size)); clear bb7
  refine (C11.out _).mono ?_; rintro e w9 ⟨rfl, hb⟩
  replace f1 := old hb f1; replace f2 := old hb f2; replace f3 := old hb f3; replace f4 := old hb f4; replace f5 := old hb f5; replace f6 := old hb f6; replace f7 := old hb f7; replace f8 := old hb f8; replace f9 := old hb f9; replace f10 := old hb f10; replace f11 := old hb f11; replace f12 := old hb f12; replace f13 := old hb f13
  have B10_ := Lib.hid (B8_.out.trans (hb.mono B8_.out.size)); clear hb
  clear hz1 hz2 hz3
  have hz1 : w.heap.size < w9.heap.size := cell_lt f1
  have hz2 : w.heap.size + 1 < w9.heap.size := cell_lt f4
  have hz3 : w1.heap.size < w9.heap.size := cell_lt f6
  have hz4 : w5.heap.size < w9.heap.size := cell_lt f10
  go_wp2_with fail
  have I11 : ∀ W, W = w9.alloc (.cells #[.int .i64 P, .int .i64 Q, .int .i64 R] 23) → (W.cell? ⟨w9.heap.size, 0, none⟩ = some (.int .i64 P) ∧ W.cell? ⟨w9.heap.size, 1, none⟩ = some (.int .i64 Q) ∧ W.cell? ⟨w9.heap.size, 2, none⟩ = some (.int .i64 R)) ∧ Below w9.heap.size w9 W := by
    intro W e; subst e
    refine ⟨⟨by go_simp, by go_simp, by go_simp⟩, ?_⟩
    exact (Below.refl _ _).alloc (Nat.le_refl _) _
  have J11 := I11 _ rfl; clear I11
  generalize w9.alloc (.cells #[.int .i64 P, .int .i64 Q, .int .i64 R] 23) = W11 at J11 ⊢
  obtain ⟨⟨f14, f15, f16⟩, bb11⟩ := J11
  replace f1 := old bb11 f1; replace f2 := old bb11 f2; replace f3 := old bb11 f3; replace f4 := old bb11 f4; replace f5 := old bb11 f5; replace f6 := old bb11 f6; replace f7 := old bb11 f7; replace f8 := old bb11 f8; replace f9 := old bb11 f9; replace f10 := old bb11 f10; replace f11 := old bb11 f11; replace f12 := old bb11 f12; replace f13 := old bb11 f13
  have B12_ := Lib.hid (B10_.out.trans (bb11.mono B10_.out.size)); clear bb11
  refine (C12.out _).mono ?_; rintro e w13 ⟨rfl, hb⟩
  replace f1 := old hb f1; replace f2 := old hb f2; replace f3 := old hb f3; replace f4 := old hb f4; replace f5 := old hb f5; replace f6 := old hb f6; replace f7 := old hb f7; replace f8 := old hb f8; replace f9 := old hb f9; replace f10 := old hb f10; replace f11 := old hb f11; replace f12 := old hb f12; replace f13 := old hb f13; replace f14 := old hb f14; replace f15 := old hb f15; replace f16 := old hb f16
  have B14_ := Lib.hid (B12_.out.trans (hb.mono B12_.out.size)); clear hb
  clear hz1 hz2 hz3 hz4
  have hz1 : w.heap.size < w13.heap.size := cell_lt f1
  have hz2 : w.heap.size + 1 < w13.heap.size := cell_lt f4
  have hz3 : w1.heap.size < w13.heap.size := cell_lt f6
  have hz4 : w5.heap.size < w13.heap.size := cell_lt f10
  have hz5 : w9.heap.size < w13.heap.size := cell_lt f14
  go_wp2_with fail
  have I15 : ∀ W, W = w13.alloc (.cells #[.int .i64 P, .int .i64 Q, .int .i64 R] 23) → (W.cell? ⟨w13.heap.size, 0, none⟩ = some (.int .i64 P) ∧ W.cell? ⟨w13.heap.size, 1, none⟩ = some (.int .i64 Q) ∧ W.cell? ⟨w13.heap.size, 2, none⟩ = some (.int .i64 R)) ∧ Below w13.heap.size w13 W := by
    intro W e; subst e
    refine ⟨⟨by go_simp, by go_simp, by go_simp⟩, ?_⟩
    exact (Below.refl _ _).alloc (Nat.le_refl _) _
  have J15 := I15 _ rfl; clear I15
  generalize w13.alloc (.cells #[.int .i64 P, .int .i64 Q, .int .i64 R] 23) = W15 at J15 ⊢
  obtain ⟨⟨f17, f18, f19⟩, bb15⟩ := J15
  replace f1 := old bb15 f1; replace f2 := old bb15 f2; replace f3 := old bb15 f3; replace f4 := old bb15 f4; replace f5 := old bb15 f5; replace f6 := old bb15 f6; replace f7 := old bb15 f7; replace f8 := old bb15 f8; replace f9 := old bb15 f9; replace f10 := old bb15 f10; replace f11 := old bb15 f11; replace f12 := old bb15 f12; replace f13 := old bb15 f13; replace f14 := old bb15 f14; replace f15 := old bb15 f15; replace f16 := old bb15 f16
  have B16_ := Lib.hid (B14_.out.trans (bb15.mono B14_.out.size)); clear bb15
  have S0 : Hid (∀ W, W = W15.drew → Below w.heap.size w W ∧ W.cell? ⟨w.heap.size, 0, none⟩ = some (.int .i64 z) ∧ W.cell? ⟨w.heap.size, 1, none⟩ = some (.int .i64 x) ∧ W.cell? ⟨w.heap.size, 2, none⟩ = some (.int .i64 y) ∧ W.cell? ⟨w.heap.size + 1, 0, none⟩ = some (.int .i64 p) ∧ W.cell? ⟨w.heap.size + 1, 1, none⟩ = some (.int .i64 q) ∧ W.cell? ⟨w1.heap.size, 0, none⟩ = some (.int .i64 A) ∧ W.cell? ⟨w1.heap.size, 1, none⟩ = some (.int .i64 B) ∧ W.cell? ⟨w1.heap.size, 2, none⟩ = some (.int .i64 C) ∧ W.cell? ⟨w1.heap.size, 3, none⟩ = some (.int .i64 D) ∧ W.cell? ⟨w5.heap.size, 0, none⟩ = some (.int .i64 A) ∧ W.cell? ⟨w5.heap.size, 1, none⟩ = some (.int .i64 B) ∧ W.cell? ⟨w5.heap.size, 2, none⟩ = some (.int .i64 C) ∧ W.cell? ⟨w5.heap.size, 3, none⟩ = some (.int .i64 D) ∧ W.cell? ⟨w9.heap.size, 0, none⟩ = some (.int .i64 P) ∧ W.cell? ⟨w9.heap.size, 1, none⟩ = some (.int .i64 Q) ∧ W.cell? ⟨w9.heap.size, 2, none⟩ = some (.int .i64 R) ∧ W.cell? ⟨w13.heap.size, 0, none⟩ = some (.int .i64 P) ∧ W.cell? ⟨w13.heap.size, 1, none⟩ = some (.int .i64 Q) ∧ W.cell? ⟨w13.heap.size, 2, none⟩ = some (.int .i64 R)) := by
    intro W e; subst e
    exact ⟨B16_.out.drew, by go_simp, by go_simp, by go_simp, by go_simp, by go_simp, by go_simp, by go_simp, by go_simp, by go_simp, by go_simp, by go_simp, by go_simp, by go_simp, by go_simp, by go_simp, by go_simp, by go_simp, by go_simp, by go_simp⟩
  go_region_held3 (fun w' => Below w.heap.size w w' ∧ w'.cell? ⟨w.heap.size, 0, none⟩ = some (.int .i64 z) ∧ w'.cell? ⟨w.heap.size, 1, none⟩ = some (.int .i64 x) ∧ w'.cell? ⟨w.heap.size, 2, none⟩ = some (.int .i64 y) ∧ w'.cell? ⟨w.heap.size + 1, 0, none⟩ = some (.int .i64 p) ∧ w'.cell? ⟨w.heap.size + 1, 1, none⟩ = some (.int .i64 q) ∧ w'.cell? ⟨w1.heap.size, 0, none⟩ = some (.int .i64 A) ∧ w'.cell? ⟨w1.heap.size, 1, none⟩ = some (.int .i64 B) ∧ w'.cell? ⟨w1.heap.size, 2, none⟩ = some (.int .i64 C) ∧ w'.cell? ⟨w1.heap.size, 3, none⟩ = some (.int .i64 D) ∧ w'.cell? ⟨w5.heap.size, 0, none⟩ = some (.int .i64 A) ∧ w'.cell? ⟨w5.heap.size, 1, none⟩ = some (.int .i64 B) ∧ w'.cell? ⟨w5.heap.size, 2, none⟩ = some (.int .i64 C) ∧ w'.cell? ⟨w5.heap.size, 3, none⟩ = some (.int .i64 D) ∧ w'.cell? ⟨w9.heap.size, 0, none⟩ = some (.int .i64 P) ∧ w'.cell? ⟨w9.heap.size, 1, none⟩ = some (.int .i64 Q) ∧ w'.cell? ⟨w9.heap.size, 2, none⟩ = some (.int .i64 R) ∧ w'.cell? ⟨w13.heap.size, 0, none⟩ = some (.int .i64 P) ∧ w'.cell? ⟨w13.heap.size, 1, none⟩ = some (.int .i64 Q) ∧ w'.cell? ⟨w13.heap.size, 2, none⟩ = some (.int .i64 R))
    (first | exact S0.out _ rfl | assumption | exact keep19 (by assumption) (by assumption))
    (first | (go_at_call 13; (with_reducible refine (checkT_any _ _ _ _).mono ?_); rintro e w9 ⟨rfl, b9⟩) | (go_at_call 14; (with_reducible refine (checkTr_any _ _ _ _).mono ?_); rintro e w9 ⟨rfl, b9⟩) | (go_at_call 15; (with_reducible refine (size_any _ _).mono ?_); rintro e w9 ⟨rfl, rfl⟩) | (go_at_call 16; (with_reducible refine (sizer_any _ _).mono ?_); rintro e w9 ⟨rfl, rfl⟩) | (go_at_call 17; (with_reducible refine (lives_any _).mono ?_); rintro e w9 ⟨rfl, b9⟩))
  all_goals go_wp2
  all_goals go_ret
  all_goals exact ⟨rfl, bel_of (by assumption)⟩
end Go.Proofs.Ytoibhapjkeakbaa
