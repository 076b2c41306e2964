/- The arguments opened; GridPoints, GridProjects. -/
import Derived.Test.YtahaigamigkhbaaWj
namespace Go.Proofs.Ytahaigamigkhbaa
open Go.ChangeShapes Go.WideShapes Go.ChangeAt Go.RowKit Go.Joins Go.Deep

theorem Try.cells25 : Try.prog.cellsOf 25 = 2 := by kernel_rfl
theorem Try.cells23 : Try.prog.cellsOf 23 = 2 := by kernel_rfl
theorem Try.cells40 : Try.prog.cellsOf 40 = 4 := by kernel_rfl
theorem Try.cells3 : Try.prog.cellsOf 3 = 1 := by kernel_rfl
theorem pt_open {H : Type} {enc : TypeId × Value → H} {W : World} {base b0 : Nat} {spare : Nat → Bool} {held : Bool} {r : Reach} {v : Value} {d : DataW H} {p : List MemPlace}
    (hv : Value.okWide Try.prog W r b0 25 v) (h : DataW.Trod enc Try.prog W base spare held 25 v d p) : ∃ x y, v = pt x y := by
  obtain ⟨v0, v1, y0, y1, n, rfl, _, _, h0, h1⟩ := open_agg2 Try.underlying25 (by kernel_rfl) Try.cells25 hv h
  obtain ⟨x, e1, _, _⟩ := DataW.trod_int Try.underlying3 h0
  obtain ⟨y, e2, _, _⟩ := DataW.trod_int Try.underlying3 h1
  simp at e1 e2
  subst e1 e2
  exact ⟨x, y, rfl⟩
theorem co_open {H : Type} {enc : TypeId × Value → H} {W : World} {base b0 : Nat} {spare : Nat → Bool} {held : Bool} {r : Reach} {v : Value} {d : DataW H} {p : List MemPlace}
    (hv : Value.okWide Try.prog W r b0 23 v) (h : DataW.Trod enc Try.prog W base spare held 23 v d p) : ∃ x y, v = pt x y := by
  obtain ⟨v0, v1, y0, y1, n, rfl, _, _, h0, h1⟩ := open_agg2 Try.underlying23 (by kernel_rfl) Try.cells23 hv h
  obtain ⟨x, e1, _, _⟩ := DataW.trod_int Try.underlying3 h0
  obtain ⟨y, e2, _, _⟩ := DataW.trod_int Try.underlying3 h1
  simp at e1 e2
  subst e1 e2
  exact ⟨x, y, rfl⟩
theorem bx_open {H : Type} {enc : TypeId × Value → H} {W : World} {base b0 : Nat} {spare : Nat → Bool} {held : Bool} {r : Reach} {v : Value} {d : DataW H} {p : List MemPlace}
    (hv : Value.okWide Try.prog W r b0 40 v) (h : DataW.Trod enc Try.prog W base spare held 40 v d p) : ∃ a b c d, v = bx a b c d := by
  obtain ⟨v0, v1, v2, v3, y0, y1, y2, y3, n, rfl, _, _, h0, h1, h2, h3⟩ := open_agg4 Try.underlying40 (by kernel_rfl) Try.cells40 hv h
  obtain ⟨a, e1, _, _⟩ := DataW.trod_int Try.underlying3 h0
  obtain ⟨b, e2, _, _⟩ := DataW.trod_int Try.underlying3 h1
  obtain ⟨c, e3, _, _⟩ := DataW.trod_int Try.underlying3 h2
  obtain ⟨d, e4, _, _⟩ := DataW.trod_int Try.underlying3 h3
  simp at e1 e2 e3 e4
  subst e1 e2 e3 e4
  exact ⟨a, b, c, d, rfl⟩
abbrev gridPoints_zero0 : Value := bx 0 0 0 0
theorem gridPoints_open0 {H : Type} {enc : TypeId × Value → H} {W : World} {base b0 : Nat} {spare : Nat → Bool} {held : Bool} {r : Reach} {v : Value} {d : DataW H} {p : List MemPlace}
    (hv : Value.okWide Try.prog W r b0 40 v) (h : DataW.Trod enc Try.prog W base spare held 40 v d p) : ∃ a b c d, v = bx a b c d := bx_open hv h
abbrev gridPoints_zero1 : Value := pt 0 0
theorem gridPoints_open1 {H : Type} {enc : TypeId × Value → H} {W : World} {base b0 : Nat} {spare : Nat → Bool} {held : Bool} {r : Reach} {v : Value} {d : DataW H} {p : List MemPlace}
    (hv : Value.okWide Try.prog W r b0 25 v) (h : DataW.Trod enc Try.prog W base spare held 25 v d p) : ∃ x y, v = pt x y := pt_open hv h
abbrev gridPoints_zero2 : Value := pt 0 0
theorem gridPoints_open2 {H : Type} {enc : TypeId × Value → H} {W : World} {base b0 : Nat} {spare : Nat → Bool} {held : Bool} {r : Reach} {v : Value} {d : DataW H} {p : List MemPlace}
    (hv : Value.okWide Try.prog W r b0 25 v) (h : DataW.Trod enc Try.prog W base spare held 25 v d p) : ∃ x y, v = pt x y := pt_open hv h
abbrev gridProjects_zero0 : Value := pt 0 0
theorem gridProjects_open0 {H : Type} {enc : TypeId × Value → H} {W : World} {base b0 : Nat} {spare : Nat → Bool} {held : Bool} {r : Reach} {v : Value} {d : DataW H} {p : List MemPlace}
    (hv : Value.okWide Try.prog W r b0 23 v) (h : DataW.Trod enc Try.prog W base spare held 23 v d p) : ∃ x y, v = pt x y := co_open hv h
abbrev gridProjects_zero1 : Value := pt 0 0
theorem gridProjects_open1 {H : Type} {enc : TypeId × Value → H} {W : World} {base b0 : Nat} {spare : Nat → Bool} {held : Bool} {r : Reach} {v : Value} {d : DataW H} {p : List MemPlace}
    (hv : Value.okWide Try.prog W r b0 25 v) (h : DataW.Trod enc Try.prog W base spare held 25 v d p) : ∃ x y, v = pt x y := pt_open hv h
abbrev gridInverse_zero0 : Value := pt 0 0
theorem gridInverse_open0 {H : Type} {enc : TypeId × Value → H} {W : World} {base b0 : Nat} {spare : Nat → Bool} {held : Bool} {r : Reach} {v : Value} {d : DataW H} {p : List MemPlace}
    (hv : Value.okWide Try.prog W r b0 25 v) (h : DataW.Trod enc Try.prog W base spare held 25 v d p) : ∃ x y, v = pt x y := pt_open hv h
abbrev gridInverse_zero1 : Value := pt 0 0
theorem gridInverse_open1 {H : Type} {enc : TypeId × Value → H} {W : World} {base b0 : Nat} {spare : Nat → Bool} {held : Bool} {r : Reach} {v : Value} {d : DataW H} {p : List MemPlace}
    (hv : Value.okWide Try.prog W r b0 23 v) (h : DataW.Trod enc Try.prog W base spare held 23 v d p) : ∃ x y, v = pt x y := co_open hv h
abbrev gridInverse_zero2 : Value := pt 0 0
theorem gridInverse_open2 {H : Type} {enc : TypeId × Value → H} {W : World} {base b0 : Nat} {spare : Nat → Bool} {held : Bool} {r : Reach} {v : Value} {d : DataW H} {p : List MemPlace}
    (hv : Value.okWide Try.prog W r b0 23 v) (h : DataW.Trod enc Try.prog W base spare held 23 v d p) : ∃ x y, v = pt x y := co_open hv h
abbrev gridMeets_zero0 : Value := bx 0 0 0 0
theorem gridMeets_open0 {H : Type} {enc : TypeId × Value → H} {W : World} {base b0 : Nat} {spare : Nat → Bool} {held : Bool} {r : Reach} {v : Value} {d : DataW H} {p : List MemPlace}
    (hv : Value.okWide Try.prog W r b0 40 v) (h : DataW.Trod enc Try.prog W base spare held 40 v d p) : ∃ a b c d, v = bx a b c d := bx_open hv h
abbrev gridMeets_zero1 : Value := bx 0 0 0 0
theorem gridMeets_open1 {H : Type} {enc : TypeId × Value → H} {W : World} {base b0 : Nat} {spare : Nat → Bool} {held : Bool} {r : Reach} {v : Value} {d : DataW H} {p : List MemPlace}
    (hv : Value.okWide Try.prog W r b0 40 v) (h : DataW.Trod enc Try.prog W base spare held 40 v d p) : ∃ a b c d, v = bx a b c d := bx_open hv h
abbrev gridMeets_zero2 : Value := pt 0 0
theorem gridMeets_open2 {H : Type} {enc : TypeId × Value → H} {W : World} {base b0 : Nat} {spare : Nat → Bool} {held : Bool} {r : Reach} {v : Value} {d : DataW H} {p : List MemPlace}
    (hv : Value.okWide Try.prog W r b0 25 v) (h : DataW.Trod enc Try.prog W base spare held 25 v d p) : ∃ x y, v = pt x y := pt_open hv h

set_option maxRecDepth 100000 in
set_option maxHeartbeats 8000000 in
theorem gridPoints_walk (va vp vq : Value) (w : World) (ha : ∃ a b c d, va = bx a b c d) (hp : ∃ x y, vp = pt x y) (hq : ∃ x y, vq = pt x y) :
    Calls Try.prog 5 #[va, vp, vq] w fun e w' => e = .returned (.bool true) ∧ Below w.heap.size w w' := by
  obtain ⟨a, b, c, d, rfl⟩ := ha
  obtain ⟨x, y, rfl⟩ := hp
  obtain ⟨p, q, rfl⟩ := hq
  have S0 : Hid (∀ W, W = (((w.alloc (.cells #[.int .i64 a, .int .i64 b, .int .i64 c, .int .i64 d] 40)).alloc (.cells #[.int .i64 x, .int .i64 y] 25)).alloc (.cells #[.int .i64 p, .int .i64 q] 25)).drew →
      Below w.heap.size w W ∧ W.cell? ⟨w.heap.size, 0, none⟩ = some (.int .i64 a) ∧ W.cell? ⟨w.heap.size, 1, none⟩ = some (.int .i64 b) ∧ W.cell? ⟨w.heap.size, 2, none⟩ = some (.int .i64 c) ∧ W.cell? ⟨w.heap.size, 3, none⟩ = some (.int .i64 d) ∧ W.cell? ⟨w.heap.size + 1, 0, none⟩ = some (.int .i64 x) ∧ W.cell? ⟨w.heap.size + 1, 1, none⟩ = some (.int .i64 y) ∧ W.cell? ⟨w.heap.size + 1 + 1, 0, none⟩ = some (.int .i64 p) ∧ W.cell? ⟨w.heap.size + 1 + 1, 1, none⟩ = some (.int .i64 q)) := by
    intro W e; subst e
    exact ⟨((((Below.refl _ _).alloc (Nat.le_refl _) _).alloc (by simp) _).alloc (by simp; omega) _).drew, by go_simp, by go_simp, by go_simp, by go_simp, by go_simp, by go_simp, by go_simp, by go_simp⟩
  go_enter Try.func5, Try.ntmps5
  go_wp2_with fail
  go_region_held3 (fun w' => Below w.heap.size w w' ∧ w'.cell? ⟨w.heap.size, 0, none⟩ = some (.int .i64 a) ∧ w'.cell? ⟨w.heap.size, 1, none⟩ = some (.int .i64 b) ∧ w'.cell? ⟨w.heap.size, 2, none⟩ = some (.int .i64 c) ∧ w'.cell? ⟨w.heap.size, 3, none⟩ = some (.int .i64 d) ∧ w'.cell? ⟨w.heap.size + 1, 0, none⟩ = some (.int .i64 x) ∧ w'.cell? ⟨w.heap.size + 1, 1, none⟩ = some (.int .i64 y) ∧ w'.cell? ⟨w.heap.size + 1 + 1, 0, none⟩ = some (.int .i64 p) ∧ w'.cell? ⟨w.heap.size + 1 + 1, 1, none⟩ = some (.int .i64 q))
    (first | exact S0.out _ rfl | assumption | exact keep8 (by assumption) (by assumption))
    (first
      | (go_at_call 23; (with_reducible refine (less_any _ _ _ _ _).mono ?_); rintro en w1 ⟨rfl, b1⟩)
      | (go_at_call 24; (with_reducible refine (lessr_any _ _ _ _ _).mono ?_); rintro en w1 ⟨rfl, b1⟩)
      | (go_at_call 25; (with_reducible refine (holds_any _ _ _ _ _ _ _).mono ?_); rintro en w1 ⟨rfl, b1⟩)
      | (go_at_call 26; (with_reducible refine (holdsr_any _ _ _ _ _ _ _).mono ?_); rintro en w1 ⟨rfl, b1⟩)
      | (go_at_call 27; (with_reducible refine (dist_any _ _ _ _ _ _ _).mono ?_); rintro en w1 ⟨rfl, b1⟩)
      | (go_at_call 28; (with_reducible refine (distr_any _ _ _ _ _ _ _).mono ?_); rintro en w1 ⟨rfl, b1⟩)
      | (go_at_call 14; (with_reducible refine (lives_any _).mono ?_); rintro en w1 ⟨rfl, b1⟩))
  all_goals go_wp2
  all_goals go_ret
  all_goals exact ⟨rfl, bel_of (by assumption)⟩
end Go.Proofs.Ytahaigamigkhbaa
