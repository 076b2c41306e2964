/- The walks of the laws on CmpMul: a struct of four integers comes in. -/
import Derived.Test.YticjeknfnbligaaWh
import Derived.Lib.SmallJoins
import Derived.Deep.RegionHeld3
namespace Go.Proofs.Yticjeknfnbligaa
open Go.ChangeShapes Go.WideShapes Go.ChangeAt Go.RowKit Go.Joins

theorem Try.cells32 : Try.prog.cellsOf 32 = 4 := by kernel_rfl

def IsFour (v : Value) : Prop := ∃ a b c d : Int, I64 a ∧ I64 b ∧ I64 c ∧ I64 d ∧ v = .agg #[.int .i64 a, .int .i64 b, .int .i64 c, .int .i64 d]
theorem four_open {H : Type} {enc : TypeId × Value → H} {W : World} {base b0 : Nat} {spare : Nat → Bool} {held : Bool} {r : Reach} {v : Value} {d : DataW H} {p : List MemPlace}
    (hv : Value.okWide Try.prog W r b0 32 v) (h : DataW.Trod enc Try.prog W base spare held 32 v d p) : IsFour v := by
  obtain ⟨v0, v1, v2, v3, y0, y1, y2, y3, n, rfl, _, _, h0, h1, h2, h3⟩ := open_agg4 Try.underlying32 (by kernel_rfl) Try.cells32 hv h
  obtain ⟨a, e0, _, wa⟩ := DataW.trod_int Try.underlying3 h0
  obtain ⟨b, e1, _, wb⟩ := DataW.trod_int Try.underlying3 h1
  obtain ⟨c, e2, _, wc⟩ := DataW.trod_int Try.underlying3 h2
  obtain ⟨d, e3, _, wd⟩ := DataW.trod_int Try.underlying3 h3
  simp at e0 e1 e2 e3
  subst e0 e1 e2 e3
  exact ⟨a, b, c, d, wf_i64 wa, wf_i64 wb, wf_i64 wc, wf_i64 wd, rfl⟩
abbrev numCompares_zero0 : Value := .agg #[.int .i64 0, .int .i64 0, .int .i64 0, .int .i64 0]
abbrev numOrders_zero0 : Value := .agg #[.int .i64 0, .int .i64 0, .int .i64 0, .int .i64 0]
theorem numCompares_open0 {H : Type} {enc : TypeId × Value → H} {W : World} {base b0 : Nat} {spare : Nat → Bool} {held : Bool} {r : Reach} {v : Value} {d : DataW H} {p : List MemPlace}
    (hv : Value.okWide Try.prog W r b0 32 v) (h : DataW.Trod enc Try.prog W base spare held 32 v d p) : IsFour v := four_open hv h
theorem numOrders_open0 {H : Type} {enc : TypeId × Value → H} {W : World} {base b0 : Nat} {spare : Nat → Bool} {held : Bool} {r : Reach} {v : Value} {d : DataW H} {p : List MemPlace}
    (hv : Value.okWide Try.prog W r b0 32 v) (h : DataW.Trod enc Try.prog W base spare held 32 v d p) : IsFour v := four_open hv h

/- a block's four cells, and all below it, hold -/
theorem four_keep {w0 w w1 : World} {B : Nat} {a b c d : Value} (h : w.cell? ⟨B, 0, none⟩ = some a ∧ w.cell? ⟨B, 1, none⟩ = some b ∧ w.cell? ⟨B, 2, none⟩ = some c ∧ w.cell? ⟨B, 3, none⟩ = some d ∧ Below B w0 w ∧ B < w.heap.size)
    (hb : Below w.heap.size w w1) : w1.cell? ⟨B, 0, none⟩ = some a ∧ w1.cell? ⟨B, 1, none⟩ = some b ∧ w1.cell? ⟨B, 2, none⟩ = some c ∧ w1.cell? ⟨B, 3, none⟩ = some d ∧ Below B w0 w1 ∧ B < w1.heap.size := by
  obtain ⟨h1, h2, h3, h4, h5, h6⟩ := h
  have hs := hb.size
  refine ⟨?_, ?_, ?_, ?_, h5.trans (hb.mono (by omega)), by omega⟩
  all_goals rw [hb.cell (by exact h6)]; assumption

theorem four_below {w0 w : World} {B : Nat} {a b c d : Value} (h : w.cell? ⟨B, 0, none⟩ = some a ∧ w.cell? ⟨B, 1, none⟩ = some b ∧ w.cell? ⟨B, 2, none⟩ = some c ∧ w.cell? ⟨B, 3, none⟩ = some d ∧ Below B w0 w ∧ B < w.heap.size) : Below B w0 w := h.2.2.2.2.1

set_option maxHeartbeats 1000000 in
theorem numCompares_walk (v : Value) (w : World) (hv : IsFour v) :
    Calls Try.prog 8 #[v] w fun e w' => e = .returned (.bool true) ∧ Below w.heap.size w w' := by
  obtain ⟨a, b, c, d, ha, hb, hc, hd, rfl⟩ := hv
  have HA := Lib.hid ha; have HB := Lib.hid hb; have HC := Lib.hid hc; have HD := Lib.hid hd
  clear ha hb hc hd
  go_enter Try.func8, Try.ntmps8
  go_wp2_with fail
  have F : (w.alloc (.cells #[.int .i64 a, .int .i64 b, .int .i64 c, .int .i64 d] 32)).drew.cell? ⟨w.heap.size, 0, none⟩ = some (.int .i64 a) ∧ (w.alloc (.cells #[.int .i64 a, .int .i64 b, .int .i64 c, .int .i64 d] 32)).drew.cell? ⟨w.heap.size, 1, none⟩ = some (.int .i64 b) ∧ (w.alloc (.cells #[.int .i64 a, .int .i64 b, .int .i64 c, .int .i64 d] 32)).drew.cell? ⟨w.heap.size, 2, none⟩ = some (.int .i64 c) ∧ (w.alloc (.cells #[.int .i64 a, .int .i64 b, .int .i64 c, .int .i64 d] 32)).drew.cell? ⟨w.heap.size, 3, none⟩ = some (.int .i64 d) ∧ Below w.heap.size w (w.alloc (.cells #[.int .i64 a, .int .i64 b, .int .i64 c, .int .i64 d] 32)).drew ∧ w.heap.size < (w.alloc (.cells #[.int .i64 a, .int .i64 b, .int .i64 c, .int .i64 d] 32)).drew.heap.size :=
    ⟨by go_simp, by go_simp, by go_simp, by go_simp, ((Below.refl _ _).alloc (Nat.le_refl _) _).drew, by simp⟩
  have HF := Lib.hid F; clear F
  go_region_held3 (fun w' => w'.cell? ⟨w.heap.size, 0, none⟩ = some (.int .i64 a) ∧ w'.cell? ⟨w.heap.size, 1, none⟩ = some (.int .i64 b) ∧ w'.cell? ⟨w.heap.size, 2, none⟩ = some (.int .i64 c) ∧ w'.cell? ⟨w.heap.size, 3, none⟩ = some (.int .i64 d) ∧ Below w.heap.size w w' ∧ w.heap.size < w'.heap.size)
    (first | exact HF.out | assumption | exact four_keep (by assumption) (by assumption))
    (first
      | (go_at_call 24; (with_reducible refine (cmpmul_any a b c d _ HA.out HB.out HC.out HD.out).mono ?_); rintro e w1 ⟨rfl, b1⟩)
      | (go_at_call 25; (with_reducible refine (cmpmulr_any a b c d _ HA.out HB.out HC.out HD.out).mono ?_); rintro e w1 ⟨rfl, rfl⟩)
      | (go_at_call 13; (with_reducible refine (lives_any _).mono ?_); rintro e w1 ⟨rfl, b1⟩))
  all_goals go_wp2
  all_goals go_ret
  all_goals exact ⟨rfl, four_below (by assumption)⟩

/- the comparison's symmetries -/
theorem sgn_anti (a b : Int) : sgn b a = -sgn a b := by
  rcases Int.lt_trichotomy a b with h | h | h
  · rw [sgn_gt h, sgn_lt h]; rfl
  · rw [sgn_eq h, sgn_eq h.symm]; rfl
  · rw [sgn_lt h, sgn_gt h]
theorem lex2_anti (x0 x1 y0 y1 : Int) : lex2 y0 y1 x0 x1 = -lex2 x0 x1 y0 y1 := by
  unfold lex2
  rw [sgn_anti x0 y0, sgn_anti x1 y1]
  split <;> split <;> omega
theorem psgn_comm (a b : Int) : psgn b a = psgn a b := Int.mul_comm _ _
theorem phi_comm (a b : Int) : phi b a = phi a b := by unfold phi; rw [Int.mul_comm]
theorem plo_comm (a b : Int) : plo b a = plo a b := by unfold plo; rw [Int.mul_comm]
theorem cmpZ_swap (a b c d : Int) : cmpZ c d a b = -cmpZ a b c d := by
  unfold cmpZ
  by_cases h : psgn a b = psgn c d
  · rw [if_pos h, if_pos h.symm, lex2_anti, h, Int.mul_neg]
  · rw [if_neg h, if_neg (fun e => h e.symm), sgn_anti]
theorem cmpZ_comm (a b c d : Int) : cmpZ b a c d = cmpZ a b c d := by
  unfold cmpZ; rw [psgn_comm, phi_comm, plo_comm]
theorem cmpZ_self (a b : Int) : cmpZ a b b a = 0 := by
  unfold cmpZ; rw [psgn_comm, phi_comm, plo_comm, if_pos rfl]
  unfold lex2; rw [sgn_eq rfl, sgn_eq rfl]; simp

set_option maxHeartbeats 1000000 in
theorem numOrders_walk (v : Value) (w : World) (hv : IsFour v) :
    Calls Try.prog 9 #[v] w fun e w' => e = .returned (.bool true) ∧ Below w.heap.size w w' := by
  obtain ⟨a, b, c, d, ha, hb, hc, hd, rfl⟩ := hv
  have HA := Lib.hid ha; have HB := Lib.hid hb; have HC := Lib.hid hc; have HD := Lib.hid hd
  clear ha hb hc hd
  obtain ⟨n, hn⟩ : ∃ n, cmpZ a b c d = n := ⟨_, rfl⟩
  have n1 : -1 ≤ n := by rw [← hn]; exact (cmpZ_bd a b c d).1
  have n2 : n ≤ 1 := by rw [← hn]; exact (cmpZ_bd a b c d).2
  have HN := Lib.hid hn; clear hn
  go_enter Try.func9, Try.ntmps9
  go_wp2_with fail
  refine (cmpmul_at a b c d n _ HA.out HB.out HC.out HD.out HN.out).mono ?_; rintro e w1 ⟨rfl, b1⟩
  have F1 := four_keep (w0 := w) (B := w.heap.size) (a := .int .i64 a) (b := .int .i64 b) (c := .int .i64 c) (d := .int .i64 d) ⟨by go_simp, by go_simp, by go_simp, by go_simp, (Below.refl _ _).alloc (Nat.le_refl _) _, by simp⟩ b1
  have HF1 := Lib.hid F1
  obtain ⟨c1, c2, c3, c4, _, _⟩ := F1
  go_wp2_with fail
  refine (cmpmul_at c d a b (-n) _ HC.out HD.out HA.out HB.out (by rw [cmpZ_swap, HN.out])).mono ?_; rintro e w2 ⟨rfl, b2⟩
  have F2 := four_keep HF1.out b2
  have HF2 := Lib.hid F2
  clear c1 c2 c3 c4
  obtain ⟨c1, c2, c3, c4, _, _⟩ := F2
  go_wp2_with fail
  refine (cmpmul_at b a c d n _ HB.out HA.out HC.out HD.out (by rw [cmpZ_comm, HN.out])).mono ?_; rintro e w3 ⟨rfl, b3⟩
  have F3 := four_keep HF2.out b3
  have HF3 := Lib.hid F3
  clear c1 c2 c3 c4
  obtain ⟨c1, c2, c3, c4, _, _⟩ := F3
  go_wp2_with fail
  refine (cmpmul_at a b b a 0 _ HA.out HB.out HB.out HA.out (cmpZ_self a b)).mono ?_; rintro e w4 ⟨rfl, b4⟩
  have HF4 := Lib.hid (four_keep HF3.out b4)
  go_wp2_with fail
  refine (lives_any _).mono ?_; rintro e w5 ⟨rfl, b5⟩
  go_wp2_with fail
  go_ret
  exact ⟨rfl, four_below (four_keep HF4.out b5)⟩
end Go.Proofs.Yticjeknfnbligaa
