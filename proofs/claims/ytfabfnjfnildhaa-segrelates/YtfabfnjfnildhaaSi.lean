/- seg: the openings of the laws; the walk of SegOrders. -/
import Derived.Test.YtfabfnjfnildhaaSh
namespace Go.Proofs.Ytfabfnjfnildhaa
open Go.ChangeShapes Go.WideShapes Go.ChangeAt Go.RowKit Go.Joins Go.Deep

theorem Try.cells23 : Try.prog.cellsOf 23 = 2 := by kernel_rfl
theorem Try.cells25 : Try.prog.cellsOf 25 = 4 := by kernel_rfl
theorem wf_i64 {x : Int} (h : (Lit.int .i64 x).wf = true) : I64 x := by
  simp only [Lit.wf, Bool.and_eq_true, decide_eq_true_eq] at h; exact h
def IsPt (v : Value) : Prop := ∃ x y, v = pt x y ∧ I64 x ∧ I64 y
theorem pt_open {H : Type} {enc : TypeId × Value → H} {W : World} {base b0 : Nat} {spare : Nat → Bool} {held : Bool} {r : Reach} {v : Value} {d : DataW H} {p : List MemPlace}
    (hv : Value.okWide Try.prog W r b0 23 v) (h : DataW.Trod enc Try.prog W base spare held 23 v d p) : IsPt v := by
  obtain ⟨v0, v1, y0, y1, n, rfl, _, _, h0, h1⟩ := open_agg2 Try.underlying23 (by kernel_rfl) Try.cells23 hv h
  obtain ⟨x0, e0, _, k0⟩ := DataW.trod_int Try.underlying3 h0
  obtain ⟨x1, e1, _, k1⟩ := DataW.trod_int Try.underlying3 h1
  simp at e0 e1
  subst e0 e1
  exact ⟨x0, x1, rfl, wf_i64 k0, wf_i64 k1⟩
abbrev segTurns_zero0 : Value := pt 0 0
theorem segTurns_open0 {H : Type} {enc : TypeId × Value → H} {W : World} {base b0 : Nat} {spare : Nat → Bool} {held : Bool} {r : Reach} {v : Value} {d : DataW H} {p : List MemPlace}
    (hv : Value.okWide Try.prog W r b0 23 v) (h : DataW.Trod enc Try.prog W base spare held 23 v d p) : IsPt v := pt_open hv h
abbrev segTurns_zero1 : Value := pt 0 0
theorem segTurns_open1 {H : Type} {enc : TypeId × Value → H} {W : World} {base b0 : Nat} {spare : Nat → Bool} {held : Bool} {r : Reach} {v : Value} {d : DataW H} {p : List MemPlace}
    (hv : Value.okWide Try.prog W r b0 23 v) (h : DataW.Trod enc Try.prog W base spare held 23 v d p) : IsPt v := pt_open hv h
abbrev segTurns_zero2 : Value := pt 0 0
theorem segTurns_open2 {H : Type} {enc : TypeId × Value → H} {W : World} {base b0 : Nat} {spare : Nat → Bool} {held : Bool} {r : Reach} {v : Value} {d : DataW H} {p : List MemPlace}
    (hv : Value.okWide Try.prog W r b0 23 v) (h : DataW.Trod enc Try.prog W base spare held 23 v d p) : IsPt v := pt_open hv h
abbrev segTurns_zero3 : Value := pt 0 0
theorem segTurns_open3 {H : Type} {enc : TypeId × Value → H} {W : World} {base b0 : Nat} {spare : Nat → Bool} {held : Bool} {r : Reach} {v : Value} {d : DataW H} {p : List MemPlace}
    (hv : Value.okWide Try.prog W r b0 23 v) (h : DataW.Trod enc Try.prog W base spare held 23 v d p) : IsPt v := pt_open hv h
abbrev segFars_zero0 : Value := pt 0 0
theorem segFars_open0 {H : Type} {enc : TypeId × Value → H} {W : World} {base b0 : Nat} {spare : Nat → Bool} {held : Bool} {r : Reach} {v : Value} {d : DataW H} {p : List MemPlace}
    (hv : Value.okWide Try.prog W r b0 23 v) (h : DataW.Trod enc Try.prog W base spare held 23 v d p) : IsPt v := pt_open hv h
abbrev segFars_zero1 : Value := pt 0 0
theorem segFars_open1 {H : Type} {enc : TypeId × Value → H} {W : World} {base b0 : Nat} {spare : Nat → Bool} {held : Bool} {r : Reach} {v : Value} {d : DataW H} {p : List MemPlace}
    (hv : Value.okWide Try.prog W r b0 23 v) (h : DataW.Trod enc Try.prog W base spare held 23 v d p) : IsPt v := pt_open hv h
abbrev segFars_zero2 : Value := pt 0 0
theorem segFars_open2 {H : Type} {enc : TypeId × Value → H} {W : World} {base b0 : Nat} {spare : Nat → Bool} {held : Bool} {r : Reach} {v : Value} {d : DataW H} {p : List MemPlace}
    (hv : Value.okWide Try.prog W r b0 23 v) (h : DataW.Trod enc Try.prog W base spare held 23 v d p) : IsPt v := pt_open hv h
abbrev segCycles_zero0 : Value := pt 0 0
theorem segCycles_open0 {H : Type} {enc : TypeId × Value → H} {W : World} {base b0 : Nat} {spare : Nat → Bool} {held : Bool} {r : Reach} {v : Value} {d : DataW H} {p : List MemPlace}
    (hv : Value.okWide Try.prog W r b0 23 v) (h : DataW.Trod enc Try.prog W base spare held 23 v d p) : IsPt v := pt_open hv h
abbrev segCycles_zero1 : Value := pt 0 0
theorem segCycles_open1 {H : Type} {enc : TypeId × Value → H} {W : World} {base b0 : Nat} {spare : Nat → Bool} {held : Bool} {r : Reach} {v : Value} {d : DataW H} {p : List MemPlace}
    (hv : Value.okWide Try.prog W r b0 23 v) (h : DataW.Trod enc Try.prog W base spare held 23 v d p) : IsPt v := pt_open hv h
abbrev segCycles_zero2 : Value := pt 0 0
theorem segCycles_open2 {H : Type} {enc : TypeId × Value → H} {W : World} {base b0 : Nat} {spare : Nat → Bool} {held : Bool} {r : Reach} {v : Value} {d : DataW H} {p : List MemPlace}
    (hv : Value.okWide Try.prog W r b0 23 v) (h : DataW.Trod enc Try.prog W base spare held 23 v d p) : IsPt v := pt_open hv h
abbrev segOrders_zero0 : Value := pt 0 0
theorem segOrders_open0 {H : Type} {enc : TypeId × Value → H} {W : World} {base b0 : Nat} {spare : Nat → Bool} {held : Bool} {r : Reach} {v : Value} {d : DataW H} {p : List MemPlace}
    (hv : Value.okWide Try.prog W r b0 23 v) (h : DataW.Trod enc Try.prog W base spare held 23 v d p) : IsPt v := pt_open hv h
abbrev segOrders_zero1 : Value := pt 0 0
theorem segOrders_open1 {H : Type} {enc : TypeId × Value → H} {W : World} {base b0 : Nat} {spare : Nat → Bool} {held : Bool} {r : Reach} {v : Value} {d : DataW H} {p : List MemPlace}
    (hv : Value.okWide Try.prog W r b0 23 v) (h : DataW.Trod enc Try.prog W base spare held 23 v d p) : IsPt v := pt_open hv h
abbrev segOrders_zero2 : Value := pt 0 0
theorem segOrders_open2 {H : Type} {enc : TypeId × Value → H} {W : World} {base b0 : Nat} {spare : Nat → Bool} {held : Bool} {r : Reach} {v : Value} {d : DataW H} {p : List MemPlace}
    (hv : Value.okWide Try.prog W r b0 23 v) (h : DataW.Trod enc Try.prog W base spare held 23 v d p) : IsPt v := pt_open hv h
theorem sgn_anti (a b : Int) : sgn b a = -sgn a b := by
  unfold sgn; split <;> split <;> (try split) <;> omega
theorem lex2_anti (x0 x1 y0 y1 : Int) : lex2 y0 y1 x0 x1 = -lex2 x0 x1 y0 y1 := by
  unfold lex2; rw [sgn_anti x0 y0, sgn_anti x1 y1]; split <;> split <;> omega
theorem cmpZ_swap (a b c d : Int) : cmpZ c d a b = -cmpZ a b c d := by
  unfold cmpZ
  by_cases h : psgn a b = psgn c d
  · rw [if_pos h, if_pos h.symm, ← h, lex2_anti, Int.mul_neg]
  · rw [if_neg h, if_neg (fun e => h e.symm), sgn_anti]
theorem nrZ_swap (n d m e : Int) : nrZ m e n d = -nrZ n d m e := by
  unfold nrZ
  by_cases h : n < 0 ∨ d ≤ 0 ∨ m < 0 ∨ e ≤ 0
  · rw [if_pos h, if_pos (by omega)]; rfl
  · rw [if_neg h, if_neg (by omega), cmpZ_swap]
theorem nrZ_bd (n d m e : Int) : -1 ≤ nrZ n d m e ∧ nrZ n d m e ≤ 1 := by
  unfold nrZ; split
  · omega
  · exact cmpZ_bd _ _ _ _
theorem psgn_pos {a b : Int} (ha : 0 ≤ a) (hb : 0 ≤ b) : (psgn a b = 1 ∧ 0 < a * b) ∨ (psgn a b = 0 ∧ a * b = 0) := by
  by_cases h1 : a = 0
  · right; subst h1; exact ⟨by unfold psgn; rw [sgn_eq rfl]; omega, by omega⟩
  · by_cases h2 : b = 0
    · right; subst h2; exact ⟨by unfold psgn; rw [sgn_eq (b := 0) (a := 0) rfl]; omega, by omega⟩
    · left; exact ⟨by unfold psgn; rw [sgn_gt (by omega), sgn_gt (by omega)]; rfl, Int.mul_pos (by omega) (by omega)⟩
theorem cmpZ_le {a b c d : Int} (ha : 0 ≤ a) (hb : 0 ≤ b) (hc : 0 ≤ c) (hd : 0 ≤ d) (h : a * b ≤ c * d) : cmpZ a b c d ≤ 0 := by
  have m1 : mag a = a := by unfold mag; rw [if_neg (by omega)]
  have m2 : mag b = b := by unfold mag; rw [if_neg (by omega)]
  have m3 : mag c = c := by unfold mag; rw [if_neg (by omega)]
  have m4 : mag d = d := by unfold mag; rw [if_neg (by omega)]
  unfold cmpZ
  rcases psgn_pos ha hb with ⟨p, q⟩ | ⟨p, q⟩ <;> rcases psgn_pos hc hd with ⟨p', q'⟩ | ⟨p', q'⟩
  · rw [p, p', if_pos rfl, Int.one_mul]
    unfold lex2 phi plo
    rw [m1, m2, m3, m4]
    generalize a * b = X at *
    generalize c * d = Y at *
    unfold sgn
    split <;> split <;> (try split) <;> (try split) <;> omega
  · omega
  · rw [p, p', if_neg (by omega), sgn_lt (by omega)]; omega
  · rw [p, p', if_pos rfl, Int.zero_mul]; omega
theorem cross (x y u v : Int) : (x * v - y * u) * (x * v - y * u) + (x * u + y * v) * (x * u + y * v) = (x * x + y * y) * (u * u + v * v) := by grind
theorem far_le {a b c d e f : Int} (h : v3 a b c d e f = true) : nrZ (farQ a b c d e f).1 (farQ a b c d e f).2 (farQ a b c d c d).1 (farQ a b c d c d).2 ≤ 0 := by
  obtain ⟨⟨a0, a1, b0, b1⟩, ⟨c0, c1, d0, d1⟩, ⟨e0, e1, f0, f1⟩⟩ := v3_bd h
  obtain ⟨h1, h2, h3⟩ := v3_iff.1 h
  have hv : v3 a b c d c d = true := v3_iff.2 ⟨h1, h2, h2⟩
  have q := farQ_end hv (Or.inl (by unfold al; simp))
  rw [q]
  obtain ⟨m1, m2⟩ := d2_bd (a := a) (b := b) (c := c) (d := d) ⟨a0, a1, b0, b1⟩ ⟨c0, c1, d0, d1⟩
  obtain ⟨n1, n2⟩ := d2_bd (a := a) (b := b) (c := e) (d := f) ⟨a0, a1, b0, b1⟩ ⟨e0, e1, f0, f1⟩
  obtain ⟨l1, l2⟩ := d2_bd (a := c) (b := d) (c := e) (d := f) ⟨c0, c1, d0, d1⟩ ⟨e0, e1, f0, f1⟩
  by_cases k : al a b c d e f ≤ 0 ∨ d2 c d e f ≤ al a b c d e f
  · rw [farQ_end h k]
    unfold nrZ
    rw [if_neg (by simp; omega)]
    exact cmpZ_le (by omega) (by omega) (by omega) (by omega) (by omega)
  · rw [farQ_mid h k]
    unfold nrZ
    split
    · omega
    · have ht := (sqt (trn_bd c d e f a b).1 (trn_bd c d e f a b).2).1
      refine cmpZ_le ht (by omega) (by simp; omega) (by omega) ?_
      have ev : v3 c d e f a b = true := v3_iff.2 ⟨h2, h3, h1⟩
      have et : trn c d e f a b = tr c d e f a b := by unfold trn; rw [if_pos ev]
      have id := cross (e - c) (f - d) (a - c) (b - d)
      have s : 0 ≤ al a b c d e f * al a b c d e f := Int.mul_nonneg (by omega) (by omega)
      rw [et]
      simp only [Int.min_self, Int.mul_one]
      have e1 : tr c d e f a b * tr c d e f a b + al a b c d e f * al a b c d e f = d2 c d e f * d2 a b c d := by
        unfold tr al d2
        rw [show (c - e) * (c - e) = (e - c) * (e - c) by grind, show (d - f) * (d - f) = (f - d) * (f - d) by grind]
        exact id
      rw [Int.mul_comm (d2 a b c d)]
      omega
theorem farQ_bd (a b c d e f : Int) : 0 ≤ (farQ a b c d e f).1 ∧ (farQ a b c d e f).1 ≤ 4611123094243246084 ∧ 0 ≤ (farQ a b c d e f).2 ∧ (farQ a b c d e f).2 ≤ 2147352578 := by
  cases h : v3 a b c d e f
  · rw [farQ_no h]; simp
  · obtain ⟨⟨a0, a1, b0, b1⟩, ⟨c0, c1, d0, d1⟩, ⟨e0, e1, f0, f1⟩⟩ := v3_bd h
    have m := d2_bd (a := a) (b := b) (c := c) (d := d) ⟨a0, a1, b0, b1⟩ ⟨c0, c1, d0, d1⟩
    have n := d2_bd (a := a) (b := b) (c := e) (d := f) ⟨a0, a1, b0, b1⟩ ⟨e0, e1, f0, f1⟩
    have l := d2_bd (a := c) (b := d) (c := e) (d := f) ⟨c0, c1, d0, d1⟩ ⟨e0, e1, f0, f1⟩
    by_cases k : al a b c d e f ≤ 0 ∨ d2 c d e f ≤ al a b c d e f
    · rw [farQ_end h k]; simp; omega
    · rw [farQ_mid h k]
      have := sqt (trn_bd c d e f a b).1 (trn_bd c d e f a b).2
      simp; omega
theorem far_le' (a b c d e f : Int) : nrZ (farQ a b c d e f).1 (farQ a b c d e f).2 (farQ a b c d c d).1 (farQ a b c d c d).2 ≤ 0 := by
  cases h : v3 a b c d e f
  · rw [farQ_no h]; unfold nrZ; rw [if_pos (by simp)]; omega
  · exact far_le h
set_option maxRecDepth 100000 in
set_option maxHeartbeats 4000000 in
theorem segOrders_walk (vp va vb : Value) (n dd m ee : Int) (w : World) (hp : IsPt vp) (ha : IsPt va) (hb : IsPt vb) (hn : I64 n) (hd : I64 dd) (hm : I64 m) (he : I64 ee) :
    Calls Try.prog 8 #[vp, va, vb, .int .i64 n, .int .i64 dd, .int .i64 m, .int .i64 ee] w fun e w' => e = .returned (.bool true) ∧ Below w.heap.size w w' := by
  obtain ⟨a, b, rfl, _, _⟩ := hp
  obtain ⟨c, d, rfl, _, _⟩ := ha
  obtain ⟨e, f, rfl, _, _⟩ := hb
  have C1 := Lib.hid (fun W => nr_any n dd m ee W hn hd hm he)
  have C2 := Lib.hid (fun W => nr_any m ee n dd W hm he hn hd)
  obtain ⟨r1, r2⟩ := nrZ_bd n dd m ee
  rw [nrZ_swap] at C2
  generalize nrZ n dd m ee = r at *
  have CF := Lib.hid (fun W => far_any a b c d e f W)
  have CG := Lib.hid (fun W => far_any a b c d c d W)
  obtain ⟨x1, x2, x3, x4⟩ := farQ_bd a b c d e f
  obtain ⟨u1, u2, u3, u4⟩ := farQ_bd a b c d c d
  have CN := Lib.hid (fun W => nr_any (farQ a b c d e f).1 (farQ a b c d e f).2 (farQ a b c d c d).1 (farQ a b c d c d).2 W ⟨by omega, by omega⟩ ⟨by omega, by omega⟩ ⟨by omega, by omega⟩ ⟨by omega, by omega⟩)
  have hs := far_le' a b c d e f
  generalize nrZ (farQ a b c d e f).1 (farQ a b c d e f).2 (farQ a b c d c d).1 (farQ a b c d c d).2 = s at *
  generalize (farQ a b c d e f).1 = X at *
  generalize (farQ a b c d e f).2 = Y at *
  generalize (farQ a b c d c d).1 = U at *
  generalize (farQ a b c d c d).2 = V at *
  clear hn hd hm he
  go_enter Try.func8, Try.ntmps8
  go_wp2_with fail
  have I0 : ∀ W, W = ((w.alloc (.cells #[.int .i64 a, .int .i64 b] 23)).alloc (.cells #[.int .i64 c, .int .i64 d] 23)).alloc (.cells #[.int .i64 e, .int .i64 f] 23) → (W.cell? ⟨w.heap.size, 0, none⟩ = some (.int .i64 a) ∧ W.cell? ⟨w.heap.size, 1, none⟩ = some (.int .i64 b) ∧ W.cell? ⟨w.heap.size + 1, 0, none⟩ = some (.int .i64 c) ∧ W.cell? ⟨w.heap.size + 1, 1, none⟩ = some (.int .i64 d) ∧ W.cell? ⟨w.heap.size + 1 + 1, 0, none⟩ = some (.int .i64 e) ∧ W.cell? ⟨w.heap.size + 1 + 1, 1, none⟩ = some (.int .i64 f)) ∧ Below w.heap.size w W := by
    intro W e; subst e
    refine ⟨⟨by go_simp, by go_simp, by go_simp, by go_simp, by go_simp, by go_simp⟩, ?_⟩
    (repeat (first | exact Below.refl _ _ | (refine Below.alloc ?_ (by first | omega | (simp <;> omega)) _)))
  have J0 := I0 _ rfl; clear I0
  generalize ((w.alloc (.cells #[.int .i64 a, .int .i64 b] 23)).alloc (.cells #[.int .i64 c, .int .i64 d] 23)).alloc (.cells #[.int .i64 e, .int .i64 f] 23) = W0 at J0 ⊢
  obtain ⟨⟨f1, f2, f3, f4, f5, f6⟩, bb0⟩ := J0
  have B0 := Lib.hid bb0; clear bb0
  refine (C1.out _).mono ?_; rintro e w1 ⟨rfl, hb⟩
  replace f1 := old hb f1; replace f2 := old hb f2; replace f3 := old hb f3; replace f4 := old hb f4; replace f5 := old hb f5; replace f6 := old hb f6
  have B2_ := Lib.hid (B0.out.trans (hb.mono B0.out.size)); clear hb
  have hz1 : w.heap.size < w1.heap.size := cell_lt f1
  have hz2 : w.heap.size + 1 < w1.heap.size := cell_lt f3
  have hz3 : w.heap.size + 1 + 1 < w1.heap.size := cell_lt f5
  go_wp2_with fail
  refine (C2.out _).mono ?_; rintro e w3 ⟨rfl, hb⟩
  replace f1 := old hb f1; replace f2 := old hb f2; replace f3 := old hb f3; replace f4 := old hb f4; replace f5 := old hb f5; replace f6 := old hb f6
  have B4_ := Lib.hid (B2_.out.trans (hb.mono B2_.out.size)); clear hb
  clear hz1 hz2 hz3
  have hz1 : w.heap.size < w3.heap.size := cell_lt f1
  have hz2 : w.heap.size + 1 < w3.heap.size := cell_lt f3
  have hz3 : w.heap.size + 1 + 1 < w3.heap.size := cell_lt f5
  go_wp2_with fail
  refine (CF.out _).mono ?_; rintro e w5 ⟨rfl, hb⟩
  replace f1 := old hb f1; replace f2 := old hb f2; replace f3 := old hb f3; replace f4 := old hb f4; replace f5 := old hb f5; replace f6 := old hb f6
  have B6_ := Lib.hid (B4_.out.trans (hb.mono B4_.out.size)); clear hb
  clear hz1 hz2 hz3
  have hz1 : w.heap.size < w5.heap.size := cell_lt f1
  have hz2 : w.heap.size + 1 < w5.heap.size := cell_lt f3
  have hz3 : w.heap.size + 1 + 1 < w5.heap.size := cell_lt f5
  go_wp2_with fail
  refine (CG.out _).mono ?_; rintro e w7 ⟨rfl, hb⟩
  replace f1 := old hb f1; replace f2 := old hb f2; replace f3 := old hb f3; replace f4 := old hb f4; replace f5 := old hb f5; replace f6 := old hb f6
  have B8_ := Lib.hid (B6_.out.trans (hb.mono B6_.out.size)); clear hb
  clear hz1 hz2 hz3
  have hz1 : w.heap.size < w7.heap.size := cell_lt f1
  have hz2 : w.heap.size + 1 < w7.heap.size := cell_lt f3
  have hz3 : w.heap.size + 1 + 1 < w7.heap.size := cell_lt f5
  go_wp2_with fail
  refine (CN.out _).mono ?_; rintro e w9 ⟨rfl, hb⟩
  replace f1 := old hb f1; replace f2 := old hb f2; replace f3 := old hb f3; replace f4 := old hb f4; replace f5 := old hb f5; replace f6 := old hb f6
  have B10_ := Lib.hid (B8_.out.trans (hb.mono B8_.out.size)); clear hb
  clear hz1 hz2 hz3
  have hz1 : w.heap.size < w9.heap.size := cell_lt f1
  have hz2 : w.heap.size + 1 < w9.heap.size := cell_lt f3
  have hz3 : w.heap.size + 1 + 1 < w9.heap.size := cell_lt f5
  go_wp2_with fail
  refine (lives_any _).mono ?_; rintro e w11 ⟨rfl, hb⟩
  replace f1 := old hb f1; replace f2 := old hb f2; replace f3 := old hb f3; replace f4 := old hb f4; replace f5 := old hb f5; replace f6 := old hb f6
  have B12_ := Lib.hid (B10_.out.trans (hb.mono B10_.out.size)); clear hb
  clear hz1 hz2 hz3
  have hz1 : w.heap.size < w11.heap.size := cell_lt f1
  have hz2 : w.heap.size + 1 < w11.heap.size := cell_lt f3
  have hz3 : w.heap.size + 1 + 1 < w11.heap.size := cell_lt f5
  go_wp2_with fail
  go_ret
  exact ⟨rfl, B12_.out⟩
end Go.Proofs.Ytfabfnjfnildhaa
