/- seg: a segment as an argument, opened. -/
import Derived.Test.YtfabfnjfnildhaaSi
namespace Go.Proofs.Ytfabfnjfnildhaa
open Go.ChangeShapes Go.WideShapes Go.ChangeAt Go.RowKit Go.Joins Go.Deep

theorem Try.cells3i : Try.prog.cellsOf 3 = 1 := by kernel_rfl
def IsSg (v : Value) : Prop := ∃ a b c d, v = sg a b c d ∧ I64 a ∧ I64 b ∧ I64 c ∧ I64 d
theorem sg_open {H : Type} {enc : TypeId × Value → H} {W : World} {base b0 : Nat} {spare : Nat → Bool} {held : Bool} {r : Reach} {v : Value} {d : DataW H} {p : List MemPlace}
    (hv : Value.okWide Try.prog W r b0 25 v) (h : DataW.Trod enc Try.prog W base spare held 25 v d p) : IsSg v := by
  obtain ⟨cs, rfl, hsz⟩ := okWide_struct Try.underlying25 hv
  obtain ⟨c0, c1, c2, c3, rfl⟩ := array4 (hsz.trans Try.cells25)
  obtain ⟨fuel, hf⟩ := h
  obtain ⟨y0, y1, n, _, _, h0, h1⟩ := trod_struct2 Try.underlying25 hf
  rw [Try.cells23] at h0 h1
  obtain ⟨z0, z1, n2, _, _, t0, t1⟩ := trod_struct2 Try.underlying23 h0
  obtain ⟨z2, z3, n3, _, _, t2, t3⟩ := trod_struct2 Try.underlying23 h1
  rw [Try.cells3i] at t0 t1 t2 t3
  obtain ⟨x0, e0, _, k0⟩ := DataW.trod_int Try.underlying3 t0
  obtain ⟨x1, e1, _, k1⟩ := DataW.trod_int Try.underlying3 t1
  obtain ⟨x2, e2, _, k2⟩ := DataW.trod_int Try.underlying3 t2
  obtain ⟨x3, e3, _, k3⟩ := DataW.trod_int Try.underlying3 t3
  simp [Value.cells] at e0 e1 e2 e3
  subst e0 e1 e2 e3
  exact ⟨x0, x1, x2, x3, rfl, wf_i64 k0, wf_i64 k1, wf_i64 k2, wf_i64 k3⟩
abbrev segSymmetry_zero0 : Value := sg 0 0 0 0
theorem segSymmetry_open0 {H : Type} {enc : TypeId × Value → H} {W : World} {base b0 : Nat} {spare : Nat → Bool} {held : Bool} {r : Reach} {v : Value} {d : DataW H} {p : List MemPlace}
    (hv : Value.okWide Try.prog W r b0 25 v) (h : DataW.Trod enc Try.prog W base spare held 25 v d p) : IsSg v := sg_open hv h
abbrev segSymmetry_zero1 : Value := sg 0 0 0 0
theorem segSymmetry_open1 {H : Type} {enc : TypeId × Value → H} {W : World} {base b0 : Nat} {spare : Nat → Bool} {held : Bool} {r : Reach} {v : Value} {d : DataW H} {p : List MemPlace}
    (hv : Value.okWide Try.prog W r b0 25 v) (h : DataW.Trod enc Try.prog W base spare held 25 v d p) : IsSg v := sg_open hv h
abbrev segRelates_zero0 : Value := sg 0 0 0 0
theorem segRelates_open0 {H : Type} {enc : TypeId × Value → H} {W : World} {base b0 : Nat} {spare : Nat → Bool} {held : Bool} {r : Reach} {v : Value} {d : DataW H} {p : List MemPlace}
    (hv : Value.okWide Try.prog W r b0 25 v) (h : DataW.Trod enc Try.prog W base spare held 25 v d p) : IsSg v := sg_open hv h
abbrev segRelates_zero1 : Value := sg 0 0 0 0
theorem segRelates_open1 {H : Type} {enc : TypeId × Value → H} {W : World} {base b0 : Nat} {spare : Nat → Bool} {held : Bool} {r : Reach} {v : Value} {d : DataW H} {p : List MemPlace}
    (hv : Value.okWide Try.prog W r b0 25 v) (h : DataW.Trod enc Try.prog W base spare held 25 v d p) : IsSg v := sg_open hv h
end Go.Proofs.Ytfabfnjfnildhaa
