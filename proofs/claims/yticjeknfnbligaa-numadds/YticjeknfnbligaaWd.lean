/- Contracts: slices.Compare of two digits, CmpMul and its reference. -/
import Derived.Test.YticjeknfnbligaaWc
import Derived.WalkSmall
namespace Go.Proofs.Yticjeknfnbligaa
open Go.ChangeShapes Go.WideShapes Go.ChangeAt Go.RowKit

theorem qsame {P : Program} {f : FuncId} {args : Array Value} {w : World} {n : Nat} {v : Value}
    (h : Calls P f args (w.drewN n) fun e w' => e = .returned v ∧ w.drewN n = w') : Calls P f args (w.drewN n) fun e w'' => e = .returned v ∧ ∃ m, w'' = w.drewN m :=
  h.mono fun _ _ ⟨he, hm⟩ => ⟨he, n, hm.symm⟩

/- two digits, the more significant first -/
def lex2 (x0 x1 y0 y1 : Int) : Int := if sgn x0 y0 = 0 then sgn x1 y1 else sgn x0 y0
theorem lex2_bd (x0 x1 y0 y1 : Int) : -1 ≤ lex2 x0 x1 y0 y1 ∧ lex2 x0 x1 y0 y1 ≤ 1 := by
  unfold lex2; split
  · exact sgn_bd _ _
  · exact sgn_bd _ _

set_option maxHeartbeats 1000000 in
theorem cmp2_any (b1 o1 b2 o2 c1 c2 : Nat) (x0 x1 y0 y1 : Int) (w : World)
    (hx0 : w.cell? ⟨b1, o1, none⟩ = some (.int .u64 x0)) (hx1 : w.cell? ⟨b1, o1 + 1, none⟩ = some (.int .u64 x1))
    (hy0 : w.cell? ⟨b2, o2, none⟩ = some (.int .u64 y0)) (hy1 : w.cell? ⟨b2, o2 + 1, none⟩ = some (.int .u64 y1)) :
    Calls Try.prog 32 #[.slice (some ⟨b1, o1, none⟩) 2 c1, .slice (some ⟨b2, o2, none⟩) 2 c2] w fun e w' => e = .returned (.int .i64 (lex2 x0 x1 y0 y1)) ∧ w = w' := by
  by_cases h0 : sgn x0 y0 = 0
  · have b0 : (sgn x0 y0 != 0) = false := by simpa using h0
    by_cases h1 : sgn x1 y1 = 0
    · have b1 : (sgn x1 y1 != 0) = false := by simpa using h1
      have hp : Hid (lex2 x0 x1 y0 y1 = 0) := by show lex2 x0 x1 y0 y1 = 0; unfold lex2; rw [if_pos h0, h1]
      clear h0 h1
      go_enter Try.func32, Try.ntmps32
      go_wp2_with fail
      refine wp_loop_rounds 3 ?_; rw [rounds_succ]
      go_wp2_with fail
      refine (cmpu_any _ _ _).mono ?_; rintro e w' ⟨rfl, rfl⟩
      go_wp2_with fail
      rw [rounds_succ]
      go_wp2_with fail
      refine (cmpu_any _ _ _).mono ?_; rintro e w' ⟨rfl, rfl⟩
      go_wp2_with fail
      rw [rounds_succ]
      go_wp2_with fail
      go_ret
      exact ⟨ret_i64 hp.out.symm, rfl⟩
    · have b1 : (sgn x1 y1 != 0) = true := by simpa using h1
      have hp : Hid (lex2 x0 x1 y0 y1 = sgn x1 y1) := by show lex2 x0 x1 y0 y1 = _; unfold lex2; rw [if_pos h0]
      clear h0 h1
      go_enter Try.func32, Try.ntmps32
      go_wp2_with fail
      refine wp_loop_rounds 3 ?_; rw [rounds_succ]
      go_wp2_with fail
      refine (cmpu_any _ _ _).mono ?_; rintro e w' ⟨rfl, rfl⟩
      go_wp2_with fail
      rw [rounds_succ]
      go_wp2_with fail
      refine (cmpu_any _ _ _).mono ?_; rintro e w' ⟨rfl, rfl⟩
      go_wp2_with fail
      go_ret
      exact ⟨ret_i64 hp.out.symm, rfl⟩
  · have b0 : (sgn x0 y0 != 0) = true := by simpa using h0
    have hp : Hid (lex2 x0 x1 y0 y1 = sgn x0 y0) := by show lex2 x0 x1 y0 y1 = _; unfold lex2; rw [if_neg h0]
    clear h0
    go_enter Try.func32, Try.ntmps32
    go_wp2_with fail
    refine wp_loop_rounds 3 ?_; rw [rounds_succ]
    go_wp2_with fail
    refine (cmpu_any _ _ _).mono ?_; rintro e w' ⟨rfl, rfl⟩
    go_wp2_with fail
    go_ret
    exact ⟨ret_i64 hp.out.symm, rfl⟩

def cmpZ (a b c d : Int) : Int := if psgn a b = psgn c d then psgn a b * lex2 (phi a b) (plo a b) (phi c d) (plo c d) else sgn (psgn a b) (psgn c d)
theorem cmpZ_bd (a b c d : Int) : -1 ≤ cmpZ a b c d ∧ cmpZ a b c d ≤ 1 := by
  unfold cmpZ; split
  · have h1 := psgn_bd a b
    have h2 := lex2_bd (phi a b) (plo a b) (phi c d) (plo c d)
    have : psgn a b = -1 ∨ psgn a b = 0 ∨ psgn a b = 1 := by omega
    rcases this with h | h | h <;> (rw [h]; omega)
  · exact sgn_bd _ _

set_option maxHeartbeats 1000000 in
theorem cmpmul_any (a b c d : Int) (w : World) (ha : I64 a) (hb : I64 b) (hc : I64 c) (hd : I64 d) :
    Calls Try.prog 24 #[.int .i64 a, .int .i64 b, .int .i64 c, .int .i64 d] w fun e w' => e = .returned (.int .i64 (cmpZ a b c d)) ∧ Below w.heap.size w w' := by
  by_cases h : psgn a b = psgn c d
  · have hb0 : (psgn a b != psgn c d) = false := by simpa using h
    have hp : Hid (cmpZ a b c d = psgn a b * lex2 (phi a b) (plo a b) (phi c d) (plo c d)) := by show cmpZ a b c d = _; unfold cmpZ; rw [if_pos h]
    have HA := Lib.hid ha; have HB := Lib.hid hb; have HC := Lib.hid hc; have HD := Lib.hid hd
    clear h ha hb hc hd
    go_enter Try.func24, Try.ntmps24
    go_wp2_with fail
    refine (multiply_any a b _ HA.out HB.out).mono ?_; rintro e w' ⟨rfl, rfl⟩
    go_wp2_with fail
    refine (multiply_any c d _ HC.out HD.out).mono ?_; rintro e w' ⟨rfl, rfl⟩
    go_wp2_with fail
    go_quiet ((go_at_call 32; refine qsame (cmp2_any _ _ _ _ _ _ (phi a b) (plo a b) (phi c d) (plo c d) _ ?_ ?_ ?_ ?_) <;> go_simp))
    go_wp2_with fail
    go_ret
    have hl := lex2_bd (phi a b) (plo a b) (phi c d) (plo c d)
    have hs := psgn_bd a b
    refine ⟨ret_i64 (w64 hp.out.symm (by have := cmpZ_bd a b c d; exact ⟨by omega, by omega⟩)), ?_⟩
    refine below_drewN ?_ _
    exact ((((Below.refl _ _).alloc (Nat.le_refl _) _).alloc (by simp) _).alloc (by simp; omega) _).alloc (by simp; omega) _
  · have hb0 : (psgn a b != psgn c d) = true := by simpa using h
    have hp : Hid (cmpZ a b c d = sgn (psgn a b) (psgn c d)) := by show cmpZ a b c d = _; unfold cmpZ; rw [if_neg h]
    have HA := Lib.hid ha; have HB := Lib.hid hb; have HC := Lib.hid hc; have HD := Lib.hid hd
    clear h ha hb hc hd
    go_enter Try.func24, Try.ntmps24
    go_wp2_with fail
    refine (multiply_any a b _ HA.out HB.out).mono ?_; rintro e w' ⟨rfl, rfl⟩
    go_wp2_with fail
    refine (multiply_any c d _ HC.out HD.out).mono ?_; rintro e w' ⟨rfl, rfl⟩
    go_wp2_with fail
    refine (cmpi_any _ _ _).mono ?_; rintro e w' ⟨rfl, rfl⟩
    go_wp2_with fail
    go_ret
    refine ⟨ret_i64 hp.out.symm, ?_⟩
    exact ((((Below.refl _ _).alloc (Nat.le_refl _) _).alloc (by simp) _).alloc (by simp; omega) _).alloc (by simp; omega) _

theorem timesr_ab (a b : Int) (w : World) (ma1 : 0 ≤ mag a) (ma2 : mag a ≤ 9223372036854775808) (mb1 : 0 ≤ mag b) (mb2 : mag b ≤ 9223372036854775808) :
    Calls Try.prog 29 #[.int .u64 (mag a), .int .u64 (mag b)] w fun e w' => e = .returned (.tuple #[.int .u64 (phi a b), .int .u64 (plo a b)]) ∧ w = w' :=
  times_any _ _ _ ma1 (by omega) mb1 (by omega)

/- what is left when both signs agree: the digits decide -/
set_option maxHeartbeats 1000000 in
theorem cmpmulr_same (a b c d s v : Int) (w : World) (HA : Hid (I64 a)) (HB : Hid (I64 b)) (HC : Hid (I64 c)) (HD : Hid (I64 d)) (hs : psgn a b = s) (ht : psgn c d = s)
    (hs1 : -1 ≤ s) (hs2 : s ≤ 1)
    (t1 t2 t3 t4 : Bool) (h1 : (phi a b == phi c d) = t1) (h2 : (plo a b == plo c d) = t2) (h3 : decide (phi a b < phi c d) = t3) (h4 : decide (plo a b < plo c d) = t4)
    (hv : v = if (t1 && t2) = true then 0 else if (t3 || (t1 && t4)) = true then -s else s) :
    Calls Try.prog 25 #[.int .i64 a, .int .i64 b, .int .i64 c, .int .i64 d] w fun e w' => e = .returned (.int .i64 v) ∧ w = w' := by
  have HV := Lib.hid hv
  have Hs := Lib.hid hs; have Ht := Lib.hid ht
  have mA := mag_bd a HA.out; have mB := mag_bd b HB.out; have mC := mag_bd c HC.out; have mD := mag_bd d HD.out
  obtain ⟨ma1, ma2⟩ := mA; obtain ⟨mb1, mb2⟩ := mB; obtain ⟨mc1, mc2⟩ := mC; obtain ⟨md1, md2⟩ := mD
  clear hv hs ht
  cases t1 <;> cases t2 <;> cases t3 <;> cases t4
  all_goals
    go_enter Try.func25, Try.ntmps25
    go_wp2_with fail
    refine (sign_any a b _).mono ?_; rintro e w' ⟨rfl, rfl⟩
    rw [Hs.out]
    go_wp2_with fail
    refine (sign_any c d _).mono ?_; rintro e w' ⟨rfl, rfl⟩
    rw [Ht.out]
    go_wp2_with fail
    refine (magr_any a _ HA.out).mono ?_; rintro e w' ⟨rfl, rfl⟩
    go_wp2_with fail
    refine (magr_any b _ HB.out).mono ?_; rintro e w' ⟨rfl, rfl⟩
    go_wp2_with fail
    refine (timesr_ab a b _ ma1 ma2 mb1 mb2).mono ?_; rintro e w' ⟨rfl, rfl⟩
    go_wp2_with fail
    refine (magr_any c _ HC.out).mono ?_; rintro e w' ⟨rfl, rfl⟩
    go_wp2_with fail
    refine (magr_any d _ HD.out).mono ?_; rintro e w' ⟨rfl, rfl⟩
    go_wp2_with fail
    refine (timesr_ab c d _ mc1 mc2 md1 md2).mono ?_; rintro e w' ⟨rfl, rfl⟩
    go_wp2_with fail
    go_ret
    exact ⟨ret_i64 HV.out.symm, rfl⟩

theorem lex2_form (s x0 x1 y0 y1 : Int) : s * lex2 x0 x1 y0 y1 = if ((x0 == y0) && (x1 == y1)) = true then 0 else if (decide (x0 < y0) || ((x0 == y0) && decide (x1 < y1))) = true then -s else s := by
  rcases Int.lt_trichotomy x0 y0 with h | h | h
  · have e : (x0 == y0) = false := by simp; omega
    unfold lex2; rw [sgn_lt h, e]; simp [h]
  · have e : (x0 == y0) = true := by simp; omega
    have e2 : decide (x0 < y0) = false := by simp; omega
    unfold lex2; rw [sgn_eq h, e, e2]
    rcases Int.lt_trichotomy x1 y1 with k | k | k
    · have f : (x1 == y1) = false := by simp; omega
      rw [sgn_lt k, f]; simp [k]
    · have f : (x1 == y1) = true := by simp; omega
      rw [sgn_eq k, f]; simp
    · have f : (x1 == y1) = false := by simp; omega
      have f2 : decide (x1 < y1) = false := by simp; omega
      rw [sgn_gt k, f, f2]; simp
  · have e : (x0 == y0) = false := by simp; omega
    have e2 : decide (x0 < y0) = false := by simp; omega
    unfold lex2; rw [sgn_gt h, e, e2]; simp

set_option maxHeartbeats 1000000 in
theorem cmpmulr_any (a b c d : Int) (w : World) (ha : I64 a) (hb : I64 b) (hc : I64 c) (hd : I64 d) :
    Calls Try.prog 25 #[.int .i64 a, .int .i64 b, .int .i64 c, .int .i64 d] w fun e w' => e = .returned (.int .i64 (cmpZ a b c d)) ∧ w = w' := by
  have HA := Lib.hid ha; have HB := Lib.hid hb; have HC := Lib.hid hc; have HD := Lib.hid hd
  have sa := (psgn_bd a b).1; have sa' := (psgn_bd a b).2
  have mA := mag_bd a ha; have mB := mag_bd b hb; have mC := mag_bd c hc; have mD := mag_bd d hd
  obtain ⟨ma1, ma2⟩ := mA; obtain ⟨mb1, mb2⟩ := mB; obtain ⟨mc1, mc2⟩ := mC; obtain ⟨md1, md2⟩ := mD
  clear ha hb hc hd
  by_cases h : psgn a b < psgn c d
  · have hp : Hid (cmpZ a b c d = -1) := by show cmpZ a b c d = _; unfold cmpZ; rw [if_neg (by omega), sgn_lt h]
    go_enter Try.func25, Try.ntmps25
    go_wp2_with fail
    refine (sign_any a b _).mono ?_; rintro e w' ⟨rfl, rfl⟩
    go_wp2_with fail
    refine (sign_any c d _).mono ?_; rintro e w' ⟨rfl, rfl⟩
    go_wp2_with fail
    go_ret
    exact ⟨ret_i64 hp.out.symm, rfl⟩
  · by_cases h2 : psgn c d < psgn a b
    · have hp : Hid (cmpZ a b c d = 1) := by show cmpZ a b c d = _; unfold cmpZ; rw [if_neg (by omega), sgn_gt h2]
      go_enter Try.func25, Try.ntmps25
      go_wp2_with fail
      refine (sign_any a b _).mono ?_; rintro e w' ⟨rfl, rfl⟩
      go_wp2_with fail
      refine (sign_any c d _).mono ?_; rintro e w' ⟨rfl, rfl⟩
      go_wp2_with fail
      go_ret
      exact ⟨ret_i64 hp.out.symm, rfl⟩
    · have hp : cmpZ a b c d = psgn a b * lex2 (phi a b) (plo a b) (phi c d) (plo c d) := by unfold cmpZ; rw [if_pos (by omega)]
      rw [hp]
      exact cmpmulr_same a b c d (psgn a b) _ w HA HB HC HD rfl (by omega) sa sa' _ _ _ _ rfl rfl rfl rfl (lex2_form _ _ _ _ _)
end Go.Proofs.Yticjeknfnbligaa
