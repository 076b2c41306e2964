/- pq: a queue of the call's own; lives. -/
import Derived.Test.YtdohmlkocbdomaaPl
namespace Go.Proofs.Ytdohmlkocbdomaa
open Go.ChangeShapes Go.WideShapes Go.ChangeAt Go.RowKit Go.Joins Go.Deep

theorem leK_anti {ks : List Int} {a b : Nat} (h1 : leK ks a b) (h2 : leK ks b a) : a = b := by
  unfold leK bfr at h1 h2
  simp only [decide_eq_true_eq] at h1 h2
  omega
theorem least_eq {ins : List Bool} {ks : List Int} {X Y : Nat} (h : Least ins ks X) (k : Least ins ks Y) : X = Y := leK_anti (h.min Y k.lt k.mem) (k.min X h.lt h.mem)
def Own (w0 w : World) (qb : Nat) (ins : List Bool) (ks : List Int) : Prop := ∃ F, QI w qb F ins ks ∧ Below w0.heap.size w0 w ∧ ∀ k, F k → w0.heap.size ≤ k
theorem own_new {n : Nat} {w : World} {e : Ending} {w' : World} (h : NewPost n w e w') : ∃ qb, e = .returned (qp qb) ∧ Own w w' qb (List.replicate n false) (List.replicate n 0) := by
  obtain ⟨qb, F, h1, h2, h3, h4⟩ := h
  exact ⟨qb, h1, F, h2, h3, h4⟩
theorem own_set {w0 w : World} {qb X : Nat} {ins : List Bool} {ks : List Int} (o : Own w0 w qb ins ks) (hX : X < ins.length) (y : Int) : Calls Try.prog 11 #[qp qb, .int .i64 X, .int .i64 y] w fun e w' => e = .returned (.bool true) ∧ Own w0 w' qb (ins.set X true) (ks.set X y) := by
  obtain ⟨F, I, b, l⟩ := o
  refine (set_qi I hX y).mono ?_
  rintro e w' ⟨rfl, F', I', f, l'⟩
  refine ⟨rfl, F', I', b.trans (f.below b.size l), fun k h => ?_⟩
  rcases l' k h with h1 | h1
  · exact l k h1
  · have := b.size; omega
theorem own_seto {w0 w : World} {qb : Nat} {ins : List Bool} {ks : List Int} (o : Own w0 w qb ins ks) {x : Int} (hx : x < 0 ∨ (ins.length : Int) ≤ x) (y : Int) : Calls Try.prog 11 #[qp qb, .int .i64 x, .int .i64 y] w fun e w' => e = .returned (.bool false) ∧ w = w' := by
  obtain ⟨F, I, b, l⟩ := o
  exact set_qo I hx y
theorem own_len {w0 w : World} {qb : Nat} {ins : List Bool} {ks : List Int} (o : Own w0 w qb ins ks) : Calls Try.prog 19 #[qp qb] w fun e w' => e = .returned (.int .i64 ((ins.count true : Nat) : Int)) ∧ w = w' := by
  obtain ⟨F, I, b, l⟩ := o
  exact len_qi I
theorem own_key {w0 w : World} {qb : Nat} {ins : List Bool} {ks : List Int} (o : Own w0 w qb ins ks) (x : Int) : Calls Try.prog 13 #[qp qb, .int .i64 x] w fun e w' => e = .returned (.tuple #[.int .i64 (if hasB ins x = true then ks.getD x.toNat 0 else 0), .bool (hasB ins x)]) ∧ w = w' := by
  obtain ⟨F, I, b, l⟩ := o
  exact key_qi I x
theorem own_pop {w0 w : World} {qb Y : Nat} {ins : List Bool} {ks : List Int} (o : Own w0 w qb ins ks) (hY : Least ins ks Y) : Calls Try.prog 17 #[qp qb] w fun e w' => e = .returned (.tuple #[.int .i64 Y, .int .i64 (ks.getD Y 0), .bool true]) ∧ Own w0 w' qb (ins.set Y false) ks := by
  obtain ⟨F, I, b, l⟩ := o
  refine (pop_qi I ?_).mono ?_
  · have := count_off ins Y hY.lt hY.mem; omega
  · rintro e w' ⟨X, hX, rfl, I', f⟩
    obtain rfl := least_eq hX hY
    exact ⟨rfl, F, I', b.trans (f.below b.size l), l⟩
theorem live1 : Least [true, true, true] [5, 1, 5] 1 := by
  refine ⟨by decide, rfl, fun Z hZ _ => ?_⟩
  match Z, hZ with
  | 0, _ => unfold leK bfr; decide
  | 1, _ => unfold leK bfr; decide
  | 2, _ => unfold leK bfr; decide
theorem live2 : Least [true, false, true] [5, 1, 5] 0 := by
  refine ⟨by decide, rfl, fun Z hZ h => ?_⟩
  match Z, hZ with
  | 0, _ => unfold leK bfr; decide
  | 1, _ => cases h
  | 2, _ => unfold leK bfr; decide
set_option maxRecDepth 100000 in
set_option maxHeartbeats 4000000 in
theorem lives_any (w : World) : Calls Try.prog 8 #[] w fun e w' => e = .returned (.bool true) ∧ Below w.heap.size w w' := by
  have NE : Hid (Calls Try.prog 9 #[.int .i64 3] w (NewPost 3 w)) := new_any 3 (by decide) w
  go_enter Try.func8, Try.ntmps8
  go_wp2_with fail
  refine NE.out.mono ?_; rintro e w1 h1
  obtain ⟨qb, rfl, o⟩ := own_new h1
  have O1 : Hid (Own w w1 qb [false, false, false] [0, 0, 0]) := o
  clear h1 o NE
  go_wp2_with fail
  have C2 : Calls Try.prog 11 #[qp qb, .int .i64 2, .int .i64 5] w1 _ := own_set (X := 2) O1.out (by decide) 5
  refine C2.mono ?_; rintro e w2 ⟨rfl, o⟩
  have O2 : Hid (Own w w2 qb [false, false, true] [0, 0, 5]) := o
  clear o O1 C2
  go_wp2_with fail
  have C3 : Calls Try.prog 11 #[qp qb, .int .i64 0, .int .i64 5] w2 _ := own_set (X := 0) O2.out (by decide) 5
  refine C3.mono ?_; rintro e w3 ⟨rfl, o⟩
  have O3 : Hid (Own w w3 qb [true, false, true] [5, 0, 5]) := o
  clear o O2 C3
  go_wp2_with fail
  have C4 : Calls Try.prog 11 #[qp qb, .int .i64 1, .int .i64 9] w3 _ := own_set (X := 1) O3.out (by decide) 9
  refine C4.mono ?_; rintro e w4 ⟨rfl, o⟩
  have O4 : Hid (Own w w4 qb [true, true, true] [5, 9, 5]) := o
  clear o O3 C4
  go_wp2_with fail
  have C5 : Calls Try.prog 11 #[qp qb, .int .i64 1, .int .i64 1] w4 _ := own_set (X := 1) O4.out (by decide) 1
  refine C5.mono ?_; rintro e w5 ⟨rfl, o⟩
  have O5 : Hid (Own w w5 qb [true, true, true] [5, 1, 5]) := o
  clear o O4 C5
  go_wp2_with fail
  refine (own_seto (x := 3) O5.out (Or.inr (by decide)) 1).mono ?_; rintro e w' ⟨rfl, rfl⟩
  go_wp2_with fail
  have C6 : Calls Try.prog 19 #[qp qb] w5 fun e w' => e = .returned (.int .i64 3) ∧ w5 = w' := own_len O5.out
  refine C6.mono ?_; rintro e w' ⟨rfl, rfl⟩
  clear C6
  go_wp2_with fail
  have C7 : Calls Try.prog 17 #[qp qb] w5 fun e w' => e = .returned (.tuple #[.int .i64 1, .int .i64 1, .bool true]) ∧ Own w w' qb [true, false, true] [5, 1, 5] := own_pop O5.out live1
  refine C7.mono ?_; rintro e w6 ⟨rfl, o⟩
  have O6 := Lib.hid o
  clear o O5 C7
  go_wp2_with fail
  have C8 : Calls Try.prog 17 #[qp qb] w6 fun e w' => e = .returned (.tuple #[.int .i64 0, .int .i64 5, .bool true]) ∧ Own w w' qb [false, false, true] [5, 1, 5] := own_pop O6.out live2
  refine C8.mono ?_; rintro e w7 ⟨rfl, o⟩
  have O7 := Lib.hid o
  clear o O6 C8
  go_wp2_with fail
  have C9 : Calls Try.prog 19 #[qp qb] w7 fun e w' => e = .returned (.int .i64 1) ∧ w7 = w' := own_len O7.out
  refine C9.mono ?_; rintro e w' ⟨rfl, rfl⟩
  clear C9
  go_wp2_with fail
  go_ret
  obtain ⟨F, _, b, _⟩ := O7.out
  exact ⟨rfl, b⟩
end Go.Proofs.Ytdohmlkocbdomaa
