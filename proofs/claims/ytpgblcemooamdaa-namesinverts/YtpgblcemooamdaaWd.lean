/- The chapter's examples; the walk of the law on a nil table. -/
import Derived.Test.YtpgblcemooamdaaWc
import Derived.OpenShut
namespace Go.Proofs.Ytpgblcemooamdaa
open Go.ChangeShapes Go.WideShapes Go.ChangeAt Go.RowKit Go.Maps Go.WideMaps

theorem add_nil (s : ByteArray) (w : World) : Calls Try.prog 10 #[.pointer none, .string s] w fun e w' => e = .returned (.int .i64 (-1)) ∧ w = w' := by
  go_enter Try.func10, Try.ntmps10
  go_wp2
  go_ret
  exact ⟨rfl, rfl⟩
/- Add, where its answer is known -/
def AddsTo (ss' : List ByteArray) (w : World) (tb mb : Nat) (sv : Value) (w' : World) : Prop :=
  ∃ sv', Tab w' tb mb sv' ss' ∧ (sv'.ownBlock = sv.ownBlock ∨ ∃ k, sv'.ownBlock = some k ∧ w.heap.size ≤ k) ∧ Kp (tb :: mb :: sv.ownBlock.toList) w w'
theorem add_at {w : World} {tb mb : Nat} {sv : Value} {ss ss' : List ByteArray} {c : Int} (h : Tab w tb mb sv ss) (s : ByteArray) (hs : s.size ≤ maxLen) (hl : ss.length < 1000000) (ha : AddL ss s c ss') :
    Calls Try.prog 10 #[.pointer (some ⟨tb, 0, none⟩), .string s] w fun e w' => e = .returned (.int .i64 c) ∧ AddsTo ss' w tb mb sv w' := by
  refine (add_any h s hs hl).mono ?_
  rintro e w' ⟨c', sv', t, ha', rfl, h1, h2, h3⟩
  obtain ⟨rfl, rfl⟩ := addL_unique h.nd ha' ha
  exact ⟨rfl, sv', h1, h2, h3⟩
abbrev sb : ByteArray := ⟨#[98]⟩
abbrev sa : ByteArray := ⟨#[97]⟩
theorem sab : sa ≠ sb := fun h => by injection h with h; simp at h
theorem addL1 : AddL [] sb 0 [sb] := Or.inr ⟨by simp, rfl, rfl⟩
theorem addL2 : AddL [sb] sa 1 [sb, sa] := Or.inr ⟨by simp, rfl, rfl⟩
theorem addL3 : AddL [sb, sa] sb 0 [sb, sa] := Or.inl ⟨by simp, rfl, Or.inr ⟨0, by simp, rfl, rfl, rfl⟩⟩

/- a table of the call's own: all its blocks are new -/
theorem Tab.own {w w0 : World} {tb mb : Nat} {sv : Value} (hb : Below w0.heap.size w0 w) (htb : w0.heap.size ≤ tb) (hmb : w0.heap.size ≤ mb) (hsv : ∀ k, sv.ownBlock = some k → w0.heap.size ≤ k) {w' : World} {ss' : List ByteArray} (ha : AddsTo ss' w tb mb sv w') :
    ∃ sv', Tab w' tb mb sv' ss' ∧ (∀ k, sv'.ownBlock = some k → w0.heap.size ≤ k) ∧ Below w0.heap.size w0 w' := by
  obtain ⟨sv', h1, h2, h3⟩ := ha
  have hs := hb.size
  refine ⟨sv', h1, fun k e => ?_, hb.trans (h3.below hs ?_)⟩
  · rcases h2 with h2 | ⟨k', h2, hk⟩
    · rw [h2] at e; exact hsv k e
    · rw [h2] at e; injection e with e; omega
  · intro k hk
    simp at hk
    rcases hk with rfl | rfl | hk
    · exact htb
    · exact hmb
    · exact hsv k hk
theorem Kp.all {w w' : World} (h : Kp [] w w') : Below w.heap.size w w' := h.below (Nat.le_refl _) (fun k hk => by cases hk)
theorem Tab.keep {w w' : World} {tb mb : Nat} {sv : Value} {ss : List ByteArray} (h : Tab w tb mb sv ss) (hb : Below w.heap.size w w') : Tab w' tb mb sv ss := by
  have g : w.grownBy w' none := ⟨hb.os, hb.tape, hb.output, hb.size, fun k hk _ => hb.block k hk⟩
  obtain ⟨D, h1, h2⟩ := h.map
  refine ⟨?_, h.row.kept g (by cases hh : sv.ownBlock <;> simp), ⟨D, h1.kept g (by simp), h2⟩, h.len, h.sz, h.nd⟩
  rw [hb.block tb h.lt]; exact h.here

set_option maxHeartbeats 1000000 in
theorem lives_any (w : World) : Calls Try.prog 8 #[] w fun e w' => e = .returned (.bool true) ∧ Below w.heap.size w w' := by
  go_enter Try.func8, Try.ntmps8
  go_wp2_with fail
  refine (new_any w).mono ?_; rintro e w1 ⟨rfl, ht, hk, hz⟩
  have T0 := Lib.hid ht; have B0 := Lib.hid hk.all; clear ht hk
  go_wp2_with fail
  refine (add_at T0.out sb (by decide) (by decide) addL1).mono ?_; rintro e w2 ⟨rfl, ha⟩
  obtain ⟨sv1, t1, o1, b1⟩ := Tab.own B0.out (by omega) (by omega) (fun k e => by cases e) ha
  have T1 := Lib.hid t1; have O1 := Lib.hid o1; have B1 := Lib.hid b1; clear t1 o1 b1 ha
  go_wp2_with fail
  refine (add_at T1.out sa (by decide) (by decide) addL2).mono ?_; rintro e w3 ⟨rfl, ha⟩
  obtain ⟨sv2, t2, o2, b2⟩ := Tab.own B1.out (by omega) (by omega) O1.out ha
  have T2 := Lib.hid t2; have O2 := Lib.hid o2; have B2 := Lib.hid b2; clear t2 o2 b2 ha
  go_wp2_with fail
  refine (add_at T2.out sb (by decide) (by decide) addL3).mono ?_; rintro e w4 ⟨rfl, ha⟩
  obtain ⟨sv3, t3, o3, b3⟩ := Tab.own B2.out (by omega) (by omega) O2.out ha
  have T3 := Lib.hid t3; have B3 := Lib.hid b3; clear t3 o3 b3 ha
  go_wp2_with fail
  refine (all_any T3.out).mono ?_; rintro e w5 ⟨v, rfl, h1, h2, ⟨a', cap', rfl⟩, h4⟩
  have S5 := Lib.hid h1; have T5 := Lib.hid (T3.out.keep h4); have B5 := Lib.hid (B3.out.trans (h4.mono B3.out.size)); clear h1 h2 h4
  go_wp2_with fail
  have hal := (Below.refl w5.heap.size w5).alloc (Nat.le_refl _) (.cells #[.string sb, .string sa] 9)
  have s6 : StrsAt (w5.alloc (.cells #[.string sb, .string sa] 9)) (.slice (some ⟨w5.heap.size, 0, none⟩) 2 2) [sb, sa] := by
    refine Or.inr ⟨_, 2, rfl, Or.inr (by simp), by simp, fun i hi => ?_⟩
    simp at hi
    rw [Addr.add_lit, Nat.zero_add]
    match i, hi with
    | 0, _ => go_simp
    | 1, _ => go_simp
  refine (same_eq (S5.out.below hal) s6 (by decide)).mono ?_; rintro e w7 ⟨rfl, q, rfl⟩
  have T7 := Lib.hid ((T5.out.keep hal).keep (below_drewN (Below.refl _ _) q)); have B7 := Lib.hid ((B5.out.trans (hal.mono B5.out.size)).trans (below_drewN (Below.refl _ _) q)); clear hal s6
  go_wp2_with fail
  refine (len_any T7.out).mono ?_; rintro e w8 ⟨rfl, rfl⟩
  go_wp2_with fail
  go_ret
  exact ⟨rfl, B7.out⟩

theorem namesNil_walk (s : ByteArray) (i : Int) (w : World) (_ : s.size ≤ maxLen) (_ : (Lit.int .i64 i).wf = true) : Calls Try.prog 6 #[.string s, .int .i64 i] w fun e w' => e = .returned (.bool true) ∧ Below w.heap.size w w' := by
  go_enter Try.func6, Try.ntmps6
  go_wp2_with fail
  refine (find_nil s _).mono ?_; rintro e w' ⟨rfl, rfl⟩
  go_wp2_with fail
  refine (get_no (.pointer none) 0 i (len_nil _) (by omega)).mono ?_; rintro e w' ⟨rfl, rfl⟩
  go_wp2_with fail
  refine (add_nil s _).mono ?_; rintro e w' ⟨rfl, rfl⟩
  go_wp2_with fail
  refine (len_nil _).mono ?_; rintro e w' ⟨rfl, rfl⟩
  go_wp2_with fail
  refine (all_nil _).mono ?_; rintro e w' ⟨rfl, rfl⟩
  go_wp2_with fail
  refine (lives_any _).mono ?_; rintro e w1 ⟨rfl, b⟩
  go_wp2_with fail
  go_ret
  exact ⟨rfl, b⟩
end Go.Proofs.Ytpgblcemooamdaa
