/- A schedule among the arguments, opened; the walks of the laws. -/
import Derived.Test.YtpdpaahieplloaaWf
namespace Go.Proofs.Ytpdpaahieplloaa
open Go.ChangeShapes Go.WideShapes Go.ChangeAt Go.RowKit Go.Joins Go.Deep

theorem sched_open {H : Type} {enc : TypeId × Value → H} {W : World} {base b0 : Nat} {spare : Nat → Bool} {held : Bool} {r : Reach} {v : Value} {d : DataW H} {p : List MemPlace}
    (hv : Value.okWide Try.prog W r b0 24 v) (h : DataW.Trod enc Try.prog W base spare held 24 v d p) : ∃ l f e, IsSched W v l f e := by
  obtain ⟨v0, v1, v2, y0, y1, y2, n, rfl, _, _, h0, h1, h2⟩ := open_agg3 Try.underlying24 (by kernel_rfl) Try.cells24 hv h
  obtain ⟨f, e1, _, wf⟩ := DataW.trod_int Try.underlying3 h1
  obtain ⟨e, e2, _, we⟩ := DataW.trod_int Try.underlying3 h2
  simp at e1 e2
  subst e1 e2
  rcases open_slice Try.underlying22 h0 with ⟨hcs, _⟩ | ⟨a, len, cap, m, n', D, Pl, hcs, _, hl, hm, hmm, _, hi⟩
  · simp at hcs
    subst hcs
    exact ⟨[], f, e, sched_none W f e (wf_i64 wf) (wf_i64 we) none 0⟩
  · simp at hcs
    subst hcs
    have hlm : len ≤ m := by rw [hmm]; split <;> omega
    have key : ∀ i, i < len → ∃ c : Sp, W.cell? (a.add (i * 2)) = some (.int .i64 c.1) ∧ W.cell? (a.add (i * 2 + 1)) = some (.int .i64 c.2) ∧ I64 c.1 ∧ I64 c.2 := by
      intro i hi'
      obtain ⟨cs', hc, ht⟩ := hi i (by omega)
      rw [Try.cells35] at hc
      obtain ⟨_, hcl, hat⟩ := World.cells?_some hc
      obtain ⟨z0, z1, n2, _, _, t0, t1⟩ := trod_struct2 Try.underlying35 ht
      obtain ⟨x, ex, _, wx⟩ := DataW.trod_int Try.underlying3 t0
      obtain ⟨y, ey, _, wy⟩ := DataW.trod_int Try.underlying3 t1
      rw [Try.cells3] at ex ey
      match cs', hcl with
      | [q0, q1], _ =>
        simp at ex ey
        subst ex ey
        refine ⟨(x, y), ?_, ?_, wf_i64 wx, wf_i64 wy⟩
        · have := hat 0 (by omega); simpa [Addr.add] using this
        · have := hat 1 (by omega); rw [add_add] at this; simpa using this
    obtain ⟨g, hg⟩ := choose_lt key
    have hgd : ∀ i, i < len → ((List.range len).map g).getD i (0, 0) = g i := by
      intro i hi'; simp [List.getD, hi']
    refine ⟨(List.range len).map g, f, e, some a, len, cap, rfl, by omega, wf_i64 wf, wf_i64 we, by simp, fun i hi' => ?_, ?_⟩
    · rw [hgd i hi']; exact ⟨(hg i hi').2.2.1, (hg i hi').2.2.2⟩
    · by_cases hz : len = 0
      · exact Or.inl hz
      · right
        obtain ⟨b, off, spot⟩ := a
        have c0 := (hg 0 (by omega)).1
        have hspot : spot = none := by simpa [Addr.add] using World.cell?_spot c0
        subst hspot
        refine ⟨b, off, rfl, ?_, fun i hi' => ?_⟩
        · rw [Addr.add_lit] at c0; exact cell_lt c0
        · rw [hgd i hi']
          have h1 := (hg i hi').1; have h2 := (hg i hi').2.1
          rw [Addr.add_lit] at h1 h2
          exact ⟨h1, h2⟩
abbrev zeroSched : Value := .agg #[.slice none 0 0, .int .i64 0, .int .i64 0]
abbrev scheduleChecks_zero0 : Value := zeroSched
theorem scheduleChecks_open0 {H : Type} {enc : TypeId × Value → H} {W : World} {base b0 : Nat} {spare : Nat → Bool} {held : Bool} {r : Reach} {v : Value} {d : DataW H} {p : List MemPlace}
    (hv : Value.okWide Try.prog W r b0 24 v) (h : DataW.Trod enc Try.prog W base spare held 24 v d p) : ∃ l f e, IsSched W v l f e := sched_open hv h
abbrev scheduleOpens_zero0 : Value := zeroSched
theorem scheduleOpens_open0 {H : Type} {enc : TypeId × Value → H} {W : World} {base b0 : Nat} {spare : Nat → Bool} {held : Bool} {r : Reach} {v : Value} {d : DataW H} {p : List MemPlace}
    (hv : Value.okWide Try.prog W r b0 24 v) (h : DataW.Trod enc Try.prog W base spare held 24 v d p) : ∃ l f e, IsSched W v l f e := sched_open hv h
abbrev scheduleNexts_zero0 : Value := zeroSched
theorem scheduleNexts_open0 {H : Type} {enc : TypeId × Value → H} {W : World} {base b0 : Nat} {spare : Nat → Bool} {held : Bool} {r : Reach} {v : Value} {d : DataW H} {p : List MemPlace}
    (hv : Value.okWide Try.prog W r b0 24 v) (h : DataW.Trod enc Try.prog W base spare held 24 v d p) : ∃ l f e, IsSched W v l f e := sched_open hv h
abbrev scheduleFrees_zero0 : Value := zeroSched
theorem scheduleFrees_open0 {H : Type} {enc : TypeId × Value → H} {W : World} {base b0 : Nat} {spare : Nat → Bool} {held : Bool} {r : Reach} {v : Value} {d : DataW H} {p : List MemPlace}
    (hv : Value.okWide Try.prog W r b0 24 v) (h : DataW.Trod enc Try.prog W base spare held 24 v d p) : ∃ l f e, IsSched W v l f e := sched_open hv h
abbrev scheduleMoves_zero0 : Value := zeroSched
theorem scheduleMoves_open0 {H : Type} {enc : TypeId × Value → H} {W : World} {base b0 : Nat} {spare : Nat → Bool} {held : Bool} {r : Reach} {v : Value} {d : DataW H} {p : List MemPlace}
    (hv : Value.okWide Try.prog W r b0 24 v) (h : DataW.Trod enc Try.prog W base spare held 24 v d p) : ∃ l f e, IsSched W v l f e := sched_open hv h
abbrev scheduleRepeats_zero0 : Value := zeroSched
theorem scheduleRepeats_open0 {H : Type} {enc : TypeId × Value → H} {W : World} {base b0 : Nat} {spare : Nat → Bool} {held : Bool} {r : Reach} {v : Value} {d : DataW H} {p : List MemPlace}
    (hv : Value.okWide Try.prog W r b0 24 v) (h : DataW.Trod enc Try.prog W base spare held 24 v d p) : ∃ l f e, IsSched W v l f e := sched_open hv h

/- the box holds, whatever calls came -/
def Bx (w wr : World) (x y z : Value) : Prop := Below w.heap.size w wr ∧ w.heap.size < wr.heap.size ∧ wr.cell? ⟨w.heap.size, 0, none⟩ = some x ∧ wr.cell? ⟨w.heap.size, 1, none⟩ = some y ∧ wr.cell? ⟨w.heap.size, 2, none⟩ = some z
theorem Bx.start (w : World) (x y z : Value) (t : TypeId) : Bx w (w.alloc (.cells #[x, y, z] t)) x y z :=
  ⟨(Below.refl _ _).alloc (Nat.le_refl _) _, by simp, by go_simp, by go_simp, by go_simp⟩
theorem Bx.next {w wr w2 : World} {x y z : Value} (h : Bx w wr x y z) (hb : Below wr.heap.size wr w2) : Bx w w2 x y z := by
  obtain ⟨h1, h2, h3, h4, h5⟩ := h
  refine ⟨h1.trans (hb.mono (by omega)), Nat.lt_of_lt_of_le h2 hb.size, ?_, ?_, ?_⟩ <;> (rw [hb.cell (by exact h2)]; assumption)
theorem Bx.cells {w wr : World} {x y z : Value} (h : Bx w wr x y z) : wr.cell? ⟨w.heap.size, 0, none⟩ = some x ∧ wr.cell? ⟨w.heap.size, 1, none⟩ = some y ∧ wr.cell? ⟨w.heap.size, 2, none⟩ = some z := ⟨h.2.2.1, h.2.2.2.1, h.2.2.2.2⟩
theorem Bx.drewN {w wr : World} {x y z : Value} (h : Bx w wr x y z) (n : Nat) : Bx w (wr.drewN n) x y z := ⟨below_drewN h.1 n, h.2.1, h.2.2.1, h.2.2.2.1, h.2.2.2.2⟩

set_option maxRecDepth 100000 in
set_option maxHeartbeats 2000000 in
theorem scheduleNexts_walk (v : Value) (t : Int) (w : World) (hv : ∃ l f e, IsSched w v l f e) (_ : (Lit.int .i64 t).wf = true) :
    Calls Try.prog 5 #[v, .int .i64 t] w fun e w' => e = .returned (.bool true) ∧ Below w.heap.size w w' := by
  obtain ⟨l, f, e, hv⟩ := hv
  have HV := Lib.hid hv
  obtain ⟨a, len, cap, rfl, hm, _, _, _⟩ := hv
  unfold maxLen at hm
  by_cases h40 : 40 < len
  · go_enter Try.func5, Try.ntmps5
    go_wp2_with fail
    refine (lives_any _).mono ?_; rintro en w1 ⟨rfl, b⟩
    go_wp2_with fail
    go_ret
    exact ⟨rfl, ((Bx.start w _ _ _ _).next b).1⟩
  · have S0 := Lib.hid (Bx.start w (.slice a len cap) (.int .i64 f) (.int .i64 e) 24)
    go_enter Try.func5, Try.ntmps5
    go_wp2_with fail
    refine (next_any _ l f e t _ (HV.out.below S0.out.1)).mono ?_; rintro en w1 ⟨x, o, hn, rfl, b⟩
    have HN := Lib.hid hn; have S1 := Lib.hid (S0.out.next b); clear b hn
    have D := S1.out.cells
    go_wp2_with fail
    refine (nextr_any _ l f e t _ (HV.out.below S1.out.1)).mono ?_; rintro en w2 ⟨x', o', hn', rfl, b⟩
    obtain ⟨rfl, rfl⟩ := next_unique HN.out hn'
    have S2 := Lib.hid (S1.out.next b); clear b hn' D
    cases o
    all_goals
      go_wp2_with fail
      refine (lives_any _).mono ?_; rintro en w3 ⟨rfl, b⟩
      go_wp2_with fail
      go_ret
      exact ⟨rfl, (S2.out.next b).1⟩
theorem bx_next {w wr w2 : World} {x y z : Value} (h : Below w.heap.size w wr ∧ w.heap.size < wr.heap.size ∧ wr.cell? ⟨w.heap.size, 0, none⟩ = some x ∧ wr.cell? ⟨w.heap.size, 1, none⟩ = some y ∧ wr.cell? ⟨w.heap.size, 2, none⟩ = some z) (hb : Below wr.heap.size wr w2) :
    Below w.heap.size w w2 ∧ w.heap.size < w2.heap.size ∧ w2.cell? ⟨w.heap.size, 0, none⟩ = some x ∧ w2.cell? ⟨w.heap.size, 1, none⟩ = some y ∧ w2.cell? ⟨w.heap.size, 2, none⟩ = some z := Bx.next h hb
theorem bx_below {w wr : World} {x y z : Value} (h : Below w.heap.size w wr ∧ w.heap.size < wr.heap.size ∧ wr.cell? ⟨w.heap.size, 0, none⟩ = some x ∧ wr.cell? ⟨w.heap.size, 1, none⟩ = some y ∧ wr.cell? ⟨w.heap.size, 2, none⟩ = some z) : Below w.heap.size w wr := h.1
theorem bx_sched {w wr : World} {a : Option Addr} {len cap : Nat} {l : List Sp} {f e : Int} {x y z : Value} (hv : IsSched w (.agg #[.slice a len cap, .int .i64 f, .int .i64 e]) l f e) (h : Below w.heap.size w wr ∧ w.heap.size < wr.heap.size ∧ wr.cell? ⟨w.heap.size, 0, none⟩ = some x ∧ wr.cell? ⟨w.heap.size, 1, none⟩ = some y ∧ wr.cell? ⟨w.heap.size, 2, none⟩ = some z) :
    IsSched wr (.agg #[.slice a len cap, .int .i64 f, .int .i64 e]) l f e := hv.below h.1

theorem open_anyT {t : Int} (ht1 : t ≤ 9223372036854775807) (v : Value) (l : List Sp) (f e : Int) (t' : Int) (w : World) (hv : IsSched w v l f e) (ht : t' = t := by rfl) :
    Calls Try.prog 12 #[v, .int .i64 t'] w fun en w' => en = .returned (.bool (openZ l f e t')) ∧ Below w.heap.size w w' := open_any v l f e t' w hv (by omega)
theorem openr_anyT {t : Int} (ht1 : t ≤ 9223372036854775807) (v : Value) (l : List Sp) (f e : Int) (t' : Int) (w : World) (hv : IsSched w v l f e) (ht : t' = t := by rfl) :
    Calls Try.prog 13 #[v, .int .i64 t'] w fun en w' => en = .returned (.bool (openZ l f e t')) ∧ Below w.heap.size w w' := openr_any v l f e t' w hv (by omega)

set_option maxRecDepth 100000 in
set_option maxHeartbeats 2000000 in
theorem scheduleChecks_walk (v : Value)  (w : World) (hv : ∃ l f e, IsSched w v l f e)  :
    Calls Try.prog 3 #[v] w fun e w' => e = .returned (.bool true) ∧ Below w.heap.size w w' := by
  obtain ⟨l, f, e, hv⟩ := hv
  have HV := Lib.hid hv
  obtain ⟨a, len, cap, rfl, hm, _, _, _⟩ := hv
  unfold maxLen at hm
  by_cases h40 : 40 < len
  · go_enter Try.func3, Try.ntmps3
    go_wp2_with fail
    refine (lives_any _).mono ?_; rintro en w1 ⟨rfl, b⟩
    go_wp2_with fail
    go_ret
    exact ⟨rfl, ((Bx.start w _ _ _ _).next b).1⟩
  · have S0 := Lib.hid ((Bx.start w (.slice a len cap) (.int .i64 f) (.int .i64 e) 24).drewN 1)
    obtain ⟨z, hz⟩ : ∃ z, checkZ l f e = z := ⟨_, rfl⟩
    have HZ := Lib.hid hz; clear hz
    go_enter Try.func3, Try.ntmps3
    go_wp2_with fail
    go_region_held3 (fun w' => Below w.heap.size w w' ∧ w.heap.size < w'.heap.size ∧ w'.cell? ⟨w.heap.size, 0, none⟩ = some (.slice a len cap) ∧ w'.cell? ⟨w.heap.size, 1, none⟩ = some (.int .i64 f) ∧ w'.cell? ⟨w.heap.size, 2, none⟩ = some (.int .i64 e))
      (first | exact S0.out | assumption | exact bx_next (by assumption) (by assumption))
      (first
        | (go_at_call 10; (with_reducible refine (check_any _ l f e _ (bx_sched HV.out (by assumption))).mono ?_); rintro en w1 ⟨rfl, b1⟩; rw [HZ.out])
        | (go_at_call 11; (with_reducible refine (checkr_any _ l f e _ (bx_sched HV.out (by assumption))).mono ?_); rintro en w1 ⟨rfl, b1⟩; rw [HZ.out])
        | (go_at_call 9; (with_reducible refine (lives_any _).mono ?_); rintro en w1 ⟨rfl, b1⟩))
    all_goals go_wp2
    all_goals go_ret
    all_goals exact ⟨rfl, bx_below (by assumption)⟩

set_option maxRecDepth 100000 in
set_option maxHeartbeats 2000000 in
theorem scheduleOpens_walk (v : Value) (t : Int) (w : World) (hv : ∃ l f e, IsSched w v l f e) (wft : (Lit.int .i64 t).wf = true) :
    Calls Try.prog 4 #[v, .int .i64 t] w fun e w' => e = .returned (.bool true) ∧ Below w.heap.size w w' := by
  obtain ⟨l, f, e, hv⟩ := hv
  have ht1 := (wf_i64 wft).2
  have HV := Lib.hid hv
  obtain ⟨a, len, cap, rfl, hm, _, _, _⟩ := hv
  unfold maxLen at hm
  by_cases h40 : 40 < len
  · go_enter Try.func4, Try.ntmps4
    go_wp2_with fail
    refine (lives_any _).mono ?_; rintro en w1 ⟨rfl, b⟩
    go_wp2_with fail
    go_ret
    exact ⟨rfl, ((Bx.start w _ _ _ _).next b).1⟩
  · have S0 := Lib.hid ((Bx.start w (.slice a len cap) (.int .i64 f) (.int .i64 e) 24).drewN 1)
    obtain ⟨z, hz⟩ : ∃ z, openZ l f e t = z := ⟨_, rfl⟩
    have HZ := Lib.hid hz; clear hz
    go_enter Try.func4, Try.ntmps4
    go_wp2_with fail
    go_region_held3 (fun w' => Below w.heap.size w w' ∧ w.heap.size < w'.heap.size ∧ w'.cell? ⟨w.heap.size, 0, none⟩ = some (.slice a len cap) ∧ w'.cell? ⟨w.heap.size, 1, none⟩ = some (.int .i64 f) ∧ w'.cell? ⟨w.heap.size, 2, none⟩ = some (.int .i64 e))
      (first | exact S0.out | assumption | exact bx_next (by assumption) (by assumption))
      (first
        | (go_at_call 12; (with_reducible refine (open_anyT ht1 _ l f e t _ (bx_sched HV.out (by assumption))).mono ?_); rintro en w1 ⟨rfl, b1⟩; rw [HZ.out])
        | (go_at_call 13; (with_reducible refine (openr_anyT ht1 _ l f e t _ (bx_sched HV.out (by assumption))).mono ?_); rintro en w1 ⟨rfl, b1⟩; rw [HZ.out])
        | (go_at_call 9; (with_reducible refine (lives_any _).mono ?_); rintro en w1 ⟨rfl, b1⟩))
    all_goals go_wp2
    all_goals go_ret
    all_goals exact ⟨rfl, bx_below (by assumption)⟩

set_option maxRecDepth 100000 in
set_option maxHeartbeats 2000000 in
theorem scheduleFrees_walk (v : Value)  (w : World) (hv : ∃ l f e, IsSched w v l f e)  :
    Calls Try.prog 6 #[v] w fun e w' => e = .returned (.bool true) ∧ Below w.heap.size w w' := by
  obtain ⟨l, f, e, hv⟩ := hv
  have HV := Lib.hid hv
  obtain ⟨a, len, cap, rfl, hm, _, _, _⟩ := hv
  unfold maxLen at hm
  by_cases h40 : 40 < len
  · go_enter Try.func6, Try.ntmps6
    go_wp2_with fail
    refine (lives_any _).mono ?_; rintro en w1 ⟨rfl, b⟩
    go_wp2_with fail
    go_ret
    exact ⟨rfl, ((Bx.start w _ _ _ _).next b).1⟩
  · have S0 := Lib.hid ((Bx.start w (.slice a len cap) (.int .i64 f) (.int .i64 e) 24).drewN 1)
    obtain ⟨z, hz⟩ : ∃ z, freeZ l f e = z := ⟨_, rfl⟩
    have HZ := Lib.hid hz; clear hz
    go_enter Try.func6, Try.ntmps6
    go_wp2_with fail
    go_region_held3 (fun w' => Below w.heap.size w w' ∧ w.heap.size < w'.heap.size ∧ w'.cell? ⟨w.heap.size, 0, none⟩ = some (.slice a len cap) ∧ w'.cell? ⟨w.heap.size, 1, none⟩ = some (.int .i64 f) ∧ w'.cell? ⟨w.heap.size, 2, none⟩ = some (.int .i64 e))
      (first | exact S0.out | assumption | exact bx_next (by assumption) (by assumption))
      (first
        | (go_at_call 16; (with_reducible refine (free_any _ l f e _ (bx_sched HV.out (by assumption))).mono ?_); rintro en w1 ⟨rfl, b1⟩; rw [HZ.out])
        | (go_at_call 17; (with_reducible refine (freer_any _ l f e _ (bx_sched HV.out (by assumption))).mono ?_); rintro en w1 ⟨rfl, b1⟩; rw [HZ.out])
        | (go_at_call 9; (with_reducible refine (lives_any _).mono ?_); rintro en w1 ⟨rfl, b1⟩))
    all_goals go_wp2
    all_goals go_ret
    all_goals exact ⟨rfl, bx_below (by assumption)⟩

end Go.Proofs.Ytpdpaahieplloaa
