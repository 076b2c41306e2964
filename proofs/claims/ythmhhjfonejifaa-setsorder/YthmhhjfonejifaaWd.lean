/- Union, Inter, Diff, Sub, Same. -/
import Derived.Test.YthmhhjfonejifaaWc
namespace Go.Proofs.Ythmhhjfonejifaa
open Go.ChangeShapes Go.WideShapes Go.ChangeAt Go.RowKit Go.Joins Go.Deep

def fU (p q : Bool) : Bool := p || q
def fI (p q : Bool) : Bool := p && q
def fD (p q : Bool) : Bool := p && !q
set_option maxHeartbeats 400000 in
theorem cu_any (p q : Bool) (w : World) : Calls Try.prog 52 #[.bool p, .bool q] w fun e w' => e = .returned (.bool (fU p q)) ∧ w = w' := by
  cases p <;> cases q <;> (go_enter Try.func52, Try.ntmps52; go_wp2; go_ret; exact ⟨rfl, rfl⟩)
set_option maxHeartbeats 400000 in
theorem ci_any (p q : Bool) (w : World) : Calls Try.prog 53 #[.bool p, .bool q] w fun e w' => e = .returned (.bool (fI p q)) ∧ w = w' := by
  cases p <;> cases q <;> (go_enter Try.func53, Try.ntmps53; go_wp2; go_ret; exact ⟨rfl, rfl⟩)
set_option maxHeartbeats 400000 in
theorem cd_any (p q : Bool) (w : World) : Calls Try.prog 55 #[.bool p, .bool q] w fun e w' => e = .returned (.bool (fD p q)) ∧ w = w' := by
  cases p <;> cases q <;> (go_enter Try.func55, Try.ntmps55; go_wp2; go_ret; exact ⟨rfl, rfl⟩)
/- a set made by choosing -/
def Ch (f : Bool → Bool → Bool) (l m : List Int) (w : World) (e : Ending) (w' : World) : Prop :=
  ∃ r s, e = .returned r ∧ IntsAt w' r s ∧ SInc s ∧ (∀ x, x ∈ s ↔ Pf f l m x) ∧ s.length ≤ l.length + m.length ∧ Below w.heap.size w w'
theorem pu (l m : List Int) (x : Int) : Pf fU l m x ↔ x ∈ l ∨ x ∈ m := by unfold Pf fU; simp
theorem pi (l m : List Int) (x : Int) : Pf fI l m x ↔ x ∈ l ∧ x ∈ m := by
  unfold Pf fI; simp; exact fun h _ => Or.inl h
theorem pd (l m : List Int) (x : Int) : Pf fD l m x ↔ x ∈ l ∧ x ∉ m := by
  unfold Pf fD; simp; exact fun h _ => Or.inl h
set_option maxHeartbeats 1000000 in
theorem union_any {w : World} {v u : Value} {l m : List Int} (h : IntsAt w v l) (h' : IntsAt w u m) (hl : l.length ≤ 1000000) (hm : m.length ≤ 1000000) : Calls Try.prog 20 #[v, u] w (Ch fU l m w) := by
  have H := Lib.hid (choose_any 52 fU (fun _ _ => rfl) cu_any h h' hl hm)
  obtain ⟨a, cap, rfl⟩ := h.form; obtain ⟨a2, cap2, rfl⟩ := h'.form
  clear h h'
  go_enter Try.func20, Try.ntmps20
  go_wp2_with fail
  refine H.out.mono ?_; rintro e w1 ⟨r, s, rfl, h1, h2, h3, h4, h5⟩
  obtain ⟨a3, cap3, rfl⟩ := h1.form
  have R := Lib.hid (And.intro h1 (And.intro h2 (And.intro h3 (And.intro h4 h5)))); clear h1 h2 h3 h4 h5
  go_wp2_with fail
  go_ret
  exact ⟨_, s, rfl, R.out.1, R.out.2.1, R.out.2.2.1, R.out.2.2.2.1, R.out.2.2.2.2⟩
set_option maxHeartbeats 1000000 in
theorem inter_any {w : World} {v u : Value} {l m : List Int} (h : IntsAt w v l) (h' : IntsAt w u m) (hl : l.length ≤ 1000000) (hm : m.length ≤ 1000000) : Calls Try.prog 22 #[v, u] w (Ch fI l m w) := by
  have H := Lib.hid (choose_any 53 fI (fun _ _ => rfl) ci_any h h' hl hm)
  obtain ⟨a, cap, rfl⟩ := h.form; obtain ⟨a2, cap2, rfl⟩ := h'.form
  clear h h'
  go_enter Try.func22, Try.ntmps22
  go_wp2_with fail
  refine H.out.mono ?_; rintro e w1 ⟨r, s, rfl, h1, h2, h3, h4, h5⟩
  obtain ⟨a3, cap3, rfl⟩ := h1.form
  have R := Lib.hid (And.intro h1 (And.intro h2 (And.intro h3 (And.intro h4 h5)))); clear h1 h2 h3 h4 h5
  go_wp2_with fail
  go_ret
  exact ⟨_, s, rfl, R.out.1, R.out.2.1, R.out.2.2.1, R.out.2.2.2.1, R.out.2.2.2.2⟩
set_option maxHeartbeats 1000000 in
theorem diff_any {w : World} {v u : Value} {l m : List Int} (h : IntsAt w v l) (h' : IntsAt w u m) (hl : l.length ≤ 1000000) (hm : m.length ≤ 1000000) : Calls Try.prog 24 #[v, u] w (Ch fD l m w) := by
  have H := Lib.hid (choose_any 55 fD (fun _ _ => rfl) cd_any h h' hl hm)
  obtain ⟨a, cap, rfl⟩ := h.form; obtain ⟨a2, cap2, rfl⟩ := h'.form
  clear h h'
  go_enter Try.func24, Try.ntmps24
  go_wp2_with fail
  refine H.out.mono ?_; rintro e w1 ⟨r, s, rfl, h1, h2, h3, h4, h5⟩
  obtain ⟨a3, cap3, rfl⟩ := h1.form
  have R := Lib.hid (And.intro h1 (And.intro h2 (And.intro h3 (And.intro h4 h5)))); clear h1 h2 h3 h4 h5
  go_wp2_with fail
  go_ret
  exact ⟨_, s, rfl, R.out.1, R.out.2.1, R.out.2.2.1, R.out.2.2.2.1, R.out.2.2.2.2⟩
def subB (l m : List Int) : Bool := decide (∀ x ∈ l, x ∈ m)
theorem sub_nil {l m s : List Int} (h : ∀ x, x ∈ s ↔ Pf fD l m x) : subB l m = decide (s.length = 0) := by
  unfold subB
  rw [decide_eq_decide, List.length_eq_zero_iff, List.eq_nil_iff_forall_not_mem]
  constructor
  · intro k x hx; rw [h, pd] at hx; exact hx.2 (k x hx.1)
  · intro k x hx
    have := k x
    rw [h, pd] at this
    exact Classical.byContradiction fun hn => this ⟨hx, hn⟩
set_option maxHeartbeats 1000000 in
theorem sub_any {w : World} {v u : Value} {l m : List Int} (h : IntsAt w v l) (h' : IntsAt w u m) (hl : l.length ≤ 1000000) (hm : m.length ≤ 1000000) : Calls Try.prog 26 #[v, u] w fun e w' => e = .returned (.bool (subB l m)) ∧ Below w.heap.size w w' := by
  have H := Lib.hid (diff_any h h' hl hm)
  obtain ⟨a, cap, rfl⟩ := h.form; obtain ⟨a2, cap2, rfl⟩ := h'.form
  clear h h'
  go_enter Try.func26, Try.ntmps26
  go_wp2_with fail
  refine H.out.mono ?_; rintro e w1 ⟨r, s, rfl, h1, h2, h3, h4, h5⟩
  obtain ⟨a3, cap3, rfl⟩ := h1.form
  have SN := Lib.hid (sub_nil h3); have B := Lib.hid h5
  obtain ⟨n, hn⟩ : ∃ n, s.length = n := ⟨_, rfl⟩
  rw [hn] at SN h4 ⊢
  clear h1 h2 h3 h5 hn
  by_cases hz : n = 0
  · subst hz
    go_wp2_with fail
    go_ret
    exact ⟨ret_bool (by rw [SN.out]; rfl), B.out⟩
  · have hz' : ((n : Int) == 0) = false := by simp; omega
    go_wp2_with fail
    go_ret
    exact ⟨ret_bool (by rw [SN.out]; simp [hz]), B.out⟩
def sameB (l m : List Int) : Bool := decide ((∀ x ∈ l, x ∈ m) ∧ (∀ x ∈ m, x ∈ l))
theorem same_of {l m s t : List Int} (h : IsSet l s) (k : IsSet m t) : decide (s = t) = sameB l m := by
  unfold sameB
  rw [decide_eq_decide]
  constructor
  · intro e
    subst e
    exact ⟨fun x hx => (k.2 x).1 ((h.2 x).2 hx), fun x hx => (h.2 x).1 ((k.2 x).2 hx)⟩
  · intro e
    exact sinc_unique h.1 k.1 fun x => by rw [h.2, k.2]; exact ⟨e.1 x, e.2 x⟩
theorem eqs_any {w : World} {v u : Value} {l m : List Int} (h : IntsAt w v l) (h' : IntsAt w u m) (hl : l.length ≤ 2000000) (hm : m.length ≤ 2000000) : Calls Try.prog 56 #[v, u] w fun e w' => e = .returned (.bool (decide (l = m))) ∧ ∃ q, w' = w.drewN q := by
  obtain ⟨a, cap, rfl, _, h2⟩ := h
  obtain ⟨a', cap', rfl, _, k2⟩ := h'
  rcases h2 with rfl | ⟨b, off, rfl, _, hc⟩
  · refine (Try.slices_Equal_int_empty a a' cap m.length cap' w (by omega)).mono ?_
    rintro e w' ⟨rfl, rfl⟩
    refine ⟨ret_bool ?_, 0, rfl⟩
    rw [decide_eq_decide, List.length_eq_zero_iff]; exact eq_comm
  · rcases k2 with rfl | ⟨b', off', rfl, _, hc'⟩
    · by_cases hz : l = []
      · subst hz
        refine (Try.slices_Equal_int_empty _ a' cap 0 cap' w (by omega)).mono ?_
        rintro e w' ⟨rfl, rfl⟩
        exact ⟨rfl, 0, rfl⟩
      · refine (Try.slices_Equal_int_lens _ a' l.length cap 0 cap' w (by rw [ne_eq, List.length_eq_zero_iff]; exact hz)).mono ?_
        rintro e w' ⟨rfl, rfl⟩
        exact ⟨ret_bool (by simp [hz]), 0, rfl⟩
    · refine (Try.slices_Equal_int b off l.length cap b' off' m.length cap' l m w (Nat.le_refl _) (Nat.le_refl _) (by omega) (by omega) hc hc').mono ?_
      rintro e w' ⟨rfl, q, rfl⟩
      refine ⟨ret_bool ?_, q, rfl⟩
      rw [List.take_length, List.take_length, Bool.eq_iff_iff]; simp
set_option maxHeartbeats 1000000 in
theorem same_any {w : World} {v u : Value} {l m : List Int} (h : IntsAt w v l) (h' : IntsAt w u m) (hl : l.length ≤ 1000000) (hm : m.length ≤ 1000000) : Calls Try.prog 28 #[v, u] w fun e w' => e = .returned (.bool (sameB l m)) ∧ Below w.heap.size w w' := by
  have HI := Lib.hid h; have HJ := Lib.hid h'
  obtain ⟨a, cap, rfl⟩ := h.form; obtain ⟨a2, cap2, rfl⟩ := h'.form
  clear h h'
  go_enter Try.func28, Try.ntmps28
  go_wp2_with fail
  refine (of_any HI.out hl).mono ?_; rintro e w1 ⟨v1, s, rfl, h1, h2, h3, h4⟩
  have S1 := Lib.hid h1; have I1 := Lib.hid h2; have L1 := Lib.hid h3; have B1 := Lib.hid h4; clear h1 h2 h3 h4
  go_wp2_with fail
  refine (of_any (HJ.out.below B1.out) hm).mono ?_; rintro e w2 ⟨v2, t, rfl, h1, h2, h3, h4⟩
  have S2 := Lib.hid h1; have I2 := Lib.hid h2; have L2 := Lib.hid h3; have B2 := Lib.hid (B1.out.trans (h4.mono B1.out.size)); have I1' := Lib.hid (I1.out.below h4); clear h1 h2 h3 h4
  have SM := Lib.hid (same_of S1.out S2.out)
  go_wp2_with fail
  refine (eqs_any I1'.out I2.out (by have := L1.out; omega) (by have := L2.out; omega)).mono ?_; rintro e w3 ⟨rfl, q, hw⟩
  rw [SM.out]
  have B3 : Hid (Below w.heap.size w w3) := by show Below _ _ _; rw [hw]; exact below_drewN B2.out q
  clear hw
  go_wp2_with fail
  go_ret
  exact ⟨rfl, B3.out⟩
end Go.Proofs.Ythmhhjfonejifaa
