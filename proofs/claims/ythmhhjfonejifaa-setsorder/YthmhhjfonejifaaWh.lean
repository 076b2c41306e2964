/- The laws' walks: contracts in one form. -/
import Derived.Test.YthmhhjfonejifaaWg
namespace Go.Proofs.Ythmhhjfonejifaa
open Go.ChangeShapes Go.WideShapes Go.ChangeAt Go.RowKit Go.Joins Go.Deep

def SetP (w : World) (r : Value) (P : Int → Prop) (N : Nat) (s : List Int) : Prop := IntsAt w r s ∧ SInc s ∧ (∀ x, x ∈ s ↔ P x) ∧ s.length ≤ N
theorem SetP.below {w w' : World} {r : Value} {P : Int → Prop} {N : Nat} {s : List Int} (h : SetP w r P N s) (hb : Below w.heap.size w w') : SetP w' r P N s := ⟨h.1.below hb, h.2⟩
def Mk (w : World) (P : Int → Prop) (N : Nat) (e : Ending) (w' : World) : Prop := ∃ r s, e = .returned r ∧ SetP w' r P N s ∧ Below w.heap.size w w'
theorem of_P {w : World} {v : Value} {l : List Int} {N : Nat} (h : IntsAt w v l) (hN : l.length ≤ N) (hl : N ≤ 100000) : Calls Try.prog 16 #[v] w (Mk w (· ∈ l) N) := by
  refine (of_any h (by omega)).mono ?_
  rintro e w' ⟨r, s, rfl, h1, h2, h3, h4⟩
  exact ⟨r, s, rfl, ⟨h2, h1.1, h1.2, by omega⟩, h4⟩
theorem ofr_P {w : World} {v : Value} {l : List Int} {N : Nat} (h : IntsAt w v l) (hN : l.length ≤ N) (hl : N ≤ 100000) : Calls Try.prog 17 #[v] w (Mk w (· ∈ l) N) := by
  refine (ofr_any h (by omega)).mono ?_
  rintro e w' ⟨r, s, rfl, h1, h2, h3, h4⟩
  exact ⟨r, s, rfl, ⟨h2, h1.1, h1.2, by omega⟩, h4⟩
theorem un_P {w : World} {v u : Value} {l m : List Int} {N M : Nat} (h : IntsAt w v l) (h' : IntsAt w u m) (hN : l.length ≤ N) (hM : m.length ≤ M) (hl : N ≤ 100000) (hm : M ≤ 100000) : Calls Try.prog 20 #[v, u] w (Mk w (fun x => x ∈ l ∨ x ∈ m) (N + M)) := by
  refine (union_any h h' (by omega) (by omega)).mono ?_
  rintro e w' ⟨r, s, rfl, h1, h2, h3, h4, h5⟩
  exact ⟨r, s, rfl, ⟨h1, h2, (fun x => by rw [h3, pu]), by omega⟩, h5⟩
theorem unr_P {w : World} {v u : Value} {l m : List Int} {N M : Nat} (h : IntsAt w v l) (h' : IntsAt w u m) (hN : l.length ≤ N) (hM : m.length ≤ M) (hl : N ≤ 100000) (hm : M ≤ 100000) : Calls Try.prog 21 #[v, u] w (Mk w (fun x => x ∈ l ∨ x ∈ m) (N + M)) := by
  refine (unionr_any h h' (by omega) (by omega)).mono ?_
  rintro e w' ⟨r, s, rfl, h1, h2, h3, h4, h5⟩
  exact ⟨r, s, rfl, ⟨h1, h2, (fun x => by rw [h3, pu]), by omega⟩, h5⟩
theorem in_P {w : World} {v u : Value} {l m : List Int} {N M : Nat} (h : IntsAt w v l) (h' : IntsAt w u m) (hN : l.length ≤ N) (hM : m.length ≤ M) (hl : N ≤ 100000) (hm : M ≤ 100000) : Calls Try.prog 22 #[v, u] w (Mk w (fun x => x ∈ l ∧ x ∈ m) (N + M)) := by
  refine (inter_any h h' (by omega) (by omega)).mono ?_
  rintro e w' ⟨r, s, rfl, h1, h2, h3, h4, h5⟩
  exact ⟨r, s, rfl, ⟨h1, h2, (fun x => by rw [h3, pi]), by omega⟩, h5⟩
theorem di_P {w : World} {v u : Value} {l m : List Int} {N M : Nat} (h : IntsAt w v l) (h' : IntsAt w u m) (hN : l.length ≤ N) (hM : m.length ≤ M) (hl : N ≤ 100000) (hm : M ≤ 100000) : Calls Try.prog 24 #[v, u] w (Mk w (fun x => x ∈ l ∧ x ∉ m) (N + M)) := by
  refine (diff_any h h' (by omega) (by omega)).mono ?_
  rintro e w' ⟨r, s, rfl, h1, h2, h3, h4, h5⟩
  exact ⟨r, s, rfl, ⟨h1, h2, (fun x => by rw [h3, pd]), by omega⟩, h5⟩
set_option maxHeartbeats 1000000 in
theorem inr_P {w : World} {v u : Value} {l m : List Int} {N M : Nat} (h : IntsAt w v l) (h' : IntsAt w u m) (hN : l.length ≤ N) (hM : m.length ≤ M) (hl : N ≤ 100000) (hm : M ≤ 100000) : Calls Try.prog 23 #[v, u] w (Mk w (fun x => x ∈ l ∧ x ∈ m) (N + M)) := by
  have H := Lib.hid (part_any h h' true (by omega) (by omega))
  obtain ⟨a, cap, rfl⟩ := h.form; obtain ⟨a2, cap2, rfl⟩ := h'.form
  have HN := Lib.hid hN
  clear h h' hN
  go_enter Try.func23, Try.ntmps23
  go_wp2_with fail
  refine H.out.mono ?_; rintro e w1 ⟨r, s, rfl, h1, h2, h3, h4, h5⟩
  obtain ⟨a3, cap3, rfl⟩ := h1.form
  have R : Hid (SetP w1 (.slice a3 s.length cap3) (fun x => x ∈ l ∧ x ∈ m) (N + M) s) := ⟨h1, h2, (fun x => by rw [h3]; simp), by have := HN.out; omega⟩
  have B := Lib.hid h5
  clear h1 h2 h3 h4 h5
  go_wp2_with fail
  go_ret
  exact ⟨_, s, rfl, R.out, B.out⟩
set_option maxHeartbeats 1000000 in
theorem dir_P {w : World} {v u : Value} {l m : List Int} {N M : Nat} (h : IntsAt w v l) (h' : IntsAt w u m) (hN : l.length ≤ N) (hM : m.length ≤ M) (hl : N ≤ 100000) (hm : M ≤ 100000) : Calls Try.prog 25 #[v, u] w (Mk w (fun x => x ∈ l ∧ x ∉ m) (N + M)) := by
  have H := Lib.hid (part_any h h' false (by omega) (by omega))
  obtain ⟨a, cap, rfl⟩ := h.form; obtain ⟨a2, cap2, rfl⟩ := h'.form
  have HN := Lib.hid hN
  clear h h' hN
  go_enter Try.func25, Try.ntmps25
  go_wp2_with fail
  refine H.out.mono ?_; rintro e w1 ⟨r, s, rfl, h1, h2, h3, h4, h5⟩
  obtain ⟨a3, cap3, rfl⟩ := h1.form
  have R : Hid (SetP w1 (.slice a3 s.length cap3) (fun x => x ∈ l ∧ x ∉ m) (N + M) s) := ⟨h1, h2, (fun x => by rw [h3]; simp), by have := HN.out; omega⟩
  have B := Lib.hid h5
  clear h1 h2 h3 h4 h5
  go_wp2_with fail
  go_ret
  exact ⟨_, s, rfl, R.out, B.out⟩
theorem eq_P {w : World} {v u : Value} {l m : List Int} (h : IntsAt w v l) (h' : IntsAt w u m) (hs : SInc l) (hs' : SInc m) (hm : ∀ x, x ∈ l ↔ x ∈ m) (hl : l.length ≤ 100000) (hl' : m.length ≤ 100000) :
    Calls Try.prog 15 #[v, u] w fun e w' => e = .returned (.bool true) ∧ Below w.heap.size w w' := by
  obtain rfl := sinc_unique hs hs' hm
  refine (equal_any h h' (by omega) (by omega)).mono ?_
  rintro e w' ⟨rfl, q, rfl⟩
  exact ⟨ret_bool (by simp), below_drewN (Below.refl _ _) q⟩
set_option maxHeartbeats 1000000 in
theorem subr_any {w : World} {v u : Value} {l m : List Int} (h : IntsAt w v l) (h' : IntsAt w u m) (hl : l.length ≤ 1000) (hm : m.length ≤ 1000) : Calls Try.prog 27 #[v, u] w fun e w' => e = .returned (.bool (subB l m)) ∧ Below w.heap.size w w' := by
  have H := Lib.hid (dir_P h h' hl hm (by omega) (by omega))
  obtain ⟨a, cap, rfl⟩ := h.form; obtain ⟨a2, cap2, rfl⟩ := h'.form
  clear h h'
  go_enter Try.func27, Try.ntmps27
  go_wp2_with fail
  refine H.out.mono ?_; rintro e w1 ⟨r, s, rfl, ⟨h1, h2, h3, h4⟩, h5⟩
  obtain ⟨a3, cap3, rfl⟩ := h1.form
  have SN := Lib.hid (sub_nil (fun x => (h3 x).trans (pd l m x).symm)); have B := Lib.hid h5
  obtain ⟨n, hn⟩ : ∃ n, s.length = n := ⟨_, rfl⟩
  rw [hn] at SN h4 ⊢
  clear h1 h2 h3 h5 hn
  by_cases hz : n = 0
  · subst hz
    go_wp2_with fail
    go_ret
    exact ⟨ret_bool (by rw [SN.out]; rfl), B.out⟩
  · have hz' : ((n : Int) == 0) = false := by simp; omega
    go_wp2_with fail
    go_ret
    exact ⟨ret_bool (by rw [SN.out]; simp [hz]), B.out⟩
set_option maxHeartbeats 1000000 in
theorem samer_any {w : World} {v u : Value} {l m : List Int} (h : IntsAt w v l) (h' : IntsAt w u m) (hl : l.length ≤ 1000000) (hm : m.length ≤ 1000000) : Calls Try.prog 29 #[v, u] w fun e w' => e = .returned (.bool (sameB l m)) ∧ Below w.heap.size w w' := by
  have HI := Lib.hid h; have HJ := Lib.hid h'
  obtain ⟨a, cap, rfl⟩ := h.form; obtain ⟨a2, cap2, rfl⟩ := h'.form
  clear h h'
  go_enter Try.func29, Try.ntmps29
  go_wp2_with fail
  refine (ofr_any HI.out hl).mono ?_; rintro e w1 ⟨v1, s, rfl, h1, h2, h3, h4⟩
  have S1 := Lib.hid h1; have I1 := Lib.hid h2; have L1 := Lib.hid h3; have B1 := Lib.hid h4; clear h1 h2 h3 h4
  go_wp2_with fail
  refine (ofr_any (HJ.out.below B1.out) hm).mono ?_; rintro e w2 ⟨v2, t, rfl, h1, h2, h3, h4⟩
  have S2 := Lib.hid h1; have I2 := Lib.hid h2; have L2 := Lib.hid h3; have B2 := Lib.hid (B1.out.trans (h4.mono B1.out.size)); have I1' := Lib.hid (I1.out.below h4); clear h1 h2 h3 h4
  have SM := Lib.hid (same_of S1.out S2.out)
  go_wp2_with fail
  refine (equal_any I1'.out I2.out (by have := L1.out; omega) (by have := L2.out; omega)).mono ?_; rintro e w3 ⟨rfl, q, hw⟩
  rw [SM.out]
  have B3 : Hid (Below w.heap.size w w3) := by show Below _ _ _; rw [hw]; exact below_drewN B2.out q
  clear hw
  go_wp2_with fail
  go_ret
  exact ⟨rfl, B3.out⟩
theorem Try.cells3 : Try.prog.cellsOf 3 = 1 := by kernel_rfl
def IsInts (w : World) (v : Value) : Prop := ∃ l, IntsAt w v l ∧ l.length ≤ maxLen
theorem ints_open {H : Type} {enc : TypeId × Value → H} {W : World} {base b0 : Nat} {spare : Nat → Bool} {held : Bool} {r : Reach} {v : Value} {d : DataW H} {p : List MemPlace}
    (hv : Value.okWide Try.prog W r b0 22 v) (h : DataW.Trod enc Try.prog W base spare held 22 v d p) : IsInts W v := by
  obtain ⟨a0, len, cap0, rfl⟩ := okWide_slice Try.underlying22 hv
  obtain ⟨fuel, hf⟩ := h
  rcases Deep.open_slice Try.underlying22 hf with ⟨hcs, _⟩ | ⟨a, len', cap, m, n', D, Pl, hcs, _, hl, hm, hmm, _, hi⟩
  · simp [Value.cells] at hcs
    obtain ⟨rfl, rfl, rfl⟩ := hcs
    exact ⟨[], ints_nil W, Nat.zero_le _⟩
  · simp [Value.cells] at hcs
    obtain ⟨rfl, rfl, rfl⟩ := hcs
    have hlm : len ≤ m := by rw [hmm]; split <;> omega
    have key : ∀ i, i < len → ∃ c : Int, W.cell? (a.add i) = some (.int .i64 c) := by
      intro i hi'
      obtain ⟨cs', hc, ht⟩ := hi i (by omega)
      rw [Try.cells3] at hc
      obtain ⟨_, hcl, hat⟩ := World.cells?_some hc
      obtain ⟨x, ex, _, wx⟩ := DataW.trod_int Try.underlying3 ht
      have := hat 0 (by omega)
      rw [ex] at this
      exact ⟨x, by simpa [Addr.add] using this⟩
    obtain ⟨g, hg⟩ := choose_lt key
    refine ⟨(List.range len).map g, ⟨some a, cap0, by simp, by simp; omega, ?_⟩, by simp; omega⟩
    by_cases hz : len = 0
    · left; subst hz; rfl
    · right
      obtain ⟨b, off, spot⟩ := a
      have c0 := hg 0 (by omega)
      have hspot : spot = none := by simpa [Addr.add] using World.cell?_spot c0
      subst hspot
      refine ⟨b, off, rfl, ?_, fun i hi' => ?_⟩
      · rw [Addr.add_lit] at c0; exact cell_lt c0
      · have hi2 : i < len := by simpa using hi'
        have h1 := hg i hi2
        rw [Addr.add_lit] at h1
        rw [h1]; simp [List.getD, hi2]
theorem setsBuild_open0 {H : Type} {enc : TypeId × Value → H} {W : World} {base b0 : Nat} {spare : Nat → Bool} {held : Bool} {r : Reach} {v : Value} {d : DataW H} {p : List MemPlace}
    (hv : Value.okWide Try.prog W r b0 22 v) (h : DataW.Trod enc Try.prog W base spare held 22 v d p) : IsInts W v := ints_open hv h
theorem setsCombine_open0 {H : Type} {enc : TypeId × Value → H} {W : World} {base b0 : Nat} {spare : Nat → Bool} {held : Bool} {r : Reach} {v : Value} {d : DataW H} {p : List MemPlace}
    (hv : Value.okWide Try.prog W r b0 22 v) (h : DataW.Trod enc Try.prog W base spare held 22 v d p) : IsInts W v := ints_open hv h
theorem setsCombine_open1 {H : Type} {enc : TypeId × Value → H} {W : World} {base b0 : Nat} {spare : Nat → Bool} {held : Bool} {r : Reach} {v : Value} {d : DataW H} {p : List MemPlace}
    (hv : Value.okWide Try.prog W r b0 22 v) (h : DataW.Trod enc Try.prog W base spare held 22 v d p) : IsInts W v := ints_open hv h
theorem setsCompare_open0 {H : Type} {enc : TypeId × Value → H} {W : World} {base b0 : Nat} {spare : Nat → Bool} {held : Bool} {r : Reach} {v : Value} {d : DataW H} {p : List MemPlace}
    (hv : Value.okWide Try.prog W r b0 22 v) (h : DataW.Trod enc Try.prog W base spare held 22 v d p) : IsInts W v := ints_open hv h
theorem setsCompare_open1 {H : Type} {enc : TypeId × Value → H} {W : World} {base b0 : Nat} {spare : Nat → Bool} {held : Bool} {r : Reach} {v : Value} {d : DataW H} {p : List MemPlace}
    (hv : Value.okWide Try.prog W r b0 22 v) (h : DataW.Trod enc Try.prog W base spare held 22 v d p) : IsInts W v := ints_open hv h
theorem setsLaws_open0 {H : Type} {enc : TypeId × Value → H} {W : World} {base b0 : Nat} {spare : Nat → Bool} {held : Bool} {r : Reach} {v : Value} {d : DataW H} {p : List MemPlace}
    (hv : Value.okWide Try.prog W r b0 22 v) (h : DataW.Trod enc Try.prog W base spare held 22 v d p) : IsInts W v := ints_open hv h
theorem setsLaws_open1 {H : Type} {enc : TypeId × Value → H} {W : World} {base b0 : Nat} {spare : Nat → Bool} {held : Bool} {r : Reach} {v : Value} {d : DataW H} {p : List MemPlace}
    (hv : Value.okWide Try.prog W r b0 22 v) (h : DataW.Trod enc Try.prog W base spare held 22 v d p) : IsInts W v := ints_open hv h
theorem setsLaws_open2 {H : Type} {enc : TypeId × Value → H} {W : World} {base b0 : Nat} {spare : Nat → Bool} {held : Bool} {r : Reach} {v : Value} {d : DataW H} {p : List MemPlace}
    (hv : Value.okWide Try.prog W r b0 22 v) (h : DataW.Trod enc Try.prog W base spare held 22 v d p) : IsInts W v := ints_open hv h
theorem setsOrder_open0 {H : Type} {enc : TypeId × Value → H} {W : World} {base b0 : Nat} {spare : Nat → Bool} {held : Bool} {r : Reach} {v : Value} {d : DataW H} {p : List MemPlace}
    (hv : Value.okWide Try.prog W r b0 22 v) (h : DataW.Trod enc Try.prog W base spare held 22 v d p) : IsInts W v := ints_open hv h
theorem setsOrder_open1 {H : Type} {enc : TypeId × Value → H} {W : World} {base b0 : Nat} {spare : Nat → Bool} {held : Bool} {r : Reach} {v : Value} {d : DataW H} {p : List MemPlace}
    (hv : Value.okWide Try.prog W r b0 22 v) (h : DataW.Trod enc Try.prog W base spare held 22 v d p) : IsInts W v := ints_open hv h
end Go.Proofs.Ythmhhjfonejifaa
