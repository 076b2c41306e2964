/- Contracts of the grid's functions that seg calls: Check, Less, Holds, Box. -/
import Derived.Test.YtfabfnjfnildhaaWa
import Derived.Deep.RegionWith
import Derived.Laws.Cover1
namespace Go.Proofs.Ytfabfnjfnildhaa
open Go.ChangeShapes Go.WideShapes Go.ChangeAt Go.RowKit Go.Joins Go.Deep

def chk (a b c d : Int) : Int := if goodB a b c d = true then 0 else 2

theorem chk_yes {a b c d : Int} (h : goodB a b c d = true) : chk a b c d = 0 := by unfold chk; rw [if_pos h]

theorem chk_no {a b c d : Int} (h : goodB a b c d = false) : chk a b c d = 2 := by unfold chk; rw [if_neg (by rw [h]; simp)]

theorem span_good {a b c d : Int} (h1 : a ≤ c) (h2 : b ≤ d) : goodB a b c d = (minZ 0 a == 0 && minZ 0 b == 0 && maxZ 32768 c == 32768 && maxZ 32768 d == 32768) := by
  unfold goodB
  have e1 : (minZ 0 a = 0) ↔ 0 ≤ a := by unfold minZ; split <;> omega
  have e2 : (minZ 0 b = 0) ↔ 0 ≤ b := by unfold minZ; split <;> omega
  have e3 : (maxZ 32768 c = 32768) ↔ c ≤ 32768 := by unfold maxZ; split <;> omega
  have e4 : (maxZ 32768 d = 32768) ↔ d ≤ 32768 := by unfold maxZ; split <;> omega
  rw [Bool.eq_iff_iff]; simp [e1, e2, e3, e4]; omega

set_option maxHeartbeats 1000000 in
theorem check_any (a b c d : Int) (w : World) :
    Calls Try.prog 60 #[bx a b c d] w fun e w' => e = .returned (.int .i64 (chk a b c d)) ∧ Below w.heap.size w w' := by
  have S0 : Hid (∀ W, W = ((w.alloc (.cells #[.int .i64 a, .int .i64 b, .int .i64 c, .int .i64 d] 46)).alloc (.cells #[.int .i64 0, .int .i64 0, .int .i64 32768, .int .i64 32768] 46)).drew →
      Below w.heap.size w W ∧ W.cell? ⟨w.heap.size + 1, 0, none⟩ = some (.int .i64 0) ∧ W.cell? ⟨w.heap.size + 1, 1, none⟩ = some (.int .i64 0) ∧ W.cell? ⟨w.heap.size + 1, 2, none⟩ = some (.int .i64 32768) ∧ W.cell? ⟨w.heap.size + 1, 3, none⟩ = some (.int .i64 32768) ∧ W.cell? ⟨w.heap.size, 0, none⟩ = some (.int .i64 a) ∧ W.cell? ⟨w.heap.size, 1, none⟩ = some (.int .i64 b) ∧ W.cell? ⟨w.heap.size, 2, none⟩ = some (.int .i64 c) ∧ W.cell? ⟨w.heap.size, 3, none⟩ = some (.int .i64 d)) := by
    intro W e; subst e
    exact ⟨(((Below.refl _ _).alloc (Nat.le_refl _) _).alloc (by simp) _).drew, by go_simp, by go_simp, by go_simp, by go_simp, by go_simp, by go_simp, by go_simp, by go_simp⟩
  by_cases h1 : c < a
  · have G : Hid (chk a b c d = 2) := chk_no (by unfold goodB; simp; omega)
    go_enter Try.func60, Try.ntmps60
    go_wp2_with fail
    go_quiet (fail)
    go_wp2
    go_ret
    exact ⟨ret_i64 G.out.symm, below_drewN (((Below.refl _ _).alloc (Nat.le_refl _) _).alloc (by simp) _) _⟩
  · have d1 : decide (c < a) = false := by simpa using h1
    by_cases h2 : d < b
    · have G : Hid (chk a b c d = 2) := chk_no (by unfold goodB; simp; omega)
      go_enter Try.func60, Try.ntmps60
      go_wp2_with fail
      go_quiet (fail)
      go_wp2
      go_ret
      exact ⟨ret_i64 G.out.symm, below_drewN (((Below.refl _ _).alloc (Nat.le_refl _) _).alloc (by simp) _) _⟩
    · have d2 : decide (d < b) = false := by simpa using h2
      have hcase : (goodB a b c d = true ∧ minZ 0 a = 0 ∧ minZ 0 b = 0 ∧ maxZ 32768 c = 32768 ∧ maxZ 32768 d = 32768) ∨ (goodB a b c d = false ∧ (minZ 0 a == 0) = false) ∨ (goodB a b c d = false ∧ minZ 0 a = 0 ∧ (minZ 0 b == 0) = false) ∨ (goodB a b c d = false ∧ minZ 0 a = 0 ∧ minZ 0 b = 0 ∧ (maxZ 32768 c == 32768) = false) ∨ (goodB a b c d = false ∧ minZ 0 a = 0 ∧ minZ 0 b = 0 ∧ maxZ 32768 c = 32768 ∧ (maxZ 32768 d == 32768) = false) := by
        rw [span_good (a := a) (b := b) (c := c) (d := d) (by omega) (by omega)]
        by_cases e1 : minZ 0 a = 0
        · by_cases e2 : minZ 0 b = 0
          · by_cases e3 : maxZ 32768 c = 32768
            · by_cases e4 : maxZ 32768 d = 32768
              · exact Or.inl ⟨by simp [e1, e2, e3, e4], e1, e2, e3, e4⟩
              · exact Or.inr (Or.inr (Or.inr (Or.inr ⟨by simp [e1, e2, e3, e4], e1, e2, e3, by simpa using e4⟩)))
            · exact Or.inr (Or.inr (Or.inr (Or.inl ⟨by simp [e1, e2, e3], e1, e2, by simpa using e3⟩)))
          · exact Or.inr (Or.inr (Or.inl ⟨by simp [e1, e2], e1, by simpa using e2⟩))
        · exact Or.inr (Or.inl ⟨by simp [e1], by simpa using e1⟩)
      rcases hcase with ⟨hv, k1, k2, k3, k4⟩ | ⟨hv, k1⟩ | ⟨hv, k1, k2⟩ | ⟨hv, k1, k2, k3⟩ | ⟨hv, k1, k2, k3, k4⟩
      all_goals
        have HV := Lib.hid hv; clear hv
        go_enter Try.func60, Try.ntmps60
        go_wp2_with fail
        go_region_held3 (fun w' => Below w.heap.size w w' ∧ w'.cell? ⟨w.heap.size + 1, 0, none⟩ = some (.int .i64 0) ∧ w'.cell? ⟨w.heap.size + 1, 1, none⟩ = some (.int .i64 0) ∧ w'.cell? ⟨w.heap.size + 1, 2, none⟩ = some (.int .i64 32768) ∧ w'.cell? ⟨w.heap.size + 1, 3, none⟩ = some (.int .i64 32768) ∧ w'.cell? ⟨w.heap.size, 0, none⟩ = some (.int .i64 a) ∧ w'.cell? ⟨w.heap.size, 1, none⟩ = some (.int .i64 b) ∧ w'.cell? ⟨w.heap.size, 2, none⟩ = some (.int .i64 c) ∧ w'.cell? ⟨w.heap.size, 3, none⟩ = some (.int .i64 d))
          (first | exact S0.out _ rfl | assumption | exact keep8 (by assumption) (by assumption))
          (first | (go_at_call 59; (with_reducible refine (span_any _ _ _ _ _ _ _ _ _).mono ?_); rintro e w1 ⟨rfl, b1⟩))
        all_goals go_wp2
        all_goals go_ret
        all_goals refine ⟨ret_i64 ?_, bel_of (by assumption)⟩
        all_goals first | exact (chk_yes HV.out).symm | exact (chk_no HV.out).symm

def lsB (x y p q : Int) : Bool := decide (x < p ∨ x = p ∧ y < q)

theorem lsB_iff {x y p q : Int} : lsB x y p q = true ↔ (x < p ∨ x = p ∧ y < q) := by unfold lsB; simp

set_option maxHeartbeats 1000000 in
theorem less_any (x y p q : Int) (w : World) :
    Calls Try.prog 37 #[pt x y, pt p q] w fun e w' => e = .returned (.bool (lsB x y p q)) ∧ Below w.heap.size w w' := by
  have e3 := Lib.hid (@lsB_iff x y p q)
  rcases Int.lt_trichotomy x p with h | h | h
  · have h1 : (x == p) = false := by simp; omega
    have h2 : (x != p) = true := by simp; omega
    have HV : Hid (lsB x y p q = true) := e3.out.2 (by omega)
    clear e3
    go_enter Try.func37, Try.ntmps37
    go_wp2
    go_ret
    exact ⟨ret_bool HV.out.symm, ((Below.refl _ _).alloc (Nat.le_refl _) _).alloc (by simp) _⟩
  · subst h
    have h1 : (x == x) = true := by simp
    have h2 : (x != x) = false := by simp
    have h3 : ¬ x < x := by omega
    have HV : Hid (lsB x y x q = decide (y < q)) := by show lsB x y x q = decide (y < q); unfold lsB; simp
    clear e3
    go_enter Try.func37, Try.ntmps37
    go_wp2
    all_goals go_ret
    all_goals exact ⟨ret_bool HV.out.symm, ((Below.refl _ _).alloc (Nat.le_refl _) _).alloc (by simp) _⟩
  · have h1 : (x == p) = false := by simp; omega
    have h2 : (x != p) = true := by simp; omega
    have h3 : decide (x < p) = false := by simp; omega
    have HV : Hid (lsB x y p q = false) := by show lsB x y p q = false; rw [Bool.eq_false_iff, ne_eq, e3.out]; omega
    clear e3
    go_enter Try.func37, Try.ntmps37
    go_wp2
    all_goals go_ret
    all_goals exact ⟨ret_bool HV.out.symm, ((Below.refl _ _).alloc (Nat.le_refl _) _).alloc (by simp) _⟩

set_option maxHeartbeats 1000000 in
theorem lessr_any (x y p q : Int) (w : World) :
    Calls Try.prog 38 #[pt x y, pt p q] w fun e w' => e = .returned (.bool (lsB x y p q)) ∧ Below w.heap.size w w' := by
  have e3 := Lib.hid (@lsB_iff x y p q)
  rcases Int.lt_trichotomy x p with h | h | h
  · have h1 : (x == p) = false := by simp; omega
    have h2 : (x != p) = true := by simp; omega
    have HV : Hid (lsB x y p q = true) := e3.out.2 (by omega)
    clear e3
    go_enter Try.func38, Try.ntmps38
    go_wp2
    go_ret
    exact ⟨ret_bool HV.out.symm, ((Below.refl _ _).alloc (Nat.le_refl _) _).alloc (by simp) _⟩
  · subst h
    have h1 : (x == x) = true := by simp
    have h2 : (x != x) = false := by simp
    have h3 : ¬ x < x := by omega
    have HV : Hid (lsB x y x q = decide (y < q)) := by show lsB x y x q = decide (y < q); unfold lsB; simp
    clear e3
    go_enter Try.func38, Try.ntmps38
    go_wp2
    all_goals go_ret
    all_goals exact ⟨ret_bool HV.out.symm, ((Below.refl _ _).alloc (Nat.le_refl _) _).alloc (by simp) _⟩
  · have h1 : (x == p) = false := by simp; omega
    have h2 : (x != p) = true := by simp; omega
    have h3 : decide (x < p) = false := by simp; omega
    have HV : Hid (lsB x y p q = false) := by show lsB x y p q = false; rw [Bool.eq_false_iff, ne_eq, e3.out]; omega
    clear e3
    go_enter Try.func38, Try.ntmps38
    go_wp2
    all_goals go_ret
    all_goals exact ⟨ret_bool HV.out.symm, ((Below.refl _ _).alloc (Nat.le_refl _) _).alloc (by simp) _⟩

def hdB (a b c d x y : Int) : Bool := goodB a b c d && vldB x y && decide (a ≤ x ∧ x ≤ c ∧ b ≤ y ∧ y ≤ d)

theorem hdB_no {a b c d x y : Int} (h : goodB a b c d = false) : hdB a b c d x y = false := by unfold hdB; rw [h]; rfl

theorem hdB_nv {a b c d x y : Int} (h : vldB x y = false) : hdB a b c d x y = false := by unfold hdB; rw [h]; simp

theorem hdB_iff {a b c d x y : Int} (h : goodB a b c d = true) (k : vldB x y = true) : hdB a b c d x y = true ↔ (a ≤ x ∧ x ≤ c ∧ b ≤ y ∧ y ≤ d) := by unfold hdB; rw [h, k]; simp

theorem hold_start (w : World) (a b c d x y : Int) : ∀ W, W = ((w.alloc (.cells #[.int .i64 a, .int .i64 b, .int .i64 c, .int .i64 d] 46)).alloc (.cells #[.int .i64 x, .int .i64 y] 23)).drew →
      Below w.heap.size w W ∧ W.cell? ⟨w.heap.size, 0, none⟩ = some (.int .i64 a) ∧ W.cell? ⟨w.heap.size, 1, none⟩ = some (.int .i64 b) ∧ W.cell? ⟨w.heap.size, 2, none⟩ = some (.int .i64 c) ∧ W.cell? ⟨w.heap.size, 3, none⟩ = some (.int .i64 d) ∧ W.cell? ⟨w.heap.size + 1, 0, none⟩ = some (.int .i64 x) ∧ W.cell? ⟨w.heap.size + 1, 1, none⟩ = some (.int .i64 y) := by
  intro W e; subst e
  exact ⟨(((Below.refl _ _).alloc (Nat.le_refl _) _).alloc (by simp) _).drew, by go_simp, by go_simp, by go_simp, by go_simp, by go_simp, by go_simp⟩

set_option maxHeartbeats 4000000 in
theorem holds_any (a b c d x y : Int) (w : World) :
    Calls Try.prog 42 #[bx a b c d, pt x y] w fun e w' => e = .returned (.bool (hdB a b c d x y)) ∧ Below w.heap.size w w' := by
  have S0 := Lib.hid (hold_start w a b c d x y)
  have hcase : (goodB a b c d = false) ∨ (goodB a b c d = true ∧ vldB x y = false) ∨ (goodB a b c d = true ∧ vldB x y = true ∧ hdB a b c d x y = true ∧ clampZ x a c = x ∧ clampZ y b d = y) ∨ (goodB a b c d = true ∧ vldB x y = true ∧ hdB a b c d x y = false ∧ (clampZ x a c == x) = false) ∨ (goodB a b c d = true ∧ vldB x y = true ∧ hdB a b c d x y = false ∧ clampZ x a c = x ∧ (clampZ y b d == y) = false) := by
    cases hg : goodB a b c d
    · exact Or.inl rfl
    · cases hv : vldB x y
      · exact Or.inr (Or.inl ⟨rfl, rfl⟩)
      · have e3 := hdB_iff hg hv
        have e1 := @clamp_eq x a c
        have e2 := @clamp_eq y b d
        by_cases k1 : clampZ x a c = x
        · by_cases k2 : clampZ y b d = y
          · exact Or.inr (Or.inr (Or.inl ⟨rfl, rfl, e3.2 (by omega), k1, k2⟩))
          · exact Or.inr (Or.inr (Or.inr (Or.inr ⟨rfl, rfl, by rw [Bool.eq_false_iff, ne_eq, e3]; omega, k1, by simpa using k2⟩)))
        · exact Or.inr (Or.inr (Or.inr (Or.inl ⟨rfl, rfl, by rw [Bool.eq_false_iff, ne_eq, e3]; omega, by simpa using k1⟩)))
  rcases hcase with hg | ⟨hg, hv⟩ | ⟨hg, hv, hh, k1, k2⟩ | ⟨hg, hv, hh, k1⟩ | ⟨hg, hv, hh, k1, k2⟩
  · have HC := Lib.hid (chk_no hg); have HH := Lib.hid (hdB_no (x := x) (y := y) hg); clear hg
    go_enter Try.func42, Try.ntmps42
    go_wp2_with fail
    go_region_with (first | (go_at_call 60; (with_reducible refine (check_any _ _ _ _ _).mono ?_); rintro e w1 ⟨rfl, b1⟩; rw [HC.out]))
    all_goals go_wp2
    all_goals go_ret
    all_goals
      refine ⟨ret_bool HH.out.symm, ?_⟩
      (repeat (first | exact Below.refl _ _ | (refine Below.drew ?_) | (refine below_drewN ?_ _) | (refine Below.alloc ?_ (by first | omega | (simp <;> omega)) _) | (refine Below.setCell ?_ (by first | omega | (simp <;> omega)) _) | (refine Below.trans ?_ (Below.mono (by assumption) (by first | omega | (simp <;> omega))))))
  · have HC := Lib.hid (chk_yes hg); have HV := Lib.hid hv; have HH := Lib.hid (hdB_nv (a := a) (b := b) (c := c) (d := d) hv); clear hg hv
    go_enter Try.func42, Try.ntmps42
    go_wp2_with fail
    go_region_with (first | (go_at_call 60; (with_reducible refine (check_any _ _ _ _ _).mono ?_); rintro e w1 ⟨rfl, b1⟩; rw [HC.out]; obtain ⟨hc, hf⟩ := bcell b1; have hz : w.heap.size + 1 < w1.heap.size := (by have := b1.size; (try simp at this); omega)) | (go_at_call 53; (with_reducible refine (valid_any _ _ _).mono ?_); rintro e w1 ⟨rfl, b1⟩; rw [HV.out]))
    all_goals go_wp2
    all_goals go_ret
    all_goals
      refine ⟨ret_bool HH.out.symm, ?_⟩
      (repeat (first | exact Below.refl _ _ | (refine Below.drew ?_) | (refine below_drewN ?_ _) | (refine Below.alloc ?_ (by first | omega | (simp <;> omega)) _) | (refine Below.setCell ?_ (by first | omega | (simp <;> omega)) _) | (refine Below.trans ?_ (Below.mono (by assumption) (by first | omega | (simp <;> omega))))))
  all_goals
    have HC := Lib.hid (chk_yes hg); have HV := Lib.hid hv; have HH := Lib.hid hh; clear hg hv hh
    go_enter Try.func42, Try.ntmps42
    go_wp2_with fail
    go_region_held3 (fun w' => Below w.heap.size w w' ∧ w'.cell? ⟨w.heap.size, 0, none⟩ = some (.int .i64 a) ∧ w'.cell? ⟨w.heap.size, 1, none⟩ = some (.int .i64 b) ∧ w'.cell? ⟨w.heap.size, 2, none⟩ = some (.int .i64 c) ∧ w'.cell? ⟨w.heap.size, 3, none⟩ = some (.int .i64 d) ∧ w'.cell? ⟨w.heap.size + 1, 0, none⟩ = some (.int .i64 x) ∧ w'.cell? ⟨w.heap.size + 1, 1, none⟩ = some (.int .i64 y))
      (first | exact S0.out _ rfl | assumption | exact keep6 (by assumption) (by assumption))
      (first | (go_at_call 60; (with_reducible refine (check_any _ _ _ _ _).mono ?_); rintro e w1 ⟨rfl, b1⟩; rw [HC.out]) | (go_at_call 53; (with_reducible refine (valid_any _ _ _).mono ?_); rintro e w1 ⟨rfl, b1⟩; rw [HV.out]) | (go_at_call 61; (with_reducible refine (nearest_any _ _ _ _ _ _ _).mono ?_); rintro e w1 ⟨rfl, b1⟩))
    all_goals go_wp2
    all_goals go_ret
    all_goals exact ⟨ret_bool HH.out.symm, bel_of (by assumption)⟩

abbrev Pt := Int × Int

abbrev Q4 := Int × Int × Int × Int

def bst (q : Q4) (p : Pt) : Q4 := (minZ q.1 p.1, minZ q.2.1 p.2, maxZ q.2.2.1 p.1, maxZ q.2.2.2 p.2)

def b0 (l : List Pt) : Q4 := ((l.getD 0 (0, 0)).1, (l.getD 0 (0, 0)).2, (l.getD 0 (0, 0)).1, (l.getD 0 (0, 0)).2)

def bfk (l : List Pt) (k : Nat) : Q4 := (l.take k).foldl bst (b0 l)

def allV (l : List Pt) : Bool := l.all fun p => vldB p.1 p.2

def bok (l : List Pt) : Bool := decide (l ≠ []) && allV l

def bq (l : List Pt) : Q4 := if bok l = true then bfk l l.length else (0, 0, 0, 0)

theorem bfk_succ (l : List Pt) (k : Nat) (h : k < l.length) : bfk l (k + 1) = bst (bfk l k) (l.getD k (0, 0)) := by
  unfold bfk
  rw [List.take_succ_eq_append_getElem h, List.foldl_append]
  simp [List.getD, h]

theorem bst_same (x y : Int) : bst (x, y, x, y) (x, y) = (x, y, x, y) := by unfold bst minZ maxZ; simp

theorem bfk_one (l : List Pt) (h : 0 < l.length) : bfk l 1 = b0 l := by
  rw [bfk_succ l 0 h]; unfold bfk; simp only [List.take_zero, List.foldl_nil]; exact bst_same _ _

theorem allV_succ (l : List Pt) (k : Nat) (h : k < l.length) : allV (l.take (k + 1)) = (allV (l.take k) && vldB (l.getD k (0, 0)).1 (l.getD k (0, 0)).2) := by
  unfold allV; rw [List.take_succ_eq_append_getElem h, List.all_append]; simp [List.getD, h]

theorem allV_no {l : List Pt} {k : Nat} (h : k < l.length) (hv : vldB (l.getD k (0, 0)).1 (l.getD k (0, 0)).2 = false) : allV l = false := by
  unfold allV
  rw [Bool.eq_false_iff, ne_eq, List.all_eq_true]
  intro hall
  have := hall (l[k]) (List.getElem_mem h)
  simp [List.getD, h] at hv
  rw [hv] at this; cases this

def PtsAt (w : World) (a : Option Addr) (len : Nat) (l : List Pt) : Prop :=
  len = l.length ∧ (len = 0 ∨ ∃ b off, a = some ⟨b, off, none⟩ ∧ b < w.heap.size ∧ ∀ i, i < len → w.cell? ⟨b, off + i * 2, none⟩ = some (.int .i64 (l.getD i (0, 0)).1) ∧ w.cell? ⟨b, off + i * 2 + 1, none⟩ = some (.int .i64 (l.getD i (0, 0)).2))

theorem PtsAt.below {w w' : World} {a : Option Addr} {len : Nat} {l : List Pt} (h : PtsAt w a len l) (hb : Below w.heap.size w w') : PtsAt w' a len l := by
  obtain ⟨h1, h3⟩ := h
  refine ⟨h1, ?_⟩
  rcases h3 with h3 | ⟨b, off, e, hlt, hc⟩
  · exact Or.inl h3
  · refine Or.inr ⟨b, off, e, Nat.lt_of_lt_of_le hlt hb.size, fun i hi => ?_⟩
    obtain ⟨c1, c2⟩ := hc i hi
    exact ⟨by rw [hb.cell (by exact hlt)]; exact c1, by rw [hb.cell (by exact hlt)]; exact c2⟩

theorem PtsAt.at {w : World} {a : Option Addr} {len : Nat} {l : List Pt} (h : PtsAt w a len l) {k : Nat} (hk : k < len) : ∃ b off, a = some ⟨b, off, none⟩ ∧ w.cell? ⟨b, off + k * 2, none⟩ = some (.int .i64 (l.getD k (0, 0)).1) ∧ w.cell? ⟨b, off + k * 2 + 1, none⟩ = some (.int .i64 (l.getD k (0, 0)).2) := by
  rcases h.2 with h3 | ⟨b, off, e, hlt, hc⟩
  · omega
  · exact ⟨b, off, e, hc k hk⟩

def Blk (w : World) (g : Nat) (q : Q4) : Prop := w.heap[g]? = some (.cells #[.int .i64 q.1, .int .i64 q.2.1, .int .i64 q.2.2.1, .int .i64 q.2.2.2] 46)

theorem Blk.facts {w : World} {g : Nat} {q : Q4} (h : Blk w g q) : w.cell? ⟨g, 0, none⟩ = some (.int .i64 q.1) ∧ w.cell? ⟨g, 1, none⟩ = some (.int .i64 q.2.1) ∧ w.cell? ⟨g, 2, none⟩ = some (.int .i64 q.2.2.1) ∧ w.cell? ⟨g, 3, none⟩ = some (.int .i64 q.2.2.2) ∧ (∀ i, w.frozen? ⟨g, i, none⟩ = false) := by
  unfold Blk at h
  refine ⟨?_, ?_, ?_, ?_, fun i => ?_⟩ <;> simp [World.cell?, World.frozen?, h]

theorem Blk.lt {w : World} {g : Nat} {q : Q4} (h : Blk w g q) : g < w.heap.size := cell_lt h.facts.1

theorem Blk.below {w w' : World} {g B : Nat} {q : Q4} (h : Blk w g q) (hb : Below B w w') (hn : g < B) : Blk w' g q := by
  unfold Blk; rw [hb.block _ hn]; exact h

theorem Blk.new (w : World) (a b c d : Int) : Blk (w.alloc (.cells #[.int .i64 a, .int .i64 b, .int .i64 c, .int .i64 d] 46)) w.heap.size (a, b, c, d) := by
  show (w.heap.push _)[w.heap.size]? = _
  rw [Array.getElem?_push, if_pos rfl]

theorem set_blk {w : World} {g i : Nat} {cs : Array Value} {t : TypeId} {u : Value} (h : w.heap[g]? = some (.cells cs t)) : (w.setCell ⟨g, i, none⟩ u).heap[g]? = some (.cells (cs.setIfInBounds i u) t) := by
  simp [World.setCell, Array.getElem?_modify, h]

theorem Blk.set {w : World} {g : Nat} {q : Q4} (h : Blk w g q) (a b c d : Int) :
    Blk ((((w.setCell ⟨g, 0, none⟩ (.int .i64 a)).setCell ⟨g, 1, none⟩ (.int .i64 b)).setCell ⟨g, 2, none⟩ (.int .i64 c)).setCell ⟨g, 3, none⟩ (.int .i64 d)) g (a, b, c, d) := by
  have k := set_blk (i := 3) (u := .int .i64 d) (set_blk (i := 2) (u := .int .i64 c) (set_blk (i := 1) (u := .int .i64 b) (set_blk (i := 0) (u := .int .i64 a) h)))
  exact k

theorem Blk.other {w : World} {g : Nat} {q : Q4} {u : Value} {a : Addr} (h : Blk w g q) (hn : g ≠ a.block) : Blk (w.setCell a u) g q := by
  unfold Blk; rw [Below.heap_setCell _ _ _ _ hn]; exact h

set_option maxHeartbeats 1000000 in
theorem single_any (x y : Int) (w : World) :
    Calls Try.prog 58 #[pt x y] w fun e w' => e = .returned (bx x y x y) ∧ Below w.heap.size w w' := by
  go_enter Try.func58, Try.ntmps58
  go_wp2
  refine bodyPost_ret (v := bx x y x y) (by simp [results, Try.results58, go_sem]) rfl ⟨rfl, ?_⟩
  exact ((Below.refl _ _).alloc (Nat.le_refl _) _).alloc (by simp) _

theorem ret_qb {q r : Q4} {x y : Bool} (h : q = r) (k : x = y) : Ending.returned (.tuple #[bx q.1 q.2.1 q.2.2.1 q.2.2.2, .bool x]) = .returned (.tuple #[bx r.1 r.2.1 r.2.2.1 r.2.2.2, .bool y]) := by rw [h, k]

theorem bq_no {l : List Pt} (h : bok l = false) : bq l = (0, 0, 0, 0) := by unfold bq; rw [h]; rfl

theorem bq_yes {l : List Pt} (h : bok l = true) : bq l = bfk l l.length := by unfold bq; rw [h]; rfl

theorem bok_nil {l : List Pt} (h : l.length = 0) : bok l = false := by rw [List.length_eq_zero_iff] at h; subst h; rfl

theorem bok_nv {l : List Pt} (h : allV l = false) : bok l = false := by unfold bok; rw [h]; simp

theorem bok_y {l : List Pt} (h : allV l = true) (k : 0 < l.length) : bok l = true := by
  unfold bok; rw [h]; simp; intro e; subst e; simp at k

abbrev boxT (l : List Pt) : Value := .tuple #[bx (bq l).1 (bq l).2.1 (bq l).2.2.1 (bq l).2.2.2, .bool (bok l)]

theorem b0_mk {l : List Pt} {x y : Int} (h : l.getD 0 (0, 0) = (x, y)) : b0 l = (x, y, x, y) := by unfold b0; rw [h]

theorem bstep2 {w w2 w3 : World} {g z : Nat} {q r : Q4} (B : Hid (Below w.heap.size w w2)) (K : Hid (Blk w2 g q)) (Z : Hid (Blk w2 z r)) (b : Below w2.heap.size w2 w3) :
    Hid (Below w.heap.size w w3) ∧ Hid (Blk w3 g q) ∧ Hid (Blk w3 z r) ∧ w3.cell? ⟨g, 0, none⟩ = some (.int .i64 q.1) ∧ w3.cell? ⟨g, 1, none⟩ = some (.int .i64 q.2.1) ∧ w3.cell? ⟨g, 2, none⟩ = some (.int .i64 q.2.2.1) ∧ w3.cell? ⟨g, 3, none⟩ = some (.int .i64 q.2.2.2) ∧ (∀ i, w3.frozen? ⟨g, i, none⟩ = false) := by
  have k := K.out.below b K.out.lt
  exact ⟨B.out.trans (b.mono B.out.size), k, Z.out.below b Z.out.lt, k.facts⟩

theorem bstep1 {w w2 w3 : World} {g z : Nat} {q r : Q4} (B : Hid (Below w.heap.size w w2)) (K : Hid (Blk w2 g q)) (Z : Hid (Blk w2 z r)) (b : Below w2.drew.heap.size w2.drew w3) :
    Hid (Below w.heap.size w w3) ∧ Hid (Blk w3 g q) ∧ Hid (Blk w3 z r) ∧ w3.cell? ⟨g, 0, none⟩ = some (.int .i64 q.1) ∧ w3.cell? ⟨g, 1, none⟩ = some (.int .i64 q.2.1) ∧ w3.cell? ⟨g, 2, none⟩ = some (.int .i64 q.2.2.1) ∧ w3.cell? ⟨g, 3, none⟩ = some (.int .i64 q.2.2.2) ∧ (∀ i, w3.frozen? ⟨g, i, none⟩ = false) :=
  bstep2 (w2 := w2.drew) (B.out.drew) K Z b

set_option maxHeartbeats 4000000 in
theorem box_any (a : Option Addr) (len cap : Nat) (l : List Pt) (w : World) (h : PtsAt w a len l) (hl : len ≤ 1000000) :
    Calls Try.prog 41 #[.slice a len cap] w fun e w' => e = .returned (boxT l) ∧ Below w.heap.size w w' := by
  have HP := Lib.hid h
  have HL := Lib.hid h.1; clear h
  by_cases hz : len = 0
  · subst hz
    have HN := Lib.hid (bok_nil HL.out.symm)
    go_enter Try.func41, Try.ntmps41
    go_wp2
    refine bodyPost_ret (by simp [results, Try.results41, go_sem]; rfl) rfl ⟨?_, ?_⟩
    · exact ret_qb (q := (0, 0, 0, 0)) (bq_no HN.out).symm HN.out.symm
    · (repeat (first | exact Below.refl _ _ | (refine Below.drew ?_) | (refine below_drewN ?_ _) | (refine Below.alloc ?_ (by first | omega | (simp <;> omega)) _) | (refine Below.setCell ?_ (by first | omega | (simp <;> omega)) _) | (refine Below.trans ?_ (Below.mono (by assumption) (by first | omega | (simp <;> omega))))))
  · have hp : 0 < len := by omega
    have hq : (0 : Int) < (len : Int) := by omega
    have hz' : ((len : Int) == 0) = false := by simp; omega
    obtain ⟨b, off, rfl, c1, c2⟩ := HP.out.at hp
    obtain ⟨⟨x0, y0⟩, hxy⟩ : ∃ p, l.getD 0 (0, 0) = p := ⟨_, rfl⟩
    rw [hxy] at c1 c2
    simp only [Nat.zero_mul, Nat.add_zero] at c1 c2
    have hbs : b < w.heap.size := cell_lt c1
    have B0 := Lib.hid (b0_mk hxy); clear hxy hz
    go_enter Try.func41, Try.ntmps41
    go_wp2_with fail
    refine (single_any _ _ _).mono ?_; rintro e w1 ⟨rfl, hb⟩
    have K1 := Lib.hid ((Blk.new w 0 0 0 0).below hb (by simp))
    have HB1 := Lib.hid (((Below.refl w.heap.size w).alloc (Nat.le_refl _) _).trans (hb.mono (by simp)))
    clear hb
    go_wp2_with fail
    have K2 := Lib.hid (Blk.new w1 x0 y0 x0 y0)
    have K3 := Lib.hid (K1.out.below ((Below.refl w1.heap.size w1).alloc (Nat.le_refl _) (.cells #[.int .i64 x0, .int .i64 y0, .int .i64 x0, .int .i64 y0] 46)) K1.out.lt)
    have HB2 := Lib.hid (HB1.out.alloc HB1.out.size (.cells #[.int .i64 x0, .int .i64 y0, .int .i64 x0, .int .i64 y0] 46))
    have hg : w.heap.size < w1.heap.size := K1.out.lt
    clear c1 c2
    go_loopw [17] (fun s17 wr => ∃ k : Nat, k ≤ len ∧ s17 = .int .i64 k ∧ Hid (allV (l.take k) = true) ∧ Hid (Below w.heap.size w wr) ∧ Hid (Blk wr w.heap.size (0, 0, 0, 0)) ∧ Hid (Blk wr w1.heap.size (bfk l k))) (fun s17 _ => len - (intOf s17).toNat)
    case atStart => exact ⟨0, by omega, rfl, by simp [Hid, allV], HB2, K3, (by show Blk _ _ (b0 l); rw [B0.out]; exact K2.out)⟩
    case round =>
      obtain ⟨k, hk, rfl, HA, HB, KZ, KG⟩ := hrel
      have kg := KG.out.lt; have kz := KZ.out.lt
      by_cases hlt : k < len
      · obtain ⟨b', off', hbo, c1, c2⟩ := (HP.out.below HB.out).at hlt
        injection hbo with hbo; injection hbo with e1 e2; subst e1 e2
        have hk' : Hid (k < l.length) := by show k < l.length; rw [← HL.out]; exact hlt
        obtain ⟨⟨x, y⟩, hxy⟩ : ∃ p, l.getD k (0, 0) = p := ⟨_, rfl⟩
        rw [hxy] at c1 c2
        have HXY := Lib.hid hxy; clear hxy
        have HAL := Lib.hid ((Below.refl wr.heap.size wr).alloc (Nat.le_refl _) (.cells #[.int .i64 x, .int .i64 y] 23))
        cases hv : vldB x y
        · have HV := Lib.hid hv; clear hv
          go_wp2_with fail
          refine (valid_any _ _ _).mono ?_; rintro e w2 ⟨rfl, hb⟩; rw [HV.out]
          have KZ2 := (KZ.out.below HAL.out kz).below hb (by simp; omega)
          have HB3 := Lib.hid ((HB.out.trans (HAL.out.mono HB.out.size)).trans (hb.mono (by have := HB.out.size; simp; omega)))
          obtain ⟨z0, z1, z2, z3, zf⟩ := KZ2.facts
          clear KZ2 hb
          go_wp2_with fail
          refine bodyPost_ret (by simp [results, Try.results41, go_sem, z0, z1, z2, z3]; rfl) rfl ⟨?_, ?_⟩
          · have hn := bok_nv (allV_no hk'.out (by rw [HXY.out]; exact HV.out))
            exact ret_qb (q := (0, 0, 0, 0)) (bq_no hn).symm hn.symm
          · have hb := HB3.out
            (repeat (first | assumption | (refine Below.setCell ?_ (by simp) _)))
        · have HV := Lib.hid hv; clear hv
          go_wp2_with fail
          refine (valid_any _ _ _).mono ?_; rintro e w2 ⟨rfl, hb⟩; rw [HV.out]
          have KZ2 := Lib.hid ((KZ.out.below HAL.out kz).below hb (by simp; omega))
          have KG2 := (KG.out.below HAL.out kg).below hb (by simp; omega)
          have HB3 := Lib.hid ((HB.out.trans (HAL.out.mono HB.out.size)).trans (hb.mono (by have := HB.out.size; simp; omega)))
          have p0 : w2.cell? ⟨wr.heap.size, 0, none⟩ = some (.int .i64 x) := old hb (by go_simp)
          have p1 : w2.cell? ⟨wr.heap.size, 1, none⟩ = some (.int .i64 y) := old hb (by go_simp)
          have hzr : wr.heap.size < w2.heap.size := cell_lt p0
          obtain ⟨z0, z1, z2, z3, zf⟩ := KG2.facts
          have HG2 := Lib.hid KG2
          clear KG2 hb c1 c2
          obtain ⟨⟨q1, q2, q3, q4⟩, hqq⟩ : ∃ q, bfk l k = q := ⟨_, rfl⟩
          rw [hqq] at HG2 z0 z1 z2 z3
          have HQ := Lib.hid hqq; clear hqq
          simp only at z0 z1 z2 z3
          have HA2 : Hid (allV (l.take (k + 1)) = true) := by
            show allV (l.take (k + 1)) = true
            rw [allV_succ l k hk'.out, HXY.out, HA.out, HV.out]; rfl
          have HF : Hid (bfk l (k + 1) = (minZ q1 x, minZ q2 y, maxZ q3 x, maxZ q4 y)) := by
            show bfk l (k + 1) = _
            rw [bfk_succ l k hk'.out, HXY.out, HQ.out]; rfl
          go_wp2_with fail
          go_region_with (first
            | (go_at_call 58; (with_reducible refine (single_any _ _ _).mono ?_); rintro e w3 ⟨rfl, b3⟩; obtain ⟨PB, KG3, KZ3, y0, y1, y2, y3, yf⟩ := bstep1 HB3 HG2 KZ2 b3; clear b3)
            | (go_at_call 59; (with_reducible refine (span_any _ _ _ _ _ _ _ _ _).mono ?_); rintro e w4 ⟨rfl, b4⟩; obtain ⟨PB4, KG4, KZ4, t0, t1, t2, t3, tf⟩ := bstep2 PB KG3 KZ3 b4; clear b4))
          all_goals go_wp2_with fail
          all_goals
            go_roundw
            case rel =>
              refine ⟨k + 1, by omega, by go_num, HA2, ?_, ?_, ?_⟩
              · have hb := PB4.out
                show Below _ _ _
                (repeat (first | assumption | (refine Below.setCell ?_ (by simp; omega) _)))
              · show Blk _ _ _
                exact (((KZ4.out.other (by simp; omega)).other (by simp; omega)).other (by simp; omega)).other (by simp; omega)
              · show Blk _ _ _
                rw [HF.out]
                exact KG4.out.set _ _ _ _
            case measure => simp [intOf]; omega
      · have hall : Hid (allV l = true) := by
          have := HA.out
          rwa [List.take_of_length_le (by have := HL.out; omega)] at this
        have hkl : k = len := by omega
        subst hkl
        obtain ⟨z0, z1, z2, z3, zf⟩ := KG.out.facts
        obtain ⟨y0, y1, y2, y3, yf⟩ := KZ.out.facts
        obtain ⟨⟨q1, q2, q3, q4⟩, hqq⟩ : ∃ q, bfk l k = q := ⟨_, rfl⟩
        rw [hqq] at z0 z1 z2 z3
        have HQ := Lib.hid hqq; clear hqq
        simp only at z0 z1 z2 z3
        go_wp2
        refine bodyPost_ret (by simp [results, Try.results41, go_sem, y0, y1, y2, y3]; rfl) rfl ⟨?_, ?_⟩
        · have hy := bok_y hall.out (by have := HL.out; omega)
          exact ret_qb (q := (q1, q2, q3, q4)) (by rw [bq_yes hy, ← HL.out]; exact HQ.out.symm) hy.symm
        · have hb := HB.out
          (repeat (first | assumption | (refine Below.setCell ?_ (by simp) _)))

end Go.Proofs.Ytfabfnjfnildhaa
