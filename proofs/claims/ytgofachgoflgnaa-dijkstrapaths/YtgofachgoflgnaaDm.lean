/- dijkstra: the reference's To; the example of the chapter. -/
import Derived.Test.YtgofachgoflgnaaDl
namespace Go.Proofs.Ytgofachgoflgnaa
open Go.ChangeShapes Go.WideShapes Go.ChangeAt Go.RowKit Go.Joins Go.Deep

set_option maxRecDepth 100000 in
set_option maxHeartbeats 4000000 in
theorem tor_any {w : World} {N s : Int} {v u : Value} {ars : List (Int × Int)} {ws : List Int} (A : ArcsAt w v ars) (U : IntsAt w u ws) : Calls Try.prog 13 #[gv N v, u, .int .i64 s] w (DPost (ars.map flip) ars ws N s w) := by
  have A0 := A; have U0 := U
  obtain ⟨a, cap, rfl, _⟩ := A
  obtain ⟨ua, uc, rfl⟩ := U.form
  have CK := Lib.hid (fun W (b : Below w.heap.size w W) => ckr_any (N := N) (A0.below b) (U0.below b))
  obtain ⟨n, hn⟩ : ∃ n, ars.length = n := ⟨_, rfl⟩
  obtain ⟨k, hk⟩ : ∃ k, ws.length = k := ⟨_, rfl⟩
  have HA : Hid (ArcsAt w (.slice a n cap) ars) := by have h := A0; rw [hn] at h; exact h
  have HU : Hid (IntsAt w (.slice ua k uc) ws) := by have h := U0; rw [hk] at h; exact h
  have HN := Lib.hid hn
  rw [hn, hk] at CK
  rw [hn, hk]
  obtain ⟨gB, hgB⟩ : ∃ gB, w.heap.size = gB := ⟨_, rfl⟩
  obtain ⟨W1, hW1⟩ : ∃ W1, w.alloc (.cells #[.int .i64 N, .slice a n cap] 24) = W1 := ⟨_, rfl⟩
  have r1 : Row W1 gB 24 [.int .i64 N, .slice a n cap] := by rw [← hW1, ← hgB]; exact Row.new _ _ _
  have g0 := r1.cell (i := 0) rfl; have g1 := r1.cell (i := 1) rfl
  have b1 : Below w.heap.size w W1 := by rw [← hW1]; exact below_al _ _
  have B1 := Lib.hid b1; have R1 := Lib.hid r1
  clear A0 U0 U b1 r1 hn hk
  by_cases hc : ck N ars ws = 0
  · rw [hc] at CK
    obtain ⟨m, rfl, O⟩ := ck_ok hc
    have HO := Lib.hid O; have HC := Lib.hid hc
    clear hc O
    go_enter Try.func13, Try.ntmps13
    go_wp2_with fail
    refine (CK.out _ B1.out).mono ?_; rintro e w4 ⟨rfl, b⟩
    have B4 := Lib.hid (B1.out.trans (b.mono B1.out.size))
    have r4 := R1.out.below b R1.out.lt
    clear b g0 g1 hW1
    have g0 := r4.cell (i := 0) rfl; have g1 := r4.cell (i := 1) rfl
    clear r4
    go_wp2_with fail
    refine (revr_any (N := (m : Int)) (HA.out.below B4.out) HO.out.c HO.out.size.2).mono ?_; rintro e w5 ⟨u5, rfl, a5, b5⟩
    have B5 := Lib.hid (B4.out.trans (b5.mono B4.out.size)); have A5 := Lib.hid a5
    clear a5 b5
    go_wp2_with fail
    refine (fromr_any (N := (m : Int)) (s := s) A5.out (HU.out.below B5.out)).mono ?_; rintro e w6 h6
    rcases h6 with ⟨c, h1, h2, rfl, b⟩ | ⟨m', q, uD, d, h1, rfl, h2, h3, rfl, h4, h5, b⟩
    · have FB := Lib.hid (B5.out.trans (b.mono B5.out.size)); have H1 := Lib.hid h1
      have H2 : Hid (ckv (m : Int) ars ws [s] = c) := by
        show _ = _
        rw [← h2, ckv_ok HC.out, ckv_ok (ok_ck HO.out.flip)]
      clear b h1 h2
      go_wp2_with fail
      go_ret2
      exact Or.inl ⟨c, H1.out, H2.out, rfl, FB.out⟩
    · have FB := Lib.hid (B5.out.trans (b.mono B5.out.size)); have H4 := Lib.hid h4; have H5 := Lib.hid h5; have H1 := Lib.hid h1; have H2 := Lib.hid h2
      clear b h1 h2 h3 h4 h5
      go_wp2_with fail
      go_ret2
      have e : m' = m := by have := H1.out; omega
      subst e
      exact Or.inr ⟨m', q, uD, d, rfl, rfl, H2.out, HO.out, rfl, H4.out, H5.out, FB.out⟩
  · obtain ⟨c, hcc⟩ : ∃ c, ck N ars ws = c := ⟨_, rfl⟩
    have HC : Hid (ckv N ars ws [s] = c) := by show _ = _; rw [ckv_no hc]; exact hcc
    rw [hcc] at CK hc
    have HZ := Lib.hid hc
    have c1 : (c == 0) = false := by simpa using hc
    have c2 : (c != 0) = true := by simpa using hc
    clear hc hcc
    go_enter Try.func13, Try.ntmps13
    go_wp2_with fail
    refine (CK.out _ B1.out).mono ?_; rintro e w4 ⟨rfl, b⟩
    have B4 := Lib.hid (B1.out.trans (b.mono B1.out.size))
    clear b g0 g1 hW1
    go_wp2_with fail
    go_ret2
    exact Or.inl ⟨c, HZ.out, HC.out, rfl, B4.out⟩
def exA : List (Int × Int) := [(0, 1), (0, 2), (2, 1)]
def exW : List Int := [5, 1, 1]
theorem ex_isd : IsD exA exW 3 0 [0, 2, 1] := by
  have w2 : Wk exA exW 0 2 1 := Wk.snoc (u := 0) (v := 2) (i := 1) .nil (by decide) rfl (by decide)
  have w1 : Wk exA exW 0 1 2 := Wk.snoc (u := 2) (v := 1) (i := 2) w2 (by decide) rfl (by decide)
  have rx : Rx exA exW 3 0 [0, 2, 1] := by
    refine ⟨rfl, rfl, fun v hv => ?_, fun v hv => ?_⟩
    · have h : v = 0 ∨ v = 1 ∨ v = 2 := by omega
      rcases h with rfl | rfl | rfl <;> decide
    · have h : v = 0 ∨ v = 1 ∨ v = 2 := by omega
      rcases h with rfl | rfl | rfl
      · exact Or.inr .nil
      · exact Or.inr w1
      · exact Or.inr w2
  refine rx.done (fun j hj => ?_) (fun i hi _ u v e _ => ?_)
  · have h : j = 0 ∨ j = 1 ∨ j = 2 := by simp [exA] at hj; omega
    rcases h with rfl | rfl | rfl <;> decide
  · have h : i = 0 ∨ i = 1 ∨ i = 2 := by simp [exA] at hi; omega
    rcases h with rfl | rfl | rfl
    · have e' : ((0 : Int), (1 : Int)) = ((u : Int), (v : Int)) := e
      injection e' with e1 e2
      obtain rfl : u = 0 := by omega
      obtain rfl : v = 1 := by omega
      decide
    · have e' : ((0 : Int), (2 : Int)) = ((u : Int), (v : Int)) := e
      injection e' with e1 e2
      obtain rfl : u = 0 := by omega
      obtain rfl : v = 2 := by omega
      decide
    · have e' : ((2 : Int), (1 : Int)) = ((u : Int), (v : Int)) := e
      injection e' with e1 e2
      obtain rfl : u = 2 := by omega
      obtain rfl : v = 1 := by omega
      decide
theorem three {k : Int} (h0 : ¬ k < 0) (h1 : ¬ (exA.length : Int) ≤ k) : k = 0 ∨ k = 1 ∨ k = 2 := by simp [exA] at h1; omega
theorem cst_none (s : Int) (l : List Int) (c : Int) (h : cst exA exW 1 s l = some (c, 1)) : l = [] ∧ s = c := by
  cases l with
  | nil => unfold cst at h; injection h with h; injection h with h1 h2; exact ⟨rfl, h1⟩
  | cons k l =>
    rw [cst] at h
    by_cases hc : k < 0 ∨ (exA.length : Int) ≤ k ∨ exW.getD k.toNat 0 < 0 ∨ (exA.getD k.toNat (0, 0)).1 ≠ 1
    · rw [if_pos hc] at h; cases h
    · exfalso
      have h3 := three (fun h => hc (Or.inl h)) (fun h => hc (Or.inr (Or.inl h)))
      refine hc (Or.inr (Or.inr (Or.inr ?_)))
      rcases h3 with rfl | rfl | rfl <;> decide
theorem cst_two (s : Int) (l : List Int) (c : Int) (h : cst exA exW 2 s l = some (c, 1)) : l = [2] ∧ s + 1 = c := by
  cases l with
  | nil => unfold cst at h; injection h with h; injection h with h1 h2; cases h2
  | cons k l =>
    rw [cst] at h
    by_cases hc : k < 0 ∨ (exA.length : Int) ≤ k ∨ exW.getD k.toNat 0 < 0 ∨ (exA.getD k.toNat (0, 0)).1 ≠ 2
    · rw [if_pos hc] at h; cases h
    · rw [if_neg hc] at h
      have h3 := three (fun h => hc (Or.inl h)) (fun h => hc (Or.inr (Or.inl h)))
      rcases h3 with rfl | rfl | rfl
      · exact absurd (Or.inr (Or.inr (Or.inr (by decide)))) hc
      · exact absurd (Or.inr (Or.inr (Or.inr (by decide)))) hc
      · obtain ⟨h4, h5⟩ := cst_none _ _ _ h
        exact ⟨by rw [h4], h5⟩
theorem cst_ex {l : List Int} (h : cst exA exW 0 0 l = some (2, 1)) : l = [1, 2] := by
  cases l with
  | nil => unfold cst at h; injection h with h; injection h with h1 h2; cases h2
  | cons k l =>
    rw [cst] at h
    by_cases hc : k < 0 ∨ (exA.length : Int) ≤ k ∨ exW.getD k.toNat 0 < 0 ∨ (exA.getD k.toNat (0, 0)).1 ≠ 0
    · rw [if_pos hc] at h; cases h
    · rw [if_neg hc] at h
      have h3 := three (fun h => hc (Or.inl h)) (fun h => hc (Or.inr (Or.inl h)))
      rcases h3 with rfl | rfl | rfl
      · obtain ⟨_, h5⟩ := cst_none _ _ _ h
        exact absurd h5 (by decide)
      · obtain ⟨h4, h5⟩ := cst_two _ _ _ h
        rw [h4]
      · exact absurd (Or.inr (Or.inr (Or.inr (by decide)))) hc
theorem ppost_ex {w : World} {e : Ending} {w' : World} (h : PPost exA exW 3 0 1 w e w') : ∃ u, e = .returned (.tuple #[u, .int .i64 2, .int .i64 0]) ∧ IntsAt w' u [1, 2] ∧ Below w.heap.size w w' := by
  have c0 : ckv 3 exA exW [0, 1] = 0 := by decide
  rcases h with ⟨c, h1, h2, _⟩ | ⟨m, q, r, d, e1, e2, e3, h1, h2, h3, h4, h5, _⟩ | ⟨m, q, r, d, u, pl, e1, e2, e3, h1, h2, h3, h4, h5, rfl, h6, _, h7, b⟩
  · rw [c0] at h2; exact absurd h2.symm h1
  · obtain rfl : m = 3 := by omega
    obtain rfl : q = 0 := by omega
    obtain rfl : r = 1 := by omega
    rw [h4.unique ex_isd] at h5
    exact absurd h5 (by decide)
  · obtain rfl : m = 3 := by omega
    obtain rfl : q = 0 := by omega
    obtain rfl : r = 1 := by omega
    rw [h4.unique ex_isd] at h7 ⊢
    have h8 : pl = [1, 2] := cst_ex h7
    rw [h8] at h6
    exact ⟨u, rfl, h6, b⟩
theorem equal_t {w : World} {v u : Value} {l : List Int} (h : IntsAt w v l) (h' : IntsAt w u l) (hl : l.length ≤ 1000000) : Calls Try.prog 16 #[v, u] w fun e w' => e = .returned (.bool true) ∧ Below w.heap.size w w' := by
  refine (equal_any h h' hl hl).mono ?_
  rintro e w' ⟨rfl, q, rfl⟩
  exact ⟨by simp, below_drewN (Below.refl _ _) _⟩
set_option maxRecDepth 100000 in
set_option maxHeartbeats 8000000 in
theorem lives38_any (w : World) : Calls Try.prog 9 #[] w fun e w' => e = .returned (.bool true) ∧ Below w.heap.size w w' := by
  obtain ⟨x1, hx1⟩ : ∃ x, w.heap.size = x := ⟨_, rfl⟩
  obtain ⟨W1, hW1⟩ : ∃ W1, w.alloc (.cells #[.int .i64 0, .int .i64 1, .int .i64 0, .int .i64 2, .int .i64 2, .int .i64 1] 47) = W1 := ⟨_, rfl⟩
  obtain ⟨x2, hx2⟩ : ∃ x, W1.heap.size = x := ⟨_, rfl⟩
  obtain ⟨W2, hW2⟩ : ∃ W2, W1.alloc (.cells #[.int .i64 3, .slice (some ⟨x1, 0, none⟩) 3 3] 24) = W2 := ⟨_, rfl⟩
  obtain ⟨x3, hx3⟩ : ∃ x, W2.heap.size = x := ⟨_, rfl⟩
  obtain ⟨W3, hW3⟩ : ∃ W3, W2.alloc (.cells #[.int .i64 5, .int .i64 1, .int .i64 1] 3) = W3 := ⟨_, rfl⟩
  have r1 : Row W1 x1 47 [.int .i64 0, .int .i64 1, .int .i64 0, .int .i64 2, .int .i64 2, .int .i64 1] := by rw [← hW1, ← hx1]; exact Row.new _ _ _
  have b1 : Below w.heap.size w W1 := by rw [← hW1]; exact below_al _ _
  have r2 : Row W2 x2 24 [.int .i64 3, .slice (some ⟨x1, 0, none⟩) 3 3] := by rw [← hW2, ← hx2]; exact Row.new _ _ _
  have b2 : Below W1.heap.size W1 W2 := by rw [← hW2]; exact below_al _ _
  have r3 : Row W3 x3 3 [.int .i64 5, .int .i64 1, .int .i64 1] := by rw [← hW3, ← hx3]; exact Row.new _ _ _
  have b3 : Below W2.heap.size W2 W3 := by rw [← hW3]; exact below_al _ _
  have q1 : Row W3 x1 47 [.int .i64 0, .int .i64 1, .int .i64 0, .int .i64 2, .int .i64 2, .int .i64 1] := (r1.below b2 r1.lt).below b3 (r1.below b2 r1.lt).lt
  have B3 : Below w.heap.size w W3 := (b1.trans (b2.mono b1.size)).trans (b3.mono (b1.trans (b2.mono b1.size)).size)
  have AA : Hid (ArcsAt W3 (.slice (some ⟨x1, 0, none⟩) 3 3) exA) := ⟨some ⟨x1, 0, none⟩, 3, rfl, (fun h => by cases h), Or.inr ⟨x1, 0, rfl, q1.lt, fun j hj => by
    have h : j = 0 ∨ j = 1 ∨ j = 2 := by simp [exA] at hj; omega
    rcases h with rfl | rfl | rfl
    · exact ⟨q1.cell (i := 0) rfl, q1.cell (i := 1) rfl⟩
    · exact ⟨q1.cell (i := 2) rfl, q1.cell (i := 3) rfl⟩
    · exact ⟨q1.cell (i := 4) rfl, q1.cell (i := 5) rfl⟩⟩⟩
  have UU : Hid (IntsAt W3 (.slice (some ⟨x3, 0, none⟩) 3 3) exW) := ⟨some ⟨x3, 0, none⟩, 3, rfl, Nat.le_refl _, Or.inr ⟨x3, 0, rfl, r3.lt, fun j hj => by
    have h : j = 0 ∨ j = 1 ∨ j = 2 := by simp [exW] at hj; omega
    rcases h with rfl | rfl | rfl
    · exact r3.cell (i := 0) rfl
    · exact r3.cell (i := 1) rfl
    · exact r3.cell (i := 2) rfl⟩⟩
  have P3 := Lib.hid (path_any (N := 3) (s := 0) (t := 1) AA.out UU.out)
  have g0 := r2.cell (i := 0) rfl; have g1 := r2.cell (i := 1) rfl
  have z0 := (r2.below b3 r2.lt)
  have Z0 := Lib.hid z0; have BB := Lib.hid B3
  clear r1 r2 r3 b1 b2 b3 q1 B3 z0
  go_enter Try.func9, Try.ntmps9
  go_wp2_with fail
  refine P3.out.mono ?_; rintro e w4 h4
  obtain ⟨u, rfl, hu, b⟩ := ppost_ex h4
  have B4 := Lib.hid (BB.out.trans (b.mono BB.out.size)); have HU := Lib.hid hu
  have A4 := Lib.hid (AA.out.below b)
  have Z4 := Lib.hid (Z0.out.below b Z0.out.lt)
  clear h4 hu b g0 g1 hW1 hW2 hW3 P3
  obtain ⟨x5, hx5⟩ : ∃ x, w4.heap.size = x := ⟨_, rfl⟩
  obtain ⟨W5, hW5⟩ : ∃ W5, w4.alloc (.cells #[.int .i64 1, .int .i64 2] 3) = W5 := ⟨_, rfl⟩
  have r5 : Row W5 x5 3 [.int .i64 1, .int .i64 2] := by rw [← hW5, ← hx5]; exact Row.new _ _ _
  have b5 : Below w4.heap.size w4 W5 := by rw [← hW5]; exact below_al _ _
  have E5 := Lib.hid (equal_t (HU.out.below b5) (ints_two (r5.cell (i := 0) rfl) (r5.cell (i := 1) rfl)) (by decide))
  have B5 := Lib.hid (B4.out.trans (b5.mono B4.out.size)); have A5 := Lib.hid (A4.out.below b5); have Z5 := Lib.hid (Z4.out.below b5 Z4.out.lt)
  clear r5 b5
  go_wp2_with fail
  refine E5.out.mono ?_; rintro e w6 ⟨rfl, b⟩
  have B6 := Lib.hid (B5.out.trans (b.mono B5.out.size)); have A6 := Lib.hid (A5.out.below b); have Z6 := Lib.hid (Z5.out.below b Z5.out.lt)
  clear b hW5
  have g0 := Z6.out.cell (i := 0) rfl; have g1 := Z6.out.cell (i := 1) rfl
  obtain ⟨x7, hx7⟩ : ∃ x, w6.heap.size = x := ⟨_, rfl⟩
  obtain ⟨W7, hW7⟩ : ∃ W7, w6.alloc (.cells #[.int .i64 5, .int .i64 1] 3) = W7 := ⟨_, rfl⟩
  have r7 : Row W7 x7 3 [.int .i64 5, .int .i64 1] := by rw [← hW7, ← hx7]; exact Row.new _ _ _
  have b7 : Below w6.heap.size w6 W7 := by rw [← hW7]; exact below_al _ _
  have K7 := Lib.hid (ck_any (N := 3) (A6.out.below b7) (ints_two (r7.cell (i := 0) rfl) (r7.cell (i := 1) rfl)))
  have e17 : ck 3 exA [5, 1] = 17 := by decide
  rw [e17] at K7
  have z7 := Z6.out.below b7 Z6.out.lt
  have g2 := z7.cell (i := 0) rfl; have g3 := z7.cell (i := 1) rfl
  have B7 := Lib.hid (B6.out.trans (b7.mono B6.out.size))
  clear r7 b7 e17 z7
  go_wp2_with fail
  refine K7.out.mono ?_; rintro e w8 ⟨rfl, b⟩
  have FB := Lib.hid (B7.out.trans (b.mono B7.out.size))
  clear b
  go_wp2_with fail
  go_ret
  exact ⟨rfl, FB.out⟩
end Go.Proofs.Ytgofachgoflgnaa
