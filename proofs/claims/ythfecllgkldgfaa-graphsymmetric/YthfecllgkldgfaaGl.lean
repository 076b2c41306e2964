/- graph: lives. -/
import Derived.Test.YthfecllgkldgfaaGk
namespace Go.Proofs.Ythfecllgkldgfaa
open Go.ChangeShapes Go.WideShapes Go.ChangeAt Go.RowKit Go.Joins Go.Deep

theorem ints_lit (w : World) (l : List Int) : IntsAt (w.alloc (.cells (nums l).toArray 3)) (.slice (some ⟨w.heap.size, 0, none⟩) l.length l.length) l := by
  refine ⟨_, _, rfl, Nat.le_refl _, Or.inr ⟨w.heap.size, 0, rfl, by simp, fun j hj => ?_⟩⟩
  have r := Row.new w 3 (nums l)
  rw [Nat.zero_add]
  refine r.cell ?_
  simp [nums, List.getD, List.getElem?_eq_getElem hj]
theorem arcs_lit (w : World) (l : List (Int × Int)) : ArcsAt (w.alloc (.cells (acs l).toArray 45)) (.slice (some ⟨w.heap.size, 0, none⟩) l.length l.length) l := by
  refine ⟨_, _, rfl, fun e => (by cases e), Or.inr ⟨w.heap.size, 0, rfl, by simp, fun j hj => ?_⟩⟩
  have r := Row.new w 45 (acs l)
  obtain ⟨a1, a2⟩ := acs_get l j hj
  rw [Nat.zero_add]
  exact ⟨r.cell a1, r.cell a2⟩
def gl : List (Int × Int) := [((0 : Int), (1 : Int)), (1, 0), (1, 1), (2, 2)]
theorem gl_chk : chk ((3 : Nat) : Int) gl = 0 := by decide
theorem gl_nb : nbs gl gl.length 3 = [[1, 1], [0, 0], []] := by decide
theorem gl_parts : partsL gl 3 = [0, 0, 2] := by decide
theorem gl_out : groups Prod.fst gl gl.length 3 = [[0], [1, 2], [3]] := by decide
theorem nb_lit {ss : List (List Int)} (hl : ss.length = 3) (h : ∀ j, j < 3 → IsSet ((nbs gl gl.length 3).getD j []) (ss.getD j []) ∧ (ss.getD j []).length ≤ 1000000) : ss = [[1], [0], []] := by
  rw [gl_nb] at h
  match ss, hl with
  | [a, b, c], _ =>
    have h0 := (h 0 (by decide)).1; have h1 := (h 1 (by decide)).1; have h2 := (h 2 (by decide)).1
    have s0 : IsSet [1, 1] [1] := ⟨List.pairwise_singleton _ _, fun x => by simp⟩
    have s1 : IsSet [0, 0] [0] := ⟨List.pairwise_singleton _ _, fun x => by simp⟩
    have e0 : a = [1] := IsSet.unique h0 s0
    have e1 : b = [0] := IsSet.unique h1 s1
    have e2 : c = [] := IsSet.unique h2 isSet_nil
    rw [e0, e1, e2]
theorem rows3 {W : World} {ob : Nat} {u0 u1 u2 : Value} {l0 l1 l2 : List Int} (r : Row W ob 22 [u0, u1, u2]) (h0 : IntsAt W u0 l0) (h1 : IntsAt W u1 l1) (h2 : IntsAt W u2 l2) : RowsAt W (.slice (some ⟨ob, 0, none⟩) 3 3) [l0, l1, l2] := by
  refine ⟨_, _, rfl, Or.inr ⟨ob, rfl, fun j hj => ?_⟩⟩
  match j, hj with
  | 0, _ => exact ⟨u0, r.cell rfl, h0⟩
  | 1, _ => exact ⟨u1, r.cell rfl, h1⟩
  | 2, _ => exact ⟨u2, r.cell rfl, h2⟩
theorem small3 (l0 l1 l2 : List Int) (h0 : l0.length ≤ 10) (h1 : l1.length ≤ 10) (h2 : l2.length ≤ 10) : Small [l0, l1, l2] := by
  refine ⟨by simp, fun j hj => ?_⟩
  match j, hj with
  | 0, _ => show l0.length ≤ _; omega
  | 1, _ => show l1.length ≤ _; omega
  | 2, _ => show l2.length ≤ _; omega
structure Gb (w W : World) (A G : Nat) : Prop where
  r : Row W G 33 [.int .i64 3, .slice (some ⟨A, 0, none⟩) 4 4]
  a : ArcsAt W (.slice (some ⟨A, 0, none⟩) 4 4) gl
  b : Below w.heap.size w W
theorem Gb.keep {w W W' : World} {A G : Nat} (h : Gb w W A G) (b : Below W.heap.size W W') : Gb w W' A G := ⟨h.r.below b h.r.lt, h.a.below b, h.b.trans (b.mono h.b.size)⟩
theorem below_al (w : World) (o : Obj) : Below w.heap.size w (w.alloc o) := (Below.refl _ _).alloc (Nat.le_refl _) _
set_option maxRecDepth 100000 in
set_option maxHeartbeats 8000000 in
theorem lives37_any (w : World) : Calls Try.prog 31 #[] w fun e w' => e = .returned (.bool true) ∧ Below w.heap.size w w' := by
  obtain ⟨A, hA⟩ : ∃ A, w.heap.size = A := ⟨_, rfl⟩
  obtain ⟨W1, hW1⟩ : ∃ W1, w.alloc (.cells #[.int .i64 0, .int .i64 1, .int .i64 1, .int .i64 0, .int .i64 1, .int .i64 1, .int .i64 2, .int .i64 2] 45) = W1 := ⟨_, rfl⟩
  obtain ⟨G, hG⟩ : ∃ G, W1.heap.size = G := ⟨_, rfl⟩
  obtain ⟨W2, hW2⟩ : ∃ W2, W1.alloc (.cells #[.int .i64 3, .slice (some ⟨A, 0, none⟩) 4 4] 33) = W2 := ⟨_, rfl⟩
  have g2 : Gb w W2 A G := by
    have a1 : ArcsAt W1 (.slice (some ⟨A, 0, none⟩) 4 4) gl := by rw [← hW1, ← hA]; exact arcs_lit w gl
    have b1 : Below w.heap.size w W1 := by rw [← hW1]; exact below_al _ _
    have b2 : Below W1.heap.size W1 W2 := by rw [← hW2]; exact below_al _ _
    exact ⟨by rw [← hW2, ← hG]; exact Row.new _ _ _, a1.below b2, b1.trans (b2.mono b1.size)⟩
  have GG := Lib.hid g2
  have c0 := g2.r.cell (i := 0) rfl; have c1 := g2.r.cell (i := 1) rfl
  clear g2
  go_enter Try.func31, Try.ntmps31
  go_wp2_with fail
  clear hW1 hW2 hA hG
  have C1 : Calls Try.prog 42 #[gv 3 (.slice (some ⟨A, 0, none⟩) 4 4)] W2 (NbPost gl 3 W2) := nb_any (m := 3) GG.out.a gl_chk (by decide)
  refine C1.mono ?_; rintro e w3 ⟨u, ss, rfl, ru, hl, hs, b3⟩
  obtain rfl := nb_lit hl hs
  have RU := Lib.hid ru; have G3 := Lib.hid (GG.out.keep b3)
  obtain ⟨au, cu, hu⟩ : ∃ au cu, u = .slice au 3 cu := by obtain ⟨a, c, h, _⟩ := ru; exact ⟨a, c, h⟩
  subst hu
  clear C1 c0 c1 ru hl hs b3 GG
  obtain ⟨n1, hn1⟩ : ∃ n1, w3.heap.size = n1 := ⟨_, rfl⟩
  obtain ⟨W4, hW4⟩ : ∃ W4, w3.alloc (.cells #[.int .i64 1] 3) = W4 := ⟨_, rfl⟩
  obtain ⟨n2, hn2⟩ : ∃ n2, W4.heap.size = n2 := ⟨_, rfl⟩
  obtain ⟨W5, hW5⟩ : ∃ W5, W4.alloc (.cells #[.int .i64 0] 3) = W5 := ⟨_, rfl⟩
  obtain ⟨n3, hn3⟩ : ∃ n3, W5.heap.size = n3 := ⟨_, rfl⟩
  obtain ⟨W6, hW6⟩ : ∃ W6, W5.alloc (.cells #[.slice (some ⟨n1, 0, none⟩) 1 1, .slice (some ⟨n2, 0, none⟩) 1 1, .slice none 0 0] 22) = W6 := ⟨_, rfl⟩
  have F6 : Hid (RowsAt W6 (.slice au 3 cu) [[1], [0], []] ∧ RowsAt W6 (.slice (some ⟨n3, 0, none⟩) 3 3) [[1], [0], []] ∧ Gb w W6 A G) := by
    have i4 : IntsAt W4 (.slice (some ⟨n1, 0, none⟩) 1 1) [1] := by rw [← hW4, ← hn1]; exact ints_lit w3 [1]
    have i5 : IntsAt W5 (.slice (some ⟨n2, 0, none⟩) 1 1) [0] := by rw [← hW5, ← hn2]; exact ints_lit W4 [0]
    have b4 : Below w3.heap.size w3 W4 := by rw [← hW4]; exact below_al _ _
    have b5 : Below W4.heap.size W4 W5 := by rw [← hW5]; exact below_al _ _
    have b6 : Below W5.heap.size W5 W6 := by rw [← hW6]; exact below_al _ _
    have r6 : Row W6 n3 22 [.slice (some ⟨n1, 0, none⟩) 1 1, .slice (some ⟨n2, 0, none⟩) 1 1, .slice none 0 0] := by rw [← hW6, ← hn3]; exact Row.new _ _ _
    exact ⟨((RU.out.below b4).below b5).below b6, rows3 r6 ((i4.below b5).below b6) (i5.below b6) (ints_nil _), ((G3.out.keep b4).keep b5).keep b6⟩
  go_wp2_with fail
  clear hn1 hW4 hn2 hW5 hn3 hW6 RU G3
  have C2 := lists_any F6.out.1 F6.out.2.1 (small3 _ _ _ (by decide) (by decide) (by decide)) (small3 _ _ _ (by decide) (by decide) (by decide))
  have t1 : decide (([[1], [0], []] : List (List Int)) = [[1], [0], []]) = true := by decide
  rw [t1] at C2
  refine C2.mono ?_; rintro e w7 ⟨rfl, b7⟩
  have G7 := Lib.hid (F6.out.2.2.keep b7)
  have c0 := G7.out.r.cell (i := 0) rfl; have c1 := G7.out.r.cell (i := 1) rfl
  clear C2 t1 b7 F6
  go_wp2_with fail
  have C3 : Calls Try.prog 44 #[gv 3 (.slice (some ⟨A, 0, none⟩) 4 4)] w7 fun e w' => ∃ u, e = .returned u ∧ IntsAt w' u (partsL gl 3) ∧ Below w7.heap.size w7 w' := parts_any (m := 3) G7.out.a gl_chk
  rw [gl_parts] at C3
  refine C3.mono ?_; rintro e w8 ⟨u, rfl, iu, b8⟩
  have IU := Lib.hid iu; have G8 := Lib.hid (G7.out.keep b8)
  obtain ⟨au2, cu2, hu⟩ := iu.form
  have hu' : u = .slice au2 3 cu2 := hu
  subst hu'
  clear C3 iu b8 G7 c0 c1 hu
  obtain ⟨n1, hn1⟩ : ∃ n1, w8.heap.size = n1 := ⟨_, rfl⟩
  obtain ⟨W9, hW9⟩ : ∃ W9, w8.alloc (.cells #[.int .i64 0, .int .i64 0, .int .i64 2] 3) = W9 := ⟨_, rfl⟩
  have F9 : Hid (IntsAt W9 (.slice au2 3 cu2) [0, 0, 2] ∧ IntsAt W9 (.slice (some ⟨n1, 0, none⟩) 3 3) [0, 0, 2] ∧ Gb w W9 A G) := by
    have b9 : Below w8.heap.size w8 W9 := by rw [← hW9]; exact below_al _ _
    exact ⟨IU.out.below b9, by rw [← hW9, ← hn1]; exact ints_lit w8 [0, 0, 2], G8.out.keep b9⟩
  go_wp2_with fail
  clear hn1 hW9 IU G8
  have C4 := equal_b (Below.refl _ W9) F9.out.1 F9.out.2.1 (by decide) (by decide)
  have t1 : decide (([0, 0, 2] : List Int) = [0, 0, 2]) = true := by decide
  rw [t1] at C4
  refine C4.mono ?_; rintro e wA ⟨rfl, bA⟩
  have GA := Lib.hid (F9.out.2.2.keep bA)
  have c0 := GA.out.r.cell (i := 0) rfl; have c1 := GA.out.r.cell (i := 1) rfl
  clear C4 t1 bA F9
  go_wp2_with fail
  have C5 := check_any (N := 3) GA.out.a
  have k5 : chk 3 gl = 0 := gl_chk
  rw [k5] at C5
  refine C5.mono ?_; rintro e wB ⟨rfl, bB⟩
  have GB := Lib.hid (GA.out.keep bB)
  clear C5 k5 bB GA c0 c1
  obtain ⟨n1, hn1⟩ : ∃ n1, wB.heap.size = n1 := ⟨_, rfl⟩
  obtain ⟨WC, hWC⟩ : ∃ WC, wB.alloc (.cells #[.int .i64 0, .int .i64 1] 45) = WC := ⟨_, rfl⟩
  have FC : Hid (ArcsAt WC (.slice (some ⟨n1, 0, none⟩) 1 1) [(0, 1)] ∧ Gb w WC A G) := by
    have bC : Below wB.heap.size wB WC := by rw [← hWC]; exact below_al _ _
    exact ⟨by rw [← hWC, ← hn1]; exact arcs_lit wB [(0, 1)], GB.out.keep bC⟩
  go_wp2_with fail
  clear hn1 hWC GB
  have C6 := check_any (N := 1) FC.out.1
  have k6 : chk 1 [(0, 1)] = 2 := by decide
  rw [k6] at C6
  refine C6.mono ?_; rintro e wD ⟨rfl, bD⟩
  have GD := Lib.hid (FC.out.2.keep bD)
  clear C6 k6 bD FC
  go_wp2_with fail
  have C7 := check_any (N := -1) (w := wD) (v := .slice none 0 0) (ars := []) ⟨none, 0, rfl, fun _ => ⟨rfl, rfl⟩, Or.inl rfl⟩
  have k7 : chk (-1) [] = 5 := by decide
  rw [k7] at C7
  refine C7.mono ?_; rintro e wE ⟨rfl, bE⟩
  have GE := Lib.hid (GD.out.keep bE)
  have c0 := GE.out.r.cell (i := 0) rfl; have c1 := GE.out.r.cell (i := 1) rfl
  clear C7 k7 bE GD
  go_wp2_with fail
  have C8 : Calls Try.prog 38 #[gv 3 (.slice (some ⟨A, 0, none⟩) 4 4)] wE fun e w' => ∃ u, e = .returned u ∧ RowsAt w' u (groups Prod.fst gl gl.length 3) ∧ Below wE.heap.size wE w' := out_any (m := 3) GE.out.a gl_chk
  rw [gl_out] at C8
  refine C8.mono ?_; rintro e wF ⟨u, rfl, ru, bF⟩
  have RU := Lib.hid ru; have GF := Lib.hid (GE.out.keep bF)
  obtain ⟨au3, cu3, hu⟩ : ∃ au cu, u = .slice au 3 cu := by obtain ⟨a, c, h, _⟩ := ru; exact ⟨a, c, h⟩
  subst hu
  clear C8 c0 c1 ru bF GE
  obtain ⟨n1, hn1⟩ : ∃ n1, wF.heap.size = n1 := ⟨_, rfl⟩
  obtain ⟨W4, hW4⟩ : ∃ W4, wF.alloc (.cells #[.int .i64 0] 3) = W4 := ⟨_, rfl⟩
  obtain ⟨n2, hn2⟩ : ∃ n2, W4.heap.size = n2 := ⟨_, rfl⟩
  obtain ⟨W5, hW5⟩ : ∃ W5, W4.alloc (.cells #[.int .i64 1, .int .i64 2] 3) = W5 := ⟨_, rfl⟩
  obtain ⟨n3, hn3⟩ : ∃ n3, W5.heap.size = n3 := ⟨_, rfl⟩
  obtain ⟨W6, hW6⟩ : ∃ W6, W5.alloc (.cells #[.int .i64 3] 3) = W6 := ⟨_, rfl⟩
  obtain ⟨n4, hn4⟩ : ∃ n4, W6.heap.size = n4 := ⟨_, rfl⟩
  obtain ⟨W7, hW7⟩ : ∃ W7, W6.alloc (.cells #[.slice (some ⟨n1, 0, none⟩) 1 1, .slice (some ⟨n2, 0, none⟩) 2 2, .slice (some ⟨n3, 0, none⟩) 1 1] 22) = W7 := ⟨_, rfl⟩
  have F7 : Hid (RowsAt W7 (.slice au3 3 cu3) [[0], [1, 2], [3]] ∧ RowsAt W7 (.slice (some ⟨n4, 0, none⟩) 3 3) [[0], [1, 2], [3]] ∧ Below w.heap.size w W7) := by
    have i4 : IntsAt W4 (.slice (some ⟨n1, 0, none⟩) 1 1) [0] := by rw [← hW4, ← hn1]; exact ints_lit wF [0]
    have i5 : IntsAt W5 (.slice (some ⟨n2, 0, none⟩) 2 2) [1, 2] := by rw [← hW5, ← hn2]; exact ints_lit W4 [1, 2]
    have i6 : IntsAt W6 (.slice (some ⟨n3, 0, none⟩) 1 1) [3] := by rw [← hW6, ← hn3]; exact ints_lit W5 [3]
    have b4 : Below wF.heap.size wF W4 := by rw [← hW4]; exact below_al _ _
    have b5 : Below W4.heap.size W4 W5 := by rw [← hW5]; exact below_al _ _
    have b6 : Below W5.heap.size W5 W6 := by rw [← hW6]; exact below_al _ _
    have b7 : Below W6.heap.size W6 W7 := by rw [← hW7]; exact below_al _ _
    have r7 : Row W7 n4 22 [.slice (some ⟨n1, 0, none⟩) 1 1, .slice (some ⟨n2, 0, none⟩) 2 2, .slice (some ⟨n3, 0, none⟩) 1 1] := by rw [← hW7, ← hn4]; exact Row.new _ _ _
    exact ⟨(((RU.out.below b4).below b5).below b6).below b7, rows3 r7 (((i4.below b5).below b6).below b7) ((i5.below b6).below b7) (i6.below b7), ((((GF.out.keep b4).keep b5).keep b6).keep b7).b⟩
  go_wp2_with fail
  clear hn1 hW4 hn2 hW5 hn3 hW6 hn4 hW7 RU GF
  have C9 := lists_any F7.out.1 F7.out.2.1 (small3 _ _ _ (by decide) (by decide) (by decide)) (small3 _ _ _ (by decide) (by decide) (by decide))
  have t1 : decide (([[0], [1, 2], [3]] : List (List Int)) = [[0], [1, 2], [3]]) = true := by decide
  rw [t1] at C9
  refine C9.mono ?_; rintro e wG ⟨rfl, bG⟩
  have FB := Lib.hid (F7.out.2.2.trans (bG.mono F7.out.2.2.size))
  clear C9 t1 bG F7
  go_wp2_with fail
  go_ret
  exact ⟨rfl, FB.out⟩
end Go.Proofs.Ythfecllgkldgfaa
