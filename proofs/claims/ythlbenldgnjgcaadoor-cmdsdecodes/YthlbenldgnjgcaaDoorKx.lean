/- cmds: the examples of the chapter. -/
import Derived.Test.YthlbenldgnjgcaaDoorKw
namespace Go.Proofs.YthlbenldgnjgcaaDoor
open Go.ChangeShapes Go.WideShapes Go.ChangeAt Go.RowKit Go.Joins Go.Deep

def lG : List (List Pt) := [[(2, 3), (4, 1)]]
def lL : List Int := [9, 4, 6, 10, 4, 3]
theorem lG_chk : chk 2 lG = 0 := by decide
theorem lG_enc : encR 2 lG = lL := by decide
theorem lG_dec : dec 2 lL = some lG := by rw [← lG_enc]; unfold encR; rw [if_pos lG_chk]; exact dec_enc lG_chk
theorem lB_dec : dec 2 [9, 4, 6] = none := by
  cases h : dec 2 [9, 4, 6] with
  | none => rfl
  | some ms =>
    exfalso
    obtain ⟨hc, he⟩ := dec_inv (by intro x hx; simp at hx; omega) h
    obtain ⟨a, b, l, t, _, e⟩ := enc_head (Or.inl rfl) hc
    rw [e] at he
    have := congrArg List.length he
    simp at this
theorem vK2 : vK 2 := by decide
theorem lG_E : dcE 2 lL = 0 := dcE_some vK2 lG_dec
theorem lG_G : dcG 2 lL = (2, lG) := dcG_some lG_dec
theorem lB_E : dcE 2 [9, 4, 6] = 4 := dcE_none vK2 lB_dec
theorem l0_E : dcE 0 [] = 1 := by unfold dcE; rw [if_neg (by decide)]
theorem l3_chk : chk 3 [] = 15 := by decide
theorem ints_new {w : World} {l : List Int} {T : TypeId} {n : Nat} (hn : l.length = n) : IntsAt (w.alloc (.cells (nums l).toArray T)) (.slice (some ⟨w.heap.size, 0, none⟩) n n) l := by
  refine ⟨_, n, by rw [hn], by omega, ?_⟩
  refine Or.inr ⟨w.heap.size, 0, rfl, by rw [World.size_alloc]; omega, fun j hj => ?_⟩
  rw [Nat.zero_add]
  refine (Row.new w T (nums l)).cell ?_
  unfold nums
  rw [List.getElem?_map, List.getElem?_eq_getElem hj, List.getD, List.getElem?_eq_getElem hj]; rfl
set_option maxRecDepth 100000 in
set_option maxHeartbeats 8000000 in
theorem lives_any {w : World} (g : GV w) : Calls Tryd.prog 8 #[] w fun e w' => e = .returned (.bool true) ∧ Below w.heap.size w w' := by
  have GG := Lib.hid g
  obtain ⟨A, hA⟩ : ∃ A, w.heap.size = A := ⟨_, rfl⟩
  obtain ⟨W1, hW1⟩ : ∃ W1, w.alloc (.cells #[.int .i64 2, .int .i64 3, .int .i64 4, .int .i64 1] 44) = W1 := ⟨_, rfl⟩
  have r1 : Row W1 A 44 [.int .i64 2, .int .i64 3, .int .i64 4, .int .i64 1] := by rw [← hW1, ← hA]; exact Row.new _ _ _
  have b1 : Below w.heap.size w W1 := by rw [← hW1]; exact (Below.refl _ _).alloc (Nat.le_refl _) _
  obtain ⟨A1, hA1⟩ : ∃ A1, W1.heap.size = A1 := ⟨_, rfl⟩
  obtain ⟨W2, hW2⟩ : ∃ W2, W1.alloc (.cells #[.slice (some ⟨A, 0, none⟩) 2 2] 42) = W2 := ⟨_, rfl⟩
  have r2 : Row W2 A1 42 [.slice (some ⟨A, 0, none⟩) 2 2] := by rw [← hW2, ← hA1]; exact Row.new _ _ _
  have b2 : Below W1.heap.size W1 W2 := by rw [← hW2]; exact (Below.refl _ _).alloc (Nat.le_refl _) _
  obtain ⟨A2, hA2⟩ : ∃ A2, W2.heap.size = A2 := ⟨_, rfl⟩
  obtain ⟨W3, hW3⟩ : ∃ W3, W2.alloc (.cells #[.int .i64 0, .slice none 0 0] 24) = W3 := ⟨_, rfl⟩
  have r3 : Row W3 A2 24 [.int .i64 0, .slice none 0 0] := by rw [← hW3, ← hA2]; exact Row.new _ _ _
  have b3 : Below W2.heap.size W2 W3 := by rw [← hW3]; exact (Below.refl _ _).alloc (Nat.le_refl _) _
  obtain ⟨W4, hW4⟩ : ∃ W4, (W3.setCell ⟨A2, 0, none⟩ (.int .i64 2)).setCell ⟨A2, 1, none⟩ (.slice (some ⟨A1, 0, none⟩) 1 1) = W4 := ⟨_, rfl⟩
  have r4 : Row W4 A2 24 [.int .i64 2, .slice (some ⟨A1, 0, none⟩) 1 1] := by rw [← hW4]; exact (r3.set (i := 0) _).set (i := 1) _
  have b4 : Below W2.heap.size W2 W4 := by rw [← hW4]; exact (b3.setCell (by rw [hA2]; exact Nat.le_refl A2) _).setCell (by rw [hA2]; exact Nat.le_refl A2) _
  have PT : PtsAt W2 (.slice (some ⟨A, 0, none⟩) 2 2) [(2, 3), (4, 1)] := by
    have r := r1.below b2 r1.lt
    refine ⟨_, 2, rfl, Nat.le_refl _, fun e => (by cases e), Or.inr ⟨A, 0, rfl, r.lt, fun j hj => ?_⟩⟩
    match j, hj with
    | 0, _ => exact ⟨r.cell (i := 0) rfl, r.cell (i := 1) rfl⟩
    | 1, _ => exact ⟨r.cell (i := 2) rfl, r.cell (i := 3) rfl⟩
    | j + 2, hj => exact absurd hj (by simp only [List.length_cons, List.length_nil]; omega)
  have RW : RowsAt W2 (.slice (some ⟨A1, 0, none⟩) 1 1) lG := by
    refine ⟨_, 1, rfl, fun e => (by cases e), Or.inr ⟨A1, 0, rfl, r2.lt, fun j hj => ?_⟩⟩
    match j, hj with
    | 0, _ => exact ⟨_, r2.cell (i := 0) rfl, PT⟩
    | j + 1, hj => simp [lG] at hj
  have RW4 := Lib.hid (RW.below b4)
  have B4 : Hid (Below w.heap.size w W4) := b1.trans ((b2.trans (b4.mono b2.size)).mono b1.size)
  have R4 := Lib.hid r4
  have z0 := r3.cell (i := 0) rfl; have z1 := r3.cell (i := 1) rfl; have zf0 := r3.fr (i := 0); have zf1 := r3.fr (i := 1)
  have y0 := r4.cell (i := 0) rfl; have y1 := r4.cell (i := 1) rfl
  clear g r1 r2 r3 r4 b1 b2 b3 b4 PT RW
  go_enter Tryd.func8, Tryd.ntmps8
  go_wp2_with fail
  refine (encode_any RW4.out (by decide)).mono ?_; rintro e w5 ⟨u, rfl, hu, b5⟩
  rw [lG_enc] at hu
  obtain ⟨au, cu, rfl⟩ := hu.form
  have HU := Lib.hid hu; have B5 := Lib.hid b5
  have BW5 : Hid (Below w.heap.size w w5) := B4.out.trans (b5.mono B4.out.size)
  have hc0 := lG_chk
  obtain ⟨C, hC⟩ : ∃ C, w5.heap.size = C := ⟨_, rfl⟩
  obtain ⟨W6, hW6⟩ : ∃ W6, w5.alloc (.cells #[.int .i64 9, .int .i64 4, .int .i64 6, .int .i64 10, .int .i64 4, .int .i64 3] 3) = W6 := ⟨_, rfl⟩
  have I6 : Hid (IntsAt W6 (.slice (some ⟨C, 0, none⟩) 6 6) lL) := by show IntsAt _ _ _; rw [← hW6, ← hC]; exact ints_new (l := lL) rfl
  have b6 : Below w5.heap.size w5 W6 := by rw [← hW6]; exact (Below.refl _ _).alloc (Nat.le_refl _) _
  have B6 := Lib.hid b6
  have DC := Lib.hid (decode_any (k := 2) (GG.out.below (BW5.out.trans (b6.mono BW5.out.size))) I6.out (by intro x hx; simp [lL] at hx; omega) (by decide))
  clear hu b5 b6 y0 y1 z0 z1 zf0 zf1
  go_wp2_with fail
  refine DC.out.mono ?_; rintro e w7 ⟨ga, gn, gc, rfl, grow, b7⟩
  rw [lG_G, lG_E] at *
  dsimp only at grow
  have GR := Lib.hid grow
  have BW7 : Hid (Below w.heap.size w w7) := BW5.out.trans ((B6.out.trans (b7.mono B6.out.size)).mono BW5.out.size)
  have B57 : Hid (Below w5.heap.size w5 w7) := B6.out.trans (b7.mono B6.out.size)
  obtain ⟨D, hD⟩ : ∃ D, w7.heap.size = D := ⟨_, rfl⟩
  obtain ⟨W8, hW8⟩ : ∃ W8, w7.alloc (.cells #[.int .i64 0, .slice none 0 0] 24) = W8 := ⟨_, rfl⟩
  have r8 : Row W8 D 24 [.int .i64 0, .slice none 0 0] := by rw [← hW8, ← hD]; exact Row.new _ _ _
  have b8 : Below w7.heap.size w7 W8 := by rw [← hW8]; exact (Below.refl _ _).alloc (Nat.le_refl _) _
  obtain ⟨W9, hW9⟩ : ∃ W9, (W8.setCell ⟨D, 0, none⟩ (.int .i64 2)).setCell ⟨D, 1, none⟩ (.slice ga gn gc) = W9 := ⟨_, rfl⟩
  have r9 : Row W9 D 24 [.int .i64 2, .slice ga gn gc] := by rw [← hW9]; exact (r8.set (i := 0) _).set (i := 1) _
  have b9 : Below w7.heap.size w7 W9 := by rw [← hW9]; exact (b8.setCell (by rw [hD]; exact Nat.le_refl D) _).setCell (by rw [hD]; exact Nat.le_refl D) _
  have z0 := r8.cell (i := 0) rfl; have z1 := r8.cell (i := 1) rfl; have zf0 := r8.fr (i := 0); have zf1 := r8.fr (i := 1)
  have R9 := Lib.hid r9; have B9 := Lib.hid b9
  obtain ⟨E, hE⟩ : ∃ E, W9.heap.size = E := ⟨_, rfl⟩
  obtain ⟨W10, hW10⟩ : ∃ W10, W9.alloc (.cells #[.int .i64 9, .int .i64 4, .int .i64 6] 3) = W10 := ⟨_, rfl⟩
  have I10 : Hid (IntsAt W10 (.slice (some ⟨E, 0, none⟩) 3 3) [9, 4, 6]) := by show IntsAt _ _ _; rw [← hW10, ← hE]; exact ints_new (l := [9, 4, 6]) rfl
  have b10 : Below W9.heap.size W9 W10 := by rw [← hW10]; exact (Below.refl _ _).alloc (Nat.le_refl _) _
  have B10 := Lib.hid b10
  have B710 : Hid (Below w7.heap.size w7 W10) := b9.trans (b10.mono b9.size)
  have DC2 := Lib.hid (decode_any (k := 2) (GG.out.below (BW7.out.trans (B710.out.mono BW7.out.size))) I10.out (by intro x hx; simp at hx; omega) (by decide))
  clear grow b7 r8 b8 r9 b9 b10 DC
  go_wp2_with fail
  refine DC2.out.mono ?_; rintro e w11 ⟨ha, hn, hc, rfl, _, b11⟩
  rw [lB_E, dcG_none lB_dec]
  have B911 : Hid (Below W9.heap.size W9 w11) := B10.out.trans (b11.mono B10.out.size)
  obtain ⟨F, hF⟩ : ∃ F, w11.heap.size = F := ⟨_, rfl⟩
  obtain ⟨W12, hW12⟩ : ∃ W12, w11.alloc (.cells #[.int .i64 0, .slice none 0 0] 24) = W12 := ⟨_, rfl⟩
  have r12 : Row W12 F 24 [.int .i64 0, .slice none 0 0] := by rw [← hW12, ← hF]; exact Row.new _ _ _
  have b12 : Below w11.heap.size w11 W12 := by rw [← hW12]; exact (Below.refl _ _).alloc (Nat.le_refl _) _
  obtain ⟨W13, hW13⟩ : ∃ W13, (W12.setCell ⟨F, 0, none⟩ (.int .i64 0)).setCell ⟨F, 1, none⟩ (.slice ha hn hc) = W13 := ⟨_, rfl⟩
  have b13 : Below w11.heap.size w11 W13 := by rw [← hW13]; exact (b12.setCell (by rw [hF]; exact Nat.le_refl F) _).setCell (by rw [hF]; exact Nat.le_refl F) _
  have B913 : Hid (Below W9.heap.size W9 W13) := B911.out.trans (b13.mono B911.out.size)
  have B713 : Hid (Below w7.heap.size w7 W13) := B9.out.trans (B913.out.mono B9.out.size)
  have DC3 := Lib.hid (decode_any (w := W13) (k := 0) (GG.out.below (BW7.out.trans (B713.out.mono BW7.out.size))) (ints_nil _) (by intro x hx; cases hx) (by decide))
  have z0 := r12.cell (i := 0) rfl; have z1 := r12.cell (i := 1) rfl; have zf0 := r12.fr (i := 0); have zf1 := r12.fr (i := 1)
  clear b11 r12 b12 b13 DC2
  go_wp2_with fail
  refine DC3.out.mono ?_; rintro e w14 ⟨ja, jn, jc, rfl, _, b14⟩
  rw [l0_E, dcG_none (dec_kind (by decide))]
  have B914 : Hid (Below W9.heap.size W9 w14) := B913.out.trans (b14.mono B913.out.size)
  obtain ⟨H, hH⟩ : ∃ H, w14.heap.size = H := ⟨_, rfl⟩
  obtain ⟨W15, hW15⟩ : ∃ W15, w14.alloc (.cells #[.int .i64 0, .slice none 0 0] 24) = W15 := ⟨_, rfl⟩
  have r15 : Row W15 H 24 [.int .i64 0, .slice none 0 0] := by rw [← hW15, ← hH]; exact Row.new _ _ _
  have b15 : Below w14.heap.size w14 W15 := by rw [← hW15]; exact (Below.refl _ _).alloc (Nat.le_refl _) _
  obtain ⟨W16, hW16⟩ : ∃ W16, (W15.setCell ⟨H, 0, none⟩ (.int .i64 0)).setCell ⟨H, 1, none⟩ (.slice ja jn jc) = W16 := ⟨_, rfl⟩
  have b16 : Below w14.heap.size w14 W16 := by rw [← hW16]; exact (b15.setCell (by rw [hH]; exact Nat.le_refl H) _).setCell (by rw [hH]; exact Nat.le_refl H) _
  obtain ⟨J, hJ⟩ : ∃ J, W16.heap.size = J := ⟨_, rfl⟩
  obtain ⟨W17, hW17⟩ : ∃ W17, W16.alloc (.cells #[.int .i64 9, .int .i64 4, .int .i64 6, .int .i64 10, .int .i64 4, .int .i64 3] 3) = W17 := ⟨_, rfl⟩
  have I17 : Hid (IntsAt W17 (.slice (some ⟨J, 0, none⟩) 6 6) lL) := by show IntsAt _ _ _; rw [← hW17, ← hJ]; exact ints_new (l := lL) rfl
  have b17 : Below W16.heap.size W16 W17 := by rw [← hW17]; exact (Below.refl _ _).alloc (Nat.le_refl _) _
  have B917 : Hid (Below W9.heap.size W9 W17) := B914.out.trans ((b16.trans (b17.mono b16.size)).mono B914.out.size)
  have B717 : Hid (Below w7.heap.size w7 W17) := B9.out.trans (B917.out.mono B9.out.size)
  have B517 : Hid (Below w5.heap.size w5 W17) := B57.out.trans (B717.out.mono B57.out.size)
  have B417 : Hid (Below W4.heap.size W4 W17) := B5.out.trans (B517.out.mono B5.out.size)
  have EQ0 := equal_any (HU.out.below B517.out) I17.out (by decide) (by decide)
  rw [show decide (lL = lL) = true from decide_eq_true rfl] at EQ0
  have EQ := Lib.hid EQ0
  clear EQ0
  have z0 := r15.cell (i := 0) rfl; have z1 := r15.cell (i := 1) rfl; have zf0 := r15.fr (i := 0); have zf1 := r15.fr (i := 1)
  clear b14 r15 b15 b16 b17 DC3
  go_wp2_with fail
  refine EQ.out.mono ?_; rintro e w18 ⟨rfl, qn, hw18⟩
  have bq : Below W17.heap.size W17 w18 := by rw [hw18]; exact below_drewN (Below.refl _ _) qn
  have B418 : Hid (Below W4.heap.size W4 w18) := B417.out.trans (bq.mono B417.out.size)
  have B918 : Hid (Below W9.heap.size W9 w18) := B917.out.trans (bq.mono B917.out.size)
  have B718 : Hid (Below w7.heap.size w7 w18) := B9.out.trans (B918.out.mono B9.out.size)
  have r4 := R4.out.below B418.out R4.out.lt
  have r9 := R9.out.below B918.out R9.out.lt
  have x0 := r4.cell (i := 0) rfl; have x1 := r4.cell (i := 1) rfl; have x2 := r9.cell (i := 0) rfl; have x3 := r9.cell (i := 1) rfl
  have SM0 := same_any (k := 2) (k' := 2) (RW4.out.below B418.out) (GR.out.below B718.out) (by decide) (by decide)
  rw [show decide ((2 : Int) = 2 ∧ lG = lG) = true from decide_eq_true ⟨rfl, rfl⟩] at SM0
  have SM := Lib.hid SM0
  clear SM0
  clear bq hw18 EQ z0 z1 zf0 zf1 r4 r9
  go_wp2_with fail
  refine SM.out.mono ?_; rintro e w19 ⟨rfl, b19⟩
  have B419 : Hid (Below W4.heap.size W4 w19) := B418.out.trans (b19.mono B418.out.size)
  have r4 := R4.out.below B419.out R4.out.lt
  have x0 := r4.cell (i := 0) rfl; have x1 := r4.cell (i := 1) rfl
  have CK := Lib.hid (check_any (k := 2) (RW4.out.below B419.out) (by decide))
  rw [lG_chk] at CK
  clear b19 SM x2 x3 r4
  go_wp2_with fail
  refine CK.out.mono ?_; rintro e w20 ⟨rfl, b20⟩
  have B420 : Hid (Below W4.heap.size W4 w20) := B419.out.trans (b20.mono B419.out.size)
  have CK2 := Lib.hid (check_any (k := 3) (rows_nil w20) (by decide))
  rw [l3_chk] at CK2
  clear b20 CK x0 x1
  go_wp2_with fail
  refine CK2.out.mono ?_; rintro e w21 ⟨rfl, b21⟩
  have BF : Hid (Below w.heap.size w w21) := B4.out.trans ((B420.out.trans (b21.mono B420.out.size)).mono B4.out.size)
  clear b21 CK2
  go_wp2_with fail
  go_ret
  exact ⟨rfl, BF.out⟩
end Go.Proofs.YthlbenldgnjgcaaDoor
