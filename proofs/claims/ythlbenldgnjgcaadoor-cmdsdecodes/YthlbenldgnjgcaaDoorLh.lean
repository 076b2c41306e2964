/- cmds: the reference's part. -/
import Derived.Test.YthlbenldgnjgcaaDoorLg
import Derived.Laws.AppendOwnNone
namespace Go.Proofs.YthlbenldgnjgcaaDoor
open Go.ChangeShapes Go.WideShapes Go.ChangeAt Go.RowKit Go.Joins Go.Deep

def RtPost (w0 w : World) (k : Int) (s : RS) (e : Ending) (w' : World) : Prop :=
  ∃ (a : Option Addr) (n cap : Nat) (ua : Option Addr) (um uc : Nat), e = .returned (.tuple #[rv (.slice a n cap) (rpart k s).1.2.1 (rpart k s).1.2.2, .slice ua um uc]) ∧ IntsAt w0 (.slice a n cap) (rpart k s).1.1 ∧ POwn w' w.heap.size (.slice ua um uc) (rpart k s).2 ∧ Below w.heap.size w w'
theorem rpart_bad {k : Int} {s : RS} {a : RS × Int} {b : RS × List Pt} {c : RS × Int} (h1 : rn s = a) (h2 : rp 1 [] a.1 = b) (h3 : rn b.1 = c) (h : ¬ (a.2 = 9 ∧ c.2 % 8 = 2)) : rpart k s = (rbad, []) := by
  unfold rpart; dsimp only; rw [h1, h2, h3, if_neg h]
theorem rpart_two {k : Int} {s : RS} {a : RS × Int} {b : RS × List Pt} {c : RS × Int} {d : RS × List Pt} {M : Nat} (h1 : rn s = a) (h2 : rp 1 [] a.1 = b) (h3 : rn b.1 = c) (h : a.2 = 9 ∧ c.2 % 8 = 2) (hM : (c.2 / 8).toNat = M) (h4 : rp M [] c.1 = d) (hk : k ≠ 3) : rpart k s = (d.1, b.2 ++ d.2) := by
  unfold rpart; dsimp only; rw [h1, h2, h3, if_pos h, if_neg hk, hM, h4]
theorem rpart_bad3 {s : RS} {a : RS × Int} {b : RS × List Pt} {c : RS × Int} {d : RS × List Pt} {e : RS × Int} {M : Nat} (h1 : rn s = a) (h2 : rp 1 [] a.1 = b) (h3 : rn b.1 = c) (h : a.2 = 9 ∧ c.2 % 8 = 2) (hM : (c.2 / 8).toNat = M) (h4 : rp M [] c.1 = d) (h5 : rn d.1 = e) (he : e.2 ≠ 15) : rpart 3 s = (rbad, []) := by
  unfold rpart; dsimp only; rw [h1, h2, h3, if_pos h, if_pos rfl, hM, h4, h5, if_neg he]
theorem rpart_three {s : RS} {a : RS × Int} {b : RS × List Pt} {c : RS × Int} {d : RS × List Pt} {e : RS × Int} {M : Nat} (h1 : rn s = a) (h2 : rp 1 [] a.1 = b) (h3 : rn b.1 = c) (h : a.2 = 9 ∧ c.2 % 8 = 2) (hM : (c.2 / 8).toNat = M) (h4 : rp M [] c.1 = d) (h5 : rn d.1 = e) (he : e.2 = 15) : rpart 3 s = (e.1, b.2 ++ d.2) := by
  unfold rpart; dsimp only; rw [h1, h2, h3, if_pos h, if_pos rfl, hM, h4, h5, if_pos he]
theorem rp_one {s : RS} (h : s.2.2 = false) : (rp 1 [] s).2.length = 1 := by rw [rp, if_neg (by rw [h]; decide)]; rfl
theorem rp_len : ∀ (n : Nat) (acc : List Pt) (s : RS), (rp n acc s).2.length ≤ acc.length + n
  | 0, acc, s => by rw [rp]; simp
  | n + 1, acc, s => by
    rw [rp]
    split
    · simp
    · have := rp_len n (acc ++ [rstep s]) (rnext s)
      rw [List.length_append] at this; simp at this ⊢; omega
set_option maxRecDepth 100000 in
set_option maxHeartbeats 8000000 in
theorem rpart_w2 {w0 w : World} {v : Value} {s : RS} {k : Int} (hk : k ≠ 3) (b0 : Below w0.heap.size w0 w) (h : IntsAt w0 v s.1) (hl : s.1.length ≤ 1000000) (hf : s.2.2 = false) : Calls Tryd.prog 30 #[rv v s.2.1 s.2.2, .int .i64 k] w (RtPost w0 w k s) := by
  obtain ⟨i0, hi0, hz0, hz1, hz2⟩ := info_parts info44
  have II := Lib.hid hi0; have Z0 := Lib.hid hz0; have Z1 := Lib.hid hz1; have Z2 := Lib.hid hz2
  clear hi0 hz0 hz1 hz2
  have HI := Lib.hid h; have HL := Lib.hid hl; have B0 := Lib.hid b0; have HF := Lib.hid hf
  obtain ⟨ar, cr, hv⟩ := h.form
  subst hv
  obtain ⟨r, ⟨px, py⟩, fl⟩ := s
  dsimp only at *
  obtain ⟨nr, hnr⟩ : ∃ nr, r.length = nr := ⟨_, rfl⟩
  rw [hnr] at HI
  rw [hnr]
  obtain ⟨A, hA⟩ : ∃ A, w.heap.size = A := ⟨_, rfl⟩
  obtain ⟨W1, hW1⟩ : ∃ W1, w.alloc (.cells #[.slice ar nr cr, .int .i64 px, .int .i64 py, .bool fl] 65) = W1 := ⟨_, rfl⟩
  have r1 : Row W1 A 65 [.slice ar nr cr, .int .i64 px, .int .i64 py, .bool fl] := by rw [← hW1, ← hA]; exact Row.new _ _ _
  have b1 : Below w.heap.size w W1 := by rw [← hW1]; exact (Below.refl _ _).alloc (Nat.le_refl _) _
  obtain ⟨B, hB⟩ : ∃ B, W1.heap.size = B := ⟨_, rfl⟩
  obtain ⟨W2, hW2⟩ : ∃ W2, W1.alloc (.cells #[.slice none 0 0, .int .i64 0, .int .i64 0, .bool false] 65) = W2 := ⟨_, rfl⟩
  have r2 : Row W2 B 65 [.slice none 0 0, .int .i64 0, .int .i64 0, .bool false] := by rw [← hW2, ← hB]; exact Row.new _ _ _
  have b2 : Below W1.heap.size W1 W2 := by rw [← hW2]; exact (Below.refl _ _).alloc (Nat.le_refl _) _
  have r12 := r1.below b2 r1.lt
  have q0 := r12.cell (i := 0) rfl; have q1 := r12.cell (i := 1) rfl; have q2 := r12.cell (i := 2) rfl; have q3 := r12.cell (i := 3) rfl
  have RB2 := Lib.hid r2
  have BB := Lib.hid (b1.trans (b2.mono b1.size))
  have OA : Hid (A < B ∧ B < W2.heap.size ∧ w.heap.size ≤ A) := ⟨by rw [← hB]; exact r1.lt, r2.lt, by omega⟩
  have BW2 : Hid (Below w0.heap.size w0 W2) := B0.out.trans (BB.out.mono B0.out.size)
  have NX := Lib.hid (rnext_any (s := (r, (px, py), fl)) BW2.out HI.out HL.out)
  obtain ⟨⟨⟨t1, ⟨ax, ay⟩, fa⟩, x⟩, hn1⟩ : ∃ z, rn (r, (px, py), fl) = z := ⟨_, rfl⟩
  obtain ⟨⟨⟨t2, ⟨bx, by'⟩, fb⟩, l1⟩, hp1⟩ : ∃ z, rp 1 [] (t1, (ax, ay), fa) = z := ⟨_, rfl⟩
  obtain ⟨⟨⟨t3, ⟨cx, cy⟩, fc⟩, y⟩, hn2⟩ : ∃ z, rn (t2, (bx, by'), fb) = z := ⟨_, rfl⟩
  have le1 := rn_le (r, (px, py), fl); have le2 := rp_le 1 [] (t1, (ax, ay), fa); have le3 := rn_le (t2, (bx, by'), fb)
  rw [hn1] at le1; rw [hp1] at le2; rw [hn2] at le3
  dsimp only at le1 le2 le3
  have L1 : Hid (t1.length ≤ 1000000) := by have := HL.out; show _ ≤ _; omega
  have L2 : Hid (t2.length ≤ 1000000) := by have := L1.out; show _ ≤ _; omega
  have L3 : Hid (t3.length ≤ 1000000) := by have := L2.out; show _ ≤ _; omega
  have HY : Hid (0 ≤ y ∧ y ≤ 100000) := le3.2
  have N1 := Lib.hid hn1; have P1 := Lib.hid hp1; have N2 := Lib.hid hn2
  have HL1 : Hid (x = 9 → l1.length = 1) := fun hx => by
    obtain ⟨t, _, e2, _⟩ := rn_pos (s := (r, (px, py), fl)) (by rw [N1.out]; dsimp only; rw [hx]; decide)
    rw [N1.out] at e2
    dsimp only at e2
    injection e2 with _ e3
    injection e3 with _ e4
    have := rp_one (s := (t1, (ax, ay), fa)) (by dsimp only; rw [e4]; exact HF.out)
    rw [P1.out] at this; exact this
  unfold RnPost at NX
  rw [hn1] at NX
  dsimp only at NX
  clear r1 b1 r2 b2 r12 h hl b0 hnr hn1 hp1 hn2 le1 le2 le3 hf
  go_enter Tryd.func30, Tryd.ntmps30
  go_wp2_with fail
  refine NX.out.mono ?_; rintro e w3 ⟨a1, n1, c1, rfl, i1, b3⟩
  have I1 := Lib.hid i1; have B3 := Lib.hid b3
  obtain ⟨C, hC⟩ : ∃ C, w3.heap.size = C := ⟨_, rfl⟩
  obtain ⟨W4, hW4⟩ : ∃ W4, w3.alloc (.cells #[.slice none 0 0, .int .i64 0, .int .i64 0, .bool false] 65) = W4 := ⟨_, rfl⟩
  have rW4 : Row W4 C 65 [.slice none 0 0, .int .i64 0, .int .i64 0, .bool false] := by rw [← hW4, ← hC]; exact Row.new _ _ _
  have bW4 : Below w3.heap.size w3 W4 := by rw [← hW4]; exact (Below.refl _ _).alloc (Nat.le_refl _) _
  obtain ⟨W5, hW5⟩ : ∃ W5, (((W4.setCell ⟨C, 0, none⟩ (.slice a1 n1 c1)).setCell ⟨C, 1, none⟩ (.int .i64 ax)).setCell ⟨C, 2, none⟩ (.int .i64 ay)).setCell ⟨C, 3, none⟩ (.bool fa) = W5 := ⟨_, rfl⟩
  have rW5 : Row W5 C 65 [.slice a1 n1 c1, .int .i64 ax, .int .i64 ay, .bool fa] := by rw [← hW5]; exact (((rW4.set (i := 0) _).set (i := 1) _).set (i := 2) _).set (i := 3) _
  have bW5 : Below w3.heap.size w3 W5 := by
    have lo : w3.heap.size ≤ C := by rw [hC]; exact Nat.le_refl _
    rw [← hW5]; exact (((bW4.setCell lo _).setCell lo _).setCell lo _).setCell lo _
  have z0C := rW4.cell (i := 0) rfl; have z1C := rW4.cell (i := 1) rfl; have z2C := rW4.cell (i := 2) rfl; have z3C := rW4.cell (i := 3) rfl
  have zf0C := rW4.fr (i := 0); have zf1C := rW4.fr (i := 1); have zf2C := rW4.fr (i := 2); have zf3C := rW4.fr (i := 3)
  have B5 : Hid (Below W2.heap.size W2 W5) := B3.out.trans (bW5.mono B3.out.size)
  have PO0 := rpoints_any (w := W5) (s := (t1, (ax, ay), fa)) (N := 1) (BW2.out.trans (B5.out.mono BW2.out.size)) I1.out L1.out (by decide)
  unfold RpPost at PO0
  rw [P1.out] at PO0
  dsimp only at PO0
  have PO := Lib.hid PO0
  have y0 := rW5.cell (i := 0) rfl; have y1 := rW5.cell (i := 1) rfl; have y2 := rW5.cell (i := 2) rfl; have y3 := rW5.cell (i := 3) rfl
  clear i1 b3 NX PO0 rW4 bW4 rW5 bW5 q0 q1 q2 q3
  go_wp2_with fail
  refine PO.out.mono ?_; rintro e w6 ⟨a2, n2, c2, u1, rfl, i2, o1, _, b6⟩
  have I2 := Lib.hid i2; have B6 := Lib.hid b6
  obtain ⟨ua1, uc1, hu1⟩ := POwn.form o1
  obtain ⟨m1, hm1⟩ : ∃ m1, l1.length = m1 := ⟨_, rfl⟩
  rw [hm1] at hu1
  subst hu1
  have O1 := Lib.hid o1; have HM1 := Lib.hid hm1
  obtain ⟨D, hD⟩ : ∃ D, w6.heap.size = D := ⟨_, rfl⟩
  obtain ⟨W7, hW7⟩ : ∃ W7, w6.alloc (.cells #[.slice none 0 0, .int .i64 0, .int .i64 0, .bool false] 65) = W7 := ⟨_, rfl⟩
  have rW7 : Row W7 D 65 [.slice none 0 0, .int .i64 0, .int .i64 0, .bool false] := by rw [← hW7, ← hD]; exact Row.new _ _ _
  have bW7 : Below w6.heap.size w6 W7 := by rw [← hW7]; exact (Below.refl _ _).alloc (Nat.le_refl _) _
  obtain ⟨W8, hW8⟩ : ∃ W8, (((W7.setCell ⟨D, 0, none⟩ (.slice a2 n2 c2)).setCell ⟨D, 1, none⟩ (.int .i64 bx)).setCell ⟨D, 2, none⟩ (.int .i64 by')).setCell ⟨D, 3, none⟩ (.bool fb) = W8 := ⟨_, rfl⟩
  have rW8 : Row W8 D 65 [.slice a2 n2 c2, .int .i64 bx, .int .i64 by', .bool fb] := by rw [← hW8]; exact (((rW7.set (i := 0) _).set (i := 1) _).set (i := 2) _).set (i := 3) _
  have bW8 : Below w6.heap.size w6 W8 := by
    have lo : w6.heap.size ≤ D := by rw [hD]; exact Nat.le_refl _
    rw [← hW8]; exact (((bW7.setCell lo _).setCell lo _).setCell lo _).setCell lo _
  have z0D := rW7.cell (i := 0) rfl; have z1D := rW7.cell (i := 1) rfl; have z2D := rW7.cell (i := 2) rfl; have z3D := rW7.cell (i := 3) rfl
  have zf0D := rW7.fr (i := 0); have zf1D := rW7.fr (i := 1); have zf2D := rW7.fr (i := 2); have zf3D := rW7.fr (i := 3)
  have B8 : Hid (Below W2.heap.size W2 W8) := B5.out.trans ((B6.out.trans (bW8.mono B6.out.size)).mono B5.out.size)
  have B68 := Lib.hid bW8
  have NX0 := rnext_any (w := W8) (s := (t2, (bx, by'), fb)) (BW2.out.trans (B8.out.mono BW2.out.size)) I2.out L2.out
  unfold RnPost at NX0
  rw [N2.out] at NX0
  dsimp only at NX0
  have NX := Lib.hid NX0
  have y0 := rW8.cell (i := 0) rfl; have y1 := rW8.cell (i := 1) rfl; have y2 := rW8.cell (i := 2) rfl; have y3 := rW8.cell (i := 3) rfl
  clear i2 o1 hm1 b6 PO NX0 rW7 bW7 rW8 bW8
  go_wp2_with fail
  refine NX.out.mono ?_; rintro e w9 ⟨a3, n3, c3, rfl, i3, b9⟩
  have I3 := Lib.hid i3; have B9 := Lib.hid b9
  obtain ⟨E, hE⟩ : ∃ E, w9.heap.size = E := ⟨_, rfl⟩
  obtain ⟨W10, hW10⟩ : ∃ W10, w9.alloc (.cells #[.slice none 0 0, .int .i64 0, .int .i64 0, .bool false] 65) = W10 := ⟨_, rfl⟩
  have rW10 : Row W10 E 65 [.slice none 0 0, .int .i64 0, .int .i64 0, .bool false] := by rw [← hW10, ← hE]; exact Row.new _ _ _
  have bW10 : Below w9.heap.size w9 W10 := by rw [← hW10]; exact (Below.refl _ _).alloc (Nat.le_refl _) _
  obtain ⟨W11, hW11⟩ : ∃ W11, (((W10.setCell ⟨E, 0, none⟩ (.slice a3 n3 c3)).setCell ⟨E, 1, none⟩ (.int .i64 cx)).setCell ⟨E, 2, none⟩ (.int .i64 cy)).setCell ⟨E, 3, none⟩ (.bool fc) = W11 := ⟨_, rfl⟩
  have rW11 : Row W11 E 65 [.slice a3 n3 c3, .int .i64 cx, .int .i64 cy, .bool fc] := by rw [← hW11]; exact (((rW10.set (i := 0) _).set (i := 1) _).set (i := 2) _).set (i := 3) _
  have bW11 : Below w9.heap.size w9 W11 := by
    have lo : w9.heap.size ≤ E := by rw [hE]; exact Nat.le_refl _
    rw [← hW11]; exact (((bW10.setCell lo _).setCell lo _).setCell lo _).setCell lo _
  have z0E := rW10.cell (i := 0) rfl; have z1E := rW10.cell (i := 1) rfl; have z2E := rW10.cell (i := 2) rfl; have z3E := rW10.cell (i := 3) rfl
  have zf0E := rW10.fr (i := 0); have zf1E := rW10.fr (i := 1); have zf2E := rW10.fr (i := 2); have zf3E := rW10.fr (i := 3)
  have B11 : Hid (Below W2.heap.size W2 W11) := B8.out.trans ((B9.out.trans (bW11.mono B9.out.size)).mono B8.out.size)
  have B611 : Hid (Below w6.heap.size w6 W11) := B68.out.trans ((B9.out.trans (bW11.mono B9.out.size)).mono B68.out.size)
  have BX11 : Hid (Below w.heap.size w W11) := BB.out.trans (B11.out.mono BB.out.size)
  have RB11 := Lib.hid (RB2.out.below B11.out OA.out.2.1)
  have y0 := rW11.cell (i := 0) rfl; have y1 := rW11.cell (i := 1) rfl; have y2 := rW11.cell (i := 2) rfl; have y3 := rW11.cell (i := 3) rfl
  obtain ⟨ym, hym⟩ : ∃ ym, Int.tmod y 8 = ym := ⟨_, rfl⟩
  have HYM : Hid (ym = y % 8) := by have := HY.out; show _ = _; rw [← hym, Int.tmod_eq_emod_of_nonneg (by omega)]
  have wym : IntKind.i64.wrap ym = ym := by have := HYM.out; rw [IntKind.wrap_i64]; omega
  clear i3 b9 NX rW10 bW10 rW11 bW11
  by_cases hx : x = 9
  rotate_left 1
  · have xb : (x != 9) = true := by simpa using hx
    have RP := Lib.hid (rpart_bad (k := k) N1.out P1.out N2.out (fun hh => hx hh.1))
    clear hx
    have g0 := RB11.out.cell (i := 0) rfl; have g1 := RB11.out.cell (i := 1) rfl; have g2 := RB11.out.cell (i := 2) rfl; have g3 := RB11.out.cell (i := 3) rfl
    have gf0 := RB11.out.fr (i := 0); have gf1 := RB11.out.fr (i := 1); have gf2 := RB11.out.fr (i := 2); have gf3 := RB11.out.fr (i := 3)
    obtain ⟨WZ, hWZ⟩ : ∃ WZ, (((W11.setCell ⟨B, 0, none⟩ (.slice none 0 0)).setCell ⟨B, 1, none⟩ (.int .i64 0)).setCell ⟨B, 2, none⟩ (.int .i64 0)).setCell ⟨B, 3, none⟩ (.bool true) = WZ := ⟨_, rfl⟩
    have rWZ : Row WZ B 65 [.slice none 0 0, .int .i64 0, .int .i64 0, .bool true] := by rw [← hWZ]; exact (((RB11.out.set (i := 0) _).set (i := 1) _).set (i := 2) _).set (i := 3) _
    have g0 := rWZ.cell (i := 0) rfl; have g1 := rWZ.cell (i := 1) rfl; have g2 := rWZ.cell (i := 2) rfl; have g3 := rWZ.cell (i := 3) rfl
    have BZ : Hid (Below w.heap.size w WZ) := by
      have lo : w.heap.size ≤ B := by have := OA.out; omega
      show Below _ _ _; rw [← hWZ]; exact (((BX11.out.setCell lo _).setCell lo _).setCell lo _).setCell lo _
    clear rWZ
    go_wp2_with fail
    refine bodyPost_ret (by simp [results, Tryd.results30, go_sem, g0, g1, g2, g3]; rfl) rfl ?_
    exact ⟨none, 0, 0, none, 0, 0, by rw [RP.out]; rfl, by rw [RP.out]; exact ints_nil _, by rw [RP.out]; exact World.ownsRow_nil _ _ _ _, BZ.out⟩
  have xb : (x != 9) = false := by simpa using hx
  by_cases hy : ym = 2
  rotate_left 1
  · have yb : (ym != 2) = true := by simpa using hy
    have RP := Lib.hid (rpart_bad (k := k) N1.out P1.out N2.out (fun hh => hy (by rw [HYM.out]; exact hh.2)))
    clear hx hy
    have g0 := RB11.out.cell (i := 0) rfl; have g1 := RB11.out.cell (i := 1) rfl; have g2 := RB11.out.cell (i := 2) rfl; have g3 := RB11.out.cell (i := 3) rfl
    have gf0 := RB11.out.fr (i := 0); have gf1 := RB11.out.fr (i := 1); have gf2 := RB11.out.fr (i := 2); have gf3 := RB11.out.fr (i := 3)
    obtain ⟨WZ, hWZ⟩ : ∃ WZ, (((W11.setCell ⟨B, 0, none⟩ (.slice none 0 0)).setCell ⟨B, 1, none⟩ (.int .i64 0)).setCell ⟨B, 2, none⟩ (.int .i64 0)).setCell ⟨B, 3, none⟩ (.bool true) = WZ := ⟨_, rfl⟩
    have rWZ : Row WZ B 65 [.slice none 0 0, .int .i64 0, .int .i64 0, .bool true] := by rw [← hWZ]; exact (((RB11.out.set (i := 0) _).set (i := 1) _).set (i := 2) _).set (i := 3) _
    have g0 := rWZ.cell (i := 0) rfl; have g1 := rWZ.cell (i := 1) rfl; have g2 := rWZ.cell (i := 2) rfl; have g3 := rWZ.cell (i := 3) rfl
    have BZ : Hid (Below w.heap.size w WZ) := by
      have lo : w.heap.size ≤ B := by have := OA.out; omega
      show Below _ _ _; rw [← hWZ]; exact (((BX11.out.setCell lo _).setCell lo _).setCell lo _).setCell lo _
    clear rWZ
    go_wp2_with fail
    refine bodyPost_ret (by simp [results, Tryd.results30, go_sem, g0, g1, g2, g3]; rfl) rfl ?_
    exact ⟨none, 0, 0, none, 0, 0, by rw [RP.out]; rfl, by rw [RP.out]; exact ints_nil _, by rw [RP.out]; exact World.ownsRow_nil _ _ _ _, BZ.out⟩
  have yb : (ym != 2) = false := by simpa using hy
  have CC : Hid (x = 9 ∧ y % 8 = 2) := ⟨hx, by rw [← HYM.out]; exact hy⟩
  have M1 : Hid (m1 = 1) := by have := HL1.out hx; rw [HM1.out] at this; exact this
  obtain ⟨M, hM⟩ : ∃ M : Nat, (y / 8).toNat = M := ⟨_, rfl⟩
  have hq : Int.tdiv y 8 = (M : Int) := by have := HY.out; rw [Int.tdiv_eq_ediv_of_nonneg (by omega)]; omega
  have wq : IntKind.i64.wrap (M : Int) = (M : Int) := by have := HY.out; rw [IntKind.wrap_i64]; omega
  have MB : Hid (M ≤ 100000) := by have := HY.out; show _ ≤ _; omega
  have HMM := Lib.hid hM
  obtain ⟨⟨⟨t4, ⟨dx, dy⟩, fd⟩, l2⟩, hp2⟩ : ∃ z, rp M [] (t3, (cx, cy), fc) = z := ⟨_, rfl⟩
  have P2 := Lib.hid hp2
  have le4 := rp_le M [] (t3, (cx, cy), fc); have le5 := rp_len M [] (t3, (cx, cy), fc)
  rw [hp2] at le4 le5
  dsimp only at le4 le5
  have L4 : Hid (t4.length ≤ 1000000) := by have := L3.out; show _ ≤ _; omega
  have LL2 : Hid (l2.length ≤ 100000) := by have := MB.out; simp at le5; show _ ≤ _; omega
  have PO0 := rpoints_any (w := W11) (s := (t3, (cx, cy), fc)) (N := M) (BW2.out.trans (B11.out.mono BW2.out.size)) I3.out L3.out MB.out
  unfold RpPost at PO0
  rw [hp2] at PO0
  dsimp only at PO0
  have PO := Lib.hid PO0
  clear hx hy hM hp2 le4 le5 PO0
  go_wp2_with fail
  refine PO.out.mono ?_; rintro e w12 ⟨a4, n4, c4, u2, rfl, i4, o2, ho2, b12⟩
  have I4 := Lib.hid i4; have B12 := Lib.hid b12
  obtain ⟨ua2, uc2, hu2⟩ := POwn.form o2
  obtain ⟨m2, hm2⟩ : ∃ m2, l2.length = m2 := ⟨_, rfl⟩
  rw [hm2] at hu2
  subst hu2
  have O2 := Lib.hid o2; have HO2 := Lib.hid ho2; have HM2 := Lib.hid hm2
  obtain ⟨F, hF⟩ : ∃ F, w12.heap.size = F := ⟨_, rfl⟩
  obtain ⟨W13, hW13⟩ : ∃ W13, w12.alloc (.cells #[.slice none 0 0, .int .i64 0, .int .i64 0, .bool false] 65) = W13 := ⟨_, rfl⟩
  have rW13 : Row W13 F 65 [.slice none 0 0, .int .i64 0, .int .i64 0, .bool false] := by rw [← hW13, ← hF]; exact Row.new _ _ _
  have bW13 : Below w12.heap.size w12 W13 := by rw [← hW13]; exact (Below.refl _ _).alloc (Nat.le_refl _) _
  obtain ⟨W14, hW14⟩ : ∃ W14, (((W13.setCell ⟨F, 0, none⟩ (.slice a4 n4 c4)).setCell ⟨F, 1, none⟩ (.int .i64 dx)).setCell ⟨F, 2, none⟩ (.int .i64 dy)).setCell ⟨F, 3, none⟩ (.bool fd) = W14 := ⟨_, rfl⟩
  have rW14 : Row W14 F 65 [.slice a4 n4 c4, .int .i64 dx, .int .i64 dy, .bool fd] := by rw [← hW14]; exact (((rW13.set (i := 0) _).set (i := 1) _).set (i := 2) _).set (i := 3) _
  have bW14 : Below w12.heap.size w12 W14 := by
    have lo : w12.heap.size ≤ F := by rw [hF]; exact Nat.le_refl _
    rw [← hW14]; exact (((bW13.setCell lo _).setCell lo _).setCell lo _).setCell lo _
  have z0F := rW13.cell (i := 0) rfl; have z1F := rW13.cell (i := 1) rfl; have z2F := rW13.cell (i := 2) rfl; have z3F := rW13.cell (i := 3) rfl
  have zf0F := rW13.fr (i := 0); have zf1F := rW13.fr (i := 1); have zf2F := rW13.fr (i := 2); have zf3F := rW13.fr (i := 3)
  have B14 : Hid (Below W2.heap.size W2 W14) := B11.out.trans ((B12.out.trans (bW14.mono B12.out.size)).mono B11.out.size)
  have B614 : Hid (Below w6.heap.size w6 W14) := B611.out.trans ((B12.out.trans (bW14.mono B12.out.size)).mono B611.out.size)
  have B1214 := Lib.hid bW14
  have RF := Lib.hid rW14
  have y0 := rW14.cell (i := 0) rfl; have y1 := rW14.cell (i := 1) rfl; have y2 := rW14.cell (i := 2) rfl; have y3 := rW14.cell (i := 3) rfl
  clear i4 o2 ho2 hm2 b12 PO rW13 bW13 rW14 bW14 hym wym hq wq
  have kb : (k == 3) = false := by simpa using hk
  have RP := Lib.hid (rpart_two (k := k) N1.out P1.out N2.out CC.out HMM.out P2.out hk)
  dsimp only at RP
  have RFX := RF; have BCX := B14; have B6X := B614; have B12X := B1214; have IX := I4
  have hm1 := M1.out
  subst hm1
  have o1c : POwn W14 W5.heap.size (.slice ua1 1 uc1) l1 := POwn.same O1.out (fun g e => B6X.out.block g (pown_base O1.out g e).2)
  unfold POwn at o1c
  rw [HM1.out] at o1c
  obtain ⟨g1, gc1, hg1, ce1⟩ := own_cells o1c (by decide)
  injection hg1 with hg1 hg2 hg3
  subst hg1; subst hg3
  have CE1 := Lib.hid ce1
  have O2C : Hid (POwn W14 W11.heap.size (.slice ua2 m2 uc2) l2) := POwn.same O2.out (fun g e => B12X.out.block g (pown_base O2.out g e).2)
  have HLL : Hid (m2 ≤ 100000) := by have := LL2.out; have := HM2.out; show _ ≤ _; omega
  have QB : Hid (W2.heap.size ≤ W14.heap.size) := BCX.out.size
  clear o1c ce1
  by_cases hl2 : l2 = []
  · have hu2 := HO2.out hl2
    injection hu2 with hu2 hu3 hu4
    subst hu2; subst hu3; subst hu4
    go_wp2_with (first | (at_builtin; refine wpList_append_own_none rfl _ _ 42 rfl W14.heap.size 44 i0 2 Tryd.underlying42 II.out (.slice a20 (0 + 1) c20) (0 + 1) ([] ++ pcs l1) rfl E20.out rfl ?_; have BF : Hid (Below W14.heap.size W14 w20) := ⟨G20.out.os, G20.out.tape, G20.out.output, G20.out.size, fun g hg => G20.out.block g hg (by intro e; cases e)⟩; have BFX : Hid (Below W2.heap.size W2 w20) := BCX.out.trans (BF.out.mono QB.out); have RFL := Lib.hid (RFX.out.below BF.out RFX.out.lt); have RBL := Lib.hid (RB2.out.below BFX.out OA.out.2.1); have u0 := RFL.out.cell (i := 0) rfl; have u1 := RFL.out.cell (i := 1) rfl; have u2 := RFL.out.cell (i := 2) rfl; have u3 := RFL.out.cell (i := 3) rfl; have gg0 := RBL.out.cell (i := 0) rfl; have gg1 := RBL.out.cell (i := 1) rfl; have gg2 := RBL.out.cell (i := 2) rfl; have gg3 := RBL.out.cell (i := 3) rfl; have gf0 := RBL.out.fr (i := 0); have gf1 := RBL.out.fr (i := 1); have gf2 := RBL.out.fr (i := 2); have gf3 := RBL.out.fr (i := 3); obtain ⟨WZ, hWZ⟩ : ∃ WZ, (((w20.setCell ⟨B, 0, none⟩ (.slice a4 n4 c4)).setCell ⟨B, 1, none⟩ (.int .i64 dx)).setCell ⟨B, 2, none⟩ (.int .i64 dy)).setCell ⟨B, 3, none⟩ (.bool fd) = WZ := ⟨_, rfl⟩; have rWZ : Row WZ B 65 [.slice a4 n4 c4, .int .i64 dx, .int .i64 dy, .bool fd] := (by rw [← hWZ]; exact (((RBL.out.set (i := 0) _).set (i := 1) _).set (i := 2) _).set (i := 3) _); have RWZ := Lib.hid rWZ; clear rWZ) | (at_builtin; refine wpList_append_own_at _ rfl _ _ 42 rfl W14.heap.size 44 i0 (.agg #[.int .i64 0, .int .i64 0]) 2 16 Tryd.underlying42 II.out Z0.out Z1.out Z2.out rfl (by decide) (.slice none 0 0) 0 [] rfl (World.ownsRow_nil _ _ _ _) ⟨g1, 0, none⟩ 1 uc1 (pcs l1) rfl (by rw [pcs_len, HM1.out]) CE1.out (pcs_one l1) (by decide) (by decide) (Nat.le_refl _) ?_; intro v20 w20 hown' hgrow hnil hloc; have E20 := Lib.hid hown'; have G20 := Lib.hid hgrow; obtain ⟨a20, c20, hv20⟩ := own_form hown'; subst hv20; clear hown' hgrow hnil hloc))
    have OW := Lib.hid (show POwn w20 W14.heap.size (.slice a20 (0 + 1) c20) (l1 ++ l2) by rw [hl2, List.append_nil]; show World.ownsRow _ _ _ _ _ l1.length _; rw [HM1.out]; exact E20.out)
    have g0 := RWZ.out.cell (i := 0) rfl; have g1' := RWZ.out.cell (i := 1) rfl; have g2' := RWZ.out.cell (i := 2) rfl; have g3 := RWZ.out.cell (i := 3) rfl
    have BZ : Hid (Below w.heap.size w WZ) := by
      have lo : w.heap.size ≤ B := by have := OA.out; omega
      have bx : Below w.heap.size w w20 := BB.out.trans (BFX.out.mono BB.out.size)
      show Below _ _ _; rw [← hWZ]; exact (((bx.setCell lo _).setCell lo _).setCell lo _).setCell lo _
    have OZ : Hid (POwn WZ w.heap.size (.slice a20 (0 + 1) c20) (l1 ++ l2)) := by
      have h1 := QB.out; have h2 := OA.out
      refine POwn.mono (base := W14.heap.size) ?_ (by omega)
      refine POwn.same OW.out (fun g e => ?_)
      have := (pown_base OW.out g e).1
      rw [← hWZ, Below.heap_setCell _ _ _ _ (by show g ≠ B; omega), Below.heap_setCell _ _ _ _ (by show g ≠ B; omega), Below.heap_setCell _ _ _ _ (by show g ≠ B; omega), Below.heap_setCell _ _ _ _ (by show g ≠ B; omega)]
    refine bodyPost_ret (by simp [results, Tryd.results30, go_sem, g0, g1', g2', g3]; rfl) rfl ?_
    exact ⟨_, _, _, a20, 0 + 1, c20, by rw [RP.out], by rw [RP.out]; exact IX.out, by rw [RP.out]; exact OZ.out, BZ.out⟩
  · have m20 : 0 < m2 := by
      rw [← HM2.out]
      cases hh : l2 with
      | nil => exact absurd hh hl2
      | cons a b => simp
    have o2c : W14.ownsRow W11.heap.size 44 2 (.slice ua2 m2 uc2) m2 (pcs l2) := by have := O2C.out; unfold POwn at this; rw [HM2.out] at this; exact this
    obtain ⟨g2, gc2, hg2, ce2⟩ := own_cells o2c m20
    injection hg2 with hg2 _ hg4
    subst hg2; subst hg4
    have CE2 := Lib.hid ce2
    have LG2 : Hid (g2 < W14.heap.size) := (World.ownsRow.lt o2c g2 rfl).2
    clear ce2 o2c
    go_wp2_with (first | (at_builtin; refine wpList_append_own_at _ rfl _ _ 42 rfl W14.heap.size 44 i0 (.agg #[.int .i64 0, .int .i64 0]) 2 16 Tryd.underlying42 II.out Z0.out Z1.out Z2.out rfl (by decide) (.slice a20 (0 + 1) c20) (0 + 1) ([] ++ pcs l1) rfl E20.out ⟨g2, 0, none⟩ m2 uc2 (pcs l2) rfl (by rw [pcs_len, HM2.out]) (fun j u hu => (World.cell?_of_block (a := (⟨g2, 0, none⟩ : Addr).add j) (by rw [Addr.add_lit]; exact G20.out.block g2 LG2.out (by intro e; cases e))).trans (CE2.out j u hu)) (pcs_one l2) (by have := HLL.out; unfold maxLen; omega) (by have := HLL.out; omega) G20.out.size ?_; intro v21 w21 hown' hgrow hnil hloc; have E21 := Lib.hid hown'; have G21 := Lib.hid hgrow; obtain ⟨a21, c21, hv21⟩ := own_form hown'; subst hv21; clear hown' hgrow hnil hloc; have BF0 : Below W14.heap.size W14 w20 := ⟨G20.out.os, G20.out.tape, G20.out.output, G20.out.size, fun g hg => G20.out.block g hg (by intro e; cases e)⟩; have BF : Hid (Below W14.heap.size W14 w21) := BF0.trans (Below.grown (Below.refl _ _) G21.out G20.out.size (fun j e => (World.ownsRow.lt E20.out j e).1)); clear BF0; have BFX : Hid (Below W2.heap.size W2 w21) := BCX.out.trans (BF.out.mono QB.out); have RFL := Lib.hid (RFX.out.below BF.out RFX.out.lt); have RBL := Lib.hid (RB2.out.below BFX.out OA.out.2.1); have u0 := RFL.out.cell (i := 0) rfl; have u1 := RFL.out.cell (i := 1) rfl; have u2 := RFL.out.cell (i := 2) rfl; have u3 := RFL.out.cell (i := 3) rfl; have gg0 := RBL.out.cell (i := 0) rfl; have gg1 := RBL.out.cell (i := 1) rfl; have gg2 := RBL.out.cell (i := 2) rfl; have gg3 := RBL.out.cell (i := 3) rfl; have gf0 := RBL.out.fr (i := 0); have gf1 := RBL.out.fr (i := 1); have gf2 := RBL.out.fr (i := 2); have gf3 := RBL.out.fr (i := 3); obtain ⟨WZ, hWZ⟩ : ∃ WZ, (((w21.setCell ⟨B, 0, none⟩ (.slice a4 n4 c4)).setCell ⟨B, 1, none⟩ (.int .i64 dx)).setCell ⟨B, 2, none⟩ (.int .i64 dy)).setCell ⟨B, 3, none⟩ (.bool fd) = WZ := ⟨_, rfl⟩; have rWZ : Row WZ B 65 [.slice a4 n4 c4, .int .i64 dx, .int .i64 dy, .bool fd] := (by rw [← hWZ]; exact (((RBL.out.set (i := 0) _).set (i := 1) _).set (i := 2) _).set (i := 3) _); have RWZ := Lib.hid rWZ; clear rWZ) | (at_builtin; refine wpList_append_own_at _ rfl _ _ 42 rfl W14.heap.size 44 i0 (.agg #[.int .i64 0, .int .i64 0]) 2 16 Tryd.underlying42 II.out Z0.out Z1.out Z2.out rfl (by decide) (.slice none 0 0) 0 [] rfl (World.ownsRow_nil _ _ _ _) ⟨g1, 0, none⟩ 1 uc1 (pcs l1) rfl (by rw [pcs_len, HM1.out]) CE1.out (pcs_one l1) (by decide) (by decide) (Nat.le_refl _) ?_; intro v20 w20 hown' hgrow hnil hloc; have E20 := Lib.hid hown'; have G20 := Lib.hid hgrow; obtain ⟨a20, c20, hv20⟩ := own_form hown'; subst hv20; clear hown' hgrow hnil hloc))
    have OW := Lib.hid (show POwn w21 W14.heap.size (.slice a21 (0 + 1 + m2) c21) (l1 ++ l2) by
      refine pown_add HM1.out HM2.out ?_
      have := E21.out
      rw [List.nil_append, Nat.zero_add] at this; exact this)
    have g0 := RWZ.out.cell (i := 0) rfl; have g1' := RWZ.out.cell (i := 1) rfl; have g2' := RWZ.out.cell (i := 2) rfl; have g3 := RWZ.out.cell (i := 3) rfl
    have BZ : Hid (Below w.heap.size w WZ) := by
      have lo : w.heap.size ≤ B := by have := OA.out; omega
      have bx : Below w.heap.size w w21 := BB.out.trans (BFX.out.mono BB.out.size)
      show Below _ _ _; rw [← hWZ]; exact (((bx.setCell lo _).setCell lo _).setCell lo _).setCell lo _
    have OZ : Hid (POwn WZ w.heap.size (.slice a21 (0 + 1 + m2) c21) (l1 ++ l2)) := by
      have h1 := QB.out; have h2 := OA.out
      refine POwn.mono (base := W14.heap.size) ?_ (by omega)
      refine POwn.same OW.out (fun g e => ?_)
      have := (pown_base OW.out g e).1
      rw [← hWZ, Below.heap_setCell _ _ _ _ (by show g ≠ B; omega), Below.heap_setCell _ _ _ _ (by show g ≠ B; omega), Below.heap_setCell _ _ _ _ (by show g ≠ B; omega), Below.heap_setCell _ _ _ _ (by show g ≠ B; omega)]
    refine bodyPost_ret (by simp [results, Tryd.results30, go_sem, g0, g1', g2', g3]; rfl) rfl ?_
    exact ⟨_, _, _, a21, 0 + 1 + m2, c21, by rw [RP.out], by rw [RP.out]; exact IX.out, by rw [RP.out]; exact OZ.out, BZ.out⟩
set_option maxRecDepth 100000 in
set_option maxHeartbeats 8000000 in
theorem rpart_w3 {w0 w : World} {v : Value} {s : RS} {k : Int} (hk : k = 3) (b0 : Below w0.heap.size w0 w) (h : IntsAt w0 v s.1) (hl : s.1.length ≤ 1000000) (hf : s.2.2 = false) : Calls Tryd.prog 30 #[rv v s.2.1 s.2.2, .int .i64 k] w (RtPost w0 w k s) := by
  obtain ⟨i0, hi0, hz0, hz1, hz2⟩ := info_parts info44
  have II := Lib.hid hi0; have Z0 := Lib.hid hz0; have Z1 := Lib.hid hz1; have Z2 := Lib.hid hz2
  clear hi0 hz0 hz1 hz2
  subst hk
  have HI := Lib.hid h; have HL := Lib.hid hl; have B0 := Lib.hid b0; have HF := Lib.hid hf
  obtain ⟨ar, cr, hv⟩ := h.form
  subst hv
  obtain ⟨r, ⟨px, py⟩, fl⟩ := s
  dsimp only at *
  obtain ⟨nr, hnr⟩ : ∃ nr, r.length = nr := ⟨_, rfl⟩
  rw [hnr] at HI
  rw [hnr]
  obtain ⟨A, hA⟩ : ∃ A, w.heap.size = A := ⟨_, rfl⟩
  obtain ⟨W1, hW1⟩ : ∃ W1, w.alloc (.cells #[.slice ar nr cr, .int .i64 px, .int .i64 py, .bool fl] 65) = W1 := ⟨_, rfl⟩
  have r1 : Row W1 A 65 [.slice ar nr cr, .int .i64 px, .int .i64 py, .bool fl] := by rw [← hW1, ← hA]; exact Row.new _ _ _
  have b1 : Below w.heap.size w W1 := by rw [← hW1]; exact (Below.refl _ _).alloc (Nat.le_refl _) _
  obtain ⟨B, hB⟩ : ∃ B, W1.heap.size = B := ⟨_, rfl⟩
  obtain ⟨W2, hW2⟩ : ∃ W2, W1.alloc (.cells #[.slice none 0 0, .int .i64 0, .int .i64 0, .bool false] 65) = W2 := ⟨_, rfl⟩
  have r2 : Row W2 B 65 [.slice none 0 0, .int .i64 0, .int .i64 0, .bool false] := by rw [← hW2, ← hB]; exact Row.new _ _ _
  have b2 : Below W1.heap.size W1 W2 := by rw [← hW2]; exact (Below.refl _ _).alloc (Nat.le_refl _) _
  have r12 := r1.below b2 r1.lt
  have q0 := r12.cell (i := 0) rfl; have q1 := r12.cell (i := 1) rfl; have q2 := r12.cell (i := 2) rfl; have q3 := r12.cell (i := 3) rfl
  have RB2 := Lib.hid r2
  have BB := Lib.hid (b1.trans (b2.mono b1.size))
  have OA : Hid (A < B ∧ B < W2.heap.size ∧ w.heap.size ≤ A) := ⟨by rw [← hB]; exact r1.lt, r2.lt, by omega⟩
  have BW2 : Hid (Below w0.heap.size w0 W2) := B0.out.trans (BB.out.mono B0.out.size)
  have NX := Lib.hid (rnext_any (s := (r, (px, py), fl)) BW2.out HI.out HL.out)
  obtain ⟨⟨⟨t1, ⟨ax, ay⟩, fa⟩, x⟩, hn1⟩ : ∃ z, rn (r, (px, py), fl) = z := ⟨_, rfl⟩
  obtain ⟨⟨⟨t2, ⟨bx, by'⟩, fb⟩, l1⟩, hp1⟩ : ∃ z, rp 1 [] (t1, (ax, ay), fa) = z := ⟨_, rfl⟩
  obtain ⟨⟨⟨t3, ⟨cx, cy⟩, fc⟩, y⟩, hn2⟩ : ∃ z, rn (t2, (bx, by'), fb) = z := ⟨_, rfl⟩
  have le1 := rn_le (r, (px, py), fl); have le2 := rp_le 1 [] (t1, (ax, ay), fa); have le3 := rn_le (t2, (bx, by'), fb)
  rw [hn1] at le1; rw [hp1] at le2; rw [hn2] at le3
  dsimp only at le1 le2 le3
  have L1 : Hid (t1.length ≤ 1000000) := by have := HL.out; show _ ≤ _; omega
  have L2 : Hid (t2.length ≤ 1000000) := by have := L1.out; show _ ≤ _; omega
  have L3 : Hid (t3.length ≤ 1000000) := by have := L2.out; show _ ≤ _; omega
  have HY : Hid (0 ≤ y ∧ y ≤ 100000) := le3.2
  have N1 := Lib.hid hn1; have P1 := Lib.hid hp1; have N2 := Lib.hid hn2
  have HL1 : Hid (x = 9 → l1.length = 1) := fun hx => by
    obtain ⟨t, _, e2, _⟩ := rn_pos (s := (r, (px, py), fl)) (by rw [N1.out]; dsimp only; rw [hx]; decide)
    rw [N1.out] at e2
    dsimp only at e2
    injection e2 with _ e3
    injection e3 with _ e4
    have := rp_one (s := (t1, (ax, ay), fa)) (by dsimp only; rw [e4]; exact HF.out)
    rw [P1.out] at this; exact this
  unfold RnPost at NX
  rw [hn1] at NX
  dsimp only at NX
  clear r1 b1 r2 b2 r12 h hl b0 hnr hn1 hp1 hn2 le1 le2 le3 hf
  go_enter Tryd.func30, Tryd.ntmps30
  go_wp2_with fail
  refine NX.out.mono ?_; rintro e w3 ⟨a1, n1, c1, rfl, i1, b3⟩
  have I1 := Lib.hid i1; have B3 := Lib.hid b3
  obtain ⟨C, hC⟩ : ∃ C, w3.heap.size = C := ⟨_, rfl⟩
  obtain ⟨W4, hW4⟩ : ∃ W4, w3.alloc (.cells #[.slice none 0 0, .int .i64 0, .int .i64 0, .bool false] 65) = W4 := ⟨_, rfl⟩
  have rW4 : Row W4 C 65 [.slice none 0 0, .int .i64 0, .int .i64 0, .bool false] := by rw [← hW4, ← hC]; exact Row.new _ _ _
  have bW4 : Below w3.heap.size w3 W4 := by rw [← hW4]; exact (Below.refl _ _).alloc (Nat.le_refl _) _
  obtain ⟨W5, hW5⟩ : ∃ W5, (((W4.setCell ⟨C, 0, none⟩ (.slice a1 n1 c1)).setCell ⟨C, 1, none⟩ (.int .i64 ax)).setCell ⟨C, 2, none⟩ (.int .i64 ay)).setCell ⟨C, 3, none⟩ (.bool fa) = W5 := ⟨_, rfl⟩
  have rW5 : Row W5 C 65 [.slice a1 n1 c1, .int .i64 ax, .int .i64 ay, .bool fa] := by rw [← hW5]; exact (((rW4.set (i := 0) _).set (i := 1) _).set (i := 2) _).set (i := 3) _
  have bW5 : Below w3.heap.size w3 W5 := by
    have lo : w3.heap.size ≤ C := by rw [hC]; exact Nat.le_refl _
    rw [← hW5]; exact (((bW4.setCell lo _).setCell lo _).setCell lo _).setCell lo _
  have z0C := rW4.cell (i := 0) rfl; have z1C := rW4.cell (i := 1) rfl; have z2C := rW4.cell (i := 2) rfl; have z3C := rW4.cell (i := 3) rfl
  have zf0C := rW4.fr (i := 0); have zf1C := rW4.fr (i := 1); have zf2C := rW4.fr (i := 2); have zf3C := rW4.fr (i := 3)
  have B5 : Hid (Below W2.heap.size W2 W5) := B3.out.trans (bW5.mono B3.out.size)
  have PO0 := rpoints_any (w := W5) (s := (t1, (ax, ay), fa)) (N := 1) (BW2.out.trans (B5.out.mono BW2.out.size)) I1.out L1.out (by decide)
  unfold RpPost at PO0
  rw [P1.out] at PO0
  dsimp only at PO0
  have PO := Lib.hid PO0
  have y0 := rW5.cell (i := 0) rfl; have y1 := rW5.cell (i := 1) rfl; have y2 := rW5.cell (i := 2) rfl; have y3 := rW5.cell (i := 3) rfl
  clear i1 b3 NX PO0 rW4 bW4 rW5 bW5 q0 q1 q2 q3
  go_wp2_with fail
  refine PO.out.mono ?_; rintro e w6 ⟨a2, n2, c2, u1, rfl, i2, o1, _, b6⟩
  have I2 := Lib.hid i2; have B6 := Lib.hid b6
  obtain ⟨ua1, uc1, hu1⟩ := POwn.form o1
  obtain ⟨m1, hm1⟩ : ∃ m1, l1.length = m1 := ⟨_, rfl⟩
  rw [hm1] at hu1
  subst hu1
  have O1 := Lib.hid o1; have HM1 := Lib.hid hm1
  obtain ⟨D, hD⟩ : ∃ D, w6.heap.size = D := ⟨_, rfl⟩
  obtain ⟨W7, hW7⟩ : ∃ W7, w6.alloc (.cells #[.slice none 0 0, .int .i64 0, .int .i64 0, .bool false] 65) = W7 := ⟨_, rfl⟩
  have rW7 : Row W7 D 65 [.slice none 0 0, .int .i64 0, .int .i64 0, .bool false] := by rw [← hW7, ← hD]; exact Row.new _ _ _
  have bW7 : Below w6.heap.size w6 W7 := by rw [← hW7]; exact (Below.refl _ _).alloc (Nat.le_refl _) _
  obtain ⟨W8, hW8⟩ : ∃ W8, (((W7.setCell ⟨D, 0, none⟩ (.slice a2 n2 c2)).setCell ⟨D, 1, none⟩ (.int .i64 bx)).setCell ⟨D, 2, none⟩ (.int .i64 by')).setCell ⟨D, 3, none⟩ (.bool fb) = W8 := ⟨_, rfl⟩
  have rW8 : Row W8 D 65 [.slice a2 n2 c2, .int .i64 bx, .int .i64 by', .bool fb] := by rw [← hW8]; exact (((rW7.set (i := 0) _).set (i := 1) _).set (i := 2) _).set (i := 3) _
  have bW8 : Below w6.heap.size w6 W8 := by
    have lo : w6.heap.size ≤ D := by rw [hD]; exact Nat.le_refl _
    rw [← hW8]; exact (((bW7.setCell lo _).setCell lo _).setCell lo _).setCell lo _
  have z0D := rW7.cell (i := 0) rfl; have z1D := rW7.cell (i := 1) rfl; have z2D := rW7.cell (i := 2) rfl; have z3D := rW7.cell (i := 3) rfl
  have zf0D := rW7.fr (i := 0); have zf1D := rW7.fr (i := 1); have zf2D := rW7.fr (i := 2); have zf3D := rW7.fr (i := 3)
  have B8 : Hid (Below W2.heap.size W2 W8) := B5.out.trans ((B6.out.trans (bW8.mono B6.out.size)).mono B5.out.size)
  have B68 := Lib.hid bW8
  have NX0 := rnext_any (w := W8) (s := (t2, (bx, by'), fb)) (BW2.out.trans (B8.out.mono BW2.out.size)) I2.out L2.out
  unfold RnPost at NX0
  rw [N2.out] at NX0
  dsimp only at NX0
  have NX := Lib.hid NX0
  have y0 := rW8.cell (i := 0) rfl; have y1 := rW8.cell (i := 1) rfl; have y2 := rW8.cell (i := 2) rfl; have y3 := rW8.cell (i := 3) rfl
  clear i2 o1 hm1 b6 PO NX0 rW7 bW7 rW8 bW8
  go_wp2_with fail
  refine NX.out.mono ?_; rintro e w9 ⟨a3, n3, c3, rfl, i3, b9⟩
  have I3 := Lib.hid i3; have B9 := Lib.hid b9
  obtain ⟨E, hE⟩ : ∃ E, w9.heap.size = E := ⟨_, rfl⟩
  obtain ⟨W10, hW10⟩ : ∃ W10, w9.alloc (.cells #[.slice none 0 0, .int .i64 0, .int .i64 0, .bool false] 65) = W10 := ⟨_, rfl⟩
  have rW10 : Row W10 E 65 [.slice none 0 0, .int .i64 0, .int .i64 0, .bool false] := by rw [← hW10, ← hE]; exact Row.new _ _ _
  have bW10 : Below w9.heap.size w9 W10 := by rw [← hW10]; exact (Below.refl _ _).alloc (Nat.le_refl _) _
  obtain ⟨W11, hW11⟩ : ∃ W11, (((W10.setCell ⟨E, 0, none⟩ (.slice a3 n3 c3)).setCell ⟨E, 1, none⟩ (.int .i64 cx)).setCell ⟨E, 2, none⟩ (.int .i64 cy)).setCell ⟨E, 3, none⟩ (.bool fc) = W11 := ⟨_, rfl⟩
  have rW11 : Row W11 E 65 [.slice a3 n3 c3, .int .i64 cx, .int .i64 cy, .bool fc] := by rw [← hW11]; exact (((rW10.set (i := 0) _).set (i := 1) _).set (i := 2) _).set (i := 3) _
  have bW11 : Below w9.heap.size w9 W11 := by
    have lo : w9.heap.size ≤ E := by rw [hE]; exact Nat.le_refl _
    rw [← hW11]; exact (((bW10.setCell lo _).setCell lo _).setCell lo _).setCell lo _
  have z0E := rW10.cell (i := 0) rfl; have z1E := rW10.cell (i := 1) rfl; have z2E := rW10.cell (i := 2) rfl; have z3E := rW10.cell (i := 3) rfl
  have zf0E := rW10.fr (i := 0); have zf1E := rW10.fr (i := 1); have zf2E := rW10.fr (i := 2); have zf3E := rW10.fr (i := 3)
  have B11 : Hid (Below W2.heap.size W2 W11) := B8.out.trans ((B9.out.trans (bW11.mono B9.out.size)).mono B8.out.size)
  have B611 : Hid (Below w6.heap.size w6 W11) := B68.out.trans ((B9.out.trans (bW11.mono B9.out.size)).mono B68.out.size)
  have BX11 : Hid (Below w.heap.size w W11) := BB.out.trans (B11.out.mono BB.out.size)
  have RB11 := Lib.hid (RB2.out.below B11.out OA.out.2.1)
  have y0 := rW11.cell (i := 0) rfl; have y1 := rW11.cell (i := 1) rfl; have y2 := rW11.cell (i := 2) rfl; have y3 := rW11.cell (i := 3) rfl
  obtain ⟨ym, hym⟩ : ∃ ym, Int.tmod y 8 = ym := ⟨_, rfl⟩
  have HYM : Hid (ym = y % 8) := by have := HY.out; show _ = _; rw [← hym, Int.tmod_eq_emod_of_nonneg (by omega)]
  have wym : IntKind.i64.wrap ym = ym := by have := HYM.out; rw [IntKind.wrap_i64]; omega
  clear i3 b9 NX rW10 bW10 rW11 bW11
  by_cases hx : x = 9
  rotate_left 1
  · have xb : (x != 9) = true := by simpa using hx
    have RP := Lib.hid (rpart_bad (k := 3) N1.out P1.out N2.out (fun hh => hx hh.1))
    clear hx
    have g0 := RB11.out.cell (i := 0) rfl; have g1 := RB11.out.cell (i := 1) rfl; have g2 := RB11.out.cell (i := 2) rfl; have g3 := RB11.out.cell (i := 3) rfl
    have gf0 := RB11.out.fr (i := 0); have gf1 := RB11.out.fr (i := 1); have gf2 := RB11.out.fr (i := 2); have gf3 := RB11.out.fr (i := 3)
    obtain ⟨WZ, hWZ⟩ : ∃ WZ, (((W11.setCell ⟨B, 0, none⟩ (.slice none 0 0)).setCell ⟨B, 1, none⟩ (.int .i64 0)).setCell ⟨B, 2, none⟩ (.int .i64 0)).setCell ⟨B, 3, none⟩ (.bool true) = WZ := ⟨_, rfl⟩
    have rWZ : Row WZ B 65 [.slice none 0 0, .int .i64 0, .int .i64 0, .bool true] := by rw [← hWZ]; exact (((RB11.out.set (i := 0) _).set (i := 1) _).set (i := 2) _).set (i := 3) _
    have g0 := rWZ.cell (i := 0) rfl; have g1 := rWZ.cell (i := 1) rfl; have g2 := rWZ.cell (i := 2) rfl; have g3 := rWZ.cell (i := 3) rfl
    have BZ : Hid (Below w.heap.size w WZ) := by
      have lo : w.heap.size ≤ B := by have := OA.out; omega
      show Below _ _ _; rw [← hWZ]; exact (((BX11.out.setCell lo _).setCell lo _).setCell lo _).setCell lo _
    clear rWZ
    go_wp2_with fail
    refine bodyPost_ret (by simp [results, Tryd.results30, go_sem, g0, g1, g2, g3]; rfl) rfl ?_
    exact ⟨none, 0, 0, none, 0, 0, by rw [RP.out]; rfl, by rw [RP.out]; exact ints_nil _, by rw [RP.out]; exact World.ownsRow_nil _ _ _ _, BZ.out⟩
  have xb : (x != 9) = false := by simpa using hx
  by_cases hy : ym = 2
  rotate_left 1
  · have yb : (ym != 2) = true := by simpa using hy
    have RP := Lib.hid (rpart_bad (k := 3) N1.out P1.out N2.out (fun hh => hy (by rw [HYM.out]; exact hh.2)))
    clear hx hy
    have g0 := RB11.out.cell (i := 0) rfl; have g1 := RB11.out.cell (i := 1) rfl; have g2 := RB11.out.cell (i := 2) rfl; have g3 := RB11.out.cell (i := 3) rfl
    have gf0 := RB11.out.fr (i := 0); have gf1 := RB11.out.fr (i := 1); have gf2 := RB11.out.fr (i := 2); have gf3 := RB11.out.fr (i := 3)
    obtain ⟨WZ, hWZ⟩ : ∃ WZ, (((W11.setCell ⟨B, 0, none⟩ (.slice none 0 0)).setCell ⟨B, 1, none⟩ (.int .i64 0)).setCell ⟨B, 2, none⟩ (.int .i64 0)).setCell ⟨B, 3, none⟩ (.bool true) = WZ := ⟨_, rfl⟩
    have rWZ : Row WZ B 65 [.slice none 0 0, .int .i64 0, .int .i64 0, .bool true] := by rw [← hWZ]; exact (((RB11.out.set (i := 0) _).set (i := 1) _).set (i := 2) _).set (i := 3) _
    have g0 := rWZ.cell (i := 0) rfl; have g1 := rWZ.cell (i := 1) rfl; have g2 := rWZ.cell (i := 2) rfl; have g3 := rWZ.cell (i := 3) rfl
    have BZ : Hid (Below w.heap.size w WZ) := by
      have lo : w.heap.size ≤ B := by have := OA.out; omega
      show Below _ _ _; rw [← hWZ]; exact (((BX11.out.setCell lo _).setCell lo _).setCell lo _).setCell lo _
    clear rWZ
    go_wp2_with fail
    refine bodyPost_ret (by simp [results, Tryd.results30, go_sem, g0, g1, g2, g3]; rfl) rfl ?_
    exact ⟨none, 0, 0, none, 0, 0, by rw [RP.out]; rfl, by rw [RP.out]; exact ints_nil _, by rw [RP.out]; exact World.ownsRow_nil _ _ _ _, BZ.out⟩
  have yb : (ym != 2) = false := by simpa using hy
  have CC : Hid (x = 9 ∧ y % 8 = 2) := ⟨hx, by rw [← HYM.out]; exact hy⟩
  have M1 : Hid (m1 = 1) := by have := HL1.out hx; rw [HM1.out] at this; exact this
  obtain ⟨M, hM⟩ : ∃ M : Nat, (y / 8).toNat = M := ⟨_, rfl⟩
  have hq : Int.tdiv y 8 = (M : Int) := by have := HY.out; rw [Int.tdiv_eq_ediv_of_nonneg (by omega)]; omega
  have wq : IntKind.i64.wrap (M : Int) = (M : Int) := by have := HY.out; rw [IntKind.wrap_i64]; omega
  have MB : Hid (M ≤ 100000) := by have := HY.out; show _ ≤ _; omega
  have HMM := Lib.hid hM
  obtain ⟨⟨⟨t4, ⟨dx, dy⟩, fd⟩, l2⟩, hp2⟩ : ∃ z, rp M [] (t3, (cx, cy), fc) = z := ⟨_, rfl⟩
  have P2 := Lib.hid hp2
  have le4 := rp_le M [] (t3, (cx, cy), fc); have le5 := rp_len M [] (t3, (cx, cy), fc)
  rw [hp2] at le4 le5
  dsimp only at le4 le5
  have L4 : Hid (t4.length ≤ 1000000) := by have := L3.out; show _ ≤ _; omega
  have LL2 : Hid (l2.length ≤ 100000) := by have := MB.out; simp at le5; show _ ≤ _; omega
  have PO0 := rpoints_any (w := W11) (s := (t3, (cx, cy), fc)) (N := M) (BW2.out.trans (B11.out.mono BW2.out.size)) I3.out L3.out MB.out
  unfold RpPost at PO0
  rw [hp2] at PO0
  dsimp only at PO0
  have PO := Lib.hid PO0
  clear hx hy hM hp2 le4 le5 PO0
  go_wp2_with fail
  refine PO.out.mono ?_; rintro e w12 ⟨a4, n4, c4, u2, rfl, i4, o2, ho2, b12⟩
  have I4 := Lib.hid i4; have B12 := Lib.hid b12
  obtain ⟨ua2, uc2, hu2⟩ := POwn.form o2
  obtain ⟨m2, hm2⟩ : ∃ m2, l2.length = m2 := ⟨_, rfl⟩
  rw [hm2] at hu2
  subst hu2
  have O2 := Lib.hid o2; have HO2 := Lib.hid ho2; have HM2 := Lib.hid hm2
  obtain ⟨F, hF⟩ : ∃ F, w12.heap.size = F := ⟨_, rfl⟩
  obtain ⟨W13, hW13⟩ : ∃ W13, w12.alloc (.cells #[.slice none 0 0, .int .i64 0, .int .i64 0, .bool false] 65) = W13 := ⟨_, rfl⟩
  have rW13 : Row W13 F 65 [.slice none 0 0, .int .i64 0, .int .i64 0, .bool false] := by rw [← hW13, ← hF]; exact Row.new _ _ _
  have bW13 : Below w12.heap.size w12 W13 := by rw [← hW13]; exact (Below.refl _ _).alloc (Nat.le_refl _) _
  obtain ⟨W14, hW14⟩ : ∃ W14, (((W13.setCell ⟨F, 0, none⟩ (.slice a4 n4 c4)).setCell ⟨F, 1, none⟩ (.int .i64 dx)).setCell ⟨F, 2, none⟩ (.int .i64 dy)).setCell ⟨F, 3, none⟩ (.bool fd) = W14 := ⟨_, rfl⟩
  have rW14 : Row W14 F 65 [.slice a4 n4 c4, .int .i64 dx, .int .i64 dy, .bool fd] := by rw [← hW14]; exact (((rW13.set (i := 0) _).set (i := 1) _).set (i := 2) _).set (i := 3) _
  have bW14 : Below w12.heap.size w12 W14 := by
    have lo : w12.heap.size ≤ F := by rw [hF]; exact Nat.le_refl _
    rw [← hW14]; exact (((bW13.setCell lo _).setCell lo _).setCell lo _).setCell lo _
  have z0F := rW13.cell (i := 0) rfl; have z1F := rW13.cell (i := 1) rfl; have z2F := rW13.cell (i := 2) rfl; have z3F := rW13.cell (i := 3) rfl
  have zf0F := rW13.fr (i := 0); have zf1F := rW13.fr (i := 1); have zf2F := rW13.fr (i := 2); have zf3F := rW13.fr (i := 3)
  have B14 : Hid (Below W2.heap.size W2 W14) := B11.out.trans ((B12.out.trans (bW14.mono B12.out.size)).mono B11.out.size)
  have B614 : Hid (Below w6.heap.size w6 W14) := B611.out.trans ((B12.out.trans (bW14.mono B12.out.size)).mono B611.out.size)
  have B1214 := Lib.hid bW14
  have RF := Lib.hid rW14
  have y0 := rW14.cell (i := 0) rfl; have y1 := rW14.cell (i := 1) rfl; have y2 := rW14.cell (i := 2) rfl; have y3 := rW14.cell (i := 3) rfl
  clear i4 o2 ho2 hm2 b12 PO rW13 bW13 rW14 bW14 hym wym hq wq
  obtain ⟨⟨⟨t5, ⟨ex, ey⟩, fe⟩, z⟩, hn3⟩ : ∃ z, rn (t4, (dx, dy), fd) = z := ⟨_, rfl⟩
  have N3 := Lib.hid hn3
  have NX0 := rnext_any (w := W14) (s := (t4, (dx, dy), fd)) (BW2.out.trans (B14.out.mono BW2.out.size)) I4.out L4.out
  unfold RnPost at NX0
  rw [hn3] at NX0
  dsimp only at NX0
  have NX := Lib.hid NX0
  clear NX0 hn3
  go_wp2_with fail
  refine NX.out.mono ?_; rintro e w15 ⟨a5, n5, c5, rfl, i5, b15⟩
  have I5 := Lib.hid i5; have B15 := Lib.hid b15
  obtain ⟨G, hG⟩ : ∃ G, w15.heap.size = G := ⟨_, rfl⟩
  obtain ⟨W16, hW16⟩ : ∃ W16, w15.alloc (.cells #[.slice none 0 0, .int .i64 0, .int .i64 0, .bool false] 65) = W16 := ⟨_, rfl⟩
  have rW16 : Row W16 G 65 [.slice none 0 0, .int .i64 0, .int .i64 0, .bool false] := by rw [← hW16, ← hG]; exact Row.new _ _ _
  have bW16 : Below w15.heap.size w15 W16 := by rw [← hW16]; exact (Below.refl _ _).alloc (Nat.le_refl _) _
  obtain ⟨W17, hW17⟩ : ∃ W17, (((W16.setCell ⟨G, 0, none⟩ (.slice a5 n5 c5)).setCell ⟨G, 1, none⟩ (.int .i64 ex)).setCell ⟨G, 2, none⟩ (.int .i64 ey)).setCell ⟨G, 3, none⟩ (.bool fe) = W17 := ⟨_, rfl⟩
  have rW17 : Row W17 G 65 [.slice a5 n5 c5, .int .i64 ex, .int .i64 ey, .bool fe] := by rw [← hW17]; exact (((rW16.set (i := 0) _).set (i := 1) _).set (i := 2) _).set (i := 3) _
  have bW17 : Below w15.heap.size w15 W17 := by
    have lo : w15.heap.size ≤ G := by rw [hG]; exact Nat.le_refl _
    rw [← hW17]; exact (((bW16.setCell lo _).setCell lo _).setCell lo _).setCell lo _
  have z0G := rW16.cell (i := 0) rfl; have z1G := rW16.cell (i := 1) rfl; have z2G := rW16.cell (i := 2) rfl; have z3G := rW16.cell (i := 3) rfl
  have zf0G := rW16.fr (i := 0); have zf1G := rW16.fr (i := 1); have zf2G := rW16.fr (i := 2); have zf3G := rW16.fr (i := 3)
  have B17' : Hid (Below W14.heap.size W14 W17) := B15.out.trans (bW17.mono B15.out.size)
  have B17 : Hid (Below W2.heap.size W2 W17) := B14.out.trans (B17'.out.mono B14.out.size)
  have BX17 : Hid (Below w.heap.size w W17) := BB.out.trans (B17.out.mono BB.out.size)
  have RB17 := Lib.hid (RB2.out.below B17.out OA.out.2.1)
  have y0 := rW17.cell (i := 0) rfl; have y1 := rW17.cell (i := 1) rfl; have y2 := rW17.cell (i := 2) rfl; have y3 := rW17.cell (i := 3) rfl
  have RF17 := Lib.hid (RF.out.below B17'.out RF.out.lt)
  clear i5 b15 NX rW16 bW16 rW17 bW17
  by_cases hz : z = 15
  rotate_left 1
  · have zb : (z != 15) = true := by simpa using hz
    have RP := Lib.hid (rpart_bad3 N1.out P1.out N2.out CC.out HMM.out P2.out N3.out hz)
    clear hz
    have g0 := RB17.out.cell (i := 0) rfl; have g1 := RB17.out.cell (i := 1) rfl; have g2 := RB17.out.cell (i := 2) rfl; have g3 := RB17.out.cell (i := 3) rfl
    have gf0 := RB17.out.fr (i := 0); have gf1 := RB17.out.fr (i := 1); have gf2 := RB17.out.fr (i := 2); have gf3 := RB17.out.fr (i := 3)
    obtain ⟨WZ, hWZ⟩ : ∃ WZ, (((W17.setCell ⟨B, 0, none⟩ (.slice none 0 0)).setCell ⟨B, 1, none⟩ (.int .i64 0)).setCell ⟨B, 2, none⟩ (.int .i64 0)).setCell ⟨B, 3, none⟩ (.bool true) = WZ := ⟨_, rfl⟩
    have rWZ : Row WZ B 65 [.slice none 0 0, .int .i64 0, .int .i64 0, .bool true] := by rw [← hWZ]; exact (((RB17.out.set (i := 0) _).set (i := 1) _).set (i := 2) _).set (i := 3) _
    have g0 := rWZ.cell (i := 0) rfl; have g1 := rWZ.cell (i := 1) rfl; have g2 := rWZ.cell (i := 2) rfl; have g3 := rWZ.cell (i := 3) rfl
    have BZ : Hid (Below w.heap.size w WZ) := by
      have lo : w.heap.size ≤ B := by have := OA.out; omega
      show Below _ _ _; rw [← hWZ]; exact (((BX17.out.setCell lo _).setCell lo _).setCell lo _).setCell lo _
    clear rWZ
    go_wp2_with fail
    refine bodyPost_ret (by simp [results, Tryd.results30, go_sem, g0, g1, g2, g3]; rfl) rfl ?_
    exact ⟨none, 0, 0, none, 0, 0, by rw [RP.out]; rfl, by rw [RP.out]; exact ints_nil _, by rw [RP.out]; exact World.ownsRow_nil _ _ _ _, BZ.out⟩
  have zb : (z != 15) = false := by simpa using hz
  have RP := Lib.hid (rpart_three N1.out P1.out N2.out CC.out HMM.out P2.out N3.out hz)
  dsimp only at RP
  clear hz
  have x0 := RF17.out.cell (i := 0) rfl; have x1 := RF17.out.cell (i := 1) rfl; have x2 := RF17.out.cell (i := 2) rfl; have x3 := RF17.out.cell (i := 3) rfl
  have xf0 := RF17.out.fr (i := 0); have xf1 := RF17.out.fr (i := 1); have xf2 := RF17.out.fr (i := 2); have xf3 := RF17.out.fr (i := 3)
  obtain ⟨W18, hW18⟩ : ∃ W18, (((W17.setCell ⟨F, 0, none⟩ (.slice a5 n5 c5)).setCell ⟨F, 1, none⟩ (.int .i64 ex)).setCell ⟨F, 2, none⟩ (.int .i64 ey)).setCell ⟨F, 3, none⟩ (.bool fe) = W18 := ⟨_, rfl⟩
  have rW18 : Row W18 F 65 [.slice a5 n5 c5, .int .i64 ex, .int .i64 ey, .bool fe] := by rw [← hW18]; exact (((RF17.out.set (i := 0) _).set (i := 1) _).set (i := 2) _).set (i := 3) _
  have RFX := Lib.hid rW18
  have lF : w12.heap.size ≤ F := by rw [hF]; exact Nat.le_refl _
  have l1718 : Below F W17 W18 := by rw [← hW18]; exact ((((Below.refl F W17).setCell (by exact Nat.le_refl F) _).setCell (by exact Nat.le_refl F) _).setCell (by exact Nat.le_refl F) _).setCell (by exact Nat.le_refl F) _
  have FF2 : Hid (W2.heap.size ≤ F ∧ w6.heap.size ≤ F) := by
    have h1 := B11.out.size; have h2 := B12.out.size; have h3 := B611.out.size
    exact ⟨by omega, by omega⟩
  have BCX : Hid (Below W2.heap.size W2 W18) := B17.out.trans (l1718.mono FF2.out.1)
  have B6X : Hid (Below w6.heap.size w6 W18) := (B614.out.trans (B17'.out.mono B614.out.size)).trans (l1718.mono FF2.out.2)
  have B12X : Hid (Below w12.heap.size w12 W18) := (B1214.out.trans (B17'.out.mono B1214.out.size)).trans (l1718.mono lF)
  have IX := I5
  have y0 := rW18.cell (i := 0) rfl; have y1 := rW18.cell (i := 1) rfl; have y2 := rW18.cell (i := 2) rfl; have y3 := rW18.cell (i := 3) rfl
  clear rW18 l1718 lF
  have hm1 := M1.out
  subst hm1
  have o1c : POwn W18 W5.heap.size (.slice ua1 1 uc1) l1 := POwn.same O1.out (fun g e => B6X.out.block g (pown_base O1.out g e).2)
  unfold POwn at o1c
  rw [HM1.out] at o1c
  obtain ⟨g1, gc1, hg1, ce1⟩ := own_cells o1c (by decide)
  injection hg1 with hg1 hg2 hg3
  subst hg1; subst hg3
  have CE1 := Lib.hid ce1
  have O2C : Hid (POwn W18 W11.heap.size (.slice ua2 m2 uc2) l2) := POwn.same O2.out (fun g e => B12X.out.block g (pown_base O2.out g e).2)
  have HLL : Hid (m2 ≤ 100000) := by have := LL2.out; have := HM2.out; show _ ≤ _; omega
  have QB : Hid (W2.heap.size ≤ W18.heap.size) := BCX.out.size
  clear o1c ce1
  by_cases hl2 : l2 = []
  · have hu2 := HO2.out hl2
    injection hu2 with hu2 hu3 hu4
    subst hu2; subst hu3; subst hu4
    go_wp2_with (first | (at_builtin; refine wpList_append_own_none rfl _ _ 42 rfl W18.heap.size 44 i0 2 Tryd.underlying42 II.out (.slice a20 (0 + 1) c20) (0 + 1) ([] ++ pcs l1) rfl E20.out rfl ?_; have BF : Hid (Below W18.heap.size W18 w20) := ⟨G20.out.os, G20.out.tape, G20.out.output, G20.out.size, fun g hg => G20.out.block g hg (by intro e; cases e)⟩; have BFX : Hid (Below W2.heap.size W2 w20) := BCX.out.trans (BF.out.mono QB.out); have RFL := Lib.hid (RFX.out.below BF.out RFX.out.lt); have RBL := Lib.hid (RB2.out.below BFX.out OA.out.2.1); have u0 := RFL.out.cell (i := 0) rfl; have u1 := RFL.out.cell (i := 1) rfl; have u2 := RFL.out.cell (i := 2) rfl; have u3 := RFL.out.cell (i := 3) rfl; have gg0 := RBL.out.cell (i := 0) rfl; have gg1 := RBL.out.cell (i := 1) rfl; have gg2 := RBL.out.cell (i := 2) rfl; have gg3 := RBL.out.cell (i := 3) rfl; have gf0 := RBL.out.fr (i := 0); have gf1 := RBL.out.fr (i := 1); have gf2 := RBL.out.fr (i := 2); have gf3 := RBL.out.fr (i := 3); obtain ⟨WZ, hWZ⟩ : ∃ WZ, (((w20.setCell ⟨B, 0, none⟩ (.slice a5 n5 c5)).setCell ⟨B, 1, none⟩ (.int .i64 ex)).setCell ⟨B, 2, none⟩ (.int .i64 ey)).setCell ⟨B, 3, none⟩ (.bool fe) = WZ := ⟨_, rfl⟩; have rWZ : Row WZ B 65 [.slice a5 n5 c5, .int .i64 ex, .int .i64 ey, .bool fe] := (by rw [← hWZ]; exact (((RBL.out.set (i := 0) _).set (i := 1) _).set (i := 2) _).set (i := 3) _); have RWZ := Lib.hid rWZ; clear rWZ) | (at_builtin; refine wpList_append_own_at _ rfl _ _ 42 rfl W18.heap.size 44 i0 (.agg #[.int .i64 0, .int .i64 0]) 2 16 Tryd.underlying42 II.out Z0.out Z1.out Z2.out rfl (by decide) (.slice none 0 0) 0 [] rfl (World.ownsRow_nil _ _ _ _) ⟨g1, 0, none⟩ 1 uc1 (pcs l1) rfl (by rw [pcs_len, HM1.out]) CE1.out (pcs_one l1) (by decide) (by decide) (Nat.le_refl _) ?_; intro v20 w20 hown' hgrow hnil hloc; have E20 := Lib.hid hown'; have G20 := Lib.hid hgrow; obtain ⟨a20, c20, hv20⟩ := own_form hown'; subst hv20; clear hown' hgrow hnil hloc))
    have OW := Lib.hid (show POwn w20 W18.heap.size (.slice a20 (0 + 1) c20) (l1 ++ l2) by rw [hl2, List.append_nil]; show World.ownsRow _ _ _ _ _ l1.length _; rw [HM1.out]; exact E20.out)
    have g0 := RWZ.out.cell (i := 0) rfl; have g1' := RWZ.out.cell (i := 1) rfl; have g2' := RWZ.out.cell (i := 2) rfl; have g3 := RWZ.out.cell (i := 3) rfl
    have BZ : Hid (Below w.heap.size w WZ) := by
      have lo : w.heap.size ≤ B := by have := OA.out; omega
      have bx : Below w.heap.size w w20 := BB.out.trans (BFX.out.mono BB.out.size)
      show Below _ _ _; rw [← hWZ]; exact (((bx.setCell lo _).setCell lo _).setCell lo _).setCell lo _
    have OZ : Hid (POwn WZ w.heap.size (.slice a20 (0 + 1) c20) (l1 ++ l2)) := by
      have h1 := QB.out; have h2 := OA.out
      refine POwn.mono (base := W18.heap.size) ?_ (by omega)
      refine POwn.same OW.out (fun g e => ?_)
      have := (pown_base OW.out g e).1
      rw [← hWZ, Below.heap_setCell _ _ _ _ (by show g ≠ B; omega), Below.heap_setCell _ _ _ _ (by show g ≠ B; omega), Below.heap_setCell _ _ _ _ (by show g ≠ B; omega), Below.heap_setCell _ _ _ _ (by show g ≠ B; omega)]
    refine bodyPost_ret (by simp [results, Tryd.results30, go_sem, g0, g1', g2', g3]; rfl) rfl ?_
    exact ⟨_, _, _, a20, 0 + 1, c20, by rw [RP.out], by rw [RP.out]; exact IX.out, by rw [RP.out]; exact OZ.out, BZ.out⟩
  · have m20 : 0 < m2 := by
      rw [← HM2.out]
      cases hh : l2 with
      | nil => exact absurd hh hl2
      | cons a b => simp
    have o2c : W18.ownsRow W11.heap.size 44 2 (.slice ua2 m2 uc2) m2 (pcs l2) := by have := O2C.out; unfold POwn at this; rw [HM2.out] at this; exact this
    obtain ⟨g2, gc2, hg2, ce2⟩ := own_cells o2c m20
    injection hg2 with hg2 _ hg4
    subst hg2; subst hg4
    have CE2 := Lib.hid ce2
    have LG2 : Hid (g2 < W18.heap.size) := (World.ownsRow.lt o2c g2 rfl).2
    clear ce2 o2c
    go_wp2_with (first | (at_builtin; refine wpList_append_own_at _ rfl _ _ 42 rfl W18.heap.size 44 i0 (.agg #[.int .i64 0, .int .i64 0]) 2 16 Tryd.underlying42 II.out Z0.out Z1.out Z2.out rfl (by decide) (.slice a20 (0 + 1) c20) (0 + 1) ([] ++ pcs l1) rfl E20.out ⟨g2, 0, none⟩ m2 uc2 (pcs l2) rfl (by rw [pcs_len, HM2.out]) (fun j u hu => (World.cell?_of_block (a := (⟨g2, 0, none⟩ : Addr).add j) (by rw [Addr.add_lit]; exact G20.out.block g2 LG2.out (by intro e; cases e))).trans (CE2.out j u hu)) (pcs_one l2) (by have := HLL.out; unfold maxLen; omega) (by have := HLL.out; omega) G20.out.size ?_; intro v21 w21 hown' hgrow hnil hloc; have E21 := Lib.hid hown'; have G21 := Lib.hid hgrow; obtain ⟨a21, c21, hv21⟩ := own_form hown'; subst hv21; clear hown' hgrow hnil hloc; have BF0 : Below W18.heap.size W18 w20 := ⟨G20.out.os, G20.out.tape, G20.out.output, G20.out.size, fun g hg => G20.out.block g hg (by intro e; cases e)⟩; have BF : Hid (Below W18.heap.size W18 w21) := BF0.trans (Below.grown (Below.refl _ _) G21.out G20.out.size (fun j e => (World.ownsRow.lt E20.out j e).1)); clear BF0; have BFX : Hid (Below W2.heap.size W2 w21) := BCX.out.trans (BF.out.mono QB.out); have RFL := Lib.hid (RFX.out.below BF.out RFX.out.lt); have RBL := Lib.hid (RB2.out.below BFX.out OA.out.2.1); have u0 := RFL.out.cell (i := 0) rfl; have u1 := RFL.out.cell (i := 1) rfl; have u2 := RFL.out.cell (i := 2) rfl; have u3 := RFL.out.cell (i := 3) rfl; have gg0 := RBL.out.cell (i := 0) rfl; have gg1 := RBL.out.cell (i := 1) rfl; have gg2 := RBL.out.cell (i := 2) rfl; have gg3 := RBL.out.cell (i := 3) rfl; have gf0 := RBL.out.fr (i := 0); have gf1 := RBL.out.fr (i := 1); have gf2 := RBL.out.fr (i := 2); have gf3 := RBL.out.fr (i := 3); obtain ⟨WZ, hWZ⟩ : ∃ WZ, (((w21.setCell ⟨B, 0, none⟩ (.slice a5 n5 c5)).setCell ⟨B, 1, none⟩ (.int .i64 ex)).setCell ⟨B, 2, none⟩ (.int .i64 ey)).setCell ⟨B, 3, none⟩ (.bool fe) = WZ := ⟨_, rfl⟩; have rWZ : Row WZ B 65 [.slice a5 n5 c5, .int .i64 ex, .int .i64 ey, .bool fe] := (by rw [← hWZ]; exact (((RBL.out.set (i := 0) _).set (i := 1) _).set (i := 2) _).set (i := 3) _); have RWZ := Lib.hid rWZ; clear rWZ) | (at_builtin; refine wpList_append_own_at _ rfl _ _ 42 rfl W18.heap.size 44 i0 (.agg #[.int .i64 0, .int .i64 0]) 2 16 Tryd.underlying42 II.out Z0.out Z1.out Z2.out rfl (by decide) (.slice none 0 0) 0 [] rfl (World.ownsRow_nil _ _ _ _) ⟨g1, 0, none⟩ 1 uc1 (pcs l1) rfl (by rw [pcs_len, HM1.out]) CE1.out (pcs_one l1) (by decide) (by decide) (Nat.le_refl _) ?_; intro v20 w20 hown' hgrow hnil hloc; have E20 := Lib.hid hown'; have G20 := Lib.hid hgrow; obtain ⟨a20, c20, hv20⟩ := own_form hown'; subst hv20; clear hown' hgrow hnil hloc))
    have OW := Lib.hid (show POwn w21 W18.heap.size (.slice a21 (0 + 1 + m2) c21) (l1 ++ l2) by
      refine pown_add HM1.out HM2.out ?_
      have := E21.out
      rw [List.nil_append, Nat.zero_add] at this; exact this)
    have g0 := RWZ.out.cell (i := 0) rfl; have g1' := RWZ.out.cell (i := 1) rfl; have g2' := RWZ.out.cell (i := 2) rfl; have g3 := RWZ.out.cell (i := 3) rfl
    have BZ : Hid (Below w.heap.size w WZ) := by
      have lo : w.heap.size ≤ B := by have := OA.out; omega
      have bx : Below w.heap.size w w21 := BB.out.trans (BFX.out.mono BB.out.size)
      show Below _ _ _; rw [← hWZ]; exact (((bx.setCell lo _).setCell lo _).setCell lo _).setCell lo _
    have OZ : Hid (POwn WZ w.heap.size (.slice a21 (0 + 1 + m2) c21) (l1 ++ l2)) := by
      have h1 := QB.out; have h2 := OA.out
      refine POwn.mono (base := W18.heap.size) ?_ (by omega)
      refine POwn.same OW.out (fun g e => ?_)
      have := (pown_base OW.out g e).1
      rw [← hWZ, Below.heap_setCell _ _ _ _ (by show g ≠ B; omega), Below.heap_setCell _ _ _ _ (by show g ≠ B; omega), Below.heap_setCell _ _ _ _ (by show g ≠ B; omega), Below.heap_setCell _ _ _ _ (by show g ≠ B; omega)]
    refine bodyPost_ret (by simp [results, Tryd.results30, go_sem, g0, g1', g2', g3]; rfl) rfl ?_
    exact ⟨_, _, _, a21, 0 + 1 + m2, c21, by rw [RP.out], by rw [RP.out]; exact IX.out, by rw [RP.out]; exact OZ.out, BZ.out⟩
end Go.Proofs.YthlbenldgnjgcaaDoor
