/- cmds: CmdsInverse. -/
import Derived.Test.YthlbenldgnjgcaaDoorLa
namespace Go.Proofs.YthlbenldgnjgcaaDoor
open Go.ChangeShapes Go.WideShapes Go.ChangeAt Go.RowKit Go.Joins Go.Deep

set_option maxRecDepth 100000 in
set_option maxHeartbeats 8000000 in
theorem cmdsInverse_walk (k : Int) (v : Value) (w : World) (hg : IsL w v) (gv0 : GV w) : Calls Tryd.prog 6 #[.int .i64 k, v] w fun e w' => e = .returned (.bool true) ∧ Below w.heap.size w w' := by
  obtain ⟨l, hi, hb⟩ := hg
  obtain ⟨a, cap, rfl⟩ := hi.form
  obtain ⟨n, hn⟩ : ∃ n, l.length = n := ⟨_, rfl⟩
  have II := Lib.hid hi; have HB := Lib.hid hb; have GG := Lib.hid gv0
  rw [hn] at II
  rw [hn]
  have HN := Lib.hid hn
  clear hi hb gv0 hn
  by_cases hbig : (2000 : Int) < (n : Int)
  · have LV := Lib.hid (lives_any GG.out)
    go_enter Tryd.func6, Tryd.ntmps6
    go_wp2_with fail
    refine LV.out.mono ?_; rintro e w1 ⟨rfl, b1⟩
    have B1 := Lib.hid b1
    clear b1
    go_wp2_with fail
    go_ret
    exact ⟨rfl, B1.out⟩
  have LN : Hid (n ≤ 2000) := by show _ ≤ _; omega
  have DC0 := decode_any (k := k) GG.out II.out HB.out (by have := HN.out; have := LN.out; omega)
  unfold DcPost at DC0
  cases hd : dec k l with
  | none =>
    rw [dcG_none hd] at DC0
    obtain ⟨er, her⟩ : ∃ er, dcE k l = er := ⟨_, rfl⟩
    have en : (er != 0) = true := by
      rw [← her]; unfold dcE; rw [hd]; dsimp only; split <;> decide
    rw [her] at DC0
    dsimp only at DC0
    have DC := Lib.hid DC0
    clear DC0 hd her
    go_enter Tryd.func6, Tryd.ntmps6
    go_wp2_with fail
    refine DC.out.mono ?_; rintro e w1 ⟨ga, gn, gc, rfl, hg, b1⟩
    have HG := Lib.hid hg; have B1 := Lib.hid b1
    obtain ⟨D, hD⟩ : ∃ D, w1.heap.size = D := ⟨_, rfl⟩
    obtain ⟨W2, hW2⟩ : ∃ W2, w1.alloc (.cells #[.int .i64 0, .slice none 0 0] 24) = W2 := ⟨_, rfl⟩
    have rW2 : Row W2 D 24 [.int .i64 0, .slice none 0 0] := by rw [← hW2, ← hD]; exact Row.new _ _ _
    have bW2 : Below w1.heap.size w1 W2 := by rw [← hW2]; exact (Below.refl _ _).alloc (Nat.le_refl _) _
    obtain ⟨W3, hW3⟩ : ∃ W3, (W2.setCell ⟨D, 0, none⟩ (.int .i64 0)).setCell ⟨D, 1, none⟩ (.slice ga gn gc) = W3 := ⟨_, rfl⟩
    have rW3 : Row W3 D 24 [.int .i64 0, .slice ga gn gc] := by rw [← hW3]; exact (rW2.set (i := 0) _).set (i := 1) _
    have bW3 : Below w1.heap.size w1 W3 := by rw [← hW3]; exact (bW2.setCell (by rw [hD]; exact Nat.le_refl D) _).setCell (by rw [hD]; exact Nat.le_refl D) _
    have z0 := rW2.cell (i := 0) rfl; have z1 := rW2.cell (i := 1) rfl; have zf0 := rW2.fr (i := 0); have zf1 := rW2.fr (i := 1)
    have B3 : Hid (Below w.heap.size w W3) := B1.out.trans (bW3.mono B1.out.size)
    have SM0 := same_any (k := 0) (k' := 0) (HG.out.below bW3) (rows_nil W3) (by decide) (fun l hl => by cases hl)
    rw [show decide ((0 : Int) = 0 ∧ ([] : List (List Pt)) = []) = true from decide_eq_true ⟨rfl, rfl⟩] at SM0
    have SM := Lib.hid SM0
    have x0 := rW3.cell (i := 0) rfl; have x1 := rW3.cell (i := 1) rfl
    clear hg b1 rW2 rW3 bW2 bW3 SM0 DC
    go_wp2_with fail
    refine SM.out.mono ?_; rintro e w4 ⟨rfl, b4⟩
    have B4 : Hid (Below w.heap.size w w4) := B3.out.trans (b4.mono B3.out.size)
    have LV := Lib.hid (lives_any (GG.out.below B4.out))
    clear b4
    go_wp2_with fail
    refine LV.out.mono ?_; rintro e w5 ⟨rfl, b5⟩
    have B5 := Lib.hid (B4.out.trans (b5.mono B4.out.size))
    clear b5
    go_wp2_with fail
    go_ret
    exact ⟨rfl, B5.out⟩
  | some ms =>
    obtain ⟨hc, he⟩ := dec_inv (i64s_of HB.out) hd
    have hk := (chk_zero hc).1
    rw [dcG_some hd, dcE_some hk hd] at DC0
    dsimp only at DC0
    have DC := Lib.hid DC0
    have HC := Lib.hid hc; have HE := Lib.hid he; have HK := Lib.hid hk
    have HFW := Lib.hid (few_of hc he (by have := HN.out; have := LN.out; omega))
    have CUT := Lib.hid (dec_cut (i64s_of HB.out) hd)
    have n0 : 1 ≤ n := by
      rw [← HN.out]
      cases l with
      | nil => rw [dec_nil] at hd; cases hd
      | cons x l => simp
    obtain ⟨n1, hn1⟩ : ∃ n1, n - 1 = n1 := ⟨_, rfl⟩
    have e1 : (n : Int) - 1 = (n1 : Int) := by omega
    have w1e : IntKind.i64.wrap (n1 : Int) = (n1 : Int) := by have := LN.out; rw [IntKind.wrap_i64]; omega
    have e2 : (if (n1 : Int) < 0 then (0 : Int) else (n1 : Int)) = (n1 : Int) := if_neg (by omega)
    have nn : ¬ (n1 : Int) < 0 := by omega
    have HN1 := Lib.hid hn1
    have CAP : Hid (n ≤ cap) := by
      obtain ⟨_, _, e, hq, _⟩ := II.out
      injection e with _ e2 e3
      have := HN.out
      show _ ≤ _; omega
    have nc : n1 ≤ cap := by have := CAP.out; omega
    clear DC0 hd hc he hk hn1
    go_enter Tryd.func6, Tryd.ntmps6
    go_wp2_with fail
    refine DC.out.mono ?_; rintro e w1 ⟨ga, gn, gc, rfl, hg, b1⟩
    have HG := Lib.hid hg; have B1 := Lib.hid b1
    obtain ⟨D, hD⟩ : ∃ D, w1.heap.size = D := ⟨_, rfl⟩
    obtain ⟨W2, hW2⟩ : ∃ W2, w1.alloc (.cells #[.int .i64 0, .slice none 0 0] 24) = W2 := ⟨_, rfl⟩
    have rW2 : Row W2 D 24 [.int .i64 0, .slice none 0 0] := by rw [← hW2, ← hD]; exact Row.new _ _ _
    have bW2 : Below w1.heap.size w1 W2 := by rw [← hW2]; exact (Below.refl _ _).alloc (Nat.le_refl _) _
    obtain ⟨W3, hW3⟩ : ∃ W3, (W2.setCell ⟨D, 0, none⟩ (.int .i64 k)).setCell ⟨D, 1, none⟩ (.slice ga gn gc) = W3 := ⟨_, rfl⟩
    have rW3 : Row W3 D 24 [.int .i64 k, .slice ga gn gc] := by rw [← hW3]; exact (rW2.set (i := 0) _).set (i := 1) _
    have bW3 : Below w1.heap.size w1 W3 := by rw [← hW3]; exact (bW2.setCell (by rw [hD]; exact Nat.le_refl D) _).setCell (by rw [hD]; exact Nat.le_refl D) _
    have z0 := rW2.cell (i := 0) rfl; have z1 := rW2.cell (i := 1) rfl; have zf0 := rW2.fr (i := 0); have zf1 := rW2.fr (i := 1)
    have B3 : Hid (Below w.heap.size w W3) := B1.out.trans (bW3.mono B1.out.size)
    have G3 := Lib.hid (HG.out.below bW3)
    have R3 := Lib.hid rW3
    have EN0 := encode_any (k := k) G3.out HFW.out
    rw [HC.out, show encR k ms = enc k ms from if_pos HC.out, HE.out] at EN0
    have EN := Lib.hid EN0
    have x0 := rW3.cell (i := 0) rfl; have x1 := rW3.cell (i := 1) rfl
    clear hg b1 rW2 rW3 bW2 bW3 EN0 DC
    go_wp2_with fail
    refine EN.out.mono ?_; rintro e w4 ⟨ue, rfl, hu, b4⟩
    have B4 : Hid (Below w.heap.size w w4) := B3.out.trans (b4.mono B3.out.size)
    have B34 := Lib.hid b4
    obtain ⟨au, cu, rfl⟩ := hu.form
    rw [HN.out] at hu
    rw [HN.out]
    have HU := Lib.hid hu
    have I4 : Hid (IntsAt w4 (.slice a n1 cap) l.dropLast) := by
      have := (II.out.below B4.out).init
      rw [HN1.out] at this; exact this
    have DC0 := decode_any (k := k) (GG.out.below B4.out) I4.out (fun x hx => HB.out x (List.dropLast_subset l hx)) (by rw [List.length_dropLast]; have := HN.out; have := LN.out; omega)
    unfold DcPost at DC0
    rw [dcG_none CUT.out, dcE_none HK.out CUT.out] at DC0
    dsimp only at DC0
    have DC2 := Lib.hid DC0
    clear hu b4 EN DC0 x0 x1 z0 z1 zf0 zf1
    go_wp2_with fail
    refine DC2.out.mono ?_; rintro e w5 ⟨ha, hn, hcp, rfl, _, b5⟩
    have B5 : Hid (Below w.heap.size w w5) := B4.out.trans (b5.mono B4.out.size)
    have B45 := Lib.hid b5
    clear b5 DC2
    obtain ⟨E, hE⟩ : ∃ E, w5.heap.size = E := ⟨_, rfl⟩
    obtain ⟨W6, hW6⟩ : ∃ W6, w5.alloc (.cells #[.int .i64 0, .slice none 0 0] 24) = W6 := ⟨_, rfl⟩
    have rW6 : Row W6 E 24 [.int .i64 0, .slice none 0 0] := by rw [← hW6, ← hE]; exact Row.new _ _ _
    have bW6 : Below w5.heap.size w5 W6 := by rw [← hW6]; exact (Below.refl _ _).alloc (Nat.le_refl _) _
    obtain ⟨W7, hW7⟩ : ∃ W7, (W6.setCell ⟨E, 0, none⟩ (.int .i64 0)).setCell ⟨E, 1, none⟩ (.slice ha hn hcp) = W7 := ⟨_, rfl⟩
    have rW7 : Row W7 E 24 [.int .i64 0, .slice ha hn hcp] := by rw [← hW7]; exact (rW6.set (i := 0) _).set (i := 1) _
    have bW7 : Below w5.heap.size w5 W7 := by rw [← hW7]; exact (bW6.setCell (by rw [hE]; exact Nat.le_refl E) _).setCell (by rw [hE]; exact Nat.le_refl E) _
    have z0 := rW6.cell (i := 0) rfl; have z1 := rW6.cell (i := 1) rfl; have zf0 := rW6.fr (i := 0); have zf1 := rW6.fr (i := 1)
    have B7 : Hid (Below w.heap.size w W7) := B5.out.trans (bW7.mono B5.out.size)
    have B47 : Hid (Below w4.heap.size w4 W7) := B45.out.trans (bW7.mono B45.out.size)
    have B37 : Hid (Below W3.heap.size W3 W7) := B34.out.trans (B47.out.mono B34.out.size)
    have EQ0 := equal_any (II.out.below B7.out) (HU.out.below B47.out) (by have := HN.out; have := LN.out; omega) (by have := HN.out; have := LN.out; omega)
    rw [show decide (l = l) = true from decide_eq_true rfl] at EQ0
    have EQ := Lib.hid EQ0
    have s7 := R3.out.below B37.out R3.out.lt
    have y0 := s7.cell (i := 0) rfl; have y1 := s7.cell (i := 1) rfl
    clear rW6 rW7 bW6 bW7 EQ0 s7
    go_wp2_with fail
    refine EQ.out.mono ?_; rintro e w8 ⟨rfl, qn, hw8⟩
    have bq : Below W7.heap.size W7 w8 := by rw [hw8]; exact below_drewN (Below.refl _ _) qn
    have B8 : Hid (Below w.heap.size w w8) := B7.out.trans (bq.mono B7.out.size)
    have B38 : Hid (Below W3.heap.size W3 w8) := B37.out.trans (bq.mono B37.out.size)
    have s8 := R3.out.below B38.out R3.out.lt
    have y0 := s8.cell (i := 0) rfl; have y1 := s8.cell (i := 1) rfl
    have LV := Lib.hid (lives_any (GG.out.below B8.out))
    clear bq hw8 s8 EQ
    go_wp2_with fail
    refine LV.out.mono ?_; rintro e w9 ⟨rfl, b9⟩
    have B9 := Lib.hid (B8.out.trans (b9.mono B8.out.size))
    clear b9
    go_wp2_with fail
    go_ret
    exact ⟨rfl, B9.out⟩
end Go.Proofs.YthlbenldgnjgcaaDoor
