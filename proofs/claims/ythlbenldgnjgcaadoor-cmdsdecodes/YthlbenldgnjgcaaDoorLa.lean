/- cmds: CmdsRoundTrip. -/
import Derived.Test.YthlbenldgnjgcaaDoorKz
namespace Go.Proofs.YthlbenldgnjgcaaDoor
open Go.ChangeShapes Go.WideShapes Go.ChangeAt Go.RowKit Go.Joins Go.Deep

set_option maxRecDepth 100000 in
set_option maxHeartbeats 8000000 in
theorem cmdsRoundTrip_walk (v : Value) (w : World) (hg : IsG w v) (gv0 : GV w) : Calls Tryd.prog 5 #[v] w fun e w' => e = .returned (.bool true) ∧ Below w.heap.size w w' := by
  obtain ⟨k, u, ls, rfl, hr, hl1, hl2, _, _⟩ := hg
  obtain ⟨a, cap, rfl⟩ := hr.form
  obtain ⟨n, hn⟩ : ∃ n, ls.length = n := ⟨_, rfl⟩
  obtain ⟨A, hA⟩ : ∃ A, w.heap.size = A := ⟨_, rfl⟩
  obtain ⟨W1, hW1⟩ : ∃ W1, w.alloc (.cells #[.int .i64 k, .slice a n cap] 24) = W1 := ⟨_, rfl⟩
  have r1 : Row W1 A 24 [.int .i64 k, .slice a n cap] := by rw [← hW1, ← hA]; exact Row.new _ _ _
  have b1 : Below w.heap.size w W1 := by rw [← hW1]; exact (Below.refl _ _).alloc (Nat.le_refl _) _
  have R1 := Lib.hid r1; have B1 := Lib.hid b1
  have RW := Lib.hid (hr.below b1); have GG := Lib.hid (gv0.below b1)
  have x0 := r1.cell (i := 0) rfl; have x1 := r1.cell (i := 1) rfl
  have FW := few_any (k := k) RW.out (by omega) (fun l hl => by have := hl2 l hl; omega)
  rw [hn] at RW FW
  rw [hn]
  have HN := Lib.hid hn
  obtain ⟨fw, hfw⟩ : ∃ fw, fewB ls = fw := ⟨_, rfl⟩
  rw [hfw] at FW
  have FF := Lib.hid FW; have HF := Lib.hid hfw
  clear hr hl1 hl2 r1 b1 FW hn gv0 hfw
  go_enter Tryd.func5, Tryd.ntmps5
  go_wp2_with fail
  refine FF.out.mono ?_; rintro e w3 ⟨rfl, b3⟩
  have B3 := Lib.hid b3
  have r3 := R1.out.below b3 R1.out.lt
  have x0 := r3.cell (i := 0) rfl; have x1 := r3.cell (i := 1) rfl
  clear b3 r3
  cases fw with
  | false =>
    have LV := Lib.hid (lives_any (GG.out.below B3.out))
    go_wp2_with fail
    refine LV.out.mono ?_; rintro e w4 ⟨rfl, b4⟩
    have B4 := Lib.hid (B1.out.trans ((B3.out.trans (b4.mono B3.out.size)).mono B1.out.size))
    clear b4
    go_wp2_with fail
    go_ret
    exact ⟨rfl, B4.out⟩
  | true =>
    have HFW : Hid (ls.length + tot ls ≤ 9000) := by have := HF.out; unfold fewB at this; show _ ≤ _; simpa using this
    have CK := Lib.hid (check_any (k := k) (RW.out.below B3.out) (by have := HFW.out; omega))
    obtain ⟨c, hc⟩ : ∃ c, chk k ls = c := ⟨_, rfl⟩
    rw [hc] at CK
    have HC := Lib.hid hc
    clear hc
    go_wp2_with fail
    refine CK.out.mono ?_; rintro e w4 ⟨rfl, b4⟩
    have B4 : Hid (Below W1.heap.size W1 w4) := B3.out.trans (b4.mono B3.out.size)
    have r4 := R1.out.below B4.out R1.out.lt
    have x0 := r4.cell (i := 0) rfl; have x1 := r4.cell (i := 1) rfl
    clear b4 r4 CK
    by_cases hc0 : c = 0
    rotate_left 1
    · have cb : (c != 0) = true := by simpa using hc0
      have LV := Lib.hid (lives_any (GG.out.below B4.out))
      clear hc0
      go_wp2_with fail
      refine LV.out.mono ?_; rintro e w5 ⟨rfl, b5⟩
      have B5 := Lib.hid (B1.out.trans ((B4.out.trans (b5.mono B4.out.size)).mono B1.out.size))
      clear b5
      go_wp2_with fail
      go_ret
      exact ⟨rfl, B5.out⟩
    subst hc0
    have HK := Lib.hid (chk_zero HC.out).1
    have EN0 := encode_any (k := k) (RW.out.below B4.out) HFW.out
    rw [HC.out, show encR k ls = enc k ls from if_pos HC.out] at EN0
    have EN := Lib.hid EN0
    clear EN0
    go_wp2_with fail
    refine EN.out.mono ?_; rintro e w5 ⟨ue, rfl, hu, b5⟩
    have B5 : Hid (Below W1.heap.size W1 w5) := B4.out.trans (b5.mono B4.out.size)
    have r5 := R1.out.below B5.out R1.out.lt
    have x0 := r5.cell (i := 0) rfl; have x1 := r5.cell (i := 1) rfl
    obtain ⟨au, cu, rfl⟩ := hu.form
    obtain ⟨ne, hne⟩ : ∃ ne, (enc k ls).length = ne := ⟨_, rfl⟩
    rw [hne] at hu
    have HU := Lib.hid hu
    have I6 := Lib.hid (enc_i64 HC.out (by have := HFW.out; omega))
    have L6 : Hid ((enc k ls).length ≤ 1000000) := by have := enc_len (k := k) HFW.out; show _ ≤ _; omega
    have DC0 := decode_any (k := k) (GG.out.below B5.out) HU.out I6.out L6.out
    unfold DcPost at DC0
    rw [dcG_some (dec_enc HC.out), dcE_some HK.out (dec_enc HC.out)] at DC0
    dsimp only at DC0
    have DC := Lib.hid DC0
    rw [hne]
    clear b5 r5 hu EN DC0 hne
    go_wp2_with fail
    refine DC.out.mono ?_; rintro e w6 ⟨ga, gn, gc, rfl, hg, b6⟩
    have HG := Lib.hid hg
    have B6 : Hid (Below W1.heap.size W1 w6) := B5.out.trans (b6.mono B5.out.size)
    have U6 := Lib.hid (HU.out.below b6)
    obtain ⟨D, hD⟩ : ∃ D, w6.heap.size = D := ⟨_, rfl⟩
    obtain ⟨W7, hW7⟩ : ∃ W7, w6.alloc (.cells #[.int .i64 0, .slice none 0 0] 24) = W7 := ⟨_, rfl⟩
    have rW7 : Row W7 D 24 [.int .i64 0, .slice none 0 0] := by rw [← hW7, ← hD]; exact Row.new _ _ _
    have bW7 : Below w6.heap.size w6 W7 := by rw [← hW7]; exact (Below.refl _ _).alloc (Nat.le_refl _) _
    obtain ⟨W8, hW8⟩ : ∃ W8, (W7.setCell ⟨D, 0, none⟩ (.int .i64 k)).setCell ⟨D, 1, none⟩ (.slice ga gn gc) = W8 := ⟨_, rfl⟩
    have rW8 : Row W8 D 24 [.int .i64 k, .slice ga gn gc] := by rw [← hW8]; exact (rW7.set (i := 0) _).set (i := 1) _
    have bW8 : Below w6.heap.size w6 W8 := by rw [← hW8]; exact (bW7.setCell (by rw [hD]; exact Nat.le_refl D) _).setCell (by rw [hD]; exact Nat.le_refl D) _
    have z0 := rW7.cell (i := 0) rfl; have z1 := rW7.cell (i := 1) rfl; have zf0 := rW7.fr (i := 0); have zf1 := rW7.fr (i := 1)
    have B8 : Hid (Below W1.heap.size W1 W8) := B6.out.trans (bW8.mono B6.out.size)
    have G8 := Lib.hid (HG.out.below bW8); have U8 := Lib.hid (U6.out.below bW8)
    have R8 := Lib.hid rW8
    have r8 := R1.out.below B8.out R1.out.lt
    have x0 := r8.cell (i := 0) rfl; have x1 := r8.cell (i := 1) rfl
    have hkk := HK.out
    unfold vK at hkk
    obtain ⟨m3, hm3⟩ : ∃ m3, Int.tmod k 3 = m3 := ⟨_, rfl⟩
    have M3 : m3 = k % 3 := by rw [← hm3, Int.tmod_eq_emod_of_nonneg (by omega)]
    have w3e : IntKind.i64.wrap m3 = m3 := by rw [IntKind.wrap_i64]; omega
    obtain ⟨kk, hkk2⟩ : ∃ kk, m3 + 1 = kk := ⟨_, rfl⟩
    have wkk : IntKind.i64.wrap kk = kk := by rw [IntKind.wrap_i64]; omega
    have VK : Hid (vK kk) := by show vK kk; unfold vK; omega
    have DO : Hid (dec kk (enc k ls) = none) := dec_other HC.out (by omega) (i64s_of I6.out)
    have DC0 := decode_any (k := kk) (GG.out.below B8.out) U8.out I6.out L6.out
    unfold DcPost at DC0
    rw [dcG_none DO.out, dcE_none VK.out DO.out] at DC0
    have DC2 := Lib.hid DC0
    clear hg b6 r8 rW7 rW8 bW7 bW8 DC DC0 hkk M3
    go_wp2_with fail
    refine DC2.out.mono ?_; rintro e w9 ⟨ha, hn, hcp, rfl, _, b9⟩
    have B9 : Hid (Below W1.heap.size W1 w9) := B8.out.trans (b9.mono B8.out.size)
    have B89 := Lib.hid b9
    clear hm3 w3e hkk2 wkk b9 DC2 z0 z1 zf0 zf1
    obtain ⟨E, hE⟩ : ∃ E, w9.heap.size = E := ⟨_, rfl⟩
    obtain ⟨W10, hW10⟩ : ∃ W10, w9.alloc (.cells #[.int .i64 0, .slice none 0 0] 24) = W10 := ⟨_, rfl⟩
    have rW10 : Row W10 E 24 [.int .i64 0, .slice none 0 0] := by rw [← hW10, ← hE]; exact Row.new _ _ _
    have bW10 : Below w9.heap.size w9 W10 := by rw [← hW10]; exact (Below.refl _ _).alloc (Nat.le_refl _) _
    obtain ⟨W11, hW11⟩ : ∃ W11, (W10.setCell ⟨E, 0, none⟩ (.int .i64 0)).setCell ⟨E, 1, none⟩ (.slice ha hn hcp) = W11 := ⟨_, rfl⟩
    have rW11 : Row W11 E 24 [.int .i64 0, .slice ha hn hcp] := by rw [← hW11]; exact (rW10.set (i := 0) _).set (i := 1) _
    have bW11 : Below w9.heap.size w9 W11 := by rw [← hW11]; exact (bW10.setCell (by rw [hE]; exact Nat.le_refl E) _).setCell (by rw [hE]; exact Nat.le_refl E) _
    have z0 := rW10.cell (i := 0) rfl; have z1 := rW10.cell (i := 1) rfl; have zf0 := rW10.fr (i := 0); have zf1 := rW10.fr (i := 1)
    have B11 : Hid (Below W1.heap.size W1 W11) := B9.out.trans (bW11.mono B9.out.size)
    have B811 : Hid (Below W8.heap.size W8 W11) := B89.out.trans (bW11.mono B89.out.size)
    have r11 := R1.out.below B11.out R1.out.lt
    have s11 := R8.out.below B811.out R8.out.lt
    have x0 := r11.cell (i := 0) rfl; have x1 := r11.cell (i := 1) rfl
    have y0 := s11.cell (i := 0) rfl; have y1 := s11.cell (i := 1) rfl
    have SM0 := same_any (k := k) (k' := k) (RW.out.below B11.out) (G8.out.below B811.out) (by have := HFW.out; omega) (fun l hl => by have := HFW.out; have := tot_mem hl; omega)
    rw [show decide (k = k ∧ ls = ls) = true from decide_eq_true ⟨rfl, rfl⟩] at SM0
    have SM := Lib.hid SM0
    clear r11 s11 rW10 rW11 bW10 bW11 SM0
    go_wp2_with fail
    refine SM.out.mono ?_; rintro e w12 ⟨rfl, b12⟩
    have B12 : Hid (Below W1.heap.size W1 w12) := B11.out.trans (b12.mono B11.out.size)
    have LV := Lib.hid (lives_any (GG.out.below B12.out))
    clear b12
    go_wp2_with fail
    refine LV.out.mono ?_; rintro e w13 ⟨rfl, b13⟩
    have B13 := Lib.hid (B1.out.trans ((B12.out.trans (b13.mono B12.out.size)).mono B1.out.size))
    clear b13
    go_wp2_with fail
    go_ret
    exact ⟨rfl, B13.out⟩
end Go.Proofs.YthlbenldgnjgcaaDoor
