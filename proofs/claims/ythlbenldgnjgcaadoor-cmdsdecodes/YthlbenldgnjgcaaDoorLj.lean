/- cmds: the reference's Decode; CmdsDecodes. -/
import Derived.Test.YthlbenldgnjgcaaDoorLi
namespace Go.Proofs.YthlbenldgnjgcaaDoor
open Go.ChangeShapes Go.WideShapes Go.ChangeAt Go.RowKit Go.Joins Go.Deep

theorem rd_false {k : Int} {l : List Int} (hr : I64s l) (hl : l.length ≤ 12000) (h : (rdec k l).2 = false) : dec k l = none := by
  cases hd : dec k l with
  | none => rfl
  | some ms => rw [rdec_of hr hl hd] at h; cases h
theorem rd_bad {k : Int} {l : List Int} (hr : I64s l) (hl : l.length ≤ 12000) (hc : chk k (rdec k l).1 ≠ 0) : dec k l = none := by
  cases hd : dec k l with
  | none => rfl
  | some ms =>
    exfalso
    rw [rdec_of hr hl hd] at hc
    exact hc (dec_inv hr hd).1
theorem rd_good {k : Int} {l : List Int} (h : (rdec k l).2 = true) (hc : chk k (rdec k l).1 = 0) : dec k l = some (rdec k l).1 :=
  dec_of_rdec (by rw [← h]) hc
set_option maxRecDepth 100000 in
set_option maxHeartbeats 8000000 in
theorem decoder_any {w : World} {k : Int} {v : Value} {l : List Int} (h : IntsAt w v l) (hb : I64B l) (hl : l.length ≤ 12000) : Calls Tryd.prog 15 #[.int .i64 k, v] w (DcPost w k l) := by
  obtain ⟨A, hA⟩ : ∃ A, w.heap.size = A := ⟨_, rfl⟩
  obtain ⟨W1, hW1⟩ : ∃ W1, w.alloc (.cells #[.int .i64 0, .slice none 0 0] 24) = W1 := ⟨_, rfl⟩
  have r1 : Row W1 A 24 [.int .i64 0, .slice none 0 0] := by rw [← hW1, ← hA]; exact Row.new _ _ _
  have b1 : Below w.heap.size w W1 := by rw [← hW1]; exact (Below.refl _ _).alloc (Nat.le_refl _) _
  have s1 : W1.heap.size = A + 1 := by rw [← hW1, World.size_alloc, hA]
  have I1 := Lib.hid (h.below b1)
  obtain ⟨a, cap, rfl⟩ := h.form
  obtain ⟨n, hn⟩ : ∃ n, l.length = n := ⟨_, rfl⟩
  rw [hn] at I1
  rw [hn]
  have HN := Lib.hid hn; have HB := Lib.hid (i64s_of hb); have HL := Lib.hid hl
  rw [hn] at HL
  have R1 := Lib.hid r1; have B1 := Lib.hid b1; have S1 := Lib.hid s1
  have f0 := r1.fr (i := 0); have f1 := r1.fr (i := 1); have c0 := r1.cell (i := 0) rfl; have c1 := r1.cell (i := 1) rfl
  have lowA : Hid (w.heap.size ≤ A) := by show _ ≤ _; omega
  have HL2 : Hid (l.length ≤ 12000) := hl
  clear h hb hl r1 b1
  by_cases hk : vK k
  rotate_left 1
  · have e1 : Hid (dcE k l = 1) := by show _ = _; unfold dcE; rw [if_neg hk]
    have e2 := Lib.hid (dcG_none (dec_kind (l := l) hk))
    have z0 := same_set R1.out (i := 0) rfl
    have z1 := same_set R1.out (i := 1) rfl
    unfold vK at hk
    clear s1 hn
    by_cases k1 : k < 1
    · clear hk
      go_enter Tryd.func15, Tryd.ntmps15
      go_wp2_with fail
      refine bodyPost_ret (by simp [results, Tryd.results15, go_sem, c0, c1]; rfl) rfl ?_
      exact ⟨none, 0, 0, by rw [e1.out, e2.out], by rw [e2.out]; exact rows_nil _, B1.out⟩
    · have k3 : 3 < k := by omega
      clear hk
      go_enter Tryd.func15, Tryd.ntmps15
      go_wp2_with fail
      refine bodyPost_ret (by simp [results, Tryd.results15, go_sem, c0, c1]; rfl) rfl ?_
      exact ⟨none, 0, 0, by rw [e1.out, e2.out], by rw [e2.out]; exact rows_nil _, B1.out⟩
  have HK := Lib.hid hk
  unfold vK at hk
  have k1 : ¬ k < 1 := by omega
  have k3 : ¬ 3 < k := by omega
  have PS := Lib.hid (rdecode_any (k := k) I1.out (by have := HL2.out; omega))
  clear hk s1 hn c0 c1 f0 f1
  go_enter Tryd.func15, Tryd.ntmps15
  go_wp2_with fail
  refine PS.out.mono ?_; rintro e w4 ⟨pa, pn, pc, bo, rfl, b4, hbo, ht⟩
  have B4 := Lib.hid b4
  have SA : Hid (A < W1.heap.size) := by have := S1.out; show _ < _; omega
  obtain ⟨D, hD⟩ : ∃ D, w4.heap.size = D := ⟨_, rfl⟩
  have R4 := Lib.hid (R1.out.below b4 SA.out)
  obtain ⟨W5, hW5⟩ : ∃ W5, w4.alloc (.cells #[.int .i64 0, .slice none 0 0] 24) = W5 := ⟨_, rfl⟩
  have r5 : Row W5 D 24 [.int .i64 0, .slice none 0 0] := by rw [← hW5, ← hD]; exact Row.new _ _ _
  have b5 : Below w4.heap.size w4 W5 := by rw [← hW5]; exact (Below.refl _ _).alloc (Nat.le_refl _) _
  obtain ⟨W6, hW6⟩ : ∃ W6, (W5.setCell ⟨D, 0, none⟩ (.int .i64 k)).setCell ⟨D, 1, none⟩ (.slice pa pn pc) = W6 := ⟨_, rfl⟩
  have r6 : Row W6 D 24 [.int .i64 k, .slice pa pn pc] := by rw [← hW6]; exact (r5.set (i := 0) _).set (i := 1) _
  have b6 : Below w4.heap.size w4 W6 := by rw [← hW6]; exact (b5.setCell (by rw [hD]; exact Nat.le_refl D) _).setCell (by rw [hD]; exact Nat.le_refl D) _
  have B6 := Lib.hid b6; have R6 := Lib.hid r6
  have d0 := r5.cell (i := 0) rfl; have d1 := r5.cell (i := 1) rfl; have df0 := r5.fr (i := 0); have df1 := r5.fr (i := 1)
  have A6 := Lib.hid (R4.out.below b6 R4.out.lt)
  have BW6 : Hid (Below W1.heap.size W1 W6) := B4.out.trans (B6.out.mono B4.out.size)
  have HT := Lib.hid ht; have HBO := Lib.hid hbo
  clear b4 ht hbo r5 b5 r6 b6
  cases bo with
  | false =>
    have e0 := Lib.hid (rd_false HB.out HL2.out HBO.out.symm)
    have e1 := Lib.hid (dcE_none HK.out e0.out)
    have e2 := Lib.hid (dcG_none e0.out)
    have c0 := A6.out.cell (i := 0) rfl; have c1 := A6.out.cell (i := 1) rfl; have f0 := A6.out.fr (i := 0); have f1 := A6.out.fr (i := 1)
    have z0 := same_set A6.out (i := 0) rfl
    have z1 := same_set A6.out (i := 1) rfl
    go_wp2_with fail
    refine bodyPost_ret (by simp [results, Tryd.results15, go_sem, c0, c1]; rfl) rfl ?_
    exact ⟨none, 0, 0, by rw [e1.out, e2.out], by rw [e2.out]; exact rows_nil _, B1.out.trans (BW6.out.mono B1.out.size)⟩
  | true =>
    obtain ⟨hrow, hml⟩ := HT.out rfl
    have HROW := Lib.hid hrow; have HML := Lib.hid hml
    obtain ⟨ms, hms⟩ : ∃ ms, (rdec k l).1 = ms := ⟨_, rfl⟩
    rw [hms] at HROW HML
    have HMS := Lib.hid hms
    have RW6 : Hid (RowsAt W6 (.slice pa pn pc) ms) := HROW.out W6 B6.out.size (fun g _ h2 => B6.out.block g h2)
    have CK := Lib.hid (checkr_any (k := k) RW6.out HML.out)
    clear hms hrow hml
    have y0 := R6.out.cell (i := 0) rfl; have y1 := R6.out.cell (i := 1) rfl
    by_cases hc : chk k ms = 0
    · have e0 : Hid (dec k l = some ms) := by
        have := rd_good HBO.out.symm (by rw [HMS.out]; exact hc)
        rw [HMS.out] at this; exact this
      have e1 := Lib.hid (dcE_some HK.out e0.out)
      have e2 := Lib.hid (dcG_some e0.out)
      have hcb : (chk k ms != 0) = false := by simpa using hc
      have HC := Lib.hid hc
      clear hc
      go_wp2_with fail
      refine CK.out.mono ?_; rintro e w7 ⟨rfl, b7⟩
      have B7 := Lib.hid b7
      have a7 := A6.out.below b7 A6.out.lt
      have r7 := R6.out.below b7 R6.out.lt
      have c0 := a7.cell (i := 0) rfl; have c1 := a7.cell (i := 1) rfl; have f0 := a7.fr (i := 0); have f1 := a7.fr (i := 1)
      have y0 := r7.cell (i := 0) rfl; have y1 := r7.cell (i := 1) rfl
      obtain ⟨W8, hW8⟩ : ∃ W8, (w7.setCell ⟨A, 0, none⟩ (.int .i64 k)).setCell ⟨A, 1, none⟩ (.slice pa pn pc) = W8 := ⟨_, rfl⟩
      have a8 : Row W8 A 24 [.int .i64 k, .slice pa pn pc] := by rw [← hW8]; exact (a7.set (i := 0) _).set (i := 1) _
      have b8 : Below w.heap.size w W8 := by
        have h1 : Below w.heap.size w w7 := B1.out.trans ((BW6.out.trans (b7.mono BW6.out.size)).mono B1.out.size)
        rw [← hW8]; exact (h1.setCell lowA.out _).setCell lowA.out _
      have RW8 : Hid (RowsAt W8 (.slice pa pn pc) ms) := by
        have h8 : ∀ g, g ≠ A → W8.heap[g]? = w7.heap[g]? := fun g hg => by rw [← hW8, Below.heap_setCell _ _ _ _ (by exact hg), Below.heap_setCell _ _ _ _ (by exact hg)]
        have s8 : w7.heap.size ≤ W8.heap.size := by rw [← hW8]; exact ((Below.refl A w7).setCell (by exact Nat.le_refl A) _).setCell (by exact Nat.le_refl A) _ |>.size
        refine HROW.out W8 (by have := B6.out.size; have := b7.size; omega) (fun g h1 h2 => ?_)
        have := S1.out; have := B6.out.size
        rw [h8 g (by omega), b7.block g (by omega), B6.out.block g h2]
      have B8 := Lib.hid b8
      have g0 := a8.cell (i := 0) rfl; have g1 := a8.cell (i := 1) rfl
      clear a7 r7 a8 b8 b7
      go_wp2_with fail
      refine bodyPost_ret (by simp [results, Tryd.results15, go_sem, g0, g1]; rfl) rfl ?_
      exact ⟨pa, pn, pc, by rw [e1.out, e2.out], by rw [e2.out]; exact RW8.out, B8.out⟩
    · have e0 := Lib.hid (rd_bad (k := k) HB.out HL2.out (by rw [HMS.out]; exact hc))
      have e1 := Lib.hid (dcE_none HK.out e0.out)
      have e2 := Lib.hid (dcG_none e0.out)
      have hcb : (chk k ms != 0) = true := by simpa using hc
      clear hc
      go_wp2_with fail
      refine CK.out.mono ?_; rintro e w7 ⟨rfl, b7⟩
      have B7 := Lib.hid b7
      have A7 := Lib.hid (A6.out.below b7 A6.out.lt)
      have c0 := A7.out.cell (i := 0) rfl; have c1 := A7.out.cell (i := 1) rfl; have f0 := A7.out.fr (i := 0); have f1 := A7.out.fr (i := 1)
      have z0 := same_set A7.out (i := 0) rfl
      have z1 := same_set A7.out (i := 1) rfl
      clear b7
      go_wp2_with fail
      refine bodyPost_ret (by simp [results, Tryd.results15, go_sem, c0, c1]; rfl) rfl ?_
      exact ⟨none, 0, 0, by rw [e1.out, e2.out], by rw [e2.out]; exact rows_nil _, B1.out.trans ((BW6.out.trans (B7.out.mono BW6.out.size)).mono B1.out.size)⟩
theorem dcG_small {k : Int} {l : List Int} (hr : I64s l) (hl : l.length ≤ 2000) : (dcG k l).2.length ≤ 1000000 ∧ ∀ m ∈ (dcG k l).2, m.length ≤ 1000000 := by
  unfold dcG
  cases hd : dec k l with
  | none => exact ⟨by simp, fun m hm => by cases hm⟩
  | some ms =>
    obtain ⟨hc, he⟩ := dec_inv hr hd
    have h1 := few_of hc he hl
    exact ⟨by dsimp only; omega, fun m hm => by have := tot_mem hm; dsimp only at this; omega⟩
set_option maxRecDepth 100000 in
set_option maxHeartbeats 8000000 in
theorem cmdsDecodes_walk (k : Int) (v : Value) (w : World) (hg : IsL w v) (gv0 : GV w) : Calls Tryd.prog 4 #[.int .i64 k, v] w fun e w' => e = .returned (.bool true) ∧ Below w.heap.size w w' := by
  obtain ⟨l, hi, hb⟩ := hg
  obtain ⟨a, cap, rfl⟩ := hi.form
  obtain ⟨n, hn⟩ : ∃ n, l.length = n := ⟨_, rfl⟩
  have II := Lib.hid hi; have HB := Lib.hid hb; have GG := Lib.hid gv0
  rw [hn] at II
  rw [hn]
  have HN := Lib.hid hn
  clear hi hb gv0 hn
  by_cases hbig : (2000 : Int) < (n : Int)
  · have LV := Lib.hid (lives_any GG.out)
    go_enter Tryd.func4, Tryd.ntmps4
    go_wp2_with fail
    refine LV.out.mono ?_; rintro e w1 ⟨rfl, b1⟩
    have B1 := Lib.hid b1
    clear b1
    go_wp2_with fail
    go_ret
    exact ⟨rfl, B1.out⟩
  have LN : Hid (n ≤ 2000) := by show _ ≤ _; omega
  have DC0 := decode_any (k := k) GG.out II.out HB.out (by have := HN.out; have := LN.out; omega)
  have SML := Lib.hid (dcG_small (k := k) (i64s_of HB.out) (by have := HN.out; have := LN.out; omega))
  unfold DcPost at DC0
  obtain ⟨⟨gk, gms⟩, hG⟩ : ∃ z, dcG k l = z := ⟨_, rfl⟩
  obtain ⟨ge, hE⟩ : ∃ z, dcE k l = z := ⟨_, rfl⟩
  have HG := Lib.hid hG; have HE := Lib.hid hE
  rw [hG, hE] at DC0
  rw [hG] at SML
  dsimp only at DC0 SML
  have DC := Lib.hid DC0
  clear DC0 hG hE
  go_enter Tryd.func4, Tryd.ntmps4
  go_wp2_with fail
  refine DC.out.mono ?_; rintro e w1 ⟨ga, gn, gc, rfl, hg, b1⟩
  have HR := Lib.hid hg; have B1 := Lib.hid b1
  obtain ⟨D, hD⟩ : ∃ D, w1.heap.size = D := ⟨_, rfl⟩
  obtain ⟨W2, hW2⟩ : ∃ W2, w1.alloc (.cells #[.int .i64 0, .slice none 0 0] 24) = W2 := ⟨_, rfl⟩
  have rW2 : Row W2 D 24 [.int .i64 0, .slice none 0 0] := by rw [← hW2, ← hD]; exact Row.new _ _ _
  have bW2 : Below w1.heap.size w1 W2 := by rw [← hW2]; exact (Below.refl _ _).alloc (Nat.le_refl _) _
  obtain ⟨W3, hW3⟩ : ∃ W3, (W2.setCell ⟨D, 0, none⟩ (.int .i64 gk)).setCell ⟨D, 1, none⟩ (.slice ga gn gc) = W3 := ⟨_, rfl⟩
  have rW3 : Row W3 D 24 [.int .i64 gk, .slice ga gn gc] := by rw [← hW3]; exact (rW2.set (i := 0) _).set (i := 1) _
  have bW3 : Below w1.heap.size w1 W3 := by rw [← hW3]; exact (bW2.setCell (by rw [hD]; exact Nat.le_refl D) _).setCell (by rw [hD]; exact Nat.le_refl D) _
  have z0 := rW2.cell (i := 0) rfl; have z1 := rW2.cell (i := 1) rfl; have zf0 := rW2.fr (i := 0); have zf1 := rW2.fr (i := 1)
  have B3 : Hid (Below w.heap.size w W3) := B1.out.trans (bW3.mono B1.out.size)
  have R3 := Lib.hid rW3; have HR3 := Lib.hid (HR.out.below bW3)
  have DR0 := decoder_any (k := k) (II.out.below B3.out) HB.out (by have := HN.out; have := LN.out; omega)
  unfold DcPost at DR0
  rw [HG.out, HE.out] at DR0
  dsimp only at DR0
  have DR := Lib.hid DR0
  clear hg b1 DR0 rW2 rW3 bW2 bW3 DC
  go_wp2_with fail
  refine DR.out.mono ?_; rintro e w4 ⟨ha, hn, hc, rfl, hh, b4⟩
  have HS := Lib.hid hh; have B4 := Lib.hid b4
  clear z0 z1 zf0 zf1
  obtain ⟨E, hE⟩ : ∃ E, w4.heap.size = E := ⟨_, rfl⟩
  obtain ⟨W5, hW5⟩ : ∃ W5, w4.alloc (.cells #[.int .i64 0, .slice none 0 0] 24) = W5 := ⟨_, rfl⟩
  have rW5 : Row W5 E 24 [.int .i64 0, .slice none 0 0] := by rw [← hW5, ← hE]; exact Row.new _ _ _
  have bW5 : Below w4.heap.size w4 W5 := by rw [← hW5]; exact (Below.refl _ _).alloc (Nat.le_refl _) _
  obtain ⟨W6, hW6⟩ : ∃ W6, (W5.setCell ⟨E, 0, none⟩ (.int .i64 gk)).setCell ⟨E, 1, none⟩ (.slice ha hn hc) = W6 := ⟨_, rfl⟩
  have rW6 : Row W6 E 24 [.int .i64 gk, .slice ha hn hc] := by rw [← hW6]; exact (rW5.set (i := 0) _).set (i := 1) _
  have bW6 : Below w4.heap.size w4 W6 := by rw [← hW6]; exact (bW5.setCell (by rw [hE]; exact Nat.le_refl E) _).setCell (by rw [hE]; exact Nat.le_refl E) _
  have z0 := rW5.cell (i := 0) rfl; have z1 := rW5.cell (i := 1) rfl; have zf0 := rW5.fr (i := 0); have zf1 := rW5.fr (i := 1)
  have B36 : Hid (Below W3.heap.size W3 W6) := B4.out.trans (bW6.mono B4.out.size)
  have B6 : Hid (Below w.heap.size w W6) := B3.out.trans (B36.out.mono B3.out.size)
  have s3 := R3.out.below B36.out R3.out.lt
  have x0 := s3.cell (i := 0) rfl; have x1 := s3.cell (i := 1) rfl
  have y0 := rW6.cell (i := 0) rfl; have y1 := rW6.cell (i := 1) rfl
  have SM0 := same_any (k := gk) (k' := gk) (HR3.out.below B36.out) (HS.out.below bW6) SML.out.1 SML.out.2
  rw [show decide (gk = gk ∧ gms = gms) = true from decide_eq_true ⟨rfl, rfl⟩] at SM0
  have SM := Lib.hid SM0
  clear hh b4 rW5 rW6 bW5 bW6 SM0 DR s3
  go_wp2_with fail
  refine SM.out.mono ?_; rintro e w7 ⟨rfl, b7⟩
  have B7 : Hid (Below w.heap.size w w7) := B6.out.trans (b7.mono B6.out.size)
  have LV := Lib.hid (lives_any (GG.out.below B7.out))
  clear b7
  go_wp2_with fail
  refine LV.out.mono ?_; rintro e w8 ⟨rfl, b8⟩
  have B8 := Lib.hid (B7.out.trans (b8.mono B7.out.size))
  clear b8
  go_wp2_with fail
  go_ret
  exact ⟨rfl, B8.out⟩
end Go.Proofs.YthlbenldgnjgcaaDoor
