/- cmds: Decode. -/
import Derived.Test.YthlbenldgnjgcaaDoorKv
namespace Go.Proofs.YthlbenldgnjgcaaDoor
open Go.ChangeShapes Go.WideShapes Go.ChangeAt Go.RowKit Go.Joins Go.Deep

def dcE (k : Int) (l : List Int) : Int := if vK k then (match dec k l with | some _ => 0 | none => 4) else 1
def dcG (k : Int) (l : List Int) : Int × List (List Pt) := match dec k l with | some ms => (k, ms) | none => (0, [])
theorem dec_kind {k : Int} {l : List Int} (h : ¬ vK k) : dec k l = none := by
  unfold dec
  split
  · rw [if_neg]; rw [chk_kind h]; decide
  · rfl
theorem dec_np {k : Int} {l : List Int} (h : prts k l = none) : dec k l = none := by unfold dec; rw [h]
theorem dec_bad {k : Int} {l : List Int} {ms : List (List Pt)} (h : prts k l = some ms) (hc : chk k ms ≠ 0) : dec k l = none := by unfold dec; rw [h]; dsimp only; rw [if_neg hc]
theorem dec_good {k : Int} {l : List Int} {ms : List (List Pt)} (h : prts k l = some ms) (hc : chk k ms = 0) : dec k l = some ms := by unfold dec; rw [h]; dsimp only; rw [if_pos hc]
theorem dcE_none {k : Int} {l : List Int} (hk : vK k) (h : dec k l = none) : dcE k l = 4 := by unfold dcE; rw [if_pos hk, h]
theorem dcE_some {k : Int} {l : List Int} {ms : List (List Pt)} (hk : vK k) (h : dec k l = some ms) : dcE k l = 0 := by unfold dcE; rw [if_pos hk, h]
theorem dcG_none {k : Int} {l : List Int} (h : dec k l = none) : dcG k l = (0, []) := by unfold dcG; rw [h]
theorem dcG_some {k : Int} {l : List Int} {ms : List (List Pt)} (h : dec k l = some ms) : dcG k l = (k, ms) := by unfold dcG; rw [h]
theorem rows_nil (w : World) : RowsAt w (.slice none 0 0) [] := ⟨none, 0, rfl, fun _ => ⟨rfl, rfl⟩, Or.inl rfl⟩
def I64B (l : List Int) : Prop := ∀ x ∈ l, -9223372036854775808 ≤ x ∧ x ≤ 9223372036854775807
def DcPost (w : World) (k : Int) (l : List Int) (e : Ending) (w' : World) : Prop :=
  ∃ (a : Option Addr) (n cap : Nat), e = .returned (.tuple #[gv (dcG k l).1 (.slice a n cap), .int .i64 (dcE k l)]) ∧ RowsAt w' (.slice a n cap) (dcG k l).2 ∧ Below w.heap.size w w'
set_option maxRecDepth 100000 in
set_option maxHeartbeats 8000000 in
theorem decode_any {w : World} {k : Int} {v : Value} {l : List Int} (g : GV w) (h : IntsAt w v l) (hb : I64B l) (hl : l.length ≤ 1000000) : Calls Tryd.prog 14 #[.int .i64 k, v] w (DcPost w k l) := by
  obtain ⟨A, hA⟩ : ∃ A, w.heap.size = A := ⟨_, rfl⟩
  obtain ⟨W1, hW1⟩ : ∃ W1, w.alloc (.cells #[.int .i64 0, .slice none 0 0] 24) = W1 := ⟨_, rfl⟩
  have r1 : Row W1 A 24 [.int .i64 0, .slice none 0 0] := by rw [← hW1, ← hA]; exact Row.new _ _ _
  have b1 : Below w.heap.size w W1 := by rw [← hW1]; exact (Below.refl _ _).alloc (Nat.le_refl _) _
  have s1 : W1.heap.size = A + 1 := by rw [← hW1, World.size_alloc, hA]
  have G1 := Lib.hid (g.below b1); have I1 := Lib.hid (h.below b1)
  obtain ⟨a, cap, rfl⟩ := h.form
  obtain ⟨n, hn⟩ : ∃ n, l.length = n := ⟨_, rfl⟩
  rw [hn] at I1
  rw [hn]
  have HN := Lib.hid hn; have HB := Lib.hid hb; have HL := Lib.hid hl
  have R1 := Lib.hid r1; have B1 := Lib.hid b1; have S1 := Lib.hid s1; have HA := Lib.hid hA
  have f0 := r1.fr (i := 0); have f1 := r1.fr (i := 1); have c0 := r1.cell (i := 0) rfl; have c1 := r1.cell (i := 1) rfl
  have lowA : Hid (w.heap.size ≤ A) := by show _ ≤ _; omega
  clear g h hn hb hl r1 b1
  by_cases hk : vK k
  rotate_left 1
  · have V := Lib.hid (validKind_any k)
    have hd : decide (vK k) = false := decide_eq_false hk
    rw [hd] at V
    have e1 : Hid (dcE k l = 1) := by show _ = _; unfold dcE; rw [if_neg hk]
    have e2 := Lib.hid (dcG_none (dec_kind (l := l) hk))
    have z0 := same_set R1.out (i := 0) rfl
    have z1 := same_set R1.out (i := 1) rfl
    clear hk hd s1
    go_enter Tryd.func14, Tryd.ntmps14
    go_wp2_with fail
    refine (V.out _).mono ?_; rintro e w2 ⟨rfl, hw2⟩; obtain rfl : W1 = w2 := hw2.symm
    go_wp2_with fail
    refine bodyPost_ret (by simp [results, Tryd.results14, go_sem, c0, c1]; rfl) rfl ?_
    exact ⟨none, 0, 0, by rw [e1.out, e2.out], by rw [e2.out]; exact rows_nil _, B1.out⟩
  have V := Lib.hid (validKind_any k)
  have hd : decide (vK k) = true := decide_eq_true hk
  rw [hd] at V
  have HK := Lib.hid hk
  obtain ⟨B, hB⟩ : ∃ B, W1.heap.size = B := ⟨_, rfl⟩
  obtain ⟨W2, hW2⟩ : ∃ W2, W1.alloc (.cells #[.slice a n cap, .int .i64 0, .int .i64 0] 56) = W2 := ⟨_, rfl⟩
  have r2 : Row W2 B 56 [.slice a n cap, .int .i64 0, .int .i64 0] := by rw [← hW2, ← hB]; exact Row.new _ _ _
  have b2 : Below W1.heap.size W1 W2 := by rw [← hW2]; exact (Below.refl _ _).alloc (Nat.le_refl _) _
  have RD : Hid (Rd W1 B W2 (.slice a n cap) l (0, 0)) := ⟨r2, I1.out, by rw [hB]; exact Nat.le_refl _, b2, HB.out, HL.out⟩
  have PS := Lib.hid (parts_any HK.out G1.out RD.out)
  have HBB := Lib.hid hB
  clear hk hd r2 b2 s1 c0 c1 f0 f1
  go_enter Tryd.func14, Tryd.ntmps14
  go_wp2_with fail
  refine (V.out _).mono ?_; rintro e w2 ⟨rfl, hw2⟩; obtain rfl : W1 = w2 := hw2.symm
  go_wp2_with fail
  refine PS.out.mono ?_; rintro e w4 ⟨pa, pn, pc, bo, rfl, b4, ht, hf⟩
  have B4 := Lib.hid b4
  have SA : Hid (A < W1.heap.size) := by have := S1.out; show _ < _; omega
  obtain ⟨D, hD⟩ : ∃ D, w4.heap.size = D := ⟨_, rfl⟩
  have HD := Lib.hid hD
  have R4 := Lib.hid (R1.out.below b4 SA.out)
  obtain ⟨W5, hW5⟩ : ∃ W5, w4.alloc (.cells #[.int .i64 0, .slice none 0 0] 24) = W5 := ⟨_, rfl⟩
  have r5 : Row W5 D 24 [.int .i64 0, .slice none 0 0] := by rw [← hW5, ← hD]; exact Row.new _ _ _
  have b5 : Below w4.heap.size w4 W5 := by rw [← hW5]; exact (Below.refl _ _).alloc (Nat.le_refl _) _
  obtain ⟨W6, hW6⟩ : ∃ W6, (W5.setCell ⟨D, 0, none⟩ (.int .i64 k)).setCell ⟨D, 1, none⟩ (.slice pa pn pc) = W6 := ⟨_, rfl⟩
  have r6 : Row W6 D 24 [.int .i64 k, .slice pa pn pc] := by rw [← hW6]; exact (r5.set (i := 0) _).set (i := 1) _
  have b6 : Below w4.heap.size w4 W6 := by rw [← hW6]; exact (b5.setCell (by rw [hD]; exact Nat.le_refl D) _).setCell (by rw [hD]; exact Nat.le_refl D) _
  have B6 := Lib.hid b6; have R6 := Lib.hid r6
  have d0 := r5.cell (i := 0) rfl; have d1 := r5.cell (i := 1) rfl; have df0 := r5.fr (i := 0); have df1 := r5.fr (i := 1)
  have A6 := Lib.hid (R4.out.below b6 R4.out.lt)
  have BW6 : Hid (Below W1.heap.size W1 W6) := B4.out.trans (B6.out.mono B4.out.size)
  have HT := Lib.hid ht; have HF := Lib.hid hf
  clear b4 ht hf r5 b5 r6 b6
  cases bo with
  | false =>
    have e0 := Lib.hid (dec_np (HF.out rfl))
    have e1 := Lib.hid (dcE_none HK.out e0.out)
    have e2 := Lib.hid (dcG_none e0.out)
    have c0 := A6.out.cell (i := 0) rfl; have c1 := A6.out.cell (i := 1) rfl; have f0 := A6.out.fr (i := 0); have f1 := A6.out.fr (i := 1)
    have z0 := same_set A6.out (i := 0) rfl
    have z1 := same_set A6.out (i := 1) rfl
    go_wp2_with fail
    refine bodyPost_ret (by simp [results, Tryd.results14, go_sem, c0, c1]; rfl) rfl ?_
    exact ⟨none, 0, 0, by rw [e1.out, e2.out], by rw [e2.out]; exact rows_nil _, B1.out.trans (BW6.out.mono B1.out.size)⟩
  | true =>
    obtain ⟨ms, hms, hrow, hml⟩ := HT.out rfl
    have HMS := Lib.hid hms; have HROW := Lib.hid hrow; have HML := Lib.hid hml
    have RW6 : Hid (RowsAt W6 (.slice pa pn pc) ms) := HROW.out W6 B6.out.size (fun g _ h2 => B6.out.block g h2)
    have CK := Lib.hid (check_any (k := k) RW6.out HML.out)
    clear hms hrow hml
    have y0 := R6.out.cell (i := 0) rfl; have y1 := R6.out.cell (i := 1) rfl
    by_cases hc : chk k ms = 0
    · have e0 := Lib.hid (dec_good HMS.out hc)
      have e1 := Lib.hid (dcE_some HK.out e0.out)
      have e2 := Lib.hid (dcG_some e0.out)
      have hcb : (chk k ms != 0) = false := by simpa using hc
      have HC := Lib.hid hc
      clear hc
      go_wp2_with fail
      refine CK.out.mono ?_; rintro e w7 ⟨rfl, b7⟩
      have B7 := Lib.hid b7
      have a7 := A6.out.below b7 A6.out.lt
      have r7 := R6.out.below b7 R6.out.lt
      have c0 := a7.cell (i := 0) rfl; have c1 := a7.cell (i := 1) rfl; have f0 := a7.fr (i := 0); have f1 := a7.fr (i := 1)
      have y0 := r7.cell (i := 0) rfl; have y1 := r7.cell (i := 1) rfl
      obtain ⟨W8, hW8⟩ : ∃ W8, (w7.setCell ⟨A, 0, none⟩ (.int .i64 k)).setCell ⟨A, 1, none⟩ (.slice pa pn pc) = W8 := ⟨_, rfl⟩
      have a8 : Row W8 A 24 [.int .i64 k, .slice pa pn pc] := by rw [← hW8]; exact (a7.set (i := 0) _).set (i := 1) _
      have b8 : Below w.heap.size w W8 := by
        have h1 : Below w.heap.size w w7 := B1.out.trans ((BW6.out.trans (b7.mono BW6.out.size)).mono B1.out.size)
        rw [← hW8]; exact (h1.setCell lowA.out _).setCell lowA.out _
      have RW8 : Hid (RowsAt W8 (.slice pa pn pc) ms) := by
        have h8 : ∀ g, g ≠ A → W8.heap[g]? = w7.heap[g]? := fun g hg => by rw [← hW8, Below.heap_setCell _ _ _ _ (by exact hg), Below.heap_setCell _ _ _ _ (by exact hg)]
        have s8 : w7.heap.size ≤ W8.heap.size := by rw [← hW8]; exact ((Below.refl A w7).setCell (by exact Nat.le_refl A) _).setCell (by exact Nat.le_refl A) _ |>.size
        refine HROW.out W8 (by have := B6.out.size; have := b7.size; omega) (fun g h1 h2 => ?_)
        have := HBB.out; have := S1.out; have := B6.out.size
        rw [h8 g (by omega), b7.block g (by omega), B6.out.block g h2]
      have B8 := Lib.hid b8
      have g0 := a8.cell (i := 0) rfl; have g1 := a8.cell (i := 1) rfl
      clear a7 r7 a8 b8 b7
      go_wp2_with fail
      refine bodyPost_ret (by simp [results, Tryd.results14, go_sem, g0, g1]; rfl) rfl ?_
      exact ⟨pa, pn, pc, by rw [e1.out, e2.out], by rw [e2.out]; exact RW8.out, B8.out⟩
    · have e0 := Lib.hid (dec_bad HMS.out hc)
      have e1 := Lib.hid (dcE_none HK.out e0.out)
      have e2 := Lib.hid (dcG_none e0.out)
      have hcb : (chk k ms != 0) = true := by simpa using hc
      clear hc
      go_wp2_with fail
      refine CK.out.mono ?_; rintro e w7 ⟨rfl, b7⟩
      have B7 := Lib.hid b7
      have A7 := Lib.hid (A6.out.below b7 A6.out.lt)
      have c0 := A7.out.cell (i := 0) rfl; have c1 := A7.out.cell (i := 1) rfl; have f0 := A7.out.fr (i := 0); have f1 := A7.out.fr (i := 1)
      have z0 := same_set A7.out (i := 0) rfl
      have z1 := same_set A7.out (i := 1) rfl
      clear b7
      go_wp2_with fail
      refine bodyPost_ret (by simp [results, Tryd.results14, go_sem, c0, c1]; rfl) rfl ?_
      exact ⟨none, 0, 0, by rw [e1.out, e2.out], by rw [e2.out]; exact rows_nil _, B1.out.trans ((BW6.out.trans (B7.out.mono BW6.out.size)).mono B1.out.size)⟩
end Go.Proofs.YthlbenldgnjgcaaDoor
