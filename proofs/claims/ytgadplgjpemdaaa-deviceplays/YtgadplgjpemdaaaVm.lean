/- device: the reference's Write, where it succeeds. -/
import Derived.Test.YtgadplgjpemdaaaVl
set_option linter.unusedSimpArgs false
namespace Go.Proofs.Ytgadplgjpemdaaa
open Go.ChangeShapes Go.WideShapes Go.ChangeAt Go.RowKit Go.Joins Go.Deep

theorem own_cell1 {w : World} {B e n cap g q : Nat} {xs : List Value} (h : w.ownsRow B e 1 (.slice (some ⟨g, 0, none⟩) n cap) n xs) (hq : q < n) : (∃ x, w.cell? ⟨g, q, none⟩ = some x) ∧ w.frozen? ⟨g, q, none⟩ = false := by
  have hl := h.1
  rcases h.2 with ⟨e, _⟩ | ⟨g', cap', cur, e, hb, hg, h1, h2, h3, h4⟩
  · cases e
  · injection e with e1 e2 e3
    injection e1 with e1
    injection e1 with e1
    subst e1
    refine ⟨⟨cur[q]'(by omega), ?_⟩, ?_⟩
    · rw [cell_of_row w g q cur _ (0, 0) hg, Array.getElem?_eq_getElem (by omega)]
    · unfold World.frozen?; rw [hg]; simp
theorem own_le {w : World} {B B' e n : Nat} {v : Value} {xs : List Value} (h : w.ownsRow B e 1 v n xs) (hb : B' ≤ B) : w.ownsRow B' e 1 v n xs := by
  refine ⟨h.1, ?_⟩
  rcases h.2 with h0 | ⟨g, cap, cur, rfl, h2, h3⟩
  · exact Or.inl h0
  · exact Or.inr ⟨g, cap, cur, rfl, Nat.le_trans hb h2, h3⟩
theorem own_apart {w : World} {B e n : Nat} {v u : Value} {xs : List Value} (h : w.ownsRow B e 1 v n xs) (l : u.ownBlock = Value.ownBlock (.slice none 0 0) ∨ u.ownBlock = some w.heap.size) : ∀ c, v.ownBlock = some c → u.ownBlock ≠ some c := fun c hc e => by
  have h1 := (h.lt c hc).2
  rcases l with l | l
  · rw [l] at e; cases e
  · rw [l] at e; injection e with e; omega
theorem its_snoc (l : List Nat) (q : Nat) : its (l ++ [q]) = its l ++ [.int .i64 (q : Int)] := by unfold its; rw [List.map_append]; rfl
theorem sts_snoc (l : List ByteArray) (x : ByteArray) : sts (l ++ [x]) = sts l ++ [.string x] := by unfold sts; rw [List.map_append]; rfl
set_option maxRecDepth 100000 in
set_option maxHeartbeats 8000000 in
theorem writer_ed (w : World) (B : Nat) (pB : Addr) (aF : Option Addr) (nB kB nF kF : Nat) (bs : List ByteArray) (left : Int) (q : Nat) (s : ByteArray) (hB : w.ownsRow B 9 1 (.slice (some pB) nB kB) nB (sts bs)) (hq : q < nB) (h64 : s.size ≤ 64) (hl : 0 < left ∧ left ≤ 9223372036854775807) (hn : nB ≤ 1000) :
    Calls Try.prog 12 #[rv false (.slice (some pB) nB kB) (.slice aF nF kF) (.slice none 0 0) (.slice none 0 0) left, .int .i64 (q : Int), .string s] w fun e w' => ∃ a1 k1 a2 k2 a3 k3, e = .returned (.tuple #[rv false (.slice a1 nB k1) (.slice aF nF kF) (.slice a2 1 k2) (.slice a3 1 k3) (left - 1), .int .i64 0]) ∧
      w'.ownsRow w.heap.size 9 1 (.slice a1 nB k1) nB (sts (bs.set q (padS s))) ∧ w'.ownsRow w.heap.size 3 1 (.slice a2 1 k2) 1 (its [q]) ∧ w'.ownsRow w.heap.size 9 1 (.slice a3 1 k3) 1 (sts [padS s]) ∧ Below w.heap.size w w' := by
  obtain ⟨bx, hbx⟩ : ∃ bx, w.heap.size = bx := ⟨_, rfl⟩
  obtain ⟨W1, hW1⟩ : ∃ W1, w.alloc (.cells #[.bool false, .slice (some pB) nB kB, .slice aF nF kF, .slice none 0 0, .slice none 0 0, .int .i64 left] 31) = W1 := ⟨_, rfl⟩
  have r1 : Row W1 bx 31 [.bool false, (.slice (some pB) nB kB), (.slice aF nF kF), (.slice none 0 0), (.slice none 0 0), .int .i64 left] := by rw [← hW1, ← hbx]; exact Row.new _ _ _
  obtain ⟨rb, hrb⟩ : ∃ rb, W1.heap.size = rb := ⟨_, rfl⟩
  obtain ⟨W2, hW2⟩ : ∃ W2, W1.alloc (.cells #[.bool false, .slice none 0 0, .slice none 0 0, .slice none 0 0, .slice none 0 0, .int .i64 0] 31) = W2 := ⟨_, rfl⟩
  have q2 : Row W2 rb 31 zcs := by rw [← hW2, ← hrb]; exact Row.new _ _ _
  have r2 : Row W2 bx 31 [.bool false, (.slice (some pB) nB kB), (.slice aF nF kF), (.slice none 0 0), (.slice none 0 0), .int .i64 left] := r1.same (by rw [← hW2]; exact Below.heap_alloc _ _ _ r1.lt)
  have b2 : Below bx w W2 := by rw [← hW2, ← hW1, ← hbx]; exact ((Below.refl _ _).alloc (Nat.le_refl _) _).alloc (by rw [size_al]; omega) _
  have hlt : bx < rb := by rw [← hrb, ← hW1, size_al, ← hbx]; omega
  obtain ⟨ld, hld⟩ : ∃ ld, left - 1 = ld := ⟨_, rfl⟩
  have lw : IntKind.i64.wrap ld = ld := by rw [← hld, IntKind.wrap_i64]; omega
  obtain ⟨W3, hW3⟩ : ∃ W3, W2.setCell ⟨bx, 5, none⟩ (.int .i64 ld) = W3 := ⟨_, rfl⟩
  have r3 : Row W3 bx 31 [.bool false, (.slice (some pB) nB kB), (.slice aF nF kF), (.slice none 0 0), (.slice none 0 0), .int .i64 ld] := by rw [← hW3]; exact r2.set (i := 5) _
  have q3 : Row W3 rb 31 zcs := q2.same (by rw [← hW3]; exact Below.heap_setCell _ _ _ _ (show rb ≠ bx by omega))
  have b3 : Below bx w W3 := by rw [← hW3]; exact b2.setCell (Nat.le_refl _) _
  have y5 := r2.cell (i := 5) rfl; have yf5 := r2.fr (i := 5)
  have dl : decide (0 < left) = true := by simp; omega
  have l0 : (left == 0) = false := by simp; omega
  have y0 := r2.cell (i := 0) rfl; have y1 := r2.cell (i := 1) rfl; have y5' := r2.cell (i := 5) rfl
  have x1 := r3.cell (i := 1) rfl
  have R3 := Lib.hid r3; have Q3 := Lib.hid q3; have B3 := Lib.hid b3
  have LT : Hid (bx < rb ∧ rb < W3.heap.size) := ⟨hlt, q3.lt⟩
  have HB := Lib.hid hB
  have BW : Hid (Below w.heap.size w W3) := by show Below _ _ _; rw [hbx]; exact b3
  have HX := Lib.hid hbx
  have NN := Lib.hid hn
  have LB : Hid ((sts bs).length = nB * 1) := by have := hB.1; show _ = _; omega
  have HQ := Lib.hid hq; have H64 := Lib.hid h64
  have qi : decide ((q : Int) < 0) = false := by simp
  have qi' : ¬ (q : Int) < 0 := by omega
  have qn : decide ((nB : Int) ≤ (q : Int)) = false := by simp; omega
  have qn' : decide (nB ≤ q) = false := by simp; omega
  have qn'' : ¬ (nB : Int) ≤ (q : Int) := by omega
  have q0 : (0 : Int) ≤ (q : Int) := by omega
  have ql : (q : Int) < (nB : Int) := by omega
  have s1 : decide ((64 : Int) < (s.size : Int)) = false := by simp; omega
  have s1a : decide (64 < s.size) = false := by simp; omega
  have s1b : ¬ (64 : Int) < (s.size : Int) := by omega
  obtain ⟨i3, hi3, hz30, hz31, hz32⟩ := info_parts (show (Try.prog.info? 3).map (fun i => (i.zero, i.size, i.bytes)) = some (some (.int .i64 0), 1, 8) by kernel_rfl)
  have II3 := Lib.hid hi3; have Z30 := Lib.hid hz30; have Z31 := Lib.hid hz31; have Z32 := Lib.hid hz32
  obtain ⟨i9, hi9, hz90, hz91, hz92⟩ := info_parts (show (Try.prog.info? 9).map (fun i => (i.zero, i.size, i.bytes)) = some (some (.string ByteArray.empty), 1, 16) by kernel_rfl)
  have II9 := Lib.hid hi9; have Z90 := Lib.hid hz90; have Z91 := Lib.hid hz91; have Z92 := Lib.hid hz92
  clear r1 r2 r3 q2 q3 b2 b3 hlt hB hq h64 hn hi3 hz30 hz31 hz32 hi9 hz90 hz91 hz92 hl
  go_enter Try.func12, Try.ntmps12
  go_wp2_with (at_builtin; refine wpList_append_own_at _ rfl _ _ 28 rfl (rb + 1) 9 i9 (.string ByteArray.empty) 1 16 Try.underlying28 II9.out Z90.out Z91.out Z92.out rfl (by decide) (.slice none 0 0) 0 [] rfl (World.ownsRow_nil _ _ _ _) pB nB kB (sts bs) rfl LB.out (own_news HB.out BW.out) (sts_one _) (by have := NN.out; unfold maxLen; omega) (by have := NN.out; omega) (by have := LT.out; omega) ?_; intro v1 w5 ho1 hg1 hn1 hl1; have O1 := (Lib.hid ho1); have G1 := (Lib.hid hg1); clear ho1 hg1 hn1 hl1)
  rw [Nat.zero_add, List.nil_append] at O1
  have S5 : Hid (W3.heap.size ≤ w5.heap.size) := G1.out.size
  obtain ⟨g1, k1, he1, hb1⟩ : ∃ g1 k1, v1 = .slice (some ⟨g1, 0, none⟩) nB k1 ∧ rb + 1 ≤ g1 := by
    rcases O1.out.2 with ⟨_, h⟩ | ⟨g, cap, cur, e, hb, _⟩
    · have := HQ.out; omega
    · exact ⟨g, cap, e, hb⟩
  subst he1
  have HB1 := Lib.hid hb1
  have R5 := Lib.hid (R3.out.same (G1.out.block bx (by have := LT.out; omega) (fun e => by cases e)))
  have Q5 := Lib.hid (Q3.out.same (G1.out.block rb LT.out.2 (fun e => by cases e)))
  have B5 := Lib.hid (B3.out.grown G1.out (by have := LT.out; omega) (fun k e => by cases e))
  clear hb1 x1 y0 y1 y5'
  refine (pad_any s H64.out w5).mono ?_; rintro e w6 ⟨rfl, b⟩
  have O6 := Lib.hid (own_below O1.out b); have R6 := Lib.hid (R5.out.below b R5.out.lt); have Q6 := Lib.hid (Q5.out.below b Q5.out.lt)
  have B6 := Lib.hid (B5.out.trans (b.mono (Nat.le_of_lt R5.out.lt))); have S6 : Hid (w5.heap.size ≤ w6.heap.size) := b.size
  clear b
  obtain ⟨ps0, hps0⟩ : ∃ z, padS s = z := ⟨_, rfl⟩
  rw [hps0]
  have HPS := Lib.hid hps0
  obtain ⟨⟨mx, m1⟩, m2⟩ := own_cell1 O6.out HQ.out
  obtain ⟨W7, hW7⟩ : ∃ W7, w6.setCell ⟨g1, q, none⟩ (.string ps0) = W7 := ⟨_, rfl⟩
  have O7 := own_set1 O6.out (q := q) (.string ps0)
  rw [hW7] at O7
  have r7 := R6.out.same (show W7.heap[bx]? = w6.heap[bx]? by rw [← hW7]; exact Below.heap_setCell _ _ _ _ (show bx ≠ g1 by have := HB1.out; have := LT.out; omega))
  have q7 := Q6.out.same (show W7.heap[rb]? = w6.heap[rb]? by rw [← hW7]; exact Below.heap_setCell _ _ _ _ (show rb ≠ g1 by have := HB1.out; omega))
  have b7 : Below bx w W7 := by rw [← hW7]; exact B6.out.setCell (show bx ≤ g1 by have := HB1.out; have := LT.out; omega) _
  have y1 := r7.cell (i := 1) rfl; have yf1 := r7.fr (i := 1)
  obtain ⟨W8, hW8⟩ : ∃ W8, W7.setCell ⟨bx, 1, none⟩ (.slice (some ⟨g1, 0, none⟩) nB k1) = W8 := ⟨_, rfl⟩
  have r8 : Row W8 bx 31 [.bool false, (.slice (some ⟨g1, 0, none⟩) nB k1), (.slice aF nF kF), (.slice none 0 0), (.slice none 0 0), .int .i64 ld] := by rw [← hW8]; exact r7.set (i := 1) _
  have R8 := Lib.hid r8
  have Q8 := Lib.hid (q7.same (show W8.heap[rb]? = W7.heap[rb]? by rw [← hW8]; exact Below.heap_setCell _ _ _ _ (show rb ≠ bx by have := LT.out; omega)))
  have O8 := Lib.hid (own_same O7 (fun c hc => show W8.heap[c]? = W7.heap[c]? by rw [← hW8]; exact Below.heap_setCell _ _ _ _ (show c ≠ bx by have h1 := (O7.lt c hc).1; have := LT.out; omega)))
  have B8 : Hid (Below bx w W8) := by show Below _ _ _; rw [← hW8]; exact b7.setCell (Nat.le_refl _) _
  have BW8 : Hid (Below w.heap.size w W8) := by show Below _ _ _; rw [HX.out]; exact B8.out
  have x3 := r8.cell (i := 3) rfl
  have LT8 : Hid (rb < W8.heap.size) := Q8.out.lt
  clear O7 r7 q7 b7 r8 hps0
  go_wp2_with (first | (at_builtin; refine wpList_append_own_at _ rfl _ _ 29 rfl (rb + 1) 3 i3 (.int .i64 0) 1 8 Try.underlying29 II3.out Z30.out Z31.out Z32.out rfl (by decide) (.slice none 0 0) 0 [] rfl (World.ownsRow_nil _ _ _ _) ⟨W8.heap.size, 0, none⟩ 1 1 [.int .i64 (q : Int)] rfl rfl (cell_one_new _ _ _) (by simp [Value.oneCell']) (by have := NN.out; unfold maxLen; omega) (by have := NN.out; omega) (by have h1 := Q8.out.lt; simp <;> omega) ?_; intro v3 w10 ho3 hg3 hn3 hl3; have O3 := (Lib.hid ho3); have G3 := (Lib.hid hg3); obtain ⟨a3, k3, he3⟩ := row_form1 ho3; subst he3; have E3 : Hid (∀ c, c < W8.heap.size → w10.heap[c]? = W8.heap[c]?) := (fun c hc => by rw [hg3.block c (by rw [size_al]; omega) (fun e => by cases e)]; exact Below.heap_alloc _ _ _ hc); clear ho3 hg3 hn3 hl3; have R10 := (Lib.hid (R8.out.same (E3.out bx R8.out.lt ))); have Q10 := (Lib.hid (Q8.out.same (E3.out rb Q8.out.lt ))); have O10 := (Lib.hid (own_same O8.out (fun c hc => E3.out c (O8.out.lt c hc).2 ))); have B10 := (Lib.hid ((B8.out.alloc (by have h1 := R8.out.lt; omega) _).grown G3.out (by have h1 := R8.out.lt; simp <;> omega) (fun k e => by cases e))); have z3 := (R10.out.cell (i := 3) rfl); have zf3 := (R10.out.fr (i := 3)); obtain ⟨W11, hW11⟩ : ∃ W11, w10.setCell ⟨bx, 3, none⟩ (.slice a3 (0 + 1) k3) = W11 := ⟨_, rfl⟩; have R11 : Hid (Row W11 bx 31 [.bool false, (.slice (some ⟨g1, 0, none⟩) nB k1), (.slice aF nF kF), (.slice a3 (0 + 1) k3), (.slice none 0 0), .int .i64 ld]) := (by show Row _ _ _ _; rw [← hW11]; exact R10.out.set (i := 3) _); have F11 : Hid (∀ c, c ≠ bx → W11.heap[c]? = w10.heap[c]?) := (fun c hc => by rw [← hW11]; exact Below.heap_setCell _ _ _ _ (by exact hc)); have Q11 := (Lib.hid (Q10.out.same (F11.out rb (by have := LT.out; omega)))); have O11 := (Lib.hid (own_same O10.out (fun c hc => F11.out c (by have h1 := (O10.out.lt c hc).1; have := LT.out; omega)))); have P11 := (Lib.hid (own_same O3.out (fun c hc => F11.out c (by have h1 := (O3.out.lt c hc).1; have := LT.out; omega)))); have B11 : Hid (Below bx w W11) := (by show Below _ _ _; rw [← hW11]; exact B10.out.setCell (Nat.le_refl _) _); have BW11 : Hid (Below w.heap.size w W11) := (by show Below _ _ _; rw [HX.out]; exact B11.out); have LT11 : Hid (rb < W11.heap.size) := (Q11.out.lt); have x4 := (R11.out.cell (i := 4) rfl)))
  refine (pad_any s H64.out W11).mono ?_; rintro e w13 ⟨rfl, b⟩
  have R13 := Lib.hid (R11.out.below b R11.out.lt); have Q13 := Lib.hid (Q11.out.below b Q11.out.lt); have O13 := Lib.hid (own_below O11.out b); have P13 := Lib.hid (own_below P11.out b)
  have B13 := Lib.hid (B11.out.trans (b.mono (Nat.le_of_lt R11.out.lt)))
  have S13 : Hid (W11.heap.size ≤ w13.heap.size) := b.size
  clear b
  rw [HPS.out]
  go_wp2_with (at_builtin; refine wpList_append_own_at _ rfl _ _ 28 rfl (rb + 1) 9 i9 (.string ByteArray.empty) 1 16 Try.underlying28 II9.out Z90.out Z91.out Z92.out rfl (by decide) (.slice none 0 0) 0 [] rfl (World.ownsRow_nil _ _ _ _) ⟨w13.heap.size, 0, none⟩ 1 1 [.string ps0] rfl rfl (cell_one_new _ _ _) (by simp [Value.oneCell']) (by have := NN.out; unfold maxLen; omega) (by have := NN.out; omega) (by have h1 := Q13.out.lt; simp <;> omega) ?_; intro v5 w14 ho5 hg5 hn5 hl5; have O5 := (Lib.hid ho5); have G5 := (Lib.hid hg5); obtain ⟨a5, k5, he5⟩ := row_form1 ho5; subst he5; have E5 : Hid (∀ c, c < w13.heap.size → w14.heap[c]? = w13.heap[c]?) := (fun c hc => by rw [hg5.block c (by rw [size_al]; omega) (fun e => by cases e)]; exact Below.heap_alloc _ _ _ hc); clear ho5 hg5 hn5 hl5; have R14 := (Lib.hid (R13.out.same (E5.out bx R13.out.lt ))); have Q14 := (Lib.hid (Q13.out.same (E5.out rb Q13.out.lt ))); have O14 := (Lib.hid (own_same O13.out (fun c hc => E5.out c (O13.out.lt c hc).2 ))); have P14 := (Lib.hid (own_same P13.out (fun c hc => E5.out c (P13.out.lt c hc).2 ))); have B14 := (Lib.hid ((B13.out.alloc (by have h1 := R13.out.lt; omega) _).grown G5.out (by have h1 := R13.out.lt; simp <;> omega) (fun k e => by cases e))); have u4 := (R14.out.cell (i := 4) rfl); have uf4 := (R14.out.fr (i := 4)); obtain ⟨W15, hW15⟩ : ∃ W15, w14.setCell ⟨bx, 4, none⟩ (.slice a5 (0 + 1) k5) = W15 := ⟨_, rfl⟩; have R15 : Hid (Row W15 bx 31 [.bool false, (.slice (some ⟨g1, 0, none⟩) nB k1), (.slice aF nF kF), (.slice a3 (0 + 1) k3), (.slice a5 (0 + 1) k5), .int .i64 ld]) := (by show Row _ _ _ _; rw [← hW15]; exact R14.out.set (i := 4) _); have F15 : Hid (∀ c, c ≠ bx → W15.heap[c]? = w14.heap[c]?) := (fun c hc => by rw [← hW15]; exact Below.heap_setCell _ _ _ _ (by exact hc)); have Q15 := (Lib.hid (Q14.out.same (F15.out rb (by have := LT.out; omega)))); have B15 : Hid (Below bx w W15) := (by show Below _ _ _; rw [← hW15]; exact B14.out.setCell (Nat.le_refl _) _); have x0 := (R15.out.cell (i := 0) rfl); have x1 := (R15.out.cell (i := 1) rfl); have x2 := (R15.out.cell (i := 2) rfl); have x3 := (R15.out.cell (i := 3) rfl); have x4 := (R15.out.cell (i := 4) rfl); have x5 := (R15.out.cell (i := 5) rfl); have c0 := (Q15.out.cell (i := 0) rfl); have c1 := (Q15.out.cell (i := 1) rfl); have c2 := (Q15.out.cell (i := 2) rfl); have c3 := (Q15.out.cell (i := 3) rfl); have c4 := (Q15.out.cell (i := 4) rfl); have c5 := (Q15.out.cell (i := 5) rfl); have cf0 := (Q15.out.fr (i := 0)); have cf1 := (Q15.out.fr (i := 1)); have cf2 := (Q15.out.fr (i := 2)); have cf3 := (Q15.out.fr (i := 3)); have cf4 := (Q15.out.fr (i := 4)); have cf5 := (Q15.out.fr (i := 5)); obtain ⟨W16, hW16, q16, b16⟩ := set6 Q15.out (.bool false) (.slice (some ⟨g1, 0, none⟩) nB k1) (.slice aF nF kF) (.slice a3 (0 + 1) k3) (.slice a5 (0 + 1) k5) (.int .i64 ld); have Q16 := (Lib.hid q16); have F16 : Hid (∀ c, c ≠ rb → W16.heap[c]? = W15.heap[c]?) := (fun c hc => by rw [← hW16]; simp only [Below.heap_setCell _ _ _ _ (show c ≠ (Addr.mk rb _ none).block from hc)]); have BF := (Lib.hid (b16 bx w (by have := LT.out; omega) B15.out)); clear q16 b16)
  have g0 := Q16.out.cell (i := 0) rfl; have g1' := Q16.out.cell (i := 1) rfl; have g2 := Q16.out.cell (i := 2) rfl; have g3 := Q16.out.cell (i := 3) rfl; have g4 := Q16.out.cell (i := 4) rfl; have g5 := Q16.out.cell (i := 5) rfl
  refine bodyPost_ret (by simp [results, Try.results12, go_sem, g0, g1', g2, g3, g4, g5]; rfl) rfl ⟨some ⟨g1, 0, none⟩, k1, a3, k3, a5, k5, ?_, ?_, ?_, ?_, by rw [HX.out]; exact BF.out⟩
  · rw [hld]
  · have h := own_le (B' := w.heap.size) (own_same (own_same O14.out (fun c hc => F15.out c (by have h1 := (O14.out.lt c hc).1; have := LT.out; omega))) (fun c hc => F16.out c (by have h1 := (O14.out.lt c hc).1; omega))) (by have := LT.out; have := HX.out; omega)
    rw [← sts_set, ← HPS.out] at h; exact h
  · have h := own_le (B' := w.heap.size) (own_same (own_same P14.out (fun c hc => F15.out c (by have h1 := (P14.out.lt c hc).1; have := LT.out; omega))) (fun c hc => F16.out c (by have h1 := (P14.out.lt c hc).1; omega))) (by have := LT.out; have := HX.out; omega)
    exact h
  · have h := own_le (B' := w.heap.size) (own_same (own_same O5.out (fun c hc => F15.out c (by have h1 := (O5.out.lt c hc).1; have := LT.out; omega))) (fun c hc => F16.out c (by have h1 := (O5.out.lt c hc).1; omega))) (by have := LT.out; have := HX.out; omega)
    rw [HPS.out]; exact h
set_option maxRecDepth 100000 in
set_option maxHeartbeats 8000000 in
theorem writer_eu (w : World) (B : Nat) (pB : Addr) (aF : Option Addr) (nB kB nF kF : Nat) (bs : List ByteArray) (left : Int) (q : Nat) (s : ByteArray) (hB : w.ownsRow B 9 1 (.slice (some pB) nB kB) nB (sts bs)) (hq : q < nB) (h64 : s.size ≤ 64) (hl : left < 0) (hn : nB ≤ 1000) :
    Calls Try.prog 12 #[rv false (.slice (some pB) nB kB) (.slice aF nF kF) (.slice none 0 0) (.slice none 0 0) left, .int .i64 (q : Int), .string s] w fun e w' => ∃ a1 k1 a2 k2 a3 k3, e = .returned (.tuple #[rv false (.slice a1 nB k1) (.slice aF nF kF) (.slice a2 1 k2) (.slice a3 1 k3) left, .int .i64 0]) ∧
      w'.ownsRow w.heap.size 9 1 (.slice a1 nB k1) nB (sts (bs.set q (padS s))) ∧ w'.ownsRow w.heap.size 3 1 (.slice a2 1 k2) 1 (its [q]) ∧ w'.ownsRow w.heap.size 9 1 (.slice a3 1 k3) 1 (sts [padS s]) ∧ Below w.heap.size w w' := by
  obtain ⟨bx, hbx⟩ : ∃ bx, w.heap.size = bx := ⟨_, rfl⟩
  obtain ⟨W1, hW1⟩ : ∃ W1, w.alloc (.cells #[.bool false, .slice (some pB) nB kB, .slice aF nF kF, .slice none 0 0, .slice none 0 0, .int .i64 left] 31) = W1 := ⟨_, rfl⟩
  have r1 : Row W1 bx 31 [.bool false, (.slice (some pB) nB kB), (.slice aF nF kF), (.slice none 0 0), (.slice none 0 0), .int .i64 left] := by rw [← hW1, ← hbx]; exact Row.new _ _ _
  obtain ⟨rb, hrb⟩ : ∃ rb, W1.heap.size = rb := ⟨_, rfl⟩
  obtain ⟨W2, hW2⟩ : ∃ W2, W1.alloc (.cells #[.bool false, .slice none 0 0, .slice none 0 0, .slice none 0 0, .slice none 0 0, .int .i64 0] 31) = W2 := ⟨_, rfl⟩
  have q2 : Row W2 rb 31 zcs := by rw [← hW2, ← hrb]; exact Row.new _ _ _
  have r2 : Row W2 bx 31 [.bool false, (.slice (some pB) nB kB), (.slice aF nF kF), (.slice none 0 0), (.slice none 0 0), .int .i64 left] := r1.same (by rw [← hW2]; exact Below.heap_alloc _ _ _ r1.lt)
  have b2 : Below bx w W2 := by rw [← hW2, ← hW1, ← hbx]; exact ((Below.refl _ _).alloc (Nat.le_refl _) _).alloc (by rw [size_al]; omega) _
  have hlt : bx < rb := by rw [← hrb, ← hW1, size_al, ← hbx]; omega
  have dl : decide (0 < left) = false := by simp; omega
  have r3 := r2; have q3 := q2; have b3 := b2
  have l0 : (left == 0) = false := by simp; omega
  have y0 := r2.cell (i := 0) rfl; have y1 := r2.cell (i := 1) rfl; have y5' := r2.cell (i := 5) rfl
  have x1 := r3.cell (i := 1) rfl
  have R3 := Lib.hid r3; have Q3 := Lib.hid q3; have B3 := Lib.hid b3
  have LT : Hid (bx < rb ∧ rb < W2.heap.size) := ⟨hlt, q3.lt⟩
  have HB := Lib.hid hB
  have BW : Hid (Below w.heap.size w W2) := by show Below _ _ _; rw [hbx]; exact b3
  have HX := Lib.hid hbx
  have NN := Lib.hid hn
  have LB : Hid ((sts bs).length = nB * 1) := by have := hB.1; show _ = _; omega
  have HQ := Lib.hid hq; have H64 := Lib.hid h64
  have qi : decide ((q : Int) < 0) = false := by simp
  have qi' : ¬ (q : Int) < 0 := by omega
  have qn : decide ((nB : Int) ≤ (q : Int)) = false := by simp; omega
  have qn' : decide (nB ≤ q) = false := by simp; omega
  have qn'' : ¬ (nB : Int) ≤ (q : Int) := by omega
  have q0 : (0 : Int) ≤ (q : Int) := by omega
  have ql : (q : Int) < (nB : Int) := by omega
  have s1 : decide ((64 : Int) < (s.size : Int)) = false := by simp; omega
  have s1a : decide (64 < s.size) = false := by simp; omega
  have s1b : ¬ (64 : Int) < (s.size : Int) := by omega
  obtain ⟨i3, hi3, hz30, hz31, hz32⟩ := info_parts (show (Try.prog.info? 3).map (fun i => (i.zero, i.size, i.bytes)) = some (some (.int .i64 0), 1, 8) by kernel_rfl)
  have II3 := Lib.hid hi3; have Z30 := Lib.hid hz30; have Z31 := Lib.hid hz31; have Z32 := Lib.hid hz32
  obtain ⟨i9, hi9, hz90, hz91, hz92⟩ := info_parts (show (Try.prog.info? 9).map (fun i => (i.zero, i.size, i.bytes)) = some (some (.string ByteArray.empty), 1, 16) by kernel_rfl)
  have II9 := Lib.hid hi9; have Z90 := Lib.hid hz90; have Z91 := Lib.hid hz91; have Z92 := Lib.hid hz92
  clear r1 r2 r3 q2 q3 b2 b3 hlt hB hq h64 hn hi3 hz30 hz31 hz32 hi9 hz90 hz91 hz92 hl
  go_enter Try.func12, Try.ntmps12
  go_wp2_with (at_builtin; refine wpList_append_own_at _ rfl _ _ 28 rfl (rb + 1) 9 i9 (.string ByteArray.empty) 1 16 Try.underlying28 II9.out Z90.out Z91.out Z92.out rfl (by decide) (.slice none 0 0) 0 [] rfl (World.ownsRow_nil _ _ _ _) pB nB kB (sts bs) rfl LB.out (own_news HB.out BW.out) (sts_one _) (by have := NN.out; unfold maxLen; omega) (by have := NN.out; omega) (by have := LT.out; omega) ?_; intro v1 w5 ho1 hg1 hn1 hl1; have O1 := (Lib.hid ho1); have G1 := (Lib.hid hg1); clear ho1 hg1 hn1 hl1)
  rw [Nat.zero_add, List.nil_append] at O1
  have S5 : Hid (W2.heap.size ≤ w5.heap.size) := G1.out.size
  obtain ⟨g1, k1, he1, hb1⟩ : ∃ g1 k1, v1 = .slice (some ⟨g1, 0, none⟩) nB k1 ∧ rb + 1 ≤ g1 := by
    rcases O1.out.2 with ⟨_, h⟩ | ⟨g, cap, cur, e, hb, _⟩
    · have := HQ.out; omega
    · exact ⟨g, cap, e, hb⟩
  subst he1
  have HB1 := Lib.hid hb1
  have R5 := Lib.hid (R3.out.same (G1.out.block bx (by have := LT.out; omega) (fun e => by cases e)))
  have Q5 := Lib.hid (Q3.out.same (G1.out.block rb LT.out.2 (fun e => by cases e)))
  have B5 := Lib.hid (B3.out.grown G1.out (by have := LT.out; omega) (fun k e => by cases e))
  clear hb1 x1 y0 y1 y5'
  refine (pad_any s H64.out w5).mono ?_; rintro e w6 ⟨rfl, b⟩
  have O6 := Lib.hid (own_below O1.out b); have R6 := Lib.hid (R5.out.below b R5.out.lt); have Q6 := Lib.hid (Q5.out.below b Q5.out.lt)
  have B6 := Lib.hid (B5.out.trans (b.mono (Nat.le_of_lt R5.out.lt))); have S6 : Hid (w5.heap.size ≤ w6.heap.size) := b.size
  clear b
  obtain ⟨ps0, hps0⟩ : ∃ z, padS s = z := ⟨_, rfl⟩
  rw [hps0]
  have HPS := Lib.hid hps0
  obtain ⟨⟨mx, m1⟩, m2⟩ := own_cell1 O6.out HQ.out
  obtain ⟨W7, hW7⟩ : ∃ W7, w6.setCell ⟨g1, q, none⟩ (.string ps0) = W7 := ⟨_, rfl⟩
  have O7 := own_set1 O6.out (q := q) (.string ps0)
  rw [hW7] at O7
  have r7 := R6.out.same (show W7.heap[bx]? = w6.heap[bx]? by rw [← hW7]; exact Below.heap_setCell _ _ _ _ (show bx ≠ g1 by have := HB1.out; have := LT.out; omega))
  have q7 := Q6.out.same (show W7.heap[rb]? = w6.heap[rb]? by rw [← hW7]; exact Below.heap_setCell _ _ _ _ (show rb ≠ g1 by have := HB1.out; omega))
  have b7 : Below bx w W7 := by rw [← hW7]; exact B6.out.setCell (show bx ≤ g1 by have := HB1.out; have := LT.out; omega) _
  have y1 := r7.cell (i := 1) rfl; have yf1 := r7.fr (i := 1)
  obtain ⟨W8, hW8⟩ : ∃ W8, W7.setCell ⟨bx, 1, none⟩ (.slice (some ⟨g1, 0, none⟩) nB k1) = W8 := ⟨_, rfl⟩
  have r8 : Row W8 bx 31 [.bool false, (.slice (some ⟨g1, 0, none⟩) nB k1), (.slice aF nF kF), (.slice none 0 0), (.slice none 0 0), .int .i64 left] := by rw [← hW8]; exact r7.set (i := 1) _
  have R8 := Lib.hid r8
  have Q8 := Lib.hid (q7.same (show W8.heap[rb]? = W7.heap[rb]? by rw [← hW8]; exact Below.heap_setCell _ _ _ _ (show rb ≠ bx by have := LT.out; omega)))
  have O8 := Lib.hid (own_same O7 (fun c hc => show W8.heap[c]? = W7.heap[c]? by rw [← hW8]; exact Below.heap_setCell _ _ _ _ (show c ≠ bx by have h1 := (O7.lt c hc).1; have := LT.out; omega)))
  have B8 : Hid (Below bx w W8) := by show Below _ _ _; rw [← hW8]; exact b7.setCell (Nat.le_refl _) _
  have BW8 : Hid (Below w.heap.size w W8) := by show Below _ _ _; rw [HX.out]; exact B8.out
  have x3 := r8.cell (i := 3) rfl
  have LT8 : Hid (rb < W8.heap.size) := Q8.out.lt
  clear O7 r7 q7 b7 r8 hps0
  go_wp2_with (first | (at_builtin; refine wpList_append_own_at _ rfl _ _ 29 rfl (rb + 1) 3 i3 (.int .i64 0) 1 8 Try.underlying29 II3.out Z30.out Z31.out Z32.out rfl (by decide) (.slice none 0 0) 0 [] rfl (World.ownsRow_nil _ _ _ _) ⟨W8.heap.size, 0, none⟩ 1 1 [.int .i64 (q : Int)] rfl rfl (cell_one_new _ _ _) (by simp [Value.oneCell']) (by have := NN.out; unfold maxLen; omega) (by have := NN.out; omega) (by have h1 := Q8.out.lt; simp <;> omega) ?_; intro v3 w10 ho3 hg3 hn3 hl3; have O3 := (Lib.hid ho3); have G3 := (Lib.hid hg3); obtain ⟨a3, k3, he3⟩ := row_form1 ho3; subst he3; have E3 : Hid (∀ c, c < W8.heap.size → w10.heap[c]? = W8.heap[c]?) := (fun c hc => by rw [hg3.block c (by rw [size_al]; omega) (fun e => by cases e)]; exact Below.heap_alloc _ _ _ hc); clear ho3 hg3 hn3 hl3; have R10 := (Lib.hid (R8.out.same (E3.out bx R8.out.lt ))); have Q10 := (Lib.hid (Q8.out.same (E3.out rb Q8.out.lt ))); have O10 := (Lib.hid (own_same O8.out (fun c hc => E3.out c (O8.out.lt c hc).2 ))); have B10 := (Lib.hid ((B8.out.alloc (by have h1 := R8.out.lt; omega) _).grown G3.out (by have h1 := R8.out.lt; simp <;> omega) (fun k e => by cases e))); have z3 := (R10.out.cell (i := 3) rfl); have zf3 := (R10.out.fr (i := 3)); obtain ⟨W11, hW11⟩ : ∃ W11, w10.setCell ⟨bx, 3, none⟩ (.slice a3 (0 + 1) k3) = W11 := ⟨_, rfl⟩; have R11 : Hid (Row W11 bx 31 [.bool false, (.slice (some ⟨g1, 0, none⟩) nB k1), (.slice aF nF kF), (.slice a3 (0 + 1) k3), (.slice none 0 0), .int .i64 left]) := (by show Row _ _ _ _; rw [← hW11]; exact R10.out.set (i := 3) _); have F11 : Hid (∀ c, c ≠ bx → W11.heap[c]? = w10.heap[c]?) := (fun c hc => by rw [← hW11]; exact Below.heap_setCell _ _ _ _ (by exact hc)); have Q11 := (Lib.hid (Q10.out.same (F11.out rb (by have := LT.out; omega)))); have O11 := (Lib.hid (own_same O10.out (fun c hc => F11.out c (by have h1 := (O10.out.lt c hc).1; have := LT.out; omega)))); have P11 := (Lib.hid (own_same O3.out (fun c hc => F11.out c (by have h1 := (O3.out.lt c hc).1; have := LT.out; omega)))); have B11 : Hid (Below bx w W11) := (by show Below _ _ _; rw [← hW11]; exact B10.out.setCell (Nat.le_refl _) _); have BW11 : Hid (Below w.heap.size w W11) := (by show Below _ _ _; rw [HX.out]; exact B11.out); have LT11 : Hid (rb < W11.heap.size) := (Q11.out.lt); have x4 := (R11.out.cell (i := 4) rfl)))
  refine (pad_any s H64.out W11).mono ?_; rintro e w13 ⟨rfl, b⟩
  have R13 := Lib.hid (R11.out.below b R11.out.lt); have Q13 := Lib.hid (Q11.out.below b Q11.out.lt); have O13 := Lib.hid (own_below O11.out b); have P13 := Lib.hid (own_below P11.out b)
  have B13 := Lib.hid (B11.out.trans (b.mono (Nat.le_of_lt R11.out.lt)))
  have S13 : Hid (W11.heap.size ≤ w13.heap.size) := b.size
  clear b
  rw [HPS.out]
  go_wp2_with (at_builtin; refine wpList_append_own_at _ rfl _ _ 28 rfl (rb + 1) 9 i9 (.string ByteArray.empty) 1 16 Try.underlying28 II9.out Z90.out Z91.out Z92.out rfl (by decide) (.slice none 0 0) 0 [] rfl (World.ownsRow_nil _ _ _ _) ⟨w13.heap.size, 0, none⟩ 1 1 [.string ps0] rfl rfl (cell_one_new _ _ _) (by simp [Value.oneCell']) (by have := NN.out; unfold maxLen; omega) (by have := NN.out; omega) (by have h1 := Q13.out.lt; simp <;> omega) ?_; intro v5 w14 ho5 hg5 hn5 hl5; have O5 := (Lib.hid ho5); have G5 := (Lib.hid hg5); obtain ⟨a5, k5, he5⟩ := row_form1 ho5; subst he5; have E5 : Hid (∀ c, c < w13.heap.size → w14.heap[c]? = w13.heap[c]?) := (fun c hc => by rw [hg5.block c (by rw [size_al]; omega) (fun e => by cases e)]; exact Below.heap_alloc _ _ _ hc); clear ho5 hg5 hn5 hl5; have R14 := (Lib.hid (R13.out.same (E5.out bx R13.out.lt ))); have Q14 := (Lib.hid (Q13.out.same (E5.out rb Q13.out.lt ))); have O14 := (Lib.hid (own_same O13.out (fun c hc => E5.out c (O13.out.lt c hc).2 ))); have P14 := (Lib.hid (own_same P13.out (fun c hc => E5.out c (P13.out.lt c hc).2 ))); have B14 := (Lib.hid ((B13.out.alloc (by have h1 := R13.out.lt; omega) _).grown G5.out (by have h1 := R13.out.lt; simp <;> omega) (fun k e => by cases e))); have u4 := (R14.out.cell (i := 4) rfl); have uf4 := (R14.out.fr (i := 4)); obtain ⟨W15, hW15⟩ : ∃ W15, w14.setCell ⟨bx, 4, none⟩ (.slice a5 (0 + 1) k5) = W15 := ⟨_, rfl⟩; have R15 : Hid (Row W15 bx 31 [.bool false, (.slice (some ⟨g1, 0, none⟩) nB k1), (.slice aF nF kF), (.slice a3 (0 + 1) k3), (.slice a5 (0 + 1) k5), .int .i64 left]) := (by show Row _ _ _ _; rw [← hW15]; exact R14.out.set (i := 4) _); have F15 : Hid (∀ c, c ≠ bx → W15.heap[c]? = w14.heap[c]?) := (fun c hc => by rw [← hW15]; exact Below.heap_setCell _ _ _ _ (by exact hc)); have Q15 := (Lib.hid (Q14.out.same (F15.out rb (by have := LT.out; omega)))); have B15 : Hid (Below bx w W15) := (by show Below _ _ _; rw [← hW15]; exact B14.out.setCell (Nat.le_refl _) _); have x0 := (R15.out.cell (i := 0) rfl); have x1 := (R15.out.cell (i := 1) rfl); have x2 := (R15.out.cell (i := 2) rfl); have x3 := (R15.out.cell (i := 3) rfl); have x4 := (R15.out.cell (i := 4) rfl); have x5 := (R15.out.cell (i := 5) rfl); have c0 := (Q15.out.cell (i := 0) rfl); have c1 := (Q15.out.cell (i := 1) rfl); have c2 := (Q15.out.cell (i := 2) rfl); have c3 := (Q15.out.cell (i := 3) rfl); have c4 := (Q15.out.cell (i := 4) rfl); have c5 := (Q15.out.cell (i := 5) rfl); have cf0 := (Q15.out.fr (i := 0)); have cf1 := (Q15.out.fr (i := 1)); have cf2 := (Q15.out.fr (i := 2)); have cf3 := (Q15.out.fr (i := 3)); have cf4 := (Q15.out.fr (i := 4)); have cf5 := (Q15.out.fr (i := 5)); obtain ⟨W16, hW16, q16, b16⟩ := set6 Q15.out (.bool false) (.slice (some ⟨g1, 0, none⟩) nB k1) (.slice aF nF kF) (.slice a3 (0 + 1) k3) (.slice a5 (0 + 1) k5) (.int .i64 left); have Q16 := (Lib.hid q16); have F16 : Hid (∀ c, c ≠ rb → W16.heap[c]? = W15.heap[c]?) := (fun c hc => by rw [← hW16]; simp only [Below.heap_setCell _ _ _ _ (show c ≠ (Addr.mk rb _ none).block from hc)]); have BF := (Lib.hid (b16 bx w (by have := LT.out; omega) B15.out)); clear q16 b16)
  have g0 := Q16.out.cell (i := 0) rfl; have g1' := Q16.out.cell (i := 1) rfl; have g2 := Q16.out.cell (i := 2) rfl; have g3 := Q16.out.cell (i := 3) rfl; have g4 := Q16.out.cell (i := 4) rfl; have g5 := Q16.out.cell (i := 5) rfl
  refine bodyPost_ret (by simp [results, Try.results12, go_sem, g0, g1', g2, g3, g4, g5]; rfl) rfl ⟨some ⟨g1, 0, none⟩, k1, a3, k3, a5, k5, ?_, ?_, ?_, ?_, by rw [HX.out]; exact BF.out⟩
  · rfl
  · have h := own_le (B' := w.heap.size) (own_same (own_same O14.out (fun c hc => F15.out c (by have h1 := (O14.out.lt c hc).1; have := LT.out; omega))) (fun c hc => F16.out c (by have h1 := (O14.out.lt c hc).1; omega))) (by have := LT.out; have := HX.out; omega)
    rw [← sts_set, ← HPS.out] at h; exact h
  · have h := own_le (B' := w.heap.size) (own_same (own_same P14.out (fun c hc => F15.out c (by have h1 := (P14.out.lt c hc).1; have := LT.out; omega))) (fun c hc => F16.out c (by have h1 := (P14.out.lt c hc).1; omega))) (by have := LT.out; have := HX.out; omega)
    exact h
  · have h := own_le (B' := w.heap.size) (own_same (own_same O5.out (fun c hc => F15.out c (by have h1 := (O5.out.lt c hc).1; have := LT.out; omega))) (fun c hc => F16.out c (by have h1 := (O5.out.lt c hc).1; omega))) (by have := LT.out; have := HX.out; omega)
    rw [HPS.out]; exact h
set_option maxRecDepth 100000 in
set_option maxHeartbeats 8000000 in
theorem writer_fd (w : World) (B : Nat) (pB : Addr) (aF : Option Addr) (nB kB nF kF : Nat) (bs : List ByteArray) (pA pP : Addr) (nA kA nP kP : Nat) (qs : List Nat) (ps : List ByteArray) (left : Int) (q : Nat) (s : ByteArray) (hB : w.ownsRow B 9 1 (.slice (some pB) nB kB) nB (sts bs)) (hA : w.ownsRow B 3 1 (.slice (some pA) nA kA) nA (its qs)) (hP : w.ownsRow B 9 1 (.slice (some pP) nP kP) nP (sts ps)) (hq : q < nB) (h64 : s.size ≤ 64) (hl : 0 < left ∧ left ≤ 9223372036854775807) (hn : nB ≤ 1000 ∧ nA ≤ 1000 ∧ nP ≤ 1000) :
    Calls Try.prog 12 #[rv false (.slice (some pB) nB kB) (.slice aF nF kF) (.slice (some pA) nA kA) (.slice (some pP) nP kP) left, .int .i64 (q : Int), .string s] w fun e w' => ∃ a1 k1 a2 k2 a3 k3, e = .returned (.tuple #[rv false (.slice a1 nB k1) (.slice aF nF kF) (.slice a2 (nA + 1) k2) (.slice a3 (nP + 1) k3) (left - 1), .int .i64 0]) ∧
      w'.ownsRow w.heap.size 9 1 (.slice a1 nB k1) nB (sts (bs.set q (padS s))) ∧ w'.ownsRow w.heap.size 3 1 (.slice a2 (nA + 1) k2) (nA + 1) (its (qs ++ [q])) ∧ w'.ownsRow w.heap.size 9 1 (.slice a3 (nP + 1) k3) (nP + 1) (sts (ps ++ [padS s])) ∧ Below w.heap.size w w' := by
  obtain ⟨bx, hbx⟩ : ∃ bx, w.heap.size = bx := ⟨_, rfl⟩
  obtain ⟨W1, hW1⟩ : ∃ W1, w.alloc (.cells #[.bool false, .slice (some pB) nB kB, .slice aF nF kF, .slice (some pA) nA kA, .slice (some pP) nP kP, .int .i64 left] 31) = W1 := ⟨_, rfl⟩
  have r1 : Row W1 bx 31 [.bool false, (.slice (some pB) nB kB), (.slice aF nF kF), (.slice (some pA) nA kA), (.slice (some pP) nP kP), .int .i64 left] := by rw [← hW1, ← hbx]; exact Row.new _ _ _
  obtain ⟨rb, hrb⟩ : ∃ rb, W1.heap.size = rb := ⟨_, rfl⟩
  obtain ⟨W2, hW2⟩ : ∃ W2, W1.alloc (.cells #[.bool false, .slice none 0 0, .slice none 0 0, .slice none 0 0, .slice none 0 0, .int .i64 0] 31) = W2 := ⟨_, rfl⟩
  have q2 : Row W2 rb 31 zcs := by rw [← hW2, ← hrb]; exact Row.new _ _ _
  have r2 : Row W2 bx 31 [.bool false, (.slice (some pB) nB kB), (.slice aF nF kF), (.slice (some pA) nA kA), (.slice (some pP) nP kP), .int .i64 left] := r1.same (by rw [← hW2]; exact Below.heap_alloc _ _ _ r1.lt)
  have b2 : Below bx w W2 := by rw [← hW2, ← hW1, ← hbx]; exact ((Below.refl _ _).alloc (Nat.le_refl _) _).alloc (by rw [size_al]; omega) _
  have hlt : bx < rb := by rw [← hrb, ← hW1, size_al, ← hbx]; omega
  obtain ⟨ld, hld⟩ : ∃ ld, left - 1 = ld := ⟨_, rfl⟩
  have lw : IntKind.i64.wrap ld = ld := by rw [← hld, IntKind.wrap_i64]; omega
  obtain ⟨W3, hW3⟩ : ∃ W3, W2.setCell ⟨bx, 5, none⟩ (.int .i64 ld) = W3 := ⟨_, rfl⟩
  have r3 : Row W3 bx 31 [.bool false, (.slice (some pB) nB kB), (.slice aF nF kF), (.slice (some pA) nA kA), (.slice (some pP) nP kP), .int .i64 ld] := by rw [← hW3]; exact r2.set (i := 5) _
  have q3 : Row W3 rb 31 zcs := q2.same (by rw [← hW3]; exact Below.heap_setCell _ _ _ _ (show rb ≠ bx by omega))
  have b3 : Below bx w W3 := by rw [← hW3]; exact b2.setCell (Nat.le_refl _) _
  have y5 := r2.cell (i := 5) rfl; have yf5 := r2.fr (i := 5)
  have dl : decide (0 < left) = true := by simp; omega
  have l0 : (left == 0) = false := by simp; omega
  have y0 := r2.cell (i := 0) rfl; have y1 := r2.cell (i := 1) rfl; have y5' := r2.cell (i := 5) rfl
  have x1 := r3.cell (i := 1) rfl
  have R3 := Lib.hid r3; have Q3 := Lib.hid q3; have B3 := Lib.hid b3
  have LT : Hid (bx < rb ∧ rb < W3.heap.size) := ⟨hlt, q3.lt⟩
  have HB := Lib.hid hB
  have HA := Lib.hid hA; have HP := Lib.hid hP
  have BW : Hid (Below w.heap.size w W3) := by show Below _ _ _; rw [hbx]; exact b3
  have HX := Lib.hid hbx
  have NN := Lib.hid hn
  have LB : Hid ((sts bs).length = nB * 1) := by have := hB.1; show _ = _; omega
  have LA : Hid ((its qs).length = nA * 1) := by have := hA.1; show _ = _; omega
  have LP : Hid ((sts ps).length = nP * 1) := by have := hP.1; show _ = _; omega
  have HQ := Lib.hid hq; have H64 := Lib.hid h64
  have qi : decide ((q : Int) < 0) = false := by simp
  have qi' : ¬ (q : Int) < 0 := by omega
  have qn : decide ((nB : Int) ≤ (q : Int)) = false := by simp; omega
  have qn' : decide (nB ≤ q) = false := by simp; omega
  have qn'' : ¬ (nB : Int) ≤ (q : Int) := by omega
  have q0 : (0 : Int) ≤ (q : Int) := by omega
  have ql : (q : Int) < (nB : Int) := by omega
  have s1 : decide ((64 : Int) < (s.size : Int)) = false := by simp; omega
  have s1a : decide (64 < s.size) = false := by simp; omega
  have s1b : ¬ (64 : Int) < (s.size : Int) := by omega
  obtain ⟨i3, hi3, hz30, hz31, hz32⟩ := info_parts (show (Try.prog.info? 3).map (fun i => (i.zero, i.size, i.bytes)) = some (some (.int .i64 0), 1, 8) by kernel_rfl)
  have II3 := Lib.hid hi3; have Z30 := Lib.hid hz30; have Z31 := Lib.hid hz31; have Z32 := Lib.hid hz32
  obtain ⟨i9, hi9, hz90, hz91, hz92⟩ := info_parts (show (Try.prog.info? 9).map (fun i => (i.zero, i.size, i.bytes)) = some (some (.string ByteArray.empty), 1, 16) by kernel_rfl)
  have II9 := Lib.hid hi9; have Z90 := Lib.hid hz90; have Z91 := Lib.hid hz91; have Z92 := Lib.hid hz92
  clear r1 r2 r3 q2 q3 b2 b3 hlt hB hA hP hq h64 hn hi3 hz30 hz31 hz32 hi9 hz90 hz91 hz92 hl
  go_enter Try.func12, Try.ntmps12
  go_wp2_with (at_builtin; refine wpList_append_own_at _ rfl _ _ 28 rfl (rb + 1) 9 i9 (.string ByteArray.empty) 1 16 Try.underlying28 II9.out Z90.out Z91.out Z92.out rfl (by decide) (.slice none 0 0) 0 [] rfl (World.ownsRow_nil _ _ _ _) pB nB kB (sts bs) rfl LB.out (own_news HB.out BW.out) (sts_one _) (by have := NN.out; unfold maxLen; omega) (by have := NN.out; omega) (by have := LT.out; omega) ?_; intro v1 w5 ho1 hg1 hn1 hl1; have O1 := (Lib.hid ho1); have G1 := (Lib.hid hg1); clear ho1 hg1 hn1 hl1)
  rw [Nat.zero_add, List.nil_append] at O1
  have S5 : Hid (W3.heap.size ≤ w5.heap.size) := G1.out.size
  obtain ⟨g1, k1, he1, hb1⟩ : ∃ g1 k1, v1 = .slice (some ⟨g1, 0, none⟩) nB k1 ∧ rb + 1 ≤ g1 := by
    rcases O1.out.2 with ⟨_, h⟩ | ⟨g, cap, cur, e, hb, _⟩
    · have := HQ.out; omega
    · exact ⟨g, cap, e, hb⟩
  subst he1
  have HB1 := Lib.hid hb1
  have R5 := Lib.hid (R3.out.same (G1.out.block bx (by have := LT.out; omega) (fun e => by cases e)))
  have Q5 := Lib.hid (Q3.out.same (G1.out.block rb LT.out.2 (fun e => by cases e)))
  have B5 := Lib.hid (B3.out.grown G1.out (by have := LT.out; omega) (fun k e => by cases e))
  clear hb1 x1 y0 y1 y5'
  refine (pad_any s H64.out w5).mono ?_; rintro e w6 ⟨rfl, b⟩
  have O6 := Lib.hid (own_below O1.out b); have R6 := Lib.hid (R5.out.below b R5.out.lt); have Q6 := Lib.hid (Q5.out.below b Q5.out.lt)
  have B6 := Lib.hid (B5.out.trans (b.mono (Nat.le_of_lt R5.out.lt))); have S6 : Hid (w5.heap.size ≤ w6.heap.size) := b.size
  clear b
  obtain ⟨ps0, hps0⟩ : ∃ z, padS s = z := ⟨_, rfl⟩
  rw [hps0]
  have HPS := Lib.hid hps0
  obtain ⟨⟨mx, m1⟩, m2⟩ := own_cell1 O6.out HQ.out
  obtain ⟨W7, hW7⟩ : ∃ W7, w6.setCell ⟨g1, q, none⟩ (.string ps0) = W7 := ⟨_, rfl⟩
  have O7 := own_set1 O6.out (q := q) (.string ps0)
  rw [hW7] at O7
  have r7 := R6.out.same (show W7.heap[bx]? = w6.heap[bx]? by rw [← hW7]; exact Below.heap_setCell _ _ _ _ (show bx ≠ g1 by have := HB1.out; have := LT.out; omega))
  have q7 := Q6.out.same (show W7.heap[rb]? = w6.heap[rb]? by rw [← hW7]; exact Below.heap_setCell _ _ _ _ (show rb ≠ g1 by have := HB1.out; omega))
  have b7 : Below bx w W7 := by rw [← hW7]; exact B6.out.setCell (show bx ≤ g1 by have := HB1.out; have := LT.out; omega) _
  have y1 := r7.cell (i := 1) rfl; have yf1 := r7.fr (i := 1)
  obtain ⟨W8, hW8⟩ : ∃ W8, W7.setCell ⟨bx, 1, none⟩ (.slice (some ⟨g1, 0, none⟩) nB k1) = W8 := ⟨_, rfl⟩
  have r8 : Row W8 bx 31 [.bool false, (.slice (some ⟨g1, 0, none⟩) nB k1), (.slice aF nF kF), (.slice (some pA) nA kA), (.slice (some pP) nP kP), .int .i64 ld] := by rw [← hW8]; exact r7.set (i := 1) _
  have R8 := Lib.hid r8
  have Q8 := Lib.hid (q7.same (show W8.heap[rb]? = W7.heap[rb]? by rw [← hW8]; exact Below.heap_setCell _ _ _ _ (show rb ≠ bx by have := LT.out; omega)))
  have O8 := Lib.hid (own_same O7 (fun c hc => show W8.heap[c]? = W7.heap[c]? by rw [← hW8]; exact Below.heap_setCell _ _ _ _ (show c ≠ bx by have h1 := (O7.lt c hc).1; have := LT.out; omega)))
  have B8 : Hid (Below bx w W8) := by show Below _ _ _; rw [← hW8]; exact b7.setCell (Nat.le_refl _) _
  have BW8 : Hid (Below w.heap.size w W8) := by show Below _ _ _; rw [HX.out]; exact B8.out
  have x3 := r8.cell (i := 3) rfl
  have LT8 : Hid (rb < W8.heap.size) := Q8.out.lt
  clear O7 r7 q7 b7 r8 hps0
  go_wp2_with (first | (at_builtin; refine wpList_append_own_at _ rfl _ _ 29 rfl (rb + 1) 3 i3 (.int .i64 0) 1 8 Try.underlying29 II3.out Z30.out Z31.out Z32.out rfl (by decide) (.slice none 0 0) 0 [] rfl (World.ownsRow_nil _ _ _ _) pA nA kA (its qs) rfl LA.out (own_news HA.out BW8.out) (its_one _) (by have := NN.out; unfold maxLen; omega) (by have := NN.out; omega) (by have := LT8.out; omega) ?_; intro v2 w9 ho2 hg2 hn2 hl2; rw [Nat.zero_add, List.nil_append] at ho2; have O2 := (Lib.hid ho2); have G2 := (Lib.hid hg2); obtain ⟨a2, k2, he2⟩ := row_form1 ho2; subst he2; clear ho2 hg2 hn2; have hloc2 := hl2; clear hl2; have R9 := (Lib.hid (R8.out.same (G2.out.block bx (by have := LT8.out; have := LT.out; omega) (fun e => by cases e)))); have Q9 := (Lib.hid (Q8.out.same (G2.out.block rb LT8.out (fun e => by cases e)))); have O9 := (Lib.hid (own_same O8.out (fun c hc => G2.out.block c (O8.out.lt c hc).2 (fun e => by cases e)))); have B9 := (Lib.hid (B8.out.grown G2.out (by have := LT8.out; have := LT.out; omega) (fun k e => by cases e))); have D2 : Hid (∀ c, Value.ownBlock (.slice (some ⟨g1, 0, none⟩) nB k1) = some c → Value.ownBlock (.slice a2 nA k2) ≠ some c) := (own_apart O8.out hloc2)) | (at_builtin; refine wpList_append_own_at _ rfl _ _ 29 rfl (rb + 1) 3 i3 (.int .i64 0) 1 8 Try.underlying29 II3.out Z30.out Z31.out Z32.out rfl (by decide) (.slice a2 nA k2) nA (its qs) rfl (O2.out.alloc _) ⟨w9.heap.size, 0, none⟩ 1 1 [.int .i64 (q : Int)] rfl rfl (cell_one_new _ _ _) (by simp [Value.oneCell']) (by have := NN.out; unfold maxLen; omega) (by have := NN.out; omega) (by have h1 := Q9.out.lt; simp <;> omega) ?_; intro v3 w10 ho3 hg3 hn3 hl3; have O3 := (Lib.hid ho3); have G3 := (Lib.hid hg3); obtain ⟨a3, k3, he3⟩ := row_form1 ho3; subst he3; have E3 : Hid (∀ c, c < w9.heap.size → Value.ownBlock (.slice a2 nA k2) ≠ some c → w10.heap[c]? = w9.heap[c]?) := (fun c hc hne => by rw [hg3.block c (by rw [size_al]; omega) (fun e => hne e.symm)]; exact Below.heap_alloc _ _ _ hc); clear ho3 hg3 hn3 hl3; have R10 := (Lib.hid (R9.out.same (E3.out bx R9.out.lt (fun e => by have h1 := (O2.out.lt bx e).1; have h2 := LT.out; omega)))); have Q10 := (Lib.hid (Q9.out.same (E3.out rb Q9.out.lt (fun e => by have h1 := (O2.out.lt rb e).1; have h2 := LT.out; omega)))); have O10 := (Lib.hid (own_same O9.out (fun c hc => E3.out c (O9.out.lt c hc).2 (D2.out c hc)))); have B10 := (Lib.hid ((B9.out.alloc (by have h1 := R9.out.lt; omega) _).grown G3.out (by have h1 := R9.out.lt; simp <;> omega) (fun k e => by have h1 := (O2.out.lt k e).1; have h2 := LT.out; omega))); have z3 := (R10.out.cell (i := 3) rfl); have zf3 := (R10.out.fr (i := 3)); obtain ⟨W11, hW11⟩ : ∃ W11, w10.setCell ⟨bx, 3, none⟩ (.slice a3 (nA + 1) k3) = W11 := ⟨_, rfl⟩; have R11 : Hid (Row W11 bx 31 [.bool false, (.slice (some ⟨g1, 0, none⟩) nB k1), (.slice aF nF kF), (.slice a3 (nA + 1) k3), (.slice (some pP) nP kP), .int .i64 ld]) := (by show Row _ _ _ _; rw [← hW11]; exact R10.out.set (i := 3) _); have F11 : Hid (∀ c, c ≠ bx → W11.heap[c]? = w10.heap[c]?) := (fun c hc => by rw [← hW11]; exact Below.heap_setCell _ _ _ _ (by exact hc)); have Q11 := (Lib.hid (Q10.out.same (F11.out rb (by have := LT.out; omega)))); have O11 := (Lib.hid (own_same O10.out (fun c hc => F11.out c (by have h1 := (O10.out.lt c hc).1; have := LT.out; omega)))); have P11 := (Lib.hid (own_same O3.out (fun c hc => F11.out c (by have h1 := (O3.out.lt c hc).1; have := LT.out; omega)))); have B11 : Hid (Below bx w W11) := (by show Below _ _ _; rw [← hW11]; exact B10.out.setCell (Nat.le_refl _) _); have BW11 : Hid (Below w.heap.size w W11) := (by show Below _ _ _; rw [HX.out]; exact B11.out); have LT11 : Hid (rb < W11.heap.size) := (Q11.out.lt); have x4 := (R11.out.cell (i := 4) rfl)) | (at_builtin; refine wpList_append_own_at _ rfl _ _ 28 rfl (rb + 1) 9 i9 (.string ByteArray.empty) 1 16 Try.underlying28 II9.out Z90.out Z91.out Z92.out rfl (by decide) (.slice none 0 0) 0 [] rfl (World.ownsRow_nil _ _ _ _) pP nP kP (sts ps) rfl LP.out (own_news HP.out BW11.out) (sts_one _) (by have := NN.out; unfold maxLen; omega) (by have := NN.out; omega) (by have := LT11.out; omega) ?_; intro v4 w12 ho4 hg4 hn4 hl4; rw [Nat.zero_add, List.nil_append] at ho4; have O4 := (Lib.hid ho4); have G4 := (Lib.hid hg4); have L4 := (Lib.hid hl4); obtain ⟨a4, k4, he4⟩ := row_form1 ho4; subst he4; clear ho4 hg4 hn4 hl4))
  have R12 := Lib.hid (R11.out.same (G4.out.block bx R11.out.lt (fun e => by cases e)))
  have Q12 := Lib.hid (Q11.out.same (G4.out.block rb Q11.out.lt (fun e => by cases e)))
  have O12 := Lib.hid (own_same O11.out (fun c hc => G4.out.block c (O11.out.lt c hc).2 (fun e => by cases e)))
  have P12 := Lib.hid (own_same P11.out (fun c hc => G4.out.block c (P11.out.lt c hc).2 (fun e => by cases e)))
  have B12 := Lib.hid (B11.out.grown G4.out (by have h1 := R11.out.lt; omega) (fun k e => by cases e))
  have D4 : Hid (∀ c, c < W11.heap.size → Value.ownBlock (.slice a4 nP k4) ≠ some c) := fun c hc e => by
    rcases L4.out with h | h
    · rw [h] at e; cases e
    · rw [h] at e; injection e with e; omega
  refine (pad_any s H64.out w12).mono ?_; rintro e w13 ⟨rfl, b⟩
  have R13 := Lib.hid (R12.out.below b R12.out.lt); have Q13 := Lib.hid (Q12.out.below b Q12.out.lt); have O13 := Lib.hid (own_below O12.out b); have P13 := Lib.hid (own_below P12.out b)
  have B13 := Lib.hid (B12.out.trans (b.mono (Nat.le_of_lt R12.out.lt)))
  have V13 := Lib.hid (own_below O4.out b)
  have S13 : Hid (w12.heap.size ≤ w13.heap.size) := b.size
  clear b
  rw [HPS.out]
  go_wp2_with (at_builtin; refine wpList_append_own_at _ rfl _ _ 28 rfl (rb + 1) 9 i9 (.string ByteArray.empty) 1 16 Try.underlying28 II9.out Z90.out Z91.out Z92.out rfl (by decide) (.slice a4 nP k4) nP (sts ps) rfl (V13.out.alloc _) ⟨w13.heap.size, 0, none⟩ 1 1 [.string ps0] rfl rfl (cell_one_new _ _ _) (by simp [Value.oneCell']) (by have := NN.out; unfold maxLen; omega) (by have := NN.out; omega) (by have h1 := Q13.out.lt; simp <;> omega) ?_; intro v5 w14 ho5 hg5 hn5 hl5; have O5 := (Lib.hid ho5); have G5 := (Lib.hid hg5); obtain ⟨a5, k5, he5⟩ := row_form1 ho5; subst he5; have E5 : Hid (∀ c, c < w13.heap.size → Value.ownBlock (.slice a4 nP k4) ≠ some c → w14.heap[c]? = w13.heap[c]?) := (fun c hc hne => by rw [hg5.block c (by rw [size_al]; omega) (fun e => hne e.symm)]; exact Below.heap_alloc _ _ _ hc); clear ho5 hg5 hn5 hl5; have R14 := (Lib.hid (R13.out.same (E5.out bx R13.out.lt (D4.out bx R11.out.lt)))); have Q14 := (Lib.hid (Q13.out.same (E5.out rb Q13.out.lt (D4.out rb Q11.out.lt)))); have O14 := (Lib.hid (own_same O13.out (fun c hc => E5.out c (O13.out.lt c hc).2 (D4.out c (O11.out.lt c hc).2)))); have P14 := (Lib.hid (own_same P13.out (fun c hc => E5.out c (P13.out.lt c hc).2 (D4.out c (P11.out.lt c hc).2)))); have B14 := (Lib.hid ((B13.out.alloc (by have h1 := R13.out.lt; omega) _).grown G5.out (by have h1 := R13.out.lt; simp <;> omega) (fun k e => by have h1 := (V13.out.lt k e).1; have h2 := LT.out; omega))); have u4 := (R14.out.cell (i := 4) rfl); have uf4 := (R14.out.fr (i := 4)); obtain ⟨W15, hW15⟩ : ∃ W15, w14.setCell ⟨bx, 4, none⟩ (.slice a5 (nP + 1) k5) = W15 := ⟨_, rfl⟩; have R15 : Hid (Row W15 bx 31 [.bool false, (.slice (some ⟨g1, 0, none⟩) nB k1), (.slice aF nF kF), (.slice a3 (nA + 1) k3), (.slice a5 (nP + 1) k5), .int .i64 ld]) := (by show Row _ _ _ _; rw [← hW15]; exact R14.out.set (i := 4) _); have F15 : Hid (∀ c, c ≠ bx → W15.heap[c]? = w14.heap[c]?) := (fun c hc => by rw [← hW15]; exact Below.heap_setCell _ _ _ _ (by exact hc)); have Q15 := (Lib.hid (Q14.out.same (F15.out rb (by have := LT.out; omega)))); have B15 : Hid (Below bx w W15) := (by show Below _ _ _; rw [← hW15]; exact B14.out.setCell (Nat.le_refl _) _); have x0 := (R15.out.cell (i := 0) rfl); have x1 := (R15.out.cell (i := 1) rfl); have x2 := (R15.out.cell (i := 2) rfl); have x3 := (R15.out.cell (i := 3) rfl); have x4 := (R15.out.cell (i := 4) rfl); have x5 := (R15.out.cell (i := 5) rfl); have c0 := (Q15.out.cell (i := 0) rfl); have c1 := (Q15.out.cell (i := 1) rfl); have c2 := (Q15.out.cell (i := 2) rfl); have c3 := (Q15.out.cell (i := 3) rfl); have c4 := (Q15.out.cell (i := 4) rfl); have c5 := (Q15.out.cell (i := 5) rfl); have cf0 := (Q15.out.fr (i := 0)); have cf1 := (Q15.out.fr (i := 1)); have cf2 := (Q15.out.fr (i := 2)); have cf3 := (Q15.out.fr (i := 3)); have cf4 := (Q15.out.fr (i := 4)); have cf5 := (Q15.out.fr (i := 5)); obtain ⟨W16, hW16, q16, b16⟩ := set6 Q15.out (.bool false) (.slice (some ⟨g1, 0, none⟩) nB k1) (.slice aF nF kF) (.slice a3 (nA + 1) k3) (.slice a5 (nP + 1) k5) (.int .i64 ld); have Q16 := (Lib.hid q16); have F16 : Hid (∀ c, c ≠ rb → W16.heap[c]? = W15.heap[c]?) := (fun c hc => by rw [← hW16]; simp only [Below.heap_setCell _ _ _ _ (show c ≠ (Addr.mk rb _ none).block from hc)]); have BF := (Lib.hid (b16 bx w (by have := LT.out; omega) B15.out)); clear q16 b16)
  have g0 := Q16.out.cell (i := 0) rfl; have g1' := Q16.out.cell (i := 1) rfl; have g2 := Q16.out.cell (i := 2) rfl; have g3 := Q16.out.cell (i := 3) rfl; have g4 := Q16.out.cell (i := 4) rfl; have g5 := Q16.out.cell (i := 5) rfl
  refine bodyPost_ret (by simp [results, Try.results12, go_sem, g0, g1', g2, g3, g4, g5]; rfl) rfl ⟨some ⟨g1, 0, none⟩, k1, a3, k3, a5, k5, ?_, ?_, ?_, ?_, by rw [HX.out]; exact BF.out⟩
  · rw [hld]
  · have h := own_le (B' := w.heap.size) (own_same (own_same O14.out (fun c hc => F15.out c (by have h1 := (O14.out.lt c hc).1; have := LT.out; omega))) (fun c hc => F16.out c (by have h1 := (O14.out.lt c hc).1; omega))) (by have := LT.out; have := HX.out; omega)
    rw [← sts_set, ← HPS.out] at h; exact h
  · have h := own_le (B' := w.heap.size) (own_same (own_same P14.out (fun c hc => F15.out c (by have h1 := (P14.out.lt c hc).1; have := LT.out; omega))) (fun c hc => F16.out c (by have h1 := (P14.out.lt c hc).1; omega))) (by have := LT.out; have := HX.out; omega)
    rw [its_snoc]; exact h
  · have h := own_le (B' := w.heap.size) (own_same (own_same O5.out (fun c hc => F15.out c (by have h1 := (O5.out.lt c hc).1; have := LT.out; omega))) (fun c hc => F16.out c (by have h1 := (O5.out.lt c hc).1; omega))) (by have := LT.out; have := HX.out; omega)
    rw [sts_snoc, HPS.out]; exact h
set_option maxRecDepth 100000 in
set_option maxHeartbeats 8000000 in
theorem writer_fu (w : World) (B : Nat) (pB : Addr) (aF : Option Addr) (nB kB nF kF : Nat) (bs : List ByteArray) (pA pP : Addr) (nA kA nP kP : Nat) (qs : List Nat) (ps : List ByteArray) (left : Int) (q : Nat) (s : ByteArray) (hB : w.ownsRow B 9 1 (.slice (some pB) nB kB) nB (sts bs)) (hA : w.ownsRow B 3 1 (.slice (some pA) nA kA) nA (its qs)) (hP : w.ownsRow B 9 1 (.slice (some pP) nP kP) nP (sts ps)) (hq : q < nB) (h64 : s.size ≤ 64) (hl : left < 0) (hn : nB ≤ 1000 ∧ nA ≤ 1000 ∧ nP ≤ 1000) :
    Calls Try.prog 12 #[rv false (.slice (some pB) nB kB) (.slice aF nF kF) (.slice (some pA) nA kA) (.slice (some pP) nP kP) left, .int .i64 (q : Int), .string s] w fun e w' => ∃ a1 k1 a2 k2 a3 k3, e = .returned (.tuple #[rv false (.slice a1 nB k1) (.slice aF nF kF) (.slice a2 (nA + 1) k2) (.slice a3 (nP + 1) k3) left, .int .i64 0]) ∧
      w'.ownsRow w.heap.size 9 1 (.slice a1 nB k1) nB (sts (bs.set q (padS s))) ∧ w'.ownsRow w.heap.size 3 1 (.slice a2 (nA + 1) k2) (nA + 1) (its (qs ++ [q])) ∧ w'.ownsRow w.heap.size 9 1 (.slice a3 (nP + 1) k3) (nP + 1) (sts (ps ++ [padS s])) ∧ Below w.heap.size w w' := by
  obtain ⟨bx, hbx⟩ : ∃ bx, w.heap.size = bx := ⟨_, rfl⟩
  obtain ⟨W1, hW1⟩ : ∃ W1, w.alloc (.cells #[.bool false, .slice (some pB) nB kB, .slice aF nF kF, .slice (some pA) nA kA, .slice (some pP) nP kP, .int .i64 left] 31) = W1 := ⟨_, rfl⟩
  have r1 : Row W1 bx 31 [.bool false, (.slice (some pB) nB kB), (.slice aF nF kF), (.slice (some pA) nA kA), (.slice (some pP) nP kP), .int .i64 left] := by rw [← hW1, ← hbx]; exact Row.new _ _ _
  obtain ⟨rb, hrb⟩ : ∃ rb, W1.heap.size = rb := ⟨_, rfl⟩
  obtain ⟨W2, hW2⟩ : ∃ W2, W1.alloc (.cells #[.bool false, .slice none 0 0, .slice none 0 0, .slice none 0 0, .slice none 0 0, .int .i64 0] 31) = W2 := ⟨_, rfl⟩
  have q2 : Row W2 rb 31 zcs := by rw [← hW2, ← hrb]; exact Row.new _ _ _
  have r2 : Row W2 bx 31 [.bool false, (.slice (some pB) nB kB), (.slice aF nF kF), (.slice (some pA) nA kA), (.slice (some pP) nP kP), .int .i64 left] := r1.same (by rw [← hW2]; exact Below.heap_alloc _ _ _ r1.lt)
  have b2 : Below bx w W2 := by rw [← hW2, ← hW1, ← hbx]; exact ((Below.refl _ _).alloc (Nat.le_refl _) _).alloc (by rw [size_al]; omega) _
  have hlt : bx < rb := by rw [← hrb, ← hW1, size_al, ← hbx]; omega
  have dl : decide (0 < left) = false := by simp; omega
  have r3 := r2; have q3 := q2; have b3 := b2
  have l0 : (left == 0) = false := by simp; omega
  have y0 := r2.cell (i := 0) rfl; have y1 := r2.cell (i := 1) rfl; have y5' := r2.cell (i := 5) rfl
  have x1 := r3.cell (i := 1) rfl
  have R3 := Lib.hid r3; have Q3 := Lib.hid q3; have B3 := Lib.hid b3
  have LT : Hid (bx < rb ∧ rb < W2.heap.size) := ⟨hlt, q3.lt⟩
  have HB := Lib.hid hB
  have HA := Lib.hid hA; have HP := Lib.hid hP
  have BW : Hid (Below w.heap.size w W2) := by show Below _ _ _; rw [hbx]; exact b3
  have HX := Lib.hid hbx
  have NN := Lib.hid hn
  have LB : Hid ((sts bs).length = nB * 1) := by have := hB.1; show _ = _; omega
  have LA : Hid ((its qs).length = nA * 1) := by have := hA.1; show _ = _; omega
  have LP : Hid ((sts ps).length = nP * 1) := by have := hP.1; show _ = _; omega
  have HQ := Lib.hid hq; have H64 := Lib.hid h64
  have qi : decide ((q : Int) < 0) = false := by simp
  have qi' : ¬ (q : Int) < 0 := by omega
  have qn : decide ((nB : Int) ≤ (q : Int)) = false := by simp; omega
  have qn' : decide (nB ≤ q) = false := by simp; omega
  have qn'' : ¬ (nB : Int) ≤ (q : Int) := by omega
  have q0 : (0 : Int) ≤ (q : Int) := by omega
  have ql : (q : Int) < (nB : Int) := by omega
  have s1 : decide ((64 : Int) < (s.size : Int)) = false := by simp; omega
  have s1a : decide (64 < s.size) = false := by simp; omega
  have s1b : ¬ (64 : Int) < (s.size : Int) := by omega
  obtain ⟨i3, hi3, hz30, hz31, hz32⟩ := info_parts (show (Try.prog.info? 3).map (fun i => (i.zero, i.size, i.bytes)) = some (some (.int .i64 0), 1, 8) by kernel_rfl)
  have II3 := Lib.hid hi3; have Z30 := Lib.hid hz30; have Z31 := Lib.hid hz31; have Z32 := Lib.hid hz32
  obtain ⟨i9, hi9, hz90, hz91, hz92⟩ := info_parts (show (Try.prog.info? 9).map (fun i => (i.zero, i.size, i.bytes)) = some (some (.string ByteArray.empty), 1, 16) by kernel_rfl)
  have II9 := Lib.hid hi9; have Z90 := Lib.hid hz90; have Z91 := Lib.hid hz91; have Z92 := Lib.hid hz92
  clear r1 r2 r3 q2 q3 b2 b3 hlt hB hA hP hq h64 hn hi3 hz30 hz31 hz32 hi9 hz90 hz91 hz92 hl
  go_enter Try.func12, Try.ntmps12
  go_wp2_with (at_builtin; refine wpList_append_own_at _ rfl _ _ 28 rfl (rb + 1) 9 i9 (.string ByteArray.empty) 1 16 Try.underlying28 II9.out Z90.out Z91.out Z92.out rfl (by decide) (.slice none 0 0) 0 [] rfl (World.ownsRow_nil _ _ _ _) pB nB kB (sts bs) rfl LB.out (own_news HB.out BW.out) (sts_one _) (by have := NN.out; unfold maxLen; omega) (by have := NN.out; omega) (by have := LT.out; omega) ?_; intro v1 w5 ho1 hg1 hn1 hl1; have O1 := (Lib.hid ho1); have G1 := (Lib.hid hg1); clear ho1 hg1 hn1 hl1)
  rw [Nat.zero_add, List.nil_append] at O1
  have S5 : Hid (W2.heap.size ≤ w5.heap.size) := G1.out.size
  obtain ⟨g1, k1, he1, hb1⟩ : ∃ g1 k1, v1 = .slice (some ⟨g1, 0, none⟩) nB k1 ∧ rb + 1 ≤ g1 := by
    rcases O1.out.2 with ⟨_, h⟩ | ⟨g, cap, cur, e, hb, _⟩
    · have := HQ.out; omega
    · exact ⟨g, cap, e, hb⟩
  subst he1
  have HB1 := Lib.hid hb1
  have R5 := Lib.hid (R3.out.same (G1.out.block bx (by have := LT.out; omega) (fun e => by cases e)))
  have Q5 := Lib.hid (Q3.out.same (G1.out.block rb LT.out.2 (fun e => by cases e)))
  have B5 := Lib.hid (B3.out.grown G1.out (by have := LT.out; omega) (fun k e => by cases e))
  clear hb1 x1 y0 y1 y5'
  refine (pad_any s H64.out w5).mono ?_; rintro e w6 ⟨rfl, b⟩
  have O6 := Lib.hid (own_below O1.out b); have R6 := Lib.hid (R5.out.below b R5.out.lt); have Q6 := Lib.hid (Q5.out.below b Q5.out.lt)
  have B6 := Lib.hid (B5.out.trans (b.mono (Nat.le_of_lt R5.out.lt))); have S6 : Hid (w5.heap.size ≤ w6.heap.size) := b.size
  clear b
  obtain ⟨ps0, hps0⟩ : ∃ z, padS s = z := ⟨_, rfl⟩
  rw [hps0]
  have HPS := Lib.hid hps0
  obtain ⟨⟨mx, m1⟩, m2⟩ := own_cell1 O6.out HQ.out
  obtain ⟨W7, hW7⟩ : ∃ W7, w6.setCell ⟨g1, q, none⟩ (.string ps0) = W7 := ⟨_, rfl⟩
  have O7 := own_set1 O6.out (q := q) (.string ps0)
  rw [hW7] at O7
  have r7 := R6.out.same (show W7.heap[bx]? = w6.heap[bx]? by rw [← hW7]; exact Below.heap_setCell _ _ _ _ (show bx ≠ g1 by have := HB1.out; have := LT.out; omega))
  have q7 := Q6.out.same (show W7.heap[rb]? = w6.heap[rb]? by rw [← hW7]; exact Below.heap_setCell _ _ _ _ (show rb ≠ g1 by have := HB1.out; omega))
  have b7 : Below bx w W7 := by rw [← hW7]; exact B6.out.setCell (show bx ≤ g1 by have := HB1.out; have := LT.out; omega) _
  have y1 := r7.cell (i := 1) rfl; have yf1 := r7.fr (i := 1)
  obtain ⟨W8, hW8⟩ : ∃ W8, W7.setCell ⟨bx, 1, none⟩ (.slice (some ⟨g1, 0, none⟩) nB k1) = W8 := ⟨_, rfl⟩
  have r8 : Row W8 bx 31 [.bool false, (.slice (some ⟨g1, 0, none⟩) nB k1), (.slice aF nF kF), (.slice (some pA) nA kA), (.slice (some pP) nP kP), .int .i64 left] := by rw [← hW8]; exact r7.set (i := 1) _
  have R8 := Lib.hid r8
  have Q8 := Lib.hid (q7.same (show W8.heap[rb]? = W7.heap[rb]? by rw [← hW8]; exact Below.heap_setCell _ _ _ _ (show rb ≠ bx by have := LT.out; omega)))
  have O8 := Lib.hid (own_same O7 (fun c hc => show W8.heap[c]? = W7.heap[c]? by rw [← hW8]; exact Below.heap_setCell _ _ _ _ (show c ≠ bx by have h1 := (O7.lt c hc).1; have := LT.out; omega)))
  have B8 : Hid (Below bx w W8) := by show Below _ _ _; rw [← hW8]; exact b7.setCell (Nat.le_refl _) _
  have BW8 : Hid (Below w.heap.size w W8) := by show Below _ _ _; rw [HX.out]; exact B8.out
  have x3 := r8.cell (i := 3) rfl
  have LT8 : Hid (rb < W8.heap.size) := Q8.out.lt
  clear O7 r7 q7 b7 r8 hps0
  go_wp2_with (first | (at_builtin; refine wpList_append_own_at _ rfl _ _ 29 rfl (rb + 1) 3 i3 (.int .i64 0) 1 8 Try.underlying29 II3.out Z30.out Z31.out Z32.out rfl (by decide) (.slice none 0 0) 0 [] rfl (World.ownsRow_nil _ _ _ _) pA nA kA (its qs) rfl LA.out (own_news HA.out BW8.out) (its_one _) (by have := NN.out; unfold maxLen; omega) (by have := NN.out; omega) (by have := LT8.out; omega) ?_; intro v2 w9 ho2 hg2 hn2 hl2; rw [Nat.zero_add, List.nil_append] at ho2; have O2 := (Lib.hid ho2); have G2 := (Lib.hid hg2); obtain ⟨a2, k2, he2⟩ := row_form1 ho2; subst he2; clear ho2 hg2 hn2; have hloc2 := hl2; clear hl2; have R9 := (Lib.hid (R8.out.same (G2.out.block bx (by have := LT8.out; have := LT.out; omega) (fun e => by cases e)))); have Q9 := (Lib.hid (Q8.out.same (G2.out.block rb LT8.out (fun e => by cases e)))); have O9 := (Lib.hid (own_same O8.out (fun c hc => G2.out.block c (O8.out.lt c hc).2 (fun e => by cases e)))); have B9 := (Lib.hid (B8.out.grown G2.out (by have := LT8.out; have := LT.out; omega) (fun k e => by cases e))); have D2 : Hid (∀ c, Value.ownBlock (.slice (some ⟨g1, 0, none⟩) nB k1) = some c → Value.ownBlock (.slice a2 nA k2) ≠ some c) := (own_apart O8.out hloc2)) | (at_builtin; refine wpList_append_own_at _ rfl _ _ 29 rfl (rb + 1) 3 i3 (.int .i64 0) 1 8 Try.underlying29 II3.out Z30.out Z31.out Z32.out rfl (by decide) (.slice a2 nA k2) nA (its qs) rfl (O2.out.alloc _) ⟨w9.heap.size, 0, none⟩ 1 1 [.int .i64 (q : Int)] rfl rfl (cell_one_new _ _ _) (by simp [Value.oneCell']) (by have := NN.out; unfold maxLen; omega) (by have := NN.out; omega) (by have h1 := Q9.out.lt; simp <;> omega) ?_; intro v3 w10 ho3 hg3 hn3 hl3; have O3 := (Lib.hid ho3); have G3 := (Lib.hid hg3); obtain ⟨a3, k3, he3⟩ := row_form1 ho3; subst he3; have E3 : Hid (∀ c, c < w9.heap.size → Value.ownBlock (.slice a2 nA k2) ≠ some c → w10.heap[c]? = w9.heap[c]?) := (fun c hc hne => by rw [hg3.block c (by rw [size_al]; omega) (fun e => hne e.symm)]; exact Below.heap_alloc _ _ _ hc); clear ho3 hg3 hn3 hl3; have R10 := (Lib.hid (R9.out.same (E3.out bx R9.out.lt (fun e => by have h1 := (O2.out.lt bx e).1; have h2 := LT.out; omega)))); have Q10 := (Lib.hid (Q9.out.same (E3.out rb Q9.out.lt (fun e => by have h1 := (O2.out.lt rb e).1; have h2 := LT.out; omega)))); have O10 := (Lib.hid (own_same O9.out (fun c hc => E3.out c (O9.out.lt c hc).2 (D2.out c hc)))); have B10 := (Lib.hid ((B9.out.alloc (by have h1 := R9.out.lt; omega) _).grown G3.out (by have h1 := R9.out.lt; simp <;> omega) (fun k e => by have h1 := (O2.out.lt k e).1; have h2 := LT.out; omega))); have z3 := (R10.out.cell (i := 3) rfl); have zf3 := (R10.out.fr (i := 3)); obtain ⟨W11, hW11⟩ : ∃ W11, w10.setCell ⟨bx, 3, none⟩ (.slice a3 (nA + 1) k3) = W11 := ⟨_, rfl⟩; have R11 : Hid (Row W11 bx 31 [.bool false, (.slice (some ⟨g1, 0, none⟩) nB k1), (.slice aF nF kF), (.slice a3 (nA + 1) k3), (.slice (some pP) nP kP), .int .i64 left]) := (by show Row _ _ _ _; rw [← hW11]; exact R10.out.set (i := 3) _); have F11 : Hid (∀ c, c ≠ bx → W11.heap[c]? = w10.heap[c]?) := (fun c hc => by rw [← hW11]; exact Below.heap_setCell _ _ _ _ (by exact hc)); have Q11 := (Lib.hid (Q10.out.same (F11.out rb (by have := LT.out; omega)))); have O11 := (Lib.hid (own_same O10.out (fun c hc => F11.out c (by have h1 := (O10.out.lt c hc).1; have := LT.out; omega)))); have P11 := (Lib.hid (own_same O3.out (fun c hc => F11.out c (by have h1 := (O3.out.lt c hc).1; have := LT.out; omega)))); have B11 : Hid (Below bx w W11) := (by show Below _ _ _; rw [← hW11]; exact B10.out.setCell (Nat.le_refl _) _); have BW11 : Hid (Below w.heap.size w W11) := (by show Below _ _ _; rw [HX.out]; exact B11.out); have LT11 : Hid (rb < W11.heap.size) := (Q11.out.lt); have x4 := (R11.out.cell (i := 4) rfl)) | (at_builtin; refine wpList_append_own_at _ rfl _ _ 28 rfl (rb + 1) 9 i9 (.string ByteArray.empty) 1 16 Try.underlying28 II9.out Z90.out Z91.out Z92.out rfl (by decide) (.slice none 0 0) 0 [] rfl (World.ownsRow_nil _ _ _ _) pP nP kP (sts ps) rfl LP.out (own_news HP.out BW11.out) (sts_one _) (by have := NN.out; unfold maxLen; omega) (by have := NN.out; omega) (by have := LT11.out; omega) ?_; intro v4 w12 ho4 hg4 hn4 hl4; rw [Nat.zero_add, List.nil_append] at ho4; have O4 := (Lib.hid ho4); have G4 := (Lib.hid hg4); have L4 := (Lib.hid hl4); obtain ⟨a4, k4, he4⟩ := row_form1 ho4; subst he4; clear ho4 hg4 hn4 hl4))
  have R12 := Lib.hid (R11.out.same (G4.out.block bx R11.out.lt (fun e => by cases e)))
  have Q12 := Lib.hid (Q11.out.same (G4.out.block rb Q11.out.lt (fun e => by cases e)))
  have O12 := Lib.hid (own_same O11.out (fun c hc => G4.out.block c (O11.out.lt c hc).2 (fun e => by cases e)))
  have P12 := Lib.hid (own_same P11.out (fun c hc => G4.out.block c (P11.out.lt c hc).2 (fun e => by cases e)))
  have B12 := Lib.hid (B11.out.grown G4.out (by have h1 := R11.out.lt; omega) (fun k e => by cases e))
  have D4 : Hid (∀ c, c < W11.heap.size → Value.ownBlock (.slice a4 nP k4) ≠ some c) := fun c hc e => by
    rcases L4.out with h | h
    · rw [h] at e; cases e
    · rw [h] at e; injection e with e; omega
  refine (pad_any s H64.out w12).mono ?_; rintro e w13 ⟨rfl, b⟩
  have R13 := Lib.hid (R12.out.below b R12.out.lt); have Q13 := Lib.hid (Q12.out.below b Q12.out.lt); have O13 := Lib.hid (own_below O12.out b); have P13 := Lib.hid (own_below P12.out b)
  have B13 := Lib.hid (B12.out.trans (b.mono (Nat.le_of_lt R12.out.lt)))
  have V13 := Lib.hid (own_below O4.out b)
  have S13 : Hid (w12.heap.size ≤ w13.heap.size) := b.size
  clear b
  rw [HPS.out]
  go_wp2_with (at_builtin; refine wpList_append_own_at _ rfl _ _ 28 rfl (rb + 1) 9 i9 (.string ByteArray.empty) 1 16 Try.underlying28 II9.out Z90.out Z91.out Z92.out rfl (by decide) (.slice a4 nP k4) nP (sts ps) rfl (V13.out.alloc _) ⟨w13.heap.size, 0, none⟩ 1 1 [.string ps0] rfl rfl (cell_one_new _ _ _) (by simp [Value.oneCell']) (by have := NN.out; unfold maxLen; omega) (by have := NN.out; omega) (by have h1 := Q13.out.lt; simp <;> omega) ?_; intro v5 w14 ho5 hg5 hn5 hl5; have O5 := (Lib.hid ho5); have G5 := (Lib.hid hg5); obtain ⟨a5, k5, he5⟩ := row_form1 ho5; subst he5; have E5 : Hid (∀ c, c < w13.heap.size → Value.ownBlock (.slice a4 nP k4) ≠ some c → w14.heap[c]? = w13.heap[c]?) := (fun c hc hne => by rw [hg5.block c (by rw [size_al]; omega) (fun e => hne e.symm)]; exact Below.heap_alloc _ _ _ hc); clear ho5 hg5 hn5 hl5; have R14 := (Lib.hid (R13.out.same (E5.out bx R13.out.lt (D4.out bx R11.out.lt)))); have Q14 := (Lib.hid (Q13.out.same (E5.out rb Q13.out.lt (D4.out rb Q11.out.lt)))); have O14 := (Lib.hid (own_same O13.out (fun c hc => E5.out c (O13.out.lt c hc).2 (D4.out c (O11.out.lt c hc).2)))); have P14 := (Lib.hid (own_same P13.out (fun c hc => E5.out c (P13.out.lt c hc).2 (D4.out c (P11.out.lt c hc).2)))); have B14 := (Lib.hid ((B13.out.alloc (by have h1 := R13.out.lt; omega) _).grown G5.out (by have h1 := R13.out.lt; simp <;> omega) (fun k e => by have h1 := (V13.out.lt k e).1; have h2 := LT.out; omega))); have u4 := (R14.out.cell (i := 4) rfl); have uf4 := (R14.out.fr (i := 4)); obtain ⟨W15, hW15⟩ : ∃ W15, w14.setCell ⟨bx, 4, none⟩ (.slice a5 (nP + 1) k5) = W15 := ⟨_, rfl⟩; have R15 : Hid (Row W15 bx 31 [.bool false, (.slice (some ⟨g1, 0, none⟩) nB k1), (.slice aF nF kF), (.slice a3 (nA + 1) k3), (.slice a5 (nP + 1) k5), .int .i64 left]) := (by show Row _ _ _ _; rw [← hW15]; exact R14.out.set (i := 4) _); have F15 : Hid (∀ c, c ≠ bx → W15.heap[c]? = w14.heap[c]?) := (fun c hc => by rw [← hW15]; exact Below.heap_setCell _ _ _ _ (by exact hc)); have Q15 := (Lib.hid (Q14.out.same (F15.out rb (by have := LT.out; omega)))); have B15 : Hid (Below bx w W15) := (by show Below _ _ _; rw [← hW15]; exact B14.out.setCell (Nat.le_refl _) _); have x0 := (R15.out.cell (i := 0) rfl); have x1 := (R15.out.cell (i := 1) rfl); have x2 := (R15.out.cell (i := 2) rfl); have x3 := (R15.out.cell (i := 3) rfl); have x4 := (R15.out.cell (i := 4) rfl); have x5 := (R15.out.cell (i := 5) rfl); have c0 := (Q15.out.cell (i := 0) rfl); have c1 := (Q15.out.cell (i := 1) rfl); have c2 := (Q15.out.cell (i := 2) rfl); have c3 := (Q15.out.cell (i := 3) rfl); have c4 := (Q15.out.cell (i := 4) rfl); have c5 := (Q15.out.cell (i := 5) rfl); have cf0 := (Q15.out.fr (i := 0)); have cf1 := (Q15.out.fr (i := 1)); have cf2 := (Q15.out.fr (i := 2)); have cf3 := (Q15.out.fr (i := 3)); have cf4 := (Q15.out.fr (i := 4)); have cf5 := (Q15.out.fr (i := 5)); obtain ⟨W16, hW16, q16, b16⟩ := set6 Q15.out (.bool false) (.slice (some ⟨g1, 0, none⟩) nB k1) (.slice aF nF kF) (.slice a3 (nA + 1) k3) (.slice a5 (nP + 1) k5) (.int .i64 left); have Q16 := (Lib.hid q16); have F16 : Hid (∀ c, c ≠ rb → W16.heap[c]? = W15.heap[c]?) := (fun c hc => by rw [← hW16]; simp only [Below.heap_setCell _ _ _ _ (show c ≠ (Addr.mk rb _ none).block from hc)]); have BF := (Lib.hid (b16 bx w (by have := LT.out; omega) B15.out)); clear q16 b16)
  have g0 := Q16.out.cell (i := 0) rfl; have g1' := Q16.out.cell (i := 1) rfl; have g2 := Q16.out.cell (i := 2) rfl; have g3 := Q16.out.cell (i := 3) rfl; have g4 := Q16.out.cell (i := 4) rfl; have g5 := Q16.out.cell (i := 5) rfl
  refine bodyPost_ret (by simp [results, Try.results12, go_sem, g0, g1', g2, g3, g4, g5]; rfl) rfl ⟨some ⟨g1, 0, none⟩, k1, a3, k3, a5, k5, ?_, ?_, ?_, ?_, by rw [HX.out]; exact BF.out⟩
  · rfl
  · have h := own_le (B' := w.heap.size) (own_same (own_same O14.out (fun c hc => F15.out c (by have h1 := (O14.out.lt c hc).1; have := LT.out; omega))) (fun c hc => F16.out c (by have h1 := (O14.out.lt c hc).1; omega))) (by have := LT.out; have := HX.out; omega)
    rw [← sts_set, ← HPS.out] at h; exact h
  · have h := own_le (B' := w.heap.size) (own_same (own_same P14.out (fun c hc => F15.out c (by have h1 := (P14.out.lt c hc).1; have := LT.out; omega))) (fun c hc => F16.out c (by have h1 := (P14.out.lt c hc).1; omega))) (by have := LT.out; have := HX.out; omega)
    rw [its_snoc]; exact h
  · have h := own_le (B' := w.heap.size) (own_same (own_same O5.out (fun c hc => F15.out c (by have h1 := (O5.out.lt c hc).1; have := LT.out; omega))) (fun c hc => F16.out c (by have h1 := (O5.out.lt c hc).1; omega))) (by have := LT.out; have := HX.out; omega)
    rw [sts_snoc, HPS.out]; exact h
end Go.Proofs.Ytgadplgjpemdaaa
