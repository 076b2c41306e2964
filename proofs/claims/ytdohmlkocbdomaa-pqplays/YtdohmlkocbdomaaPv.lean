/- pq: the reference: its rows, has, Set, Key, Drop. -/
import Derived.Test.YtdohmlkocbdomaaPu
namespace Go.Proofs.Ytdohmlkocbdomaa
open Go.ChangeShapes Go.WideShapes Go.ChangeAt Go.RowKit Go.Joins Go.Deep

abbrev sl (b n : Nat) : Value := .slice (some ⟨b, 0, none⟩) n n
abbrev rv (ib kb n : Nat) : Value := .agg #[sl ib n, sl kb n]
abbrev bvs (l : List Bool) : List Value := l.map .bool
/- a block as a row -/
def Row (w : World) (b : Nat) (T : TypeId) (cs : List Value) : Prop := w.heap[b]? = some (.cells cs.toArray T (0, 0))
theorem Row.cell {w : World} {b T i : Nat} {cs : List Value} {v : Value} (h : Row w b T cs) (hv : cs[i]? = some v) : w.cell? ⟨b, i, none⟩ = some v := by
  unfold Row at h; unfold World.cell?; rw [h]; simpa using hv
theorem Row.fr {w : World} {b T i : Nat} {cs : List Value} (h : Row w b T cs) : w.frozen? ⟨b, i, none⟩ = false := by
  unfold Row at h; unfold World.frozen?; rw [h]; simp
theorem Row.lt {w : World} {b T : Nat} {cs : List Value} (h : Row w b T cs) : b < w.heap.size := by
  by_cases hl : b < w.heap.size
  · exact hl
  · unfold Row at h; rw [Array.getElem?_eq_none (Nat.le_of_not_lt hl)] at h; cases h
theorem Row.set {w : World} {b T i : Nat} {cs : List Value} (h : Row w b T cs) (v : Value) : Row (w.setCell ⟨b, i, none⟩ v) b T (cs.set i v) := by
  unfold Row at h ⊢; rw [heap_setCell_same _ _ _ _ _ _ h]; simp
theorem Row.other {w : World} {b T : Nat} {cs : List Value} {a : Addr} {v : Value} (h : Row w b T cs) (hn : b ≠ a.block) : Row (w.setCell a v) b T cs := by
  unfold Row at h ⊢; rw [Below.heap_setCell _ _ _ _ hn]; exact h
theorem Row.same {w W : World} {b T : Nat} {cs : List Value} (h : Row w b T cs) (e : W.heap[b]? = w.heap[b]?) : Row W b T cs := by unfold Row; rw [e]; exact h
theorem Row.below {w W : World} {b T B : Nat} {cs : List Value} (h : Row w b T cs) (hb : Below B w W) (hn : b < B) : Row W b T cs := h.same (hb.block b hn)
theorem Row.alloc {w : World} {b T : Nat} {cs : List Value} (h : Row w b T cs) (o : Obj) : Row (w.alloc o) b T cs := h.same (Below.heap_alloc _ _ _ h.lt)
theorem Row.new (w : World) (T : TypeId) (cs : List Value) : Row (w.alloc (.cells cs.toArray T)) w.heap.size T cs := heap_alloc_new _ _
/- the reference's queue: two rows -/
structure RefS (w : World) (ib kb n : Nat) (ins : List Bool) (ks : List Int) : Prop where
  i : Row w ib 4 (bvs ins)
  k : Row w kb 3 (ivs ks)
  ne : ib ≠ kb
  il : ins.length = n
  kl : ks.length = n
theorem RefS.same {w W : World} {ib kb n : Nat} {ins : List Bool} {ks : List Int} (h : RefS w ib kb n ins ks) (e1 : W.heap[ib]? = w.heap[ib]?) (e2 : W.heap[kb]? = w.heap[kb]?) : RefS W ib kb n ins ks := ⟨h.i.same e1, h.k.same e2, h.ne, h.il, h.kl⟩
theorem RefS.below {w W : World} {ib kb n : Nat} {ins : List Bool} {ks : List Int} (h : RefS w ib kb n ins ks) (b : Below w.heap.size w W) : RefS W ib kb n ins ks := h.same (b.block _ h.i.lt) (b.block _ h.k.lt)
theorem RefS.ci {w : World} {ib kb n X : Nat} {ins : List Bool} {ks : List Int} (h : RefS w ib kb n ins ks) (hX : X < n) : w.cell? ⟨ib, X, none⟩ = some (.bool (ins.getD X false)) := by
  refine h.i.cell ?_
  have : X < ins.length := by rw [h.il]; exact hX
  simp [List.getD, this]
theorem RefS.ck {w : World} {ib kb n X : Nat} {ins : List Bool} {ks : List Int} (h : RefS w ib kb n ins ks) (hX : X < n) : w.cell? ⟨kb, X, none⟩ = some (.int .i64 (ks.getD X 0)) := by
  refine h.k.cell ?_
  have : X < ks.length := by rw [h.kl]; exact hX
  simp [List.getD, this]
theorem RefS.seti {w : World} {ib kb n X : Nat} {ins : List Bool} {ks : List Int} (h : RefS w ib kb n ins ks) (b : Bool) : RefS (w.setCell ⟨ib, X, none⟩ (.bool b)) ib kb n (ins.set X b) ks :=
  ⟨by have := h.i.set (i := X) (.bool b); unfold bvs; rw [List.map_set]; exact this, h.k.other (fun e => h.ne e.symm), h.ne, by rw [List.length_set]; exact h.il, h.kl⟩
theorem RefS.setk {w : World} {ib kb n X : Nat} {ins : List Bool} {ks : List Int} (h : RefS w ib kb n ins ks) (y : Int) : RefS (w.setCell ⟨kb, X, none⟩ (.int .i64 y)) ib kb n ins (ks.set X y) :=
  ⟨h.i.other h.ne, by have := h.k.set (i := X) (.int .i64 y); unfold ivs; rw [List.map_set]; exact this, h.ne, h.il, by rw [List.length_set]; exact h.kl⟩
def InN (n : Nat) (x : Int) : Bool := decide (0 ≤ x ∧ x < (n : Int))
theorem hasr_any (ib kb n : Nat) (x : Int) (w : World) : Calls Try.prog 24 #[rv ib kb n, .int .i64 x] w fun e w' => e = .returned (.bool (InN n x)) ∧ Below w.heap.size w w' := by
  obtain ⟨W1, hW1⟩ : ∃ W1, w.alloc (.cells #[sl ib n, sl kb n] 29) = W1 := ⟨_, rfl⟩
  have r1 : Row W1 w.heap.size 29 [sl ib n, sl kb n] := by rw [← hW1]; exact Row.new _ _ _
  have q0 := r1.cell (i := 0) rfl; have q1 := r1.cell (i := 1) rfl
  have BB := Lib.hid (show Below w.heap.size w W1 by rw [← hW1]; exact (Below.refl _ _).alloc (Nat.le_refl _) _)
  clear r1
  by_cases h0 : 0 ≤ x
  · by_cases h1 : x < (n : Int)
    · have V := Lib.hid (show InN n x = true by unfold InN; simp; omega)
      go_enter Try.func24, Try.ntmps24
      go_wp2_with fail
      go_ret
      exact ⟨by rw [V.out]; rfl, BB.out⟩
    · have V := Lib.hid (show InN n x = false by unfold InN; simp; omega)
      go_enter Try.func24, Try.ntmps24
      go_wp2_with fail
      go_ret
      exact ⟨by rw [V.out]; rfl, BB.out⟩
  · have V := Lib.hid (show InN n x = false by unfold InN; simp; omega)
    go_enter Try.func24, Try.ntmps24
    go_wp2_with fail
    go_ret
    exact ⟨by rw [V.out]; rfl, BB.out⟩
/- the box of an argument and the box of a result -/
structure Bx (w W : World) (ib kb n : Nat) : Prop where
  a : Row W w.heap.size 29 [sl ib n, sl kb n]
  z : Row W (w.heap.size + 1) 29 [.slice none 0 0, .slice none 0 0]
  b : Below w.heap.size w W
  sz : W.heap.size = w.heap.size + 2
theorem bx_new (w : World) (ib kb n : Nat) : ∃ W1 W2, w.alloc (.cells #[sl ib n, sl kb n] 29) = W1 ∧ W1.alloc (.cells #[.slice none 0 0, .slice none 0 0] 29) = W2 ∧ W1.heap.size = w.heap.size + 1 ∧ Bx w W2 ib kb n := by
  refine ⟨_, _, rfl, rfl, by simp, (Row.new w 29 [sl ib n, sl kb n]).alloc _, ?_, ((Below.refl _ _).alloc (Nat.le_refl _) _).alloc (by simp) _, by simp⟩
  have := Row.new (w.alloc (.cells #[sl ib n, sl kb n] 29)) 29 [.slice none 0 0, .slice none 0 0]
  rw [World.size_alloc] at this; exact this
theorem put2 {W : World} {b : Nat} {v0 v1 : Value} (y0 y1 : Value) (h : Row W b 29 [v0, v1]) : ∃ W9, (W.setCell ⟨b, 0, none⟩ y0).setCell ⟨b, 1, none⟩ y1 = W9 ∧ Row W9 b 29 [y0, y1] ∧ FrF (fun k => k = b) W W9 :=
  ⟨_, rfl, (h.set (i := 0) y0).set (i := 1) y1, (FrF.setCell (F := fun k => k = b) W (a := ⟨b, 0, none⟩) rfl _).trans (FrF.setCell (F := fun k => k = b) _ (a := ⟨b, 1, none⟩) rfl _) (fun _ _ h => h)⟩
set_option maxRecDepth 100000 in
set_option maxHeartbeats 4000000 in
theorem rset_no {ib kb n : Nat} {x : Int} (hx : InN n x = false) (y : Int) (w : World) : Calls Try.prog 12 #[rv ib kb n, .int .i64 x, .int .i64 y] w fun e w' => e = .returned (.tuple #[rv ib kb n, .bool false]) ∧ Below w.heap.size w w' := by
  obtain ⟨W1, W2, hW1, hW2, z1, B⟩ := bx_new w ib kb n
  have q0 := B.a.cell (i := 0) rfl; have q1 := B.a.cell (i := 1) rfl
  have BB := Lib.hid B; have HX := Lib.hid hx
  clear B hx
  go_enter Try.func12, Try.ntmps12
  go_wp2_with fail
  refine (hasr_any ib kb n x _).mono ?_; rintro e w3 ⟨rfl, b⟩
  rw [HX.out]
  have a3 := BB.out.a.below b (by rw [BB.out.sz]; omega); have z3 := BB.out.z.below b (by rw [BB.out.sz]; omega)
  have c0 := a3.cell (i := 0) rfl; have c1 := a3.cell (i := 1) rfl; have d0 := z3.cell (i := 0) rfl; have d1 := z3.cell (i := 1) rfl
  have f0 := z3.fr (i := 0); have f1 := z3.fr (i := 1)
  obtain ⟨W9, hW9, r9, fr9⟩ := put2 (sl ib n) (sl kb n) z3
  have g0 := r9.cell (i := 0) rfl; have g1 := r9.cell (i := 1) rfl
  have FIN := Lib.hid (show Below w.heap.size w W9 from (BB.out.b.trans (b.mono (by rw [BB.out.sz]; omega))).trans (fr9.below (by have := b.size; have := BB.out.sz; omega) (fun k h => by omega)))
  clear a3 z3 r9 fr9 b
  go_wp2_with fail
  refine bodyPost_ret (by simp [results, Try.results12, go_sem, g0, g1]; rfl) rfl ⟨?_, FIN.out⟩
  rfl
theorem InN_nat {n X : Nat} (h : X < n) : InN n (X : Int) = true := by unfold InN; simp; omega
theorem InN_has {n : Nat} {x : Int} {ins : List Bool} (hl : ins.length = n) (h : InN n x = false) : hasB ins x = false := by
  unfold InN at h
  rcases Int.lt_or_le x 0 with h0 | h0
  · exact hasB_neg h0
  · exact hasB_out (by rw [hl]; simp at h; omega)
def IK (ib kb : Nat) : Nat → Prop := fun k => k = ib ∨ k = kb
set_option maxRecDepth 100000 in
set_option maxHeartbeats 4000000 in
theorem rset_yes {w : World} {ib kb n X : Nat} {ins : List Bool} {ks : List Int} (R : RefS w ib kb n ins ks) (hX : X < n) (y : Int) :
    Calls Try.prog 12 #[rv ib kb n, .int .i64 X, .int .i64 y] w fun e w' => e = .returned (.tuple #[rv ib kb n, .bool true]) ∧ RefS w' ib kb n (ins.set X true) (ks.set X y) ∧ FrF (IK ib kb) w w' := by
  obtain ⟨W1, W2, hW1, hW2, z1, B⟩ := bx_new w ib kb n
  have q0 := B.a.cell (i := 0) rfl; have q1 := B.a.cell (i := 1) rfl
  have BB := Lib.hid B; have HX := Lib.hid (InN_nat hX); have RR := Lib.hid R; have HN := Lib.hid hX
  have x0 : (0 : Int) ≤ (X : Int) := by omega
  have x1 : (X : Int) < (n : Int) := by omega
  clear B hX R
  go_enter Try.func12, Try.ntmps12
  go_wp2_with fail
  refine (hasr_any ib kb n X _).mono ?_; rintro e w3 ⟨rfl, b⟩
  rw [HX.out]
  have bw : Below w.heap.size w w3 := BB.out.b.trans (b.mono (by rw [BB.out.sz]; omega))
  have a3 := BB.out.a.below b (by rw [BB.out.sz]; omega); have z3 := BB.out.z.below b (by rw [BB.out.sz]; omega)
  have R3 := RR.out.below bw
  have li := RR.out.i.lt; have lk := RR.out.k.lt
  have ci := R3.ci HN.out; have fi := R3.i.fr (i := X)
  obtain ⟨bi, hbi⟩ : ∃ bi, ins.getD X false = bi := ⟨_, rfl⟩
  rw [hbi] at ci
  obtain ⟨W4, hW4⟩ : ∃ W4, w3.setCell ⟨ib, X, none⟩ (.bool true) = W4 := ⟨_, rfl⟩
  have R4 : RefS W4 ib kb n (ins.set X true) ks := by rw [← hW4]; exact R3.seti true
  have F4 : FrF (IK ib kb) w3 W4 := by rw [← hW4]; exact FrF.setCell (F := IK ib kb) w3 (a := ⟨ib, X, none⟩) (Or.inl rfl) _
  have a4 : Row W4 w.heap.size 29 [sl ib n, sl kb n] := by rw [← hW4]; exact a3.other (by show w.heap.size ≠ ib; omega)
  have z4 : Row W4 (w.heap.size + 1) 29 [.slice none 0 0, .slice none 0 0] := by rw [← hW4]; exact z3.other (by show w.heap.size + 1 ≠ ib; omega)
  have ck := R4.ck HN.out; have fk := R4.k.fr (i := X)
  obtain ⟨bk, hbk⟩ : ∃ bk, ks.getD X 0 = bk := ⟨_, rfl⟩
  rw [hbk] at ck
  obtain ⟨W5, hW5⟩ : ∃ W5, W4.setCell ⟨kb, X, none⟩ (.int .i64 y) = W5 := ⟨_, rfl⟩
  have R5 : RefS W5 ib kb n (ins.set X true) (ks.set X y) := by rw [← hW5]; exact R4.setk y
  have F5 : FrF (IK ib kb) W4 W5 := by rw [← hW5]; exact FrF.setCell (F := IK ib kb) W4 (a := ⟨kb, X, none⟩) (Or.inr rfl) _
  have a5 : Row W5 w.heap.size 29 [sl ib n, sl kb n] := by rw [← hW5]; exact a4.other (by show w.heap.size ≠ kb; omega)
  have z5 : Row W5 (w.heap.size + 1) 29 [.slice none 0 0, .slice none 0 0] := by rw [← hW5]; exact z4.other (by show w.heap.size + 1 ≠ kb; omega)
  have c0 := a3.cell (i := 0) rfl; have c1 := a4.cell (i := 1) rfl
  have e0 := a5.cell (i := 0) rfl; have e1 := a5.cell (i := 1) rfl
  have d0 := z5.cell (i := 0) rfl; have d1 := z5.cell (i := 1) rfl
  have f0 := z5.fr (i := 0); have f1 := z5.fr (i := 1)
  obtain ⟨W9, hW9, r9, fr9⟩ := put2 (sl ib n) (sl kb n) z5
  have g0 := r9.cell (i := 0) rfl; have g1 := r9.cell (i := 1) rfl
  have FW : FrF (IK ib kb) w W9 := (((FrF.of_below (F := IK ib kb) bw).trans F4 (fun _ _ h => h)).trans F5 (fun _ _ h => h)).trans fr9 (fun k hk h => by omega)
  have R9 : RefS W9 ib kb n (ins.set X true) (ks.set X y) := R5.same (fr9.block _ R5.i.lt (by omega)) (fr9.block _ R5.k.lt (by omega))
  have FIN := Lib.hid (And.intro R9 FW)
  clear a3 z3 r9 fr9 b bw R3 li lk hbi R4 F4 a4 z4 hbk R5 F5 a5 z5 FW R9
  go_wp2_with fail
  refine bodyPost_ret (by simp [results, Try.results12, go_sem, g0, g1]; rfl) rfl ⟨?_, FIN.out⟩
  rfl
/- what the reference's Key and Drop ask first -/
set_option maxRecDepth 100000 in
set_option maxHeartbeats 4000000 in
theorem rkey_any {w : World} {ib kb n : Nat} {ins : List Bool} {ks : List Int} (R : RefS w ib kb n ins ks) (x : Int) :
    Calls Try.prog 14 #[rv ib kb n, .int .i64 x] w fun e w' => e = .returned (.tuple #[.int .i64 (if hasB ins x = true then ks.getD x.toNat 0 else 0), .bool (hasB ins x)]) ∧ Below w.heap.size w w' := by
  obtain ⟨W1, hW1⟩ : ∃ W1, w.alloc (.cells #[sl ib n, sl kb n] 29) = W1 := ⟨_, rfl⟩
  have r1 : Row W1 w.heap.size 29 [sl ib n, sl kb n] := by rw [← hW1]; exact Row.new _ _ _
  have sz1 : W1.heap.size = w.heap.size + 1 := by rw [← hW1]; simp
  have q0 := r1.cell (i := 0) rfl; have q1 := r1.cell (i := 1) rfl
  have b1 : Below w.heap.size w W1 := by rw [← hW1]; exact (Below.refl _ _).alloc (Nat.le_refl _) _
  have BB := Lib.hid b1; have R1 := Lib.hid r1; have SZ := Lib.hid sz1; have RR := Lib.hid R
  clear b1 r1 sz1
  by_cases hin : InN n x = true
  · obtain ⟨X, rfl⟩ : ∃ X : Nat, x = (X : Int) := ⟨x.toNat, by unfold InN at hin; simp at hin; omega⟩
    have hX : X < n := by unfold InN at hin; simp at hin; omega
    have x0 : (0 : Int) ≤ (X : Int) := by omega
    have x1 : (X : Int) < (n : Int) := by omega
    have HX := Lib.hid hX; have HI := Lib.hid hin
    rw [hasB_nat, Int.toNat_natCast]
    cases hb : ins.getD X false
    · have HB := Lib.hid hb
      rw [if_neg (by decide)]
      clear hb hX hin R
      go_enter Try.func14, Try.ntmps14
      go_wp2_with fail
      refine (hasr_any ib kb n X _).mono ?_; rintro e w3 ⟨rfl, b⟩
      rw [HI.out]
      have a3 := R1.out.below b (by rw [SZ.out]; omega)
      have bw : Below w.heap.size w w3 := BB.out.trans (b.mono (by rw [SZ.out]; omega))
      have ci := (RR.out.below bw).ci HX.out
      rw [HB.out] at ci
      have c0 := a3.cell (i := 0) rfl
      have FIN := Lib.hid bw
      clear a3 b bw
      go_wp2_with fail
      go_ret2
      exact ⟨rfl, FIN.out⟩
    · have HB := Lib.hid hb
      rw [if_pos rfl]
      obtain ⟨kv, hkv⟩ : ∃ kv, ks.getD X 0 = kv := ⟨_, rfl⟩
      have HK := Lib.hid hkv
      rw [hkv]
      clear hb hX hin R hkv
      go_enter Try.func14, Try.ntmps14
      go_wp2_with fail
      refine (hasr_any ib kb n X _).mono ?_; rintro e w3 ⟨rfl, b⟩
      rw [HI.out]
      have a3 := R1.out.below b (by rw [SZ.out]; omega)
      have bw : Below w.heap.size w w3 := BB.out.trans (b.mono (by rw [SZ.out]; omega))
      have ci := (RR.out.below bw).ci HX.out
      have ck := (RR.out.below bw).ck HX.out
      rw [HB.out] at ci
      rw [HK.out] at ck
      have c0 := a3.cell (i := 0) rfl; have c1 := a3.cell (i := 1) rfl
      have FIN := Lib.hid bw
      clear a3 b bw
      go_wp2_with fail
      go_ret2
      exact ⟨rfl, FIN.out⟩
  · have hin' : InN n x = false := by simpa using hin
    have HI := Lib.hid hin'
    rw [InN_has R.il hin', if_neg (by decide)]
    clear hin hin' R
    go_enter Try.func14, Try.ntmps14
    go_wp2_with fail
    refine (hasr_any ib kb n x _).mono ?_; rintro e w3 ⟨rfl, b⟩
    rw [HI.out]
    have FIN := Lib.hid (show Below w.heap.size w w3 from BB.out.trans (b.mono (by rw [SZ.out]; omega)))
    clear b
    go_wp2_with fail
    go_ret2
    exact ⟨rfl, FIN.out⟩
set_option maxRecDepth 100000 in
set_option maxHeartbeats 4000000 in
theorem rdrop_no {w : World} {ib kb n : Nat} {ins : List Bool} {ks : List Int} (R : RefS w ib kb n ins ks) {x : Int} (hx : hasB ins x = false) :
    Calls Try.prog 16 #[rv ib kb n, .int .i64 x] w fun e w' => e = .returned (.tuple #[rv ib kb n, .bool false]) ∧ Below w.heap.size w w' := by
  obtain ⟨W1, W2, hW1, hW2, z1, B⟩ := bx_new w ib kb n
  have q0 := B.a.cell (i := 0) rfl; have q1 := B.a.cell (i := 1) rfl
  have BB := Lib.hid B; have RR := Lib.hid R
  clear B
  by_cases hin : InN n x = true
  · obtain ⟨X, rfl⟩ : ∃ X : Nat, x = (X : Int) := ⟨x.toNat, by unfold InN at hin; simp at hin; omega⟩
    have hX : X < n := by unfold InN at hin; simp at hin; omega
    have x0 : (0 : Int) ≤ (X : Int) := by omega
    have x1 : (X : Int) < (n : Int) := by omega
    rw [hasB_nat] at hx
    have HX := Lib.hid hX; have HI := Lib.hid hin; have HB := Lib.hid hx
    clear hX hin R hx
    go_enter Try.func16, Try.ntmps16
    go_wp2_with fail
    refine (hasr_any ib kb n X _).mono ?_; rintro e w3 ⟨rfl, b⟩
    rw [HI.out]
    have a3 := BB.out.a.below b (by rw [BB.out.sz]; omega); have z3 := BB.out.z.below b (by rw [BB.out.sz]; omega)
    have bw : Below w.heap.size w w3 := BB.out.b.trans (b.mono (by rw [BB.out.sz]; omega))
    have ci := (RR.out.below bw).ci HX.out
    rw [HB.out] at ci
    have c0 := a3.cell (i := 0) rfl; have c1 := a3.cell (i := 1) rfl; have d0 := z3.cell (i := 0) rfl; have d1 := z3.cell (i := 1) rfl
    have f0 := z3.fr (i := 0); have f1 := z3.fr (i := 1)
    obtain ⟨W9, hW9, r9, fr9⟩ := put2 (sl ib n) (sl kb n) z3
    have g0 := r9.cell (i := 0) rfl; have g1 := r9.cell (i := 1) rfl
    have FIN := Lib.hid (show Below w.heap.size w W9 from bw.trans (fr9.below (by have := b.size; have := BB.out.sz; omega) (fun k h => by omega)))
    clear a3 z3 r9 fr9 b bw
    go_wp2_with fail
    refine bodyPost_ret (by simp [results, Try.results16, go_sem, g0, g1]; rfl) rfl ⟨?_, FIN.out⟩
    rfl
  · have hin' : InN n x = false := by simpa using hin
    have HI := Lib.hid hin'
    clear hin hin' R hx
    go_enter Try.func16, Try.ntmps16
    go_wp2_with fail
    refine (hasr_any ib kb n x _).mono ?_; rintro e w3 ⟨rfl, b⟩
    rw [HI.out]
    have a3 := BB.out.a.below b (by rw [BB.out.sz]; omega); have z3 := BB.out.z.below b (by rw [BB.out.sz]; omega)
    have bw : Below w.heap.size w w3 := BB.out.b.trans (b.mono (by rw [BB.out.sz]; omega))
    have c0 := a3.cell (i := 0) rfl; have c1 := a3.cell (i := 1) rfl; have d0 := z3.cell (i := 0) rfl; have d1 := z3.cell (i := 1) rfl
    have f0 := z3.fr (i := 0); have f1 := z3.fr (i := 1)
    obtain ⟨W9, hW9, r9, fr9⟩ := put2 (sl ib n) (sl kb n) z3
    have g0 := r9.cell (i := 0) rfl; have g1 := r9.cell (i := 1) rfl
    have FIN := Lib.hid (show Below w.heap.size w W9 from bw.trans (fr9.below (by have := b.size; have := BB.out.sz; omega) (fun k h => by omega)))
    clear a3 z3 r9 fr9 b bw
    go_wp2_with fail
    refine bodyPost_ret (by simp [results, Try.results16, go_sem, g0, g1]; rfl) rfl ⟨?_, FIN.out⟩
    rfl
set_option maxRecDepth 100000 in
set_option maxHeartbeats 4000000 in
theorem rdrop_yes {w : World} {ib kb n X : Nat} {ins : List Bool} {ks : List Int} (R : RefS w ib kb n ins ks) (hX : X < n) (hin : ins.getD X false = true) :
    Calls Try.prog 16 #[rv ib kb n, .int .i64 X] w fun e w' => e = .returned (.tuple #[rv ib kb n, .bool true]) ∧ RefS w' ib kb n (ins.set X false) ks ∧ FrF (IK ib kb) w w' := by
  obtain ⟨W1, W2, hW1, hW2, z1, B⟩ := bx_new w ib kb n
  have q0 := B.a.cell (i := 0) rfl; have q1 := B.a.cell (i := 1) rfl
  have BB := Lib.hid B; have HX := Lib.hid (InN_nat hX); have RR := Lib.hid R; have HN := Lib.hid hX; have HB := Lib.hid hin
  have x0 : (0 : Int) ≤ (X : Int) := by omega
  have x1 : (X : Int) < (n : Int) := by omega
  clear B hX R hin
  go_enter Try.func16, Try.ntmps16
  go_wp2_with fail
  refine (hasr_any ib kb n X _).mono ?_; rintro e w3 ⟨rfl, b⟩
  rw [HX.out]
  have bw : Below w.heap.size w w3 := BB.out.b.trans (b.mono (by rw [BB.out.sz]; omega))
  have a3 := BB.out.a.below b (by rw [BB.out.sz]; omega); have z3 := BB.out.z.below b (by rw [BB.out.sz]; omega)
  have R3 := RR.out.below bw
  have li := RR.out.i.lt; have lk := RR.out.k.lt
  have ci := R3.ci HN.out; have fi := R3.i.fr (i := X)
  rw [HB.out] at ci
  obtain ⟨W4, hW4⟩ : ∃ W4, w3.setCell ⟨ib, X, none⟩ (.bool false) = W4 := ⟨_, rfl⟩
  have R4 : RefS W4 ib kb n (ins.set X false) ks := by rw [← hW4]; exact R3.seti false
  have F4 : FrF (IK ib kb) w3 W4 := by rw [← hW4]; exact FrF.setCell (F := IK ib kb) w3 (a := ⟨ib, X, none⟩) (Or.inl rfl) _
  have a4 : Row W4 w.heap.size 29 [sl ib n, sl kb n] := by rw [← hW4]; exact a3.other (by show w.heap.size ≠ ib; omega)
  have z4 : Row W4 (w.heap.size + 1) 29 [.slice none 0 0, .slice none 0 0] := by rw [← hW4]; exact z3.other (by show w.heap.size + 1 ≠ ib; omega)
  have c0 := a3.cell (i := 0) rfl
  have e0 := a4.cell (i := 0) rfl; have e1 := a4.cell (i := 1) rfl
  have d0 := z4.cell (i := 0) rfl; have d1 := z4.cell (i := 1) rfl
  have f0 := z4.fr (i := 0); have f1 := z4.fr (i := 1)
  obtain ⟨W9, hW9, r9, fr9⟩ := put2 (sl ib n) (sl kb n) z4
  have g0 := r9.cell (i := 0) rfl; have g1 := r9.cell (i := 1) rfl
  have FW : FrF (IK ib kb) w W9 := ((FrF.of_below (F := IK ib kb) bw).trans F4 (fun _ _ h => h)).trans fr9 (fun k hk h => by omega)
  have R9 : RefS W9 ib kb n (ins.set X false) ks := R4.same (fr9.block _ R4.i.lt (by omega)) (fr9.block _ R4.k.lt (by omega))
  have FIN := Lib.hid (And.intro R9 FW)
  clear a3 z3 r9 fr9 b bw R3 li lk R4 F4 a4 z4 FW R9
  go_wp2_with fail
  refine bodyPost_ret (by simp [results, Try.results16, go_sem, g0, g1]; rfl) rfl ⟨?_, FIN.out⟩
  rfl
end Go.Proofs.Ytdohmlkocbdomaa
