/- pq: Set. -/
import Derived.Test.YtgofachgoflgnaaPh
import Derived.OwnWalk
namespace Go.Proofs.Ytgofachgoflgnaa
open Go.ChangeShapes Go.WideShapes Go.ChangeAt Go.RowKit Go.Joins Go.Deep

theorem info3 : (Try.prog.info? 3).map (fun i => (i.zero, i.size, i.bytes)) = some (some (.int .i64 0), 1, 8) := by kernel_rfl
theorem QG.drew {w : World} {qb : Nat} {F : Nat → Prop} {vh vk vp : Value} {hs ks ps : List Int} (g : QG w qb F vh vk vp hs ks ps) : QG w.drew qb F vh vk vp hs ks ps := g.same (Nat.le_refl _) (fun _ _ => rfl)
/- a key stored -/
theorem qg_key {w : World} {qb kb kc X : Nat} {F : Nat → Prop} {vh vp : Value} {hs ks ps : List Int} (g : QG w qb F vh (.slice (some ⟨kb, 0, none⟩) ks.length kc) vp hs ks ps) (hX : X < ks.length) (y : Int) :
    QG (w.setCell ⟨kb, X, none⟩ (.int .i64 y)) qb F vh (.slice (some ⟨kb, 0, none⟩) ks.length kc) vp hs (ks.set X y) ps ∧ FrF F w (w.setCell ⟨kb, X, none⟩ (.int .i64 y)) := by
  obtain ⟨b, e, _, _, _, kset, _⟩ := g.k.block (by omega)
  injection e with e; injection e with e; subst e
  refine ⟨⟨g.q.other (fun h => g.q2 (by rw [h]; rfl)), g.h.same (fun a h => Below.heap_setCell _ _ _ _ (fun h2 => g.n2 a h (by rw [h2]; rfl))), kset X y hX, g.p.same (fun a h => Below.heap_setCell _ _ _ _ (fun h2 => g.n3 a (by rw [h2]; rfl) h)),
    by rw [List.length_set]; exact g.kl, g.n1, g.n2, g.n3, g.q1, g.q2, g.q3, g.fq, g.fh, g.fk, g.fp, fun a h => by have := g.lt a h; simpa using this⟩, FrF.setCell w (a := ⟨kb, X, none⟩) (g.fk kb rfl) _⟩
/- a place stored -/
theorem qg_place {w : World} {qb pb pc X : Nat} {F : Nat → Prop} {vh vk : Value} {hs ks ps : List Int} (g : QG w qb F vh vk (.slice (some ⟨pb, 0, none⟩) ps.length pc) hs ks ps) (hX : X < ps.length) (y : Int) :
    QG (w.setCell ⟨pb, X, none⟩ (.int .i64 y)) qb F vh vk (.slice (some ⟨pb, 0, none⟩) ps.length pc) hs ks (ps.set X y) ∧ FrF F w (w.setCell ⟨pb, X, none⟩ (.int .i64 y)) := by
  obtain ⟨b, e, _, _, _, pset, _⟩ := g.p.block (by omega)
  injection e with e; injection e with e; subst e
  refine ⟨⟨g.q.other (fun h => g.q3 (by rw [h]; rfl)), g.h.same (fun a h => Below.heap_setCell _ _ _ _ (fun h2 => g.n1 a h (by rw [h2]; rfl))), g.k.same (fun a h => Below.heap_setCell _ _ _ _ (fun h2 => g.n3 a h (by rw [h2]; rfl))), pset X y hX,
    by rw [List.length_set]; exact g.kl, g.n1, g.n2, g.n3, g.q1, g.q2, g.q3, g.fq, g.fh, g.fk, g.fp, fun a h => by have := g.lt a h; simpa using this⟩, FrF.setCell w (a := ⟨pb, X, none⟩) (g.fp pb rfl) _⟩
/- another head stored: the same block or a new one -/
theorem qg_head {w w4 : World} {qb : Nat} {F : Nat → Prop} {vh vk vp v' : Value} {hs hs' ks ps : List Int} {n0 : Nat} (g : QG w qb F vh vk vp hs ks ps) (hn0 : w.heap.size ≤ n0) (own : Ints w4 0 v' hs') (os : w4.os = w.os) (tp : w4.tape = w.tape) (ot : w4.output = w.output) (sz : w.heap.size ≤ w4.heap.size)
    (blk : ∀ k, k < w.heap.size → some k ≠ vh.ownBlock → w4.heap[k]? = w.heap[k]?) (loc : v'.ownBlock = vh.ownBlock ∨ v'.ownBlock = some n0) :
    ∃ F', QG (w4.setCell ⟨qb, 0, none⟩ v') qb F' v' vk vp hs' ks ps ∧ FrF F w (w4.setCell ⟨qb, 0, none⟩ v') ∧ (∀ k, F' k → F k ∨ w.heap.size ≤ k) ∧ (v'.ownBlock = vh.ownBlock → F' = F) := by
  have hq : w4.heap[qb]? = some (.cells #[vh, vk, vp] 73) := by rw [blk qb (g.lt _ g.fq) (fun e => g.q1 e.symm)]; exact g.q
  have nq : v'.ownBlock ≠ some qb := by
    rcases loc with h | h
    · rw [h]; exact g.q1
    · rw [h]; intro e; injection e with e; have := g.lt _ g.fq; omega
  have old : ∀ a, F a → v'.ownBlock = some a → vh.ownBlock = some a := fun a ha h => by
    rcases loc with h2 | h2
    · rw [← h2]; exact h
    · rw [h2] at h; injection h with h; have := g.lt _ ha; omega
  have st : ∀ k, k < w.heap.size → some k ≠ vh.ownBlock → k ≠ qb → (w4.setCell ⟨qb, 0, none⟩ v').heap[k]? = w.heap[k]? := fun k h1 h2 h3 => by rw [Below.heap_setCell _ _ _ _ h3]; exact blk k h1 h2
  refine ⟨fun k => F k ∨ (v'.ownBlock = some k ∧ v'.ownBlock ≠ vh.ownBlock), ⟨?_, ?_, ?_, ?_, g.kl, ?_, ?_, g.n3, nq, g.q2, g.q3, Or.inl g.fq, ?_, fun a h => Or.inl (g.fk a h), fun a h => Or.inl (g.fp a h), ?_⟩, ?_, ?_, ?_⟩
  · unfold QCells; rw [heap_setCell_same _ _ _ _ _ _ hq]; rfl
  · exact own.same (fun a h => Below.heap_setCell _ _ _ _ (fun e => nq (by rw [h, e])))
  · exact g.k.same (fun a h => st a (g.lt _ (g.fk a h)) (fun e => g.n2 a e.symm h) (fun e => g.q2 (by rw [h, e])))
  · exact g.p.same (fun a h => st a (g.lt _ (g.fp a h)) (fun e => g.n1 a e.symm h) (fun e => g.q3 (by rw [h, e])))
  · intro a h1 h2; exact g.n1 a (old a (g.fp a h2) h1) h2
  · intro a h1 h2; exact g.n2 a (old a (g.fk a h2) h1) h2
  · intro a h
    rcases loc with h2 | h2
    · exact Or.inl (g.fh a (h2 ▸ h))
    · by_cases e : v'.ownBlock = vh.ownBlock
      · exact Or.inl (g.fh a (e ▸ h))
      · exact Or.inr ⟨h, e⟩
  · intro a h
    have e : (w4.setCell ⟨qb, 0, none⟩ v').heap.size = w4.heap.size := by simp
    rw [e]
    rcases h with h | ⟨h, _⟩
    · have := g.lt a h; omega
    · exact (own.lt a h).2
  · exact ⟨os, tp, ot, by simpa using sz, fun k h1 h2 => st k h1 (fun e => h2 (g.fh k e.symm)) (fun e => h2 (e ▸ g.fq))⟩
  · intro k h
    rcases h with h | ⟨h, h3⟩
    · exact Or.inl h
    · rcases loc with h2 | h2
      · exact absurd h2 h3
      · rw [h2] at h; injection h with h; right; omega
  · intro e; funext k; exact propext ⟨fun h => h.elim id (fun h => absurd e h.2), Or.inl⟩
theorem app_head {W2 w4 : World} {qb X h : Nat} {F : Nat → Prop} {vh vk vp v' : Value} {hs ks ps : List Int} {o : Obj} (g : QG W2 qb F vh vk vp hs ks ps) (hh : hs.length = h) (own : w4.ownsRow 0 3 1 v' (h + 1) (ivs hs ++ [.int .i64 X]))
    (gr : (W2.alloc o).grownBy w4 vh.ownBlock) (loc : v'.ownBlock = vh.ownBlock ∨ v'.ownBlock = some (W2.alloc o).heap.size) :
    w4.cell? ⟨qb, 0, none⟩ = some vh ∧ w4.frozen? ⟨qb, 0, none⟩ = false ∧ ∃ F', QG (w4.setCell ⟨qb, 0, none⟩ v') qb F' v' vk vp (hs ++ [(X : Int)]) ks ps ∧ FrF F W2 (w4.setCell ⟨qb, 0, none⟩ v') ∧ ∀ k, F' k → F k ∨ W2.heap.size ≤ k := by
  have sa : (W2.alloc o).heap.size = W2.heap.size + 1 := World.size_alloc _ _
  have blk : ∀ k, k < W2.heap.size → some k ≠ vh.ownBlock → w4.heap[k]? = W2.heap[k]? := fun k h1 h2 => by
    rw [gr.block k (by omega) h2, Below.heap_alloc _ _ _ h1]
  have hq : QCells w4 qb vh vk vp := by unfold QCells; rw [blk qb (g.lt _ g.fq) (fun e => g.q1 e.symm)]; exact g.q
  have own' : Ints w4 0 v' (hs ++ [(X : Int)]) := by
    have e1 : (hs ++ [(X : Int)]).length = h + 1 := by rw [List.length_append, hh]; rfl
    have e2 : ivs (hs ++ [(X : Int)]) = ivs hs ++ [.int .i64 X] := by unfold ivs; rw [List.map_append]; rfl
    unfold Ints; rw [e1, e2]; exact own
  obtain ⟨F', a, b, c, _⟩ := qg_head (n0 := (W2.alloc o).heap.size) g (by omega) own' gr.os gr.tape gr.output (by have := gr.size; omega) blk loc
  exact ⟨hq.c0, hq.fr, F', a, b, c⟩
theorem set_nil (x y : Int) (w : World) : Calls Try.prog 33 #[.pointer none, .int .i64 x, .int .i64 y] w fun e w' => e = .returned (.bool false) ∧ w = w' := by
  go_enter Try.func33, Try.ntmps33
  go_wp2
  go_ret
  exact ⟨rfl, rfl⟩
theorem set_out {w : World} {qb n kc : Nat} {ka : Option Addr} {vh vp : Value} {x y : Int} (h : QCells w qb vh (.slice ka n kc) vp) (hx : x < 0 ∨ (n : Int) ≤ x) : Calls Try.prog 33 #[qp qb, .int .i64 x, .int .i64 y] w fun e w' => e = .returned (.bool false) ∧ w = w' := by
  have c1 := h.c1
  clear h
  rcases Int.lt_or_le x 0 with hn | hn
  · go_enter Try.func33, Try.ntmps33
    go_wp2
    go_ret
    exact ⟨rfl, rfl⟩
  · have hx' : (n : Int) ≤ x := by omega
    have hn' : ¬ x < 0 := by omega
    clear hx hn
    go_enter Try.func33, Try.ntmps33
    go_wp2
    go_ret
    exact ⟨rfl, rfl⟩
set_option maxRecDepth 100000 in
set_option maxHeartbeats 4000000 in
theorem set_in {w : World} {qb X : Nat} {F : Nat → Prop} {vh vk vp : Value} {hs ks ps : List Int} {ins : List Bool} (g : QG w qb F vh vk vp hs ks ps) (v : Inv ins hs ks ps) (hX : X < ps.length) (hn : ps.getD X 0 ≠ -1) (y : Int) :
    Calls Try.prog 33 #[qp qb, .int .i64 X, .int .i64 y] w fun e w' => e = .returned (.bool true) ∧ QI w' qb F ins (ks.set X y) ∧ FrF F w w' := by
  obtain ⟨i, hi, hx, hp, _⟩ := v.toPre.place hX hn
  have UP := Lib.hid (up_key v g.kl hX hi hx y)
  have hXk : X < ks.length := by rw [g.kl]; exact hX
  obtain ⟨kb, kc, rfl⟩ := g.k.blk (by omega)
  obtain ⟨b, e, _, _, kcell, _, _⟩ := g.k.block (by omega)
  injection e with e; injection e with e; subst e
  obtain ⟨kx1, kx2⟩ := kcell X hXk
  obtain ⟨kv, hkv⟩ : ∃ kv, ks.getD X 0 = kv := ⟨_, rfl⟩
  rw [hkv] at kx1
  clear hkv
  have c1 := g.q.c1
  obtain ⟨W1, hW1⟩ : ∃ W1, w.setCell ⟨kb, X, none⟩ (.int .i64 y) = W1 := ⟨_, rfl⟩
  obtain ⟨g1, f1⟩ := qg_key g hXk y
  rw [hW1] at g1 f1
  obtain ⟨hb, kb', pb, hc, kc', pc, rfl, e2, rfl, s1, fh, fk, fp⟩ := g1.qs (by omega) (by omega)
  injection e2 with e2 _ e3; injection e2 with e2; injection e2 with e2 _; subst e2 e3
  obtain ⟨b, e, _, _, pcell, _, _⟩ := g1.p.block (by omega)
  injection e with e; injection e with e; subst e
  have px := (pcell X hX).1
  rw [hp] at px
  have d2 := g1.q.c2
  have ST := Lib.hid (settle_any s1 v.c hi v.toPre.le UP.out)
  have FQ := Lib.hid g.fq; have LT := Lib.hid g1.lt; have F1 := Lib.hid f1; have FH := Lib.hid fh; have FK := Lib.hid fk; have FP := Lib.hid fp; have VV := Lib.hid v
  obtain ⟨n, hnn⟩ : ∃ n, ks.length = n := ⟨_, rfl⟩
  obtain ⟨m, hm⟩ : ∃ m, ps.length = m := ⟨_, rfl⟩
  rw [hnn] at c1 hXk; rw [hm] at d2 hX
  have x0 : (0 : Int) ≤ (X : Int) := by omega
  have x0' : ¬ (X : Int) < 0 := by omega
  have x1 : (X : Int) < (n : Int) := by omega
  have x1' : ¬ (n : Int) ≤ (X : Int) := by omega
  have x2 : (X : Int) < (m : Int) := by omega
  have ip : ((i : Int) == -1) = false := by simp
  clear UP kcell pcell g g1 f1 s1 fh fk fp v hx hp hi hnn hm hn hX hXk
  go_enter Try.func33, Try.ntmps33
  go_wp2_with fail
  refine ST.out.mono ?_; rintro e w' ⟨rfl, hs', ps', T, HH⟩
  have TT := Lib.hid T; have H2 := Lib.hid HH; clear T HH
  go_wp2_with fail
  go_ret
  refine ⟨rfl, ⟨_, _, _, hs', ps', TT.out.s.qg FQ.out FH.out FK.out FP.out (fun a h => Nat.lt_of_lt_of_le (LT.out a h) TT.out.fr.size), ⟨VV.out.toPre.same TT.out.sm TT.out.c, H2.out⟩⟩, ?_⟩
  exact F1.out.trans (FrF.of_fr TT.out.fr FH.out FP.out) (fun _ _ h => h)
theorem q_row_form1 {w : World} {v : Value} {n : Nat} {xs : List Value} (h : w.ownsRow 0 3 1 v n xs) : ∃ a cap, v = .slice a n cap := by
  rcases h.2 with ⟨rfl, rfl⟩ | ⟨g, cap, cur, rfl, _⟩
  · exact ⟨none, 0, rfl⟩
  · exact ⟨_, cap, rfl⟩
theorem place_cell {w : World} {qb pb pc n X : Nat} {y : Int} {F : Nat → Prop} {vh vk : Value} {hs ks ps : List Int} (g : QG w qb F vh vk (.slice (some ⟨pb, 0, none⟩) n pc) hs ks (ps.set X y)) (hX : X < ps.length) : w.cell? ⟨pb, X, none⟩ = some (.int .i64 y) := by
  obtain ⟨b, e, _, _, pcell, _, _⟩ := g.p.block (by rw [List.length_set]; omega)
  injection e with e; injection e with e; subst e
  have := (pcell X (by rw [List.length_set]; exact hX)).1
  rw [getD_set _ _ _ _ hX, if_pos rfl] at this
  exact this
set_option maxRecDepth 100000 in
set_option maxHeartbeats 4000000 in
theorem set_new {w : World} {qb X : Nat} {F : Nat → Prop} {vh vk vp : Value} {hs ks ps : List Int} {ins : List Bool} (g : QG w qb F vh vk vp hs ks ps) (v : Inv ins hs ks ps) (hX : X < ps.length) (hn : ps.getD X 0 = -1) (y : Int) :
    Calls Try.prog 33 #[qp qb, .int .i64 X, .int .i64 y] w fun e w' => e = .returned (.bool true) ∧ ∃ F', QI w' qb F' (ins.set X true) (ks.set X y) ∧ FrF F w w' ∧ ∀ k, F' k → F k ∨ w.heap.size ≤ k := by
  obtain ⟨i0, hi, hz0, hz1, hz2⟩ := info_parts info3
  have II := Lib.hid hi; have Z0 := Lib.hid hz0; have Z1 := Lib.hid hz1; have Z2 := Lib.hid hz2
  have PRE := Lib.hid (new_pre v.toPre hX hn); have UP := Lib.hid (new_up v g.kl hX hn y)
  have hml := v.toPre.le
  have hXk : X < ks.length := by rw [g.kl]; exact hX
  obtain ⟨kb, kc, rfl⟩ := g.k.blk (by omega)
  obtain ⟨pb, pc, rfl⟩ := g.p.blk (by omega)
  obtain ⟨ha, hc, rfl⟩ := g.h.form
  obtain ⟨b, e, _, _, kcell, _, _⟩ := g.k.block (by omega)
  injection e with e; injection e with e; subst e
  obtain ⟨kx1, kx2⟩ := kcell X hXk
  obtain ⟨kv, hkv⟩ : ∃ kv, ks.getD X 0 = kv := ⟨_, rfl⟩
  rw [hkv] at kx1
  clear hkv
  have c1 := g.q.c1
  obtain ⟨W1, hW1⟩ : ∃ W1, w.setCell ⟨kb, X, none⟩ (.int .i64 y) = W1 := ⟨_, rfl⟩
  obtain ⟨g1, f1⟩ := qg_key g hXk y
  rw [hW1] at g1 f1
  obtain ⟨b, e, _, _, pcell, _, _⟩ := g1.p.block (by omega)
  injection e with e; injection e with e; subst e
  obtain ⟨px1, px2⟩ := pcell X hX
  rw [hn] at px1
  have d0 := g1.q.c0; have d2 := g1.q.c2
  obtain ⟨W2, hW2⟩ : ∃ W2, W1.drew.setCell ⟨pb, X, none⟩ (.int .i64 (hs.length : Int)) = W2 := ⟨_, rfl⟩
  obtain ⟨g2, f2⟩ := qg_place g1.drew hX (hs.length : Int)
  rw [hW2] at g2 f2
  have e0 := g2.q.c0
  have G2 := Lib.hid g2; have R0 : Hid (W2.ownsRow 0 3 1 (.slice ha hs.length hc) hs.length (ivs hs)) := g2.h
  have F2 := Lib.hid (f1.trans ((FrF.of_below (F := F) (Below.refl W1.heap.size W1).drew).trans f2 (fun _ _ h => h)) (fun _ _ h => h))
  obtain ⟨n, hnn⟩ : ∃ n, ks.length = n := ⟨_, rfl⟩
  obtain ⟨m, hm⟩ : ∃ m, ps.length = m := ⟨_, rfl⟩
  obtain ⟨h, hh⟩ : ∃ h, hs.length = h := ⟨_, rfl⟩
  have HX := Lib.hid hX; have HH := Lib.hid hh; have HN := Lib.hid hnn; have HM := Lib.hid hm
  rw [hnn] at c1 hXk; rw [hm] at d2 hX; rw [hh] at d0 e0 R0 hW2 hml G2 PRE UP
  have x0 : (0 : Int) ≤ (X : Int) := by omega
  have x0' : ¬ (X : Int) < 0 := by omega
  have x1 : (X : Int) < (n : Int) := by omega
  have x1' : ¬ (n : Int) ≤ (X : Int) := by omega
  have x2 : (X : Int) < (m : Int) := by omega
  clear kcell pcell g g1 f1 g2 f2 v hnn hm hh hi hz0 hz1 hz2 hn hX hXk
  go_enter Try.func33, Try.ntmps33
  go_wp2_with fail
  refine wp_region_drop (fun w' => w'.cell? ⟨qb, 0, none⟩ = some (.slice ha h hc) ∧ w'.cell? ⟨qb, 2, none⟩ = some (.slice (some ⟨pb, 0, none⟩) m pc)) 11 (by kernel_rfl) ⟨d0, d2⟩ (fun hHeld => ?_)
  refine wpAnyD_pure (i := 0) (v := ?_) rfl (by kernel_rfl) (by kernel_rfl) (by kernel_rfl) (by rfl) (fun _ _ _ h => h) (Or.inl ⟨by rfl, ?_⟩) (by assumption) ?_
  rotate_left 1
  · (intro w; first | (go_simp; done) | (go_simp; with_reducible rfl))
  simp only [Act.put, List.getElem_toArray, List.getElem_cons_zero, List.setIfInBounds_toArray, List.set_cons_zero, List.set_cons_succ]
  refine wpAnyD_pure (i := 1) (v := ?_) rfl (by kernel_rfl) (by kernel_rfl) (by kernel_rfl) (by rfl) (fun _ _ _ h => h) (Or.inl ⟨by rfl, ?_⟩) (by assumption) ?_
  rotate_left 1
  · (intro w; first | (go_simp; done) | (go_simp; with_reducible rfl))
  simp only [Act.put, List.getElem_toArray, List.getElem_cons_zero, List.getElem_cons_succ, List.setIfInBounds_toArray, List.set_cons_zero, List.set_cons_succ]
  refine wpAnyD_pure (i := 2) (v := ?_) rfl (by kernel_rfl) (by kernel_rfl) (by kernel_rfl) (by rfl) (fun _ _ _ h => h) (Or.inl ⟨by rfl, ?_⟩) (by assumption) ?_
  rotate_left 1
  · (intro w; first | (go_simp; done) | (go_simp; with_reducible rfl))
  simp only [Act.put, List.getElem_toArray, List.getElem_cons_zero, List.getElem_cons_succ, List.setIfInBounds_toArray, List.set_cons_zero, List.set_cons_succ]
  refine wpAnyD_take (i := 3) (v := ?_) rfl (by kernel_rfl) (by kernel_rfl) (by kernel_rfl) (by kernel_rfl) (fun _ _ _ h => h) (Or.inl ⟨by rfl, ?_⟩) (by assumption) ?_
  rotate_left 1
  · (intro w hSw; (try dsimp only at hSw); first | (go_simp; done) | (go_simp; with_reducible rfl))
  simp only [Act.put, List.getElem_toArray, List.getElem_cons_zero, List.getElem_cons_succ, List.setIfInBounds_toArray, List.set_cons_zero, List.set_cons_succ]
  refine wpAnyD_pure (i := 4) (v := ?_) rfl (by kernel_rfl) (by kernel_rfl) (by kernel_rfl) (by rfl) (fun _ _ _ h => h) (Or.inl ⟨by rfl, ?_⟩) (by assumption) ?_
  rotate_left 1
  · (intro w; first | (go_simp; done) | (go_simp; with_reducible rfl))
  simp only [Act.put, List.getElem_toArray, List.getElem_cons_zero, List.getElem_cons_succ, List.setIfInBounds_toArray, List.set_cons_zero, List.set_cons_succ]
  refine wpAnyD_pure (i := 5) (v := ?_) rfl (by kernel_rfl) (by kernel_rfl) (by kernel_rfl) (by rfl) (fun _ _ _ h => h) (Or.inl ⟨by rfl, ?_⟩) (by assumption) ?_
  rotate_left 1
  · (intro w; first | (go_simp; done) | (go_simp; with_reducible rfl))
  simp only [Act.put, List.getElem_toArray, List.getElem_cons_zero, List.getElem_cons_succ, List.setIfInBounds_toArray, List.set_cons_zero, List.set_cons_succ]
  refine wpAnyD_pure (i := 6) (v := ?_) rfl (by kernel_rfl) (by kernel_rfl) (by kernel_rfl) (by rfl) (fun _ _ _ h => h) (Or.inl ⟨by rfl, ?_⟩) (by assumption) ?_
  rotate_left 1
  · (intro w; first | (go_simp; done) | (go_simp; with_reducible rfl))
  simp only [Act.put, List.getElem_toArray, List.getElem_cons_zero, List.getElem_cons_succ, List.setIfInBounds_toArray, List.set_cons_zero, List.set_cons_succ]
  refine wpAnyD_pure (i := 7) (v := ?_) rfl (by kernel_rfl) (by kernel_rfl) (by kernel_rfl) (by rfl) (fun _ _ _ h => h) (Or.inl ⟨by rfl, ?_⟩) (by assumption) ?_
  rotate_left 1
  · (intro w; first | (go_simp; done) | (go_simp; with_reducible rfl))
  simp only [Act.put, List.getElem_toArray, List.getElem_cons_zero, List.getElem_cons_succ, List.setIfInBounds_toArray, List.set_cons_zero, List.set_cons_succ]
  refine wpAnyD_take (i := 8) (v := ?_) rfl (by kernel_rfl) (by kernel_rfl) (by kernel_rfl) (by kernel_rfl) (fun _ _ _ h => h) (Or.inl ⟨by rfl, ?_⟩) (by assumption) ?_
  rotate_left 1
  · (intro w hSw; (try dsimp only at hSw); first | (go_simp; done) | (go_simp; with_reducible rfl))
  simp only [Act.put, List.getElem_toArray, List.getElem_cons_zero, List.getElem_cons_succ, List.setIfInBounds_toArray, List.set_cons_zero, List.set_cons_succ]
  refine wpAnyD_pure (i := 9) (v := ?_) rfl (by kernel_rfl) (by kernel_rfl) (by kernel_rfl) (by rfl) (fun _ _ _ h => h) (Or.inl ⟨by rfl, ?_⟩) (by assumption) ?_
  rotate_left 1
  · (intro w; first | (go_simp; done) | (go_simp; with_reducible rfl))
  simp only [Act.put, List.getElem_toArray, List.getElem_cons_zero, List.getElem_cons_succ, List.setIfInBounds_toArray, List.set_cons_zero, List.set_cons_succ]
  refine wpAnyD_pure (i := 10) (v := ?_) rfl (by kernel_rfl) (by kernel_rfl) (by kernel_rfl) (by rfl) (fun _ _ _ h => h) (Or.inl ⟨by rfl, ?_⟩) (by assumption) ?_
  rotate_left 1
  · (intro w; first | (go_simp; done) | (go_simp; with_reducible rfl))
  simp only [Act.put, List.getElem_toArray, List.getElem_cons_zero, List.getElem_cons_succ, List.setIfInBounds_toArray, List.set_cons_zero, List.set_cons_succ]
  clear hHeld
  refine wpAnyD_drop (by kernel_rfl) rfl (fun K hK => ?_)
  go_simp
  refine hK.out _ _ ?_
  clear hK K
  refine wpAny_done (by kernel_rfl) ?_ _
--STOP1
  go_wp2_with (at_builtin; refine wpList_append_own_at _ rfl _ _ 25 rfl 0 3 i0 (.int .i64 0) 1 8 Try.underlying25 II.out Z0.out Z1.out Z2.out rfl (by decide) (.slice ha h hc) h (ivs hs) rfl (R0.out.alloc _) ⟨W2.heap.size, 0, none⟩ 1 1 [.int .i64 X] rfl rfl (cell_one_new _ _ _) (by simp [Value.oneCell']) (by unfold maxLen; omega) (by omega) (by simp) ?_; intro v' w4 hown' hgrow hnil hloc; obtain ⟨a', c', hv'⟩ := q_row_form1 hown'; subst hv'; obtain ⟨q0, qf, F', g5, f5, l5⟩ := app_head G2.out HH.out hown' hgrow hloc; obtain ⟨W5, hW5⟩ : ∃ W5, w4.setCell ⟨qb, 0, none⟩ (.slice a' (h + 1) c') = W5 := ⟨_, rfl⟩; rw [hW5] at g5 f5; have G5 := Lib.hid g5; have F5 := Lib.hid f5; have L5 := Lib.hid l5; have t2 := g5.q.c2; rw [HM.out] at t2; have px5 := place_cell g5 HX.out; clear hown' hgrow hloc hnil g5 f5 l5)
--STOP2
  obtain ⟨hb, kb', pb', hc', kc', pc', e1, e2, e3, s5, fh, fk, fp⟩ := G5.out.qs (by simp) (by rw [List.length_set, HM.out]; omega)
  injection e2 with e2 e2b e2c; injection e2 with e2; injection e2 with e2 _; subst e2 e2c
  injection e3 with e3 e3b e3c; injection e3 with e3; injection e3 with e3 _; subst e3 e3c
  have hl1 : (hs ++ [(X : Int)]).length = h + 1 := by rw [List.length_append, HH.out]; rfl
  have up := UP.out
  refine (settle_any (i0 := h) s5 PRE.out.c (by omega) (by rw [hl1]; have := PRE.out.le; rw [hl1] at this; exact this) (by rw [hl1]; exact up)).mono ?_
  rintro e w' ⟨rfl, hs', ps', T, H2⟩
  have TT := Lib.hid T; have HE := Lib.hid H2; have FH := Lib.hid fh; have FK := Lib.hid fk; have FP := Lib.hid fp
  clear T H2 s5 e1 e2b e3b hl1 up fh fk fp
  go_wp2_with fail
  go_ret
  refine ⟨rfl, F', ⟨_, _, _, hs', ps', TT.out.s.qg G5.out.fq FH.out FK.out FP.out (fun a h => Nat.lt_of_lt_of_le (G5.out.lt a h) TT.out.fr.size), ⟨PRE.out.same TT.out.sm TT.out.c, HE.out⟩⟩, ?_, ?_⟩
  · refine (F2.out.trans F5.out (fun _ _ h => h)).trans (FrF.of_fr (F := F') TT.out.fr FH.out FP.out) (fun k hk h => ?_)
    rcases L5.out k h with h1 | h1
    · exact h1
    · have := F2.out.size; omega
  · intro k h
    rcases L5.out k h with h1 | h1
    · exact Or.inl h1
    · right; have := F2.out.size; omega
end Go.Proofs.Ytgofachgoflgnaa
