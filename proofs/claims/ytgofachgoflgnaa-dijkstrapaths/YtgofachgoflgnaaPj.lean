/- pq: Drop and Pop. -/
import Derived.Test.YtgofachgoflgnaaPi
namespace Go.Proofs.Ytgofachgoflgnaa
open Go.ChangeShapes Go.WideShapes Go.ChangeAt Go.RowKit Go.Joins Go.Deep

theorem set_qi {w : World} {qb X : Nat} {F : Nat → Prop} {ins : List Bool} {ks : List Int} (I : QI w qb F ins ks) (hX : X < ins.length) (y : Int) :
    Calls Try.prog 33 #[qp qb, .int .i64 X, .int .i64 y] w fun e w' => e = .returned (.bool true) ∧ ∃ F', QI w' qb F' (ins.set X true) (ks.set X y) ∧ FrF F w w' ∧ ∀ k, F' k → F k ∨ w.heap.size ≤ k := by
  obtain ⟨vh, vk, vp, hs, ps, g, v⟩ := I
  have hX' : X < ps.length := by rw [← v.len]; exact hX
  by_cases hn : ps.getD X 0 = -1
  · exact set_new g v hX' hn y
  · refine (set_in g v hX' hn y).mono ?_
    rintro e w' ⟨rfl, q, f⟩
    refine ⟨rfl, F, ?_, f, fun k h => Or.inl h⟩
    rw [set_same_true _ _ ((v.inp X hX').2 hn)]; exact q
theorem set_qo {w : World} {qb : Nat} {F : Nat → Prop} {ins : List Bool} {ks : List Int} (I : QI w qb F ins ks) {x : Int} (hx : x < 0 ∨ (ins.length : Int) ≤ x) (y : Int) :
    Calls Try.prog 33 #[qp qb, .int .i64 x, .int .i64 y] w fun e w' => e = .returned (.bool false) ∧ w = w' := by
  obtain ⟨vh, vk, vp, hs, ps, g, v⟩ := I
  obtain ⟨a, cap, rfl⟩ := g.k.form
  rw [v.len, ← g.kl] at hx
  exact set_out g.q hx
theorem drop_nil (x : Int) (w : World) : Calls Try.prog 47 #[.pointer none, .int .i64 x] w fun e w' => e = .returned (.bool false) ∧ w = w' := by
  go_enter Try.func47, Try.ntmps47
  go_wp2_with fail
  refine (has_nil x _).mono ?_; rintro e w' ⟨rfl, rfl⟩
  go_wp2_with fail
  go_ret
  exact ⟨rfl, rfl⟩
theorem drop_no {w : World} {qb : Nat} {F : Nat → Prop} {ins : List Bool} {ks : List Int} (I : QI w qb F ins ks) {x : Int} (hx : hasB ins x = false) : Calls Try.prog 47 #[qp qb, .int .i64 x] w fun e w' => e = .returned (.bool false) ∧ w = w' := by
  have h := has_qi I x
  rw [hx] at h
  have H := Lib.hid h
  clear h I hx
  go_enter Try.func47, Try.ntmps47
  go_wp2_with fail
  refine H.out.mono ?_; rintro e w' ⟨rfl, rfl⟩
  go_wp2_with fail
  go_ret
  exact ⟨rfl, rfl⟩
theorem ints_cut {w : World} {hb hc : Nat} {hs : List Int} (h : Ints w 0 (.slice (some ⟨hb, 0, none⟩) hs.length hc) hs) : Ints w 0 (.slice (some ⟨hb, 0, none⟩) (hs.length - 1) hc) hs.dropLast ∧ hs.length ≤ hc := by
  rcases h.2 with ⟨e, _⟩ | ⟨g, cap, cur, e, h1, hg, h2, h3, h4, h5⟩
  · cases e
  · injection e with e1 e2 e3
    injection e1 with e1; injection e1 with e1; subst e1 e3
    refine ⟨⟨by simp, Or.inr ⟨hb, hc, cur, by rw [List.length_dropLast], h1, hg, by rw [List.length_dropLast]; omega, h3, h4, ?_⟩⟩, h2⟩
    rw [List.length_dropLast, List.dropLast_eq_take]
    have e4 : ivs (List.take (hs.length - 1) hs) = (ivs hs).take (hs.length - 1) := by unfold ivs; rw [List.map_take]
    rw [e4, ← h5, List.take_take]
    congr 1; omega
set_option maxRecDepth 100000 in
set_option maxHeartbeats 4000000 in
theorem drop_in {w : World} {qb X : Nat} {F : Nat → Prop} {vh vk vp : Value} {hs ks ps : List Int} {ins : List Bool} (g : QG w qb F vh vk vp hs ks ps) (v : Inv ins hs ks ps) (hX : X < ps.length) (hn : ps.getD X 0 ≠ -1) :
    Calls Try.prog 47 #[qp qb, .int .i64 X] w fun e w' => e = .returned (.bool true) ∧ QI w' qb F (ins.set X false) ks ∧ FrF F w w' := by
  obtain ⟨i, hi, hx, hp, hfx⟩ := v.toPre.place hX hn
  have hin : ins.getD X false = true := (v.inp X hX).2 hn
  obtain ⟨hb, kb, pb, hc, kc, pc, rfl, rfl, rfl, s0, fh, fk, fp⟩ := g.qs (by omega) (by omega)
  have H := Lib.hid (has_in g.q g.p hX)
  have t1 : (ps.getD X 0 != -1) = true := by simpa using hn
  have T := Lib.hid t1
  obtain ⟨b, e, _, _, pcell, _, _⟩ := g.p.block (by omega)
  injection e with e; injection e with e; subst e
  have px := (pcell X hX).1
  rw [hp] at px
  have c0 := g.q.c0; have c2 := g.q.c2
  have sd : QS w.drew qb hb kb pb hc kc pc 0 hs ks ps := s0.keep ((Below.refl _ _).drew)
  have SW := Lib.hid (swap_qs sd v.c hi (j := hs.length - 1) (by omega))
  have hml := v.toPre.le
  obtain ⟨m, hm⟩ : ∃ m, hs.length = m := ⟨_, rfl⟩
  obtain ⟨n, hnn⟩ : ∃ n, ps.length = n := ⟨_, rfl⟩
  obtain ⟨l, hl⟩ : ∃ l, m - 1 = l := ⟨_, rfl⟩
  have G := Lib.hid g; have V := Lib.hid v; have HM := Lib.hid hm; have HNN := Lib.hid hnn; have HL := Lib.hid hl; have FH := Lib.hid fh; have FK := Lib.hid fk; have FP := Lib.hid fp; have HI := Lib.hid hi; have HX := Lib.hid hX; have HF := Lib.hid hfx; have HIN := Lib.hid hin
  rw [hm, hl] at SW
  rw [hm] at c0 hi hml; rw [hnn] at c2 hX
  have x0 : (0 : Int) ≤ (X : Int) := by omega
  have x1 : (X : Int) < (n : Int) := by omega
  have l1 : (m : Int) - 1 = (l : Int) := by omega
  have l2 : IntKind.i64.wrap (l : Int) = (l : Int) := by rw [IntKind.wrap_i64]; omega
  have l0 : (0 : Int) ≤ (l : Int) := by omega
  have hil : i ≤ l := by omega
  have hlm : l < m := by omega
  have hl1 : l ≤ 1048576 := by omega
  clear g v hm hnn hl fh fk fp hfx hx hp hn t1 pcell s0 sd hX hin hi hml
  go_enter Try.func47, Try.ntmps47
  go_wp2_with fail
  refine H.out.mono ?_; rintro e w' ⟨rfl, rfl⟩
  rw [T.out]
  go_wp2_with fail
  refine wp_region_held_drew (S := fun w' => w'.cell? ⟨qb, 0, none⟩ = some (.slice (some ⟨hb, 0, none⟩) m hc) ∧ w'.cell? ⟨qb, 2, none⟩ = some (.slice (some ⟨pb, 0, none⟩) n pc) ∧ w'.cell? ⟨pb, X, none⟩ = some (.int .i64 i)) (by kernel_rfl) ⟨c0, c2, px⟩ (fun hHeld => ?_)
  refine wpAnyH_take (i := 0) (v := ?_) rfl (by kernel_rfl) (by kernel_rfl) (by kernel_rfl) (fun _ _ _ h => h) (Or.inl ⟨by rfl, ?_⟩) (by assumption) ?_
  rotate_left 1
  · (intro w hSw; (try dsimp only at hSw); first | (go_simp; done) | (go_simp; with_reducible rfl))
  simp only [Act.put, List.getElem_toArray, List.getElem_cons_zero, List.setIfInBounds_toArray, List.set_cons_zero, List.set_cons_succ]
  refine wpAnyH_take (i := 1) (v := ?_) rfl (by kernel_rfl) (by kernel_rfl) (by kernel_rfl) (fun _ _ _ h => h) (Or.inl ⟨by rfl, ?_⟩) (by assumption) ?_
  rotate_left 1
  · (intro w hSw; (try dsimp only at hSw); first | (go_simp; done) | (go_simp; with_reducible rfl))
  simp only [Act.put, List.getElem_toArray, List.getElem_cons_zero, List.getElem_cons_succ, List.setIfInBounds_toArray, List.set_cons_zero, List.set_cons_succ]
  refine wpAnyH_take (i := 2) (v := ?_) rfl (by kernel_rfl) (by kernel_rfl) (by kernel_rfl) (fun _ _ _ h => h) (Or.inl ⟨by rfl, ?_⟩) (by assumption) ?_
  rotate_left 1
  · (intro w hSw; (try dsimp only at hSw); first | (go_simp; done) | (go_simp; with_reducible rfl))
  simp only [Act.put, List.getElem_toArray, List.getElem_cons_zero, List.getElem_cons_succ, List.setIfInBounds_toArray, List.set_cons_zero, List.set_cons_succ]
  refine wpAnyH_take (i := 3) (v := ?_) rfl (by kernel_rfl) (by kernel_rfl) (by kernel_rfl) (fun _ _ _ h => h) (Or.inl ⟨by rfl, ?_⟩) (by assumption) ?_
  rotate_left 1
  · (intro w hSw; (try dsimp only at hSw); first | (go_simp; done) | (go_simp; with_reducible rfl))
  simp only [Act.put, List.getElem_toArray, List.getElem_cons_zero, List.getElem_cons_succ, List.setIfInBounds_toArray, List.set_cons_zero, List.set_cons_succ]
  refine wpAnyH_take (i := 4) (v := ?_) rfl (by kernel_rfl) (by kernel_rfl) (by kernel_rfl) (fun _ _ _ h => h) (Or.inl ⟨by rfl, ?_⟩) (by assumption) ?_
  rotate_left 1
  · (intro w hSw; (try dsimp only at hSw); first | (go_simp; done) | (go_simp; with_reducible rfl))
  simp only [Act.put, List.getElem_toArray, List.getElem_cons_zero, List.getElem_cons_succ, List.setIfInBounds_toArray, List.set_cons_zero, List.set_cons_succ]
  refine wpAnyH_take (i := 5) (v := ?_) rfl (by kernel_rfl) (by kernel_rfl) (by kernel_rfl) (fun _ _ _ h => h) (Or.inl ⟨by rfl, ?_⟩) (by assumption) ?_
  rotate_left 1
  · (intro w hSw; (try dsimp only at hSw); first | (go_simp; done) | (go_simp; with_reducible rfl))
  simp only [Act.put, List.getElem_toArray, List.getElem_cons_zero, List.getElem_cons_succ, List.setIfInBounds_toArray, List.set_cons_zero, List.set_cons_succ]
  refine wpAnyH_take (i := 6) (v := ?_) rfl (by kernel_rfl) (by kernel_rfl) (by kernel_rfl) (fun _ _ _ h => h) (Or.inl ⟨by rfl, ?_⟩) (by assumption) ?_
  rotate_left 1
  · (intro w hSw; (try dsimp only at hSw); first | (go_simp; done) | (go_simp; with_reducible rfl))
  simp only [Act.put, List.getElem_toArray, List.getElem_cons_zero, List.getElem_cons_succ, List.setIfInBounds_toArray, List.set_cons_zero, List.set_cons_succ]
  refine wpAnyH_take (i := 7) (v := ?_) rfl (by kernel_rfl) (by kernel_rfl) (by kernel_rfl) (fun _ _ _ h => h) (Or.inl ⟨by rfl, ?_⟩) (by assumption) ?_
  rotate_left 1
  · (intro w hSw; (try dsimp only at hSw); first | (go_simp; done) | (go_simp; with_reducible rfl))
  simp only [Act.put, List.getElem_toArray, List.getElem_cons_zero, List.getElem_cons_succ, List.setIfInBounds_toArray, List.set_cons_zero, List.set_cons_succ]
  refine wpAnyH_take (i := 8) (v := ?_) rfl (by kernel_rfl) (by kernel_rfl) (by kernel_rfl) (fun _ _ _ h => h) (Or.inl ⟨by rfl, ?_⟩) (by assumption) ?_
  rotate_left 1
  · (intro w hSw; (try dsimp only at hSw); first | (go_simp; done) | (go_simp; with_reducible rfl))
  simp only [Act.put, List.getElem_toArray, List.getElem_cons_zero, List.getElem_cons_succ, List.setIfInBounds_toArray, List.set_cons_zero, List.set_cons_succ]
  refine wpAnyH_take (i := 9) (v := ?_) rfl (by kernel_rfl) (by kernel_rfl) (by kernel_rfl) (fun _ _ _ h => h) (Or.inl ⟨by rfl, ?_⟩) (by assumption) ?_
  rotate_left 1
  · (intro w hSw; (try dsimp only at hSw); first | (go_simp; done) | (go_simp; with_reducible rfl))
  simp only [Act.put, List.getElem_toArray, List.getElem_cons_zero, List.getElem_cons_succ, List.setIfInBounds_toArray, List.set_cons_zero, List.set_cons_succ]
  refine wpAnyH_take (i := 10) (v := ?_) rfl (by kernel_rfl) (by kernel_rfl) (by kernel_rfl) (fun _ _ _ h => h) (Or.inl ⟨by rfl, ?_⟩) (by assumption) ?_
  rotate_left 1
  · (intro w hSw; (try dsimp only at hSw); first | (go_simp; done) | (go_simp; with_reducible rfl))
  simp only [Act.put, List.getElem_toArray, List.getElem_cons_zero, List.getElem_cons_succ, List.setIfInBounds_toArray, List.set_cons_zero, List.set_cons_succ]
  refine wpAnyH_take (i := 11) (v := ?_) rfl (by kernel_rfl) (by kernel_rfl) (by kernel_rfl) (fun _ _ _ h => h) (Or.inl ⟨by rfl, ?_⟩) (by assumption) ?_
  rotate_left 1
  · (intro w hSw; (try dsimp only at hSw); first | (go_simp; done) | (go_simp; with_reducible rfl))
  simp only [Act.put, List.getElem_toArray, List.getElem_cons_zero, List.getElem_cons_succ, List.setIfInBounds_toArray, List.set_cons_zero, List.set_cons_succ]
  refine wpAnyH_take (i := 12) (v := ?_) rfl (by kernel_rfl) (by kernel_rfl) (by kernel_rfl) (fun _ _ _ h => h) (Or.inl ⟨by rfl, ?_⟩) (by assumption) ?_
  rotate_left 1
  · (intro w hSw; (try dsimp only at hSw); first | (go_simp; done) | (go_simp; with_reducible rfl))
  simp only [Act.put, List.getElem_toArray, List.getElem_cons_zero, List.getElem_cons_succ, List.setIfInBounds_toArray, List.set_cons_zero, List.set_cons_succ]
  refine wpAnyH_take (i := 13) (v := ?_) rfl (by kernel_rfl) (by kernel_rfl) (by kernel_rfl) (fun _ _ _ h => h) (Or.inl ⟨by rfl, ?_⟩) (by assumption) ?_
  rotate_left 1
  · (intro w hSw; (try dsimp only at hSw); first | (go_simp; done) | (go_simp; with_reducible rfl))
  simp only [Act.put, List.getElem_toArray, List.getElem_cons_zero, List.getElem_cons_succ, List.setIfInBounds_toArray, List.set_cons_zero, List.set_cons_succ]
  refine wpAnyH_take (i := 14) (v := ?_) rfl (by kernel_rfl) (by kernel_rfl) (by kernel_rfl) (fun _ _ _ h => h) (Or.inl ⟨by rfl, ?_⟩) (by assumption) ?_
  rotate_left 1
  · (intro w hSw; (try dsimp only at hSw); first | (go_simp; done) | (go_simp; with_reducible rfl))
  simp only [Act.put, List.getElem_toArray, List.getElem_cons_zero, List.getElem_cons_succ, List.setIfInBounds_toArray, List.set_cons_zero, List.set_cons_succ]
  refine wpAnyH_done (by kernel_rfl) ?_ _
  clear hHeld
  go_wp2_with fail
  refine SW.out.mono ?_; rintro e w2 ⟨rfl, hs1, ps1, s1, cc1, hw, sm, on⟩
  have hl1' : hs1.length = m := by rw [sm.len, HM.out]
  have hp1' : ps1.length = n := by rw [sm.plen, HNN.out]
  have q1 := s1.q
  have d0 := q1.c0; have d0f := q1.fr (i := 0)
  rw [hl1'] at d0
  obtain ⟨ic, hcap⟩ := ints_cut s1.h
  have fr1 : FrF F w w2 := (FrF.of_below (F := F) (Below.refl w.heap.size w).drew).trans (FrF.of_only (F := F) on FH.out FP.out) (fun _ _ h => h)
  have g1 : QG w2 qb F _ _ _ hs1 ks ps1 := s1.qg G.out.fq FH.out FK.out FP.out (fun a h => Nat.lt_of_lt_of_le (G.out.lt a h) fr1.size)
  obtain ⟨W3, hW3⟩ : ∃ W3, w2.setCell ⟨qb, 0, none⟩ (.slice (some ⟨hb, 0, none⟩) l hc) = W3 := ⟨_, rfl⟩
  obtain ⟨F', g3, f3, _, f3e⟩ := qg_head (n0 := w2.heap.size) g1 (Nat.le_refl _) ic rfl rfl rfl (Nat.le_refl _) (fun _ _ _ => rfl) (Or.inl rfl)
  rw [f3e rfl] at g3
  have e5 : hs1.length - 1 = l := by rw [hl1']; exact HL.out
  rw [e5, hW3] at g3 f3
  have k2 := g3.q.c2
  rw [hp1'] at k2
  have hX1 : X < ps1.length := by rw [hp1']; omega
  obtain ⟨b, e, _, _, pcell, _, _⟩ := g3.p.block (by omega)
  injection e with e; injection e with e; subst e
  obtain ⟨pz1, pz2⟩ := pcell X hX1
  obtain ⟨pv, hpv⟩ : ∃ pv, ps1.getD X 0 = pv := ⟨_, rfl⟩
  rw [hpv] at pz1
  obtain ⟨W4, hW4⟩ : ∃ W4, W3.setCell ⟨pb, X, none⟩ (.int .i64 (-1)) = W4 := ⟨_, rfl⟩
  obtain ⟨g4, f4⟩ := qg_place g3 hX1 (-1)
  rw [hW4] at g4 f4
  have lc : (l : Int) ≤ (hc : Int) := by rw [hl1'] at hcap; omega
  have hw' : hf hs1 = swp (hf hs) i (hs.length - 1) := by rw [HM.out, HL.out]; exact hw
  have PRE := Lib.hid (drop_pre V.out.toPre HX.out HI.out HF.out HIN.out sm cc1 hw')
  have G4 := Lib.hid g4; have FR := Lib.hid ((fr1.trans f3 (fun _ _ h => h)).trans f4 (fun _ _ h => h))
  have HW := Lib.hid hw'; have SM := Lib.hid sm; have E5 := Lib.hid e5
  clear s1 cc1 hw sm on hl1' hp1' q1 ic hcap fr1 g1 g3 f3 f3e e5 pcell hpv g4 f4 hw' hX1
  by_cases hlt : i < l
  · have c7 : (i : Int) < (l : Int) := by omega
    clear hlt
    have hlt : Hid (i < l) := by have : i < l := by omega
                                 exact this
    obtain ⟨hb', kb', pb', hc', kc', pc', e1, e2, e3, s5, fh, fk, fp⟩ := G4.out.qs (by rw [List.length_dropLast, E5.out]; have := hlt.out; omega) (by rw [List.length_set]; have := SM.out.plen; have := HX.out; omega)
    have ST := Lib.hid (settle_any (i0 := i) s5 PRE.out.c (by rw [List.length_dropLast, E5.out]; exact hlt.out) PRE.out.le (drop_up V.out.hp SM.out.len HW.out))
    have FH' := Lib.hid fh; have FK' := Lib.hid fk; have FP' := Lib.hid fp
    clear e1 e2 e3 s5 fh fk fp
    go_wp2_with fail
    refine ST.out.mono ?_; rintro e w' ⟨rfl, hs', ps', TT, HE⟩
    have T5 := Lib.hid TT; have H5 := Lib.hid HE; clear TT HE
    go_wp2_with fail
    go_ret
    refine ⟨rfl, ⟨_, _, _, hs', ps', T5.out.s.qg G.out.fq FH'.out FK'.out FP'.out (fun a h => Nat.lt_of_lt_of_le (G4.out.lt a h) T5.out.fr.size), ⟨PRE.out.same T5.out.sm T5.out.c, H5.out⟩⟩, ?_⟩
    exact FR.out.trans (FrF.of_fr T5.out.fr FH'.out FP'.out) (fun _ _ h => h)
  · obtain rfl : i = l := by omega
    have c7 : ¬ (i : Int) < (i : Int) := by omega
    clear hlt
    have hp : Hid (Heap (leK ks) (hf hs1.dropLast) hs1.dropLast.length) := drop_heap V.out.hp SM.out.len (by
      have h1 := HW.out
      have h2 : i = hs.length - 1 := by rw [HM.out]; exact HL.out.symm
      rw [← h2]; rw [← h2] at h1; exact h1)
    go_wp2_with fail
    go_ret
    exact ⟨rfl, ⟨_, _, _, _, _, G4.out, ⟨PRE.out, hp.out⟩⟩, FR.out⟩
theorem drop_qi {w : World} {qb X : Nat} {F : Nat → Prop} {ins : List Bool} {ks : List Int} (I : QI w qb F ins ks) (hX : X < ins.length) (hin : ins.getD X false = true) :
    Calls Try.prog 47 #[qp qb, .int .i64 X] w fun e w' => e = .returned (.bool true) ∧ QI w' qb F (ins.set X false) ks ∧ FrF F w w' := by
  obtain ⟨vh, vk, vp, hs, ps, g, v⟩ := I
  rw [v.len] at hX
  exact drop_in g v hX ((v.inp X hX).1 hin)
theorem pop_nil (w : World) : Calls Try.prog 40 #[.pointer none] w fun e w' => e = .returned (.tuple #[.int .i64 0, .int .i64 0, .bool false]) ∧ w = w' := by
  go_enter Try.func40, Try.ntmps40
  go_wp2_with fail
  refine (len_nil _).mono ?_; rintro e w' ⟨rfl, rfl⟩
  go_wp2_with fail
  go_ret3
  exact ⟨rfl, rfl⟩
theorem pop_no {w : World} {qb : Nat} {F : Nat → Prop} {ins : List Bool} {ks : List Int} (I : QI w qb F ins ks) (h0 : ins.count true = 0) : Calls Try.prog 40 #[qp qb] w fun e w' => e = .returned (.tuple #[.int .i64 0, .int .i64 0, .bool false]) ∧ w = w' := by
  have h := len_qi I
  rw [h0] at h
  have H := Lib.hid h
  clear h I h0
  go_enter Try.func40, Try.ntmps40
  go_wp2_with fail
  refine H.out.mono ?_; rintro e w' ⟨rfl, rfl⟩
  go_wp2_with fail
  go_ret3
  exact ⟨rfl, rfl⟩
/- the least item of ins -/
structure Least (ins : List Bool) (ks : List Int) (X : Nat) : Prop where
  lt : X < ins.length
  mem : ins.getD X false = true
  min : ∀ Z, Z < ins.length → ins.getD Z false = true → leK ks X Z
set_option maxHeartbeats 2000000 in
theorem pop_qi {w : World} {qb : Nat} {F : Nat → Prop} {ins : List Bool} {ks : List Int} (I : QI w qb F ins ks) (h0 : 0 < ins.count true) :
    Calls Try.prog 40 #[qp qb] w fun e w' => ∃ X : Nat, Least ins ks X ∧ e = .returned (.tuple #[.int .i64 X, .int .i64 (ks.getD X 0), .bool true]) ∧ QI w' qb F (ins.set X false) ks ∧ FrF F w w' := by
  have HL := Lib.hid (len_qi I)
  have II := Lib.hid I
  have hcl : ins.count true ≤ 1048576 := by have : ins.count true ≤ ins.length := List.count_le_length; have := I.kl.2; omega
  obtain ⟨vh, vk, vp, hs, ps, g, v⟩ := I
  have hm : 0 < hs.length := by rw [v.cnt]; exact h0
  obtain ⟨x1, x2, x3⟩ := item_of v.c hm
  have hXn : hf hs 0 < ins.length := by rw [v.len]; exact x2
  have hXin : ins.getD (hf hs 0) false = true := (v.inp _ x2).2 (by rw [x3]; decide)
  have LE := Lib.hid (Least.mk hXn hXin (inv_min v))
  have DR := Lib.hid (drop_qi ⟨vh, vk, vp, hs, ps, g, v⟩ hXn hXin)
  obtain ⟨hb, kb, pb, hc, kc, pc, rfl, rfl, rfl, s0, fh, fk, fp⟩ := g.qs hm (by omega)
  obtain ⟨b, e, _, _, hcell, _, _⟩ := g.h.block hm
  injection e with e; injection e with e; subst e
  obtain ⟨b, e, _, _, kcell, _, _⟩ := g.k.block (by rw [g.kl]; omega)
  injection e with e; injection e with e; subst e
  have hx := (hcell 0 hm).1
  have kx := (kcell (hf hs 0) (by rw [g.kl]; exact x2)).1
  rw [x1] at hx
  have c0 := g.q.c0; have c1 := g.q.c1
  rw [g.kl] at c1
  obtain ⟨X, hX⟩ : ∃ X, hf hs 0 = X := ⟨_, rfl⟩
  obtain ⟨kv, hkv⟩ : ∃ kv, ks.getD X 0 = kv := ⟨_, rfl⟩
  rw [hX] at hx kx x2 LE DR
  rw [hkv] at kx
  obtain ⟨m, hmm⟩ : ∃ m, hs.length = m := ⟨_, rfl⟩
  obtain ⟨n, hnn⟩ : ∃ n, ps.length = n := ⟨_, rfl⟩
  have HC := Lib.hid v.cnt
  have HKV := Lib.hid hkv
  rw [hmm] at c0 hm HC; rw [hnn] at c1 x2
  rw [← HC.out] at HL hcl
  have m0 : ((m : Int) == 0) = false := by simp; omega
  have m1 : (0 : Int) < (m : Int) := by omega
  have y0 : (0 : Int) ≤ (X : Int) := by omega
  have y1 : (X : Int) < (n : Int) := by omega
  clear g v s0 fh fk fp hcell kcell x1 x3 hXn hXin hX hkv hmm hnn h0 hm hcl
  go_enter Try.func40, Try.ntmps40
  go_wp2_with fail
  refine HL.out.mono ?_; rintro e w' ⟨rfl, rfl⟩
  go_wp2_with fail
  refine DR.out.mono ?_; rintro e w' ⟨rfl, q, f⟩
  have Q := Lib.hid q; have FF := Lib.hid f; clear q f
  go_wp2_with fail
  go_ret3
  exact ⟨X, LE.out, by rw [HKV.out]; rfl, Q.out, FF.out⟩
end Go.Proofs.Ytgofachgoflgnaa
