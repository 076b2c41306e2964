/- graph: GraphSymmetric. -/
import Derived.Test.YthfecllgkldgfaaGx
namespace Go.Proofs.Ythfecllgkldgfaa
open Go.ChangeShapes Go.WideShapes Go.ChangeAt Go.RowKit Go.Joins Go.Deep

theorem qsame {P : Program} {f : FuncId} {args : Array Value} {w : World} {n : Nat} {v : Value}
    (h : Calls P f args (w.drewN n) fun e w' => e = .returned v ∧ w.drewN n = w') : Calls P f args (w.drewN n) fun e w'' => e = .returned v ∧ ∃ m, w'' = w.drewN m :=
  h.mono fun _ _ ⟨he, hm⟩ => ⟨he, n, hm.symm⟩
structure SY (W : World) (B0 m n cap : Nat) (a : Option Addr) (ars : List (Int × Int)) (ul uo ui up : Value) (ss : List (List Int)) (pl : List Int) : Prop where
  b0 : W.cell? ⟨B0, 0, none⟩ = some (.int .i64 (m : Int))
  b1 : W.cell? ⟨B0, 1, none⟩ = some (.slice a n cap)
  l : RowsAt W ul ss
  o : RowsAt W uo (groups Prod.fst ars n m)
  i : RowsAt W ui (groups Prod.snd ars n m)
  p : IntsAt W up pl
  g : ArcsAt W (.slice a n cap) ars
theorem SY.below {W W' : World} {B0 m n cap : Nat} {a : Option Addr} {ars : List (Int × Int)} {ul uo ui up : Value} {ss : List (List Int)} {pl : List Int} (h : SY W B0 m n cap a ars ul uo ui up ss pl) (b : Below W.heap.size W W') : SY W' B0 m n cap a ars ul uo ui up ss pl :=
  ⟨by rw [b.cell (p := ⟨B0, 0, none⟩) (cell_lt h.b0)]; exact h.b0, by rw [b.cell (p := ⟨B0, 1, none⟩) (cell_lt h.b1)]; exact h.b1, h.l.below b, h.o.below b, h.i.below b, h.p.below b, h.g.below b⟩
/- the row of row v, its cell in the walk's spelling -/
theorem row_at {W : World} {a : Option Addr} {m cap v : Nat} {ls : List (List Int)} (h : RowsAt W (.slice a m cap) ls) (hl : ls.length = m) (hv : v < m) : ∃ ob b k c, a = some ⟨ob, 0, none⟩ ∧ W.cell? ⟨ob, v, none⟩ = some (.slice b k c) ∧ (ls.getD v []).length = k ∧ IntsAt W (.slice b k c) (ls.getD v []) := by
  obtain ⟨ob, u, e1, e2, e3⟩ := h.at_ (j := v) (by omega)
  obtain ⟨b, c, e4⟩ := e3.form
  subst e4
  exact ⟨ob, b, _, c, e1, e2, rfl, e3⟩
theorem getD_mem {l : List Int} {i : Nat} (h : i < l.length) : l.getD i 0 ∈ l := by rw [List.getD, List.getElem?_eq_getElem h]; exact List.getElem_mem _
theorem cell_b {w W : World} {p : Addr} {v : Value} (h : w.cell? p = some v) (b : Below w.heap.size w W) : W.cell? p = some v := by rw [b.cell (cell_lt h)]; exact h
set_option maxRecDepth 100000 in
set_option maxHeartbeats 16000000 in
theorem graphSym_main {w : World} {m : Nat} {v : Value} {ars : List (Int × Int)} (h : ArcsAt w v ars) (hf : fewB (m : Int) ars.length = true) (hc : chk (m : Int) ars = 0) : Calls Try.prog 12 #[gv (m : Int) v] w fun e w' => e = .returned (.bool true) ∧ Below w.heap.size w w' := by
  have hl : ars.length ≤ 60 := by unfold fewB at hf; simp at hf; omega
  have hm40 := few_le hf hc
  obtain ⟨nl, nb⟩ := chk_zero hc
  unfold long at nl
  have HM : Hid (m ≤ 40) := by show m ≤ _; omega
  have NB := Lib.hid nb
  have PF := Lib.hid (parts_facts nb)
  have PL := Lib.hid (parts_least nb).1
  have TO : Hid (tot Prod.fst ars ars.length m = ars.length) := tot_all _ _ _ (fun j hj => by obtain ⟨x, y, e, hx, hy, _⟩ := arc_nat nb hj; exact ⟨x, by rw [e], hx⟩) _ (Nat.le_refl _)
  have TI : Hid (tot Prod.snd ars ars.length m = ars.length) := tot_all _ _ _ (fun j hj => by obtain ⟨x, y, e, hx, hy, _⟩ := arc_nat nb hj; exact ⟨y, by rw [e], hy⟩) _ (Nat.le_refl _)
  have A0 := h
  obtain ⟨a, cap, rfl, _⟩ := h
  obtain ⟨W1, hW1⟩ : ∃ W1, w.alloc (.cells #[.int .i64 (m : Int), .slice a ars.length cap] 33) = W1 := ⟨_, rfl⟩
  obtain ⟨B0, hB0⟩ : ∃ B0, w.heap.size = B0 := ⟨_, rfl⟩
  have r1 : Row W1 B0 33 [.int .i64 (m : Int), .slice a ars.length cap] := by rw [← hW1, ← hB0]; exact Row.new _ _ _
  have b1 : Below w.heap.size w W1 := by rw [← hW1]; exact below_al _ _
  have FW := few37_any (m : Int) ars.length cap a
  rw [hf] at FW
  have FF := Lib.hid FW
  have CC := Lib.hid (fun W (b : Below w.heap.size w W) => check_any (N := (m : Int)) (A0.below b))
  rw [hc] at CC
  have AV := Lib.hid (fun W (b : Below W1.heap.size W1 W) => (A0.below b1).below b)
  have HC := Lib.hid hc; have HL60 := Lib.hid hl
  have C1 := Lib.hid (fun W (b : Below W1.heap.size W1 W) => nb_any (AV.out W b) HC.out (by have := HL60.out; omega))
  have C2 := Lib.hid (fun W (b : Below W1.heap.size W1 W) => out_any (AV.out W b) HC.out)
  have C3 := Lib.hid (fun W (b : Below W1.heap.size W1 W) => in_any (AV.out W b) HC.out)
  have C4 := Lib.hid (fun W (b : Below W1.heap.size W1 W) => parts_any (AV.out W b) HC.out)
  obtain ⟨n, hn⟩ : ∃ n, ars.length = n := ⟨_, rfl⟩
  have HN := Lib.hid hn
  rw [hn] at hW1 r1 FF CC AV C1 C2 C3 C4 ⊢
  have BB := Lib.hid b1; have R1 := Lib.hid r1
  have q0 := r1.cell (i := 0) rfl; have q1 := r1.cell (i := 1) rfl
  clear A0 b1 r1 FW hn hl hf hc nl nb hm40
  go_enter Try.func12, Try.ntmps12
  go_wp2_with fail
  refine (FF.out _).mono ?_; rintro e w2 ⟨rfl, b⟩
  have B2 := Lib.hid b; have R2 := Lib.hid (R1.out.below b R1.out.lt)
  clear b q0 q1 hW1
  have q0 := R2.out.cell (i := 0) rfl; have q1 := R2.out.cell (i := 1) rfl
  go_wp2_with fail
  refine (CC.out _ (BB.out.trans (B2.out.mono BB.out.size))).mono ?_; rintro e w3 ⟨rfl, b⟩
  have B3 := Lib.hid (B2.out.trans (b.mono B2.out.size)); have R3 := Lib.hid (R2.out.below b R2.out.lt)
  clear b q0 q1
  have q0 := R3.out.cell (i := 0) rfl; have q1 := R3.out.cell (i := 1) rfl
  go_wp2_with fail
  have S0 : Hid (∀ W, W = w3.drew → Below W1.heap.size W1 W ∧ W.cell? ⟨B0, 0, none⟩ = some (.int .i64 (m : Int)) ∧ W.cell? ⟨B0, 1, none⟩ = some (.slice a n cap)) := by
    intro W e0; subst e0
    exact ⟨B3.out.drew, q0, q1⟩
  refine wp_region_held_drew (S := fun W => Below W1.heap.size W1 W ∧ W.cell? ⟨B0, 0, none⟩ = some (.int .i64 (m : Int)) ∧ W.cell? ⟨B0, 1, none⟩ = some (.slice a n cap)) (by kernel_rfl) (S0.out _ rfl) (fun hHeld => ?_)
  clear S0 q0 q1
  refine wpAnyH_take (i := 0) (v := ?_) rfl (by kernel_rfl) (by kernel_rfl) (by kernel_rfl) (fun _ _ _ h => h) (Or.inl ⟨by rfl, ?_⟩) (by assumption) ?_
  rotate_left 1
  · (intro w hSw; (try dsimp only at hSw); first | (go_simp; done) | (go_simp; with_reducible rfl))
  simp only [Act.put, List.getElem_toArray, List.getElem_cons_zero, List.setIfInBounds_toArray, List.set_cons_zero, List.set_cons_succ]
  refine wpAnyH_take (i := 2) (v := ?_) rfl (by kernel_rfl) (by kernel_rfl) (by kernel_rfl) (fun _ _ _ h => h) (Or.inl ⟨by rfl, ?_⟩) (by assumption) ?_
  rotate_left 1
  · (intro w hSw; (try dsimp only at hSw); first | (go_simp; done) | (go_simp; with_reducible rfl))
  simp only [Act.put, List.getElem_toArray, List.getElem_cons_zero, List.getElem_cons_succ, List.setIfInBounds_toArray, List.set_cons_zero, List.set_cons_succ]
  refine wpAnyH_take (i := 4) (v := ?_) rfl (by kernel_rfl) (by kernel_rfl) (by kernel_rfl) (fun _ _ _ h => h) (Or.inl ⟨by rfl, ?_⟩) (by assumption) ?_
  rotate_left 1
  · (intro w hSw; (try dsimp only at hSw); first | (go_simp; done) | (go_simp; with_reducible rfl))
  simp only [Act.put, List.getElem_toArray, List.getElem_cons_zero, List.getElem_cons_succ, List.setIfInBounds_toArray, List.set_cons_zero, List.set_cons_succ]
  refine wpAnyH_take (i := 6) (v := ?_) rfl (by kernel_rfl) (by kernel_rfl) (by kernel_rfl) (fun _ _ _ h => h) (Or.inl ⟨by rfl, ?_⟩) (by assumption) ?_
  rotate_left 1
  · (intro w hSw; (try dsimp only at hSw); first | (go_simp; done) | (go_simp; with_reducible rfl))
  simp only [Act.put, List.getElem_toArray, List.getElem_cons_zero, List.getElem_cons_succ, List.setIfInBounds_toArray, List.set_cons_zero, List.set_cons_succ]
  refine wpAnyH_ready (rs := [1]) (by kernel_rfl) (by simp) ?_
  refine AllReadyH.cons rfl (fun K hK => ?_) AllReadyH.nil
  have hS1 := Lib.hid hHeld
  go_simp
  go_wp2_with (go_at_call 42; (with_reducible refine (C1.out _ hS1.out.1).mono ?_); rintro en w4 ⟨ul, ss, rfl, a4, n4, h4, b4⟩)
  have A4 := Lib.hid a4; have N4 := Lib.hid n4; have H4 := Lib.hid h4
  clear a4 n4 h4
  refine hK.out _ _ (s_keep3 R1.out.lt b4 hS1.out) (fun hHeld2 => ?_)
  clear b4
  clear hK K hHeld hS1; have hHeld := hHeld2; clear hHeld2
  refine wpAnyH_ready (rs := [3]) (by kernel_rfl) (by simp) ?_
  refine AllReadyH.cons rfl (fun K hK => ?_) AllReadyH.nil
  have hS1 := Lib.hid hHeld
  go_simp
  go_wp2_with (go_at_call 38; (with_reducible refine (C2.out _ hS1.out.1).mono ?_); rintro en w5 ⟨uo, rfl, a5, b5⟩)
  have A4b := Lib.hid (A4.out.below b5)
  have A5 := Lib.hid a5
  clear a5
  refine hK.out _ _ (s_keep3 R1.out.lt b5 hS1.out) (fun hHeld2 => ?_)
  clear b5
  clear hK K hHeld hS1; have hHeld := hHeld2; clear hHeld2
  refine wpAnyH_ready (rs := [5]) (by kernel_rfl) (by simp) ?_
  refine AllReadyH.cons rfl (fun K hK => ?_) AllReadyH.nil
  have hS1 := Lib.hid hHeld
  go_simp
  go_wp2_with (go_at_call 40; (with_reducible refine (C3.out _ hS1.out.1).mono ?_); rintro en w6 ⟨ui, rfl, a6, b6⟩)
  have A4c := Lib.hid (A4b.out.below b6)
  have A5b := Lib.hid (A5.out.below b6)
  have A6 := Lib.hid a6
  clear a6
  refine hK.out _ _ (s_keep3 R1.out.lt b6 hS1.out) (fun hHeld2 => ?_)
  clear b6
  clear hK K hHeld hS1; have hHeld := hHeld2; clear hHeld2
  refine wpAnyH_ready (rs := [7]) (by kernel_rfl) (by simp) ?_
  refine AllReadyH.cons rfl (fun K hK => ?_) AllReadyH.nil
  have hS1 := Lib.hid hHeld
  go_simp
  go_wp2_with (go_at_call 44; (with_reducible refine (C4.out _ hS1.out.1).mono ?_); rintro en w7 ⟨up, rfl, a7, b7⟩)
  have A4d := Lib.hid (A4c.out.below b7)
  have A5c := Lib.hid (A5b.out.below b7)
  have A6b := Lib.hid (A6.out.below b7)
  have A7 := Lib.hid a7
  clear a7
  refine hK.out _ _ (s_keep3 R1.out.lt b7 hS1.out) (fun hHeld2 => ?_)
  clear b7
  clear hK K hHeld hS1; have hHeld := hHeld2; clear hHeld2
  refine wpAnyH_take (i := 8) (v := ?_) rfl (by kernel_rfl) (by kernel_rfl) (by kernel_rfl) (fun _ _ _ h => h) (Or.inl ⟨by rfl, ?_⟩) (by assumption) ?_
  rotate_left 1
  · (intro w hSw; (try dsimp only at hSw); first | (go_simp; done) | (go_simp; with_reducible rfl))
  simp only [Act.put, List.getElem_toArray, List.getElem_cons_zero, List.getElem_cons_succ, List.setIfInBounds_toArray, List.set_cons_zero, List.set_cons_succ]
  refine wpAnyH_take (i := 9) (v := ?_) rfl (by kernel_rfl) (by kernel_rfl) (by kernel_rfl) (fun _ _ _ h => h) (Or.inl ⟨by rfl, ?_⟩) (by assumption) ?_
  rotate_left 1
  · (intro w hSw; (try dsimp only at hSw); first | (go_simp; done) | (go_simp; with_reducible rfl))
  simp only [Act.put, List.getElem_toArray, List.getElem_cons_zero, List.getElem_cons_succ, List.setIfInBounds_toArray, List.set_cons_zero, List.set_cons_succ]
  refine wpAnyH_take (i := 10) (v := ?_) rfl (by kernel_rfl) (by kernel_rfl) (by kernel_rfl) (fun _ _ _ h => h) (Or.inl ⟨by rfl, ?_⟩) (by assumption) ?_
  rotate_left 1
  · (intro w hSw; (try dsimp only at hSw); first | (go_simp; done) | (go_simp; with_reducible rfl))
  simp only [Act.put, List.getElem_toArray, List.getElem_cons_zero, List.getElem_cons_succ, List.setIfInBounds_toArray, List.set_cons_zero, List.set_cons_succ]
  refine wpAnyH_take (i := 11) (v := ?_) rfl (by kernel_rfl) (by kernel_rfl) (by kernel_rfl) (fun _ _ _ h => h) (Or.inl ⟨by rfl, ?_⟩) (by assumption) ?_
  rotate_left 1
  · (intro w hSw; (try dsimp only at hSw); first | (go_simp; done) | (go_simp; with_reducible rfl))
  simp only [Act.put, List.getElem_toArray, List.getElem_cons_zero, List.getElem_cons_succ, List.setIfInBounds_toArray, List.set_cons_zero, List.set_cons_succ]
  have SYY : Hid (SY w7 B0 m n cap a ars ul uo ui up ss (partsL ars m)) := ⟨hHeld.2.1, hHeld.2.2, A4d.out, A5c.out, A6b.out, A7.out, AV.out _ hHeld.1⟩
  have B7 := Lib.hid (BB.out.trans (hHeld.1.mono BB.out.size))
  refine wpAnyH_done (by kernel_rfl) ?_ _
  clear hHeld A4 A4b A4c A4d A5 A5b A5c A6 A6b A7
  have LO := Lib.hid (groups_len Prod.fst ars n m); have LI := Lib.hid (groups_len Prod.snd ars n m)
  have NF := Lib.hid (nbs_facts NB.out (fun j hj => (H4.out j hj).1))
  obtain ⟨al, cl, hul⟩ : ∃ al cl, ul = .slice al m cl := by obtain ⟨x, y, e, _⟩ := SYY.out.l; rw [N4.out] at e; exact ⟨x, y, e⟩
  obtain ⟨ao, co, huo⟩ : ∃ ao co, uo = .slice ao m co := by obtain ⟨x, y, e, _⟩ := SYY.out.o; rw [LO.out] at e; exact ⟨x, y, e⟩
  obtain ⟨ai, ci, hui⟩ : ∃ ai ci, ui = .slice ai m ci := by obtain ⟨x, y, e, _⟩ := SYY.out.i; rw [LI.out] at e; exact ⟨x, y, e⟩
  obtain ⟨ap, cp, hup⟩ : ∃ ap cp, up = .slice ap m cp := by obtain ⟨x, y, e⟩ := SYY.out.p.form; rw [PL.out] at e; exact ⟨x, y, e⟩
  subst hul huo hui hup
  have HH : Hid (∀ W, Below w7.heap.size w7 W → ∀ (u : Value) (l : List Int) (x : Int) (bb : Bool), IntsAt W u l → l.length ≤ 1000000 → decide (x ∈ l) = bb → Calls Try.prog 19 #[u, .int .i64 x] W fun e w' => e = .returned (.bool bb) ∧ W = w') := fun W _ u l x bb hu hl hd => by rw [← hd]; exact hasr_any hu x hl
  have q0 := SYY.out.b0; have q1 := SYY.out.b1
  go_wp2_with fail
  clear q0 q1
  go_loopw [7, 8, 9] (fun s7 s8 s9 wr => ∃ v : Nat, v ≤ m ∧ s7 = .int .i64 ((tot Prod.fst ars n v : Nat) : Int) ∧ s8 = .int .i64 ((tot Prod.snd ars n v : Nat) : Int) ∧ s9 = .int .i64 (v : Int) ∧ Hid (Below w7.heap.size w7 wr)) (fun _ _ s9 _ => m - (intOf s9).toNat)
  case atStart => exact ⟨0, Nat.zero_le _, rfl, rfl, rfl, Below.refl _ _⟩
  case round =>
    obtain ⟨v, hv, rfl, rfl, rfl, BW⟩ := hrel
    have q0 := cell_b SYY.out.b0 BW.out; have q1 := cell_b SYY.out.b1 BW.out
    by_cases hvm : v < m
    · obtain ⟨bo, b1, k1, c1, rfl, o1, ok1, oi1⟩ := row_at SYY.out.o LO.out hvm
      obtain ⟨bi, b2, k2, c2, rfl, o2, ok2, oi2⟩ := row_at SYY.out.i LI.out hvm
      obtain ⟨bl, b3, k3, c3, rfl, o3, ok3, oi3⟩ := row_at SYY.out.l N4.out hvm
      rw [groups_get hvm] at ok1 oi1 ok2 oi2
      obtain ⟨r, hr1, hr2, hr3⟩ := PF.out.1 v hvm
      obtain ⟨bp, op, rfl, o4⟩ := SYY.out.p.at (k := v) (by rw [PL.out]; exact hvm)
      obtain ⟨bp', op', e5, o5⟩ := SYY.out.p.at (k := r) (by rw [PL.out]; omega)
      injection e5 with e5; injection e5 with e6 e7; subst e6 e7
      rw [hr1] at o4
      rw [hr3] at o5
      have O1 := Lib.hid o1; have O2 := Lib.hid o2; have O3 := Lib.hid o3; have O4 := Lib.hid o4; have O5 := Lib.hid o5
      clear o1 o2 o3 o4 o5
      have o1 := cell_b O1.out BW.out; have o2 := cell_b O2.out BW.out; have o3 := cell_b O3.out BW.out; have o4 := cell_b O4.out BW.out; have o5 := cell_b O5.out BW.out
      have T1 : Hid (tot Prod.fst ars n (v + 1) = tot Prod.fst ars n v + k1) := by show _ = _; rw [tot, ok1]
      have T2 : Hid (tot Prod.snd ars n (v + 1) = tot Prod.snd ars n v + k2) := by show _ = _; rw [tot, ok2]
      have T3 : Hid (tot Prod.fst ars n (v + 1) ≤ 60) := by have h1 := tot_mono Prod.fst ars n (v := v + 1) (m := m) (by omega); have h2 := TO.out; have h3 := HL60.out; have h4 := HN.out; rw [h4] at h2; show _ ≤ _; omega
      have T4 : Hid (tot Prod.snd ars n (v + 1) ≤ 60) := by have h1 := tot_mono Prod.snd ars n (v := v + 1) (m := m) (by omega); have h2 := TI.out; have h3 := HL60.out; have h4 := HN.out; rw [h4] at h2; show _ ≤ _; omega
      obtain ⟨t1, ht1⟩ : ∃ t1, tot Prod.fst ars n v = t1 := ⟨_, rfl⟩
      obtain ⟨t2, ht2⟩ : ∃ t2, tot Prod.snd ars n v = t2 := ⟨_, rfl⟩
      obtain ⟨y1, hy1⟩ : ∃ y1, tot Prod.fst ars n (v + 1) = y1 := ⟨_, rfl⟩
      obtain ⟨y2, hy2⟩ : ∃ y2, tot Prod.snd ars n (v + 1) = y2 := ⟨_, rfl⟩
      rw [ht1, hy1] at T1
      rw [ht2, hy2] at T2
      rw [hy1] at T3
      rw [hy2] at T4
      rw [ht1, ht2]
      have HY1 := Lib.hid hy1; have HY2 := Lib.hid hy2
      have E1 : (t1 : Int) + (k1 : Int) = (y1 : Int) := by have := T1.out; omega
      have E2 : IntKind.i64.wrap (y1 : Int) = (y1 : Int) := by rw [IntKind.wrap_i64]; have := T3.out; omega
      have E3 : (t2 : Int) + (k2 : Int) = (y2 : Int) := by have := T2.out; omega
      have E4 : IntKind.i64.wrap (y2 : Int) = (y2 : Int) := by rw [IntKind.wrap_i64]; have := T4.out; omega
      have OI1 := Lib.hid oi1; have OK1 := Lib.hid ok1; have OI3 := Lib.hid oi3; have OK3 := Lib.hid ok3; have HVM := Lib.hid hvm; have HR1 := Lib.hid hr1
      have K1 : Hid (k1 ≤ 60) := by have := T1.out; have := T3.out; show _ ≤ _; omega
      have LL3 : Hid ((ss.getD v []).length ≤ 1000000) := (H4.out v hvm).2
      have D3 : Hid (decide ((v : Int) ∈ ss.getD v []) = false) := by have := NF.out.1 v hvm; show _ = _; simpa using this
      obtain ⟨v1, hv1⟩ : ∃ v1, v + 1 = v1 := ⟨_, rfl⟩
      have HV1 := Lib.hid hv1
      have v0 : (0 : Int) ≤ (v : Int) := by omega
      have vl : (v : Int) < (m : Int) := by omega
      have ve : (v : Int) + 1 = (v1 : Int) := by omega
      have vw : IntKind.i64.wrap (v1 : Int) = (v1 : Int) := by rw [IntKind.wrap_i64]; have := HM.out; omega
      have r0 : (0 : Int) ≤ (r : Int) := by omega
      have rl : (r : Int) < (m : Int) := by omega
      have rv : decide (v < r) = false := by simp; omega
      have rn : decide ((r : Int) < 0) = false := by simp
      clear ht1 ht2 hy1 hy2 oi1 ok1 oi2 ok2 oi3 ok3 hr1 hr2 hr3 hv1 hvm hv
      go_wp2_with fail
      go_quiet ((go_at_call 19; exact qsame (HH.out _ (below_drewN BW.out _) _ _ _ _ (OI3.out.below (below_drewN BW.out _)) LL3.out D3.out)))
      have B8 : Hid (Below w7.heap.size w7 (wr.drewN nq)) := below_drewN BW.out nq
      clear BW q0 q1 o1 o2 o3 o4 o5 rv rn r0 rl E1 E2 E3 E4
      go_wp2_with fail
      go_loopw [10] (fun s wq => ∃ i : Nat, i ≤ k3 ∧ s = .int .i64 (i : Int) ∧ Hid (Below w7.heap.size w7 wq)) (fun s _ => k3 - (intOf s).toNat)
      case atStart => exact ⟨0, Nat.zero_le _, rfl, B8⟩
      case round =>
        clear B8
        obtain ⟨i, hi, rfl, BL⟩ := hrel
        have q0 := cell_b SYY.out.b0 BL.out; have q1 := cell_b SYY.out.b1 BL.out
        have o3 := cell_b O3.out BL.out; have o4 := cell_b O4.out BL.out
        by_cases hik : i < k3
        · obtain ⟨bb, off, rfl, p1⟩ := OI3.out.at (k := i) (by rw [OK3.out]; exact hik)
          obtain ⟨x, hx, hxm, hvx, cvx⟩ := NF.out.2 v HVM.out ((ss.getD v []).getD i 0) (getD_mem (by rw [OK3.out]; exact hik))
          rw [hx] at p1
          obtain ⟨bl', b5, k5, c5, e5, o6, ok6, oi6⟩ := row_at SYY.out.l N4.out hxm
          injection e5 with e5; injection e5 with e6 e7; subst e6
          obtain ⟨bp', op', e8, o7⟩ := SYY.out.p.at (k := x) (by rw [PL.out]; exact hxm)
          injection e8 with e8; injection e8 with e9 e10; subst e9 e10
          rw [PF.out.2 v x HVM.out hxm cvx, HR1.out] at o7
          have P1 := cell_b p1 BL.out; have P6 := cell_b o6 BL.out; have P7 := cell_b o7 BL.out
          have D6 : Hid (decide ((v : Int) ∈ ss.getD x []) = true) := by show _ = _; simpa using hvx
          have LL6 : Hid ((ss.getD x []).length ≤ 1000000) := (H4.out x hxm).2
          have OI6 := Lib.hid oi6
          obtain ⟨i1, hi1⟩ : ∃ i1, i + 1 = i1 := ⟨_, rfl⟩
          have HI := Lib.hid hi1; have HIK := Lib.hid hik
          have i00 : (0 : Int) ≤ (i : Int) := by omega
          have il : (i : Int) < (k3 : Int) := by omega
          have f1 : (i : Int) + 1 = (i1 : Int) := by omega
          have f2 : IntKind.i64.wrap (i1 : Int) = (i1 : Int) := by rw [IntKind.wrap_i64]; have h1 := LL3.out; have h2 := OK3.out; rw [h2] at h1; omega
          have x0 : (0 : Int) ≤ (x : Int) := by omega
          have xl : (x : Int) < (m : Int) := by omega
          have xn : decide ((x : Int) < 0) = false := by simp
          have xm : decide (m ≤ x) = false := by simp; omega
          clear hx hxm hvx cvx ok6 oi6 o6 o7 p1 hi1 hik hi
          go_wp2_with fail
          go_quiet ((go_at_call 19; exact qsame (HH.out _ (below_drewN BL.out _) _ _ _ _ (OI6.out.below (below_drewN BL.out _)) LL6.out D6.out)))
          have B9 : Hid (Below w7.heap.size w7 (wr.drewN nq)) := below_drewN BL.out nq
          clear q0 q1 o3 o4 P1 P6 P7
          go_wp2_with fail
          go_roundw
          case measure => simp [intOf]; have := HI.out; have := HIK.out; omega
          case rel => exact ⟨i1, by have := HI.out; have := HIK.out; omega, rfl, B9⟩
        · have il : ¬ (i : Int) < (k3 : Int) := by omega
          obtain rfl : i = k3 := by omega
          go_wp2_with fail
          clear q0 q1 o3 o4 il hi hik
          go_loopw [12] (fun s wq => ∃ i : Nat, i ≤ k1 ∧ s = .int .i64 (i : Int) ∧ Hid (Below w7.heap.size w7 wq)) (fun s _ => k1 - (intOf s).toNat)
          case atStart => exact ⟨0, Nat.zero_le _, rfl, BL⟩
          case round =>
            clear BL
            obtain ⟨i, hi, rfl, BL⟩ := hrel
            have q0 := cell_b SYY.out.b0 BL.out; have q1 := cell_b SYY.out.b1 BL.out
            have o1 := cell_b O1.out BL.out
            by_cases hik : i < k1
            · obtain ⟨bb, off, rfl, p1⟩ := OI1.out.at (k := i) (by rw [OK1.out]; exact hik)
              obtain ⟨x, hx, hxn, hxv⟩ := (ends_mem _ _ _ _ ((ends Prod.fst ars n v).getD i 0)).1 (getD_mem (by rw [OK1.out]; exact hik))
              rw [hx] at p1
              have hxl : x < ars.length := by rw [HN.out]; exact hxn
              obtain ⟨px, y, exy, hpx, hy, _⟩ := arc_nat NB.out hxl
              have hye : (x : Int) ∈ ends Prod.snd ars n y := (ends_mem _ _ _ _ _).2 ⟨x, rfl, hxn, by rw [exy]⟩
              obtain ⟨ba, oa, rfl, g0, g1⟩ := SYY.out.g.at_ hxl
              rw [exy] at g0 g1 hxv
              dsimp only at g0 g1 hxv
              rw [hxv] at g0
              obtain ⟨bi', b5, k5, c5, e5, o6, ok6, oi6⟩ := row_at SYY.out.i LI.out hy
              injection e5 with e5; injection e5 with e6 e7; subst e6
              rw [groups_get hy] at ok6 oi6
              have P1 := cell_b p1 BL.out; have P6 := cell_b o6 BL.out; have G0 := cell_b g0 BL.out; have G1 := cell_b g1 BL.out
              have D6 : Hid (decide ((x : Int) ∈ ends Prod.snd ars n y) = true) := by show _ = _; simpa using hye
              have LL6 : Hid ((ends Prod.snd ars n y).length ≤ 1000000) := by have h1 := ends_len Prod.snd ars n y; have h2 := HL60.out; have h3 := HN.out; show _ ≤ _; omega
              have OI6 := Lib.hid oi6
              obtain ⟨i1, hi1⟩ : ∃ i1, i + 1 = i1 := ⟨_, rfl⟩
              have HI := Lib.hid hi1; have HIK := Lib.hid hik
              have i00 : (0 : Int) ≤ (i : Int) := by omega
              have il : (i : Int) < (k1 : Int) := by omega
              have f1 : (i : Int) + 1 = (i1 : Int) := by omega
              have f2 : IntKind.i64.wrap (i1 : Int) = (i1 : Int) := by rw [IntKind.wrap_i64]; have := K1.out; omega
              have x0 : (0 : Int) ≤ (x : Int) := by omega
              have xl : (x : Int) < (n : Int) := by omega
              have y00 : (0 : Int) ≤ (y : Int) := by omega
              have yl : (y : Int) < (m : Int) := by omega
              have xn : decide ((x : Int) < 0) = false := by simp
              have xm : decide (n ≤ x) = false := by simp; omega
              have xm2 : ¬ (n : Int) ≤ (x : Int) := by omega
              clear hx hxn hxv hxl exy hpx hy hye ok6 oi6 o6 p1 g0 g1 hi1 hik hi
              go_wp2_with fail
              refine (HH.out _ BL.out _ _ _ _ (OI6.out.below BL.out) LL6.out D6.out).mono ?_; rintro e wz ⟨rfl, rfl⟩
              go_wp2_with fail
              clear q0 q1 o1 P1 P6 G0 G1
              go_roundw
              case measure => simp [intOf]; have := HI.out; have := HIK.out; omega
              case rel => exact ⟨i1, by have := HI.out; have := HIK.out; omega, rfl, BL⟩
            · have il : ¬ (i : Int) < (k1 : Int) := by omega
              obtain rfl : i = k1 := by omega
              clear hi hik
              go_wp2_with fail
              clear q0 q1 o1 il
              go_roundw
              case measure => simp [intOf]; have := HV1.out; have := HVM.out; omega
              case rel => exact ⟨v1, by have := HV1.out; have := HVM.out; omega, by rw [HV1.out.symm, HY1.out], by rw [HV1.out.symm, HY2.out], rfl, BL⟩
    · obtain rfl : v = m := by omega
      have vl : ¬ (v : Int) < (v : Int) := by omega
      have t1 := TO.out; have t2 := TI.out
      rw [HN.out] at t1 t2
      rw [t1, t2]
      have FB := Lib.hid (B7.out.trans (BW.out.mono B7.out.size))
      clear t1 t2 hv hvm
      go_wp2_with fail
      refine (lives37_any _).mono ?_; rintro e wz ⟨rfl, bz⟩
      have FZ := Lib.hid (FB.out.trans (bz.mono FB.out.size))
      clear bz
      go_wp2_with fail
      go_ret
      exact ⟨rfl, FZ.out⟩
set_option maxRecDepth 100000 in
theorem graphSym_bad {w : World} {N : Int} {v : Value} {ars : List (Int × Int)} (h : ArcsAt w v ars) (hf : fewB N ars.length = true) (hc : chk N ars ≠ 0) : Calls Try.prog 12 #[gv N v] w fun e w' => e = .returned (.bool true) ∧ Below w.heap.size w w' := by
  have A0 := h
  obtain ⟨a, cap, rfl, _⟩ := h
  obtain ⟨W1, hW1⟩ : ∃ W1, w.alloc (.cells #[.int .i64 N, .slice a ars.length cap] 33) = W1 := ⟨_, rfl⟩
  have r1 : Row W1 w.heap.size 33 [.int .i64 N, .slice a ars.length cap] := by rw [← hW1]; exact Row.new _ _ _
  have b1 : Below w.heap.size w W1 := by rw [← hW1]; exact below_al _ _
  have FW := few37_any N ars.length cap a
  rw [hf] at FW
  have CC := Lib.hid (fun W (b : Below w.heap.size w W) => check_any (N := N) (A0.below b))
  obtain ⟨n, hn⟩ : ∃ n, ars.length = n := ⟨_, rfl⟩
  obtain ⟨c, hcc⟩ : ∃ c, chk N ars = c := ⟨_, rfl⟩
  rw [hn] at hW1 r1 FW CC ⊢
  rw [hcc] at CC hc
  have c1 : (c == 0) = false := by simpa using hc
  have FF := Lib.hid FW; have BB := Lib.hid b1; have R1 := Lib.hid r1
  have q0 := r1.cell (i := 0) rfl; have q1 := r1.cell (i := 1) rfl
  clear FW b1 r1 hf A0 hn hcc hc
  go_enter Try.func12, Try.ntmps12
  go_wp2_with fail
  refine (FF.out _).mono ?_; rintro e w2 ⟨rfl, b⟩
  have B2 := Lib.hid (BB.out.trans (b.mono BB.out.size)); have R2 := Lib.hid (R1.out.below b R1.out.lt)
  clear b q0 q1 hW1
  have q0 := R2.out.cell (i := 0) rfl; have q1 := R2.out.cell (i := 1) rfl
  go_wp2_with fail
  refine (CC.out _ B2.out).mono ?_; rintro e w3 ⟨rfl, b⟩
  have B3 := Lib.hid (B2.out.trans (b.mono B2.out.size))
  clear b
  go_wp2_with fail
  refine (lives37_any _).mono ?_; rintro e w4 ⟨rfl, b⟩
  have B4 := Lib.hid (B3.out.trans (b.mono B3.out.size))
  clear b
  go_wp2_with fail
  go_ret
  exact ⟨rfl, B4.out⟩
set_option maxRecDepth 100000 in
theorem graphSym_many {w : World} {N : Int} {a : Option Addr} {n cap : Nat} (hf : fewB N n = false) : Calls Try.prog 12 #[gv N (.slice a n cap)] w fun e w' => e = .returned (.bool true) ∧ Below w.heap.size w w' := by
  obtain ⟨W1, hW1⟩ : ∃ W1, w.alloc (.cells #[.int .i64 N, .slice a n cap] 33) = W1 := ⟨_, rfl⟩
  have r1 : Row W1 w.heap.size 33 [.int .i64 N, .slice a n cap] := by rw [← hW1]; exact Row.new _ _ _
  have b1 : Below w.heap.size w W1 := by rw [← hW1]; exact below_al _ _
  have FW := few37_any N n cap a
  rw [hf] at FW
  have FF := Lib.hid FW; have BB := Lib.hid b1
  have q0 := r1.cell (i := 0) rfl; have q1 := r1.cell (i := 1) rfl
  clear FW b1 r1 hf
  go_enter Try.func12, Try.ntmps12
  go_wp2_with fail
  refine (FF.out _).mono ?_; rintro e w3 ⟨rfl, b⟩
  have B3 := Lib.hid (BB.out.trans (b.mono BB.out.size))
  clear b
  go_wp2_with fail
  refine (lives37_any _).mono ?_; rintro e w4 ⟨rfl, b⟩
  have B4 := Lib.hid (B3.out.trans (b.mono B3.out.size))
  clear b
  go_wp2_with fail
  go_ret
  exact ⟨rfl, B4.out⟩
abbrev graphSymmetric_zero0 : Value := gv 0 nilV
theorem graphSymmetric_open0 {H : Type} {enc : TypeId × Value → H} {W : World} {base b0 : Nat} {spare : Nat → Bool} {held : Bool} {r : Reach} {v : Value} {d : DataW H} {p : List MemPlace}
    (hv : Value.okWide Try.prog W r b0 33 v) (h : DataW.Trod enc Try.prog W base spare held 33 v d p) : IsG W v := graph_open hv h
theorem graphSymmetric_walk (v : Value) (w : World) (h : IsG w v) : Calls Try.prog 12 #[v] w fun e w' => e = .returned (.bool true) ∧ Below w.heap.size w w' := by
  obtain ⟨N, u, ars, rfl, ha⟩ := h
  by_cases hf : fewB N ars.length = true
  · by_cases hc : chk N ars = 0
    · obtain ⟨m, rfl⟩ := chk_nat hc
      exact graphSym_main ha hf hc
    · exact graphSym_bad ha hf hc
  · obtain ⟨a, cap, rfl, _⟩ := ha
    exact graphSym_many (by simpa using hf)
end Go.Proofs.Ythfecllgkldgfaa
