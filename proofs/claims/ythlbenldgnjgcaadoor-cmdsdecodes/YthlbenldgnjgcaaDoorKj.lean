/- cmds: the reference's steps. -/
import Derived.Test.YthlbenldgnjgcaaDoorKi
namespace Go.Proofs.YthlbenldgnjgcaaDoor
open Go.ChangeShapes Go.WideShapes Go.ChangeAt Go.RowKit Go.Joins Go.Deep

/- the reference's state: what it wrote, and the cell of its point -/
structure Rst (base X : Nat) (w : World) (v : Value) (p : Pt) (O : List Int) : Prop where
  row : Row w X 44 [.int .i64 p.1, .int .i64 p.2]
  own : IOwn w base v O
  lt : X < base
theorem Rst.keep {base X : Nat} {w W : World} {v : Value} {p : Pt} {O : List Int} (h : Rst base X w v p O) (b : Below w.heap.size w W) : Rst base X W v p O :=
  ⟨h.row.below b h.row.lt, h.own.keep b, h.lt⟩
theorem own_mono {w : World} {base b : Nat} {v : Value} {l : List Int} (h : IOwn w base v l) (hb : b ≤ base) : IOwn w b v l := by
  refine ⟨h.1, ?_⟩
  rcases h.2 with h0 | ⟨g, cap, cur, rfl, h2, hg, h3⟩
  · exact Or.inl h0
  · exact Or.inr ⟨g, cap, cur, rfl, Nat.le_trans hb h2, hg, h3⟩
theorem grown_drew {w w' : World} {row : Option Nat} (h : w.drew.grownBy w' row) : w.grownBy w' row := ⟨h.os, h.tape, h.output, h.size, h.block⟩
theorem rst_app {B0 base X n q : Nat} {w0 w W w7 : World} {v v' : Value} {p : Pt} {O xs : List Int} (h : Rst base X w v p O) (b0 : Below B0 w0 w) (hb : B0 ≤ base) (hs : base ≤ w.heap.size) (b : Below w.heap.size w W) (hn : O.length = n) (hq : xs.length = q) (gr : W.grownBy w7 v.ownBlock)
    (ow : w7.ownsRow base 3 1 v' (n + q) (nums O ++ nums xs)) :
    Rst base X w7 v' p (O ++ xs) ∧ Below B0 w0 w7 ∧ Below base w w7 := by
  have hX := h.row.lt
  have hsz := b.size
  have hlt := h.lt
  refine ⟨⟨?_, iown_add hn hq ow, hlt⟩, ?_, ?_⟩
  · exact (h.row.below b hX).same (gr.block X (by omega) (fun e => by have := (h.own.lt X e.symm).1; omega))
  · exact Below.grown (b0.trans (b.mono (by have := b0.size; omega))) gr (by omega) (fun k e => by have := (h.own.lt k e).1; omega)
  · exact Below.grown (b.mono hs) gr (by omega) (fun k e => (h.own.lt k e).1)
theorem rst_at {base X : Nat} {w : World} {v : Value} {p : Pt} {O : List Int} (h : Rst base X w v p O) (x y : Int) : Rst base X ((w.setCell ⟨X, 0, none⟩ (.int .i64 x)).setCell ⟨X, 1, none⟩ (.int .i64 y)) v (x, y) O := by
  have hlt := h.lt
  refine ⟨?_, ?_, hlt⟩
  · have := (h.row.set (i := 0) (.int .i64 x)).set (i := 1) (.int .i64 y); simpa using this
  · exact h.own.same (fun g hg => by have := (h.own.lt g hg).1; rw [Below.heap_setCell _ _ _ _ (by show g ≠ X; omega), Below.heap_setCell _ _ _ _ (by show g ≠ X; omega)])
set_option maxRecDepth 100000 in
set_option maxHeartbeats 8000000 in
theorem steps_any {w : World} {u : Value} {p : Pt} {l : List Pt} (hP : PtsAt w u l) (hl : ∀ x ∈ l, inE x) (hp : inE p) (hO : l.length ≤ 400000) :
    Calls Tryd.prog 19 #[u, pv p] w fun e w' => ∃ v, e = .returned (.tuple #[v, pv (lastP l p)]) ∧ IOwn w' w.heap.size v (stp l p) ∧ Below w.heap.size w w' := by
  obtain ⟨i0, hi0, hz0, hz1, hz2⟩ := info_parts Tryd.info3
  have II := Lib.hid hi0; have Z0 := Lib.hid hz0; have Z1 := Lib.hid hz1; have Z2 := Lib.hid hz2
  clear hi0 hz0 hz1 hz2
  obtain ⟨p0, p1⟩ := p
  have PP := Lib.hid hP
  obtain ⟨a, cap, rfl, _⟩ := hP.form
  obtain ⟨n, hn⟩ : ∃ n, l.length = n := ⟨_, rfl⟩
  rw [hn] at PP hO ⊢
  obtain ⟨X, hX⟩ : ∃ X, w.heap.size = X := ⟨_, rfl⟩
  have HX := Lib.hid hX
  obtain ⟨W1, hW1⟩ : ∃ W1, w.alloc (.cells #[.int .i64 p0, .int .i64 p1] 44) = W1 := ⟨_, rfl⟩
  have s1 : W1.heap.size = X + 1 := by rw [← hW1, World.size_alloc, hX]
  obtain ⟨W2, hW2⟩ : ∃ W2, W1.alloc (.cells #[.int .i64 0, .int .i64 0] 44) = W2 := ⟨_, rfl⟩
  have s2 : W2.heap.size = X + 2 := by rw [← hW2, World.size_alloc, s1]
  have r1 : Row W2 X 44 [.int .i64 p0, .int .i64 p1] := by rw [← hW2, ← hW1, ← hX]; exact (Row.new _ _ _).alloc _
  have r2 : Row W2 (X + 1) 44 [.int .i64 0, .int .i64 0] := by rw [← hW2, ← s1]; exact Row.new _ _ _
  have b2 : Below w.heap.size w W2 := by
    rw [← hW2, ← hW1]
    exact ((Below.refl _ _).alloc (Nat.le_refl _) _).alloc (by simp) _
  have HN := Lib.hid hn
  have HL := Lib.hid hl; have HP := Lib.hid hp; have HO := Lib.hid hO
  have S2 := Lib.hid s2; have B2 := Lib.hid b2; have R2 := Lib.hid r2
  have ST0 : Hid (Rst (X + 2) X W2 (.slice none 0 0) (p0, p1) []) := ⟨r1, World.ownsRow_nil _ _ _ _, by omega⟩
  rw [hX] at B2
  clear hP hn hl hp hO r1 r2 b2 s2
  go_enter Tryd.func19, Tryd.ntmps19
  go_wp2_with fail
  --
  clear hX hW1 hW2 s1
  go_loopw [6, 7] (fun s6 s7 wr => ∃ k : Nat, k ≤ n ∧ s7 = .int .i64 (k : Int) ∧ Hid (Rst (X + 2) X wr s6 (lastP (l.take k) (p0, p1)) (stp (l.take k) (p0, p1))) ∧ Hid (Row wr (X + 1) 44 [.int .i64 0, .int .i64 0] ∧ X + 2 ≤ wr.heap.size) ∧ Hid (Below X w wr)) (fun _ s _ => n - (intOf s).toNat)
  case atStart => exact ⟨0, Nat.zero_le _, rfl, ST0.out, ⟨R2.out, by rw [S2.out]; exact Nat.le_refl _⟩, B2.out⟩
  case round =>
    obtain ⟨k, hk, rfl, WS, RS, BW⟩ := hrel
    by_cases hkn : k < n
    · obtain ⟨bb, off, rfl, bl, o0, o1⟩ := (PP.out.below (by rw [HX.out]; exact BW.out)).at_ (j := k) (by rw [HN.out]; exact hkn)
      obtain ⟨bb', off', e', bl', _⟩ := PP.out.at_ (j := k) (by rw [HN.out]; exact hkn)
      have hbX : bb < X := by injection e' with e'; injection e' with e1 e2 e3; rw [e1, ← HX.out]; exact bl'
      have HBX := Lib.hid hbX
      clear e' bl' hbX
      have TG := Lib.hid (take_get (l := l) (k := k) (by rw [HN.out]; exact hkn))
      have INX : Hid (inE (l.getD k (0, 0))) := HL.out _ (getD_mem (by rw [HN.out]; exact hkn))
      obtain ⟨⟨x, y⟩, hz⟩ : ∃ z, l.getD k (0, 0) = z := ⟨_, rfl⟩
      rw [hz] at o0 o1 TG INX
      dsimp only at o0 o1
      have INP : Hid (inE (lastP (l.take k) (p0, p1))) := lastP_in _ _ (fun q hq => HL.out q (List.mem_of_mem_take hq)) HP.out
      have SN := Lib.hid (stp_snoc (l.take k) (x, y) (p0, p1))
      have LN := Lib.hid (lastP_snoc (l.take k) (x, y) (p0, p1))
      rw [← TG.out] at SN LN
      have LO : Hid ((stp (l.take k) (p0, p1)).length + 2 ≤ 1000000) := by
        show _ ≤ _
        rw [stp_len, List.length_take]; have := HO.out; have := HN.out; omega
      obtain ⟨⟨pa, pb⟩, hpp⟩ : ∃ z, lastP (l.take k) (p0, p1) = z := ⟨_, rfl⟩
      rw [hpp] at WS INP SN
      obtain ⟨OO, hOO⟩ : ∃ z, stp (l.take k) (p0, p1) = z := ⟨_, rfl⟩
      rw [hOO] at WS LO SN
      obtain ⟨au, cu, hv⟩ := row_form WS.out.own
      obtain ⟨m, hm⟩ : ∃ m, OO.length = m := ⟨_, rfl⟩
      have OW : Hid (wr.ownsRow (X + 2) 3 1 u6 m (nums OO)) := by have := WS.out.own; unfold IOwn at this; rw [hm] at this; exact this
      rw [hm] at hv LO
      have HM := Lib.hid hm
      have ZA : Hid (zzOk (x - pa)) := by have h1 := INX.out; have h2 := INP.out; unfold inE at h1 h2; show zzOk _; unfold zzOk; simp at h1 h2; omega
      have ZB : Hid (zzOk (y - pb)) := by have h1 := INX.out; have h2 := INP.out; unfold inE at h1 h2; show zzOk _; unfold zzOk; simp at h1 h2; omega
      have e5 : IntKind.i64.wrap (x - pa) = x - pa := by rw [IntKind.wrap_i64]; have := ZA.out; unfold zzOk at this; omega
      have e6 : IntKind.i64.wrap (y - pb) = y - pb := by rw [IntKind.wrap_i64]; have := ZB.out; unfold zzOk at this; omega
      obtain ⟨k1, hk1⟩ : ∃ k1, k + 1 = k1 := ⟨_, rfl⟩
      rw [hk1] at SN LN
      have HK := Lib.hid hk1
      have k0 : (0 : Int) ≤ (k : Int) := by omega
      have kl : (k : Int) < (n : Int) := by omega
      have e1 : (k : Int) + 1 = (k1 : Int) := by omega
      have e2 : IntKind.i64.wrap (k1 : Int) = (k1 : Int) := by rw [IntKind.wrap_i64]; have := HO.out; have := HN.out; omega
      subst hv
      have c0 := WS.out.row.cell (i := 0) rfl; have c1 := WS.out.row.cell (i := 1) rfl
      clear hz hk1 bl hm hOO hpp
      go_wp2_with fail
      --
      have S0 : Hid (∀ W, W = wr.drew → W.cell? ⟨bb, off + k * 2, none⟩ = some (.int .i64 x) ∧ W.cell? ⟨bb, off + k * 2 + 1, none⟩ = some (.int .i64 y) ∧ W.cell? ⟨X, 0, none⟩ = some (.int .i64 pa) ∧ W.cell? ⟨X, 1, none⟩ = some (.int .i64 pb)) := by
        intro W e0; subst e0
        exact ⟨o0, o1, c0, c1⟩
      have S1 : Hid (∀ W (o : Obj), W = (wr.alloc o).drew → W.cell? ⟨bb, off + k * 2, none⟩ = some (.int .i64 x) ∧ W.cell? ⟨bb, off + k * 2 + 1, none⟩ = some (.int .i64 y) ∧ W.cell? ⟨X, 0, none⟩ = some (.int .i64 pa) ∧ W.cell? ⟨X, 1, none⟩ = some (.int .i64 pb)) := by
        intro W o e0; subst e0
        have b : Below wr.heap.size wr (wr.alloc o).drew := ((Below.refl _ _).alloc (Nat.le_refl _) o).drew
        exact ⟨by rw [b.cell (cell_lt o0)]; exact o0, by rw [b.cell (cell_lt o1)]; exact o1, by rw [b.cell (cell_lt c0)]; exact c0, by rw [b.cell (cell_lt c1)]; exact c1⟩
      have OP := Lib.hid (And.intro o0 o1)
      refine wp_region_drop (fun W => W.cell? ⟨bb, off + k * 2, none⟩ = some (.int .i64 x) ∧ W.cell? ⟨bb, off + k * 2 + 1, none⟩ = some (.int .i64 y) ∧ W.cell? ⟨X, 0, none⟩ = some (.int .i64 pa) ∧ W.cell? ⟨X, 1, none⟩ = some (.int .i64 pb)) 20 (by kernel_rfl) (S0.out _ rfl) (fun hHeld => ?_)
      refine wpAnyD_pure (i := 0) (v := ?_) rfl (by kernel_rfl) (by kernel_rfl) (by kernel_rfl) (by rfl) (fun _ _ _ h => h) (Or.inl ⟨by rfl, ?_⟩) (by assumption) ?_
      rotate_left 1
      · (intro w; first | (go_simp; done) | (go_simp; with_reducible rfl))
      simp only [Act.put, List.getElem_toArray, List.getElem_cons_zero, List.setIfInBounds_toArray, List.set_cons_zero, List.set_cons_succ]
      refine wpAnyD_pure (i := 1) (v := ?_) rfl (by kernel_rfl) (by kernel_rfl) (by kernel_rfl) (by rfl) (fun _ _ _ h => h) (Or.inl ⟨by rfl, ?_⟩) (by assumption) ?_
      rotate_left 1
      · (intro w; first | (go_simp; done) | (go_simp; with_reducible rfl))
      simp only [Act.put, List.getElem_toArray, List.getElem_cons_zero, List.getElem_cons_succ, List.setIfInBounds_toArray, List.set_cons_zero, List.set_cons_succ]
      refine wpAnyD_pure (i := 2) (v := ?_) rfl (by kernel_rfl) (by kernel_rfl) (by kernel_rfl) (by rfl) (fun _ _ _ h => h) (Or.inl ⟨by rfl, ?_⟩) (by assumption) ?_
      rotate_left 1
      · (intro w; first | (go_simp; done) | (go_simp; with_reducible rfl))
      simp only [Act.put, List.getElem_toArray, List.getElem_cons_zero, List.getElem_cons_succ, List.setIfInBounds_toArray, List.set_cons_zero, List.set_cons_succ]
      refine wpAnyD_pure (i := 3) (v := ?_) rfl (by kernel_rfl) (by kernel_rfl) (by kernel_rfl) (by rfl) (fun _ _ _ h => h) (Or.inl ⟨by rfl, ?_⟩) (by assumption) ?_
      rotate_left 1
      · (intro w; first | (go_simp; done) | (go_simp; with_reducible rfl))
      simp only [Act.put, List.getElem_toArray, List.getElem_cons_zero, List.getElem_cons_succ, List.setIfInBounds_toArray, List.set_cons_zero, List.set_cons_succ]
      refine wpAnyD_pure (i := 4) (v := ?_) rfl (by kernel_rfl) (by kernel_rfl) (by kernel_rfl) (by rfl) (fun _ _ _ h => h) (Or.inl ⟨by rfl, ?_⟩) (by assumption) ?_
      rotate_left 1
      · (intro w; first | (go_simp; done) | (go_simp; with_reducible rfl))
      simp only [Act.put, List.getElem_toArray, List.getElem_cons_zero, List.getElem_cons_succ, List.setIfInBounds_toArray, List.set_cons_zero, List.set_cons_succ]
      refine wpAnyD_take (i := 5) (v := ?_) rfl (by kernel_rfl) (by kernel_rfl) (by kernel_rfl) (by kernel_rfl) (fun _ _ _ h => h) (Or.inl ⟨by rfl, ?_⟩) (by assumption) ?_
      rotate_left 1
      · (intro w hSw; (try dsimp only at hSw); first | (go_simp; done) | (go_simp; with_reducible rfl))
      simp only [Act.put, List.getElem_toArray, List.getElem_cons_zero, List.getElem_cons_succ, List.setIfInBounds_toArray, List.set_cons_zero, List.set_cons_succ]
      refine wpAnyD_pure (i := 6) (v := ?_) rfl (by kernel_rfl) (by kernel_rfl) (by kernel_rfl) (by rfl) (fun _ _ _ h => h) (Or.inl ⟨by rfl, ?_⟩) (by assumption) ?_
      rotate_left 1
      · (intro w; first | (go_simp; done) | (go_simp; with_reducible rfl))
      simp only [Act.put, List.getElem_toArray, List.getElem_cons_zero, List.getElem_cons_succ, List.setIfInBounds_toArray, List.set_cons_zero, List.set_cons_succ]
      refine wpAnyD_take (i := 7) (v := ?_) rfl (by kernel_rfl) (by kernel_rfl) (by kernel_rfl) (by kernel_rfl) (fun _ _ _ h => h) (Or.inl ⟨by rfl, ?_⟩) (by assumption) ?_
      rotate_left 1
      · (intro w hSw; (try dsimp only at hSw); first | (go_simp; done) | (go_simp; with_reducible rfl))
      simp only [Act.put, List.getElem_toArray, List.getElem_cons_zero, List.getElem_cons_succ, List.setIfInBounds_toArray, List.set_cons_zero, List.set_cons_succ]
      refine wpAnyD_pure (i := 8) (v := ?_) rfl (by kernel_rfl) (by kernel_rfl) (by kernel_rfl) (by rfl) (fun _ _ _ h => h) (Or.inl ⟨by rfl, ?_⟩) (by assumption) ?_
      rotate_left 1
      · (intro w; first | (go_simp; done) | (go_simp; with_reducible rfl))
      simp only [Act.put, List.getElem_toArray, List.getElem_cons_zero, List.getElem_cons_succ, List.setIfInBounds_toArray, List.set_cons_zero, List.set_cons_succ]
      refine wpAnyD_pure (i := 10) (v := ?_) rfl (by kernel_rfl) (by kernel_rfl) (by kernel_rfl) (by rfl) (fun _ _ _ h => h) (Or.inl ⟨by rfl, ?_⟩) (by assumption) ?_
      rotate_left 1
      · (intro w; first | (go_simp; done) | (go_simp; with_reducible rfl))
      simp only [Act.put, List.getElem_toArray, List.getElem_cons_zero, List.getElem_cons_succ, List.setIfInBounds_toArray, List.set_cons_zero, List.set_cons_succ]
      refine wpAnyD_pure (i := 11) (v := ?_) rfl (by kernel_rfl) (by kernel_rfl) (by kernel_rfl) (by rfl) (fun _ _ _ h => h) (Or.inl ⟨by rfl, ?_⟩) (by assumption) ?_
      rotate_left 1
      · (intro w; first | (go_simp; done) | (go_simp; with_reducible rfl))
      simp only [Act.put, List.getElem_toArray, List.getElem_cons_zero, List.getElem_cons_succ, List.setIfInBounds_toArray, List.set_cons_zero, List.set_cons_succ]
      refine wpAnyD_pure (i := 12) (v := ?_) rfl (by kernel_rfl) (by kernel_rfl) (by kernel_rfl) (by rfl) (fun _ _ _ h => h) (Or.inl ⟨by rfl, ?_⟩) (by assumption) ?_
      rotate_left 1
      · (intro w; first | (go_simp; done) | (go_simp; with_reducible rfl))
      simp only [Act.put, List.getElem_toArray, List.getElem_cons_zero, List.getElem_cons_succ, List.setIfInBounds_toArray, List.set_cons_zero, List.set_cons_succ]
      refine wpAnyD_pure (i := 13) (v := ?_) rfl (by kernel_rfl) (by kernel_rfl) (by kernel_rfl) (by rfl) (fun _ _ _ h => h) (Or.inl ⟨by rfl, ?_⟩) (by assumption) ?_
      rotate_left 1
      · (intro w; first | (go_simp; done) | (go_simp; with_reducible rfl))
      simp only [Act.put, List.getElem_toArray, List.getElem_cons_zero, List.getElem_cons_succ, List.setIfInBounds_toArray, List.set_cons_zero, List.set_cons_succ]
      refine wpAnyD_take (i := 14) (v := ?_) rfl (by kernel_rfl) (by kernel_rfl) (by kernel_rfl) (by kernel_rfl) (fun _ _ _ h => h) (Or.inl ⟨by rfl, ?_⟩) (by assumption) ?_
      rotate_left 1
      · (intro w hSw; (try dsimp only at hSw); first | (go_simp; done) | (go_simp; with_reducible rfl))
      simp only [Act.put, List.getElem_toArray, List.getElem_cons_zero, List.getElem_cons_succ, List.setIfInBounds_toArray, List.set_cons_zero, List.set_cons_succ]
      refine wpAnyD_pure (i := 15) (v := ?_) rfl (by kernel_rfl) (by kernel_rfl) (by kernel_rfl) (by rfl) (fun _ _ _ h => h) (Or.inl ⟨by rfl, ?_⟩) (by assumption) ?_
      rotate_left 1
      · (intro w; first | (go_simp; done) | (go_simp; with_reducible rfl))
      simp only [Act.put, List.getElem_toArray, List.getElem_cons_zero, List.getElem_cons_succ, List.setIfInBounds_toArray, List.set_cons_zero, List.set_cons_succ]
      refine wpAnyD_take (i := 16) (v := ?_) rfl (by kernel_rfl) (by kernel_rfl) (by kernel_rfl) (by kernel_rfl) (fun _ _ _ h => h) (Or.inl ⟨by rfl, ?_⟩) (by assumption) ?_
      rotate_left 1
      · (intro w hSw; (try dsimp only at hSw); first | (go_simp; done) | (go_simp; with_reducible rfl))
      simp only [Act.put, List.getElem_toArray, List.getElem_cons_zero, List.getElem_cons_succ, List.setIfInBounds_toArray, List.set_cons_zero, List.set_cons_succ]
      refine wpAnyD_pure (i := 17) (v := ?_) rfl (by kernel_rfl) (by kernel_rfl) (by kernel_rfl) (by rfl) (fun _ _ _ h => h) (Or.inl ⟨by rfl, ?_⟩) (by assumption) ?_
      rotate_left 1
      · (intro w; first | (go_simp; done) | (go_simp; with_reducible rfl))
      simp only [Act.put, List.getElem_toArray, List.getElem_cons_zero, List.getElem_cons_succ, List.setIfInBounds_toArray, List.set_cons_zero, List.set_cons_succ]
      --
      refine wpAnyD_one (i := 9) (by kernel_rfl) (by decide) rfl (fun K hK => ?_)
      go_simp
      go_wp2_with (go_at_call 25; (with_reducible refine (zigr_any _ ZA.out _).mono ?_); rintro en w8 ⟨rfl, rfl⟩)
      refine hK.out _ _ (S0.out _ rfl) (fun _ => ?_)
      clear hK K
      refine wpAnyD_one (i := 18) (by kernel_rfl) (by decide) rfl (fun K hK => ?_)
      go_simp
      go_wp2_with (go_at_call 25; (with_reducible refine (zigr_any _ ZB.out _).mono ?_); rintro en w8 ⟨rfl, rfl⟩)
      refine hK.out _ _ (S0.out _ rfl) (fun _ => ?_)
      clear hK K hHeld
      refine wpAnyD_one (i := 19) (by kernel_rfl) (by decide) rfl (fun K hK => ?_)
      go_simp
      refine hK.out _ _ (S1.out _ _ rfl) (fun _ => ?_)
      clear hK K
      refine wpAnyD_drop (by kernel_rfl) rfl (fun K hK => ?_)
      refine step_append_own rfl _ _ 27 rfl (X + 2) 3 i0 (.int .i64 0) 1 8 Tryd.underlying27 II.out Z0.out Z1.out Z2.out rfl (by decide) (.slice au m cu) m (nums OO) rfl ?_ ⟨wr.heap.size, 0, none⟩ 2 2 [.int .i64 (zz (x - pa)), .int .i64 (zz (y - pb))] rfl rfl (two_newd _ _ _ _) (by simp [Value.oneCell']) (by have := LO.out; unfold maxLen; omega) (by have := LO.out; omega) ?_ ?_
      · exact own_drew (OW.out.alloc _)
      · have := RS.out.2; show _ ≤ ((wr.alloc _).heap.size); simp; omega
      intro v7 w7 ow gr loc
      --
      have F7 := Lib.hid (rst_app (w := wr) (W := (wr.alloc (.cells #[.int .i64 (zz (x - pa)), .int .i64 (zz (y - pb))] 3)).drew) (xs := [zz (x - pa), zz (y - pb)]) WS.out BW.out (by omega) RS.out.2 (((Below.refl _ _).alloc (Nat.le_refl _) _).drew) HM.out rfl gr ow)
      obtain ⟨a7, c7, hv7⟩ := row_form ow
      subst hv7
      refine hK.out _ _ ?_
      clear hK K ow gr loc c0 c1 o0 o1
      refine wpAny_one (i := 21) (by kernel_rfl) rfl (fun K hK => ?_)
      go_simp
      refine hK.out _ _ ?_
      clear hK K
      refine wpAny_done (by kernel_rfl) ?_ _
      have g0 : w7.cell? ⟨bb, off + k * 2, none⟩ = some (.int .i64 x) := by rw [F7.out.2.2.cell (by have := HBX.out; show bb < _; omega)]; exact OP.out.1
      have g1 : w7.cell? ⟨bb, off + k * 2 + 1, none⟩ = some (.int .i64 y) := by rw [F7.out.2.2.cell (by have := HBX.out; show bb < _; omega)]; exact OP.out.2
      have d0 := F7.out.1.row.cell (i := 0) rfl; have d1 := F7.out.1.row.cell (i := 1) rfl
      have fr0 := F7.out.1.row.fr (i := 0); have fr1 := F7.out.1.row.fr (i := 1)
      have RS7 : Hid (Row w7 (X + 1) 44 [.int .i64 0, .int .i64 0] ∧ X + 2 ≤ w7.heap.size) := ⟨RS.out.1.below F7.out.2.2 (by omega), by have := RS.out.2; have := F7.out.2.2.size; omega⟩
      go_wp2_with fail
      --
      go_roundw
      case measure => simp [intOf]; have := HK.out; omega
      case rel =>
        refine ⟨k1, by have := HK.out; omega, rfl, ?_, ?_, ?_⟩
        · show Rst _ _ _ _ _ _
          rw [LN.out, SN.out]; exact rst_at F7.out.1 x y
        · exact ⟨(RS7.out.1.other (by show X + 1 ≠ X; omega)).other (by show X + 1 ≠ X; omega), by have := RS7.out.2; simpa using this⟩
        · exact (F7.out.2.1.setCell (Nat.le_refl _) _).setCell (Nat.le_refl _) _
    · have kl : ¬ (k : Int) < (n : Int) := by omega
      have e : l.take k = l := List.take_of_length_le (by have := HN.out; omega)
      rw [e] at WS
      obtain ⟨⟨qa, qb⟩, hq⟩ : ∃ z, lastP l (p0, p1) = z := ⟨_, rfl⟩
      rw [hq] at WS
      have c0 := WS.out.row.cell (i := 0) rfl; have c1 := WS.out.row.cell (i := 1) rfl
      have d0 := RS.out.1.fr (i := 0); have d1 := RS.out.1.fr (i := 1)
      have z0 := RS.out.1.cell (i := 0) rfl; have z1 := RS.out.1.cell (i := 1) rfl
      obtain ⟨au, cu, hv⟩ := row_form WS.out.own
      subst hv
      have HQ := Lib.hid hq
      have OWN := Lib.hid (IntsAt.of_row WS.out.own)
      clear hq
      go_wp2_with fail
      refine wp_region_drop (fun W => W.cell? ⟨X, 0, none⟩ = some (.int .i64 qa) ∧ W.cell? ⟨X, 1, none⟩ = some (.int .i64 qb)) 3 (by kernel_rfl) ⟨c0, c1⟩ (fun hHeld => ?_)
      refine wpAnyD_pure (i := 0) (v := ?_) rfl (by kernel_rfl) (by kernel_rfl) (by kernel_rfl) (by rfl) (fun _ _ _ h => h) (Or.inl ⟨by rfl, ?_⟩) (by assumption) ?_
      rotate_left 1
      · (intro w; first | (go_simp; done) | (go_simp; with_reducible rfl))
      simp only [Act.put, List.getElem_toArray, List.getElem_cons_zero, List.setIfInBounds_toArray, List.set_cons_zero, List.set_cons_succ]
      refine wpAnyD_take (i := 1) (v := ?_) rfl (by kernel_rfl) (by kernel_rfl) (by kernel_rfl) (by kernel_rfl) (fun _ _ _ h => h) (Or.inl ⟨by rfl, ?_⟩) (by assumption) ?_
      rotate_left 1
      · (intro w hSw; (try dsimp only at hSw); first | (go_simp; done) | (go_simp; with_reducible rfl))
      simp only [Act.put, List.getElem_toArray, List.getElem_cons_zero, List.getElem_cons_succ, List.setIfInBounds_toArray, List.set_cons_zero, List.set_cons_succ]
      refine wpAnyD_pure (i := 2) (v := ?_) rfl (by kernel_rfl) (by kernel_rfl) (by kernel_rfl) (by rfl) (fun _ _ _ h => h) (Or.inl ⟨by rfl, ?_⟩) (by assumption) ?_
      rotate_left 1
      · (intro w; first | (go_simp; done) | (go_simp; with_reducible rfl))
      simp only [Act.put, List.getElem_toArray, List.getElem_cons_zero, List.getElem_cons_succ, List.setIfInBounds_toArray, List.set_cons_zero, List.set_cons_succ]
      clear hHeld
      refine wpAnyD_drop (by kernel_rfl) rfl (fun K hK => ?_)
      go_simp
      refine hK.out _ _ ?_
      clear hK K
      refine wpAny_done (by kernel_rfl) ?_ _
      --
      obtain ⟨W9, hW9⟩ : ∃ W9, (wr.setCell ⟨X + 1, 0, none⟩ (.int .i64 qa)).setCell ⟨X + 1, 1, none⟩ (.int .i64 qb) = W9 := ⟨_, rfl⟩
      have r9 : Row W9 (X + 1) 44 [.int .i64 qa, .int .i64 qb] := by rw [← hW9]; exact (RS.out.1.set (i := 0) _).set (i := 1) _
      have g0 := r9.cell (i := 0) rfl; have g1 := r9.cell (i := 1) rfl
      have FIN : Hid (Below X w W9.drew) := by show Below _ _ _; rw [← hW9]; exact ((BW.out.setCell (by show X ≤ X + 1; omega) _).setCell (by show X ≤ X + 1; omega) _).drew
      have ONE : Hid (IOwn W9.drew X (.slice au (stp l (p0, p1)).length cu) (stp l (p0, p1))) := by
        refine own_mono (base := X + 2) (IOwn.keep ?_ (Below.drew (Below.refl _ W9))) (by omega)
        rw [← hW9]
        exact (WS.out.own.same (fun g hg => by have := (WS.out.own.lt g hg).1; rw [Below.heap_setCell _ _ _ _ (by show g ≠ X + 1; omega), Below.heap_setCell _ _ _ _ (by show g ≠ X + 1; omega)]))
      rw [hW9]
      clear hW9
      go_wp2_with fail
      --
      refine bodyPost_ret (by simp [results, Tryd.results19, go_sem, g0, g1]; rfl) rfl ?_
      refine ⟨.slice au (stp l (p0, p1)).length cu, by rw [HQ.out], (by first | exact ONE.out | (rw [HX.out]; exact ONE.out)), ?_⟩
      first | exact FIN.out | (rw [HX.out]; exact FIN.out)
end Go.Proofs.YthlbenldgnjgcaaDoor
