/- device: DevicePlays, at most 16 blocks (below 1: both are nil). -/
import Derived.Test.YtgadplgjpemdaaaVt
set_option linter.unusedSimpArgs false
namespace Go.Proofs.Ytgadplgjpemdaaa
open Go.ChangeShapes Go.WideShapes Go.ChangeAt Go.RowKit Go.Joins Go.Deep

set_option maxRecDepth 100000 in
set_option maxHeartbeats 8000000 in
theorem plays_main (w : World) (x : Int) (m cap : Nat) (a : Option Addr) (g : Nat → OpZ) (h : OpsAt w (.slice a m cap) m g) (hn : x ≤ 16) (hm : m ≤ 40) :
    Calls Try.prog 3 #[.int .i64 x, .slice a m cap] w fun e w' => e = .returned (.bool true) ∧ Below w.heap.size w w' := by
  have HO := Lib.hid h
  have HG : Hid (∀ j, j < m → 0 ≤ (g j).kind ∧ (g j).kind ≤ 255 ∧ (-9223372036854775808 ≤ (g j).i ∧ (g j).i ≤ 9223372036854775807) ∧ (g j).s.size ≤ maxLen) := by
    obtain ⟨_, _, _, _, hg, _⟩ := h; exact hg
  have HN := Lib.hid hn; have HM := Lib.hid hm
  have n1 : decide ((16 : Int) < x) = false := by simp; omega
  have n3 : ¬ (16 : Int) < x := by omega
  have m1 : decide ((40 : Int) < (m : Int)) = false := by simp; omega
  have m2 : decide (40 < m) = false := by simp; omega
  have m3 : ¬ (40 : Int) < (m : Int) := by omega
  clear h hn hm
  go_enter Try.func3, Try.ntmps3
  go_wp2_with fail
  clear n1 n3 m1 m2 m3
  go_loopw [5] (fun s5 wr => ∃ j : Nat, j ≤ m ∧ s5 = .int .i64 (j : Int) ∧ Hid (Below w.heap.size w wr)) (fun s5 _ => m - (intOf s5).toNat)
  case atStart => exact ⟨0, Nat.zero_le _, rfl, Below.refl _ _⟩
  case round =>
    obtain ⟨j, hj, rfl, BW⟩ := hrel
    by_cases hlt : j < m
    · obtain ⟨b, off, rfl, hbl, _, _, hc2⟩ := ops_at HO.out hlt
      obtain ⟨s, hs⟩ : ∃ s, (g j).s = s := ⟨_, rfl⟩
      rw [hs] at hc2
      obtain ⟨j1, hj1⟩ : ∃ j1, j + 1 = j1 := ⟨_, rfl⟩
      have HJ := Lib.hid hj1; have HJT := Lib.hid hlt
      have j0 : (0 : Int) ≤ (j : Int) := by omega
      have jl : (j : Int) < (m : Int) := by omega
      have f1 : (j : Int) + 1 = (j1 : Int) := by omega
      have f2 : IntKind.i64.wrap (j1 : Int) = (j1 : Int) := by rw [IntKind.wrap_i64]; have := HM.out; omega
      have c2 : wr.cell? ⟨b, off + j * 3 + 2, none⟩ = some (.string s) := by rw [BW.out.cell (by exact hbl)]; exact hc2
      clear hs hc2 hj1 hbl hj hlt
      by_cases h400 : 400 < s.size
      · have q1 : decide ((400 : Int) < (s.size : Int)) = true := by simp; omega
        have q2 : decide (400 < s.size) = true := by simpa using h400
        have q3 : (400 : Int) < (s.size : Int) := by omega
        clear h400
        go_wp2_with fail
        refine (lives_any _).mono ?_; rintro e w3 ⟨rfl, b⟩
        have BB := Lib.hid (BW.out.trans (b.mono BW.out.size))
        clear b
        go_wp2_with fail
        go_ret
        exact ⟨rfl, BB.out⟩
      · have q1 : decide ((400 : Int) < (s.size : Int)) = false := by simp; omega
        have q2 : decide (400 < s.size) = false := by simpa using h400
        have q3 : ¬ (400 : Int) < (s.size : Int) := by omega
        clear h400
        go_wp2_with fail
        go_roundw
        case measure => simp [intOf]; have := HJ.out; have := HJT.out; omega
        case rel => exact ⟨j1, by have := HJ.out; have := HJT.out; omega, rfl, BW⟩
    have jl : ¬ (j : Int) < (m : Int) := by omega
    clear hlt hj
    have NN := Lib.hid (start w wr x HN.out BW.out)
    go_wp2_with fail
    refine NN.out.mono ?_; rintro e w1 ⟨pp, rfl, hd⟩
    have ND := Lib.hid hd
    clear NN hd
    go_wp2_with fail
    refine ND.out.mono ?_; rintro e w2 ⟨v, rfl, pg⟩
    obtain ⟨nl, aB, aF, aA, aP, nB, nF, nA, nP, kB, kF, kA, kP, l, hv⟩ := pg.form
    subst hv
    obtain ⟨mb, hmb⟩ : ∃ mb, w2.heap.size = mb := ⟨_, rfl⟩
    obtain ⟨W3, hW3⟩ : ∃ W3, w2.alloc (.cells #[.bool false, .slice none 0 0, .slice none 0 0, .slice none 0 0, .slice none 0 0, .int .i64 0] 31) = W3 := ⟨_, rfl⟩
    have r3 : Row W3 mb 31 zcs := by rw [← hW3, ← hmb]; exact Row.new _ _ _
    have MB : Hid (w.heap.size ≤ mb) := by have h1 := pg.bel.size; show w.heap.size ≤ mb; omega
    have px3 : PG w W3 pp (fun b => b = mb) 0 (rv nl (.slice aB nB kB) (.slice aF nF kF) (.slice aA nA kA) (.slice aP nP kP) l) := (pg.more (by rw [← hW3]; exact below_al _ _)).sub (fun c hc => Or.inr (by rw [hc]; exact ⟨Nat.le_of_eq hmb, r3.lt⟩))
    obtain ⟨W4, hW4, r4, px4, o4, s4⟩ := px3.put (mb := mb) rfl MB.out r3
    have P4 : Hid (PMG w W4 pp mb 0) := ⟨nl, aB, aF, aA, aP, nB, nF, nA, nP, kB, kF, kA, kP, l, px4, r4⟩
    have c0 := r3.cell (i := 0) rfl; have c1 := r3.cell (i := 1) rfl; have c2 := r3.cell (i := 2) rfl; have c3 := r3.cell (i := 3) rfl; have c4 := r3.cell (i := 4) rfl; have c5 := r3.cell (i := 5) rfl
    have cf0 := r3.fr (i := 0); have cf1 := r3.fr (i := 1); have cf2 := r3.fr (i := 2); have cf3 := r3.fr (i := 3); have cf4 := r3.fr (i := 4); have cf5 := r3.fr (i := 5)
    clear pg r3 px3 r4 px4 o4 s4 jl ND
    go_wp2_with fail
    go_loopw [6, 8] (fun s6 s8 wr => ∃ (j : Nat) (pp : Option Addr), j ≤ m ∧ s8 = .int .i64 (j : Int) ∧ s6 = .pointer pp ∧ Hid (PMG w wr pp mb j)) (fun _ s8 _ => m - (intOf s8).toNat)
    case atStart => exact ⟨0, pp, Nat.zero_le _, rfl, rfl, P4.out⟩
    case round =>
      clear P4
      obtain ⟨j, pp, hj, rfl, rfl, PP⟩ := hrel
      obtain ⟨nl, aB, aF, aA, aP, nB, nF, nA, nP, kB, kF, kA, kP, l, px, rr⟩ := PP.out
      have PX0 := Lib.hid px; have R0 := Lib.hid rr
      have z0 := rr.cell (i := 0) rfl
      have z1 := rr.cell (i := 1) rfl
      have z2 := rr.cell (i := 2) rfl
      have z3 := rr.cell (i := 3) rfl
      have z4 := rr.cell (i := 4) rfl
      have z5 := rr.cell (i := 5) rfl
      clear px rr PP
      by_cases hlt : j < m
      · obtain ⟨b, off, rfl, hbl, hc0, hc1, hc2⟩ := ops_at HO.out hlt
        have hgj := HG.out j hlt
        obtain ⟨⟨kd, x, s⟩, hz⟩ : ∃ z, g j = z := ⟨_, rfl⟩
        rw [hz] at hc0 hc1 hc2 hgj
        dsimp only at hc0 hc1 hc2 hgj
        obtain ⟨j1, hj1⟩ : ∃ j1, j + 1 = j1 := ⟨_, rfl⟩
        have HJ := Lib.hid hj1; have HJT := Lib.hid hlt
        have XB := Lib.hid hgj.2.2.1
        have j0 : (0 : Int) ≤ (j : Int) := by omega
        have jl : (j : Int) < (m : Int) := by omega
        have f1 : (j : Int) + 1 = (j1 : Int) := by omega
        have f2 : IntKind.i64.wrap (j1 : Int) = (j1 : Int) := by rw [IntKind.wrap_i64]; have := HM.out; omega
        have HBL := Lib.hid hbl
        have HC0 := Lib.hid hc0; have HC1 := Lib.hid hc1; have HC2 := Lib.hid hc2
        clear hc0 hc1 hc2 hz hj1 hbl hj hlt hgj
        go_wp2_with fail
        refine (PX0.out.same).mono ?_; rintro e w3 ⟨rfl, b3⟩
        have PX3 := Lib.hid (PX0.out.keep b3); have R3 := Lib.hid (R0.out.below b3 R0.out.lt)
        have c0 : w3.cell? ⟨b, off + j * 3, none⟩ = some (.int .u8 kd) := by rw [PX3.out.bel.cell (by exact HBL.out)]; exact HC0.out
        have c1 : w3.cell? ⟨b, off + j * 3 + 1, none⟩ = some (.int .i64 x) := by rw [PX3.out.bel.cell (by exact HBL.out)]; exact HC1.out
        have c2 : w3.cell? ⟨b, off + j * 3 + 2, none⟩ = some (.string s) := by rw [PX3.out.bel.cell (by exact HBL.out)]; exact HC2.out
        have C1 := Lib.hid c1; have C2 := Lib.hid c2
        have J100 : Hid (j ≤ 100) := by have h1 := HJT.out; have h2 := HM.out; show j ≤ 100; omega
        have LTX : Hid (∀ c, (c = mb ∨ c < w.heap.size) → c < w3.heap.size) := fun c hc => by
          have h1 := R3.out.lt; have h2 := PX3.out.bel.size
          rcases hc with hc | hc
          · rw [hc]; exact h1
          · omega
        clear b3 z0 z1 z2 z3 z4 z5
        have z0 := R3.out.cell (i := 0) rfl
        have z1 := R3.out.cell (i := 1) rfl
        have z2 := R3.out.cell (i := 2) rfl
        have z3 := R3.out.cell (i := 3) rfl
        have z4 := R3.out.cell (i := 4) rfl
        have z5 := R3.out.cell (i := 5) rfl
        by_cases k0 : kd = 0
        · subst k0
          have hw := (PX3.out.keep (Below.refl _ _).drew).write x s J100.out
          obtain ⟨cw, wx⟩ := hw
          have WX3 := Lib.hid wx
          unfold WG at WX3
          clear wx z0 z1 z2 z3 z4 z5
          go_wp2_with fail
          refine wp_region_drop (fun W => W.cell? ⟨b, off + j * 3 + 1, none⟩ = some (.int .i64 x) ∧ W.cell? ⟨b, off + j * 3 + 2, none⟩ = some (.string s)) 11 (by kernel_rfl) ⟨c1, c2⟩ (fun hHeld => ?_)
          refine wpAnyD_pure (i := 0) (v := ?_) rfl (by kernel_rfl) (by kernel_rfl) (by kernel_rfl) (by rfl) (fun _ _ _ h => h) (Or.inl ⟨by rfl, ?_⟩) (by assumption) ?_
          rotate_left 1
          · (intro w; first | (go_simp; done) | (go_simp; with_reducible rfl))
          simp only [Act.put, List.getElem_toArray, List.getElem_cons_zero, List.setIfInBounds_toArray, List.set_cons_zero, List.set_cons_succ]
          refine wpAnyD_pure (i := 1) (v := ?_) rfl (by kernel_rfl) (by kernel_rfl) (by kernel_rfl) (by rfl) (fun _ _ _ h => h) (Or.inl ⟨by rfl, ?_⟩) (by assumption) ?_
          rotate_left 1
          · (intro w; first | (go_simp; done) | (go_simp; with_reducible rfl))
          simp only [Act.put, List.getElem_toArray, List.getElem_cons_zero, List.getElem_cons_succ, List.setIfInBounds_toArray, List.set_cons_zero, List.set_cons_succ]
          refine wpAnyD_pure (i := 2) (v := ?_) rfl (by kernel_rfl) (by kernel_rfl) (by kernel_rfl) (by rfl) (fun _ _ _ h => h) (Or.inl ⟨by rfl, ?_⟩) (by assumption) ?_
          rotate_left 1
          · (intro w; first | (go_simp; done) | (go_simp; with_reducible rfl))
          simp only [Act.put, List.getElem_toArray, List.getElem_cons_zero, List.getElem_cons_succ, List.setIfInBounds_toArray, List.set_cons_zero, List.set_cons_succ]
          refine wpAnyD_pure (i := 3) (v := ?_) rfl (by kernel_rfl) (by kernel_rfl) (by kernel_rfl) (by rfl) (fun _ _ _ h => h) (Or.inl ⟨by rfl, ?_⟩) (by assumption) ?_
          rotate_left 1
          · (intro w; first | (go_simp; done) | (go_simp; with_reducible rfl))
          simp only [Act.put, List.getElem_toArray, List.getElem_cons_zero, List.getElem_cons_succ, List.setIfInBounds_toArray, List.set_cons_zero, List.set_cons_succ]
          refine wpAnyD_pure (i := 4) (v := ?_) rfl (by kernel_rfl) (by kernel_rfl) (by kernel_rfl) (by rfl) (fun _ _ _ h => h) (Or.inl ⟨by rfl, ?_⟩) (by assumption) ?_
          rotate_left 1
          · (intro w; first | (go_simp; done) | (go_simp; with_reducible rfl))
          simp only [Act.put, List.getElem_toArray, List.getElem_cons_zero, List.getElem_cons_succ, List.setIfInBounds_toArray, List.set_cons_zero, List.set_cons_succ]
          refine wpAnyD_take (i := 5) (v := ?_) rfl (by kernel_rfl) (by kernel_rfl) (by kernel_rfl) (by kernel_rfl) (fun _ _ _ h => h) (Or.inl ⟨by rfl, ?_⟩) (by assumption) ?_
          rotate_left 1
          · (intro w hSw; (try dsimp only at hSw); first | (go_simp; done) | (go_simp; with_reducible rfl))
          simp only [Act.put, List.getElem_toArray, List.getElem_cons_zero, List.getElem_cons_succ, List.setIfInBounds_toArray, List.set_cons_zero, List.set_cons_succ]
          refine wpAnyD_pure (i := 6) (v := ?_) rfl (by kernel_rfl) (by kernel_rfl) (by kernel_rfl) (by rfl) (fun _ _ _ h => h) (Or.inl ⟨by rfl, ?_⟩) (by assumption) ?_
          rotate_left 1
          · (intro w; first | (go_simp; done) | (go_simp; with_reducible rfl))
          simp only [Act.put, List.getElem_toArray, List.getElem_cons_zero, List.getElem_cons_succ, List.setIfInBounds_toArray, List.set_cons_zero, List.set_cons_succ]
          refine wpAnyD_pure (i := 7) (v := ?_) rfl (by kernel_rfl) (by kernel_rfl) (by kernel_rfl) (by rfl) (fun _ _ _ h => h) (Or.inl ⟨by rfl, ?_⟩) (by assumption) ?_
          rotate_left 1
          · (intro w; first | (go_simp; done) | (go_simp; with_reducible rfl))
          simp only [Act.put, List.getElem_toArray, List.getElem_cons_zero, List.getElem_cons_succ, List.setIfInBounds_toArray, List.set_cons_zero, List.set_cons_succ]
          refine wpAnyD_pure (i := 8) (v := ?_) rfl (by kernel_rfl) (by kernel_rfl) (by kernel_rfl) (by rfl) (fun _ _ _ h => h) (Or.inl ⟨by rfl, ?_⟩) (by assumption) ?_
          rotate_left 1
          · (intro w; first | (go_simp; done) | (go_simp; with_reducible rfl))
          simp only [Act.put, List.getElem_toArray, List.getElem_cons_zero, List.getElem_cons_succ, List.setIfInBounds_toArray, List.set_cons_zero, List.set_cons_succ]
          refine wpAnyD_pure (i := 9) (v := ?_) rfl (by kernel_rfl) (by kernel_rfl) (by kernel_rfl) (by rfl) (fun _ _ _ h => h) (Or.inl ⟨by rfl, ?_⟩) (by assumption) ?_
          rotate_left 1
          · (intro w; first | (go_simp; done) | (go_simp; with_reducible rfl))
          simp only [Act.put, List.getElem_toArray, List.getElem_cons_zero, List.getElem_cons_succ, List.setIfInBounds_toArray, List.set_cons_zero, List.set_cons_succ]
          refine wpAnyD_take (i := 10) (v := ?_) rfl (by kernel_rfl) (by kernel_rfl) (by kernel_rfl) (by kernel_rfl) (fun _ _ _ h => h) (Or.inl ⟨by rfl, ?_⟩) (by assumption) ?_
          rotate_left 1
          · (intro w hSw; (try dsimp only at hSw); first | (go_simp; done) | (go_simp; with_reducible rfl))
          simp only [Act.put, List.getElem_toArray, List.getElem_cons_zero, List.getElem_cons_succ, List.setIfInBounds_toArray, List.set_cons_zero, List.set_cons_succ]
          refine wpAnyD_drop (by kernel_rfl) rfl (fun KK hK => ?_)
          go_simp
          go_wp2_with (go_at_call 11; (with_reducible refine (WX3.out).mono ?_); rintro en w5 ⟨rfl, b5, s5, fr5, rw5⟩)
          have B5 := Lib.hid b5; unfold RWG at rw5; have RL := Lib.hid rw5; have S5 := Lib.hid s5
          have R5 := Lib.hid (R3.out.same (W := w5) (fr5 mb rfl))
          have L5 : Hid (∀ c, (c = mb ∨ c < w.heap.size) → c < w5.heap.size) := fun c hc => Nat.lt_of_lt_of_le (LTX.out c hc) S5.out
          have C1 : Hid (w5.cell? ⟨b, off + j * 3 + 1, none⟩ = some (.int .i64 x)) := by show _ = _; rw [B5.out.cell (by exact HBL.out)]; exact HC1.out
          have C2 : Hid (w5.cell? ⟨b, off + j * 3 + 2, none⟩ = some (.string s)) := by show _ = _; rw [B5.out.cell (by exact HBL.out)]; exact HC2.out
          refine hK.out _ _ ?_
          clear hK KK hHeld b5 rw5 s5 fr5 c1 c2
          refine wpAny_one (i := 12) (by kernel_rfl) rfl (fun K hK => ?_)
          go_simp
          refine hK.out _ _ ?_
          clear hK K
          refine wpAny_done (by kernel_rfl) ?_ _
          go_wp2_with fail
          have SOF : Hid (∀ W : World, (∀ c, (c = mb ∨ c < w.heap.size) → W.heap[c]? = w5.heap[c]?) → W.cell? ⟨b, off + j * 3 + 1, none⟩ = some (.int .i64 x) ∧ W.cell? ⟨b, off + j * 3 + 2, none⟩ = some (.string s) ∧ W.cell? ⟨mb, 0, none⟩ = some (.bool nl) ∧ W.cell? ⟨mb, 1, none⟩ = some (.slice aB nB kB) ∧ W.cell? ⟨mb, 2, none⟩ = some (.slice aF nF kF) ∧ W.cell? ⟨mb, 3, none⟩ = some (.slice aA nA kA) ∧ W.cell? ⟨mb, 4, none⟩ = some (.slice aP nP kP) ∧ W.cell? ⟨mb, 5, none⟩ = some (.int .i64 l)) := fun W hW => by
            have r := R5.out.same (hW mb (Or.inl rfl))
            refine ⟨?_, ?_, r.cell (i := 0) rfl, r.cell (i := 1) rfl, r.cell (i := 2) rfl, r.cell (i := 3) rfl, r.cell (i := 4) rfl, r.cell (i := 5) rfl⟩
            · rw [World.cell?_of_block (w := w5) (hW b (Or.inr HBL.out))]; exact C1.out
            · rw [World.cell?_of_block (w := w5) (hW b (Or.inr HBL.out))]; exact C2.out
          refine wp_region_held_drew (S := fun W => W.cell? ⟨b, off + j * 3 + 1, none⟩ = some (.int .i64 x) ∧ W.cell? ⟨b, off + j * 3 + 2, none⟩ = some (.string s) ∧ W.cell? ⟨mb, 0, none⟩ = some (.bool nl) ∧ W.cell? ⟨mb, 1, none⟩ = some (.slice aB nB kB) ∧ W.cell? ⟨mb, 2, none⟩ = some (.slice aF nF kF) ∧ W.cell? ⟨mb, 3, none⟩ = some (.slice aA nA kA) ∧ W.cell? ⟨mb, 4, none⟩ = some (.slice aP nP kP) ∧ W.cell? ⟨mb, 5, none⟩ = some (.int .i64 l)) (by kernel_rfl) (SOF.out _ (fun c _ => rfl)) (fun hHeld => ?_)
          refine wpAnyH_take (i := 0) (v := ?_) rfl (by kernel_rfl) (by kernel_rfl) (by kernel_rfl) (fun _ _ _ h => h) (Or.inl ⟨by rfl, ?_⟩) (by assumption) ?_
          rotate_left 1
          · (intro w hSw; (try dsimp only at hSw); first | (go_simp; done) | (go_simp; with_reducible rfl))
          simp only [Act.put, List.getElem_toArray, List.getElem_cons_zero, List.setIfInBounds_toArray, List.set_cons_zero, List.set_cons_succ]
          refine wpAnyH_take (i := 1) (v := ?_) rfl (by kernel_rfl) (by kernel_rfl) (by kernel_rfl) (fun _ _ _ h => h) (Or.inl ⟨by rfl, ?_⟩) (by assumption) ?_
          rotate_left 1
          · (intro w hSw; (try dsimp only at hSw); first | (go_simp; done) | (go_simp; with_reducible rfl))
          simp only [Act.put, List.getElem_toArray, List.getElem_cons_zero, List.getElem_cons_succ, List.setIfInBounds_toArray, List.set_cons_zero, List.set_cons_succ]
          refine wpAnyH_take (i := 2) (v := ?_) rfl (by kernel_rfl) (by kernel_rfl) (by kernel_rfl) (fun _ _ _ h => h) (Or.inl ⟨by rfl, ?_⟩) (by assumption) ?_
          rotate_left 1
          · (intro w hSw; (try dsimp only at hSw); first | (go_simp; done) | (go_simp; with_reducible rfl))
          simp only [Act.put, List.getElem_toArray, List.getElem_cons_zero, List.getElem_cons_succ, List.setIfInBounds_toArray, List.set_cons_zero, List.set_cons_succ]
          refine wpAnyH_take (i := 3) (v := ?_) rfl (by kernel_rfl) (by kernel_rfl) (by kernel_rfl) (fun _ _ _ h => h) (Or.inl ⟨by rfl, ?_⟩) (by assumption) ?_
          rotate_left 1
          · (intro w hSw; (try dsimp only at hSw); first | (go_simp; done) | (go_simp; with_reducible rfl))
          simp only [Act.put, List.getElem_toArray, List.getElem_cons_zero, List.getElem_cons_succ, List.setIfInBounds_toArray, List.set_cons_zero, List.set_cons_succ]
          refine wpAnyH_take (i := 4) (v := ?_) rfl (by kernel_rfl) (by kernel_rfl) (by kernel_rfl) (fun _ _ _ h => h) (Or.inl ⟨by rfl, ?_⟩) (by assumption) ?_
          rotate_left 1
          · (intro w hSw; (try dsimp only at hSw); first | (go_simp; done) | (go_simp; with_reducible rfl))
          simp only [Act.put, List.getElem_toArray, List.getElem_cons_zero, List.getElem_cons_succ, List.setIfInBounds_toArray, List.set_cons_zero, List.set_cons_succ]
          refine wpAnyH_take (i := 5) (v := ?_) rfl (by kernel_rfl) (by kernel_rfl) (by kernel_rfl) (fun _ _ _ h => h) (Or.inl ⟨by rfl, ?_⟩) (by assumption) ?_
          rotate_left 1
          · (intro w hSw; (try dsimp only at hSw); first | (go_simp; done) | (go_simp; with_reducible rfl))
          simp only [Act.put, List.getElem_toArray, List.getElem_cons_zero, List.getElem_cons_succ, List.setIfInBounds_toArray, List.set_cons_zero, List.set_cons_succ]
          refine wpAnyH_take (i := 6) (v := ?_) rfl (by kernel_rfl) (by kernel_rfl) (by kernel_rfl) (fun _ _ _ h => h) (Or.inl ⟨by rfl, ?_⟩) (by assumption) ?_
          rotate_left 1
          · (intro w hSw; (try dsimp only at hSw); first | (go_simp; done) | (go_simp; with_reducible rfl))
          simp only [Act.put, List.getElem_toArray, List.getElem_cons_zero, List.getElem_cons_succ, List.setIfInBounds_toArray, List.set_cons_zero, List.set_cons_succ]
          refine wpAnyH_take (i := 7) (v := ?_) rfl (by kernel_rfl) (by kernel_rfl) (by kernel_rfl) (fun _ _ _ h => h) (Or.inl ⟨by rfl, ?_⟩) (by assumption) ?_
          rotate_left 1
          · (intro w hSw; (try dsimp only at hSw); first | (go_simp; done) | (go_simp; with_reducible rfl))
          simp only [Act.put, List.getElem_toArray, List.getElem_cons_zero, List.getElem_cons_succ, List.setIfInBounds_toArray, List.set_cons_zero, List.set_cons_succ]
          refine wpAnyH_take (i := 8) (v := ?_) rfl (by kernel_rfl) (by kernel_rfl) (by kernel_rfl) (fun _ _ _ h => h) (Or.inl ⟨by rfl, ?_⟩) (by assumption) ?_
          rotate_left 1
          · (intro w hSw; (try dsimp only at hSw); first | (go_simp; done) | (go_simp; with_reducible rfl))
          simp only [Act.put, List.getElem_toArray, List.getElem_cons_zero, List.getElem_cons_succ, List.setIfInBounds_toArray, List.set_cons_zero, List.set_cons_succ]
          refine wpAnyH_take (i := 9) (v := ?_) rfl (by kernel_rfl) (by kernel_rfl) (by kernel_rfl) (fun _ _ _ h => h) (Or.inl ⟨by rfl, ?_⟩) (by assumption) ?_
          rotate_left 1
          · (intro w hSw; (try dsimp only at hSw); first | (go_simp; done) | (go_simp; with_reducible rfl))
          simp only [Act.put, List.getElem_toArray, List.getElem_cons_zero, List.getElem_cons_succ, List.setIfInBounds_toArray, List.set_cons_zero, List.set_cons_succ]
          refine wpAnyH_take (i := 10) (v := ?_) rfl (by kernel_rfl) (by kernel_rfl) (by kernel_rfl) (fun _ _ _ h => h) (Or.inl ⟨by rfl, ?_⟩) (by assumption) ?_
          rotate_left 1
          · (intro w hSw; (try dsimp only at hSw); first | (go_simp; done) | (go_simp; with_reducible rfl))
          simp only [Act.put, List.getElem_toArray, List.getElem_cons_zero, List.getElem_cons_succ, List.setIfInBounds_toArray, List.set_cons_zero, List.set_cons_succ]
          refine wpAnyH_ready (rs := [11, 15]) (by kernel_rfl) (by simp) ?_
          refine AllReadyH.cons rfl (fun KK hK => ?_) (AllReadyH.cons rfl (fun KK hK => ?_) AllReadyH.nil)
          · have hS1 := Lib.hid hHeld
            go_simp
            go_wp2_with (go_at_call 12; (with_reducible refine (RL.out _ (Below.refl _ _).drew).mono ?_); rintro en w7 ⟨v7, rfl, px7, b7⟩)
            clear hS1
            obtain ⟨u7, p7, q7, a7, e7, f7, g7, h7, m7, k7, l7, i7, o7, t7, hv7⟩ := px7.form
            subst hv7
            have B7 := Lib.hid b7; have PX7 := Lib.hid px7
            have R7 := Lib.hid ((show Row w5.drew mb 31 _ from R5.out.same rfl).below b7 R5.out.lt)
            clear b7 px7
            refine hK.out _ _ (SOF.out _ (fun c hc => B7.out.block c (L5.out c hc))) (fun hHeld2 => ?_)
            clear hK KK hHeld; have hHeld := hHeld2; clear hHeld2
            refine wpAnyH_take (i := 12) (v := ?_) rfl (by kernel_rfl) (by kernel_rfl) (by kernel_rfl) (fun _ _ _ h => h) (Or.inl ⟨by rfl, ?_⟩) (by assumption) ?_
            rotate_left 1
            · (intro w hSw; (try dsimp only at hSw); first | (go_simp; done) | (go_simp; with_reducible rfl))
            simp only [Act.put, List.getElem_toArray, List.getElem_cons_zero, List.getElem_cons_succ, List.setIfInBounds_toArray, List.set_cons_zero, List.set_cons_succ]
            refine wpAnyH_take (i := 13) (v := ?_) rfl (by kernel_rfl) (by kernel_rfl) (by kernel_rfl) (fun _ _ _ h => h) (Or.inl ⟨by rfl, ?_⟩) (by assumption) ?_
            rotate_left 1
            · (intro w hSw; (try dsimp only at hSw); first | (go_simp; done) | (go_simp; with_reducible rfl))
            simp only [Act.put, List.getElem_toArray, List.getElem_cons_zero, List.getElem_cons_succ, List.setIfInBounds_toArray, List.set_cons_zero, List.set_cons_succ]
            refine wpAnyH_take (i := 14) (v := ?_) rfl (by kernel_rfl) (by kernel_rfl) (by kernel_rfl) (fun _ _ _ h => h) (Or.inl ⟨by rfl, ?_⟩) (by assumption) ?_
            rotate_left 1
            · (intro w hSw; (try dsimp only at hSw); first | (go_simp; done) | (go_simp; with_reducible rfl))
            simp only [Act.put, List.getElem_toArray, List.getElem_cons_zero, List.getElem_cons_succ, List.setIfInBounds_toArray, List.set_cons_zero, List.set_cons_succ]
            obtain ⟨nb, hnb⟩ : ∃ nb, w7.heap.size = nb := ⟨_, rfl⟩
            obtain ⟨w8, hw8⟩ : ∃ W, w7.alloc (.cells #[.bool false, .slice none 0 0, .slice none 0 0, .slice none 0 0, .slice none 0 0, .int .i64 0] 31) = W := ⟨_, rfl⟩
            have RN8 : Hid (Row w8 nb 31 zcs) := by show Row _ _ _ _; rw [← hw8, ← hnb]; exact Row.new _ _ _
            have b78 : Below w7.heap.size w7 w8 := by rw [← hw8]; exact below_al _ _
            have B78 := Lib.hid b78
            have PX8 := Lib.hid (PX7.out.more b78)
            have RM8 := Lib.hid (R7.out.below b78 R7.out.lt)
            have NB : Hid (((nb = mb ∨ (w5.heap.size ≤ nb ∧ nb < w5.drew.heap.size)) ∨ (w7.heap.size ≤ nb ∧ nb < w8.heap.size))) := Or.inr ⟨Nat.le_of_eq hnb, RN8.out.lt⟩
            have MBM : Hid (((mb = mb ∨ (w5.heap.size ≤ mb ∧ mb < w5.drew.heap.size)) ∨ (w7.heap.size ≤ mb ∧ mb < w8.heap.size))) := Or.inl (Or.inl rfl)
            have NBW : Hid (w.heap.size ≤ nb) := by have h1 := PX7.out.bel.size; show _ ≤ _; omega
            have NBX : Hid (∀ c, (c = mb ∨ c < w.heap.size) → c ≠ nb) := fun c hc => by have h1 := L5.out c hc; have h2 := B7.out.size; have h3 : w5.drew.heap.size = w5.heap.size := rfl; omega
            have E8 : Hid (∀ c, (c = mb ∨ c < w.heap.size) → w8.heap[c]? = w5.heap[c]?) := fun c hc => (B78.out.block c (by have h1 := L5.out c hc; have h2 := B7.out.size; have h3 : w5.drew.heap.size = w5.heap.size := rfl; omega)).trans (B7.out.block c (L5.out c hc))
            clear b78
            refine wpAnyH_ready (rs := [15]) (by kernel_rfl) (by simp) ?_
            refine AllReadyH.cons rfl (fun KK hK => ?_) (AllReadyH.nil)
            go_simp
            refine hK.out _ _ (SOF.out _ E8.out) (fun hHeld2 => ?_)
            clear hK KK hHeld; have hHeld := hHeld2; clear hHeld2
            obtain ⟨W9, hW9, r9, p9, o9, s9⟩ := PX8.out.put (mb := nb) NB.out NBW.out RN8.out
            have y0 := RN8.out.cell (i := 0) rfl
            have y1 := RN8.out.cell (i := 1) rfl
            have y2 := RN8.out.cell (i := 2) rfl
            have y3 := RN8.out.cell (i := 3) rfl
            have y4 := RN8.out.cell (i := 4) rfl
            have y5 := RN8.out.cell (i := 5) rfl
            have yf0 := RN8.out.fr (i := 0)
            have yf1 := RN8.out.fr (i := 1)
            have yf2 := RN8.out.fr (i := 2)
            have yf3 := RN8.out.fr (i := 3)
            have yf4 := RN8.out.fr (i := 4)
            have yf5 := RN8.out.fr (i := 5)
            refine wpAnyH_ready (rs := [16]) (by kernel_rfl) (by simp) ?_
            refine AllReadyH.cons rfl (fun KK hK => ?_) (AllReadyH.nil)
            go_simp
            have R9 := Lib.hid r9; have P9 := Lib.hid p9; have O9 := Lib.hid o9
            refine hK.out _ _ (SOF.out _ (fun c hc => (O9.out c (NBX.out c hc)).trans (E8.out c hc))) (fun hHeld2 => ?_)
            clear hK KK hHeld; have hHeld := hHeld2; clear hHeld2
            clear y0 yf0
            clear y1 yf1
            clear y2 yf2
            clear y3 yf3
            clear y4 yf4
            clear y5 yf5
            clear r9 p9 o9 s9
            refine wpAnyH_take (i := 17) (v := ?_) rfl (by kernel_rfl) (by kernel_rfl) (by kernel_rfl) (fun _ _ _ h => h) (Or.inl ⟨by rfl, ?_⟩) (by assumption) ?_
            rotate_left 1
            · (intro w hSw; (try dsimp only at hSw); first | (go_simp; done) | (go_simp; with_reducible rfl))
            simp only [Act.put, List.getElem_toArray, List.getElem_cons_zero, List.getElem_cons_succ, List.setIfInBounds_toArray, List.set_cons_zero, List.set_cons_succ]
            refine wpAnyH_done (by kernel_rfl) ?_ _
            clear hHeld
            have RM9 := Lib.hid (RM8.out.same (O9.out mb (NBX.out mb (Or.inl rfl))))
            obtain ⟨WS, hWS, rS, pS, oS, sS⟩ := P9.out.put (mb := mb) MBM.out MB.out RM9.out
            have y0 := RM9.out.cell (i := 0) rfl
            have y1 := RM9.out.cell (i := 1) rfl
            have y2 := RM9.out.cell (i := 2) rfl
            have y3 := RM9.out.cell (i := 3) rfl
            have y4 := RM9.out.cell (i := 4) rfl
            have y5 := RM9.out.cell (i := 5) rfl
            have yf0 := RM9.out.fr (i := 0)
            have yf1 := RM9.out.fr (i := 1)
            have yf2 := RM9.out.fr (i := 2)
            have yf3 := RM9.out.fr (i := 3)
            have yf4 := RM9.out.fr (i := 4)
            have yf5 := RM9.out.fr (i := 5)
            have x0 := R9.out.cell (i := 0) rfl
            have x1 := R9.out.cell (i := 1) rfl
            have x2 := R9.out.cell (i := 2) rfl
            have x3 := R9.out.cell (i := 3) rfl
            have x4 := R9.out.cell (i := 4) rfl
            have x5 := R9.out.cell (i := 5) rfl
            have PM9 : Hid (PMG w WS pp mb j1) := ⟨u7, p7, q7, a7, e7, f7, g7, h7, m7, k7, l7, i7, o7, t7, (by have h := pS.sub (M' := fun c => c = mb) (fun c hc => by rw [hc]; exact MBM.out); rw [HJ.out] at h; exact h), rS⟩
            clear rS pS oS sS
            go_wp2_with fail
            go_roundw
            case measure => simp [intOf]; have := HJ.out; have := HJT.out; omega
            case rel => exact ⟨j1, pp, by have := HJ.out; have := HJT.out; omega, rfl, rfl, PM9⟩
          · obtain ⟨nb, hnb⟩ : ∃ nb, w5.heap.size = nb := ⟨_, rfl⟩
            obtain ⟨w6, hw6⟩ : ∃ W, w5.drew.alloc (.cells #[.bool false, .slice none 0 0, .slice none 0 0, .slice none 0 0, .slice none 0 0, .int .i64 0] 31) = W := ⟨_, rfl⟩
            have RN6 : Hid (Row w6 nb 31 zcs) := by show Row _ _ _ _; rw [← hw6, ← hnb]; exact Row.new _ _ _
            have b56 : Below w5.heap.size w5 w6 := by rw [← hw6]; exact (Below.refl _ _).drew.alloc (Nat.le_refl _) _
            have B56 := Lib.hid b56
            have R6 := Lib.hid (R5.out.below b56 R5.out.lt)
            clear b56
            go_simp
            refine hK.out _ _ (SOF.out _ (fun c hc => B56.out.block c (L5.out c hc))) (fun hHeld2 => ?_)
            clear hK KK hHeld; have hHeld := hHeld2; clear hHeld2
            refine wpAnyH_ready (rs := [11]) (by kernel_rfl) (by simp) ?_
            refine AllReadyH.cons rfl (fun KK hK => ?_) (AllReadyH.nil)
            have hS1 := Lib.hid hHeld
            go_simp
            go_wp2_with (go_at_call 12; (with_reducible refine (RL.out _ B56.out).mono ?_); rintro en w8 ⟨v7, rfl, px7, b7⟩)
            clear hS1
            obtain ⟨u7, p7, q7, a7, e7, f7, g7, h7, m7, k7, l7, i7, o7, t7, hv7⟩ := px7.form
            subst hv7
            have B7 := Lib.hid b7; have PX8 := Lib.hid px7
            have RM8 := Lib.hid (R6.out.below b7 R6.out.lt); have RN8 := Lib.hid (RN6.out.below b7 RN6.out.lt)
            clear b7 px7
            have NB : Hid (nb = mb ∨ (w5.heap.size ≤ nb ∧ nb < w6.heap.size)) := Or.inr ⟨Nat.le_of_eq hnb, RN6.out.lt⟩
            have MBM : Hid (mb = mb ∨ (w5.heap.size ≤ mb ∧ mb < w6.heap.size)) := Or.inl rfl
            have NBW : Hid (w.heap.size ≤ nb) := by have h1 := B5.out.size; show _ ≤ _; omega
            have NBX : Hid (∀ c, (c = mb ∨ c < w.heap.size) → c ≠ nb) := fun c hc => by have h1 := L5.out c hc; omega
            have E8 : Hid (∀ c, (c = mb ∨ c < w.heap.size) → w8.heap[c]? = w5.heap[c]?) := fun c hc => (B7.out.block c (by have h1 := L5.out c hc; have h2 := B56.out.size; omega)).trans (B56.out.block c (L5.out c hc))
            refine hK.out _ _ (SOF.out _ E8.out) (fun hHeld2 => ?_)
            clear hK KK hHeld; have hHeld := hHeld2; clear hHeld2
            refine wpAnyH_take (i := 12) (v := ?_) rfl (by kernel_rfl) (by kernel_rfl) (by kernel_rfl) (fun _ _ _ h => h) (Or.inl ⟨by rfl, ?_⟩) (by assumption) ?_
            rotate_left 1
            · (intro w hSw; (try dsimp only at hSw); first | (go_simp; done) | (go_simp; with_reducible rfl))
            simp only [Act.put, List.getElem_toArray, List.getElem_cons_zero, List.getElem_cons_succ, List.setIfInBounds_toArray, List.set_cons_zero, List.set_cons_succ]
            refine wpAnyH_take (i := 13) (v := ?_) rfl (by kernel_rfl) (by kernel_rfl) (by kernel_rfl) (fun _ _ _ h => h) (Or.inl ⟨by rfl, ?_⟩) (by assumption) ?_
            rotate_left 1
            · (intro w hSw; (try dsimp only at hSw); first | (go_simp; done) | (go_simp; with_reducible rfl))
            simp only [Act.put, List.getElem_toArray, List.getElem_cons_zero, List.getElem_cons_succ, List.setIfInBounds_toArray, List.set_cons_zero, List.set_cons_succ]
            refine wpAnyH_take (i := 14) (v := ?_) rfl (by kernel_rfl) (by kernel_rfl) (by kernel_rfl) (fun _ _ _ h => h) (Or.inl ⟨by rfl, ?_⟩) (by assumption) ?_
            rotate_left 1
            · (intro w hSw; (try dsimp only at hSw); first | (go_simp; done) | (go_simp; with_reducible rfl))
            simp only [Act.put, List.getElem_toArray, List.getElem_cons_zero, List.getElem_cons_succ, List.setIfInBounds_toArray, List.set_cons_zero, List.set_cons_succ]
            obtain ⟨W9, hW9, r9, p9, o9, s9⟩ := PX8.out.put (mb := nb) NB.out NBW.out RN8.out
            have y0 := RN8.out.cell (i := 0) rfl
            have y1 := RN8.out.cell (i := 1) rfl
            have y2 := RN8.out.cell (i := 2) rfl
            have y3 := RN8.out.cell (i := 3) rfl
            have y4 := RN8.out.cell (i := 4) rfl
            have y5 := RN8.out.cell (i := 5) rfl
            have yf0 := RN8.out.fr (i := 0)
            have yf1 := RN8.out.fr (i := 1)
            have yf2 := RN8.out.fr (i := 2)
            have yf3 := RN8.out.fr (i := 3)
            have yf4 := RN8.out.fr (i := 4)
            have yf5 := RN8.out.fr (i := 5)
            refine wpAnyH_ready (rs := [16]) (by kernel_rfl) (by simp) ?_
            refine AllReadyH.cons rfl (fun KK hK => ?_) (AllReadyH.nil)
            go_simp
            have R9 := Lib.hid r9; have P9 := Lib.hid p9; have O9 := Lib.hid o9
            refine hK.out _ _ (SOF.out _ (fun c hc => (O9.out c (NBX.out c hc)).trans (E8.out c hc))) (fun hHeld2 => ?_)
            clear hK KK hHeld; have hHeld := hHeld2; clear hHeld2
            clear y0 yf0
            clear y1 yf1
            clear y2 yf2
            clear y3 yf3
            clear y4 yf4
            clear y5 yf5
            clear r9 p9 o9 s9
            refine wpAnyH_take (i := 17) (v := ?_) rfl (by kernel_rfl) (by kernel_rfl) (by kernel_rfl) (fun _ _ _ h => h) (Or.inl ⟨by rfl, ?_⟩) (by assumption) ?_
            rotate_left 1
            · (intro w hSw; (try dsimp only at hSw); first | (go_simp; done) | (go_simp; with_reducible rfl))
            simp only [Act.put, List.getElem_toArray, List.getElem_cons_zero, List.getElem_cons_succ, List.setIfInBounds_toArray, List.set_cons_zero, List.set_cons_succ]
            refine wpAnyH_done (by kernel_rfl) ?_ _
            clear hHeld
            have RM9 := Lib.hid (RM8.out.same (O9.out mb (NBX.out mb (Or.inl rfl))))
            obtain ⟨WS, hWS, rS, pS, oS, sS⟩ := P9.out.put (mb := mb) MBM.out MB.out RM9.out
            have y0 := RM9.out.cell (i := 0) rfl
            have y1 := RM9.out.cell (i := 1) rfl
            have y2 := RM9.out.cell (i := 2) rfl
            have y3 := RM9.out.cell (i := 3) rfl
            have y4 := RM9.out.cell (i := 4) rfl
            have y5 := RM9.out.cell (i := 5) rfl
            have yf0 := RM9.out.fr (i := 0)
            have yf1 := RM9.out.fr (i := 1)
            have yf2 := RM9.out.fr (i := 2)
            have yf3 := RM9.out.fr (i := 3)
            have yf4 := RM9.out.fr (i := 4)
            have yf5 := RM9.out.fr (i := 5)
            have x0 := R9.out.cell (i := 0) rfl
            have x1 := R9.out.cell (i := 1) rfl
            have x2 := R9.out.cell (i := 2) rfl
            have x3 := R9.out.cell (i := 3) rfl
            have x4 := R9.out.cell (i := 4) rfl
            have x5 := R9.out.cell (i := 5) rfl
            have PM9 : Hid (PMG w WS pp mb j1) := ⟨u7, p7, q7, a7, e7, f7, g7, h7, m7, k7, l7, i7, o7, t7, (by have h := pS.sub (M' := fun c => c = mb) (fun c hc => by rw [hc]; exact MBM.out); rw [HJ.out] at h; exact h), rS⟩
            clear rS pS oS sS
            go_wp2_with fail
            go_roundw
            case measure => simp [intOf]; have := HJ.out; have := HJT.out; omega
            case rel => exact ⟨j1, pp, by have := HJ.out; have := HJT.out; omega, rfl, rfl, PM9⟩
        by_cases k1 : kd = 1
        · subst k1
          have hh := PX3.out.read x
          obtain ⟨sr, cr, ra, rb⟩ := hh
          have RA := Lib.hid ra; have RB := Lib.hid rb
          clear ra rb
          go_wp2_with fail
          refine RA.out.mono ?_; rintro e w5 ⟨rfl, hw⟩
          cases hw
          go_wp2_with fail
          have SOF : Hid (∀ W : World, (∀ c, (c = mb ∨ c < w.heap.size) → W.heap[c]? = w3.heap[c]?) → W.cell? ⟨b, off + j * 3 + 1, none⟩ = some (.int .i64 x) ∧ W.cell? ⟨b, off + j * 3 + 2, none⟩ = some (.string s) ∧ W.cell? ⟨mb, 0, none⟩ = some (.bool nl) ∧ W.cell? ⟨mb, 1, none⟩ = some (.slice aB nB kB) ∧ W.cell? ⟨mb, 2, none⟩ = some (.slice aF nF kF) ∧ W.cell? ⟨mb, 3, none⟩ = some (.slice aA nA kA) ∧ W.cell? ⟨mb, 4, none⟩ = some (.slice aP nP kP) ∧ W.cell? ⟨mb, 5, none⟩ = some (.int .i64 l)) := fun W hW => by
            have r := R3.out.same (hW mb (Or.inl rfl))
            refine ⟨?_, ?_, r.cell (i := 0) rfl, r.cell (i := 1) rfl, r.cell (i := 2) rfl, r.cell (i := 3) rfl, r.cell (i := 4) rfl, r.cell (i := 5) rfl⟩
            · rw [World.cell?_of_block (w := w3) (hW b (Or.inr HBL.out))]; exact C1.out
            · rw [World.cell?_of_block (w := w3) (hW b (Or.inr HBL.out))]; exact C2.out
          refine wp_region_held_drew (S := fun W => W.cell? ⟨b, off + j * 3 + 1, none⟩ = some (.int .i64 x) ∧ W.cell? ⟨b, off + j * 3 + 2, none⟩ = some (.string s) ∧ W.cell? ⟨mb, 0, none⟩ = some (.bool nl) ∧ W.cell? ⟨mb, 1, none⟩ = some (.slice aB nB kB) ∧ W.cell? ⟨mb, 2, none⟩ = some (.slice aF nF kF) ∧ W.cell? ⟨mb, 3, none⟩ = some (.slice aA nA kA) ∧ W.cell? ⟨mb, 4, none⟩ = some (.slice aP nP kP) ∧ W.cell? ⟨mb, 5, none⟩ = some (.int .i64 l)) (by kernel_rfl) (SOF.out _ (fun c _ => rfl)) (fun hHeld => ?_)
          refine wpAnyH_take (i := 0) (v := ?_) rfl (by kernel_rfl) (by kernel_rfl) (by kernel_rfl) (fun _ _ _ h => h) (Or.inl ⟨by rfl, ?_⟩) (by assumption) ?_
          rotate_left 1
          · (intro w hSw; (try dsimp only at hSw); first | (go_simp; done) | (go_simp; with_reducible rfl))
          simp only [Act.put, List.getElem_toArray, List.getElem_cons_zero, List.setIfInBounds_toArray, List.set_cons_zero, List.set_cons_succ]
          refine wpAnyH_take (i := 1) (v := ?_) rfl (by kernel_rfl) (by kernel_rfl) (by kernel_rfl) (fun _ _ _ h => h) (Or.inl ⟨by rfl, ?_⟩) (by assumption) ?_
          rotate_left 1
          · (intro w hSw; (try dsimp only at hSw); first | (go_simp; done) | (go_simp; with_reducible rfl))
          simp only [Act.put, List.getElem_toArray, List.getElem_cons_zero, List.getElem_cons_succ, List.setIfInBounds_toArray, List.set_cons_zero, List.set_cons_succ]
          refine wpAnyH_take (i := 2) (v := ?_) rfl (by kernel_rfl) (by kernel_rfl) (by kernel_rfl) (fun _ _ _ h => h) (Or.inl ⟨by rfl, ?_⟩) (by assumption) ?_
          rotate_left 1
          · (intro w hSw; (try dsimp only at hSw); first | (go_simp; done) | (go_simp; with_reducible rfl))
          simp only [Act.put, List.getElem_toArray, List.getElem_cons_zero, List.getElem_cons_succ, List.setIfInBounds_toArray, List.set_cons_zero, List.set_cons_succ]
          refine wpAnyH_take (i := 3) (v := ?_) rfl (by kernel_rfl) (by kernel_rfl) (by kernel_rfl) (fun _ _ _ h => h) (Or.inl ⟨by rfl, ?_⟩) (by assumption) ?_
          rotate_left 1
          · (intro w hSw; (try dsimp only at hSw); first | (go_simp; done) | (go_simp; with_reducible rfl))
          simp only [Act.put, List.getElem_toArray, List.getElem_cons_zero, List.getElem_cons_succ, List.setIfInBounds_toArray, List.set_cons_zero, List.set_cons_succ]
          refine wpAnyH_take (i := 4) (v := ?_) rfl (by kernel_rfl) (by kernel_rfl) (by kernel_rfl) (fun _ _ _ h => h) (Or.inl ⟨by rfl, ?_⟩) (by assumption) ?_
          rotate_left 1
          · (intro w hSw; (try dsimp only at hSw); first | (go_simp; done) | (go_simp; with_reducible rfl))
          simp only [Act.put, List.getElem_toArray, List.getElem_cons_zero, List.getElem_cons_succ, List.setIfInBounds_toArray, List.set_cons_zero, List.set_cons_succ]
          refine wpAnyH_take (i := 5) (v := ?_) rfl (by kernel_rfl) (by kernel_rfl) (by kernel_rfl) (fun _ _ _ h => h) (Or.inl ⟨by rfl, ?_⟩) (by assumption) ?_
          rotate_left 1
          · (intro w hSw; (try dsimp only at hSw); first | (go_simp; done) | (go_simp; with_reducible rfl))
          simp only [Act.put, List.getElem_toArray, List.getElem_cons_zero, List.getElem_cons_succ, List.setIfInBounds_toArray, List.set_cons_zero, List.set_cons_succ]
          refine wpAnyH_ready (rs := [6]) (by kernel_rfl) (by simp) ?_
          refine AllReadyH.cons rfl (fun KK hK => ?_) (AllReadyH.nil)
          have hS1 := Lib.hid hHeld
          go_simp
          go_wp2_with (go_at_call 14; (with_reducible refine (RB.out _ (Below.refl _ _).drew).mono ?_); rintro en w7 ⟨rfl, b7⟩)
          clear hS1
          have B7 := Lib.hid b7
          clear b7
          refine hK.out _ _ (SOF.out _ (fun c hc => B7.out.block c (LTX.out c hc))) (fun hHeld2 => ?_)
          clear hK KK hHeld; have hHeld := hHeld2; clear hHeld2
          refine wpAnyH_take (i := 7) (v := ?_) rfl (by kernel_rfl) (by kernel_rfl) (by kernel_rfl) (fun _ _ _ h => h) (Or.inl ⟨by rfl, ?_⟩) (by assumption) ?_
          rotate_left 1
          · (intro w hSw; (try dsimp only at hSw); first | (go_simp; done) | (go_simp; with_reducible rfl))
          simp only [Act.put, List.getElem_toArray, List.getElem_cons_zero, List.getElem_cons_succ, List.setIfInBounds_toArray, List.set_cons_zero, List.set_cons_succ]
          refine wpAnyH_take (i := 8) (v := ?_) rfl (by kernel_rfl) (by kernel_rfl) (by kernel_rfl) (fun _ _ _ h => h) (Or.inl ⟨by rfl, ?_⟩) (by assumption) ?_
          rotate_left 1
          · (intro w hSw; (try dsimp only at hSw); first | (go_simp; done) | (go_simp; with_reducible rfl))
          simp only [Act.put, List.getElem_toArray, List.getElem_cons_zero, List.getElem_cons_succ, List.setIfInBounds_toArray, List.set_cons_zero, List.set_cons_succ]
          refine wpAnyH_take (i := 9) (v := ?_) rfl (by kernel_rfl) (by kernel_rfl) (by kernel_rfl) (fun _ _ _ h => h) (Or.inl ⟨by rfl, ?_⟩) (by assumption) ?_
          rotate_left 1
          · (intro w hSw; (try dsimp only at hSw); first | (go_simp; done) | (go_simp; with_reducible rfl))
          simp only [Act.put, List.getElem_toArray, List.getElem_cons_zero, List.getElem_cons_succ, List.setIfInBounds_toArray, List.set_cons_zero, List.set_cons_succ]
          refine wpAnyH_take (i := 10) (v := ?_) rfl (by kernel_rfl) (by kernel_rfl) (by kernel_rfl) (fun _ _ _ h => h) (Or.inl ⟨by rfl, ?_⟩) (by assumption) ?_
          rotate_left 1
          · (intro w hSw; (try dsimp only at hSw); first | (go_simp; done) | (go_simp; with_reducible rfl))
          simp only [Act.put, List.getElem_toArray, List.getElem_cons_zero, List.getElem_cons_succ, List.setIfInBounds_toArray, List.set_cons_zero, List.set_cons_succ]
          refine wpAnyH_take (i := 11) (v := ?_) rfl (by kernel_rfl) (by kernel_rfl) (by kernel_rfl) (fun _ _ _ h => h) (Or.inl ⟨by rfl, ?_⟩) (by assumption) ?_
          rotate_left 1
          · (intro w hSw; (try dsimp only at hSw); first | (go_simp; done) | (go_simp; with_reducible rfl))
          simp only [Act.put, List.getElem_toArray, List.getElem_cons_zero, List.getElem_cons_succ, List.setIfInBounds_toArray, List.set_cons_zero, List.set_cons_succ]
          refine wpAnyH_done (by kernel_rfl) ?_ _
          clear hHeld
          go_wp2_with fail
          go_roundw
          case measure => simp [intOf]; have := HJ.out; have := HJT.out; omega
          case rel => exact ⟨j1, pp, by have := HJ.out; have := HJT.out; omega, rfl, rfl, ⟨nl, aB, aF, aA, aP, nB, nF, nA, nP, kB, kF, kA, kP, l, ((PX3.out.keep (Below.refl _ _).drew).keep B7.out).up (by have := HJ.out; omega), (show Row w3.drew mb 31 _ from R3.out.same rfl).below B7.out R3.out.lt⟩⟩
        by_cases k2 : kd = 2
        · subst k2
          have hl := Lib.hid (PX3.out.limit x XB.out.2)
          go_wp2_with fail
          refine hl.out.mono ?_; rintro e w5 ⟨rfl, b5, s5, fr5, rl⟩
          have B5 := Lib.hid b5; have RL := Lib.hid rl; have S5 := Lib.hid s5
          have R5 := Lib.hid (R3.out.same (fr5 mb rfl))
          have L5 : Hid (∀ c, (c = mb ∨ c < w.heap.size) → c < w5.heap.size) := fun c hc => Nat.lt_of_lt_of_le (LTX.out c hc) S5.out
          have C1 : Hid (w5.cell? ⟨b, off + j * 3 + 1, none⟩ = some (.int .i64 x)) := by show _ = _; rw [B5.out.cell (by exact HBL.out)]; exact HC1.out
          have C2 : Hid (w5.cell? ⟨b, off + j * 3 + 2, none⟩ = some (.string s)) := by show _ = _; rw [B5.out.cell (by exact HBL.out)]; exact HC2.out
          clear b5 rl s5 fr5 z0 z1 z2 z3 z4 z5 c0 c1 c2 hl
          go_wp2_with fail
          have SOF : Hid (∀ W : World, (∀ c, (c = mb ∨ c < w.heap.size) → W.heap[c]? = w5.heap[c]?) → W.cell? ⟨b, off + j * 3 + 1, none⟩ = some (.int .i64 x) ∧ W.cell? ⟨b, off + j * 3 + 2, none⟩ = some (.string s) ∧ W.cell? ⟨mb, 0, none⟩ = some (.bool nl) ∧ W.cell? ⟨mb, 1, none⟩ = some (.slice aB nB kB) ∧ W.cell? ⟨mb, 2, none⟩ = some (.slice aF nF kF) ∧ W.cell? ⟨mb, 3, none⟩ = some (.slice aA nA kA) ∧ W.cell? ⟨mb, 4, none⟩ = some (.slice aP nP kP) ∧ W.cell? ⟨mb, 5, none⟩ = some (.int .i64 l)) := fun W hW => by
            have r := R5.out.same (hW mb (Or.inl rfl))
            refine ⟨?_, ?_, r.cell (i := 0) rfl, r.cell (i := 1) rfl, r.cell (i := 2) rfl, r.cell (i := 3) rfl, r.cell (i := 4) rfl, r.cell (i := 5) rfl⟩
            · rw [World.cell?_of_block (w := w5) (hW b (Or.inr HBL.out))]; exact C1.out
            · rw [World.cell?_of_block (w := w5) (hW b (Or.inr HBL.out))]; exact C2.out
          refine wp_region_drop (fun W => W.cell? ⟨b, off + j * 3 + 1, none⟩ = some (.int .i64 x) ∧ W.cell? ⟨b, off + j * 3 + 2, none⟩ = some (.string s) ∧ W.cell? ⟨mb, 0, none⟩ = some (.bool nl) ∧ W.cell? ⟨mb, 1, none⟩ = some (.slice aB nB kB) ∧ W.cell? ⟨mb, 2, none⟩ = some (.slice aF nF kF) ∧ W.cell? ⟨mb, 3, none⟩ = some (.slice aA nA kA) ∧ W.cell? ⟨mb, 4, none⟩ = some (.slice aP nP kP) ∧ W.cell? ⟨mb, 5, none⟩ = some (.int .i64 l)) 7 (by kernel_rfl) (SOF.out _ (fun c _ => rfl)) (fun hHeld => ?_)
          refine wpAnyD_take (i := 0) (v := ?_) rfl (by kernel_rfl) (by kernel_rfl) (by kernel_rfl) (by kernel_rfl) (fun _ _ _ h => h) (Or.inl ⟨by rfl, ?_⟩) (by assumption) ?_
          rotate_left 1
          · (intro w hSw; (try dsimp only at hSw); first | (go_simp; done) | (go_simp; with_reducible rfl))
          simp only [Act.put, List.getElem_toArray, List.getElem_cons_zero, List.setIfInBounds_toArray, List.set_cons_zero, List.set_cons_succ]
          refine wpAnyD_pure (i := 1) (v := ?_) rfl (by kernel_rfl) (by kernel_rfl) (by kernel_rfl) (by rfl) (fun _ _ _ h => h) (Or.inl ⟨by rfl, ?_⟩) (by assumption) ?_
          rotate_left 1
          · (intro w; first | (go_simp; done) | (go_simp; with_reducible rfl))
          simp only [Act.put, List.getElem_toArray, List.getElem_cons_zero, List.getElem_cons_succ, List.setIfInBounds_toArray, List.set_cons_zero, List.set_cons_succ]
          refine wpAnyD_pure (i := 2) (v := ?_) rfl (by kernel_rfl) (by kernel_rfl) (by kernel_rfl) (by rfl) (fun _ _ _ h => h) (Or.inl ⟨by rfl, ?_⟩) (by assumption) ?_
          rotate_left 1
          · (intro w; first | (go_simp; done) | (go_simp; with_reducible rfl))
          simp only [Act.put, List.getElem_toArray, List.getElem_cons_zero, List.getElem_cons_succ, List.setIfInBounds_toArray, List.set_cons_zero, List.set_cons_succ]
          refine wpAnyD_pure (i := 3) (v := ?_) rfl (by kernel_rfl) (by kernel_rfl) (by kernel_rfl) (by rfl) (fun _ _ _ h => h) (Or.inl ⟨by rfl, ?_⟩) (by assumption) ?_
          rotate_left 1
          · (intro w; first | (go_simp; done) | (go_simp; with_reducible rfl))
          simp only [Act.put, List.getElem_toArray, List.getElem_cons_zero, List.getElem_cons_succ, List.setIfInBounds_toArray, List.set_cons_zero, List.set_cons_succ]
          refine wpAnyD_pure (i := 4) (v := ?_) rfl (by kernel_rfl) (by kernel_rfl) (by kernel_rfl) (by rfl) (fun _ _ _ h => h) (Or.inl ⟨by rfl, ?_⟩) (by assumption) ?_
          rotate_left 1
          · (intro w; first | (go_simp; done) | (go_simp; with_reducible rfl))
          simp only [Act.put, List.getElem_toArray, List.getElem_cons_zero, List.getElem_cons_succ, List.setIfInBounds_toArray, List.set_cons_zero, List.set_cons_succ]
          refine wpAnyD_take (i := 5) (v := ?_) rfl (by kernel_rfl) (by kernel_rfl) (by kernel_rfl) (by kernel_rfl) (fun _ _ _ h => h) (Or.inl ⟨by rfl, ?_⟩) (by assumption) ?_
          rotate_left 1
          · (intro w hSw; (try dsimp only at hSw); first | (go_simp; done) | (go_simp; with_reducible rfl))
          simp only [Act.put, List.getElem_toArray, List.getElem_cons_zero, List.getElem_cons_succ, List.setIfInBounds_toArray, List.set_cons_zero, List.set_cons_succ]
          refine wpAnyD_one (i := 6) (by kernel_rfl) (by rfl) rfl (fun KK hK => ?_)
          have hS1 := Lib.hid hHeld
          go_simp
          go_wp2_with (go_at_call 16; (with_reducible refine (RL.out _ (Below.refl _ _).drew).mono ?_); rintro en w7 ⟨v7, rfl, px7, b7⟩)
          clear hS1
          obtain ⟨u7, p7, q7, a7, e7, f7, g7, h7, m7, k7, l7, i7, o7, t7, hv7⟩ := px7.form
          subst hv7
          have B7 := Lib.hid b7; have PX7 := Lib.hid px7
          have R7 := Lib.hid ((show Row w5.drew mb 31 _ from R5.out.same rfl).below b7 R5.out.lt)
          clear b7 px7
          refine hK.out _ _ (SOF.out _ (fun c hc => B7.out.block c (L5.out c hc))) (fun hHeld2 => ?_)
          clear hK KK hHeld; have hHeld := hHeld2; clear hHeld2
          obtain ⟨WS, hWS, rS, pS, oS, sS⟩ := PX7.out.put (mb := mb) rfl MB.out R7.out
          have y0 := R7.out.cell (i := 0) rfl
          have y1 := R7.out.cell (i := 1) rfl
          have y2 := R7.out.cell (i := 2) rfl
          have y3 := R7.out.cell (i := 3) rfl
          have y4 := R7.out.cell (i := 4) rfl
          have y5 := R7.out.cell (i := 5) rfl
          have yf0 := R7.out.fr (i := 0)
          have yf1 := R7.out.fr (i := 1)
          have yf2 := R7.out.fr (i := 2)
          have yf3 := R7.out.fr (i := 3)
          have yf4 := R7.out.fr (i := 4)
          have yf5 := R7.out.fr (i := 5)
          refine wpAnyD_drop (by kernel_rfl) rfl (fun KK hK => ?_)
          go_simp
          refine hK.out _ _ ?_
          clear hK KK hHeld
          have PM9 : Hid (PMG w WS pp mb j1) := ⟨u7, p7, q7, a7, e7, f7, g7, h7, m7, k7, l7, i7, o7, t7, pS.up (by have := HJ.out; omega), rS⟩
          refine wpAny_done (by kernel_rfl) ?_ _
          clear rS pS oS sS
          clear y0 yf0
          clear y1 yf1
          clear y2 yf2
          clear y3 yf3
          clear y4 yf4
          clear y5 yf5
          go_wp2_with fail
          go_roundw
          case measure => simp [intOf]; have := HJ.out; have := HJT.out; omega
          case rel => exact ⟨j1, pp, by have := HJ.out; have := HJT.out; omega, rfl, rfl, PM9⟩
        by_cases k3 : kd = 3
        · subst k3
          have hl := Lib.hid ((PX3.out.keep (Below.refl _ _).drew).after x J100.out)
          clear z0 z1 z2 z3 z4 z5 c1 c2
          go_wp2_with fail
          clear c0
          have SOF : Hid (∀ W : World, (∀ c, (c = mb ∨ c < w.heap.size) → W.heap[c]? = w3.heap[c]?) → W.cell? ⟨b, off + j * 3 + 1, none⟩ = some (.int .i64 x) ∧ W.cell? ⟨b, off + j * 3 + 2, none⟩ = some (.string s) ∧ W.cell? ⟨mb, 0, none⟩ = some (.bool nl) ∧ W.cell? ⟨mb, 1, none⟩ = some (.slice aB nB kB) ∧ W.cell? ⟨mb, 2, none⟩ = some (.slice aF nF kF) ∧ W.cell? ⟨mb, 3, none⟩ = some (.slice aA nA kA) ∧ W.cell? ⟨mb, 4, none⟩ = some (.slice aP nP kP) ∧ W.cell? ⟨mb, 5, none⟩ = some (.int .i64 l)) := fun W hW => by
            have r := R3.out.same (hW mb (Or.inl rfl))
            refine ⟨?_, ?_, r.cell (i := 0) rfl, r.cell (i := 1) rfl, r.cell (i := 2) rfl, r.cell (i := 3) rfl, r.cell (i := 4) rfl, r.cell (i := 5) rfl⟩
            · rw [World.cell?_of_block (w := w3) (hW b (Or.inr HBL.out))]; exact C1.out
            · rw [World.cell?_of_block (w := w3) (hW b (Or.inr HBL.out))]; exact C2.out
          refine wp_region_drop (fun W => W.cell? ⟨b, off + j * 3 + 1, none⟩ = some (.int .i64 x) ∧ W.cell? ⟨b, off + j * 3 + 2, none⟩ = some (.string s) ∧ W.cell? ⟨mb, 0, none⟩ = some (.bool nl) ∧ W.cell? ⟨mb, 1, none⟩ = some (.slice aB nB kB) ∧ W.cell? ⟨mb, 2, none⟩ = some (.slice aF nF kF) ∧ W.cell? ⟨mb, 3, none⟩ = some (.slice aA nA kA) ∧ W.cell? ⟨mb, 4, none⟩ = some (.slice aP nP kP) ∧ W.cell? ⟨mb, 5, none⟩ = some (.int .i64 l)) 15 (by kernel_rfl) (SOF.out _ (fun c _ => rfl)) (fun hHeld => ?_)
          refine wpAnyD_pure (i := 0) (v := ?_) rfl (by kernel_rfl) (by kernel_rfl) (by kernel_rfl) (by rfl) (fun _ _ _ h => h) (Or.inl ⟨by rfl, ?_⟩) (by assumption) ?_
          rotate_left 1
          · (intro w; first | (go_simp; done) | (go_simp; with_reducible rfl))
          simp only [Act.put, List.getElem_toArray, List.getElem_cons_zero, List.setIfInBounds_toArray, List.set_cons_zero, List.set_cons_succ]
          refine wpAnyD_pure (i := 1) (v := ?_) rfl (by kernel_rfl) (by kernel_rfl) (by kernel_rfl) (by rfl) (fun _ _ _ h => h) (Or.inl ⟨by rfl, ?_⟩) (by assumption) ?_
          rotate_left 1
          · (intro w; first | (go_simp; done) | (go_simp; with_reducible rfl))
          simp only [Act.put, List.getElem_toArray, List.getElem_cons_zero, List.getElem_cons_succ, List.setIfInBounds_toArray, List.set_cons_zero, List.set_cons_succ]
          refine wpAnyD_pure (i := 2) (v := ?_) rfl (by kernel_rfl) (by kernel_rfl) (by kernel_rfl) (by rfl) (fun _ _ _ h => h) (Or.inl ⟨by rfl, ?_⟩) (by assumption) ?_
          rotate_left 1
          · (intro w; first | (go_simp; done) | (go_simp; with_reducible rfl))
          simp only [Act.put, List.getElem_toArray, List.getElem_cons_zero, List.getElem_cons_succ, List.setIfInBounds_toArray, List.set_cons_zero, List.set_cons_succ]
          refine wpAnyD_pure (i := 3) (v := ?_) rfl (by kernel_rfl) (by kernel_rfl) (by kernel_rfl) (by rfl) (fun _ _ _ h => h) (Or.inl ⟨by rfl, ?_⟩) (by assumption) ?_
          rotate_left 1
          · (intro w; first | (go_simp; done) | (go_simp; with_reducible rfl))
          simp only [Act.put, List.getElem_toArray, List.getElem_cons_zero, List.getElem_cons_succ, List.setIfInBounds_toArray, List.set_cons_zero, List.set_cons_succ]
          refine wpAnyD_pure (i := 4) (v := ?_) rfl (by kernel_rfl) (by kernel_rfl) (by kernel_rfl) (by rfl) (fun _ _ _ h => h) (Or.inl ⟨by rfl, ?_⟩) (by assumption) ?_
          rotate_left 1
          · (intro w; first | (go_simp; done) | (go_simp; with_reducible rfl))
          simp only [Act.put, List.getElem_toArray, List.getElem_cons_zero, List.getElem_cons_succ, List.setIfInBounds_toArray, List.set_cons_zero, List.set_cons_succ]
          refine wpAnyD_take (i := 5) (v := ?_) rfl (by kernel_rfl) (by kernel_rfl) (by kernel_rfl) (by kernel_rfl) (fun _ _ _ h => h) (Or.inl ⟨by rfl, ?_⟩) (by assumption) ?_
          rotate_left 1
          · (intro w hSw; (try dsimp only at hSw); first | (go_simp; done) | (go_simp; with_reducible rfl))
          simp only [Act.put, List.getElem_toArray, List.getElem_cons_zero, List.getElem_cons_succ, List.setIfInBounds_toArray, List.set_cons_zero, List.set_cons_succ]
          refine wpAnyD_take (i := 7) (v := ?_) rfl (by kernel_rfl) (by kernel_rfl) (by kernel_rfl) (by kernel_rfl) (fun _ _ _ h => h) (Or.inl ⟨by rfl, ?_⟩) (by assumption) ?_
          rotate_left 1
          · (intro w hSw; (try dsimp only at hSw); first | (go_simp; done) | (go_simp; with_reducible rfl))
          simp only [Act.put, List.getElem_toArray, List.getElem_cons_zero, List.getElem_cons_succ, List.setIfInBounds_toArray, List.set_cons_zero, List.set_cons_succ]
          refine wpAnyD_pure (i := 8) (v := ?_) rfl (by kernel_rfl) (by kernel_rfl) (by kernel_rfl) (by rfl) (fun _ _ _ h => h) (Or.inl ⟨by rfl, ?_⟩) (by assumption) ?_
          rotate_left 1
          · (intro w; first | (go_simp; done) | (go_simp; with_reducible rfl))
          simp only [Act.put, List.getElem_toArray, List.getElem_cons_zero, List.getElem_cons_succ, List.setIfInBounds_toArray, List.set_cons_zero, List.set_cons_succ]
          refine wpAnyD_pure (i := 9) (v := ?_) rfl (by kernel_rfl) (by kernel_rfl) (by kernel_rfl) (by rfl) (fun _ _ _ h => h) (Or.inl ⟨by rfl, ?_⟩) (by assumption) ?_
          rotate_left 1
          · (intro w; first | (go_simp; done) | (go_simp; with_reducible rfl))
          simp only [Act.put, List.getElem_toArray, List.getElem_cons_zero, List.getElem_cons_succ, List.setIfInBounds_toArray, List.set_cons_zero, List.set_cons_succ]
          refine wpAnyD_pure (i := 10) (v := ?_) rfl (by kernel_rfl) (by kernel_rfl) (by kernel_rfl) (by rfl) (fun _ _ _ h => h) (Or.inl ⟨by rfl, ?_⟩) (by assumption) ?_
          rotate_left 1
          · (intro w; first | (go_simp; done) | (go_simp; with_reducible rfl))
          simp only [Act.put, List.getElem_toArray, List.getElem_cons_zero, List.getElem_cons_succ, List.setIfInBounds_toArray, List.set_cons_zero, List.set_cons_succ]
          refine wpAnyD_pure (i := 11) (v := ?_) rfl (by kernel_rfl) (by kernel_rfl) (by kernel_rfl) (by rfl) (fun _ _ _ h => h) (Or.inl ⟨by rfl, ?_⟩) (by assumption) ?_
          rotate_left 1
          · (intro w; first | (go_simp; done) | (go_simp; with_reducible rfl))
          simp only [Act.put, List.getElem_toArray, List.getElem_cons_zero, List.getElem_cons_succ, List.setIfInBounds_toArray, List.set_cons_zero, List.set_cons_succ]
          refine wpAnyD_take (i := 12) (v := ?_) rfl (by kernel_rfl) (by kernel_rfl) (by kernel_rfl) (by kernel_rfl) (fun _ _ _ h => h) (Or.inl ⟨by rfl, ?_⟩) (by assumption) ?_
          rotate_left 1
          · (intro w hSw; (try dsimp only at hSw); first | (go_simp; done) | (go_simp; with_reducible rfl))
          simp only [Act.put, List.getElem_toArray, List.getElem_cons_zero, List.getElem_cons_succ, List.setIfInBounds_toArray, List.set_cons_zero, List.set_cons_succ]
          refine wpAnyD_one (i := 6) (by kernel_rfl) (by rfl) rfl (fun KK hK => ?_)
          have hS1 := Lib.hid hHeld
          go_simp
          go_wp2_with (go_at_call 17; (with_reducible refine (hl.out).mono ?_); rintro en w5 ⟨p5, rfl, b5, rl⟩)
          clear hS1
          have B5 := Lib.hid b5; have RL := Lib.hid rl
          have R5 := Lib.hid ((show Row w3.drew mb 31 _ from R3.out.same rfl).below b5 R3.out.lt)
          clear b5 rl
          refine hK.out _ _ (SOF.out _ (fun c hc => B5.out.block c (LTX.out c hc))) (fun hHeld2 => ?_)
          clear hK KK hHeld; have hHeld := hHeld2; clear hHeld2
          refine wpAnyD_one (i := 13) (by kernel_rfl) (by rfl) rfl (fun KK hK => ?_)
          have hS1 := Lib.hid hHeld
          go_simp
          go_wp2_with (go_at_call 18; (with_reducible refine (RL.out _ (Below.refl _ _)).mono ?_); rintro en w7 ⟨v7, rfl, px7, b7⟩)
          clear hS1
          obtain ⟨u7, p7, q7, a7, e7, f7, g7, h7, m7, k7, l7, i7, o7, t7, hv7⟩ := px7.form
          subst hv7
          have B7 := Lib.hid b7; have PX7 := Lib.hid px7
          have R7 := Lib.hid (R5.out.below b7 R5.out.lt)
          clear b7 px7
          refine hK.out _ _ (SOF.out _ (fun c hc => (B7.out.block c (Nat.lt_of_lt_of_le (LTX.out c hc) B5.out.size)).trans (B5.out.block c (LTX.out c hc)))) (fun hHeld2 => ?_)
          clear hK KK hHeld; have hHeld := hHeld2; clear hHeld2
          refine wpAnyD_one (i := 14) (by kernel_rfl) (by rfl) rfl (fun KK hK => ?_)
          go_simp
          refine hK.out _ _ (SOF.out _ (fun c hc => (B7.out.block c (Nat.lt_of_lt_of_le (LTX.out c hc) B5.out.size)).trans (B5.out.block c (LTX.out c hc)))) (fun hHeld2 => ?_)
          clear hK KK hHeld; have hHeld := hHeld2; clear hHeld2
          obtain ⟨WS, hWS, rS, pS, oS, sS⟩ := PX7.out.put (mb := mb) rfl MB.out R7.out
          have y0 := R7.out.cell (i := 0) rfl
          have y1 := R7.out.cell (i := 1) rfl
          have y2 := R7.out.cell (i := 2) rfl
          have y3 := R7.out.cell (i := 3) rfl
          have y4 := R7.out.cell (i := 4) rfl
          have y5 := R7.out.cell (i := 5) rfl
          have yf0 := R7.out.fr (i := 0)
          have yf1 := R7.out.fr (i := 1)
          have yf2 := R7.out.fr (i := 2)
          have yf3 := R7.out.fr (i := 3)
          have yf4 := R7.out.fr (i := 4)
          have yf5 := R7.out.fr (i := 5)
          refine wpAnyD_drop (by kernel_rfl) rfl (fun KK hK => ?_)
          go_simp
          refine hK.out _ _ ?_
          clear hK KK hHeld
          have PM9 : Hid (PMG w WS p5 mb j1) := ⟨u7, p7, q7, a7, e7, f7, g7, h7, m7, k7, l7, i7, o7, t7, pS.up (by have := HJ.out; omega), rS⟩
          refine wpAny_done (by kernel_rfl) ?_ _
          clear rS pS oS sS
          clear y0 yf0
          clear y1 yf1
          clear y2 yf2
          clear y3 yf3
          clear y4 yf4
          clear y5 yf5
          go_wp2_with fail
          go_roundw
          case measure => simp [intOf]; have := HJ.out; have := HJT.out; omega
          case rel => exact ⟨j1, p5, by have := HJ.out; have := HJT.out; omega, rfl, rfl, PM9⟩
        have d0 : (kd == 0) = false := by simpa using k0
        have d1 : (kd == 1) = false := by simpa using k1
        have d2 : (kd == 2) = false := by simpa using k2
        have d3 : (kd == 3) = false := by simpa using k3
        clear k0 k1 k2 k3
        go_wp2_with fail
        go_roundw
        case measure => simp [intOf]; have := HJ.out; have := HJT.out; omega
        case rel => exact ⟨j1, pp, by have := HJ.out; have := HJT.out; omega, rfl, rfl, ⟨nl, aB, aF, aA, aP, nB, nF, nA, nP, kB, kF, kA, kP, l, PX3.out.up (by have := HJ.out; omega), R3.out⟩⟩
      have jl : ¬ (j : Int) < (m : Int) := by omega
      clear hlt hj
      go_wp2_with fail
      refine (PX0.out.same).mono ?_; rintro e w3 ⟨rfl, b3⟩
      have B3 := Lib.hid (PX0.out.bel.trans (b3.mono PX0.out.bel.size))
      clear b3
      go_wp2_with fail
      refine (lives_any _).mono ?_; rintro e w5 ⟨rfl, b5⟩
      have BF := Lib.hid (B3.out.trans (b5.mono B3.out.size))
      clear b5
      go_wp2_with fail
      go_ret
      exact ⟨rfl, BF.out⟩
end Go.Proofs.Ytgadplgjpemdaaa
