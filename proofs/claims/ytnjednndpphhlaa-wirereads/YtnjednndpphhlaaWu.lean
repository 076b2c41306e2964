/- The walk of WireReads. -/
import Derived.Test.YtnjednndpphhlaaWt
import Derived.Deep.Cut
import Derived.Deep.DeepCutAuto
import Derived.Deep.CutBlock
import Derived.Deep.RegionHeld
import Derived.Deep.RegionWith
import Derived.Deep.RegionHeld3
import Derived.Deep.DrawnRows
namespace Go.Proofs.Ytnjednndpphhlaa
open Go.ChangeShapes Go.WideShapes Go.ChangeAt Go.RowKit Go.Maps Go.WideMaps
attribute [local go_sem ↓] Go.wp_at_zero Go.wp_at_succ
theorem T_zero (S : ByteArray) : T S 0 = S := by unfold T; exact ByteArray.extract_zero_size
def O2 (w : World) (b o : Nat) (kd m : Int) : Prop := w.cell? ⟨b, o, none⟩ = some (.int .u8 kd) ∧ w.cell? ⟨b, o + 1, none⟩ = some (.int .i64 m)
theorem O2.below {w w' : World} {b o B : Nat} {kd m : Int} (h : O2 w b o kd m) (hb : b < B) (k : Below B w w') : O2 w' b o kd m := by
  obtain ⟨h1, h2⟩ := h
  exact ⟨by rw [k.cell (by exact hb)]; exact h1, by rw [k.cell (by exact hb)]; exact h2⟩
theorem RdAt.set {w W9 : World} {rb b : Nat} {s S : ByteArray} {e t e' : Int} (h : ((w.setCell ⟨b, 0, none⟩ (.string S)).setCell ⟨b, 1, none⟩ (.int .i64 t)).setCell ⟨b, 2, none⟩ (.int .i64 e') = W9) (hn : rb ≠ b) (x : RdAt w rb s e) : RdAt W9 rb s e := by
  rw [← h]; exact ((x.other hn).other hn).other hn
theorem s_keep {w w1 w' : World} {rb xb t' : Nat} {S : ByteArray} {e' : Int} (b : Below w1.heap.size w1 w') (h : Below w.heap.size w w1 ∧ RdAt w1 rb (T S t') e' ∧ X3 w1 xb S t' e' ∧ w1.cell? ⟨xb, 0, none⟩ = some (.string S) ∧ w1.cell? ⟨xb, 1, none⟩ = some (.int .i64 t') ∧ w1.cell? ⟨xb, 2, none⟩ = some (.int .i64 e')) : Below w.heap.size w w' ∧ RdAt w' rb (T S t') e' ∧ X3 w' xb S t' e' ∧ w'.cell? ⟨xb, 0, none⟩ = some (.string S) ∧ w'.cell? ⟨xb, 1, none⟩ = some (.int .i64 t') ∧ w'.cell? ⟨xb, 2, none⟩ = some (.int .i64 e') := by
  obtain ⟨h1, h2, h3, _, _, _⟩ := h
  have x := h3.below b h3.lt
  exact ⟨h1.trans (b.mono h1.size), h2.below b h2.lt, x, x.c0, x.c1, x.c2⟩
theorem sx_keep {w w1 w' : World} {rb xb b off j t : Nat} {S : ByteArray} {e most : Int} (hb : b < w.heap.size) (k : Below w1.heap.size w1 w') (h : Below w.heap.size w w1 ∧ RdAt w1 rb (T S t) e ∧ X3 w1 xb S t e ∧ w1.cell? ⟨xb, 0, none⟩ = some (.string S) ∧ w1.cell? ⟨xb, 1, none⟩ = some (.int .i64 t) ∧ w1.cell? ⟨xb, 2, none⟩ = some (.int .i64 e) ∧ w1.cell? ⟨b, off + j * 2 + 1, none⟩ = some (.int .i64 most)) : Below w.heap.size w w' ∧ RdAt w' rb (T S t) e ∧ X3 w' xb S t e ∧ w'.cell? ⟨xb, 0, none⟩ = some (.string S) ∧ w'.cell? ⟨xb, 1, none⟩ = some (.int .i64 t) ∧ w'.cell? ⟨xb, 2, none⟩ = some (.int .i64 e) ∧ w'.cell? ⟨b, off + j * 2 + 1, none⟩ = some (.int .i64 most) := by
  obtain ⟨h1, h2, h3, _, _, _, h4⟩ := h
  have x := h3.below k h3.lt
  exact ⟨h1.trans (k.mono h1.size), h2.below k h2.lt, x, x.c0, x.c1, x.c2, by rw [k.cell (show b < _ by have := h1.size; omega)]; exact h4⟩
theorem sx_set {w w1 w' : World} {rb xb b yb off j t : Nat} {S S' : ByteArray} {e most t' e' : Int} (hb : b < w.heap.size) (hy : w.heap.size ≤ yb) (hn1 : rb ≠ yb) (hn2 : xb ≠ yb) (hW : ((w1.setCell ⟨yb, 0, none⟩ (.string S')).setCell ⟨yb, 1, none⟩ (.int .i64 t')).setCell ⟨yb, 2, none⟩ (.int .i64 e') = w') (h : Below w.heap.size w w1 ∧ RdAt w1 rb (T S t) e ∧ X3 w1 xb S t e ∧ w1.cell? ⟨xb, 0, none⟩ = some (.string S) ∧ w1.cell? ⟨xb, 1, none⟩ = some (.int .i64 t) ∧ w1.cell? ⟨xb, 2, none⟩ = some (.int .i64 e) ∧ w1.cell? ⟨b, off + j * 2 + 1, none⟩ = some (.int .i64 most)) : Below w.heap.size w w' ∧ RdAt w' rb (T S t) e ∧ X3 w' xb S t e ∧ w'.cell? ⟨xb, 0, none⟩ = some (.string S) ∧ w'.cell? ⟨xb, 1, none⟩ = some (.int .i64 t) ∧ w'.cell? ⟨xb, 2, none⟩ = some (.int .i64 e) ∧ w'.cell? ⟨b, off + j * 2 + 1, none⟩ = some (.int .i64 most) := by
  obtain ⟨h1, h2, h3, _, _, _, h4⟩ := h
  have x := set_keep hW hn2 h3
  have k : Below w.heap.size w1 w' := by rw [← hW]; exact (((Below.refl _ _).setCell hy _).setCell hy _).setCell hy _
  exact ⟨h1.trans k, h2.set hW hn1, x, x.c0, x.c1, x.c2, by rw [k.cell (by exact hb)]; exact h4⟩
set_option maxRecDepth 100000 in
set_option maxHeartbeats 4000000 in
theorem wireReads_walk (S : ByteArray) (v : Value) (w : World) (hS : S.size ≤ maxLen) (hv : ∃ n g, OpsAt w v n g) : Calls Try.prog 4 #[.string S, v] w fun e w' => e = .returned (.bool true) ∧ Below w.heap.size w w' := by
  obtain ⟨n, g, a, cap, rfl, hm, hg, hcell⟩ := hv
  unfold maxLen at hm hS
  have HG := Lib.hid hg; have HC := Lib.hid hcell
  clear hg hcell
  obtain ⟨Z, hZ⟩ : ∃ Z, S.size = Z := ⟨_, rfl⟩
  rw [hZ] at hS
  by_cases hbig : 2000 < Z
  · go_enter Try.func4, Try.ntmps4
    go_wp2_with fail
    refine (lives_any _).mono ?_; rintro e w2 ⟨rfl, b⟩
    go_wp2_with fail
    go_ret
    exact ⟨rfl, b⟩
  by_cases h60 : 60 < n
  · go_enter Try.func4, Try.ntmps4
    go_wp2_with fail
    refine (lives_any _).mono ?_; rintro e w2 ⟨rfl, b⟩
    go_wp2_with fail
    go_ret
    exact ⟨rfl, b⟩
  have HS : Hid (S.size ≤ 2000) := by show _ ≤ _; omega
  go_enter Try.func4, Try.ntmps4
  go_wp2_with fail
  refine (read_any S _).mono ?_; rintro e w1 ⟨rfl, r1, b1⟩
  have R1 := Lib.hid r1; have B1 := Lib.hid b1; clear r1 b1
  go_wp2_with fail
  refine (rread_any S _).mono ?_; rintro e w2 ⟨rfl, b2⟩
  have rr := R1.out.below b2 R1.out.lt
  have z2 := b2.size
  have z1 := R1.out.lt
  obtain ⟨W4, hW4⟩ : ∃ W4, w2.alloc (Obj.cells #[.string ⟨#[]⟩, .int .i64 0, .int .i64 0] 32) = W4 := ⟨_, rfl⟩
  have b4 := below_alloc w2 (Obj.cells #[.string ⟨#[]⟩, .int .i64 0, .int .i64 0] 32)
  have x4 := X3.new w2 ⟨#[]⟩ 0 0
  rw [hW4] at b4 x4
  obtain ⟨W5, hW5, x5, b5⟩ := set_fold S 0 0 x4
  have h0 := x4.fr (i := 0); have h1 := x4.fr (i := 1); have h2 := x4.fr (i := 2)
  have k40 := x4.c0; have k41 := x4.c1; have k42 := x4.c2
  replace rr := (rr.below b4 rr.lt).below (b5 _ (Nat.le_refl _)) rr.lt
  rw [← T_zero S] at rr
  have B5 := Lib.hid (((B1.out.trans (b2.mono B1.out.size)).trans (b4.mono (by omega))).trans (b5 w.heap.size (by omega)))
  have R5 := Lib.hid rr; have X5 := Lib.hid x5
  obtain ⟨rb, hrb⟩ : ∃ rb, w.heap.size = rb := ⟨_, rfl⟩
  obtain ⟨xb, hxb⟩ : ∃ xb, w2.heap.size = xb := ⟨_, rfl⟩
  have hne : rb ≠ xb := by omega
  have HRB : Hid (w.heap.size ≤ rb) := by show _ ≤ _; omega
  have HXB : Hid (w.heap.size ≤ xb) := by show _ ≤ _; omega
  rw [hrb] at R5 ⊢
  rw [hxb] at X5 hW5 h0 h1 h2 k40 k41 k42
  clear rr x5 x4 b4 b5 b2 z1 z2 B1 R1 hrb
  go_wp2_with fail
  clear hxb
  go_loopw [7] (fun s7 wq => ∃ (j t : Nat) (e : Int), j ≤ n ∧ s7 = .int .i64 j ∧ Hid (t ≤ S.size) ∧ Hid (RdAt wq rb (T S t) e) ∧ Hid (X3 wq xb S t e) ∧ Hid (Below w.heap.size w wq)) (fun s7 _ => n - (intOf s7).toNat)
  case atStart => exact ⟨0, 0, 0, by omega, rfl, Nat.zero_le _, R5, X5, B5⟩
  case round =>
    clear R5 X5 B5
    obtain ⟨j, t, e, hj, rfl, HT, RD, XQ, BQ⟩ := hrel
    by_cases hlt : j < n
    · obtain ⟨b, off, rfl, hbl, hc⟩ : ∃ b off, a = some ⟨b, off, none⟩ ∧ b < w.heap.size ∧ ∀ j, j < n → w.cell? ⟨b, off + j * 2, none⟩ = some (.int .u8 (g j).kind) ∧ w.cell? ⟨b, off + j * 2 + 1, none⟩ = some (.int .i64 (g j).most) := by
        rcases HC.out with h | h
        · omega
        · exact h
      obtain ⟨k0, k1, kn⟩ := HG.out j hlt
      have CE : O2 w b (off + j * 2) (g j).kind (g j).most := hc j hlt
      obtain ⟨kd, hkd⟩ : ∃ kd, (g j).kind = kd := ⟨_, rfl⟩
      obtain ⟨most, hmo⟩ : ∃ most, (g j).most = most := ⟨_, rfl⟩
      rw [hkd, hmo] at CE
      rw [hkd] at k0 k1
      rw [hmo] at kn
      have CQ := CE.below hbl BQ.out
      have HD := Lib.hid CQ
      have HBL := Lib.hid hbl
      obtain ⟨d1', d2'⟩ := CQ
      have KN := Lib.hid kn
      clear hc hkd hmo CE kn
      by_cases q0 : kd % 4 = 0
      · have tm : kd.tmod 4 = 0 := by rw [Int.tmod_eq_emod_of_nonneg k0]; exact q0
        clear q0
        obtain ⟨nn, t', e', _, HT2', RF', RG'⟩ := both_uint (e := e) HT.out HS.out
        have HT2 := Lib.hid HT2'
        have RF := Lib.hid RF'
        have RG : Hid (∀ W : World, Calls Try.prog 16 #[rv S t e] W fun en w' => en = .returned (.tuple #[rv S t' e', .int .u64 nn]) ∧ Below W.heap.size W w') := RG'
        clear RF' RG' HT2'
        have cx0 := XQ.out.c0; have cx1 := XQ.out.c1; have cx2 := XQ.out.c2
        go_wp2_with fail
        refine (RG.out _).mono ?_; rintro en w2 ⟨rfl, b2⟩
        have rr := RD.out.below b2 RD.out.lt
        have xx := XQ.out.below b2 XQ.out.lt
        have zx := XQ.out.lt
        have zr := RD.out.lt
        have z2 := b2.size
        obtain ⟨W4, hW4⟩ : ∃ W4, w2.alloc (Obj.cells #[.string ⟨#[]⟩, .int .i64 0, .int .i64 0] 32) = W4 := ⟨_, rfl⟩
        have b4 := below_alloc w2 (Obj.cells #[.string ⟨#[]⟩, .int .i64 0, .int .i64 0] 32)
        have x4 := X3.new w2 ⟨#[]⟩ 0 0
        rw [hW4] at b4 x4
        obtain ⟨W5, hW5, x5, b5⟩ := set_fold S t' e' x4
        have h0 := x4.fr (i := 0); have h1 := x4.fr (i := 1); have h2 := x4.fr (i := 2)
        have k40 := x4.c0; have k41 := x4.c1; have k42 := x4.c2
        replace xx := (xx.below b4 xx.lt).below (b5 _ (Nat.le_refl _)) xx.lt
        replace rr := (rr.below b4 rr.lt).below (b5 _ (Nat.le_refl _)) rr.lt
        have i0 := x5.c0; have i1 := x5.c1; have i2 := x5.c2
        have f0 := xx.fr (i := 0); have f1 := xx.fr (i := 1); have f2 := xx.fr (i := 2)
        have d0 := xx.c0; have d1 := xx.c1; have d2 := xx.c2
        obtain ⟨W6, hW6, x6, b6⟩ := set_fold S t' e' xx
        replace rr := rr.set hW6 hne
        have z4 := b4.size
        have z5 := (b5 0 (Nat.zero_le _)).size
        have z6 := (b6 0 (Nat.zero_le _)).size
        have B6 := ((BQ.out.trans (b2.mono BQ.out.size)).trans (b4.mono (by have := BQ.out.size; omega))).trans ((b5 w.heap.size (by have := BQ.out.size; omega)).trans (b6 w.heap.size HXB.out))
        have R6 := Lib.hid rr; have X6 := Lib.hid x6; have BB6 := Lib.hid B6
        clear b2 b4 b5 b6 x4 x5 xx rr x6 B6 z2 z4 z5 z6 zx zr
        go_wp2_with fail
        refine (RF.out W6 rb R6.out).mono ?_; rintro en w7 ⟨rfl, r7, b7, k7⟩
        have X7 : Hid (X3 w7 xb S t' e') := by show X3 _ _ _ _ _; unfold X3; rw [k7 xb X6.out.lt (Ne.symm hne)]; exact X6.out
        have R7 := Lib.hid r7
        have B7 := Lib.hid (BB6.out.trans (b7.mono HRB.out))
        clear r7 b7 k7
        go_wp2_with fail
        have S0 : Hid (∀ W, W = w7.drew → Below w.heap.size w W ∧ RdAt W rb (T S t') e' ∧ X3 W xb S t' e' ∧ W.cell? ⟨xb, 0, none⟩ = some (.string S) ∧ W.cell? ⟨xb, 1, none⟩ = some (.int .i64 t') ∧ W.cell? ⟨xb, 2, none⟩ = some (.int .i64 e')) := by
          intro W e; subst e
          exact ⟨B7.out.drew, R7.out, X7.out, X7.out.c0, X7.out.c1, X7.out.c2⟩
        refine wp_region_held_drew (S := fun w' => Below w.heap.size w w' ∧ RdAt w' rb (T S t') e' ∧ X3 w' xb S t' e' ∧ w'.cell? ⟨xb, 0, none⟩ = some (.string S) ∧ w'.cell? ⟨xb, 1, none⟩ = some (.int .i64 t') ∧ w'.cell? ⟨xb, 2, none⟩ = some (.int .i64 e')) (by kernel_rfl) (S0.out _ rfl) (fun hHeld => ?_)
        clear S0
        refine wpAnyH_take (i := 0) (v := ?_) rfl (by kernel_rfl) (by kernel_rfl) (by kernel_rfl) (fun _ _ _ h => h) (Or.inl ⟨by rfl, ?_⟩) (by assumption) ?_
        rotate_left 1
        · (intro w hSw; (try dsimp only at hSw); first | (go_simp; done) | (go_simp; with_reducible rfl))
        simp only [Act.put, List.getElem_toArray, List.getElem_cons_zero, List.getElem_cons_succ, List.setIfInBounds_toArray, List.set_cons_zero, List.set_cons_succ]
        refine wpAnyH_take (i := 2) (v := ?_) rfl (by kernel_rfl) (by kernel_rfl) (by kernel_rfl) (fun _ _ _ h => h) (Or.inl ⟨by rfl, ?_⟩) (by assumption) ?_
        rotate_left 1
        · (intro w hSw; (try dsimp only at hSw); first | (go_simp; done) | (go_simp; with_reducible rfl))
        simp only [Act.put, List.getElem_toArray, List.getElem_cons_zero, List.getElem_cons_succ, List.setIfInBounds_toArray, List.set_cons_zero, List.set_cons_succ]
        refine wpAnyH_ready (rs := [1]) (by kernel_rfl) (by simp) ?_
        refine AllReadyH.cons rfl (fun K hK => ?_) AllReadyH.nil
        have hS1 := Lib.hid hHeld
        go_simp
        go_wp2_with (go_at_call 24; (with_reducible refine (left_any hS1.out.2.1).mono ?_); rintro en w8 ⟨rfl, rfl⟩)
        refine hK.out _ _ (by first | assumption | exact hS1.out) (fun hHeld2 => ?_)
        clear hK K hHeld hS1; have hHeld := hHeld2; clear hHeld2
        refine wpAnyH_ready (rs := [3]) (by kernel_rfl) (by simp) ?_
        refine AllReadyH.cons rfl (fun K hK => ?_) AllReadyH.nil
        have hS1 := Lib.hid hHeld
        go_simp
        go_wp2_with (go_at_call 25; (with_reducible refine (rleft_any S t' e' _ HT2.out HS.out).mono ?_); rintro en w8 ⟨rfl, b8⟩)
        refine hK.out _ _ (s_keep b8 hS1.out) (fun hHeld2 => ?_)
        clear b8
        clear hK K hHeld hS1; have hHeld := hHeld2; clear hHeld2
        refine wpAnyH_take (i := 4) (v := ?_) rfl (by kernel_rfl) (by kernel_rfl) (by kernel_rfl) (fun _ _ _ h => h) (Or.inl ⟨by rfl, ?_⟩) (by assumption) ?_
        rotate_left 1
        · (intro w hSw; (try dsimp only at hSw); first | (go_simp; done) | (go_simp; with_reducible rfl))
        simp only [Act.put, List.getElem_toArray, List.getElem_cons_zero, List.getElem_cons_succ, List.setIfInBounds_toArray, List.set_cons_zero, List.set_cons_succ]
        refine wpAnyH_take (i := 5) (v := ?_) rfl (by kernel_rfl) (by kernel_rfl) (by kernel_rfl) (fun _ _ _ h => h) (Or.inl ⟨by rfl, ?_⟩) (by assumption) ?_
        rotate_left 1
        · (intro w hSw; (try dsimp only at hSw); first | (go_simp; done) | (go_simp; with_reducible rfl))
        simp only [Act.put, List.getElem_toArray, List.getElem_cons_zero, List.getElem_cons_succ, List.setIfInBounds_toArray, List.set_cons_zero, List.set_cons_succ]
        refine wpAnyH_take (i := 6) (v := ?_) rfl (by kernel_rfl) (by kernel_rfl) (by kernel_rfl) (fun _ _ _ h => h) (Or.inl ⟨by rfl, ?_⟩) (by assumption) ?_
        rotate_left 1
        · (intro w hSw; (try dsimp only at hSw); first | (go_simp; done) | (go_simp; with_reducible rfl))
        simp only [Act.put, List.getElem_toArray, List.getElem_cons_zero, List.getElem_cons_succ, List.setIfInBounds_toArray, List.set_cons_zero, List.set_cons_succ]
        refine wpAnyH_take (i := 8) (v := ?_) rfl (by kernel_rfl) (by kernel_rfl) (by kernel_rfl) (fun _ _ _ h => h) (Or.inl ⟨by rfl, ?_⟩) (by assumption) ?_
        rotate_left 1
        · (intro w hSw; (try dsimp only at hSw); first | (go_simp; done) | (go_simp; with_reducible rfl))
        simp only [Act.put, List.getElem_toArray, List.getElem_cons_zero, List.getElem_cons_succ, List.setIfInBounds_toArray, List.set_cons_zero, List.set_cons_succ]
        refine wpAnyH_ready (rs := [7]) (by kernel_rfl) (by simp) ?_
        refine AllReadyH.cons rfl (fun K hK => ?_) AllReadyH.nil
        have hS1 := Lib.hid hHeld
        go_simp
        go_wp2_with (go_at_call 26; (with_reducible refine (err_any hS1.out.2.1).mono ?_); rintro en w8 ⟨rfl, rfl⟩)
        refine hK.out _ _ (by first | assumption | exact hS1.out) (fun hHeld2 => ?_)
        clear hK K hHeld hS1; have hHeld := hHeld2; clear hHeld2
        refine wpAnyH_ready (rs := [9]) (by kernel_rfl) (by simp) ?_
        refine AllReadyH.cons rfl (fun K hK => ?_) AllReadyH.nil
        have hS1 := Lib.hid hHeld
        go_simp
        go_wp2_with (go_at_call 27; (with_reducible refine (rerr_any S t' e' _).mono ?_); rintro en w8 ⟨rfl, b8⟩)
        refine hK.out _ _ (s_keep b8 hS1.out) (fun hHeld2 => ?_)
        clear b8
        clear hK K hHeld hS1; have hHeld := hHeld2; clear hHeld2
        refine wpAnyH_take (i := 10) (v := ?_) rfl (by kernel_rfl) (by kernel_rfl) (by kernel_rfl) (fun _ _ _ h => h) (Or.inl ⟨by rfl, ?_⟩) (by assumption) ?_
        rotate_left 1
        · (intro w hSw; (try dsimp only at hSw); first | (go_simp; done) | (go_simp; with_reducible rfl))
        simp only [Act.put, List.getElem_toArray, List.getElem_cons_zero, List.getElem_cons_succ, List.setIfInBounds_toArray, List.set_cons_zero, List.set_cons_succ]
        refine wpAnyH_take (i := 11) (v := ?_) rfl (by kernel_rfl) (by kernel_rfl) (by kernel_rfl) (fun _ _ _ h => h) (Or.inl ⟨by rfl, ?_⟩) (by assumption) ?_
        rotate_left 1
        · (intro w hSw; (try dsimp only at hSw); first | (go_simp; done) | (go_simp; with_reducible rfl))
        simp only [Act.put, List.getElem_toArray, List.getElem_cons_zero, List.getElem_cons_succ, List.setIfInBounds_toArray, List.set_cons_zero, List.set_cons_succ]
        refine wpAnyH_take (i := 12) (v := ?_) rfl (by kernel_rfl) (by kernel_rfl) (by kernel_rfl) (fun _ _ _ h => h) (Or.inl ⟨by rfl, ?_⟩) (by assumption) ?_
        rotate_left 1
        · (intro w hSw; (try dsimp only at hSw); first | (go_simp; done) | (go_simp; with_reducible rfl))
        simp only [Act.put, List.getElem_toArray, List.getElem_cons_zero, List.getElem_cons_succ, List.setIfInBounds_toArray, List.set_cons_zero, List.set_cons_succ]
        refine wpAnyH_take (i := 13) (v := ?_) rfl (by kernel_rfl) (by kernel_rfl) (by kernel_rfl) (fun _ _ _ h => h) (Or.inl ⟨by rfl, ?_⟩) (by assumption) ?_
        rotate_left 1
        · (intro w hSw; (try dsimp only at hSw); first | (go_simp; done) | (go_simp; with_reducible rfl))
        simp only [Act.put, List.getElem_toArray, List.getElem_cons_zero, List.getElem_cons_succ, List.setIfInBounds_toArray, List.set_cons_zero, List.set_cons_succ]
        refine wpAnyH_take (i := 15) (v := ?_) rfl (by kernel_rfl) (by kernel_rfl) (by kernel_rfl) (fun _ _ _ h => h) (Or.inl ⟨by rfl, ?_⟩) (by assumption) ?_
        rotate_left 1
        · (intro w hSw; (try dsimp only at hSw); first | (go_simp; done) | (go_simp; with_reducible rfl))
        simp only [Act.put, List.getElem_toArray, List.getElem_cons_zero, List.getElem_cons_succ, List.setIfInBounds_toArray, List.set_cons_zero, List.set_cons_succ]
        refine wpAnyH_ready (rs := [14]) (by kernel_rfl) (by simp) ?_
        refine AllReadyH.cons rfl (fun K hK => ?_) AllReadyH.nil
        have hS1 := Lib.hid hHeld
        go_simp
        go_wp2_with (go_at_call 28; (with_reducible refine (done_any hS1.out.2.1).mono ?_); rintro en w8 ⟨rfl, rfl⟩)
        refine hK.out _ _ (by first | assumption | exact hS1.out) (fun hHeld2 => ?_)
        clear hK K hHeld hS1; have hHeld := hHeld2; clear hHeld2
        refine wpAnyH_ready (rs := [16]) (by kernel_rfl) (by simp) ?_
        refine AllReadyH.cons rfl (fun K hK => ?_) AllReadyH.nil
        have hS1 := Lib.hid hHeld
        go_simp
        go_wp2_with (go_at_call 29; (with_reducible refine (rdone_any S t' e' _ HT2.out HS.out).mono ?_); rintro en w8 ⟨rfl, b8⟩)
        refine hK.out _ _ (s_keep b8 hS1.out) (fun hHeld2 => ?_)
        clear b8
        clear hK K hHeld hS1; have hHeld := hHeld2; clear hHeld2
        refine wpAnyH_take (i := 17) (v := ?_) rfl (by kernel_rfl) (by kernel_rfl) (by kernel_rfl) (fun _ _ _ h => h) (Or.inl ⟨by rfl, ?_⟩) (by assumption) ?_
        rotate_left 1
        · (intro w hSw; (try dsimp only at hSw); first | (go_simp; done) | (go_simp; with_reducible rfl))
        simp only [Act.put, List.getElem_toArray, List.getElem_cons_zero, List.getElem_cons_succ, List.setIfInBounds_toArray, List.set_cons_zero, List.set_cons_succ]
        refine wpAnyH_take (i := 18) (v := ?_) rfl (by kernel_rfl) (by kernel_rfl) (by kernel_rfl) (fun _ _ _ h => h) (Or.inl ⟨by rfl, ?_⟩) (by assumption) ?_
        rotate_left 1
        · (intro w hSw; (try dsimp only at hSw); first | (go_simp; done) | (go_simp; with_reducible rfl))
        simp only [Act.put, List.getElem_toArray, List.getElem_cons_zero, List.getElem_cons_succ, List.setIfInBounds_toArray, List.set_cons_zero, List.set_cons_succ]
        refine wpAnyH_done (by kernel_rfl) ?_ _
        obtain ⟨b9, r9, x9, _, _, _⟩ := hHeld
        have B9 := Lib.hid b9; have R9 := Lib.hid r9; have X9 := Lib.hid x9
        clear b9 r9 x9
        go_wp2_with fail
        go_roundw
        case rel => exact ⟨j + 1, t', e', by omega, by go_num, HT2, R9, X9, B9⟩
        case measure => simp [intOf]; omega
      · by_cases q1 : kd % 4 = 1
        · have tm : kd.tmod 4 = 1 := by rw [Int.tmod_eq_emod_of_nonneg k0]; exact q1
          clear q0 q1
          obtain ⟨nn, t', e', HT2', RF', RG'⟩ := both_int (e := e) HT.out HS.out
          have HT2 := Lib.hid HT2'
          have RF := Lib.hid RF'
          have RG : Hid (∀ W : World, Calls Try.prog 18 #[rv S t e] W fun en w' => en = .returned (.tuple #[rv S t' e', .int .i64 nn]) ∧ Below W.heap.size W w') := RG'
          clear RF' RG' HT2'
          have cx0 := XQ.out.c0; have cx1 := XQ.out.c1; have cx2 := XQ.out.c2
          go_wp2_with fail
          refine (RG.out _).mono ?_; rintro en w2 ⟨rfl, b2⟩
          have rr := RD.out.below b2 RD.out.lt
          have xx := XQ.out.below b2 XQ.out.lt
          have zx := XQ.out.lt
          have zr := RD.out.lt
          have z2 := b2.size
          obtain ⟨W4, hW4⟩ : ∃ W4, w2.alloc (Obj.cells #[.string ⟨#[]⟩, .int .i64 0, .int .i64 0] 32) = W4 := ⟨_, rfl⟩
          have b4 := below_alloc w2 (Obj.cells #[.string ⟨#[]⟩, .int .i64 0, .int .i64 0] 32)
          have x4 := X3.new w2 ⟨#[]⟩ 0 0
          rw [hW4] at b4 x4
          obtain ⟨W5, hW5, x5, b5⟩ := set_fold S t' e' x4
          have h0 := x4.fr (i := 0); have h1 := x4.fr (i := 1); have h2 := x4.fr (i := 2)
          have k40 := x4.c0; have k41 := x4.c1; have k42 := x4.c2
          replace xx := (xx.below b4 xx.lt).below (b5 _ (Nat.le_refl _)) xx.lt
          replace rr := (rr.below b4 rr.lt).below (b5 _ (Nat.le_refl _)) rr.lt
          have i0 := x5.c0; have i1 := x5.c1; have i2 := x5.c2
          have f0 := xx.fr (i := 0); have f1 := xx.fr (i := 1); have f2 := xx.fr (i := 2)
          have d0 := xx.c0; have d1 := xx.c1; have d2 := xx.c2
          obtain ⟨W6, hW6, x6, b6⟩ := set_fold S t' e' xx
          replace rr := rr.set hW6 hne
          have z4 := b4.size
          have z5 := (b5 0 (Nat.zero_le _)).size
          have z6 := (b6 0 (Nat.zero_le _)).size
          have B6 := ((BQ.out.trans (b2.mono BQ.out.size)).trans (b4.mono (by have := BQ.out.size; omega))).trans ((b5 w.heap.size (by have := BQ.out.size; omega)).trans (b6 w.heap.size HXB.out))
          have R6 := Lib.hid rr; have X6 := Lib.hid x6; have BB6 := Lib.hid B6
          clear b2 b4 b5 b6 x4 x5 xx rr x6 B6 z2 z4 z5 z6 zx zr
          go_wp2_with fail
          refine (RF.out W6 rb R6.out).mono ?_; rintro en w7 ⟨rfl, r7, b7, k7⟩
          have X7 : Hid (X3 w7 xb S t' e') := by show X3 _ _ _ _ _; unfold X3; rw [k7 xb X6.out.lt (Ne.symm hne)]; exact X6.out
          have R7 := Lib.hid r7
          have B7 := Lib.hid (BB6.out.trans (b7.mono HRB.out))
          clear r7 b7 k7
          go_wp2_with fail
          have S0 : Hid (∀ W, W = w7.drew → Below w.heap.size w W ∧ RdAt W rb (T S t') e' ∧ X3 W xb S t' e' ∧ W.cell? ⟨xb, 0, none⟩ = some (.string S) ∧ W.cell? ⟨xb, 1, none⟩ = some (.int .i64 t') ∧ W.cell? ⟨xb, 2, none⟩ = some (.int .i64 e')) := by
            intro W e; subst e
            exact ⟨B7.out.drew, R7.out, X7.out, X7.out.c0, X7.out.c1, X7.out.c2⟩
          refine wp_region_held_drew (S := fun w' => Below w.heap.size w w' ∧ RdAt w' rb (T S t') e' ∧ X3 w' xb S t' e' ∧ w'.cell? ⟨xb, 0, none⟩ = some (.string S) ∧ w'.cell? ⟨xb, 1, none⟩ = some (.int .i64 t') ∧ w'.cell? ⟨xb, 2, none⟩ = some (.int .i64 e')) (by kernel_rfl) (S0.out _ rfl) (fun hHeld => ?_)
          clear S0
          refine wpAnyH_take (i := 0) (v := ?_) rfl (by kernel_rfl) (by kernel_rfl) (by kernel_rfl) (fun _ _ _ h => h) (Or.inl ⟨by rfl, ?_⟩) (by assumption) ?_
          rotate_left 1
          · (intro w hSw; (try dsimp only at hSw); first | (go_simp; done) | (go_simp; with_reducible rfl))
          simp only [Act.put, List.getElem_toArray, List.getElem_cons_zero, List.getElem_cons_succ, List.setIfInBounds_toArray, List.set_cons_zero, List.set_cons_succ]
          refine wpAnyH_take (i := 2) (v := ?_) rfl (by kernel_rfl) (by kernel_rfl) (by kernel_rfl) (fun _ _ _ h => h) (Or.inl ⟨by rfl, ?_⟩) (by assumption) ?_
          rotate_left 1
          · (intro w hSw; (try dsimp only at hSw); first | (go_simp; done) | (go_simp; with_reducible rfl))
          simp only [Act.put, List.getElem_toArray, List.getElem_cons_zero, List.getElem_cons_succ, List.setIfInBounds_toArray, List.set_cons_zero, List.set_cons_succ]
          refine wpAnyH_ready (rs := [1]) (by kernel_rfl) (by simp) ?_
          refine AllReadyH.cons rfl (fun K hK => ?_) AllReadyH.nil
          have hS1 := Lib.hid hHeld
          go_simp
          go_wp2_with (go_at_call 24; (with_reducible refine (left_any hS1.out.2.1).mono ?_); rintro en w8 ⟨rfl, rfl⟩)
          refine hK.out _ _ (by first | assumption | exact hS1.out) (fun hHeld2 => ?_)
          clear hK K hHeld hS1; have hHeld := hHeld2; clear hHeld2
          refine wpAnyH_ready (rs := [3]) (by kernel_rfl) (by simp) ?_
          refine AllReadyH.cons rfl (fun K hK => ?_) AllReadyH.nil
          have hS1 := Lib.hid hHeld
          go_simp
          go_wp2_with (go_at_call 25; (with_reducible refine (rleft_any S t' e' _ HT2.out HS.out).mono ?_); rintro en w8 ⟨rfl, b8⟩)
          refine hK.out _ _ (s_keep b8 hS1.out) (fun hHeld2 => ?_)
          clear b8
          clear hK K hHeld hS1; have hHeld := hHeld2; clear hHeld2
          refine wpAnyH_take (i := 4) (v := ?_) rfl (by kernel_rfl) (by kernel_rfl) (by kernel_rfl) (fun _ _ _ h => h) (Or.inl ⟨by rfl, ?_⟩) (by assumption) ?_
          rotate_left 1
          · (intro w hSw; (try dsimp only at hSw); first | (go_simp; done) | (go_simp; with_reducible rfl))
          simp only [Act.put, List.getElem_toArray, List.getElem_cons_zero, List.getElem_cons_succ, List.setIfInBounds_toArray, List.set_cons_zero, List.set_cons_succ]
          refine wpAnyH_take (i := 5) (v := ?_) rfl (by kernel_rfl) (by kernel_rfl) (by kernel_rfl) (fun _ _ _ h => h) (Or.inl ⟨by rfl, ?_⟩) (by assumption) ?_
          rotate_left 1
          · (intro w hSw; (try dsimp only at hSw); first | (go_simp; done) | (go_simp; with_reducible rfl))
          simp only [Act.put, List.getElem_toArray, List.getElem_cons_zero, List.getElem_cons_succ, List.setIfInBounds_toArray, List.set_cons_zero, List.set_cons_succ]
          refine wpAnyH_take (i := 6) (v := ?_) rfl (by kernel_rfl) (by kernel_rfl) (by kernel_rfl) (fun _ _ _ h => h) (Or.inl ⟨by rfl, ?_⟩) (by assumption) ?_
          rotate_left 1
          · (intro w hSw; (try dsimp only at hSw); first | (go_simp; done) | (go_simp; with_reducible rfl))
          simp only [Act.put, List.getElem_toArray, List.getElem_cons_zero, List.getElem_cons_succ, List.setIfInBounds_toArray, List.set_cons_zero, List.set_cons_succ]
          refine wpAnyH_take (i := 8) (v := ?_) rfl (by kernel_rfl) (by kernel_rfl) (by kernel_rfl) (fun _ _ _ h => h) (Or.inl ⟨by rfl, ?_⟩) (by assumption) ?_
          rotate_left 1
          · (intro w hSw; (try dsimp only at hSw); first | (go_simp; done) | (go_simp; with_reducible rfl))
          simp only [Act.put, List.getElem_toArray, List.getElem_cons_zero, List.getElem_cons_succ, List.setIfInBounds_toArray, List.set_cons_zero, List.set_cons_succ]
          refine wpAnyH_ready (rs := [7]) (by kernel_rfl) (by simp) ?_
          refine AllReadyH.cons rfl (fun K hK => ?_) AllReadyH.nil
          have hS1 := Lib.hid hHeld
          go_simp
          go_wp2_with (go_at_call 26; (with_reducible refine (err_any hS1.out.2.1).mono ?_); rintro en w8 ⟨rfl, rfl⟩)
          refine hK.out _ _ (by first | assumption | exact hS1.out) (fun hHeld2 => ?_)
          clear hK K hHeld hS1; have hHeld := hHeld2; clear hHeld2
          refine wpAnyH_ready (rs := [9]) (by kernel_rfl) (by simp) ?_
          refine AllReadyH.cons rfl (fun K hK => ?_) AllReadyH.nil
          have hS1 := Lib.hid hHeld
          go_simp
          go_wp2_with (go_at_call 27; (with_reducible refine (rerr_any S t' e' _).mono ?_); rintro en w8 ⟨rfl, b8⟩)
          refine hK.out _ _ (s_keep b8 hS1.out) (fun hHeld2 => ?_)
          clear b8
          clear hK K hHeld hS1; have hHeld := hHeld2; clear hHeld2
          refine wpAnyH_take (i := 10) (v := ?_) rfl (by kernel_rfl) (by kernel_rfl) (by kernel_rfl) (fun _ _ _ h => h) (Or.inl ⟨by rfl, ?_⟩) (by assumption) ?_
          rotate_left 1
          · (intro w hSw; (try dsimp only at hSw); first | (go_simp; done) | (go_simp; with_reducible rfl))
          simp only [Act.put, List.getElem_toArray, List.getElem_cons_zero, List.getElem_cons_succ, List.setIfInBounds_toArray, List.set_cons_zero, List.set_cons_succ]
          refine wpAnyH_take (i := 11) (v := ?_) rfl (by kernel_rfl) (by kernel_rfl) (by kernel_rfl) (fun _ _ _ h => h) (Or.inl ⟨by rfl, ?_⟩) (by assumption) ?_
          rotate_left 1
          · (intro w hSw; (try dsimp only at hSw); first | (go_simp; done) | (go_simp; with_reducible rfl))
          simp only [Act.put, List.getElem_toArray, List.getElem_cons_zero, List.getElem_cons_succ, List.setIfInBounds_toArray, List.set_cons_zero, List.set_cons_succ]
          refine wpAnyH_take (i := 12) (v := ?_) rfl (by kernel_rfl) (by kernel_rfl) (by kernel_rfl) (fun _ _ _ h => h) (Or.inl ⟨by rfl, ?_⟩) (by assumption) ?_
          rotate_left 1
          · (intro w hSw; (try dsimp only at hSw); first | (go_simp; done) | (go_simp; with_reducible rfl))
          simp only [Act.put, List.getElem_toArray, List.getElem_cons_zero, List.getElem_cons_succ, List.setIfInBounds_toArray, List.set_cons_zero, List.set_cons_succ]
          refine wpAnyH_take (i := 13) (v := ?_) rfl (by kernel_rfl) (by kernel_rfl) (by kernel_rfl) (fun _ _ _ h => h) (Or.inl ⟨by rfl, ?_⟩) (by assumption) ?_
          rotate_left 1
          · (intro w hSw; (try dsimp only at hSw); first | (go_simp; done) | (go_simp; with_reducible rfl))
          simp only [Act.put, List.getElem_toArray, List.getElem_cons_zero, List.getElem_cons_succ, List.setIfInBounds_toArray, List.set_cons_zero, List.set_cons_succ]
          refine wpAnyH_take (i := 15) (v := ?_) rfl (by kernel_rfl) (by kernel_rfl) (by kernel_rfl) (fun _ _ _ h => h) (Or.inl ⟨by rfl, ?_⟩) (by assumption) ?_
          rotate_left 1
          · (intro w hSw; (try dsimp only at hSw); first | (go_simp; done) | (go_simp; with_reducible rfl))
          simp only [Act.put, List.getElem_toArray, List.getElem_cons_zero, List.getElem_cons_succ, List.setIfInBounds_toArray, List.set_cons_zero, List.set_cons_succ]
          refine wpAnyH_ready (rs := [14]) (by kernel_rfl) (by simp) ?_
          refine AllReadyH.cons rfl (fun K hK => ?_) AllReadyH.nil
          have hS1 := Lib.hid hHeld
          go_simp
          go_wp2_with (go_at_call 28; (with_reducible refine (done_any hS1.out.2.1).mono ?_); rintro en w8 ⟨rfl, rfl⟩)
          refine hK.out _ _ (by first | assumption | exact hS1.out) (fun hHeld2 => ?_)
          clear hK K hHeld hS1; have hHeld := hHeld2; clear hHeld2
          refine wpAnyH_ready (rs := [16]) (by kernel_rfl) (by simp) ?_
          refine AllReadyH.cons rfl (fun K hK => ?_) AllReadyH.nil
          have hS1 := Lib.hid hHeld
          go_simp
          go_wp2_with (go_at_call 29; (with_reducible refine (rdone_any S t' e' _ HT2.out HS.out).mono ?_); rintro en w8 ⟨rfl, b8⟩)
          refine hK.out _ _ (s_keep b8 hS1.out) (fun hHeld2 => ?_)
          clear b8
          clear hK K hHeld hS1; have hHeld := hHeld2; clear hHeld2
          refine wpAnyH_take (i := 17) (v := ?_) rfl (by kernel_rfl) (by kernel_rfl) (by kernel_rfl) (fun _ _ _ h => h) (Or.inl ⟨by rfl, ?_⟩) (by assumption) ?_
          rotate_left 1
          · (intro w hSw; (try dsimp only at hSw); first | (go_simp; done) | (go_simp; with_reducible rfl))
          simp only [Act.put, List.getElem_toArray, List.getElem_cons_zero, List.getElem_cons_succ, List.setIfInBounds_toArray, List.set_cons_zero, List.set_cons_succ]
          refine wpAnyH_take (i := 18) (v := ?_) rfl (by kernel_rfl) (by kernel_rfl) (by kernel_rfl) (fun _ _ _ h => h) (Or.inl ⟨by rfl, ?_⟩) (by assumption) ?_
          rotate_left 1
          · (intro w hSw; (try dsimp only at hSw); first | (go_simp; done) | (go_simp; with_reducible rfl))
          simp only [Act.put, List.getElem_toArray, List.getElem_cons_zero, List.getElem_cons_succ, List.setIfInBounds_toArray, List.set_cons_zero, List.set_cons_succ]
          refine wpAnyH_done (by kernel_rfl) ?_ _
          obtain ⟨b9, r9, x9, _, _, _⟩ := hHeld
          have B9 := Lib.hid b9; have R9 := Lib.hid r9; have X9 := Lib.hid x9
          clear b9 r9 x9
          go_wp2_with fail
          go_roundw
          case rel => exact ⟨j + 1, t', e', by omega, by go_num, HT2, R9, X9, B9⟩
          case measure => simp [intOf]; omega
        · by_cases q2 : kd % 4 = 2
          · have tm : kd.tmod 4 = 2 := by rw [Int.tmod_eq_emod_of_nonneg k0]; exact q2
            clear q0 q1 q2
            obtain ⟨nn, t', e', HT2', RF', RG'⟩ := both_count (e := e) HT.out HS.out KN.out.1 KN.out.2
            have HT2 := Lib.hid HT2'
            have RF := Lib.hid RF'
            have RG : Hid (∀ W : World, Calls Try.prog 20 #[rv S t e, .int .i64 most] W fun en w' => en = .returned (.tuple #[rv S t' e', .int .i64 nn]) ∧ Below W.heap.size W w') := RG'
            clear RF' RG' HT2'
            have i1 : (0 : Int) ≤ (j : Int) := by omega
            have i2 : (j : Int) < (n : Int) := by omega
            have S0 : Hid (∀ W, W = wr.drew → Below w.heap.size w W ∧ RdAt W rb (T S t) e ∧ X3 W xb S t e ∧ W.cell? ⟨xb, 0, none⟩ = some (.string S) ∧ W.cell? ⟨xb, 1, none⟩ = some (.int .i64 t) ∧ W.cell? ⟨xb, 2, none⟩ = some (.int .i64 e) ∧ W.cell? ⟨b, off + j * 2 + 1, none⟩ = some (.int .i64 most)) := by
              intro W e; subst e
              exact ⟨BQ.out.drew, RD.out, XQ.out, XQ.out.c0, XQ.out.c1, XQ.out.c2, HD.out.2⟩
            go_wp2_with fail
            refine wp_region_held_drew (S := fun w' => Below w.heap.size w w' ∧ RdAt w' rb (T S t) e ∧ X3 w' xb S t e ∧ w'.cell? ⟨xb, 0, none⟩ = some (.string S) ∧ w'.cell? ⟨xb, 1, none⟩ = some (.int .i64 t) ∧ w'.cell? ⟨xb, 2, none⟩ = some (.int .i64 e) ∧ w'.cell? ⟨b, off + j * 2 + 1, none⟩ = some (.int .i64 most)) (by kernel_rfl) (S0.out _ rfl) (fun hHeld => ?_)
            clear S0 d1' d2'
            refine wpAnyH_take (i := 0) (v := ?_) rfl (by kernel_rfl) (by kernel_rfl) (by kernel_rfl) (fun _ _ _ h => h) (Or.inl ⟨by rfl, ?_⟩) (by assumption) ?_
            rotate_left 1
            · (intro w hSw; (try dsimp only at hSw); first | (go_simp; done) | (go_simp; with_reducible rfl))
            simp only [Act.put, List.getElem_toArray, List.getElem_cons_zero, List.getElem_cons_succ, List.setIfInBounds_toArray, List.set_cons_zero, List.set_cons_succ]
            refine wpAnyH_take (i := 1) (v := ?_) rfl (by kernel_rfl) (by kernel_rfl) (by kernel_rfl) (fun _ _ _ h => h) (Or.inl ⟨by rfl, ?_⟩) (by assumption) ?_
            rotate_left 1
            · (intro w hSw; (try dsimp only at hSw); first | (go_simp; done) | (go_simp; with_reducible rfl))
            simp only [Act.put, List.getElem_toArray, List.getElem_cons_zero, List.getElem_cons_succ, List.setIfInBounds_toArray, List.set_cons_zero, List.set_cons_succ]
            refine wpAnyH_take (i := 2) (v := ?_) rfl (by kernel_rfl) (by kernel_rfl) (by kernel_rfl) (fun _ _ _ h => h) (Or.inl ⟨by rfl, ?_⟩) (by assumption) ?_
            rotate_left 1
            · (intro w hSw; (try dsimp only at hSw); first | (go_simp; done) | (go_simp; with_reducible rfl))
            simp only [Act.put, List.getElem_toArray, List.getElem_cons_zero, List.getElem_cons_succ, List.setIfInBounds_toArray, List.set_cons_zero, List.set_cons_succ]
            refine wpAnyH_take (i := 3) (v := ?_) rfl (by kernel_rfl) (by kernel_rfl) (by kernel_rfl) (fun _ _ _ h => h) (Or.inl ⟨by rfl, ?_⟩) (by assumption) ?_
            rotate_left 1
            · (intro w hSw; (try dsimp only at hSw); first | (go_simp; done) | (go_simp; with_reducible rfl))
            simp only [Act.put, List.getElem_toArray, List.getElem_cons_zero, List.getElem_cons_succ, List.setIfInBounds_toArray, List.set_cons_zero, List.set_cons_succ]
            refine wpAnyH_take (i := 4) (v := ?_) rfl (by kernel_rfl) (by kernel_rfl) (by kernel_rfl) (fun _ _ _ h => h) (Or.inl ⟨by rfl, ?_⟩) (by assumption) ?_
            rotate_left 1
            · (intro w hSw; (try dsimp only at hSw); first | (go_simp; done) | (go_simp; with_reducible rfl))
            simp only [Act.put, List.getElem_toArray, List.getElem_cons_zero, List.getElem_cons_succ, List.setIfInBounds_toArray, List.set_cons_zero, List.set_cons_succ]
            refine wpAnyH_take (i := 5) (v := ?_) rfl (by kernel_rfl) (by kernel_rfl) (by kernel_rfl) (fun _ _ _ h => h) (Or.inl ⟨by rfl, ?_⟩) (by assumption) ?_
            rotate_left 1
            · (intro w hSw; (try dsimp only at hSw); first | (go_simp; done) | (go_simp; with_reducible rfl))
            simp only [Act.put, List.getElem_toArray, List.getElem_cons_zero, List.getElem_cons_succ, List.setIfInBounds_toArray, List.set_cons_zero, List.set_cons_succ]
            generalize wr.drew = wd at hHeld ⊢
            refine wpAnyH_ready (rs := [6, 10]) (by kernel_rfl) (by simp) ?_
            refine AllReadyH.cons rfl (fun K hK => ?_) (AllReadyH.cons rfl (fun K hK => ?_) AllReadyH.nil)
            · have hS0 := Lib.hid hHeld
              go_simp
              go_wp2_with (go_at_call 20; (with_reducible refine (RG.out _).mono ?_); rintro en w2 ⟨rfl, b2⟩)
              have hS1 := Lib.hid (sx_keep HBL.out b2 hS0.out)
              clear b2
              refine hK.out _ _ hS1.out (fun hHeld2 => ?_)
              clear hK K hHeld hS0; have hHeld := hHeld2; clear hHeld2
              refine wpAnyH_take (i := 7) (v := ?_) rfl (by kernel_rfl) (by kernel_rfl) (by kernel_rfl) (fun _ _ _ h => h) (Or.inl ⟨by rfl, ?_⟩) (by assumption) ?_
              rotate_left 1
              · (intro w hSw; (try dsimp only at hSw); first | (go_simp; done) | (go_simp; with_reducible rfl))
              simp only [Act.put, List.getElem_toArray, List.getElem_cons_zero, List.getElem_cons_succ, List.setIfInBounds_toArray, List.set_cons_zero, List.set_cons_succ]
              refine wpAnyH_take (i := 8) (v := ?_) rfl (by kernel_rfl) (by kernel_rfl) (by kernel_rfl) (fun _ _ _ h => h) (Or.inl ⟨by rfl, ?_⟩) (by assumption) ?_
              rotate_left 1
              · (intro w hSw; (try dsimp only at hSw); first | (go_simp; done) | (go_simp; with_reducible rfl))
              simp only [Act.put, List.getElem_toArray, List.getElem_cons_zero, List.getElem_cons_succ, List.setIfInBounds_toArray, List.set_cons_zero, List.set_cons_succ]
              refine wpAnyH_take (i := 9) (v := ?_) rfl (by kernel_rfl) (by kernel_rfl) (by kernel_rfl) (fun _ _ _ h => h) (Or.inl ⟨by rfl, ?_⟩) (by assumption) ?_
              rotate_left 1
              · (intro w hSw; (try dsimp only at hSw); first | (go_simp; done) | (go_simp; with_reducible rfl))
              simp only [Act.put, List.getElem_toArray, List.getElem_cons_zero, List.getElem_cons_succ, List.setIfInBounds_toArray, List.set_cons_zero, List.set_cons_succ]
              obtain ⟨W4, hW4⟩ : ∃ W4, w2.alloc (Obj.cells #[.string ⟨#[]⟩, .int .i64 0, .int .i64 0] 32) = W4 := ⟨_, rfl⟩
              have b4 := below_alloc w2 (Obj.cells #[.string ⟨#[]⟩, .int .i64 0, .int .i64 0] 32)
              have x4 := X3.new w2 ⟨#[]⟩ 0 0
              rw [hW4] at b4 x4
              have y1 : w.heap.size ≤ w2.heap.size := hS1.out.1.size
              have y2 : rb ≠ w2.heap.size := by have := hS1.out.2.1.lt; omega
              have y3 : xb ≠ w2.heap.size := by have := hS1.out.2.2.1.lt; omega
              have hS4 := Lib.hid (sx_keep HBL.out b4 hS1.out)
              have X4 := Lib.hid x4
              clear b4 x4
              refine wpAnyH_ready (rs := [10]) (by kernel_rfl) (by simp) ?_
              refine AllReadyH.cons rfl (fun K hK => ?_) AllReadyH.nil
              go_simp
              refine hK.out _ _ hS4.out (fun hHeld2 => ?_)
              clear hK K hHeld; have hHeld := hHeld2; clear hHeld2
              obtain ⟨W5, hW5, x5, _⟩ := set_fold S t' e' X4.out
              have h0 := X4.out.fr (i := 0); have h1 := X4.out.fr (i := 1); have h2 := X4.out.fr (i := 2)
              have k40 := X4.out.c0; have k41 := X4.out.c1; have k42 := X4.out.c2
              have hS5 := Lib.hid (sx_set HBL.out y1 y2 y3 hW5 hS4.out)
              refine wpAnyH_ready (rs := [11]) (by kernel_rfl) (by simp) ?_
              refine AllReadyH.cons rfl (fun K hK => ?_) AllReadyH.nil
              go_simp
              refine hK.out _ _ hS5.out (fun hHeld2 => ?_)
              clear hK K hHeld; have hHeld := hHeld2; clear hHeld2
              refine wpAnyH_take (i := 12) (v := ?_) rfl (by kernel_rfl) (by kernel_rfl) (by kernel_rfl) (fun _ _ _ h => h) (Or.inl ⟨by rfl, ?_⟩) (by assumption) ?_
              rotate_left 1
              · (intro w hSw; (try dsimp only at hSw); first | (go_simp; done) | (go_simp; with_reducible rfl))
              simp only [Act.put, List.getElem_toArray, List.getElem_cons_zero, List.getElem_cons_succ, List.setIfInBounds_toArray, List.set_cons_zero, List.set_cons_succ]
              refine wpAnyH_done (by kernel_rfl) ?_ _
              obtain ⟨hb5, rr, xx, _, _, _, o5⟩ := hS5.out
              clear hHeld hS5 hS4 hS1 h0 h1 h2 k40 k41 k42
              have i0 := x5.c0; have i1' := x5.c1; have i2' := x5.c2
              have f0 := xx.fr (i := 0); have f1 := xx.fr (i := 1); have f2 := xx.fr (i := 2)
              have d0 := xx.c0; have d1 := xx.c1; have d2 := xx.c2
              obtain ⟨W6, hW6, x6, b6⟩ := set_fold S t' e' xx
              replace rr := rr.set hW6 hne
              have B6 := hb5.trans (b6 w.heap.size HXB.out)
              have o6 : W6.cell? ⟨b, off + j * 2 + 1, none⟩ = some (.int .i64 most) := by rw [(b6 w.heap.size HXB.out).cell (by exact HBL.out)]; exact o5
              have R6 := Lib.hid rr; have X6 := Lib.hid x6; have BB6 := Lib.hid B6
              clear x5 xx rr x6 B6 b6 hb5 o5 X4
              go_wp2_with fail
              refine (RF.out W6 rb R6.out).mono ?_; rintro en w7 ⟨rfl, r7, b7, k7⟩
              have X7 : Hid (X3 w7 xb S t' e') := by show X3 _ _ _ _ _; unfold X3; rw [k7 xb X6.out.lt (Ne.symm hne)]; exact X6.out
              have R7 := Lib.hid r7
              have B7 := Lib.hid (BB6.out.trans (b7.mono HRB.out))
              clear r7 b7 k7
              go_wp2_with fail
              have S0 : Hid (∀ W, W = w7.drew → Below w.heap.size w W ∧ RdAt W rb (T S t') e' ∧ X3 W xb S t' e' ∧ W.cell? ⟨xb, 0, none⟩ = some (.string S) ∧ W.cell? ⟨xb, 1, none⟩ = some (.int .i64 t') ∧ W.cell? ⟨xb, 2, none⟩ = some (.int .i64 e')) := by
                intro W e; subst e
                exact ⟨B7.out.drew, R7.out, X7.out, X7.out.c0, X7.out.c1, X7.out.c2⟩
              refine wp_region_held_drew (S := fun w' => Below w.heap.size w w' ∧ RdAt w' rb (T S t') e' ∧ X3 w' xb S t' e' ∧ w'.cell? ⟨xb, 0, none⟩ = some (.string S) ∧ w'.cell? ⟨xb, 1, none⟩ = some (.int .i64 t') ∧ w'.cell? ⟨xb, 2, none⟩ = some (.int .i64 e')) (by kernel_rfl) (S0.out _ rfl) (fun hHeld => ?_)
              clear S0
              refine wpAnyH_take (i := 0) (v := ?_) rfl (by kernel_rfl) (by kernel_rfl) (by kernel_rfl) (fun _ _ _ h => h) (Or.inl ⟨by rfl, ?_⟩) (by assumption) ?_
              rotate_left 1
              · (intro w hSw; (try dsimp only at hSw); first | (go_simp; done) | (go_simp; with_reducible rfl))
              simp only [Act.put, List.getElem_toArray, List.getElem_cons_zero, List.getElem_cons_succ, List.setIfInBounds_toArray, List.set_cons_zero, List.set_cons_succ]
              refine wpAnyH_take (i := 2) (v := ?_) rfl (by kernel_rfl) (by kernel_rfl) (by kernel_rfl) (fun _ _ _ h => h) (Or.inl ⟨by rfl, ?_⟩) (by assumption) ?_
              rotate_left 1
              · (intro w hSw; (try dsimp only at hSw); first | (go_simp; done) | (go_simp; with_reducible rfl))
              simp only [Act.put, List.getElem_toArray, List.getElem_cons_zero, List.getElem_cons_succ, List.setIfInBounds_toArray, List.set_cons_zero, List.set_cons_succ]
              refine wpAnyH_ready (rs := [1]) (by kernel_rfl) (by simp) ?_
              refine AllReadyH.cons rfl (fun K hK => ?_) AllReadyH.nil
              have hS1 := Lib.hid hHeld
              go_simp
              go_wp2_with (go_at_call 24; (with_reducible refine (left_any hS1.out.2.1).mono ?_); rintro en w8 ⟨rfl, rfl⟩)
              refine hK.out _ _ (by first | assumption | exact hS1.out) (fun hHeld2 => ?_)
              clear hK K hHeld hS1; have hHeld := hHeld2; clear hHeld2
              refine wpAnyH_ready (rs := [3]) (by kernel_rfl) (by simp) ?_
              refine AllReadyH.cons rfl (fun K hK => ?_) AllReadyH.nil
              have hS1 := Lib.hid hHeld
              go_simp
              go_wp2_with (go_at_call 25; (with_reducible refine (rleft_any S t' e' _ HT2.out HS.out).mono ?_); rintro en w8 ⟨rfl, b8⟩)
              refine hK.out _ _ (s_keep b8 hS1.out) (fun hHeld2 => ?_)
              clear b8
              clear hK K hHeld hS1; have hHeld := hHeld2; clear hHeld2
              refine wpAnyH_take (i := 4) (v := ?_) rfl (by kernel_rfl) (by kernel_rfl) (by kernel_rfl) (fun _ _ _ h => h) (Or.inl ⟨by rfl, ?_⟩) (by assumption) ?_
              rotate_left 1
              · (intro w hSw; (try dsimp only at hSw); first | (go_simp; done) | (go_simp; with_reducible rfl))
              simp only [Act.put, List.getElem_toArray, List.getElem_cons_zero, List.getElem_cons_succ, List.setIfInBounds_toArray, List.set_cons_zero, List.set_cons_succ]
              refine wpAnyH_take (i := 5) (v := ?_) rfl (by kernel_rfl) (by kernel_rfl) (by kernel_rfl) (fun _ _ _ h => h) (Or.inl ⟨by rfl, ?_⟩) (by assumption) ?_
              rotate_left 1
              · (intro w hSw; (try dsimp only at hSw); first | (go_simp; done) | (go_simp; with_reducible rfl))
              simp only [Act.put, List.getElem_toArray, List.getElem_cons_zero, List.getElem_cons_succ, List.setIfInBounds_toArray, List.set_cons_zero, List.set_cons_succ]
              refine wpAnyH_take (i := 6) (v := ?_) rfl (by kernel_rfl) (by kernel_rfl) (by kernel_rfl) (fun _ _ _ h => h) (Or.inl ⟨by rfl, ?_⟩) (by assumption) ?_
              rotate_left 1
              · (intro w hSw; (try dsimp only at hSw); first | (go_simp; done) | (go_simp; with_reducible rfl))
              simp only [Act.put, List.getElem_toArray, List.getElem_cons_zero, List.getElem_cons_succ, List.setIfInBounds_toArray, List.set_cons_zero, List.set_cons_succ]
              refine wpAnyH_take (i := 8) (v := ?_) rfl (by kernel_rfl) (by kernel_rfl) (by kernel_rfl) (fun _ _ _ h => h) (Or.inl ⟨by rfl, ?_⟩) (by assumption) ?_
              rotate_left 1
              · (intro w hSw; (try dsimp only at hSw); first | (go_simp; done) | (go_simp; with_reducible rfl))
              simp only [Act.put, List.getElem_toArray, List.getElem_cons_zero, List.getElem_cons_succ, List.setIfInBounds_toArray, List.set_cons_zero, List.set_cons_succ]
              refine wpAnyH_ready (rs := [7]) (by kernel_rfl) (by simp) ?_
              refine AllReadyH.cons rfl (fun K hK => ?_) AllReadyH.nil
              have hS1 := Lib.hid hHeld
              go_simp
              go_wp2_with (go_at_call 26; (with_reducible refine (err_any hS1.out.2.1).mono ?_); rintro en w8 ⟨rfl, rfl⟩)
              refine hK.out _ _ (by first | assumption | exact hS1.out) (fun hHeld2 => ?_)
              clear hK K hHeld hS1; have hHeld := hHeld2; clear hHeld2
              refine wpAnyH_ready (rs := [9]) (by kernel_rfl) (by simp) ?_
              refine AllReadyH.cons rfl (fun K hK => ?_) AllReadyH.nil
              have hS1 := Lib.hid hHeld
              go_simp
              go_wp2_with (go_at_call 27; (with_reducible refine (rerr_any S t' e' _).mono ?_); rintro en w8 ⟨rfl, b8⟩)
              refine hK.out _ _ (s_keep b8 hS1.out) (fun hHeld2 => ?_)
              clear b8
              clear hK K hHeld hS1; have hHeld := hHeld2; clear hHeld2
              refine wpAnyH_take (i := 10) (v := ?_) rfl (by kernel_rfl) (by kernel_rfl) (by kernel_rfl) (fun _ _ _ h => h) (Or.inl ⟨by rfl, ?_⟩) (by assumption) ?_
              rotate_left 1
              · (intro w hSw; (try dsimp only at hSw); first | (go_simp; done) | (go_simp; with_reducible rfl))
              simp only [Act.put, List.getElem_toArray, List.getElem_cons_zero, List.getElem_cons_succ, List.setIfInBounds_toArray, List.set_cons_zero, List.set_cons_succ]
              refine wpAnyH_take (i := 11) (v := ?_) rfl (by kernel_rfl) (by kernel_rfl) (by kernel_rfl) (fun _ _ _ h => h) (Or.inl ⟨by rfl, ?_⟩) (by assumption) ?_
              rotate_left 1
              · (intro w hSw; (try dsimp only at hSw); first | (go_simp; done) | (go_simp; with_reducible rfl))
              simp only [Act.put, List.getElem_toArray, List.getElem_cons_zero, List.getElem_cons_succ, List.setIfInBounds_toArray, List.set_cons_zero, List.set_cons_succ]
              refine wpAnyH_take (i := 12) (v := ?_) rfl (by kernel_rfl) (by kernel_rfl) (by kernel_rfl) (fun _ _ _ h => h) (Or.inl ⟨by rfl, ?_⟩) (by assumption) ?_
              rotate_left 1
              · (intro w hSw; (try dsimp only at hSw); first | (go_simp; done) | (go_simp; with_reducible rfl))
              simp only [Act.put, List.getElem_toArray, List.getElem_cons_zero, List.getElem_cons_succ, List.setIfInBounds_toArray, List.set_cons_zero, List.set_cons_succ]
              refine wpAnyH_take (i := 13) (v := ?_) rfl (by kernel_rfl) (by kernel_rfl) (by kernel_rfl) (fun _ _ _ h => h) (Or.inl ⟨by rfl, ?_⟩) (by assumption) ?_
              rotate_left 1
              · (intro w hSw; (try dsimp only at hSw); first | (go_simp; done) | (go_simp; with_reducible rfl))
              simp only [Act.put, List.getElem_toArray, List.getElem_cons_zero, List.getElem_cons_succ, List.setIfInBounds_toArray, List.set_cons_zero, List.set_cons_succ]
              refine wpAnyH_take (i := 15) (v := ?_) rfl (by kernel_rfl) (by kernel_rfl) (by kernel_rfl) (fun _ _ _ h => h) (Or.inl ⟨by rfl, ?_⟩) (by assumption) ?_
              rotate_left 1
              · (intro w hSw; (try dsimp only at hSw); first | (go_simp; done) | (go_simp; with_reducible rfl))
              simp only [Act.put, List.getElem_toArray, List.getElem_cons_zero, List.getElem_cons_succ, List.setIfInBounds_toArray, List.set_cons_zero, List.set_cons_succ]
              refine wpAnyH_ready (rs := [14]) (by kernel_rfl) (by simp) ?_
              refine AllReadyH.cons rfl (fun K hK => ?_) AllReadyH.nil
              have hS1 := Lib.hid hHeld
              go_simp
              go_wp2_with (go_at_call 28; (with_reducible refine (done_any hS1.out.2.1).mono ?_); rintro en w8 ⟨rfl, rfl⟩)
              refine hK.out _ _ (by first | assumption | exact hS1.out) (fun hHeld2 => ?_)
              clear hK K hHeld hS1; have hHeld := hHeld2; clear hHeld2
              refine wpAnyH_ready (rs := [16]) (by kernel_rfl) (by simp) ?_
              refine AllReadyH.cons rfl (fun K hK => ?_) AllReadyH.nil
              have hS1 := Lib.hid hHeld
              go_simp
              go_wp2_with (go_at_call 29; (with_reducible refine (rdone_any S t' e' _ HT2.out HS.out).mono ?_); rintro en w8 ⟨rfl, b8⟩)
              refine hK.out _ _ (s_keep b8 hS1.out) (fun hHeld2 => ?_)
              clear b8
              clear hK K hHeld hS1; have hHeld := hHeld2; clear hHeld2
              refine wpAnyH_take (i := 17) (v := ?_) rfl (by kernel_rfl) (by kernel_rfl) (by kernel_rfl) (fun _ _ _ h => h) (Or.inl ⟨by rfl, ?_⟩) (by assumption) ?_
              rotate_left 1
              · (intro w hSw; (try dsimp only at hSw); first | (go_simp; done) | (go_simp; with_reducible rfl))
              simp only [Act.put, List.getElem_toArray, List.getElem_cons_zero, List.getElem_cons_succ, List.setIfInBounds_toArray, List.set_cons_zero, List.set_cons_succ]
              refine wpAnyH_take (i := 18) (v := ?_) rfl (by kernel_rfl) (by kernel_rfl) (by kernel_rfl) (fun _ _ _ h => h) (Or.inl ⟨by rfl, ?_⟩) (by assumption) ?_
              rotate_left 1
              · (intro w hSw; (try dsimp only at hSw); first | (go_simp; done) | (go_simp; with_reducible rfl))
              simp only [Act.put, List.getElem_toArray, List.getElem_cons_zero, List.getElem_cons_succ, List.setIfInBounds_toArray, List.set_cons_zero, List.set_cons_succ]
              refine wpAnyH_done (by kernel_rfl) ?_ _
              obtain ⟨b9, r9, x9, _, _, _⟩ := hHeld
              have B9 := Lib.hid b9; have R9 := Lib.hid r9; have X9 := Lib.hid x9
              clear b9 r9 x9
              go_wp2_with fail
              go_roundw
              case rel => exact ⟨j + 1, t', e', by omega, by go_num, HT2, R9, X9, B9⟩
              case measure => simp [intOf]; omega
            · have hS1 := Lib.hid hHeld
              obtain ⟨W4, hW4⟩ : ∃ W4, wd.alloc (Obj.cells #[.string ⟨#[]⟩, .int .i64 0, .int .i64 0] 32) = W4 := ⟨_, rfl⟩
              have b4 := below_alloc wd (Obj.cells #[.string ⟨#[]⟩, .int .i64 0, .int .i64 0] 32)
              have x4 := X3.new wd ⟨#[]⟩ 0 0
              rw [hW4] at b4 x4
              have y1 : w.heap.size ≤ wd.heap.size := hS1.out.1.size
              have y2 : rb ≠ wd.heap.size := by have := hS1.out.2.1.lt; omega
              have y3 : xb ≠ wd.heap.size := by have := hS1.out.2.2.1.lt; omega
              have hS4 := Lib.hid (sx_keep HBL.out b4 hS1.out)
              have X4 := Lib.hid x4
              clear b4 x4
              go_simp
              refine hK.out _ _ hS4.out (fun hHeld2 => ?_)
              clear hK K hHeld; have hHeld := hHeld2; clear hHeld2
              refine wpAnyH_ready (rs := [6]) (by kernel_rfl) (by simp) ?_
              refine AllReadyH.cons rfl (fun K hK => ?_) AllReadyH.nil
              go_simp
              go_wp2_with (go_at_call 20; (with_reducible refine (RG.out _).mono ?_); rintro en w2 ⟨rfl, b2⟩)
              replace hS4 := Lib.hid (sx_keep HBL.out b2 hS4.out)
              replace X4 := Lib.hid (X4.out.below b2 X4.out.lt)
              clear b2
              refine hK.out _ _ hS4.out (fun hHeld2 => ?_)
              clear hK K hHeld; have hHeld := hHeld2; clear hHeld2
              refine wpAnyH_take (i := 7) (v := ?_) rfl (by kernel_rfl) (by kernel_rfl) (by kernel_rfl) (fun _ _ _ h => h) (Or.inl ⟨by rfl, ?_⟩) (by assumption) ?_
              rotate_left 1
              · (intro w hSw; (try dsimp only at hSw); first | (go_simp; done) | (go_simp; with_reducible rfl))
              simp only [Act.put, List.getElem_toArray, List.getElem_cons_zero, List.getElem_cons_succ, List.setIfInBounds_toArray, List.set_cons_zero, List.set_cons_succ]
              refine wpAnyH_take (i := 8) (v := ?_) rfl (by kernel_rfl) (by kernel_rfl) (by kernel_rfl) (fun _ _ _ h => h) (Or.inl ⟨by rfl, ?_⟩) (by assumption) ?_
              rotate_left 1
              · (intro w hSw; (try dsimp only at hSw); first | (go_simp; done) | (go_simp; with_reducible rfl))
              simp only [Act.put, List.getElem_toArray, List.getElem_cons_zero, List.getElem_cons_succ, List.setIfInBounds_toArray, List.set_cons_zero, List.set_cons_succ]
              refine wpAnyH_take (i := 9) (v := ?_) rfl (by kernel_rfl) (by kernel_rfl) (by kernel_rfl) (fun _ _ _ h => h) (Or.inl ⟨by rfl, ?_⟩) (by assumption) ?_
              rotate_left 1
              · (intro w hSw; (try dsimp only at hSw); first | (go_simp; done) | (go_simp; with_reducible rfl))
              simp only [Act.put, List.getElem_toArray, List.getElem_cons_zero, List.getElem_cons_succ, List.setIfInBounds_toArray, List.set_cons_zero, List.set_cons_succ]
              obtain ⟨W5, hW5, x5, _⟩ := set_fold S t' e' X4.out
              have h0 := X4.out.fr (i := 0); have h1 := X4.out.fr (i := 1); have h2 := X4.out.fr (i := 2)
              have k40 := X4.out.c0; have k41 := X4.out.c1; have k42 := X4.out.c2
              have hS5 := Lib.hid (sx_set HBL.out y1 y2 y3 hW5 hS4.out)
              refine wpAnyH_ready (rs := [11]) (by kernel_rfl) (by simp) ?_
              refine AllReadyH.cons rfl (fun K hK => ?_) AllReadyH.nil
              go_simp
              refine hK.out _ _ hS5.out (fun hHeld2 => ?_)
              clear hK K hHeld; have hHeld := hHeld2; clear hHeld2
              refine wpAnyH_take (i := 12) (v := ?_) rfl (by kernel_rfl) (by kernel_rfl) (by kernel_rfl) (fun _ _ _ h => h) (Or.inl ⟨by rfl, ?_⟩) (by assumption) ?_
              rotate_left 1
              · (intro w hSw; (try dsimp only at hSw); first | (go_simp; done) | (go_simp; with_reducible rfl))
              simp only [Act.put, List.getElem_toArray, List.getElem_cons_zero, List.getElem_cons_succ, List.setIfInBounds_toArray, List.set_cons_zero, List.set_cons_succ]
              refine wpAnyH_done (by kernel_rfl) ?_ _
              obtain ⟨hb5, rr, xx, _, _, _, o5⟩ := hS5.out
              clear hHeld hS5 hS4 hS1 h0 h1 h2 k40 k41 k42
              have i0 := x5.c0; have i1' := x5.c1; have i2' := x5.c2
              have f0 := xx.fr (i := 0); have f1 := xx.fr (i := 1); have f2 := xx.fr (i := 2)
              have d0 := xx.c0; have d1 := xx.c1; have d2 := xx.c2
              obtain ⟨W6, hW6, x6, b6⟩ := set_fold S t' e' xx
              replace rr := rr.set hW6 hne
              have B6 := hb5.trans (b6 w.heap.size HXB.out)
              have o6 : W6.cell? ⟨b, off + j * 2 + 1, none⟩ = some (.int .i64 most) := by rw [(b6 w.heap.size HXB.out).cell (by exact HBL.out)]; exact o5
              have R6 := Lib.hid rr; have X6 := Lib.hid x6; have BB6 := Lib.hid B6
              clear x5 xx rr x6 B6 b6 hb5 o5 X4
              go_wp2_with fail
              refine (RF.out W6 rb R6.out).mono ?_; rintro en w7 ⟨rfl, r7, b7, k7⟩
              have X7 : Hid (X3 w7 xb S t' e') := by show X3 _ _ _ _ _; unfold X3; rw [k7 xb X6.out.lt (Ne.symm hne)]; exact X6.out
              have R7 := Lib.hid r7
              have B7 := Lib.hid (BB6.out.trans (b7.mono HRB.out))
              clear r7 b7 k7
              go_wp2_with fail
              have S0 : Hid (∀ W, W = w7.drew → Below w.heap.size w W ∧ RdAt W rb (T S t') e' ∧ X3 W xb S t' e' ∧ W.cell? ⟨xb, 0, none⟩ = some (.string S) ∧ W.cell? ⟨xb, 1, none⟩ = some (.int .i64 t') ∧ W.cell? ⟨xb, 2, none⟩ = some (.int .i64 e')) := by
                intro W e; subst e
                exact ⟨B7.out.drew, R7.out, X7.out, X7.out.c0, X7.out.c1, X7.out.c2⟩
              refine wp_region_held_drew (S := fun w' => Below w.heap.size w w' ∧ RdAt w' rb (T S t') e' ∧ X3 w' xb S t' e' ∧ w'.cell? ⟨xb, 0, none⟩ = some (.string S) ∧ w'.cell? ⟨xb, 1, none⟩ = some (.int .i64 t') ∧ w'.cell? ⟨xb, 2, none⟩ = some (.int .i64 e')) (by kernel_rfl) (S0.out _ rfl) (fun hHeld => ?_)
              clear S0
              refine wpAnyH_take (i := 0) (v := ?_) rfl (by kernel_rfl) (by kernel_rfl) (by kernel_rfl) (fun _ _ _ h => h) (Or.inl ⟨by rfl, ?_⟩) (by assumption) ?_
              rotate_left 1
              · (intro w hSw; (try dsimp only at hSw); first | (go_simp; done) | (go_simp; with_reducible rfl))
              simp only [Act.put, List.getElem_toArray, List.getElem_cons_zero, List.getElem_cons_succ, List.setIfInBounds_toArray, List.set_cons_zero, List.set_cons_succ]
              refine wpAnyH_take (i := 2) (v := ?_) rfl (by kernel_rfl) (by kernel_rfl) (by kernel_rfl) (fun _ _ _ h => h) (Or.inl ⟨by rfl, ?_⟩) (by assumption) ?_
              rotate_left 1
              · (intro w hSw; (try dsimp only at hSw); first | (go_simp; done) | (go_simp; with_reducible rfl))
              simp only [Act.put, List.getElem_toArray, List.getElem_cons_zero, List.getElem_cons_succ, List.setIfInBounds_toArray, List.set_cons_zero, List.set_cons_succ]
              refine wpAnyH_ready (rs := [1]) (by kernel_rfl) (by simp) ?_
              refine AllReadyH.cons rfl (fun K hK => ?_) AllReadyH.nil
              have hS1 := Lib.hid hHeld
              go_simp
              go_wp2_with (go_at_call 24; (with_reducible refine (left_any hS1.out.2.1).mono ?_); rintro en w8 ⟨rfl, rfl⟩)
              refine hK.out _ _ (by first | assumption | exact hS1.out) (fun hHeld2 => ?_)
              clear hK K hHeld hS1; have hHeld := hHeld2; clear hHeld2
              refine wpAnyH_ready (rs := [3]) (by kernel_rfl) (by simp) ?_
              refine AllReadyH.cons rfl (fun K hK => ?_) AllReadyH.nil
              have hS1 := Lib.hid hHeld
              go_simp
              go_wp2_with (go_at_call 25; (with_reducible refine (rleft_any S t' e' _ HT2.out HS.out).mono ?_); rintro en w8 ⟨rfl, b8⟩)
              refine hK.out _ _ (s_keep b8 hS1.out) (fun hHeld2 => ?_)
              clear b8
              clear hK K hHeld hS1; have hHeld := hHeld2; clear hHeld2
              refine wpAnyH_take (i := 4) (v := ?_) rfl (by kernel_rfl) (by kernel_rfl) (by kernel_rfl) (fun _ _ _ h => h) (Or.inl ⟨by rfl, ?_⟩) (by assumption) ?_
              rotate_left 1
              · (intro w hSw; (try dsimp only at hSw); first | (go_simp; done) | (go_simp; with_reducible rfl))
              simp only [Act.put, List.getElem_toArray, List.getElem_cons_zero, List.getElem_cons_succ, List.setIfInBounds_toArray, List.set_cons_zero, List.set_cons_succ]
              refine wpAnyH_take (i := 5) (v := ?_) rfl (by kernel_rfl) (by kernel_rfl) (by kernel_rfl) (fun _ _ _ h => h) (Or.inl ⟨by rfl, ?_⟩) (by assumption) ?_
              rotate_left 1
              · (intro w hSw; (try dsimp only at hSw); first | (go_simp; done) | (go_simp; with_reducible rfl))
              simp only [Act.put, List.getElem_toArray, List.getElem_cons_zero, List.getElem_cons_succ, List.setIfInBounds_toArray, List.set_cons_zero, List.set_cons_succ]
              refine wpAnyH_take (i := 6) (v := ?_) rfl (by kernel_rfl) (by kernel_rfl) (by kernel_rfl) (fun _ _ _ h => h) (Or.inl ⟨by rfl, ?_⟩) (by assumption) ?_
              rotate_left 1
              · (intro w hSw; (try dsimp only at hSw); first | (go_simp; done) | (go_simp; with_reducible rfl))
              simp only [Act.put, List.getElem_toArray, List.getElem_cons_zero, List.getElem_cons_succ, List.setIfInBounds_toArray, List.set_cons_zero, List.set_cons_succ]
              refine wpAnyH_take (i := 8) (v := ?_) rfl (by kernel_rfl) (by kernel_rfl) (by kernel_rfl) (fun _ _ _ h => h) (Or.inl ⟨by rfl, ?_⟩) (by assumption) ?_
              rotate_left 1
              · (intro w hSw; (try dsimp only at hSw); first | (go_simp; done) | (go_simp; with_reducible rfl))
              simp only [Act.put, List.getElem_toArray, List.getElem_cons_zero, List.getElem_cons_succ, List.setIfInBounds_toArray, List.set_cons_zero, List.set_cons_succ]
              refine wpAnyH_ready (rs := [7]) (by kernel_rfl) (by simp) ?_
              refine AllReadyH.cons rfl (fun K hK => ?_) AllReadyH.nil
              have hS1 := Lib.hid hHeld
              go_simp
              go_wp2_with (go_at_call 26; (with_reducible refine (err_any hS1.out.2.1).mono ?_); rintro en w8 ⟨rfl, rfl⟩)
              refine hK.out _ _ (by first | assumption | exact hS1.out) (fun hHeld2 => ?_)
              clear hK K hHeld hS1; have hHeld := hHeld2; clear hHeld2
              refine wpAnyH_ready (rs := [9]) (by kernel_rfl) (by simp) ?_
              refine AllReadyH.cons rfl (fun K hK => ?_) AllReadyH.nil
              have hS1 := Lib.hid hHeld
              go_simp
              go_wp2_with (go_at_call 27; (with_reducible refine (rerr_any S t' e' _).mono ?_); rintro en w8 ⟨rfl, b8⟩)
              refine hK.out _ _ (s_keep b8 hS1.out) (fun hHeld2 => ?_)
              clear b8
              clear hK K hHeld hS1; have hHeld := hHeld2; clear hHeld2
              refine wpAnyH_take (i := 10) (v := ?_) rfl (by kernel_rfl) (by kernel_rfl) (by kernel_rfl) (fun _ _ _ h => h) (Or.inl ⟨by rfl, ?_⟩) (by assumption) ?_
              rotate_left 1
              · (intro w hSw; (try dsimp only at hSw); first | (go_simp; done) | (go_simp; with_reducible rfl))
              simp only [Act.put, List.getElem_toArray, List.getElem_cons_zero, List.getElem_cons_succ, List.setIfInBounds_toArray, List.set_cons_zero, List.set_cons_succ]
              refine wpAnyH_take (i := 11) (v := ?_) rfl (by kernel_rfl) (by kernel_rfl) (by kernel_rfl) (fun _ _ _ h => h) (Or.inl ⟨by rfl, ?_⟩) (by assumption) ?_
              rotate_left 1
              · (intro w hSw; (try dsimp only at hSw); first | (go_simp; done) | (go_simp; with_reducible rfl))
              simp only [Act.put, List.getElem_toArray, List.getElem_cons_zero, List.getElem_cons_succ, List.setIfInBounds_toArray, List.set_cons_zero, List.set_cons_succ]
              refine wpAnyH_take (i := 12) (v := ?_) rfl (by kernel_rfl) (by kernel_rfl) (by kernel_rfl) (fun _ _ _ h => h) (Or.inl ⟨by rfl, ?_⟩) (by assumption) ?_
              rotate_left 1
              · (intro w hSw; (try dsimp only at hSw); first | (go_simp; done) | (go_simp; with_reducible rfl))
              simp only [Act.put, List.getElem_toArray, List.getElem_cons_zero, List.getElem_cons_succ, List.setIfInBounds_toArray, List.set_cons_zero, List.set_cons_succ]
              refine wpAnyH_take (i := 13) (v := ?_) rfl (by kernel_rfl) (by kernel_rfl) (by kernel_rfl) (fun _ _ _ h => h) (Or.inl ⟨by rfl, ?_⟩) (by assumption) ?_
              rotate_left 1
              · (intro w hSw; (try dsimp only at hSw); first | (go_simp; done) | (go_simp; with_reducible rfl))
              simp only [Act.put, List.getElem_toArray, List.getElem_cons_zero, List.getElem_cons_succ, List.setIfInBounds_toArray, List.set_cons_zero, List.set_cons_succ]
              refine wpAnyH_take (i := 15) (v := ?_) rfl (by kernel_rfl) (by kernel_rfl) (by kernel_rfl) (fun _ _ _ h => h) (Or.inl ⟨by rfl, ?_⟩) (by assumption) ?_
              rotate_left 1
              · (intro w hSw; (try dsimp only at hSw); first | (go_simp; done) | (go_simp; with_reducible rfl))
              simp only [Act.put, List.getElem_toArray, List.getElem_cons_zero, List.getElem_cons_succ, List.setIfInBounds_toArray, List.set_cons_zero, List.set_cons_succ]
              refine wpAnyH_ready (rs := [14]) (by kernel_rfl) (by simp) ?_
              refine AllReadyH.cons rfl (fun K hK => ?_) AllReadyH.nil
              have hS1 := Lib.hid hHeld
              go_simp
              go_wp2_with (go_at_call 28; (with_reducible refine (done_any hS1.out.2.1).mono ?_); rintro en w8 ⟨rfl, rfl⟩)
              refine hK.out _ _ (by first | assumption | exact hS1.out) (fun hHeld2 => ?_)
              clear hK K hHeld hS1; have hHeld := hHeld2; clear hHeld2
              refine wpAnyH_ready (rs := [16]) (by kernel_rfl) (by simp) ?_
              refine AllReadyH.cons rfl (fun K hK => ?_) AllReadyH.nil
              have hS1 := Lib.hid hHeld
              go_simp
              go_wp2_with (go_at_call 29; (with_reducible refine (rdone_any S t' e' _ HT2.out HS.out).mono ?_); rintro en w8 ⟨rfl, b8⟩)
              refine hK.out _ _ (s_keep b8 hS1.out) (fun hHeld2 => ?_)
              clear b8
              clear hK K hHeld hS1; have hHeld := hHeld2; clear hHeld2
              refine wpAnyH_take (i := 17) (v := ?_) rfl (by kernel_rfl) (by kernel_rfl) (by kernel_rfl) (fun _ _ _ h => h) (Or.inl ⟨by rfl, ?_⟩) (by assumption) ?_
              rotate_left 1
              · (intro w hSw; (try dsimp only at hSw); first | (go_simp; done) | (go_simp; with_reducible rfl))
              simp only [Act.put, List.getElem_toArray, List.getElem_cons_zero, List.getElem_cons_succ, List.setIfInBounds_toArray, List.set_cons_zero, List.set_cons_succ]
              refine wpAnyH_take (i := 18) (v := ?_) rfl (by kernel_rfl) (by kernel_rfl) (by kernel_rfl) (fun _ _ _ h => h) (Or.inl ⟨by rfl, ?_⟩) (by assumption) ?_
              rotate_left 1
              · (intro w hSw; (try dsimp only at hSw); first | (go_simp; done) | (go_simp; with_reducible rfl))
              simp only [Act.put, List.getElem_toArray, List.getElem_cons_zero, List.getElem_cons_succ, List.setIfInBounds_toArray, List.set_cons_zero, List.set_cons_succ]
              refine wpAnyH_done (by kernel_rfl) ?_ _
              obtain ⟨b9, r9, x9, _, _, _⟩ := hHeld
              have B9 := Lib.hid b9; have R9 := Lib.hid r9; have X9 := Lib.hid x9
              clear b9 r9 x9
              go_wp2_with fail
              go_roundw
              case rel => exact ⟨j + 1, t', e', by omega, by go_num, HT2, R9, X9, B9⟩
              case measure => simp [intOf]; omega
          · have q3 : kd % 4 = 3 := by omega
            have tm : kd.tmod 4 = 3 := by rw [Int.tmod_eq_emod_of_nonneg k0]; exact q3
            clear q0 q1 q2 q3
            obtain ⟨nn, t', e', HT2', RF', RG'⟩ := both_text (e := e) HT.out HS.out KN.out.1 KN.out.2
            have HT2 := Lib.hid HT2'
            have RF := Lib.hid RF'
            have RG : Hid (∀ W : World, Calls Try.prog 22 #[rv S t e, .int .i64 most] W fun en w' => en = .returned (.tuple #[rv S t' e', .string nn]) ∧ Below W.heap.size W w') := RG'
            clear RF' RG' HT2'
            have i1 : (0 : Int) ≤ (j : Int) := by omega
            have i2 : (j : Int) < (n : Int) := by omega
            have S0 : Hid (∀ W, W = wr.drew → Below w.heap.size w W ∧ RdAt W rb (T S t) e ∧ X3 W xb S t e ∧ W.cell? ⟨xb, 0, none⟩ = some (.string S) ∧ W.cell? ⟨xb, 1, none⟩ = some (.int .i64 t) ∧ W.cell? ⟨xb, 2, none⟩ = some (.int .i64 e) ∧ W.cell? ⟨b, off + j * 2 + 1, none⟩ = some (.int .i64 most)) := by
              intro W e; subst e
              exact ⟨BQ.out.drew, RD.out, XQ.out, XQ.out.c0, XQ.out.c1, XQ.out.c2, HD.out.2⟩
            go_wp2_with fail
            refine wp_region_held_drew (S := fun w' => Below w.heap.size w w' ∧ RdAt w' rb (T S t) e ∧ X3 w' xb S t e ∧ w'.cell? ⟨xb, 0, none⟩ = some (.string S) ∧ w'.cell? ⟨xb, 1, none⟩ = some (.int .i64 t) ∧ w'.cell? ⟨xb, 2, none⟩ = some (.int .i64 e) ∧ w'.cell? ⟨b, off + j * 2 + 1, none⟩ = some (.int .i64 most)) (by kernel_rfl) (S0.out _ rfl) (fun hHeld => ?_)
            clear S0 d1' d2'
            refine wpAnyH_take (i := 0) (v := ?_) rfl (by kernel_rfl) (by kernel_rfl) (by kernel_rfl) (fun _ _ _ h => h) (Or.inl ⟨by rfl, ?_⟩) (by assumption) ?_
            rotate_left 1
            · (intro w hSw; (try dsimp only at hSw); first | (go_simp; done) | (go_simp; with_reducible rfl))
            simp only [Act.put, List.getElem_toArray, List.getElem_cons_zero, List.getElem_cons_succ, List.setIfInBounds_toArray, List.set_cons_zero, List.set_cons_succ]
            refine wpAnyH_take (i := 1) (v := ?_) rfl (by kernel_rfl) (by kernel_rfl) (by kernel_rfl) (fun _ _ _ h => h) (Or.inl ⟨by rfl, ?_⟩) (by assumption) ?_
            rotate_left 1
            · (intro w hSw; (try dsimp only at hSw); first | (go_simp; done) | (go_simp; with_reducible rfl))
            simp only [Act.put, List.getElem_toArray, List.getElem_cons_zero, List.getElem_cons_succ, List.setIfInBounds_toArray, List.set_cons_zero, List.set_cons_succ]
            refine wpAnyH_take (i := 2) (v := ?_) rfl (by kernel_rfl) (by kernel_rfl) (by kernel_rfl) (fun _ _ _ h => h) (Or.inl ⟨by rfl, ?_⟩) (by assumption) ?_
            rotate_left 1
            · (intro w hSw; (try dsimp only at hSw); first | (go_simp; done) | (go_simp; with_reducible rfl))
            simp only [Act.put, List.getElem_toArray, List.getElem_cons_zero, List.getElem_cons_succ, List.setIfInBounds_toArray, List.set_cons_zero, List.set_cons_succ]
            refine wpAnyH_take (i := 3) (v := ?_) rfl (by kernel_rfl) (by kernel_rfl) (by kernel_rfl) (fun _ _ _ h => h) (Or.inl ⟨by rfl, ?_⟩) (by assumption) ?_
            rotate_left 1
            · (intro w hSw; (try dsimp only at hSw); first | (go_simp; done) | (go_simp; with_reducible rfl))
            simp only [Act.put, List.getElem_toArray, List.getElem_cons_zero, List.getElem_cons_succ, List.setIfInBounds_toArray, List.set_cons_zero, List.set_cons_succ]
            refine wpAnyH_take (i := 4) (v := ?_) rfl (by kernel_rfl) (by kernel_rfl) (by kernel_rfl) (fun _ _ _ h => h) (Or.inl ⟨by rfl, ?_⟩) (by assumption) ?_
            rotate_left 1
            · (intro w hSw; (try dsimp only at hSw); first | (go_simp; done) | (go_simp; with_reducible rfl))
            simp only [Act.put, List.getElem_toArray, List.getElem_cons_zero, List.getElem_cons_succ, List.setIfInBounds_toArray, List.set_cons_zero, List.set_cons_succ]
            refine wpAnyH_take (i := 5) (v := ?_) rfl (by kernel_rfl) (by kernel_rfl) (by kernel_rfl) (fun _ _ _ h => h) (Or.inl ⟨by rfl, ?_⟩) (by assumption) ?_
            rotate_left 1
            · (intro w hSw; (try dsimp only at hSw); first | (go_simp; done) | (go_simp; with_reducible rfl))
            simp only [Act.put, List.getElem_toArray, List.getElem_cons_zero, List.getElem_cons_succ, List.setIfInBounds_toArray, List.set_cons_zero, List.set_cons_succ]
            generalize wr.drew = wd at hHeld ⊢
            refine wpAnyH_ready (rs := [6, 10]) (by kernel_rfl) (by simp) ?_
            refine AllReadyH.cons rfl (fun K hK => ?_) (AllReadyH.cons rfl (fun K hK => ?_) AllReadyH.nil)
            · have hS0 := Lib.hid hHeld
              go_simp
              go_wp2_with (go_at_call 22; (with_reducible refine (RG.out _).mono ?_); rintro en w2 ⟨rfl, b2⟩)
              have hS1 := Lib.hid (sx_keep HBL.out b2 hS0.out)
              clear b2
              refine hK.out _ _ hS1.out (fun hHeld2 => ?_)
              clear hK K hHeld hS0; have hHeld := hHeld2; clear hHeld2
              refine wpAnyH_take (i := 7) (v := ?_) rfl (by kernel_rfl) (by kernel_rfl) (by kernel_rfl) (fun _ _ _ h => h) (Or.inl ⟨by rfl, ?_⟩) (by assumption) ?_
              rotate_left 1
              · (intro w hSw; (try dsimp only at hSw); first | (go_simp; done) | (go_simp; with_reducible rfl))
              simp only [Act.put, List.getElem_toArray, List.getElem_cons_zero, List.getElem_cons_succ, List.setIfInBounds_toArray, List.set_cons_zero, List.set_cons_succ]
              refine wpAnyH_take (i := 8) (v := ?_) rfl (by kernel_rfl) (by kernel_rfl) (by kernel_rfl) (fun _ _ _ h => h) (Or.inl ⟨by rfl, ?_⟩) (by assumption) ?_
              rotate_left 1
              · (intro w hSw; (try dsimp only at hSw); first | (go_simp; done) | (go_simp; with_reducible rfl))
              simp only [Act.put, List.getElem_toArray, List.getElem_cons_zero, List.getElem_cons_succ, List.setIfInBounds_toArray, List.set_cons_zero, List.set_cons_succ]
              refine wpAnyH_take (i := 9) (v := ?_) rfl (by kernel_rfl) (by kernel_rfl) (by kernel_rfl) (fun _ _ _ h => h) (Or.inl ⟨by rfl, ?_⟩) (by assumption) ?_
              rotate_left 1
              · (intro w hSw; (try dsimp only at hSw); first | (go_simp; done) | (go_simp; with_reducible rfl))
              simp only [Act.put, List.getElem_toArray, List.getElem_cons_zero, List.getElem_cons_succ, List.setIfInBounds_toArray, List.set_cons_zero, List.set_cons_succ]
              obtain ⟨W4, hW4⟩ : ∃ W4, w2.alloc (Obj.cells #[.string ⟨#[]⟩, .int .i64 0, .int .i64 0] 32) = W4 := ⟨_, rfl⟩
              have b4 := below_alloc w2 (Obj.cells #[.string ⟨#[]⟩, .int .i64 0, .int .i64 0] 32)
              have x4 := X3.new w2 ⟨#[]⟩ 0 0
              rw [hW4] at b4 x4
              have y1 : w.heap.size ≤ w2.heap.size := hS1.out.1.size
              have y2 : rb ≠ w2.heap.size := by have := hS1.out.2.1.lt; omega
              have y3 : xb ≠ w2.heap.size := by have := hS1.out.2.2.1.lt; omega
              have hS4 := Lib.hid (sx_keep HBL.out b4 hS1.out)
              have X4 := Lib.hid x4
              clear b4 x4
              refine wpAnyH_ready (rs := [10]) (by kernel_rfl) (by simp) ?_
              refine AllReadyH.cons rfl (fun K hK => ?_) AllReadyH.nil
              go_simp
              refine hK.out _ _ hS4.out (fun hHeld2 => ?_)
              clear hK K hHeld; have hHeld := hHeld2; clear hHeld2
              obtain ⟨W5, hW5, x5, _⟩ := set_fold S t' e' X4.out
              have h0 := X4.out.fr (i := 0); have h1 := X4.out.fr (i := 1); have h2 := X4.out.fr (i := 2)
              have k40 := X4.out.c0; have k41 := X4.out.c1; have k42 := X4.out.c2
              have hS5 := Lib.hid (sx_set HBL.out y1 y2 y3 hW5 hS4.out)
              refine wpAnyH_ready (rs := [11]) (by kernel_rfl) (by simp) ?_
              refine AllReadyH.cons rfl (fun K hK => ?_) AllReadyH.nil
              go_simp
              refine hK.out _ _ hS5.out (fun hHeld2 => ?_)
              clear hK K hHeld; have hHeld := hHeld2; clear hHeld2
              refine wpAnyH_take (i := 12) (v := ?_) rfl (by kernel_rfl) (by kernel_rfl) (by kernel_rfl) (fun _ _ _ h => h) (Or.inl ⟨by rfl, ?_⟩) (by assumption) ?_
              rotate_left 1
              · (intro w hSw; (try dsimp only at hSw); first | (go_simp; done) | (go_simp; with_reducible rfl))
              simp only [Act.put, List.getElem_toArray, List.getElem_cons_zero, List.getElem_cons_succ, List.setIfInBounds_toArray, List.set_cons_zero, List.set_cons_succ]
              refine wpAnyH_done (by kernel_rfl) ?_ _
              obtain ⟨hb5, rr, xx, _, _, _, o5⟩ := hS5.out
              clear hHeld hS5 hS4 hS1 h0 h1 h2 k40 k41 k42
              have i0 := x5.c0; have i1' := x5.c1; have i2' := x5.c2
              have f0 := xx.fr (i := 0); have f1 := xx.fr (i := 1); have f2 := xx.fr (i := 2)
              have d0 := xx.c0; have d1 := xx.c1; have d2 := xx.c2
              obtain ⟨W6, hW6, x6, b6⟩ := set_fold S t' e' xx
              replace rr := rr.set hW6 hne
              have B6 := hb5.trans (b6 w.heap.size HXB.out)
              have o6 : W6.cell? ⟨b, off + j * 2 + 1, none⟩ = some (.int .i64 most) := by rw [(b6 w.heap.size HXB.out).cell (by exact HBL.out)]; exact o5
              have R6 := Lib.hid rr; have X6 := Lib.hid x6; have BB6 := Lib.hid B6
              clear x5 xx rr x6 B6 b6 hb5 o5 X4
              go_wp2_with fail
              refine (RF.out W6 rb R6.out).mono ?_; rintro en w7 ⟨rfl, r7, b7, k7⟩
              have X7 : Hid (X3 w7 xb S t' e') := by show X3 _ _ _ _ _; unfold X3; rw [k7 xb X6.out.lt (Ne.symm hne)]; exact X6.out
              have R7 := Lib.hid r7
              have B7 := Lib.hid (BB6.out.trans (b7.mono HRB.out))
              clear r7 b7 k7
              go_wp2_with fail
              have S0 : Hid (∀ W, W = w7.drew → Below w.heap.size w W ∧ RdAt W rb (T S t') e' ∧ X3 W xb S t' e' ∧ W.cell? ⟨xb, 0, none⟩ = some (.string S) ∧ W.cell? ⟨xb, 1, none⟩ = some (.int .i64 t') ∧ W.cell? ⟨xb, 2, none⟩ = some (.int .i64 e')) := by
                intro W e; subst e
                exact ⟨B7.out.drew, R7.out, X7.out, X7.out.c0, X7.out.c1, X7.out.c2⟩
              refine wp_region_held_drew (S := fun w' => Below w.heap.size w w' ∧ RdAt w' rb (T S t') e' ∧ X3 w' xb S t' e' ∧ w'.cell? ⟨xb, 0, none⟩ = some (.string S) ∧ w'.cell? ⟨xb, 1, none⟩ = some (.int .i64 t') ∧ w'.cell? ⟨xb, 2, none⟩ = some (.int .i64 e')) (by kernel_rfl) (S0.out _ rfl) (fun hHeld => ?_)
              clear S0
              refine wpAnyH_take (i := 0) (v := ?_) rfl (by kernel_rfl) (by kernel_rfl) (by kernel_rfl) (fun _ _ _ h => h) (Or.inl ⟨by rfl, ?_⟩) (by assumption) ?_
              rotate_left 1
              · (intro w hSw; (try dsimp only at hSw); first | (go_simp; done) | (go_simp; with_reducible rfl))
              simp only [Act.put, List.getElem_toArray, List.getElem_cons_zero, List.getElem_cons_succ, List.setIfInBounds_toArray, List.set_cons_zero, List.set_cons_succ]
              refine wpAnyH_take (i := 2) (v := ?_) rfl (by kernel_rfl) (by kernel_rfl) (by kernel_rfl) (fun _ _ _ h => h) (Or.inl ⟨by rfl, ?_⟩) (by assumption) ?_
              rotate_left 1
              · (intro w hSw; (try dsimp only at hSw); first | (go_simp; done) | (go_simp; with_reducible rfl))
              simp only [Act.put, List.getElem_toArray, List.getElem_cons_zero, List.getElem_cons_succ, List.setIfInBounds_toArray, List.set_cons_zero, List.set_cons_succ]
              refine wpAnyH_ready (rs := [1]) (by kernel_rfl) (by simp) ?_
              refine AllReadyH.cons rfl (fun K hK => ?_) AllReadyH.nil
              have hS1 := Lib.hid hHeld
              go_simp
              go_wp2_with (go_at_call 24; (with_reducible refine (left_any hS1.out.2.1).mono ?_); rintro en w8 ⟨rfl, rfl⟩)
              refine hK.out _ _ (by first | assumption | exact hS1.out) (fun hHeld2 => ?_)
              clear hK K hHeld hS1; have hHeld := hHeld2; clear hHeld2
              refine wpAnyH_ready (rs := [3]) (by kernel_rfl) (by simp) ?_
              refine AllReadyH.cons rfl (fun K hK => ?_) AllReadyH.nil
              have hS1 := Lib.hid hHeld
              go_simp
              go_wp2_with (go_at_call 25; (with_reducible refine (rleft_any S t' e' _ HT2.out HS.out).mono ?_); rintro en w8 ⟨rfl, b8⟩)
              refine hK.out _ _ (s_keep b8 hS1.out) (fun hHeld2 => ?_)
              clear b8
              clear hK K hHeld hS1; have hHeld := hHeld2; clear hHeld2
              refine wpAnyH_take (i := 4) (v := ?_) rfl (by kernel_rfl) (by kernel_rfl) (by kernel_rfl) (fun _ _ _ h => h) (Or.inl ⟨by rfl, ?_⟩) (by assumption) ?_
              rotate_left 1
              · (intro w hSw; (try dsimp only at hSw); first | (go_simp; done) | (go_simp; with_reducible rfl))
              simp only [Act.put, List.getElem_toArray, List.getElem_cons_zero, List.getElem_cons_succ, List.setIfInBounds_toArray, List.set_cons_zero, List.set_cons_succ]
              refine wpAnyH_take (i := 5) (v := ?_) rfl (by kernel_rfl) (by kernel_rfl) (by kernel_rfl) (fun _ _ _ h => h) (Or.inl ⟨by rfl, ?_⟩) (by assumption) ?_
              rotate_left 1
              · (intro w hSw; (try dsimp only at hSw); first | (go_simp; done) | (go_simp; with_reducible rfl))
              simp only [Act.put, List.getElem_toArray, List.getElem_cons_zero, List.getElem_cons_succ, List.setIfInBounds_toArray, List.set_cons_zero, List.set_cons_succ]
              refine wpAnyH_take (i := 6) (v := ?_) rfl (by kernel_rfl) (by kernel_rfl) (by kernel_rfl) (fun _ _ _ h => h) (Or.inl ⟨by rfl, ?_⟩) (by assumption) ?_
              rotate_left 1
              · (intro w hSw; (try dsimp only at hSw); first | (go_simp; done) | (go_simp; with_reducible rfl))
              simp only [Act.put, List.getElem_toArray, List.getElem_cons_zero, List.getElem_cons_succ, List.setIfInBounds_toArray, List.set_cons_zero, List.set_cons_succ]
              refine wpAnyH_take (i := 8) (v := ?_) rfl (by kernel_rfl) (by kernel_rfl) (by kernel_rfl) (fun _ _ _ h => h) (Or.inl ⟨by rfl, ?_⟩) (by assumption) ?_
              rotate_left 1
              · (intro w hSw; (try dsimp only at hSw); first | (go_simp; done) | (go_simp; with_reducible rfl))
              simp only [Act.put, List.getElem_toArray, List.getElem_cons_zero, List.getElem_cons_succ, List.setIfInBounds_toArray, List.set_cons_zero, List.set_cons_succ]
              refine wpAnyH_ready (rs := [7]) (by kernel_rfl) (by simp) ?_
              refine AllReadyH.cons rfl (fun K hK => ?_) AllReadyH.nil
              have hS1 := Lib.hid hHeld
              go_simp
              go_wp2_with (go_at_call 26; (with_reducible refine (err_any hS1.out.2.1).mono ?_); rintro en w8 ⟨rfl, rfl⟩)
              refine hK.out _ _ (by first | assumption | exact hS1.out) (fun hHeld2 => ?_)
              clear hK K hHeld hS1; have hHeld := hHeld2; clear hHeld2
              refine wpAnyH_ready (rs := [9]) (by kernel_rfl) (by simp) ?_
              refine AllReadyH.cons rfl (fun K hK => ?_) AllReadyH.nil
              have hS1 := Lib.hid hHeld
              go_simp
              go_wp2_with (go_at_call 27; (with_reducible refine (rerr_any S t' e' _).mono ?_); rintro en w8 ⟨rfl, b8⟩)
              refine hK.out _ _ (s_keep b8 hS1.out) (fun hHeld2 => ?_)
              clear b8
              clear hK K hHeld hS1; have hHeld := hHeld2; clear hHeld2
              refine wpAnyH_take (i := 10) (v := ?_) rfl (by kernel_rfl) (by kernel_rfl) (by kernel_rfl) (fun _ _ _ h => h) (Or.inl ⟨by rfl, ?_⟩) (by assumption) ?_
              rotate_left 1
              · (intro w hSw; (try dsimp only at hSw); first | (go_simp; done) | (go_simp; with_reducible rfl))
              simp only [Act.put, List.getElem_toArray, List.getElem_cons_zero, List.getElem_cons_succ, List.setIfInBounds_toArray, List.set_cons_zero, List.set_cons_succ]
              refine wpAnyH_take (i := 11) (v := ?_) rfl (by kernel_rfl) (by kernel_rfl) (by kernel_rfl) (fun _ _ _ h => h) (Or.inl ⟨by rfl, ?_⟩) (by assumption) ?_
              rotate_left 1
              · (intro w hSw; (try dsimp only at hSw); first | (go_simp; done) | (go_simp; with_reducible rfl))
              simp only [Act.put, List.getElem_toArray, List.getElem_cons_zero, List.getElem_cons_succ, List.setIfInBounds_toArray, List.set_cons_zero, List.set_cons_succ]
              refine wpAnyH_take (i := 12) (v := ?_) rfl (by kernel_rfl) (by kernel_rfl) (by kernel_rfl) (fun _ _ _ h => h) (Or.inl ⟨by rfl, ?_⟩) (by assumption) ?_
              rotate_left 1
              · (intro w hSw; (try dsimp only at hSw); first | (go_simp; done) | (go_simp; with_reducible rfl))
              simp only [Act.put, List.getElem_toArray, List.getElem_cons_zero, List.getElem_cons_succ, List.setIfInBounds_toArray, List.set_cons_zero, List.set_cons_succ]
              refine wpAnyH_take (i := 13) (v := ?_) rfl (by kernel_rfl) (by kernel_rfl) (by kernel_rfl) (fun _ _ _ h => h) (Or.inl ⟨by rfl, ?_⟩) (by assumption) ?_
              rotate_left 1
              · (intro w hSw; (try dsimp only at hSw); first | (go_simp; done) | (go_simp; with_reducible rfl))
              simp only [Act.put, List.getElem_toArray, List.getElem_cons_zero, List.getElem_cons_succ, List.setIfInBounds_toArray, List.set_cons_zero, List.set_cons_succ]
              refine wpAnyH_take (i := 15) (v := ?_) rfl (by kernel_rfl) (by kernel_rfl) (by kernel_rfl) (fun _ _ _ h => h) (Or.inl ⟨by rfl, ?_⟩) (by assumption) ?_
              rotate_left 1
              · (intro w hSw; (try dsimp only at hSw); first | (go_simp; done) | (go_simp; with_reducible rfl))
              simp only [Act.put, List.getElem_toArray, List.getElem_cons_zero, List.getElem_cons_succ, List.setIfInBounds_toArray, List.set_cons_zero, List.set_cons_succ]
              refine wpAnyH_ready (rs := [14]) (by kernel_rfl) (by simp) ?_
              refine AllReadyH.cons rfl (fun K hK => ?_) AllReadyH.nil
              have hS1 := Lib.hid hHeld
              go_simp
              go_wp2_with (go_at_call 28; (with_reducible refine (done_any hS1.out.2.1).mono ?_); rintro en w8 ⟨rfl, rfl⟩)
              refine hK.out _ _ (by first | assumption | exact hS1.out) (fun hHeld2 => ?_)
              clear hK K hHeld hS1; have hHeld := hHeld2; clear hHeld2
              refine wpAnyH_ready (rs := [16]) (by kernel_rfl) (by simp) ?_
              refine AllReadyH.cons rfl (fun K hK => ?_) AllReadyH.nil
              have hS1 := Lib.hid hHeld
              go_simp
              go_wp2_with (go_at_call 29; (with_reducible refine (rdone_any S t' e' _ HT2.out HS.out).mono ?_); rintro en w8 ⟨rfl, b8⟩)
              refine hK.out _ _ (s_keep b8 hS1.out) (fun hHeld2 => ?_)
              clear b8
              clear hK K hHeld hS1; have hHeld := hHeld2; clear hHeld2
              refine wpAnyH_take (i := 17) (v := ?_) rfl (by kernel_rfl) (by kernel_rfl) (by kernel_rfl) (fun _ _ _ h => h) (Or.inl ⟨by rfl, ?_⟩) (by assumption) ?_
              rotate_left 1
              · (intro w hSw; (try dsimp only at hSw); first | (go_simp; done) | (go_simp; with_reducible rfl))
              simp only [Act.put, List.getElem_toArray, List.getElem_cons_zero, List.getElem_cons_succ, List.setIfInBounds_toArray, List.set_cons_zero, List.set_cons_succ]
              refine wpAnyH_take (i := 18) (v := ?_) rfl (by kernel_rfl) (by kernel_rfl) (by kernel_rfl) (fun _ _ _ h => h) (Or.inl ⟨by rfl, ?_⟩) (by assumption) ?_
              rotate_left 1
              · (intro w hSw; (try dsimp only at hSw); first | (go_simp; done) | (go_simp; with_reducible rfl))
              simp only [Act.put, List.getElem_toArray, List.getElem_cons_zero, List.getElem_cons_succ, List.setIfInBounds_toArray, List.set_cons_zero, List.set_cons_succ]
              refine wpAnyH_done (by kernel_rfl) ?_ _
              obtain ⟨b9, r9, x9, _, _, _⟩ := hHeld
              have B9 := Lib.hid b9; have R9 := Lib.hid r9; have X9 := Lib.hid x9
              clear b9 r9 x9
              go_wp2_with fail
              go_roundw
              case rel => exact ⟨j + 1, t', e', by omega, by go_num, HT2, R9, X9, B9⟩
              case measure => simp [intOf]; omega
            · have hS1 := Lib.hid hHeld
              obtain ⟨W4, hW4⟩ : ∃ W4, wd.alloc (Obj.cells #[.string ⟨#[]⟩, .int .i64 0, .int .i64 0] 32) = W4 := ⟨_, rfl⟩
              have b4 := below_alloc wd (Obj.cells #[.string ⟨#[]⟩, .int .i64 0, .int .i64 0] 32)
              have x4 := X3.new wd ⟨#[]⟩ 0 0
              rw [hW4] at b4 x4
              have y1 : w.heap.size ≤ wd.heap.size := hS1.out.1.size
              have y2 : rb ≠ wd.heap.size := by have := hS1.out.2.1.lt; omega
              have y3 : xb ≠ wd.heap.size := by have := hS1.out.2.2.1.lt; omega
              have hS4 := Lib.hid (sx_keep HBL.out b4 hS1.out)
              have X4 := Lib.hid x4
              clear b4 x4
              go_simp
              refine hK.out _ _ hS4.out (fun hHeld2 => ?_)
              clear hK K hHeld; have hHeld := hHeld2; clear hHeld2
              refine wpAnyH_ready (rs := [6]) (by kernel_rfl) (by simp) ?_
              refine AllReadyH.cons rfl (fun K hK => ?_) AllReadyH.nil
              go_simp
              go_wp2_with (go_at_call 22; (with_reducible refine (RG.out _).mono ?_); rintro en w2 ⟨rfl, b2⟩)
              replace hS4 := Lib.hid (sx_keep HBL.out b2 hS4.out)
              replace X4 := Lib.hid (X4.out.below b2 X4.out.lt)
              clear b2
              refine hK.out _ _ hS4.out (fun hHeld2 => ?_)
              clear hK K hHeld; have hHeld := hHeld2; clear hHeld2
              refine wpAnyH_take (i := 7) (v := ?_) rfl (by kernel_rfl) (by kernel_rfl) (by kernel_rfl) (fun _ _ _ h => h) (Or.inl ⟨by rfl, ?_⟩) (by assumption) ?_
              rotate_left 1
              · (intro w hSw; (try dsimp only at hSw); first | (go_simp; done) | (go_simp; with_reducible rfl))
              simp only [Act.put, List.getElem_toArray, List.getElem_cons_zero, List.getElem_cons_succ, List.setIfInBounds_toArray, List.set_cons_zero, List.set_cons_succ]
              refine wpAnyH_take (i := 8) (v := ?_) rfl (by kernel_rfl) (by kernel_rfl) (by kernel_rfl) (fun _ _ _ h => h) (Or.inl ⟨by rfl, ?_⟩) (by assumption) ?_
              rotate_left 1
              · (intro w hSw; (try dsimp only at hSw); first | (go_simp; done) | (go_simp; with_reducible rfl))
              simp only [Act.put, List.getElem_toArray, List.getElem_cons_zero, List.getElem_cons_succ, List.setIfInBounds_toArray, List.set_cons_zero, List.set_cons_succ]
              refine wpAnyH_take (i := 9) (v := ?_) rfl (by kernel_rfl) (by kernel_rfl) (by kernel_rfl) (fun _ _ _ h => h) (Or.inl ⟨by rfl, ?_⟩) (by assumption) ?_
              rotate_left 1
              · (intro w hSw; (try dsimp only at hSw); first | (go_simp; done) | (go_simp; with_reducible rfl))
              simp only [Act.put, List.getElem_toArray, List.getElem_cons_zero, List.getElem_cons_succ, List.setIfInBounds_toArray, List.set_cons_zero, List.set_cons_succ]
              obtain ⟨W5, hW5, x5, _⟩ := set_fold S t' e' X4.out
              have h0 := X4.out.fr (i := 0); have h1 := X4.out.fr (i := 1); have h2 := X4.out.fr (i := 2)
              have k40 := X4.out.c0; have k41 := X4.out.c1; have k42 := X4.out.c2
              have hS5 := Lib.hid (sx_set HBL.out y1 y2 y3 hW5 hS4.out)
              refine wpAnyH_ready (rs := [11]) (by kernel_rfl) (by simp) ?_
              refine AllReadyH.cons rfl (fun K hK => ?_) AllReadyH.nil
              go_simp
              refine hK.out _ _ hS5.out (fun hHeld2 => ?_)
              clear hK K hHeld; have hHeld := hHeld2; clear hHeld2
              refine wpAnyH_take (i := 12) (v := ?_) rfl (by kernel_rfl) (by kernel_rfl) (by kernel_rfl) (fun _ _ _ h => h) (Or.inl ⟨by rfl, ?_⟩) (by assumption) ?_
              rotate_left 1
              · (intro w hSw; (try dsimp only at hSw); first | (go_simp; done) | (go_simp; with_reducible rfl))
              simp only [Act.put, List.getElem_toArray, List.getElem_cons_zero, List.getElem_cons_succ, List.setIfInBounds_toArray, List.set_cons_zero, List.set_cons_succ]
              refine wpAnyH_done (by kernel_rfl) ?_ _
              obtain ⟨hb5, rr, xx, _, _, _, o5⟩ := hS5.out
              clear hHeld hS5 hS4 hS1 h0 h1 h2 k40 k41 k42
              have i0 := x5.c0; have i1' := x5.c1; have i2' := x5.c2
              have f0 := xx.fr (i := 0); have f1 := xx.fr (i := 1); have f2 := xx.fr (i := 2)
              have d0 := xx.c0; have d1 := xx.c1; have d2 := xx.c2
              obtain ⟨W6, hW6, x6, b6⟩ := set_fold S t' e' xx
              replace rr := rr.set hW6 hne
              have B6 := hb5.trans (b6 w.heap.size HXB.out)
              have o6 : W6.cell? ⟨b, off + j * 2 + 1, none⟩ = some (.int .i64 most) := by rw [(b6 w.heap.size HXB.out).cell (by exact HBL.out)]; exact o5
              have R6 := Lib.hid rr; have X6 := Lib.hid x6; have BB6 := Lib.hid B6
              clear x5 xx rr x6 B6 b6 hb5 o5 X4
              go_wp2_with fail
              refine (RF.out W6 rb R6.out).mono ?_; rintro en w7 ⟨rfl, r7, b7, k7⟩
              have X7 : Hid (X3 w7 xb S t' e') := by show X3 _ _ _ _ _; unfold X3; rw [k7 xb X6.out.lt (Ne.symm hne)]; exact X6.out
              have R7 := Lib.hid r7
              have B7 := Lib.hid (BB6.out.trans (b7.mono HRB.out))
              clear r7 b7 k7
              go_wp2_with fail
              have S0 : Hid (∀ W, W = w7.drew → Below w.heap.size w W ∧ RdAt W rb (T S t') e' ∧ X3 W xb S t' e' ∧ W.cell? ⟨xb, 0, none⟩ = some (.string S) ∧ W.cell? ⟨xb, 1, none⟩ = some (.int .i64 t') ∧ W.cell? ⟨xb, 2, none⟩ = some (.int .i64 e')) := by
                intro W e; subst e
                exact ⟨B7.out.drew, R7.out, X7.out, X7.out.c0, X7.out.c1, X7.out.c2⟩
              refine wp_region_held_drew (S := fun w' => Below w.heap.size w w' ∧ RdAt w' rb (T S t') e' ∧ X3 w' xb S t' e' ∧ w'.cell? ⟨xb, 0, none⟩ = some (.string S) ∧ w'.cell? ⟨xb, 1, none⟩ = some (.int .i64 t') ∧ w'.cell? ⟨xb, 2, none⟩ = some (.int .i64 e')) (by kernel_rfl) (S0.out _ rfl) (fun hHeld => ?_)
              clear S0
              refine wpAnyH_take (i := 0) (v := ?_) rfl (by kernel_rfl) (by kernel_rfl) (by kernel_rfl) (fun _ _ _ h => h) (Or.inl ⟨by rfl, ?_⟩) (by assumption) ?_
              rotate_left 1
              · (intro w hSw; (try dsimp only at hSw); first | (go_simp; done) | (go_simp; with_reducible rfl))
              simp only [Act.put, List.getElem_toArray, List.getElem_cons_zero, List.getElem_cons_succ, List.setIfInBounds_toArray, List.set_cons_zero, List.set_cons_succ]
              refine wpAnyH_take (i := 2) (v := ?_) rfl (by kernel_rfl) (by kernel_rfl) (by kernel_rfl) (fun _ _ _ h => h) (Or.inl ⟨by rfl, ?_⟩) (by assumption) ?_
              rotate_left 1
              · (intro w hSw; (try dsimp only at hSw); first | (go_simp; done) | (go_simp; with_reducible rfl))
              simp only [Act.put, List.getElem_toArray, List.getElem_cons_zero, List.getElem_cons_succ, List.setIfInBounds_toArray, List.set_cons_zero, List.set_cons_succ]
              refine wpAnyH_ready (rs := [1]) (by kernel_rfl) (by simp) ?_
              refine AllReadyH.cons rfl (fun K hK => ?_) AllReadyH.nil
              have hS1 := Lib.hid hHeld
              go_simp
              go_wp2_with (go_at_call 24; (with_reducible refine (left_any hS1.out.2.1).mono ?_); rintro en w8 ⟨rfl, rfl⟩)
              refine hK.out _ _ (by first | assumption | exact hS1.out) (fun hHeld2 => ?_)
              clear hK K hHeld hS1; have hHeld := hHeld2; clear hHeld2
              refine wpAnyH_ready (rs := [3]) (by kernel_rfl) (by simp) ?_
              refine AllReadyH.cons rfl (fun K hK => ?_) AllReadyH.nil
              have hS1 := Lib.hid hHeld
              go_simp
              go_wp2_with (go_at_call 25; (with_reducible refine (rleft_any S t' e' _ HT2.out HS.out).mono ?_); rintro en w8 ⟨rfl, b8⟩)
              refine hK.out _ _ (s_keep b8 hS1.out) (fun hHeld2 => ?_)
              clear b8
              clear hK K hHeld hS1; have hHeld := hHeld2; clear hHeld2
              refine wpAnyH_take (i := 4) (v := ?_) rfl (by kernel_rfl) (by kernel_rfl) (by kernel_rfl) (fun _ _ _ h => h) (Or.inl ⟨by rfl, ?_⟩) (by assumption) ?_
              rotate_left 1
              · (intro w hSw; (try dsimp only at hSw); first | (go_simp; done) | (go_simp; with_reducible rfl))
              simp only [Act.put, List.getElem_toArray, List.getElem_cons_zero, List.getElem_cons_succ, List.setIfInBounds_toArray, List.set_cons_zero, List.set_cons_succ]
              refine wpAnyH_take (i := 5) (v := ?_) rfl (by kernel_rfl) (by kernel_rfl) (by kernel_rfl) (fun _ _ _ h => h) (Or.inl ⟨by rfl, ?_⟩) (by assumption) ?_
              rotate_left 1
              · (intro w hSw; (try dsimp only at hSw); first | (go_simp; done) | (go_simp; with_reducible rfl))
              simp only [Act.put, List.getElem_toArray, List.getElem_cons_zero, List.getElem_cons_succ, List.setIfInBounds_toArray, List.set_cons_zero, List.set_cons_succ]
              refine wpAnyH_take (i := 6) (v := ?_) rfl (by kernel_rfl) (by kernel_rfl) (by kernel_rfl) (fun _ _ _ h => h) (Or.inl ⟨by rfl, ?_⟩) (by assumption) ?_
              rotate_left 1
              · (intro w hSw; (try dsimp only at hSw); first | (go_simp; done) | (go_simp; with_reducible rfl))
              simp only [Act.put, List.getElem_toArray, List.getElem_cons_zero, List.getElem_cons_succ, List.setIfInBounds_toArray, List.set_cons_zero, List.set_cons_succ]
              refine wpAnyH_take (i := 8) (v := ?_) rfl (by kernel_rfl) (by kernel_rfl) (by kernel_rfl) (fun _ _ _ h => h) (Or.inl ⟨by rfl, ?_⟩) (by assumption) ?_
              rotate_left 1
              · (intro w hSw; (try dsimp only at hSw); first | (go_simp; done) | (go_simp; with_reducible rfl))
              simp only [Act.put, List.getElem_toArray, List.getElem_cons_zero, List.getElem_cons_succ, List.setIfInBounds_toArray, List.set_cons_zero, List.set_cons_succ]
              refine wpAnyH_ready (rs := [7]) (by kernel_rfl) (by simp) ?_
              refine AllReadyH.cons rfl (fun K hK => ?_) AllReadyH.nil
              have hS1 := Lib.hid hHeld
              go_simp
              go_wp2_with (go_at_call 26; (with_reducible refine (err_any hS1.out.2.1).mono ?_); rintro en w8 ⟨rfl, rfl⟩)
              refine hK.out _ _ (by first | assumption | exact hS1.out) (fun hHeld2 => ?_)
              clear hK K hHeld hS1; have hHeld := hHeld2; clear hHeld2
              refine wpAnyH_ready (rs := [9]) (by kernel_rfl) (by simp) ?_
              refine AllReadyH.cons rfl (fun K hK => ?_) AllReadyH.nil
              have hS1 := Lib.hid hHeld
              go_simp
              go_wp2_with (go_at_call 27; (with_reducible refine (rerr_any S t' e' _).mono ?_); rintro en w8 ⟨rfl, b8⟩)
              refine hK.out _ _ (s_keep b8 hS1.out) (fun hHeld2 => ?_)
              clear b8
              clear hK K hHeld hS1; have hHeld := hHeld2; clear hHeld2
              refine wpAnyH_take (i := 10) (v := ?_) rfl (by kernel_rfl) (by kernel_rfl) (by kernel_rfl) (fun _ _ _ h => h) (Or.inl ⟨by rfl, ?_⟩) (by assumption) ?_
              rotate_left 1
              · (intro w hSw; (try dsimp only at hSw); first | (go_simp; done) | (go_simp; with_reducible rfl))
              simp only [Act.put, List.getElem_toArray, List.getElem_cons_zero, List.getElem_cons_succ, List.setIfInBounds_toArray, List.set_cons_zero, List.set_cons_succ]
              refine wpAnyH_take (i := 11) (v := ?_) rfl (by kernel_rfl) (by kernel_rfl) (by kernel_rfl) (fun _ _ _ h => h) (Or.inl ⟨by rfl, ?_⟩) (by assumption) ?_
              rotate_left 1
              · (intro w hSw; (try dsimp only at hSw); first | (go_simp; done) | (go_simp; with_reducible rfl))
              simp only [Act.put, List.getElem_toArray, List.getElem_cons_zero, List.getElem_cons_succ, List.setIfInBounds_toArray, List.set_cons_zero, List.set_cons_succ]
              refine wpAnyH_take (i := 12) (v := ?_) rfl (by kernel_rfl) (by kernel_rfl) (by kernel_rfl) (fun _ _ _ h => h) (Or.inl ⟨by rfl, ?_⟩) (by assumption) ?_
              rotate_left 1
              · (intro w hSw; (try dsimp only at hSw); first | (go_simp; done) | (go_simp; with_reducible rfl))
              simp only [Act.put, List.getElem_toArray, List.getElem_cons_zero, List.getElem_cons_succ, List.setIfInBounds_toArray, List.set_cons_zero, List.set_cons_succ]
              refine wpAnyH_take (i := 13) (v := ?_) rfl (by kernel_rfl) (by kernel_rfl) (by kernel_rfl) (fun _ _ _ h => h) (Or.inl ⟨by rfl, ?_⟩) (by assumption) ?_
              rotate_left 1
              · (intro w hSw; (try dsimp only at hSw); first | (go_simp; done) | (go_simp; with_reducible rfl))
              simp only [Act.put, List.getElem_toArray, List.getElem_cons_zero, List.getElem_cons_succ, List.setIfInBounds_toArray, List.set_cons_zero, List.set_cons_succ]
              refine wpAnyH_take (i := 15) (v := ?_) rfl (by kernel_rfl) (by kernel_rfl) (by kernel_rfl) (fun _ _ _ h => h) (Or.inl ⟨by rfl, ?_⟩) (by assumption) ?_
              rotate_left 1
              · (intro w hSw; (try dsimp only at hSw); first | (go_simp; done) | (go_simp; with_reducible rfl))
              simp only [Act.put, List.getElem_toArray, List.getElem_cons_zero, List.getElem_cons_succ, List.setIfInBounds_toArray, List.set_cons_zero, List.set_cons_succ]
              refine wpAnyH_ready (rs := [14]) (by kernel_rfl) (by simp) ?_
              refine AllReadyH.cons rfl (fun K hK => ?_) AllReadyH.nil
              have hS1 := Lib.hid hHeld
              go_simp
              go_wp2_with (go_at_call 28; (with_reducible refine (done_any hS1.out.2.1).mono ?_); rintro en w8 ⟨rfl, rfl⟩)
              refine hK.out _ _ (by first | assumption | exact hS1.out) (fun hHeld2 => ?_)
              clear hK K hHeld hS1; have hHeld := hHeld2; clear hHeld2
              refine wpAnyH_ready (rs := [16]) (by kernel_rfl) (by simp) ?_
              refine AllReadyH.cons rfl (fun K hK => ?_) AllReadyH.nil
              have hS1 := Lib.hid hHeld
              go_simp
              go_wp2_with (go_at_call 29; (with_reducible refine (rdone_any S t' e' _ HT2.out HS.out).mono ?_); rintro en w8 ⟨rfl, b8⟩)
              refine hK.out _ _ (s_keep b8 hS1.out) (fun hHeld2 => ?_)
              clear b8
              clear hK K hHeld hS1; have hHeld := hHeld2; clear hHeld2
              refine wpAnyH_take (i := 17) (v := ?_) rfl (by kernel_rfl) (by kernel_rfl) (by kernel_rfl) (fun _ _ _ h => h) (Or.inl ⟨by rfl, ?_⟩) (by assumption) ?_
              rotate_left 1
              · (intro w hSw; (try dsimp only at hSw); first | (go_simp; done) | (go_simp; with_reducible rfl))
              simp only [Act.put, List.getElem_toArray, List.getElem_cons_zero, List.getElem_cons_succ, List.setIfInBounds_toArray, List.set_cons_zero, List.set_cons_succ]
              refine wpAnyH_take (i := 18) (v := ?_) rfl (by kernel_rfl) (by kernel_rfl) (by kernel_rfl) (fun _ _ _ h => h) (Or.inl ⟨by rfl, ?_⟩) (by assumption) ?_
              rotate_left 1
              · (intro w hSw; (try dsimp only at hSw); first | (go_simp; done) | (go_simp; with_reducible rfl))
              simp only [Act.put, List.getElem_toArray, List.getElem_cons_zero, List.getElem_cons_succ, List.setIfInBounds_toArray, List.set_cons_zero, List.set_cons_succ]
              refine wpAnyH_done (by kernel_rfl) ?_ _
              obtain ⟨b9, r9, x9, _, _, _⟩ := hHeld
              have B9 := Lib.hid b9; have R9 := Lib.hid r9; have X9 := Lib.hid x9
              clear b9 r9 x9
              go_wp2_with fail
              go_roundw
              case rel => exact ⟨j + 1, t', e', by omega, by go_num, HT2, R9, X9, B9⟩
              case measure => simp [intOf]; omega
    · have hjn : n ≤ j := by omega
      have B7 := BQ; have R7 := RD; have X7 := XQ; have HT2 := HT
      go_wp2_with fail
      have S0 : Hid (∀ W, W = wr.drew → Below w.heap.size w W ∧ RdAt W rb (T S t) e ∧ X3 W xb S t e ∧ W.cell? ⟨xb, 0, none⟩ = some (.string S) ∧ W.cell? ⟨xb, 1, none⟩ = some (.int .i64 t) ∧ W.cell? ⟨xb, 2, none⟩ = some (.int .i64 e)) := by
        intro W e; subst e
        exact ⟨B7.out.drew, R7.out, X7.out, X7.out.c0, X7.out.c1, X7.out.c2⟩
      refine wp_region_held_drew (S := fun w' => Below w.heap.size w w' ∧ RdAt w' rb (T S t) e ∧ X3 w' xb S t e ∧ w'.cell? ⟨xb, 0, none⟩ = some (.string S) ∧ w'.cell? ⟨xb, 1, none⟩ = some (.int .i64 t) ∧ w'.cell? ⟨xb, 2, none⟩ = some (.int .i64 e)) (by kernel_rfl) (S0.out _ rfl) (fun hHeld => ?_)
      clear S0
      refine wpAnyH_take (i := 0) (v := ?_) rfl (by kernel_rfl) (by kernel_rfl) (by kernel_rfl) (fun _ _ _ h => h) (Or.inl ⟨by rfl, ?_⟩) (by assumption) ?_
      rotate_left 1
      · (intro w hSw; (try dsimp only at hSw); first | (go_simp; done) | (go_simp; with_reducible rfl))
      simp only [Act.put, List.getElem_toArray, List.getElem_cons_zero, List.getElem_cons_succ, List.setIfInBounds_toArray, List.set_cons_zero, List.set_cons_succ]
      refine wpAnyH_take (i := 2) (v := ?_) rfl (by kernel_rfl) (by kernel_rfl) (by kernel_rfl) (fun _ _ _ h => h) (Or.inl ⟨by rfl, ?_⟩) (by assumption) ?_
      rotate_left 1
      · (intro w hSw; (try dsimp only at hSw); first | (go_simp; done) | (go_simp; with_reducible rfl))
      simp only [Act.put, List.getElem_toArray, List.getElem_cons_zero, List.getElem_cons_succ, List.setIfInBounds_toArray, List.set_cons_zero, List.set_cons_succ]
      refine wpAnyH_ready (rs := [1]) (by kernel_rfl) (by simp) ?_
      refine AllReadyH.cons rfl (fun K hK => ?_) AllReadyH.nil
      have hS1 := Lib.hid hHeld
      go_simp
      go_wp2_with (go_at_call 28; (with_reducible refine (done_any hS1.out.2.1).mono ?_); rintro en w8 ⟨rfl, rfl⟩)
      refine hK.out _ _ (by first | assumption | exact hS1.out) (fun hHeld2 => ?_)
      clear hK K hHeld hS1; have hHeld := hHeld2; clear hHeld2
      refine wpAnyH_ready (rs := [3]) (by kernel_rfl) (by simp) ?_
      refine AllReadyH.cons rfl (fun K hK => ?_) AllReadyH.nil
      have hS1 := Lib.hid hHeld
      go_simp
      go_wp2_with (go_at_call 29; (with_reducible refine (rdone_any S t e _ HT2.out HS.out).mono ?_); rintro en w8 ⟨rfl, b8⟩)
      refine hK.out _ _ (s_keep b8 hS1.out) (fun hHeld2 => ?_)
      clear b8
      clear hK K hHeld hS1; have hHeld := hHeld2; clear hHeld2
      refine wpAnyH_take (i := 4) (v := ?_) rfl (by kernel_rfl) (by kernel_rfl) (by kernel_rfl) (fun _ _ _ h => h) (Or.inl ⟨by rfl, ?_⟩) (by assumption) ?_
      rotate_left 1
      · (intro w hSw; (try dsimp only at hSw); first | (go_simp; done) | (go_simp; with_reducible rfl))
      simp only [Act.put, List.getElem_toArray, List.getElem_cons_zero, List.getElem_cons_succ, List.setIfInBounds_toArray, List.set_cons_zero, List.set_cons_succ]
      refine wpAnyH_take (i := 5) (v := ?_) rfl (by kernel_rfl) (by kernel_rfl) (by kernel_rfl) (fun _ _ _ h => h) (Or.inl ⟨by rfl, ?_⟩) (by assumption) ?_
      rotate_left 1
      · (intro w hSw; (try dsimp only at hSw); first | (go_simp; done) | (go_simp; with_reducible rfl))
      simp only [Act.put, List.getElem_toArray, List.getElem_cons_zero, List.getElem_cons_succ, List.setIfInBounds_toArray, List.set_cons_zero, List.set_cons_succ]
      refine wpAnyH_ready (rs := [6]) (by kernel_rfl) (by simp) ?_
      refine AllReadyH.cons rfl (fun K hK => ?_) AllReadyH.nil
      have hS1 := Lib.hid hHeld
      go_simp
      go_wp2_with (go_at_call 7; (with_reducible refine (lives_any _).mono ?_); rintro en w8 ⟨rfl, b8⟩)
      refine hK.out _ _ (s_keep b8 hS1.out) (fun hHeld2 => ?_)
      clear b8
      clear hK K hHeld hS1; have hHeld := hHeld2; clear hHeld2
      refine wpAnyH_take (i := 7) (v := ?_) rfl (by kernel_rfl) (by kernel_rfl) (by kernel_rfl) (fun _ _ _ h => h) (Or.inl ⟨by rfl, ?_⟩) (by assumption) ?_
      rotate_left 1
      · (intro w hSw; (try dsimp only at hSw); first | (go_simp; done) | (go_simp; with_reducible rfl))
      simp only [Act.put, List.getElem_toArray, List.getElem_cons_zero, List.getElem_cons_succ, List.setIfInBounds_toArray, List.set_cons_zero, List.set_cons_succ]
      refine wpAnyH_take (i := 8) (v := ?_) rfl (by kernel_rfl) (by kernel_rfl) (by kernel_rfl) (fun _ _ _ h => h) (Or.inl ⟨by rfl, ?_⟩) (by assumption) ?_
      rotate_left 1
      · (intro w hSw; (try dsimp only at hSw); first | (go_simp; done) | (go_simp; with_reducible rfl))
      simp only [Act.put, List.getElem_toArray, List.getElem_cons_zero, List.getElem_cons_succ, List.setIfInBounds_toArray, List.set_cons_zero, List.set_cons_succ]
      refine wpAnyH_done (by kernel_rfl) ?_ _
      have b9 := hHeld.1
      clear hHeld
      go_wp2_with fail
      go_ret
      exact ⟨rfl, b9⟩
end Go.Proofs.Ytnjednndpphhlaa
