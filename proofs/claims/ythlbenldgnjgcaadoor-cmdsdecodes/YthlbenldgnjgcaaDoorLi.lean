/- cmds: the reference's decode. -/
import Derived.Test.YthlbenldgnjgcaaDoorLh
namespace Go.Proofs.YthlbenldgnjgcaaDoor
open Go.ChangeShapes Go.WideShapes Go.ChangeAt Go.RowKit Go.Joins Go.Deep

theorem rpart_any {w0 w : World} {v : Value} {s : RS} {k : Int} (b0 : Below w0.heap.size w0 w) (h : IntsAt w0 v s.1) (hl : s.1.length ≤ 1000000) (hf : s.2.2 = false) : Calls Tryd.prog 30 #[rv v s.2.1 s.2.2, .int .i64 k] w (RtPost w0 w k s) := by
  by_cases hk : k = 3
  · exact rpart_w3 hk b0 h hl hf
  · exact rpart_w2 hk b0 h hl hf
def RdPost (w : World) (k : Int) (l : List Int) (e : Ending) (w' : World) : Prop :=
  ∃ (a : Option Addr) (n cap : Nat) (b : Bool), e = .returned (.tuple #[.slice a n cap, .bool b]) ∧ Below w.heap.size w w' ∧ b = (rdec k l).2 ∧
    (b = true → (∀ W : World, w'.heap.size ≤ W.heap.size → (∀ g, w.heap.size ≤ g → g < w'.heap.size → W.heap[g]? = w'.heap[g]?) → RowsAt W (.slice a n cap) (rdec k l).1) ∧ (rdec k l).1.length ≤ 1000000)
set_option maxRecDepth 100000 in
set_option maxHeartbeats 8000000 in
theorem rdecode_1 {w : World} {v : Value} {l : List Int} (h : IntsAt w v l) (hl : l.length ≤ 1000000) : Calls Tryd.prog 23 #[.int .i64 1, v] w (RdPost w 1 l) := by
  obtain ⟨i0, hi0, hz0, hz1, hz2⟩ := info_parts info42
  have II := Lib.hid hi0; have Z0 := Lib.hid hz0; have Z1 := Lib.hid hz1; have Z2 := Lib.hid hz2
  clear hi0 hz0 hz1 hz2
  have HI := Lib.hid h; have HL := Lib.hid hl
  obtain ⟨ar, cr, rfl⟩ := h.form
  obtain ⟨nr, hnr⟩ : ∃ nr, l.length = nr := ⟨_, rfl⟩
  rw [hnr] at HI
  rw [hnr]
  have HNR := Lib.hid hnr
  obtain ⟨A, hA⟩ : ∃ A, w.heap.size = A := ⟨_, rfl⟩
  obtain ⟨W1, hW1⟩ : ∃ W1, w.alloc (.cells #[.slice none 0 0, .int .i64 0, .int .i64 0, .bool false] 65) = W1 := ⟨_, rfl⟩
  have rW1 : Row W1 A 65 [.slice none 0 0, .int .i64 0, .int .i64 0, .bool false] := by rw [← hW1, ← hA]; exact Row.new _ _ _
  have bW1 : Below w.heap.size w W1 := by rw [← hW1]; exact (Below.refl _ _).alloc (Nat.le_refl _) _
  obtain ⟨W2, hW2⟩ : ∃ W2, (((W1.setCell ⟨A, 0, none⟩ (.slice ar nr cr)).setCell ⟨A, 1, none⟩ (.int .i64 0)).setCell ⟨A, 2, none⟩ (.int .i64 0)).setCell ⟨A, 3, none⟩ (.bool false) = W2 := ⟨_, rfl⟩
  have rW2 : Row W2 A 65 [.slice ar nr cr, .int .i64 0, .int .i64 0, .bool false] := by rw [← hW2]; exact (((rW1.set (i := 0) _).set (i := 1) _).set (i := 2) _).set (i := 3) _
  have bW2 : Below w.heap.size w W2 := by
    have lo : w.heap.size ≤ A := by rw [hA]; exact Nat.le_refl _
    rw [← hW2]; exact (((bW1.setCell lo _).setCell lo _).setCell lo _).setCell lo _
  have z0A := rW1.cell (i := 0) rfl; have z1A := rW1.cell (i := 1) rfl; have z2A := rW1.cell (i := 2) rfl; have z3A := rW1.cell (i := 3) rfl
  have zf0A := rW1.fr (i := 0); have zf1A := rW1.fr (i := 1); have zf2A := rW1.fr (i := 2); have zf3A := rW1.fr (i := 3)
  have RA := Lib.hid rW2; have BA := Lib.hid bW2
  have q0 := rW2.cell (i := 0) rfl; have q1 := rW2.cell (i := 1) rfl; have q2 := rW2.cell (i := 2) rfl; have q3 := rW2.cell (i := 3) rfl
  have OA : Hid (w.heap.size ≤ A ∧ A < W2.heap.size) := ⟨by omega, rW2.lt⟩
  obtain ⟨⟨⟨t1, ⟨ax, ay⟩, fa⟩, x⟩, hn1⟩ : ∃ z, rn (l, (0, 0), false) = z := ⟨_, rfl⟩
  have le1 := rn_le (l, (0, 0), false)
  rw [hn1] at le1
  dsimp only at le1
  have L1 : Hid (t1.length ≤ 1000000) := by have := HL.out; show _ ≤ _; omega
  have HX : Hid (0 ≤ x ∧ x ≤ 100000) := le1.2
  have N1 := Lib.hid hn1
  have NX0 := rnext_any (w := W2) (s := (l, (0, 0), false)) bW2 HI.out HL.out
  unfold RnPost at NX0
  rw [hn1] at NX0
  dsimp only at NX0
  have NX := Lib.hid NX0
  obtain ⟨xm, hxm⟩ : ∃ xm, Int.tmod x 8 = xm := ⟨_, rfl⟩
  have HXM : Hid (xm = x % 8) := by have := HX.out; show _ = _; rw [← hxm, Int.tmod_eq_emod_of_nonneg (by omega)]
  have wxm : IntKind.i64.wrap xm = xm := by have := HXM.out; rw [IntKind.wrap_i64]; omega
  clear h hl hnr le1 hn1 NX0 rW1 bW1 rW2 bW2
  go_enter Tryd.func23, Tryd.ntmps23
  go_wp2_with fail
  refine NX.out.mono ?_; rintro e w3 ⟨a1, n1, c1, rfl, i1, b3⟩
  have I1 := Lib.hid i1; have B3 : Hid (Below w.heap.size w w3) := BA.out.trans (b3.mono BA.out.size)
  obtain ⟨C, hC⟩ : ∃ C, w3.heap.size = C := ⟨_, rfl⟩
  obtain ⟨W4, hW4⟩ : ∃ W4, w3.alloc (.cells #[.slice none 0 0, .int .i64 0, .int .i64 0, .bool false] 65) = W4 := ⟨_, rfl⟩
  have rW4 : Row W4 C 65 [.slice none 0 0, .int .i64 0, .int .i64 0, .bool false] := by rw [← hW4, ← hC]; exact Row.new _ _ _
  have bW4 : Below w3.heap.size w3 W4 := by rw [← hW4]; exact (Below.refl _ _).alloc (Nat.le_refl _) _
  obtain ⟨W5, hW5⟩ : ∃ W5, (((W4.setCell ⟨C, 0, none⟩ (.slice a1 n1 c1)).setCell ⟨C, 1, none⟩ (.int .i64 ax)).setCell ⟨C, 2, none⟩ (.int .i64 ay)).setCell ⟨C, 3, none⟩ (.bool fa) = W5 := ⟨_, rfl⟩
  have rW5 : Row W5 C 65 [.slice a1 n1 c1, .int .i64 ax, .int .i64 ay, .bool fa] := by rw [← hW5]; exact (((rW4.set (i := 0) _).set (i := 1) _).set (i := 2) _).set (i := 3) _
  have bW5 : Below w3.heap.size w3 W5 := by
    have lo : w3.heap.size ≤ C := by rw [hC]; exact Nat.le_refl _
    rw [← hW5]; exact (((bW4.setCell lo _).setCell lo _).setCell lo _).setCell lo _
  have z0C := rW4.cell (i := 0) rfl; have z1C := rW4.cell (i := 1) rfl; have z2C := rW4.cell (i := 2) rfl; have z3C := rW4.cell (i := 3) rfl
  have zf0C := rW4.fr (i := 0); have zf1C := rW4.fr (i := 1); have zf2C := rW4.fr (i := 2); have zf3C := rW4.fr (i := 3)
  have B5 : Hid (Below w.heap.size w W5) := B3.out.trans (bW5.mono B3.out.size)
  have y0 := rW5.cell (i := 0) rfl; have y1 := rW5.cell (i := 1) rfl; have y2 := rW5.cell (i := 2) rfl; have y3 := rW5.cell (i := 3) rfl
  clear i1 b3 NX rW4 bW4 rW5 bW5 q0 q1 q2 q3
  by_cases hx : xm = 1
  rotate_left 1
  · have xb : (xm != 1) = true := by simpa using hx
    have RE : Hid (rdec 1 l = ([], false)) := by
      show _ = _
      unfold rdec; rw [if_pos rfl]; dsimp only; rw [N1.out]; dsimp only; rw [if_neg (by rw [← HXM.out]; exact hx)]
    clear hx
    go_wp2_with fail
    go_ret2
    exact ⟨none, 0, 0, false, rfl, B5.out, by rw [RE.out], fun e => by cases e⟩
  have xb : (xm != 1) = false := by simpa using hx
  obtain ⟨M, hM⟩ : ∃ M : Nat, (x / 8).toNat = M := ⟨_, rfl⟩
  have hq : Int.tdiv x 8 = (M : Int) := by have := HX.out; rw [Int.tdiv_eq_ediv_of_nonneg (by omega)]; omega
  have wq : IntKind.i64.wrap (M : Int) = (M : Int) := by have := HX.out; rw [IntKind.wrap_i64]; omega
  have MB : Hid (M ≤ 100000) := by have := HX.out; show _ ≤ _; omega
  obtain ⟨⟨⟨t2, ⟨bx, by'⟩, fb⟩, l1⟩, hp1⟩ : ∃ z, rp M [] (t1, (ax, ay), fa) = z := ⟨_, rfl⟩
  have le5 := rp_len M [] (t1, (ax, ay), fa)
  rw [hp1] at le5
  dsimp only at le5
  have RE : Hid (rdec 1 l = (l1.map (fun p => [p]), !fb && decide (t2 = []))) := by
    show _ = _
    unfold rdec; rw [if_pos rfl]; dsimp only; rw [N1.out]; dsimp only; rw [if_pos (by rw [← HXM.out]; exact hx), hM, hp1]
  have LL1 : Hid (l1.length ≤ 100000) := by have := MB.out; simp at le5; show _ ≤ _; omega
  have PO0 := rpoints_any (w := W5) (s := (t1, (ax, ay), fa)) (N := M) B5.out I1.out L1.out MB.out
  unfold RpPost at PO0
  rw [hp1] at PO0
  dsimp only at PO0
  have PO := Lib.hid PO0
  clear hx hM hp1 le5 PO0
  go_wp2_with fail
  refine PO.out.mono ?_; rintro e w6 ⟨a2, n2, c2, u1, rfl, i2, o1, _, b6⟩
  have B6 : Hid (Below w.heap.size w w6) := B5.out.trans (b6.mono B5.out.size)
  obtain ⟨ua1, uc1, hu1⟩ := POwn.form o1
  obtain ⟨n, hm1⟩ : ∃ n, l1.length = n := ⟨_, rfl⟩
  rw [hm1] at hu1
  subst hu1
  have HNL := Lib.hid hm1
  have hn2 : t2.length = n2 := by
    obtain ⟨_, _, e, _⟩ := i2
    injection e with _ e2 _
    exact e2.symm
  have HN2 := Lib.hid hn2
  obtain ⟨D, hD⟩ : ∃ D, w6.heap.size = D := ⟨_, rfl⟩
  obtain ⟨W7, hW7⟩ : ∃ W7, w6.alloc (.cells #[.slice none 0 0, .int .i64 0, .int .i64 0, .bool false] 65) = W7 := ⟨_, rfl⟩
  have rW7 : Row W7 D 65 [.slice none 0 0, .int .i64 0, .int .i64 0, .bool false] := by rw [← hW7, ← hD]; exact Row.new _ _ _
  have bW7 : Below w6.heap.size w6 W7 := by rw [← hW7]; exact (Below.refl _ _).alloc (Nat.le_refl _) _
  obtain ⟨W8, hW8⟩ : ∃ W8, (((W7.setCell ⟨D, 0, none⟩ (.slice a2 n2 c2)).setCell ⟨D, 1, none⟩ (.int .i64 bx)).setCell ⟨D, 2, none⟩ (.int .i64 by')).setCell ⟨D, 3, none⟩ (.bool fb) = W8 := ⟨_, rfl⟩
  have rW8 : Row W8 D 65 [.slice a2 n2 c2, .int .i64 bx, .int .i64 by', .bool fb] := by rw [← hW8]; exact (((rW7.set (i := 0) _).set (i := 1) _).set (i := 2) _).set (i := 3) _
  have bW8 : Below w6.heap.size w6 W8 := by
    have lo : w6.heap.size ≤ D := by rw [hD]; exact Nat.le_refl _
    rw [← hW8]; exact (((bW7.setCell lo _).setCell lo _).setCell lo _).setCell lo _
  have z0D := rW7.cell (i := 0) rfl; have z1D := rW7.cell (i := 1) rfl; have z2D := rW7.cell (i := 2) rfl; have z3D := rW7.cell (i := 3) rfl
  have zf0D := rW7.fr (i := 0); have zf1D := rW7.fr (i := 1); have zf2D := rW7.fr (i := 2); have zf3D := rW7.fr (i := 3)
  have B8 : Hid (Below w.heap.size w W8) := B6.out.trans (bW8.mono B6.out.size)
  have RD := Lib.hid rW8
  have HPT := Lib.hid ((POwn.at_ o1).below bW8)
  obtain ⟨Q, hQ⟩ : ∃ Q, W8.heap.size = Q := ⟨_, rfl⟩
  have HQ := Lib.hid hQ
  have LD : Hid (D < Q) := by show _ < _; rw [← hQ]; exact rW8.lt
  have GP : Hid (n ≤ 100000) := by have := LL1.out; have := HNL.out; show _ ≤ _; omega
  clear i2 o1 b6 hm1 hn2 PO rW7 bW7 rW8 bW8 hq wq hxm wxm
  go_wp2_with fail
  clear hQ
  go_loopw [7, 12] (fun s6 s26 wr => ∃ (k : Nat) (vs : List Value), k ≤ n ∧ s26 = .int .i64 (k : Int) ∧ Hid (PR wr Q s6 vs ((l1.take k).map fun p => [p])) ∧ Hid (Below Q W8 wr)) (fun _ s26 _ => n - (intOf s26).toNat)
  case atStart => exact ⟨0, [], Nat.zero_le _, rfl, PR.nil _ _, Below.refl _ _⟩
  case round =>
    obtain ⟨k, vs, hk, rfl, PRk, BW⟩ := hrel
    have HLk : Hid (((l1.take k).map fun p => [p]).length = k) := by show _ = _; rw [List.length_map, List.length_take, HNL.out]; omega
    obtain ⟨a6, c6, hs6⟩ := own_form PRk.out.own
    rw [HLk.out] at hs6
    subst hs6
    by_cases hkn : k < n
    · obtain ⟨b, off, rfl, bl, p0, p1⟩ := (HPT.out.below (by rw [HQ.out]; exact BW.out)).at_ (j := k) (by rw [HNL.out]; exact hkn)
      obtain ⟨⟨x, y⟩, hz⟩ : ∃ z, l1.getD k (0, 0) = z := ⟨_, rfl⟩
      rw [hz] at p0 p1
      dsimp only at p0 p1
      have HZ := Lib.hid hz
      have OX' : Hid (wr.ownsRow Q 42 1 (.slice a6 k c6) k vs) := by have := PRk.out.own; rw [HLk.out] at this; exact this
      have HKK : Hid (k ≤ 1000000) := by have := GP.out; show _ ≤ _; omega
      obtain ⟨ks, hks⟩ : ∃ ks, k + 1 = ks := ⟨_, rfl⟩
      have HKS := Lib.hid hks
      have k0 : (0 : Int) ≤ (k : Int) := by omega
      have kl : (k : Int) < (n : Int) := by omega
      have k1e : (k : Int) + 1 = (ks : Int) := by omega
      have k1w : IntKind.i64.wrap (ks : Int) = (ks : Int) := by have := GP.out; rw [IntKind.wrap_i64]; omega
      obtain ⟨Y, hY⟩ : ∃ Y, wr.heap.size = Y := ⟨_, rfl⟩
      obtain ⟨WB, hWB⟩ : ∃ WB, wr.alloc (.cells #[.int .i64 x, .int .i64 y] 44) = WB := ⟨_, rfl⟩
      have r6 : Row WB Y 44 [.int .i64 x, .int .i64 y] := by rw [← hWB, ← hY]; exact Row.new _ _ _
      have b6 : Below wr.heap.size wr WB := by rw [← hWB]; exact (Below.refl _ _).alloc (Nat.le_refl _) _
      have SBY : Hid (Q ≤ Y) := by rw [← hY, ← HQ.out]; exact BW.out.size
      have PU : Hid (PtsAt WB (.slice (some ⟨Y, 0, none⟩) 1 1) [(x, y)]) := by
        refine ⟨_, 1, rfl, Nat.le_refl _, fun e => (by cases e), Or.inr ⟨Y, 0, rfl, r6.lt, fun j hj => ?_⟩⟩
        have j0 : j = 0 := by simp at hj; omega
        subst j0
        exact ⟨r6.cell (i := 0) rfl, r6.cell (i := 1) rfl⟩
      have HUB : Hid (∀ g, (Value.slice (some ⟨Y, 0, none⟩) 1 1).ownBlock = some g → Q ≤ g ∧ g < WB.heap.size ∧ (Value.slice a6 k c6).ownBlock ≠ some g) := by
        intro g hg
        obtain rfl : Y = g := Option.some.inj hg
        refine ⟨SBY.out, r6.lt, fun e => ?_⟩
        have := (World.ownsRow.lt OX'.out _ e).2
        omega
      have BB6 := Lib.hid b6
      have HXX : Hid (wr.heap.size = Y) := hY
      have SZ6 : Hid (Q ≤ WB.heap.size) := by have := SBY.out; have := b6.size; rw [hY] at this; show _ ≤ _; omega
      have OX : Hid (WB.ownsRow Q 42 1 (.slice a6 k c6) k vs) := own_same OX'.out (fun g hg => BB6.out.block g (World.ownsRow.lt OX'.out g hg).2)
      clear hz hks r6 b6 bl
      go_wp2_with (at_builtin; refine wpList_append_own_at _ rfl _ _ 22 rfl Q 42 i0 (.slice none 0 0) 1 24 Tryd.underlying22 II.out Z0.out Z1.out Z2.out rfl (by decide) (.slice a6 k c6) k vs rfl (OX.out.alloc _) ⟨WB.heap.size, 0, none⟩ 1 1 [.slice (some ⟨Y, 0, none⟩) 1 1] rfl rfl (one_new _ _ _) (by simp [Value.oneCell']) (by have := HKK.out; unfold maxLen; omega) (by have := HKK.out; omega) (by have := SZ6.out; simp; omega) ?_; intro v7 w7 hown' hgrow hnil hloc; have F7 := Lib.hid (pr_app PRk.out HLk.out BB6.out PU.out HUB.out hgrow hown' hloc); obtain ⟨a7, c7, hv7⟩ := own_form hown'; subst hv7; clear hown' hgrow hnil hloc)
      go_wp2_with fail
      go_roundw
      case measure => have := HKS.out; simp [intOf]; omega
      case rel =>
        refine ⟨ks, vs ++ [.slice (some ⟨Y, 0, none⟩) 1 1], by have := HKS.out; omega, rfl, ?_, ?_⟩
        · have e : ((l1.take ks).map fun p => [p]) = ((l1.take k).map fun p => [p]) ++ [[(x, y)]] := by
            rw [← HKS.out, take_get (by rw [HNL.out]; exact hkn), List.map_append, HZ.out]; rfl
          rw [e]; exact F7.out.1
        · exact BW.out.trans (F7.out.2.2 (by rw [HXX.out]; exact SBY.out))
    · have kl : ¬ (k : Int) < (n : Int) := by omega
      have ek : k = n := by omega
      subst ek
      have PRn : Hid (PR wr Q (.slice a6 k c6) vs (l1.map fun p => [p])) := by have := PRk.out; rw [List.take_of_length_le (by rw [HNL.out]; exact Nat.le_refl _)] at this; exact this
      have QW : Hid (w.heap.size ≤ Q) := by have := B8.out.size; rw [HQ.out] at this; exact this
      have BWW : Hid (Below w.heap.size w wr) := B8.out.trans (BW.out.mono QW.out)
      have RDw := Lib.hid (RD.out.below BW.out LD.out)
      have d0 := RDw.out.cell (i := 0) rfl; have d3 := RDw.out.cell (i := 3) rfl
      have DONE : Hid (∀ q (b : Bool), b = (rdec 1 l).2 → RdPost w 1 l (.returned (.tuple #[.slice a6 k c6, .bool b])) (wr.drewN q)) := fun q b hb =>
        ⟨a6, k, c6, b, rfl, below_drewN BWW.out _, hb, fun _ => ⟨fun W hs he => by rw [RE.out]; exact ((PRn.out.keep (below_drewN (Below.refl _ _) q)).same hs (fun g h1 h2 => he g (by have := QW.out; omega) h2)).rows, by rw [RE.out, List.length_map, HNL.out]; have := GP.out; omega⟩⟩
      cases fb with
      | true =>
        have V : Hid ((rdec 1 l).2 = false) := by show _ = _; rw [RE.out]; rfl
        go_wp2_with fail
        go_quiet (fail)
        go_wp2_with fail
        go_ret2
        exact DONE.out _ _ V.out.symm
      | false =>
        by_cases hr0 : n2 = 0
        · have d2 : ((n2 : Int) == 0) = true := by simp; omega
          have V : Hid ((rdec 1 l).2 = true) := by show _ = _; rw [RE.out, List.eq_nil_of_length_eq_zero (l := t2) (by rw [HN2.out, hr0])]; rfl
          clear hr0
          go_wp2_with fail
          go_quiet (fail)
          go_wp2_with fail
          go_ret2
          exact DONE.out _ _ V.out.symm
        · have d2 : ((n2 : Int) == 0) = false := by simp; omega
          have V : Hid ((rdec 1 l).2 = false) := by
            show _ = _
            rw [RE.out]
            have : t2 ≠ [] := fun e => hr0 (by rw [← HN2.out, e]; rfl)
            simp [this]
          clear hr0
          go_wp2_with fail
          go_quiet (fail)
          go_wp2_with fail
          go_ret2
          exact DONE.out _ _ V.out.symm
set_option maxRecDepth 100000 in
set_option maxHeartbeats 8000000 in
theorem rdecode_2 {w : World} {v : Value} {l : List Int} {k : Int} (hk1 : k ≠ 1) (h : IntsAt w v l) (hl : l.length ≤ 1000000) : Calls Tryd.prog 23 #[.int .i64 k, v] w (RdPost w k l) := by
  obtain ⟨i0, hi0, hz0, hz1, hz2⟩ := info_parts info42
  have II := Lib.hid hi0; have Z0 := Lib.hid hz0; have Z1 := Lib.hid hz1; have Z2 := Lib.hid hz2
  clear hi0 hz0 hz1 hz2
  have HI := Lib.hid h; have HL := Lib.hid hl
  obtain ⟨ar, cr, rfl⟩ := h.form
  obtain ⟨nr, hnr⟩ : ∃ nr, l.length = nr := ⟨_, rfl⟩
  rw [hnr] at HI
  rw [hnr]
  have HNR := Lib.hid hnr
  obtain ⟨A, hA⟩ : ∃ A, w.heap.size = A := ⟨_, rfl⟩
  obtain ⟨W1, hW1⟩ : ∃ W1, w.alloc (.cells #[.slice none 0 0, .int .i64 0, .int .i64 0, .bool false] 65) = W1 := ⟨_, rfl⟩
  have rW1 : Row W1 A 65 [.slice none 0 0, .int .i64 0, .int .i64 0, .bool false] := by rw [← hW1, ← hA]; exact Row.new _ _ _
  have bW1 : Below w.heap.size w W1 := by rw [← hW1]; exact (Below.refl _ _).alloc (Nat.le_refl _) _
  obtain ⟨W2, hW2⟩ : ∃ W2, (((W1.setCell ⟨A, 0, none⟩ (.slice ar nr cr)).setCell ⟨A, 1, none⟩ (.int .i64 0)).setCell ⟨A, 2, none⟩ (.int .i64 0)).setCell ⟨A, 3, none⟩ (.bool false) = W2 := ⟨_, rfl⟩
  have rW2 : Row W2 A 65 [.slice ar nr cr, .int .i64 0, .int .i64 0, .bool false] := by rw [← hW2]; exact (((rW1.set (i := 0) _).set (i := 1) _).set (i := 2) _).set (i := 3) _
  have bW2 : Below w.heap.size w W2 := by
    have lo : w.heap.size ≤ A := by rw [hA]; exact Nat.le_refl _
    rw [← hW2]; exact (((bW1.setCell lo _).setCell lo _).setCell lo _).setCell lo _
  have z0A := rW1.cell (i := 0) rfl; have z1A := rW1.cell (i := 1) rfl; have z2A := rW1.cell (i := 2) rfl; have z3A := rW1.cell (i := 3) rfl
  have zf0A := rW1.fr (i := 0); have zf1A := rW1.fr (i := 1); have zf2A := rW1.fr (i := 2); have zf3A := rW1.fr (i := 3)
  have RA := Lib.hid rW2; have BA := Lib.hid bW2
  have q0 := rW2.cell (i := 0) rfl; have q1 := rW2.cell (i := 1) rfl; have q2 := rW2.cell (i := 2) rfl; have q3 := rW2.cell (i := 3) rfl
  have OA : Hid (w.heap.size ≤ A ∧ A < W2.heap.size) := ⟨by omega, rW2.lt⟩
  have kb : (k == 1) = false := by simpa using hk1
  obtain ⟨R, hR⟩ : ∃ R, rlp k l.length (l, (0, 0), false) [] = R := ⟨_, rfl⟩
  have HR := Lib.hid hR
  have RE : Hid (rdec k l = R) := by show _ = _; unfold rdec; rw [if_neg hk1]; exact hR
  obtain ⟨Q, hQ⟩ : ∃ Q, W2.heap.size = Q := ⟨_, rfl⟩
  have HQ := Lib.hid hQ
  have QA : Hid (A < Q ∧ w.heap.size ≤ A) := ⟨by rw [← hQ]; exact rW2.lt, OA.out.1⟩
  clear h hl hnr hR rW1 bW1 rW2 bW2 hk1
  go_enter Tryd.func23, Tryd.ntmps23
  go_wp2_with fail
  clear hQ q0 q1 q2 q3
  go_loopw [7] (fun s7 wr => ∃ (vs : List Value) (acc : List (List Pt)) (v' : Value) (s' : RS) (f : Nat), Hid (PR wr Q s7 vs acc) ∧ Hid (Row wr A 65 (rc v' s'.2.1 s'.2.2)) ∧ Hid (IntsAt w v' s'.1) ∧ Hid (Below w.heap.size w wr ∧ Q ≤ wr.heap.size) ∧ Hid (s'.1.length ≤ f ∧ rlp k f s' acc = R) ∧ Hid (acc.length + s'.1.length ≤ l.length)) (fun s7 _ => l.length - lenV s7)
  case atStart => exact ⟨[], [], _, (l, (0, 0), false), l.length, PR.nil _ _, RA.out, HI.out, ⟨BA.out, by rw [HQ.out]; exact Nat.le_refl _⟩, ⟨Nat.le_refl _, HR.out⟩, by show _ ≤ _; simp⟩
  case round =>
    obtain ⟨vs, acc, v', s', f, PRk, RAk, IV, BW, HF, HLL⟩ := hrel
    have HL6 := HL
    obtain ⟨m, hm⟩ : ∃ m, acc.length = m := ⟨_, rfl⟩
    have HM := Lib.hid hm
    obtain ⟨a6, c6, hs6⟩ := own_form PRk.out.own
    rw [hm] at hs6
    subst hs6
    obtain ⟨a', c', hv'⟩ := IV.out.form
    subst hv'
    obtain ⟨r', ⟨qx, qy⟩, fl'⟩ := s'
    dsimp only at *
    obtain ⟨n', hn'⟩ : ∃ n', r'.length = n' := ⟨_, rfl⟩
    rw [hn'] at RAk IV
    have HN' := Lib.hid hn'
    have c0 := RAk.out.cell (i := 0) rfl; have c1 := RAk.out.cell (i := 1) rfl; have c2 := RAk.out.cell (i := 2) rfl; have c3 := RAk.out.cell (i := 3) rfl
    dsimp only [rc] at c0 c1 c2 c3
    have DONE : Hid ((acc, !fl') = R → ∀ q (b : Bool), b = !fl' → RdPost w k l (.returned (.tuple #[.slice a6 m c6, .bool b])) (wr.drewN q)) := fun hr q b hb => by
      have e : rdec k l = (acc, !fl') := by rw [RE.out, ← hr]
      exact ⟨a6, m, c6, b, rfl, below_drewN BW.out.1 _, by rw [e]; exact hb, fun _ => ⟨fun W hs he => by rw [e]; exact ((PRk.out.keep (below_drewN (Below.refl _ _) q)).same hs (fun g h1 h2 => he g (by have := QA.out; omega) h2)).rows, by rw [e]; have := HLL.out; have := HL6.out; dsimp only; omega⟩⟩
    clear hm hn'
    by_cases hre : r' = []
    · have d0 : ¬ (0 : Int) < (n' : Int) := by rw [← HN'.out, hre]; simp
      have EQ : Hid ((acc, !fl') = R) := by show _ = _; rw [← HF.out.2]; exact (rlp_stop (s := (r', (qx, qy), fl')) (Or.inl hre)).symm
      have DD := Lib.hid (DONE.out EQ.out)
      clear hre
      cases fl' with
      | true =>
        go_wp2_with fail
        go_quiet (fail)
        go_wp2_with fail
        go_ret2
        exact DD.out _ _ rfl
      | false =>
        go_wp2_with fail
        go_quiet (fail)
        go_wp2_with fail
        go_ret2
        exact DD.out _ _ rfl
    · have n0 : 0 < n' := by
        rw [← HN'.out]
        cases r' with
        | nil => exact absurd rfl hre
        | cons a b => simp
      have d0 : (0 : Int) < (n' : Int) := by omega
      cases fl' with
      | true =>
        have EQ : Hid ((acc, !true) = R) := by show _ = _; rw [← HF.out.2]; exact (rlp_stop (s := (r', (qx, qy), true)) (Or.inr rfl)).symm
        have DD := Lib.hid (DONE.out EQ.out)
        clear hre
        go_wp2_with fail
        go_quiet (fail)
        go_wp2_with fail
        go_ret2
        exact DD.out _ _ rfl
      | false =>
        have MORE := Lib.hid (rlp_more HF.out.2 HF.out.1 hre rfl)
        have LT := Lib.hid (rpart_lt k (r', (qx, qy), false) hre)
        have PA0 := rpart_any (w := wr) (s := (r', (qx, qy), false)) (k := k) BW.out.1 IV.out (by have := HLL.out; have := HL6.out; dsimp only; omega) rfl
        obtain ⟨⟨⟨t1, ⟨ax, ay⟩, fa⟩, l1⟩, hp⟩ : ∃ z, rpart k (r', (qx, qy), false) = z := ⟨_, rfl⟩
        unfold RtPost at PA0
        rw [hp] at MORE LT PA0
        dsimp only at MORE LT PA0
        have PA := Lib.hid PA0
        clear hre PA0 hp DONE
        go_wp2_with fail
        refine PA.out.mono ?_; rintro e w1 ⟨a1, n1, e1, ua, um, uc, rfl, i1, o1, b1⟩
        have I1 := Lib.hid i1; have O1 := Lib.hid o1
        have B1 : Hid (Below w.heap.size w w1) := BW.out.1.trans (b1.mono BW.out.1.size)
        have B1r := Lib.hid b1
        obtain ⟨C, hC⟩ : ∃ C, w1.heap.size = C := ⟨_, rfl⟩
        obtain ⟨W3, hW3⟩ : ∃ W3, w1.alloc (.cells #[.slice none 0 0, .int .i64 0, .int .i64 0, .bool false] 65) = W3 := ⟨_, rfl⟩
        have rW3 : Row W3 C 65 [.slice none 0 0, .int .i64 0, .int .i64 0, .bool false] := by rw [← hW3, ← hC]; exact Row.new _ _ _
        have bW3 : Below w1.heap.size w1 W3 := by rw [← hW3]; exact (Below.refl _ _).alloc (Nat.le_refl _) _
        obtain ⟨W4, hW4⟩ : ∃ W4, (((W3.setCell ⟨C, 0, none⟩ (.slice a1 n1 e1)).setCell ⟨C, 1, none⟩ (.int .i64 ax)).setCell ⟨C, 2, none⟩ (.int .i64 ay)).setCell ⟨C, 3, none⟩ (.bool fa) = W4 := ⟨_, rfl⟩
        have rW4 : Row W4 C 65 [.slice a1 n1 e1, .int .i64 ax, .int .i64 ay, .bool fa] := by rw [← hW4]; exact (((rW3.set (i := 0) _).set (i := 1) _).set (i := 2) _).set (i := 3) _
        have bW4 : Below w1.heap.size w1 W4 := by
          have lo : w1.heap.size ≤ C := by rw [hC]; exact Nat.le_refl _
          rw [← hW4]; exact (((bW3.setCell lo _).setCell lo _).setCell lo _).setCell lo _
        have z0C := rW3.cell (i := 0) rfl; have z1C := rW3.cell (i := 1) rfl; have z2C := rW3.cell (i := 2) rfl; have z3C := rW3.cell (i := 3) rfl
        have zf0C := rW3.fr (i := 0); have zf1C := rW3.fr (i := 1); have zf2C := rW3.fr (i := 2); have zf3C := rW3.fr (i := 3)
        have B4 : Hid (Below w.heap.size w W4) := B1.out.trans (bW4.mono B1.out.size)
        have B4r : Hid (Below wr.heap.size wr W4) := B1r.out.trans (bW4.mono B1r.out.size)
        have y0 := rW4.cell (i := 0) rfl; have y1 := rW4.cell (i := 1) rfl; have y2 := rW4.cell (i := 2) rfl; have y3 := rW4.cell (i := 3) rfl
        have RA4 := Lib.hid (RAk.out.below B4r.out RAk.out.lt)
        have x0 := RA4.out.cell (i := 0) rfl; have x1 := RA4.out.cell (i := 1) rfl; have x2 := RA4.out.cell (i := 2) rfl; have x3 := RA4.out.cell (i := 3) rfl
        dsimp only [rc] at x0 x1 x2 x3
        have xf0 := RA4.out.fr (i := 0); have xf1 := RA4.out.fr (i := 1); have xf2 := RA4.out.fr (i := 2); have xf3 := RA4.out.fr (i := 3)
        obtain ⟨W5, hW5⟩ : ∃ W5, (((W4.setCell ⟨A, 0, none⟩ (.slice a1 n1 e1)).setCell ⟨A, 1, none⟩ (.int .i64 ax)).setCell ⟨A, 2, none⟩ (.int .i64 ay)).setCell ⟨A, 3, none⟩ (.bool fa) = W5 := ⟨_, rfl⟩
        have rW5 : Row W5 A 65 [.slice a1 n1 e1, .int .i64 ax, .int .i64 ay, .bool fa] := by rw [← hW5]; exact (((RA4.out.set (i := 0) _).set (i := 1) _).set (i := 2) _).set (i := 3) _
        have RA5 := Lib.hid rW5
        have kp5 : ∀ g, g ≠ A → W5.heap[g]? = W4.heap[g]? := fun g hg => by
          rw [← hW5, Below.heap_setCell _ _ _ _ (by exact hg), Below.heap_setCell _ _ _ _ (by exact hg), Below.heap_setCell _ _ _ _ (by exact hg), Below.heap_setCell _ _ _ _ (by exact hg)]
        have b45 : Below A W4 W5 := by rw [← hW5]; exact ((((Below.refl A W4).setCell (by exact Nat.le_refl A) _).setCell (by exact Nat.le_refl A) _).setCell (by exact Nat.le_refl A) _).setCell (by exact Nat.le_refl A) _
        have B5 : Hid (Below w.heap.size w W5) := B4.out.trans (b45.mono QA.out.2)
        have S5 : Hid (wr.heap.size ≤ w1.heap.size ∧ w1.heap.size ≤ W5.heap.size ∧ Q ≤ wr.heap.size) := ⟨B1r.out.size, Nat.le_trans bW4.size b45.size, BW.out.2⟩
        have PR5 : Hid (PR W5 Q (.slice a6 m c6) vs acc) := PRk.out.same (by have := S5.out; omega) (fun g h1 h2 => by
          have := QA.out
          rw [kp5 g (by omega), B4r.out.block g h2])
        have PU : Hid (PtsAt W5 (.slice ua um uc) l1) := (POwn.same O1.out (fun g e => by
          have h1 := pown_base O1.out g e
          have h2 := QA.out; have h3 := S5.out
          rw [kp5 g (by omega), bW4.block g h1.2])).at_
        have HUB : Hid (∀ g, (Value.slice ua um uc).ownBlock = some g → Q ≤ g ∧ g < W5.heap.size ∧ (Value.slice a6 m c6).ownBlock ≠ some g) := by
          intro g hg
          have h1 := pown_base O1.out g hg
          have h3 := S5.out
          refine ⟨by omega, by omega, fun e => ?_⟩
          have := (World.ownsRow.lt PRk.out.own g e).2
          omega
        have MM : Hid (m ≤ 1000000) := by have := HLL.out; have := HM.out; have := HL6.out; show _ ≤ _; omega
        have QS : Hid (Q ≤ W5.heap.size) := by have := S5.out; show _ ≤ _; omega
        clear i1 o1 b1 PA rW3 bW3 rW4 bW4 rW5 kp5 b45 c0 c1 c2 c3
        go_wp2_with (at_builtin; refine wpList_append_own_at _ rfl _ _ 22 rfl Q 42 i0 (.slice none 0 0) 1 24 Tryd.underlying22 II.out Z0.out Z1.out Z2.out rfl (by decide) (.slice a6 m c6) m vs rfl ((row_of PR5.out HM.out).alloc _) ⟨W5.heap.size, 0, none⟩ 1 1 [.slice ua um uc] rfl rfl (one_new _ _ _) (by simp [Value.oneCell']) (by have := MM.out; unfold maxLen; omega) (by have := MM.out; omega) (by have := QS.out; simp; omega) ?_; intro v7 w7 hown' hgrow hnil hloc; have F7 := Lib.hid (pr_app PR5.out HM.out (Below.refl _ _) PU.out HUB.out hgrow hown' hloc); obtain ⟨a7, c7, hv7⟩ := own_form hown'; subst hv7; clear hown' hgrow hnil hloc)
        go_roundw
        case measure =>
          have h1 := HLL.out; have h2 := HM.out; have h3 := HN'.out
          show l.length - (m + 1) < l.length - m
          omega
        case rel =>
          obtain ⟨f', g1, g2⟩ := MORE.out
          have hlt := QA.out
          have b7 := F7.out.2.2 QS.out
          refine ⟨_, acc ++ [l1], _, (t1, (ax, ay), fa), f', F7.out.1, RA5.out.same (b7.block A hlt.1), I1.out, ⟨B5.out.trans (b7.mono (by omega)), Nat.le_trans QS.out b7.size⟩, ⟨g1, g2⟩, ?_⟩
          have h1 := HLL.out; have h2 := LT.out
          show _ ≤ _; rw [List.length_append]; simp; omega
theorem rdecode_any {w : World} {v : Value} {l : List Int} {k : Int} (h : IntsAt w v l) (hl : l.length ≤ 1000000) : Calls Tryd.prog 23 #[.int .i64 k, v] w (RdPost w k l) := by
  by_cases hk : k = 1
  · subst hk; exact rdecode_1 h hl
  · exact rdecode_2 hk h hl
end Go.Proofs.YthlbenldgnjgcaaDoor
