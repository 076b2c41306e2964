/- cmds: the parts of a geometry of points. -/
import Derived.Test.YthlbenldgnjgcaaDoorKt
namespace Go.Proofs.YthlbenldgnjgcaaDoor
open Go.ChangeShapes Go.WideShapes Go.ChangeAt Go.RowKit Go.Joins Go.Deep

set_option maxRecDepth 100000 in
set_option maxHeartbeats 8000000 in
theorem parts_1 {w0 w : World} {B : Nat} {v : Value} {r : List Int} (g : GV w0) (h : Rd w0 B w v r (0, 0)) : Calls Tryd.prog 22 #[qp B, .int .i64 1] w (PtPost w0 B 1 r) := by
  obtain ⟨i0, hi0, hz0, hz1, hz2⟩ := info_parts info42
  have II := Lib.hid hi0; have Z0 := Lib.hid hz0; have Z1 := Lib.hid hz1; have Z2 := Lib.hid hz2
  clear hi0 hz0 hz1 hz2
  have HH := Lib.hid h; have GG := Lib.hid g
  clear h g
  go_enter Tryd.func22, Tryd.ntmps22
  go_wp2_with fail
  refine (next_any GG.out HH.out).mono ?_; rintro e w1 ⟨id, u, ll, v', r', p', rfl, OW, RD, GB, HN, hl1, hl2⟩
  obtain ⟨a, c, hu⟩ := own_form OW
  obtain ⟨n, hn⟩ : ∃ n, ll.length = n := ⟨_, rfl⟩
  rw [hn] at hu
  subst hu
  obtain ⟨base, hbase⟩ : ∃ base, w1.heap.size = base := ⟨_, rfl⟩
  have HBS := Lib.hid hbase
  have HPT := Lib.hid (POwn.at_ OW); have RDD := Lib.hid RD; have GBB := Lib.hid GB; have HNN := Lib.hid HN
  have HNL := Lib.hid hn
  have GP : Hid (n ≤ 1000000) := by have := HH.out.len; show _ ≤ _; omega
  have LB : Hid (B < base) := by rw [← hbase]; exact RD.row.lt
  have BW0 : Hid (Below w0.heap.size w w1) := gb_low GB HH.out.low HH.out.row.lt
  obtain ⟨ar, cr, rfl⟩ := RD.ints.form
  obtain ⟨nr, hnr⟩ : ∃ nr, r'.length = nr := ⟨_, rfl⟩
  rw [hnr] at RDD
  have HNR := Lib.hid hnr
  clear OW RD GB HN hl1 hl2 hn hbase hnr
  go_wp2_with fail
  go_loopw [6, 26] (fun s6 s26 wr => ∃ (k : Nat) (vs : List Value), k ≤ n ∧ s26 = .int .i64 (k : Int) ∧ Hid (PR wr base s6 vs ((ll.take k).map fun p => [p])) ∧ Hid (Below base w1 wr)) (fun _ s26 _ => n - (intOf s26).toNat)
  case atStart => exact ⟨0, [], Nat.zero_le _, rfl, PR.nil _ _, Below.refl _ _⟩
  case round =>
    obtain ⟨k, vs, hk, rfl, PRk, BW⟩ := hrel
    have HLk : Hid (((ll.take k).map fun p => [p]).length = k) := by show _ = _; rw [List.length_map, List.length_take, HNL.out]; omega
    obtain ⟨a6, c6, hs6⟩ := own_form PRk.out.own
    rw [HLk.out] at hs6
    subst hs6
    by_cases hkn : k < n
    · obtain ⟨b, off, rfl, bl, p0, p1⟩ := (HPT.out.below (by rw [HBS.out]; exact BW.out)).at_ (j := k) (by rw [HNL.out]; exact hkn)
      obtain ⟨⟨x, y⟩, hz⟩ : ∃ z, ll.getD k (0, 0) = z := ⟨_, rfl⟩
      rw [hz] at p0 p1
      dsimp only at p0 p1
      have HZ := Lib.hid hz
      have OX : Hid (wr.ownsRow base 42 1 (.slice a6 k c6) k vs) := by have := PRk.out.own; rw [HLk.out] at this; exact this
      have HKK : Hid (k ≤ 1000000) := by have := GP.out; show _ ≤ _; omega
      obtain ⟨ks, hks⟩ : ∃ ks, k + 1 = ks := ⟨_, rfl⟩
      have HKS := Lib.hid hks
      have k0 : (0 : Int) ≤ (k : Int) := by omega
      have kl : (k : Int) < (n : Int) := by omega
      have k1e : (k : Int) + 1 = (ks : Int) := by omega
      have k1w : IntKind.i64.wrap (ks : Int) = (ks : Int) := by have := GP.out; rw [IntKind.wrap_i64]; omega
      obtain ⟨X, hX⟩ : ∃ X, wr.heap.size = X := ⟨_, rfl⟩
      obtain ⟨W4, hW4⟩ : ∃ W4, wr.alloc (.cells #[.int .i64 0, .int .i64 0] 44) = W4 := ⟨_, rfl⟩
      have r4 : Row W4 X 44 [.int .i64 0, .int .i64 0] := by rw [← hW4, ← hX]; exact Row.new _ _ _
      have b4 : Below wr.heap.size wr W4 := by rw [← hW4]; exact (Below.refl _ _).alloc (Nat.le_refl _) _
      obtain ⟨W5, hW5⟩ : ∃ W5, (W4.setCell ⟨X, 0, none⟩ (.int .i64 x)).setCell ⟨X, 1, none⟩ (.int .i64 y) = W5 := ⟨_, rfl⟩
      have r5 : Row W5 X 44 [.int .i64 x, .int .i64 y] := by rw [← hW5]; exact (r4.set (i := 0) _).set (i := 1) _
      have b5 : Below wr.heap.size wr W5 := by rw [← hW5]; exact (b4.setCell (by rw [hX]; exact Nat.le_refl X) _).setCell (by rw [hX]; exact Nat.le_refl X) _
      obtain ⟨Y, hY⟩ : ∃ Y, W5.heap.size = Y := ⟨_, rfl⟩
      obtain ⟨W6, hW6⟩ : ∃ W6, W5.alloc (.cells #[.int .i64 x, .int .i64 y] 44) = W6 := ⟨_, rfl⟩
      have r6 : Row W6 Y 44 [.int .i64 x, .int .i64 y] := by rw [← hW6, ← hY]; exact Row.new _ _ _
      have b6 : Below wr.heap.size wr W6 := by rw [← hW6]; exact b5.alloc b5.size _
      have hXY : X ≤ Y := by rw [← hX, ← hY]; exact b5.size
      have SB : Hid (base ≤ X) := by rw [← hX, ← HBS.out]; exact BW.out.size
      have PU : Hid (PtsAt W6 (.slice (some ⟨Y, 0, none⟩) 1 1) [(x, y)]) := by
        refine ⟨_, 1, rfl, Nat.le_refl _, fun e => (by cases e), Or.inr ⟨Y, 0, rfl, r6.lt, fun j hj => ?_⟩⟩
        have j0 : j = 0 := by simp at hj; omega
        subst j0
        exact ⟨r6.cell (i := 0) rfl, r6.cell (i := 1) rfl⟩
      have HUB : Hid (∀ g, (Value.slice (some ⟨Y, 0, none⟩) 1 1).ownBlock = some g → base ≤ g ∧ g < W6.heap.size ∧ (Value.slice a6 k c6).ownBlock ≠ some g) := by
        intro g hg
        obtain rfl : Y = g := Option.some.inj hg
        refine ⟨by have := SB.out; omega, r6.lt, fun e => ?_⟩
        have := (World.ownsRow.lt OX.out _ e).2
        omega
      have B6 := Lib.hid b6
      have HX : Hid (wr.heap.size = X) := hX
      have SZ6 : Hid (base ≤ W6.heap.size) := by have := SB.out; have := b6.size; rw [hX] at this; show _ ≤ _; omega
      have z0 := r4.cell (i := 0) rfl; have z1 := r4.cell (i := 1) rfl; have zf0 := r4.fr (i := 0); have zf1 := r4.fr (i := 1)
      have y0 := r5.cell (i := 0) rfl; have y1 := r5.cell (i := 1) rfl
      have OX' := OX
      have OX : Hid (W6.ownsRow base 42 1 (.slice a6 k c6) k vs) := own_same OX'.out (fun g hg => B6.out.block g (World.ownsRow.lt OX'.out g hg).2)
      clear hz hks r4 b4 r5 b5 r6 b6 hXY bl
      go_wp2_with (at_builtin; refine wpList_append_own_at _ rfl _ _ 22 rfl base 42 i0 (.slice none 0 0) 1 24 Tryd.underlying22 II.out Z0.out Z1.out Z2.out rfl (by decide) (.slice a6 k c6) k vs rfl (OX.out.alloc _) ⟨W6.heap.size, 0, none⟩ 1 1 [.slice (some ⟨Y, 0, none⟩) 1 1] rfl rfl (one_new _ _ _) (by simp [Value.oneCell']) (by have := HKK.out; unfold maxLen; omega) (by have := HKK.out; omega) (by have := SZ6.out; simp; omega) ?_; intro v7 w7 hown' hgrow hnil hloc; have F7 := Lib.hid (pr_app PRk.out HLk.out B6.out PU.out HUB.out hgrow hown' hloc); obtain ⟨a7, c7, hv7⟩ := own_form hown'; subst hv7; clear hown' hgrow hnil hloc)
      go_wp2_with fail
      go_roundw
      case measure => have := HKS.out; simp [intOf]; omega
      case rel =>
        refine ⟨ks, vs ++ [.slice (some ⟨Y, 0, none⟩) 1 1], by have := HKS.out; omega, rfl, ?_, ?_⟩
        · have e : ((ll.take ks).map fun p => [p]) = ((ll.take k).map fun p => [p]) ++ [[(x, y)]] := by
            rw [← HKS.out, take_get (by rw [HNL.out]; exact hkn), List.map_append, HZ.out]; rfl
          rw [e]; exact F7.out.1
        · exact BW.out.trans (F7.out.2.2 (by rw [HX.out]; exact SB.out))
    · have kl : ¬ (k : Int) < (n : Int) := by omega
      have ek : k = n := by omega
      subst ek
      have PRn : Hid (PR wr base (.slice a6 k c6) vs (ll.map fun p => [p])) := by have := PRk.out; rw [List.take_of_length_le (by rw [HNL.out]; exact Nat.le_refl _)] at this; exact this
      have BWW : Hid (Below w0.heap.size w0 wr) := HH.out.bel.trans (BW0.out.trans (BW.out.mono (by have := RDD.out.low; have := LB.out; omega)))
      have RDw := Lib.hid (RDD.out.row.below BW.out LB.out)
      have c0 := RDw.out.cell (i := 0) rfl
      by_cases hid : id = 1
      · by_cases hr0 : nr = 0
        · have d1 : (id == 1) = true := by simpa using hid
          have d2 : ((nr : Int) == 0) = true := by simp; omega
          have NN : Hid (prts 1 r = some (ll.map fun p => [p])) := by
            have hre : r' = [] := List.eq_nil_of_length_eq_zero (by rw [HNR.out, hr0])
            unfold prts
            rw [if_pos rfl]
            rcases HNN.out with e | ⟨_, e, _⟩
            · show _ = _
              rw [e]; dsimp only; rw [if_pos ⟨hid, hre⟩]
            · exact absurd e (by omega)
          clear hid hr0
          go_wp2_with fail
          go_quiet (fail)
          go_wp2_with fail
          go_ret2
          exact ⟨_, _, _, true, rfl, below_drewN BWW.out _, fun _ => ⟨_, NN.out, fun W hs he => ((PRn.out.keep (below_drewN (Below.refl _ _) _)).same hs (fun g h1 h2 => he g (by have := LB.out; omega) h2)).rows, by rw [List.length_map, HNL.out]; exact GP.out⟩, (fun e => by cases e)⟩
        · have d1 : (id == 1) = true := by simpa using hid
          have d2 : ((nr : Int) == 0) = false := by simp; omega
          have NN : Hid (prts 1 r = none) := by
            have hre : r' ≠ [] := fun e => hr0 (by rw [← HNR.out, e]; rfl)
            unfold prts
            rw [if_pos rfl]
            rcases HNN.out with e | ⟨e, _, _⟩
            · show _ = _
              rw [e]; dsimp only; rw [if_neg (fun hh => hre hh.2)]
            · show _ = _
              rw [e]
          clear hid hr0
          go_wp2_with fail
          go_quiet (fail)
          go_wp2_with fail
          go_ret2
          exact ⟨_, _, _, false, rfl, below_drewN BWW.out _, (fun e => by cases e), fun _ => NN.out⟩
      · have d1 : (id == 1) = false := by simpa using hid
        have NN : Hid (prts 1 r = none) := by
          unfold prts
          rw [if_pos rfl]
          rcases HNN.out with e | ⟨e, _, _⟩
          · show _ = _
            rw [e]; dsimp only; rw [if_neg (fun hh => hid hh.1)]
          · show _ = _
            rw [e]
        clear hid
        go_wp2_with fail
        go_quiet (fail)
        go_wp2_with fail
        go_ret2
        exact ⟨_, _, _, false, rfl, below_drewN BWW.out _, (fun e => by cases e), fun _ => NN.out⟩
end Go.Proofs.YthlbenldgnjgcaaDoor
