/- seg: Relate of any segments. -/
import Derived.Test.YtfabfnjfnildhaaSp
import Derived.Test.YtfabfnjfnildhaaSq
namespace Go.Proofs.Ytfabfnjfnildhaa
open Go.ChangeShapes Go.WideShapes Go.ChangeAt Go.RowKit Go.Joins Go.Deep

theorem of_any (a b c d : Int) (W : World) : Calls Try.prog 14 #[pt a b, pt c d] W fun e' w' => e' = .returned (sg (loF a b c d).1 (loF a b c d).2 (hiF a b c d).1 (hiF a b c d).2) ∧ Below W.heap.size W w' := by
  unfold loF hiF
  by_cases q : lsB c d a b = true
  · rw [if_pos q, if_pos q]; exact of_yes a b c d W q
  · rw [if_neg q, if_neg q]; exact of_not a b c d W (by simpa using q)
theorem share_any (a b c d e f g h : Int) (w : World) : Calls Try.prog 46 #[sg a b c d, sg e f g h] w fun e' w' => e' = .returned (.bool (shB a b c d e f g h)) ∧ Below w.heap.size w w' :=
  share_of a b c d e f g h _ _ _ _ _ _ _ _ w (fun W => of_any a b c d W) (fun W => of_any e f g h W)
theorem rel_bad {a b c d e f g h : Int} (k : okB a b c d e f g h = false) : relF a b c d e f g h = 0 := by unfold relF; rw [k]; rfl
theorem rel_2 {a b c d e f g h : Int} (k : okB a b c d e f g h = true) (x : crB a b c d e f g h = true) : relF a b c d e f g h = 2 := by unfold relF; rw [k, x]; rfl
theorem rel_3 {a b c d e f g h : Int} (k : okB a b c d e f g h = true) (x : crB a b c d e f g h = false) (y : stB a b c d e f g h = true) (z : shB a b c d e f g h = true) : relF a b c d e f g h = 3 := by unfold relF; rw [k, x, y, z]; rfl
theorem rel_1 {a b c d e f g h : Int} (k : okB a b c d e f g h = true) (x : crB a b c d e f g h = false) (y : (stB a b c d e f g h && shB a b c d e f g h) = false) (z : (enB a b c d e f g h || enB e f g h a b c d) = true) : relF a b c d e f g h = 1 := by unfold relF; rw [k, x, y, z]; rfl
theorem rel_0 {a b c d e f g h : Int} (k : okB a b c d e f g h = true) (x : crB a b c d e f g h = false) (y : (stB a b c d e f g h && shB a b c d e f g h) = false) (z : (enB a b c d e f g h || enB e f g h a b c d) = false) : relF a b c d e f g h = 0 := by unfold relF; rw [k, x, y, z]; rfl
set_option maxRecDepth 100000 in
set_option maxHeartbeats 4000000 in
theorem relate_any (a b c d e f g h : Int) (w : World) : Calls Try.prog 25 #[sg a b c d, sg e f g h] w fun e' w' => e' = .returned (.int .i64 (relF a b c d e f g h)) ∧ Below w.heap.size w w' := by
  obtain ⟨W1, hW1⟩ : ∃ W1, w.alloc (Obj.cells #[.int .i64 a, .int .i64 b, .int .i64 c, .int .i64 d] 25) = W1 := ⟨_, rfl⟩
  obtain ⟨W2, hW2⟩ : ∃ W2, W1.alloc (Obj.cells #[.int .i64 e, .int .i64 f, .int .i64 g, .int .i64 h] 25) = W2 := ⟨_, rfl⟩
  have z1 : W1.heap.size = w.heap.size + 1 := by rw [← hW1, World.size_alloc]
  have HSZ := Lib.hid (show W2.heap.size = w.heap.size + 1 + 1 by rw [← hW2, World.size_alloc, z1])
  have g1 := G4.new w a b c d
  have g2 := G4.new W1 e f g h
  have b1 : Below w.heap.size w W1 := by rw [← hW1]; exact (Below.refl _ _).alloc (Nat.le_refl _) _
  have b2 : Below W1.heap.size W1 W2 := by rw [← hW2]; exact (Below.refl _ _).alloc (Nat.le_refl _) _
  rw [hW1] at g1; rw [hW2, z1] at g2
  have GA := Lib.hid (g1.below b2 g1.lt); have GB := Lib.hid g2
  have BX := Lib.hid (b1.trans (b2.mono (by omega)))
  clear g1 g2 b1 b2
  have c0 := GA.out.c0; have c1 := GA.out.c1; have c2 := GA.out.c2; have c3 := GA.out.c3
  have d0 := GB.out.c0; have d1 := GB.out.c1; have d2 := GB.out.c2; have d3 := GB.out.c3
  go_enter Try.func25, Try.ntmps25
  go_wp2_with fail
  refine (all_any _ _ _ [(a, b), (c, d), (e, f), (g, h)] _ (pts4 _ _ _ _ _ _ _ _ _ _ _ rfl) (by omega)).mono ?_; rintro e' w5 ⟨rfl, hb'⟩; rw [allV4]
  have hb := ((Below.refl W2.heap.size W2).alloc (Nat.le_refl _) _).trans (hb'.mono (by simp)); clear hb'
  replace GA := Lib.hid (GA.out.below hb GA.out.lt); replace GB := Lib.hid (GB.out.below hb GB.out.lt)
  replace BX := Lib.hid (BX.out.trans (hb.mono BX.out.size))
  clear hb c0 c1 c2 c3 d0 d1 d2 d3
  have c0 := GA.out.c0; have c1 := GA.out.c1; have c2 := GA.out.c2; have c3 := GA.out.c3
  have d0 := GB.out.c0; have d1 := GB.out.c1; have d2 := GB.out.c2; have d3 := GB.out.c3
  obtain ⟨vv, hv⟩ : ∃ vv, (vldB a b && vldB c d && vldB e f && vldB g h) = vv := ⟨_, rfl⟩
  rw [hv]
  cases vv
  · have K := Lib.hid (rel_bad (a := a) (b := b) (c := c) (d := d) (e := e) (f := f) (g := g) (h := h) (by unfold okB; rw [hv]; rfl))
    clear hv
    go_wp2_with fail
    go_ret
    exact ⟨by rw [K.out]; rfl, BX.out⟩
  by_cases n1 : a = c
  · obtain rfl := n1
    by_cases n2 : b = d
    · obtain rfl := n2
      have K := Lib.hid (rel_bad (show okB a b a b e f g h = false by unfold okB; simp))
      clear hv
      go_wp2_with fail
      go_ret
      exact ⟨by rw [K.out]; rfl, BX.out⟩
    · skip
      by_cases m1 : e = g
      · obtain rfl := m1
        by_cases m2 : f = h
        · obtain rfl := m2
          have K := Lib.hid (rel_bad (show okB a b a d e f e f = false by unfold okB; simp))
          clear hv
          go_wp2_with fail
          go_ret
          exact ⟨by rw [K.out]; rfl, BX.out⟩
        · skip
          have K := Lib.hid (show okB a b a d e f e h = true by unfold okB; rw [hv]; simp; omega)
          clear hv
          go_wp2_with fail
          refine (splits_any a b a d e f e h _).mono ?_; rintro e0 w5 ⟨rfl, hb⟩
          replace GA := Lib.hid (GA.out.below hb GA.out.lt); replace GB := Lib.hid (GB.out.below hb GB.out.lt)
          replace BX := Lib.hid (BX.out.trans (hb.mono BX.out.size))
          clear hb c0 c1 c2 c3 d0 d1 d2 d3
          have c0 := GA.out.c0; have c1 := GA.out.c1; have c2 := GA.out.c2; have c3 := GA.out.c3
          have d0 := GB.out.c0; have d1 := GB.out.c1; have d2 := GB.out.c2; have d3 := GB.out.c3
          obtain ⟨x1, hx1⟩ : ∃ x1, splB (trn a b a d e f) (trn a b a d e h) = x1 := ⟨_, rfl⟩
          rw [hx1]
          have HX1 := Lib.hid hx1; clear hx1
          cases x1
          · skip
            have CR := Lib.hid (show crB a b a d e f e h = false by unfold crB; rw [HX1.out]; rfl)
            go_wp2_with fail
            refine (straight_any a b a d e f e h _).mono ?_; rintro e0 w5 ⟨rfl, hb⟩
            replace GA := Lib.hid (GA.out.below hb GA.out.lt); replace GB := Lib.hid (GB.out.below hb GB.out.lt)
            replace BX := Lib.hid (BX.out.trans (hb.mono BX.out.size))
            clear hb c0 c1 c2 c3 d0 d1 d2 d3
            have c0 := GA.out.c0; have c1 := GA.out.c1; have c2 := GA.out.c2; have c3 := GA.out.c3
            have d0 := GB.out.c0; have d1 := GB.out.c1; have d2 := GB.out.c2; have d3 := GB.out.c3
            obtain ⟨y1, hy1⟩ : ∃ y1, (trn a b a d e f == 0 && trn a b a d e h == 0) = y1 := ⟨_, rfl⟩
            rw [hy1]
            have HY := Lib.hid (show stB a b a d e f e h = y1 from hy1); clear hy1
            cases y1
            · have YY := Lib.hid (show (stB a b a d e f e h && shB a b a d e f e h) = false by rw [HY.out]; rfl)
              go_wp2_with fail
              refine (endOn_any a b a d e f e h _).mono ?_; rintro e0 w5 ⟨rfl, hb⟩
              replace GA := Lib.hid (GA.out.below hb GA.out.lt); replace GB := Lib.hid (GB.out.below hb GB.out.lt)
              replace BX := Lib.hid (BX.out.trans (hb.mono BX.out.size))
              clear hb c0 c1 c2 c3 d0 d1 d2 d3
              have c0 := GA.out.c0; have c1 := GA.out.c1; have c2 := GA.out.c2; have c3 := GA.out.c3
              have d0 := GB.out.c0; have d1 := GB.out.c1; have d2 := GB.out.c2; have d3 := GB.out.c3
              obtain ⟨u1, hu1⟩ : ∃ u1, (onB a b e f e h || onB a d e f e h) = u1 := ⟨_, rfl⟩
              rw [hu1]
              have HU := Lib.hid (show enB a b a d e f e h = u1 from hu1); clear hu1
              cases u1
              · go_wp2_with fail
                refine (endOn_any e f e h a b a d _).mono ?_; rintro e0 w5 ⟨rfl, hb⟩
                replace GA := Lib.hid (GA.out.below hb GA.out.lt); replace GB := Lib.hid (GB.out.below hb GB.out.lt)
                replace BX := Lib.hid (BX.out.trans (hb.mono BX.out.size))
                clear hb c0 c1 c2 c3 d0 d1 d2 d3
                have c0 := GA.out.c0; have c1 := GA.out.c1; have c2 := GA.out.c2; have c3 := GA.out.c3
                have d0 := GB.out.c0; have d1 := GB.out.c1; have d2 := GB.out.c2; have d3 := GB.out.c3
                obtain ⟨u2, hu2⟩ : ∃ u2, (onB e f a b a d || onB e h a b a d) = u2 := ⟨_, rfl⟩
                rw [hu2]
                have HU2 := Lib.hid (show enB e f e h a b a d = u2 from hu2); clear hu2
                cases u2
                · go_wp2_with fail
                  go_ret
                  exact ⟨by rw [rel_0 K.out CR.out YY.out (by rw [HU.out, HU2.out]; rfl)]; rfl, BX.out⟩
                · go_wp2_with fail
                  go_ret
                  exact ⟨by rw [rel_1 K.out CR.out YY.out (by rw [HU.out, HU2.out]; rfl)]; rfl, BX.out⟩
              · go_wp2_with fail
                go_ret
                exact ⟨by rw [rel_1 K.out CR.out YY.out (by rw [HU.out]; rfl)]; rfl, BX.out⟩
            · go_wp2_with fail
              refine (share_any a b a d e f e h _).mono ?_; rintro e0 w5 ⟨rfl, hb⟩
              replace GA := Lib.hid (GA.out.below hb GA.out.lt); replace GB := Lib.hid (GB.out.below hb GB.out.lt)
              replace BX := Lib.hid (BX.out.trans (hb.mono BX.out.size))
              clear hb c0 c1 c2 c3 d0 d1 d2 d3
              have c0 := GA.out.c0; have c1 := GA.out.c1; have c2 := GA.out.c2; have c3 := GA.out.c3
              have d0 := GB.out.c0; have d1 := GB.out.c1; have d2 := GB.out.c2; have d3 := GB.out.c3
              obtain ⟨z1, hz1⟩ : ∃ z1, shB a b a d e f e h = z1 := ⟨_, rfl⟩
              rw [hz1]
              have HZ := Lib.hid hz1; clear hz1
              cases z1
              · have YY := Lib.hid (show (stB a b a d e f e h && shB a b a d e f e h) = false by rw [HY.out, HZ.out]; rfl)
                go_wp2_with fail
                refine (endOn_any a b a d e f e h _).mono ?_; rintro e0 w5 ⟨rfl, hb⟩
                replace GA := Lib.hid (GA.out.below hb GA.out.lt); replace GB := Lib.hid (GB.out.below hb GB.out.lt)
                replace BX := Lib.hid (BX.out.trans (hb.mono BX.out.size))
                clear hb c0 c1 c2 c3 d0 d1 d2 d3
                have c0 := GA.out.c0; have c1 := GA.out.c1; have c2 := GA.out.c2; have c3 := GA.out.c3
                have d0 := GB.out.c0; have d1 := GB.out.c1; have d2 := GB.out.c2; have d3 := GB.out.c3
                obtain ⟨u1, hu1⟩ : ∃ u1, (onB a b e f e h || onB a d e f e h) = u1 := ⟨_, rfl⟩
                rw [hu1]
                have HU := Lib.hid (show enB a b a d e f e h = u1 from hu1); clear hu1
                cases u1
                · go_wp2_with fail
                  refine (endOn_any e f e h a b a d _).mono ?_; rintro e0 w5 ⟨rfl, hb⟩
                  replace GA := Lib.hid (GA.out.below hb GA.out.lt); replace GB := Lib.hid (GB.out.below hb GB.out.lt)
                  replace BX := Lib.hid (BX.out.trans (hb.mono BX.out.size))
                  clear hb c0 c1 c2 c3 d0 d1 d2 d3
                  have c0 := GA.out.c0; have c1 := GA.out.c1; have c2 := GA.out.c2; have c3 := GA.out.c3
                  have d0 := GB.out.c0; have d1 := GB.out.c1; have d2 := GB.out.c2; have d3 := GB.out.c3
                  obtain ⟨u2, hu2⟩ : ∃ u2, (onB e f a b a d || onB e h a b a d) = u2 := ⟨_, rfl⟩
                  rw [hu2]
                  have HU2 := Lib.hid (show enB e f e h a b a d = u2 from hu2); clear hu2
                  cases u2
                  · go_wp2_with fail
                    go_ret
                    exact ⟨by rw [rel_0 K.out CR.out YY.out (by rw [HU.out, HU2.out]; rfl)]; rfl, BX.out⟩
                  · go_wp2_with fail
                    go_ret
                    exact ⟨by rw [rel_1 K.out CR.out YY.out (by rw [HU.out, HU2.out]; rfl)]; rfl, BX.out⟩
                · go_wp2_with fail
                  go_ret
                  exact ⟨by rw [rel_1 K.out CR.out YY.out (by rw [HU.out]; rfl)]; rfl, BX.out⟩
              · go_wp2_with fail
                go_ret
                exact ⟨by rw [rel_3 K.out CR.out HY.out HZ.out]; rfl, BX.out⟩
          · go_wp2_with fail
            refine (splits_any e f e h a b a d _).mono ?_; rintro e0 w5 ⟨rfl, hb⟩
            replace GA := Lib.hid (GA.out.below hb GA.out.lt); replace GB := Lib.hid (GB.out.below hb GB.out.lt)
            replace BX := Lib.hid (BX.out.trans (hb.mono BX.out.size))
            clear hb c0 c1 c2 c3 d0 d1 d2 d3
            have c0 := GA.out.c0; have c1 := GA.out.c1; have c2 := GA.out.c2; have c3 := GA.out.c3
            have d0 := GB.out.c0; have d1 := GB.out.c1; have d2 := GB.out.c2; have d3 := GB.out.c3
            obtain ⟨x2, hx2⟩ : ∃ x2, splB (trn e f e h a b) (trn e f e h a d) = x2 := ⟨_, rfl⟩
            rw [hx2]
            have HX2 := Lib.hid hx2; clear hx2
            cases x2
            · skip
              have CR := Lib.hid (show crB a b a d e f e h = false by unfold crB; rw [HX1.out, HX2.out]; rfl)
              go_wp2_with fail
              refine (straight_any a b a d e f e h _).mono ?_; rintro e0 w5 ⟨rfl, hb⟩
              replace GA := Lib.hid (GA.out.below hb GA.out.lt); replace GB := Lib.hid (GB.out.below hb GB.out.lt)
              replace BX := Lib.hid (BX.out.trans (hb.mono BX.out.size))
              clear hb c0 c1 c2 c3 d0 d1 d2 d3
              have c0 := GA.out.c0; have c1 := GA.out.c1; have c2 := GA.out.c2; have c3 := GA.out.c3
              have d0 := GB.out.c0; have d1 := GB.out.c1; have d2 := GB.out.c2; have d3 := GB.out.c3
              obtain ⟨y1, hy1⟩ : ∃ y1, (trn a b a d e f == 0 && trn a b a d e h == 0) = y1 := ⟨_, rfl⟩
              rw [hy1]
              have HY := Lib.hid (show stB a b a d e f e h = y1 from hy1); clear hy1
              cases y1
              · have YY := Lib.hid (show (stB a b a d e f e h && shB a b a d e f e h) = false by rw [HY.out]; rfl)
                go_wp2_with fail
                refine (endOn_any a b a d e f e h _).mono ?_; rintro e0 w5 ⟨rfl, hb⟩
                replace GA := Lib.hid (GA.out.below hb GA.out.lt); replace GB := Lib.hid (GB.out.below hb GB.out.lt)
                replace BX := Lib.hid (BX.out.trans (hb.mono BX.out.size))
                clear hb c0 c1 c2 c3 d0 d1 d2 d3
                have c0 := GA.out.c0; have c1 := GA.out.c1; have c2 := GA.out.c2; have c3 := GA.out.c3
                have d0 := GB.out.c0; have d1 := GB.out.c1; have d2 := GB.out.c2; have d3 := GB.out.c3
                obtain ⟨u1, hu1⟩ : ∃ u1, (onB a b e f e h || onB a d e f e h) = u1 := ⟨_, rfl⟩
                rw [hu1]
                have HU := Lib.hid (show enB a b a d e f e h = u1 from hu1); clear hu1
                cases u1
                · go_wp2_with fail
                  refine (endOn_any e f e h a b a d _).mono ?_; rintro e0 w5 ⟨rfl, hb⟩
                  replace GA := Lib.hid (GA.out.below hb GA.out.lt); replace GB := Lib.hid (GB.out.below hb GB.out.lt)
                  replace BX := Lib.hid (BX.out.trans (hb.mono BX.out.size))
                  clear hb c0 c1 c2 c3 d0 d1 d2 d3
                  have c0 := GA.out.c0; have c1 := GA.out.c1; have c2 := GA.out.c2; have c3 := GA.out.c3
                  have d0 := GB.out.c0; have d1 := GB.out.c1; have d2 := GB.out.c2; have d3 := GB.out.c3
                  obtain ⟨u2, hu2⟩ : ∃ u2, (onB e f a b a d || onB e h a b a d) = u2 := ⟨_, rfl⟩
                  rw [hu2]
                  have HU2 := Lib.hid (show enB e f e h a b a d = u2 from hu2); clear hu2
                  cases u2
                  · go_wp2_with fail
                    go_ret
                    exact ⟨by rw [rel_0 K.out CR.out YY.out (by rw [HU.out, HU2.out]; rfl)]; rfl, BX.out⟩
                  · go_wp2_with fail
                    go_ret
                    exact ⟨by rw [rel_1 K.out CR.out YY.out (by rw [HU.out, HU2.out]; rfl)]; rfl, BX.out⟩
                · go_wp2_with fail
                  go_ret
                  exact ⟨by rw [rel_1 K.out CR.out YY.out (by rw [HU.out]; rfl)]; rfl, BX.out⟩
              · go_wp2_with fail
                refine (share_any a b a d e f e h _).mono ?_; rintro e0 w5 ⟨rfl, hb⟩
                replace GA := Lib.hid (GA.out.below hb GA.out.lt); replace GB := Lib.hid (GB.out.below hb GB.out.lt)
                replace BX := Lib.hid (BX.out.trans (hb.mono BX.out.size))
                clear hb c0 c1 c2 c3 d0 d1 d2 d3
                have c0 := GA.out.c0; have c1 := GA.out.c1; have c2 := GA.out.c2; have c3 := GA.out.c3
                have d0 := GB.out.c0; have d1 := GB.out.c1; have d2 := GB.out.c2; have d3 := GB.out.c3
                obtain ⟨z1, hz1⟩ : ∃ z1, shB a b a d e f e h = z1 := ⟨_, rfl⟩
                rw [hz1]
                have HZ := Lib.hid hz1; clear hz1
                cases z1
                · have YY := Lib.hid (show (stB a b a d e f e h && shB a b a d e f e h) = false by rw [HY.out, HZ.out]; rfl)
                  go_wp2_with fail
                  refine (endOn_any a b a d e f e h _).mono ?_; rintro e0 w5 ⟨rfl, hb⟩
                  replace GA := Lib.hid (GA.out.below hb GA.out.lt); replace GB := Lib.hid (GB.out.below hb GB.out.lt)
                  replace BX := Lib.hid (BX.out.trans (hb.mono BX.out.size))
                  clear hb c0 c1 c2 c3 d0 d1 d2 d3
                  have c0 := GA.out.c0; have c1 := GA.out.c1; have c2 := GA.out.c2; have c3 := GA.out.c3
                  have d0 := GB.out.c0; have d1 := GB.out.c1; have d2 := GB.out.c2; have d3 := GB.out.c3
                  obtain ⟨u1, hu1⟩ : ∃ u1, (onB a b e f e h || onB a d e f e h) = u1 := ⟨_, rfl⟩
                  rw [hu1]
                  have HU := Lib.hid (show enB a b a d e f e h = u1 from hu1); clear hu1
                  cases u1
                  · go_wp2_with fail
                    refine (endOn_any e f e h a b a d _).mono ?_; rintro e0 w5 ⟨rfl, hb⟩
                    replace GA := Lib.hid (GA.out.below hb GA.out.lt); replace GB := Lib.hid (GB.out.below hb GB.out.lt)
                    replace BX := Lib.hid (BX.out.trans (hb.mono BX.out.size))
                    clear hb c0 c1 c2 c3 d0 d1 d2 d3
                    have c0 := GA.out.c0; have c1 := GA.out.c1; have c2 := GA.out.c2; have c3 := GA.out.c3
                    have d0 := GB.out.c0; have d1 := GB.out.c1; have d2 := GB.out.c2; have d3 := GB.out.c3
                    obtain ⟨u2, hu2⟩ : ∃ u2, (onB e f a b a d || onB e h a b a d) = u2 := ⟨_, rfl⟩
                    rw [hu2]
                    have HU2 := Lib.hid (show enB e f e h a b a d = u2 from hu2); clear hu2
                    cases u2
                    · go_wp2_with fail
                      go_ret
                      exact ⟨by rw [rel_0 K.out CR.out YY.out (by rw [HU.out, HU2.out]; rfl)]; rfl, BX.out⟩
                    · go_wp2_with fail
                      go_ret
                      exact ⟨by rw [rel_1 K.out CR.out YY.out (by rw [HU.out, HU2.out]; rfl)]; rfl, BX.out⟩
                  · go_wp2_with fail
                    go_ret
                    exact ⟨by rw [rel_1 K.out CR.out YY.out (by rw [HU.out]; rfl)]; rfl, BX.out⟩
                · go_wp2_with fail
                  go_ret
                  exact ⟨by rw [rel_3 K.out CR.out HY.out HZ.out]; rfl, BX.out⟩
            · go_wp2_with fail
              go_ret
              exact ⟨by rw [rel_2 K.out (by unfold crB; rw [HX1.out, HX2.out]; rfl)]; rfl, BX.out⟩
      · skip
        have K := Lib.hid (show okB a b a d e f g h = true by unfold okB; rw [hv]; simp; omega)
        clear hv
        go_wp2_with fail
        refine (splits_any a b a d e f g h _).mono ?_; rintro e0 w5 ⟨rfl, hb⟩
        replace GA := Lib.hid (GA.out.below hb GA.out.lt); replace GB := Lib.hid (GB.out.below hb GB.out.lt)
        replace BX := Lib.hid (BX.out.trans (hb.mono BX.out.size))
        clear hb c0 c1 c2 c3 d0 d1 d2 d3
        have c0 := GA.out.c0; have c1 := GA.out.c1; have c2 := GA.out.c2; have c3 := GA.out.c3
        have d0 := GB.out.c0; have d1 := GB.out.c1; have d2 := GB.out.c2; have d3 := GB.out.c3
        obtain ⟨x1, hx1⟩ : ∃ x1, splB (trn a b a d e f) (trn a b a d g h) = x1 := ⟨_, rfl⟩
        rw [hx1]
        have HX1 := Lib.hid hx1; clear hx1
        cases x1
        · skip
          have CR := Lib.hid (show crB a b a d e f g h = false by unfold crB; rw [HX1.out]; rfl)
          go_wp2_with fail
          refine (straight_any a b a d e f g h _).mono ?_; rintro e0 w5 ⟨rfl, hb⟩
          replace GA := Lib.hid (GA.out.below hb GA.out.lt); replace GB := Lib.hid (GB.out.below hb GB.out.lt)
          replace BX := Lib.hid (BX.out.trans (hb.mono BX.out.size))
          clear hb c0 c1 c2 c3 d0 d1 d2 d3
          have c0 := GA.out.c0; have c1 := GA.out.c1; have c2 := GA.out.c2; have c3 := GA.out.c3
          have d0 := GB.out.c0; have d1 := GB.out.c1; have d2 := GB.out.c2; have d3 := GB.out.c3
          obtain ⟨y1, hy1⟩ : ∃ y1, (trn a b a d e f == 0 && trn a b a d g h == 0) = y1 := ⟨_, rfl⟩
          rw [hy1]
          have HY := Lib.hid (show stB a b a d e f g h = y1 from hy1); clear hy1
          cases y1
          · have YY := Lib.hid (show (stB a b a d e f g h && shB a b a d e f g h) = false by rw [HY.out]; rfl)
            go_wp2_with fail
            refine (endOn_any a b a d e f g h _).mono ?_; rintro e0 w5 ⟨rfl, hb⟩
            replace GA := Lib.hid (GA.out.below hb GA.out.lt); replace GB := Lib.hid (GB.out.below hb GB.out.lt)
            replace BX := Lib.hid (BX.out.trans (hb.mono BX.out.size))
            clear hb c0 c1 c2 c3 d0 d1 d2 d3
            have c0 := GA.out.c0; have c1 := GA.out.c1; have c2 := GA.out.c2; have c3 := GA.out.c3
            have d0 := GB.out.c0; have d1 := GB.out.c1; have d2 := GB.out.c2; have d3 := GB.out.c3
            obtain ⟨u1, hu1⟩ : ∃ u1, (onB a b e f g h || onB a d e f g h) = u1 := ⟨_, rfl⟩
            rw [hu1]
            have HU := Lib.hid (show enB a b a d e f g h = u1 from hu1); clear hu1
            cases u1
            · go_wp2_with fail
              refine (endOn_any e f g h a b a d _).mono ?_; rintro e0 w5 ⟨rfl, hb⟩
              replace GA := Lib.hid (GA.out.below hb GA.out.lt); replace GB := Lib.hid (GB.out.below hb GB.out.lt)
              replace BX := Lib.hid (BX.out.trans (hb.mono BX.out.size))
              clear hb c0 c1 c2 c3 d0 d1 d2 d3
              have c0 := GA.out.c0; have c1 := GA.out.c1; have c2 := GA.out.c2; have c3 := GA.out.c3
              have d0 := GB.out.c0; have d1 := GB.out.c1; have d2 := GB.out.c2; have d3 := GB.out.c3
              obtain ⟨u2, hu2⟩ : ∃ u2, (onB e f a b a d || onB g h a b a d) = u2 := ⟨_, rfl⟩
              rw [hu2]
              have HU2 := Lib.hid (show enB e f g h a b a d = u2 from hu2); clear hu2
              cases u2
              · go_wp2_with fail
                go_ret
                exact ⟨by rw [rel_0 K.out CR.out YY.out (by rw [HU.out, HU2.out]; rfl)]; rfl, BX.out⟩
              · go_wp2_with fail
                go_ret
                exact ⟨by rw [rel_1 K.out CR.out YY.out (by rw [HU.out, HU2.out]; rfl)]; rfl, BX.out⟩
            · go_wp2_with fail
              go_ret
              exact ⟨by rw [rel_1 K.out CR.out YY.out (by rw [HU.out]; rfl)]; rfl, BX.out⟩
          · go_wp2_with fail
            refine (share_any a b a d e f g h _).mono ?_; rintro e0 w5 ⟨rfl, hb⟩
            replace GA := Lib.hid (GA.out.below hb GA.out.lt); replace GB := Lib.hid (GB.out.below hb GB.out.lt)
            replace BX := Lib.hid (BX.out.trans (hb.mono BX.out.size))
            clear hb c0 c1 c2 c3 d0 d1 d2 d3
            have c0 := GA.out.c0; have c1 := GA.out.c1; have c2 := GA.out.c2; have c3 := GA.out.c3
            have d0 := GB.out.c0; have d1 := GB.out.c1; have d2 := GB.out.c2; have d3 := GB.out.c3
            obtain ⟨z1, hz1⟩ : ∃ z1, shB a b a d e f g h = z1 := ⟨_, rfl⟩
            rw [hz1]
            have HZ := Lib.hid hz1; clear hz1
            cases z1
            · have YY := Lib.hid (show (stB a b a d e f g h && shB a b a d e f g h) = false by rw [HY.out, HZ.out]; rfl)
              go_wp2_with fail
              refine (endOn_any a b a d e f g h _).mono ?_; rintro e0 w5 ⟨rfl, hb⟩
              replace GA := Lib.hid (GA.out.below hb GA.out.lt); replace GB := Lib.hid (GB.out.below hb GB.out.lt)
              replace BX := Lib.hid (BX.out.trans (hb.mono BX.out.size))
              clear hb c0 c1 c2 c3 d0 d1 d2 d3
              have c0 := GA.out.c0; have c1 := GA.out.c1; have c2 := GA.out.c2; have c3 := GA.out.c3
              have d0 := GB.out.c0; have d1 := GB.out.c1; have d2 := GB.out.c2; have d3 := GB.out.c3
              obtain ⟨u1, hu1⟩ : ∃ u1, (onB a b e f g h || onB a d e f g h) = u1 := ⟨_, rfl⟩
              rw [hu1]
              have HU := Lib.hid (show enB a b a d e f g h = u1 from hu1); clear hu1
              cases u1
              · go_wp2_with fail
                refine (endOn_any e f g h a b a d _).mono ?_; rintro e0 w5 ⟨rfl, hb⟩
                replace GA := Lib.hid (GA.out.below hb GA.out.lt); replace GB := Lib.hid (GB.out.below hb GB.out.lt)
                replace BX := Lib.hid (BX.out.trans (hb.mono BX.out.size))
                clear hb c0 c1 c2 c3 d0 d1 d2 d3
                have c0 := GA.out.c0; have c1 := GA.out.c1; have c2 := GA.out.c2; have c3 := GA.out.c3
                have d0 := GB.out.c0; have d1 := GB.out.c1; have d2 := GB.out.c2; have d3 := GB.out.c3
                obtain ⟨u2, hu2⟩ : ∃ u2, (onB e f a b a d || onB g h a b a d) = u2 := ⟨_, rfl⟩
                rw [hu2]
                have HU2 := Lib.hid (show enB e f g h a b a d = u2 from hu2); clear hu2
                cases u2
                · go_wp2_with fail
                  go_ret
                  exact ⟨by rw [rel_0 K.out CR.out YY.out (by rw [HU.out, HU2.out]; rfl)]; rfl, BX.out⟩
                · go_wp2_with fail
                  go_ret
                  exact ⟨by rw [rel_1 K.out CR.out YY.out (by rw [HU.out, HU2.out]; rfl)]; rfl, BX.out⟩
              · go_wp2_with fail
                go_ret
                exact ⟨by rw [rel_1 K.out CR.out YY.out (by rw [HU.out]; rfl)]; rfl, BX.out⟩
            · go_wp2_with fail
              go_ret
              exact ⟨by rw [rel_3 K.out CR.out HY.out HZ.out]; rfl, BX.out⟩
        · go_wp2_with fail
          refine (splits_any e f g h a b a d _).mono ?_; rintro e0 w5 ⟨rfl, hb⟩
          replace GA := Lib.hid (GA.out.below hb GA.out.lt); replace GB := Lib.hid (GB.out.below hb GB.out.lt)
          replace BX := Lib.hid (BX.out.trans (hb.mono BX.out.size))
          clear hb c0 c1 c2 c3 d0 d1 d2 d3
          have c0 := GA.out.c0; have c1 := GA.out.c1; have c2 := GA.out.c2; have c3 := GA.out.c3
          have d0 := GB.out.c0; have d1 := GB.out.c1; have d2 := GB.out.c2; have d3 := GB.out.c3
          obtain ⟨x2, hx2⟩ : ∃ x2, splB (trn e f g h a b) (trn e f g h a d) = x2 := ⟨_, rfl⟩
          rw [hx2]
          have HX2 := Lib.hid hx2; clear hx2
          cases x2
          · skip
            have CR := Lib.hid (show crB a b a d e f g h = false by unfold crB; rw [HX1.out, HX2.out]; rfl)
            go_wp2_with fail
            refine (straight_any a b a d e f g h _).mono ?_; rintro e0 w5 ⟨rfl, hb⟩
            replace GA := Lib.hid (GA.out.below hb GA.out.lt); replace GB := Lib.hid (GB.out.below hb GB.out.lt)
            replace BX := Lib.hid (BX.out.trans (hb.mono BX.out.size))
            clear hb c0 c1 c2 c3 d0 d1 d2 d3
            have c0 := GA.out.c0; have c1 := GA.out.c1; have c2 := GA.out.c2; have c3 := GA.out.c3
            have d0 := GB.out.c0; have d1 := GB.out.c1; have d2 := GB.out.c2; have d3 := GB.out.c3
            obtain ⟨y1, hy1⟩ : ∃ y1, (trn a b a d e f == 0 && trn a b a d g h == 0) = y1 := ⟨_, rfl⟩
            rw [hy1]
            have HY := Lib.hid (show stB a b a d e f g h = y1 from hy1); clear hy1
            cases y1
            · have YY := Lib.hid (show (stB a b a d e f g h && shB a b a d e f g h) = false by rw [HY.out]; rfl)
              go_wp2_with fail
              refine (endOn_any a b a d e f g h _).mono ?_; rintro e0 w5 ⟨rfl, hb⟩
              replace GA := Lib.hid (GA.out.below hb GA.out.lt); replace GB := Lib.hid (GB.out.below hb GB.out.lt)
              replace BX := Lib.hid (BX.out.trans (hb.mono BX.out.size))
              clear hb c0 c1 c2 c3 d0 d1 d2 d3
              have c0 := GA.out.c0; have c1 := GA.out.c1; have c2 := GA.out.c2; have c3 := GA.out.c3
              have d0 := GB.out.c0; have d1 := GB.out.c1; have d2 := GB.out.c2; have d3 := GB.out.c3
              obtain ⟨u1, hu1⟩ : ∃ u1, (onB a b e f g h || onB a d e f g h) = u1 := ⟨_, rfl⟩
              rw [hu1]
              have HU := Lib.hid (show enB a b a d e f g h = u1 from hu1); clear hu1
              cases u1
              · go_wp2_with fail
                refine (endOn_any e f g h a b a d _).mono ?_; rintro e0 w5 ⟨rfl, hb⟩
                replace GA := Lib.hid (GA.out.below hb GA.out.lt); replace GB := Lib.hid (GB.out.below hb GB.out.lt)
                replace BX := Lib.hid (BX.out.trans (hb.mono BX.out.size))
                clear hb c0 c1 c2 c3 d0 d1 d2 d3
                have c0 := GA.out.c0; have c1 := GA.out.c1; have c2 := GA.out.c2; have c3 := GA.out.c3
                have d0 := GB.out.c0; have d1 := GB.out.c1; have d2 := GB.out.c2; have d3 := GB.out.c3
                obtain ⟨u2, hu2⟩ : ∃ u2, (onB e f a b a d || onB g h a b a d) = u2 := ⟨_, rfl⟩
                rw [hu2]
                have HU2 := Lib.hid (show enB e f g h a b a d = u2 from hu2); clear hu2
                cases u2
                · go_wp2_with fail
                  go_ret
                  exact ⟨by rw [rel_0 K.out CR.out YY.out (by rw [HU.out, HU2.out]; rfl)]; rfl, BX.out⟩
                · go_wp2_with fail
                  go_ret
                  exact ⟨by rw [rel_1 K.out CR.out YY.out (by rw [HU.out, HU2.out]; rfl)]; rfl, BX.out⟩
              · go_wp2_with fail
                go_ret
                exact ⟨by rw [rel_1 K.out CR.out YY.out (by rw [HU.out]; rfl)]; rfl, BX.out⟩
            · go_wp2_with fail
              refine (share_any a b a d e f g h _).mono ?_; rintro e0 w5 ⟨rfl, hb⟩
              replace GA := Lib.hid (GA.out.below hb GA.out.lt); replace GB := Lib.hid (GB.out.below hb GB.out.lt)
              replace BX := Lib.hid (BX.out.trans (hb.mono BX.out.size))
              clear hb c0 c1 c2 c3 d0 d1 d2 d3
              have c0 := GA.out.c0; have c1 := GA.out.c1; have c2 := GA.out.c2; have c3 := GA.out.c3
              have d0 := GB.out.c0; have d1 := GB.out.c1; have d2 := GB.out.c2; have d3 := GB.out.c3
              obtain ⟨z1, hz1⟩ : ∃ z1, shB a b a d e f g h = z1 := ⟨_, rfl⟩
              rw [hz1]
              have HZ := Lib.hid hz1; clear hz1
              cases z1
              · have YY := Lib.hid (show (stB a b a d e f g h && shB a b a d e f g h) = false by rw [HY.out, HZ.out]; rfl)
                go_wp2_with fail
                refine (endOn_any a b a d e f g h _).mono ?_; rintro e0 w5 ⟨rfl, hb⟩
                replace GA := Lib.hid (GA.out.below hb GA.out.lt); replace GB := Lib.hid (GB.out.below hb GB.out.lt)
                replace BX := Lib.hid (BX.out.trans (hb.mono BX.out.size))
                clear hb c0 c1 c2 c3 d0 d1 d2 d3
                have c0 := GA.out.c0; have c1 := GA.out.c1; have c2 := GA.out.c2; have c3 := GA.out.c3
                have d0 := GB.out.c0; have d1 := GB.out.c1; have d2 := GB.out.c2; have d3 := GB.out.c3
                obtain ⟨u1, hu1⟩ : ∃ u1, (onB a b e f g h || onB a d e f g h) = u1 := ⟨_, rfl⟩
                rw [hu1]
                have HU := Lib.hid (show enB a b a d e f g h = u1 from hu1); clear hu1
                cases u1
                · go_wp2_with fail
                  refine (endOn_any e f g h a b a d _).mono ?_; rintro e0 w5 ⟨rfl, hb⟩
                  replace GA := Lib.hid (GA.out.below hb GA.out.lt); replace GB := Lib.hid (GB.out.below hb GB.out.lt)
                  replace BX := Lib.hid (BX.out.trans (hb.mono BX.out.size))
                  clear hb c0 c1 c2 c3 d0 d1 d2 d3
                  have c0 := GA.out.c0; have c1 := GA.out.c1; have c2 := GA.out.c2; have c3 := GA.out.c3
                  have d0 := GB.out.c0; have d1 := GB.out.c1; have d2 := GB.out.c2; have d3 := GB.out.c3
                  obtain ⟨u2, hu2⟩ : ∃ u2, (onB e f a b a d || onB g h a b a d) = u2 := ⟨_, rfl⟩
                  rw [hu2]
                  have HU2 := Lib.hid (show enB e f g h a b a d = u2 from hu2); clear hu2
                  cases u2
                  · go_wp2_with fail
                    go_ret
                    exact ⟨by rw [rel_0 K.out CR.out YY.out (by rw [HU.out, HU2.out]; rfl)]; rfl, BX.out⟩
                  · go_wp2_with fail
                    go_ret
                    exact ⟨by rw [rel_1 K.out CR.out YY.out (by rw [HU.out, HU2.out]; rfl)]; rfl, BX.out⟩
                · go_wp2_with fail
                  go_ret
                  exact ⟨by rw [rel_1 K.out CR.out YY.out (by rw [HU.out]; rfl)]; rfl, BX.out⟩
              · go_wp2_with fail
                go_ret
                exact ⟨by rw [rel_3 K.out CR.out HY.out HZ.out]; rfl, BX.out⟩
          · go_wp2_with fail
            go_ret
            exact ⟨by rw [rel_2 K.out (by unfold crB; rw [HX1.out, HX2.out]; rfl)]; rfl, BX.out⟩
  · skip
    by_cases m1 : e = g
    · obtain rfl := m1
      by_cases m2 : f = h
      · obtain rfl := m2
        have K := Lib.hid (rel_bad (show okB a b c d e f e f = false by unfold okB; simp))
        clear hv
        go_wp2_with fail
        go_ret
        exact ⟨by rw [K.out]; rfl, BX.out⟩
      · skip
        have K := Lib.hid (show okB a b c d e f e h = true by unfold okB; rw [hv]; simp; omega)
        clear hv
        go_wp2_with fail
        refine (splits_any a b c d e f e h _).mono ?_; rintro e0 w5 ⟨rfl, hb⟩
        replace GA := Lib.hid (GA.out.below hb GA.out.lt); replace GB := Lib.hid (GB.out.below hb GB.out.lt)
        replace BX := Lib.hid (BX.out.trans (hb.mono BX.out.size))
        clear hb c0 c1 c2 c3 d0 d1 d2 d3
        have c0 := GA.out.c0; have c1 := GA.out.c1; have c2 := GA.out.c2; have c3 := GA.out.c3
        have d0 := GB.out.c0; have d1 := GB.out.c1; have d2 := GB.out.c2; have d3 := GB.out.c3
        obtain ⟨x1, hx1⟩ : ∃ x1, splB (trn a b c d e f) (trn a b c d e h) = x1 := ⟨_, rfl⟩
        rw [hx1]
        have HX1 := Lib.hid hx1; clear hx1
        cases x1
        · skip
          have CR := Lib.hid (show crB a b c d e f e h = false by unfold crB; rw [HX1.out]; rfl)
          go_wp2_with fail
          refine (straight_any a b c d e f e h _).mono ?_; rintro e0 w5 ⟨rfl, hb⟩
          replace GA := Lib.hid (GA.out.below hb GA.out.lt); replace GB := Lib.hid (GB.out.below hb GB.out.lt)
          replace BX := Lib.hid (BX.out.trans (hb.mono BX.out.size))
          clear hb c0 c1 c2 c3 d0 d1 d2 d3
          have c0 := GA.out.c0; have c1 := GA.out.c1; have c2 := GA.out.c2; have c3 := GA.out.c3
          have d0 := GB.out.c0; have d1 := GB.out.c1; have d2 := GB.out.c2; have d3 := GB.out.c3
          obtain ⟨y1, hy1⟩ : ∃ y1, (trn a b c d e f == 0 && trn a b c d e h == 0) = y1 := ⟨_, rfl⟩
          rw [hy1]
          have HY := Lib.hid (show stB a b c d e f e h = y1 from hy1); clear hy1
          cases y1
          · have YY := Lib.hid (show (stB a b c d e f e h && shB a b c d e f e h) = false by rw [HY.out]; rfl)
            go_wp2_with fail
            refine (endOn_any a b c d e f e h _).mono ?_; rintro e0 w5 ⟨rfl, hb⟩
            replace GA := Lib.hid (GA.out.below hb GA.out.lt); replace GB := Lib.hid (GB.out.below hb GB.out.lt)
            replace BX := Lib.hid (BX.out.trans (hb.mono BX.out.size))
            clear hb c0 c1 c2 c3 d0 d1 d2 d3
            have c0 := GA.out.c0; have c1 := GA.out.c1; have c2 := GA.out.c2; have c3 := GA.out.c3
            have d0 := GB.out.c0; have d1 := GB.out.c1; have d2 := GB.out.c2; have d3 := GB.out.c3
            obtain ⟨u1, hu1⟩ : ∃ u1, (onB a b e f e h || onB c d e f e h) = u1 := ⟨_, rfl⟩
            rw [hu1]
            have HU := Lib.hid (show enB a b c d e f e h = u1 from hu1); clear hu1
            cases u1
            · go_wp2_with fail
              refine (endOn_any e f e h a b c d _).mono ?_; rintro e0 w5 ⟨rfl, hb⟩
              replace GA := Lib.hid (GA.out.below hb GA.out.lt); replace GB := Lib.hid (GB.out.below hb GB.out.lt)
              replace BX := Lib.hid (BX.out.trans (hb.mono BX.out.size))
              clear hb c0 c1 c2 c3 d0 d1 d2 d3
              have c0 := GA.out.c0; have c1 := GA.out.c1; have c2 := GA.out.c2; have c3 := GA.out.c3
              have d0 := GB.out.c0; have d1 := GB.out.c1; have d2 := GB.out.c2; have d3 := GB.out.c3
              obtain ⟨u2, hu2⟩ : ∃ u2, (onB e f a b c d || onB e h a b c d) = u2 := ⟨_, rfl⟩
              rw [hu2]
              have HU2 := Lib.hid (show enB e f e h a b c d = u2 from hu2); clear hu2
              cases u2
              · go_wp2_with fail
                go_ret
                exact ⟨by rw [rel_0 K.out CR.out YY.out (by rw [HU.out, HU2.out]; rfl)]; rfl, BX.out⟩
              · go_wp2_with fail
                go_ret
                exact ⟨by rw [rel_1 K.out CR.out YY.out (by rw [HU.out, HU2.out]; rfl)]; rfl, BX.out⟩
            · go_wp2_with fail
              go_ret
              exact ⟨by rw [rel_1 K.out CR.out YY.out (by rw [HU.out]; rfl)]; rfl, BX.out⟩
          · go_wp2_with fail
            refine (share_any a b c d e f e h _).mono ?_; rintro e0 w5 ⟨rfl, hb⟩
            replace GA := Lib.hid (GA.out.below hb GA.out.lt); replace GB := Lib.hid (GB.out.below hb GB.out.lt)
            replace BX := Lib.hid (BX.out.trans (hb.mono BX.out.size))
            clear hb c0 c1 c2 c3 d0 d1 d2 d3
            have c0 := GA.out.c0; have c1 := GA.out.c1; have c2 := GA.out.c2; have c3 := GA.out.c3
            have d0 := GB.out.c0; have d1 := GB.out.c1; have d2 := GB.out.c2; have d3 := GB.out.c3
            obtain ⟨z1, hz1⟩ : ∃ z1, shB a b c d e f e h = z1 := ⟨_, rfl⟩
            rw [hz1]
            have HZ := Lib.hid hz1; clear hz1
            cases z1
            · have YY := Lib.hid (show (stB a b c d e f e h && shB a b c d e f e h) = false by rw [HY.out, HZ.out]; rfl)
              go_wp2_with fail
              refine (endOn_any a b c d e f e h _).mono ?_; rintro e0 w5 ⟨rfl, hb⟩
              replace GA := Lib.hid (GA.out.below hb GA.out.lt); replace GB := Lib.hid (GB.out.below hb GB.out.lt)
              replace BX := Lib.hid (BX.out.trans (hb.mono BX.out.size))
              clear hb c0 c1 c2 c3 d0 d1 d2 d3
              have c0 := GA.out.c0; have c1 := GA.out.c1; have c2 := GA.out.c2; have c3 := GA.out.c3
              have d0 := GB.out.c0; have d1 := GB.out.c1; have d2 := GB.out.c2; have d3 := GB.out.c3
              obtain ⟨u1, hu1⟩ : ∃ u1, (onB a b e f e h || onB c d e f e h) = u1 := ⟨_, rfl⟩
              rw [hu1]
              have HU := Lib.hid (show enB a b c d e f e h = u1 from hu1); clear hu1
              cases u1
              · go_wp2_with fail
                refine (endOn_any e f e h a b c d _).mono ?_; rintro e0 w5 ⟨rfl, hb⟩
                replace GA := Lib.hid (GA.out.below hb GA.out.lt); replace GB := Lib.hid (GB.out.below hb GB.out.lt)
                replace BX := Lib.hid (BX.out.trans (hb.mono BX.out.size))
                clear hb c0 c1 c2 c3 d0 d1 d2 d3
                have c0 := GA.out.c0; have c1 := GA.out.c1; have c2 := GA.out.c2; have c3 := GA.out.c3
                have d0 := GB.out.c0; have d1 := GB.out.c1; have d2 := GB.out.c2; have d3 := GB.out.c3
                obtain ⟨u2, hu2⟩ : ∃ u2, (onB e f a b c d || onB e h a b c d) = u2 := ⟨_, rfl⟩
                rw [hu2]
                have HU2 := Lib.hid (show enB e f e h a b c d = u2 from hu2); clear hu2
                cases u2
                · go_wp2_with fail
                  go_ret
                  exact ⟨by rw [rel_0 K.out CR.out YY.out (by rw [HU.out, HU2.out]; rfl)]; rfl, BX.out⟩
                · go_wp2_with fail
                  go_ret
                  exact ⟨by rw [rel_1 K.out CR.out YY.out (by rw [HU.out, HU2.out]; rfl)]; rfl, BX.out⟩
              · go_wp2_with fail
                go_ret
                exact ⟨by rw [rel_1 K.out CR.out YY.out (by rw [HU.out]; rfl)]; rfl, BX.out⟩
            · go_wp2_with fail
              go_ret
              exact ⟨by rw [rel_3 K.out CR.out HY.out HZ.out]; rfl, BX.out⟩
        · go_wp2_with fail
          refine (splits_any e f e h a b c d _).mono ?_; rintro e0 w5 ⟨rfl, hb⟩
          replace GA := Lib.hid (GA.out.below hb GA.out.lt); replace GB := Lib.hid (GB.out.below hb GB.out.lt)
          replace BX := Lib.hid (BX.out.trans (hb.mono BX.out.size))
          clear hb c0 c1 c2 c3 d0 d1 d2 d3
          have c0 := GA.out.c0; have c1 := GA.out.c1; have c2 := GA.out.c2; have c3 := GA.out.c3
          have d0 := GB.out.c0; have d1 := GB.out.c1; have d2 := GB.out.c2; have d3 := GB.out.c3
          obtain ⟨x2, hx2⟩ : ∃ x2, splB (trn e f e h a b) (trn e f e h c d) = x2 := ⟨_, rfl⟩
          rw [hx2]
          have HX2 := Lib.hid hx2; clear hx2
          cases x2
          · skip
            have CR := Lib.hid (show crB a b c d e f e h = false by unfold crB; rw [HX1.out, HX2.out]; rfl)
            go_wp2_with fail
            refine (straight_any a b c d e f e h _).mono ?_; rintro e0 w5 ⟨rfl, hb⟩
            replace GA := Lib.hid (GA.out.below hb GA.out.lt); replace GB := Lib.hid (GB.out.below hb GB.out.lt)
            replace BX := Lib.hid (BX.out.trans (hb.mono BX.out.size))
            clear hb c0 c1 c2 c3 d0 d1 d2 d3
            have c0 := GA.out.c0; have c1 := GA.out.c1; have c2 := GA.out.c2; have c3 := GA.out.c3
            have d0 := GB.out.c0; have d1 := GB.out.c1; have d2 := GB.out.c2; have d3 := GB.out.c3
            obtain ⟨y1, hy1⟩ : ∃ y1, (trn a b c d e f == 0 && trn a b c d e h == 0) = y1 := ⟨_, rfl⟩
            rw [hy1]
            have HY := Lib.hid (show stB a b c d e f e h = y1 from hy1); clear hy1
            cases y1
            · have YY := Lib.hid (show (stB a b c d e f e h && shB a b c d e f e h) = false by rw [HY.out]; rfl)
              go_wp2_with fail
              refine (endOn_any a b c d e f e h _).mono ?_; rintro e0 w5 ⟨rfl, hb⟩
              replace GA := Lib.hid (GA.out.below hb GA.out.lt); replace GB := Lib.hid (GB.out.below hb GB.out.lt)
              replace BX := Lib.hid (BX.out.trans (hb.mono BX.out.size))
              clear hb c0 c1 c2 c3 d0 d1 d2 d3
              have c0 := GA.out.c0; have c1 := GA.out.c1; have c2 := GA.out.c2; have c3 := GA.out.c3
              have d0 := GB.out.c0; have d1 := GB.out.c1; have d2 := GB.out.c2; have d3 := GB.out.c3
              obtain ⟨u1, hu1⟩ : ∃ u1, (onB a b e f e h || onB c d e f e h) = u1 := ⟨_, rfl⟩
              rw [hu1]
              have HU := Lib.hid (show enB a b c d e f e h = u1 from hu1); clear hu1
              cases u1
              · go_wp2_with fail
                refine (endOn_any e f e h a b c d _).mono ?_; rintro e0 w5 ⟨rfl, hb⟩
                replace GA := Lib.hid (GA.out.below hb GA.out.lt); replace GB := Lib.hid (GB.out.below hb GB.out.lt)
                replace BX := Lib.hid (BX.out.trans (hb.mono BX.out.size))
                clear hb c0 c1 c2 c3 d0 d1 d2 d3
                have c0 := GA.out.c0; have c1 := GA.out.c1; have c2 := GA.out.c2; have c3 := GA.out.c3
                have d0 := GB.out.c0; have d1 := GB.out.c1; have d2 := GB.out.c2; have d3 := GB.out.c3
                obtain ⟨u2, hu2⟩ : ∃ u2, (onB e f a b c d || onB e h a b c d) = u2 := ⟨_, rfl⟩
                rw [hu2]
                have HU2 := Lib.hid (show enB e f e h a b c d = u2 from hu2); clear hu2
                cases u2
                · go_wp2_with fail
                  go_ret
                  exact ⟨by rw [rel_0 K.out CR.out YY.out (by rw [HU.out, HU2.out]; rfl)]; rfl, BX.out⟩
                · go_wp2_with fail
                  go_ret
                  exact ⟨by rw [rel_1 K.out CR.out YY.out (by rw [HU.out, HU2.out]; rfl)]; rfl, BX.out⟩
              · go_wp2_with fail
                go_ret
                exact ⟨by rw [rel_1 K.out CR.out YY.out (by rw [HU.out]; rfl)]; rfl, BX.out⟩
            · go_wp2_with fail
              refine (share_any a b c d e f e h _).mono ?_; rintro e0 w5 ⟨rfl, hb⟩
              replace GA := Lib.hid (GA.out.below hb GA.out.lt); replace GB := Lib.hid (GB.out.below hb GB.out.lt)
              replace BX := Lib.hid (BX.out.trans (hb.mono BX.out.size))
              clear hb c0 c1 c2 c3 d0 d1 d2 d3
              have c0 := GA.out.c0; have c1 := GA.out.c1; have c2 := GA.out.c2; have c3 := GA.out.c3
              have d0 := GB.out.c0; have d1 := GB.out.c1; have d2 := GB.out.c2; have d3 := GB.out.c3
              obtain ⟨z1, hz1⟩ : ∃ z1, shB a b c d e f e h = z1 := ⟨_, rfl⟩
              rw [hz1]
              have HZ := Lib.hid hz1; clear hz1
              cases z1
              · have YY := Lib.hid (show (stB a b c d e f e h && shB a b c d e f e h) = false by rw [HY.out, HZ.out]; rfl)
                go_wp2_with fail
                refine (endOn_any a b c d e f e h _).mono ?_; rintro e0 w5 ⟨rfl, hb⟩
                replace GA := Lib.hid (GA.out.below hb GA.out.lt); replace GB := Lib.hid (GB.out.below hb GB.out.lt)
                replace BX := Lib.hid (BX.out.trans (hb.mono BX.out.size))
                clear hb c0 c1 c2 c3 d0 d1 d2 d3
                have c0 := GA.out.c0; have c1 := GA.out.c1; have c2 := GA.out.c2; have c3 := GA.out.c3
                have d0 := GB.out.c0; have d1 := GB.out.c1; have d2 := GB.out.c2; have d3 := GB.out.c3
                obtain ⟨u1, hu1⟩ : ∃ u1, (onB a b e f e h || onB c d e f e h) = u1 := ⟨_, rfl⟩
                rw [hu1]
                have HU := Lib.hid (show enB a b c d e f e h = u1 from hu1); clear hu1
                cases u1
                · go_wp2_with fail
                  refine (endOn_any e f e h a b c d _).mono ?_; rintro e0 w5 ⟨rfl, hb⟩
                  replace GA := Lib.hid (GA.out.below hb GA.out.lt); replace GB := Lib.hid (GB.out.below hb GB.out.lt)
                  replace BX := Lib.hid (BX.out.trans (hb.mono BX.out.size))
                  clear hb c0 c1 c2 c3 d0 d1 d2 d3
                  have c0 := GA.out.c0; have c1 := GA.out.c1; have c2 := GA.out.c2; have c3 := GA.out.c3
                  have d0 := GB.out.c0; have d1 := GB.out.c1; have d2 := GB.out.c2; have d3 := GB.out.c3
                  obtain ⟨u2, hu2⟩ : ∃ u2, (onB e f a b c d || onB e h a b c d) = u2 := ⟨_, rfl⟩
                  rw [hu2]
                  have HU2 := Lib.hid (show enB e f e h a b c d = u2 from hu2); clear hu2
                  cases u2
                  · go_wp2_with fail
                    go_ret
                    exact ⟨by rw [rel_0 K.out CR.out YY.out (by rw [HU.out, HU2.out]; rfl)]; rfl, BX.out⟩
                  · go_wp2_with fail
                    go_ret
                    exact ⟨by rw [rel_1 K.out CR.out YY.out (by rw [HU.out, HU2.out]; rfl)]; rfl, BX.out⟩
                · go_wp2_with fail
                  go_ret
                  exact ⟨by rw [rel_1 K.out CR.out YY.out (by rw [HU.out]; rfl)]; rfl, BX.out⟩
              · go_wp2_with fail
                go_ret
                exact ⟨by rw [rel_3 K.out CR.out HY.out HZ.out]; rfl, BX.out⟩
          · go_wp2_with fail
            go_ret
            exact ⟨by rw [rel_2 K.out (by unfold crB; rw [HX1.out, HX2.out]; rfl)]; rfl, BX.out⟩
    · skip
      have K := Lib.hid (show okB a b c d e f g h = true by unfold okB; rw [hv]; simp; omega)
      clear hv
      go_wp2_with fail
      refine (splits_any a b c d e f g h _).mono ?_; rintro e0 w5 ⟨rfl, hb⟩
      replace GA := Lib.hid (GA.out.below hb GA.out.lt); replace GB := Lib.hid (GB.out.below hb GB.out.lt)
      replace BX := Lib.hid (BX.out.trans (hb.mono BX.out.size))
      clear hb c0 c1 c2 c3 d0 d1 d2 d3
      have c0 := GA.out.c0; have c1 := GA.out.c1; have c2 := GA.out.c2; have c3 := GA.out.c3
      have d0 := GB.out.c0; have d1 := GB.out.c1; have d2 := GB.out.c2; have d3 := GB.out.c3
      obtain ⟨x1, hx1⟩ : ∃ x1, splB (trn a b c d e f) (trn a b c d g h) = x1 := ⟨_, rfl⟩
      rw [hx1]
      have HX1 := Lib.hid hx1; clear hx1
      cases x1
      · skip
        have CR := Lib.hid (show crB a b c d e f g h = false by unfold crB; rw [HX1.out]; rfl)
        go_wp2_with fail
        refine (straight_any a b c d e f g h _).mono ?_; rintro e0 w5 ⟨rfl, hb⟩
        replace GA := Lib.hid (GA.out.below hb GA.out.lt); replace GB := Lib.hid (GB.out.below hb GB.out.lt)
        replace BX := Lib.hid (BX.out.trans (hb.mono BX.out.size))
        clear hb c0 c1 c2 c3 d0 d1 d2 d3
        have c0 := GA.out.c0; have c1 := GA.out.c1; have c2 := GA.out.c2; have c3 := GA.out.c3
        have d0 := GB.out.c0; have d1 := GB.out.c1; have d2 := GB.out.c2; have d3 := GB.out.c3
        obtain ⟨y1, hy1⟩ : ∃ y1, (trn a b c d e f == 0 && trn a b c d g h == 0) = y1 := ⟨_, rfl⟩
        rw [hy1]
        have HY := Lib.hid (show stB a b c d e f g h = y1 from hy1); clear hy1
        cases y1
        · have YY := Lib.hid (show (stB a b c d e f g h && shB a b c d e f g h) = false by rw [HY.out]; rfl)
          go_wp2_with fail
          refine (endOn_any a b c d e f g h _).mono ?_; rintro e0 w5 ⟨rfl, hb⟩
          replace GA := Lib.hid (GA.out.below hb GA.out.lt); replace GB := Lib.hid (GB.out.below hb GB.out.lt)
          replace BX := Lib.hid (BX.out.trans (hb.mono BX.out.size))
          clear hb c0 c1 c2 c3 d0 d1 d2 d3
          have c0 := GA.out.c0; have c1 := GA.out.c1; have c2 := GA.out.c2; have c3 := GA.out.c3
          have d0 := GB.out.c0; have d1 := GB.out.c1; have d2 := GB.out.c2; have d3 := GB.out.c3
          obtain ⟨u1, hu1⟩ : ∃ u1, (onB a b e f g h || onB c d e f g h) = u1 := ⟨_, rfl⟩
          rw [hu1]
          have HU := Lib.hid (show enB a b c d e f g h = u1 from hu1); clear hu1
          cases u1
          · go_wp2_with fail
            refine (endOn_any e f g h a b c d _).mono ?_; rintro e0 w5 ⟨rfl, hb⟩
            replace GA := Lib.hid (GA.out.below hb GA.out.lt); replace GB := Lib.hid (GB.out.below hb GB.out.lt)
            replace BX := Lib.hid (BX.out.trans (hb.mono BX.out.size))
            clear hb c0 c1 c2 c3 d0 d1 d2 d3
            have c0 := GA.out.c0; have c1 := GA.out.c1; have c2 := GA.out.c2; have c3 := GA.out.c3
            have d0 := GB.out.c0; have d1 := GB.out.c1; have d2 := GB.out.c2; have d3 := GB.out.c3
            obtain ⟨u2, hu2⟩ : ∃ u2, (onB e f a b c d || onB g h a b c d) = u2 := ⟨_, rfl⟩
            rw [hu2]
            have HU2 := Lib.hid (show enB e f g h a b c d = u2 from hu2); clear hu2
            cases u2
            · go_wp2_with fail
              go_ret
              exact ⟨by rw [rel_0 K.out CR.out YY.out (by rw [HU.out, HU2.out]; rfl)]; rfl, BX.out⟩
            · go_wp2_with fail
              go_ret
              exact ⟨by rw [rel_1 K.out CR.out YY.out (by rw [HU.out, HU2.out]; rfl)]; rfl, BX.out⟩
          · go_wp2_with fail
            go_ret
            exact ⟨by rw [rel_1 K.out CR.out YY.out (by rw [HU.out]; rfl)]; rfl, BX.out⟩
        · go_wp2_with fail
          refine (share_any a b c d e f g h _).mono ?_; rintro e0 w5 ⟨rfl, hb⟩
          replace GA := Lib.hid (GA.out.below hb GA.out.lt); replace GB := Lib.hid (GB.out.below hb GB.out.lt)
          replace BX := Lib.hid (BX.out.trans (hb.mono BX.out.size))
          clear hb c0 c1 c2 c3 d0 d1 d2 d3
          have c0 := GA.out.c0; have c1 := GA.out.c1; have c2 := GA.out.c2; have c3 := GA.out.c3
          have d0 := GB.out.c0; have d1 := GB.out.c1; have d2 := GB.out.c2; have d3 := GB.out.c3
          obtain ⟨z1, hz1⟩ : ∃ z1, shB a b c d e f g h = z1 := ⟨_, rfl⟩
          rw [hz1]
          have HZ := Lib.hid hz1; clear hz1
          cases z1
          · have YY := Lib.hid (show (stB a b c d e f g h && shB a b c d e f g h) = false by rw [HY.out, HZ.out]; rfl)
            go_wp2_with fail
            refine (endOn_any a b c d e f g h _).mono ?_; rintro e0 w5 ⟨rfl, hb⟩
            replace GA := Lib.hid (GA.out.below hb GA.out.lt); replace GB := Lib.hid (GB.out.below hb GB.out.lt)
            replace BX := Lib.hid (BX.out.trans (hb.mono BX.out.size))
            clear hb c0 c1 c2 c3 d0 d1 d2 d3
            have c0 := GA.out.c0; have c1 := GA.out.c1; have c2 := GA.out.c2; have c3 := GA.out.c3
            have d0 := GB.out.c0; have d1 := GB.out.c1; have d2 := GB.out.c2; have d3 := GB.out.c3
            obtain ⟨u1, hu1⟩ : ∃ u1, (onB a b e f g h || onB c d e f g h) = u1 := ⟨_, rfl⟩
            rw [hu1]
            have HU := Lib.hid (show enB a b c d e f g h = u1 from hu1); clear hu1
            cases u1
            · go_wp2_with fail
              refine (endOn_any e f g h a b c d _).mono ?_; rintro e0 w5 ⟨rfl, hb⟩
              replace GA := Lib.hid (GA.out.below hb GA.out.lt); replace GB := Lib.hid (GB.out.below hb GB.out.lt)
              replace BX := Lib.hid (BX.out.trans (hb.mono BX.out.size))
              clear hb c0 c1 c2 c3 d0 d1 d2 d3
              have c0 := GA.out.c0; have c1 := GA.out.c1; have c2 := GA.out.c2; have c3 := GA.out.c3
              have d0 := GB.out.c0; have d1 := GB.out.c1; have d2 := GB.out.c2; have d3 := GB.out.c3
              obtain ⟨u2, hu2⟩ : ∃ u2, (onB e f a b c d || onB g h a b c d) = u2 := ⟨_, rfl⟩
              rw [hu2]
              have HU2 := Lib.hid (show enB e f g h a b c d = u2 from hu2); clear hu2
              cases u2
              · go_wp2_with fail
                go_ret
                exact ⟨by rw [rel_0 K.out CR.out YY.out (by rw [HU.out, HU2.out]; rfl)]; rfl, BX.out⟩
              · go_wp2_with fail
                go_ret
                exact ⟨by rw [rel_1 K.out CR.out YY.out (by rw [HU.out, HU2.out]; rfl)]; rfl, BX.out⟩
            · go_wp2_with fail
              go_ret
              exact ⟨by rw [rel_1 K.out CR.out YY.out (by rw [HU.out]; rfl)]; rfl, BX.out⟩
          · go_wp2_with fail
            go_ret
            exact ⟨by rw [rel_3 K.out CR.out HY.out HZ.out]; rfl, BX.out⟩
      · go_wp2_with fail
        refine (splits_any e f g h a b c d _).mono ?_; rintro e0 w5 ⟨rfl, hb⟩
        replace GA := Lib.hid (GA.out.below hb GA.out.lt); replace GB := Lib.hid (GB.out.below hb GB.out.lt)
        replace BX := Lib.hid (BX.out.trans (hb.mono BX.out.size))
        clear hb c0 c1 c2 c3 d0 d1 d2 d3
        have c0 := GA.out.c0; have c1 := GA.out.c1; have c2 := GA.out.c2; have c3 := GA.out.c3
        have d0 := GB.out.c0; have d1 := GB.out.c1; have d2 := GB.out.c2; have d3 := GB.out.c3
        obtain ⟨x2, hx2⟩ : ∃ x2, splB (trn e f g h a b) (trn e f g h c d) = x2 := ⟨_, rfl⟩
        rw [hx2]
        have HX2 := Lib.hid hx2; clear hx2
        cases x2
        · skip
          have CR := Lib.hid (show crB a b c d e f g h = false by unfold crB; rw [HX1.out, HX2.out]; rfl)
          go_wp2_with fail
          refine (straight_any a b c d e f g h _).mono ?_; rintro e0 w5 ⟨rfl, hb⟩
          replace GA := Lib.hid (GA.out.below hb GA.out.lt); replace GB := Lib.hid (GB.out.below hb GB.out.lt)
          replace BX := Lib.hid (BX.out.trans (hb.mono BX.out.size))
          clear hb c0 c1 c2 c3 d0 d1 d2 d3
          have c0 := GA.out.c0; have c1 := GA.out.c1; have c2 := GA.out.c2; have c3 := GA.out.c3
          have d0 := GB.out.c0; have d1 := GB.out.c1; have d2 := GB.out.c2; have d3 := GB.out.c3
          obtain ⟨y1, hy1⟩ : ∃ y1, (trn a b c d e f == 0 && trn a b c d g h == 0) = y1 := ⟨_, rfl⟩
          rw [hy1]
          have HY := Lib.hid (show stB a b c d e f g h = y1 from hy1); clear hy1
          cases y1
          · have YY := Lib.hid (show (stB a b c d e f g h && shB a b c d e f g h) = false by rw [HY.out]; rfl)
            go_wp2_with fail
            refine (endOn_any a b c d e f g h _).mono ?_; rintro e0 w5 ⟨rfl, hb⟩
            replace GA := Lib.hid (GA.out.below hb GA.out.lt); replace GB := Lib.hid (GB.out.below hb GB.out.lt)
            replace BX := Lib.hid (BX.out.trans (hb.mono BX.out.size))
            clear hb c0 c1 c2 c3 d0 d1 d2 d3
            have c0 := GA.out.c0; have c1 := GA.out.c1; have c2 := GA.out.c2; have c3 := GA.out.c3
            have d0 := GB.out.c0; have d1 := GB.out.c1; have d2 := GB.out.c2; have d3 := GB.out.c3
            obtain ⟨u1, hu1⟩ : ∃ u1, (onB a b e f g h || onB c d e f g h) = u1 := ⟨_, rfl⟩
            rw [hu1]
            have HU := Lib.hid (show enB a b c d e f g h = u1 from hu1); clear hu1
            cases u1
            · go_wp2_with fail
              refine (endOn_any e f g h a b c d _).mono ?_; rintro e0 w5 ⟨rfl, hb⟩
              replace GA := Lib.hid (GA.out.below hb GA.out.lt); replace GB := Lib.hid (GB.out.below hb GB.out.lt)
              replace BX := Lib.hid (BX.out.trans (hb.mono BX.out.size))
              clear hb c0 c1 c2 c3 d0 d1 d2 d3
              have c0 := GA.out.c0; have c1 := GA.out.c1; have c2 := GA.out.c2; have c3 := GA.out.c3
              have d0 := GB.out.c0; have d1 := GB.out.c1; have d2 := GB.out.c2; have d3 := GB.out.c3
              obtain ⟨u2, hu2⟩ : ∃ u2, (onB e f a b c d || onB g h a b c d) = u2 := ⟨_, rfl⟩
              rw [hu2]
              have HU2 := Lib.hid (show enB e f g h a b c d = u2 from hu2); clear hu2
              cases u2
              · go_wp2_with fail
                go_ret
                exact ⟨by rw [rel_0 K.out CR.out YY.out (by rw [HU.out, HU2.out]; rfl)]; rfl, BX.out⟩
              · go_wp2_with fail
                go_ret
                exact ⟨by rw [rel_1 K.out CR.out YY.out (by rw [HU.out, HU2.out]; rfl)]; rfl, BX.out⟩
            · go_wp2_with fail
              go_ret
              exact ⟨by rw [rel_1 K.out CR.out YY.out (by rw [HU.out]; rfl)]; rfl, BX.out⟩
          · go_wp2_with fail
            refine (share_any a b c d e f g h _).mono ?_; rintro e0 w5 ⟨rfl, hb⟩
            replace GA := Lib.hid (GA.out.below hb GA.out.lt); replace GB := Lib.hid (GB.out.below hb GB.out.lt)
            replace BX := Lib.hid (BX.out.trans (hb.mono BX.out.size))
            clear hb c0 c1 c2 c3 d0 d1 d2 d3
            have c0 := GA.out.c0; have c1 := GA.out.c1; have c2 := GA.out.c2; have c3 := GA.out.c3
            have d0 := GB.out.c0; have d1 := GB.out.c1; have d2 := GB.out.c2; have d3 := GB.out.c3
            obtain ⟨z1, hz1⟩ : ∃ z1, shB a b c d e f g h = z1 := ⟨_, rfl⟩
            rw [hz1]
            have HZ := Lib.hid hz1; clear hz1
            cases z1
            · have YY := Lib.hid (show (stB a b c d e f g h && shB a b c d e f g h) = false by rw [HY.out, HZ.out]; rfl)
              go_wp2_with fail
              refine (endOn_any a b c d e f g h _).mono ?_; rintro e0 w5 ⟨rfl, hb⟩
              replace GA := Lib.hid (GA.out.below hb GA.out.lt); replace GB := Lib.hid (GB.out.below hb GB.out.lt)
              replace BX := Lib.hid (BX.out.trans (hb.mono BX.out.size))
              clear hb c0 c1 c2 c3 d0 d1 d2 d3
              have c0 := GA.out.c0; have c1 := GA.out.c1; have c2 := GA.out.c2; have c3 := GA.out.c3
              have d0 := GB.out.c0; have d1 := GB.out.c1; have d2 := GB.out.c2; have d3 := GB.out.c3
              obtain ⟨u1, hu1⟩ : ∃ u1, (onB a b e f g h || onB c d e f g h) = u1 := ⟨_, rfl⟩
              rw [hu1]
              have HU := Lib.hid (show enB a b c d e f g h = u1 from hu1); clear hu1
              cases u1
              · go_wp2_with fail
                refine (endOn_any e f g h a b c d _).mono ?_; rintro e0 w5 ⟨rfl, hb⟩
                replace GA := Lib.hid (GA.out.below hb GA.out.lt); replace GB := Lib.hid (GB.out.below hb GB.out.lt)
                replace BX := Lib.hid (BX.out.trans (hb.mono BX.out.size))
                clear hb c0 c1 c2 c3 d0 d1 d2 d3
                have c0 := GA.out.c0; have c1 := GA.out.c1; have c2 := GA.out.c2; have c3 := GA.out.c3
                have d0 := GB.out.c0; have d1 := GB.out.c1; have d2 := GB.out.c2; have d3 := GB.out.c3
                obtain ⟨u2, hu2⟩ : ∃ u2, (onB e f a b c d || onB g h a b c d) = u2 := ⟨_, rfl⟩
                rw [hu2]
                have HU2 := Lib.hid (show enB e f g h a b c d = u2 from hu2); clear hu2
                cases u2
                · go_wp2_with fail
                  go_ret
                  exact ⟨by rw [rel_0 K.out CR.out YY.out (by rw [HU.out, HU2.out]; rfl)]; rfl, BX.out⟩
                · go_wp2_with fail
                  go_ret
                  exact ⟨by rw [rel_1 K.out CR.out YY.out (by rw [HU.out, HU2.out]; rfl)]; rfl, BX.out⟩
              · go_wp2_with fail
                go_ret
                exact ⟨by rw [rel_1 K.out CR.out YY.out (by rw [HU.out]; rfl)]; rfl, BX.out⟩
            · go_wp2_with fail
              go_ret
              exact ⟨by rw [rel_3 K.out CR.out HY.out HZ.out]; rfl, BX.out⟩
        · go_wp2_with fail
          go_ret
          exact ⟨by rw [rel_2 K.out (by unfold crB; rw [HX1.out, HX2.out]; rfl)]; rfl, BX.out⟩
end Go.Proofs.Ytfabfnjfnildhaa
