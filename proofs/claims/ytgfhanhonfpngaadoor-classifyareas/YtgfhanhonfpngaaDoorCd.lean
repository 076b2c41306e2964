/- classify: Oneway, Theme, IsArea, MinZoom. -/
import Derived.Test.YtgfhanhonfpngaaDoorCc
namespace Go.Proofs.YtgfhanhonfpngaaDoor
open Go.ChangeShapes Go.WideShapes Go.ChangeAt Go.RowKit Go.Joins Go.Deep

open Go.Proofs.TagM Go.Shelf Go.Sort

theorem lit_ne {s v : ByteArray} (h : s ≠ v) {L : List UInt8} (e : v.toList = L) : (s.toList == L) = false := by rw [← e]; exact str_ne h
set_option maxRecDepth 100000 in
set_option maxHeartbeats 4000000 in
theorem oneway_any {w : World} {v : Value} {l : List Tg} (h : TagsAt w v l) (hl : l.length ≤ 1000000) : Calls Tryd.prog 19 #[v] w fun e w' => e = .returned (.int .i64 (ow l)) ∧ Below w.heap.size w w' := by
  have HG := Lib.hid (get_any sOne h hl)
  have A0 := Lib.hid h; have HL := Lib.hid hl
  obtain ⟨a, cap, rfl, _⟩ := h
  have HE := Lib.hid (fun h => has_empty (l := l) (k := sOne) h)
  obtain ⟨⟨s, ok⟩, hs⟩ : ∃ z, gt l sOne = z := ⟨_, rfl⟩
  have P1 := (isB_pair (v := sYes) hs).1; have P2 := (isB_pair (v := sYes) hs).2; have P3 := (isB_pair (v := sM1) hs).1
  rw [hs] at HG HE
  dsimp only at HG HE
  obtain ⟨n, hn⟩ : ∃ n, l.length = n := ⟨_, rfl⟩
  rw [hn] at HG A0 ⊢
  have IS := Lib.hid (fun W (b : Below w.heap.size w W) => is_any sHw s_h1 (A0.out.below b) HL.out)
  clear hn hl hs
  cases ok with
  | true =>
    by_cases c1 : s = sYes
    · have V := Lib.hid (show ow l = 1 by unfold ow; rw [if_pos (by rw [P1]; simp [c1])])
      obtain rfl := c1
      clear P1 P2 P3
      go_enter Tryd.func19, Tryd.ntmps19
      go_wp2_with fail
      refine HG.out.mono ?_; rintro e w2 ⟨rfl, b⟩
      go_wp2_with fail
      go_ret
      exact ⟨by rw [V.out]; rfl, b⟩
    · have d1 := lit_ne c1 (L := [121, 101, 115]) (by simp)
      by_cases c2 : s = sM1
      · have V := Lib.hid (show ow l = -1 by unfold ow; rw [if_neg (by rw [P1, P2]; simp [c1]), if_pos (by rw [P3]; simp [c2])])
        obtain rfl := c2
        clear P1 P2 P3 c1 d1
        go_enter Tryd.func19, Tryd.ntmps19
        go_wp2_with fail
        refine HG.out.mono ?_; rintro e w2 ⟨rfl, b⟩
        go_wp2_with fail
        go_ret
        exact ⟨by rw [V.out]; rfl, b⟩
      · have d2 := lit_ne c2 (L := [45, 49]) (by simp)
        have V := Lib.hid (show ow l = 0 by unfold ow; rw [if_neg (by rw [P1, P2]; simp [c1]), if_neg (by rw [P3]; simp [c2])])
        clear P1 P2 P3 c1 c2
        go_enter Tryd.func19, Tryd.ntmps19
        go_wp2_with fail
        refine HG.out.mono ?_; rintro e w2 ⟨rfl, b⟩
        go_wp2_with fail
        go_ret
        exact ⟨by rw [V.out]; rfl, b⟩
  | false =>
    obtain rfl := HE.out P2
    cases hm : isB l sHw s_h1 with
    | true =>
      have V := Lib.hid (show ow l = 1 by unfold ow; rw [if_pos (by rw [P2, hm]; simp)])
      rw [hm] at IS
      clear P1 P2 P3
      go_enter Tryd.func19, Tryd.ntmps19
      go_wp2_with fail
      refine HG.out.mono ?_; rintro e w2 ⟨rfl, b⟩
      have B2 := Lib.hid b
      clear b
      go_wp2_with fail
      refine (IS.out _ B2.out).mono ?_; rintro e w3 ⟨rfl, b⟩
      have B3 := Lib.hid (B2.out.trans (b.mono B2.out.size))
      clear b
      go_wp2_with fail
      go_ret
      exact ⟨by rw [V.out]; rfl, B3.out⟩
    | false =>
      have V := Lib.hid (show ow l = 0 by unfold ow; rw [if_neg (by rw [P1, P2, hm]; simp), if_neg (by rw [P3]; simp)])
      rw [hm] at IS
      clear P1 P2 P3
      go_enter Tryd.func19, Tryd.ntmps19
      go_wp2_with fail
      refine HG.out.mono ?_; rintro e w2 ⟨rfl, b⟩
      have B2 := Lib.hid b
      clear b
      go_wp2_with fail
      refine (IS.out _ B2.out).mono ?_; rintro e w3 ⟨rfl, b⟩
      have B3 := Lib.hid (B2.out.trans (b.mono B2.out.size))
      clear b
      go_wp2_with fail
      go_ret
      exact ⟨by rw [V.out]; rfl, B3.out⟩
set_option maxRecDepth 100000 in
set_option maxHeartbeats 4000000 in
theorem themer_any {w : World} {v : Value} {l : List Tg} (h : TagsAt w v l) (hl : l.length ≤ 1000000) : Calls Tryd.prog 10 #[v] w fun e w' => e = .returned (.int .i64 (thm l)) ∧ w' = w := by
  have A0 := Lib.hid h; have HL := Lib.hid hl
  obtain ⟨a, cap, rfl, _⟩ := h
  obtain ⟨n, hn⟩ : ∃ n, l.length = n := ⟨_, rfl⟩
  rw [hn] at A0 ⊢
  clear hn hl
  go_enter Tryd.func10, Tryd.ntmps10
  go_wp2_with fail
  refine (isr_any sNat sWater A0.out HL.out).mono ?_; rintro e x1 ⟨rfl, rfl⟩
  cases h0 : isB l sNat sWater with
  | true =>
    have V := Lib.hid (show thm l = 1 by simp [thm, h0])
    go_wp2_with fail
    go_ret
    exact ⟨by rw [V.out]; rfl, rfl⟩
  | false =>
    go_wp2_with fail
    refine (hasr_any sBld A0.out HL.out).mono ?_; rintro e x2 ⟨rfl, rfl⟩
    cases h1 : hasB l sBld with
    | true =>
      go_wp2_with fail
      refine (isr_any sBld sNo A0.out HL.out).mono ?_; rintro e x3 ⟨rfl, rfl⟩
      cases h2 : isB l sBld sNo with
      | true =>
        go_wp2_with fail
        refine (hasr_any sLand A0.out HL.out).mono ?_; rintro e x4 ⟨rfl, rfl⟩
        cases h3 : hasB l sLand with
        | true =>
          have V := Lib.hid (show thm l = 2 by simp [thm, h0, h1, h2, h3])
          go_wp2_with fail
          go_ret
          exact ⟨by rw [V.out]; rfl, rfl⟩
        | false =>
          by_cases h4 : 0 < cls l
          · have CL := Lib.hid (classr_any A0.out HL.out)
            obtain ⟨cv, hcv⟩ : ∃ z, cls l = z := ⟨_, rfl⟩
            rw [hcv] at CL h4
            go_wp2_with fail
            refine CL.out.mono ?_; rintro e x5 ⟨rfl, rfl⟩
            clear CL
            have V := Lib.hid (show thm l = 4 by simp [thm, h0, h1, h2, h3, h4, hcv])
            go_wp2_with fail
            go_ret
            exact ⟨by rw [V.out]; rfl, rfl⟩
          · have CL := Lib.hid (classr_any A0.out HL.out)
            obtain ⟨cv, hcv⟩ : ∃ z, cls l = z := ⟨_, rfl⟩
            rw [hcv] at CL h4
            go_wp2_with fail
            refine CL.out.mono ?_; rintro e x5 ⟨rfl, rfl⟩
            clear CL
            go_wp2_with fail
            refine (hasr_any sBound A0.out HL.out).mono ?_; rintro e x6 ⟨rfl, rfl⟩
            cases h5 : hasB l sBound with
            | true =>
              have V := Lib.hid (show thm l = 5 by simp [thm, h0, h1, h2, h3, h4, h5, hcv])
              go_wp2_with fail
              go_ret
              exact ⟨by rw [V.out]; rfl, rfl⟩
            | false =>
              go_wp2_with fail
              refine (hasr_any sPlace A0.out HL.out).mono ?_; rintro e x7 ⟨rfl, rfl⟩
              cases h6 : hasB l sPlace with
              | true =>
                have V := Lib.hid (show thm l = 6 by simp [thm, h0, h1, h2, h3, h4, h5, h6, hcv])
                go_wp2_with fail
                go_ret
                exact ⟨by rw [V.out]; rfl, rfl⟩
              | false =>
                have V := Lib.hid (show thm l = 0 by simp [thm, h0, h1, h2, h3, h4, h5, h6, hcv])
                go_wp2_with fail
                go_ret
                exact ⟨by rw [V.out]; rfl, rfl⟩
      | false =>
        have V := Lib.hid (show thm l = 3 by simp [thm, h0, h1, h2])
        go_wp2_with fail
        go_ret
        exact ⟨by rw [V.out]; rfl, rfl⟩
    | false =>
      go_wp2_with fail
      refine (hasr_any sLand A0.out HL.out).mono ?_; rintro e x8 ⟨rfl, rfl⟩
      cases h2 : hasB l sLand with
      | true =>
        have V := Lib.hid (show thm l = 2 by simp [thm, h0, h1, h2])
        go_wp2_with fail
        go_ret
        exact ⟨by rw [V.out]; rfl, rfl⟩
      | false =>
        by_cases h3 : 0 < cls l
        · have CL := Lib.hid (classr_any A0.out HL.out)
          obtain ⟨cv, hcv⟩ : ∃ z, cls l = z := ⟨_, rfl⟩
          rw [hcv] at CL h3
          go_wp2_with fail
          refine CL.out.mono ?_; rintro e x9 ⟨rfl, rfl⟩
          clear CL
          have V := Lib.hid (show thm l = 4 by simp [thm, h0, h1, h2, h3, hcv])
          go_wp2_with fail
          go_ret
          exact ⟨by rw [V.out]; rfl, rfl⟩
        · have CL := Lib.hid (classr_any A0.out HL.out)
          obtain ⟨cv, hcv⟩ : ∃ z, cls l = z := ⟨_, rfl⟩
          rw [hcv] at CL h3
          go_wp2_with fail
          refine CL.out.mono ?_; rintro e x9 ⟨rfl, rfl⟩
          clear CL
          go_wp2_with fail
          refine (hasr_any sBound A0.out HL.out).mono ?_; rintro e x10 ⟨rfl, rfl⟩
          cases h4 : hasB l sBound with
          | true =>
            have V := Lib.hid (show thm l = 5 by simp [thm, h0, h1, h2, h3, h4, hcv])
            go_wp2_with fail
            go_ret
            exact ⟨by rw [V.out]; rfl, rfl⟩
          | false =>
            go_wp2_with fail
            refine (hasr_any sPlace A0.out HL.out).mono ?_; rintro e x11 ⟨rfl, rfl⟩
            cases h5 : hasB l sPlace with
            | true =>
              have V := Lib.hid (show thm l = 6 by simp [thm, h0, h1, h2, h3, h4, h5, hcv])
              go_wp2_with fail
              go_ret
              exact ⟨by rw [V.out]; rfl, rfl⟩
            | false =>
              have V := Lib.hid (show thm l = 0 by simp [thm, h0, h1, h2, h3, h4, h5, hcv])
              go_wp2_with fail
              go_ret
              exact ⟨by rw [V.out]; rfl, rfl⟩
set_option maxRecDepth 100000 in
set_option maxHeartbeats 4000000 in
theorem theme_any {w : World} {v : Value} {l : List Tg} (h : TagsAt w v l) (g : GV w) (hl : l.length ≤ 1000000) : Calls Tryd.prog 9 #[v] w fun e w' => e = .returned (.int .i64 (thm l)) ∧ Below w.heap.size w w' := by
  have HG := Lib.hid (get_any sBld h hl)
  have A0 := Lib.hid h; have HL := Lib.hid hl; have G0 := Lib.hid g
  have PP := Lib.hid (fun s ok (e : gt l sBld = (s, ok)) => isB_pair (v := sNo) e)
  obtain ⟨⟨s, ok⟩, hs⟩ : ∃ z, gt l sBld = z := ⟨_, rfl⟩
  have P1 := (PP.out s ok hs).1; have P2 := (PP.out s ok hs).2
  rw [hs] at HG
  dsimp only at HG
  obtain ⟨a, cap, rfl, _⟩ := h
  obtain ⟨n, hn⟩ : ∃ n, l.length = n := ⟨_, rfl⟩
  rw [hn] at A0 HG ⊢
  have B0 := Lib.hid (Below.refl w.heap.size w)
  clear hn hl hs PP g
  go_enter Tryd.func9, Tryd.ntmps9
  go_wp2_with fail
  refine HG.out.mono ?_; rintro e w2 ⟨rfl, b⟩
  have B1 := Lib.hid (B0.out.trans (b.mono B0.out.size))
  clear b B0 HG
  have B0 := B1
  clear B1
  go_wp2_with fail
  refine (is_any sNat sWater (A0.out.below B0.out) HL.out).mono ?_; rintro e w3 ⟨rfl, b⟩
  have B1 := Lib.hid (B0.out.trans (b.mono B0.out.size))
  clear b B0
  have B0 := B1
  clear B1
  cases h0 : isB l sNat sWater with
  | true =>
    have V := Lib.hid (show thm l = 1 by simp [thm, h0])
    go_wp2_with fail
    go_ret
    exact ⟨by rw [V.out]; rfl, B0.out⟩
  | false =>
    cases ok with
    | false =>
      have h1 : hasB l sBld = false := P2
      clear P1 P2
      go_wp2_with fail
      refine (has_any sLand (A0.out.below B0.out) HL.out).mono ?_; rintro e x12 ⟨rfl, b⟩
      have B1 := Lib.hid (B0.out.trans (b.mono B0.out.size))
      clear b B0
      have B0 := B1
      clear B1
      cases h2 : hasB l sLand with
      | true =>
        have V := Lib.hid (show thm l = 2 by simp [thm, h0, h1, h2])
        go_wp2_with fail
        go_ret
        exact ⟨by rw [V.out]; rfl, B0.out⟩
      | false =>
        by_cases h3 : 0 < cls l
        · have CL := Lib.hid (class_any (A0.out.below B0.out) (G0.out.below B0.out) HL.out)
          obtain ⟨cv, hcv⟩ : ∃ z, cls l = z := ⟨_, rfl⟩
          rw [hcv] at CL h3
          go_wp2_with fail
          refine CL.out.mono ?_; rintro e x13 ⟨rfl, b⟩
          have B1 := Lib.hid (B0.out.trans (b.mono B0.out.size))
          clear b B0
          have B0 := B1
          clear B1
          clear CL
          have V := Lib.hid (show thm l = 4 by simp [thm, h0, h1, h2, h3, hcv])
          go_wp2_with fail
          go_ret
          exact ⟨by rw [V.out]; rfl, B0.out⟩
        · have CL := Lib.hid (class_any (A0.out.below B0.out) (G0.out.below B0.out) HL.out)
          obtain ⟨cv, hcv⟩ : ∃ z, cls l = z := ⟨_, rfl⟩
          rw [hcv] at CL h3
          go_wp2_with fail
          refine CL.out.mono ?_; rintro e x13 ⟨rfl, b⟩
          have B1 := Lib.hid (B0.out.trans (b.mono B0.out.size))
          clear b B0
          have B0 := B1
          clear B1
          clear CL
          go_wp2_with fail
          refine (has_any sBound (A0.out.below B0.out) HL.out).mono ?_; rintro e x14 ⟨rfl, b⟩
          have B1 := Lib.hid (B0.out.trans (b.mono B0.out.size))
          clear b B0
          have B0 := B1
          clear B1
          cases h4 : hasB l sBound with
          | true =>
            have V := Lib.hid (show thm l = 5 by simp [thm, h0, h1, h2, h3, h4, hcv])
            go_wp2_with fail
            go_ret
            exact ⟨by rw [V.out]; rfl, B0.out⟩
          | false =>
            go_wp2_with fail
            refine (has_any sPlace (A0.out.below B0.out) HL.out).mono ?_; rintro e x15 ⟨rfl, b⟩
            have B1 := Lib.hid (B0.out.trans (b.mono B0.out.size))
            clear b B0
            have B0 := B1
            clear B1
            cases h5 : hasB l sPlace with
            | true =>
              have V := Lib.hid (show thm l = 6 by simp [thm, h0, h1, h2, h3, h4, h5, hcv])
              go_wp2_with fail
              go_ret
              exact ⟨by rw [V.out]; rfl, B0.out⟩
            | false =>
              have V := Lib.hid (show thm l = 0 by simp [thm, h0, h1, h2, h3, h4, h5, hcv])
              go_wp2_with fail
              go_ret
              exact ⟨by rw [V.out]; rfl, B0.out⟩
    | true =>
      have h1 : hasB l sBld = true := P2
      by_cases c1 : s = sNo
      · have h2 : isB l sBld sNo = true := by rw [P1]; simp [c1]
        obtain rfl := c1
        clear P1 P2
        go_wp2_with fail
        refine (has_any sLand (A0.out.below B0.out) HL.out).mono ?_; rintro e x16 ⟨rfl, b⟩
        have B1 := Lib.hid (B0.out.trans (b.mono B0.out.size))
        clear b B0
        have B0 := B1
        clear B1
        cases h3 : hasB l sLand with
        | true =>
          have V := Lib.hid (show thm l = 2 by simp [thm, h0, h1, h2, h3])
          go_wp2_with fail
          go_ret
          exact ⟨by rw [V.out]; rfl, B0.out⟩
        | false =>
          by_cases h4 : 0 < cls l
          · have CL := Lib.hid (class_any (A0.out.below B0.out) (G0.out.below B0.out) HL.out)
            obtain ⟨cv, hcv⟩ : ∃ z, cls l = z := ⟨_, rfl⟩
            rw [hcv] at CL h4
            go_wp2_with fail
            refine CL.out.mono ?_; rintro e x17 ⟨rfl, b⟩
            have B1 := Lib.hid (B0.out.trans (b.mono B0.out.size))
            clear b B0
            have B0 := B1
            clear B1
            clear CL
            have V := Lib.hid (show thm l = 4 by simp [thm, h0, h1, h2, h3, h4, hcv])
            go_wp2_with fail
            go_ret
            exact ⟨by rw [V.out]; rfl, B0.out⟩
          · have CL := Lib.hid (class_any (A0.out.below B0.out) (G0.out.below B0.out) HL.out)
            obtain ⟨cv, hcv⟩ : ∃ z, cls l = z := ⟨_, rfl⟩
            rw [hcv] at CL h4
            go_wp2_with fail
            refine CL.out.mono ?_; rintro e x17 ⟨rfl, b⟩
            have B1 := Lib.hid (B0.out.trans (b.mono B0.out.size))
            clear b B0
            have B0 := B1
            clear B1
            clear CL
            go_wp2_with fail
            refine (has_any sBound (A0.out.below B0.out) HL.out).mono ?_; rintro e x18 ⟨rfl, b⟩
            have B1 := Lib.hid (B0.out.trans (b.mono B0.out.size))
            clear b B0
            have B0 := B1
            clear B1
            cases h5 : hasB l sBound with
            | true =>
              have V := Lib.hid (show thm l = 5 by simp [thm, h0, h1, h2, h3, h4, h5, hcv])
              go_wp2_with fail
              go_ret
              exact ⟨by rw [V.out]; rfl, B0.out⟩
            | false =>
              go_wp2_with fail
              refine (has_any sPlace (A0.out.below B0.out) HL.out).mono ?_; rintro e x19 ⟨rfl, b⟩
              have B1 := Lib.hid (B0.out.trans (b.mono B0.out.size))
              clear b B0
              have B0 := B1
              clear B1
              cases h6 : hasB l sPlace with
              | true =>
                have V := Lib.hid (show thm l = 6 by simp [thm, h0, h1, h2, h3, h4, h5, h6, hcv])
                go_wp2_with fail
                go_ret
                exact ⟨by rw [V.out]; rfl, B0.out⟩
              | false =>
                have V := Lib.hid (show thm l = 0 by simp [thm, h0, h1, h2, h3, h4, h5, h6, hcv])
                go_wp2_with fail
                go_ret
                exact ⟨by rw [V.out]; rfl, B0.out⟩
      · have h2 : isB l sBld sNo = false := by rw [P1]; simp [c1]
        have d1 := lit_ne c1 (L := [110, 111]) (by simp)
        clear P1 P2 c1
        have V := Lib.hid (show thm l = 3 by simp [thm, h0, h1, h2])
        go_wp2_with fail
        go_ret
        exact ⟨by rw [V.out]; rfl, B0.out⟩
end Go.Proofs.YtgfhanhonfpngaaDoor
