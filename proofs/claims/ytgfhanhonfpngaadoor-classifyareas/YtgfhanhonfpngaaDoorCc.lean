/- classify: Speed, Oneway, Name, Class, Theme of the reference; Theme, the zooms. -/
import Derived.Test.YtgfhanhonfpngaaDoorCb
namespace Go.Proofs.YtgfhanhonfpngaaDoor
open Go.ChangeShapes Go.WideShapes Go.ChangeAt Go.RowKit Go.Joins Go.Deep

open Go.Proofs.TagM Go.Shelf Go.Sort

theorem isB_pair {l : List Tg} {k s v : ByteArray} {ok : Bool} (h : gt l k = (s, ok)) : isB l k v = (ok && decide (s = v)) ∧ hasB l k = ok := by unfold isB hasB; rw [h]; exact ⟨rfl, rfl⟩
theorem isB_has {l : List Tg} {k v : ByteArray} (h : isB l k v = true) : hasB l k = true ∧ (gt l k).1 = v := by
  unfold isB at h; unfold hasB
  simpa using h
theorem isB_ne {l : List Tg} {k v : ByteArray} (h : hasB l k = true) (h2 : isB l k v = false) : ¬ v = (gt l k).1 := by
  unfold isB at h2; unfold hasB at h
  rw [h] at h2
  intro e; rw [← e] at h2; simp at h2
theorem isB_no {l : List Tg} {k v : ByteArray} (h : hasB l k = false) : isB l k v = false := by
  unfold isB; unfold hasB at h; rw [h]; rfl
theorem has_empty {l : List Tg} {k : ByteArray} (h : hasB l k = false) : (gt l k).1 = ⟨#[]⟩ := gt_no h
theorem cls_1 {l : List Tg} (h : isB l sHw s_h1 = true) : cls l = 1 := by
  obtain ⟨a, b⟩ := isB_has h; unfold cls; rw [if_neg (by rw [a]; simp), b]; decide +kernel
theorem cls_2 {l : List Tg} (h : isB l sHw s_h2 = true) : cls l = 2 := by
  obtain ⟨a, b⟩ := isB_has h; unfold cls; rw [if_neg (by rw [a]; simp), b]; decide +kernel
theorem cls_3 {l : List Tg} (h : isB l sHw s_h3 = true) : cls l = 3 := by
  obtain ⟨a, b⟩ := isB_has h; unfold cls; rw [if_neg (by rw [a]; simp), b]; decide +kernel
theorem cls_4 {l : List Tg} (h : isB l sHw s_h4 = true) : cls l = 4 := by
  obtain ⟨a, b⟩ := isB_has h; unfold cls; rw [if_neg (by rw [a]; simp), b]; decide +kernel
theorem cls_5 {l : List Tg} (h : isB l sHw s_h5 = true) : cls l = 5 := by
  obtain ⟨a, b⟩ := isB_has h; unfold cls; rw [if_neg (by rw [a]; simp), b]; decide +kernel
theorem cls_o {l : List Tg} (h : hasB l sHw = true) (h1 : isB l sHw s_h1 = false) (h2 : isB l sHw s_h2 = false) (h3 : isB l sHw s_h3 = false) (h4 : isB l sHw s_h4 = false) (h5 : isB l sHw s_h5 = false) : cls l = 0 := by
  unfold cls
  rw [if_neg (by rw [h]; simp)]
  unfold hws
  rw [hwI, if_neg (isB_ne h h1), hwI, if_neg (isB_ne h h2), hwI, if_neg (isB_ne h h3), hwI, if_neg (isB_ne h h4), hwI, if_neg (isB_ne h h5)]; rfl
theorem cls_f {l : List Tg} (h : hasB l sHw = false) (h1 : isB l sRoute sFerry = true) : cls l = 6 := if_pos ⟨h, h1⟩
theorem cls_n {l : List Tg} (h : hasB l sHw = false) (h1 : isB l sRoute sFerry = false) : cls l = 0 := by
  unfold cls; rw [if_neg (by rw [h1]; simp), has_empty h]; decide +kernel
def thm (l : List Tg) : Int := if isB l sNat sWater then 1 else if hasB l sBld && !isB l sBld sNo then 3 else if hasB l sLand then 2 else if 0 < cls l then 4 else if hasB l sBound then 5 else if hasB l sPlace then 6 else 0
def ow (l : List Tg) : Int := if isB l sOne sYes || (!hasB l sOne && isB l sHw s_h1) then 1 else if isB l sOne sM1 then -1 else 0
def spd (c : Int) : Int := if c = 1 then 1 else if c = 2 then 2 else if c = 3 then 3 else if c = 4 then 5 else if c = 5 then 8 else if c = 6 then 10 else 0
def rz (c : Int) : Int := if c = 1 then 0 else if c = 2 then 2 else if c = 3 then 4 else 5
def plz (l : List Tg) : Int := if isB l sPlace sCity then 0 else if isB l sPlace sTown then 3 else if isB l sPlace sVil then 5 else 6
def area (l : List Tg) : Bool := if thm l = 5 then isB l sArea sYes else if thm l = 1 ∨ thm l = 3 ∨ thm l = 2 then !isB l sArea sNo else false
def mz (l : List Tg) : Int := if thm l = 1 ∨ thm l = 5 then 0 else if thm l = 3 then 6 else if thm l = 2 then 2 else if thm l = 4 then rz (cls l) else if thm l = 6 then plz l else 8
theorem thm_range (l : List Tg) : thm l = 0 ∨ thm l = 1 ∨ thm l = 2 ∨ thm l = 3 ∨ thm l = 4 ∨ thm l = 5 ∨ thm l = 6 := by
  unfold thm
  repeat' split
  all_goals simp
set_option maxRecDepth 100000 in
set_option maxHeartbeats 4000000 in
theorem classr_any {w : World} {v : Value} {l : List Tg} (h : TagsAt w v l) (hl : l.length ≤ 1000000) : Calls Tryd.prog 16 #[v] w fun e w' => e = .returned (.int .i64 (cls l)) ∧ w' = w := by
  have A0 := Lib.hid h; have HL := Lib.hid hl
  obtain ⟨a, cap, rfl, _⟩ := h
  obtain ⟨n, hn⟩ : ∃ n, l.length = n := ⟨_, rfl⟩
  rw [hn] at A0 ⊢
  clear hn hl
  go_enter Tryd.func16, Tryd.ntmps16
  go_wp2_with fail
  refine (isr_any sHw s_h1 A0.out HL.out).mono ?_; rintro e x1 ⟨rfl, rfl⟩
  cases h0 : isB l sHw s_h1 with
  | true =>
    have V := Lib.hid (show cls l = 1 from cls_1 h0)
    go_wp2_with fail
    go_ret
    exact ⟨by rw [V.out]; rfl, rfl⟩
  | false =>
    go_wp2_with fail
    refine (isr_any sHw s_h2 A0.out HL.out).mono ?_; rintro e x2 ⟨rfl, rfl⟩
    cases h1 : isB l sHw s_h2 with
    | true =>
      have V := Lib.hid (show cls l = 2 from cls_2 h1)
      go_wp2_with fail
      go_ret
      exact ⟨by rw [V.out]; rfl, rfl⟩
    | false =>
      go_wp2_with fail
      refine (isr_any sHw s_h3 A0.out HL.out).mono ?_; rintro e x3 ⟨rfl, rfl⟩
      cases h2 : isB l sHw s_h3 with
      | true =>
        have V := Lib.hid (show cls l = 3 from cls_3 h2)
        go_wp2_with fail
        go_ret
        exact ⟨by rw [V.out]; rfl, rfl⟩
      | false =>
        go_wp2_with fail
        refine (isr_any sHw s_h4 A0.out HL.out).mono ?_; rintro e x4 ⟨rfl, rfl⟩
        cases h3 : isB l sHw s_h4 with
        | true =>
          have V := Lib.hid (show cls l = 4 from cls_4 h3)
          go_wp2_with fail
          go_ret
          exact ⟨by rw [V.out]; rfl, rfl⟩
        | false =>
          go_wp2_with fail
          refine (isr_any sHw s_h5 A0.out HL.out).mono ?_; rintro e x5 ⟨rfl, rfl⟩
          cases h4 : isB l sHw s_h5 with
          | true =>
            have V := Lib.hid (show cls l = 5 from cls_5 h4)
            go_wp2_with fail
            go_ret
            exact ⟨by rw [V.out]; rfl, rfl⟩
          | false =>
            go_wp2_with fail
            refine (hasr_any sHw A0.out HL.out).mono ?_; rintro e x6 ⟨rfl, rfl⟩
            cases h5 : hasB l sHw with
            | true =>
              have V := Lib.hid (show cls l = 0 from cls_o h5 h0 h1 h2 h3 h4)
              go_wp2_with fail
              go_ret
              exact ⟨by rw [V.out]; rfl, rfl⟩
            | false =>
              go_wp2_with fail
              refine (isr_any sRoute sFerry A0.out HL.out).mono ?_; rintro e x7 ⟨rfl, rfl⟩
              cases h6 : isB l sRoute sFerry with
              | true =>
                have V := Lib.hid (show cls l = 6 from cls_f h5 h6)
                go_wp2_with fail
                go_ret
                exact ⟨by rw [V.out]; rfl, rfl⟩
              | false =>
                have V := Lib.hid (show cls l = 0 from cls_n h5 h6)
                go_wp2_with fail
                go_ret
                exact ⟨by rw [V.out]; rfl, rfl⟩
set_option maxRecDepth 100000 in
set_option maxHeartbeats 4000000 in
theorem onewayr_any {w : World} {v : Value} {l : List Tg} (h : TagsAt w v l) (hl : l.length ≤ 1000000) : Calls Tryd.prog 20 #[v] w fun e w' => e = .returned (.int .i64 (ow l)) ∧ w' = w := by
  have A0 := Lib.hid h; have HL := Lib.hid hl
  obtain ⟨a, cap, rfl, _⟩ := h
  obtain ⟨n, hn⟩ : ∃ n, l.length = n := ⟨_, rfl⟩
  rw [hn] at A0 ⊢
  clear hn hl
  go_enter Tryd.func20, Tryd.ntmps20
  go_wp2_with fail
  refine (isr_any sOne sYes A0.out HL.out).mono ?_; rintro e x8 ⟨rfl, rfl⟩
  cases h0 : isB l sOne sYes with
  | true =>
    have V := Lib.hid (show ow l = 1 by simp [ow, h0])
    go_wp2_with fail
    go_ret
    exact ⟨by rw [V.out]; rfl, rfl⟩
  | false =>
    go_wp2_with fail
    refine (hasr_any sOne A0.out HL.out).mono ?_; rintro e x9 ⟨rfl, rfl⟩
    cases h1 : hasB l sOne with
    | true =>
      go_wp2_with fail
      refine (isr_any sOne sM1 A0.out HL.out).mono ?_; rintro e x10 ⟨rfl, rfl⟩
      cases h2 : isB l sOne sM1 with
      | true =>
        have V := Lib.hid (show ow l = -1 by simp [ow, h0, h1, h2])
        go_wp2_with fail
        go_ret
        exact ⟨by rw [V.out]; rfl, rfl⟩
      | false =>
        have V := Lib.hid (show ow l = 0 by simp [ow, h0, h1, h2])
        go_wp2_with fail
        go_ret
        exact ⟨by rw [V.out]; rfl, rfl⟩
    | false =>
      go_wp2_with fail
      refine (isr_any sHw s_h1 A0.out HL.out).mono ?_; rintro e x11 ⟨rfl, rfl⟩
      cases h2 : isB l sHw s_h1 with
      | true =>
        have V := Lib.hid (show ow l = 1 by simp [ow, h0, h1, h2])
        go_wp2_with fail
        go_ret
        exact ⟨by rw [V.out]; rfl, rfl⟩
      | false =>
        go_wp2_with fail
        refine (isr_any sOne sM1 A0.out HL.out).mono ?_; rintro e x12 ⟨rfl, rfl⟩
        cases h3 : isB l sOne sM1 with
        | true =>
          have V := Lib.hid (show ow l = -1 by simp [ow, h0, h1, h2, h3])
          go_wp2_with fail
          go_ret
          exact ⟨by rw [V.out]; rfl, rfl⟩
        | false =>
          have V := Lib.hid (show ow l = 0 by simp [ow, h0, h1, h2, h3])
          go_wp2_with fail
          go_ret
          exact ⟨by rw [V.out]; rfl, rfl⟩
theorem namer_any {w : World} {v : Value} {l : List Tg} (h : TagsAt w v l) (hl : l.length ≤ 1000000) : Calls Tryd.prog 22 #[v] w fun e w' => e = .returned (.string (gt l sName).1) ∧ w' = w := by
  have HG := Lib.hid (getr_any sName h hl)
  obtain ⟨a, cap, rfl, _⟩ := h
  obtain ⟨⟨s, ok⟩, hs⟩ : ∃ z, gt l sName = z := ⟨_, rfl⟩
  rw [hs] at HG ⊢
  dsimp only at HG ⊢
  obtain ⟨n, hn⟩ : ∃ n, l.length = n := ⟨_, rfl⟩
  rw [hn] at HG ⊢
  clear hs hn hl
  go_enter Tryd.func22, Tryd.ntmps22
  go_wp2_with fail
  refine HG.out.mono ?_; rintro e w2 ⟨rfl, rfl⟩
  go_wp2_with fail
  go_ret
  exact ⟨rfl, rfl⟩
theorem name_any {w : World} {v : Value} {l : List Tg} (h : TagsAt w v l) (hl : l.length ≤ 1000000) : Calls Tryd.prog 21 #[v] w fun e w' => e = .returned (.string (gt l sName).1) ∧ Below w.heap.size w w' := by
  have HG := Lib.hid (get_any sName h hl)
  obtain ⟨a, cap, rfl, _⟩ := h
  obtain ⟨⟨s, ok⟩, hs⟩ : ∃ z, gt l sName = z := ⟨_, rfl⟩
  rw [hs] at HG ⊢
  dsimp only at HG ⊢
  obtain ⟨n, hn⟩ : ∃ n, l.length = n := ⟨_, rfl⟩
  rw [hn] at HG ⊢
  clear hs hn hl
  go_enter Tryd.func21, Tryd.ntmps21
  go_wp2_with fail
  refine HG.out.mono ?_; rintro e w2 ⟨rfl, b⟩
  go_wp2_with fail
  go_ret
  exact ⟨rfl, b⟩
set_option maxRecDepth 100000 in
theorem speed_any (c : Int) (hc : -9223372036854775808 ≤ c ∧ c ≤ 9223372036854775807) {w : World} (g : GV w) : Calls Tryd.prog 17 #[.int .i64 c] w fun e w' => e = .returned (.int .i64 (spd c)) ∧ w' = w := by
  have G0 := Lib.hid g
  clear g
  by_cases h0 : c < 0
  · have V := Lib.hid (show spd c = 0 by unfold spd; repeat' split <;> omega)
    go_enter Tryd.func17, Tryd.ntmps17
    go_wp2_with fail
    go_ret
    exact ⟨by rw [V.out]; rfl, rfl⟩
  · by_cases h7 : 7 ≤ c
    · have V := Lib.hid (show spd c = 0 by unfold spd; repeat' split <;> omega)
      go_enter Tryd.func17, Tryd.ntmps17
      go_wp2_with fail
      go_ret
      exact ⟨by rw [V.out]; rfl, rfl⟩
    · have hk : c = 0 ∨ c = 1 ∨ c = 2 ∨ c = 3 ∨ c = 4 ∨ c = 5 ∨ c = 6 := by omega
      rcases hk with rfl | rfl | rfl | rfl | rfl | rfl | rfl
      · have c0 := G0.out.b 0 (by decide)
        simp only [List.getD_cons_zero] at c0
        clear hc h0 h7
        go_enter Tryd.func17, Tryd.ntmps17
        go_wp2_with fail
        go_ret
        exact ⟨rfl, rfl⟩
      · have c0 := G0.out.b 1 (by decide)
        simp only [List.getD_cons_zero, List.getD_cons_succ] at c0
        clear hc h0 h7
        go_enter Tryd.func17, Tryd.ntmps17
        go_wp2_with fail
        go_ret
        exact ⟨rfl, rfl⟩
      · have c0 := G0.out.b 2 (by decide)
        simp only [List.getD_cons_zero, List.getD_cons_succ] at c0
        clear hc h0 h7
        go_enter Tryd.func17, Tryd.ntmps17
        go_wp2_with fail
        go_ret
        exact ⟨rfl, rfl⟩
      · have c0 := G0.out.b 3 (by decide)
        simp only [List.getD_cons_zero, List.getD_cons_succ] at c0
        clear hc h0 h7
        go_enter Tryd.func17, Tryd.ntmps17
        go_wp2_with fail
        go_ret
        exact ⟨rfl, rfl⟩
      · have c0 := G0.out.b 4 (by decide)
        simp only [List.getD_cons_zero, List.getD_cons_succ] at c0
        clear hc h0 h7
        go_enter Tryd.func17, Tryd.ntmps17
        go_wp2_with fail
        go_ret
        exact ⟨rfl, rfl⟩
      · have c0 := G0.out.b 5 (by decide)
        simp only [List.getD_cons_zero, List.getD_cons_succ] at c0
        clear hc h0 h7
        go_enter Tryd.func17, Tryd.ntmps17
        go_wp2_with fail
        go_ret
        exact ⟨rfl, rfl⟩
      · have c0 := G0.out.b 6 (by decide)
        simp only [List.getD_cons_zero, List.getD_cons_succ] at c0
        clear hc h0 h7
        go_enter Tryd.func17, Tryd.ntmps17
        go_wp2_with fail
        go_ret
        exact ⟨rfl, rfl⟩
set_option maxRecDepth 100000 in
theorem speedr_any (c : Int) (hc : -9223372036854775808 ≤ c ∧ c ≤ 9223372036854775807) {w : World} : Calls Tryd.prog 18 #[.int .i64 c] w fun e w' => e = .returned (.int .i64 (spd c)) ∧ Below w.heap.size w w' := by
  have BB := Lib.hid (show Below w.heap.size w (w.alloc (.cells #[.int .i64 0, .int .i64 1, .int .i64 2, .int .i64 3, .int .i64 5, .int .i64 8, .int .i64 10] 3)) from (Below.refl _ _).alloc (Nat.le_refl _) _)
  by_cases h0 : c < 1
  · have V := Lib.hid (show spd c = 0 by unfold spd; repeat' split <;> omega)
    go_enter Tryd.func18, Tryd.ntmps18
    go_wp2_with fail
    go_ret
    exact ⟨by rw [V.out]; rfl, BB.out⟩
  · by_cases h7 : 6 < c
    · have V := Lib.hid (show spd c = 0 by unfold spd; repeat' split <;> omega)
      go_enter Tryd.func18, Tryd.ntmps18
      go_wp2_with fail
      go_ret
      exact ⟨by rw [V.out]; rfl, BB.out⟩
    · have hk : c = 1 ∨ c = 2 ∨ c = 3 ∨ c = 4 ∨ c = 5 ∨ c = 6 := by omega
      rcases hk with rfl | rfl | rfl | rfl | rfl | rfl
      · clear hc h0 h7
        go_enter Tryd.func18, Tryd.ntmps18
        go_wp2_with fail
        go_ret
        exact ⟨rfl, BB.out⟩
      · clear hc h0 h7
        go_enter Tryd.func18, Tryd.ntmps18
        go_wp2_with fail
        go_ret
        exact ⟨rfl, BB.out⟩
      · clear hc h0 h7
        go_enter Tryd.func18, Tryd.ntmps18
        go_wp2_with fail
        go_ret
        exact ⟨rfl, BB.out⟩
      · clear hc h0 h7
        go_enter Tryd.func18, Tryd.ntmps18
        go_wp2_with fail
        go_ret
        exact ⟨rfl, BB.out⟩
      · clear hc h0 h7
        go_enter Tryd.func18, Tryd.ntmps18
        go_wp2_with fail
        go_ret
        exact ⟨rfl, BB.out⟩
      · clear hc h0 h7
        go_enter Tryd.func18, Tryd.ntmps18
        go_wp2_with fail
        go_ret
        exact ⟨rfl, BB.out⟩
set_option maxRecDepth 100000 in
theorem roadZoom_any (c : Int) {w : World} : Calls Tryd.prog 30 #[.int .i64 c] w fun e w' => e = .returned (.int .i64 (rz c)) ∧ w' = w := by
  by_cases h1 : c = 1
  · subst h1
    go_enter Tryd.func30, Tryd.ntmps30
    go_wp2_with fail
    go_ret
    exact ⟨rfl, rfl⟩
  · by_cases h2 : c = 2
    · subst h2
      go_enter Tryd.func30, Tryd.ntmps30
      go_wp2_with fail
      go_ret
      exact ⟨rfl, rfl⟩
    · by_cases h3 : c = 3
      · subst h3
        go_enter Tryd.func30, Tryd.ntmps30
        go_wp2_with fail
        go_ret
        exact ⟨rfl, rfl⟩
      · have V := Lib.hid (show rz c = 5 by unfold rz; rw [if_neg h1, if_neg h2, if_neg h3])
        have e1 : (c == 1) = false := by simpa using h1
        have e2 : (c == 2) = false := by simpa using h2
        have e3 : (c == 3) = false := by simpa using h3
        go_enter Tryd.func30, Tryd.ntmps30
        go_wp2_with fail
        go_ret
        exact ⟨by rw [V.out]; rfl, rfl⟩
end Go.Proofs.YtgfhanhonfpngaaDoor
