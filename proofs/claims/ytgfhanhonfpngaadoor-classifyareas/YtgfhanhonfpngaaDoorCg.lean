/- classify: lives; the four laws. -/
import Derived.Test.YtgfhanhonfpngaaDoorCf
namespace Go.Proofs.YtgfhanhonfpngaaDoor
open Go.ChangeShapes Go.WideShapes Go.ChangeAt Go.RowKit Go.Joins Go.Deep

open Go.Proofs.TagM Go.Shelf Go.Sort

abbrev sPri : ByteArray := s_h2
abbrev sFarm : ByteArray := ⟨#[102, 97, 114, 109]⟩
abbrev sX : ByteArray := ⟨#[120]⟩
abbrev lA : List Tg := [(sHw, sPri)]
abbrev lB : List Tg := [(sBld, sNo), (sLand, sFarm)]
abbrev lC : List Tg := [(sName, sX)]
theorem thmA : thm lA = 4 := by decide +kernel
theorem clsA : cls lA = 2 := by decide +kernel
theorem mzA : mz lA = 2 := by decide +kernel
theorem thmB : thm lB = 2 := by decide +kernel
theorem areaB : area lB = true := by decide +kernel
theorem spd6 : spd 6 = 10 := by decide +kernel
theorem nameC : (gt lC sName).1 = sX := by decide +kernel
set_option maxRecDepth 100000 in
set_option maxHeartbeats 4000000 in
theorem lives_any {w : World} (g : GV w) : Calls Tryd.prog 8 #[] w fun e w' => e = .returned (.bool true) ∧ Below w.heap.size w w' := by
  have G0 := Lib.hid g
  clear g
  go_enter Tryd.func8, Tryd.ntmps8
  go_wp2_with fail
  refine (of_lit w lA 2 rfl (by decide)).mono ?_; rintro e y1 ⟨u, rfl, ha, b⟩
  have A1 := Lib.hid ha; have B1 := Lib.hid b
  clear ha b
  go_wp2_with fail
  refine (of_lit y1 lB 4 rfl (by decide)).mono ?_; rintro e y2 ⟨u', rfl, ha, b⟩
  have A2 := Lib.hid (A1.out.below b); have C2 := Lib.hid ha; have B2 := Lib.hid (B1.out.trans (b.mono B1.out.size))
  clear ha b
  have q1 := Lib.hid (theme_any A2.out (G0.out.below B2.out) (by decide))
  rw [thmA] at q1
  go_wp2_with fail
  refine q1.out.mono ?_; rintro e y3 ⟨rfl, b⟩
  have A3 := Lib.hid (A2.out.below b); have C3 := Lib.hid (C2.out.below b); have B3 := Lib.hid (B2.out.trans (b.mono B2.out.size))
  clear b
  have q2 := Lib.hid (class_any A3.out (G0.out.below B3.out) (by decide))
  rw [clsA] at q2
  go_wp2_with fail
  refine q2.out.mono ?_; rintro e y4 ⟨rfl, b⟩
  have A4 := Lib.hid (A3.out.below b); have C4 := Lib.hid (C3.out.below b); have B4 := Lib.hid (B3.out.trans (b.mono B3.out.size))
  clear b
  have q3 := Lib.hid (minZoom_any A4.out (G0.out.below B4.out) (by decide))
  rw [mzA] at q3
  go_wp2_with fail
  refine q3.out.mono ?_; rintro e y5 ⟨rfl, b⟩
  have C5 := Lib.hid (C4.out.below b); have B5 := Lib.hid (B4.out.trans (b.mono B4.out.size))
  clear b
  have q4 := Lib.hid (theme_any C5.out (G0.out.below B5.out) (by decide))
  rw [thmB] at q4
  go_wp2_with fail
  refine q4.out.mono ?_; rintro e y6 ⟨rfl, b⟩
  have C6 := Lib.hid (C5.out.below b); have B6 := Lib.hid (B5.out.trans (b.mono B5.out.size))
  clear b
  have q5 := Lib.hid (isArea_any C6.out (G0.out.below B6.out) (by decide))
  rw [areaB] at q5
  go_wp2_with fail
  refine q5.out.mono ?_; rintro e y7 ⟨rfl, b⟩
  have B7 := Lib.hid (B6.out.trans (b.mono B6.out.size))
  clear b
  have q6 := Lib.hid (speed_any 6 (by decide) (G0.out.below B7.out))
  rw [spd6] at q6
  go_wp2_with fail
  refine q6.out.mono ?_; rintro e y8 ⟨rfl, rfl⟩
  go_wp2_with fail
  refine (of_lit y8 lC 2 rfl (by decide)).mono ?_; rintro e y9 ⟨u9, rfl, ha, b⟩
  have B9 := Lib.hid (B7.out.trans (b.mono B7.out.size))
  have q7 := Lib.hid (name_any ha (by decide))
  rw [nameC] at q7
  clear ha b
  go_wp2_with fail
  refine q7.out.mono ?_; rintro e y10 ⟨rfl, b⟩
  have B10 := Lib.hid (B9.out.trans (b.mono B9.out.size))
  clear b
  go_wp2_with fail
  go_ret
  exact ⟨rfl, B10.out⟩
theorem alive {w w1 : World} (g : GV w) (b : Below w.heap.size w w1) : Calls Tryd.prog 8 #[] w1 fun e w' => e = .returned (.bool true) ∧ Below w.heap.size w w' :=
  (lives_any (g.below b)).mono fun _ _ ⟨he, hb⟩ => ⟨he, b.trans (hb.mono b.size)⟩
set_option maxRecDepth 100000 in
set_option maxHeartbeats 4000000 in
theorem classifyThemes_walk (v : Value) (w : World) (hv : OpenT w v) (g : GV w) : Calls Tryd.prog 3 #[v] w fun e w' => e = .returned (.bool true) ∧ Below w.heap.size w w' := by
  obtain ⟨l, h⟩ := hv
  have A0 := Lib.hid h; have G0 := Lib.hid g
  have SM := Lib.hid (small_any h)
  obtain ⟨av, cv, rfl, _⟩ := h
  obtain ⟨n, hn⟩ : ∃ n, l.length = n := ⟨_, rfl⟩
  rw [hn] at A0 SM ⊢
  clear hn g
  go_enter Tryd.func3, Tryd.ntmps3
  go_wp2_with fail
  refine SM.out.mono ?_; rintro e w1 ⟨b, rfl, hb, rfl⟩
  cases b with
  | false =>
    clear hb
    go_wp2_with fail
    refine (lives_any G0.out).mono ?_; rintro e w2 ⟨rfl, b2⟩
    go_wp2_with fail
    go_ret
    exact ⟨rfl, b2⟩
  | true =>
    have LL : Hid (l.length ≤ 1000000) := by have := hb rfl; show _ ≤ _; omega
    have L40 : Hid (l.length ≤ 40) := hb rfl
    clear hb SM
    have B0 := Lib.hid (Below.refl w1.heap.size w1)
    obtain ⟨tt, htt⟩ : ∃ z, thm l = z := ⟨_, rfl⟩
    obtain ⟨ta, hta⟩ : ∃ z, area l = z := ⟨_, rfl⟩
    obtain ⟨tz, htz⟩ : ∃ z, mz l = z := ⟨_, rfl⟩
    have Q1 := Lib.hid (theme_any (A0.out.below B0.out) (G0.out.below B0.out) LL.out)
    rw [htt] at Q1
    go_wp2_with fail
    refine Q1.out.mono ?_; rintro e y1 ⟨rfl, b⟩
    have B1 := Lib.hid (B0.out.trans (b.mono B0.out.size))
    clear b B0
    have B0 := B1
    clear B1
    clear Q1
    have Q2 := Lib.hid (themer_any (A0.out.below B0.out) LL.out)
    rw [htt] at Q2
    go_wp2_with fail
    refine Q2.out.mono ?_; rintro e y2 ⟨rfl, rfl⟩
    clear Q2
    have Q3 := Lib.hid (isArea_any (A0.out.below B0.out) (G0.out.below B0.out) LL.out)
    rw [hta] at Q3
    go_wp2_with fail
    refine Q3.out.mono ?_; rintro e y3 ⟨rfl, b⟩
    have B1 := Lib.hid (B0.out.trans (b.mono B0.out.size))
    clear b B0
    have B0 := B1
    clear B1
    clear Q3
    have Q4 := Lib.hid (isArear_any (A0.out.below B0.out) LL.out)
    rw [hta] at Q4
    go_wp2_with fail
    refine Q4.out.mono ?_; rintro e y4 ⟨rfl, rfl⟩
    clear Q4
    have Q5 := Lib.hid (minZoom_any (A0.out.below B0.out) (G0.out.below B0.out) LL.out)
    rw [htz] at Q5
    go_wp2_with fail
    refine Q5.out.mono ?_; rintro e y5 ⟨rfl, b⟩
    have B1 := Lib.hid (B0.out.trans (b.mono B0.out.size))
    clear b B0
    have B0 := B1
    clear B1
    clear Q5
    have Q6 := Lib.hid (minZoomr_any (A0.out.below B0.out) LL.out)
    rw [htz] at Q6
    go_wp2_with fail
    refine Q6.out.mono ?_; rintro e y6 ⟨rfl, rfl⟩
    clear Q6
    go_wp2_with fail
    refine (alive G0.out B0.out).mono ?_; rintro e z9 ⟨rfl, b9⟩
    go_wp2_with fail
    go_ret
    exact ⟨rfl, b9⟩
set_option maxRecDepth 100000 in
set_option maxHeartbeats 4000000 in
theorem classifyRoads_walk (v : Value) (c : Int) (w : World) (hv : OpenT w v) (hc : -9223372036854775808 ≤ c ∧ c ≤ 9223372036854775807) (g : GV w) : Calls Tryd.prog 4 #[v, .int .i64 c] w fun e w' => e = .returned (.bool true) ∧ Below w.heap.size w w' := by
  obtain ⟨l, h⟩ := hv
  have A0 := Lib.hid h; have G0 := Lib.hid g
  have SM := Lib.hid (small_any h)
  obtain ⟨av, cv, rfl, _⟩ := h
  obtain ⟨n, hn⟩ : ∃ n, l.length = n := ⟨_, rfl⟩
  rw [hn] at A0 SM ⊢
  clear hn g
  go_enter Tryd.func4, Tryd.ntmps4
  go_wp2_with fail
  refine SM.out.mono ?_; rintro e w1 ⟨b, rfl, hb, rfl⟩
  cases b with
  | false =>
    clear hb
    go_wp2_with fail
    refine (lives_any G0.out).mono ?_; rintro e w2 ⟨rfl, b2⟩
    go_wp2_with fail
    go_ret
    exact ⟨rfl, b2⟩
  | true =>
    have LL : Hid (l.length ≤ 1000000) := by have := hb rfl; show _ ≤ _; omega
    have L40 : Hid (l.length ≤ 40) := hb rfl
    clear hb SM
    have B0 := Lib.hid (Below.refl w1.heap.size w1)
    obtain ⟨tc, htc⟩ : ∃ z, cls l = z := ⟨_, rfl⟩
    obtain ⟨ts, hts⟩ : ∃ z, spd c = z := ⟨_, rfl⟩
    obtain ⟨tow, htow⟩ : ∃ z, ow l = z := ⟨_, rfl⟩
    obtain ⟨tn, htn⟩ : ∃ z, (gt l sName).1 = z := ⟨_, rfl⟩
    have Q1 := Lib.hid (class_any (A0.out.below B0.out) (G0.out.below B0.out) LL.out)
    rw [htc] at Q1
    go_wp2_with fail
    refine Q1.out.mono ?_; rintro e y1 ⟨rfl, b⟩
    have B1 := Lib.hid (B0.out.trans (b.mono B0.out.size))
    clear b B0
    have B0 := B1
    clear B1
    clear Q1
    have Q2 := Lib.hid (classr_any (A0.out.below B0.out) LL.out)
    rw [htc] at Q2
    go_wp2_with fail
    refine Q2.out.mono ?_; rintro e y2 ⟨rfl, rfl⟩
    clear Q2
    have Q3 := Lib.hid (speed_any c hc (G0.out.below B0.out))
    rw [hts] at Q3
    go_wp2_with fail
    refine Q3.out.mono ?_; rintro e y3 ⟨rfl, rfl⟩
    clear Q3
    have Q4 := Lib.hid (speedr_any c hc (w := y3))
    rw [hts] at Q4
    go_wp2_with fail
    refine Q4.out.mono ?_; rintro e y4 ⟨rfl, b⟩
    have B1 := Lib.hid (B0.out.trans (b.mono B0.out.size))
    clear b B0
    have B0 := B1
    clear B1
    clear Q4
    have Q5 := Lib.hid (oneway_any (A0.out.below B0.out) LL.out)
    rw [htow] at Q5
    go_wp2_with fail
    refine Q5.out.mono ?_; rintro e y5 ⟨rfl, b⟩
    have B1 := Lib.hid (B0.out.trans (b.mono B0.out.size))
    clear b B0
    have B0 := B1
    clear B1
    clear Q5
    have Q6 := Lib.hid (onewayr_any (A0.out.below B0.out) LL.out)
    rw [htow] at Q6
    go_wp2_with fail
    refine Q6.out.mono ?_; rintro e y6 ⟨rfl, rfl⟩
    clear Q6
    have Q7 := Lib.hid (name_any (A0.out.below B0.out) LL.out)
    rw [htn] at Q7
    go_wp2_with fail
    refine Q7.out.mono ?_; rintro e y7 ⟨rfl, b⟩
    have B1 := Lib.hid (B0.out.trans (b.mono B0.out.size))
    clear b B0
    have B0 := B1
    clear B1
    clear Q7
    have Q8 := Lib.hid (namer_any (A0.out.below B0.out) LL.out)
    rw [htn] at Q8
    go_wp2_with fail
    refine Q8.out.mono ?_; rintro e y8 ⟨rfl, rfl⟩
    clear Q8
    go_wp2_with fail
    refine (alive G0.out B0.out).mono ?_; rintro e z9 ⟨rfl, b9⟩
    go_wp2_with fail
    go_ret
    exact ⟨rfl, b9⟩
theorem isB_other {l m : List Tg} {k v : ByteArray} (h : gt m k = gt l k) : isB m k v = isB l k v ∧ hasB m k = hasB l k := by unfold isB hasB; rw [h]; exact ⟨rfl, rfl⟩
structure SameG (L M : List Tg) : Prop where
  n : gt M sNat = gt L sNat
  b : gt M sBld = gt L sBld
  l : gt M sLand = gt L sLand
  h : gt M sHw = gt L sHw
  r : gt M sRoute = gt L sRoute
  o : gt M sBound = gt L sBound
  p : gt M sPlace = gt L sPlace
  w : gt M sOne = gt L sOne
  e : gt M sName = gt L sName
theorem SameG.cls_ {l m : List Tg} (s : SameG l m) : cls m = cls l := by unfold cls; rw [(isB_other (v := sFerry) s.h).2, (isB_other s.r).1, s.h]
theorem SameG.thm_ {l m : List Tg} (s : SameG l m) : thm m = thm l := by
  unfold thm
  rw [(isB_other s.n).1, (isB_other (v := sNo) s.b).2, (isB_other s.b).1, (isB_other (v := sNo) s.l).2, s.cls_, (isB_other (v := sNo) s.o).2, (isB_other (v := sNo) s.p).2]
theorem SameG.mz_ {l m : List Tg} (s : SameG l m) : mz m = mz l := by
  unfold mz plz
  rw [s.thm_, s.cls_, (isB_other s.p).1, (isB_other s.p).1, (isB_other s.p).1]
theorem SameG.ow_ {l m : List Tg} (s : SameG l m) : ow m = ow l := by
  unfold ow
  rw [(isB_other s.w).1, (isB_other (v := sYes) s.w).2, (isB_other s.h).1, (isB_other s.w).1]
abbrev sCol : ByteArray := ⟨#[99, 111, 108, 111, 117, 114]⟩
theorem same_st {l : List Tg} {k v : ByteArray} (h : sNat ≠ k ∧ sBld ≠ k ∧ sLand ≠ k ∧ sHw ≠ k ∧ sRoute ≠ k ∧ sBound ≠ k ∧ sPlace ≠ k ∧ sOne ≠ k ∧ sName ≠ k) : SameG l (st l k v) := by
  obtain ⟨a1, a2, a3, a4, a5, a6, a7, a8, a9⟩ := h
  exact ⟨st_other a1, st_other a2, st_other a3, st_other a4, st_other a5, st_other a6, st_other a7, st_other a8, st_other a9⟩
theorem same_col (l : List Tg) (v : ByteArray) : SameG l (st l sCol v) ∧ area (st l sCol v) = area l := by
  have s : SameG l (st l sCol v) := same_st (by decide +kernel)
  have ha : gt (st l sCol v) sArea = gt l sArea := st_other (by decide +kernel)
  refine ⟨s, ?_⟩
  unfold area
  rw [s.thm_, (isB_other ha).1, (isB_other ha).1]
theorem same_area (l : List Tg) : thm (st l sArea sNo) = thm l ∧ area (st l sArea sNo) = false := by
  have s : SameG l (st l sArea sNo) := same_st (by decide +kernel)
  refine ⟨s.thm_, area_no ?_⟩
  unfold isB; rw [st_gt]; rfl
set_option maxRecDepth 100000 in
set_option maxHeartbeats 4000000 in
theorem classifyKeys_walk (v : Value) (val : ByteArray) (w : World) (hv : OpenT w v) (_hl : val.size ≤ maxLen) (g : GV w) : Calls Tryd.prog 5 #[v, .string val] w fun e w' => e = .returned (.bool true) ∧ Below w.heap.size w w' := by
  obtain ⟨l, h⟩ := hv
  have A0 := Lib.hid h; have G0 := Lib.hid g
  have SM := Lib.hid (small_any h)
  obtain ⟨av, cv, rfl, _⟩ := h
  obtain ⟨n, hn⟩ : ∃ n, l.length = n := ⟨_, rfl⟩
  rw [hn] at A0 SM ⊢
  clear hn g
  go_enter Tryd.func5, Tryd.ntmps5
  go_wp2_with fail
  refine SM.out.mono ?_; rintro e w1 ⟨b, rfl, hb, rfl⟩
  cases b with
  | false =>
    clear hb
    go_wp2_with fail
    refine (lives_any G0.out).mono ?_; rintro e w2 ⟨rfl, b2⟩
    go_wp2_with fail
    go_ret
    exact ⟨rfl, b2⟩
  | true =>
    have LL : Hid (l.length ≤ 1000000) := by have := hb rfl; show _ ≤ _; omega
    have L40 : Hid (l.length ≤ 40) := hb rfl
    clear hb SM
    have B0 := Lib.hid (Below.refl w1.heap.size w1)
    by_cases c1 : 200 < (val.size : Int)
    · go_wp2_with fail
      refine (lives_any G0.out).mono ?_; rintro e w2 ⟨rfl, b2⟩
      go_wp2_with fail
      go_ret
      exact ⟨rfl, b2⟩
    · have SG := Lib.hid (same_col l val)
      have LS : Hid ((st l sCol val).length ≤ 1000000) := by have := L40.out; have := st_le l sCol val; show _ ≤ _; omega
      go_wp2_with fail
      refine (set_any sCol val A0.out LL.out).mono ?_; rintro e y0 ⟨u, rfl, ha, b⟩
      have B1 := Lib.hid (B0.out.trans (b.mono B0.out.size)); have U := Lib.hid ha
      have UB := Lib.hid (Below.refl y0.heap.size y0)
      clear b B0 ha
      have B0 := B1
      clear B1
      obtain ⟨tt, htt⟩ : ∃ z, thm l = z := ⟨_, rfl⟩
      obtain ⟨ta, hta⟩ : ∃ z, area l = z := ⟨_, rfl⟩
      obtain ⟨tz, htz⟩ : ∃ z, mz l = z := ⟨_, rfl⟩
      obtain ⟨tc, htc⟩ : ∃ z, cls l = z := ⟨_, rfl⟩
      obtain ⟨tow, htow⟩ : ∃ z, ow l = z := ⟨_, rfl⟩
      obtain ⟨tn, htn⟩ : ∃ z, (gt l sName).1 = z := ⟨_, rfl⟩
      have Q1 := Lib.hid (theme_any (U.out.below UB.out) (G0.out.below B0.out) LS.out)
      rw [SG.out.1.thm_, htt] at Q1
      go_wp2_with fail
      refine Q1.out.mono ?_; rintro e y1 ⟨rfl, b⟩
      have B1 := Lib.hid (B0.out.trans (b.mono B0.out.size)); have UB1 := Lib.hid (UB.out.trans (b.mono UB.out.size))
      clear b B0 UB Q1
      have B0 := B1; have UB := UB1
      clear B1 UB1
      have Q2 := Lib.hid (theme_any (A0.out.below B0.out) (G0.out.below B0.out) LL.out)
      rw [htt] at Q2
      go_wp2_with fail
      refine Q2.out.mono ?_; rintro e y2 ⟨rfl, b⟩
      have B1 := Lib.hid (B0.out.trans (b.mono B0.out.size)); have UB1 := Lib.hid (UB.out.trans (b.mono UB.out.size))
      clear b B0 UB Q2
      have B0 := B1; have UB := UB1
      clear B1 UB1
      have Q3 := Lib.hid (isArea_any (U.out.below UB.out) (G0.out.below B0.out) LS.out)
      rw [SG.out.2, hta] at Q3
      go_wp2_with fail
      refine Q3.out.mono ?_; rintro e y3 ⟨rfl, b⟩
      have B1 := Lib.hid (B0.out.trans (b.mono B0.out.size)); have UB1 := Lib.hid (UB.out.trans (b.mono UB.out.size))
      clear b B0 UB Q3
      have B0 := B1; have UB := UB1
      clear B1 UB1
      have Q4 := Lib.hid (isArea_any (A0.out.below B0.out) (G0.out.below B0.out) LL.out)
      rw [hta] at Q4
      go_wp2_with fail
      refine Q4.out.mono ?_; rintro e y4 ⟨rfl, b⟩
      have B1 := Lib.hid (B0.out.trans (b.mono B0.out.size)); have UB1 := Lib.hid (UB.out.trans (b.mono UB.out.size))
      clear b B0 UB Q4
      have B0 := B1; have UB := UB1
      clear B1 UB1
      have Q5 := Lib.hid (minZoom_any (U.out.below UB.out) (G0.out.below B0.out) LS.out)
      rw [SG.out.1.mz_, htz] at Q5
      go_wp2_with fail
      refine Q5.out.mono ?_; rintro e y5 ⟨rfl, b⟩
      have B1 := Lib.hid (B0.out.trans (b.mono B0.out.size)); have UB1 := Lib.hid (UB.out.trans (b.mono UB.out.size))
      clear b B0 UB Q5
      have B0 := B1; have UB := UB1
      clear B1 UB1
      have Q6 := Lib.hid (minZoom_any (A0.out.below B0.out) (G0.out.below B0.out) LL.out)
      rw [htz] at Q6
      go_wp2_with fail
      refine Q6.out.mono ?_; rintro e y6 ⟨rfl, b⟩
      have B1 := Lib.hid (B0.out.trans (b.mono B0.out.size)); have UB1 := Lib.hid (UB.out.trans (b.mono UB.out.size))
      clear b B0 UB Q6
      have B0 := B1; have UB := UB1
      clear B1 UB1
      have Q7 := Lib.hid (class_any (U.out.below UB.out) (G0.out.below B0.out) LS.out)
      rw [SG.out.1.cls_, htc] at Q7
      go_wp2_with fail
      refine Q7.out.mono ?_; rintro e y7 ⟨rfl, b⟩
      have B1 := Lib.hid (B0.out.trans (b.mono B0.out.size)); have UB1 := Lib.hid (UB.out.trans (b.mono UB.out.size))
      clear b B0 UB Q7
      have B0 := B1; have UB := UB1
      clear B1 UB1
      have Q8 := Lib.hid (class_any (A0.out.below B0.out) (G0.out.below B0.out) LL.out)
      rw [htc] at Q8
      go_wp2_with fail
      refine Q8.out.mono ?_; rintro e y8 ⟨rfl, b⟩
      have B1 := Lib.hid (B0.out.trans (b.mono B0.out.size)); have UB1 := Lib.hid (UB.out.trans (b.mono UB.out.size))
      clear b B0 UB Q8
      have B0 := B1; have UB := UB1
      clear B1 UB1
      have Q9 := Lib.hid (oneway_any (U.out.below UB.out) LS.out)
      rw [SG.out.1.ow_, htow] at Q9
      go_wp2_with fail
      refine Q9.out.mono ?_; rintro e y9 ⟨rfl, b⟩
      have B1 := Lib.hid (B0.out.trans (b.mono B0.out.size)); have UB1 := Lib.hid (UB.out.trans (b.mono UB.out.size))
      clear b B0 UB Q9
      have B0 := B1; have UB := UB1
      clear B1 UB1
      have Q10 := Lib.hid (oneway_any (A0.out.below B0.out) LL.out)
      rw [htow] at Q10
      go_wp2_with fail
      refine Q10.out.mono ?_; rintro e y10 ⟨rfl, b⟩
      have B1 := Lib.hid (B0.out.trans (b.mono B0.out.size)); have UB1 := Lib.hid (UB.out.trans (b.mono UB.out.size))
      clear b B0 UB Q10
      have B0 := B1; have UB := UB1
      clear B1 UB1
      have Q11 := Lib.hid (name_any (U.out.below UB.out) LS.out)
      rw [SG.out.1.e, htn] at Q11
      go_wp2_with fail
      refine Q11.out.mono ?_; rintro e y11 ⟨rfl, b⟩
      have B1 := Lib.hid (B0.out.trans (b.mono B0.out.size)); have UB1 := Lib.hid (UB.out.trans (b.mono UB.out.size))
      clear b B0 UB Q11
      have B0 := B1; have UB := UB1
      clear B1 UB1
      have Q12 := Lib.hid (name_any (A0.out.below B0.out) LL.out)
      rw [htn] at Q12
      go_wp2_with fail
      refine Q12.out.mono ?_; rintro e y12 ⟨rfl, b⟩
      have B1 := Lib.hid (B0.out.trans (b.mono B0.out.size)); have UB1 := Lib.hid (UB.out.trans (b.mono UB.out.size))
      clear b B0 UB Q12
      have B0 := B1; have UB := UB1
      clear B1 UB1
      go_wp2_with fail
      refine (alive G0.out B0.out).mono ?_; rintro e z9 ⟨rfl, b9⟩
      go_wp2_with fail
      go_ret
      exact ⟨rfl, b9⟩
end Go.Proofs.YtgfhanhonfpngaaDoor
