/- The walks of SetsBuild, SetsCombine, SetsCompare, SetsLaws. -/
import Derived.Test.YthmhhjfonejifaaWh
namespace Go.Proofs.Ythmhhjfonejifaa
open Go.ChangeShapes Go.WideShapes Go.ChangeAt Go.RowKit Go.Joins Go.Deep

theorem sub_self {a : List Int} : subB a a = true := by unfold subB; simp
theorem same_self {a : List Int} : sameB a a = true := by unfold sameB; simp
set_option maxRecDepth 100000 in
set_option maxHeartbeats 16000000 in
theorem setsBuild_walk (vl : Value) (x : Int) (w : World) (hl : IsInts w vl) (_ : (Lit.int .i64 x).wf = true) :
    Calls Try.prog 3 #[vl, .int .i64 x] w fun e w' => e = .returned (.bool true) ∧ Below w.heap.size w w' := by
  obtain ⟨l, hl, ml⟩ := hl; have lI := Lib.hid hl; obtain ⟨al, cl, el⟩ := hl.form; subst el; clear hl
  by_cases lF : l.length ≤ 200
  · have lD : decide (l.length ≤ 200) = true := by simpa using lF
    have lE := Lib.hid lD; clear lD
    go_enter Try.func3, Try.ntmps3
    go_wp2_with fail
    refine (few_any lI.out ml).mono ?_; rintro en w' ⟨rfl, rfl⟩; rw [lE.out]
    go_wp2_with fail
    refine (of_P lI.out lF (by omega)).mono ?_; rintro en w1 ⟨r1, s1, rfl, hp, hb⟩
    have B1 := Lib.hid hb
    clear hb
    obtain ⟨a1, c1, e1⟩ := hp.1.form; subst e1
    have P1 := Lib.hid hp; have M1 := Lib.hid hp.2.2.1; clear hp
    go_wp2_with fail
    refine (ofr_P (lI.out.below B1.out) lF (by omega)).mono ?_; rintro en w2 ⟨r2, s2, rfl, hp, hb⟩
    have B2 := Lib.hid (B1.out.trans (hb.mono B1.out.size))
    replace P1 := Lib.hid (P1.out.below hb)
    clear hb B1
    obtain ⟨a2, c2, e2⟩ := hp.1.form; subst e2
    have P2 := Lib.hid hp; have M2 := Lib.hid hp.2.2.1; clear hp
    go_wp2_with fail
    refine (eq_P P1.out.1 P2.out.1 P1.out.2.1 P2.out.2.1 (fun x => ?_) (Nat.le_trans P1.out.2.2.2 (by omega)) (Nat.le_trans P2.out.2.2.2 (by omega))).mono ?_
    · first | (simp only [M1.out, M2.out]; done) | (simp only [M1.out, M2.out]; by_cases hl : x ∈ l <;> simp [hl])
    rintro en w3 ⟨rfl, hb⟩
    have B3 := Lib.hid (B2.out.trans (hb.mono B2.out.size))
    replace P1 := Lib.hid (P1.out.below hb)
    replace P2 := Lib.hid (P2.out.below hb)
    clear hb B2
    clear P1
    clear P2
    obtain ⟨dd, hdd⟩ : ∃ d, decide (x ∈ l) = d := ⟨_, rfl⟩
    have DD := Lib.hid hdd; clear hdd
    have dds : (dd == dd) = true := by simp
    go_wp2_with fail
    refine (has_any (lI.out.below B3.out) x (by omega)).mono ?_; rintro en w' ⟨rfl, rfl⟩; rw [DD.out]
    go_wp2_with fail
    refine (hasr_any (lI.out.below B3.out) x (by omega)).mono ?_; rintro en w' ⟨rfl, rfl⟩; rw [DD.out]
    go_wp2_with fail
    refine (lives_any _).mono ?_; rintro en w4 ⟨rfl, hb⟩
    have B4 := Lib.hid (B3.out.trans (hb.mono B3.out.size))
    clear hb B3
    go_wp2_with fail
    go_ret
    exact ⟨rfl, B4.out⟩
  · have lD : decide (l.length ≤ 200) = false := by simpa using lF
    have lE := Lib.hid lD; clear lD
    go_enter Try.func3, Try.ntmps3
    go_wp2_with fail
    refine (few_any lI.out ml).mono ?_; rintro en w' ⟨rfl, rfl⟩; rw [lE.out]
    go_wp2_with fail
    refine (lives_any _).mono ?_; rintro en w1 ⟨rfl, hb⟩
    have B1 := Lib.hid hb
    clear hb
    go_wp2_with fail
    go_ret
    exact ⟨rfl, B1.out⟩

set_option maxRecDepth 100000 in
set_option maxHeartbeats 16000000 in
theorem setsCombine_walk (va vb : Value) (w : World) (ha : IsInts w va) (hb : IsInts w vb) :
    Calls Try.prog 4 #[va, vb] w fun e w' => e = .returned (.bool true) ∧ Below w.heap.size w w' := by
  obtain ⟨a, ha, ma⟩ := ha; have aI := Lib.hid ha; obtain ⟨aa, ca, ea⟩ := ha.form; subst ea; clear ha
  obtain ⟨b, hb, mb⟩ := hb; have bI := Lib.hid hb; obtain ⟨ab, cb, eb⟩ := hb.form; subst eb; clear hb
  by_cases aF : a.length ≤ 200
  · have aD : decide (a.length ≤ 200) = true := by simpa using aF
    have aE := Lib.hid aD; clear aD
    by_cases bF : b.length ≤ 200
    · have bD : decide (b.length ≤ 200) = true := by simpa using bF
      have bE := Lib.hid bD; clear bD
      go_enter Try.func4, Try.ntmps4
      go_wp2_with fail
      refine (few_any aI.out ma).mono ?_; rintro en w' ⟨rfl, rfl⟩; rw [aE.out]
      go_wp2_with fail
      refine (few_any bI.out mb).mono ?_; rintro en w' ⟨rfl, rfl⟩; rw [bE.out]
      go_wp2_with fail
      refine (un_P aI.out bI.out aF bF (by omega) (by omega)).mono ?_; rintro en w1 ⟨r1, s1, rfl, hp, hb⟩
      have B1 := Lib.hid hb
      clear hb
      obtain ⟨a1, c1, e1⟩ := hp.1.form; subst e1
      have P1 := Lib.hid hp; have M1 := Lib.hid hp.2.2.1; clear hp
      go_wp2_with fail
      refine (unr_P (aI.out.below B1.out) (bI.out.below B1.out) aF bF (by omega) (by omega)).mono ?_; rintro en w2 ⟨r2, s2, rfl, hp, hb⟩
      have B2 := Lib.hid (B1.out.trans (hb.mono B1.out.size))
      replace P1 := Lib.hid (P1.out.below hb)
      clear hb B1
      obtain ⟨a2, c2, e2⟩ := hp.1.form; subst e2
      have P2 := Lib.hid hp; have M2 := Lib.hid hp.2.2.1; clear hp
      go_wp2_with fail
      refine (eq_P P1.out.1 P2.out.1 P1.out.2.1 P2.out.2.1 (fun x => ?_) (Nat.le_trans P1.out.2.2.2 (by omega)) (Nat.le_trans P2.out.2.2.2 (by omega))).mono ?_
      · first | (simp only [M1.out, M2.out]; done) | (simp only [M1.out, M2.out]; by_cases ha : x ∈ a <;> by_cases hb : x ∈ b <;> simp [ha, hb])
      rintro en w3 ⟨rfl, hb⟩
      have B3 := Lib.hid (B2.out.trans (hb.mono B2.out.size))
      replace P1 := Lib.hid (P1.out.below hb)
      replace P2 := Lib.hid (P2.out.below hb)
      clear hb B2
      clear P1
      clear P2
      go_wp2_with fail
      refine (in_P (aI.out.below B3.out) (bI.out.below B3.out) aF bF (by omega) (by omega)).mono ?_; rintro en w4 ⟨r3, s3, rfl, hp, hb⟩
      have B4 := Lib.hid (B3.out.trans (hb.mono B3.out.size))
      clear hb B3
      obtain ⟨a3, c3, e3⟩ := hp.1.form; subst e3
      have P3 := Lib.hid hp; have M3 := Lib.hid hp.2.2.1; clear hp
      go_wp2_with fail
      refine (inr_P (aI.out.below B4.out) (bI.out.below B4.out) aF bF (by omega) (by omega)).mono ?_; rintro en w5 ⟨r4, s4, rfl, hp, hb⟩
      have B5 := Lib.hid (B4.out.trans (hb.mono B4.out.size))
      replace P3 := Lib.hid (P3.out.below hb)
      clear hb B4
      obtain ⟨a4, c4, e4⟩ := hp.1.form; subst e4
      have P4 := Lib.hid hp; have M4 := Lib.hid hp.2.2.1; clear hp
      go_wp2_with fail
      refine (eq_P P3.out.1 P4.out.1 P3.out.2.1 P4.out.2.1 (fun x => ?_) (Nat.le_trans P3.out.2.2.2 (by omega)) (Nat.le_trans P4.out.2.2.2 (by omega))).mono ?_
      · first | (simp only [M3.out, M4.out]; done) | (simp only [M3.out, M4.out]; by_cases ha : x ∈ a <;> by_cases hb : x ∈ b <;> simp [ha, hb])
      rintro en w6 ⟨rfl, hb⟩
      have B6 := Lib.hid (B5.out.trans (hb.mono B5.out.size))
      replace P3 := Lib.hid (P3.out.below hb)
      replace P4 := Lib.hid (P4.out.below hb)
      clear hb B5
      clear P3
      clear P4
      go_wp2_with fail
      refine (di_P (aI.out.below B6.out) (bI.out.below B6.out) aF bF (by omega) (by omega)).mono ?_; rintro en w7 ⟨r5, s5, rfl, hp, hb⟩
      have B7 := Lib.hid (B6.out.trans (hb.mono B6.out.size))
      clear hb B6
      obtain ⟨a5, c5, e5⟩ := hp.1.form; subst e5
      have P5 := Lib.hid hp; have M5 := Lib.hid hp.2.2.1; clear hp
      go_wp2_with fail
      refine (dir_P (aI.out.below B7.out) (bI.out.below B7.out) aF bF (by omega) (by omega)).mono ?_; rintro en w8 ⟨r6, s6, rfl, hp, hb⟩
      have B8 := Lib.hid (B7.out.trans (hb.mono B7.out.size))
      replace P5 := Lib.hid (P5.out.below hb)
      clear hb B7
      obtain ⟨a6, c6, e6⟩ := hp.1.form; subst e6
      have P6 := Lib.hid hp; have M6 := Lib.hid hp.2.2.1; clear hp
      go_wp2_with fail
      refine (eq_P P5.out.1 P6.out.1 P5.out.2.1 P6.out.2.1 (fun x => ?_) (Nat.le_trans P5.out.2.2.2 (by omega)) (Nat.le_trans P6.out.2.2.2 (by omega))).mono ?_
      · first | (simp only [M5.out, M6.out]; done) | (simp only [M5.out, M6.out]; by_cases ha : x ∈ a <;> by_cases hb : x ∈ b <;> simp [ha, hb])
      rintro en w9 ⟨rfl, hb⟩
      have B9 := Lib.hid (B8.out.trans (hb.mono B8.out.size))
      replace P5 := Lib.hid (P5.out.below hb)
      replace P6 := Lib.hid (P6.out.below hb)
      clear hb B8
      clear P5
      clear P6
      go_wp2_with fail
      refine (lives_any _).mono ?_; rintro en w10 ⟨rfl, hb⟩
      have B10 := Lib.hid (B9.out.trans (hb.mono B9.out.size))
      clear hb B9
      go_wp2_with fail
      go_ret
      exact ⟨rfl, B10.out⟩
    · have bD : decide (b.length ≤ 200) = false := by simpa using bF
      have bE := Lib.hid bD; clear bD
      go_enter Try.func4, Try.ntmps4
      go_wp2_with fail
      refine (few_any aI.out ma).mono ?_; rintro en w' ⟨rfl, rfl⟩; rw [aE.out]
      go_wp2_with fail
      refine (few_any bI.out mb).mono ?_; rintro en w' ⟨rfl, rfl⟩; rw [bE.out]
      go_wp2_with fail
      refine (lives_any _).mono ?_; rintro en w1 ⟨rfl, hb⟩
      have B1 := Lib.hid hb
      clear hb
      go_wp2_with fail
      go_ret
      exact ⟨rfl, B1.out⟩
  · have aD : decide (a.length ≤ 200) = false := by simpa using aF
    have aE := Lib.hid aD; clear aD
    go_enter Try.func4, Try.ntmps4
    go_wp2_with fail
    refine (few_any aI.out ma).mono ?_; rintro en w' ⟨rfl, rfl⟩; rw [aE.out]
    go_wp2_with fail
    refine (lives_any _).mono ?_; rintro en w1 ⟨rfl, hb⟩
    have B1 := Lib.hid hb
    clear hb
    go_wp2_with fail
    go_ret
    exact ⟨rfl, B1.out⟩

set_option maxRecDepth 100000 in
set_option maxHeartbeats 16000000 in
theorem setsCompare_walk (va vb : Value) (w : World) (ha : IsInts w va) (hb : IsInts w vb) :
    Calls Try.prog 5 #[va, vb] w fun e w' => e = .returned (.bool true) ∧ Below w.heap.size w w' := by
  obtain ⟨a, ha, ma⟩ := ha; have aI := Lib.hid ha; obtain ⟨aa, ca, ea⟩ := ha.form; subst ea; clear ha
  obtain ⟨b, hb, mb⟩ := hb; have bI := Lib.hid hb; obtain ⟨ab, cb, eb⟩ := hb.form; subst eb; clear hb
  by_cases aF : a.length ≤ 200
  · have aD : decide (a.length ≤ 200) = true := by simpa using aF
    have aE := Lib.hid aD; clear aD
    by_cases bF : b.length ≤ 200
    · have bD : decide (b.length ≤ 200) = true := by simpa using bF
      have bE := Lib.hid bD; clear bD
      go_enter Try.func5, Try.ntmps5
      go_wp2_with fail
      refine (few_any aI.out ma).mono ?_; rintro en w' ⟨rfl, rfl⟩; rw [aE.out]
      go_wp2_with fail
      refine (few_any bI.out mb).mono ?_; rintro en w' ⟨rfl, rfl⟩; rw [bE.out]
      obtain ⟨d1, h1⟩ : ∃ d, subB a b = d := ⟨_, rfl⟩
      have D1 := Lib.hid h1; clear h1
      have d1s : (d1 == d1) = true := by simp
      obtain ⟨d2, h2⟩ : ∃ d, sameB a b = d := ⟨_, rfl⟩
      have D2 := Lib.hid h2; clear h2
      have d2s : (d2 == d2) = true := by simp
      go_wp2_with fail
      refine (sub_any aI.out bI.out (by omega) (by omega)).mono ?_; rintro en w1 ⟨rfl, hb⟩; rw [D1.out]
      have B1 := Lib.hid hb
      clear hb
      go_wp2_with fail
      refine (subr_any (aI.out.below B1.out) (bI.out.below B1.out) (by omega) (by omega)).mono ?_; rintro en w2 ⟨rfl, hb⟩; rw [D1.out]
      have B2 := Lib.hid (B1.out.trans (hb.mono B1.out.size))
      clear hb B1
      go_wp2_with fail
      refine (same_any (aI.out.below B2.out) (bI.out.below B2.out) (by omega) (by omega)).mono ?_; rintro en w3 ⟨rfl, hb⟩; rw [D2.out]
      have B3 := Lib.hid (B2.out.trans (hb.mono B2.out.size))
      clear hb B2
      go_wp2_with fail
      refine (samer_any (aI.out.below B3.out) (bI.out.below B3.out) (by omega) (by omega)).mono ?_; rintro en w4 ⟨rfl, hb⟩; rw [D2.out]
      have B4 := Lib.hid (B3.out.trans (hb.mono B3.out.size))
      clear hb B3
      go_wp2_with fail
      refine (sub_any (aI.out.below B4.out) (aI.out.below B4.out) (by omega) (by omega)).mono ?_; rintro en w5 ⟨rfl, hb⟩; rw [sub_self]
      have B5 := Lib.hid (B4.out.trans (hb.mono B4.out.size))
      clear hb B4
      go_wp2_with fail
      refine (same_any (bI.out.below B5.out) (bI.out.below B5.out) (by omega) (by omega)).mono ?_; rintro en w6 ⟨rfl, hb⟩; rw [same_self]
      have B6 := Lib.hid (B5.out.trans (hb.mono B5.out.size))
      clear hb B5
      go_wp2_with fail
      refine (lives_any _).mono ?_; rintro en w7 ⟨rfl, hb⟩
      have B7 := Lib.hid (B6.out.trans (hb.mono B6.out.size))
      clear hb B6
      go_wp2_with fail
      go_ret
      exact ⟨rfl, B7.out⟩
    · have bD : decide (b.length ≤ 200) = false := by simpa using bF
      have bE := Lib.hid bD; clear bD
      go_enter Try.func5, Try.ntmps5
      go_wp2_with fail
      refine (few_any aI.out ma).mono ?_; rintro en w' ⟨rfl, rfl⟩; rw [aE.out]
      go_wp2_with fail
      refine (few_any bI.out mb).mono ?_; rintro en w' ⟨rfl, rfl⟩; rw [bE.out]
      go_wp2_with fail
      refine (lives_any _).mono ?_; rintro en w1 ⟨rfl, hb⟩
      have B1 := Lib.hid hb
      clear hb
      go_wp2_with fail
      go_ret
      exact ⟨rfl, B1.out⟩
  · have aD : decide (a.length ≤ 200) = false := by simpa using aF
    have aE := Lib.hid aD; clear aD
    go_enter Try.func5, Try.ntmps5
    go_wp2_with fail
    refine (few_any aI.out ma).mono ?_; rintro en w' ⟨rfl, rfl⟩; rw [aE.out]
    go_wp2_with fail
    refine (lives_any _).mono ?_; rintro en w1 ⟨rfl, hb⟩
    have B1 := Lib.hid hb
    clear hb
    go_wp2_with fail
    go_ret
    exact ⟨rfl, B1.out⟩

set_option maxRecDepth 100000 in
set_option maxHeartbeats 16000000 in
theorem setsLaws_walk (va vb vc : Value) (w : World) (ha : IsInts w va) (hb : IsInts w vb) (hc : IsInts w vc) :
    Calls Try.prog 6 #[va, vb, vc] w fun e w' => e = .returned (.bool true) ∧ Below w.heap.size w w' := by
  obtain ⟨a, ha, ma⟩ := ha; have aI := Lib.hid ha; obtain ⟨aa, ca, ea⟩ := ha.form; subst ea; clear ha
  obtain ⟨b, hb, mb⟩ := hb; have bI := Lib.hid hb; obtain ⟨ab, cb, eb⟩ := hb.form; subst eb; clear hb
  obtain ⟨c, hc, mc⟩ := hc; have cI := Lib.hid hc; obtain ⟨ac, cc, ec⟩ := hc.form; subst ec; clear hc
  by_cases aF : a.length ≤ 200
  · have aD : decide (a.length ≤ 200) = true := by simpa using aF
    have aE := Lib.hid aD; clear aD
    by_cases bF : b.length ≤ 200
    · have bD : decide (b.length ≤ 200) = true := by simpa using bF
      have bE := Lib.hid bD; clear bD
      by_cases cF : c.length ≤ 200
      · have cD : decide (c.length ≤ 200) = true := by simpa using cF
        have cE := Lib.hid cD; clear cD
        go_enter Try.func6, Try.ntmps6
        go_wp2_with fail
        refine (few_any aI.out ma).mono ?_; rintro en w' ⟨rfl, rfl⟩; rw [aE.out]
        go_wp2_with fail
        refine (few_any bI.out mb).mono ?_; rintro en w' ⟨rfl, rfl⟩; rw [bE.out]
        go_wp2_with fail
        refine (few_any cI.out mc).mono ?_; rintro en w' ⟨rfl, rfl⟩; rw [cE.out]
        go_wp2_with fail
        refine (un_P aI.out bI.out aF bF (by omega) (by omega)).mono ?_; rintro en w1 ⟨r1, s1, rfl, hp, hb⟩
        have B1 := Lib.hid hb
        clear hb
        obtain ⟨a1, c1, e1⟩ := hp.1.form; subst e1
        have P1 := Lib.hid hp; have M1 := Lib.hid hp.2.2.1; clear hp
        go_wp2_with fail
        refine (un_P (bI.out.below B1.out) (aI.out.below B1.out) bF aF (by omega) (by omega)).mono ?_; rintro en w2 ⟨r2, s2, rfl, hp, hb⟩
        have B2 := Lib.hid (B1.out.trans (hb.mono B1.out.size))
        replace P1 := Lib.hid (P1.out.below hb)
        clear hb B1
        obtain ⟨a2, c2, e2⟩ := hp.1.form; subst e2
        have P2 := Lib.hid hp; have M2 := Lib.hid hp.2.2.1; clear hp
        go_wp2_with fail
        refine (eq_P P1.out.1 P2.out.1 P1.out.2.1 P2.out.2.1 (fun x => ?_) (Nat.le_trans P1.out.2.2.2 (by omega)) (Nat.le_trans P2.out.2.2.2 (by omega))).mono ?_
        · first | (simp only [M1.out, M2.out]; done) | (simp only [M1.out, M2.out]; by_cases ha : x ∈ a <;> by_cases hb : x ∈ b <;> simp [ha, hb])
        rintro en w3 ⟨rfl, hb⟩
        have B3 := Lib.hid (B2.out.trans (hb.mono B2.out.size))
        replace P1 := Lib.hid (P1.out.below hb)
        replace P2 := Lib.hid (P2.out.below hb)
        clear hb B2
        clear P1
        clear P2
        go_wp2_with fail
        refine (in_P (aI.out.below B3.out) (bI.out.below B3.out) aF bF (by omega) (by omega)).mono ?_; rintro en w4 ⟨r3, s3, rfl, hp, hb⟩
        have B4 := Lib.hid (B3.out.trans (hb.mono B3.out.size))
        clear hb B3
        obtain ⟨a3, c3, e3⟩ := hp.1.form; subst e3
        have P3 := Lib.hid hp; have M3 := Lib.hid hp.2.2.1; clear hp
        go_wp2_with fail
        refine (in_P (bI.out.below B4.out) (aI.out.below B4.out) bF aF (by omega) (by omega)).mono ?_; rintro en w5 ⟨r4, s4, rfl, hp, hb⟩
        have B5 := Lib.hid (B4.out.trans (hb.mono B4.out.size))
        replace P3 := Lib.hid (P3.out.below hb)
        clear hb B4
        obtain ⟨a4, c4, e4⟩ := hp.1.form; subst e4
        have P4 := Lib.hid hp; have M4 := Lib.hid hp.2.2.1; clear hp
        go_wp2_with fail
        refine (eq_P P3.out.1 P4.out.1 P3.out.2.1 P4.out.2.1 (fun x => ?_) (Nat.le_trans P3.out.2.2.2 (by omega)) (Nat.le_trans P4.out.2.2.2 (by omega))).mono ?_
        · first | (simp only [M3.out, M4.out]; done) | (simp only [M3.out, M4.out]; by_cases ha : x ∈ a <;> by_cases hb : x ∈ b <;> simp [ha, hb])
        rintro en w6 ⟨rfl, hb⟩
        have B6 := Lib.hid (B5.out.trans (hb.mono B5.out.size))
        replace P3 := Lib.hid (P3.out.below hb)
        replace P4 := Lib.hid (P4.out.below hb)
        clear hb B5
        clear P3
        clear P4
        go_wp2_with fail
        refine (un_P (aI.out.below B6.out) (aI.out.below B6.out) aF aF (by omega) (by omega)).mono ?_; rintro en w7 ⟨r5, s5, rfl, hp, hb⟩
        have B7 := Lib.hid (B6.out.trans (hb.mono B6.out.size))
        clear hb B6
        obtain ⟨a5, c5, e5⟩ := hp.1.form; subst e5
        have P5 := Lib.hid hp; have M5 := Lib.hid hp.2.2.1; clear hp
        go_wp2_with fail
        refine (of_P (aI.out.below B7.out) aF (by omega)).mono ?_; rintro en w8 ⟨r6, s6, rfl, hp, hb⟩
        have B8 := Lib.hid (B7.out.trans (hb.mono B7.out.size))
        replace P5 := Lib.hid (P5.out.below hb)
        clear hb B7
        obtain ⟨a6, c6, e6⟩ := hp.1.form; subst e6
        have P6 := Lib.hid hp; have M6 := Lib.hid hp.2.2.1; clear hp
        go_wp2_with fail
        refine (eq_P P5.out.1 P6.out.1 P5.out.2.1 P6.out.2.1 (fun x => ?_) (Nat.le_trans P5.out.2.2.2 (by omega)) (Nat.le_trans P6.out.2.2.2 (by omega))).mono ?_
        · first | (simp only [M5.out, M6.out]; done) | (simp only [M5.out, M6.out]; by_cases ha : x ∈ a <;> simp [ha])
        rintro en w9 ⟨rfl, hb⟩
        have B9 := Lib.hid (B8.out.trans (hb.mono B8.out.size))
        replace P5 := Lib.hid (P5.out.below hb)
        replace P6 := Lib.hid (P6.out.below hb)
        clear hb B8
        clear P5
        clear P6
        go_wp2_with fail
        refine (in_P (aI.out.below B9.out) (aI.out.below B9.out) aF aF (by omega) (by omega)).mono ?_; rintro en w10 ⟨r7, s7, rfl, hp, hb⟩
        have B10 := Lib.hid (B9.out.trans (hb.mono B9.out.size))
        clear hb B9
        obtain ⟨a7, c7, e7⟩ := hp.1.form; subst e7
        have P7 := Lib.hid hp; have M7 := Lib.hid hp.2.2.1; clear hp
        go_wp2_with fail
        refine (of_P (aI.out.below B10.out) aF (by omega)).mono ?_; rintro en w11 ⟨r8, s8, rfl, hp, hb⟩
        have B11 := Lib.hid (B10.out.trans (hb.mono B10.out.size))
        replace P7 := Lib.hid (P7.out.below hb)
        clear hb B10
        obtain ⟨a8, c8, e8⟩ := hp.1.form; subst e8
        have P8 := Lib.hid hp; have M8 := Lib.hid hp.2.2.1; clear hp
        go_wp2_with fail
        refine (eq_P P7.out.1 P8.out.1 P7.out.2.1 P8.out.2.1 (fun x => ?_) (Nat.le_trans P7.out.2.2.2 (by omega)) (Nat.le_trans P8.out.2.2.2 (by omega))).mono ?_
        · first | (simp only [M7.out, M8.out]; done) | (simp only [M7.out, M8.out]; by_cases ha : x ∈ a <;> simp [ha])
        rintro en w12 ⟨rfl, hb⟩
        have B12 := Lib.hid (B11.out.trans (hb.mono B11.out.size))
        replace P7 := Lib.hid (P7.out.below hb)
        replace P8 := Lib.hid (P8.out.below hb)
        clear hb B11
        clear P7
        clear P8
        go_wp2_with fail
        refine (un_P (aI.out.below B12.out) (bI.out.below B12.out) aF bF (by omega) (by omega)).mono ?_; rintro en w13 ⟨r9, s9, rfl, hp, hb⟩
        have B13 := Lib.hid (B12.out.trans (hb.mono B12.out.size))
        clear hb B12
        obtain ⟨a9, c9, e9⟩ := hp.1.form; subst e9
        have P9 := Lib.hid hp; have M9 := Lib.hid hp.2.2.1; clear hp
        go_wp2_with fail
        refine (un_P P9.out.1 (cI.out.below B13.out) P9.out.2.2.2 cF (by omega) (by omega)).mono ?_; rintro en w14 ⟨r10, s10, rfl, hp, hb⟩
        have B14 := Lib.hid (B13.out.trans (hb.mono B13.out.size))
        replace P9 := Lib.hid (P9.out.below hb)
        clear hb B13
        obtain ⟨a10, c10, e10⟩ := hp.1.form; subst e10
        have P10 := Lib.hid hp; have M10 := Lib.hid hp.2.2.1; clear hp
        clear P9
        go_wp2_with fail
        refine (un_P (bI.out.below B14.out) (cI.out.below B14.out) bF cF (by omega) (by omega)).mono ?_; rintro en w15 ⟨r11, s11, rfl, hp, hb⟩
        have B15 := Lib.hid (B14.out.trans (hb.mono B14.out.size))
        replace P10 := Lib.hid (P10.out.below hb)
        clear hb B14
        obtain ⟨a11, c11, e11⟩ := hp.1.form; subst e11
        have P11 := Lib.hid hp; have M11 := Lib.hid hp.2.2.1; clear hp
        go_wp2_with fail
        refine (un_P (aI.out.below B15.out) P11.out.1 aF P11.out.2.2.2 (by omega) (by omega)).mono ?_; rintro en w16 ⟨r12, s12, rfl, hp, hb⟩
        have B16 := Lib.hid (B15.out.trans (hb.mono B15.out.size))
        replace P10 := Lib.hid (P10.out.below hb)
        replace P11 := Lib.hid (P11.out.below hb)
        clear hb B15
        obtain ⟨a12, c12, e12⟩ := hp.1.form; subst e12
        have P12 := Lib.hid hp; have M12 := Lib.hid hp.2.2.1; clear hp
        clear P11
        go_wp2_with fail
        refine (eq_P P10.out.1 P12.out.1 P10.out.2.1 P12.out.2.1 (fun x => ?_) (Nat.le_trans P10.out.2.2.2 (by omega)) (Nat.le_trans P12.out.2.2.2 (by omega))).mono ?_
        · first | (simp only [M9.out, M10.out, M11.out, M12.out]; done) | (simp only [M9.out, M10.out, M11.out, M12.out]; by_cases ha : x ∈ a <;> by_cases hb : x ∈ b <;> by_cases hc : x ∈ c <;> simp [ha, hb, hc])
        rintro en w17 ⟨rfl, hb⟩
        have B17 := Lib.hid (B16.out.trans (hb.mono B16.out.size))
        replace P10 := Lib.hid (P10.out.below hb)
        replace P12 := Lib.hid (P12.out.below hb)
        clear hb B16
        clear P10
        clear P12
        go_wp2_with fail
        refine (in_P (aI.out.below B17.out) (bI.out.below B17.out) aF bF (by omega) (by omega)).mono ?_; rintro en w18 ⟨r13, s13, rfl, hp, hb⟩
        have B18 := Lib.hid (B17.out.trans (hb.mono B17.out.size))
        clear hb B17
        obtain ⟨a13, c13, e13⟩ := hp.1.form; subst e13
        have P13 := Lib.hid hp; have M13 := Lib.hid hp.2.2.1; clear hp
        go_wp2_with fail
        refine (in_P P13.out.1 (cI.out.below B18.out) P13.out.2.2.2 cF (by omega) (by omega)).mono ?_; rintro en w19 ⟨r14, s14, rfl, hp, hb⟩
        have B19 := Lib.hid (B18.out.trans (hb.mono B18.out.size))
        replace P13 := Lib.hid (P13.out.below hb)
        clear hb B18
        obtain ⟨a14, c14, e14⟩ := hp.1.form; subst e14
        have P14 := Lib.hid hp; have M14 := Lib.hid hp.2.2.1; clear hp
        clear P13
        go_wp2_with fail
        refine (in_P (bI.out.below B19.out) (cI.out.below B19.out) bF cF (by omega) (by omega)).mono ?_; rintro en w20 ⟨r15, s15, rfl, hp, hb⟩
        have B20 := Lib.hid (B19.out.trans (hb.mono B19.out.size))
        replace P14 := Lib.hid (P14.out.below hb)
        clear hb B19
        obtain ⟨a15, c15, e15⟩ := hp.1.form; subst e15
        have P15 := Lib.hid hp; have M15 := Lib.hid hp.2.2.1; clear hp
        go_wp2_with fail
        refine (in_P (aI.out.below B20.out) P15.out.1 aF P15.out.2.2.2 (by omega) (by omega)).mono ?_; rintro en w21 ⟨r16, s16, rfl, hp, hb⟩
        have B21 := Lib.hid (B20.out.trans (hb.mono B20.out.size))
        replace P14 := Lib.hid (P14.out.below hb)
        replace P15 := Lib.hid (P15.out.below hb)
        clear hb B20
        obtain ⟨a16, c16, e16⟩ := hp.1.form; subst e16
        have P16 := Lib.hid hp; have M16 := Lib.hid hp.2.2.1; clear hp
        clear P15
        go_wp2_with fail
        refine (eq_P P14.out.1 P16.out.1 P14.out.2.1 P16.out.2.1 (fun x => ?_) (Nat.le_trans P14.out.2.2.2 (by omega)) (Nat.le_trans P16.out.2.2.2 (by omega))).mono ?_
        · first | (simp only [M13.out, M14.out, M15.out, M16.out]; done) | (simp only [M13.out, M14.out, M15.out, M16.out]; by_cases ha : x ∈ a <;> by_cases hb : x ∈ b <;> by_cases hc : x ∈ c <;> simp [ha, hb, hc])
        rintro en w22 ⟨rfl, hb⟩
        have B22 := Lib.hid (B21.out.trans (hb.mono B21.out.size))
        replace P14 := Lib.hid (P14.out.below hb)
        replace P16 := Lib.hid (P16.out.below hb)
        clear hb B21
        clear P14
        clear P16
        go_wp2_with fail
        refine (un_P (bI.out.below B22.out) (cI.out.below B22.out) bF cF (by omega) (by omega)).mono ?_; rintro en w23 ⟨r17, s17, rfl, hp, hb⟩
        have B23 := Lib.hid (B22.out.trans (hb.mono B22.out.size))
        clear hb B22
        obtain ⟨a17, c17, e17⟩ := hp.1.form; subst e17
        have P17 := Lib.hid hp; have M17 := Lib.hid hp.2.2.1; clear hp
        go_wp2_with fail
        refine (in_P (aI.out.below B23.out) P17.out.1 aF P17.out.2.2.2 (by omega) (by omega)).mono ?_; rintro en w24 ⟨r18, s18, rfl, hp, hb⟩
        have B24 := Lib.hid (B23.out.trans (hb.mono B23.out.size))
        replace P17 := Lib.hid (P17.out.below hb)
        clear hb B23
        obtain ⟨a18, c18, e18⟩ := hp.1.form; subst e18
        have P18 := Lib.hid hp; have M18 := Lib.hid hp.2.2.1; clear hp
        clear P17
        go_wp2_with fail
        refine (in_P (aI.out.below B24.out) (bI.out.below B24.out) aF bF (by omega) (by omega)).mono ?_; rintro en w25 ⟨r19, s19, rfl, hp, hb⟩
        have B25 := Lib.hid (B24.out.trans (hb.mono B24.out.size))
        replace P18 := Lib.hid (P18.out.below hb)
        clear hb B24
        obtain ⟨a19, c19, e19⟩ := hp.1.form; subst e19
        have P19 := Lib.hid hp; have M19 := Lib.hid hp.2.2.1; clear hp
        go_wp2_with fail
        refine (in_P (aI.out.below B25.out) (cI.out.below B25.out) aF cF (by omega) (by omega)).mono ?_; rintro en w26 ⟨r20, s20, rfl, hp, hb⟩
        have B26 := Lib.hid (B25.out.trans (hb.mono B25.out.size))
        replace P18 := Lib.hid (P18.out.below hb)
        replace P19 := Lib.hid (P19.out.below hb)
        clear hb B25
        obtain ⟨a20, c20, e20⟩ := hp.1.form; subst e20
        have P20 := Lib.hid hp; have M20 := Lib.hid hp.2.2.1; clear hp
        go_wp2_with fail
        refine (un_P P19.out.1 P20.out.1 P19.out.2.2.2 P20.out.2.2.2 (by omega) (by omega)).mono ?_; rintro en w27 ⟨r21, s21, rfl, hp, hb⟩
        have B27 := Lib.hid (B26.out.trans (hb.mono B26.out.size))
        replace P18 := Lib.hid (P18.out.below hb)
        replace P19 := Lib.hid (P19.out.below hb)
        replace P20 := Lib.hid (P20.out.below hb)
        clear hb B26
        obtain ⟨a21, c21, e21⟩ := hp.1.form; subst e21
        have P21 := Lib.hid hp; have M21 := Lib.hid hp.2.2.1; clear hp
        clear P19
        clear P20
        go_wp2_with fail
        refine (eq_P P18.out.1 P21.out.1 P18.out.2.1 P21.out.2.1 (fun x => ?_) (Nat.le_trans P18.out.2.2.2 (by omega)) (Nat.le_trans P21.out.2.2.2 (by omega))).mono ?_
        · first | (simp only [M17.out, M18.out, M19.out, M20.out, M21.out]; done) | (simp only [M17.out, M18.out, M19.out, M20.out, M21.out]; by_cases ha : x ∈ a <;> by_cases hb : x ∈ b <;> by_cases hc : x ∈ c <;> simp [ha, hb, hc])
        rintro en w28 ⟨rfl, hb⟩
        have B28 := Lib.hid (B27.out.trans (hb.mono B27.out.size))
        replace P18 := Lib.hid (P18.out.below hb)
        replace P21 := Lib.hid (P21.out.below hb)
        clear hb B27
        clear P18
        clear P21
        go_wp2_with fail
        refine (di_P (aI.out.below B28.out) (bI.out.below B28.out) aF bF (by omega) (by omega)).mono ?_; rintro en w29 ⟨r22, s22, rfl, hp, hb⟩
        have B29 := Lib.hid (B28.out.trans (hb.mono B28.out.size))
        clear hb B28
        obtain ⟨a22, c22, e22⟩ := hp.1.form; subst e22
        have P22 := Lib.hid hp; have M22 := Lib.hid hp.2.2.1; clear hp
        go_wp2_with fail
        refine (in_P (aI.out.below B29.out) (bI.out.below B29.out) aF bF (by omega) (by omega)).mono ?_; rintro en w30 ⟨r23, s23, rfl, hp, hb⟩
        have B30 := Lib.hid (B29.out.trans (hb.mono B29.out.size))
        replace P22 := Lib.hid (P22.out.below hb)
        clear hb B29
        obtain ⟨a23, c23, e23⟩ := hp.1.form; subst e23
        have P23 := Lib.hid hp; have M23 := Lib.hid hp.2.2.1; clear hp
        go_wp2_with fail
        refine (in_P P22.out.1 P23.out.1 P22.out.2.2.2 P23.out.2.2.2 (by omega) (by omega)).mono ?_; rintro en w31 ⟨r24, s24, rfl, hp, hb⟩
        have B31 := Lib.hid (B30.out.trans (hb.mono B30.out.size))
        replace P22 := Lib.hid (P22.out.below hb)
        replace P23 := Lib.hid (P23.out.below hb)
        clear hb B30
        obtain ⟨a24, c24, e24⟩ := hp.1.form; subst e24
        have P24 := Lib.hid hp; have M24 := Lib.hid hp.2.2.1; clear hp
        have ZZ : s24 = [] := by rw [List.eq_nil_iff_forall_not_mem]; intro x; simp only [M22.out, M23.out, M24.out]; by_cases ha : x ∈ a <;> by_cases hb : x ∈ b <;> simp [ha, hb]
        have ZL : s24.length = 0 := by rw [ZZ]; rfl
        rw [ZL]; clear ZZ ZL
        clear P24
        go_wp2_with fail
        refine (un_P P22.out.1 P23.out.1 P22.out.2.2.2 P23.out.2.2.2 (by omega) (by omega)).mono ?_; rintro en w32 ⟨r25, s25, rfl, hp, hb⟩
        have B32 := Lib.hid (B31.out.trans (hb.mono B31.out.size))
        replace P22 := Lib.hid (P22.out.below hb)
        replace P23 := Lib.hid (P23.out.below hb)
        clear hb B31
        obtain ⟨a25, c25, e25⟩ := hp.1.form; subst e25
        have P25 := Lib.hid hp; have M25 := Lib.hid hp.2.2.1; clear hp
        go_wp2_with fail
        refine (of_P (aI.out.below B32.out) aF (by omega)).mono ?_; rintro en w33 ⟨r26, s26, rfl, hp, hb⟩
        have B33 := Lib.hid (B32.out.trans (hb.mono B32.out.size))
        replace P22 := Lib.hid (P22.out.below hb)
        replace P23 := Lib.hid (P23.out.below hb)
        replace P25 := Lib.hid (P25.out.below hb)
        clear hb B32
        obtain ⟨a26, c26, e26⟩ := hp.1.form; subst e26
        have P26 := Lib.hid hp; have M26 := Lib.hid hp.2.2.1; clear hp
        go_wp2_with fail
        refine (eq_P P25.out.1 P26.out.1 P25.out.2.1 P26.out.2.1 (fun x => ?_) (Nat.le_trans P25.out.2.2.2 (by omega)) (Nat.le_trans P26.out.2.2.2 (by omega))).mono ?_
        · first | (simp only [M22.out, M23.out, M25.out, M26.out]; done) | (simp only [M22.out, M23.out, M25.out, M26.out]; by_cases ha : x ∈ a <;> by_cases hb : x ∈ b <;> simp [ha, hb])
        rintro en w34 ⟨rfl, hb⟩
        have B34 := Lib.hid (B33.out.trans (hb.mono B33.out.size))
        replace P22 := Lib.hid (P22.out.below hb)
        replace P23 := Lib.hid (P23.out.below hb)
        replace P25 := Lib.hid (P25.out.below hb)
        replace P26 := Lib.hid (P26.out.below hb)
        clear hb B33
        clear P25
        clear P26
        clear P22
        clear P23
        go_wp2_with fail
        refine (lives_any _).mono ?_; rintro en w35 ⟨rfl, hb⟩
        have B35 := Lib.hid (B34.out.trans (hb.mono B34.out.size))
        clear hb B34
        go_wp2_with fail
        go_ret
        exact ⟨rfl, B35.out⟩
      · have cD : decide (c.length ≤ 200) = false := by simpa using cF
        have cE := Lib.hid cD; clear cD
        go_enter Try.func6, Try.ntmps6
        go_wp2_with fail
        refine (few_any aI.out ma).mono ?_; rintro en w' ⟨rfl, rfl⟩; rw [aE.out]
        go_wp2_with fail
        refine (few_any bI.out mb).mono ?_; rintro en w' ⟨rfl, rfl⟩; rw [bE.out]
        go_wp2_with fail
        refine (few_any cI.out mc).mono ?_; rintro en w' ⟨rfl, rfl⟩; rw [cE.out]
        go_wp2_with fail
        refine (lives_any _).mono ?_; rintro en w1 ⟨rfl, hb⟩
        have B1 := Lib.hid hb
        clear hb
        go_wp2_with fail
        go_ret
        exact ⟨rfl, B1.out⟩
    · have bD : decide (b.length ≤ 200) = false := by simpa using bF
      have bE := Lib.hid bD; clear bD
      go_enter Try.func6, Try.ntmps6
      go_wp2_with fail
      refine (few_any aI.out ma).mono ?_; rintro en w' ⟨rfl, rfl⟩; rw [aE.out]
      go_wp2_with fail
      refine (few_any bI.out mb).mono ?_; rintro en w' ⟨rfl, rfl⟩; rw [bE.out]
      go_wp2_with fail
      refine (lives_any _).mono ?_; rintro en w1 ⟨rfl, hb⟩
      have B1 := Lib.hid hb
      clear hb
      go_wp2_with fail
      go_ret
      exact ⟨rfl, B1.out⟩
  · have aD : decide (a.length ≤ 200) = false := by simpa using aF
    have aE := Lib.hid aD; clear aD
    go_enter Try.func6, Try.ntmps6
    go_wp2_with fail
    refine (few_any aI.out ma).mono ?_; rintro en w' ⟨rfl, rfl⟩; rw [aE.out]
    go_wp2_with fail
    refine (lives_any _).mono ?_; rintro en w1 ⟨rfl, hb⟩
    have B1 := Lib.hid hb
    clear hb
    go_wp2_with fail
    go_ret
    exact ⟨rfl, B1.out⟩

end Go.Proofs.Ythmhhjfonejifaa
