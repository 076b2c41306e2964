/- The Hilbert curve: Point and the reference's Point. -/
import Derived.Test.YtdiigackkbnkmaaHc
namespace Go.Proofs.Ytdiigackkbnkmaa
open Go.ChangeShapes Go.WideShapes Go.ChangeAt Go.RowKit Go.Joins Go.Deep

def okI (i : Int) : Bool := decide (0 ≤ i ∧ i < 1073741824)
def pX (i : Int) : Int := if okI i = true then (hX 15 i).1 else -1
def pY (i : Int) : Int := if okI i = true then (hX 15 i).2 else -1
theorem pX_no {i : Int} (h : okI i = false) : pX i = -1 ∧ pY i = -1 := by unfold pX pY; rw [h]; simp
theorem pX_yes {i : Int} (h : okI i = true) : pX i = (hX 15 i).1 ∧ pY i = (hX 15 i).2 := by unfold pX pY; rw [h]; simp
/-- The state of a round: k levels are done; i1 is what is left of the number. -/
def Sp (k : Nat) (j x' y' i : Int) : Prop := k ≤ 15 ∧ j = i / 4 ^ k ∧ 0 ≤ j ∧ j < 1073741824 ∧ hX k i = (x', y')
theorem Sp.start {i : Int} (h : okI i = true) : Sp 0 i 0 0 i := by
  unfold okI at h; simp at h
  exact ⟨by omega, by simp, h.1, h.2, rfl⟩
theorem Sp.bd {k : Nat} {j x' y' i : Int} (h : Sp k j x' y' i) : 0 ≤ x' ∧ x' < 2 ^ k ∧ 0 ≤ y' ∧ y' < 2 ^ k := by
  have e := hX_bd k i
  rw [h.2.2.2.2] at e; exact e
theorem Sp.next {k : Nat} {j x' y' i : Int} (h : Sp k j x' y' i) (hk : k ≤ 14) : Sp (k + 1) (j / 4) (outX (j % 4) (2 ^ k) x' y') (outY (j % 4) (2 ^ k) x' y') i := by
  obtain ⟨a, b, c, d, e⟩ := h
  refine ⟨by omega, by rw [div4, ← b], by omega, by omega, ?_⟩
  simp only [hX]; rw [e, ← b]
set_option maxHeartbeats 4000000 in
theorem pointr_any (i : Int) (w : World) :
    Calls Try.prog 36 #[.int .i64 i] w fun e w' => e = .returned (pt (pX i) (pY i)) ∧ Below w.heap.size w w' := by
  cases hv : okI i
  · obtain ⟨e1, e2⟩ := pX_no hv
    have E1 := Lib.hid e1; have E2 := Lib.hid e2; clear e1 e2
    have hn : i < 0 ∨ (0 ≤ i ∧ 1073741824 ≤ i) := by unfold okI at hv; simp at hv; omega
    clear hv
    rcases hn with h | ⟨h1, h⟩
    all_goals
      go_enter Try.func36, Try.ntmps36
      go_wp2
      refine bodyPost_ret (by simp [results, Try.results36, go_sem]; rfl) rfl ⟨?_, ?_⟩
      · exact ret_pt E1.out.symm E2.out.symm
      · (repeat (first | exact Below.refl _ _ | (refine Below.drew ?_) | (refine below_drewN ?_ _) | (refine Below.alloc ?_ (by first | omega | (simp <;> omega)) _) | (refine Below.setCell ?_ (by first | omega | (simp <;> omega)) _) | (refine Below.trans ?_ (Below.mono (by assumption) (by first | omega | (simp <;> omega))))))
  · obtain ⟨e1, e2⟩ := pX_yes hv
    have E1 := Lib.hid e1; have E2 := Lib.hid e2; clear e1 e2
    have HS0 := Lib.hid (Sp.start hv)
    have hv' : 0 ≤ i ∧ i < 1073741824 := by unfold okI at hv; simpa using hv
    obtain ⟨v1, v2⟩ := hv'
    clear hv
    go_enter Try.func36, Try.ntmps36
    go_wp2_with fail
    go_loopw [4, 5, 6] (fun s4 s5 s6 wr => ∃ (k : Nat) (j x' y' : Int), s6 = .int .i64 ((k : Int) + 1) ∧ s5 = .int .i64 j ∧ s4 = .int .i64 (2 ^ k) ∧ Hid (Sp k j x' y' i) ∧ Hid (Below w.heap.size w wr) ∧ Hid (Pb wr w.heap.size 0 0) ∧ Hid (Pb wr (w.heap.size + 1) x' y')) (fun _ _ s6 _ => 16 - (intOf s6).toNat)
    case atStart =>
      exact ⟨0, i, 0, 0, rfl, rfl, rfl, HS0, ((Below.refl _ _).alloc (Nat.le_refl _) _).alloc (by simp) _, (Pb.new w 0 0).below ((Below.refl _ _).alloc (Nat.le_refl _) _) (by simp), (by have e := Pb.new (w.alloc (.cells #[.int .i64 0, .int .i64 0] 23)) 0 0; simp at e; exact e)⟩
    case round =>
      obtain ⟨k, j, x', y', rfl, rfl, rfl, HS, HB, HZ, HP⟩ := hrel
      have hk := HS.out.1
      obtain ⟨x0, x1, y0, y1⟩ := HS.out.bd
      have j0 := HS.out.2.2.1; have j1 := HS.out.2.2.2.1
      obtain ⟨c0, c1, cf⟩ := HP.out.facts
      obtain ⟨z0, z1, zf⟩ := HZ.out.facts
      have hg : w.heap.size + 1 < wr.heap.size := HP.out.lt
      by_cases hk14 : k ≤ 14
      · have HN := Lib.hid (HS.out.next hk14)
        have hp := p2pos k
        have hp2 := p2le hk14
        have he := p2 k
        have hq0 : 0 ≤ j % 4 := by omega
        have hq1 : j % 4 < 4 := by omega
        have hr : j.tmod 4 = j % 4 := Int.tmod_eq_emod_of_nonneg j0
        have hd : j.tdiv 4 = j / 4 := Int.tdiv_eq_ediv_of_nonneg j0
        obtain ⟨q, hq⟩ : ∃ q : Int, j % 4 = q := ⟨_, rfl⟩
        obtain ⟨j2, hj2⟩ : ∃ q : Int, j / 4 = q := ⟨_, rfl⟩
        have jb : 0 ≤ j2 ∧ j2 < 1073741824 := by omega
        obtain ⟨jb0, jb1⟩ := jb
        rw [hq] at hr HN hq0 hq1
        rw [hj2] at hd HN
        obtain ⟨h, hh⟩ : ∃ h : Int, 2 ^ k = h := ⟨_, rfl⟩
        rw [hh] at HN x1 y1 hp hp2 he ⊢
        have HE := Lib.hid he
        clear hq hj2 hh he HS
        have hq : q = 0 ∨ q = 1 ∨ q = 2 ∨ q = 3 := by omega
        rcases hq with rfl | rfl | rfl | rfl
        all_goals
          go_wp2
          go_roundw
          case rel =>
            refine ⟨k + 1, _, _, _, by go_num, rfl, by rw [HE.out], ?_, ?_, ?_, HP.out.set _ _⟩
            · have s := HN.out
              simp [outX, outY] at s; exact s
            · exact ((HB.out.setCell (by simp) _).setCell (by simp) _)
            · exact ((HZ.out.other (by simp)).other (by simp))
          case measure => simp [intOf]; omega
      · obtain rfl : k = 15 := by omega
        have HF := Lib.hid HS.out.2.2.2.2
        go_wp2
        refine bodyPost_ret (by simp [results, Try.results36, go_sem, z0, z1]; rfl) rfl ⟨?_, ?_⟩
        · exact ret_pt (by rw [E1.out, HF.out]) (by rw [E2.out, HF.out])
        · exact ((HB.out.setCell (by simp) _).setCell (by simp) _)

set_option maxHeartbeats 4000000 in
theorem point_no (i : Int) (w : World) (hv : okI i = false) :
    Calls Try.prog 35 #[.int .i64 i] w fun e w' => e = .returned (pt (pX i) (pY i)) ∧ Below w.heap.size w w' := by
  obtain ⟨e1, e2⟩ := pX_no hv
  have E1 := Lib.hid e1; have E2 := Lib.hid e2; clear e1 e2
  have hn : i < 0 ∨ (0 ≤ i ∧ 1073741824 ≤ i) := by unfold okI at hv; simp at hv; omega
  clear hv
  rcases hn with h | ⟨h1, h⟩
  all_goals
    go_enter Try.func35, Try.ntmps35
    go_wp2_with fail
    go_step3
    go_wp2
    rw [Exit.noGoto_ret]
    refine bodyPost_ret (by simp [results, Try.results35, go_sem]; rfl) rfl ⟨?_, ?_⟩
    · exact ret_pt E1.out.symm E2.out.symm
    · (repeat (first | exact Below.refl _ _ | (refine Below.drew ?_) | (refine below_drewN ?_ _) | (refine Below.alloc ?_ (by first | omega | (simp <;> omega)) _) | (refine Below.setCell ?_ (by first | omega | (simp <;> omega)) _) | (refine Below.trans ?_ (Below.mono (by assumption) (by first | omega | (simp <;> omega))))))
set_option maxHeartbeats 4000000 in
theorem point_yes (i : Int) (w : World) (hv : okI i = true) :
    Calls Try.prog 35 #[.int .i64 i] w fun e w' => e = .returned (pt (pX i) (pY i)) ∧ Below w.heap.size w w' := by
  obtain ⟨e1, e2⟩ := pX_yes hv
  have E1 := Lib.hid e1; have E2 := Lib.hid e2; clear e1 e2
  have HS0 := Lib.hid (Sp.start hv)
  have hv' : 0 ≤ i ∧ i < 1073741824 := by unfold okI at hv; simpa using hv
  obtain ⟨v1, v2⟩ := hv'
  clear hv
  go_enter Try.func35, Try.ntmps35
  go_wp2_with fail
  refine wp_scope_jumps 0 (fun a' w' => ∃ (k : Nat) (j x' y' : Int) (u5 u6 u7 u8 u9 u10 u11 u12 u13 u14 u15 u16 u17 u18 u19 u20 u21 u22 u23 u24 u25 : Value), a' = { tmps := #[.int .i64 j, undef, .pointer (some ⟨w.heap.size, 0, none⟩), .pointer (some ⟨w.heap.size + 1, 0, none⟩), .int .i64 (2 ^ k), u5, u6, u7, u8, u9, u10, u11, u12, u13, u14, u15, u16, u17, u18, u19, u20, u21, u22, u23, u24, u25], defers := [] } ∧ Hid (k ≤ 14) ∧ Hid (Sp k j x' y' i) ∧ Hid (Below w.heap.size w w') ∧ Hid (Pb w' w.heap.size 0 0) ∧ Hid (Pb w' (w.heap.size + 1) x' y')) (fun a' _ => 32768 - (intOf (a'.tmps.getD 4 undef)).toNat) rfl ?_ ?_
  · go_wp2_with fail
    go_step3
    have HP := Lib.hid (Pb.new (w.alloc (.cells #[.int .i64 0, .int .i64 0] 23)) 0 0)
    have HZ := Lib.hid ((Pb.new w 0 0).below ((Below.refl _ _).alloc (Nat.le_refl _) (.cells #[.int .i64 0, .int .i64 0] 23)) (by simp))
    have HB := Lib.hid (((Below.refl w.heap.size w).alloc (Nat.le_refl _) (.cells #[.int .i64 0, .int .i64 0] 23)).alloc (by simp) (.cells #[.int .i64 0, .int .i64 0] 23))
    rw [show (w.alloc (.cells #[.int .i64 0, .int .i64 0] 23)).heap.size = w.heap.size + 1 by simp] at HP
    generalize ((w.alloc (.cells #[.int .i64 0, .int .i64 0] 23)).alloc (.cells #[.int .i64 0, .int .i64 0] 23)) = wr at HP HZ HB ⊢
    obtain ⟨c0, c1, cf⟩ := HP.out.facts
    obtain ⟨z0, z1, zf⟩ := HZ.out.facts
    have hg : w.heap.size + 1 < wr.heap.size := HP.out.lt
    have HN := Lib.hid (HS0.out.next (by omega))
    rw [show (2 : Int) ^ 0 = 1 from rfl, Nat.zero_add] at HN
    have hq0 : 0 ≤ i % 4 := by omega
    have hq1 : i % 4 < 4 := by omega
    have hr : i.tmod 4 = i % 4 := Int.tmod_eq_emod_of_nonneg v1
    have hd : i.tdiv 4 = i / 4 := Int.tdiv_eq_ediv_of_nonneg v1
    obtain ⟨q, hq⟩ : ∃ q : Int, i % 4 = q := ⟨_, rfl⟩
    obtain ⟨j2, hj2⟩ : ∃ q : Int, i / 4 = q := ⟨_, rfl⟩
    have jb : 0 ≤ j2 ∧ j2 < 1073741824 := by omega
    obtain ⟨jb0, jb1⟩ := jb
    rw [hq] at hr HN hq0 hq1
    rw [hj2] at hd HN
    clear hq hj2
    have hq : q = 0 ∨ q = 1 ∨ q = 2 ∨ q = 3 := by omega
    rcases hq with rfl | rfl | rfl | rfl
    all_goals
      go_wp2_with fail
      refine (outer_any _ _ _ _ (by omega) (by omega) (by omega) (by omega) (by omega) (by omega)).mono ?_; rintro e w2 ⟨rfl, hb2⟩
      have HP2 := HP.out.below hb2 hg
      obtain ⟨d0, d1, df⟩ := HP2.facts
      have HZ2 := HZ.out.below hb2 (by omega)
      obtain ⟨y0', y1', yf'⟩ := HZ2.facts
      have hg2 : w.heap.size + 1 < w2.heap.size := HP2.lt
      have HB2 := Lib.hid (HB.out.trans (hb2.mono HB.out.size))
      have HP3 := Lib.hid HP2
      have HZ3 := Lib.hid HZ2
      clear hb2 HP2 HZ2
      go_wp2_with fail
      first | rw [ix0] | rw [ix1] | rw [ix2] | rw [ix3]
      go_wp2
      go_step3
      refine ⟨rfl, ⟨1, _, _, _, _, _, _, _, _, _, _, _, _, _, _, _, _, _, _, _, _, _, _, _, _, rfl, (by show 1 ≤ 14; omega), ?_, ?_, ?_, HP3.out.set _ _⟩⟩
      · have s := HN.out
        simp [outX, outY] at s ⊢; exact s
      · exact ((HB2.out.setCell (by simp) _).setCell (by simp) _)
      · exact ((HZ3.out.other (by simp)).other (by simp))
  · rintro a' wr ⟨k, j, x', y', u5, u6, u7, u8, u9, u10, u11, u12, u13, u14, u15, u16, u17, u18, u19, u20, u21, u22, u23, u24, u25, rfl, HK, HS, HB, HZ, HP⟩
    obtain ⟨x0, x1, y0, y1⟩ := HS.out.bd
    have j0 := HS.out.2.2.1; have j1 := HS.out.2.2.2.1
    obtain ⟨c0, c1, cf⟩ := HP.out.facts
    obtain ⟨z0, z1, zf⟩ := HZ.out.facts
    have hg : w.heap.size + 1 < wr.heap.size := HP.out.lt
    have HN := Lib.hid (HS.out.next HK.out)
    have hp := p2pos k
    have hp2 := p2le HK.out
    have he := p2 k
    have hq0 : 0 ≤ j % 4 := by omega
    have hq1 : j % 4 < 4 := by omega
    have hr : j.tmod 4 = j % 4 := Int.tmod_eq_emod_of_nonneg j0
    have hd : j.tdiv 4 = j / 4 := Int.tdiv_eq_ediv_of_nonneg j0
    obtain ⟨q, hq⟩ : ∃ q : Int, j % 4 = q := ⟨_, rfl⟩
    obtain ⟨j2, hj2⟩ : ∃ q : Int, j / 4 = q := ⟨_, rfl⟩
    have jb : 0 ≤ j2 ∧ j2 < 1073741824 := by omega
    obtain ⟨jb0, jb1⟩ := jb
    rw [hq] at hr HN hq0 hq1
    rw [hj2] at hd HN
    obtain ⟨h, hh⟩ : ∃ h : Int, 2 ^ k = h := ⟨_, rfl⟩
    rw [hh] at HN x1 y1 hp hp2 he ⊢
    have HE := Lib.hid he; have HH := Lib.hid hh
    clear hq hj2 hh he HS
    have hq : q = 0 ∨ q = 1 ∨ q = 2 ∨ q = 3 := by omega
    rcases hq with rfl | rfl | rfl | rfl
    all_goals
      go_wp2_with fail
      refine (outer_any _ _ _ _ hp hp2 x0 x1 y0 y1).mono ?_; rintro e w2 ⟨rfl, hb2⟩
      have HP2 := HP.out.below hb2 hg
      obtain ⟨d0, d1, df⟩ := HP2.facts
      have HZ2 := HZ.out.below hb2 (by omega)
      obtain ⟨y0', y1', yf'⟩ := HZ2.facts
      have hg2 : w.heap.size + 1 < w2.heap.size := HP2.lt
      have HB2 := Lib.hid (HB.out.trans (hb2.mono HB.out.size))
      have HP3 := Lib.hid HP2
      have HZ3 := Lib.hid HZ2
      clear hb2 HP2 HZ2
      go_wp2_with fail
      first | rw [ix0] | rw [ix1] | rw [ix2] | rw [ix3]
      by_cases hk : k = 14
      · subst hk
        have hh : h = 16384 := by rw [← HH.out]; rfl
        subst hh
        go_wp2
        simp only [Exit.jump]
        refine bodyPost_ret (by simp [results, Try.results35, go_sem, y0', y1']; rfl) rfl ⟨?_, ?_⟩
        · have s := HN.out.2.2.2.2
          simp [outX, outY] at s
          exact ret_pt (by rw [E1.out, s]) (by rw [E2.out, s])
        · exact ((((HB2.out.setCell (by simp) _).setCell (by simp) _).setCell (by simp) _).setCell (by simp) _)
      · have hb8 : h ≤ 8192 := by
          have e := p2le (k := k + 1) (by have := HK.out; omega)
          have e2 := HE.out
          omega
        have HK2 : Hid (k + 1 ≤ 14) := by have := HK.out; show k + 1 ≤ 14; omega
        go_wp2
        go_step3
        rw [← HE.out]
        refine ⟨rfl, ⟨⟨k + 1, _, _, _, _, _, _, _, _, _, _, _, _, _, _, _, _, _, _, _, _, _, _, _, _, rfl, HK2, ?_, ?_, ?_, HP3.out.set _ _⟩, ?_⟩⟩
        · have s := HN.out
          simp [outX, outY] at s
          first | exact s | (rw [← HE.out] at s; exact s)
        · exact ((HB2.out.setCell (by simp) _).setCell (by simp) _)
        · exact ((HZ3.out.other (by simp)).other (by simp))
        · have e := HE.out
          simp [intOf, e]; omega
theorem point_any (i : Int) (w : World) :
    Calls Try.prog 35 #[.int .i64 i] w fun e w' => e = .returned (pt (pX i) (pY i)) ∧ Below w.heap.size w w' := by
  cases hv : okI i
  · exact point_no i w hv
  · exact point_yes i w hv
end Go.Proofs.Ytdiigackkbnkmaa
