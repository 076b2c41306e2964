/- The reference's Box. -/
import Derived.Test.YtahaigamigkhbaaWh
import Derived.Deep.Light
namespace Go.Proofs.Ytahaigamigkhbaa
open Go.ChangeShapes Go.WideShapes Go.ChangeAt Go.RowKit Go.Joins Go.Deep

theorem q4_eq {a b c d x y z u : Int} (h1 : a = x) (h2 : b = y) (h3 : c = z) (h4 : d = u) : ((a, b, c, d) : Q4) = (x, y, z, u) := by rw [h1, h2, h3, h4]
theorem Blk.cast {w : World} {g : Nat} {q r : Q4} (h : Blk w g q) (e : q = r) : Blk w g r := e ▸ h
theorem Blk.drew {w : World} {g : Nat} {q : Q4} (h : Blk w g q) : Blk w.drew g q := h

theorem minZ_l {a b : Int} (h : a ≤ b) : minZ a b = a := by unfold minZ; rw [if_neg (by omega)]
theorem minZ_r {a b : Int} (h : b < a) : minZ a b = b := by unfold minZ; rw [if_pos h]
theorem maxZ_l {a b : Int} (h : b ≤ a) : maxZ a b = a := by unfold maxZ; rw [if_neg (by omega)]
theorem maxZ_r {a b : Int} (h : a < b) : maxZ a b = b := by unfold maxZ; rw [if_pos h]
theorem rstep {w WA : World} {g : Nat} {q r : Q4} {a b c d : Int} (B : Hid (Below w.heap.size w WA)) (Z : Hid (Blk WA w.heap.size (0, 0, 0, 0))) (K : Hid (Blk WA g q)) (hg : w.heap.size < g) (e : r = (a, b, c, d)) :
    Hid (Below w.heap.size w ((((WA.setCell ⟨g, 0, none⟩ (.int .i64 a)).setCell ⟨g, 1, none⟩ (.int .i64 b)).setCell ⟨g, 2, none⟩ (.int .i64 c)).setCell ⟨g, 3, none⟩ (.int .i64 d))) ∧
    Hid (Blk ((((WA.setCell ⟨g, 0, none⟩ (.int .i64 a)).setCell ⟨g, 1, none⟩ (.int .i64 b)).setCell ⟨g, 2, none⟩ (.int .i64 c)).setCell ⟨g, 3, none⟩ (.int .i64 d)) w.heap.size (0, 0, 0, 0)) ∧
    Hid (Blk ((((WA.setCell ⟨g, 0, none⟩ (.int .i64 a)).setCell ⟨g, 1, none⟩ (.int .i64 b)).setCell ⟨g, 2, none⟩ (.int .i64 c)).setCell ⟨g, 3, none⟩ (.int .i64 d)) g r) := by
  subst e
  have h1 : w.heap.size ≤ g := by omega
  have h2 : w.heap.size ≠ g := by omega
  exact ⟨(((B.out.setCell h1 _).setCell h1 _).setCell h1 _).setCell h1 _, (((Z.out.other h2).other h2).other h2).other h2, K.out.set _ _ _ _⟩

theorem rstep2 {w WA : World} {g : Nat} {q r : Q4} {a b c d : Int} (B : Hid (Below w.heap.size w WA)) (Z : Hid (Blk WA w.heap.size (0, 0, 0, 0))) (K : Hid (Blk WA g q)) (hg : w.heap.size < g) (e : r = (a, b, c, d)) (o : Obj) :
    Hid (Below w.heap.size w (((((WA.setCell ⟨g, 0, none⟩ (.int .i64 a)).setCell ⟨g, 1, none⟩ (.int .i64 b)).setCell ⟨g, 2, none⟩ (.int .i64 c)).setCell ⟨g, 3, none⟩ (.int .i64 d)).alloc o)) ∧
    Hid (Blk (((((WA.setCell ⟨g, 0, none⟩ (.int .i64 a)).setCell ⟨g, 1, none⟩ (.int .i64 b)).setCell ⟨g, 2, none⟩ (.int .i64 c)).setCell ⟨g, 3, none⟩ (.int .i64 d)).alloc o) w.heap.size (0, 0, 0, 0)) ∧
    Hid (Blk (((((WA.setCell ⟨g, 0, none⟩ (.int .i64 a)).setCell ⟨g, 1, none⟩ (.int .i64 b)).setCell ⟨g, 2, none⟩ (.int .i64 c)).setCell ⟨g, 3, none⟩ (.int .i64 d)).alloc o) g r) := by
  obtain ⟨h1, h2, h3⟩ := rstep B Z K hg e
  have ba := fun (W : World) => (Below.refl W.heap.size W).alloc (Nat.le_refl _) o
  exact ⟨h1.out.alloc h1.out.size o, h2.out.below (ba _) h2.out.lt, h3.out.below (ba _) h3.out.lt⟩

set_option maxHeartbeats 16000000 in
theorem boxr_any (a : Option Addr) (len cap : Nat) (l : List Pt) (w : World) (h : PtsAt w a len l) (hl : len ≤ 1000000) :
    Calls Try.prog 16 #[.slice a len cap] w fun e w' => e = .returned (boxT l) ∧ Below w.heap.size w w' := by
  have HP := Lib.hid h
  have HL := Lib.hid h.1; clear h
  by_cases hz : len = 0
  · subst hz
    have HN := Lib.hid (bok_nil HL.out.symm)
    go_enter Try.func16, Try.ntmps16
    go_wp2
    refine bodyPost_ret (by simp [results, Try.results16, go_sem]; rfl) rfl ⟨?_, ?_⟩
    · exact ret_qb (q := (0, 0, 0, 0)) (bq_no HN.out).symm HN.out.symm
    · (repeat (first | exact Below.refl _ _ | (refine Below.drew ?_) | (refine below_drewN ?_ _) | (refine Below.alloc ?_ (by first | omega | (simp <;> omega)) _) | (refine Below.setCell ?_ (by first | omega | (simp <;> omega)) _) | (refine Below.trans ?_ (Below.mono (by assumption) (by first | omega | (simp <;> omega))))))
  · have hp : 0 < len := by omega
    have hq : (0 : Int) < (len : Int) := by omega
    have hz' : ((len : Int) == 0) = false := by simp; omega
    clear hz
    have HW0 := Lib.hid ((Below.refl w.heap.size w).alloc (Nat.le_refl _) (.cells #[.int .i64 0, .int .i64 0, .int .i64 0, .int .i64 0] 40))
    cases hv : allV l
    · have HV := Lib.hid hv; clear hv
      go_enter Try.func16, Try.ntmps16
      go_wp2_with fail
      refine (all_any _ _ _ l _ (HP.out.below HW0.out) hl).mono ?_; rintro e w1 ⟨rfl, hb⟩; rw [HV.out]
      have K1 := (Blk.new w 0 0 0 0).below hb (by simp)
      have HB1 := Lib.hid (HW0.out.trans (hb.mono (by simp)))
      obtain ⟨z0, z1, z2, z3, zf⟩ := K1.facts
      clear hb K1
      go_wp2_with fail
      refine bodyPost_ret (by simp [results, Try.results16, go_sem, z0, z1, z2, z3]; rfl) rfl ⟨?_, ?_⟩
      · have hn := bok_nv HV.out
        exact ret_qb (q := (0, 0, 0, 0)) (bq_no hn).symm hn.symm
      · have hb := HB1.out
        (repeat (first | assumption | (refine Below.setCell ?_ (by simp) _)))
    · have HV := Lib.hid hv; clear hv
      obtain ⟨⟨x0, y0⟩, hxy⟩ : ∃ p, l.getD 0 (0, 0) = p := ⟨_, rfl⟩
      have HXY0 := Lib.hid hxy
      have B0 := Lib.hid (b0_mk hxy); clear hxy
      go_enter Try.func16, Try.ntmps16
      go_wp2_with fail
      refine (all_any _ _ _ l _ (HP.out.below HW0.out) hl).mono ?_; rintro e w1 ⟨rfl, hb⟩; rw [HV.out]
      have K1 := Lib.hid ((Blk.new w 0 0 0 0).below hb (by simp))
      have HB1 := Lib.hid (HW0.out.trans (hb.mono (by simp)))
      clear hb
      obtain ⟨b, off, rfl, c1, c2⟩ := (HP.out.below HB1.out).at hp
      rw [HXY0.out] at c1 c2
      simp only [Nat.zero_mul, Nat.add_zero] at c1 c2
      have hbs : b < w1.heap.size := cell_lt c1
      have hg : w.heap.size < w1.heap.size := K1.out.lt
      go_wp2_with fail
      go_region_held3 (fun w' => w'.cell? ⟨b, off, none⟩ = some (.int .i64 x0) ∧ w'.cell? ⟨b, off + 1, none⟩ = some (.int .i64 y0)) (first | exact ⟨c1, c2⟩ | go_keep) (fail)
      go_wp2_with fail
      have BA := Lib.hid (((Below.refl w1.heap.size w1).alloc (Nat.le_refl _) (.cells #[.int .i64 x0, .int .i64 y0, .int .i64 x0, .int .i64 y0] 40)).drew)
      have K2 := Lib.hid ((Blk.new w1 x0 y0 x0 y0).drew)
      have K3 := Lib.hid (K1.out.below BA.out K1.out.lt)
      have HB2 := Lib.hid (HB1.out.trans (BA.out.mono HB1.out.size))
      clear c1 c2
      go_loopw [5] (fun s5 wr => ∃ k : Nat, k ≤ len ∧ 1 ≤ k ∧ s5 = .int .i64 k ∧ Hid (Below w.heap.size w wr) ∧ Hid (Blk wr w.heap.size (0, 0, 0, 0)) ∧ Hid (Blk wr w1.heap.size (bfk l k))) (fun s5 _ => len - (intOf s5).toNat)
      case atStart => exact ⟨1, by omega, by omega, rfl, HB2, K3, (by show Blk _ _ (bfk l 1); rw [bfk_one l (by have := HL.out; omega), B0.out]; exact K2.out)⟩
      case round =>
        obtain ⟨k, hk, hk1, rfl, HB, KZ, KG⟩ := hrel
        have kg := KG.out.lt; have kz := KZ.out.lt
        obtain ⟨⟨q1, q2, q3, q4⟩, hqq⟩ : ∃ q, bfk l k = q := ⟨_, rfl⟩
        rw [hqq] at KG
        have HQ := Lib.hid hqq; clear hqq
        obtain ⟨z0, z1, z2, z3, zf⟩ := KG.out.facts
        simp only at z0 z1 z2 z3
        by_cases hlt : k < len
        · obtain ⟨b', off', hbo, c1, c2⟩ := (HP.out.below HB.out).at hlt
          injection hbo with hbo; injection hbo with e1 e2; subst e1 e2
          have hk' : Hid (k < l.length) := by show k < l.length; rw [← HL.out]; exact hlt
          obtain ⟨⟨x, y⟩, hxy⟩ : ∃ p, l.getD k (0, 0) = p := ⟨_, rfl⟩
          rw [hxy] at c1 c2
          have HXY := Lib.hid hxy; clear hxy
          have HAL := Lib.hid ((Below.refl wr.heap.size wr).alloc (Nat.le_refl _) (.cells #[.int .i64 x, .int .i64 y] 25))
          have HF : Hid (bfk l (k + 1) = (minZ q1 x, minZ q2 y, maxZ q3 x, maxZ q4 y)) := by
            show bfk l (k + 1) = _
            rw [bfk_succ l k hk'.out, HXY.out, HQ.out]; rfl
          have KG2 := Lib.hid (KG.out.below HAL.out kg)
          have KZ2 := Lib.hid (KZ.out.below HAL.out kz)
          have HB3 := Lib.hid (HB.out.trans (HAL.out.mono HB.out.size))
          have hk2 : k + 1 ≤ len := hlt
          have hk3 : 1 ≤ k + 1 := by omega
          have hgz := hg
          go_wp2_with fail
          all_goals
            go_roundw
            case rel =>
              go_light
              refine ⟨k + 1, hk2, hk3, by go_num, ?_⟩
              refine rstep2 HB KZ KG hgz ?_ _
              rw [HF.out]
              rfl
            case measure => go_light; simp [intOf]; omega
        · have hkl : k = len := by omega
          subst hkl
          obtain ⟨y0, y1, y2, y3, yf⟩ := KZ.out.facts
          go_wp2
          refine bodyPost_ret (by simp [results, Try.results16, go_sem, y0, y1, y2, y3]; rfl) rfl ⟨?_, ?_⟩
          · have hy := bok_y HV.out (by have := HL.out; omega)
            exact ret_qb (q := (q1, q2, q3, q4)) (by rw [bq_yes hy, ← HL.out]; exact HQ.out.symm) hy.symm
          · have hb := HB.out
            (repeat (first | assumption | (refine Below.setCell ?_ (by simp) _)))
end Go.Proofs.Ytahaigamigkhbaa
