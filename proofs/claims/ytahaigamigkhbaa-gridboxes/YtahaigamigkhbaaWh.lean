/- Box. -/
import Derived.Test.YtahaigamigkhbaaWg
namespace Go.Proofs.Ytahaigamigkhbaa
open Go.ChangeShapes Go.WideShapes Go.ChangeAt Go.RowKit Go.Joins Go.Deep

theorem ret_qb {q r : Q4} {x y : Bool} (h : q = r) (k : x = y) : Ending.returned (.tuple #[bx q.1 q.2.1 q.2.2.1 q.2.2.2, .bool x]) = .returned (.tuple #[bx r.1 r.2.1 r.2.2.1 r.2.2.2, .bool y]) := by rw [h, k]
theorem bq_no {l : List Pt} (h : bok l = false) : bq l = (0, 0, 0, 0) := by unfold bq; rw [h]; rfl
theorem bq_yes {l : List Pt} (h : bok l = true) : bq l = bfk l l.length := by unfold bq; rw [h]; rfl
theorem bok_nil {l : List Pt} (h : l.length = 0) : bok l = false := by rw [List.length_eq_zero_iff] at h; subst h; rfl
theorem bok_nv {l : List Pt} (h : allV l = false) : bok l = false := by unfold bok; rw [h]; simp
theorem bok_y {l : List Pt} (h : allV l = true) (k : 0 < l.length) : bok l = true := by
  unfold bok; rw [h]; simp; intro e; subst e; simp at k
abbrev boxT (l : List Pt) : Value := .tuple #[bx (bq l).1 (bq l).2.1 (bq l).2.2.1 (bq l).2.2.2, .bool (bok l)]
theorem b0_mk {l : List Pt} {x y : Int} (h : l.getD 0 (0, 0) = (x, y)) : b0 l = (x, y, x, y) := by unfold b0; rw [h]

theorem bstep2 {w w2 w3 : World} {g z : Nat} {q r : Q4} (B : Hid (Below w.heap.size w w2)) (K : Hid (Blk w2 g q)) (Z : Hid (Blk w2 z r)) (b : Below w2.heap.size w2 w3) :
    Hid (Below w.heap.size w w3) ∧ Hid (Blk w3 g q) ∧ Hid (Blk w3 z r) ∧ w3.cell? ⟨g, 0, none⟩ = some (.int .i64 q.1) ∧ w3.cell? ⟨g, 1, none⟩ = some (.int .i64 q.2.1) ∧ w3.cell? ⟨g, 2, none⟩ = some (.int .i64 q.2.2.1) ∧ w3.cell? ⟨g, 3, none⟩ = some (.int .i64 q.2.2.2) ∧ (∀ i, w3.frozen? ⟨g, i, none⟩ = false) := by
  have k := K.out.below b K.out.lt
  exact ⟨B.out.trans (b.mono B.out.size), k, Z.out.below b Z.out.lt, k.facts⟩
theorem bstep1 {w w2 w3 : World} {g z : Nat} {q r : Q4} (B : Hid (Below w.heap.size w w2)) (K : Hid (Blk w2 g q)) (Z : Hid (Blk w2 z r)) (b : Below w2.drew.heap.size w2.drew w3) :
    Hid (Below w.heap.size w w3) ∧ Hid (Blk w3 g q) ∧ Hid (Blk w3 z r) ∧ w3.cell? ⟨g, 0, none⟩ = some (.int .i64 q.1) ∧ w3.cell? ⟨g, 1, none⟩ = some (.int .i64 q.2.1) ∧ w3.cell? ⟨g, 2, none⟩ = some (.int .i64 q.2.2.1) ∧ w3.cell? ⟨g, 3, none⟩ = some (.int .i64 q.2.2.2) ∧ (∀ i, w3.frozen? ⟨g, i, none⟩ = false) :=
  bstep2 (w2 := w2.drew) (B.out.drew) K Z b

set_option maxHeartbeats 4000000 in
theorem box_any (a : Option Addr) (len cap : Nat) (l : List Pt) (w : World) (h : PtsAt w a len l) (hl : len ≤ 1000000) :
    Calls Try.prog 15 #[.slice a len cap] w fun e w' => e = .returned (boxT l) ∧ Below w.heap.size w w' := by
  have HP := Lib.hid h
  have HL := Lib.hid h.1; clear h
  by_cases hz : len = 0
  · subst hz
    have HN := Lib.hid (bok_nil HL.out.symm)
    go_enter Try.func15, Try.ntmps15
    go_wp2
    refine bodyPost_ret (by simp [results, Try.results15, go_sem]; rfl) rfl ⟨?_, ?_⟩
    · exact ret_qb (q := (0, 0, 0, 0)) (bq_no HN.out).symm HN.out.symm
    · (repeat (first | exact Below.refl _ _ | (refine Below.drew ?_) | (refine below_drewN ?_ _) | (refine Below.alloc ?_ (by first | omega | (simp <;> omega)) _) | (refine Below.setCell ?_ (by first | omega | (simp <;> omega)) _) | (refine Below.trans ?_ (Below.mono (by assumption) (by first | omega | (simp <;> omega))))))
  · have hp : 0 < len := by omega
    have hq : (0 : Int) < (len : Int) := by omega
    have hz' : ((len : Int) == 0) = false := by simp; omega
    obtain ⟨b, off, rfl, c1, c2⟩ := HP.out.at hp
    obtain ⟨⟨x0, y0⟩, hxy⟩ : ∃ p, l.getD 0 (0, 0) = p := ⟨_, rfl⟩
    rw [hxy] at c1 c2
    simp only [Nat.zero_mul, Nat.add_zero] at c1 c2
    have hbs : b < w.heap.size := cell_lt c1
    have B0 := Lib.hid (b0_mk hxy); clear hxy hz
    go_enter Try.func15, Try.ntmps15
    go_wp2_with fail
    refine (single_any _ _ _).mono ?_; rintro e w1 ⟨rfl, hb⟩
    have K1 := Lib.hid ((Blk.new w 0 0 0 0).below hb (by simp))
    have HB1 := Lib.hid (((Below.refl w.heap.size w).alloc (Nat.le_refl _) _).trans (hb.mono (by simp)))
    clear hb
    go_wp2_with fail
    have K2 := Lib.hid (Blk.new w1 x0 y0 x0 y0)
    have K3 := Lib.hid (K1.out.below ((Below.refl w1.heap.size w1).alloc (Nat.le_refl _) (.cells #[.int .i64 x0, .int .i64 y0, .int .i64 x0, .int .i64 y0] 40)) K1.out.lt)
    have HB2 := Lib.hid (HB1.out.alloc HB1.out.size (.cells #[.int .i64 x0, .int .i64 y0, .int .i64 x0, .int .i64 y0] 40))
    have hg : w.heap.size < w1.heap.size := K1.out.lt
    clear c1 c2
    go_loopw [17] (fun s17 wr => ∃ k : Nat, k ≤ len ∧ s17 = .int .i64 k ∧ Hid (allV (l.take k) = true) ∧ Hid (Below w.heap.size w wr) ∧ Hid (Blk wr w.heap.size (0, 0, 0, 0)) ∧ Hid (Blk wr w1.heap.size (bfk l k))) (fun s17 _ => len - (intOf s17).toNat)
    case atStart => exact ⟨0, by omega, rfl, by simp [Hid, allV], HB2, K3, (by show Blk _ _ (b0 l); rw [B0.out]; exact K2.out)⟩
    case round =>
      obtain ⟨k, hk, rfl, HA, HB, KZ, KG⟩ := hrel
      have kg := KG.out.lt; have kz := KZ.out.lt
      by_cases hlt : k < len
      · obtain ⟨b', off', hbo, c1, c2⟩ := (HP.out.below HB.out).at hlt
        injection hbo with hbo; injection hbo with e1 e2; subst e1 e2
        have hk' : Hid (k < l.length) := by show k < l.length; rw [← HL.out]; exact hlt
        obtain ⟨⟨x, y⟩, hxy⟩ : ∃ p, l.getD k (0, 0) = p := ⟨_, rfl⟩
        rw [hxy] at c1 c2
        have HXY := Lib.hid hxy; clear hxy
        have HAL := Lib.hid ((Below.refl wr.heap.size wr).alloc (Nat.le_refl _) (.cells #[.int .i64 x, .int .i64 y] 25))
        cases hv : vldB x y
        · have HV := Lib.hid hv; clear hv
          go_wp2_with fail
          refine (valid_any _ _ _).mono ?_; rintro e w2 ⟨rfl, hb⟩; rw [HV.out]
          have KZ2 := (KZ.out.below HAL.out kz).below hb (by simp; omega)
          have HB3 := Lib.hid ((HB.out.trans (HAL.out.mono HB.out.size)).trans (hb.mono (by have := HB.out.size; simp; omega)))
          obtain ⟨z0, z1, z2, z3, zf⟩ := KZ2.facts
          clear KZ2 hb
          go_wp2_with fail
          refine bodyPost_ret (by simp [results, Try.results15, go_sem, z0, z1, z2, z3]; rfl) rfl ⟨?_, ?_⟩
          · have hn := bok_nv (allV_no hk'.out (by rw [HXY.out]; exact HV.out))
            exact ret_qb (q := (0, 0, 0, 0)) (bq_no hn).symm hn.symm
          · have hb := HB3.out
            (repeat (first | assumption | (refine Below.setCell ?_ (by simp) _)))
        · have HV := Lib.hid hv; clear hv
          go_wp2_with fail
          refine (valid_any _ _ _).mono ?_; rintro e w2 ⟨rfl, hb⟩; rw [HV.out]
          have KZ2 := Lib.hid ((KZ.out.below HAL.out kz).below hb (by simp; omega))
          have KG2 := (KG.out.below HAL.out kg).below hb (by simp; omega)
          have HB3 := Lib.hid ((HB.out.trans (HAL.out.mono HB.out.size)).trans (hb.mono (by have := HB.out.size; simp; omega)))
          have p0 : w2.cell? ⟨wr.heap.size, 0, none⟩ = some (.int .i64 x) := old hb (by go_simp)
          have p1 : w2.cell? ⟨wr.heap.size, 1, none⟩ = some (.int .i64 y) := old hb (by go_simp)
          have hzr : wr.heap.size < w2.heap.size := cell_lt p0
          obtain ⟨z0, z1, z2, z3, zf⟩ := KG2.facts
          have HG2 := Lib.hid KG2
          clear KG2 hb c1 c2
          obtain ⟨⟨q1, q2, q3, q4⟩, hqq⟩ : ∃ q, bfk l k = q := ⟨_, rfl⟩
          rw [hqq] at HG2 z0 z1 z2 z3
          have HQ := Lib.hid hqq; clear hqq
          simp only at z0 z1 z2 z3
          have HA2 : Hid (allV (l.take (k + 1)) = true) := by
            show allV (l.take (k + 1)) = true
            rw [allV_succ l k hk'.out, HXY.out, HA.out, HV.out]; rfl
          have HF : Hid (bfk l (k + 1) = (minZ q1 x, minZ q2 y, maxZ q3 x, maxZ q4 y)) := by
            show bfk l (k + 1) = _
            rw [bfk_succ l k hk'.out, HXY.out, HQ.out]; rfl
          go_wp2_with fail
          go_region_with (first
            | (go_at_call 31; (with_reducible refine (single_any _ _ _).mono ?_); rintro e w3 ⟨rfl, b3⟩; obtain ⟨PB, KG3, KZ3, y0, y1, y2, y3, yf⟩ := bstep1 HB3 HG2 KZ2 b3; clear b3)
            | (go_at_call 32; (with_reducible refine (span_any _ _ _ _ _ _ _ _ _).mono ?_); rintro e w4 ⟨rfl, b4⟩; obtain ⟨PB4, KG4, KZ4, t0, t1, t2, t3, tf⟩ := bstep2 PB KG3 KZ3 b4; clear b4))
          all_goals go_wp2_with fail
          all_goals
            go_roundw
            case rel =>
              refine ⟨k + 1, by omega, by go_num, HA2, ?_, ?_, ?_⟩
              · have hb := PB4.out
                show Below _ _ _
                (repeat (first | assumption | (refine Below.setCell ?_ (by simp; omega) _)))
              · show Blk _ _ _
                exact (((KZ4.out.other (by simp; omega)).other (by simp; omega)).other (by simp; omega)).other (by simp; omega)
              · show Blk _ _ _
                rw [HF.out]
                exact KG4.out.set _ _ _ _
            case measure => simp [intOf]; omega
      · have hall : Hid (allV l = true) := by
          have := HA.out
          rwa [List.take_of_length_le (by have := HL.out; omega)] at this
        have hkl : k = len := by omega
        subst hkl
        obtain ⟨z0, z1, z2, z3, zf⟩ := KG.out.facts
        obtain ⟨y0, y1, y2, y3, yf⟩ := KZ.out.facts
        obtain ⟨⟨q1, q2, q3, q4⟩, hqq⟩ : ∃ q, bfk l k = q := ⟨_, rfl⟩
        rw [hqq] at z0 z1 z2 z3
        have HQ := Lib.hid hqq; clear hqq
        simp only at z0 z1 z2 z3
        go_wp2
        refine bodyPost_ret (by simp [results, Try.results15, go_sem, y0, y1, y2, y3]; rfl) rfl ⟨?_, ?_⟩
        · have hy := bok_y hall.out (by have := HL.out; omega)
          exact ret_qb (q := (q1, q2, q3, q4)) (by rw [bq_yes hy, ← HL.out]; exact HQ.out.symm) hy.symm
        · have hb := HB.out
          (repeat (first | assumption | (refine Below.setCell ?_ (by simp) _)))
end Go.Proofs.Ytahaigamigkhbaa
