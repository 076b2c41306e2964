/- Contract: the reference's Check. -/
import Derived.Test.YtpdpaahieplloaaWb
namespace Go.Proofs.Ytpdpaahieplloaa
open Go.ChangeShapes Go.WideShapes Go.ChangeAt Go.RowKit Go.Joins Go.Deep

set_option maxRecDepth 100000 in
set_option maxHeartbeats 1000000 in
theorem checkr_any (v : Value) (l : List Sp) (f e : Int) (w : World) (hv : IsSched w v l f e) :
    Calls Try.prog 11 #[v] w fun en w' => en = .returned (.int .i64 (checkZ l f e)) ∧ Below w.heap.size w w' := by
  obtain ⟨a, len, cap, rfl, hm, hf, he, hs⟩ := hv
  unfold maxLen at hm
  obtain ⟨hlen, hbd, hcell⟩ := hs
  have HL := Lib.hid hlen
  by_cases h8 : 8 < len
  · have fin : Hid (checkZ l f e = 5) := checkZ_long (by omega)
    clear hcell hlen hbd
    go_enter Try.func11, Try.ntmps11
    go_wp2
    go_ret
    exact ⟨ret_i64 fin.out.symm, (Below.refl _ _).alloc (Nat.le_refl _) _⟩
  · have HB := Lib.hid hbd; have HC := Lib.hid hcell
    have H8 : Hid (¬ 8 < l.length) := by show ¬ 8 < l.length; omega
    have hlen0 : Hid (ChkAt l 0) := chkAt_zero l
    clear hcell hlen hbd
    go_enter Try.func11, Try.ntmps11
    go_wp2_with fail
    go_loopw [3] (fun s3 wr => ∃ k : Nat, k ≤ len ∧ s3 = .int .i64 k ∧ Hid (ChkAt l k) ∧ Below (w.heap.size + 1) (w.alloc (.cells #[.slice a len cap, .int .i64 f, .int .i64 e] 24)) wr) (fun s3 _ => len - (intOf s3).toNat)
    case atStart => exact ⟨0, by omega, rfl, hlen0, Below.refl _ _⟩
    case round =>
      clear hlen0
      obtain ⟨k, hk, rfl, HK, hb⟩ := hrel
      have d0 : wr.cell? ⟨w.heap.size, 0, none⟩ = some (.slice a len cap) := by rw [hb.cell (by simp)]; go_simp
      have d1 : wr.cell? ⟨w.heap.size, 1, none⟩ = some (.int .i64 f) := by rw [hb.cell (by simp)]; go_simp
      have d2 : wr.cell? ⟨w.heap.size, 2, none⟩ = some (.int .i64 e) := by rw [hb.cell (by simp)]; go_simp
      have hsz := hb.size
      simp only [World.size_alloc] at hsz
      by_cases hlt : k < len
      · obtain ⟨b, off, rfl, hbl, hc⟩ : ∃ b off, a = some ⟨b, off, none⟩ ∧ b < w.heap.size ∧ ∀ i, i < len → w.cell? ⟨b, off + i * 2, none⟩ = some (.int .i64 (l.getD i (0, 0)).1) ∧ w.cell? ⟨b, off + i * 2 + 1, none⟩ = some (.int .i64 (l.getD i (0, 0)).2) := by
          rcases HC.out with h | h
          · omega
          · exact h
        have e1 : wr.cell? ⟨b, off + k * 2, none⟩ = some (.int .i64 (l.getD k (0, 0)).1) := by
          rw [hb.cell (by show b < w.heap.size + 1; omega), Below.cell ((Below.refl w.heap.size w).alloc (Nat.le_refl _) _) (by exact hbl)]; exact (hc k hlt).1
        have e2 : wr.cell? ⟨b, off + k * 2 + 1, none⟩ = some (.int .i64 (l.getD k (0, 0)).2) := by
          rw [hb.cell (by show b < w.heap.size + 1; omega), Below.cell ((Below.refl w.heap.size w).alloc (Nat.le_refl _) _) (by exact hbl)]; exact (hc k hlt).2
        obtain ⟨c, hcc⟩ : ∃ c, l.getD k (0, 0) = c := ⟨_, rfl⟩
        rw [hcc] at e1 e2
        obtain ⟨c1, c2⟩ := c
        have CC := Lib.hid hcc
        have hkl : Hid (k < l.length) := by show k < l.length; have := HL.out; omega
        have hprev : ∀ j, j < k → wr.cell? ⟨b, off + j * 2 + 1, none⟩ = some (.int .i64 (l.getD j (0, 0)).2) := fun j hj => by
          rw [hb.cell (by show b < w.heap.size + 1; omega), Below.cell ((Below.refl w.heap.size w).alloc (Nat.le_refl _) _) (by exact hbl)]; exact (hc j (by omega)).2
        clear hcc hc
        by_cases hbad : c1 < 0 ∨ c2 ≤ c1 ∨ 1440 < c2
        · clear hprev
          have fin : Hid (checkZ l f e = 2) := by
            have e2 := chk_bad l k HK.out hkl.out (by rw [CC.out]; exact hbad)
            show checkZ l f e = 2
            rw [checkZ_chk H8.out (by omega), e2]
          by_cases h1 : c1 < 0
          · clear hbad
            go_wp2
            go_ret
            exact ⟨ret_i64 fin.out.symm, below_end1 hb hsz⟩
          · by_cases h2 : c2 ≤ c1
            · clear hbad
              go_wp2
              go_ret
              exact ⟨ret_i64 fin.out.symm, below_end1 hb hsz⟩
            · have h3 : 1440 < c2 := by omega
              clear hbad
              go_wp2
              go_ret
              exact ⟨ret_i64 fin.out.symm, below_end1 hb hsz⟩
        · have nb : Hid (¬ spanBad (l.getD k (0, 0))) := by show ¬ spanBad (l.getD k (0, 0)); rw [CC.out]; exact hbad
          have g1 : 0 ≤ c1 := by omega
          have g2 : c1 < c2 := by omega
          have g3 : c2 ≤ 1440 := by omega
          clear hbad
          by_cases hk0 : k = 0
          · subst hk0
            have st : Hid (ChkAt l (0 + 1)) := chk_step l 0 HK.out hkl.out nb.out (by rw [CC.out]; show ¬ c1 < 0; omega)
            simp only [Nat.zero_mul, Nat.add_zero] at e1 e2
            go_wp2
            go_quiet (fail)
            go_wp2
            go_roundw
            case rel => exact ⟨1, by omega, by go_num, st, (hb.alloc (by omega) _).trans (below_drewN (Below.refl _ _) _)⟩
            case measure => simp [intOf]; omega
          · obtain ⟨j, rfl⟩ : ∃ j, k = j + 1 := ⟨k - 1, by omega⟩
            have e3 : wr.cell? ⟨b, off + j * 2 + 1, none⟩ = some (.int .i64 (l.getD j (0, 0)).2) := hprev j (by omega)
            have el : lastOf l (j + 1) = (l.getD j (0, 0)).2 := by unfold lastOf; rw [if_neg (by omega)]; rfl
            obtain ⟨p, hp⟩ : ∃ p, (l.getD j (0, 0)).2 = p := ⟨_, rfl⟩
            rw [hp] at e3 el
            have EL := Lib.hid el
            clear hp el hprev
            have i1 : IntKind.i64.wrap ((j : Int) + 1 - 1) = (j : Int) := by rw [IntKind.wrap_i64]; omega
            have d0a : ∀ o, (wr.alloc o).cell? ⟨w.heap.size, 0, none⟩ = some (.slice (some ⟨b, off, none⟩) len cap) := fun o => by
              rw [Below.cell ((Below.refl wr.heap.size wr).alloc (Nat.le_refl _) o) (by show w.heap.size < wr.heap.size; omega)]; exact d0
            have e3a : ∀ o, (wr.alloc o).cell? ⟨b, off + j * 2 + 1, none⟩ = some (.int .i64 p) := fun o => by
              rw [Below.cell ((Below.refl wr.heap.size wr).alloc (Nat.le_refl _) o) (by show b < wr.heap.size; omega)]; exact e3
            by_cases ho : c1 < p
            · have fin : Hid (checkZ l f e = 6) := by
                have e2 := chk_order l (j + 1) HK.out hkl.out nb.out (by rw [CC.out, EL.out]; exact ho)
                show checkZ l f e = 6
                rw [checkZ_chk H8.out (by omega), e2]
              go_wp2
              go_quiet (fail)
              go_wp2
              go_ret
              exact ⟨ret_i64 fin.out.symm, below_drewN (below_end1 hb hsz) _⟩
            · have st : Hid (ChkAt l (j + 1 + 1)) := chk_step l (j + 1) HK.out hkl.out nb.out (by rw [CC.out, EL.out]; exact ho)
              go_wp2
              go_quiet (fail)
              go_wp2
              go_roundw
              case rel => exact ⟨j + 1 + 1, by omega, by go_num, st, (hb.alloc (by omega) _).trans (below_drewN (Below.refl _ _) _)⟩
              case measure => simp [intOf]; omega
      · obtain rfl : k = len := by omega
        have c0 : Hid (chk l 0 = 0) := by
          show chk l 0 = 0
          refine chk_end l ?_
          rw [← HL.out]; exact HK.out
        have hlt' : decide ((k : Int) < (k : Int)) = false := by simp
        by_cases ht : timeBad f e
        · have fin : Hid (checkZ l f e = 19) := checkZ_time H8.out c0.out ht
          unfold timeBad at ht
          by_cases t1 : e < 0
          · clear ht
            go_wp2
            go_ret
            exact ⟨ret_i64 fin.out.symm, below_end hb⟩
          · by_cases t2 : e = 0
            · subst t2
              have t3 : (f != 0) = true := by simp; omega
              clear ht
              go_wp2
              go_ret
              exact ⟨ret_i64 fin.out.symm, below_end hb⟩
            · have t3 : (e == 0) = false := by simp; omega
              by_cases t4 : f < 0
              · have t6 : 0 < e := by omega
                clear ht
                go_wp2
                go_ret
                exact ⟨ret_i64 fin.out.symm, below_end hb⟩
              · have t5 : 1439 < f := by omega
                have t6 : 0 < e := by omega
                clear ht
                go_wp2
                go_ret
                exact ⟨ret_i64 fin.out.symm, below_end hb⟩
        · have fin : Hid (checkZ l f e = 0) := checkZ_ok H8.out c0.out ht
          unfold timeBad at ht
          by_cases t2 : e = 0
          · subst t2
            obtain rfl : f = 0 := by omega
            clear ht
            go_wp2
            go_ret
            exact ⟨ret_i64 fin.out.symm, below_end hb⟩
          · have t3 : (e == 0) = false := by simp; omega
            have t4 : 0 < e := by omega
            have t5 : 0 ≤ f := by omega
            have t6 : f < 1440 := by omega
            clear ht
            go_wp2
            go_ret
            exact ⟨ret_i64 fin.out.symm, below_end hb⟩
end Go.Proofs.Ytpdpaahieplloaa
