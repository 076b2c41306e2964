/- Contracts: Check and its reference. -/
import Derived.Test.YtpdpaahieplloaaWa
namespace Go.Proofs.Ytpdpaahieplloaa
open Go.ChangeShapes Go.WideShapes Go.ChangeAt Go.RowKit Go.Joins Go.Deep

theorem checkZ_long {l : List Sp} {f e : Int} (h : 8 < l.length) : checkZ l f e = 5 := if_pos h
theorem checkZ_chk {l : List Sp} {f e : Int} (h : ¬ 8 < l.length) (h2 : chk l 0 ≠ 0) : checkZ l f e = chk l 0 := by
  unfold checkZ; rw [if_neg h, if_neg h2]
theorem checkZ_time {l : List Sp} {f e : Int} (h : ¬ 8 < l.length) (h2 : chk l 0 = 0) (h3 : timeBad f e) : checkZ l f e = 19 := by
  unfold checkZ; rw [if_neg h, if_pos h2, if_pos h3]
theorem checkZ_ok {l : List Sp} {f e : Int} (h : ¬ 8 < l.length) (h2 : chk l 0 = 0) (h3 : ¬ timeBad f e) : checkZ l f e = 0 := by
  unfold checkZ; rw [if_neg h, if_pos h2, if_neg h3]

/- the end of a walk behind the box: at most one block more -/
theorem below_end1 {w wr : World} {o o' : Obj} (hb : Below (w.heap.size + 1) (w.alloc o) wr) (hsz : w.heap.size + 1 ≤ wr.heap.size) : Below w.heap.size w (wr.alloc o') :=
  (((Below.refl _ _).alloc (Nat.le_refl _) _).trans (hb.mono (by omega))).alloc (by omega) _
theorem below_end {w wr : World} {o : Obj} (hb : Below (w.heap.size + 1) (w.alloc o) wr) : Below w.heap.size w wr :=
  ((Below.refl _ _).alloc (Nat.le_refl _) _).trans (hb.mono (by omega))

set_option maxRecDepth 100000 in
set_option maxHeartbeats 1000000 in
theorem check_any (v : Value) (l : List Sp) (f e : Int) (w : World) (hv : IsSched w v l f e) :
    Calls Try.prog 10 #[v] w fun en w' => en = .returned (.int .i64 (checkZ l f e)) ∧ Below w.heap.size w w' := by
  obtain ⟨a, len, cap, rfl, hm, hf, he, hs⟩ := hv
  unfold maxLen at hm
  obtain ⟨hlen, hbd, hcell⟩ := hs
  have HL := Lib.hid hlen
  by_cases h8 : 8 < len
  · have fin : Hid (checkZ l f e = 5) := checkZ_long (by omega)
    clear hcell hlen hbd
    go_enter Try.func10, Try.ntmps10
    go_wp2
    go_ret
    exact ⟨ret_i64 fin.out.symm, (Below.refl _ _).alloc (Nat.le_refl _) _⟩
  · have HB := Lib.hid hbd; have HC := Lib.hid hcell
    have H8 : Hid (¬ 8 < l.length) := by show ¬ 8 < l.length; omega
    have hlen0 : Hid (ChkAt l 0) := chkAt_zero l
    clear hcell hlen hbd
    go_enter Try.func10, Try.ntmps10
    go_wp2_with fail
    go_loopw [3, 13] (fun s3 s13 wr => ∃ k : Nat, k ≤ len ∧ s3 = .int .i64 (lastOf l k) ∧ s13 = .int .i64 k ∧ Hid (ChkAt l k) ∧ Below (w.heap.size + 1) (w.alloc (.cells #[.slice a len cap, .int .i64 f, .int .i64 e] 24)) wr) (fun _ s13 _ => len - (intOf s13).toNat)
    case atStart => exact ⟨0, by omega, rfl, rfl, hlen0, Below.refl _ _⟩
    case round =>
      clear hlen0
      obtain ⟨k, hk, rfl, rfl, HK, hb⟩ := hrel
      have d0 : wr.cell? ⟨w.heap.size, 0, none⟩ = some (.slice a len cap) := by rw [hb.cell (by simp)]; go_simp
      have d1 : wr.cell? ⟨w.heap.size, 1, none⟩ = some (.int .i64 f) := by rw [hb.cell (by simp)]; go_simp
      have d2 : wr.cell? ⟨w.heap.size, 2, none⟩ = some (.int .i64 e) := by rw [hb.cell (by simp)]; go_simp
      have hsz := hb.size
      simp only [World.size_alloc] at hsz
      by_cases hlt : k < len
      · obtain ⟨b, off, rfl, hbl, hc⟩ : ∃ b off, a = some ⟨b, off, none⟩ ∧ b < w.heap.size ∧ ∀ i, i < len → w.cell? ⟨b, off + i * 2, none⟩ = some (.int .i64 (l.getD i (0, 0)).1) ∧ w.cell? ⟨b, off + i * 2 + 1, none⟩ = some (.int .i64 (l.getD i (0, 0)).2) := by
          rcases HC.out with h | h
          · omega
          · exact h
        have e1 : wr.cell? ⟨b, off + k * 2, none⟩ = some (.int .i64 (l.getD k (0, 0)).1) := by
          rw [hb.cell (by show b < w.heap.size + 1; omega), Below.cell ((Below.refl w.heap.size w).alloc (Nat.le_refl _) _) (by exact hbl)]; exact (hc k hlt).1
        have e2 : wr.cell? ⟨b, off + k * 2 + 1, none⟩ = some (.int .i64 (l.getD k (0, 0)).2) := by
          rw [hb.cell (by show b < w.heap.size + 1; omega), Below.cell ((Below.refl w.heap.size w).alloc (Nat.le_refl _) _) (by exact hbl)]; exact (hc k hlt).2
        obtain ⟨c, hcc⟩ : ∃ c, l.getD k (0, 0) = c := ⟨_, rfl⟩
        rw [hcc] at e1 e2
        obtain ⟨c1, c2⟩ := c
        have CC := Lib.hid hcc
        have hkl : Hid (k < l.length) := by show k < l.length; have := HL.out; omega
        clear hcc hc
        by_cases hbad : c1 < 0 ∨ c2 ≤ c1 ∨ 1440 < c2
        · have fin : Hid (checkZ l f e = 2) := by
            have e2 := chk_bad l k HK.out hkl.out (by rw [CC.out]; exact hbad)
            show checkZ l f e = 2
            rw [checkZ_chk H8.out (by omega), e2]
          by_cases h1 : c1 < 0
          · clear hbad
            go_wp2
            go_ret
            exact ⟨ret_i64 fin.out.symm, below_end1 hb hsz⟩
          · by_cases h2 : c2 ≤ c1
            · clear hbad
              go_wp2
              go_ret
              exact ⟨ret_i64 fin.out.symm, below_end1 hb hsz⟩
            · have h3 : 1440 < c2 := by omega
              clear hbad
              go_wp2
              go_ret
              exact ⟨ret_i64 fin.out.symm, below_end1 hb hsz⟩
        · have nb : Hid (¬ spanBad (l.getD k (0, 0))) := by show ¬ spanBad (l.getD k (0, 0)); rw [CC.out]; exact hbad
          have g1 : 0 ≤ c1 := by omega
          have g2 : c1 < c2 := by omega
          have g3 : c2 ≤ 1440 := by omega
          clear hbad
          by_cases ho : c1 < lastOf l k
          · have fin : Hid (checkZ l f e = 6) := by
              have e2 := chk_order l k HK.out hkl.out nb.out (by rw [CC.out]; exact ho)
              show checkZ l f e = 6
              rw [checkZ_chk H8.out (by omega), e2]
            go_wp2
            go_ret
            exact ⟨ret_i64 fin.out.symm, below_end1 hb hsz⟩
          · have st : Hid (ChkAt l (k + 1)) := chk_step l k HK.out hkl.out nb.out (by rw [CC.out]; exact ho)
            have el : Hid (lastOf l (k + 1) = c2) := by
              show lastOf l (k + 1) = c2
              unfold lastOf; rw [if_neg (by omega)]
              show (l.getD k (0, 0)).2 = c2
              rw [CC.out]
            go_wp2
            go_roundw
            case rel => exact ⟨k + 1, by omega, by rw [el.out], by go_num, st, hb.alloc (by omega) _⟩
            case measure => simp [intOf]; omega
      · obtain rfl : k = len := by omega
        have c0 : Hid (chk l 0 = 0) := by
          show chk l 0 = 0
          refine chk_end l ?_
          rw [← HL.out]; exact HK.out
        have hlt' : decide ((k : Int) < (k : Int)) = false := by simp
        by_cases ht : timeBad f e
        · have fin : Hid (checkZ l f e = 19) := checkZ_time H8.out c0.out ht
          unfold timeBad at ht
          by_cases t1 : e < 0
          · clear ht
            go_wp2
            go_ret
            exact ⟨ret_i64 fin.out.symm, below_end hb⟩
          · by_cases t2 : e = 0
            · subst t2
              have t3 : (f != 0) = true := by simp; omega
              clear ht
              go_wp2
              go_ret
              exact ⟨ret_i64 fin.out.symm, below_end hb⟩
            · have t3 : (e == 0) = false := by simp; omega
              by_cases t4 : f < 0
              · clear ht
                go_wp2
                go_ret
                exact ⟨ret_i64 fin.out.symm, below_end hb⟩
              · have t5 : 1440 ≤ f := by omega
                clear ht
                go_wp2
                go_ret
                exact ⟨ret_i64 fin.out.symm, below_end hb⟩
        · have fin : Hid (checkZ l f e = 0) := checkZ_ok H8.out c0.out ht
          unfold timeBad at ht
          by_cases t2 : e = 0
          · subst t2
            obtain rfl : f = 0 := by omega
            clear ht
            go_wp2
            go_ret
            exact ⟨ret_i64 fin.out.symm, below_end hb⟩
          · have t3 : (e == 0) = false := by simp; omega
            have t4 : 0 < e := by omega
            have t5 : 0 ≤ f := by omega
            have t6 : f < 1440 := by omega
            clear ht
            go_wp2
            go_ret
            exact ⟨ret_i64 fin.out.symm, below_end hb⟩
end Go.Proofs.Ytpdpaahieplloaa
