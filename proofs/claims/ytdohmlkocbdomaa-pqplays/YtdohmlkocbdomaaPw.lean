/- pq: the reference's New and Len. -/
import Derived.Test.YtdohmlkocbdomaaPv
import Derived.Deep.RegionWith
namespace Go.Proofs.Ytdohmlkocbdomaa
open Go.ChangeShapes Go.WideShapes Go.ChangeAt Go.RowKit Go.Joins Go.Deep

theorem make26 (n : Nat) (hn : n ≤ 1048576) (w : World) : Sem.run Try.prog (Instr.makeSlice 26 (.int .i64 (n : Int)) (.int .i64 (n : Int))) w = .ok (.slice (some ⟨w.heap.size, 0, none⟩) n n) (w.alloc (.cells (madeCells #[.bool false] n) 4)) := by
  obtain ⟨i0, hi, hz0, hz1, hz2⟩ := info_parts info4
  exact run_make_row 26 4 i0 (.bool false) Try.underlying26 hi hz0 hz1 rfl .i64 .i64 n (by rw [hz2]; omega) (by omega) w
theorem madeB (n : Nat) : madeCells #[.bool false] n = (bvs (List.replicate n false)).toArray := by apply Array.ext'; rw [toList_madeCells_one]; simp [bvs]
theorem madeI (n : Nat) : madeCells #[.int .i64 0] n = (ivs (List.replicate n 0)).toArray := by apply Array.ext'; rw [toList_madeCells_one]; simp [ivs]
theorem rn1 (w : World) (n : Nat) (o : Obj) : RefS (((w.alloc o).alloc (.cells (madeCells #[.bool false] n) 4)).alloc (.cells (madeCells #[.int .i64 0] n) 3)).drew (w.heap.size + 1) (w.heap.size + 1 + 1) n (List.replicate n false) (List.replicate n 0) ∧
    Below w.heap.size w (((w.alloc o).alloc (.cells (madeCells #[.bool false] n) 4)).alloc (.cells (madeCells #[.int .i64 0] n) 3)).drew := by
  refine ⟨⟨?_, ?_, by omega, by simp, by simp⟩, ((((Below.refl _ _).alloc (Nat.le_refl _) _).alloc (by simp) _).alloc (by simp; omega) _).drew⟩
  · have h := (Row.new (w.alloc o) 4 (bvs (List.replicate n false))).alloc (.cells (madeCells #[.int .i64 0] n) 3)
    rw [World.size_alloc, ← madeB] at h
    exact h.same rfl
  · have h := Row.new ((w.alloc o).alloc (.cells (madeCells #[.bool false] n) 4)) 3 (ivs (List.replicate n 0))
    rw [World.size_alloc, World.size_alloc, ← madeI] at h
    exact h.same rfl
theorem rn2 (w : World) (n : Nat) (o : Obj) : RefS (((w.alloc o).alloc (.cells (madeCells #[.int .i64 0] n) 3)).alloc (.cells (madeCells #[.bool false] n) 4)).drew (w.heap.size + 1 + 1) (w.heap.size + 1) n (List.replicate n false) (List.replicate n 0) ∧
    Below w.heap.size w (((w.alloc o).alloc (.cells (madeCells #[.int .i64 0] n) 3)).alloc (.cells (madeCells #[.bool false] n) 4)).drew := by
  refine ⟨⟨?_, ?_, by omega, by simp, by simp⟩, ((((Below.refl _ _).alloc (Nat.le_refl _) _).alloc (by simp) _).alloc (by simp; omega) _).drew⟩
  · have h := Row.new ((w.alloc o).alloc (.cells (madeCells #[.int .i64 0] n) 3)) 4 (bvs (List.replicate n false))
    rw [World.size_alloc, World.size_alloc, ← madeB] at h
    exact h.same rfl
  · have h := (Row.new (w.alloc o) 3 (ivs (List.replicate n 0))).alloc (.cells (madeCells #[.bool false] n) 4)
    rw [World.size_alloc, ← madeI] at h
    exact h.same rfl
set_option maxRecDepth 100000 in
set_option maxHeartbeats 4000000 in
theorem rnew_any (n : Nat) (hn : n ≤ 1048576) (w : World) : Calls Try.prog 10 #[.int .i64 n] w fun e w' => ∃ ib kb, e = .returned (rv ib kb n) ∧ RefS w' ib kb n (List.replicate n false) (List.replicate n 0) ∧ Below w.heap.size w w' ∧ w.heap.size ≤ ib ∧ w.heap.size ≤ kb := by
  have M := make27 n hn; have M2 := make26 n hn
  clear hn
  go_enter Try.func10, Try.ntmps10
  go_wp2_with fail
  go_region
  all_goals (go_wp2_with fail)
  · have L := rn1 w n (.cells #[sl (w.heap.size + 1) n, sl (w.heap.size + 1 + 1) n] 29)
    refine bodyPost_ret (by simp [results, Try.results10, go_sem]) rfl ⟨w.heap.size + 1, w.heap.size + 1 + 1, rfl, L.1, L.2, by omega, by omega⟩
  · have L := rn2 w n (.cells #[sl (w.heap.size + 1 + 1) n, sl (w.heap.size + 1) n] 29)
    refine bodyPost_ret (by simp [results, Try.results10, go_sem]) rfl ⟨w.heap.size + 1 + 1, w.heap.size + 1, rfl, L.1, L.2, by omega, by omega⟩
/- how many of the first k are in -/
theorem count_take {ins : List Bool} {k : Nat} (hk : k < ins.length) : (ins.take (k + 1)).count true = (ins.take k).count true + (if ins.getD k false = true then 1 else 0) := by
  rw [List.take_add_one, List.count_append, List.getElem?_eq_getElem hk, List.getD, List.getElem?_eq_getElem hk]
  simp only [Option.toList_some, Option.getD_some]
  cases ins[k] <;> rfl
set_option maxRecDepth 100000 in
set_option maxHeartbeats 4000000 in
theorem rlen_any {w : World} {ib kb n : Nat} {ins : List Bool} {ks : List Int} (R : RefS w ib kb n ins ks) (hn : n ≤ 1048576) :
    Calls Try.prog 20 #[rv ib kb n] w fun e w' => e = .returned (.int .i64 ((ins.count true : Nat) : Int)) ∧ Below w.heap.size w w' := by
  obtain ⟨W1, hW1⟩ : ∃ W1, w.alloc (.cells #[sl ib n, sl kb n] 29) = W1 := ⟨_, rfl⟩
  have r1 : Row W1 w.heap.size 29 [sl ib n, sl kb n] := by rw [← hW1]; exact Row.new _ _ _
  have b1 : Below w.heap.size w W1 := by rw [← hW1]; exact (Below.refl _ _).alloc (Nat.le_refl _) _
  have q0 := r1.cell (i := 0) rfl
  have BB := Lib.hid b1; have RR := Lib.hid (R.below b1); have HN := Lib.hid hn
  clear b1 r1 R hn
  go_enter Try.func20, Try.ntmps20
  go_wp2_with fail
  go_loop [3, 4] (fun s3 s4 => ∃ k c : Nat, k ≤ n ∧ Hid (c = (ins.take k).count true ∧ c ≤ k) ∧ s3 = .int .i64 (c : Int) ∧ s4 = .int .i64 (k : Int)) (fun _ s4 => n - (intOf s4).toNat)
  case atStart => exact ⟨0, 0, Nat.zero_le _, ⟨rfl, Nat.le_refl _⟩, rfl, rfl⟩
  case round =>
    obtain ⟨k, c, hk, HC, rfl, rfl⟩ := hrel
    by_cases hkn : k < n
    · obtain ⟨k1, hk1⟩ : ∃ k1, k + 1 = k1 := ⟨_, rfl⟩
      obtain ⟨c1, hc1⟩ : ∃ c1, c + 1 = c1 := ⟨_, rfl⟩
      have HK := Lib.hid hk1; have HC1 := Lib.hid hc1
      have k0 : (0 : Int) ≤ (k : Int) := by omega
      have kl : (k : Int) < (n : Int) := by omega
      have e1 : (k : Int) + 1 = (k1 : Int) := by omega
      have e2 : IntKind.i64.wrap (k1 : Int) = (k1 : Int) := by rw [IntKind.wrap_i64]; have := HN.out; omega
      have e3 : (c : Int) + 1 = (c1 : Int) := by omega
      have e4 : IntKind.i64.wrap (c1 : Int) = (c1 : Int) := by rw [IntKind.wrap_i64]; have := HN.out; have := HC.out.2; omega
      have ci := RR.out.ci hkn
      have CT := Lib.hid (count_take (ins := ins) (k := k) (by rw [RR.out.il]; exact hkn))
      clear hk1 hc1
      cases hb : ins.getD k false
      · rw [hb] at ci CT
        clear hb
        go_wp2_with fail
        go_round
        case measure => simp [intOf]; have := HK.out; omega
        case rel => exact ⟨k1, c, by have := HK.out; omega, ⟨by rw [← HK.out, CT.out, HC.out.1]; simp, by have := HC.out.2; have := HK.out; omega⟩, rfl, rfl⟩
      · rw [hb] at ci CT
        clear hb
        go_wp2_with fail
        go_round
        case measure => simp [intOf]; have := HK.out; omega
        case rel => exact ⟨k1, c1, by have := HK.out; omega, ⟨by rw [← HK.out, CT.out, ← HC.out.1, ← HC1.out]; simp, by have := HC.out.2; have := HK.out; have := HC1.out; omega⟩, rfl, rfl⟩
    · have kl : ¬ (k : Int) < (n : Int) := by omega
      obtain rfl : k = n := by omega
      have ec : Hid (c = ins.count true) := by have := HC.out.1; rw [List.take_of_length_le (by rw [RR.out.il]; omega)] at this; exact this
      go_wp2_with fail
      go_ret
      exact ⟨by rw [← ec.out]; rfl, BB.out⟩
end Go.Proofs.Ytdohmlkocbdomaa
