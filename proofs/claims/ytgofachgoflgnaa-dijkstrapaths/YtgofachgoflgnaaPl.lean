/- pq: New. -/
import Derived.Test.YtgofachgoflgnaaPk
import Derived.Deep.RegionWith
namespace Go.Proofs.Ytgofachgoflgnaa
open Go.ChangeShapes Go.WideShapes Go.ChangeAt Go.RowKit Go.Joins Go.Deep

theorem getD_rep (n k : Nat) (x : Int) (h : k < n) : (List.replicate n x).getD k 0 = x := by rw [List.getD, List.getElem?_replicate, if_pos h]; rfl
theorem getD_repB (n k : Nat) : (List.replicate n false).getD k false = false := by
  rw [List.getD, List.getElem?_replicate]; split <;> rfl
theorem new_inv {n : Nat} (hn : n ≤ 1048576) : Inv (List.replicate n false) [] (List.replicate n 0) (List.replicate n (-1)) := by
  refine ⟨⟨fun i hi => absurd hi (by simp), by simp, fun X hX => ?_, fun X hX h => ?_, ?_, by simpa using hn⟩, fun k _ hk => absurd hk (by simp)⟩
  · rw [List.length_replicate] at hX
    rw [getD_repB, getD_rep _ _ _ hX]; simp
  · rw [List.length_replicate] at hX
    rw [getD_rep _ _ _ hX] at h; exact absurd rfl h
  · rw [List.count_replicate]; rfl
theorem new_qi {W : World} {b kb pb n : Nat} (hn : n ≤ 1048576) (hk : W.heap[kb]? = some (.cells (madeCells #[.int .i64 0] n) 3 (0, 0))) (hp : Ints W b (.slice (some ⟨pb, 0, none⟩) n n) (List.replicate n (-1))) (hkp : kb ≠ pb) :
    QI (W.alloc (.cells #[.slice none 0 0, .slice (some ⟨kb, 0, none⟩) n n, .slice (some ⟨pb, 0, none⟩) n n] 73)) W.heap.size (fun k => k = kb ∨ k = pb ∨ k = W.heap.size) (List.replicate n false) (List.replicate n 0) := by
  have ltk : kb < W.heap.size := by
    by_cases hl : kb < W.heap.size
    · exact hl
    · rw [Array.getElem?_eq_none (Nat.le_of_not_lt hl)] at hk; cases hk
  have ltp : pb < W.heap.size := (hp.lt pb rfl).2
  have ik : Ints W 0 (.slice (some ⟨kb, 0, none⟩) n n) (List.replicate n 0) := by
    refine ⟨by simp [ivs], Or.inr ⟨kb, n, madeCells #[.int .i64 0] n, by simp, Nat.zero_le _, hk, by simp, by unfold maxLen; omega, by rw [← Array.length_toList, toList_madeCells_one]; simp, ?_⟩⟩
    rw [toList_madeCells_one]; simp [ivs]
  have ip : Ints W 0 (.slice (some ⟨pb, 0, none⟩) n n) (List.replicate n (-1)) := by
    refine ⟨hp.1, ?_⟩
    rcases hp.2 with ⟨e, _⟩ | ⟨g, cap, cur, e, h1, h2⟩
    · cases e
    · exact Or.inr ⟨g, cap, cur, e, Nat.zero_le _, h2⟩
  have sm : ∀ k, k < W.heap.size → (W.alloc (.cells #[.slice none 0 0, .slice (some ⟨kb, 0, none⟩) n n, .slice (some ⟨pb, 0, none⟩) n n] 73)).heap[k]? = W.heap[k]? := fun k h => Below.heap_alloc _ _ _ h
  refine ⟨.slice none 0 0, .slice (some ⟨kb, 0, none⟩) n n, .slice (some ⟨pb, 0, none⟩) n n, [], List.replicate n (-1), ⟨heap_alloc_new _ _, World.ownsRow_nil _ _ _ _, ik.same (fun g e => ?_), ip.same (fun g e => ?_), by simp, ?_, ?_, ?_, ?_, ?_, ?_, Or.inr (Or.inr rfl), ?_, ?_, ?_, ?_⟩, new_inv hn⟩
  · rw [← own_slice e]; exact sm _ ltk
  · rw [← own_slice e]; exact sm _ ltp
  · intro a h; cases h
  · intro a h; cases h
  · intro a h1 h2; exact hkp ((own_slice h1).trans (own_slice h2).symm)
  · intro h; cases h
  · intro h; have := own_slice h; omega
  · intro h; have := own_slice h; omega
  · intro a h; cases h
  · intro a h; exact Or.inl (own_slice h).symm
  · intro a h; exact Or.inr (Or.inl (own_slice h).symm)
  · intro a h; rw [World.size_alloc]; rcases h with h | h | h <;> omega
theorem new_no {n : Int} (hn : n < 0 ∨ 1048576 < n) (w : World) : Calls Try.prog 30 #[.int .i64 n] w fun e w' => e = .returned (.pointer none) ∧ w = w' := by
  rcases Int.lt_or_le n 0 with h | h
  · go_enter Try.func30, Try.ntmps30
    go_wp2
    go_ret
    exact ⟨rfl, rfl⟩
  · have h1 : 1048576 < n := by omega
    have h2 : ¬ n < 0 := by omega
    clear hn h
    go_enter Try.func30, Try.ntmps30
    go_wp2
    go_ret
    exact ⟨rfl, rfl⟩
def NewPost (n : Nat) (w : World) (e : Ending) (w' : World) : Prop := ∃ (qb : Nat) (F : Nat → Prop), e = .returned (qp qb) ∧ QI w' qb F (List.replicate n false) (List.replicate n 0) ∧ Below w.heap.size w w' ∧ ∀ k, F k → w.heap.size ≤ k
theorem make27 (n : Nat) (hn : n ≤ 1048576) (w : World) : Sem.run Try.prog (Instr.makeSlice 25 (.int .i64 (n : Int)) (.int .i64 (n : Int))) w = .ok (.slice (some ⟨w.heap.size, 0, none⟩) n n) (w.alloc (.cells (madeCells #[.int .i64 0] n) 3)) := by
  obtain ⟨i0, hi, hz0, hz1, hz2⟩ := info_parts info3
  exact run_make_row 25 3 i0 (.int .i64 0) Try.underlying25 hi hz0 hz1 rfl .i64 .i64 n (by rw [hz2]; omega) (by omega) w
theorem new_e1 {w W0 w2 : World} {kb pb n : Nat} (hn : n ≤ 1048576) (bl : Below w.heap.size w W0) (hk : W0.heap[kb]? = some (.cells (madeCells #[.int .i64 0] n) 3 (0, 0))) (r1 : Ints w2 W0.heap.size (.slice (some ⟨W0.heap.size, 0, none⟩) n n) (List.replicate n (-1))) (r2 : Below W0.heap.size W0 w2) (hpb : pb = W0.heap.size) (h1 : w.heap.size ≤ kb) :
    NewPost n w (.returned (qp w2.heap.size)) (w2.alloc (.cells #[.slice none 0 0, .slice (some ⟨kb, 0, none⟩) n n, .slice (some ⟨pb, 0, none⟩) n n] 73)) := by
  subst hpb
  have ltk : kb < W0.heap.size := by
    by_cases hl : kb < W0.heap.size
    · exact hl
    · rw [Array.getElem?_eq_none (Nat.le_of_not_lt hl)] at hk; cases hk
  have s1 := bl.size; have s2 := r2.size
  refine ⟨_, _, rfl, new_qi hn (by rw [r2.block _ ltk]; exact hk) r1 (by omega), (bl.trans (r2.mono s1)).alloc (by omega) _, fun k h => ?_⟩
  rcases h with h | h | h <;> omega
theorem new_e2 {w W0 w2 : World} {pb n : Nat} (hn : n ≤ 1048576) (bl : Below w.heap.size w W0) (r1 : Ints w2 W0.heap.size (.slice (some ⟨W0.heap.size, 0, none⟩) n n) (List.replicate n (-1))) (r2 : Below W0.heap.size W0 w2) (r3 : W0.heap.size < w2.heap.size) (hpb : pb = W0.heap.size) :
    NewPost n w (.returned (qp (w2.heap.size + 1))) ((w2.alloc (.cells (madeCells #[.int .i64 0] n) 3)).alloc (.cells #[.slice none 0 0, .slice (some ⟨w2.heap.size, 0, none⟩) n n, .slice (some ⟨pb, 0, none⟩) n n] 73)) := by
  subst hpb
  have s1 := bl.size; have s2 := r2.size
  have r1' : Ints (w2.alloc (.cells (madeCells #[.int .i64 0] n) 3)) W0.heap.size (.slice (some ⟨W0.heap.size, 0, none⟩) n n) (List.replicate n (-1)) := r1.same (fun g e => by rw [← own_slice e]; exact Below.heap_alloc _ _ _ r3)
  have q := new_qi hn (heap_alloc_new w2 (.cells (madeCells #[.int .i64 0] n) 3)) r1' (by omega)
  rw [World.size_alloc] at q
  refine ⟨_, _, rfl, q, ((bl.trans (r2.mono s1)).alloc (by omega) _).alloc (by rw [World.size_alloc]; omega) _, fun k h => ?_⟩
  rcases h with h | h | h <;> omega
set_option maxRecDepth 100000 in
set_option maxHeartbeats 4000000 in
theorem new_any (n : Nat) (hn : n ≤ 1048576) (w : World) : Calls Try.prog 30 #[.int .i64 n] w (NewPost n w) := by
  have n0 : ¬ (n : Int) < 0 := by omega
  have n1 : ¬ 1048576 < (n : Int) := by omega
  have HN := Lib.hid hn
  have M := make27 n hn
  clear hn
  go_enter Try.func30, Try.ntmps30
  go_wp2_with fail
  go_region_with (go_at_call 29; refine (repeat_any HN.out (by go_simp)).mono ?_; rintro e w2 ⟨rfl, r1, r2, r3⟩)
  all_goals (go_wp2_with fail)
  all_goals (go_ret)
  · exact new_e1 HN.out (((Below.refl _ w).alloc (Nat.le_refl _) _).alloc (by simp) _).drew (by show ((w.alloc _).alloc _).heap[w.heap.size]? = _; rw [Below.heap_alloc _ _ _ (by simp), heap_alloc_new]) r1 r2 (by simp) (Nat.le_refl _)
  · exact new_e1 HN.out (((Below.refl _ w).alloc (Nat.le_refl _) _).alloc (by simp) _).drew (by show ((w.alloc _).alloc _).heap[w.heap.size + 1]? = _; have := heap_alloc_new (w.alloc (.cells #[.int .i64 (-1)] 3)) (.cells (madeCells #[.int .i64 0] n) 3); rw [World.size_alloc] at this; exact this) r1 r2 (by simp) (by omega)
  · exact new_e2 HN.out ((Below.refl _ w).alloc (Nat.le_refl _) _).drew r1 r2 r3 (by simp)
end Go.Proofs.Ytgofachgoflgnaa
