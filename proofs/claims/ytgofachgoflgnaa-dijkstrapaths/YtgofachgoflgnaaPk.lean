/- pq: slices.Repeat of one number. -/
import Derived.Test.YtgofachgoflgnaaPj
import Derived.Shelf.Bits.Mul64
import Derived.Laws.CopyOwn
import Derived.Deep.OwnRows
namespace Go.Proofs.Ytgofachgoflgnaa
open Go.ChangeShapes Go.WideShapes Go.ChangeAt Go.RowKit Go.Joins Go.Deep

theorem mul64_one (n : Nat) (hn : n ≤ 1048576) (w : World) : Calls Try.prog 42 #[.int .u64 1, .int .u64 n] w fun e w' => e = .returned (.tuple #[.int .u64 0, .int .u64 n]) ∧ w = w' := by
  have b1 : bits .and .u64 1 4294967295 = 1 := by have := Mul64.maskN 1 (by decide); exact this
  have b0 : bits .and .u64 0 4294967295 = 0 := by have := Mul64.maskN 0 (by decide); exact this
  have bn : bits .and .u64 (n : Int) 4294967295 = (n : Int) := by rw [Mul64.maskN n (by omega), Nat.mod_eq_of_lt (by omega)]
  have d : (n : Int) / 4294967296 = 0 := by omega
  have wn : IntKind.u64.wrap (n : Int) = (n : Int) := Mul64.wrapN n (by omega)
  clear hn
  go_enter Try.func42, Try.ntmps42
  go_wp2
  go_ret2
  exact ⟨rfl, rfl⟩
theorem mul_one (n : Nat) (hn : n ≤ 1048576) (w : World) : Calls Try.prog 36 #[.int .u64 1, .int .u64 n] w fun e w' => e = .returned (.tuple #[.int .u64 0, .int .u64 n]) ∧ w = w' := by
  have H := Lib.hid (mul64_one n hn w)
  clear hn
  go_enter Try.func36, Try.ntmps36
  go_wp2_with fail
  refine H.out.mono ?_; rintro e w' ⟨rfl, rfl⟩
  go_wp2_with fail
  go_ret2
  exact ⟨rfl, rfl⟩
/- a row of n numbers, the first k of which are -1 -/
def rep (k n : Nat) : List Value := List.replicate k (.int .i64 (-1)) ++ List.replicate (n - k) (.int .i64 0)
def mone (c : Nat) : List Value := List.replicate c (.int .i64 (-1))
theorem rep_len {k n : Nat} (h : k ≤ n) : (rep k n).length = n := by unfold rep; simp; omega
theorem rep_splice {k n c : Nat} (h : k + c ≤ n) : splice (rep k n) k (mone c) = rep (k + c) n := by
  unfold splice rep mone
  rw [List.take_left' (by simp), List.length_replicate, List.drop_append]
  have e1 : List.drop (k + c) (List.replicate k (Value.int .i64 (-1))) = [] := by simp
  rw [e1, List.nil_append, List.drop_replicate, List.length_replicate, ← List.append_assoc, List.replicate_append_replicate]
  congr 2; omega
theorem mone_one (c : Nat) : ∀ v ∈ mone c, v.oneCell' = true := by
  intro v hv
  rw [List.eq_of_mem_replicate hv]; rfl
theorem rep_cell {w : World} {g k n : Nat} (hg : w.heap[g]? = some (.cells (rep k n).toArray 3 (0, 0))) {c : Nat} (hc : c ≤ k) : ∀ (j : Nat) (v : Value), (mone c)[j]? = some v → w.cell? ((⟨g, 0, none⟩ : Addr).add j) = some v := by
  intro j v h
  have hj : j < c := by
    have := (List.getElem?_eq_some_iff.1 h).1
    simpa [mone] using this
  have ev : v = .int .i64 (-1) := by
    unfold mone at h
    rw [List.getElem?_replicate, if_pos hj] at h
    injection h with h; exact h.symm
  have e : (⟨g, 0, none⟩ : Addr).add j = ⟨g, j, none⟩ := by unfold Addr.add; split <;> simp_all
  have e2 : (rep k n)[j]? = some (.int .i64 (-1)) := by
    unfold rep
    rw [List.getElem?_append_left (by rw [List.length_replicate]; omega), List.getElem?_replicate, if_pos (by omega)]
  rw [e, ev]
  unfold World.cell?
  rw [hg]
  simpa using e2
theorem one_cell {w : World} {xb n : Nat} (h : w.cell? ⟨xb, 0, none⟩ = some (.int .i64 (-1))) : ∀ (j : Nat) (v : Value), (mone (Nat.min 1 n))[j]? = some v → w.cell? ((⟨xb, 0, none⟩ : Addr).add j) = some v := by
  intro j v hv
  have hj : j < Nat.min 1 n := by
    have := (List.getElem?_eq_some_iff.1 hv).1
    simpa [mone] using this
  have ev : v = .int .i64 (-1) := by
    unfold mone at hv
    rw [List.getElem?_replicate, if_pos hj] at hv
    injection hv with hv; exact hv.symm
  have j0 : j = 0 := by have : Nat.min 1 n ≤ 1 := Nat.min_le_left 1 n; omega
  subst j0
  rw [ev]; exact h
set_option maxRecDepth 100000 in
set_option maxHeartbeats 4000000 in
theorem repeat_any {w : World} {xb n : Nat} (hn : n ≤ 1048576) (hx : w.cell? ⟨xb, 0, none⟩ = some (.int .i64 (-1))) :
    Calls Try.prog 29 #[.slice (some ⟨xb, 0, none⟩) 1 1, .int .i64 n] w fun e w' => e = .returned (.slice (some ⟨w.heap.size, 0, none⟩) n n) ∧ Ints w' w.heap.size (.slice (some ⟨w.heap.size, 0, none⟩) n n) (List.replicate n (-1)) ∧ Below w.heap.size w w' ∧ w.heap.size < w'.heap.size := by
  obtain ⟨i0, hi, hz0, hz1, hz2⟩ := info_parts info3
  have II := Lib.hid hi; have Z0 := Lib.hid hz0; have Z1 := Lib.hid hz1; have Z2 := Lib.hid hz2
  have HN := Lib.hid hn
  have MU := Lib.hid (mul_one n hn w)
  have xlt := Lib.hid (q_cell_lt hx)
  have HX := Lib.hid hx
  obtain ⟨W1, hW1⟩ : ∃ W1, w.alloc (.cells (madeCells #[.int .i64 0] n) 3) = W1 := ⟨_, rfl⟩
  have g1 : Hid (W1.heap[w.heap.size]? = some (.cells (rep 0 n).toArray 3 (0, 0))) := by
    show W1.heap[w.heap.size]? = _
    rw [← hW1, heap_alloc_new]
    congr 2
    apply Array.ext'
    rw [toList_madeCells_one]; simp [rep]
  have x1 : Hid (W1.cell? ⟨xb, 0, none⟩ = some (.int .i64 (-1))) := by
    show W1.cell? _ = _
    rw [← hW1, World.cell?_of_block (w := w) (Below.heap_alloc _ _ _ xlt.out)]; exact hx
  have B1 : Hid (Below w.heap.size w W1) := by
    show Below _ _ _
    rw [← hW1]; exact (Below.refl _ _).alloc (Nat.le_refl _) _
  have s1 : Hid (W1.heap.size = w.heap.size + 1) := by
    show _ = _
    rw [← hW1]; simp
  have n0 : ¬ (n : Int) < 0 := by omega
  have nn : (0 : Int) ≤ (n : Int) := by omega
  have wn : IntKind.u64.wrap (n : Int) = (n : Int) := Mul64.wrapN n (by omega)
  have wi : IntKind.i64.wrap (n : Int) = (n : Int) := by rw [IntKind.wrap_i64]; omega
  have nm : decide ((9223372036854775807 : Int) < (n : Int)) = false := by simp; omega
  clear hi hz0 hz1 hz2 hx hn
  go_enter Try.func29, Try.ntmps29
  go_wp2_with fail
  refine MU.out.mono ?_; rintro e w' ⟨rfl, rfl⟩
  obtain ⟨g, hg⟩ : ∃ g, w.heap.size = g := ⟨_, rfl⟩
--STOP1
  go_wp2_with (first
    | (at_make; refine wpList_make_row _ rfl _ _ 25 rfl 3 i0 (.int .i64 0) Try.underlying25 II.out Z0.out Z1.out rfl .i64 .i64 n rfl rfl (by rw [Z2.out]; have := HN.out; omega) (by have := HN.out; omega) ?_)
    | (refine wpList_copy_splice rfl _ _ 25 25 rfl 3 Try.underlying25 (by rw [II.out]; simp [Z1.out]) (some ⟨g, 0, none⟩) (some ⟨xb, 0, none⟩) n n 1 1 rfl rfl g 0 (rep 0 n) 3 (by rw [← hg]; exact g1.out) (mone (Nat.min 1 n)) (by simp [mone]) (fun _ => ⟨rfl, ⟨xb, 0, none⟩, rfl, one_cell x1.out⟩) (by rw [rep_len (Nat.zero_le _)]; simp [mone]; exact Nat.min_le_right _ _) (mone_one _) g w (by rw [← hg]; exact B1.out) (Nat.le_refl _) ?_; intro w2 h2 b2))
--STOP2
  have b3 := Lib.hid b2
  have k1 : Hid (splice (rep 0 n) 0 (mone (Nat.min 1 n)) = rep (Nat.min 1 n) n) := by
    have := rep_splice (k := 0) (n := n) (c := Nat.min 1 n) (by have : Nat.min 1 n ≤ n := Nat.min_le_right _ _; omega)
    rw [Nat.zero_add] at this; exact this
  have h3 : Hid (w2.heap[g]? = some (.cells (rep (Nat.min 1 n) n).toArray 3 (0, 0))) := by
    have := h2.out; rw [k1.out] at this; exact this
  have ml : Hid ((mone (Nat.min 1 n)).length = Nat.min 1 n) := by show _ = _; simp [mone]
  clear h2 b2 k1
  try rw [ml.out]
  go_loopw [8] (fun s8 wr => ∃ k : Nat, k ≤ n ∧ Hid (n = 0 ∨ 1 ≤ k) ∧ s8 = .int .i64 (k : Int) ∧ Hid (wr.heap[g]? = some (.cells (rep k n).toArray 3 (0, 0))) ∧ Hid (Below g w wr)) (fun s8 _ => n - (intOf s8).toNat)
  case atStart => exact ⟨Nat.min 1 n, Nat.min_le_right _ _, (by by_cases h : n = 0; exact Or.inl h; exact Or.inr (by have : Nat.min 1 n = 1 := Nat.min_eq_left (by omega); omega)), rfl, h3, b3⟩
  case round =>
    clear h3 b3
    obtain ⟨k, hk, K1, rfl, RH, BB⟩ := hrel
    by_cases hkn : k < n
    · have k0 : (0 : Int) ≤ (k : Int) := by omega
      have kl : (k : Int) ≤ (n : Int) := by omega
      have kn : (k : Int) < (n : Int) := by omega
      have hk1 : Hid (1 ≤ k) := by rcases K1.out with h | h; omega; exact h
      obtain ⟨c, hc⟩ : ∃ c, Nat.min k (n - k) = c := ⟨_, rfl⟩
      have c1 : Hid (c ≤ k ∧ k + c ≤ n ∧ 1 ≤ c) := by
        have h1 : Nat.min k (n - k) ≤ k := Nat.min_le_left _ _
        have h2 : Nat.min k (n - k) ≤ n - k := Nat.min_le_right _ _
        have h3 : 1 ≤ Nat.min k (n - k) := Nat.le_min.2 ⟨hk1.out, by omega⟩
        exact ⟨by omega, by omega, by omega⟩
      have HC := Lib.hid hc
      clear hc
      go_wp2_with fail
      have tr : (fun _ : World => True) wr.drew := trivial
      refine wp_region_drop (fun _ => True) 7 (by kernel_rfl) trivial (fun hHeld => ?_)
      refine wpAnyD_pure (i := 0) (v := ?_) rfl (by kernel_rfl) (by kernel_rfl) (by kernel_rfl) (by rfl) (fun _ _ _ h => h) (Or.inl ⟨by rfl, ?_⟩) (by assumption) ?_
      rotate_left 1
      · (intro w; first | (go_simp; done) | (go_simp; with_reducible rfl))
      simp only [Act.put, List.getElem_toArray, List.getElem_cons_zero, List.setIfInBounds_toArray, List.set_cons_zero, List.set_cons_succ]
      refine wpAnyD_pure (i := 1) (v := ?_) rfl (by kernel_rfl) (by kernel_rfl) (by kernel_rfl) (by rfl) (fun _ _ _ h => h) (Or.inl ⟨by rfl, ?_⟩) (by assumption) ?_
      rotate_left 1
      · (intro w; first | (go_simp; done) | (go_simp; with_reducible rfl))
      simp only [Act.put, List.getElem_toArray, List.getElem_cons_zero, List.getElem_cons_succ, List.setIfInBounds_toArray, List.set_cons_zero, List.set_cons_succ]
      refine wpAnyD_pure (i := 2) (v := ?_) rfl (by kernel_rfl) (by kernel_rfl) (by kernel_rfl) (by rfl) (fun _ _ _ h => h) (Or.inl ⟨by rfl, ?_⟩) (by assumption) ?_
      rotate_left 1
      · (intro w; first | (go_simp; done) | (go_simp; with_reducible rfl))
      simp only [Act.put, List.getElem_toArray, List.getElem_cons_zero, List.getElem_cons_succ, List.setIfInBounds_toArray, List.set_cons_zero, List.set_cons_succ]
      refine wpAnyD_pure (i := 3) (v := ?_) rfl (by kernel_rfl) (by kernel_rfl) (by kernel_rfl) (by rfl) (fun _ _ _ h => h) (Or.inl ⟨by rfl, ?_⟩) (by assumption) ?_
      rotate_left 1
      · (intro w; first | (go_simp; done) | (go_simp; with_reducible rfl))
      simp only [Act.put, List.getElem_toArray, List.getElem_cons_zero, List.getElem_cons_succ, List.setIfInBounds_toArray, List.set_cons_zero, List.set_cons_succ]
      refine wpAnyD_pure (i := 4) (v := ?_) rfl (by kernel_rfl) (by kernel_rfl) (by kernel_rfl) (by rfl) (fun _ _ _ h => h) (Or.inl ⟨by rfl, ?_⟩) (by assumption) ?_
      rotate_left 1
      · (intro w; first | (go_simp; done) | (go_simp; with_reducible rfl))
      simp only [Act.put, List.getElem_toArray, List.getElem_cons_zero, List.getElem_cons_succ, List.setIfInBounds_toArray, List.set_cons_zero, List.set_cons_succ]
      refine wpAnyD_pure (i := 5) (v := ?_) rfl (by kernel_rfl) (by kernel_rfl) (by kernel_rfl) (by rfl) (fun _ _ _ h => h) (Or.inl ⟨by rfl, ?_⟩) (by assumption) ?_
      rotate_left 1
      · (intro w; first | (go_simp; done) | (go_simp; with_reducible rfl))
      simp only [Act.put, List.getElem_toArray, List.getElem_cons_zero, List.getElem_cons_succ, List.setIfInBounds_toArray, List.set_cons_zero, List.set_cons_succ]
      refine wpAnyD_pure (i := 6) (v := ?_) rfl (by kernel_rfl) (by kernel_rfl) (by kernel_rfl) (by rfl) (fun _ _ _ h => h) (Or.inl ⟨by rfl, ?_⟩) (by assumption) ?_
      rotate_left 1
      · (intro w; first | (go_simp; done) | (go_simp; with_reducible rfl))
      simp only [Act.put, List.getElem_toArray, List.getElem_cons_zero, List.getElem_cons_succ, List.setIfInBounds_toArray, List.set_cons_zero, List.set_cons_succ]
      clear hHeld
      refine wpAnyD_drop (by kernel_rfl) rfl (fun K hK => ?_)
      refine step_copy_splice rfl _ _ 25 25 rfl 3 Try.underlying25 (by rw [II.out]; simp [Z1.out]) (some ⟨g, k, none⟩) (some ⟨g, 0, none⟩) (n - k) (n - k) k n (by go_simp; (try (intro h; omega))) (by go_simp) g k (rep k n) 3 RH.out (mone c) (by simp [mone]; exact HC.out.symm) (fun _ => ⟨rfl, ⟨g, 0, none⟩, rfl, rep_cell RH.out c1.out.1⟩) (by rw [rep_len hk]; simp [mone]; exact c1.out.2.1) (mone_one _) g w (BB.out.drew) (Nat.le_refl _) ?_
      intro w4 h4 b4
      refine hK.out _ _ ?_
      clear hK K
      have lc : (mone c).length = c := by simp [mone]
      rw [lc]
      simp only [Act.put, goInt, List.setIfInBounds_toArray]
      obtain ⟨kc, hkc⟩ : ∃ kc, k + c = kc := ⟨_, rfl⟩
      have a1 : (k : Int) + (c : Int) = (kc : Int) := by omega
      have a2 : IntKind.i64.wrap (kc : Int) = (kc : Int) := by rw [IntKind.wrap_i64]; have := c1.out; have := HN.out; omega
      have H4 : Hid (w4.heap[g]? = some (.cells (rep kc n).toArray 3 (0, 0))) := by
        have := h4.out; rw [rep_splice c1.out.2.1, hkc] at this; exact this
      have HK := Lib.hid hkc
      clear hkc
      have B4 := Lib.hid b4
      clear h4 b4 lc RH BB
      refine wpAny_one (i := 8) (by kernel_rfl) rfl (fun K hK => ?_)
      go_simp
      refine hK.out _ _ ?_
      clear hK K
      refine wpAny_one (i := 9) (by kernel_rfl) rfl (fun K hK => ?_)
      go_simp
      refine hK.out _ _ ?_
      clear hK K
      refine wpAny_done (by kernel_rfl) ?_ _
--STOP4
      go_wp2_with fail
      go_roundw
      case measure => simp [intOf]; have := c1.out; have := HK.out; omega
      case rel => exact ⟨kc, by have := c1.out; have := HK.out; omega, Or.inr (by have := c1.out; have := HK.out; omega), rfl, H4, B4⟩
    · have kn : ¬ (k : Int) < (n : Int) := by omega
      obtain rfl : k = n := by omega
      have FIN : Hid (Ints wr g (.slice (some ⟨g, 0, none⟩) k k) (List.replicate k (-1)) ∧ g < wr.heap.size) := by
        have h := RH.out
        refine ⟨⟨by simp [ivs], Or.inr ⟨g, k, (rep k k).toArray, by simp, Nat.le_refl _, h, by simp, ?_, by simp [rep_len (Nat.le_refl k)], ?_⟩⟩, ?_⟩
        · have := HN.out; unfold maxLen; omega
        · simp [rep, ivs]
        · by_cases hl : g < wr.heap.size
          · exact hl
          · rw [Array.getElem?_eq_none (Nat.le_of_not_lt hl)] at h; cases h
      clear RH
      go_wp2_with fail
      go_ret
      exact ⟨rfl, FIN.out.1, BB.out, FIN.out.2⟩
end Go.Proofs.Ytgofachgoflgnaa
