/- Of, Union, Inter, Diff, Sub and Same of the reference. -/
import Derived.Test.YthmhhjfonejifaaWf
namespace Go.Proofs.Ythmhhjfonejifaa
open Go.ChangeShapes Go.WideShapes Go.ChangeAt Go.RowKit Go.Joins Go.Deep

theorem mem_take_succ {l : List Int} {k : Nat} (h : k < l.length) (y : Int) : y ∈ l.take (k + 1) ↔ y = l.getD k 0 ∨ y ∈ l.take k := by
  rw [take_snoc l k h, List.mem_append, List.mem_singleton, or_comm]
set_option maxRecDepth 100000 in
set_option maxHeartbeats 4000000 in
theorem ofr_any {w : World} {v : Value} {l : List Int} (h : IntsAt w v l) (hl : l.length ≤ 1000000) : Calls Try.prog 17 #[v] w (SetAt l w) := by
  obtain ⟨a, cap, rfl⟩ := h.form
  obtain ⟨n, hn⟩ : ∃ n, l.length = n := ⟨_, rfl⟩
  have HN := Lib.hid hn
  have HV : Hid (IntsAt w (.slice a n cap) l) := by show IntsAt _ _ _; rw [← hn]; exact h
  rw [hn] at hl ⊢
  clear h hn
  go_enter Try.func17, Try.ntmps17
  go_wp2_with fail
  go_loopw [3, 4] (fun s3 s4 wr => ∃ k : Nat, k ≤ n ∧ s4 = .int .i64 k ∧ ∃ t : List Int, Hid (IntsAt wr s3 t) ∧ Hid (SInc t) ∧ Hid (∀ y, y ∈ t ↔ y ∈ l.take k) ∧ Hid (t.length ≤ k) ∧ Hid (Below w.heap.size w wr)) (fun _ s4 _ => n - (intOf s4).toNat)
  case atStart => exact ⟨0, by omega, rfl, [], ints_nil w, List.Pairwise.nil, by simp [Hid], Nat.le_refl _, Below.refl _ _⟩
  case round =>
    obtain ⟨k, hk, rfl, t, IT, ST, MT, LT, BB⟩ := hrel
    by_cases hlt : k < n
    · have hk' : k < l.length := by have := HN.out; omega
      obtain ⟨b, off, rfl, c1⟩ := (HV.out.below BB.out).at hk'
      obtain ⟨u, hu⟩ : ∃ u, l.getD k 0 = u := ⟨_, rfl⟩
      have MK := Lib.hid (mem_take_succ hk')
      rw [hu] at c1 MK
      clear hu hk'
      go_wp2_with fail
      refine (with_any IT.out u ST.out (by have := LT.out; omega)).mono ?_; rintro e w1 ⟨r, t1, rfl, h1, h2, h3, h4, h5⟩
      have I1 := Lib.hid h1; have S1 := Lib.hid h2
      have M1 : Hid (∀ y, y ∈ t1 ↔ y ∈ l.take (k + 1)) := fun y => by rw [h3, MK.out, MT.out]
      have L1 : Hid (t1.length ≤ k + 1) := by show _ ≤ _; have := LT.out; omega
      have B1 := Lib.hid (BB.out.trans (h5.mono BB.out.size))
      clear h1 h2 h3 h4 h5
      go_wp2_with fail
      go_roundw
      case rel => exact ⟨k + 1, by omega, by go_num, t1, I1, S1, M1, L1, B1⟩
      case measure => simp [intOf]; omega
    · have F : Hid (IsSet l t) := ⟨ST.out, fun y => by rw [MT.out, List.take_of_length_le (by have := HN.out; omega)]⟩
      have L : Hid (t.length ≤ l.length) := by show _ ≤ _; have := LT.out; have := HN.out; omega
      obtain ⟨a3, c3, rfl⟩ := IT.out.form
      go_wp2_with fail
      go_ret
      exact ⟨_, t, rfl, F.out, IT.out, L.out, BB.out⟩

set_option maxRecDepth 100000 in
set_option maxHeartbeats 4000000 in
theorem unionr_any {w : World} {v u : Value} {l m : List Int} (h : IntsAt w v l) (h' : IntsAt w u m) (hl : l.length ≤ 400000) (hm : m.length ≤ 400000) : Calls Try.prog 21 #[v, u] w (Ch fU l m w) := by
  have HI := Lib.hid h
  obtain ⟨a, cap, rfl⟩ := h.form
  obtain ⟨a2, cap2, rfl⟩ := h'.form
  obtain ⟨n, hn⟩ : ∃ n, m.length = n := ⟨_, rfl⟩
  have HN := Lib.hid hn
  have HV : Hid (IntsAt w (.slice a2 n cap2) m) := by show IntsAt _ _ _; rw [← hn]; exact h'
  rw [hn] at hm ⊢
  clear h h' hn
  go_enter Try.func21, Try.ntmps21
  go_wp2_with fail
  refine (ofr_any HI.out (by omega)).mono ?_; rintro e w1 ⟨v1, s, rfl, h1, h2, h3, h4⟩
  have S1 := Lib.hid h1; have I1 := Lib.hid h2; have L1 := Lib.hid h3; have B1 := Lib.hid h4; clear h1 h2 h3 h4
  go_wp2_with fail
  go_loopw [5, 6] (fun s5 s6 wr => ∃ k : Nat, k ≤ n ∧ s6 = .int .i64 k ∧ ∃ t : List Int, Hid (IntsAt wr s5 t) ∧ Hid (SInc t) ∧ Hid (∀ y, y ∈ t ↔ y ∈ l ∨ y ∈ m.take k) ∧ Hid (t.length ≤ l.length + k) ∧ Hid (Below w.heap.size w wr)) (fun _ s6 _ => n - (intOf s6).toNat)
  case atStart => exact ⟨0, by omega, rfl, s, I1, S1.out.1, (fun y => by rw [S1.out.2]; simp), L1, B1⟩
  case round =>
    clear S1 I1 L1 B1
    obtain ⟨k, hk, rfl, t, IT, ST, MT, LT, BB⟩ := hrel
    by_cases hlt : k < n
    · have hk' : k < m.length := by have := HN.out; omega
      obtain ⟨b, off, rfl, c1⟩ := (HV.out.below BB.out).at hk'
      obtain ⟨u, hu⟩ : ∃ u, m.getD k 0 = u := ⟨_, rfl⟩
      have MK := Lib.hid (mem_take_succ hk')
      rw [hu] at c1 MK
      clear hu hk'
      go_wp2_with fail
      refine (with_any IT.out u ST.out (by have := LT.out; omega)).mono ?_; rintro e w2 ⟨r, t1, rfl, h1, h2, h3, h4, h5⟩
      have I2 := Lib.hid h1; have S2 := Lib.hid h2
      have M2 : Hid (∀ y, y ∈ t1 ↔ y ∈ l ∨ y ∈ m.take (k + 1)) := fun y => by rw [h3, MK.out, MT.out]; exact or_left_comm
      have L2 : Hid (t1.length ≤ l.length + (k + 1)) := by show _ ≤ _; have := LT.out; omega
      have B2 := Lib.hid (BB.out.trans (h5.mono BB.out.size))
      clear h1 h2 h3 h4 h5
      go_wp2_with fail
      go_roundw
      case rel => exact ⟨k + 1, by omega, by go_num, t1, I2, S2, M2, L2, B2⟩
      case measure => simp [intOf]; omega
    · have F : Hid (∀ y, y ∈ t ↔ Pf fU l m y) := fun y => by rw [MT.out, pu, List.take_of_length_le (by have := HN.out; omega)]
      have L : Hid (t.length ≤ l.length + m.length) := by show _ ≤ _; have := LT.out; have := HN.out; omega
      obtain ⟨a3, c3, rfl⟩ := IT.out.form
      go_wp2_with fail
      go_ret
      exact ⟨_, t, rfl, IT.out, ST.out, F.out, L.out, BB.out⟩

def pB (m : List Int) (i : Bool) (y : Int) : Bool := decide (y ∈ m) == i
set_option maxRecDepth 100000 in
set_option maxHeartbeats 4000000 in
theorem part_any {w : World} {v u : Value} {l m : List Int} (h : IntsAt w v l) (h' : IntsAt w u m) (i : Bool) (hl : l.length ≤ 400000) (hm : m.length ≤ 400000) :
    Calls Try.prog 54 #[v, u, .bool i] w fun e w' => ∃ r s, e = .returned r ∧ IntsAt w' r s ∧ SInc s ∧ (∀ x, x ∈ s ↔ x ∈ l ∧ decide (x ∈ m) = i) ∧ s.length ≤ l.length ∧ Below w.heap.size w w' := by
  have HI := Lib.hid h; have HJ := Lib.hid h'
  obtain ⟨a, cap, rfl⟩ := h.form
  obtain ⟨a2, cap2, rfl⟩ := h'.form
  obtain ⟨i0, hi, hz0, hz1, hz2⟩ := info_parts Try.info3
  have II := Lib.hid hi; have Z0 := Lib.hid hz0; have Z1 := Lib.hid hz1; have Z2 := Lib.hid hz2
  clear h h' hi hz0 hz1 hz2
  go_enter Try.func54, Try.ntmps54
  go_wp2_with fail
  refine (ofr_any HI.out (by omega)).mono ?_; rintro e w1 ⟨v1, s, rfl, h1, h2, h3, h4⟩
  have S1 := Lib.hid h1; have L1 := Lib.hid h3; have B1 := Lib.hid h4
  obtain ⟨n, hn⟩ : ∃ n, s.length = n := ⟨_, rfl⟩
  obtain ⟨a3, c3, rfl⟩ := h2.form
  have HN := Lib.hid hn
  have HV : Hid (IntsAt w1 (.slice a3 n c3) s) := by show IntsAt _ _ _; rw [← hn]; exact h2
  have hnl : n ≤ 400000 := by omega
  rw [hn]
  clear h1 h2 h3 h4 hn
  go_wp2_with fail
  go_loopw [8, 9] (fun s8 s9 wr => ∃ k : Nat, k ≤ n ∧ s9 = .int .i64 k ∧ ∃ O : List Int, Hid (O = (s.take k).filter (pB m i)) ∧ Hid (wr.ownsRow w1.heap.size 3 1 s8 O.length (nums O)) ∧ Hid (Below w1.heap.size w1 wr)) (fun _ s9 _ => n - (intOf s9).toNat)
  case atStart => exact ⟨0, by omega, rfl, [], by simp [Hid], World.ownsRow_nil _ _ _ _, Below.refl _ _⟩
  case round =>
    obtain ⟨k, hk, rfl, O, HO, RO, BB⟩ := hrel
    obtain ⟨a5, c5, rfl⟩ := row_form RO.out
    have hbs : w1.heap.size ≤ wr.heap.size := BB.out.size
    have hol : O.length ≤ 400000 := by
      have h1 := HO.out
      have h2 := List.length_filter_le (pB m i) (s.take k)
      have h3 : (s.take k).length ≤ k := List.length_take_le _ _
      rw [← h1] at h2; omega
    by_cases hlt : k < n
    · have hk' : k < s.length := by have := HN.out; omega
      obtain ⟨b, off, rfl, c1⟩ := (HV.out.below BB.out).at hk'
      obtain ⟨x, hu⟩ : ∃ u, s.getD k 0 = u := ⟨_, rfl⟩
      have TS := Lib.hid (take_snoc s k hk')
      rw [hu] at c1 TS
      have HM : Hid (IntsAt wr (.slice a2 m.length cap2) m) := (HJ.out.below B1.out).below BB.out
      clear hu hk'
      obtain ⟨dm, hdm⟩ : ∃ d, decide (x ∈ m) = d := ⟨_, rfl⟩
      have DM := Lib.hid hdm; clear hdm
      by_cases he : dm = i
      · subst he
        have hee : (dm == dm) = true := by simp
        have HO2 : Hid (O ++ [x] = (s.take (k + 1)).filter (pB m dm)) := by
          show _ = _
          rw [TS.out, List.filter_append, HO.out]
          congr 1
          have : pB m dm x = true := by unfold pB; rw [DM.out]; simp
          simp [this]
        go_wp2_with fail
        refine (hasr_any HM.out x (by omega)).mono ?_; rintro e w' ⟨rfl, rfl⟩; rw [DM.out]
        go_wp2_with (at_builtin; refine wpList_append_own_at _ rfl _ _ 22 rfl w1.heap.size 3 i0 (.int .i64 0) 1 8 Try.underlying22 II.out Z0.out Z1.out Z2.out rfl (by decide) _ _ _ rfl (RO.out.alloc _) ⟨wr.heap.size, 0, none⟩ 1 1 [.int .i64 x] rfl rfl (cell_one_new _ _ _) (by simp [Value.oneCell']) (by unfold maxLen; omega) (by omega) (by simp; omega) ?_; intro v' w4 hown' hgrow hnil hloc; obtain ⟨a', cap', hv'⟩ := row_form hown'; subst hv'; have R4 := Lib.hid hown'; have G4 := Lib.hid hgrow; clear hown' hgrow hloc hnil)
        have RM := row_more BB.out RO.out G4.out R4.out
        have R5 := Lib.hid RM.2; have B5 := Lib.hid RM.1; clear RM
        go_roundw
        case rel => exact ⟨k + 1, by omega, by go_num, O ++ [x], HO2, R5, B5⟩
        case measure => simp [intOf]; omega
      · have hee : (dm == i) = false := by simpa using he
        have HO2 : Hid (O = (s.take (k + 1)).filter (pB m i)) := by
          show _ = _
          rw [TS.out, List.filter_append, ← HO.out]
          have : pB m i x = false := by unfold pB; rw [DM.out]; exact hee
          simp [this]
        clear he
        go_wp2_with fail
        refine (hasr_any HM.out x (by omega)).mono ?_; rintro e w' ⟨rfl, rfl⟩; rw [DM.out]
        go_wp2_with fail
        go_roundw
        case rel => exact ⟨k + 1, by omega, by go_num, O, HO2, RO, BB⟩
        case measure => simp [intOf]; omega
    · have hO : Hid (O = s.filter (pB m i)) := by
        show _ = _
        have := HO.out; rwa [List.take_of_length_le (by have := HN.out; omega)] at this
      have SS : Hid (SInc O) := by show SInc O; rw [hO.out]; exact S1.out.1.sublist List.filter_sublist
      have MM : Hid (∀ x, x ∈ O ↔ x ∈ l ∧ decide (x ∈ m) = i) := fun x => by
        rw [hO.out, List.mem_filter, S1.out.2]; unfold pB; simp
      have LL : Hid (O.length ≤ l.length) := by
        show _ ≤ _
        rw [hO.out]; exact Nat.le_trans (List.length_filter_le _ _) L1.out
      have BF : Hid (Below w.heap.size w wr) := B1.out.trans (BB.out.mono B1.out.size)
      go_wp2_with fail
      go_ret
      exact ⟨_, O, rfl, IntsAt.of_row RO.out, SS.out, MM.out, LL.out, BF.out⟩
end Go.Proofs.Ythmhhjfonejifaa
