/- graph: the reference's With, its result a row of its own. -/
import Derived.Test.YthfecllgkldgfaaGs
namespace Go.Proofs.Ythfecllgkldgfaa
open Go.ChangeShapes Go.WideShapes Go.ChangeAt Go.RowKit Go.Joins Go.Deep

theorem head_lt {x b : Int} {B : List Int} (h : SInc (b :: B)) (hx : x < b) : ∀ y ∈ b :: B, x < y := by
  intro y hy
  rw [List.mem_cons] at hy
  rcases hy with e | hy
  · omega
  · have := List.rel_of_pairwise_cons h hy; omega
theorem ins_facts {s : List Int} {k : Nat} {x : Int} (hs : SInc s) (h1 : ∀ y ∈ s.take k, y < x) (h2 : ∀ y ∈ s.drop k, x < y) :
    SInc ((s.take k ++ [x]) ++ s.drop k) ∧ (∀ y, y ∈ (s.take k ++ [x]) ++ s.drop k ↔ y = x ∨ y ∈ s) ∧ ((s.take k ++ [x]) ++ s.drop k).length = s.length + 1 := by
  have st : SInc (s.take k) := hs.sublist (List.take_sublist k s)
  have sd : SInc (s.drop k) := hs.sublist (List.drop_sublist k s)
  refine ⟨?_, ?_, ?_⟩
  · rw [SInc, List.pairwise_append, List.pairwise_append]
    refine ⟨⟨st, by simp, fun a ha b hb => by simp at hb; subst hb; exact h1 a ha⟩, sd, fun a ha b hb => ?_⟩
    rw [List.mem_append] at ha
    rcases ha with ha | ha
    · have := h1 a ha; have := h2 b hb; omega
    · simp at ha; subst ha; exact h2 b hb
  · intro y
    have : y ∈ s ↔ y ∈ s.take k ∨ y ∈ s.drop k := by rw [← List.mem_append, List.take_append_drop]
    rw [this]; simp; grind
  · simp; omega
theorem drop_gt {s : List Int} {k : Nat} {x : Int} (hs : SInc s) (hk : k < s.length) (hx : x < s.getD k 0) : ∀ y ∈ s.drop k, x < y := by
  have sd : SInc (s.drop k) := hs.sublist (List.drop_sublist k s)
  have e : s.getD k 0 = s[k] := by simp [List.getD, hk]
  rw [e] at hx
  rw [List.drop_eq_getElem_cons hk] at sd ⊢
  exact head_lt sd hx
theorem take_snoc (s : List Int) (k : Nat) (h : k < s.length) : s.take (k + 1) = s.take k ++ [s.getD k 0] := by
  rw [List.take_succ_eq_append_getElem h]; simp [List.getD, h]
theorem drop_snoc (s : List Int) (k j : Nat) (hk : k ≤ j) (h : j < s.length) : (s.take (j + 1)).drop k = (s.take j).drop k ++ [s.getD j 0] := by
  rw [take_snoc s j h, List.drop_append_of_le_length (by simp; omega)]
def WithOwn (v : Value) (s : List Int) (x : Int) (w : World) (e : Ending) (w' : World) : Prop := ∃ r t, e = .returned r ∧ (r = v ∧ t = s ∨ w'.ownsRow w.heap.size 3 1 r t.length (nums t)) ∧ SInc t ∧ (∀ y, y ∈ t ↔ y = x ∨ y ∈ s) ∧ t.length ≤ s.length + 1 ∧ Below w.heap.size w w'
set_option maxRecDepth 100000 in
set_option maxHeartbeats 4000000 in
theorem with_own {w : World} {v : Value} {s : List Int} (h : IntsAt w v s) (x : Int) (hs : SInc s) (hl : s.length ≤ 1000000) : Calls Try.prog 49 #[v, .int .i64 x] w (WithOwn v s x w) := by
  have HI := Lib.hid h; have HS := Lib.hid hs
  obtain ⟨a, cap, rfl⟩ := h.form
  obtain ⟨n, hn⟩ : ∃ n, s.length = n := ⟨_, rfl⟩
  have HN := Lib.hid hn
  have HR := Lib.hid (hasr_any h x (by omega))
  have HV : Hid (IntsAt w (.slice a n cap) s) := by show IntsAt _ _ _; rw [← hn]; exact h
  rw [hn] at hl ⊢
  rw [hn] at HR
  clear h hs hn
  by_cases hm : x ∈ s
  · have d : decide (x ∈ s) = true := by simpa using hm
    have D := Lib.hid d; have HM := Lib.hid hm; clear d hm
    go_enter Try.func49, Try.ntmps49
    go_wp2_with fail
    refine HR.out.mono ?_; rintro e w1 ⟨rfl, rfl⟩; rw [D.out]
    go_wp2_with fail
    go_ret
    exact ⟨_, s, rfl, Or.inl ⟨rfl, rfl⟩, HS.out, (fun y => ⟨Or.inr, fun k => by rcases k with rfl | k; exact HM.out; exact k⟩), by rw [HN.out]; omega, Below.refl _ _⟩
  · have d : decide (x ∈ s) = false := by simpa using hm
    have D := Lib.hid d; have HM := Lib.hid hm; clear d hm
    obtain ⟨i0, hi, hz0, hz1, hz2⟩ := info_parts Try.info3
    have II := Lib.hid hi; have Z0 := Lib.hid hz0; have Z1 := Lib.hid hz1; have Z2 := Lib.hid hz2
    clear hi hz0 hz1 hz2
    go_enter Try.func49, Try.ntmps49
    go_wp2_with fail
    refine HR.out.mono ?_; rintro e w1 ⟨rfl, rfl⟩; rw [D.out]
    go_wp2_with fail
    go_loopw [5, 6] (fun s5 s6 wr => ∃ k : Nat, k ≤ n ∧ s6 = .int .i64 k ∧ Hid (wr.ownsRow w.heap.size 3 1 s5 k (nums (s.take k))) ∧ Hid (∀ y ∈ s.take k, y < x) ∧ Hid (Below w.heap.size w wr)) (fun _ s6 _ => n - (intOf s6).toNat)
    case atStart => exact ⟨0, by omega, rfl, World.ownsRow_nil _ _ _ _, by simp [Hid], Below.refl _ _⟩
    case round =>
      obtain ⟨k, hk, rfl, RO, HY, BB⟩ := hrel
      obtain ⟨a5, c5, rfl⟩ := row_form RO.out
      have hbs : w.heap.size ≤ wr.heap.size := BB.out.size
      have SN : Hid (∃ st : Bool, (st = true → k < n ∧ s.getD k 0 < x) ∧ (st = false → k = n ∨ (k < n ∧ x < s.getD k 0))) := by
        by_cases h1 : k < n
        · have hk' : k < s.length := by have := HN.out; omega
          have hne : s.getD k 0 ≠ x := by
            intro e; apply HM.out; rw [← e]; simp [List.getD, hk']
          by_cases h2 : s.getD k 0 < x
          · exact ⟨true, fun _ => ⟨h1, h2⟩, fun h => by cases h⟩
          · exact ⟨false, (fun h => by cases h), fun _ => Or.inr ⟨h1, by omega⟩⟩
        · exact ⟨false, (fun h => by cases h), fun _ => Or.inl (by omega)⟩
      obtain ⟨st, hst1, hst2⟩ := SN.out
      clear SN
      cases st
      · have hh := hst2 rfl
        clear hst1 hst2
        have HG : Hid (∀ y ∈ s.drop k, x < y) := by
          show ∀ y ∈ s.drop k, x < y
          rcases hh with e | ⟨h1, h2⟩
          · rw [List.drop_of_length_le (by have := HN.out; omega)]; simp
          · exact drop_gt HS.out (by have := HN.out; omega) h2
        have FIN := Lib.hid (ins_facts HS.out HY.out HG.out)
        rcases hh with e | ⟨h1, h2⟩
        · have hge : n ≤ k := by omega
          clear e
          go_wp2_with (at_builtin; refine wpList_append_own_at _ rfl _ _ 22 rfl w.heap.size 3 i0 (.int .i64 0) 1 8 Try.underlying22 II.out Z0.out Z1.out Z2.out rfl (by decide) _ _ _ rfl (RO.out.alloc _) ⟨wr.heap.size, 0, none⟩ 1 1 [.int .i64 x] rfl rfl (cell_one_new _ _ _) (by simp [Value.oneCell']) (by unfold maxLen; omega) (by omega) (by simp; omega) ?_; intro v' w4 hown' hgrow hnil hloc; obtain ⟨a', cap', hv'⟩ := row_form hown'; subst hv'; have R4 := Lib.hid hown'; have G4 := Lib.hid hgrow; clear hown' hgrow hloc hnil)
          have R5 : Hid (w4.ownsRow w.heap.size 3 1 (.slice a' (k + 1) cap') (k + 1) (nums ((s.take k ++ [x]) ++ (s.take k).drop k))) := by
            show World.ownsRow _ _ _ _ _ _ _
            rw [List.drop_of_length_le (by simp; omega), List.append_nil, nums_append]; exact R4.out
          have B5 : Hid (Below w.heap.size w w4) := (BB.out.alloc BB.out.size _).grown G4.out (by have := BB.out.size; simp; omega) (row_base RO.out)
          clear R4 G4 RO BB hbs
          go_loopw [5, 6] (fun s5 s6 wr => ∃ j : Nat, k ≤ j ∧ j ≤ n ∧ s6 = .int .i64 j ∧ Hid (wr.ownsRow w.heap.size 3 1 s5 (j + 1) (nums ((s.take k ++ [x]) ++ (s.take j).drop k))) ∧ Hid (Below w.heap.size w wr)) (fun _ s6 _ => n - (intOf s6).toNat)
          case atStart => exact ⟨k, by omega, by omega, rfl, R5, B5⟩
          case round =>
            clear R5 B5
            obtain ⟨j, hkj, hj, rfl, RO, BB⟩ := hrel
            obtain ⟨a5, c5, rfl⟩ := row_form RO.out
            have hbs : w.heap.size ≤ wr.heap.size := BB.out.size
            by_cases hlt : j < n
            · exfalso; omega
            · have RF : Hid (wr.ownsRow w.heap.size 3 1 (.slice a5 (j + 1) c5) ((s.take k ++ [x]) ++ s.drop k).length (nums ((s.take k ++ [x]) ++ s.drop k))) := by
                show World.ownsRow _ _ _ _ _ _ _
                have hr := RO.out
                rw [show s.take j = s from List.take_of_length_le (by have := HN.out; omega)] at hr
                have e : j + 1 = ((s.take k ++ [x]) ++ s.drop k).length := by rw [FIN.out.2.2, HN.out]; omega
                rw [e] at hr
                rw [← e] at hr ⊢
                exact hr
              go_wp2_with fail
              go_ret
              exact ⟨_, _, rfl, Or.inr RF.out, FIN.out.1, FIN.out.2.1, by rw [FIN.out.2.2]; exact Nat.le_refl _, BB.out⟩
        · have hk' : k < s.length := by have := HN.out; omega
          obtain ⟨b, off, hae, c1⟩ := (HV.out.below BB.out).at hk'
          subst hae
          obtain ⟨u, hu⟩ : ∃ u, s.getD k 0 = u := ⟨_, rfl⟩
          rw [hu] at c1 h2
          have h3 : decide (u < x) = false := by simp; omega
          clear hu hk'
          go_wp2_with (at_builtin; refine wpList_append_own_at _ rfl _ _ 22 rfl w.heap.size 3 i0 (.int .i64 0) 1 8 Try.underlying22 II.out Z0.out Z1.out Z2.out rfl (by decide) _ _ _ rfl (RO.out.alloc _) ⟨wr.heap.size, 0, none⟩ 1 1 [.int .i64 x] rfl rfl (cell_one_new _ _ _) (by simp [Value.oneCell']) (by unfold maxLen; omega) (by omega) (by simp; omega) ?_; intro v' w4 hown' hgrow hnil hloc; obtain ⟨a', cap', hv'⟩ := row_form hown'; subst hv'; have R4 := Lib.hid hown'; have G4 := Lib.hid hgrow; clear hown' hgrow hloc hnil)
          have R5 : Hid (w4.ownsRow w.heap.size 3 1 (.slice a' (k + 1) cap') (k + 1) (nums ((s.take k ++ [x]) ++ (s.take k).drop k))) := by
            show World.ownsRow _ _ _ _ _ _ _
            rw [List.drop_of_length_le (by simp; omega), List.append_nil, nums_append]; exact R4.out
          have B5 : Hid (Below w.heap.size w w4) := (BB.out.alloc BB.out.size _).grown G4.out (by have := BB.out.size; simp; omega) (row_base RO.out)
          clear R4 G4 RO BB hbs
          go_loopw [5, 6] (fun s5 s6 wr => ∃ j : Nat, k ≤ j ∧ j ≤ n ∧ s6 = .int .i64 j ∧ Hid (wr.ownsRow w.heap.size 3 1 s5 (j + 1) (nums ((s.take k ++ [x]) ++ (s.take j).drop k))) ∧ Hid (Below w.heap.size w wr)) (fun _ s6 _ => n - (intOf s6).toNat)
          case atStart => exact ⟨k, by omega, by omega, rfl, R5, B5⟩
          case round =>
            clear R5 B5
            obtain ⟨j, hkj, hj, rfl, RO, BB⟩ := hrel
            obtain ⟨a5, c5, rfl⟩ := row_form RO.out
            have hbs : w.heap.size ≤ wr.heap.size := BB.out.size
            by_cases hlt : j < n
            · have hk' : j < s.length := by have := HN.out; omega
              obtain ⟨b', off', hae, c1⟩ := (HV.out.below BB.out).at hk'
              injection hae with hae; injection hae with e1 e2; subst e1 e2
              obtain ⟨u, hu⟩ : ∃ u, s.getD j 0 = u := ⟨_, rfl⟩
              have TS := Lib.hid (drop_snoc s k j hkj hk')
              rw [hu] at c1 TS
              clear hu hk'
              go_wp2_with (at_builtin; refine wpList_append_own_at _ rfl _ _ 22 rfl w.heap.size 3 i0 (.int .i64 0) 1 8 Try.underlying22 II.out Z0.out Z1.out Z2.out rfl (by decide) _ _ _ rfl (RO.out.alloc _) ⟨wr.heap.size, 0, none⟩ 1 1 [.int .i64 u] rfl rfl (cell_one_new _ _ _) (by simp [Value.oneCell']) (by unfold maxLen; omega) (by omega) (by simp; omega) ?_; intro v' w4 hown' hgrow hnil hloc; obtain ⟨a', cap', hv'⟩ := row_form hown'; subst hv'; have R4 := Lib.hid hown'; have G4 := Lib.hid hgrow; clear hown' hgrow hloc hnil)
              have R5 : Hid (w4.ownsRow w.heap.size 3 1 (.slice a' (j + 1 + 1) cap') (j + 1 + 1) (nums ((s.take k ++ [x]) ++ (s.take (j + 1)).drop k))) := by
                show World.ownsRow _ _ _ _ _ _ _
                rw [TS.out, ← List.append_assoc, nums_append _ [u]]; exact R4.out
              have B5 : Hid (Below w.heap.size w w4) := (BB.out.alloc BB.out.size _).grown G4.out (by have := BB.out.size; simp; omega) (row_base RO.out)
              go_roundw
              case rel => exact ⟨j + 1, by omega, by omega, by go_num, R5, B5⟩
              case measure => simp [intOf]; omega
            · have RF : Hid (wr.ownsRow w.heap.size 3 1 (.slice a5 (j + 1) c5) ((s.take k ++ [x]) ++ s.drop k).length (nums ((s.take k ++ [x]) ++ s.drop k))) := by
                show World.ownsRow _ _ _ _ _ _ _
                have hr := RO.out
                rw [show s.take j = s from List.take_of_length_le (by have := HN.out; omega)] at hr
                have e : j + 1 = ((s.take k ++ [x]) ++ s.drop k).length := by rw [FIN.out.2.2, HN.out]; omega
                rw [e] at hr
                rw [← e] at hr ⊢
                exact hr
              go_wp2_with fail
              go_ret
              exact ⟨_, _, rfl, Or.inr RF.out, FIN.out.1, FIN.out.2.1, by rw [FIN.out.2.2]; exact Nat.le_refl _, BB.out⟩
      · obtain ⟨hlt, hux⟩ := hst1 rfl
        clear hst1 hst2
        have hk' : k < s.length := by have := HN.out; omega
        obtain ⟨b, off, rfl, c1⟩ := (HV.out.below BB.out).at hk'
        obtain ⟨u, hu⟩ : ∃ u, s.getD k 0 = u := ⟨_, rfl⟩
        have TS := Lib.hid (take_snoc s k hk')
        rw [hu] at c1 hux TS
        have HK2 := Lib.hid hk'
        clear hu hk'
        have HY2 : Hid (∀ y ∈ s.take (k + 1), y < x) := by
          show ∀ y ∈ s.take (k + 1), y < x
          intro y hy
          rw [TS.out, List.mem_append] at hy
          rcases hy with hy | hy
          · exact HY.out y hy
          · simp at hy; subst hy; exact hux
        go_wp2_with (at_builtin; refine wpList_append_own_at _ rfl _ _ 22 rfl w.heap.size 3 i0 (.int .i64 0) 1 8 Try.underlying22 II.out Z0.out Z1.out Z2.out rfl (by decide) _ _ _ rfl (RO.out.alloc _) ⟨wr.heap.size, 0, none⟩ 1 1 [.int .i64 u] rfl rfl (cell_one_new _ _ _) (by simp [Value.oneCell']) (by unfold maxLen; omega) (by omega) (by simp; omega) ?_; intro v' w4 hown' hgrow hnil hloc; obtain ⟨a', cap', hv'⟩ := row_form hown'; subst hv'; have R4 := Lib.hid hown'; have G4 := Lib.hid hgrow; clear hown' hgrow hloc hnil)
        have R5 : Hid (w4.ownsRow w.heap.size 3 1 (.slice a' (k + 1) cap') (k + 1) (nums (s.take (k + 1)))) := by
          show World.ownsRow _ _ _ _ _ _ _
          rw [TS.out, nums_append]; exact R4.out
        have B5 : Hid (Below w.heap.size w w4) := (BB.out.alloc BB.out.size _).grown G4.out (by have := BB.out.size; simp; omega) (row_base RO.out)
        go_roundw
        case rel => exact ⟨k + 1, by omega, by go_num, R5, HY2, B5⟩
        case measure => simp [intOf]; omega

end Go.Proofs.Ythfecllgkldgfaa
