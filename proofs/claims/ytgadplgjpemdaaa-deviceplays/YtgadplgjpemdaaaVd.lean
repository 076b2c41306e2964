/- device: After. -/
import Derived.Test.YtgadplgjpemdaaaVc
set_option linter.unusedSimpArgs false
namespace Go.Proofs.Ytgadplgjpemdaaa
open Go.ChangeShapes Go.WideShapes Go.ChangeAt Go.RowKit Go.Joins Go.Deep

abbrev ent (p : Nat × List UInt8) : List Value := .int .i64 (p.1 : Int) :: Lib.byteCells p.2
theorem hcs_cons (p : Nat × List UInt8) (hs : List (Nat × List UInt8)) : hcs (p :: hs) = ent p ++ hcs hs := List.flatMap_cons
theorem ent_len {p : Nat × List UInt8} (h : p.2.length = 64) : (ent p).length = 65 := by rw [List.length_cons, Lib.byteCells_length, h]
theorem hcs_at : ∀ (hs : List (Nat × List UInt8)) (i j : Nat), (∀ p ∈ hs, p.2.length = 64) → i < hs.length → j < 65 → (hcs hs)[i * 65 + j]? = (ent (hs.getD i (0, [])))[j]?
  | p :: hs, 0, j, h, _, hj => by
    rw [hcs_cons, Nat.zero_mul, Nat.zero_add, List.getElem?_append_left (by rw [ent_len (h p (List.mem_cons_self ..))]; exact hj)]; rfl
  | p :: hs, i + 1, j, h, hi, hj => by
    have hb := ent_len (h p (List.mem_cons_self ..))
    rw [hcs_cons, List.getElem?_append_right (by rw [hb]; omega), hb, show (i + 1) * 65 + j - 65 = i * 65 + j by omega, List.getD_cons_succ]
    exact hcs_at hs i j (fun c hc => h c (List.mem_cons_of_mem _ hc)) (by simpa using hi) hj
theorem hist_at {w : World} {B : Nat} {H : Value} {hs : List (Nat × List UInt8)} (h : w.ownsRow B 60 65 H hs.length (hcs hs)) (ok : ∀ p ∈ hs, p.2.length = 64) (h0 : hs ≠ []) :
    ∃ gh cap, H = .slice (some ⟨gh, 0, none⟩) hs.length cap ∧ gh < w.heap.size ∧ hs.length ≤ cap ∧ ∀ i, i < hs.length → w.rangeAt gh (i * 65) (ent (hs.getD i (0, []))) := by
  rcases h.2 with ⟨_, e⟩ | ⟨g, cap, cur, rfl, hb, hg, h1, h2, h3, h4⟩
  · exact absurd (List.length_eq_zero_iff.1 e) h0
  · refine ⟨g, cap, rfl, ?_, h1, fun i hi j v hv => ?_⟩
    · by_cases hl : g < w.heap.size
      · exact hl
      · rw [Array.getElem?_eq_none (Nat.le_of_not_lt hl)] at hg; cases hg
    · have hm : (hs.getD i (0, [])).2.length = 64 := by
        rw [List.getD, List.getElem?_eq_getElem hi]; exact ok _ (List.getElem_mem _)
      have hj : j < 65 := by have h5 := (List.getElem?_eq_some_iff.1 hv).1; rw [ent_len hm] at h5; exact h5
      have h5 := hcs_at hs i j ok hi hj
      rw [← h4, List.getElem?_take, if_pos (by omega), hv] at h5
      rw [cell_of_row w g (i * 65 + j) cur 60 (0, 0) hg, ← h5]
      simp
def rep (bs : List (List UInt8)) (l : List (Nat × List UInt8)) : List (List UInt8) := l.foldl (fun bs p => bs.set p.1 p.2) bs
theorem rep_snoc (bs : List (List UInt8)) (l : List (Nat × List UInt8)) (p : Nat × List UInt8) : rep bs (l ++ [p]) = (rep bs l).set p.1 p.2 := by
  unfold rep; rw [List.foldl_append]; rfl
theorem take_snoc {α : Type} {l : List α} {j : Nat} (d : α) (h : j < l.length) : l.take (j + 1) = l.take j ++ [l.getD j d] := by
  rw [List.take_add_one, List.getElem?_eq_getElem h, List.getD, List.getElem?_eq_getElem h]; rfl
def kk (m : Nat) (k : Int) : Nat := if k ≤ 0 then 0 else if (m : Int) ≤ k then m else k.toNat
theorem kk_le (m : Nat) (k : Int) : kk m k ≤ m := by unfold kk; split; omega; split <;> omega
theorem after_nil (w : World) (k : Int) : Calls Try.prog 17 #[.pointer none, .int .i64 k] w fun e w' => e = .returned (.pointer none) ∧ w' = w := by
  go_enter Try.func17, Try.ntmps17
  go_wp2_with fail
  go_ret
  exact ⟨rfl, rfl⟩
set_option maxRecDepth 100000 in
set_option maxHeartbeats 8000000 in
theorem after_any {w : World} {B D n : Nat} {fs ns : List (List UInt8)} {hs : List (Nat × List UInt8)} {lim : Bool} {left : Int} (h : Dv w B D n fs ns hs lim left) (k : Int) (hh : hs.length ≤ 1000) :
    Calls Try.prog 17 #[pD D, .int .i64 k] w fun e w' => ∃ D', e = .returned (pD D') ∧ Dv w' w.heap.size D' n (rep fs (hs.take (kk hs.length k))) (rep fs (hs.take (kk hs.length k))) [] false 0 ∧ Below w.heap.size w w' := by
  obtain ⟨gf, gn, cf, cn, H, kv⟩ := h
  have KV := Lib.hid kv
  have CL := Lib.hid (clone_any (cap := cf) kv.f kv.n1.1 kv.n1.2)
  have g0 := kv.row.cell (i := 0) rfl
  obtain ⟨m, hm⟩ : ∃ m, hs.length = m := ⟨_, rfl⟩
  obtain ⟨t, ht⟩ : ∃ t, kk m k = t := ⟨_, rfl⟩
  have HM := Lib.hid hm; have HT := Lib.hid ht
  have TM : Hid (t ≤ m ∧ m ≤ 1000) := by rw [← hm] at ht; exact (show _ ∧ _ from ⟨by rw [← ht, ← hm]; exact kk_le _ _, by rw [← hm]; exact hh⟩)
  rw [hm, ht]
  /- the history as a value, and its beginning -/
  obtain ⟨ha, hc, hHe⟩ : ∃ a c, H = .slice a m c := by obtain ⟨a, c, e⟩ := row_formH kv.h; rw [hm] at e; exact ⟨a, c, e⟩
  subst hHe
  have g2 := kv.row.cell (i := 2) rfl
  have R := Lib.hid kv.row
  have zv : ∀ w, Sem.run Try.prog (zeroValue 60) w = .ok (.agg Z60) w := (zero_of_info Try.info60).1
  obtain ⟨mv, hmv⟩ : ∃ mv : Int, (if (m : Int) < k then (m : Int) else k) = mv := ⟨_, rfl⟩
  have hmx : (if 0 < mv then mv else 0) = (t : Int) := by
    rw [← hmv, ← ht]
    unfold kk
    by_cases h1 : k ≤ 0
    · rw [if_neg (show ¬ (m : Int) < k by omega), if_pos h1, if_neg (by omega)]; rfl
    · rw [if_neg h1]
      by_cases h2 : (m : Int) ≤ k
      · rw [if_pos h2]
        by_cases h3 : (m : Int) < k
        · rw [if_pos h3]; split <;> omega
        · rw [if_neg h3]; split <;> omega
      · rw [if_neg h2, if_neg (show ¬ (m : Int) < k by omega)]; split <;> omega
  have hmx2 : (if mv < 0 then 0 else mv) = (t : Int) := by rw [← hmx]; split <;> split <;> omega
  have t0 : (0 : Int) ≤ (t : Int) := by omega
  have hcm : Hid (m ≤ hc) := by
    rcases kv.h.2 with ⟨e, e2⟩ | ⟨g, cap, cur, e, _, _, h1, _⟩
    · injection e with _ e3 _; show m ≤ hc; omega
    · injection e with _ _ e3; rw [hm] at h1; show m ≤ hc; omega
  have tl : (t : Int) ≤ (hc : Int) := by have h1 := TM.out.1; have h2 := hcm.out; omega
  have tl' : t ≤ hc := by omega
  clear kv hm ht hh
  go_enter Try.func17, Try.ntmps17
  go_wp2_with fail
  refine CL.out.mono ?_; rintro e w4 ⟨g', cap', rfl, hg', hbl, b⟩
  have LG := Lib.hid hg'; have BL := Lib.hid hbl; have B4 := Lib.hid b
  clear hg' hbl b g0 g2
  have g2 := (R.out.below B4.out R.out.lt).cell (i := 2) rfl
  go_wp2_with fail
  refine wp_region_held_drew (S := fun W => W.cell? ⟨D, 2, none⟩ = some (.slice ha m hc)) (by kernel_rfl) (by exact g2) (fun hHeld => ?_)
  clear g2
  refine wpAnyH_take (i := 0) (v := ?_) rfl (by kernel_rfl) (by kernel_rfl) (by kernel_rfl) (fun _ _ _ h => h) (Or.inl ⟨by rfl, ?_⟩) (by assumption) ?_
  rotate_left 1
  · (intro w hSw; (try dsimp only at hSw); first | (go_simp; done) | (go_simp; with_reducible rfl))
  simp only [Act.put, List.getElem_toArray, List.getElem_cons_zero, List.setIfInBounds_toArray, List.set_cons_zero, List.set_cons_succ]
  refine wpAnyH_take (i := 1) (v := ?_) rfl (by kernel_rfl) (by kernel_rfl) (by kernel_rfl) (fun _ _ _ h => h) (Or.inl ⟨by rfl, ?_⟩) (by assumption) ?_
  rotate_left 1
  · (intro w hSw; (try dsimp only at hSw); first | (go_simp; done) | (go_simp; with_reducible rfl))
  simp only [Act.put, List.getElem_toArray, List.getElem_cons_zero, List.getElem_cons_succ, List.setIfInBounds_toArray, List.set_cons_zero, List.set_cons_succ]
  refine wpAnyH_take (i := 2) (v := ?_) rfl (by kernel_rfl) (by kernel_rfl) (by kernel_rfl) (fun _ _ _ h => h) (Or.inl ⟨by rfl, ?_⟩) (by assumption) ?_
  rotate_left 1
  · (intro w hSw; (try dsimp only at hSw); first | (go_simp; done) | (go_simp; with_reducible rfl))
  simp only [Act.put, List.getElem_toArray, List.getElem_cons_zero, List.getElem_cons_succ, List.setIfInBounds_toArray, List.set_cons_zero, List.set_cons_succ]
  refine wpAnyH_take (i := 3) (v := ?_) rfl (by kernel_rfl) (by kernel_rfl) (by kernel_rfl) (fun _ _ _ h => h) (Or.inl ⟨by rfl, ?_⟩) (by assumption) ?_
  rotate_left 1
  · (intro w hSw; (try dsimp only at hSw); first | (go_simp; done) | (go_simp; with_reducible rfl))
  simp only [Act.put, List.getElem_toArray, List.getElem_cons_zero, List.getElem_cons_succ, List.setIfInBounds_toArray, List.set_cons_zero, List.set_cons_succ]
  refine wpAnyH_take (i := 4) (v := ?_) rfl (by kernel_rfl) (by kernel_rfl) (by kernel_rfl) (fun _ _ _ h => h) (Or.inl ⟨by rfl, ?_⟩) (by assumption) ?_
  rotate_left 1
  · (intro w hSw; (try dsimp only at hSw); first | (go_simp; done) | (go_simp; with_reducible rfl))
  simp only [Act.put, List.getElem_toArray, List.getElem_cons_zero, List.getElem_cons_succ, List.setIfInBounds_toArray, List.set_cons_zero, List.set_cons_succ]
  refine wpAnyH_take (i := 5) (v := ?_) rfl (by kernel_rfl) (by kernel_rfl) (by kernel_rfl) (fun _ _ _ h => h) (Or.inl ⟨by rfl, ?_⟩) (by assumption) ?_
  rotate_left 1
  · (intro w hSw; (try dsimp only at hSw); first | (go_simp; done) | (go_simp; with_reducible rfl))
  simp only [Act.put, List.getElem_toArray, List.getElem_cons_zero, List.getElem_cons_succ, List.setIfInBounds_toArray, List.set_cons_zero, List.set_cons_succ]
  refine wpAnyH_take (i := 6) (v := ?_) rfl (by kernel_rfl) (by kernel_rfl) (by kernel_rfl) (fun _ _ _ h => h) (Or.inl ⟨by rfl, ?_⟩) (by assumption) ?_
  rotate_left 1
  · (intro w hSw; (try dsimp only at hSw); first | (go_simp; done) | (go_simp; with_reducible rfl))
  simp only [Act.put, List.getElem_toArray, List.getElem_cons_zero, List.getElem_cons_succ, List.setIfInBounds_toArray, List.set_cons_zero, List.set_cons_succ]
  refine wpAnyH_take (i := 7) (v := ?_) rfl (by kernel_rfl) (by kernel_rfl) (by kernel_rfl) (fun _ _ _ h => h) (Or.inl ⟨by rfl, ?_⟩) (by assumption) ?_
  rotate_left 1
  · (intro w hSw; (try dsimp only at hSw); first | (go_simp; done) | (go_simp; with_reducible rfl))
  simp only [Act.put, List.getElem_toArray, List.getElem_cons_zero, List.getElem_cons_succ, List.setIfInBounds_toArray, List.set_cons_zero, List.set_cons_succ]
  refine wpAnyH_take (i := 8) (v := ?_) rfl (by kernel_rfl) (by kernel_rfl) (by kernel_rfl) (fun _ _ _ h => h) (Or.inl ⟨by rfl, ?_⟩) (by assumption) ?_
  rotate_left 1
  · (intro w hSw; (try dsimp only at hSw); first | (go_simp; done) | (go_simp; with_reducible rfl))
  simp only [Act.put, List.getElem_toArray, List.getElem_cons_zero, List.getElem_cons_succ, List.setIfInBounds_toArray, List.set_cons_zero, List.set_cons_succ]
  refine wpAnyH_take (i := 9) (v := ?_) rfl (by kernel_rfl) (by kernel_rfl) (by kernel_rfl) (fun _ _ _ h => h) (Or.inl ⟨by rfl, ?_⟩) (by assumption) ?_
  rotate_left 1
  · (intro w hSw; (try dsimp only at hSw); first | (go_simp; done) | (go_simp; with_reducible rfl))
  simp only [Act.put, List.getElem_toArray, List.getElem_cons_zero, List.getElem_cons_succ, List.setIfInBounds_toArray, List.set_cons_zero, List.set_cons_succ]
  refine wpAnyH_take (i := 10) (v := ?_) rfl (by kernel_rfl) (by kernel_rfl) (by kernel_rfl) (fun _ _ _ h => h) (Or.inl ⟨by rfl, ?_⟩) (by assumption) ?_
  rotate_left 1
  · (intro w hSw; (try dsimp only at hSw); first | (go_simp; done) | (go_simp; with_reducible rfl))
  simp only [Act.put, List.getElem_toArray, List.getElem_cons_zero, List.getElem_cons_succ, List.setIfInBounds_toArray, List.set_cons_zero, List.set_cons_succ]
  refine wpAnyH_take (i := 11) (v := ?_) rfl (by kernel_rfl) (by kernel_rfl) (by kernel_rfl) (fun _ _ _ h => h) (Or.inl ⟨by rfl, ?_⟩) (by assumption) ?_
  rotate_left 1
  · (intro w hSw; (try dsimp only at hSw); first | (go_simp; done) | (go_simp; with_reducible rfl))
  simp only [Act.put, List.getElem_toArray, List.getElem_cons_zero, List.getElem_cons_succ, List.setIfInBounds_toArray, List.set_cons_zero, List.set_cons_succ]
  refine wpAnyH_take (i := 12) (v := ?_) rfl (by kernel_rfl) (by kernel_rfl) (by kernel_rfl) (fun _ _ _ h => h) (Or.inl ⟨by rfl, ?_⟩) (by assumption) ?_
  rotate_left 1
  · (intro w hSw; (try dsimp only at hSw); first | (go_simp; done) | (go_simp; with_reducible rfl))
  simp only [Act.put, List.getElem_toArray, List.getElem_cons_zero, List.getElem_cons_succ, List.setIfInBounds_toArray, List.set_cons_zero, List.set_cons_succ]
  refine wpAnyH_take (i := 13) (v := ?_) rfl (by kernel_rfl) (by kernel_rfl) (by kernel_rfl) (fun _ _ _ h => h) (Or.inl ⟨by rfl, ?_⟩) (by assumption) ?_
  rotate_left 1
  · (intro w hSw; (try dsimp only at hSw); first | (go_simp; done) | (go_simp; with_reducible rfl))
  simp only [Act.put, List.getElem_toArray, List.getElem_cons_zero, List.getElem_cons_succ, List.setIfInBounds_toArray, List.set_cons_zero, List.set_cons_succ]
  refine wpAnyH_take (i := 14) (v := ?_) rfl (by kernel_rfl) (by kernel_rfl) (by kernel_rfl) (fun _ _ _ h => h) (Or.inl ⟨by rfl, ?_⟩) (by assumption) ?_
  rotate_left 1
  · (intro w hSw; (try dsimp only at hSw); first | (go_simp; done) | (go_simp; with_reducible rfl))
  simp only [Act.put, List.getElem_toArray, List.getElem_cons_zero, List.getElem_cons_succ, List.setIfInBounds_toArray, List.set_cons_zero, List.set_cons_succ]
  refine wpAnyH_done (by kernel_rfl) ?_ _
  clear hHeld
  go_wp2_with fail
  have g2 := (R.out.below B4.out R.out.lt).cell (i := 2) rfl
  clear g2
  go_loopw [29] (fun s29 wr => ∃ j : Nat, j ≤ t ∧ s29 = .int .i64 (j : Int) ∧ Hid (Bl wr g' n (rep fs (hs.take j))) ∧ Hid (Below w.heap.size w wr)) (fun s29 _ => t - (intOf s29).toNat)
  case atStart => exact ⟨0, Nat.zero_le _, rfl, BL.out.same rfl, B4.out.drew⟩
  case round =>
    obtain ⟨j, hj, rfl, BJ, WJ⟩ := hrel
    by_cases hjt : j < t
    · have hjm : j < hs.length := by rw [HM.out]; have := TM.out.1; omega
      obtain ⟨gh, cp, e5, hgl, _, hra⟩ := hist_at KV.out.h (fun p hp => (KV.out.ok p hp).2) (by intro e; rw [e] at hjm; exact absurd hjm (Nat.not_lt_zero _))
      injection e5 with e5 _ e6
      subst e5 e6
      have hp := KV.out.ok (hs.getD j (0, [])) (by rw [List.getD, List.getElem?_eq_getElem hjm]; exact List.getElem_mem _)
      have ra := hra j hjm
      have SN : Hid (hs.take (j + 1) = hs.take j ++ [hs.getD j (0, [])]) := take_snoc _ hjm
      obtain ⟨⟨pa, pd⟩, hpe⟩ : ∃ p, hs.getD j (0, []) = p := ⟨_, rfl⟩
      rw [hpe] at hp ra SN
      have HP := Lib.hid hp
      obtain ⟨CC, hCC⟩ : ∃ CC, ent (pa, pd) = CC := ⟨_, rfl⟩
      rw [hCC] at ra
      have HCC := Lib.hid hCC
      have ccl : CC.length = 65 := by rw [← hCC]; exact ent_len hp.2
      have RG : Hid (wr.rangeAt gh (j * 65) CC) := fun i v hv => by rw [WJ.out.cell (by exact hgl)]; exact ra i v hv
      have LC : Hid ((Try.prog.info? 60).map (·.size) = some CC.length) := by show _ = _; rw [ccl]; exact Try.info60s
      have one1 : CC.toArray.all (·.oneCell') = true := by
        refine all_oneCell_toArray ?_
        rw [← hCC]
        intro u hu
        rcases List.mem_cons.1 hu with rfl | hu
        · rfl
        · exact byteCells_one pd u hu
      obtain ⟨xb, hxb⟩ : ∃ xb, wr.heap.size = xb := ⟨_, rfl⟩
      obtain ⟨W1, hW1⟩ : ∃ W1, wr.alloc (.cells CC.toArray 60) = W1 := ⟨_, rfl⟩
      have R1 : Row W1 xb 60 CC := by rw [← hW1, ← hxb]; exact heap_alloc_last _ _
      have hsc : Sem.run Try.prog (storeCells ⟨xb, 0, none⟩ CC 0) (wr.alloc (.cells Z60 60)) = .ok () W1 := by
        rw [← hW1, ← hxb]
        have h := run_storeCells_new (P := Try.prog) wr 60 Z60 CC.toArray (by rw [(zero_of_info Try.info60).2, List.size_toArray, ccl]) (by rw [z60_size, List.size_toArray, ccl]) one1
        exact h
      have x0 : W1.cell? ⟨xb, 0, none⟩ = some (.int .i64 (pa : Int)) := R1.cell (by rw [← hCC]; rfl)
      have RG1 : Hid (W1.rangeAt xb 1 (Lib.byteCells pd)) := fun i v hv => R1.cell (by rw [← hCC, Nat.add_comm, List.getElem?_cons_succ]; exact hv)
      have LI : Hid ((Try.prog.info? 58).map (·.size) = some (Lib.byteCells pd).length) := by show _ = _; rw [Lib.byteCells_length, hp.2]; exact Try.info58s
      have LI2 : Hid ((Try.prog.info? 58).map (·.size) = some (Lib.byteCells pd).toArray.size) := by show _ = _; rw [List.size_toArray]; exact LI.out
      have ON1 : Hid ((Lib.byteCells pd).toArray.all (·.oneCell') = true) := all_oneCell_toArray (byteCells_one pd)
      have B1 : Hid (Bl W1 g' n (rep fs (hs.take j))) := BJ.out.same (by rw [← hW1]; exact Below.heap_alloc _ _ _ BJ.out.lt)
      have TH : Hid (W1.there g' (pa * 64) (Lib.byteCells pd).toArray.size) := by
        show World.there _ _ _ _
        rw [List.size_toArray, Lib.byteCells_length, hp.2]; exact B1.out.there hp.1
      obtain ⟨W2, hW2⟩ : ∃ W2, W1.setCells g' (pa * 64) (Lib.byteCells pd).toArray.toList = W2 := ⟨_, rfl⟩
      have B2 : Hid (Bl W2 g' n (rep fs (hs.take (j + 1)))) := by
        show Bl _ _ _ _
        rw [SN.out, rep_snoc, ← hW2]; exact B1.out.set hp.1 hp.2
      have WB : Hid (Below w.heap.size w W2) := by
        show Below _ _ _
        rw [← hW2]
        refine below_setCells LG.out _ _ _ ?_
        rw [← hW1]
        exact WJ.out.alloc WJ.out.size _
      obtain ⟨j1, hj1⟩ : ∃ j1, j + 1 = j1 := ⟨_, rfl⟩
      rw [hj1] at B2
      have HJ := Lib.hid hj1; have HJT := Lib.hid hjt
      have j0 : (0 : Int) ≤ (j : Int) := by omega
      have jl : (j : Int) < (t : Int) := by omega
      have f1 : (j : Int) + 1 = (j1 : Int) := by omega
      have f2 : IntKind.i64.wrap (j1 : Int) = (j1 : Int) := by rw [IntKind.wrap_i64]; have := TM.out; omega
      have p0 : (0 : Int) ≤ (pa : Int) := by omega
      have pl : (pa : Int) < (n : Int) := by have := hp.1; omega
      have zn := z60_ne
      clear hj hjt hjm hra hp ra SN hpe hCC one1 R1 hj1 hmv hmx hmx2
      go_wp2_with (first | (refine wpList_load_mid rfl 60 _ rfl gh (j * 65) rfl CC _ RG.out Try.underlying60 rfl LC.out ?_) | (refine wpList_load_mid rfl 58 _ rfl xb 1 rfl (Lib.byteCells pd) _ RG1.out Try.underlying58 rfl LI.out ?_) | (refine wpList_store_mid rfl 58 _ _ rfl g' (pa * 64) (Lib.byteCells pd).toArray rfl rfl TH.out LI2.out ON1.out ?_; rw [hW2]))
      go_roundw
      case measure => simp [intOf]; have := HJ.out; have := HJT.out; omega
      case rel => exact ⟨j1, by have := HJ.out; have := HJT.out; omega, rfl, B2⟩
    · have jl : ¬ (j : Int) < (t : Int) := by omega
      obtain rfl : t = j := by omega
      clear hjt hj
      go_wp2_with fail
      refine (with_any (cap := cap') BJ.out LG.out KV.out.n1.1 KV.out.n1.2).mono ?_; rintro e w5 ⟨D', rfl, hd, b⟩
      have HD := Lib.hid hd; have B5 := Lib.hid (WJ.out.trans (b.mono WJ.out.size))
      clear hd b
      go_wp2_with fail
      go_ret
      exact ⟨_, rfl, HD.out, B5.out⟩
end Go.Proofs.Ytgadplgjpemdaaa
