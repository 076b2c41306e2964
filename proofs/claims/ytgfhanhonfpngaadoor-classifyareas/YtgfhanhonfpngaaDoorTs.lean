/- tags: Insert where there is room; Insert. -/
import Derived.Test.YtgfhanhonfpngaaDoorTr
namespace Go.Proofs.YtgfhanhonfpngaaDoor
open Go.ChangeShapes Go.WideShapes Go.ChangeAt Go.RowKit Go.Joins Go.Deep

open Go.Proofs.TagM Go.Shelf Go.Sort

theorem spl_spl2 {D : List Value} {cur : Array Value} {x y : Value} {i : Nat} (hs : (i + 1) * 2 + D.length ≤ cur.size) :
    (spl (spl cur ((i + 1) * 2) D) (i * 2) [x, y]).toList.take (i * 2 + 2 + D.length) = cur.toList.take (i * 2) ++ (x :: y :: D) := by
  have hs' : (i + 1) * 2 + D.length ≤ cur.toList.length := by simpa using hs
  have e1 : (spl cur ((i + 1) * 2) D).toList = cur.toList.take ((i + 1) * 2) ++ (D ++ cur.toList.drop ((i + 1) * 2 + D.length)) := by
    unfold spl
    rw [List.append_assoc]
  unfold spl at e1 ⊢
  simp only at e1 ⊢
  rw [e1]
  have a1 : (cur.toList.take ((i + 1) * 2) ++ (D ++ cur.toList.drop ((i + 1) * 2 + D.length))).take (i * 2) = cur.toList.take (i * 2) := by
    rw [List.take_append_of_le_length (by rw [List.length_take]; omega), List.take_take, Nat.min_eq_left (by omega)]
  have a2 : (cur.toList.take ((i + 1) * 2) ++ (D ++ cur.toList.drop ((i + 1) * 2 + D.length))).drop (i * 2 + [x, y].length) = D ++ cur.toList.drop ((i + 1) * 2 + D.length) := by
    rw [List.drop_append_of_le_length (by rw [List.length_take]; simp; omega), List.drop_eq_nil_of_le (by rw [List.length_take]; simp; omega), List.nil_append]
  rw [a1, a2, List.append_assoc, ← List.append_assoc, ← List.append_assoc, List.take_append_of_le_length (by simp; omega), List.take_of_length_le (by simp; omega)]
  simp
set_option maxRecDepth 100000 in
set_option maxHeartbeats 4000000 in
theorem insert_room {w : World} {base g cap vb i : Nat} {K : List Tg} (hr : RowT w g cap K) (hbg : base ≤ g) (hi : i < K.length) (hroom : K.length + 1 ≤ cap) (x y : ByteArray) (hv : Row w vb 32 [.string x, .string y]) (hvg : vb ≠ g) (hl : K.length ≤ 1000000) :
    Calls Tryd.prog 34 #[.slice (some ⟨g, 0, none⟩) K.length cap, .int .i64 (i : Int), .slice (some ⟨vb, 0, none⟩) 1 1] w fun e w' => ∃ u', e = .returned u' ∧ TOwn w' base u' (insT K i (x, y)) ∧ Below base w w' := by
  obtain ⟨cur, hg, hKc, hc63, hcs, htk⟩ := hr
  have hcell : ∀ j v, (tcs K)[j]? = some v → w.cell? ⟨g, j, none⟩ = some v := by
    intro j v hj
    rw [← htk, List.getElem?_take] at hj
    split at hj
    · unfold World.cell?; rw [hg]; simpa using hj
    · cases hj
  obtain ⟨n, hn⟩ : ∃ n, K.length = n := ⟨_, rfl⟩
  obtain ⟨n1, hn1⟩ : ∃ n1, n + 1 = n1 := ⟨_, rfl⟩
  obtain ⟨k, hk⟩ : ∃ k, n1 - i = k := ⟨_, rfl⟩
  obtain ⟨i1, hi1⟩ : ∃ i1, i + 1 = i1 := ⟨_, rfl⟩
  obtain ⟨d, hd⟩ : ∃ d, n1 - i1 = d := ⟨_, rfl⟩
  have LK : (tcs K).length = n * 2 := by rw [tcs_len, hn]
  rw [hn] at hi hroom hl hKc htk ⊢
  have hov : ∀ lb cb, (callFunc 40 #[.slice (some ⟨vb, 0, none⟩) 1 1, .slice (some ⟨g, i1 * 2, none⟩) lb cb]).run Tryd.prog w = .ok (.value (.bool false)) w := fun lb cb => by
    rw [run_callFunc_extern Tryd.func40 (by kernel_rfl) (by kernel_rfl) (by kernel_rfl) (e := Extern.SlicesOverlaps.overlaps #[22, 22] #[4]) (by kernel_rfl),
      Lib.run_overlaps_apart w 22 4 32 Tryd.underlying22 2 Tryd.sizeOf32 ⟨vb, 0, none⟩ ⟨g, i1 * 2, none⟩ 1 1 lb cb hvg 32 32 2 cur.size (by unfold World.shape?; rw [show w.heap[vb]? = _ from hv]; rfl) (by unfold World.shape?; rw [hg]) (by rw [hcs]; omega) hv.fr hv.fr]
    rfl
  have LD : ((tcs K).drop (i * 2)).length = d * 2 := by rw [List.length_drop, LK]; omega
  have C1 := Lib.hid (fun ty c sc => copy2 (w := w.drew) (g := g) (o := i1 * 2) (dLen := d) (dCap := c) (sLen := k) (sCap := sc) (m := d) (a := ⟨g, i * 2, none⟩) (cs := (tcs K).drop (i * 2)) (by simp only [Nat.min_def]; split <;> omega) hg LD
    (fun j v hj => by
      rw [Addr.add_lit]
      rw [List.getElem?_drop] at hj
      exact hcell _ v hj) (by rw [LD, hcs]; omega) (fun v hv => tcs_one K v (List.mem_of_mem_drop hv)) ty)
  obtain ⟨W1, hW1⟩ : ∃ W1, w.drew.setRow g (spl cur (i1 * 2) ((tcs K).drop (i * 2))) = W1 := ⟨_, rfl⟩
  simp only [hW1] at C1
  have hN1 : W1.heap[g]? = some (.cells (spl cur (i1 * 2) ((tcs K).drop (i * 2))) 32 (0, 0)) := by rw [← hW1]; exact setRow_heap w.drew _ _ _ 32 _ hg
  have hV1 : Row W1 vb 32 [.string x, .string y] := by unfold Row; rw [← hW1, setRow_other _ _ _ _ hvg]; exact hv
  have b1 : Below base w W1 := by rw [← hW1]; exact (Below.refl base w).drew.trans (setRow_below hbg _)
  have hS1 : (spl cur (i1 * 2) ((tcs K).drop (i * 2))).size = cap * 2 := by rw [spl_size (by rw [LD]; omega)]; exact hcs
  have c2 := fun ty c => copy2 (w := W1) (g := g) (o := i * 2) (dLen := k) (dCap := c) (sLen := 1) (sCap := 1) (m := 1) (a := ⟨vb, 0, none⟩) (cs := [.string x, .string y]) (by simp only [Nat.min_def]; split <;> omega) hN1 rfl
    (fun j v hj => by rw [Addr.add_lit, Nat.zero_add]; exact hV1.cell hj) (by rw [hS1]; simp; omega) (by simp [Value.oneCell']) ty
  obtain ⟨W2, hW2⟩ : ∃ W2, W1.setRow g (spl (spl cur (i1 * 2) ((tcs K).drop (i * 2))) (i * 2) [.string x, .string y]) = W2 := ⟨_, rfl⟩
  simp only [hW2] at c2
  have FB : Hid (Below base w W2) := by
    show Below _ _ _
    rw [← hW2]; exact b1.trans (setRow_below hbg _)
  have FO : Hid (TOwn W2 base (.slice (some ⟨g, 0, none⟩) n1 cap) (insT K i (x, y))) := by
    have hlen : (insT K i (x, y)).length = n1 := by rw [insT_len (by omega), hn]; exact hn1
    show TOwn _ _ _ _
    rw [show n1 = (insT K i (x, y)).length from hlen.symm]
    refine RowT.own ⟨spl (spl cur (i1 * 2) ((tcs K).drop (i * 2))) (i * 2) [.string x, .string y], ?_, by rw [hlen]; omega, hc63, ?_, ?_⟩ hbg
    · rw [← hW2]; exact setRow_heap W1 _ _ _ 32 _ hN1
    · rw [spl_size (by rw [hS1]; simp; omega)]; exact hS1
    · rw [hlen, tcs_ins, ← hi1, ← htk, List.take_take, Nat.min_eq_left (by omega)]
      rw [htk]
      rw [show n1 * 2 = i * 2 + 2 + ((tcs K).drop (i * 2)).length from by rw [LD]; omega]
      exact spl_spl2 (by rw [LD, hcs]; omega)
  have hine : ((i : Int) == (n : Int)) = false := by simp; omega
  have e1 : (n : Int) + 1 = (n1 : Int) := by omega
  have e2 : IntKind.i64.wrap (n1 : Int) = (n1 : Int) := by rw [IntKind.wrap_i64]; omega
  have e3 : ¬ (cap : Int) < (n1 : Int) := by omega
  have e6 : (i : Int) + 1 = (i1 : Int) := by omega
  have e7 : IntKind.i64.wrap (i1 : Int) = (i1 : Int) := by rw [IntKind.wrap_i64]; omega
  have s0 : (0 : Int) ≤ (i : Int) := by omega
  have s1 : (i : Int) ≤ (n : Int) := by omega
  have s1' : i ≤ n := by omega
  have s2 : ¬ cap = i := by omega
  have s3 : ¬ cap = i1 := by omega
  have s5 : (i : Int) ≤ (n1 : Int) := by omega
  have s5' : i ≤ n1 := by omega
  have s6 : (i1 : Int) ≤ (n1 : Int) := by omega
  have s6' : i1 ≤ n1 := by omega
  have s7 : (0 : Int) ≤ (i1 : Int) := by omega
  have s8 : (n1 : Int) ≤ (cap : Int) := by omega
  have s8' : n1 ≤ cap := by omega
  have s9 : (0 : Int) ≤ (n1 : Int) := by omega
  clear hcell htk hcs hc63 hg hv hvg hN1 hV1 b1 hW1 hW2 hS1 LD LK hn hn1 hi1 hbg hroom hl hKc hi
  go_enter Tryd.func34, Tryd.ntmps34
  go_wp2_with (simp only [hov])
  refine wp_region_drop (fun W => W = w.drew) 8 (by kernel_rfl) rfl (fun hHeld => ?_)
  refine wpAnyD_take (i := 0) (v := ?_) rfl (by kernel_rfl) (by kernel_rfl) (by kernel_rfl) (by kernel_rfl) (fun _ _ _ h => h) (Or.inl ⟨by rfl, ?_⟩) (by assumption) ?_
  rotate_left 1
  · (intro w hSw; (try dsimp only at hSw); first | (go_simp; done) | (go_simp; with_reducible rfl))
  simp only [Act.put, List.getElem_toArray, List.getElem_cons_zero, List.setIfInBounds_toArray, List.set_cons_zero, List.set_cons_succ]
  refine wpAnyD_take (i := 1) (v := ?_) rfl (by kernel_rfl) (by kernel_rfl) (by kernel_rfl) (by kernel_rfl) (fun _ _ _ h => h) (Or.inl ⟨by rfl, ?_⟩) (by assumption) ?_
  rotate_left 1
  · (intro w hSw; (try dsimp only at hSw); first | (go_simp; done) | (go_simp; with_reducible rfl))
  simp only [Act.put, List.getElem_toArray, List.getElem_cons_zero, List.getElem_cons_succ, List.setIfInBounds_toArray, List.set_cons_zero, List.set_cons_succ]
  refine wpAnyD_take (i := 2) (v := ?_) rfl (by kernel_rfl) (by kernel_rfl) (by kernel_rfl) (by kernel_rfl) (fun _ _ _ h => h) (Or.inl ⟨by rfl, ?_⟩) (by assumption) ?_
  rotate_left 1
  · (intro w hSw; (try dsimp only at hSw); first | (go_simp; done) | (go_simp; with_reducible rfl))
  simp only [Act.put, List.getElem_toArray, List.getElem_cons_zero, List.getElem_cons_succ, List.setIfInBounds_toArray, List.set_cons_zero, List.set_cons_succ]
  refine wpAnyD_take (i := 3) (v := ?_) rfl (by kernel_rfl) (by kernel_rfl) (by kernel_rfl) (by kernel_rfl) (fun _ _ _ h => h) (Or.inl ⟨by rfl, ?_⟩) (by assumption) ?_
  rotate_left 1
  · (intro w hSw; (try dsimp only at hSw); first | (go_simp; done) | (go_simp; with_reducible rfl))
  simp only [Act.put, List.getElem_toArray, List.getElem_cons_zero, List.getElem_cons_succ, List.setIfInBounds_toArray, List.set_cons_zero, List.set_cons_succ]
  refine wpAnyD_take (i := 4) (v := ?_) rfl (by kernel_rfl) (by kernel_rfl) (by kernel_rfl) (by kernel_rfl) (fun _ _ _ h => h) (Or.inl ⟨by rfl, ?_⟩) (by assumption) ?_
  rotate_left 1
  · (intro w hSw; (try dsimp only at hSw); first | (go_simp; done) | (go_simp; with_reducible rfl))
  simp only [Act.put, List.getElem_toArray, List.getElem_cons_zero, List.getElem_cons_succ, List.setIfInBounds_toArray, List.set_cons_zero, List.set_cons_succ]
  refine wpAnyD_take (i := 5) (v := ?_) rfl (by kernel_rfl) (by kernel_rfl) (by kernel_rfl) (by kernel_rfl) (fun _ _ _ h => h) (Or.inl ⟨by rfl, ?_⟩) (by assumption) ?_
  rotate_left 1
  · (intro w hSw; (try dsimp only at hSw); first | (go_simp; done) | (go_simp; with_reducible rfl))
  simp only [Act.put, List.getElem_toArray, List.getElem_cons_zero, List.getElem_cons_succ, List.setIfInBounds_toArray, List.set_cons_zero, List.set_cons_succ]
  refine wpAnyD_take (i := 6) (v := ?_) rfl (by kernel_rfl) (by kernel_rfl) (by kernel_rfl) (by kernel_rfl) (fun _ _ _ h => h) (Or.inl ⟨by rfl, ?_⟩) (by assumption) ?_
  rotate_left 1
  · (intro w hSw; (try dsimp only at hSw); first | (go_simp; done) | (go_simp; with_reducible rfl))
  simp only [Act.put, List.getElem_toArray, List.getElem_cons_zero, List.getElem_cons_succ, List.setIfInBounds_toArray, List.set_cons_zero, List.set_cons_succ]
  refine wpAnyD_take (i := 7) (v := ?_) rfl (by kernel_rfl) (by kernel_rfl) (by kernel_rfl) (by kernel_rfl) (fun _ _ _ h => h) (Or.inl ⟨by rfl, ?_⟩) (by assumption) ?_
  rotate_left 1
  · (intro w hSw; (try dsimp only at hSw); first | (go_simp; done) | (go_simp; with_reducible rfl))
  simp only [Act.put, List.getElem_toArray, List.getElem_cons_zero, List.getElem_cons_succ, List.setIfInBounds_toArray, List.set_cons_zero, List.set_cons_succ]
  refine wpAnyD_drop (by kernel_rfl) rfl (fun KK hK => ?_)
  refine copy_step rfl _ _ rfl _ _ rfl rfl (C1.out _ _ _) ?_
  refine hK.out _ _ ?_
  clear hK KK hHeld
  refine wpAny_done (by kernel_rfl) ?_ _
  go_wp2_with fail
  go_ret
  exact ⟨_, rfl, FO.out, FB.out⟩
theorem insert_any {w : World} {base vb i : Nat} {u : Value} {K : List Tg} (ho : TOwn w base u K) (hi : i ≤ K.length) (x y : ByteArray) (hv : Row w vb 32 [.string x, .string y]) (hvu : u.ownBlock ≠ some vb) (hl : K.length ≤ 1000000) (hbs : base ≤ w.heap.size) :
    Calls Tryd.prog 34 #[u, .int .i64 (i : Int), .slice (some ⟨vb, 0, none⟩) 1 1] w fun e w' => ∃ u', e = .returned u' ∧ TOwn w' base u' (insT K i (x, y)) ∧ Below base w w' := by
  by_cases h : i = K.length
  · subst h; exact insert_end ho x y hv hl hbs
  · rcases ho.2 with ⟨rfl, h0⟩ | ⟨g, cap, cur, rfl, hbg, _⟩
    · omega
    · obtain ⟨_, _, hr⟩ := ho.rowT
      by_cases hc : K.length + 1 ≤ cap
      · exact insert_room hr hbg (by omega) hc x y hv (fun e => hvu (by rw [e]; rfl)) hl
      · exact insert_grow hr hbg (by omega) (by omega) x y hv hl
end Go.Proofs.YtgfhanhonfpngaaDoor

