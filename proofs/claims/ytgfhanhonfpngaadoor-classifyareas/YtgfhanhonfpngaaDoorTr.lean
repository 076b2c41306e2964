/- tags: Insert where there is no room. -/
import Derived.Test.YtgfhanhonfpngaaDoorTq
namespace Go.Proofs.YtgfhanhonfpngaaDoor
open Go.ChangeShapes Go.WideShapes Go.ChangeAt Go.RowKit Go.Joins Go.Deep

open Go.Proofs.TagM Go.Shelf Go.Sort

theorem copy_step {ops : Array Oper} {o : Oper} {a : Act} {w : World} {K : Act → World → Prop} {Q : Exit → Act → World → Prop} {E : Prop} (hg : o.guard = none) (d x : Operand)
    (hop : o.op = Op.call { callee := Callee.builtin Builtin.copy, args := #[d, x], argTypes := #[22, 22] }) (v u : Value) (hd : a.eval d = v) (hx : a.eval x = u) {v' : Value} {w' : World}
    (hr : Sem.run Tryd.prog (Builtin.copy_ #[22, 22] o.type #[v, u]) w = .ok v' w') (hK : K (a.put o.dst v') w') : if Region.wanted o (yielded ops a.tmps) = true then Oper.wp Tryd.prog o a w K Q else E := by
  rw [if_pos (by unfold Region.wanted; rw [hg])]
  unfold Oper.wp
  simp only [execOp, hop, resolve, invoke, builtin, List.map_toArray, List.map_cons, List.map_nil, hd, hx, Sem.run_bind, Sem.run_pure, hr, Result.andThen]
  exact hK
theorem append_step {w : World} {ops : Array Oper} {rest : List Oper} {o : Oper} {a : Act} {Q : Exit → Act → World → Prop} (hgd : o.guard = none) (s x : Operand) (ho : o.op = .call { callee := .builtin .append, args := #[s, x], argTypes := #[22, 3] })
    (v u : Value) (hs : a.eval s = v) (hx : a.eval x = u) {v' : Value} {w' : World} (hr : Sem.run Tryd.prog (Builtin.append_ #[22, 3] o.type #[v, u]) w = .ok v' w') (h : wpList Tryd.prog ops Q rest (a.put o.dst v') w') : wpList Tryd.prog ops Q (o :: rest) a w := by
  refine wpList_plain hgd fun _ hK => ?_
  unfold Oper.wp execOp
  simp only [ho, resolve, invoke, builtin, Sem.run_bind, Sem.run_pure, Result.andThen_ok, List.map_toArray, List.map_cons, List.map_nil, hs, hx, hr]
  exact hK _ _ h
/- the two copies, one after the other -/
theorem spl_spl {A D rest : List Value} {cur : Array Value} {x y : Value} {i : Nat} (hA : A.length = i * 2) (hc : cur.toList = A ++ rest) :
    (spl (spl cur (i * 2) [x, y]) ((i + 1) * 2) D).toList.take (i * 2 + 2 + D.length) = A ++ (x :: y :: D) := by
  have e1 : (spl cur (i * 2) [x, y]).toList = A ++ ([x, y] ++ rest.drop 2) := by
    unfold spl
    simp only [hc, List.length_cons, List.length_nil]
    rw [← hA, List.take_left, List.append_assoc, ← List.drop_drop, List.drop_left]
  unfold spl at e1 ⊢
  simp only at e1 ⊢
  rw [e1]
  have e2 : (A ++ ([x, y] ++ rest.drop 2)).take ((i + 1) * 2) = A ++ [x, y] := by
    rw [← List.append_assoc, List.take_append_of_le_length (by simp; omega), List.take_of_length_le (by simp; omega)]
  rw [e2, List.append_assoc, List.append_assoc, ← List.append_assoc, ← List.append_assoc, List.take_append_of_le_length (by simp; omega), List.take_of_length_le (by simp; omega)]
  simp
set_option maxRecDepth 100000 in
set_option maxHeartbeats 4000000 in
theorem insert_grow {w : World} {base g cap vb i : Nat} {K : List Tg} (hr : RowT w g cap K) (hbg : base ≤ g) (hi : i < K.length) (hroom : cap < K.length + 1) (x y : ByteArray) (hv : Row w vb 32 [.string x, .string y]) (hl : K.length ≤ 1000000) :
    Calls Tryd.prog 34 #[.slice (some ⟨g, 0, none⟩) K.length cap, .int .i64 (i : Int), .slice (some ⟨vb, 0, none⟩) 1 1] w fun e w' => ∃ u', e = .returned u' ∧ TOwn w' base u' (insT K i (x, y)) ∧ Below base w w' := by
  obtain ⟨i0, hi0, hz0, hzs, hzb⟩ := Go.info_parts info32
  obtain ⟨cur, hg, hKc, hc63, hcs, htk⟩ := hr
  have hgl : g < w.heap.size := by
    by_cases h : g < w.heap.size
    · exact h
    · rw [Array.getElem?_eq_none (Nat.le_of_not_lt h)] at hg; cases hg
  have hcell : ∀ j v, (tcs K)[j]? = some v → w.cell? ⟨g, j, none⟩ = some v := by
    intro j v hj
    rw [← htk, List.getElem?_take] at hj
    split at hj
    · unfold World.cell?; rw [hg]; simpa using hj
    · cases hj
  obtain ⟨n, hn⟩ : ∃ n, K.length = n := ⟨_, rfl⟩
  obtain ⟨n1, hn1⟩ : ∃ n1, n + 1 = n1 := ⟨_, rfl⟩
  obtain ⟨k, hk⟩ : ∃ k, n1 - i = k := ⟨_, rfl⟩
  obtain ⟨i1, hi1⟩ : ∃ i1, i + 1 = i1 := ⟨_, rfl⟩
  obtain ⟨d, hd⟩ : ∃ d, n - i = d := ⟨_, rfl⟩
  have hd1 : n1 - i1 = d := by omega
  have LK : (tcs K).length = n * 2 := by rw [tcs_len, hn]
  rw [hn] at hi hroom hl hKc ⊢
  have hik : i + k = n1 := by omega
  have hold : (Builtin.firstCells i0.size i (.slice (some ⟨g, 0, none⟩) i cap)).run Tryd.prog w.drew = .ok ((tcs K).take (i * 2)).toArray w.drew := by
    rw [hzs]
    exact run_firstCells_some w.drew 2 i ⟨g, 0, none⟩ i cap ((tcs K).take (i * 2)) (by rw [List.length_take, LK]; omega) (fun j v hj => by
      rw [Addr.add_lit, Nat.zero_add]
      rw [List.getElem?_take] at hj
      split at hj
      · exact hcell j v hj
      · cases hj)
  have hrz := fun ty => Lib.run_append_grow_zeros w 22 3 ty 32 i0 zt .i64 .i64 Tryd.underlying22 Tryd.underlying3 hi0 hz0 (some ⟨g, 0, none⟩) i cap ((tcs K).take (i * 2)) hold k (by omega) (by omega) (by omega) (by omega) (by rw [hzb]; omega) (by rw [hzb, hik]; exact growslice_fits (by omega) (by omega))
  rw [hik] at hrz
  obtain ⟨G, hG⟩ : ∃ G, grownCap w n1 cap 32 = G := ⟨_, rfl⟩
  have hGn : n1 ≤ G := by rw [← hG]; exact grownCap_ge w _ _ _
  have hGm : G ≤ maxLen := by rw [← hG]; exact grownCap_le_maxLen w n1 cap 32 (by unfold maxLen; omega)
  simp only [hG] at hrz
  obtain ⟨Z, hZ⟩ : ∃ Z, (Builtin.zeroCells zt.cells k).toList ++ (Builtin.zeroCells zt.cells (G - n1)).toList = Z := ⟨_, rfl⟩
  have hZl : Z.length = (G - i) * 2 := by rw [← hZ]; simp [Builtin.zeroCells, Value.cells]; omega
  have hcur0 : ((tcs K).take (i * 2)).toArray ++ Builtin.zeroCells zt.cells k ++ Builtin.zeroCells zt.cells (G - n1) = ((tcs K).take (i * 2) ++ Z).toArray := by
    apply Array.ext'; rw [← hZ]; simp
  simp only [hcur0] at hrz
  obtain ⟨cur0, hC0⟩ : ∃ cur0, ((tcs K).take (i * 2) ++ Z).toArray = cur0 := ⟨_, rfl⟩
  have hC0l : cur0.toList = (tcs K).take (i * 2) ++ Z := by rw [← hC0]
  have hC0s : cur0.size = G * 2 := by rw [← hC0]; simp [hZl, LK]; omega
  simp only [hC0] at hrz
  obtain ⟨W1, hW1⟩ : ∃ W1, w.drew.alloc (.cells cur0 32) = W1 := ⟨_, rfl⟩
  simp only [hW1] at hrz
  have hN1 : W1.heap[w.heap.size]? = some (.cells cur0 32 (0, 0)) := by rw [← hW1]; exact heap_alloc_new w.drew _
  have b1 : Below w.heap.size w W1 := by rw [← hW1]; exact ((Below.refl _ w).drew).alloc (Nat.le_refl _) _
  have hvl := hv.lt
  have c1 := fun ty c => copy2 (w := W1) (g := w.heap.size) (o := i * 2) (dLen := k) (dCap := c) (sLen := 1) (sCap := 1) (m := 1) (a := ⟨vb, 0, none⟩) (cs := [.string x, .string y]) (by simp only [Nat.min_def]; split <;> omega) hN1 rfl
    (fun j v hj => by rw [Addr.add_lit, Nat.zero_add, b1.cell (by exact hvl)]; exact hv.cell hj) (by simp; omega) (by simp [Value.oneCell']) ty
  obtain ⟨W2, hW2⟩ : ∃ W2, W1.setRow w.heap.size (spl cur0 (i * 2) [.string x, .string y]) = W2 := ⟨_, rfl⟩
  simp only [hW2] at c1
  have hN2 : W2.heap[w.heap.size]? = some (.cells (spl cur0 (i * 2) [.string x, .string y]) 32 (0, 0)) := by rw [← hW2]; exact setRow_heap W1 _ _ _ 32 _ hN1
  have b2 : Below w.heap.size w W2 := by rw [← hW2]; exact b1.trans ⟨rfl, rfl, rfl, by simp [World.setRow], fun k hk => setRow_other _ _ _ _ (by omega)⟩
  have hS1 : (spl cur0 (i * 2) [Value.string x, Value.string y]).size = G * 2 := by rw [spl_size (by simp; omega)]; exact hC0s
  have LD : ((tcs K).drop (i * 2)).length = d * 2 := by rw [List.length_drop, LK]; omega
  have C2 := Lib.hid (fun ty c sc => copy2 (w := W2.drew) (g := w.heap.size) (o := i1 * 2) (dLen := d) (dCap := c) (sLen := d) (sCap := sc) (m := d) (a := ⟨g, i * 2, none⟩) (cs := (tcs K).drop (i * 2)) (by simp only [Nat.min_def]; split <;> omega) hN2 LD
    (fun j v hj => by
      rw [Addr.add_lit]
      rw [List.getElem?_drop] at hj
      show W2.cell? _ = _
      rw [b2.cell (by exact hgl)]; exact hcell _ v hj) (by rw [LD, hS1]; omega) (fun v hv => tcs_one K v (List.mem_of_mem_drop hv)) ty)
  obtain ⟨W3, hW3⟩ : ∃ W3, W2.drew.setRow w.heap.size (spl (spl cur0 (i * 2) [.string x, .string y]) (i1 * 2) ((tcs K).drop (i * 2))) = W3 := ⟨_, rfl⟩
  simp only [hW3] at C2
  have FB : Hid (Below base w W3) := by
    show Below _ _ _
    rw [← hW3]
    exact (show Below base w W2 from ⟨b2.os, b2.tape, b2.output, b2.size, fun k hk => b2.block k (by omega)⟩).drew.trans (setRow_below (by omega) _)
  have FO : Hid (TOwn W3 base (.slice (some ⟨w.heap.size, 0, none⟩) n1 G) (insT K i (x, y))) := by
    have hlen : (insT K i (x, y)).length = n1 := by rw [insT_len (by omega), hn]; exact hn1
    show TOwn _ _ _ _
    rw [show n1 = (insT K i (x, y)).length from hlen.symm]
    refine RowT.own ⟨spl (spl cur0 (i * 2) [.string x, .string y]) (i1 * 2) ((tcs K).drop (i * 2)), ?_, by rw [hlen]; exact hGn, hGm, ?_, ?_⟩ (by omega)
    · rw [← hW3]; exact setRow_heap W2.drew _ _ _ 32 _ hN2
    · rw [spl_size (by rw [LD, hS1]; omega)]; exact hS1
    · rw [hlen, tcs_ins, ← hi1]
      rw [show n1 * 2 = i * 2 + 2 + ((tcs K).drop (i * 2)).length from by rw [LD]; omega]
      exact spl_spl (by rw [List.length_take, LK]; omega) hC0l
  have hine : ((i : Int) == (n : Int)) = false := by simp; omega
  have e1 : (n : Int) + 1 = (n1 : Int) := by omega
  have e2 : IntKind.i64.wrap (n1 : Int) = (n1 : Int) := by rw [IntKind.wrap_i64]; omega
  have e3 : (cap : Int) < (n1 : Int) := by omega
  have e4 : (n1 : Int) - (i : Int) = (k : Int) := by omega
  have e5 : IntKind.i64.wrap (k : Int) = (k : Int) := by rw [IntKind.wrap_i64]; omega
  have e6 : (i : Int) + 1 = (i1 : Int) := by omega
  have e7 : IntKind.i64.wrap (i1 : Int) = (i1 : Int) := by rw [IntKind.wrap_i64]; omega
  have s0 : (0 : Int) ≤ (i : Int) := by omega
  have s1 : (i : Int) ≤ (n : Int) := by omega
  have s1' : i ≤ n := by omega
  have s2 : ¬ cap = i := by omega
  have s3 : ¬ G = i := by omega
  have s4 : ¬ G = i1 := by omega
  have s5 : (i : Int) ≤ (n1 : Int) := by omega
  have s5' : i ≤ n1 := by omega
  have s6 : (i1 : Int) ≤ (n1 : Int) := by omega
  have s6' : i1 ≤ n1 := by omega
  have s7 : (0 : Int) ≤ (i1 : Int) := by omega
  have s8 : (i : Int) ≤ (cap : Int) := by omega
  have s8' : i ≤ cap := by omega
  have HRZ := Lib.hid hrz
  clear hrz hold hcell htk hcs hc63 hg hgl hv hvl hN1 hN2 b1 b2 hW1 hW2 hW3 hS1 LD LK hC0 hC0l hC0s hcur0 hZ hZl hG hGn hGm hi0 hz0 hzs hzb hn hn1 hi1 hik hbg hroom hl hKc hi
  go_enter Tryd.func34, Tryd.ntmps34
  go_wp2_with (at_builtin; refine append_step rfl _ _ rfl _ _ rfl rfl (HRZ.out _) ?_)
  refine wp_region_drop (fun W => W = W2.drew) 8 (by kernel_rfl) rfl (fun hHeld => ?_)
  refine wpAnyD_take (i := 0) (v := ?_) rfl (by kernel_rfl) (by kernel_rfl) (by kernel_rfl) (by kernel_rfl) (fun _ _ _ h => h) (Or.inl ⟨by rfl, ?_⟩) (by assumption) ?_
  rotate_left 1
  · (intro w hSw; (try dsimp only at hSw); first | (go_simp; done) | (go_simp; with_reducible rfl))
  simp only [Act.put, List.getElem_toArray, List.getElem_cons_zero, List.setIfInBounds_toArray, List.set_cons_zero, List.set_cons_succ]
  refine wpAnyD_take (i := 1) (v := ?_) rfl (by kernel_rfl) (by kernel_rfl) (by kernel_rfl) (by kernel_rfl) (fun _ _ _ h => h) (Or.inl ⟨by rfl, ?_⟩) (by assumption) ?_
  rotate_left 1
  · (intro w hSw; (try dsimp only at hSw); first | (go_simp; done) | (go_simp; with_reducible rfl))
  simp only [Act.put, List.getElem_toArray, List.getElem_cons_zero, List.getElem_cons_succ, List.setIfInBounds_toArray, List.set_cons_zero, List.set_cons_succ]
  refine wpAnyD_take (i := 2) (v := ?_) rfl (by kernel_rfl) (by kernel_rfl) (by kernel_rfl) (by kernel_rfl) (fun _ _ _ h => h) (Or.inl ⟨by rfl, ?_⟩) (by assumption) ?_
  rotate_left 1
  · (intro w hSw; (try dsimp only at hSw); first | (go_simp; done) | (go_simp; with_reducible rfl))
  simp only [Act.put, List.getElem_toArray, List.getElem_cons_zero, List.getElem_cons_succ, List.setIfInBounds_toArray, List.set_cons_zero, List.set_cons_succ]
  refine wpAnyD_take (i := 3) (v := ?_) rfl (by kernel_rfl) (by kernel_rfl) (by kernel_rfl) (by kernel_rfl) (fun _ _ _ h => h) (Or.inl ⟨by rfl, ?_⟩) (by assumption) ?_
  rotate_left 1
  · (intro w hSw; (try dsimp only at hSw); first | (go_simp; done) | (go_simp; with_reducible rfl))
  simp only [Act.put, List.getElem_toArray, List.getElem_cons_zero, List.getElem_cons_succ, List.setIfInBounds_toArray, List.set_cons_zero, List.set_cons_succ]
  refine wpAnyD_take (i := 4) (v := ?_) rfl (by kernel_rfl) (by kernel_rfl) (by kernel_rfl) (by kernel_rfl) (fun _ _ _ h => h) (Or.inl ⟨by rfl, ?_⟩) (by assumption) ?_
  rotate_left 1
  · (intro w hSw; (try dsimp only at hSw); first | (go_simp; done) | (go_simp; with_reducible rfl))
  simp only [Act.put, List.getElem_toArray, List.getElem_cons_zero, List.getElem_cons_succ, List.setIfInBounds_toArray, List.set_cons_zero, List.set_cons_succ]
  refine wpAnyD_take (i := 5) (v := ?_) rfl (by kernel_rfl) (by kernel_rfl) (by kernel_rfl) (by kernel_rfl) (fun _ _ _ h => h) (Or.inl ⟨by rfl, ?_⟩) (by assumption) ?_
  rotate_left 1
  · (intro w hSw; (try dsimp only at hSw); first | (go_simp; done) | (go_simp; with_reducible rfl))
  simp only [Act.put, List.getElem_toArray, List.getElem_cons_zero, List.getElem_cons_succ, List.setIfInBounds_toArray, List.set_cons_zero, List.set_cons_succ]
  refine wpAnyD_take (i := 6) (v := ?_) rfl (by kernel_rfl) (by kernel_rfl) (by kernel_rfl) (by kernel_rfl) (fun _ _ _ h => h) (Or.inl ⟨by rfl, ?_⟩) (by assumption) ?_
  rotate_left 1
  · (intro w hSw; (try dsimp only at hSw); first | (go_simp; done) | (go_simp; with_reducible rfl))
  simp only [Act.put, List.getElem_toArray, List.getElem_cons_zero, List.getElem_cons_succ, List.setIfInBounds_toArray, List.set_cons_zero, List.set_cons_succ]
  refine wpAnyD_take (i := 7) (v := ?_) rfl (by kernel_rfl) (by kernel_rfl) (by kernel_rfl) (by kernel_rfl) (fun _ _ _ h => h) (Or.inl ⟨by rfl, ?_⟩) (by assumption) ?_
  rotate_left 1
  · (intro w hSw; (try dsimp only at hSw); first | (go_simp; done) | (go_simp; with_reducible rfl))
  simp only [Act.put, List.getElem_toArray, List.getElem_cons_zero, List.getElem_cons_succ, List.setIfInBounds_toArray, List.set_cons_zero, List.set_cons_succ]
  refine wpAnyD_drop (by kernel_rfl) rfl (fun KK hK => ?_)
  refine copy_step rfl _ _ rfl _ _ rfl rfl (C2.out _ _ _) ?_
  refine hK.out _ _ ?_
  clear hK KK hHeld
  refine wpAny_done (by kernel_rfl) ?_ _
  go_wp2_with fail
  go_ret
  exact ⟨_, rfl, FO.out, FB.out⟩
end Go.Proofs.YtgfhanhonfpngaaDoor

