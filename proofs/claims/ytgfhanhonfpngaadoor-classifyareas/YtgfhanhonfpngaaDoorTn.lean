/- tags: DeleteFunc; Drop. -/
import Derived.Test.YtgfhanhonfpngaaDoorTm
import Derived.Laws.CopyRow
namespace Go.Proofs.YtgfhanhonfpngaaDoor
open Go.ChangeShapes Go.WideShapes Go.ChangeAt Go.RowKit Go.Joins Go.Deep

open Go.Proofs.TagM Go.Shelf Go.Sort

/- a row in a block of its own, with its spare cells -/
def RowT (w : World) (g cap : Nat) (K : List Tg) : Prop := ∃ cur : Array Value, w.heap[g]? = some (.cells cur 32 (0, 0)) ∧ K.length ≤ cap ∧ cap ≤ maxLen ∧ cur.size = cap * 2 ∧ cur.toList.take (K.length * 2) = tcs K
theorem RowT.own {w : World} {g cap base : Nat} {K : List Tg} (h : RowT w g cap K) (hb : base ≤ g) : TOwn w base (.slice (some ⟨g, 0, none⟩) K.length cap) K := by
  obtain ⟨cur, h1, h2, h3, h4, h5⟩ := h
  exact ⟨by rw [tcs_len], Or.inr ⟨g, cap, cur, rfl, hb, h1, h2, h3, h4, h5⟩⟩
theorem TOwn.rowT {w : World} {g cap base n : Nat} {K : List Tg} (h : TOwn w base (.slice (some ⟨g, 0, none⟩) n cap) K) : base ≤ g ∧ K.length = n ∧ RowT w g cap K := by
  rcases h.2 with ⟨e, _⟩ | ⟨g', cap', cur, e, hb, hg, h1, h2, h3, h4⟩
  · cases e
  · injection e with e1 e2 e3
    injection e1 with e1; injection e1 with e1; subst e1 e3
    exact ⟨hb, e2.symm, cur, hg, h1, h2, h3, h4⟩
theorem RowT.lt {w : World} {g cap : Nat} {K : List Tg} (h : RowT w g cap K) : g < w.heap.size := by
  obtain ⟨cur, h1, _⟩ := h
  by_cases hl : g < w.heap.size
  · exact hl
  · rw [Array.getElem?_eq_none (Nat.le_of_not_lt hl)] at h1; cases h1
theorem RowT.keep {w W : World} {g cap : Nat} {K : List Tg} (h : RowT w g cap K) (b : W.heap[g]? = w.heap[g]?) : RowT W g cap K := by
  obtain ⟨cur, h1, h2⟩ := h
  exact ⟨cur, by rw [b]; exact h1, h2⟩
theorem RowT.at_ {w : World} {g cap j : Nat} {K : List Tg} (h : RowT w g cap K) (hj : j < K.length) : w.cell? ⟨g, j * 2, none⟩ = some (.string (K.getD j default).1) ∧ w.cell? ⟨g, j * 2 + 1, none⟩ = some (.string (K.getD j default).2) := by
  obtain ⟨cur, hg, h2, h3, h4, h5⟩ := h
  obtain ⟨a1, a2⟩ := tcs_get K j hj
  rw [← h5, List.getElem?_take, if_pos (by omega)] at a1 a2
  refine ⟨?_, ?_⟩
  · unfold World.cell?; rw [hg]; simpa using a1
  · unfold World.cell?; rw [hg]; simpa using a2
theorem tcs_set : ∀ (l : List Tg) (i : Nat) (x y : ByteArray), ((tcs l).set (i * 2) (.string x)).set (i * 2 + 1) (.string y) = tcs (l.set i (x, y))
  | [], _, _, _ => rfl
  | a :: l, 0, _, _ => rfl
  | a :: l, i + 1, x, y => by
    have ih := tcs_set l i x y
    have e1 : (i + 1) * 2 = i * 2 + 1 + 1 := by omega
    rw [e1, tcs, List.set_cons_succ, List.set_cons_succ, List.set_cons_succ, List.set_cons_succ, ih, List.set_cons_succ, tcs]
theorem RowT.put {w : World} {g cap k : Nat} {K : List Tg} (h : RowT w g cap K) (hk : k < K.length) (x y : ByteArray) :
    (w.cell? ⟨g, k * 2, none⟩).isSome = true ∧ (w.cell? ⟨g, k * 2 + 1, none⟩).isSome = true ∧ w.frozen? ⟨g, k * 2, none⟩ = false ∧ w.frozen? ⟨g, k * 2 + 1, none⟩ = false ∧
    RowT ((w.setCell ⟨g, k * 2, none⟩ (.string x)).setCell ⟨g, k * 2 + 1, none⟩ (.string y)) g cap (K.set k (x, y)) := by
  obtain ⟨cur, hg, h2, h3, h4, h5⟩ := h
  have s1 : k * 2 < cur.size := by rw [h4]; omega
  have s2 : k * 2 + 1 < cur.size := by rw [h4]; omega
  refine ⟨?_, ?_, ?_, ?_, ?_⟩
  · unfold World.cell?; rw [hg]; simp [s1]
  · unfold World.cell?; rw [hg]; simp [s2]
  · unfold World.frozen?; rw [hg]; simp
  · unfold World.frozen?; rw [hg]; simp
  · have g1 := heap_setCell_same w g (k * 2) cur 32 (.string x) hg
    have g2 := heap_setCell_same _ g (k * 2 + 1) _ 32 (.string y) g1
    refine ⟨_, g2, by rw [List.length_set]; exact h2, h3, by simpa using h4, ?_⟩
    rw [List.length_set, ← tcs_set, ← h5]
    simp only [Array.toList_setIfInBounds]
    rw [List.take_set, List.take_set]
theorem tcs_take : ∀ (l : List Tg) (i : Nat), tcs (l.take i) = (tcs l).take (i * 2)
  | [], i => by simp [tcs]
  | a :: l, 0 => by simp [tcs]
  | a :: l, i + 1 => by
    have e1 : (i + 1) * 2 = i * 2 + 1 + 1 := by omega
    rw [e1, List.take_succ_cons, tcs, tcs, List.take_succ_cons, List.take_succ_cons, tcs_take l i]
/- clear(s[i:]): what stands ahead of i stays -/
theorem clear_run {w : World} {g cap i n : Nat} {K : List Tg} (h : RowT w g cap K) (hn : 0 < n) (hK : i + n = K.length) :
    ∃ w', (∀ ty c, (Builtin.clear_ #[22] ty #[.slice (some ⟨g, i * 2, none⟩) n c]).run Tryd.prog w = .ok (.tuple #[]) w') ∧ RowT w' g cap (K.take i) ∧ Below g w w' := by
  obtain ⟨cur, hg, h2, h3, h4, h5⟩ := h
  have z0 : ∀ w, (zeroValue 32).run Tryd.prog w = .ok zt w := Tryd.zeroValue32
  have hone : ∀ v ∈ (Builtin.zeroCells zt.cells n).toList, v.oneCell' = true := by
    intro v hv
    simp [Builtin.zeroCells, Value.cells] at hv
    obtain ⟨a, _, rfl⟩ := hv
    rcases Nat.mod_two_eq_zero_or_one a with e | e <;> simp [e, Value.oneCell']
  have hlen : (Builtin.zeroCells zt.cells n).toList.length = n * 2 := by simp [Builtin.zeroCells, Value.cells]
  have hst := run_storeCells_at Tryd.prog g (i * 2) 32 (Builtin.zeroCells zt.cells n).toList 0 cur w hg (by rw [hlen, h4]; omega) hone
  obtain ⟨R, hR⟩ : ∃ R, (cur.toList.take (i * 2 + 0) ++ (Builtin.zeroCells zt.cells n).toList ++ cur.toList.drop (i * 2 + 0 + (Builtin.zeroCells zt.cells n).toList.length)).toArray = R := ⟨_, rfl⟩
  rw [hR] at hst
  obtain ⟨m, rfl⟩ : ∃ m, n = m + 1 := ⟨n - 1, by omega⟩
  refine ⟨w.setRow g R, fun ty c => by simp [Builtin.clear_, run_underlying Tryd.underlying22, z0, hst], ?_, ?_⟩
  · refine ⟨_, setRow_heap w g cur _ 32 _ hg, by rw [List.length_take]; omega, h3, ?_, ?_⟩
    · rw [← hR]; simp [h4] at hlen ⊢; omega
    · rw [← hR]
      rw [List.length_take, Nat.min_eq_left (by omega)]
      rw [tcs_take, ← h5, List.take_take, Nat.min_eq_left (by omega)]
      simp only [Nat.add_zero, List.append_assoc]
      rw [List.take_append_of_le_length (by simp; omega), List.take_take, Nat.min_eq_left (Nat.le_refl _)]
  · exact ⟨rfl, rfl, rfl, by simp [World.setRow], fun k hk => setRow_other w g k _ (by omega)⟩
theorem drop_pred (key : ByteArray) (B : Nat) (w : World) (hB : B < w.heap.size) (hcell : w.cell? ⟨B, 0, none⟩ = some (.string key)) :
    PredBelow Tryd.prog 43 #[.pointer (some ⟨B, 0, none⟩)] (fun x => .agg (encT x).toArray) (fun x => decide (x.1 = key)) w := fun W x hb => by
  obtain ⟨x, y⟩ := x
  have hc : W.cell? ⟨B, 0, none⟩ = some (.string key) := (hb.cell (p := ⟨B, 0, none⟩) hB).trans hcell
  have hBW : B < W.heap.size := Nat.lt_of_lt_of_le hB hb.size
  have hne : B ≠ W.heap.size := by omega
  have BB := Lib.hid (hb.alloc (o := .cells #[.string x, .string y] 32) hb.size)
  show Calls Tryd.prog 43 #[.agg #[.string x, .string y], .pointer (some ⟨B, 0, none⟩)] W _
  by_cases h : x = key
  · obtain rfl := h
    clear hb hcell hB
    go_enter Tryd.func43, Tryd.ntmps43
    go_wp2
    go_ret
    exact ⟨by simp, BB.out⟩
  · have h1 := str_ne h
    have V := Lib.hid (show decide (x = key) = false from decide_eq_false h)
    clear hb hcell hB h
    go_enter Tryd.func43, Tryd.ntmps43
    go_wp2
    go_ret
    exact ⟨by show _ = Ending.returned (.bool (decide (x = key))); rw [V.out]; rfl, BB.out⟩
theorem index_any {w : World} {v : Value} {l : List Tg} (g : Nat) (lb : Array Value) (p : Tg → Bool) (eg : ∀ args w, (callFunc g args).run Tryd.prog w = .ok (.enter g args) w) (hp : PredBelow Tryd.prog g lb (fun x => .agg (encT x).toArray) p w) (h : TagsAt w v l) (hl : l.length ≤ 1000000) :
    Calls Tryd.prog 36 #[v, .func (.func g) #[] lb] w fun e w' => e = .returned (.int .i64 (Lib.idxBy (fun (_ : Tg) y => p y) l default)) ∧ Below w.heap.size w w' := by
  obtain ⟨a, cap, rfl, _, h⟩ := h
  by_cases hz : l = []
  · subst hz
    exact (index_empty g cap a lb w).mono fun e w' ⟨he, hw⟩ => ⟨he, by rw [hw]; exact Below.refl _ _⟩
  · rcases h with h | ⟨b, off, rfl, hb, hc⟩
    · exact absurd h hz
    · have hcon := AnyQ.slices_IndexFunc Tryd.indexTags 2 Tryd.isAgg32 Tryd.sizeOf32 encT (fun _ => rfl) p g lb eg b off l.length cap l w hp (Nat.le_refl _) (by omega) hb (fun j hj i v hi => by
          have h1 := hc j hj
          rw [getD_eq hj] at hi
          generalize l.getD j default = y at hi h1
          match i, hi with
          | 0, hi => simp [encT] at hi; rw [← hi]; exact h1.1
          | 1, hi => simp [encT] at hi; rw [← hi]; exact h1.2
          | i + 2, hi => simp [encT] at hi)
      change Calls Tryd.prog 36 _ _ _ at hcon
      rw [List.take_length] at hcon
      exact hcon
theorem fl_none {k : ByteArray} {l : List Tg} (h : ∀ t ∈ l, t.1 ≠ k) : fl k l = l := by
  unfold fl
  rw [List.filter_eq_self]
  intro t ht; simpa using h t ht
theorem fl_first {k : ByteArray} {l : List Tg} {i : Nat} (hi : i < l.length) (he : (l.getD i default).1 = k) (hn : ∀ j, j < i → (l.getD j default).1 ≠ k) : fl k (l.take (i + 1)) = l.take i := by
  rw [fl_take hi, if_pos he, List.append_nil]
  refine fl_none fun t ht => ?_
  obtain ⟨j, hj, e⟩ := mem_of_getD ht
  rw [List.length_take] at hj
  have := hn j (by omega)
  rw [← e]
  rw [List.getD, List.getElem?_take, if_pos (by omega)]
  exact this
end Go.Proofs.YtgfhanhonfpngaaDoor

