/- graph: own rows of rows; Out. -/
import Derived.Test.YtgofachgoflgnaaGf
import Derived.Deep.OwnRows
namespace Go.Proofs.Ytgofachgoflgnaa
open Go.ChangeShapes Go.WideShapes Go.ChangeAt Go.RowKit Go.Joins Go.Deep

abbrev nilV : Value := .slice none 0 0
abbrev Own1 (w : World) (v : Value) (l : List Int) : Prop := w.ownsRow 0 3 1 v l.length (nums l)
theorem Own1.same {w W : World} {v : Value} {l : List Int} (h : Own1 w v l) (e : ∀ g, v.ownBlock = some g → W.heap[g]? = w.heap[g]?) : Own1 W v l := by
  refine ⟨h.1, ?_⟩
  rcases h.2 with h0 | ⟨g, cap, cur, rfl, h2, hg, h3⟩
  · exact Or.inl h0
  · exact Or.inr ⟨g, cap, cur, rfl, h2, by rw [e g rfl]; exact hg, h3⟩
/- rows of the call's own, in a row of the call's own; all its blocks from base on -/
structure RR (w : World) (base ob n : Nat) (vs : List Value) (ls : List (List Int)) : Prop where
  o : Row w ob 25 vs
  vl : vs.length = n
  ll : ls.length = n
  i : ∀ k, k < n → Own1 w (vs.getD k nilV) (ls.getD k [])
  d : ∀ j k a, j < n → k < n → j ≠ k → (vs.getD j nilV).ownBlock = some a → (vs.getD k nilV).ownBlock = some a → False
  no : ∀ k, k < n → (vs.getD k nilV).ownBlock ≠ some ob
  go : base ≤ ob
  gi : ∀ k a, k < n → (vs.getD k nilV).ownBlock = some a → base ≤ a
theorem getD_setV (l : List Value) (i k : Nat) (x : Value) (hi : i < l.length) : (l.set i x).getD k nilV = if i = k then x else l.getD k nilV := by
  by_cases e : i = k
  · subst e; rw [if_pos rfl, List.getD, List.getElem?_set_self hi]; rfl
  · rw [if_neg e, List.getD, List.getElem?_set_ne e]; rfl
theorem getD_setL (l : List (List Int)) (i k : Nat) (x : List Int) (hi : i < l.length) : (l.set i x).getD k [] = if i = k then x else l.getD k [] := by
  by_cases e : i = k
  · subst e; rw [if_pos rfl, List.getD, List.getElem?_set_self hi]; rfl
  · rw [if_neg e, List.getD, List.getElem?_set_ne e]; rfl
theorem RR.keep {w W : World} {base ob n : Nat} {vs : List Value} {ls : List (List Int)} (r : RR w base ob n vs ls) (b : Below w.heap.size w W) : RR W base ob n vs ls :=
  ⟨r.o.below b r.o.lt, r.vl, r.ll, fun k hk => (r.i k hk).same (fun g e => b.block g ((r.i k hk).lt g e).2), r.d, r.no, r.go, r.gi⟩
theorem RR.cell {w : World} {base ob n k : Nat} {vs : List Value} {ls : List (List Int)} (r : RR w base ob n vs ls) (hk : k < n) : w.cell? ⟨ob, k, none⟩ = some (vs.getD k nilV) := by
  refine r.o.cell ?_
  rw [List.getD, List.getElem?_eq_getElem (by rw [r.vl]; exact hk)]; rfl
theorem RR.rows {w : World} {base ob n cap : Nat} {vs : List Value} {ls : List (List Int)} (r : RR w base ob n vs ls) : RowsAt w (.slice (some ⟨ob, 0, none⟩) n cap) ls :=
  ⟨_, cap, by rw [r.ll], Or.inr ⟨ob, rfl, fun j hj => ⟨_, r.cell (by rw [← r.ll]; exact hj), IntsAt.of_row (r.i j (by rw [← r.ll]; exact hj))⟩⟩⟩
theorem rr_new {w : World} {base n : Nat} (hb : base ≤ w.heap.size) : RR (w.alloc (.cells (madeCells #[nilV] n) 25)) base w.heap.size n (List.replicate n nilV) (List.replicate n []) := by
  have e : madeCells #[nilV] n = (List.replicate n nilV).toArray := by apply Array.ext'; rw [toList_madeCells_one]
  have gv' : ∀ k, (List.replicate n nilV).getD k nilV = nilV := fun k => by rw [List.getD, List.getElem?_replicate]; split <;> rfl
  have gl : ∀ k, (List.replicate n ([] : List Int)).getD k [] = [] := fun k => by rw [List.getD, List.getElem?_replicate]; split <;> rfl
  refine ⟨by rw [e]; exact Row.new _ _ _, by simp, by simp, fun k _ => ?_, fun j k a _ _ _ h => ?_, fun k _ h => ?_, hb, fun k a _ h => ?_⟩
  · rw [gv', gl]; exact World.ownsRow_nil _ _ _ _
  · rw [gv'] at h; cases h
  · rw [gv'] at h; cases h
  · rw [gv'] at h; cases h
/- one more number in row k -/
theorem rr_append {w w4 : World} {base ob n k : Nat} {vs : List Value} {ls : List (List Int)} {x : Int} {o : Obj} {v' : Value} (r : RR w base ob n vs ls) (hb : base ≤ w.heap.size) (hk : k < n)
    (own : w4.ownsRow 0 3 1 v' ((ls.getD k []).length + 1) (nums (ls.getD k []) ++ [.int .i64 x])) (gr : (w.alloc o).grownBy w4 (vs.getD k nilV).ownBlock) (loc : v'.ownBlock = (vs.getD k nilV).ownBlock ∨ v'.ownBlock = some (w.alloc o).heap.size) :
    w4.cell? ⟨ob, k, none⟩ = some (vs.getD k nilV) ∧ w4.frozen? ⟨ob, k, none⟩ = false ∧ RR (w4.setCell ⟨ob, k, none⟩ v') base ob n (vs.set k v') (ls.set k (ls.getD k [] ++ [x])) ∧ Below base w (w4.setCell ⟨ob, k, none⟩ v') := by
  have sa : (w.alloc o).heap.size = w.heap.size + 1 := World.size_alloc _ _
  have blk : ∀ a, a < w.heap.size → (vs.getD k nilV).ownBlock ≠ some a → w4.heap[a]? = w.heap[a]? := fun a h1 h2 => by
    rw [gr.block a (by omega) (fun e => h2 e.symm), Below.heap_alloc _ _ _ h1]
  have ro : Row w4 ob 25 vs := r.o.same (blk ob r.o.lt (r.no k hk))
  have own' : Own1 w4 v' (ls.getD k [] ++ [x]) := by
    unfold Own1
    rw [List.length_append, nums_append]; exact own
  have vb : ∀ a, v'.ownBlock = some a → (vs.getD k nilV).ownBlock = some a ∨ a = w.heap.size + 1 := fun a h => by
    rcases loc with h2 | h2
    · exact Or.inl (h2 ▸ h)
    · right; rw [h2] at h; injection h with h; omega
  have lt : ∀ j a, j < n → (vs.getD j nilV).ownBlock = some a → a < w.heap.size := fun j a hj h => ((r.i j hj).lt a h).2
  refine ⟨ro.cell ?_, ro.fr, ⟨ro.set _, by rw [List.length_set]; exact r.vl, by rw [List.length_set]; exact r.ll, fun j hj => ?_, fun i j a hi hj hij h1 h2 => ?_, fun j hj h => ?_, r.go, fun j a hj h => ?_⟩, ?_⟩
  · rw [List.getD, List.getElem?_eq_getElem (by rw [r.vl]; exact hk)]; rfl
  · rw [getD_setV _ _ _ _ (by rw [r.vl]; exact hk), getD_setL _ _ _ _ (by rw [r.ll]; exact hk)]
    by_cases e : k = j
    · rw [if_pos e, if_pos e]
      exact own'.same (fun g hg => Below.heap_setCell _ _ _ _ (by
        show g ≠ ob
        rcases vb g hg with h | h
        · intro e2; exact r.no k hk (e2 ▸ h)
        · have := r.o.lt; omega))
    · rw [if_neg e, if_neg e]
      exact (r.i j hj).same (fun g hg => by
        rw [Below.heap_setCell _ _ _ _ (by show g ≠ ob; intro e2; exact r.no j hj (e2 ▸ hg))]
        exact blk g (lt j g hj hg) (fun h => r.d k j g hk hj e h hg))
  · rw [getD_setV _ _ _ _ (by rw [r.vl]; exact hk)] at h1 h2
    by_cases e1 : k = i
    · rw [if_pos e1] at h1
      rw [if_neg (fun e2 => hij (e1.symm.trans e2))] at h2
      rcases vb a h1 with h | h
      · exact r.d k j a hk hj (fun e2 => hij (e1.symm.trans e2)) h h2
      · have := lt j a hj h2; omega
    · rw [if_neg e1] at h1
      by_cases e2 : k = j
      · rw [if_pos e2] at h2
        rcases vb a h2 with h | h
        · exact r.d i k a hi hk (fun e3 => e1 e3.symm) h1 h
        · have := lt i a hi h1; omega
      · rw [if_neg e2] at h2; exact r.d i j a hi hj hij h1 h2
  · rw [getD_setV _ _ _ _ (by rw [r.vl]; exact hk)] at h
    by_cases e : k = j
    · rw [if_pos e] at h
      rcases vb ob h with h | h
      · exact r.no k hk h
      · have := r.o.lt; omega
    · rw [if_neg e] at h; exact r.no j hj h
  · rw [getD_setV _ _ _ _ (by rw [r.vl]; exact hk)] at h
    by_cases e : k = j
    · rw [if_pos e] at h
      rcases vb a h with h | h
      · exact r.gi k a hk h
      · omega
    · rw [if_neg e] at h; exact r.gi j a hj h
  · exact (((Below.refl base w).alloc hb o).grown gr (by omega) (fun a e => r.gi k a hk e)).setCell (by exact r.go) _
/- the numbers of the first k arcs whose end is v -/
def ends (f : Int × Int → Int) (l : List (Int × Int)) (k : Nat) (v : Nat) : List Int := ((List.range k).filter fun i => decide (f (l.getD i (0, 0)) = (v : Int))).map fun i : Nat => (i : Int)
def groups (f : Int × Int → Int) (l : List (Int × Int)) (k n : Nat) : List (List Int) := (List.range n).map (ends f l k)
theorem groups_zero (f : Int × Int → Int) (l : List (Int × Int)) (n : Nat) : groups f l 0 n = List.replicate n [] := by
  unfold groups
  apply List.ext_getElem?
  intro j
  by_cases h : j < n
  · rw [List.getElem?_map, List.getElem?_range h, List.getElem?_replicate, if_pos h]; rfl
  · rw [List.getElem?_eq_none (by simp; omega), List.getElem?_eq_none (by simp; omega)]
theorem groups_len (f : Int × Int → Int) (l : List (Int × Int)) (k n : Nat) : (groups f l k n).length = n := by simp [groups]
theorem groups_get {f : Int × Int → Int} {l : List (Int × Int)} {k n v : Nat} (h : v < n) : (groups f l k n).getD v [] = ends f l k v := by
  unfold groups; rw [List.getD, List.getElem?_map, List.getElem?_range h]; rfl
theorem ends_succ (f : Int × Int → Int) (l : List (Int × Int)) (k v : Nat) : ends f l (k + 1) v = if f (l.getD k (0, 0)) = (v : Int) then ends f l k v ++ [(k : Int)] else ends f l k v := by
  unfold ends
  rw [List.range_succ, List.filter_append]
  by_cases h : f (l.getD k (0, 0)) = (v : Int)
  · rw [if_pos h, List.filter_cons_of_pos (by simpa using h)]; simp
  · rw [if_neg h, List.filter_cons_of_neg (by simpa using h)]; simp
theorem groups_succ {f : Int × Int → Int} {l : List (Int × Int)} {k n v : Nat} (hv : v < n) (h : f (l.getD k (0, 0)) = (v : Int)) : (groups f l k n).set v ((groups f l k n).getD v [] ++ [(k : Int)]) = groups f l (k + 1) n := by
  rw [groups_get hv]
  apply List.ext_getElem?
  intro j
  by_cases hj : j < n
  · have e : (groups f l (k + 1) n)[j]? = some (ends f l (k + 1) j) := by unfold groups; rw [List.getElem?_map, List.getElem?_range hj]; rfl
    rw [e, ends_succ]
    by_cases ev : v = j
    · subst ev
      rw [List.getElem?_set_self (by rw [groups_len]; exact hj), if_pos h]
    · rw [List.getElem?_set_ne ev, if_neg (by rw [h]; omega)]
      unfold groups; rw [List.getElem?_map, List.getElem?_range hj]; rfl
  · rw [List.getElem?_eq_none (by rw [List.length_set, groups_len]; omega), List.getElem?_eq_none (by rw [groups_len]; omega)]
end Go.Proofs.Ytgofachgoflgnaa
