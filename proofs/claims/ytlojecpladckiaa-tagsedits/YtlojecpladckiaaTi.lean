/- tags: Canon. -/
import Derived.Test.YtlojecpladckiaaTh
namespace Go.Proofs.Ytlojecpladckiaa
open Go.ChangeShapes Go.WideShapes Go.ChangeAt Go.RowKit Go.Joins Go.Deep

open Go.Proofs.TagM Go.Shelf Go.Sort

def cf (x y : Tg) : Int := Lib.compareBytes x.1.data.toList y.1.data.toList
theorem lt_cf (x y : Tg) : ltOf cf x y = klt x.1 y.1 := by
  unfold ltOf cf klt
  exact decide_eq_decide.2 (cmpB _ _).1
theorem swo_cf : SWO (ltOf cf) where
  irrefl x := by rw [lt_cf]; exact klt_irrefl _
  trans x y z h k := by rw [lt_cf] at *; exact klt_trans h k
  ntrans x y z h k := by
    rw [lt_cf] at *
    cases hh : klt x.1 z.1 with
    | false => rfl
    | true =>
      cases h2 : klt y.1 x.1 with
      | true => rw [klt_trans h2 hh] at k; cases k
      | false => rw [klt_tri h h2] at hh; rw [hh] at k; cases k
set_option maxHeartbeats 1000000 in
theorem closure27 (x y : Tg) (W : World) : Calls Try.prog 27 #[.agg #[.string x.1, .string x.2], .agg #[.string y.1, .string y.2]] W fun e w' => e = .returned (.int .i64 (cf x y)) ∧ ∃ q os', w' = grow (W.drewN q) os' := by
  have hcon := fun W' => Try.strings_Compare x.1 y.1 W'
  unfold cf
  generalize Lib.compareBytes x.1.data.toList y.1.data.toList = r at hcon ⊢
  obtain ⟨a, b⟩ := x; obtain ⟨c, d⟩ := y
  dsimp only at hcon ⊢
  go_enter Try.func27, Try.ntmps27
  go_wp2_with (go_at_call 28; refine (hcon _).mono ?_; rintro e w' ⟨rfl, rfl⟩)
  go_ret
  exact ⟨rfl, 0, _, by rw [alloc_eq_grow, alloc_eq_grow, grow_grow]; rfl⟩
theorem cmpLays27 (blk off size : Nat) (w : World) : CmpLays Try.prog 27 #[] encT 2 cf blk off size w :=
  fun _ _ _ _ x y => closure27 x y _
theorem below_sortWorld {w : World} {g off n : Nat} {d : Array Tg} {os : Array Obj} (hg : g < w.heap.size) : Below g w (sortWorldK encT 2 w g off n d os) := by
  unfold sortWorldK grow putRowK putRow mapBlock Sort.ahead
  refine ⟨rfl, rfl, rfl, by simp, fun k hk => ?_⟩
  show ((w.heap.modify g _) ++ os)[k]? = _
  have hl : k < w.heap.size := by omega
  rw [Array.getElem?_append_left (by simpa using hl), Array.getElem?_modify, if_neg (by omega)]
theorem holds_of {w : World} {b off : Nat} {l : List Tg} (hc : ∀ j, j < l.length → w.cell? ⟨b, off + j * 2, none⟩ = some (.string (l.getD j default).1) ∧ w.cell? ⟨b, off + j * 2 + 1, none⟩ = some (.string (l.getD j default).2)) (hf : ∀ j, w.frozen? ⟨b, j, none⟩ = false) : HoldsK encT 2 w b off l.toArray := by
  intro j hj
  rw [size_flatK] at hj
  have hj' : j < l.length * 2 := by simpa using hj
  rw [get_flatK _ _ _ _ hj]
  refine ⟨?_, hf _⟩
  have hd : j / 2 < l.length := by omega
  have e : l.toArray[j / 2]! = l.getD (j / 2) default := by
    rw [getElem!_pos l.toArray (j / 2) (by simpa using hd), List.getD, List.getElem?_eq_getElem hd]; simp
  rw [e]
  obtain ⟨c1, c2⟩ := hc (j / 2) hd
  rcases Nat.mod_two_eq_zero_or_one j with hm | hm
  · rw [hm]
    have ej : off + j = off + j / 2 * 2 := by omega
    rw [ej, c1]; rfl
  · rw [hm]
    have ej : off + j = off + j / 2 * 2 + 1 := by omega
    rw [ej, c2]; rfl
theorem at_of_holds {w : World} {b off n cap : Nat} {d : Array Tg} (h : HoldsK encT 2 w b off d) (hb : b < w.heap.size) (hn : d.size = n) : TagsAt w (.slice (some ⟨b, off, none⟩) n cap) d.toList := by
  refine ⟨_, cap, by rw [← hn]; simp, fun e => (by cases e), Or.inr ⟨b, off, rfl, hb, fun j hj => ?_⟩⟩
  have hj' : j < d.size := by simpa using hj
  have e : d[j]! = d.toList.getD j default := by
    rw [getElem!_pos d j hj', List.getD, List.getElem?_eq_getElem hj]; simp
  have c0 := (h.cell (i := j) (c := 0) hj' (by omega)).1
  have c1 := (h.cell (i := j) (c := 1) hj' (by omega)).1
  rw [e] at c0 c1
  exact ⟨c0, c1⟩
/- the row sorted, what was the call's own -/
theorem sort_any {w : World} {base : Nat} {v : Value} {l : List Tg} (h : TOwn w base v l) (hl : l.length ≤ 1000000) : Calls Try.prog 26 #[v, .func (.func 27) #[] #[]] w fun e w' => e = .returned (.tuple #[]) ∧ ∃ m, TagsAt w' v m ∧ m.Perm l ∧ m.Pairwise (fun a b => klt b.1 a.1 = false) ∧ Below base w w' := by
  by_cases hz : l = []
  · subst hz
    have h2 := h.at_
    obtain ⟨a, cap, rfl⟩ := h.form
    exact (AnyF.slices_SortFunc_none Try.sortTags a cap _ w).mono fun e w' ⟨he, hw⟩ => ⟨he, [], by rw [hw]; exact h2, List.Perm.refl _, List.Pairwise.nil, by rw [hw]; exact Below.refl _ _⟩
  · have h2 := h.at_
    have hlt := h.lt
    rcases h.2 with ⟨rfl, h0⟩ | ⟨g, cap, cur, rfl, hbg, hg, h3, h4, h5, h6⟩
    · exact absurd (List.eq_nil_of_length_eq_zero h0) hz
    · obtain ⟨a', cap', e', _, hh⟩ := h2
      rcases hh with hh | ⟨b, off, e, hb, hc⟩
      · exact absurd hh hz
      · injection e' with e1 e2 e3
        subst e1
        injection e with e; injection e with e1 e2; subst e1 e2
        have eg : ∀ args w, (callFunc 27 args).run Try.prog w = .ok (.enter 27 args) w := enters_of Try.func27 (by kernel_rfl) rfl
        have hH : HoldsK encT 2 w g 0 l.toArray := holds_of hc (fun j => by unfold World.frozen?; rw [hg]; simp)
        have hcon := AnyQ.slices_SortFunc Try.sortTags 2 Try.isAgg42 Try.sizeOf42 encT (fun _ => rfl) (fun x v hv => by simp [encT] at hv; rcases hv with rfl | rfl <;> rfl) cf swo_cf 27 #[] g 0 cap l.toArray w eg (cmpLays27 g 0 _ w) hH hb (by simp; omega)
        rw [show l.toArray.size = l.length from by simp] at hcon
        refine hcon.mono fun e w' => ?_
        rintro ⟨he, d', n, os, hp, hs, hw⟩
        have hsz : d'.size = l.length := by rw [hp.1]; simp
        refine ⟨he, d'.toList, ?_, ?_, ?_, ?_⟩
        · rw [hw]
          exact at_of_holds (holdsK_sortWorldK_c encT 2 w g 0 l.toArray d' n os hH hb (by rw [hsz]; simp)) (by have := size_sortWorldK_c encT 2 w g 0 n d' os; omega) hsz
        · have := hp.2.2
          rw [show (d'.extract 0 l.length).toList = d'.toList from by simp [← hsz], show (l.toArray.extract 0 l.length).toList = l from by simp] at this
          exact this
        · rw [List.pairwise_iff_getElem]
          intro i j hi hj hij
          have := hs i j (Nat.zero_le _) hij (by rw [← hsz]; simpa using hj)
          rw [lt_cf, getElem!_pos d' j (by simpa using hj), getElem!_pos d' i (by simpa using hi)] at this
          simpa using this
        · rw [hw]; exact ⟨(below_sortWorld hb).os, (below_sortWorld hb).tape, (below_sortWorld hb).output, (below_sortWorld hb).size, fun k hk => (below_sortWorld hb).block k (by omega)⟩
end Go.Proofs.Ytlojecpladckiaa
