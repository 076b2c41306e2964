/- The chapter's examples. -/
import Derived.Test.YthmhhjfonejifaaWd
namespace Go.Proofs.Ythmhhjfonejifaa
open Go.ChangeShapes Go.WideShapes Go.ChangeAt Go.RowKit Go.Joins Go.Deep

theorem ints_new {w : World} {l : List Int} {g n : Nat} (hn : n = l.length) (hg : w.heap.size = g) : IntsAt (w.alloc (.cells (nums l).toArray 3)) (.slice (some ⟨g, 0, none⟩) n n) l := by
  subst hg hn
  refine ⟨_, _, rfl, Nat.le_refl _, Or.inr ⟨_, 0, rfl, by simp, fun j hj => ?_⟩⟩
  have e : (w.alloc (.cells (nums l).toArray 3)).heap[w.heap.size]? = some (.cells (nums l).toArray 3) := by
    show (w.heap.push _)[w.heap.size]? = _
    rw [Array.getElem?_push, if_pos rfl]
  unfold World.cell?
  rw [e]
  simp [nums, hj, List.getD]
theorem below_al (w : World) (o : Obj) : Below w.heap.size w (w.alloc o) := (Below.refl _ _).alloc (Nat.le_refl _) o
theorem set313 {s : List Int} (h : IsSet [3, 1, 3] s) : s = [1, 3] := h.unique ⟨by decide, fun x => by simp; omega⟩
theorem dif123 {s : List Int} (h1 : SInc s) (h : ∀ x, x ∈ s ↔ Pf fD [1, 2, 3] [2] x) : s = [1, 3] := by
  refine sinc_unique h1 (by decide) fun x => ?_
  rw [h, pd]; simp; omega
theorem ex_k1 : decide ((1 : Int) ∈ [2, 1]) = true := by decide
theorem ex_k2 : decide ((0 : Int) ∈ ([] : List Int)) = false := by decide
theorem ex_k3 : subB [2, 2] [1, 2] = true := by decide
theorem ex_k4 : sameB [1] [2] = false := by decide
theorem ex_k5 : sameB [1, 2] [2, 1, 1] = true := by decide
theorem ex_k6 : decide (([1, 3] : List Int) = [1, 3]) = true := by decide
set_option maxRecDepth 100000 in
set_option maxHeartbeats 4000000 in
theorem lives_any (w : World) : Calls Try.prog 14 #[] w fun e w' => e = .returned (.bool true) ∧ Below w.heap.size w w' := by
  go_enter Try.func14, Try.ntmps14
  go_wp2_with fail
  refine (of_any (ints_new (w := w) (l := [3, 1, 3]) rfl rfl) (by decide)).mono ?_; rintro e w1 ⟨v1, s, rfl, h1, h2, h3, h4⟩
  obtain rfl := set313 h1
  have I1 := Lib.hid h2; have B1 := Lib.hid ((below_al w _).trans (h4.mono (by simp))); clear h1 h2 h3 h4
  obtain ⟨a1, c1, e1⟩ := I1.out.form
  subst e1
  go_wp2_with fail
  refine (equal_any (I1.out.below (below_al _ _)) (ints_new (w := w1) (l := [1, 3]) rfl rfl) (by decide) (by decide)).mono ?_; rintro e w2 ⟨rfl, q, hw⟩; rw [ex_k6]
  have B2 : Hid (Below w.heap.size w w2) := by show Below _ _ _; rw [hw]; exact below_drewN (B1.out.trans ((below_al w1 _).mono B1.out.size)) q
  clear hw I1 B1
  go_wp2_with fail
  refine (diff_any ((ints_new (w := w2) (l := [1, 2, 3]) rfl rfl).below (below_al _ _)) (ints_new (w := w2.alloc _) (l := [2]) rfl (by simp)) (by decide) (by decide)).mono ?_; rintro e w3 ⟨r, s, rfl, h1, h2, h3, h4, h5⟩
  obtain rfl := dif123 h2 h3
  have I3 := Lib.hid h1
  have B3 : Hid (Below w.heap.size w w3) := by
    have hs := B2.out.size
    exact ((B2.out.alloc hs _).alloc (by simp; omega) _).trans (h5.mono (by simp; omega))
  clear h1 h2 h3 h4 h5 B2
  obtain ⟨a3, c3, e3⟩ := I3.out.form
  subst e3
  go_wp2_with fail
  refine (equal_any (I3.out.below (below_al _ _)) (ints_new (w := w3) (l := [1, 3]) rfl rfl) (by decide) (by decide)).mono ?_; rintro e w4 ⟨rfl, q, hw⟩; rw [ex_k6]
  have B4 : Hid (Below w.heap.size w w4) := by show Below _ _ _; rw [hw]; exact below_drewN (B3.out.trans ((below_al w3 _).mono B3.out.size)) q
  clear hw I3 B3
  go_wp2_with fail
  refine (has_any (ints_new (w := w4) (l := [2, 1]) rfl rfl) 1 (by decide)).mono ?_; rintro e w5 ⟨rfl, hw⟩; rw [ex_k1]
  have B5 : Hid (Below w.heap.size w w5) := by show Below _ _ _; rw [← hw]; exact B4.out.trans ((below_al w4 _).mono B4.out.size)
  clear hw B4
  go_wp2_with fail
  refine (has_any (ints_nil w5) 0 (by decide)).mono ?_; rintro e w6 ⟨rfl, rfl⟩; rw [ex_k2]
  go_wp2_with fail
  refine (sub_any ((ints_new (w := w5) (l := [2, 2]) rfl rfl).below (below_al _ _)) (ints_new (w := w5.alloc _) (l := [1, 2]) rfl (by simp)) (by decide) (by decide)).mono ?_; rintro e w7 ⟨rfl, hb⟩; rw [ex_k3]
  have B7 : Hid (Below w.heap.size w w7) := by
    have hs := B5.out.size
    exact ((B5.out.alloc hs _).alloc (by simp; omega) _).trans (hb.mono (by simp; omega))
  clear hb B5
  go_wp2_with fail
  refine (same_any ((ints_new (w := w7) (l := [1]) rfl rfl).below (below_al _ _)) (ints_new (w := w7.alloc _) (l := [2]) rfl (by simp)) (by decide) (by decide)).mono ?_; rintro e w8 ⟨rfl, hb⟩; rw [ex_k4]
  have B8 : Hid (Below w.heap.size w w8) := by
    have hs := B7.out.size
    exact ((B7.out.alloc hs _).alloc (by simp; omega) _).trans (hb.mono (by simp; omega))
  clear hb B7
  go_wp2_with fail
  refine (same_any ((ints_new (w := w8) (l := [1, 2]) rfl rfl).below (below_al _ _)) (ints_new (w := w8.alloc _) (l := [2, 1, 1]) rfl (by simp)) (by decide) (by decide)).mono ?_; rintro e w9 ⟨rfl, hb⟩; rw [ex_k5]
  have B9 : Hid (Below w.heap.size w w9) := by
    have hs := B8.out.size
    exact ((B8.out.alloc hs _).alloc (by simp; omega) _).trans (hb.mono (by simp; omega))
  clear hb B8
  go_wp2_with fail
  go_ret
  exact ⟨rfl, B9.out⟩
end Go.Proofs.Ythmhhjfonejifaa
