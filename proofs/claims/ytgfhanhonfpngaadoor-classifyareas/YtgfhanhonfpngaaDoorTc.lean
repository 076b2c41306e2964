/- tags: find and Get, the program's and the reference's; Number. -/
import Derived.Test.YtgfhanhonfpngaaDoorTb
import Derived.Test.YtgfhanhonfpngaaDoorShelf
import Derived.Lib.SliceRun
namespace Go.Proofs.YtgfhanhonfpngaaDoor
open Go.ChangeShapes Go.WideShapes Go.ChangeAt Go.RowKit Go.Joins Go.Deep

open Go.Proofs.TagM Go.Shelf

def encT (t : Tg) : List Value := [.string t.1, .string t.2]
theorem find_pred (key : ByteArray) (B : Nat) (w : World) (hB : B < w.heap.size) (hcell : w.cell? ⟨B, 0, none⟩ = some (.string key)) :
    PredBelow Tryd.prog 39 #[.pointer (some ⟨B, 0, none⟩)] (fun x => .agg (encT x).toArray) (fun x => decide (x.1 = key)) w := fun W x hb => by
  obtain ⟨x, y⟩ := x
  have hc : W.cell? ⟨B, 0, none⟩ = some (.string key) := (hb.cell (p := ⟨B, 0, none⟩) hB).trans hcell
  have hBW : B < W.heap.size := Nat.lt_of_lt_of_le hB hb.size
  have hne : B ≠ W.heap.size := by omega
  have BB := Lib.hid (hb.alloc (o := .cells #[.string x, .string y] 32) hb.size)
  show Calls Tryd.prog 39 #[.agg #[.string x, .string y], .pointer (some ⟨B, 0, none⟩)] W _
  by_cases h : x = key
  · obtain rfl := h
    clear hb hcell hB
    go_enter Tryd.func39, Tryd.ntmps39
    go_wp2
    go_ret
    exact ⟨by simp, BB.out⟩
  · have h1 := str_ne h
    have V := Lib.hid (show decide (x = key) = false from decide_eq_false h)
    clear hb hcell hB h
    go_enter Tryd.func39, Tryd.ntmps39
    go_wp2
    go_ret
    exact ⟨by show _ = Ending.returned (.bool (decide (x = key))); rw [V.out]; rfl, BB.out⟩
theorem index_empty (g cap : Nat) (a : Option Addr) (lb : Array Value) (w : World) : Calls Tryd.prog 36 #[.slice a 0 cap, .func (.func g) #[] lb] w fun e w' => e = .returned (.int .i64 (-1)) ∧ w' = w := by
  go_enter Tryd.func36, Tryd.ntmps36
  go_wp2_with fail
  go_loopw [8] (fun s wr => s = .int .i64 0 ∧ wr = w) (fun _ _ => 0)
  case atStart => exact ⟨rfl, rfl⟩
  case round =>
    obtain ⟨rfl, rfl⟩ := hrel
    go_wp2_with fail
    go_ret
    exact ⟨rfl, rfl⟩
theorem getD_eq {l : List Tg} {j : Nat} (h : j < l.length) : l[j]! = l.getD j default := by
  rw [List.getD, List.getElem?_eq_getElem h, Option.getD_some, getElem!_pos l j h]
set_option maxHeartbeats 2000000 in
theorem find_any {w : World} {v : Value} {l : List Tg} (key : ByteArray) (h : TagsAt w v l) (hl : l.length ≤ 1000000) : Calls Tryd.prog 33 #[v, .string key] w fun e w' => e = .returned (.int .i64 (fnd l key)) ∧ Below w.heap.size w w' := by
  obtain ⟨a, cap, rfl, _, h⟩ := h
  have B1 := Lib.hid (show Below w.heap.size w (w.alloc (.cells #[.string key] 9)) from (Below.refl _ _).alloc (Nat.le_refl _) _)
  by_cases hz : l = []
  · subst hz
    clear h
    have hcon := fun W => index_empty 39 cap a #[.pointer (some ⟨w.heap.size, 0, none⟩)] W
    go_enter Tryd.func33, Tryd.ntmps33
    go_wp2_with (go_at_call 36; refine (hcon _).mono ?_; rintro e w' ⟨rfl, rfl⟩)
    go_ret
    exact ⟨rfl, B1.out⟩
  · rcases h with h | ⟨b, off, rfl, hb, hc⟩
    · exact absurd h hz
    · have eg : ∀ args w, (callFunc 39 args).run Tryd.prog w = .ok (.enter 39 args) w := enters_of Tryd.func39 (by kernel_rfl) rfl
      have hcon := AnyQ.slices_IndexFunc Tryd.indexTags 2 Tryd.isAgg32 Tryd.sizeOf32 encT (fun _ => rfl) (fun x => decide (x.1 = key)) 39 #[.pointer (some ⟨w.heap.size, 0, none⟩)] eg b off l.length cap l (w.alloc (.cells #[.string key] 9))
        (find_pred key w.heap.size _ (by simp) (by simp)) (Nat.le_refl _) (by omega) (by simp; omega) (fun j hj i v hi => by
          refine Lib.cell?_alloc_some _ ?_
          have h1 := hc j hj
          rw [getD_eq hj] at hi
          generalize l.getD j default = y at hi h1
          match i, hi with
          | 0, hi => simp [encT] at hi; rw [← hi]; exact h1.1
          | 1, hi => simp [encT] at hi; rw [← hi]; exact h1.2
          | i + 2, hi => simp [encT] at hi)
      change Calls Tryd.prog 36 _ _ _ at hcon
      rw [List.take_length] at hcon
      clear hc hz
      unfold fnd
      generalize Lib.idxBy (fun _ y => decide (y.1 = key)) l default = r at hcon ⊢
      generalize l.length = n at hcon ⊢
      go_enter Tryd.func33, Tryd.ntmps33
      go_wp2_with (go_at_call 36; refine hcon.mono ?_; rintro e w' ⟨rfl, hb'⟩)
      go_ret
      exact ⟨rfl, B1.out.trans (hb'.mono (by simp))⟩
end Go.Proofs.YtgfhanhonfpngaaDoor

