/- classify: is and has, the program's and the reference's. -/
import Derived.Test.YtgfhanhonfpngaaDoorTu
namespace Go.Proofs.YtgfhanhonfpngaaDoor
open Go.ChangeShapes Go.WideShapes Go.ChangeAt Go.RowKit Go.Joins Go.Deep

open Go.Proofs.TagM Go.Shelf Go.Sort

def isB (l : List Tg) (k v : ByteArray) : Bool := (gt l k).2 && decide ((gt l k).1 = v)
def hasB (l : List Tg) (k : ByteArray) : Bool := (gt l k).2
theorem is_any {w : World} {v : Value} {l : List Tg} (key val : ByteArray) (h : TagsAt w v l) (hl : l.length ≤ 1000000) : Calls Tryd.prog 26 #[v, .string key, .string val] w fun e w' => e = .returned (.bool (isB l key val)) ∧ Below w.heap.size w w' := by
  have HG := Lib.hid (get_any key h hl)
  have V := Lib.hid (show isB l key val = ((gt l key).2 && decide ((gt l key).1 = val)) from rfl)
  obtain ⟨a, cap, rfl, _⟩ := h
  obtain ⟨⟨s, ok⟩, hs⟩ : ∃ z, gt l key = z := ⟨_, rfl⟩
  rw [hs] at HG V
  dsimp only at HG V
  obtain ⟨n, hn⟩ : ∃ n, l.length = n := ⟨_, rfl⟩
  rw [hn] at HG ⊢
  clear hs hn hl
  cases ok with
  | false =>
    go_enter Tryd.func26, Tryd.ntmps26
    go_wp2_with fail
    refine HG.out.mono ?_; rintro e w2 ⟨rfl, b⟩
    go_wp2_with fail
    go_ret
    exact ⟨by rw [V.out]; rfl, b⟩
  | true =>
    by_cases hv : s = val
    · obtain rfl := hv
      have V2 := Lib.hid (V.out.trans (show (true && decide (s = s)) = true by simp))
      clear V
      go_enter Tryd.func26, Tryd.ntmps26
      go_wp2_with fail
      refine HG.out.mono ?_; rintro e w2 ⟨rfl, b⟩
      go_wp2_with fail
      go_ret
      exact ⟨by rw [V2.out]; rfl, b⟩
    · have h1 := str_ne hv
      have V2 := Lib.hid (V.out.trans (show (true && decide (s = val)) = false by simp [hv]))
      clear V hv
      go_enter Tryd.func26, Tryd.ntmps26
      go_wp2_with fail
      refine HG.out.mono ?_; rintro e w2 ⟨rfl, b⟩
      go_wp2_with fail
      go_ret
      exact ⟨by rw [V2.out]; rfl, b⟩
theorem isr_any {w : World} {v : Value} {l : List Tg} (key val : ByteArray) (h : TagsAt w v l) (hl : l.length ≤ 1000000) : Calls Tryd.prog 28 #[v, .string key, .string val] w fun e w' => e = .returned (.bool (isB l key val)) ∧ w' = w := by
  have HG := Lib.hid (getr_any key h hl)
  have V := Lib.hid (show isB l key val = ((gt l key).2 && decide ((gt l key).1 = val)) from rfl)
  obtain ⟨a, cap, rfl, _⟩ := h
  obtain ⟨⟨s, ok⟩, hs⟩ : ∃ z, gt l key = z := ⟨_, rfl⟩
  rw [hs] at HG V
  dsimp only at HG V
  obtain ⟨n, hn⟩ : ∃ n, l.length = n := ⟨_, rfl⟩
  rw [hn] at HG ⊢
  clear hs hn hl
  cases ok with
  | false =>
    go_enter Tryd.func28, Tryd.ntmps28
    go_wp2_with fail
    refine HG.out.mono ?_; rintro e w2 ⟨rfl, rfl⟩
    go_wp2_with fail
    go_ret
    exact ⟨by rw [V.out]; rfl, rfl⟩
  | true =>
    by_cases hv : s = val
    · obtain rfl := hv
      have V2 := Lib.hid (V.out.trans (show (true && decide (s = s)) = true by simp))
      clear V
      go_enter Tryd.func28, Tryd.ntmps28
      go_wp2_with fail
      refine HG.out.mono ?_; rintro e w2 ⟨rfl, rfl⟩
      go_wp2_with fail
      go_ret
      exact ⟨by rw [V2.out]; rfl, rfl⟩
    · have h1 := str_ne hv
      have V2 := Lib.hid (V.out.trans (show (true && decide (s = val)) = false by simp [hv]))
      clear V hv
      go_enter Tryd.func28, Tryd.ntmps28
      go_wp2_with fail
      refine HG.out.mono ?_; rintro e w2 ⟨rfl, rfl⟩
      go_wp2_with fail
      go_ret
      exact ⟨by rw [V2.out]; rfl, rfl⟩
theorem has_any {w : World} {v : Value} {l : List Tg} (key : ByteArray) (h : TagsAt w v l) (hl : l.length ≤ 1000000) : Calls Tryd.prog 27 #[v, .string key] w fun e w' => e = .returned (.bool (hasB l key)) ∧ Below w.heap.size w w' := by
  have HG := Lib.hid (get_any key h hl)
  have V := Lib.hid (show hasB l key = (gt l key).2 from rfl)
  obtain ⟨a, cap, rfl, _⟩ := h
  obtain ⟨⟨s, ok⟩, hs⟩ : ∃ z, gt l key = z := ⟨_, rfl⟩
  rw [hs] at HG V
  dsimp only at HG V
  obtain ⟨n, hn⟩ : ∃ n, l.length = n := ⟨_, rfl⟩
  rw [hn] at HG ⊢
  clear hs hn hl
  go_enter Tryd.func27, Tryd.ntmps27
  go_wp2_with fail
  refine HG.out.mono ?_; rintro e w2 ⟨rfl, b⟩
  go_wp2_with fail
  go_ret
  exact ⟨by rw [V.out]; rfl, b⟩
theorem hasr_any {w : World} {v : Value} {l : List Tg} (key : ByteArray) (h : TagsAt w v l) (hl : l.length ≤ 1000000) : Calls Tryd.prog 29 #[v, .string key] w fun e w' => e = .returned (.bool (hasB l key)) ∧ w' = w := by
  have HG := Lib.hid (getr_any key h hl)
  have V := Lib.hid (show hasB l key = (gt l key).2 from rfl)
  obtain ⟨a, cap, rfl, _⟩ := h
  obtain ⟨⟨s, ok⟩, hs⟩ : ∃ z, gt l key = z := ⟨_, rfl⟩
  rw [hs] at HG V
  dsimp only at HG V
  obtain ⟨n, hn⟩ : ∃ n, l.length = n := ⟨_, rfl⟩
  rw [hn] at HG ⊢
  clear hs hn hl
  go_enter Tryd.func29, Tryd.ntmps29
  go_wp2_with fail
  refine HG.out.mono ?_; rintro e w2 ⟨rfl, rfl⟩
  go_wp2_with fail
  go_ret
  exact ⟨by rw [V.out]; rfl, rfl⟩
end Go.Proofs.YtgfhanhonfpngaaDoor
