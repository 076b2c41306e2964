/- tags: the reference's Set. -/
import Derived.Test.YtgfhanhonfpngaaDoorTg
namespace Go.Proofs.YtgfhanhonfpngaaDoor
open Go.ChangeShapes Go.WideShapes Go.ChangeAt Go.RowKit Go.Joins Go.Deep

open Go.Proofs.TagM Go.Shelf

/- a new tag in its place; the first tag with the key replaced -/
def stI (k v : ByteArray) : List Tg → List Tg
  | [] => [(k, v)]
  | t :: l => if klt k t.1 = true then (k, v) :: t :: l else t :: stI k v l
def stR (k v : ByteArray) : List Tg → List Tg
  | [] => [(k, v)]
  | t :: l => if t.1 = k then (k, v) :: fl k l else t :: stR k v l
def rs (has d : Bool) (k v : ByteArray) (l : List Tg) : List Tg :=
  match has, d with
  | true, true => fl k l
  | true, false => stR k v l
  | false, true => l
  | false, false => stI k v l
def st (l : List Tg) (k v : ByteArray) : List Tg := rs (gt l k).2 false k v l
theorem drop_at {l : List Tg} {i : Nat} (h : i < l.length) : l.drop i = l.getD i default :: l.drop (i + 1) := by
  rw [List.getD, List.getElem?_eq_getElem h]; exact List.drop_eq_getElem_cons h
theorem rs_nil {has d : Bool} {k v : ByteArray} : rs has d k v [] = if d then [] else [(k, v)] := by
  cases has <;> cases d <;> rfl
theorem gt_none : ∀ {l : List Tg} {k : ByteArray}, (gt l k).2 = false → ∀ t ∈ l, t.1 ≠ k
  | [], _, _, t, ht => by cases ht
  | u :: l, k, h, t, ht => by
    rw [gt] at h
    by_cases e : u.1 = k
    · rw [if_pos e] at h; cases h
    · rw [if_neg e] at h
      rcases List.mem_cons.1 ht with rfl | ht
      · exact e
      · exact gt_none h t ht
theorem gt_some : ∀ {l : List Tg} {k : ByteArray}, (gt l k).2 = true → ∃ t ∈ l, t.1 = k
  | [], _, h => by cases h
  | u :: l, k, h => by
    rw [gt] at h
    by_cases e : u.1 = k
    · exact ⟨u, List.mem_cons_self .., e⟩
    · rw [if_neg e] at h
      obtain ⟨t, h1, h2⟩ := gt_some h
      exact ⟨t, List.mem_cons_of_mem _ h1, h2⟩
theorem own_form {w : World} {base m : Nat} {v : Value} {xs : List Value} (h : w.ownsRow base 32 2 v m xs) : ∃ a c, v = .slice a m c := by
  rcases h.2 with ⟨rfl, h0⟩ | ⟨g, cap, cur, rfl, _⟩
  · rw [h0]; exact ⟨none, 0, rfl⟩
  · exact ⟨_, cap, rfl⟩
end Go.Proofs.YtgfhanhonfpngaaDoor

