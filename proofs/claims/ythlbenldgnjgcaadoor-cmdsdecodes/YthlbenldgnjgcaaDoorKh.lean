/- cmds: what Encode says. -/
import Derived.Test.YthlbenldgnjgcaaDoorKg
namespace Go.Proofs.YthlbenldgnjgcaaDoor
open Go.ChangeShapes Go.WideShapes Go.ChangeAt Go.RowKit Go.Joins Go.Deep

def encP (k : Int) (l : List Pt) (q : Pt) : List Int := if k = 1 then stp l q else [9] ++ stp (l.take 1) q ++ [2 + 8 * ((l.length : Int) - 1)] ++ stp (l.drop 1) (lastP (l.take 1) q) ++ (if k = 3 then [15] else [])
def encA (k : Int) : List (List Pt) → Pt → List Int
  | [], _ => []
  | l :: ls, q => encP k l q ++ encA k ls (lastP l q)
def lastA : List (List Pt) → Pt → Pt
  | [], q => q
  | l :: ls, q => lastA ls (lastP l q)
def enc (k : Int) (ls : List (List Pt)) : List Int := (if k = 1 then [1 + 8 * (ls.length : Int)] else []) ++ encA k ls (0, 0)
theorem encA_snoc (k : Int) : ∀ (ls : List (List Pt)) (l : List Pt) (q : Pt), encA k (ls ++ [l]) q = encA k ls q ++ encP k l (lastA ls q)
  | [], l, q => by rw [List.nil_append, encA, encA, encA, List.append_nil, List.nil_append]; rfl
  | m :: ls, l, q => by rw [List.cons_append, encA, encA, encA_snoc k ls l, List.append_assoc]; rfl
theorem lastA_snoc : ∀ (ls : List (List Pt)) (l : List Pt) (q : Pt), lastA (ls ++ [l]) q = lastP l (lastA ls q)
  | [], _, _ => rfl
  | m :: ls, l, q => by rw [List.cons_append, lastA, lastA_snoc ls l]; rfl
theorem lastA_in : ∀ (ls : List (List Pt)) (q : Pt), (∀ l ∈ ls, ∀ p ∈ l, inE p) → inE q → inE (lastA ls q)
  | [], _, _, h => h
  | l :: ls, q, h, hq => lastA_in ls _ (fun m hm => h m (List.mem_cons_of_mem _ hm)) (lastP_in l q (h l (by simp)) hq)
theorem encP_len (k : Int) (l : List Pt) (q : Pt) : (encP k l q).length ≤ 3 + 2 * l.length := by
  unfold encP
  split
  · rw [stp_len]; omega
  · simp only [List.length_append, stp_len, List.length_take, List.length_drop, List.length_cons, List.length_nil]
    split <;> simp <;> omega
theorem encA_len (k : Int) : ∀ (ls : List (List Pt)) (q : Pt), (encA k ls q).length ≤ 3 * ls.length + 2 * tot ls
  | [], _ => by simp [encA]
  | l :: ls, q => by
    rw [encA, List.length_append, List.length_cons, tot]
    have := encP_len k l q; have := encA_len k ls (lastP l q); omega
theorem takeL_get {ls : List (List Pt)} {k : Nat} (h : k < ls.length) : ls.take (k + 1) = ls.take k ++ [ls.getD k []] := by
  rw [List.take_add_one, List.getElem?_eq_getElem h, List.getD, List.getElem?_eq_getElem h]; rfl
theorem getL_mem {ls : List (List Pt)} {j : Nat} (hj : j < ls.length) : ls.getD j [] ∈ ls := by
  rw [List.getD, List.getElem?_eq_getElem hj]; exact List.getElem_mem hj
/- the first point, and the others -/
theorem PtsAt.head {w : World} {a : Option Addr} {n cap : Nat} {l : List Pt} (h : PtsAt w (.slice a n cap) l) (h1 : 1 ≤ n) : PtsAt w (.slice a 1 cap) (l.take 1) := by
  obtain ⟨a', cap', e, hq, hz, h2⟩ := h
  injection e with e1 e2 e3
  subst e1; subst e3
  have hl : (l.take 1).length = 1 := by rw [List.length_take]; omega
  refine ⟨a, cap, by rw [hl], by rw [hl]; omega, fun e => ?_, ?_⟩
  · have := (hz e).1; rw [this] at e2; simp at e2; omega
  · rcases h2 with h2 | ⟨b, off, e, hb, hc⟩
    · rw [h2] at e2; simp at e2; omega
    · refine Or.inr ⟨b, off, e, hb, fun j hj => ?_⟩
      rw [hl] at hj
      have := hc j (by omega)
      have ej : (l.take 1).getD j (0, 0) = l.getD j (0, 0) := by rw [List.getD, List.getD, List.getElem?_take, if_pos hj]
      rw [ej]; exact this
theorem PtsAt.tail {w : World} {b off n cap : Nat} {l : List Pt} (h : PtsAt w (.slice (some ⟨b, off, none⟩) n cap) l) (h1 : 1 ≤ n) : PtsAt w (.slice (some ⟨b, off + 2, none⟩) (n - 1) (cap - 1)) (l.drop 1) := by
  obtain ⟨a', cap', e, hq, hz, h2⟩ := h
  injection e with e1 e2 e3
  subst e1; subst e3
  have hl : (l.drop 1).length = n - 1 := by rw [List.length_drop]; omega
  refine ⟨_, _, by rw [hl], by rw [hl]; omega, fun e => (by cases e), ?_⟩
  rcases h2 with h2 | ⟨b', off', e, hb, hc⟩
  · rw [h2] at e2; simp at e2; omega
  · injection e with e; injection e with e4 e5 e6; subst e4; subst e5
    refine Or.inr ⟨b, off + 2, rfl, hb, fun j hj => ?_⟩
    rw [hl] at hj
    have := hc (j + 1) (by omega)
    have ej : (l.drop 1).getD j (0, 0) = l.getD (j + 1) (0, 0) := by rw [List.getD, List.getD, List.getElem?_drop, Nat.add_comm]
    rw [ej]
    have e1 : off + (j + 1) * 2 = off + 2 + j * 2 := by omega
    rw [e1] at this; exact this
theorem wst_new {w w4 : World} (e : w.alloc (.cells #[.slice none 0 0, .int .i64 0, .int .i64 0] 47) = w4) : Wst w.heap.size w.heap.size w4 (.slice none 0 0) (0, 0) [] ∧ Below w.heap.size w w4 := by
  subst e
  exact ⟨⟨Row.new _ _ _, World.ownsRow_nil _ _ _ _, fun k e => (by cases e), Nat.le_refl _⟩, (Below.refl _ _).alloc (Nat.le_refl _) _⟩
end Go.Proofs.YthlbenldgnjgcaaDoor
