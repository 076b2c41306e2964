/- cmds: rows of points, rows of such rows; what Check says. -/
import Derived.Test.YthlbenldgnjgcaaDoorRows
import Derived.WalkKit
import Derived.ProofKit
import Derived.OpenShut
import Derived.OwnWalk
import Derived.Deep.QuietTactic
import Derived.BigQuiet
import Derived.Lib.Hide
import Derived.Lib.SmallJoins
import Derived.Deep.Slices
import Derived.Deep.SlicePairs
import Derived.ChangeSame
import Derived.WalkSmall
import Derived.WalkMore
import Derived.Deep.LoopGhost
import Derived.Deep.DeepCutAuto
import Derived.Deep.CutBlock
import Derived.Deep.RegionHeld3
import Derived.Deep.RegionHeld
import Derived.Maps.AppendAt
import Derived.WalkLawsBesides
namespace Go.Proofs.YthlbenldgnjgcaaDoor
open Go.ChangeShapes Go.WideShapes Go.ChangeAt Go.RowKit Go.Joins Go.Deep

abbrev Pt := Int × Int
/- a row of points -/
def PtsAt (w : World) (v : Value) (l : List Pt) : Prop :=
  ∃ a cap, v = .slice a l.length cap ∧ l.length ≤ cap ∧ (a = none → l = [] ∧ cap = 0) ∧ (l = [] ∨ ∃ b off, a = some ⟨b, off, none⟩ ∧ b < w.heap.size ∧ ∀ j, j < l.length → w.cell? ⟨b, off + j * 2, none⟩ = some (.int .i64 (l.getD j (0, 0)).1) ∧ w.cell? ⟨b, off + j * 2 + 1, none⟩ = some (.int .i64 (l.getD j (0, 0)).2))
theorem PtsAt.below {w w' : World} {v : Value} {l : List Pt} (h : PtsAt w v l) (hb : Below w.heap.size w w') : PtsAt w' v l := by
  obtain ⟨a, cap, h1, hq, hz, h2⟩ := h
  refine ⟨a, cap, h1, hq, hz, ?_⟩
  rcases h2 with h2 | ⟨b, off, e, hl, hc⟩
  · exact Or.inl h2
  · refine Or.inr ⟨b, off, e, by have := hb.size; omega, fun j hj => ?_⟩
    rw [hb.cell hl, hb.cell hl]; exact hc j hj
theorem PtsAt.form {w : World} {v : Value} {l : List Pt} (h : PtsAt w v l) : ∃ a cap, v = .slice a l.length cap ∧ l.length ≤ cap := by
  obtain ⟨a, cap, h, hq, _⟩ := h; exact ⟨a, cap, h, hq⟩
theorem PtsAt.at_ {w : World} {a : Option Addr} {n cap j : Nat} {l : List Pt} (h : PtsAt w (.slice a n cap) l) (hj : j < l.length) : ∃ b off, a = some ⟨b, off, none⟩ ∧ b < w.heap.size ∧ w.cell? ⟨b, off + j * 2, none⟩ = some (.int .i64 (l.getD j (0, 0)).1) ∧ w.cell? ⟨b, off + j * 2 + 1, none⟩ = some (.int .i64 (l.getD j (0, 0)).2) := by
  obtain ⟨a', cap', e, _, _, h⟩ := h
  injection e with e1 e2 e3
  subst e1
  rcases h with h | ⟨b, off, e, hl, hc⟩
  · rw [h] at hj; exact absurd hj (by simp)
  · exact ⟨b, off, e, hl, hc j hj⟩
/- a row of such rows -/
def RowsAt (w : World) (v : Value) (ls : List (List Pt)) : Prop :=
  ∃ a cap, v = .slice a ls.length cap ∧ (a = none → ls = [] ∧ cap = 0) ∧ (ls = [] ∨ ∃ ob off, a = some ⟨ob, off, none⟩ ∧ ob < w.heap.size ∧ ∀ j, j < ls.length → ∃ u, w.cell? ⟨ob, off + j, none⟩ = some u ∧ PtsAt w u (ls.getD j []))
theorem RowsAt.below {w W : World} {v : Value} {ls : List (List Pt)} (h : RowsAt w v ls) (b : Below w.heap.size w W) : RowsAt W v ls := by
  obtain ⟨a, cap, h1, hz, h2⟩ := h
  refine ⟨a, cap, h1, hz, ?_⟩
  rcases h2 with h2 | ⟨ob, off, e, hl, hc⟩
  · exact Or.inl h2
  · refine Or.inr ⟨ob, off, e, by have := b.size; omega, fun j hj => ?_⟩
    obtain ⟨u, hu, hi⟩ := hc j hj
    exact ⟨u, by rw [b.cell hl]; exact hu, hi.below b⟩
theorem RowsAt.form {w : World} {v : Value} {ls : List (List Pt)} (h : RowsAt w v ls) : ∃ a cap, v = .slice a ls.length cap := by
  obtain ⟨a, cap, h, _⟩ := h; exact ⟨a, cap, h⟩
theorem RowsAt.at_ {w : World} {a : Option Addr} {n cap j : Nat} {ls : List (List Pt)} (h : RowsAt w (.slice a n cap) ls) (hj : j < ls.length) : ∃ ob off u, a = some ⟨ob, off, none⟩ ∧ ob < w.heap.size ∧ w.cell? ⟨ob, off + j, none⟩ = some u ∧ PtsAt w u (ls.getD j []) := by
  obtain ⟨a', cap', e, _, h⟩ := h
  injection e with e1 e2 e3
  subst e1
  rcases h with h | ⟨ob, off, e, hl, hc⟩
  · rw [h] at hj; exact absurd hj (by simp)
  · obtain ⟨u, h1, h2⟩ := hc j hj
    exact ⟨ob, off, u, e, hl, h1, h2⟩
/- a block as a row -/
def Row (w : World) (b : Nat) (T : TypeId) (cs : List Value) : Prop := w.heap[b]? = some (.cells cs.toArray T (0, 0))
theorem Row.cell {w : World} {b T i : Nat} {cs : List Value} {v : Value} (h : Row w b T cs) (hv : cs[i]? = some v) : w.cell? ⟨b, i, none⟩ = some v := by
  unfold Row at h; unfold World.cell?; rw [h]; simpa using hv
theorem Row.fr {w : World} {b T i : Nat} {cs : List Value} (h : Row w b T cs) : w.frozen? ⟨b, i, none⟩ = false := by
  unfold Row at h; unfold World.frozen?; rw [h]; simp
theorem Row.lt {w : World} {b T : Nat} {cs : List Value} (h : Row w b T cs) : b < w.heap.size := by
  by_cases hl : b < w.heap.size
  · exact hl
  · unfold Row at h; rw [Array.getElem?_eq_none (Nat.le_of_not_lt hl)] at h; cases h
theorem Row.set {w : World} {b T i : Nat} {cs : List Value} (h : Row w b T cs) (v : Value) : Row (w.setCell ⟨b, i, none⟩ v) b T (cs.set i v) := by
  unfold Row at h ⊢; rw [heap_setCell_same _ _ _ _ _ _ h]; simp
theorem Row.other {w : World} {b T : Nat} {cs : List Value} {a : Addr} {v : Value} (h : Row w b T cs) (hn : b ≠ a.block) : Row (w.setCell a v) b T cs := by
  unfold Row at h ⊢; rw [Below.heap_setCell _ _ _ _ hn]; exact h
theorem Row.same {w W : World} {b T : Nat} {cs : List Value} (h : Row w b T cs) (e : W.heap[b]? = w.heap[b]?) : Row W b T cs := by unfold Row; rw [e]; exact h
theorem Row.below {w W : World} {b T B : Nat} {cs : List Value} (h : Row w b T cs) (hb : Below B w W) (hn : b < B) : Row W b T cs := h.same (hb.block b hn)
theorem Row.alloc {w : World} {b T : Nat} {cs : List Value} (h : Row w b T cs) (o : Obj) : Row (w.alloc o) b T cs := h.same (Below.heap_alloc _ _ _ h.lt)
theorem Row.new (w : World) (T : TypeId) (cs : List Value) : Row (w.alloc (.cells cs.toArray T)) w.heap.size T cs := heap_alloc_new _ _
/- what Check says -/
def inE (p : Pt) : Prop := 0 ≤ p.1 ∧ p.1 ≤ 256 ∧ 0 ≤ p.2 ∧ p.2 ≤ 256
instance (p : Pt) : Decidable (inE p) := by unfold inE; infer_instance
def shK (k : Int) (n : Nat) : Prop := k = 1 ∧ n ≠ 1 ∨ k = 2 ∧ n < 2 ∨ k = 3 ∧ n < 3
instance (k : Int) (n : Nat) : Decidable (shK k n) := by unfold shK; infer_instance
def cpt (k : Int) (l : List Pt) : Int := if shK k l.length then 12 else if 8000 < l.length then 5 else if ∀ p ∈ l, inE p then 0 else 2
def fstE (k : Int) : List (List Pt) → Int
  | [] => 0
  | l :: ls => if cpt k l = 0 then fstE k ls else cpt k l
def vK (k : Int) : Prop := 1 ≤ k ∧ k ≤ 3
instance (k : Int) : Decidable (vK k) := by unfold vK; infer_instance
def chk (k : Int) (ls : List (List Pt)) : Int := if vK k then (if ls = [] then 15 else fstE k ls) else 1
theorem getD_mem {l : List Pt} {j : Nat} (hj : j < l.length) : l.getD j (0, 0) ∈ l := by
  rw [List.getD, List.getElem?_eq_getElem hj]; exact List.getElem_mem hj
theorem cpt_short {k : Int} {l : List Pt} (h : shK k l.length) : cpt k l = 12 := if_pos h
theorem cpt_long {k : Int} {l : List Pt} (h : ¬ shK k l.length) (h2 : 8000 < l.length) : cpt k l = 5 := by unfold cpt; rw [if_neg h, if_pos h2]
theorem cpt_bad {k : Int} {l : List Pt} (h : ¬ shK k l.length) (h2 : ¬ 8000 < l.length) {j : Nat} (hj : j < l.length) (hb : ¬ inE (l.getD j (0, 0))) : cpt k l = 2 := by
  unfold cpt; rw [if_neg h, if_neg h2, if_neg]; exact fun hp => hb (hp _ (getD_mem hj))
theorem cpt_ok {k : Int} {l : List Pt} (h : ¬ shK k l.length) (h2 : ¬ 8000 < l.length) (hb : ∀ j, j < l.length → inE (l.getD j (0, 0))) : cpt k l = 0 := by
  unfold cpt; rw [if_neg h, if_neg h2, if_pos]
  intro p hp
  obtain ⟨i, hi, e⟩ := List.getElem_of_mem hp
  have := hb i hi
  rw [List.getD, List.getElem?_eq_getElem hi, Option.getD_some, e] at this; exact this
theorem cpt_zero {k : Int} {l : List Pt} (h : cpt k l = 0) : ¬ shK k l.length ∧ ¬ 8000 < l.length ∧ ∀ p ∈ l, inE p := by
  unfold cpt at h
  split at h
  · exact absurd h (by decide)
  · split at h
    · exact absurd h (by decide)
    · split at h
      · exact ⟨by assumption, by assumption, by assumption⟩
      · exact absurd h (by decide)
theorem fstE_at {k : Int} : ∀ {ls : List (List Pt)} {i : Nat}, i < ls.length → (∀ j, j < i → cpt k (ls.getD j []) = 0) → cpt k (ls.getD i []) ≠ 0 → fstE k ls = cpt k (ls.getD i [])
  | [], i, h, _, _ => by simp at h
  | l :: ls, 0, _, _, hn => by
    rw [List.getD_cons_zero] at hn ⊢
    rw [fstE, if_neg hn]
  | l :: ls, i + 1, h, hz, hn => by
    have h0 : cpt k l = 0 := hz 0 (by omega)
    rw [List.getD_cons_succ] at hn ⊢
    rw [fstE, if_pos h0]
    exact fstE_at (by simpa using h) (fun j hj => by have := hz (j + 1) (by omega); rw [List.getD_cons_succ] at this; exact this) hn
theorem fstE_ok {k : Int} : ∀ {ls : List (List Pt)}, (∀ j, j < ls.length → cpt k (ls.getD j []) = 0) → fstE k ls = 0
  | [], _ => rfl
  | l :: ls, hz => by
    have h0 : cpt k l = 0 := hz 0 (by simp)
    rw [fstE, if_pos h0]
    exact fstE_ok (fun j hj => by have := hz (j + 1) (by simpa using hj); rw [List.getD_cons_succ] at this; exact this)
theorem fstE_zero {k : Int} : ∀ {ls : List (List Pt)}, fstE k ls = 0 → ∀ l ∈ ls, cpt k l = 0
  | [], _, _, h => by cases h
  | l :: ls, h, m, hm => by
    by_cases h0 : cpt k l = 0
    · rw [fstE, if_pos h0] at h
      rcases List.mem_cons.1 hm with rfl | hm
      · exact h0
      · exact fstE_zero h m hm
    · rw [fstE, if_neg h0] at h; exact absurd h h0
theorem chk_kind {k : Int} {ls : List (List Pt)} (h : ¬ vK k) : chk k ls = 1 := if_neg h
theorem chk_nil {k : Int} {ls : List (List Pt)} (h : vK k) (h0 : ls = []) : chk k ls = 15 := by unfold chk; rw [if_pos h, if_pos h0]
theorem chk_fst {k : Int} {ls : List (List Pt)} (h : vK k) (h0 : ls ≠ []) : chk k ls = fstE k ls := by unfold chk; rw [if_pos h, if_neg h0]
theorem chk_zero {k : Int} {ls : List (List Pt)} (h : chk k ls = 0) : vK k ∧ ls ≠ [] ∧ ∀ l ∈ ls, cpt k l = 0 := by
  unfold chk at h
  split at h
  · split at h
    · exact absurd h (by decide)
    · exact ⟨by assumption, by assumption, fstE_zero h⟩
  · exact absurd h (by decide)
abbrev gv (k : Int) (v : Value) : Value := .agg #[.int .i64 k, v]
/- short calls -/
theorem validKind_any (k : Int) (w : World) : Calls Tryd.prog 20 #[.int .i64 k] w fun e w' => e = .returned (.bool (decide (vK k))) ∧ w' = w := by
  by_cases h1 : k = 1
  · subst h1
    go_enter Tryd.func20, Tryd.ntmps20
    go_wp2_with fail
    go_ret
    exact ⟨rfl, rfl⟩
  · by_cases h2 : k = 2
    · subst h2
      go_enter Tryd.func20, Tryd.ntmps20
      go_wp2_with fail
      go_ret
      exact ⟨rfl, rfl⟩
    · by_cases h3 : k = 3
      · subst h3
        go_enter Tryd.func20, Tryd.ntmps20
        go_wp2_with fail
        go_ret
        exact ⟨rfl, rfl⟩
      · have V := Lib.hid (show decide (vK k) = false by unfold vK; exact decide_eq_false (by omega))
        have e1 : (k == 1) = false := by simpa using h1
        have e2 : (k == 2) = false := by simpa using h2
        have e3 : (k == 3) = false := by simpa using h3
        go_enter Tryd.func20, Tryd.ntmps20
        go_wp2_with fail
        go_ret
        exact ⟨by rw [V.out]; rfl, rfl⟩
abbrev pv (p : Pt) : Value := .agg #[.int .i64 p.1, .int .i64 p.2]
theorem inExtent_any (x y : Int) (w : World) : Calls Tryd.prog 26 #[pv (x, y)] w fun e w' => e = .returned (.bool (decide (inE (x, y)))) ∧ Below w.heap.size w w' := by
  obtain ⟨W1, hW1⟩ : ∃ W1, w.alloc (.cells #[.int .i64 x, .int .i64 y] 44) = W1 := ⟨_, rfl⟩
  have r1 : Row W1 w.heap.size 44 [.int .i64 x, .int .i64 y] := by rw [← hW1]; exact Row.new _ _ _
  have q0 := r1.cell (i := 0) rfl; have q1 := r1.cell (i := 1) rfl
  have BB := Lib.hid (show Below w.heap.size w W1 by rw [← hW1]; exact (Below.refl _ _).alloc (Nat.le_refl _) _)
  clear r1
  by_cases h0 : 0 ≤ x
  · by_cases h1 : x ≤ 256
    · by_cases h2 : 0 ≤ y
      · by_cases h3 : y ≤ 256
        · have V := Lib.hid (show decide (inE (x, y)) = true by unfold inE; exact decide_eq_true (by simp; omega))
          go_enter Tryd.func26, Tryd.ntmps26
          go_wp2_with fail
          go_ret
          exact ⟨by rw [V.out]; rfl, BB.out⟩
        · have V := Lib.hid (show decide (inE (x, y)) = false by unfold inE; exact decide_eq_false (by simp; omega))
          go_enter Tryd.func26, Tryd.ntmps26
          go_wp2_with fail
          go_ret
          exact ⟨by rw [V.out]; rfl, BB.out⟩
      · have V := Lib.hid (show decide (inE (x, y)) = false by unfold inE; exact decide_eq_false (by simp; omega))
        go_enter Tryd.func26, Tryd.ntmps26
        go_wp2_with fail
        go_ret
        exact ⟨by rw [V.out]; rfl, BB.out⟩
    · have V := Lib.hid (show decide (inE (x, y)) = false by unfold inE; exact decide_eq_false (by simp; omega))
      go_enter Tryd.func26, Tryd.ntmps26
      go_wp2_with fail
      go_ret
      exact ⟨by rw [V.out]; rfl, BB.out⟩
  · have V := Lib.hid (show decide (inE (x, y)) = false by unfold inE; exact decide_eq_false (by simp; omega))
    go_enter Tryd.func26, Tryd.ntmps26
    go_wp2_with fail
    go_ret
    exact ⟨by rw [V.out]; rfl, BB.out⟩
end Go.Proofs.YthlbenldgnjgcaaDoor
