/- cmds: rows of rows of the call's own. -/
import Derived.Test.YthlbenldgnjgcaaDoorKs
namespace Go.Proofs.YthlbenldgnjgcaaDoor
open Go.ChangeShapes Go.WideShapes Go.ChangeAt Go.RowKit Go.Joins Go.Deep

theorem next_any {w0 w : World} {B : Nat} {v : Value} {r : List Int} {p : Pt} (g : GV w0) (h : Rd w0 B w v r p) : Calls Tryd.prog 27 #[qp B] w (NxPost w0 B w r p) := by
  cases r with
  | nil => exact next_nil h
  | cons x r => exact next_cons g h
theorem PtsAt.same {w W : World} {u : Value} {l : List Pt} (h : PtsAt w u l) (s : w.heap.size ≤ W.heap.size) (e : ∀ g, u.ownBlock = some g → W.heap[g]? = w.heap[g]?) : PtsAt W u l := by
  obtain ⟨a, cap, h1, hq, hz, h2⟩ := h
  refine ⟨a, cap, h1, hq, hz, ?_⟩
  rcases h2 with h2 | ⟨b, off, e2, hl, hc⟩
  · exact Or.inl h2
  · subst e2; subst h1
    have eb := e b rfl
    refine Or.inr ⟨b, off, rfl, by omega, fun j hj => ?_⟩
    exact ⟨(World.cell?_of_block (a := ⟨b, off + j * 2, none⟩) eb).trans (hc j hj).1, (World.cell?_of_block (a := ⟨b, off + j * 2 + 1, none⟩) eb).trans (hc j hj).2⟩
/- a row of points in a row whose value is v -/
structure PtsIn (w : World) (base : Nat) (v u : Value) (l : List Pt) : Prop where
  at_ : PtsAt w u l
  blk : ∀ g, u.ownBlock = some g → base ≤ g ∧ g < w.heap.size ∧ v.ownBlock ≠ some g
theorem PtsIn.same {w W : World} {base : Nat} {v u : Value} {l : List Pt} (h : PtsIn w base v u l) (s : w.heap.size ≤ W.heap.size) (e : ∀ g, u.ownBlock = some g → W.heap[g]? = w.heap[g]?) : PtsIn W base v u l :=
  ⟨h.at_.same s e, fun g hg => by have := h.blk g hg; exact ⟨this.1, by omega, this.2.2⟩⟩
/- rows of points in a row of the call's own -/
structure PR (w : World) (base : Nat) (v : Value) (vs : List Value) (ls : List (List Pt)) : Prop where
  own : w.ownsRow base 42 1 v ls.length vs
  el : ∀ j, j < ls.length → ∃ u, vs[j]? = some u ∧ PtsIn w base v u (ls.getD j [])
theorem PR.nil (w : World) (base : Nat) : PR w base (.slice none 0 0) [] [] := ⟨World.ownsRow_nil _ _ _ _, fun j hj => by simp at hj⟩
theorem own_same {w W : World} {base e size n : Nat} {v : Value} {xs : List Value} (h : w.ownsRow base e size v n xs) (hh : ∀ g, v.ownBlock = some g → W.heap[g]? = w.heap[g]?) : W.ownsRow base e size v n xs := by
  refine ⟨h.1, ?_⟩
  rcases h.2 with h0 | ⟨g, cap, cur, rfl, h2, hg, h3⟩
  · exact Or.inl h0
  · exact Or.inr ⟨g, cap, cur, rfl, h2, by rw [hh g rfl]; exact hg, h3⟩
theorem PR.same {w W : World} {base : Nat} {v : Value} {vs : List Value} {ls : List (List Pt)} (h : PR w base v vs ls) (s : w.heap.size ≤ W.heap.size) (e : ∀ g, base ≤ g → g < w.heap.size → W.heap[g]? = w.heap[g]?) : PR W base v vs ls :=
  ⟨own_same h.own (fun g hg => e g (World.ownsRow.lt h.own g hg).1 (World.ownsRow.lt h.own g hg).2), fun j hj => by
    obtain ⟨u, h1, h2⟩ := h.el j hj
    exact ⟨u, h1, h2.same s (fun g hg => e g (h2.blk g hg).1 (h2.blk g hg).2.1)⟩⟩
theorem PR.keep {w W : World} {base : Nat} {v : Value} {vs : List Value} {ls : List (List Pt)} (h : PR w base v vs ls) (b : Below w.heap.size w W) : PR W base v vs ls :=
  h.same b.size (fun g _ hg => b.block g hg)
theorem PR.gb {w W : World} {base B : Nat} {v : Value} {vs : List Value} {ls : List (List Pt)} (h : PR w base v vs ls) (b : w.grownBy W (some B)) (hB : B < base) : PR W base v vs ls :=
  h.same b.size (fun g hb hg => b.block g hg (by intro e; injection e with e; omega))
theorem PR.rows {w : World} {base : Nat} {v : Value} {vs : List Value} {ls : List (List Pt)} (h : PR w base v vs ls) : RowsAt w v ls := by
  rcases h.own.2 with ⟨rfl, h0⟩ | ⟨g, cap, cur, rfl, _, hg, h1, h2, h3, h4⟩
  · exact ⟨none, 0, by rw [h0], fun _ => ⟨List.eq_nil_of_length_eq_zero h0, rfl⟩, Or.inl (List.eq_nil_of_length_eq_zero h0)⟩
  · refine ⟨_, cap, rfl, fun e => (by cases e), Or.inr ⟨g, 0, rfl, ?_, fun j hj => ?_⟩⟩
    · by_cases hl : g < w.heap.size
      · exact hl
      · rw [Array.getElem?_eq_none (Nat.le_of_not_lt hl)] at hg; cases hg
    · obtain ⟨u, hu, hp⟩ := h.el j hj
      refine ⟨u, ?_, hp.at_⟩
      rw [← h4, List.getElem?_take, if_pos (by omega)] at hu
      unfold World.cell?; rw [hg]; simpa using hu
theorem pr_app {w W w7 : World} {base n : Nat} {v v' u : Value} {vs : List Value} {ls : List (List Pt)} {l : List Pt} {o : Obj} (h : PR w base v vs ls) (hn : ls.length = n) (b : Below w.heap.size w W)
    (hu : PtsAt W u l) (hub : ∀ g, u.ownBlock = some g → base ≤ g ∧ g < W.heap.size ∧ v.ownBlock ≠ some g)
    (gr : (W.alloc o).grownBy w7 v.ownBlock) (ow : w7.ownsRow base 42 1 v' (n + 1) (vs ++ [u])) (loc : v'.ownBlock = v.ownBlock ∨ v'.ownBlock = some (W.alloc o).heap.size) :
    PR w7 base v' (vs ++ [u]) (ls ++ [l]) ∧ (∀ g, g < w.heap.size → v.ownBlock ≠ some g → w7.heap[g]? = w.heap[g]?) ∧ (base ≤ w.heap.size → Below base w w7) := by
  have sa : (W.alloc o).heap.size = W.heap.size + 1 := World.size_alloc _ _
  have sb := b.size
  have kp : ∀ g, g < W.heap.size → v.ownBlock ≠ some g → w7.heap[g]? = W.heap[g]? := fun g hg hv => by
    rw [gr.block g (by omega) (fun e => hv e.symm), Below.heap_alloc _ _ _ hg]
  have nb : ∀ g, g < W.heap.size → v.ownBlock ≠ some g → v'.ownBlock ≠ some g := fun g hg hv => by
    rcases loc with l | l
    · rw [l]; exact hv
    · rw [l]; intro e; injection e with e; omega
  have s7 : W.heap.size ≤ w7.heap.size := by have := gr.size; omega
  refine ⟨⟨by rw [List.length_append, hn]; exact ow, fun j hj => ?_⟩, ⟨fun g hg hv => by rw [kp g (by omega) hv, b.block g hg], fun hb => ?_⟩⟩
  rotate_left 1
  · have ba : Below base w (W.alloc o) := (b.mono hb).alloc (by omega) o
    exact ba.grown gr (by omega) (fun j e => (World.ownsRow.lt h.own j e).1)
  rw [List.length_append, hn] at hj
  have hvs : vs.length = n := by have := h.own.1; rw [hn] at this; omega
  by_cases hjn : j < n
  · obtain ⟨x, hx, hp⟩ := h.el j (by omega)
    refine ⟨x, by rw [List.getElem?_append_left (by omega)]; exact hx, ?_⟩
    rw [List.getD, List.getElem?_append_left (by omega), ← List.getD]
    exact ⟨(hp.at_.below b).same s7 (fun g hg => kp g (by have := (hp.blk g hg).2.1; omega) (hp.blk g hg).2.2), fun g hg => by
      obtain ⟨a1, a2, a3⟩ := hp.blk g hg
      exact ⟨a1, by omega, nb g (by omega) a3⟩⟩
  · have : j = n := by simp at hj; omega
    subst this
    refine ⟨u, by rw [List.getElem?_append_right (by omega), hvs]; simp, ?_⟩
    rw [List.getD, List.getElem?_append_right (by omega), hn]
    simp
    exact ⟨hu.same s7 (fun g hg => kp g (hub g hg).2.1 (hub g hg).2.2), fun g hg => by
      obtain ⟨a1, a2, a3⟩ := hub g hg
      exact ⟨a1, by omega, nb g a2 a3⟩⟩
/- the cells of a row of the call's own -/
theorem own_cells {w : World} {base e size n : Nat} {v : Value} {xs : List Value} (h : w.ownsRow base e size v n xs) (h0 : 0 < n) : ∃ g cap, v = .slice (some ⟨g, 0, none⟩) n cap ∧ ∀ j u, xs[j]? = some u → w.cell? ((⟨g, 0, none⟩ : Addr).add j) = some u := by
  rcases h.2 with ⟨_, rfl⟩ | ⟨g, cap, cur, rfl, _, hg, h1, h2, h3, h4⟩
  · omega
  · refine ⟨g, cap, rfl, fun j u hu => ?_⟩
    have ea : (⟨g, 0, none⟩ : Addr).add j = ⟨g, 0 + j, none⟩ := Addr.add_lit _ _ _
    rw [ea, Nat.zero_add]
    rw [← h4] at hu
    have hj : j < n * size := by
      by_cases hj : j < n * size
      · exact hj
      · rw [List.getElem?_take, if_neg hj] at hu; cases hu
    rw [List.getElem?_take, if_pos hj] at hu
    unfold World.cell?; rw [hg]; simpa using hu
theorem info42 : (Tryd.prog.info? 42).map (fun i => (i.zero, i.size, i.bytes)) = some (some (.slice none 0 0), 1, 24) := by kernel_rfl
def PtPost (w0 : World) (B : Nat) (k : Int) (r : List Int) (e : Ending) (w' : World) : Prop :=
  ∃ (a : Option Addr) (n cap : Nat) (b : Bool), e = .returned (.tuple #[.slice a n cap, .bool b]) ∧ Below w0.heap.size w0 w' ∧ (b = true → ∃ ms, prts k r = some ms ∧ (∀ W : World, w'.heap.size ≤ W.heap.size → (∀ g, B < g → g < w'.heap.size → W.heap[g]? = w'.heap[g]?) → RowsAt W (.slice a n cap) ms) ∧ ms.length ≤ 1000000) ∧ (b = false → prts k r = none)
end Go.Proofs.YthlbenldgnjgcaaDoor
