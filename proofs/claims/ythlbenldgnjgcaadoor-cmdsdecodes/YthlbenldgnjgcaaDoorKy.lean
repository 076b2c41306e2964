/- cmds: the openings of a geometry and of a list of ints. -/
import Derived.Test.YthlbenldgnjgcaaDoorKx
import Derived.OpenShut
import Derived.SizedLaws
import Derived.Deep.Slices
namespace Go.Proofs.YthlbenldgnjgcaaDoor
open Go.ChangeShapes Go.WideShapes Go.ChangeAt Go.RowKit Go.Joins Go.Deep

theorem ce3 : Tryd.prog.cellsOf 3 = 1 := by kernel_rfl
theorem ce22 : Tryd.prog.cellsOf 22 = 1 := by kernel_rfl
theorem ce24 : Tryd.prog.cellsOf 24 = 2 := by kernel_rfl
theorem ce42 : Tryd.prog.cellsOf 42 = 1 := by kernel_rfl
theorem ce44 : Tryd.prog.cellsOf 44 = 2 := by kernel_rfl
theorem by42 : Tryd.prog.bytesOf 42 = 24 := by kernel_rfl
theorem by44 : Tryd.prog.bytesOf 44 = 16 := by kernel_rfl
theorem pts_nil (w : World) : PtsAt w (.slice none 0 0) [] := ⟨none, 0, rfl, Nat.le_refl _, fun _ => ⟨rfl, rfl⟩, Or.inl rfl⟩
/- a row of points opened -/
theorem pts_open {H : Type} {enc : TypeId × Value → H} {W : World} {base n : Nat} {spare : Nat → Bool} {held : Bool} {cs : List Value} {x : DataW H × List MemPlace}
    (h : DataW.trod enc Tryd.prog W base spare held n 42 cs = some x) (hz : ∀ z ∈ x.1.weights Tryd.prog 42, z ≤ reachBytes) : ∃ (a : Option Addr) (len cap : Nat) (l : List Pt), cs = [.slice a len cap] ∧ PtsAt W (.slice a len cap) l ∧ l.length ≤ 140737488355328 := by
  rcases Deep.open_slice Tryd.underlying42 h with ⟨hcs, _⟩ | ⟨a, len, cap, m, n', D, Pl, hcs, _, hl, hm, hmm, hx, hi⟩
  · exact ⟨none, 0, 0, [], hcs, pts_nil W, by simp⟩
  · have hlm : len ≤ m := by rw [hmm]; split <;> omega
    have hlen : len ≤ 140737488355328 := by
      have := hz (((List.range len).map D).length * 16 + ((List.range (m - len)).map fun j => D (len + j)).length * 16) (by
        rw [hx]
        simp only [DataW.weights, Tryd.underlying42, by44, List.mem_cons]
        left
        simp; omega)
      simp [reachBytes] at this; omega
    have key : ∀ j, j < len → ∃ z : Pt, W.cell? (a.add (j * 2)) = some (.int .i64 z.1) ∧ W.cell? (a.add (j * 2 + 1)) = some (.int .i64 z.2) := by
      intro j hj
      obtain ⟨cs', hc, ht⟩ := hi j (by omega)
      rw [ce44] at hc
      obtain ⟨_, hcl, hat⟩ := World.cells?_some hc
      obtain ⟨z0, z1, n2, _, _, t0, t1⟩ := trod_struct2 Tryd.underlying44 ht
      obtain ⟨x, ex, _, wx⟩ := DataW.trod_int Tryd.underlying3 t0
      obtain ⟨y, ey, _, wy⟩ := DataW.trod_int Tryd.underlying3 t1
      rw [ce3] at ex ey
      match cs', hcl with
      | [q0, q1], _ =>
        simp at ex ey
        subst ex ey
        refine ⟨(x, y), ?_, ?_⟩
        · have := hat 0 (by omega); simpa [Addr.add] using this
        · have := hat 1 (by omega); rw [Deep.add_add] at this; simpa using this
    obtain ⟨g, hg⟩ := Deep.choose_lt key
    have hgl : ∀ j, j < len → ((List.range len).map g).getD j (0, 0) = g j := fun j hj => by
      rw [List.getD, List.getElem?_eq_getElem (by simpa using hj)]; simp
    refine ⟨some a, len, cap, (List.range len).map g, hcs, ⟨some a, cap, by simp, by simpa using hl, fun e => (by cases e), ?_⟩, by simpa using hlen⟩
    by_cases hz : len = 0
    · left; subst hz; rfl
    · right
      obtain ⟨b, off, spot⟩ := a
      have c0 := (hg 0 (by omega)).1
      have hspot : spot = none := by simpa [Addr.add] using World.cell?_spot c0
      subst hspot
      refine ⟨b, off, rfl, ?_, fun j hj => ?_⟩
      · rw [Addr.add_lit] at c0; exact cell_lt c0
      · have hj' : j < len := by simpa using hj
        obtain ⟨h1, h2⟩ := hg j hj'
        rw [Addr.add_lit] at h1 h2
        rw [hgl j hj']
        exact ⟨h1, by rw [Nat.add_assoc]; exact h2⟩
theorem weightsAll_mem {H : Type} {P : Program} {e : TypeId} {ds : List (DataW H)} {x : DataW H} (hx : x ∈ ds) : ∀ z ∈ x.weights P e, z ∈ DataW.weightsAll P e ds := by
  induction ds with
  | nil => cases hx
  | cons d ds ih =>
    intro z hz
    simp only [DataW.weightsAll, List.mem_append]
    rcases List.mem_cons.1 hx with rfl | hx
    · exact Or.inl hz
    · exact Or.inr (ih hx z hz)
def IsG (W : World) (v : Value) : Prop := ∃ (k : Int) (u : Value) (ls : List (List Pt)), v = gv k u ∧ RowsAt W u ls ∧ ls.length ≤ 140737488355328 ∧ (∀ l ∈ ls, l.length ≤ 140737488355328) ∧ -9223372036854775808 ≤ k ∧ k ≤ 9223372036854775807
theorem geom_open {H : Type} {enc : TypeId × Value → H} {W : World} {base b0 : Nat} {spare : Nat → Bool} {held : Bool} {r : Reach} {v : Value} {d : DataW H} {p : List MemPlace}
    (hv : Value.okWide Tryd.prog W r b0 24 v) (h : DataW.Trod enc Tryd.prog W base spare held 24 v d p) (hz : ∀ z ∈ d.weights Tryd.prog 24, z ≤ reachBytes) : IsG W v := by
  obtain ⟨cs, rfl, hsz⟩ := okWide_struct Tryd.underlying24 hv
  obtain ⟨c0, c1, rfl⟩ := array2 (hsz.trans ce24)
  obtain ⟨fuel, hf⟩ := h
  obtain ⟨y0, y1, n, hd, _, h0, h1⟩ := trod_struct2 Tryd.underlying24 hf
  rw [ce3] at h0
  rw [ce22] at h1
  obtain ⟨x0, e0, _, k0⟩ := DataW.trod_int Tryd.underlying3 h0
  simp [Value.cells] at e0
  subst e0
  have hd1 : d = .agg [y0.1, y1.1] := (Prod.mk.inj hd).1
  have hz1 : ∀ z ∈ y1.1.weights Tryd.prog 22, z ≤ reachBytes := fun z hm => hz z (by
    rw [hd1]
    simp only [DataW.weights, Tryd.underlying24]
    exact DataW.weights_mem_each (j := 1) (t := 22) rfl rfl z hm)
  have bk := bounds_i64 k0
  rcases Deep.open_slice Tryd.underlying22 h1 with ⟨hcs, _⟩ | ⟨a, len, cap, m, n', D, Pl, hcs, _, hl, hm, hmm, hx, hi⟩
  · simp [Value.cells] at hcs
    subst hcs
    exact ⟨x0, _, [], rfl, rows_nil W, by simp, (fun l hl => by cases hl), by omega, by omega⟩
  · simp [Value.cells] at hcs
    subst hcs
    have hlm : len ≤ m := by rw [hmm]; split <;> omega
    have hlen : len ≤ 140737488355328 := by
      have := hz1 (((List.range len).map D).length * 24 + ((List.range (m - len)).map fun j => D (len + j)).length * 24) (by
        rw [hx]
        simp only [DataW.weights, Tryd.underlying22, by42, List.mem_cons]
        left
        simp; omega)
      simp [reachBytes] at this; omega
    have key : ∀ j, j < len → ∃ z : Value × List Pt, W.cell? (a.add j) = some z.1 ∧ PtsAt W z.1 z.2 ∧ z.2.length ≤ 140737488355328 := by
      intro j hj
      obtain ⟨cs', hc, ht⟩ := hi j (by omega)
      obtain ⟨a2, len2, cap2, l, rfl, hp, hb⟩ := pts_open ht (fun z hm2 => hz1 z (by
        rw [hx]
        simp only [DataW.weights, Tryd.underlying22, List.mem_cons, List.mem_append]
        exact Or.inr (Or.inl (weightsAll_mem (x := D j) (List.mem_map.2 ⟨j, List.mem_range.2 hj, rfl⟩) z hm2))))
      rw [ce42, Nat.mul_one] at hc
      obtain ⟨_, hcl, hat⟩ := World.cells?_some hc
      refine ⟨(_, l), ?_, hp, hb⟩
      have := hat 0 (by omega); simpa [Addr.add] using this
    obtain ⟨g, hg⟩ := Deep.choose_lt key
    have hgl : ∀ j, j < len → ((List.range len).map fun i => (g i).2).getD j [] = (g j).2 := fun j hj => by
      rw [List.getD, List.getElem?_eq_getElem (by simpa using hj)]; simp
    refine ⟨x0, _, (List.range len).map (fun i => (g i).2), rfl, ⟨some a, cap, by simp, fun e => (by cases e), ?_⟩, by simpa using hlen, ?_, by omega, by omega⟩
    · by_cases hz : len = 0
      · left; subst hz; rfl
      · right
        obtain ⟨b, off, spot⟩ := a
        have c0 := (hg 0 (by omega)).1
        have hspot : spot = none := by simpa [Addr.add] using World.cell?_spot c0
        subst hspot
        refine ⟨b, off, rfl, ?_, fun j hj => ?_⟩
        · rw [Addr.add_lit] at c0; exact cell_lt c0
        · have hj' : j < len := by simpa using hj
          obtain ⟨h1, h2, _⟩ := hg j hj'
          rw [Addr.add_lit] at h1
          exact ⟨(g j).1, h1, by rw [hgl j hj']; exact h2⟩
    · intro l hl2
      obtain ⟨i, hi2, rfl⟩ := List.mem_map.1 hl2
      exact (hg i (List.mem_range.1 hi2)).2.2
/- a list of ints opened -/
def IsL (W : World) (v : Value) : Prop := ∃ l, IntsAt W v l ∧ I64B l
theorem ints_open {H : Type} {enc : TypeId × Value → H} {W : World} {base b0 : Nat} {spare : Nat → Bool} {held : Bool} {r : Reach} {v : Value} {d : DataW H} {p : List MemPlace}
    (hv : Value.okWide Tryd.prog W r b0 27 v) (h : DataW.Trod enc Tryd.prog W base spare held 27 v d p) : IsL W v := by
  obtain ⟨a0, len, cap0, rfl⟩ := okWide_slice Tryd.underlying27 hv
  obtain ⟨fuel, hf⟩ := h
  rcases Deep.open_slice Tryd.underlying27 hf with ⟨hcs, _⟩ | ⟨a, len', cap, m, n', D, Pl, hcs, _, hl, hm, hmm, _, hi⟩
  · simp [Value.cells] at hcs
    obtain ⟨rfl, rfl, rfl⟩ := hcs
    exact ⟨[], ints_nil _, fun x hx => by cases hx⟩
  · simp [Value.cells] at hcs
    obtain ⟨rfl, rfl, rfl⟩ := hcs
    have hlm : len ≤ m := by rw [hmm]; split <;> omega
    have key : ∀ i, i < len → ∃ c : Int, W.cell? (a.add i) = some (.int .i64 c) ∧ -9223372036854775808 ≤ c ∧ c ≤ 9223372036854775807 := by
      intro i hi'
      obtain ⟨cs', hc, ht⟩ := hi i (by omega)
      rw [ce3] at hc
      obtain ⟨_, hcl, hat⟩ := World.cells?_some hc
      obtain ⟨x, ex, _, wx⟩ := DataW.trod_int Tryd.underlying3 ht
      have := hat 0 (by omega)
      rw [ex] at this
      have bk := bounds_i64 wx
      exact ⟨x, by simpa [Addr.add] using this, by omega, by omega⟩
    obtain ⟨g, hg⟩ := Deep.choose_lt key
    refine ⟨(List.range len).map g, ⟨some a, cap0, by simp, by simpa using hl, ?_⟩, ?_⟩
    · by_cases hz : len = 0
      · left; subst hz; rfl
      · right
        obtain ⟨b, off, spot⟩ := a
        have c0 := (hg 0 (by omega)).1
        have hspot : spot = none := by simpa [Addr.add] using World.cell?_spot c0
        subst hspot
        refine ⟨b, off, rfl, ?_, fun i hi' => ?_⟩
        · rw [Addr.add_lit] at c0; exact cell_lt c0
        · have hi2 : i < len := by simpa using hi'
          have := (hg i hi2).1
          rw [Addr.add_lit] at this
          rw [this, List.getD, List.getElem?_eq_getElem (by simpa using hi2)]; simp
    · intro x hx
      obtain ⟨i, hi2, rfl⟩ := List.mem_map.1 hx
      exact (hg i (List.mem_range.1 hi2)).2
end Go.Proofs.YthlbenldgnjgcaaDoor
