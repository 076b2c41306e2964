/- cmds: the writer's state; command. -/
import Derived.Test.YthlbenldgnjgcaaDoorKe
import Derived.Test.YthlbenldgnjgcaaDoorDr
namespace Go.Proofs.YthlbenldgnjgcaaDoor
open Go.ChangeShapes Go.WideShapes Go.ChangeAt Go.RowKit Go.Joins Go.Deep

abbrev qp (b : Nat) : Value := .pointer (some ⟨b, 0, none⟩)
/- a row of ints of the call's own -/
abbrev IOwn (w : World) (base : Nat) (v : Value) (l : List Int) : Prop := w.ownsRow base 3 1 v l.length (nums l)
theorem IOwn.keep {w W : World} {base : Nat} {v : Value} {l : List Int} (h : IOwn w base v l) (b : Below w.heap.size w W) : IOwn W base v l := by
  refine ⟨h.1, ?_⟩
  rcases h.2 with h0 | ⟨g, cap, cur, rfl, h2, hg, h3⟩
  · exact Or.inl h0
  · refine Or.inr ⟨g, cap, cur, rfl, h2, ?_, h3⟩
    rw [b.block _ ?_]; exact hg
    by_cases hl : g < w.heap.size
    · exact hl
    · rw [Array.getElem?_eq_none (Nat.le_of_not_lt hl)] at hg; cases hg
theorem IOwn.same {w W : World} {base : Nat} {v : Value} {l : List Int} (h : IOwn w base v l) (e : ∀ g, v.ownBlock = some g → W.heap[g]? = w.heap[g]?) : IOwn W base v l := by
  refine ⟨h.1, ?_⟩
  rcases h.2 with h0 | ⟨g, cap, cur, rfl, h2, hg, h3⟩
  · exact Or.inl h0
  · exact Or.inr ⟨g, cap, cur, rfl, h2, by rw [e g rfl]; exact hg, h3⟩
theorem nums_one (l : List Int) : ∀ v ∈ nums l, v.oneCell' = true := by
  intro v hv; unfold nums at hv; obtain ⟨x, _, rfl⟩ := List.mem_map.1 hv; rfl
theorem iown_add {w : World} {base m : Nat} {v : Value} {out : List Int} {xs : List Int} {q : Nat} (hm : out.length = m) (hq : xs.length = q) (h : w.ownsRow base 3 1 v (m + q) (nums out ++ nums xs)) : IOwn w base v (out ++ xs) := by
  show w.ownsRow base 3 1 v (out ++ xs).length (nums (out ++ xs))
  rw [nums_append, List.length_append, hm, hq]; exact h
theorem one_new (w : World) (x : Value) (t : TypeId) : ∀ j u, [x][j]? = some u → (w.alloc (.cells #[x] t)).cell? ((⟨w.heap.size, 0, none⟩ : Addr).add j) = some u := by
  intro j u hj
  match j, hj with
  | 0, hj => simp at hj; subst hj; simp [Addr.add]
/- the writer -/
structure Wst (base B : Nat) (w : World) (v : Value) (p : Pt) (O : List Int) : Prop where
  row : Row w B 47 [v, .int .i64 p.1, .int .i64 p.2]
  own : IOwn w base v O
  ne : ∀ k, v.ownBlock = some k → k ≠ B
  le : base ≤ B
theorem Wst.keep {base B : Nat} {w W : World} {v : Value} {p : Pt} {O : List Int} (h : Wst base B w v p O) (b : Below w.heap.size w W) : Wst base B W v p O :=
  ⟨h.row.below b h.row.lt, h.own.keep b, h.ne, h.le⟩
theorem wst_app {w W w7 : World} {base B n q : Nat} {v v' : Value} {p : Pt} {O xs : List Int} (h : Wst base B w v p O) (b : Below w.heap.size w W) (hn : O.length = n) (hq : xs.length = q) (gr : W.grownBy w7 v.ownBlock)
    (ow : w7.ownsRow base 3 1 v' (n + q) (nums O ++ nums xs)) (loc : v'.ownBlock = v.ownBlock ∨ v'.ownBlock = some W.heap.size) :
    Row w7 B 47 [v, .int .i64 p.1, .int .i64 p.2] ∧ Wst base B (w7.setCell ⟨B, 0, none⟩ v') v' p (O ++ xs) ∧ Below base w (w7.setCell ⟨B, 0, none⟩ v') := by
  have hB := h.row.lt
  have hle := h.le
  have hsz := b.size
  have r7 : Row w7 B 47 [v, .int .i64 p.1, .int .i64 p.2] := (h.row.below b hB).same (gr.block B (by omega) (fun e => h.ne B e.symm rfl))
  have hne : ∀ k, v'.ownBlock = some k → k ≠ B := by
    intro k hk
    rcases loc with l | l
    · exact h.ne k (by rw [← l]; exact hk)
    · rw [l] at hk; injection hk with hk; omega
  refine ⟨r7, ⟨?_, ?_, hne, hle⟩, ?_⟩
  · have := r7.set (i := 0) v'; simpa using this
  · exact (iown_add hn hq ow).same (fun g hg => Below.heap_setCell _ _ _ _ (hne g hg))
  · refine Below.setCell ?_ hle _
    exact Below.grown ((b.mono (by omega) : Below base w W)) gr (by omega) (fun k e => (h.own.lt k e).1)
set_option maxHeartbeats 2000000 in
theorem command_any {w : World} {base B : Nat} {v : Value} {p : Pt} {O : List Int} (h : Wst base B w v p O) (hO : O.length ≤ 1000000) (i c : Int) (x : Int) (hx : i + 8 * c = x) (hc : 0 ≤ c ∧ c ≤ 1000000) (hi : 0 ≤ i ∧ i ≤ 7) : Calls Tryd.prog 17 #[qp B, .int .i64 i, .int .i64 c] w fun e w' => e = .returned (.tuple #[]) ∧ ∃ v', Wst base B w' v' p (O ++ [x]) ∧ Below base w w' := by
  obtain ⟨i0, hi0, hz0, hz1, hz2⟩ := info_parts Tryd.info3
  have II := Lib.hid hi0; have Z0 := Lib.hid hz0; have Z1 := Lib.hid hz1; have Z2 := Lib.hid hz2
  clear hi0 hz0 hz1 hz2
  have HH := Lib.hid h
  obtain ⟨au, cu, hv⟩ := row_form h.own
  obtain ⟨n, hn⟩ : ∃ n, O.length = n := ⟨_, rfl⟩
  have OW : Hid (w.ownsRow base 3 1 v n (nums O)) := by have := h.own; unfold IOwn at this; rw [hn] at this; exact this
  rw [hn] at hv
  have HN := Lib.hid hn; have HO := Lib.hid (show n ≤ 1000000 by omega)
  have q0 := h.row.cell (i := 0) rfl; have q1 := h.row.cell (i := 1) rfl; have q2 := h.row.cell (i := 2) rfl
  have f0 := h.row.fr (i := 0)
  subst hv
  have e1 : IntKind.i64.wrap (8 * c) = 8 * c := by rw [IntKind.wrap_i64]; omega
  have e2 : IntKind.i64.wrap x = x := by rw [IntKind.wrap_i64]; omega
  have BL : Hid (base ≤ w.heap.size) := by have := h.le; have := h.row.lt; show _ ≤ _; omega
  clear h hn hO hc hi
  go_enter Tryd.func17, Tryd.ntmps17
  go_wp2_with (at_builtin; refine wpList_append_own_at _ rfl _ _ 27 rfl base 3 i0 (.int .i64 0) 1 8 Tryd.underlying27 II.out Z0.out Z1.out Z2.out rfl (by decide) (.slice au n cu) n (nums O) rfl (OW.out.alloc _) ⟨w.heap.size, 0, none⟩ 1 1 [.int .i64 x] rfl rfl (one_new _ _ _) (by simp [Value.oneCell']) (by have := HO.out; unfold maxLen; omega) (by have := HO.out; omega) (by have := BL.out; simp; omega) ?_; intro v' w7 hown' hgrow hnil hloc; have R7 := Lib.hid hown'; have G7 := Lib.hid hgrow; have L7 := Lib.hid hloc; have F7 := Lib.hid (wst_app HH.out ((Below.refl _ _).alloc (Nat.le_refl _) _) HN.out rfl hgrow (xs := [x]) hown' hloc); obtain ⟨a7, c7, hv7⟩ := row_form hown'; subst hv7; clear hown' hgrow hnil hloc; have k0 := F7.out.1.cell (i := 0) rfl; have k1 := F7.out.1.fr (i := 0))
  go_end0
  exact ⟨rfl, _, F7.out.2.1, F7.out.2.2⟩
end Go.Proofs.YthlbenldgnjgcaaDoor
