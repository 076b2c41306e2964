/- tags: rows of the call's own; Clone; the reference's Drop. -/
import Derived.Test.YtgfhanhonfpngaaDoorTe
import Derived.OwnWalk
namespace Go.Proofs.YtgfhanhonfpngaaDoor
open Go.ChangeShapes Go.WideShapes Go.ChangeAt Go.RowKit Go.Joins Go.Deep

open Go.Proofs.TagM Go.Shelf

/- the cells of a row of tags -/
def tcs : List Tg → List Value
  | [] => []
  | a :: l => .string a.1 :: .string a.2 :: tcs l
theorem tcs_len : ∀ l : List Tg, (tcs l).length = l.length * 2
  | [] => rfl
  | a :: l => by rw [tcs, List.length_cons, List.length_cons, tcs_len l, List.length_cons]; omega
theorem tcs_append : ∀ l m : List Tg, tcs (l ++ m) = tcs l ++ tcs m
  | [], m => rfl
  | a :: l, m => by rw [List.cons_append, tcs, tcs, tcs_append l m]; rfl
theorem tcs_get : ∀ (l : List Tg) (i : Nat), i < l.length → (tcs l)[i * 2]? = some (.string (l.getD i default).1) ∧ (tcs l)[i * 2 + 1]? = some (.string (l.getD i default).2)
  | a :: l, 0, _ => ⟨rfl, rfl⟩
  | a :: l, i + 1, h => by
    have ih := tcs_get l i (by simpa using h)
    have e1 : (i + 1) * 2 = i * 2 + 1 + 1 := by omega
    rw [e1, tcs]
    simp only [List.getElem?_cons_succ, List.getD_cons_succ]
    exact ih
theorem tcs_one (l : List Tg) : ∀ v ∈ tcs l, v.oneCell' = true := by
  induction l with
  | nil => intro v hv; cases hv
  | cons a l ih =>
    intro v hv
    rcases List.mem_cons.1 hv with rfl | hv
    · rfl
    · rcases List.mem_cons.1 hv with rfl | hv
      · rfl
      · exact ih v hv
/- a row of tags of the call's own -/
abbrev TOwn (w : World) (base : Nat) (v : Value) (l : List Tg) : Prop := w.ownsRow base 32 2 v l.length (tcs l)
theorem TOwn.at_ {w : World} {base : Nat} {v : Value} {l : List Tg} (h : TOwn w base v l) : TagsAt w v l := by
  rcases h.2 with ⟨rfl, h0⟩ | ⟨g, cap, cur, rfl, _, hg, h1, h2, h3, h4⟩
  · rw [List.eq_nil_of_length_eq_zero h0]; exact ⟨none, 0, rfl, fun _ => ⟨rfl, rfl⟩, Or.inl rfl⟩
  · refine ⟨_, cap, rfl, fun e => (by cases e), ?_⟩
    by_cases hz : l = []
    · exact Or.inl hz
    · right
      refine ⟨g, 0, rfl, ?_, fun j hj => ?_⟩
      · by_cases hl : g < w.heap.size
        · exact hl
        · rw [Array.getElem?_eq_none (Nat.le_of_not_lt hl)] at hg; cases hg
      · obtain ⟨a1, a2⟩ := tcs_get l j hj
        rw [← h4, List.getElem?_take, if_pos (by omega)] at a1 a2
        refine ⟨?_, ?_⟩
        · unfold World.cell?; rw [hg]; simpa using a1
        · unfold World.cell?; rw [hg]; simpa using a2
theorem TOwn.form {w : World} {base : Nat} {v : Value} {l : List Tg} (h : TOwn w base v l) : ∃ a cap, v = .slice a l.length cap := by
  rcases h.2 with ⟨rfl, h0⟩ | ⟨g, cap, cur, rfl, _⟩
  · rw [h0]; exact ⟨none, 0, rfl⟩
  · exact ⟨_, cap, rfl⟩
theorem TOwn.keep {w W : World} {base : Nat} {v : Value} {l : List Tg} (h : TOwn w base v l) (b : Below w.heap.size w W) : TOwn W base v l := by
  refine ⟨h.1, ?_⟩
  rcases h.2 with h0 | ⟨g, cap, cur, rfl, h2, hg, h3⟩
  · exact Or.inl h0
  · refine Or.inr ⟨g, cap, cur, rfl, h2, ?_, h3⟩
    rw [b.block _ ?_]; exact hg
    by_cases hl : g < w.heap.size
    · exact hl
    · rw [Array.getElem?_eq_none (Nat.le_of_not_lt hl)] at hg; cases hg
theorem TOwn.drawn {w : World} {base : Nat} {v : Value} {l : List Tg} (h : TOwn w base v l) (q : Nat) : TOwn (w.drewN q) base v l := h.keep (below_drewN (Below.refl _ _) q)
abbrev zt : Value := .agg #[.string ⟨#[]⟩, .string ⟨#[]⟩]
theorem info32 : (Tryd.prog.info? 32).map (fun i => (i.zero, i.size, i.bytes)) = some (some zt, 2, 32) := by kernel_rfl
theorem nil22 (w : World) : Sem.run Tryd.prog (binOp .eql 22 (.slice none 0 0) (.slice none 0 0)) w = .ok (.bool true) w := by rfl
theorem some22 (ad : Addr) (n cap : Nat) (w : World) : Sem.run Tryd.prog (binOp .eql 22 (.slice (some ad) n cap) (.slice none 0 0)) w = .ok (.bool false) w := by rfl
theorem two_new (w : World) (x y : Value) (t : TypeId) : ∀ j u, [x, y][j]? = some u → (w.alloc (.cells #[x, y] t)).cell? ((⟨w.heap.size, 0, none⟩ : Addr).add j) = some u := by
  intro j u hj
  match j, hj with
  | 0, hj => simp at hj; subst hj; simp [Addr.add]
  | 1, hj => simp at hj; subst hj; simp [Addr.add]
theorem own_add {w : World} {base m : Nat} {v : Value} {out : List Tg} {x y : ByteArray} (hm : out.length = m) (h : w.ownsRow base 32 2 v (m + 1) (tcs out ++ [.string x, .string y])) : TOwn w base v (out ++ [(x, y)]) := by
  show w.ownsRow base 32 2 v (out ++ [(x, y)]).length (tcs (out ++ [(x, y)]))
  rw [tcs_append, List.length_append, hm]; exact h
set_option maxHeartbeats 2000000 in
theorem clone_any {w : World} {v : Value} {ars : List Tg} (h : TagsAt w v ars) (hl : ars.length ≤ 1000000) : Calls Tryd.prog 38 #[v] w fun e w' => ∃ u, e = .returned u ∧ TOwn w' w.heap.size u ars ∧ Below w.heap.size w w' := by
  obtain ⟨i0, hi, hz0, hz1, hz2⟩ := Go.info_parts info32
  have II := Lib.hid hi; have Z0 := Lib.hid hz0; have Z1 := Lib.hid hz1; have Z2 := Lib.hid hz2
  clear hi hz0 hz1 hz2
  obtain ⟨a, cap, rfl, hz, h2⟩ := h
  cases a with
  | none =>
    obtain ⟨rfl, rfl⟩ := hz rfl
    clear hz h2
    have E1 := nil22
    go_enter Tryd.func38, Tryd.ntmps38
    go_wp2_with fail
    go_ret
    exact ⟨_, rfl, World.ownsRow_nil _ _ _ _, Below.refl _ _⟩
  | some ad =>
    have NW : Hid (∀ (o : Obj) (j : Nat) (u : Value), (tcs ars)[j]? = some u → (w.alloc o).cell? (ad.add j) = some u) := by
      intro o j u hu
      have hj : j < ars.length * 2 := by rw [← tcs_len]; exact (List.getElem?_eq_some_iff.1 hu).1
      rcases h2 with h2 | ⟨b, off, e, hb, hc⟩
      · rw [h2] at hj; exact absurd hj (by simp)
      · injection e with e; subst e
        have ea : (⟨b, off, none⟩ : Addr).add j = ⟨b, off + j, none⟩ := Addr.add_lit _ _ _
        rw [ea, World.cell?_of_block (w := w) (Below.heap_alloc _ _ _ hb)]
        have hd : j / 2 < ars.length := by omega
        obtain ⟨a1, a2⟩ := tcs_get ars (j / 2) hd
        obtain ⟨c1, c2⟩ := hc (j / 2) hd
        rcases Nat.mod_two_eq_zero_or_one j with hm | hm
        · have ej : j = j / 2 * 2 := by omega
          rw [ej] at hu ⊢
          rw [a1] at hu; rw [← hu]; exact c1
        · have ej : j = j / 2 * 2 + 1 := by omega
          rw [ej] at hu ⊢
          rw [a2] at hu; rw [← hu, ← Nat.add_assoc]; exact c2
    obtain ⟨n, hn⟩ : ∃ n, ars.length = n := ⟨_, rfl⟩
    have HN := Lib.hid hn; have HL := Lib.hid hl
    rw [hn]
    clear hz h2 hn hl
    have E1 := some22
    go_enter Tryd.func38, Tryd.ntmps38
    go_wp2_with (at_builtin; refine wpList_append_own_at _ rfl _ _ 22 rfl w.heap.size 32 i0 zt 2 32 Tryd.underlying22 II.out Z0.out Z1.out Z2.out rfl (by decide) (.slice (some ⟨w.heap.size, 0, none⟩) 0 0) 0 [] rfl (World.ownsRow_made w #[] 0 (Nat.le_refl _) (by decide) rfl) ad n cap (tcs ars) rfl (by rw [tcs_len, HN.out]) (NW.out _) (tcs_one _) (by have := HL.out; have := HN.out; unfold maxLen; omega) (by have := HL.out; have := HN.out; omega) (by simp) ?_; intro v' w4 hown' hgrow hnil hloc; have R4 := Lib.hid hown'; have G4 := Lib.hid hgrow; clear hown' hgrow hloc hnil)
    go_ret
    refine ⟨v', rfl, ?_, ?_⟩
    · have h := R4.out
      rw [Nat.zero_add, List.nil_append, ← HN.out] at h
      exact h
    · exact ((Below.refl _ w).alloc (Nat.le_refl _) _).grown G4.out (by simp) (fun k e => Nat.le_of_eq (by injection e with e))
/- the tags with other keys -/
def fl (k : ByteArray) (l : List Tg) : List Tg := l.filter (fun t => decide (t.1 ≠ k))
theorem fl_take {k : ByteArray} {l : List Tg} {i : Nat} (h : i < l.length) : fl k (l.take (i + 1)) = fl k (l.take i) ++ if (l.getD i default).1 = k then [] else [l.getD i default] := by
  unfold fl
  rw [List.take_add_one, List.getElem?_eq_getElem h, List.filter_append, List.getD, List.getElem?_eq_getElem h]
  congr 1
  by_cases e : l[i].1 = k
  · simp [e]
  · simp [e]
end Go.Proofs.YtgfhanhonfpngaaDoor

