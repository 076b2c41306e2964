/- graph: smallest. -/
import Derived.Test.YthfecllgkldgfaaGh
namespace Go.Proofs.Ythfecllgkldgfaa
open Go.ChangeShapes Go.WideShapes Go.ChangeAt Go.RowKit Go.Joins Go.Deep

theorem getD_setI (l : List Int) (i k : Nat) (x : Int) (hi : i < l.length) : (l.set i x).getD k 0 = if i = k then x else l.getD k 0 := by
  by_cases e : i = k
  · subst e; rw [if_pos rfl, List.getD, List.getElem?_set_self hi]; rfl
  · rw [if_neg e, List.getD, List.getElem?_set_ne e]; rfl
/- a row of numbers in block g -/
structure Nums (w : World) (g n cap : Nat) (l : List Int) : Prop where
  own : w.ownsRow 0 3 1 (.slice (some ⟨g, 0, none⟩) n cap) n (nums l)
  len : l.length = n
theorem Nums.lt {w : World} {g n cap : Nat} {l : List Int} (h : Nums w g n cap l) : g < w.heap.size := (h.own.lt g rfl).2
theorem Nums.at_ {w : World} {g n cap i : Nat} {l : List Int} (h : Nums w g n cap l) (hi : i < n) : w.cell? ⟨g, i, none⟩ = some (.int .i64 (l.getD i 0)) ∧ w.frozen? ⟨g, i, none⟩ = false := by
  rcases h.own.2 with ⟨e, _⟩ | ⟨g', cap', cur, e, _, hg, h1, h2, h3, h4⟩
  · cases e
  · injection e with e1 e2 e3
    injection e1 with e1; injection e1 with e1; subst e1
    have hl : i < l.length := by rw [h.len]; exact hi
    have key : cur.toList[i]? = some (.int .i64 (l.getD i 0)) := by
      have e4 : (nums l)[i]? = some (.int .i64 (l.getD i 0)) := by simp [nums, List.getD, List.getElem?_eq_getElem hl]
      rw [← h4, List.getElem?_take, if_pos (by omega)] at e4
      exact e4
    refine ⟨?_, ?_⟩
    · unfold World.cell?; rw [hg]; simpa using key
    · unfold World.frozen?; rw [hg]; simp
theorem Nums.set {w : World} {g n cap i : Nat} {l : List Int} (h : Nums w g n cap l) (x : Int) : Nums (w.setCell ⟨g, i, none⟩ (.int .i64 x)) g n cap (l.set i x) := by
  rcases h.own.2 with ⟨e, _⟩ | ⟨g', cap', cur, e, hb, hg, h1, h2, h3, h4⟩
  · cases e
  · injection e with e1 e2 e3
    injection e1 with e1; injection e1 with e1; subst e1 e3
    refine ⟨⟨by simp [nums, h.len], Or.inr ⟨g, cap, cur.setIfInBounds i (.int .i64 x), rfl, hb, ?_, h1, h2, by simpa using h3, ?_⟩⟩, by rw [List.length_set]; exact h.len⟩
    · rw [heap_setCell_same _ _ _ _ _ _ hg]
    · simp only [Array.toList_setIfInBounds]
      have : nums (l.set i x) = (nums l).set i (.int .i64 x) := by simp [nums, List.map_set]
      rw [this, ← h4, List.take_set]
theorem Nums.same {w W : World} {g n cap : Nat} {l : List Int} (h : Nums w g n cap l) (e : W.heap[g]? = w.heap[g]?) : Nums W g n cap l := by
  refine ⟨⟨h.own.1, ?_⟩, h.len⟩
  rcases h.own.2 with ⟨e, _⟩ | ⟨g', cap', cur, e', hb, hg, h3⟩
  · cases e
  · injection e' with e1 e2 e3
    injection e1 with e1; injection e1 with e1; subst e1 e3
    exact Or.inr ⟨g, cap, cur, rfl, hb, by rw [e]; exact hg, h3⟩
/- nothing but block g has changed -/
structure OnlyG (g : Nat) (w w' : World) : Prop where
  os : w'.os = w.os
  tape : w'.tape = w.tape
  output : w'.output = w.output
  size : w'.heap.size = w.heap.size
  block : ∀ k, k ≠ g → w'.heap[k]? = w.heap[k]?
theorem OnlyG.refl (g : Nat) (w : World) : OnlyG g w w := ⟨rfl, rfl, rfl, rfl, fun _ _ => rfl⟩
theorem OnlyG.set {g i : Nat} {w w' : World} {x : Value} (h : OnlyG g w w') : OnlyG g w (w'.setCell ⟨g, i, none⟩ x) :=
  ⟨h.os, h.tape, h.output, by rw [← h.size]; simp, fun k hk => by rw [Below.heap_setCell _ _ _ _ hk]; exact h.block k hk⟩
theorem OnlyG.below {g B : Nat} {w w' : World} (h : OnlyG g w w') (hB : B ≤ g) : Below B w w' := ⟨h.os, h.tape, h.output, Nat.le_of_eq h.size.symm, fun k hk => h.block k (by omega)⟩
/- every number leads to one that is not greater -/
def Dn (l : List Int) : Prop := ∀ j, j < l.length → 0 ≤ l.getD j 0 ∧ l.getD j 0 ≤ (j : Int)
def sm : Nat → List Int → Nat → List Int × Nat
  | 0, up, v => (up, v)
  | f + 1, up, v => if (up.getD v 0).toNat = v then (up, v) else sm f (up.set v (up.getD (up.getD v 0).toNat 0)) (up.getD (up.getD v 0).toNat 0).toNat
theorem Dn.set {l : List Int} {v : Nat} {q : Int} (h : Dn l) (hq : 0 ≤ q ∧ q ≤ (v : Int)) : Dn (l.set v q) := by
  intro j hj
  rw [List.length_set] at hj
  by_cases hv : v < l.length
  · rw [getD_setI _ _ _ _ hv]
    by_cases e : v = j
    · rw [if_pos e, ← e]; exact hq
    · rw [if_neg e]; exact h j hj
  · rw [List.set_eq_of_length_le (by omega)]; exact h j hj
set_option maxRecDepth 100000 in
set_option maxHeartbeats 4000000 in
theorem smallest_any {w : World} {g n cap v : Nat} {up : List Int} (h : Nums w g n cap up) (hd : Dn up) (hv : v < n) : Calls Try.prog 61 #[.slice (some ⟨g, 0, none⟩) n cap, .int .i64 v] w fun e w' => ∃ (up' : List Int) (r : Nat), sm (v + 1) up v = (up', r) ∧ r ≤ v ∧ e = .returned (.int .i64 r) ∧ Nums w' g n cap up' ∧ Dn up' ∧ OnlyG g w w' := by
  have H0 := Lib.hid h; have D0 := Lib.hid hd
  clear h hd
  go_enter Try.func61, Try.ntmps61
  go_wp2_with fail
  go_loopw [1] (fun s1 wr => ∃ (k f : Nat) (uk : List Int), k < n ∧ s1 = .int .i64 (k : Int) ∧ Hid (k ≤ v ∧ k < f ∧ sm f uk k = sm (v + 1) up v) ∧ Hid (Nums wr g n cap uk) ∧ Hid (Dn uk) ∧ Hid (OnlyG g w wr)) (fun s1 _ => (intOf s1).toNat)
  case atStart => exact ⟨v, v + 1, up, hv, rfl, ⟨Nat.le_refl _, Nat.lt_succ_self _, rfl⟩, H0, D0, OnlyG.refl _ _⟩
  case round =>
    clear H0 D0
    obtain ⟨k, f, uk, hk, rfl, SM, NM, DD, OG⟩ := hrel
    have ck := (NM.out.at_ hk).1; have fk := (NM.out.at_ hk).2
    obtain ⟨d0, d1⟩ := DD.out k (by rw [NM.out.len]; exact hk)
    obtain ⟨p, hp⟩ : ∃ p : Nat, uk.getD k 0 = (p : Int) := ⟨(uk.getD k 0).toNat, by omega⟩
    rw [hp] at ck d1
    have hpk : p ≤ k := by omega
    have HP := Lib.hid hp
    have k0 : (0 : Int) ≤ (k : Int) := by omega
    have kl : (k : Int) < (n : Int) := by omega
    by_cases he : p = k
    · obtain rfl := he
      have FIN : Hid (∃ (up' : List Int) (r : Nat), sm (v + 1) up v = (up', r) ∧ r ≤ v ∧ (.returned (.int .i64 (p : Int)) : Ending) = .returned (.int .i64 r) ∧ Nums wr g n cap up' ∧ Dn up' ∧ OnlyG g w wr) := by
        obtain ⟨h1, h2, h3⟩ := SM.out
        obtain ⟨f', rfl⟩ : ∃ f', f = f' + 1 := ⟨f - 1, by omega⟩
        rw [sm, if_pos (by rw [HP.out]; simp)] at h3
        exact ⟨uk, p, h3.symm, h1, rfl, NM.out, DD.out, OG.out⟩
      clear hp d0 d1 hpk
      go_wp2_with fail
      go_ret
      exact FIN.out
    · have hlt : p < k := by omega
      have cp := (NM.out.at_ (i := p) (by omega)).1
      obtain ⟨e0, e1⟩ := DD.out p (by rw [NM.out.len]; omega)
      obtain ⟨q, hq⟩ : ∃ q : Nat, uk.getD p 0 = (q : Int) := ⟨(uk.getD p 0).toNat, by omega⟩
      rw [hq] at cp e1
      have hne : ((p : Int) == (k : Int)) = false := by simp; omega
      have p0 : (0 : Int) ≤ (p : Int) := by omega
      have p1 : (p : Int) < (n : Int) := by omega
      obtain ⟨W2, hW2⟩ : ∃ W2, wr.setCell ⟨g, k, none⟩ (.int .i64 (q : Int)) = W2 := ⟨_, rfl⟩
      have n2 : Nums W2 g n cap (uk.set k (q : Int)) := by rw [← hW2]; exact NM.out.set _
      have c2 := (n2.at_ hk).1
      rw [getD_setI _ _ _ _ (by rw [NM.out.len]; exact hk), if_pos rfl] at c2
      have N2 := Lib.hid n2
      have D2 : Hid (Dn (uk.set k (q : Int))) := DD.out.set ⟨by omega, by omega⟩
      have O2 : Hid (OnlyG g w W2) := by show OnlyG _ _ _; rw [← hW2]; exact OG.out.set
      have S2 : Hid (∃ f', q ≤ v ∧ q < f' ∧ sm f' (uk.set k (q : Int)) q = sm (v + 1) up v) := by
        obtain ⟨h1, h2, h3⟩ := SM.out
        obtain ⟨f', rfl⟩ : ∃ f', f = f' + 1 := ⟨f - 1, by omega⟩
        refine ⟨f', by omega, by omega, ?_⟩
        rw [sm, if_neg (by rw [HP.out]; simp; omega), HP.out, Int.toNat_natCast, hq, Int.toNat_natCast] at h3
        exact h3
      have HQ : Hid (q < n ∧ q < k) := ⟨by omega, by omega⟩
      clear hp hq d0 d1 e0 e1 n2 SM NM DD OG hpk hlt he
      go_wp2_with fail
      go_roundw
      case measure => simp [intOf]; exact HQ.out.2
      case rel =>
        obtain ⟨f', s2⟩ := S2.out
        exact ⟨q, f', _, HQ.out.1, rfl, s2, N2, D2, O2⟩
end Go.Proofs.Ythfecllgkldgfaa
