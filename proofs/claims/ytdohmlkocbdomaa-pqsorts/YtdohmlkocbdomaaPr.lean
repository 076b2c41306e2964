/- pq: the rows that a law is given; two queues; what pops alike. -/
import Derived.Test.YtdohmlkocbdomaaPp
import Derived.Deep.Slices
import Derived.ChangeSame
namespace Go.Proofs.Ytdohmlkocbdomaa
open Go.ChangeShapes Go.WideShapes Go.ChangeAt Go.RowKit Go.Joins Go.Deep

theorem c3 : Try.prog.cellsOf 3 = 1 := by kernel_rfl
theorem c4 : Try.prog.cellsOf 4 = 1 := by kernel_rfl
/- a row of numbers that a law is given -/
def IntsAt (w : World) (v : Value) (l : List Int) : Prop :=
  ∃ a cap, v = .slice a l.length cap ∧ (l = [] ∨ ∃ b off, a = some ⟨b, off, none⟩ ∧ b < w.heap.size ∧ ∀ j, j < l.length → w.cell? ⟨b, off + j, none⟩ = some (.int .i64 (l.getD j 0)))
def BoolsAt (w : World) (v : Value) (l : List Bool) : Prop :=
  ∃ a cap, v = .slice a l.length cap ∧ (l = [] ∨ ∃ b off, a = some ⟨b, off, none⟩ ∧ b < w.heap.size ∧ ∀ j, j < l.length → w.cell? ⟨b, off + j, none⟩ = some (.bool (l.getD j false)))
theorem ints_open {H : Type} {enc : TypeId × Value → H} {W : World} {base b0 : Nat} {spare : Nat → Bool} {held : Bool} {r : Reach} {v : Value} {d : DataW H} {p : List MemPlace}
    (hv : Value.okWide Try.prog W r b0 27 v) (h : DataW.Trod enc Try.prog W base spare held 27 v d p) : ∃ l, IntsAt W v l := by
  obtain ⟨a0, len, cap0, rfl⟩ := okWide_slice Try.underlying27 hv
  obtain ⟨fuel, hf⟩ := h
  rcases Deep.open_slice Try.underlying27 hf with ⟨hcs, _⟩ | ⟨a, len', cap, m, n', D, Pl, hcs, _, hl, hm, hmm, _, hi⟩
  · simp [Value.cells] at hcs
    obtain ⟨rfl, rfl, rfl⟩ := hcs
    exact ⟨[], none, 0, rfl, Or.inl rfl⟩
  · simp [Value.cells] at hcs
    obtain ⟨rfl, rfl, rfl⟩ := hcs
    have hlm : len ≤ m := by rw [hmm]; split <;> omega
    have key : ∀ i, i < len → ∃ c : Int, W.cell? (a.add i) = some (.int .i64 c) := by
      intro i hi'
      obtain ⟨cs', hc, ht⟩ := hi i (by omega)
      rw [c3] at hc
      obtain ⟨_, hcl, hat⟩ := World.cells?_some hc
      obtain ⟨x, ex, _, wx⟩ := DataW.trod_int Try.underlying3 ht
      have := hat 0 (by omega)
      rw [ex] at this
      exact ⟨x, by simpa [Addr.add] using this⟩
    obtain ⟨g, hg⟩ := choose_lt key
    refine ⟨(List.range len).map g, some a, cap0, by simp, ?_⟩
    by_cases hz : len = 0
    · left; subst hz; rfl
    · right
      obtain ⟨b, off, spot⟩ := a
      have c0 := hg 0 (by omega)
      have hspot : spot = none := by simpa [Addr.add] using World.cell?_spot c0
      subst hspot
      refine ⟨b, off, rfl, ?_, fun i hi' => ?_⟩
      · rw [Addr.add_lit] at c0; exact cell_lt c0
      · have hi2 : i < len := by simpa using hi'
        have h1 := hg i hi2
        rw [Addr.add_lit] at h1
        rw [h1]; simp [List.getD, hi2]
theorem bools_open {H : Type} {enc : TypeId × Value → H} {W : World} {base b0 : Nat} {spare : Nat → Bool} {held : Bool} {r : Reach} {v : Value} {d : DataW H} {p : List MemPlace}
    (hv : Value.okWide Try.prog W r b0 26 v) (h : DataW.Trod enc Try.prog W base spare held 26 v d p) : ∃ l, BoolsAt W v l := by
  obtain ⟨a0, len, cap0, rfl⟩ := okWide_slice Try.underlying26 hv
  obtain ⟨fuel, hf⟩ := h
  rcases Deep.open_slice Try.underlying26 hf with ⟨hcs, _⟩ | ⟨a, len', cap, m, n', D, Pl, hcs, _, hl, hm, hmm, _, hi⟩
  · simp [Value.cells] at hcs
    obtain ⟨rfl, rfl, rfl⟩ := hcs
    exact ⟨[], none, 0, rfl, Or.inl rfl⟩
  · simp [Value.cells] at hcs
    obtain ⟨rfl, rfl, rfl⟩ := hcs
    have hlm : len ≤ m := by rw [hmm]; split <;> omega
    have key : ∀ i, i < len → ∃ c : Bool, W.cell? (a.add i) = some (.bool c) := by
      intro i hi'
      obtain ⟨cs', hc, ht⟩ := hi i (by omega)
      rw [c4] at hc
      obtain ⟨_, hcl, hat⟩ := World.cells?_some hc
      obtain ⟨x, ex, _⟩ := DataW.trod_bool Try.underlying4 ht
      have := hat 0 (by omega)
      rw [ex] at this
      exact ⟨x, by simpa [Addr.add] using this⟩
    obtain ⟨g, hg⟩ := choose_lt key
    refine ⟨(List.range len).map g, some a, cap0, by simp, ?_⟩
    by_cases hz : len = 0
    · left; subst hz; rfl
    · right
      obtain ⟨b, off, spot⟩ := a
      have c0 := hg 0 (by omega)
      have hspot : spot = none := by simpa [Addr.add] using World.cell?_spot c0
      subst hspot
      refine ⟨b, off, rfl, ?_, fun i hi' => ?_⟩
      · rw [Addr.add_lit] at c0; exact cell_lt c0
      · have hi2 : i < len := by simpa using hi'
        have h1 := hg i hi2
        rw [Addr.add_lit] at h1
        rw [h1]; simp [List.getD, hi2]
/- a cell of a given row, in a later world -/
theorem IntsAt.at_ {w w' : World} {a : Option Addr} {n cap j : Nat} {l : List Int} (h : IntsAt w (.slice a n cap) l) (hb : Below w.heap.size w w') (hj : j < l.length) : ∃ b off, a = some ⟨b, off, none⟩ ∧ w'.cell? ⟨b, off + j, none⟩ = some (.int .i64 (l.getD j 0)) := by
  obtain ⟨a', cap', e, h⟩ := h
  injection e with e1 e2 e3
  subst e1
  rcases h with h | ⟨b, off, e, hl, hc⟩
  · rw [h] at hj; exact absurd hj (by simp)
  · exact ⟨b, off, e, by rw [hb.cell hl]; exact hc j hj⟩
theorem BoolsAt.at_ {w w' : World} {a : Option Addr} {n cap j : Nat} {l : List Bool} (h : BoolsAt w (.slice a n cap) l) (hb : Below w.heap.size w w') (hj : j < l.length) : ∃ b off, a = some ⟨b, off, none⟩ ∧ w'.cell? ⟨b, off + j, none⟩ = some (.bool (l.getD j false)) := by
  obtain ⟨a', cap', e, h⟩ := h
  injection e with e1 e2 e3
  subst e1
  rcases h with h | ⟨b, off, e, hl, hc⟩
  · rw [h] at hj; exact absurd hj (by simp)
  · exact ⟨b, off, e, by rw [hb.cell hl]; exact hc j hj⟩
/- the first i of l, then b -/
def mix {α : Type} (i : Nat) (l b : List α) : List α := l.take i ++ b.drop i
theorem mix_zero {α : Type} (l b : List α) : mix 0 l b = b := by simp [mix]
theorem mix_all {α : Type} {n : Nat} (l b : List α) (h1 : l.length = n) (h2 : b.length = n) : mix n l b = l := by
  unfold mix; rw [← h1, List.take_length, List.drop_eq_nil_of_le (by omega), List.append_nil]
theorem mix_len {α : Type} (i : Nat) (l b : List α) (h : l.length = b.length) : (mix i l b).length = b.length := by unfold mix; rw [List.length_append, List.length_take, List.length_drop]; omega
theorem mix_get {α : Type} (i k : Nat) (l b : List α) (h : l.length = b.length) : (mix i l b)[k]? = if k < i then l[k]? else b[k]? := by
  unfold mix
  rw [List.getElem?_append, List.length_take]
  by_cases hk : k < i
  · rw [if_pos hk]
    by_cases hl : k < l.length
    · rw [if_pos (by omega), List.getElem?_take, if_pos hk]
    · rw [if_neg (by omega), List.getElem?_drop, List.getElem?_eq_none (by omega), List.getElem?_eq_none (by omega)]
  · rw [if_neg hk]
    by_cases hl : k < min i l.length
    · omega
    · rw [if_neg hl, List.getElem?_drop]
      by_cases hi : i ≤ l.length
      · congr 1; omega
      · rw [List.getElem?_eq_none (by omega), List.getElem?_eq_none (by omega)]
theorem mix_set {α : Type} {i : Nat} {l b : List α} {x : α} (h : l.length = b.length) (hi : i < l.length) (hx : l[i]? = some x) : (mix i l b).set i x = mix (i + 1) l b := by
  apply List.ext_getElem?
  intro k
  by_cases e : i = k
  · subst e
    rw [List.getElem?_set_self (by rw [mix_len i l b h]; omega), mix_get _ _ _ _ h, if_pos (by omega), hx]
  · rw [List.getElem?_set_ne e, mix_get _ _ _ _ h, mix_get _ _ _ _ h]
    by_cases hk : k < i
    · rw [if_pos hk, if_pos (by omega)]
    · rw [if_neg hk, if_neg (by omega)]
theorem mix_skip {α : Type} {i : Nat} {l b : List α} (h : l.length = b.length) (hx : l[i]? = b[i]?) : mix i l b = mix (i + 1) l b := by
  apply List.ext_getElem?
  intro k
  rw [mix_get _ _ _ _ h, mix_get _ _ _ _ h]
  by_cases e : i = k
  · subst e; rw [if_neg (by omega), if_pos (by omega), hx]
  · by_cases hk : k < i
    · rw [if_pos hk, if_pos (by omega)]
    · rw [if_neg hk, if_neg (by omega)]
theorem mix_down {α : Type} {i : Nat} {l b : List α} {x : α} (h : l.length = b.length) (hi : i < l.length) (hx : b[i]? = some x) : (mix (i + 1) l b).set i x = mix i l b := by
  apply List.ext_getElem?
  intro k
  by_cases e : i = k
  · subst e
    rw [List.getElem?_set_self (by rw [mix_len _ l b h]; omega), mix_get _ _ _ _ h, if_neg (by omega), hx]
  · rw [List.getElem?_set_ne e, mix_get _ _ _ _ h, mix_get _ _ _ _ h]
    by_cases hk : k < i
    · rw [if_pos hk, if_pos (by omega)]
    · rw [if_neg hk, if_neg (by omega)]
theorem get_of_getD {l : List Int} {i : Nat} (hi : i < l.length) : l[i]? = some (l.getD i 0) := by rw [List.getD, List.getElem?_eq_getElem hi]; rfl
theorem get_of_getDB {l : List Bool} {i : Nat} (hi : i < l.length) : l[i]? = some (l.getD i false) := by rw [List.getD, List.getElem?_eq_getElem hi]; rfl
/- two queues of the call's own -/
structure Two (w0 w : World) (qb rb : Nat) (ins : List Bool) (ks : List Int) (ins' : List Bool) (ks' : List Int) : Prop where
  ex : ∃ F G, QI w qb F ins ks ∧ QI w rb G ins' ks' ∧ (∀ k, F k → ¬ G k) ∧ (∀ k, F k → w0.heap.size ≤ k) ∧ (∀ k, G k → w0.heap.size ≤ k)
  below : Below w0.heap.size w0 w
theorem Two.symm {w0 w : World} {qb rb : Nat} {ins ins' : List Bool} {ks ks' : List Int} (t : Two w0 w qb rb ins ks ins' ks') : Two w0 w rb qb ins' ks' ins ks := by
  obtain ⟨F, G, a, b, c, d, e⟩ := t.ex
  exact ⟨⟨G, F, b, a, fun k h1 h2 => c k h2 h1, e, d⟩, t.below⟩
theorem two_new {n : Nat} {w w1 w2 : World} {e1 e2 : Ending} (h1 : NewPost n w e1 w1) (h2 : NewPost n w1 e2 w2) : ∃ qb rb, e1 = .returned (qp qb) ∧ e2 = .returned (qp rb) ∧ Two w w2 qb rb (List.replicate n false) (List.replicate n 0) (List.replicate n false) (List.replicate n 0) := by
  obtain ⟨qb, F, rfl, I, b, l⟩ := h1
  obtain ⟨rb, G, rfl, J, b', l'⟩ := h2
  refine ⟨qb, rb, rfl, rfl, ⟨F, G, I.below b', J, fun k h1 h2 => ?_, l, fun k h => ?_⟩, b.trans (b'.mono b.size)⟩
  · have := I.lt k h1; have := l' k h2; omega
  · have := l' k h; have := b.size; omega
theorem two_set {w0 w : World} {qb rb X : Nat} {ins ins' : List Bool} {ks ks' : List Int} (t : Two w0 w qb rb ins ks ins' ks') (hX : X < ins.length) (y : Int) : Calls Try.prog 11 #[qp qb, .int .i64 X, .int .i64 y] w fun e w' => e = .returned (.bool true) ∧ Two w0 w' qb rb (ins.set X true) (ks.set X y) ins' ks' := by
  obtain ⟨⟨F, G, I, J, c, d, l⟩, bl⟩ := t
  refine (set_qi I hX y).mono ?_
  rintro e w' ⟨rfl, F', I', f, l'⟩
  refine ⟨rfl, ⟨F', G, I', J.frame f (fun k h1 h2 => c k h2 h1), fun k h1 h2 => ?_, fun k h1 => ?_, l⟩, bl.trans (f.below bl.size d)⟩
  · rcases l' k h1 with h3 | h3
    · exact c k h3 h2
    · have := J.lt k h2; omega
  · rcases l' k h1 with h3 | h3
    · exact d k h3
    · have := bl.size; omega
theorem two_drop {w0 w : World} {qb rb X : Nat} {ins ins' : List Bool} {ks ks' : List Int} (t : Two w0 w qb rb ins ks ins' ks') (hX : X < ins.length) (hin : ins.getD X false = true) : Calls Try.prog 15 #[qp qb, .int .i64 X] w fun e w' => e = .returned (.bool true) ∧ Two w0 w' qb rb (ins.set X false) ks ins' ks' := by
  obtain ⟨⟨F, G, I, J, c, d, l⟩, bl⟩ := t
  refine (drop_qi I hX hin).mono ?_
  rintro e w' ⟨rfl, I', f⟩
  exact ⟨rfl, ⟨F, G, I', J.frame f (fun k h1 h2 => c k h2 h1), c, d, l⟩, bl.trans (f.below bl.size d)⟩
theorem two_dropn {w0 w : World} {qb rb : Nat} {x : Int} {ins ins' : List Bool} {ks ks' : List Int} (t : Two w0 w qb rb ins ks ins' ks') (hx : hasB ins x = false) : Calls Try.prog 15 #[qp qb, .int .i64 x] w fun e w' => e = .returned (.bool false) ∧ w = w' := by
  obtain ⟨⟨F, G, I, J, c, d, l⟩, bl⟩ := t
  exact drop_no I hx
/- what Pop answers -/
def PopR (ins : List Bool) (ks : List Int) (a k : Int) (b : Bool) (ins2 : List Bool) : Prop :=
  (ins.count true = 0 ∧ a = 0 ∧ k = 0 ∧ b = false ∧ ins2 = ins) ∨ ∃ X : Nat, Least ins ks X ∧ a = (X : Int) ∧ k = ks.getD X 0 ∧ b = true ∧ ins2 = ins.set X false
theorem pop_r {w : World} {qb : Nat} {F : Nat → Prop} {ins : List Bool} {ks : List Int} (I : QI w qb F ins ks) : Calls Try.prog 17 #[qp qb] w fun e w' => ∃ a k b ins2, PopR ins ks a k b ins2 ∧ e = .returned (.tuple #[.int .i64 a, .int .i64 k, .bool b]) ∧ QI w' qb F ins2 ks ∧ FrF F w w' := by
  by_cases h0 : ins.count true = 0
  · refine (pop_no I h0).mono ?_
    rintro e w' ⟨rfl, rfl⟩
    exact ⟨0, 0, false, ins, Or.inl ⟨h0, rfl, rfl, rfl, rfl⟩, rfl, I, FrF.refl _ _⟩
  · refine (pop_qi I (by omega)).mono ?_
    rintro e w' ⟨X, hX, rfl, I', f⟩
    exact ⟨X, ks.getD X 0, true, ins.set X false, Or.inr ⟨X, hX, rfl, rfl, rfl, rfl⟩, rfl, I', f⟩
def Agree (ins : List Bool) (ks ks' : List Int) : Prop := ∀ Z, ins.getD Z false = true → ks.getD Z 0 = ks'.getD Z 0
theorem Agree.off {ins : List Bool} {ks ks' : List Int} (h : Agree ins ks ks') (X : Nat) : Agree (ins.set X false) ks ks' := by
  intro Z hZ
  apply h
  by_cases hX : X < ins.length
  · rw [getD_setB _ _ _ _ hX] at hZ
    by_cases e : X = Z
    · rw [if_pos e] at hZ; cases hZ
    · rw [if_neg e] at hZ; exact hZ
  · rw [List.set_eq_of_length_le (by omega)] at hZ; exact hZ
theorem least_agree {ins : List Bool} {ks ks' : List Int} (h : Agree ins ks ks') {X : Nat} (l : Least ins ks' X) : Least ins ks X := by
  refine ⟨l.lt, l.mem, fun Z hZ hi => ?_⟩
  have := l.min Z hZ hi
  unfold leK bfr at this ⊢
  rw [h X l.mem, h Z hi]; exact this
theorem popr_same {ins ins2 ins2' : List Bool} {ks ks' : List Int} {a k a' k' : Int} {b b' : Bool} (h : Agree ins ks ks') (p : PopR ins ks a k b ins2) (p' : PopR ins ks' a' k' b' ins2') : a' = a ∧ k' = k ∧ b' = b ∧ ins2' = ins2 ∧ Agree ins2 ks ks' := by
  rcases p with ⟨h0, rfl, rfl, rfl, rfl⟩ | ⟨X, hX, rfl, rfl, rfl, rfl⟩
  · rcases p' with ⟨_, rfl, rfl, rfl, rfl⟩ | ⟨Y, hY, _⟩
    · exact ⟨rfl, rfl, rfl, rfl, h⟩
    · have := count_off _ Y hY.lt hY.mem; omega
  · rcases p' with ⟨h0, _⟩ | ⟨Y, hY, rfl, rfl, rfl, rfl⟩
    · have := count_off _ X hX.lt hX.mem; omega
    · obtain rfl := least_eq hX (least_agree h hY)
      exact ⟨rfl, (h X hX.mem).symm, rfl, rfl, h.off X⟩
theorem two_pop {w0 w : World} {qb rb : Nat} {ins ins' : List Bool} {ks ks' : List Int} (t : Two w0 w qb rb ins ks ins' ks') : Calls Try.prog 17 #[qp qb] w fun e w' => ∃ a k b ins2, PopR ins ks a k b ins2 ∧ e = .returned (.tuple #[.int .i64 a, .int .i64 k, .bool b]) ∧ Two w0 w' qb rb ins2 ks ins' ks' := by
  obtain ⟨⟨F, G, I, J, c, d, l⟩, bl⟩ := t
  refine (pop_r I).mono ?_
  rintro e w' ⟨a, k, b, ins2, p, rfl, I', f⟩
  exact ⟨a, k, b, ins2, p, rfl, ⟨F, G, I', J.frame f (fun k h1 h2 => c k h2 h1), c, d, l⟩, bl.trans (f.below bl.size d)⟩
end Go.Proofs.Ytdohmlkocbdomaa
