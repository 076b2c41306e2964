/- graph: the reference's Parts, its meaning: turns of minima lead to the least one. -/
import Derived.Test.YthfecllgkldgfaaGr
namespace Go.Proofs.Ythfecllgkldgfaa

def relax (up : List Int) (a : Int × Int) : List Int :=
  let x := min (up.getD a.1.toNat 0) (up.getD a.2.toNat 0)
  (up.set a.1.toNat x).set a.2.toNat x
def turn (l : List (Int × Int)) (k : Nat) (up : List Int) : List Int := (l.take k).foldl relax up
def turns (l : List (Int × Int)) (m : Nat) : Nat → List Int
  | 0 => idl m m
  | t + 1 => turn l l.length (turns l m t)
def partsR (l : List (Int × Int)) (m : Nat) : List Int := turns l m m
theorem turn_succ {l : List (Int × Int)} {k : Nat} {up : List Int} (h : k < l.length) : turn l (k + 1) up = relax (turn l k up) (l.getD k (0, 0)) := by
  unfold turn
  rw [List.take_add_one, List.getElem?_eq_getElem h, List.foldl_append, List.getD, List.getElem?_eq_getElem h]; rfl
theorem relax_len (up : List Int) (a : Int × Int) : (relax up a).length = up.length := by unfold relax; dsimp only; rw [List.length_set, List.length_set]
theorem relax_get {up : List Int} {x y v : Nat} (hx : x < up.length) (hy : y < up.length) : (relax up ((x : Int), (y : Int))).getD v 0 = if v = x ∨ v = y then min (up.getD x 0) (up.getD y 0) else up.getD v 0 := by
  unfold relax
  dsimp only
  rw [Int.toNat_natCast, Int.toNat_natCast, getD_setI _ _ _ _ (by rw [List.length_set]; exact hy), getD_setI _ _ _ _ hx]
  by_cases e1 : y = v
  · rw [if_pos e1, if_pos (Or.inr e1.symm)]
  · rw [if_neg e1]
    by_cases e2 : x = v
    · rw [if_pos e2, if_pos (Or.inl e2.symm)]
    · rw [if_neg e2, if_neg (by omega)]
/- what a turn keeps -/
structure Rel (l : List (Int × Int)) (m : Nat) (up : List Int) : Prop where
  len : up.length = m
  val : ∀ v, v < m → ∃ r : Nat, up.getD v 0 = (r : Int) ∧ r ≤ v ∧ Conn l v r
theorem rel_zero (l : List (Int × Int)) (m : Nat) : Rel l m (idl m m) :=
  ⟨idl_len (Nat.le_refl _), fun v hv => ⟨v, by rw [idl_get (Nat.le_refl _) hv, if_pos hv], Nat.le_refl _, .refl _⟩⟩
theorem rel_relax {l : List (Int × Int)} {m : Nat} {up : List Int} (R : Rel l m up) {x y : Nat} (hx : x < m) (hy : y < m) (ha : ((x : Int), (y : Int)) ∈ l) : Rel l m (relax up ((x : Int), (y : Int))) := by
  refine ⟨by rw [relax_len]; exact R.len, fun v hv => ?_⟩
  rw [relax_get (by rw [R.len]; exact hx) (by rw [R.len]; exact hy)]
  obtain ⟨rx, ex, lx, cx⟩ := R.val x hx
  obtain ⟨ry, ey, ly, cy⟩ := R.val y hy
  obtain ⟨rv, ev, lv, cv⟩ := R.val v hv
  have cxy : Conn l x y := .arc ha
  by_cases h : v = x ∨ v = y
  · rw [if_pos h, ex, ey]
    by_cases hm : rx ≤ ry
    · refine ⟨rx, by omega, ?_, ?_⟩
      · rcases h with rfl | rfl <;> omega
      · rcases h with rfl | rfl
        · exact cx
        · exact .trans (.symm cxy) cx
    · refine ⟨ry, by omega, ?_, ?_⟩
      · rcases h with rfl | rfl <;> omega
      · rcases h with rfl | rfl
        · exact .trans cxy cy
        · exact cy
  · rw [if_neg h]; exact ⟨rv, ev, lv, cv⟩
theorem relax_down {up : List Int} {m x y : Nat} (hl : up.length = m) (hx : x < m) (hy : y < m) (v : Nat) : (relax up ((x : Int), (y : Int))).getD v 0 ≤ up.getD v 0 := by
  rw [relax_get (by omega) (by omega)]
  by_cases h : v = x ∨ v = y
  · rw [if_pos h]
    rcases h with rfl | rfl <;> omega
  · rw [if_neg h]; exact Int.le_refl _
theorem arc_nat {l : List (Int × Int)} {m : Nat} (hb : ∀ j, j < l.length → ¬ bad (m : Int) (l.getD j (0, 0))) {j : Nat} (hj : j < l.length) : ∃ x y : Nat, l.getD j (0, 0) = ((x : Int), (y : Int)) ∧ x < m ∧ y < m ∧ ((x : Int), (y : Int)) ∈ l := by
  have nb := hb j hj
  have hm : l.getD j (0, 0) ∈ l := by rw [List.getD, List.getElem?_eq_getElem hj]; exact List.getElem_mem hj
  generalize l.getD j (0, 0) = a at nb hm
  obtain ⟨xx, yy⟩ := a
  unfold bad at nb
  dsimp only at nb
  obtain ⟨x, rfl⟩ : ∃ x : Nat, xx = (x : Int) := ⟨xx.toNat, by omega⟩
  obtain ⟨y, rfl⟩ : ∃ y : Nat, yy = (y : Int) := ⟨yy.toNat, by omega⟩
  exact ⟨x, y, rfl, by omega, by omega, hm⟩
theorem rel_turn {l : List (Int × Int)} {m : Nat} {up : List Int} (hb : ∀ j, j < l.length → ¬ bad (m : Int) (l.getD j (0, 0))) (R : Rel l m up) : ∀ k, k ≤ l.length →
    Rel l m (turn l k up) ∧ (∀ v, (turn l k up).getD v 0 ≤ up.getD v 0) ∧ ∀ j, j < k → ∀ x y : Nat, l.getD j (0, 0) = ((x : Int), (y : Int)) → (turn l k up).getD x 0 ≤ up.getD y 0 ∧ (turn l k up).getD y 0 ≤ up.getD x 0 := by
  intro k
  induction k with
  | zero => intro _; exact ⟨R, fun v => Int.le_refl _, fun j hj => absurd hj (by omega)⟩
  | succ k ih =>
    intro hk
    obtain ⟨i1, i2, i3⟩ := ih (by omega)
    obtain ⟨p, q, e, hp, hq, hm⟩ := arc_nat hb (j := k) (by omega)
    rw [turn_succ (by omega), e]
    have dn := relax_down i1.len hp hq
    refine ⟨rel_relax i1 hp hq hm, fun v => Int.le_trans (dn v) (i2 v), fun j hj x y exy => ?_⟩
    by_cases hjk : j < k
    · obtain ⟨h1, h2⟩ := i3 j hjk x y exy
      exact ⟨Int.le_trans (dn x) h1, Int.le_trans (dn y) h2⟩
    · obtain rfl : j = k := by omega
      rw [e] at exy
      injection exy with e1 e2
      obtain rfl : p = x := by omega
      obtain rfl : q = y := by omega
      have l1 : p < (turn l j up).length := by rw [i1.len]; exact hp
      have l2 : q < (turn l j up).length := by rw [i1.len]; exact hq
      have hp2 := i2 p; have hq2 := i2 q
      constructor
      · rw [relax_get l1 l2, if_pos (Or.inl rfl)]; omega
      · rw [relax_get l1 l2, if_pos (Or.inr rfl)]; omega
theorem count_lt {p q : Nat → Bool} {v : Nat} : ∀ l : List Nat, (∀ w ∈ l, p w = true → q w = true) → v ∈ l → p v = false → q v = true → l.countP p < l.countP q := by
  intro l
  induction l with
  | nil => intro _ h; cases h
  | cons a l ih =>
    intro h hv h0 h1
    rw [List.countP_cons, List.countP_cons]
    have mono : l.countP p ≤ l.countP q := List.countP_mono_left (fun w hw => h w (List.mem_cons_of_mem _ hw))
    by_cases e : a = v
    · rw [e, h0, h1]; simp; omega
    · have hv' : v ∈ l := by rcases List.mem_cons.1 hv with h2 | h2; exact absurd h2.symm e; exact h2
      have := ih (fun w hw => h w (List.mem_cons_of_mem _ hw)) hv' h0 h1
      cases hp : p a
      · cases hq : q a
        · simp; omega
        · simp; omega
      · rw [h a (List.mem_cons_self ..) hp]; simp; omega
def atR (up : List Int) (r : Nat) (v : Nat) : Bool := decide (up.getD v 0 = (r : Int))
def Full (l : List (Int × Int)) (m r : Nat) (up : List Int) : Prop := ∀ v, v < m → Conn l v r → up.getD v 0 = (r : Int)
theorem rel_least {l : List (Int × Int)} {m r v : Nat} {up : List Int} (R : Rel l m up) (hr : ∀ w, Conn l r w → r ≤ w) (hv : v < m) (c : Conn l v r) (h : up.getD v 0 ≤ (r : Int)) : up.getD v 0 = (r : Int) := by
  obtain ⟨s, es, ls, cs⟩ := R.val v hv
  have := hr s (.trans (.symm c) cs)
  omega
theorem full_keep {l : List (Int × Int)} {m r : Nat} {up up' : List Int} (R' : Rel l m up') (hr : ∀ w, Conn l r w → r ≤ w) (hd : ∀ v, up'.getD v 0 ≤ up.getD v 0) (F : Full l m r up) : Full l m r up' := fun v hv c =>
  rel_least R' hr hv c (by have := hd v; have := F v hv c; omega)
theorem turn_grows {l : List (Int × Int)} {m r : Nat} {up : List Int} (hb : ∀ j, j < l.length → ¬ bad (m : Int) (l.getD j (0, 0))) (R : Rel l m up) (hr : ∀ w, Conn l r w → r ≤ w) (hm : r < m) :
    Full l m r up ∨ (List.range m).countP (atR up r) < (List.range m).countP (atR (turn l l.length up) r) := by
  obtain ⟨R', hd, ha⟩ := rel_turn hb R l.length (Nat.le_refl _)
  have conn_of : ∀ v, v < m → up.getD v 0 = (r : Int) → Conn l v r := fun v hv h => by
    obtain ⟨s, es, ls, cs⟩ := R.val v hv
    obtain rfl : s = r := by omega
    exact cs
  have keep : ∀ v, v < m → up.getD v 0 = (r : Int) → (turn l l.length up).getD v 0 = (r : Int) := fun v hv h =>
    rel_least R' hr hv (conn_of v hv h) (by have := hd v; omega)
  have grow : ∀ v, v < m → up.getD v 0 ≠ (r : Int) → (turn l l.length up).getD v 0 = (r : Int) → (List.range m).countP (atR up r) < (List.range m).countP (atR (turn l l.length up) r) := fun v hv h0 h1 =>
    count_lt _ (fun w hw h => by
      unfold atR at h ⊢
      exact decide_eq_true (keep w (List.mem_range.1 hw) (of_decide_eq_true h))) (List.mem_range.2 hv) (by unfold atR; exact decide_eq_false h0) (by unfold atR; exact decide_eq_true h1)
  by_cases hx : ∃ x y : Nat, x < m ∧ y < m ∧ ((x : Int), (y : Int)) ∈ l ∧ ¬ (up.getD x 0 = (r : Int) ↔ up.getD y 0 = (r : Int))
  · obtain ⟨x, y, lx, ly, hxy, hne⟩ := hx
    obtain ⟨j, hj, ej⟩ := List.getElem_of_mem hxy
    have ej' : l.getD j (0, 0) = ((x : Int), (y : Int)) := by rw [List.getD, List.getElem?_eq_getElem hj, Option.getD_some, ej]
    obtain ⟨h1, h2⟩ := ha j hj x y ej'
    refine Or.inr ?_
    by_cases ex : up.getD x 0 = (r : Int)
    · have ny : up.getD y 0 ≠ (r : Int) := fun h => hne ⟨fun _ => h, fun _ => ex⟩
      exact grow y ly ny (rel_least R' hr ly (.trans (.symm (.arc hxy)) (conn_of x lx ex)) (by omega))
    · have ey : up.getD y 0 = (r : Int) := Classical.byContradiction fun h => hne ⟨fun k => absurd k ex, fun k => absurd k h⟩
      exact grow x lx ex (rel_least R' hr lx (.trans (.arc hxy) (conn_of y ly ey)) (by omega))
  · refine Or.inl fun v hv c => ?_
    have same : ∀ a b, Conn l a b → ((up.getD a 0 = (r : Int)) ↔ (up.getD b 0 = (r : Int))) := by
      intro a b c
      induction c with
      | refl a => exact Iff.rfl
      | symm _ ih => exact ih.symm
      | trans _ _ i1 i2 => exact i1.trans i2
      | @arc x y h =>
        obtain ⟨j, hj, ej⟩ := List.getElem_of_mem h
        have nb := hb j hj
        rw [List.getD, List.getElem?_eq_getElem hj, Option.getD_some, ej] at nb
        unfold bad at nb
        dsimp only at nb
        exact Classical.byContradiction fun k => hx ⟨x, y, by omega, by omega, h, k⟩
    refine (same v r c).2 ?_
    obtain ⟨s, es, ls, cs⟩ := R.val r hm
    have := hr s cs
    omega
theorem turns_rel {l : List (Int × Int)} {m : Nat} (hb : ∀ j, j < l.length → ¬ bad (m : Int) (l.getD j (0, 0))) : ∀ t, Rel l m (turns l m t) := by
  intro t
  induction t with
  | zero => exact rel_zero l m
  | succ t ih => exact (rel_turn hb ih l.length (Nat.le_refl _)).1
theorem turns_count {l : List (Int × Int)} {m r : Nat} (hb : ∀ j, j < l.length → ¬ bad (m : Int) (l.getD j (0, 0))) (hr : ∀ w, Conn l r w → r ≤ w) (hm : r < m) : ∀ t, Full l m r (turns l m t) ∨ t < (List.range m).countP (atR (turns l m t) r) := by
  intro t
  induction t with
  | zero =>
    refine Or.inr (List.countP_pos_iff.2 ⟨r, List.mem_range.2 hm, ?_⟩)
    unfold atR turns
    exact decide_eq_true (by rw [idl_get (Nat.le_refl _) hm, if_pos hm])
  | succ t ih =>
    have R := turns_rel hb t
    obtain ⟨R', hd, _⟩ := rel_turn hb R l.length (Nat.le_refl _)
    rcases ih with F | h
    · exact Or.inl (full_keep R' hr hd F)
    · rcases turn_grows hb R hr hm with F | h2
      · exact Or.inl (full_keep R' hr hd F)
      · refine Or.inr ?_
        show t + 1 < (List.range m).countP (atR (turn l l.length (turns l m t)) r)
        omega
theorem partsR_eq {l : List (Int × Int)} {m : Nat} (hb : ∀ j, j < l.length → ¬ bad (m : Int) (l.getD j (0, 0))) : partsR l m = partsL l m := by
  obtain ⟨h1, h2⟩ := parts_least hb
  have R := turns_rel hb m
  apply List.ext_getElem (R.len.trans h1.symm)
  intro v p q
  obtain ⟨r, er, lr⟩ := h2 v (by rw [← h1]; exact q)
  have hv : v < m := by rw [← h1]; exact q
  have hr : ∀ w, Conn l r w → r ≤ w := fun w c => lr.min w (.trans lr.con c)
  have hm : r < m := by have := lr.min v (.refl v); omega
  have F : Full l m r (turns l m m) := by
    rcases turns_count hb hr hm m with F | h
    · exact F
    · have := List.countP_le_length (p := atR (turns l m m) r) (l := List.range m)
      rw [List.length_range] at this
      omega
  have e := F v hv lr.con
  rw [List.getD, List.getElem?_eq_getElem q] at er
  have er' : (partsL l m)[v] = (r : Int) := er
  have e2 : (turns l m m)[v] = (r : Int) := by
    rw [List.getD, List.getElem?_eq_getElem p] at e
    exact e
  exact e2.trans er'.symm
end Go.Proofs.Ythfecllgkldgfaa
