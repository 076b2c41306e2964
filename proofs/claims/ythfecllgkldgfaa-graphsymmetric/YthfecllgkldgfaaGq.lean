/- graph: what the union-find of Parts means: roots. -/
import Derived.Test.YthfecllgkldgfaaGp
namespace Go.Proofs.Ythfecllgkldgfaa

/- follow u until it does not lead down any more -/
def root (u : Nat → Nat) (v : Nat) : Nat := if _h : u v < v then root u (u v) else v
termination_by v
theorem root_dn {u : Nat → Nat} {v : Nat} (h : u v < v) : root u v = root u (u v) := by rw [root]; rw [dif_pos h]
theorem root_at {u : Nat → Nat} {v : Nat} (h : ¬ u v < v) : root u v = v := by rw [root]; rw [dif_neg h]
theorem root_le (u : Nat → Nat) : ∀ v, root u v ≤ v := by
  intro v
  induction v using Nat.strongRecOn with
  | _ v ih =>
    by_cases h : u v < v
    · rw [root_dn h]; have := ih _ h; omega
    · rw [root_at h]; exact Nat.le_refl _
theorem root_end (u : Nat → Nat) : ∀ v, ¬ u (root u v) < root u v := by
  intro v
  induction v using Nat.strongRecOn with
  | _ v ih =>
    by_cases h : u v < v
    · rw [root_dn h]; exact ih _ h
    · rw [root_at h]; exact h
theorem root_root (u : Nat → Nat) (v : Nat) : root u (root u v) = root u v := root_at (root_end u v)
def upd (u : Nat → Nat) (v x : Nat) : Nat → Nat := fun w => if w = v then x else u w
theorem upd_at (u : Nat → Nat) (v x : Nat) : upd u v x v = x := if_pos rfl
theorem upd_ne {u : Nat → Nat} {v x w : Nat} (h : w ≠ v) : upd u v x w = u w := if_neg h
/- one that leads elsewhere in its own way to the root -/
theorem root_upd {u : Nat → Nat} {v x : Nat} (hx : x ≤ v) (hr : root u x = root u v) (hv : x = v → ¬ u v < v) : ∀ w, root (upd u v x) w = root u w := by
  intro w
  induction w using Nat.strongRecOn with
  | _ w ih =>
    by_cases e : w = v
    · subst e
      by_cases h : x < w
      · have h1 : upd u w x w < w := by rw [upd_at]; exact h
        rw [root_dn h1, upd_at, ih x h, hr]
      · have hxw : x = w := by omega
        have h1 : ¬ upd u w x w < w := by rw [upd_at]; exact h
        rw [root_at h1, root_at (hv hxw)]
    · have e1 : upd u v x w = u w := upd_ne e
      by_cases h : u w < w
      · rw [root_dn (u := upd u v x) (by rw [e1]; exact h), e1, ih _ h, ← root_dn h]
      · rw [root_at (u := upd u v x) (by rw [e1]; exact h), root_at h]
/- two roots joined -/
theorem root_join {u : Nat → Nat} {a b : Nat} (ha : ¬ u a < a) (hb : ¬ u b < b) (hab : a < b) : ∀ w, root (upd u b a) w = if root u w = b then a else root u w := by
  have ea : root (upd u b a) a = a := root_at (by rw [upd_ne (by omega)]; exact ha)
  intro w
  induction w using Nat.strongRecOn with
  | _ w ih =>
    by_cases e : w = b
    · subst e
      have h1 : upd u w a w < w := by rw [upd_at]; exact hab
      rw [root_dn h1, upd_at, ea, root_at hb, if_pos rfl]
    · have e1 : upd u b a w = u w := upd_ne e
      by_cases h : u w < w
      · rw [root_dn (u := upd u b a) (by rw [e1]; exact h), e1, ih _ h, ← root_dn h]
      · rw [root_at (u := upd u b a) (by rw [e1]; exact h), root_at h, if_neg e]
def fn (up : List Int) : Nat → Nat := fun v => if v < up.length then (up.getD v 0).toNat else v
theorem fn_in {up : List Int} {v : Nat} (h : v < up.length) : fn up v = (up.getD v 0).toNat := if_pos h
theorem fn_le {up : List Int} (h : Dn up) (v : Nat) : fn up v ≤ v := by
  by_cases hv : v < up.length
  · rw [fn_in hv]; have := h v hv; omega
  · unfold fn; rw [if_neg hv]; exact Nat.le_refl _
theorem fn_set {up : List Int} {v : Nat} {x : Nat} (hv : v < up.length) : fn (up.set v (x : Int)) = upd (fn up) v x := by
  funext w
  unfold fn upd
  rw [List.length_set, getD_setI _ _ _ _ hv]
  by_cases e : w = v
  · rw [if_pos e.symm, if_pos e, if_pos (by omega)]; simp
  · rw [if_neg (show ¬ v = w from fun h => e h.symm), if_neg (show ¬ w = v from e)]
theorem fn_get {up : List Int} (h : Dn up) {v : Nat} (hv : v < up.length) : up.getD v 0 = (fn up v : Int) := by rw [fn_in hv]; have := h v hv; omega
/- what smallest does -/
theorem sm_root : ∀ (f : Nat) (up : List Int) (v : Nat), Dn up → v < up.length → v < f → (sm f up v).2 = root (fn up) v ∧ (sm f up v).1.length = up.length ∧ Dn (sm f up v).1 ∧ (∀ w, root (fn (sm f up v).1) w = root (fn up) w) ∧ (∀ w, fn up w = root (fn up) w → fn (sm f up v).1 w = fn up w) := by
  intro f
  induction f with
  | zero => intro up v _ _ h; omega
  | succ f ih =>
    intro up v hd hv hf
    rw [sm]
    by_cases h : (up.getD v 0).toNat = v
    · rw [if_pos h]
      exact ⟨(root_at (by rw [fn_in hv]; omega)).symm, rfl, hd, fun _ => rfl, fun _ _ => rfl⟩
    · rw [if_neg h]
      have e1 : (up.getD v 0).toNat = fn up v := (fn_in hv).symm
      rw [e1] at h ⊢
      have l1 : fn up v < v := by have := fn_le hd v; omega
      have l2 : fn up (fn up v) ≤ fn up v := fn_le hd _
      have e2 : up.getD (fn up v) 0 = (fn up (fn up v) : Int) := fn_get hd (by omega)
      rw [e2, Int.toNat_natCast]
      have hd' : Dn (up.set v (fn up (fn up v) : Int)) := hd.set ⟨by omega, by omega⟩
      have rr : root (fn up) (fn up (fn up v)) = root (fn up) v := by
        rw [root_dn l1]
        by_cases l3 : fn up (fn up v) < fn up v
        · rw [root_dn l3]
        · have e3 : fn up (fn up v) = fn up v := by omega
          rw [e3]
      have ru := root_upd (u := fn up) (v := v) (x := fn up (fn up v)) (by omega) rr (fun e => by omega)
      obtain ⟨a1, a2, a3, a4, a5⟩ := ih (up.set v (fn up (fn up v) : Int)) (fn up (fn up v)) hd' (by rw [List.length_set]; omega) (by omega)
      rw [fn_set hv] at a1 a4 a5
      refine ⟨by rw [a1, ru, rr], by rw [a2, List.length_set], a3, fun w => by rw [a4, ru], fun w hw => ?_⟩
      have hne : fn up w = upd (fn up) v (fn up (fn up v)) w := by
        by_cases e : w = v
        · subst e
          rw [upd_at]
          have : fn up (fn up w) = fn up w := by
            have := root_end (fn up) w
            rw [← hw] at this
            have := fn_le hd (fn up w); omega
          exact this.symm
        · rw [upd_ne e]
      rw [a5 w (by rw [← hne, hw, ru]), ← hne]
/- joined by arcs, in whatever direction -/
inductive Conn (l : List (Int × Int)) : Nat → Nat → Prop
  | refl (a : Nat) : Conn l a a
  | arc {x y : Nat} (h : ((x : Int), (y : Int)) ∈ l) : Conn l x y
  | symm {a b : Nat} (h : Conn l a b) : Conn l b a
  | trans {a b c : Nat} (h : Conn l a b) (k : Conn l b c) : Conn l a c
theorem Conn.more {l : List (Int × Int)} {z : Int × Int} {a b : Nat} (h : Conn l a b) : Conn (l ++ [z]) a b := by
  induction h with
  | refl a => exact .refl a
  | arc h => exact .arc (List.mem_append_left _ h)
  | symm _ ih => exact .symm ih
  | trans _ _ ih1 ih2 => exact .trans ih1 ih2
theorem conn_step {l : List (Int × Int)} {R R' : Nat → Nat} {x y mx mi : Nat} (h : ∀ a b, R a = R b ↔ Conn l a b) (h' : ∀ w, R' w = if R w = mx then mi else R w) (hm : (mx = R x ∧ mi = R y) ∨ (mx = R y ∧ mi = R x)) : ∀ a b, R' a = R' b ↔ Conn (l ++ [((x : Int), (y : Int))]) a b := by
  have hxy : R' x = R' y := by
    rw [h', h']
    rcases hm with ⟨e1, e2⟩ | ⟨e1, e2⟩
    · rw [if_pos e1.symm]; split <;> omega
    · rw [if_pos (c := R y = mx) e1.symm]; split <;> omega
  have arc : Conn (l ++ [((x : Int), (y : Int))]) x y := .arc (List.mem_append_right _ (List.mem_singleton.2 rfl))
  have via : ∀ a b, R a = R x → R b = R y → Conn (l ++ [((x : Int), (y : Int))]) a b := fun a b ha hb => .trans ((h a x).1 ha).more (.trans arc ((h y b).1 hb.symm).more)
  intro a b
  constructor
  · intro e
    rw [h', h'] at e
    by_cases ea : R a = mx
    · by_cases eb : R b = mx
      · exact ((h a b).1 (ea.trans eb.symm)).more
      · rw [if_pos ea, if_neg eb] at e
        rcases hm with ⟨e1, e2⟩ | ⟨e1, e2⟩
        · exact via a b (ea.trans e1) (e.symm.trans e2)
        · exact .symm (via b a (e.symm.trans e2) (ea.trans e1))
    · rw [if_neg ea] at e
      by_cases eb : R b = mx
      · rw [if_pos eb] at e
        rcases hm with ⟨e1, e2⟩ | ⟨e1, e2⟩
        · exact .symm (via b a (eb.trans e1) (e.trans e2))
        · exact via a b (e.trans e2) (eb.trans e1)
      · rw [if_neg eb] at e; exact ((h a b).1 e).more
  · intro c
    induction c with
    | refl a => rfl
    | symm _ ih => exact ih.symm
    | trans _ _ ih1 ih2 => exact ih1.trans ih2
    | @arc p q hpq =>
      rcases List.mem_append.1 hpq with hp | hp
      · have := (h p q).2 (.arc hp)
        rw [h', h', this]
      · have e := List.mem_singleton.1 hp
        injection e with e1 e2
        obtain rfl : p = x := by omega
        obtain rfl : q = y := by omega
        exact hxy
theorem conn_nil {a b : Nat} : a = b ↔ Conn [] a b := by
  constructor
  · rintro rfl; exact .refl _
  · intro c
    induction c with
    | refl a => rfl
    | arc h => cases h
    | symm _ ih => exact ih.symm
    | trans _ _ ih1 ih2 => exact ih1.trans ih2
/- what Parts has found behind k arcs -/
structure Found (l : List (Int × Int)) (m : Nat) (up : List Int) : Prop where
  len : up.length = m
  dn : Dn up
  cls : ∀ a b, root (fn up) a = root (fn up) b ↔ Conn l a b
theorem found_zero (m : Nat) : Found [] m (idl m m) := by
  refine ⟨idl_len (Nat.le_refl _), idl_dn m, fun a b => ?_⟩
  have e : ∀ a, root (fn (idl m m)) a = a := fun a => root_at (by
    by_cases h : a < (idl m m).length
    · rw [fn_in h]
      rw [idl_len (Nat.le_refl _)] at h
      rw [idl_get (Nat.le_refl _) h, if_pos h]; simp
    · unfold fn; rw [if_neg h]; omega)
  rw [e, e]; exact conn_nil
theorem found_join {l : List (Int × Int)} {m : Nat} {up : List Int} (F : Found l m up) {x y : Nat} (hx : x < m) (hy : y < m) : Found (l ++ [((x : Int), (y : Int))]) m (joinP up ((x : Int), (y : Int))) := by
  unfold joinP
  dsimp only
  rw [Int.toNat_natCast, Int.toNat_natCast]
  obtain ⟨a1, a2, a3, a4, _⟩ := sm_root (x + 1) up x F.dn (by rw [F.len]; exact hx) (by omega)
  obtain ⟨b1, b2, b3, b4, _⟩ := sm_root (y + 1) (sm (x + 1) up x).1 y a3 (by rw [a2, F.len]; exact hy) (by omega)
  have er1 : (sm (x + 1) up x).2 = root (fn up) x := a1
  have er2 : (sm (y + 1) (sm (x + 1) up x).1 y).2 = root (fn up) y := by rw [b1, a4]
  have l2 : (sm (y + 1) (sm (x + 1) up x).1 y).1.length = m := by rw [b2, a2, F.len]
  have rr : ∀ w, root (fn (sm (y + 1) (sm (x + 1) up x).1 y).1) w = root (fn up) w := fun w => by rw [b4, a4]
  rw [er1, er2]
  generalize (sm (y + 1) (sm (x + 1) up x).1 y).1 = u2 at b3 l2 rr ⊢
  have hx1 := root_le (fn up) x; have hy1 := root_le (fn up) y
  have n1 : ¬ fn u2 (root (fn up) x) < root (fn up) x := by have := root_end (fn u2) x; rw [rr] at this; exact this
  have n2 : ¬ fn u2 (root (fn up) y) < root (fn up) y := by have := root_end (fn u2) y; rw [rr] at this; exact this
  have hlt : max (root (fn up) x) (root (fn up) y) < u2.length := by rw [l2]; omega
  refine ⟨by rw [List.length_set]; exact l2, b3.set ⟨by omega, by omega⟩, ?_⟩
  rw [fn_set hlt]
  have base : ∀ a b, root (fn u2) a = root (fn u2) b ↔ Conn l a b := fun a b => by rw [rr, rr]; exact F.cls a b
  by_cases e : root (fn up) x = root (fn up) y
  · have e1 : max (root (fn up) x) (root (fn up) y) = root (fn up) x := by omega
    have e2 : min (root (fn up) x) (root (fn up) y) = root (fn up) x := by omega
    rw [e1, e2]
    have ru := root_upd (u := fn u2) (v := root (fn up) x) (x := root (fn up) x) (Nat.le_refl _) rfl (fun _ => n1)
    refine conn_step (R := root (fn u2)) (mx := root (fn up) x) (mi := root (fn up) x) base (fun w => ?_) (Or.inl ⟨by rw [rr], by rw [rr, e]⟩)
    rw [ru]
    by_cases h : root (fn u2) w = root (fn up) x
    · rw [if_pos h, h]
    · rw [if_neg h]
  · by_cases hle : root (fn up) x < root (fn up) y
    · have e1 : max (root (fn up) x) (root (fn up) y) = root (fn up) y := by omega
      have e2 : min (root (fn up) x) (root (fn up) y) = root (fn up) x := by omega
      rw [e1, e2]
      exact conn_step (R := root (fn u2)) base (root_join n1 n2 hle) (Or.inr ⟨by rw [rr], by rw [rr]⟩)
    · have e1 : max (root (fn up) x) (root (fn up) y) = root (fn up) x := by omega
      have e2 : min (root (fn up) x) (root (fn up) y) = root (fn up) y := by omega
      rw [e1, e2]
      exact conn_step (R := root (fn u2)) base (root_join n2 n1 (by omega)) (Or.inl ⟨by rw [rr], by rw [rr]⟩)
theorem found_joins {l : List (Int × Int)} {m : Nat} (hb : ∀ j, j < l.length → ¬ bad (m : Int) (l.getD j (0, 0))) : ∀ k, k ≤ l.length → Found (l.take k) m (joins l k m) := by
  intro k
  induction k with
  | zero => intro _; exact found_zero m
  | succ k ih =>
    intro hk
    have F := ih (by omega)
    have nb := hb k (by omega)
    rw [joins_succ (by omega)]
    have et : l.take (k + 1) = l.take k ++ [l.getD k (0, 0)] := by rw [List.take_add_one, List.getElem?_eq_getElem (by omega), List.getD, List.getElem?_eq_getElem (by omega)]; rfl
    rw [et]
    generalize l.getD k (0, 0) = a at nb
    obtain ⟨xx, yy⟩ := a
    unfold bad at nb
    dsimp only at nb
    obtain ⟨x, rfl⟩ : ∃ x : Nat, xx = (x : Int) := ⟨xx.toNat, by omega⟩
    obtain ⟨y, rfl⟩ : ∃ y : Nat, yy = (y : Int) := ⟨yy.toNat, by omega⟩
    exact found_join F (by omega) (by omega)
/- the last loop: each leads straight to its root -/
theorem lasts_root {l : List (Int × Int)} {m : Nat} {up : List Int} (F : Found l m up) : ∀ t, t ≤ m → (lasts up t).length = m ∧ Dn (lasts up t) ∧ (∀ w, root (fn (lasts up t)) w = root (fn up) w) ∧ ∀ w, w < t → fn (lasts up t) w = root (fn up) w := by
  intro t
  induction t with
  | zero => intro _; exact ⟨F.len, F.dn, fun _ => rfl, fun w hw => absurd hw (by omega)⟩
  | succ t ih =>
    intro ht
    obtain ⟨i1, i2, i3, i4⟩ := ih (by omega)
    rw [lasts_succ]
    unfold lastP
    obtain ⟨a1, a2, a3, a4, a5⟩ := sm_root (t + 1) (lasts up t) t i2 (by rw [i1]; omega) (by omega)
    rw [a1, i3]
    generalize (sm (t + 1) (lasts up t) t).1 = u2 at a2 a3 a4 a5 ⊢
    have hl : t < u2.length := by rw [a2, i1]; omega
    have hr := root_le (fn up) t
    have rr : ∀ w, root (fn u2) w = root (fn up) w := fun w => by rw [a4, i3]
    have ru := root_upd (u := fn u2) (v := t) (x := root (fn up) t) hr (by rw [rr, rr, root_root]) (fun e => by
      have := root_end (fn u2) t; rw [rr, e] at this; exact this)
    refine ⟨by rw [List.length_set, a2, i1], a3.set ⟨by omega, by omega⟩, fun w => ?_, fun w hw => ?_⟩
    · rw [fn_set hl, ru, rr]
    · rw [fn_set hl]
      by_cases e : w = t
      · rw [e, upd_at]
      · rw [upd_ne e, a5 w (by rw [i4 w (by omega), i3])]; exact i4 w (by omega)
/- what Parts returns: for each vertex the least one of its part -/
structure Least2 (l : List (Int × Int)) (v r : Nat) : Prop where
  con : Conn l v r
  min : ∀ w, Conn l v w → r ≤ w
theorem Least2.unique {l : List (Int × Int)} {v r s : Nat} (h : Least2 l v r) (k : Least2 l v s) : r = s := by have := h.min s k.con; have := k.min r h.con; omega
theorem parts_least {l : List (Int × Int)} {m : Nat} (hb : ∀ j, j < l.length → ¬ bad (m : Int) (l.getD j (0, 0))) : (partsL l m).length = m ∧ ∀ v, v < m → ∃ r : Nat, (partsL l m).getD v 0 = (r : Int) ∧ Least2 l v r := by
  have F := found_joins hb l.length (Nat.le_refl _)
  rw [List.take_length] at F
  obtain ⟨h1, h2, h3, h4⟩ := lasts_root F m (Nat.le_refl _)
  refine ⟨h1, fun v hv => ⟨root (fn (joins l l.length m)) v, ?_, ?_, fun w hw => ?_⟩⟩
  · have e := fn_get h2 (v := v) (by rw [h1]; exact hv)
    rw [h4 v hv] at e
    exact e
  · exact (F.cls _ _).1 (root_root _ _).symm
  · rw [(F.cls v w).2 hw]; exact root_le _ _
end Go.Proofs.Ythfecllgkldgfaa
