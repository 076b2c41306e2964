/- pq: what Set, Drop and Pop do to the items, as mathematics. -/
import Derived.Test.YtgofachgoflgnaaPg
namespace Go.Proofs.Ytgofachgoflgnaa

theorem getD_setB (l : List Bool) (i k : Nat) (x : Bool) (hi : i < l.length) : (l.set i x).getD k false = if i = k then x else l.getD k false := by
  by_cases e : i = k
  · subst e; rw [if_pos rfl, List.getD, List.getElem?_set_self hi]; rfl
  · rw [if_neg e, List.getD, List.getElem?_set_ne e]; rfl
theorem count_on : ∀ (l : List Bool) (i : Nat), i < l.length → l.getD i false = false → (l.set i true).count true = l.count true + 1
  | b :: l, 0, _, h => by
    have : b = false := h
    subst this
    simp
  | b :: l, i + 1, hi, h => by
    have ih := count_on l i (by simpa using hi) (by simpa using h)
    rw [List.set_cons_succ, List.count_cons, List.count_cons, ih]; omega
theorem count_off : ∀ (l : List Bool) (i : Nat), i < l.length → l.getD i false = true → (l.set i false).count true + 1 = l.count true
  | b :: l, 0, _, h => by
    have : b = true := h
    subst this
    simp
  | b :: l, i + 1, hi, h => by
    have ih := count_off l i (by simpa using hi) (by simpa using h)
    rw [List.set_cons_succ, List.count_cons, List.count_cons, ← ih]; omega
theorem set_same_true (l : List Bool) (i : Nat) (h : l.getD i false = true) : l.set i true = l := by
  apply List.ext_getElem?
  intro k
  by_cases e : i = k
  · subst e
    by_cases hi : i < l.length
    · rw [List.getElem?_set_self hi]
      rw [List.getD, List.getElem?_eq_getElem hi] at h
      rw [List.getElem?_eq_getElem hi]; simp at h; rw [h]
    · rw [List.getElem?_eq_none (by simp; omega), List.getElem?_eq_none (by omega)]
  · rw [List.getElem?_set_ne e]
theorem Pre.le {ins : List Bool} {hs ps : List Int} (p : Pre ins hs ps) : hs.length ≤ 1048576 := by
  have a := p.cnt; have b := p.len; have c := p.most
  have d : ins.count true ≤ ins.length := List.count_le_length
  omega
theorem Pre.same {ins : List Bool} {hs ps hs' ps' : List Int} (p : Pre ins hs ps) (s : Same hs ps hs' ps') (c : Cons hs' ps') : Pre ins hs' ps' :=
  ⟨c, by rw [s.plen]; exact p.len, fun X hX => by rw [s.plen] at hX; rw [p.inp X hX]; exact (not_congr (s.out X hX)).symm,
    fun X hX h => by
      rw [s.plen] at hX
      exact (s.mem X).2 (p.at_ X hX (fun e => h ((s.out X hX).2 e))), by rw [s.len]; exact p.cnt, by rw [s.plen]; exact p.most⟩
/- an item of the queue, its place -/
theorem Pre.place {ins : List Bool} {hs ps : List Int} (p : Pre ins hs ps) {X : Nat} (hX : X < ps.length) (hn : ps.getD X 0 ≠ -1) : ∃ i, i < hs.length ∧ hs.getD i 0 = (X : Int) ∧ ps.getD X 0 = (i : Int) ∧ hf hs i = X := by
  obtain ⟨i, hi, e⟩ := p.at_ X hX hn
  obtain ⟨a, b, c⟩ := item_of p.c hi
  have : hf hs i = X := by omega
  rw [this] at c
  exact ⟨i, hi, e, c, this⟩
theorem hf_ne {hs ps : List Int} (c : Cons hs ps) {i a X : Nat} (hi : i < hs.length) (ha : a < hs.length) (hX : hs.getD i 0 = (X : Int)) (hne : a ≠ i) : hf hs a ≠ X := by
  intro e
  have := (item_of c ha).1
  exact hne (cons_inj c ha hi (by omega))
theorem up_key {ins : List Bool} {hs ks ps : List Int} (v : Inv ins hs ks ps) (kl : ks.length = ps.length) {X i : Nat} (hX : X < ps.length) (hi : i < hs.length) (hx : hs.getD i 0 = (X : Int)) (y : Int) : Up (leK (ks.set X y)) (hf hs) hs.length i :=
  up_of_heap (leK_ord ks) v.hp (Or.inl (Nat.le_refl _)) (fun _ _ ha hb la lb h => (leK_set (by omega) (hf_ne v.c hi la hx ha) (hf_ne v.c hi lb hx hb)).2 h)
theorem getD_snoc (hs : List Int) (x : Int) (k : Nat) : (hs ++ [x]).getD k 0 = if k < hs.length then hs.getD k 0 else if k = hs.length then x else 0 := by
  rw [List.getD, List.getElem?_append]
  by_cases h : k < hs.length
  · rw [if_pos h, if_pos h]; rfl
  · rw [if_neg h, if_neg h]
    by_cases e : k = hs.length
    · subst e; simp
    · rw [if_neg e, List.getElem?_eq_none (by simp; omega)]; rfl
theorem hf_snoc {hs : List Int} {X k : Nat} (h : k < hs.length) : hf (hs ++ [(X : Int)]) k = hf hs k := by unfold hf; rw [getD_snoc, if_pos h]
/- a new item, at the end -/
theorem new_pre {ins : List Bool} {hs ps : List Int} (p : Pre ins hs ps) {X : Nat} (hX : X < ps.length) (hn : ps.getD X 0 = -1) : Pre (ins.set X true) (hs ++ [(X : Int)]) (ps.set X (hs.length : Int)) := by
  have hXi : X < ins.length := by rw [p.len]; exact hX
  have g2 : ∀ k, (ps.set X (hs.length : Int)).getD k 0 = if X = k then (hs.length : Int) else ps.getD k 0 := fun k => getD_set _ _ _ _ hX
  refine ⟨fun i hi => ?_, by simp [p.len], fun Z hZ => ?_, fun Z hZ h => ?_, ?_, by simp [p.most]⟩
  · rw [List.length_append] at hi
    rw [List.length_set]
    by_cases h : i < hs.length
    · obtain ⟨a, b, c⟩ := item_of p.c h
      refine ⟨hf hs i, by rw [getD_snoc, if_pos h]; exact a, b, ?_⟩
      have : X ≠ hf hs i := fun e => by rw [← e] at c; omega
      rw [g2, if_neg this]; exact c
    · have e : i = hs.length := by simp at hi; omega
      subst e
      exact ⟨X, by rw [getD_snoc, if_neg h, if_pos rfl], hX, by rw [g2, if_pos rfl]⟩
  · rw [List.length_set] at hZ
    rw [g2, getD_setB _ _ _ _ hXi]
    by_cases e : X = Z
    · rw [if_pos e, if_pos e]; simp
    · rw [if_neg e, if_neg e]; exact p.inp Z hZ
  · rw [List.length_set] at hZ
    rw [g2] at h
    rw [List.length_append]
    by_cases e : X = Z
    · subst e
      exact ⟨hs.length, by simp, by rw [getD_snoc, if_neg (by omega), if_pos rfl]⟩
    · rw [if_neg e] at h
      obtain ⟨i, hi, ei⟩ := p.at_ Z hZ h
      exact ⟨i, by omega, by rw [getD_snoc, if_pos hi]; exact ei⟩
  · have h0 : ins.getD X false = false := by
      have := p.inp X hX
      cases hb : ins.getD X false
      · rfl
      · rw [hb] at this; exact absurd hn (this.1 rfl)
    rw [List.length_append, count_on ins X hXi h0, ← p.cnt]; rfl
theorem new_up {ins : List Bool} {hs ks ps : List Int} (v : Inv ins hs ks ps) (kl : ks.length = ps.length) {X : Nat} (hX : X < ps.length) (hn : ps.getD X 0 = -1) (y : Int) : Up (leK (ks.set X y)) (hf (hs ++ [(X : Int)])) (hs.length + 1) hs.length := by
  have ne : ∀ a, a < hs.length → hf hs a ≠ X := fun a ha e => by
    obtain ⟨_, _, c⟩ := item_of v.c ha
    rw [e] at c; omega
  refine up_of_heap (leK_ord ks) v.hp (Or.inr ⟨rfl, rfl⟩) (fun a b ha hb la lb h => ?_)
  rw [hf_snoc (by omega), hf_snoc (by omega)]
  exact (leK_set (by omega) (ne a (by omega)) (ne b (by omega))).2 h
/- an item taken away: swapped with the last one, which is then cut off -/
theorem drop_pre {ins : List Bool} {hs ps hs1 ps1 : List Int} (p : Pre ins hs ps) {X i : Nat} (hX : X < ps.length) (hi : i < hs.length) (hx : hf hs i = X) (hin : ins.getD X false = true)
    (s : Same hs ps hs1 ps1) (c : Cons hs1 ps1) (hw : hf hs1 = swp (hf hs) i (hs.length - 1)) : Pre (ins.set X false) hs1.dropLast (ps1.set X (-1)) := by
  have hXi : X < ins.length := by rw [p.len]; exact hX
  have hX1 : X < ps1.length := by rw [s.plen]; exact hX
  have g2 : ∀ k, (ps1.set X (-1)).getD k 0 = if X = k then (-1 : Int) else ps1.getD k 0 := fun k => getD_set _ _ _ _ hX1
  have hl1 : hs1.length = hs.length := s.len
  have last : hf hs1 (hs.length - 1) = X := by rw [hw, swp_r]; exact hx
  have p1 := p.same s c
  have lastI : hs1.getD (hs.length - 1) 0 = (X : Int) := by
    have := (item_of c (i := hs.length - 1) (by omega)).1
    rw [last] at this; exact this
  refine ⟨fun k hk => ?_, by simp [p1.len], fun Z hZ => ?_, fun Z hZ h => ?_, ?_, by simp [p1.most]⟩
  · rw [List.length_dropLast] at hk
    rw [getD_dropLast _ hk, List.length_set]
    obtain ⟨a, b, d⟩ := item_of c (i := k) (by omega)
    refine ⟨hf hs1 k, a, b, ?_⟩
    have : X ≠ hf hs1 k := fun e => hf_ne c (i := hs.length - 1) (a := k) (by omega) (by omega) lastI (by omega) e.symm
    rw [g2, if_neg this]; exact d
  · rw [List.length_set] at hZ
    rw [g2, getD_setB _ _ _ _ hXi]
    by_cases e : X = Z
    · rw [if_pos e, if_pos e]; simp
    · rw [if_neg e, if_neg e]; exact p1.inp Z hZ
  · rw [List.length_set] at hZ
    rw [g2] at h
    by_cases e : X = Z
    · rw [if_pos e] at h; exact absurd rfl h
    · rw [if_neg e] at h
      obtain ⟨k, hk, ek⟩ := p1.at_ Z hZ h
      have : k ≠ hs.length - 1 := fun e2 => by rw [e2, lastI] at ek; omega
      rw [List.length_dropLast]
      exact ⟨k, by omega, by rw [getD_dropLast _ (by omega)]; exact ek⟩
  · have := count_off ins X hXi hin
    have := p.cnt
    rw [List.length_dropLast]; omega
theorem hf_drop {hs1 : List Int} {k : Nat} (h : k < hs1.length - 1) : hf hs1.dropLast k = hf hs1 k := by unfold hf; rw [getD_dropLast _ h]
theorem drop_up {hs ks hs1 : List Int} (H : Heap (leK ks) (hf hs) hs.length) {i : Nat} (hl : hs1.length = hs.length) (hw : hf hs1 = swp (hf hs) i (hs.length - 1)) : Up (leK ks) (hf hs1.dropLast) hs1.dropLast.length i := by
  rw [List.length_dropLast]
  refine up_of_heap (leK_ord ks) H (Or.inl (by omega)) (fun a b ha hb la lb h => ?_)
  rw [hf_drop la, hf_drop lb, hw, swp_o _ ha (by omega), swp_o _ hb (by omega)]
  exact h
theorem drop_heap {hs ks hs1 : List Int} (H : Heap (leK ks) (hf hs) hs.length) (hl : hs1.length = hs.length) (hw : hf hs1 = swp (hf hs) (hs.length - 1) (hs.length - 1)) : Heap (leK ks) (hf hs1.dropLast) hs1.dropLast.length := by
  rw [List.length_dropLast]
  intro k k0 km
  have pk := par_lt k0
  rw [hf_drop (by omega), hf_drop km, hw, swp_o _ (by omega) (by omega), swp_o _ (by omega) (by omega)]
  exact H k k0 (by omega)
/- the first of a heap is the least -/
theorem inv_min {ins : List Bool} {hs ks ps : List Int} (v : Inv ins hs ks ps) : ∀ Z, Z < ins.length → ins.getD Z false = true → leK ks (hf hs 0) Z := by
  intro Z hZ h
  rw [v.len] at hZ
  obtain ⟨i, hi, _, _, e⟩ := v.toPre.place hZ ((v.inp Z hZ).1 h)
  rw [← e]
  exact heap_min (leK_ord ks) v.hp i hi
end Go.Proofs.Ytgofachgoflgnaa
