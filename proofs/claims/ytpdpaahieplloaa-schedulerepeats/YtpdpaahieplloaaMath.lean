/- Plain mathematics of daily schedules: nothing of the program. -/
namespace Go.Proofs.Ytpdpaahieplloaa

abbrev Sp := Int × Int
def spanBad (c : Sp) : Prop := c.1 < 0 ∨ c.2 ≤ c.1 ∨ 1440 < c.2
instance (c : Sp) : Decidable (spanBad c) := by unfold spanBad; exact inferInstance
/- the first error of the spans behind a span that ends at 'last' -/
def chk : List Sp → Int → Int
  | [], _ => 0
  | c :: r, last => if spanBad c then 2 else if c.1 < last then 6 else chk r c.2
def timeBad (f e : Int) : Prop := e < 0 ∨ (e = 0 ∧ f ≠ 0) ∨ (0 < e ∧ (f < 0 ∨ 1439 < f))
instance (f e : Int) : Decidable (timeBad f e) := by unfold timeBad; exact inferInstance
def checkZ (cs : List Sp) (f e : Int) : Int := if 8 < cs.length then 5 else if chk cs 0 = 0 then (if timeBad f e then 19 else 0) else chk cs 0

theorem chk_cases (cs : List Sp) : ∀ last, chk cs last = 0 ∨ chk cs last = 2 ∨ chk cs last = 6 := by
  induction cs with
  | nil => intro l; left; rfl
  | cons c r ih =>
    intro l; unfold chk
    split
    · simp
    · split
      · simp
      · exact ih _

/- how the check goes on behind k good spans -/
def lastOf (cs : List Sp) (k : Nat) : Int := if k = 0 then 0 else (cs.getD (k - 1) (0, 0)).2
def ChkAt (cs : List Sp) (k : Nat) : Prop := chk cs 0 = chk (cs.drop k) (lastOf cs k) ∧ 0 ≤ lastOf cs k
theorem chkAt_zero (cs : List Sp) : ChkAt cs 0 := by simp [ChkAt, lastOf]
theorem drop_cons (cs : List Sp) (k : Nat) (h : k < cs.length) : cs.drop k = cs.getD k (0, 0) :: cs.drop (k + 1) := by
  rw [List.drop_eq_getElem_cons h]; simp [List.getD, h]
theorem chk_bad (cs : List Sp) (k : Nat) (h : ChkAt cs k) (hk : k < cs.length) (hb : spanBad (cs.getD k (0, 0))) : chk cs 0 = 2 := by
  rw [h.1, drop_cons cs k hk]; unfold chk; rw [if_pos hb]
theorem chk_order (cs : List Sp) (k : Nat) (h : ChkAt cs k) (hk : k < cs.length) (hb : ¬ spanBad (cs.getD k (0, 0))) (ho : (cs.getD k (0, 0)).1 < lastOf cs k) : chk cs 0 = 6 := by
  rw [h.1, drop_cons cs k hk]; unfold chk; rw [if_neg hb, if_pos ho]
theorem chk_step (cs : List Sp) (k : Nat) (h : ChkAt cs k) (hk : k < cs.length) (hb : ¬ spanBad (cs.getD k (0, 0))) (ho : ¬ (cs.getD k (0, 0)).1 < lastOf cs k) : ChkAt cs (k + 1) := by
  have e : lastOf cs (k + 1) = (cs.getD k (0, 0)).2 := by unfold lastOf; rw [if_neg (by omega)]; rfl
  refine ⟨?_, ?_⟩
  · rw [h.1, drop_cons cs k hk, e]
    conv => lhs; unfold chk
    rw [if_neg hb, if_neg ho]
  · rw [e]; unfold spanBad at hb; omega
theorem chk_end (cs : List Sp) (h : ChkAt cs cs.length) : chk cs 0 = 0 := by
  rw [h.1]; simp [chk]

/- the spans of a valid schedule are in order -/
theorem chk_sorted (cs : List Sp) : ∀ last, 0 ≤ last → chk cs last = 0 → ∀ c ∈ cs, last ≤ c.1 ∧ c.1 < c.2 ∧ c.2 ≤ 1440 := by
  induction cs with
  | nil => intro _ _ _ c hc; cases hc
  | cons d r ih =>
    intro last hl h c hc
    unfold chk at h
    split at h
    · omega
    · rename_i hb
      unfold spanBad at hb
      split at h
      · omega
      · rcases List.mem_cons.1 hc with rfl | hc
        · omega
        · have := ih d.2 (by omega) h c hc
          omega

/- whether a minute of the day lies in a span -/
def closedAt (cs : List Sp) (m : Int) : Bool := cs.any fun c => decide (c.1 ≤ m) && decide (m < c.2)
def timeAt (f e m : Int) : Bool := decide (e = 0) || (decide (f ≤ m) && decide ((m - f) % e = 0))
def minuteZ (cs : List Sp) (f e m : Int) : Bool := !closedAt cs m && timeAt f e m

/- the search stops where a span begins later: no later one holds the minute -/
theorem closed_stop (cs : List Sp) : ∀ (k : Nat) (last m : Int), 0 ≤ last → chk cs last = 0 → k < cs.length → (∀ j, j < k → (cs.getD j (0, 0)).2 ≤ m) → m < (cs.getD k (0, 0)).1 → closedAt cs m = false := by
  induction cs with
  | nil => intro k _ _ _ _ hk; simp at hk
  | cons d r ih =>
    intro k last m hl h hk hb hm
    have hs := chk_sorted (d :: r) last hl h
    have h' := h
    unfold chk at h'
    split at h'
    · omega
    · split at h'
      · omega
      · rename_i nb _
        unfold spanBad at nb
        unfold closedAt
        rw [List.any_cons]
        cases k with
        | zero =>
          simp at hm
          have hr : closedAt r m = false := by
            unfold closedAt
            rw [List.any_eq_false]
            intro c hc
            have := chk_sorted r d.2 (by omega) h' c hc
            simp; omega
          unfold closedAt at hr
          rw [hr]; simp; omega
        | succ k =>
          have h0 := hb 0 (by omega)
          simp at h0
          have hr := ih k d.2 m (by omega) h' (by simpa using hk) (fun j hj => by have := hb (j + 1) (by omega); simpa using this) (by simpa using hm)
          unfold closedAt at hr
          rw [hr]; simp; omega
theorem closed_none (cs : List Sp) (m : Int) (hb : ∀ j, j < cs.length → ¬ ((cs.getD j (0, 0)).1 ≤ m ∧ m < (cs.getD j (0, 0)).2)) : closedAt cs m = false := by
  unfold closedAt
  rw [List.any_eq_false]
  intro c hc
  obtain ⟨j, hj, rfl⟩ := List.getElem_of_mem hc
  have := hb j hj
  simp only [List.getD, List.getElem?_eq_getElem hj, Option.getD_some] at this
  simp; omega
theorem closed_some (cs : List Sp) (m : Int) (j : Nat) (hj : j < cs.length) (h : (cs.getD j (0, 0)).1 ≤ m) (h2 : m < (cs.getD j (0, 0)).2) : closedAt cs m = true := by
  unfold closedAt
  rw [List.any_eq_true]
  simp only [List.getD, List.getElem?_eq_getElem hj, Option.getD_some] at h h2
  exact ⟨cs[j], List.getElem_mem hj, by simp [h, h2]⟩

/- the first open minute from t on: what Next answers -/
def opens (cs : List Sp) (f e : Int) (t : Int) (i : Nat) : Bool := minuteZ cs f e ((t + i) % 1440)
def top0 (t : Int) : Int := if t < 0 then 0 else t
def IsNext (cs : List Sp) (f e t a : Int) (o : Bool) : Prop :=
  (o = false ∧ a = 0 ∧ (checkZ cs f e ≠ 0 ∨ 1152921504606846976 < t ∨ ∀ i : Nat, i < 1440 → opens cs f e (top0 t) i = false)) ∨
  (o = true ∧ checkZ cs f e = 0 ∧ t ≤ 1152921504606846976 ∧ ∃ i : Nat, i < 1440 ∧ a = top0 t + i ∧ opens cs f e (top0 t) i = true ∧ ∀ j : Nat, j < i → opens cs f e (top0 t) j = false)
theorem next_unique {cs : List Sp} {f e t a a' : Int} {o o' : Bool} (h : IsNext cs f e t a o) (k : IsNext cs f e t a' o') : a = a' ∧ o = o' := by
  rcases h with ⟨ho, ha, h⟩ | ⟨ho, hc, ht, i, hi, ha, hp, hm⟩ <;> rcases k with ⟨ko, ka, k⟩ | ⟨ko, kc, kt, i', ki, ka, kp, km⟩
  · exact ⟨ha.trans ka.symm, ho.trans ko.symm⟩
  · exfalso
    rcases h with h | h | h
    · exact h kc
    · omega
    · rw [h i' ki] at kp; cases kp
  · exfalso
    rcases k with k | k | k
    · exact k hc
    · omega
    · rw [k i hi] at hp; cases hp
  · have : i = i' := by
      by_cases h1 : i < i'
      · rw [km i h1] at hp; cases hp
      · by_cases h2 : i' < i
        · rw [hm i' h2] at kp; cases kp
        · omega
    subst this
    exact ⟨ha.trans ka.symm, ho.trans ko.symm⟩
def openZ (cs : List Sp) (f e t : Int) : Bool := decide (checkZ cs f e = 0) && decide (0 ≤ t) && minuteZ cs f e (t % 1440)
def freeZ (cs : List Sp) (f e : Int) : Bool := decide (checkZ cs f e = 0) && (List.range 1440).all fun m => minuteZ cs f e m

/- residues: every minute of the day comes once in a day's minutes -/
theorem residue (t u : Int) (i : Nat) (_ht : 0 ≤ t) (_hu : 0 ≤ u) (_hi : i < 1440) : ∃ j : Nat, j < 1440 ∧ (u + j) % 1440 = (t + i) % 1440 := by
  refine ⟨((t + i - u) % 1440).toNat, by omega, by omega⟩
theorem next_none_iff {cs : List Sp} {f e t u a b : Int} (ht : 0 ≤ t) (hu : 0 ≤ u) (t2 : t ≤ 1152921504606846976) (u2 : u ≤ 1152921504606846976) (h : IsNext cs f e t a false) (k : IsNext cs f e u b true) : False := by
  rcases h with ⟨_, _, h⟩ | ⟨ho, _⟩
  · rcases k with ⟨ko, _⟩ | ⟨_, kc, _, i, ki, _, kp, _⟩
    · cases ko
    · rcases h with h | h | h
      · exact h kc
      · omega
      · obtain ⟨j, hj, e'⟩ := residue u t i hu ht ki
        have := h j hj
        unfold opens top0 at this kp
        rw [if_neg (by omega)] at this kp
        rw [e', kp] at this; cases this
  · cases ho
end Go.Proofs.Ytpdpaahieplloaa
