/- dijkstra: the search as mathematics. -/
import Derived.Test.YtgofachgoflgnaaDa
namespace Go.Proofs.Ytgofachgoflgnaa

structure DS where
  d : List Int
  la : List Int
  ins : List Bool
  ks : List Int
def rlx (ars : List (Int × Int)) (ws : List Int) (i : Nat) (c : Int) (st : DS) : DS :=
  if ws.getD i 0 ≠ -1 ∧ c + ws.getD i 0 < st.d.getD (ars.getD i (0, 0)).2.toNat 0 then
    ⟨st.d.set (ars.getD i (0, 0)).2.toNat (c + ws.getD i 0), st.la.set (ars.getD i (0, 0)).2.toNat (i : Int), st.ins.set (ars.getD i (0, 0)).2.toNat true, st.ks.set (ars.getD i (0, 0)).2.toNat (c + ws.getD i 0)⟩
  else st
theorem getD_setBB (l : List Bool) (i k : Nat) (x : Bool) (hi : i < l.length) : (l.set i x).getD k false = if i = k then x else l.getD k false := by
  by_cases e : i = k
  · subst e; rw [if_pos rfl, List.getD, List.getElem?_set_self hi]; rfl
  · rw [if_neg e, List.getD, List.getElem?_set_ne e]; rfl
/- how a vertex was reached: from one that is done -/
def Via (ars : List (Int × Int)) (ws : List Int) (s : Nat) (d la : List Int) (ps : List Nat) (rk : Nat → Nat) (v : Nat) : Prop :=
  (v = s ∧ la.getD v 0 = -1) ∨ (v ≠ s ∧ ∃ i u : Nat, la.getD v 0 = (i : Int) ∧ i < ars.length ∧ ars.getD i (0, 0) = ((u : Int), (v : Int)) ∧ 0 ≤ ws.getD i 0 ∧ u ∈ ps ∧ d.getD v 0 = d.getD u 0 + ws.getD i 0 ∧ (v ∈ ps → rk u < rk v))
structure Dj (ars : List (Int × Int)) (ws : List Int) (m s : Nat) (st : DS) (ps : List Nat) (K : Int) (rk : Nat → Nat) (T : Nat → Prop) : Prop where
  rx : Rx ars ws m s st.d
  ll : st.la.length = m
  il : st.ins.length = m
  kl : st.ks.length = m
  nd : ps.Nodup
  pm : ∀ v ∈ ps, v < m ∧ st.d.getD v 0 < INF ∧ st.d.getD v 0 ≤ K ∧ rk v < ps.length
  q : ∀ v, v < m → (st.ins.getD v false = true ↔ (st.d.getD v 0 < INF ∧ v ∉ ps))
  ky : ∀ v, v < m → st.ins.getD v false = true → st.ks.getD v 0 = st.d.getD v 0 ∧ K ≤ st.d.getD v 0
  ti : ∀ i, i < ars.length → T i → (∀ u v : Nat, ars.getD i (0, 0) = ((u : Int), (v : Int)) → u ∈ ps) ∧ Tight ars ws st.d i
  via : ∀ v, v < m → st.d.getD v 0 < INF → Via ars ws s st.d st.la ps rk v
def st0 (m s : Nat) (ks : List Int) : DS := ⟨start m s, List.replicate m (-1), (List.replicate m false).set s true, ks.set s 0⟩
theorem dj_start {ars : List (Int × Int)} {ws : List Int} {m s : Nat} {ks : List Int} (hs : s < m) (hk : ks.length = m) : Dj ars ws m s (st0 m s ks) [] 0 (fun _ => 0) (fun _ => False) := by
  have hb : ∀ v, v < m → (st0 m s ks).ins.getD v false = decide (s = v) := fun v hv => by
    unfold st0
    dsimp only
    rw [getD_setBB _ _ _ _ (by simpa using hs)]
    by_cases e : s = v
    · rw [if_pos e]; simp [e]
    · rw [if_neg e, List.getD, List.getElem?_replicate, if_pos hv]; simp [e]
  have hd : ∀ v, v < m → (st0 m s ks).d.getD v 0 = if s = v then 0 else INF := fun v hv => start_get hs hv
  refine ⟨rx_start hs, by simp [st0], by simp [st0], by simp [st0, hk], List.nodup_nil, fun v hv => (List.not_mem_nil hv).elim, fun v hv => ?_, fun v hv h => ?_, fun i _ h => h.elim, fun v hv h => ?_⟩
  · rw [hb v hv, hd v hv]
    by_cases e : s = v
    · rw [if_pos e]; simp [e, INF]
    · rw [if_neg e]; simp [e]
  · rw [hb v hv] at h
    have e : s = v := of_decide_eq_true h
    subst e
    rw [hd s hv, if_pos rfl]
    refine ⟨?_, Int.le_refl _⟩
    unfold st0
    dsimp only
    rw [getD_set2 _ _ _ _ (by rw [hk]; exact hs), if_pos rfl]
  · rw [hd v hv] at h
    by_cases e : s = v
    · refine Or.inl ⟨e.symm, ?_⟩
      unfold st0
      dsimp only
      rw [List.getD, List.getElem?_replicate, if_pos hv]; rfl
    · rw [if_neg e] at h; exact absurd h (Int.lt_irrefl _)
theorem dj_pop {ars : List (Int × Int)} {ws : List Int} {m s : Nat} {st : DS} {ps : List Nat} {K : Int} {rk : Nat → Nat} {T : Nat → Prop} (D : Dj ars ws m s st ps K rk T) {X : Nat} (hX : X < m) (hin : st.ins.getD X false = true)
    (least : ∀ v, v < m → st.ins.getD v false = true → st.ks.getD X 0 ≤ st.ks.getD v 0) :
    Dj ars ws m s ⟨st.d, st.la, st.ins.set X false, st.ks⟩ (ps ++ [X]) (st.d.getD X 0) (fun v => if v = X then ps.length else rk v) T := by
  obtain ⟨hX1, hX2⟩ := (D.q X hX).1 hin
  obtain ⟨k1, k2⟩ := D.ky X hX hin
  have hXi : X < st.ins.length := by rw [D.il]; exact hX
  refine ⟨D.rx, D.ll, by show (st.ins.set X false).length = m; rw [List.length_set]; exact D.il, D.kl, ?_, fun v hv => ?_, fun v hv => ?_, fun v hv h => ?_, fun i hi h => ?_, fun v hv h => ?_⟩
  · rw [List.nodup_append]
    refine ⟨D.nd, by simp, fun a ha b hb => ?_⟩
    rw [List.mem_singleton] at hb
    intro e; subst e hb; exact hX2 ha
  · rw [List.mem_append, List.mem_singleton] at hv
    rcases hv with hv | rfl
    · obtain ⟨p1, p2, p3, p4⟩ := D.pm v hv
      have hne : v ≠ X := fun e => hX2 (e ▸ hv)
      refine ⟨p1, p2, by show st.d.getD v 0 ≤ st.d.getD X 0; omega, ?_⟩
      rw [if_neg hne, List.length_append]; simp only [List.length_cons, List.length_nil]; omega
    · refine ⟨hX, hX1, Int.le_refl _, ?_⟩
      rw [if_pos rfl, List.length_append]; simp only [List.length_cons, List.length_nil]; omega
  · show (st.ins.set X false).getD v false = true ↔ _
    rw [getD_setBB _ _ _ _ hXi, List.mem_append, List.mem_singleton]
    by_cases e : X = v
    · rw [if_pos e]
      constructor
      · intro h; cases h
      · rintro ⟨_, h⟩; exact absurd (Or.inr e.symm) h
    · rw [if_neg e, D.q v hv]
      constructor
      · rintro ⟨h1, h2⟩
        refine ⟨h1, fun h => ?_⟩
        rcases h with h | h
        · exact h2 h
        · exact e h.symm
      · rintro ⟨h1, h2⟩; exact ⟨h1, fun h => h2 (Or.inl h)⟩
  · have h' : (st.ins.set X false).getD v false = true := h
    rw [getD_setBB _ _ _ _ hXi] at h'
    by_cases e : X = v
    · rw [if_pos e] at h'; cases h'
    · rw [if_neg e] at h'
      obtain ⟨a1, a2⟩ := D.ky v hv h'
      refine ⟨a1, ?_⟩
      have := least v hv h'
      show st.d.getD X 0 ≤ st.d.getD v 0
      omega
  · obtain ⟨h1, h2⟩ := D.ti i hi h
    exact ⟨fun u v e => List.mem_append_left _ (h1 u v e), h2⟩
  · rcases D.via v hv h with h1 | ⟨h1, i, u, e1, e2, e3, e4, e5, e6, e7⟩
    · exact Or.inl h1
    · refine Or.inr ⟨h1, i, u, e1, e2, e3, e4, List.mem_append_left _ e5, e6, fun hv2 => ?_⟩
      have hu : u ≠ X := fun e => hX2 (e ▸ e5)
      show (if u = X then ps.length else rk u) < (if v = X then ps.length else rk v)
      rw [if_neg hu]
      rw [List.mem_append, List.mem_singleton] at hv2
      by_cases e : v = X
      · rw [if_pos e]; exact (D.pm u e5).2.2.2
      · rw [if_neg e]
        rcases hv2 with h3 | h3
        · exact e7 h3
        · exact absurd h3 e
theorem dj_relax {ars : List (Int × Int)} {ws : List Int} {m s : Nat} {st : DS} {ps : List Nat} {X : Nat} {rk : Nat → Nat} {T : Nat → Prop} (D : Dj ars ws m s st ps (st.d.getD X 0) rk T) (hX : X ∈ ps) {i v : Nat} (hi : i < ars.length) (e : ars.getD i (0, 0) = ((X : Int), (v : Int))) (hv : v < m) (hw : -1 ≤ ws.getD i 0) :
    Dj ars ws m s (rlx ars ws i (st.d.getD X 0) st) ps ((rlx ars ws i (st.d.getD X 0) st).d.getD X 0) rk (fun k => T k ∨ k = i) ∧ (rlx ars ws i (st.d.getD X 0) st).d.getD X 0 = st.d.getD X 0 := by
  obtain ⟨x1, x2, x3, x4⟩ := D.pm X hX
  have ev : (ars.getD i (0, 0)).2.toNat = v := by rw [e]; exact Int.toNat_natCast v
  unfold rlx
  rw [ev]
  by_cases hc : ws.getD i 0 ≠ -1 ∧ st.d.getD X 0 + ws.getD i 0 < st.d.getD v 0
  · rw [if_pos hc]
    obtain ⟨c1, c2⟩ := hc
    have hw0 : 0 ≤ ws.getD i 0 := by omega
    have hvp : v ∉ ps := fun h => by have := (D.pm v h).2.2.1; omega
    have hvX : v ≠ X := fun h => hvp (h ▸ hX)
    have hvd : v < st.d.length := by rw [D.rx.len]; exact hv
    have hvl : v < st.la.length := by rw [D.ll]; exact hv
    have hvi : v < st.ins.length := by rw [D.il]; exact hv
    have hvk : v < st.ks.length := by rw [D.kl]; exact hv
    have hs : v ≠ s := fun h => by have h1 := D.rx.zero; have h2 := D.rx.nonneg x1; rw [h] at c2; omega
    have hdX : (st.d.set v (st.d.getD X 0 + ws.getD i 0)).getD X 0 = st.d.getD X 0 := by rw [getD_set2 _ _ _ _ hvd, if_neg hvX]
    have htop := D.rx.top v hv
    refine ⟨?_, hdX⟩
    show Dj ars ws m s _ ps ((st.d.set v (st.d.getD X 0 + ws.getD i 0)).getD X 0) rk _
    rw [hdX]
    refine ⟨D.rx.relax hi e x1 hv hw0 x2 c2, by show (st.la.set v (i : Int)).length = m; rw [List.length_set]; exact D.ll, by show (st.ins.set v true).length = m; rw [List.length_set]; exact D.il, by show (st.ks.set v _).length = m; rw [List.length_set]; exact D.kl, D.nd, fun x hx => ?_, fun x hx => ?_, fun x hx h => ?_, fun k hk h => ?_, fun x hx h => ?_⟩
    · have hne : v ≠ x := fun h => hvp (h ▸ hx)
      show x < m ∧ (st.d.set v _).getD x 0 < INF ∧ (st.d.set v _).getD x 0 ≤ _ ∧ _
      rw [getD_set2 _ _ _ _ hvd, if_neg hne]
      exact D.pm x hx
    · show (st.ins.set v true).getD x false = true ↔ ((st.d.set v _).getD x 0 < INF ∧ _)
      rw [getD_setBB _ _ _ _ hvi, getD_set2 _ _ _ _ hvd]
      by_cases k : v = x
      · subst k
        rw [if_pos rfl, if_pos rfl]
        exact ⟨fun _ => ⟨by omega, hvp⟩, fun _ => rfl⟩
      · rw [if_neg k, if_neg k]; exact D.q x hx
    · have h' : (st.ins.set v true).getD x false = true := h
      show (st.ks.set v _).getD x 0 = (st.d.set v _).getD x 0 ∧ _ ≤ (st.d.set v _).getD x 0
      rw [getD_setBB _ _ _ _ hvi] at h'
      rw [getD_set2 _ _ _ _ hvk, getD_set2 _ _ _ _ hvd]
      by_cases k : v = x
      · rw [if_pos k, if_pos k]; exact ⟨rfl, by omega⟩
      · rw [if_neg k] at h'
        rw [if_neg k, if_neg k]; exact D.ky x hx h'
    · rcases h with h | rfl
      · obtain ⟨h1, h2⟩ := D.ti k hk h
        refine ⟨h1, fun hwk u y euy hlt => ?_⟩
        have hu : u ∈ ps := h1 u y euy
        have hne : v ≠ u := fun h => hvp (h ▸ hu)
        have hlt' : (st.d.set v (st.d.getD X 0 + ws.getD i 0)).getD u 0 < INF := hlt
        show (st.d.set v _).getD y 0 ≤ (st.d.set v _).getD u 0 + _
        rw [getD_set2 _ _ _ _ hvd, if_neg hne] at hlt'
        rw [getD_set2 _ _ _ _ hvd, getD_set2 _ _ _ _ hvd, if_neg hne]
        have := h2 hwk u y euy hlt'
        by_cases k2 : v = y
        · rw [if_pos k2]; rw [k2] at c2; omega
        · rw [if_neg k2]; exact this
      · refine ⟨fun u y euy => ?_, fun _ u y euy _ => ?_⟩
        · rw [e] at euy; injection euy with e1 e2
          have : X = u := by omega
          exact this ▸ hX
        · rw [e] at euy; injection euy with e1 e2
          obtain rfl : X = u := by omega
          obtain rfl : v = y := by omega
          show (st.d.set v _).getD v 0 ≤ (st.d.set v _).getD X 0 + _
          rw [getD_set2 _ _ _ _ hvd, getD_set2 _ _ _ _ hvd, if_pos rfl, if_neg hvX]; exact Int.le_refl _
    · show Via ars ws s (st.d.set v _) (st.la.set v (i : Int)) ps rk x
      by_cases k : v = x
      · subst k
        refine Or.inr ⟨hs, i, X, by rw [getD_set2 _ _ _ _ hvl, if_pos rfl], hi, e, hw0, hX, by rw [getD_set2 _ _ _ _ hvd, getD_set2 _ _ _ _ hvd, if_pos rfl, if_neg hvX], fun h => absurd h hvp⟩
      · have h' : (st.d.set v (st.d.getD X 0 + ws.getD i 0)).getD x 0 < INF := h
        rw [getD_set2 _ _ _ _ hvd, if_neg k] at h'
        rcases D.via x hx h' with h1 | ⟨h1, j, u, e1, e2, e3, e4, e5, e6, e7⟩
        · exact Or.inl ⟨h1.1, by rw [getD_set2 _ _ _ _ hvl, if_neg k]; exact h1.2⟩
        · have hne : v ≠ u := fun h => hvp (h ▸ e5)
          exact Or.inr ⟨h1, j, u, by rw [getD_set2 _ _ _ _ hvl, if_neg k]; exact e1, e2, e3, e4, e5, by rw [getD_set2 _ _ _ _ hvd, getD_set2 _ _ _ _ hvd, if_neg k, if_neg hne]; exact e6, e7⟩
  · rw [if_neg hc]
    refine ⟨⟨D.rx, D.ll, D.il, D.kl, D.nd, D.pm, D.q, D.ky, fun k hk h => ?_, D.via⟩, rfl⟩
    rcases h with h | rfl
    · exact D.ti k hk h
    · refine ⟨fun u y euy => ?_, fun hwk u y euy _ => ?_⟩
      · rw [e] at euy; injection euy with e1 e2
        have : X = u := by omega
        exact this ▸ hX
      · rw [e] at euy; injection euy with e1 e2
        obtain rfl : X = u := by omega
        obtain rfl : v = y := by omega
        have : ¬ (st.d.getD X 0 + ws.getD k 0 < st.d.getD v 0) := fun h => hc ⟨by omega, h⟩
        omega
theorem Dj.weak {ars : List (Int × Int)} {ws : List Int} {m s : Nat} {st : DS} {ps : List Nat} {K : Int} {rk : Nat → Nat} {T U : Nat → Prop} (D : Dj ars ws m s st ps K rk T) (h : ∀ i, i < ars.length → U i → T i) : Dj ars ws m s st ps K rk U :=
  ⟨D.rx, D.ll, D.il, D.kl, D.nd, D.pm, D.q, D.ky, fun i hi k => D.ti i hi (h i hi k), D.via⟩
theorem ps_le : ∀ {m : Nat} {ps : List Nat}, ps.Nodup → (∀ v ∈ ps, v < m) → ps.length ≤ m := by
  intro m
  induction m with
  | zero =>
    intro ps _ hm
    cases ps with
    | nil => exact Nat.le_refl _
    | cons a l => exact absurd (hm a (List.mem_cons_self ..)) (by omega)
  | succ m ih =>
    intro ps hn hm
    by_cases h : m ∈ ps
    · have h1 := ih (ps := ps.erase m) (hn.erase m) (fun v hv => by
        have h2 := (hn.mem_erase_iff).1 hv
        have := hm v h2.2; omega)
      rw [List.length_erase_of_mem h] at h1; omega
    · have := ih hn (fun v hv => by have := hm v hv; have : v ≠ m := fun e => h (e ▸ hv); omega)
      omega
/- what a search returns -/
structure SR (ars : List (Int × Int)) (ws : List Int) (m s : Nat) (d la : List Int) : Prop where
  isd : IsD ars ws m s d
  ll : la.length = m
  via : ∃ (ps : List Nat) (rk : Nat → Nat), (∀ v, v < m → d.getD v 0 < INF → v ∈ ps ∧ Via ars ws s d la ps rk v) ∧ ∀ v ∈ ps, v < m ∧ d.getD v 0 < INF ∧ rk v < m
theorem dj_done {ars : List (Int × Int)} {ws : List Int} {m s : Nat} {st : DS} {ps : List Nat} {K : Int} {rk : Nat → Nat} {T : Nat → Prop} (hb : ∀ j, j < ars.length → ¬ bad (m : Int) (ars.getD j (0, 0))) (D : Dj ars ws m s st ps K rk T)
    (hT : ∀ i u v : Nat, i < ars.length → ars.getD i (0, 0) = ((u : Int), (v : Int)) → u ∈ ps → T i) (he : ∀ v, v < m → st.ins.getD v false = false) : SR ars ws m s st.d st.la := by
  have all : ∀ v, v < m → st.d.getD v 0 < INF → v ∈ ps := fun v hv h => Classical.byContradiction fun k => by
    have := (D.q v hv).2 ⟨h, k⟩
    rw [he v hv] at this; cases this
  refine ⟨D.rx.done hb (fun i hi hw u v e hlt => ?_), D.ll, ps, rk, fun v hv h => ⟨all v hv h, D.via v hv h⟩, fun v hv => ⟨(D.pm v hv).1, (D.pm v hv).2.1, Nat.lt_of_lt_of_le (D.pm v hv).2.2.2 (ps_le D.nd (fun x hx => (D.pm x hx).1))⟩⟩
  have nb := hb i hi
  rw [e] at nb
  unfold bad at nb
  dsimp only at nb
  exact (D.ti i hi (hT i u v hi e (all u (by omega) hlt))).2 hw u v e hlt
end Go.Proofs.Ytgofachgoflgnaa
