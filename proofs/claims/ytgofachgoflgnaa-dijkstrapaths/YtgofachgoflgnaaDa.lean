/- dijkstra: walks and their costs; what a row of distances is. -/
import Derived.Test.YtgofachgoflgnaaGh
import Derived.Test.YtgofachgoflgnaaPl
namespace Go.Proofs.Ytgofachgoflgnaa

def INF : Int := 1152921504606846976
/- walks from s, their ends and costs -/
inductive Wk (ars : List (Int × Int)) (ws : List Int) (s : Nat) : Nat → Int → Prop
  | nil : Wk ars ws s s 0
  | snoc {u v i : Nat} {c : Int} (h : Wk ars ws s u c) (hi : i < ars.length) (e : ars.getD i (0, 0) = ((u : Int), (v : Int))) (hw : 0 ≤ ws.getD i 0) : Wk ars ws s v (c + ws.getD i 0)
theorem Wk.nonneg {ars : List (Int × Int)} {ws : List Int} {s v : Nat} {c : Int} (h : Wk ars ws s v c) : 0 ≤ c := by
  induction h with
  | nil => exact Int.le_refl _
  | snoc _ _ _ hw ih => omega
structure IsD (ars : List (Int × Int)) (ws : List Int) (m s : Nat) (d : List Int) : Prop where
  len : d.length = m
  low : ∀ v, v < m → ∀ c, Wk ars ws s v c → d.getD v 0 ≤ c
  top : ∀ v, v < m → d.getD v 0 ≤ INF
  att : ∀ v, v < m → d.getD v 0 = INF ∨ Wk ars ws s v (d.getD v 0)
theorem IsD.unique {ars : List (Int × Int)} {ws : List Int} {m s : Nat} {d f : List Int} (h : IsD ars ws m s d) (k : IsD ars ws m s f) : d = f := by
  apply List.ext_getElem (h.len.trans k.len.symm)
  intro v p q
  have hv : v < m := by rw [← h.len]; exact p
  have e : d.getD v 0 = f.getD v 0 := by
    have h1 := h.top v hv; have k1 := k.top v hv
    rcases h.att v hv with a | a
    · rcases k.att v hv with b | b
      · rw [a, b]
      · have := h.low v hv _ b; omega
    · have h2 := k.low v hv _ a
      rcases k.att v hv with b | b
      · omega
      · have := h.low v hv _ b; omega
  rw [List.getD, List.getElem?_eq_getElem p, List.getD, List.getElem?_eq_getElem q] at e
  exact e
theorem IsD.nonneg {ars : List (Int × Int)} {ws : List Int} {m s : Nat} {d : List Int} (h : IsD ars ws m s d) {v : Nat} (hv : v < m) : 0 ≤ d.getD v 0 := by
  rcases h.att v hv with a | a
  · rw [a]; decide
  · exact a.nonneg
/- the state of any search by relaxation -/
structure Rx (ars : List (Int × Int)) (ws : List Int) (m s : Nat) (d : List Int) : Prop where
  len : d.length = m
  zero : d.getD s 0 = 0
  top : ∀ v, v < m → d.getD v 0 ≤ INF
  att : ∀ v, v < m → d.getD v 0 = INF ∨ Wk ars ws s v (d.getD v 0)
theorem Rx.nonneg {ars : List (Int × Int)} {ws : List Int} {m s : Nat} {d : List Int} (h : Rx ars ws m s d) {v : Nat} (hv : v < m) : 0 ≤ d.getD v 0 := by
  rcases h.att v hv with a | a
  · rw [a]; decide
  · exact a.nonneg
/- an arc that is relaxed: nothing to be gained over it -/
def Tight (ars : List (Int × Int)) (ws : List Int) (d : List Int) (i : Nat) : Prop := 0 ≤ ws.getD i 0 → ∀ u v : Nat, ars.getD i (0, 0) = ((u : Int), (v : Int)) → d.getD u 0 < INF → d.getD v 0 ≤ d.getD u 0 + ws.getD i 0
theorem Rx.done {ars : List (Int × Int)} {ws : List Int} {m s : Nat} {d : List Int} (h : Rx ars ws m s d) (hb : ∀ j, j < ars.length → ¬ bad (m : Int) (ars.getD j (0, 0))) (ht : ∀ i, i < ars.length → Tight ars ws d i) : IsD ars ws m s d := by
  refine ⟨h.len, fun v hv c hc => ?_, h.top, h.att⟩
  have key : ∀ v c, Wk ars ws s v c → d.getD v 0 ≤ c := by
    intro v c hc
    induction hc with
    | nil => rw [h.zero]; exact Int.le_refl _
    | @snoc u v i c hc hi e hw ih =>
      have nb := hb i hi
      rw [e] at nb
      unfold bad at nb
      dsimp only at nb
      have hu : u < m := by omega
      have hv : v < m := by omega
      by_cases hl : d.getD u 0 < INF
      · have := ht i hi hw u v e hl; omega
      · have := h.top v hv; omega
  exact key v c hc
theorem getD_set2 (l : List Int) (i k : Nat) (x : Int) (hi : i < l.length) : (l.set i x).getD k 0 = if i = k then x else l.getD k 0 := by
  by_cases e : i = k
  · subst e; rw [if_pos rfl, List.getD, List.getElem?_set_self hi]; rfl
  · rw [if_neg e, List.getD, List.getElem?_set_ne e]; rfl
def start (m s : Nat) : List Int := (List.replicate m INF).set s 0
theorem start_len (m s : Nat) : (start m s).length = m := by unfold start; simp
theorem start_get {m s v : Nat} (hs : s < m) (hv : v < m) : (start m s).getD v 0 = if s = v then 0 else INF := by
  unfold start
  rw [getD_set2 _ _ _ _ (by simpa using hs)]
  by_cases e : s = v
  · rw [if_pos e, if_pos e]
  · rw [if_neg e, if_neg e, List.getD, List.getElem?_replicate, if_pos hv]; rfl
theorem rx_start {ars : List (Int × Int)} {ws : List Int} {m s : Nat} (hs : s < m) : Rx ars ws m s (start m s) := by
  refine ⟨start_len m s, by rw [start_get hs hs, if_pos rfl], fun v hv => ?_, fun v hv => ?_⟩
  · rw [start_get hs hv]; split
    · decide
    · exact Int.le_refl _
  · rw [start_get hs hv]
    by_cases e : s = v
    · rw [if_pos e, ← e]; exact Or.inr .nil
    · rw [if_neg e]; exact Or.inl rfl
theorem Rx.relax {ars : List (Int × Int)} {ws : List Int} {m s : Nat} {d : List Int} (h : Rx ars ws m s d) {i u v : Nat} (hi : i < ars.length) (e : ars.getD i (0, 0) = ((u : Int), (v : Int))) (hu : u < m) (hv : v < m) (hw : 0 ≤ ws.getD i 0)
    (hl : d.getD u 0 < INF) (hlt : d.getD u 0 + ws.getD i 0 < d.getD v 0) : Rx ars ws m s (d.set v (d.getD u 0 + ws.getD i 0)) := by
  have hvd : v < d.length := by rw [h.len]; exact hv
  have hau : Wk ars ws s u (d.getD u 0) := by
    rcases h.att u hu with a | a
    · omega
    · exact a
  have hsv : v ≠ s := fun k => by have := h.zero; have := hau.nonneg; rw [k] at hlt; omega
  refine ⟨by rw [List.length_set]; exact h.len, by rw [getD_set2 _ _ _ _ hvd, if_neg hsv]; exact h.zero, fun x hx => ?_, fun x hx => ?_⟩
  · rw [getD_set2 _ _ _ _ hvd]
    split
    · have := h.top v hv; omega
    · exact h.top x hx
  · rw [getD_set2 _ _ _ _ hvd]
    by_cases k : v = x
    · rw [if_pos k, ← k]; exact Or.inr (.snoc hau hi e hw)
    · rw [if_neg k]; exact h.att x hx
end Go.Proofs.Ytgofachgoflgnaa
