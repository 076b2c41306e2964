/- dijkstra: the reference's steps by breadth, over arcs that lose nothing, as mathematics. -/
import Derived.Test.YtgofachgoflgnaaDq
namespace Go.Proofs.Ytgofachgoflgnaa

def TA (ars : List (Int × Int)) (ws d : List Int) (i u v : Nat) : Prop := i < ars.length ∧ ars.getD i (0, 0) = ((u : Int), (v : Int)) ∧ 0 ≤ ws.getD i 0 ∧ d.getD u 0 + ws.getD i 0 = d.getD v 0
def lab (st : List Int) (v : Nat) : Bool := decide (0 ≤ st.getD v 0)
def Shut (ars : List (Int × Int)) (ws d : List Int) (m : Nat) (st : List Int) : Prop := ∀ j u v, TA ars ws d j u v → u < m → v < m → 0 ≤ st.getD u 0 → 0 ≤ st.getD v 0
/- turn n, before arc i -/
structure Bf (ars : List (Int × Int)) (ws d : List Int) (m s n i : Nat) (st : List Int) : Prop where
  len : st.length = m
  zero : st.getD s 0 = 0
  only : ∀ v, v < m → st.getD v 0 = 0 → v = s
  val : ∀ v, v < m → st.getD v 0 = -1 ∨ (0 ≤ st.getD v 0 ∧ st.getD v 0 ≤ (n : Int) + 1)
  back : ∀ v, v < m → 0 < st.getD v 0 → ∃ j u, u < m ∧ TA ars ws d j u v ∧ st.getD u 0 + 1 = st.getD v 0
  fwd : ∀ j u v, TA ars ws d j u v → u < m → v < m → 0 ≤ st.getD u 0 → (st.getD u 0 < (n : Int) ∨ (st.getD u 0 = (n : Int) ∧ j < i)) → 0 ≤ st.getD v 0
  more : (∀ v, v < m → st.getD v 0 ≤ (n : Int)) ∧ n + 1 ≤ (List.range m).countP (lab st) ∨ Shut ars ws d m st ∨ n + 2 ≤ (List.range m).countP (lab st)
theorem count_less {p q : Nat → Bool} {v : Nat} : ∀ l : List Nat, (∀ w ∈ l, p w = true → q w = true) → v ∈ l → p v = false → q v = true → l.countP p < l.countP q := by
  intro l
  induction l with
  | nil => intro _ h; cases h
  | cons a l ih =>
    intro h hv h0 h1
    rw [List.countP_cons, List.countP_cons]
    have mono : l.countP p ≤ l.countP q := List.countP_mono_left (fun w hw => h w (List.mem_cons_of_mem _ hw))
    by_cases e : a = v
    · rw [e, h0, h1]; simp; omega
    · have hv' : v ∈ l := by rcases List.mem_cons.1 hv with h2 | h2; exact absurd h2.symm e; exact h2
      have := ih (fun w hw => h w (List.mem_cons_of_mem _ hw)) hv' h0 h1
      cases hp : p a
      · cases hq : q a
        · simp; omega
        · simp; omega
      · rw [h a (List.mem_cons_self ..) hp]; simp; omega
/- the arc changes nothing -/
theorem Bf.pass {ars : List (Int × Int)} {ws d : List Int} {m s n i : Nat} {st : List Int} (h : Bf ars ws d m s n i st)
    (hc : ∀ u v, TA ars ws d i u v → u < m → v < m → st.getD u 0 = (n : Int) → 0 ≤ st.getD v 0) : Bf ars ws d m s n (i + 1) st := by
  refine ⟨h.len, h.zero, h.only, h.val, h.back, fun j u v t hu hv h0 hn => ?_, h.more⟩
  rcases hn with a | ⟨a, b⟩
  · exact h.fwd j u v t hu hv h0 (Or.inl a)
  · by_cases e : j = i
    · subst e; exact hc u v t hu hv a
    · exact h.fwd j u v t hu hv h0 (Or.inr ⟨a, by omega⟩)
/- the arc gives v its step -/
theorem Bf.put {ars : List (Int × Int)} {ws d : List Int} {m s n i u v : Nat} {st : List Int} (h : Bf ars ws d m s n i st) (t : TA ars ws d i u v) (hu : u < m) (hv : v < m) (hn : st.getD u 0 = (n : Int)) (h0 : st.getD v 0 < 0) :
    Bf ars ws d m s n (i + 1) (st.set v ((n : Int) + 1)) := by
  have hvl : v < st.length := by rw [h.len]; exact hv
  have G := fun k => getD_set2 st v k ((n : Int) + 1) hvl
  have hne : ∀ x, 0 ≤ st.getD x 0 → ¬ v = x := fun x hx e => by rw [e] at h0; omega
  have keep : ∀ x, 0 ≤ st.getD x 0 → (st.set v ((n : Int) + 1)).getD x 0 = st.getD x 0 := fun x hx => by rw [G, if_neg (hne x hx)]
  have lt : (List.range m).countP (lab st) < (List.range m).countP (lab (st.set v ((n : Int) + 1))) := count_less (v := v) _ (fun w _ hl => by
      have hl' : 0 ≤ st.getD w 0 := of_decide_eq_true hl
      unfold lab; rw [keep w hl']; exact decide_eq_true hl') (List.mem_range.2 hv) (by unfold lab; exact decide_eq_false (by omega)) (by unfold lab; rw [G, if_pos rfl]; exact decide_eq_true (by omega))
  refine ⟨by rw [List.length_set]; exact h.len, by rw [keep s (by rw [h.zero]; decide)]; exact h.zero, fun x hx e => ?_, fun x hx => ?_, fun x hx hp => ?_, fun j a b tt ha hb h1 hn' => ?_, ?_⟩
  · rw [G] at e
    split at e
    · omega
    · exact h.only x hx e
  · rw [G]
    split
    · right; omega
    · exact h.val x hx
  · by_cases e : v = x
    · refine ⟨i, u, hu, e ▸ t, ?_⟩
      rw [keep u (by omega), G, if_pos e, hn]
    · rw [G, if_neg e] at hp
      obtain ⟨j, a, ha, tt, es⟩ := h.back x hx hp
      exact ⟨j, a, ha, tt, by rw [keep a (by omega), G, if_neg e]; exact es⟩
  · by_cases eb : v = b
    · rw [G, if_pos eb]; omega
    · rw [G, if_neg eb]
      by_cases ea : v = a
      · rw [G, if_pos ea] at hn'; omega
      · rw [G, if_neg ea] at hn' h1
        rcases hn' with k | ⟨k, k2⟩
        · exact h.fwd j a b tt ha hb h1 (Or.inl k)
        · by_cases e : j = i
          · subst e
            have e1 := t.2.1; rw [tt.2.1] at e1
            injection e1 with e2 e3
            exact absurd (by omega) eb
          · exact h.fwd j a b tt ha hb h1 (Or.inr ⟨k, by omega⟩)
  · rcases h.more with k | k | k
    · exact Or.inr (Or.inr (by omega))
    · exact absurd (k i u v t hu hv (by omega)) (by omega)
    · exact Or.inr (Or.inr (by omega))
/- the next turn -/
theorem Bf.next {ars : List (Int × Int)} {ws d : List Int} {m s n : Nat} {st : List Int} (h : Bf ars ws d m s n ars.length st) : Bf ars ws d m s (n + 1) 0 st := by
  have fw : ∀ j u v, TA ars ws d j u v → u < m → v < m → 0 ≤ st.getD u 0 → st.getD u 0 < ((n + 1 : Nat) : Int) → 0 ≤ st.getD v 0 := fun j u v t hu hv h0 hl => by
    by_cases e : st.getD u 0 = (n : Int)
    · exact h.fwd j u v t hu hv h0 (Or.inr ⟨e, t.1⟩)
    · exact h.fwd j u v t hu hv h0 (Or.inl (by omega))
  refine ⟨h.len, h.zero, h.only, fun v hv => ?_, h.back, fun j u v t hu hv h0 hn => ?_, ?_⟩
  · rcases h.val v hv with a | a
    · exact Or.inl a
    · right; omega
  · rcases hn with a | a
    · exact fw j u v t hu hv h0 a
    · omega
  · rcases h.more with ⟨k, _⟩ | k | k
    · refine Or.inr (Or.inl fun j u v t hu hv h0 => fw j u v t hu hv h0 ?_)
      have := k u hu; omega
    · exact Or.inr (Or.inl k)
    · refine Or.inl ⟨fun v hv => ?_, by omega⟩
      rcases h.val v hv with a | a <;> omega
theorem bf_start {ars : List (Int × Int)} {ws d : List Int} {m s : Nat} (hs : s < m) : Bf ars ws d m s 0 0 ((List.replicate m (-1)).set s 0) := by
  have G := fun k => getD_set2 (List.replicate m (-1)) s k 0 (by simpa using hs)
  have R : ∀ k, k < m → (List.replicate m (-1 : Int)).getD k 0 = -1 := fun k hk => by rw [List.getD, List.getElem?_replicate, if_pos hk]; rfl
  have only : ∀ v, v < m → 0 ≤ ((List.replicate m (-1)).set s 0).getD v 0 → v = s := fun v hv h => by
    rw [G] at h
    split at h
    · rename_i e; exact e.symm
    · rw [R v hv] at h; omega
  have val : ∀ v, v < m → ((List.replicate m (-1)).set s 0).getD v 0 = -1 ∨ ((List.replicate m (-1)).set s 0).getD v 0 = 0 := fun v hv => by
    rw [G]
    split
    · exact Or.inr rfl
    · exact Or.inl (R v hv)
  refine ⟨by simp, by rw [G, if_pos rfl], fun v hv h => only v hv (by omega), fun v hv => ?_, fun v hv h => ?_, fun j u v t hu hv h0 hn => ?_, Or.inl ⟨fun v hv => ?_, ?_⟩⟩
  · rcases val v hv with a | a
    · exact Or.inl a
    · right; omega
  · rcases val v hv with a | a <;> omega
  · rcases hn with a | ⟨_, b⟩ <;> omega
  · rcases val v hv with a | a <;> omega
  · refine List.countP_pos_iff.2 ⟨s, List.mem_range.2 hs, ?_⟩
    unfold lab; rw [G, if_pos rfl]; rfl
theorem Bf.shut {ars : List (Int × Int)} {ws d : List Int} {m s : Nat} {st : List Int} (h : Bf ars ws d m s m 0 st) : Shut ars ws d m st := by
  have := List.countP_le_length (p := lab st) (l := List.range m)
  rw [List.length_range] at this
  rcases h.more with k | k | k
  · omega
  · exact k
  · omega
theorem shut_all {ars : List (Int × Int)} {ws d st : List Int} {m s v : Nat} {c : Int} (hb : ∀ j, j < ars.length → ¬ bad (m : Int) (ars.getD j (0, 0))) (D : IsD ars ws m s d) (S : Shut ars ws d m st) (h0 : 0 ≤ st.getD s 0)
    (w : Wk ars ws s v c) (hv : v < m) (hc : c = d.getD v 0) (hl : d.getD v 0 < INF) : 0 ≤ st.getD v 0 := by
  induction w with
  | nil => exact h0
  | @snoc u v i c wu hi e hw ih =>
    have nb := hb i hi
    rw [e] at nb
    unfold bad at nb
    dsimp only at nb
    have hu : u < m := by omega
    have lu := D.low u hu _ wu
    have du : d.getD u 0 < INF := by omega
    have au : Wk ars ws s u (d.getD u 0) := by
      rcases D.att u hu with a | a
      · omega
      · exact a
    have lv := D.low v hv _ (.snoc au hi e hw)
    exact S i u v ⟨hi, e, hw, by omega⟩ hu hv (ih hu (by omega) du)
end Go.Proofs.Ytgofachgoflgnaa
