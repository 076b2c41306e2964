/- cmds: bounds of what is encoded; without the last integer. -/
import Derived.Test.YthlbenldgnjgcaaDoorKy
namespace Go.Proofs.YthlbenldgnjgcaaDoor
open Go.ChangeShapes Go.WideShapes Go.ChangeAt Go.RowKit Go.Joins Go.Deep

theorem stp_bd : ∀ (l : List Pt) (q : Pt), (∀ p ∈ l, inE p) → inE q → ∀ x ∈ stp l q, 0 ≤ x ∧ x ≤ 1000
  | [], _, _, _, x, hx => by cases hx
  | a :: l, q, h, hq, x, hx => by
    have ha := h a (by simp)
    rw [stp] at hx
    have key : ∀ d : Int, -256 ≤ d → d ≤ 256 → 0 ≤ zz d ∧ zz d ≤ 1000 := fun d h1 h2 => by unfold zz; split <;> omega
    obtain ⟨a1, a2, a3, a4⟩ := ha
    obtain ⟨b1, b2, b3, b4⟩ := hq
    rcases List.mem_cons.1 hx with rfl | hx
    · exact key _ (by omega) (by omega)
    · rcases List.mem_cons.1 hx with rfl | hx
      · exact key _ (by omega) (by omega)
      · exact stp_bd l a (fun p hp => h p (List.mem_cons_of_mem _ hp)) (h a (by simp)) x hx
theorem encP_bd {k : Int} {l : List Pt} {q : Pt} (hl : ∀ p ∈ l, inE p) (hq : inE q) (hn : l.length ≤ 12000) : ∀ x ∈ encP k l q, 0 ≤ x ∧ x ≤ 100000 ∨ l = [] := by
  intro x hx
  by_cases h0 : l = []
  · exact Or.inr h0
  have hl0 : 1 ≤ l.length := by
    cases l with
    | nil => exact absurd rfl h0
    | cons a l => simp
  left
  unfold encP at hx
  split at hx
  · have := stp_bd l q hl hq x hx; omega
  · have h1 : ∀ p ∈ l.take 1, inE p := fun p hp => hl p (List.mem_of_mem_take hp)
    have h2 : ∀ p ∈ l.drop 1, inE p := fun p hp => hl p (List.mem_of_mem_drop hp)
    rcases List.mem_append.1 hx with hx | hx
    · rcases List.mem_append.1 hx with hx | hx
      · rcases List.mem_append.1 hx with hx | hx
        · rcases List.mem_append.1 hx with hx | hx
          · simp at hx; omega
          · have := stp_bd _ q h1 hq x hx; omega
        · simp at hx; omega
      · have := stp_bd _ _ h2 (lastP_in _ _ h1 hq) x hx; omega
    · split at hx
      · simp at hx; omega
      · cases hx
theorem encA_bd {k : Int} : ∀ (ls : List (List Pt)) (q : Pt), (∀ l ∈ ls, (∀ p ∈ l, inE p) ∧ 1 ≤ l.length ∧ l.length ≤ 12000) → inE q → ∀ x ∈ encA k ls q, 0 ≤ x ∧ x ≤ 100000
  | [], _, _, _, x, hx => by cases hx
  | l :: ls, q, h, hq, x, hx => by
    obtain ⟨h1, h2, h3⟩ := h l (by simp)
    rw [encA] at hx
    rcases List.mem_append.1 hx with hx | hx
    · rcases encP_bd h1 hq h3 x hx with h | h
      · exact h
      · rw [h] at h2; simp at h2
    · exact encA_bd ls _ (fun m hm => h m (List.mem_cons_of_mem _ hm)) (lastP_in l q h1 hq) x hx
theorem part_ok {k : Int} {ls : List (List Pt)} (h : chk k ls = 0) : ∀ l ∈ ls, (∀ p ∈ l, inE p) ∧ 1 ≤ l.length ∧ l.length ≤ 12000 := fun l hl => by
  obtain ⟨hk, _, h1⟩ := chk_zero h
  obtain ⟨a, b, c⟩ := cpt_zero (h1 l hl)
  unfold vK at hk; unfold shK at a
  exact ⟨c, by omega, by omega⟩
theorem enc_bd {k : Int} {ls : List (List Pt)} (h : chk k ls = 0) (hm : ls.length ≤ 12000) : ∀ x ∈ enc k ls, 0 ≤ x ∧ x ≤ 100000 := by
  intro x hx
  unfold enc at hx
  rcases List.mem_append.1 hx with hx | hx
  · split at hx
    · simp at hx; omega
    · cases hx
  · exact encA_bd ls _ (part_ok h) in0 x hx
theorem enc_i64 {k : Int} {ls : List (List Pt)} (h : chk k ls = 0) (hm : ls.length ≤ 12000) : I64B (enc k ls) := fun x hx => by have := enc_bd h hm x hx; omega
theorem enc_len {k : Int} {ls : List (List Pt)} (hm : ls.length + tot ls ≤ 9000) : (enc k ls).length ≤ 30000 := by
  unfold enc
  have := encA_len k ls (0, 0)
  rw [List.length_append]
  split <;> simp <;> omega
theorem encP_ge (k : Int) (l : List Pt) (q : Pt) : 2 * l.length ≤ (encP k l q).length := by
  unfold encP
  split
  · rw [stp_len]; omega
  · simp only [List.length_append, stp_len, List.length_take, List.length_drop, List.length_cons, List.length_nil]
    omega
theorem encA_ge (k : Int) : ∀ (ls : List (List Pt)) (q : Pt), 2 * tot ls ≤ (encA k ls q).length
  | [], _ => by simp [tot]
  | l :: ls, q => by
    rw [encA, List.length_append, tot]
    have := encP_ge k l q; have := encA_ge k ls (lastP l q); omega
theorem tot_ge : ∀ (ls : List (List Pt)), (∀ l ∈ ls, 1 ≤ l.length) → ls.length ≤ tot ls
  | [], _ => by simp
  | l :: ls, h => by
    rw [List.length_cons, tot]
    have := h l (by simp); have := tot_ge ls (fun m hm => h m (List.mem_cons_of_mem _ hm)); omega
theorem few_of {k : Int} {ls : List (List Pt)} {l : List Int} (h : chk k ls = 0) (he : enc k ls = l) (hl : l.length ≤ 2000) : ls.length + tot ls ≤ 9000 := by
  have h1 := encA_ge k ls (0, 0)
  have h2 := tot_ge ls (fun l hl => (part_ok h l hl).2.1)
  have h3 : (encA k ls (0, 0)).length ≤ (enc k ls).length := by unfold enc; rw [List.length_append]; omega
  rw [he] at h3; omega
theorem i64s_of {l : List Int} (h : I64B l) : I64s l := fun x hx => (h x hx).2
/- the list without its last integer -/
theorem IntsAt.init {w : World} {a : Option Addr} {n cap : Nat} {l : List Int} (h : IntsAt w (.slice a n cap) l) : IntsAt w (.slice a (n - 1) cap) l.dropLast := by
  obtain ⟨a', cap', e, hq, h2⟩ := h
  injection e with e1 e2 e3
  subst e1; subst e3
  have hl : l.dropLast.length = n - 1 := by rw [List.length_dropLast]; omega
  refine ⟨a, cap, by rw [hl], by rw [hl]; omega, ?_⟩
  rcases h2 with h2 | ⟨b, off, e, hb, hc⟩
  · left; rw [h2]; rfl
  · refine Or.inr ⟨b, off, e, hb, fun j hj => ?_⟩
    rw [hl] at hj
    rw [hc j (by omega), List.getD, List.getD, List.getElem?_dropLast, if_pos (by omega)]
theorem dec_nil (k : Int) : dec k [] = none := by
  cases h : dec k [] with
  | none => rfl
  | some ms =>
    exfalso
    obtain ⟨hc, he⟩ := dec_inv (by intro x hx; cases hx) h
    have hk := (chk_zero hc).1
    unfold vK at hk
    by_cases k1 : k = 1
    · subst k1
      obtain ⟨m, _, _, e⟩ := one_of hc
      rw [e] at he; cases he
    · obtain ⟨a, b, l, t, _, e⟩ := enc_head (by omega) hc
      rw [e] at he; cases he
end Go.Proofs.YthlbenldgnjgcaaDoor
