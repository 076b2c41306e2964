/- cmds: what the reference decodes, and that it is what Decode decodes. -/
import Derived.Test.YthlbenldgnjgcaaDoorLb
namespace Go.Proofs.YthlbenldgnjgcaaDoor
open Go.ChangeShapes Go.WideShapes Go.ChangeAt Go.RowKit Go.Joins Go.Deep

abbrev RS := List Int × Pt × Bool
def rbad : RS := ([], (0, 0), true)
def rn : RS → RS × Int
  | (x :: t, p, b) => if 0 ≤ x ∧ x ≤ 100000 then ((t, p, b), x) else (rbad, 0)
  | ([], _, _) => (rbad, 0)
def rstep (s : RS) : Pt := mv (rn s).1.2.1 (rn s).2 (rn (rn s).1).2
def rnext (s : RS) : RS := ((rn (rn s).1).1.1, rstep s, (rn (rn s).1).1.2.2)
def rp : Nat → List Pt → RS → RS × List Pt
  | 0, acc, s => (s, acc)
  | n + 1, acc, s => if s.2.2 = true then (s, acc) else rp n (acc ++ [rstep s]) (rnext s)
def rpart (k : Int) (s : RS) : RS × List Pt :=
  let a := rn s
  let b := rp 1 [] a.1
  let c := rn b.1
  if a.2 = 9 ∧ c.2 % 8 = 2 then
    let d := rp (c.2 / 8).toNat [] c.1
    if k = 3 then (if (rn d.1).2 = 15 then ((rn d.1).1, b.2 ++ d.2) else (rbad, [])) else (d.1, b.2 ++ d.2)
  else (rbad, [])
def rlp (k : Int) : Nat → RS → List (List Pt) → List (List Pt) × Bool
  | 0, s, out => (out, !s.2.2)
  | f + 1, s, out => if s.1 = [] ∨ s.2.2 = true then (out, !s.2.2) else rlp k f (rpart k s).1 (out ++ [(rpart k s).2])
def rdec (k : Int) (l : List Int) : List (List Pt) × Bool :=
  if k = 1 then
    (let a := rn (l, (0, 0), false)
     if a.2 % 8 = 1 then
       (let b := rp (a.2 / 8).toNat [] a.1
        (b.2.map (fun p => [p]), !b.1.2.2 && decide (b.1.1 = [])))
     else ([], false))
  else rlp k l.length (l, (0, 0), false) []
theorem rn_good {x : Int} {t : List Int} {p : Pt} {b : Bool} (h : 0 ≤ x ∧ x ≤ 100000) : rn (x :: t, p, b) = ((t, p, b), x) := if_pos h
theorem rn_cases (s : RS) : (∃ x t, s.1 = x :: t ∧ 0 ≤ x ∧ x ≤ 100000 ∧ rn s = ((t, s.2.1, s.2.2), x)) ∨ rn s = (rbad, 0) := by
  obtain ⟨r, p, b⟩ := s
  cases r with
  | nil => exact Or.inr rfl
  | cons x t =>
    by_cases h : 0 ≤ x ∧ x ≤ 100000
    · exact Or.inl ⟨x, t, rfl, h.1, h.2, if_pos h⟩
    · exact Or.inr (if_neg h)
theorem rn_le (s : RS) : (rn s).1.1.length ≤ s.1.length - 1 ∧ 0 ≤ (rn s).2 ∧ (rn s).2 ≤ 100000 := by
  rcases rn_cases s with ⟨x, t, h1, h2, h3, h4⟩ | h
  · rw [h4, h1]; simp; omega
  · rw [h]; simp [rbad]
/- a bad state has nothing left -/
theorem rn_flag {s : RS} (h : s.2.2 = false) (hr : (rn s).1.2.2 = true) : (rn s).1.1 = [] := by
  rcases rn_cases s with ⟨x, t, h1, h2, h3, h4⟩ | h5
  · rw [h4] at hr; dsimp only at hr; rw [h] at hr; cases hr
  · rw [h5]; rfl
theorem rn_flag2 {s : RS} (h : s.2.2 = true → s.1 = []) (hr : (rn s).1.2.2 = true) : (rn s).1.1 = [] := by
  cases hs : s.2.2 with
  | false => exact rn_flag hs hr
  | true =>
    rcases rn_cases s with ⟨x, t, h1, _⟩ | h5
    · rw [h hs] at h1; cases h1
    · rw [h5]; rfl
theorem rp_flag : ∀ (n : Nat) (acc : List Pt) (s : RS), (s.2.2 = true → s.1 = []) → (rp n acc s).1.2.2 = true → (rp n acc s).1.1 = []
  | 0, acc, s, h, hr => h hr
  | n + 1, acc, s, h, hr => by
    rw [rp] at hr ⊢
    split
    · rename_i hs; exact h hs
    · rename_i hs
      rw [if_neg hs] at hr
      refine rp_flag n _ (rnext s) (fun h2 => ?_) hr
      unfold rnext at h2 ⊢
      exact rn_flag2 (rn_flag2 h) h2
theorem rp_le : ∀ (n : Nat) (acc : List Pt) (s : RS), (rp n acc s).1.1.length ≤ s.1.length
  | 0, _, _ => Nat.le_refl _
  | n + 1, acc, s => by
    rw [rp]
    split
    · exact Nat.le_refl _
    · have h1 := rp_le n (acc ++ [rstep s]) (rnext s)
      have h2 := (rn_le s).1
      have h3 := (rn_le (rn s).1).1
      have h4 : (rnext s).1.length = (rn (rn s).1).1.1.length := rfl
      omega
theorem rp_pre : ∀ (n : Nat) (acc : List Pt) (s : RS), ∃ t, (rp n acc s).2 = acc ++ t
  | 0, acc, s => ⟨[], by rw [rp]; simp⟩
  | n + 1, acc, s => by
    rw [rp]
    split
    · exact ⟨[], by simp⟩
    · obtain ⟨t, h⟩ := rp_pre n (acc ++ [rstep s]) (rnext s)
      exact ⟨rstep s :: t, by rw [h]; simp⟩
theorem rp_bad (n : Nat) (acc : List Pt) {s : RS} (h : s.2.2 = true) : rp n acc s = (s, acc) := by
  cases n with
  | zero => rfl
  | succ n => rw [rp, if_pos h]
theorem rp_enc : ∀ (l acc : List Pt) (rest : List Int) (q : Pt), (∀ p ∈ l, inE p) → inE q → rp l.length acc (stp l q ++ rest, q, false) = ((rest, lastP l q, false), acc ++ l)
  | [], acc, rest, q, _, _ => by simp [rp, stp, lastP]
  | a :: l, acc, rest, q, h, hq => by
    have ha := h a (by simp)
    have b := stp_bd (a :: l) q h hq
    rw [stp] at b
    have b1 := b _ (List.mem_cons_self)
    have b2 := b _ (List.mem_cons_of_mem _ List.mem_cons_self)
    have e1 : rn (stp (a :: l) q ++ rest, q, false) = ((zz (a.2 - q.2) :: (stp l a ++ rest), q, false), zz (a.1 - q.1)) := by
      rw [stp]; exact rn_good ⟨b1.1, by omega⟩
    have e2 : rn (zz (a.2 - q.2) :: (stp l a ++ rest), q, false) = ((stp l a ++ rest, q, false), zz (a.2 - q.2)) := rn_good ⟨b2.1, by omega⟩
    have e3 : rstep (stp (a :: l) q ++ rest, q, false) = a := by unfold rstep; rw [e1, e2]; exact mv_zz ha hq
    have e4 : rnext (stp (a :: l) q ++ rest, q, false) = (stp l a ++ rest, a, false) := by unfold rnext; rw [e3, e1, e2]
    rw [List.length_cons, rp, if_neg (by simp), e3, e4, rp_enc l _ rest a (fun p hp => h p (List.mem_cons_of_mem _ hp)) ha, lastP]
    simp
theorem rp_inv : ∀ (n : Nat) (acc : List Pt) (r : List Int) (p : Pt) (acc' : List Pt) (r' : List Int) (p' : Pt), rp n acc (r, p, false) = ((r', p', false), acc') → (∀ x ∈ acc', inE x) → inE p → ∃ l, acc' = acc ++ l ∧ l.length = n ∧ r = stp l p ++ r' ∧ p' = lastP l p
  | 0, acc, r, p, acc', r', p', h, _, _ => by
    rw [rp] at h; injection h with h1 h2; injection h1 with h1 h3; injection h3 with h3 _
    exact ⟨[], by rw [h2]; simp, rfl, by rw [h1]; rfl, h3.symm⟩
  | n + 1, acc, r, p, acc', r', p', h, hin, hp => by
    rw [rp, if_neg (by simp)] at h
    have hf : (rn (rn (r, p, false)).1).1.2.2 = false := by
      cases hb : (rn (rn (r, p, false)).1).1.2.2 with
      | false => rfl
      | true =>
        rw [rp_bad n _ (s := rnext (r, p, false)) hb] at h
        injection h with h1 _
        have := congrArg (fun s : RS => s.2.2) h1
        unfold rnext at this
        dsimp only at this
        rw [hb] at this; cases this
    rcases rn_cases (r, p, false) with ⟨dx, t, h1, h2, h3, h4⟩ | h5
    rotate_left 1
    · rw [h5] at hf; cases hf
    dsimp only at h1 h4
    subst h1
    rcases rn_cases (t, p, false) with ⟨dy, t2, g1, g2, g3, g4⟩ | h5
    rotate_left 1
    · rw [h4, h5] at hf; cases hf
    dsimp only at g1 g4
    subst g1
    have e3 : rstep (dx :: dy :: t2, p, false) = mv p dx dy := by unfold rstep; rw [h4, g4]
    have e4 : rnext (dx :: dy :: t2, p, false) = (t2, mv p dx dy, false) := by unfold rnext; rw [e3, h4, g4]
    rw [e3, e4] at h
    obtain ⟨u, hu⟩ := rp_pre n (acc ++ [mv p dx dy]) (t2, mv p dx dy, false)
    rw [h] at hu
    dsimp only at hu
    have hm : inE (mv p dx dy) := hin _ (by rw [hu]; simp)
    obtain ⟨l, e5, e6, e7, e8⟩ := rp_inv n _ t2 _ _ _ _ h hin hm
    have em := mv_in hp ⟨h2, by omega⟩ ⟨g2, by omega⟩
    refine ⟨mv p dx dy :: l, by rw [e5]; simp, by simp [e6], ?_, by rw [e8, lastP]⟩
    rw [stp, List.cons_append, List.cons_append, ← e7, em]
    dsimp only
    have a1 : p.1 + uz dx - p.1 = uz dx := by omega
    have a2 : p.2 + uz dy - p.2 = uz dy := by omega
    rw [a1, a2, zz_uz h2, zz_uz g2]
theorem rp1_enc (a : Pt) (rest : List Int) {q : Pt} (ha : inE a) (hq : inE q) : rp 1 [] (zz (a.1 - q.1) :: zz (a.2 - q.2) :: rest, q, false) = ((rest, a, false), [a]) := by
  have := rp_enc [a] [] rest q (by simpa using ha) hq
  simpa [stp, lastP] using this
theorem rpart_enc {k : Int} (hk : k = 2 ∨ k = 3) {l : List Pt} (rest : List Int) {q : Pt} (h0 : 2 ≤ l.length) (h9 : l.length ≤ 12000) (h : ∀ p ∈ l, inE p) (hq : inE q) : rpart k (encP k l q ++ rest, q, false) = ((rest, lastP l q, false), l) := by
  match l, h0, h9, h with
  | a :: m, h0, h9, h =>
    have ha := h a (by simp)
    have hmm : ∀ p ∈ m, inE p := fun p hp => h p (List.mem_cons_of_mem _ hp)
    simp only [List.length_cons] at h0 h9
    unfold rpart
    rw [encP_line hk]
    simp only [List.cons_append, List.append_assoc]
    rw [rn_good (x := 9) (by decide)]
    dsimp only
    rw [rp1_enc a _ ha hq]
    dsimp only
    rw [rn_good (by omega)]
    dsimp only
    have e1 : (2 + 8 * (m.length : Int)) % 8 = 2 := by omega
    have e2 : ((2 + 8 * (m.length : Int)) / 8).toNat = m.length := by omega
    rw [if_pos ⟨rfl, e1⟩, e2, rp_enc m [] _ a hmm ha]
    dsimp only
    rcases hk with rfl | rfl
    · rw [if_neg (by decide), if_neg (by decide)]; rfl
    · rw [if_pos rfl, if_pos rfl]
      simp only [List.cons_append, List.nil_append]
      rw [rn_good (x := 15) (by decide)]; rfl
theorem rn_pos {s : RS} (h : (rn s).2 ≠ 0) : ∃ t, s.1 = (rn s).2 :: t ∧ (rn s).1 = (t, s.2.1, s.2.2) ∧ 0 ≤ (rn s).2 ∧ (rn s).2 ≤ 100000 := by
  rcases rn_cases s with ⟨x, t, h1, h2, h3, h4⟩ | h5
  · rw [h4]; exact ⟨t, h1, rfl, h2, h3⟩
  · rw [h5] at h; exact absurd rfl h
theorem rpart_inv {k : Int} (hk : k = 2 ∨ k = 3) {r : List Int} {p : Pt} {l : List Pt} {r' : List Int} {p' : Pt} (h : rpart k (r, p, false) = ((r', p', false), l)) (hin : ∀ x ∈ l, inE x) (hp : inE p) : r = encP k l p ++ r' ∧ p' = lastP l p := by
  unfold rpart at h
  dsimp only at h
  split at h
  rotate_left 1
  · injection h with h1 _; cases h1
  rename_i hc
  obtain ⟨h9, h8⟩ := hc
  obtain ⟨t, e1, e2, _, _⟩ := rn_pos (s := (r, p, false)) (by rw [h9]; decide)
  rw [h9] at e1
  dsimp only at e1 e2
  rw [e2] at h h8
  generalize hb : rp 1 [] (t, p, false) = b at h h8
  obtain ⟨⟨r1, p1, f1⟩, l1⟩ := b
  dsimp only at h h8
  generalize hcn : rn (r1, p1, f1) = c at h h8
  have hv : (rn (r1, p1, f1)).2 ≠ 0 := by rw [hcn]; intro e; rw [e] at h8; exact absurd h8 (by decide)
  obtain ⟨t2, g1, g2, g3, g4⟩ := rn_pos hv
  rw [hcn] at g1 g2 g3 g4
  obtain ⟨c1, c2⟩ := c
  dsimp only at h h8 g1 g2 g3 g4
  subst g1; subst g2
  have f1f : f1 = false := by
    cases f1 with
    | false => rfl
    | true =>
      have := rp_flag 1 [] (t, p, false) (fun e => by cases e) (by rw [hb])
      rw [hb] at this; cases this
  subst f1f
  generalize hd : rp (c2 / 8).toNat [] (t2, p1, false) = d at h
  obtain ⟨⟨r3, p3, f3⟩, l2⟩ := d
  dsimp only at h
  have key : ∀ (fin : f3 = false) (hl : l = l1 ++ l2), r = 9 :: (stp l1 p ++ (c2 :: (stp l2 p1 ++ r3))) ∧ p1 = lastP l1 p ∧ p3 = lastP l2 p1 ∧ l1.length = 1 ∧ l2.length = (c2 / 8).toNat := fun fin hl => by
    subst fin
    have i1 : ∀ x ∈ l1, inE x := fun x hx => hin x (by rw [hl]; exact List.mem_append_left _ hx)
    have i2 : ∀ x ∈ l2, inE x := fun x hx => hin x (by rw [hl]; exact List.mem_append_right _ hx)
    obtain ⟨m1, a1, a2, a3, a4⟩ := rp_inv _ _ _ _ _ _ _ hb i1 hp
    rw [List.nil_append] at a1; subst a1
    have ip1 : inE p1 := by rw [a4]; exact lastP_in _ _ i1 hp
    obtain ⟨m2, b1, b2, b3, b4⟩ := rp_inv _ _ _ _ _ _ _ hd i2 ip1
    rw [List.nil_append] at b1; subst b1
    exact ⟨by rw [e1, a3, b3], a4, b4, a2, b2⟩
  have ee : ∀ r4, f3 = false → l = l1 ++ l2 → r3 = (if k = 3 then [15] else []) ++ r4 → r = encP k l p ++ r4 ∧ p3 = lastP l p := fun r4 fin hl hr3 => by
    obtain ⟨k1, k2, k3, k4, k5⟩ := key fin hl
    match l1, k4 with
    | [a], _ =>
      have ka : p1 = a := k2
      subst ka
      refine ⟨?_, by rw [hl, k3]; rfl⟩
      have ec : c2 = 2 + 8 * (l2.length : Int) := by omega
      rw [k1, hl, hr3, ec, List.cons_append, List.nil_append, encP_line hk]
      simp [stp]
  rcases hk with rfl | rfl
  · rw [if_neg (by decide)] at h
    injection h with h1 h2; injection h1 with h1 h3; injection h3 with h3 h4
    subst h1; subst h3
    exact ee _ h4 h2.symm rfl
  · rw [if_pos rfl] at h
    split at h
    rotate_left 1
    · injection h with h1 _; cases h1
    rename_i h15
    obtain ⟨t4, q1, q2, _, _⟩ := rn_pos (s := (r3, p3, f3)) (by rw [h15]; decide)
    rw [h15] at q1
    dsimp only at q1 q2
    rw [q2] at h
    injection h with h1 h2; injection h1 with h1 h3; injection h3 with h3 h4
    subst h1; subst h3
    exact ee _ h4 h2.symm q1
theorem rpart_lt (k : Int) (s : RS) (h : s.1 ≠ []) : (rpart k s).1.1.length < s.1.length := by
  have h0 : 1 ≤ s.1.length := by
    cases hs : s.1 with
    | nil => exact absurd hs h
    | cons a t => simp
  have a1 := (rn_le s).1
  have a2 := rp_le 1 [] (rn s).1
  have a3 := (rn_le (rp 1 [] (rn s).1).1).1
  unfold rpart
  dsimp only
  split
  · have a4 := rp_le ((rn (rp 1 [] (rn s).1).1).2 / 8).toNat [] (rn (rp 1 [] (rn s).1).1).1
    split
    · split
      · have a5 := (rn_le (rp ((rn (rp 1 [] (rn s).1).1).2 / 8).toNat [] (rn (rp 1 [] (rn s).1).1).1).1).1
        dsimp only; omega
      · simp [rbad]; omega
    · dsimp only; omega
  · simp [rbad]; omega
theorem rlp_stop {k : Int} {f : Nat} {s : RS} {out : List (List Pt)} (h : s.1 = [] ∨ s.2.2 = true) : rlp k f s out = (out, !s.2.2) := by
  cases f with
  | zero => rfl
  | succ f => rw [rlp, if_pos h]
theorem rlp_more {k : Int} {f : Nat} {s : RS} {out : List (List Pt)} {R : List (List Pt) × Bool} (h : rlp k f s out = R) (hf : s.1.length ≤ f) (h1 : s.1 ≠ []) (h2 : s.2.2 = false) : ∃ f', (rpart k s).1.1.length ≤ f' ∧ rlp k f' (rpart k s).1 (out ++ [(rpart k s).2]) = R := by
  have := rpart_lt k s h1
  cases f with
  | zero => omega
  | succ f =>
    rw [rlp, if_neg (by rintro (e | e); exact h1 e; rw [h2] at e; cases e)] at h
    exact ⟨f, by omega, h⟩
theorem rlp_enc {k : Int} (hk : k = 2 ∨ k = 3) : ∀ (ls out : List (List Pt)) (q : Pt) (f : Nat), (encA k ls q).length ≤ f → (∀ l ∈ ls, 2 ≤ l.length ∧ l.length ≤ 12000 ∧ ∀ p ∈ l, inE p) → inE q → rlp k f (encA k ls q, q, false) out = (out ++ ls, true)
  | [], out, q, f, _, _, _ => by rw [rlp_stop (Or.inl rfl)]; simp
  | l :: ls, out, q, f, hf, h, hq => by
    obtain ⟨h0, h9, h1⟩ := h l (by simp)
    obtain ⟨x, t, ex⟩ := encP_pos hk l q
    have hp := rpart_enc hk (encA k ls (lastP l q)) h0 h9 h1 hq
    rw [encA] at hf ⊢
    rw [ex, List.cons_append] at hf hp ⊢
    match f, hf with
    | f + 1, hf =>
      rw [rlp, if_neg (by simp), hp]
      dsimp only
      rw [rlp_enc hk ls _ _ f (by simp at hf; omega) (fun m hm => h m (List.mem_cons_of_mem _ hm)) (lastP_in l q h1 hq)]
      simp
theorem rlp_pre (k : Int) : ∀ (f : Nat) (s : RS) (out : List (List Pt)), ∃ t, (rlp k f s out).1 = out ++ t
  | 0, s, out => ⟨[], by rw [rlp]; simp⟩
  | f + 1, s, out => by
    rw [rlp]
    split
    · exact ⟨[], by simp⟩
    · obtain ⟨t, h⟩ := rlp_pre k f (rpart k s).1 (out ++ [(rpart k s).2])
      exact ⟨(rpart k s).2 :: t, by rw [h]; simp⟩
theorem rlp_inv {k : Int} (hk : k = 2 ∨ k = 3) : ∀ (f : Nat) (r : List Int) (p : Pt) (out ms : List (List Pt)), r.length ≤ f → rlp k f (r, p, false) out = (ms, true) → (∀ l ∈ ms, ∀ x ∈ l, inE x) → inE p → ∃ t, ms = out ++ t ∧ r = encA k t p
  | f, [], p, out, ms, _, h, _, _ => by
    rw [rlp_stop (Or.inl rfl)] at h
    injection h with h1 _
    exact ⟨[], by rw [h1]; simp, rfl⟩
  | 0, x :: r, p, out, ms, hf, _, _, _ => by simp at hf
  | f + 1, x :: r, p, out, ms, hf, h, hin, hp => by
    have hlt := rpart_lt k (x :: r, p, false) (by simp)
    rw [rlp, if_neg (by simp)] at h
    generalize hq : rpart k (x :: r, p, false) = q at h hlt
    obtain ⟨⟨r1, p1, f1⟩, l⟩ := q
    dsimp only at h hlt
    cases f1 with
    | true =>
      rw [rlp_stop (Or.inr rfl)] at h
      injection h with _ h2; cases h2
    | false =>
      obtain ⟨t, ht⟩ := rlp_pre k f (r1, p1, false) (out ++ [l])
      rw [h] at ht
      dsimp only at ht
      have hl : ∀ x ∈ l, inE x := hin l (by rw [ht]; simp)
      obtain ⟨e1, e2⟩ := rpart_inv hk hq hl hp
      have hp1 : inE p1 := by rw [e2]; exact lastP_in l p hl hp
      obtain ⟨t2, e3, e4⟩ := rlp_inv hk f r1 p1 _ ms (by simp at hf hlt; omega) h hin hp1
      exact ⟨l :: t2, by rw [e3]; simp, by rw [e1, encA, e4, e2]⟩
theorem rdec_of {k : Int} {l : List Int} {ms : List (List Pt)} (hr : I64s l) (hl : l.length ≤ 12000) (h : dec k l = some ms) : rdec k l = (ms, true) := by
  obtain ⟨hc, he⟩ := dec_inv hr h
  have hk := (chk_zero hc).1
  unfold vK at hk
  unfold rdec
  by_cases k1 : k = 1
  · subst k1
    obtain ⟨m, em, m1, e⟩ := one_of hc
    have hm : ∀ p ∈ m, inE p := fun p hp => (part_ok hc [p] (by rw [em]; exact List.mem_map.2 ⟨p, hp, rfl⟩)).1 p (by simp)
    rw [e] at he
    have hlen : m.length ≤ 12000 := by rw [← he, List.length_cons, stp_len] at hl; omega
    rw [← he, if_pos rfl, rn_good (by omega)]
    dsimp only
    have e1 : (1 + 8 * (m.length : Int)) % 8 = 1 := by omega
    have e2 : ((1 + 8 * (m.length : Int)) / 8).toNat = m.length := by omega
    rw [if_pos e1, e2]
    have := rp_enc m [] [] (0, 0) hm in0
    rw [List.append_nil] at this
    rw [this, em]; rfl
  · have hk2 : k = 2 ∨ k = 3 := by omega
    rw [if_neg k1]
    rw [enc_line hk2] at he
    rw [← he]
    have := rlp_enc hk2 ms [] (0, 0) _ (Nat.le_refl _) (fun l hl => ⟨two_of hk2 hc l hl, (part_ok hc l hl).2.2, (part_ok hc l hl).1⟩) in0
    rw [this, List.nil_append]
theorem dec_of_rdec {k : Int} {l : List Int} {ms : List (List Pt)} (h : rdec k l = (ms, true)) (hc : chk k ms = 0) : dec k l = some ms := by
  have hk := (chk_zero hc).1
  unfold vK at hk
  have hin : ∀ l ∈ ms, ∀ x ∈ l, inE x := fun l hl => (part_ok hc l hl).1
  have he : enc k ms = l := by
    unfold rdec at h
    by_cases k1 : k = 1
    · subst k1
      rw [if_pos rfl] at h
      dsimp only at h
      split at h
      rotate_left 1
      · injection h with _ h2; cases h2
      rename_i h8
      obtain ⟨t, e1, e2, e3, e4⟩ := rn_pos (s := (l, (0, 0), false)) (by intro e; rw [e] at h8; exact absurd h8 (by decide))
      dsimp only at e1 e2
      rw [e2] at h
      generalize (rn (l, (0, 0), false)).2 = x at h h8 e1 e3 e4
      generalize hb : rp (x / 8).toNat [] (t, (0, 0), false) = b at h
      obtain ⟨⟨r1, p1, f1⟩, m⟩ := b
      dsimp only at h
      injection h with h1 h2
      simp at h2
      obtain ⟨h2, h3⟩ := h2
      subst h2; subst h3; subst h1
      obtain ⟨m2, a1, a2, a3, a4⟩ := rp_inv _ _ _ _ _ _ _ hb (fun y hy => hin [y] (List.mem_map.2 ⟨y, hy, rfl⟩) y (by simp)) in0
      rw [List.nil_append] at a1; subst a1
      unfold enc
      rw [if_pos rfl, encA_one, List.length_map, e1, a3, List.append_nil]
      have : x = 1 + 8 * (m.length : Int) := by omega
      rw [this]; rfl
    · have hk2 : k = 2 ∨ k = 3 := by omega
      rw [if_neg k1] at h
      obtain ⟨t, e1, e2⟩ := rlp_inv hk2 _ _ _ _ _ (Nat.le_refl _) h hin in0
      rw [List.nil_append] at e1
      rw [enc_line hk2, e1, ← e2]
  rw [← he]; exact dec_enc hc
end Go.Proofs.YthlbenldgnjgcaaDoor
