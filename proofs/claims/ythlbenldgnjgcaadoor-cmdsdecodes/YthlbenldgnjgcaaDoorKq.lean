/- cmds: what Decode says, and that it inverts Encode. -/
import Derived.Test.YthlbenldgnjgcaaDoorKp
namespace Go.Proofs.YthlbenldgnjgcaaDoor
open Go.ChangeShapes Go.WideShapes Go.ChangeAt Go.RowKit Go.Joins Go.Deep

theorem uz_zz (d : Int) : uz (zz d) = d := by
  unfold uz zz; split <;> split <;> omega
theorem zz_uz {x : Int} (h : 0 ≤ x) : zz (uz x) = x := by
  unfold uz zz; split <;> split <;> omega
theorem zz_nonneg (d : Int) : 0 ≤ zz d := by unfold zz; split <;> omega
/- where a step leads -/
def mv (p : Pt) (dx dy : Int) : Pt := (IntKind.i64.wrap (p.1 + uz dx), IntKind.i64.wrap (p.2 + uz dy))
theorem wrap_in {x : Int} (h1 : -9223372036854775808 ≤ x) (h2 : x ≤ 9223372036854775807) : IntKind.i64.wrap x = x := by rw [IntKind.wrap_i64]; omega
theorem wrap_rng (x : Int) : ∃ k : Int, IntKind.i64.wrap x = x + 18446744073709551616 * k := by
  rw [IntKind.wrap_i64]
  exact ⟨-((x + 9223372036854775808) / 18446744073709551616), by omega⟩
theorem mv_zz {p q : Pt} (hp : inE p) (hq : inE q) : mv q (zz (p.1 - q.1)) (zz (p.2 - q.2)) = p := by
  unfold mv
  rw [uz_zz, uz_zz]
  obtain ⟨a, b⟩ := p
  obtain ⟨c, d⟩ := q
  unfold inE at hp hq
  dsimp only at hp hq ⊢
  rw [wrap_in (by omega) (by omega), wrap_in (by omega) (by omega)]
  ext <;> dsimp only <;> omega
/- what is read: n points behind those of acc -/
def rdA : Nat → List Pt → List Int → Pt → Option (List Pt × List Int × Pt)
  | 0, acc, r, p => some (acc, r, p)
  | n + 1, acc, dx :: dy :: r, p => if 0 ≤ dx ∧ 0 ≤ dy ∧ inE (mv p dx dy) then rdA n (acc ++ [mv p dx dy]) r (mv p dx dy) else none
  | _ + 1, _, _, _ => none
theorem rdA_stp : ∀ (l : List Pt) (acc : List Pt) (rest : List Int) (q : Pt), (∀ p ∈ l, inE p) → inE q → rdA l.length acc (stp l q ++ rest) q = some (acc ++ l, rest, lastP l q)
  | [], acc, rest, q, _, _ => by simp [rdA, stp, lastP]
  | a :: l, acc, rest, q, h, hq => by
    have ha := h a (by simp)
    rw [stp, List.length_cons, List.cons_append, List.cons_append, rdA, mv_zz ha hq, if_pos ⟨zz_nonneg _, zz_nonneg _, ha⟩, rdA_stp l _ rest a (fun p hp => h p (List.mem_cons_of_mem _ hp)) ha, lastP]
    simp
/- the wrap does nothing on the way from one point of the extent to another -/
theorem mv_in {p : Pt} {dx dy : Int} (hp : inE p) (h0 : 0 ≤ dx ∧ dx ≤ 9223372036854775807) (h1 : 0 ≤ dy ∧ dy ≤ 9223372036854775807) : mv p dx dy = (p.1 + uz dx, p.2 + uz dy) := by
  unfold mv
  obtain ⟨a, b⟩ := p
  unfold inE at hp
  dsimp only at hp ⊢
  have e0 : -4611686018427387904 ≤ uz dx ∧ uz dx ≤ 4611686018427387903 := by unfold uz; split <;> omega
  have e1 : -4611686018427387904 ≤ uz dy ∧ uz dy ≤ 4611686018427387903 := by unfold uz; split <;> omega
  rw [wrap_in (by omega) (by omega), wrap_in (by omega) (by omega)]
/- integers of 64 bits -/
def I64s (r : List Int) : Prop := ∀ x ∈ r, x ≤ 9223372036854775807
theorem rdA_inv : ∀ (n : Nat) (acc : List Pt) (r : List Int) (p : Pt) (acc' : List Pt) (r' : List Int) (p' : Pt), I64s r → inE p → rdA n acc r p = some (acc', r', p') → ∃ l : List Pt, acc' = acc ++ l ∧ l.length = n ∧ r = stp l p ++ r' ∧ p' = lastP l p ∧ (∀ x ∈ l, inE x)
  | 0, acc, r, p, acc', r', p', _, _, h => by
    rw [rdA] at h; injection h with h; injection h with h1 h2; injection h2 with h2 h3
    exact ⟨[], by rw [h1]; simp, rfl, by rw [h2]; rfl, h3.symm, fun x hx => by cases hx⟩
  | n + 1, acc, [], p, _, _, _, _, _, h => by simp [rdA] at h
  | n + 1, acc, [_], p, _, _, _, _, _, h => by simp [rdA] at h
  | n + 1, acc, dx :: dy :: r, p, acc', r', p', hr, hp, h => by
    rw [rdA] at h
    split at h
    · rename_i hc
      obtain ⟨h0, h1, h2⟩ := hc
      obtain ⟨l, e1, e2, e3, e4, e5⟩ := rdA_inv n _ r _ _ _ _ (fun x hx => hr x (by simp [hx])) h2 h
      have em := mv_in hp ⟨h0, hr dx (by simp)⟩ ⟨h1, hr dy (by simp)⟩
      refine ⟨mv p dx dy :: l, by rw [e1]; simp, by simp [e2], ?_, by rw [e4, lastP], ?_⟩
      · rw [stp, List.cons_append, List.cons_append, ← e3, em]
        dsimp only
        have a1 : p.1 + uz dx - p.1 = uz dx := by omega
        have a2 : p.2 + uz dy - p.2 = uz dy := by omega
        rw [a1, a2, zz_uz h0, zz_uz h1]
      · intro x hx
        rcases List.mem_cons.1 hx with rfl | hx
        · exact h2
        · exact e5 x hx
    · cases h
theorem rdA_short : ∀ (n : Nat) (acc : List Pt) (r : List Int) (p : Pt), r.length < 2 * n → rdA n acc r p = none
  | 0, _, _, _, h => by omega
  | n + 1, acc, [], p, _ => by simp [rdA]
  | n + 1, acc, [_], p, _ => by simp [rdA]
  | n + 1, acc, dx :: dy :: r, p, h => by
    rw [rdA]
    split
    · exact rdA_short n _ r _ (by simp at h; omega)
    · rfl
/- a command and its points -/
def nx : List Int → Pt → Option (Int × List Pt × List Int × Pt)
  | [], _ => none
  | x :: r, p => if (x % 8 = 1 ∨ x % 8 = 2) ∧ 1 ≤ x / 8 then (rdA (x / 8).toNat [] r p).map (fun t => (x % 8, t)) else if x = 15 then some (7, [], r, p) else none
theorem nx_pts {c : Int} (hc : c = 1 ∨ c = 2) {l : List Pt} (rest : List Int) {q : Pt} (h0 : 1 ≤ l.length) (h : ∀ p ∈ l, inE p) (hq : inE q) : nx ((c + 8 * (l.length : Int)) :: (stp l q ++ rest)) q = some (c, l, rest, lastP l q) := by
  have e1 : (c + 8 * (l.length : Int)) % 8 = c := by rcases hc with rfl | rfl <;> omega
  have e2 : (c + 8 * (l.length : Int)) / 8 = l.length := by rcases hc with rfl | rfl <;> omega
  rw [nx, e1, e2, if_pos ⟨hc, by omega⟩, Int.toNat_natCast, rdA_stp l [] rest q h hq]; rfl
theorem nx_close (r : List Int) (q : Pt) : nx (15 :: r) q = some (7, [], r, q) := by
  rw [nx, if_neg (by decide), if_pos rfl]
theorem nx_inv {r : List Int} {p : Pt} {id : Int} {l : List Pt} {r' : List Int} {p' : Pt} (hr : I64s r) (hp : inE p) (h : nx r p = some (id, l, r', p')) :
    ((id = 1 ∨ id = 2) ∧ 1 ≤ l.length ∧ r = (id + 8 * (l.length : Int)) :: (stp l p ++ r') ∧ p' = lastP l p ∧ ∀ x ∈ l, inE x) ∨ (id = 7 ∧ l = [] ∧ r = 15 :: r' ∧ p' = p) := by
  cases r with
  | nil => simp [nx] at h
  | cons x r =>
    rw [nx] at h
    split at h
    · rename_i hc
      left
      cases hd : rdA (x / 8).toNat [] r p with
      | none => rw [hd] at h; cases h
      | some t =>
        obtain ⟨l1, r1, p1⟩ := t
        rw [hd, Option.map_some] at h
        injection h with h; injection h with h1 h2; injection h2 with h2 h3; injection h3 with h3 h4
        subst h1; subst h2; subst h3; subst h4
        obtain ⟨l, e1, e2, e3, e4, e5⟩ := rdA_inv _ _ _ _ _ _ _ (fun y hy => hr y (List.mem_cons_of_mem _ hy)) hp hd
        rw [List.nil_append] at e1
        subst e1
        have ex : x = x % 8 + 8 * (l1.length : Int) := by rw [e2]; omega
        exact ⟨hc.1, by omega, by rw [← ex, e3], e4, e5⟩
    · split at h
      · rename_i hx
        right
        injection h with h; injection h with h1 h2; injection h2 with h2 h3; injection h3 with h3 h4
        exact ⟨h1.symm, h2.symm, by rw [hx, h3], h4.symm⟩
      · cases h
theorem nx_shorter {r : List Int} {p : Pt} {id : Int} {l : List Pt} {r' : List Int} {p' : Pt} (hr : I64s r) (hp : inE p) (h : nx r p = some (id, l, r', p')) : r'.length < r.length ∧ inE p' ∧ I64s r' := by
  rcases nx_inv hr hp h with ⟨_, _, e, e2, e3⟩ | ⟨_, _, e, e2⟩
  · rw [e2]; rw [e] at hr
    exact ⟨by rw [e]; simp; omega, lastP_in _ _ e3 hp, fun x hx => hr x (by simp [hx])⟩
  · rw [e2]; rw [e] at hr
    exact ⟨by rw [e]; simp, hp, fun x hx => hr x (by simp [hx])⟩
/- a part of a line or of an area -/
def prt (k : Int) (r : List Int) (p : Pt) : Option (List Pt × List Int × Pt) :=
  match nx r p with
  | some (i1, l1, r1, p1) =>
    if i1 = 1 ∧ l1.length = 1 then
      match nx r1 p1 with
      | some (i2, l2, r2, p2) =>
        if i2 = 2 then
          (if k = 3 then (match nx r2 p2 with
            | some (i3, _, r3, p3) => if i3 = 7 then some (l1 ++ l2, r3, p3) else none
            | none => none) else some (l1 ++ l2, r2, p2))
        else none
      | none => none
    else none
  | none => none
theorem lastP_app : ∀ (l m : List Pt) (q : Pt), lastP (l ++ m) q = lastP m (lastP l q)
  | [], _, _ => rfl
  | a :: l, m, q => by rw [List.cons_append, lastP, lastP_app l m a, lastP]
theorem prt_enc {k : Int} (hk : k = 2 ∨ k = 3) {l : List Pt} (rest : List Int) {q : Pt} (h0 : 2 ≤ l.length) (h : ∀ p ∈ l, inE p) (hq : inE q) : prt k (encP k l q ++ rest) q = some (l, rest, lastP l q) := by
  match l, h0, h with
  | a :: m, h0, h =>
    have hm : 1 ≤ m.length := by simp at h0; omega
    have ha := h a (by simp)
    have hmm : ∀ p ∈ m, inE p := fun p hp => h p (List.mem_cons_of_mem _ hp)
    have k1 : k ≠ 1 := by omega
    have e0 : encP k (a :: m) q ++ rest = (1 + 8 * (([a] : List Pt).length : Int)) :: (stp [a] q ++ ((2 + 8 * (m.length : Int)) :: (stp m a ++ ((if k = 3 then [15] else []) ++ rest)))) := by
      unfold encP
      rw [if_neg k1]
      simp [stp, lastP]
    unfold prt
    rw [e0, nx_pts (Or.inl rfl) _ (by simp) (by simpa using ha) hq]
    dsimp only
    rw [if_pos ⟨rfl, rfl⟩]
    have el : lastP [a] q = a := rfl
    rw [el, nx_pts (Or.inr rfl) _ hm hmm ha]
    dsimp only
    rw [if_pos rfl]
    rcases hk with rfl | rfl
    · rw [if_neg (by decide), if_neg (by decide)]; rfl
    · rw [if_pos rfl, if_pos rfl, List.cons_append, List.nil_append, nx_close]; rfl
theorem prt_inv {k : Int} (hk : k = 2 ∨ k = 3) {r : List Int} {p : Pt} {l : List Pt} {r' : List Int} {p' : Pt} (hr : I64s r) (hp : inE p) (h : prt k r p = some (l, r', p')) : 2 ≤ l.length ∧ (∀ x ∈ l, inE x) ∧ r = encP k l p ++ r' ∧ p' = lastP l p ∧ I64s r' := by
  unfold prt at h
  cases h1 : nx r p with
  | none => rw [h1] at h; cases h
  | some t1 =>
    obtain ⟨i1, l1, r1, p1⟩ := t1
    rw [h1] at h; dsimp only at h
    split at h
    · rename_i c1
      obtain ⟨rfl, c1⟩ := c1
      obtain ⟨s1, s2, s3⟩ := nx_shorter hr hp h1
      cases h2 : nx r1 p1 with
      | none => rw [h2] at h; cases h
      | some t2 =>
        obtain ⟨i2, l2, r2, p2⟩ := t2
        rw [h2] at h; dsimp only at h
        split at h
        · rename_i c2
          subst c2
          obtain ⟨s4, s5, s6⟩ := nx_shorter s3 s2 h2
          obtain ⟨_, _, e1, e2, e3⟩ := (nx_inv hr hp h1).resolve_right (fun hh => absurd hh.1 (by decide))
          obtain ⟨_, f0, f1, f2, f3⟩ := (nx_inv s3 s2 h2).resolve_right (fun hh => absurd hh.1 (by decide))
          match l1, c1 with
          | [a], _ =>
          have ep : p1 = a := e2
          subst ep
          have all : ∀ x ∈ [p1] ++ l2, inE x := fun x hx => by
            rcases List.mem_append.1 hx with hx | hx
            · exact e3 x hx
            · exact f3 x hx
          have ln : 2 ≤ ([p1] ++ l2).length := by simp; omega
          have k1 : k ≠ 1 := by omega
          have ee : ∀ r3, r = (1 + 8 * (([p1] : List Pt).length : Int)) :: (stp [p1] p ++ ((2 + 8 * (l2.length : Int)) :: (stp l2 p1 ++ ((if k = 3 then [15] else []) ++ r3)))) → r = encP k ([p1] ++ l2) p ++ r3 := fun r3 er => by
            rw [er]; unfold encP; rw [if_neg k1]; simp [stp, lastP]
          rcases hk with rfl | rfl
          · rw [if_neg (by decide)] at h
            injection h with h; injection h with h1 h2; injection h2 with h2 h3
            subst h1; subst h2; subst h3
            refine ⟨ln, all, ee _ ?_, by rw [f2, lastP_app]; rfl, s6⟩
            rw [e1, f1, if_neg (by decide)]; rfl
          · rw [if_pos rfl] at h
            cases h3 : nx r2 p2 with
            | none => rw [h3] at h; cases h
            | some t3 =>
              obtain ⟨i3, l3, r3, p3⟩ := t3
              rw [h3] at h; dsimp only at h
              split at h
              · rename_i c3
                subst c3
                obtain ⟨_, _, s9⟩ := nx_shorter s6 s5 h3
                obtain ⟨_, _, g1, g2⟩ := (nx_inv s6 s5 h3).resolve_left (fun hh => absurd hh.1 (by decide))
                injection h with h; injection h with h1 h2; injection h2 with h2 h3
                subst h1; subst h2; subst h3
                refine ⟨ln, all, ee _ ?_, by rw [g2, f2, lastP_app]; rfl, s9⟩
                rw [e1, f1, g1, if_pos rfl]; rfl
              · cases h
        · cases h
    · cases h
/- all parts -/
def dcA (k : Int) : Nat → List (List Pt) → List Int → Pt → Option (List (List Pt))
  | _, acc, [], _ => some acc
  | 0, _, _ :: _, _ => none
  | f + 1, acc, x :: r, p => match prt k (x :: r) p with
    | some (l, r', q) => dcA k f (acc ++ [l]) r' q
    | none => none
theorem dcA_nil (k : Int) (f : Nat) (acc : List (List Pt)) (p : Pt) : dcA k f acc [] p = some acc := by cases f <;> rfl
theorem encP_pos {k : Int} (hk : k = 2 ∨ k = 3) (l : List Pt) (q : Pt) : ∃ x t, encP k l q = x :: t := by
  have k1 : k ≠ 1 := by omega
  unfold encP; rw [if_neg k1]
  exact ⟨9, _, rfl⟩
theorem dcA_enc {k : Int} (hk : k = 2 ∨ k = 3) : ∀ (ls acc : List (List Pt)) (q : Pt) (f : Nat), (encA k ls q).length ≤ f → (∀ l ∈ ls, 2 ≤ l.length ∧ ∀ p ∈ l, inE p) → inE q → dcA k f acc (encA k ls q) q = some (acc ++ ls)
  | [], acc, q, f, _, _, _ => by rw [encA, dcA_nil, List.append_nil]
  | l :: ls, acc, q, f, hf, h, hq => by
    obtain ⟨h0, h1⟩ := h l (by simp)
    obtain ⟨x, t, ex⟩ := encP_pos hk l q
    have hp := prt_enc hk (encA k ls (lastP l q)) h0 h1 hq
    rw [encA] at hf ⊢
    rw [ex, List.cons_append] at hp hf ⊢
    match f, hf with
    | f + 1, hf =>
      rw [dcA, hp]
      dsimp only
      rw [dcA_enc hk ls _ _ f (by simp at hf; omega) (fun m hm => h m (List.mem_cons_of_mem _ hm)) (lastP_in l q h1 hq)]
      simp
theorem dcA_inv {k : Int} (hk : k = 2 ∨ k = 3) : ∀ (f : Nat) (acc : List (List Pt)) (r : List Int) (p : Pt) (ls : List (List Pt)), I64s r → inE p → dcA k f acc r p = some ls → ∃ t, ls = acc ++ t ∧ r = encA k t p
  | f, acc, [], p, ls, _, _, h => by
    rw [dcA_nil] at h; injection h with h
    exact ⟨[], by rw [h]; simp, rfl⟩
  | 0, acc, x :: r, p, ls, _, _, h => by rw [dcA] at h; cases h
  | f + 1, acc, x :: r, p, ls, hr, hp, h => by
    rw [dcA] at h
    cases h1 : prt k (x :: r) p with
    | none => rw [h1] at h; cases h
    | some t1 =>
      obtain ⟨l, r1, p1⟩ := t1
      rw [h1] at h; dsimp only at h
      obtain ⟨g0, g1, g2, g3, g4⟩ := prt_inv hk hr hp h1
      have hp1 : inE p1 := by rw [g3]; exact lastP_in l p g1 hp
      obtain ⟨t, e1, e2⟩ := dcA_inv hk f _ r1 p1 ls g4 hp1 h
      refine ⟨l :: t, by rw [e1]; simp, ?_⟩
      rw [g2, encA, e2, g3]
/- what Decode says -/
def prts (k : Int) (l : List Int) : Option (List (List Pt)) :=
  if k = 1 then (match nx l (0, 0) with
    | some (i, m, r, _) => if i = 1 ∧ r = [] then some (m.map fun p => [p]) else none
    | none => none)
  else dcA k l.length [] l (0, 0)
def dec (k : Int) (l : List Int) : Option (List (List Pt)) :=
  match prts k l with
  | some ls => if chk k ls = 0 then some ls else none
  | none => none
theorem in0 : inE (0, 0) := by decide
theorem encA_one : ∀ (m : List Pt) (q : Pt), encA 1 (m.map fun p => [p]) q = stp m q
  | [], _ => rfl
  | a :: m, q => by
    rw [List.map_cons, encA, stp]
    have e : encP 1 [a] q = [zz (a.1 - q.1), zz (a.2 - q.2)] := rfl
    have e2 : lastP [a] q = a := rfl
    rw [e, e2, encA_one m a]; rfl
theorem ones_eq : ∀ (ls : List (List Pt)), (∀ l ∈ ls, l.length = 1) → ∃ m : List Pt, ls = m.map fun p => [p]
  | [], _ => ⟨[], rfl⟩
  | l :: ls, h => by
    obtain ⟨m, e⟩ := ones_eq ls (fun x hx => h x (List.mem_cons_of_mem _ hx))
    have hl := h l (by simp)
    match l, hl with
    | [a], _ => exact ⟨a :: m, by rw [e]; rfl⟩
theorem dec_enc {k : Int} {ls : List (List Pt)} (h : chk k ls = 0) : dec k (enc k ls) = some ls := by
  obtain ⟨hk, h0, h1⟩ := chk_zero h
  unfold vK at hk
  have hP : prts k (enc k ls) = some ls := by
    unfold prts enc
    by_cases k1 : k = 1
    · subst k1
      have hl : ∀ l ∈ ls, l.length = 1 := fun l hl => by
        have := (cpt_zero (h1 l hl)).1; unfold shK at this; omega
      obtain ⟨m, rfl⟩ := ones_eq ls hl
      have hm : ∀ p ∈ m, inE p := fun p hp => (cpt_zero (h1 [p] (List.mem_map.2 ⟨p, hp, rfl⟩))).2.2 p (by simp)
      have h2 : 1 ≤ m.length := by
        cases m with
        | nil => exact absurd rfl h0
        | cons a m => simp
      rw [if_pos rfl, if_pos rfl, encA_one, List.length_map]
      have := nx_pts (c := 1) (Or.inl rfl) [] h2 hm in0
      rw [List.append_nil] at this
      rw [List.cons_append, List.nil_append, this]
      dsimp only
      rw [if_pos ⟨rfl, rfl⟩]
    · rw [if_neg k1, if_neg k1, List.nil_append]
      have hk2 : k = 2 ∨ k = 3 := by omega
      have := dcA_enc hk2 ls [] (0, 0) _ (Nat.le_refl _) (fun l hl => ⟨by have := (cpt_zero (h1 l hl)).1; unfold shK at this; omega, (cpt_zero (h1 l hl)).2.2⟩) in0
      rw [this, List.nil_append]
  unfold dec
  rw [hP]; dsimp only; rw [if_pos h]
theorem dec_inv {k : Int} {l : List Int} {ls : List (List Pt)} (hr : I64s l) (h : dec k l = some ls) : chk k ls = 0 ∧ enc k ls = l := by
  unfold dec at h
  cases hP : prts k l with
  | none => rw [hP] at h; cases h
  | some t =>
    rw [hP] at h; dsimp only at h
    split at h
    · rename_i hc
      injection h with h; subst h
      refine ⟨hc, ?_⟩
      obtain ⟨hk, h0, h1⟩ := chk_zero hc
      unfold vK at hk
      unfold prts at hP
      unfold enc
      by_cases k1 : k = 1
      · subst k1
        rw [if_pos rfl] at hP ⊢
        cases h2 : nx l (0, 0) with
        | none => rw [h2] at hP; cases hP
        | some u =>
          obtain ⟨i, m, r, p⟩ := u
          rw [h2] at hP; dsimp only at hP
          split at hP
          · rename_i hc2
            obtain ⟨rfl, rfl⟩ := hc2
            injection hP with hP; subst hP
            obtain ⟨_, _, e1, _⟩ := (nx_inv hr in0 h2).resolve_right (fun hh => absurd hh.1 (by decide))
            rw [encA_one, List.length_map, e1, List.append_nil]; rfl
          · cases hP
      · rw [if_neg k1] at hP ⊢
        obtain ⟨t2, e1, e2⟩ := dcA_inv (by omega) _ _ _ _ _ hr in0 hP
        rw [List.nil_append] at e1 ⊢
        rw [e1, ← e2]
    · cases h
/- the next kind, and the list without its last integer -/
theorem encP_line {k : Int} (hk : k = 2 ∨ k = 3) (a : Pt) (m : List Pt) (q : Pt) : encP k (a :: m) q = 9 :: zz (a.1 - q.1) :: zz (a.2 - q.2) :: (2 + 8 * (m.length : Int)) :: (stp m a ++ (if k = 3 then [15] else [])) := by
  have k1 : k ≠ 1 := by omega
  unfold encP; rw [if_neg k1]; simp [stp, lastP]
theorem zz_inj {a b : Int} (h : zz a = zz b) : a = b := by have := congrArg uz h; rwa [uz_zz, uz_zz] at this
theorem stp_inj : ∀ (l m : List Pt) (q : Pt) (r s : List Int), l.length = m.length → stp l q ++ r = stp m q ++ s → l = m ∧ r = s
  | [], [], _, _, _, _, h => ⟨rfl, h⟩
  | [], _ :: _, _, _, _, hl, _ => by simp at hl
  | _ :: _, [], _, _, _, hl, _ => by simp at hl
  | a :: l, b :: m, q, r, s, hl, h => by
    rw [stp, stp, List.cons_append, List.cons_append, List.cons_append, List.cons_append] at h
    injection h with h1 h
    injection h with h2 h
    have e1 := zz_inj h1; have e2 := zz_inj h2
    have e : a = b := by
      obtain ⟨a1, a2⟩ := a; obtain ⟨b1, b2⟩ := b
      dsimp only at e1 e2
      have : a1 = b1 := by omega
      have : a2 = b2 := by omega
      subst a1; subst a2; rfl
    subst e
    obtain ⟨e3, e4⟩ := stp_inj l m a r s (by simpa using hl) h
    exact ⟨by rw [e3], e4⟩
theorem encP_inj {k : Int} (hk : k = 2 ∨ k = 3) {l m : List Pt} (hl : 2 ≤ l.length) (hm : 2 ≤ m.length) {q : Pt} {r s : List Int} (h : encP k l q ++ r = encP k m q ++ s) : l = m ∧ r = s := by
  match l, m, hl, hm with
  | a :: l, b :: m, _, _ =>
    rw [encP_line hk, encP_line hk] at h
    simp only [List.cons_append, List.append_assoc] at h
    injection h with _ h
    injection h with h1 h
    injection h with h2 h
    injection h with h3 h
    have e1 := zz_inj h1; have e2 := zz_inj h2
    have e : a = b := by
      obtain ⟨a1, a2⟩ := a; obtain ⟨b1, b2⟩ := b
      dsimp only at e1 e2
      have : a1 = b1 := by omega
      have : a2 = b2 := by omega
      subst a1; subst a2; rfl
    subst e
    obtain ⟨e3, e4⟩ := stp_inj l m a _ _ (by omega) h
    refine ⟨by rw [e3], List.append_cancel_left e4⟩
theorem encA_short {k : Int} (hk : k = 2 ∨ k = 3) : ∀ (ls ms : List (List Pt)) (q : Pt) (x : Int), (∀ l ∈ ls, 2 ≤ l.length) → (∀ l ∈ ms, 2 ≤ l.length) → encA k ls q = encA k ms q ++ [x] → False
  | [], ms, q, x, _, _, h => by rw [encA] at h; simp at h
  | l :: ls, [], q, x, hl, _, h => by
    have h2 := hl l (by simp)
    match l, h2 with
    | a :: b :: l, _ =>
      rw [encA, encA, encP_line hk] at h
      simp at h
  | l :: ls, m :: ms, q, x, hl, hm, h => by
    rw [encA, encA, List.append_assoc] at h
    obtain ⟨e, h⟩ := encP_inj hk (hl l (by simp)) (hm m (by simp)) h
    subst e
    exact encA_short hk ls ms _ x (fun y hy => hl y (List.mem_cons_of_mem _ hy)) (fun y hy => hm y (List.mem_cons_of_mem _ hy)) h
theorem two_of {k : Int} (hk : k = 2 ∨ k = 3) {ls : List (List Pt)} (h : chk k ls = 0) : ∀ l ∈ ls, 2 ≤ l.length := fun l hl => by
  have := (cpt_zero ((chk_zero h).2.2 l hl)).1
  unfold shK at this; omega
theorem one_of {ls : List (List Pt)} (h : chk 1 ls = 0) : ∃ m : List Pt, ls = (m.map fun p => [p]) ∧ 1 ≤ m.length ∧ enc 1 ls = (1 + 8 * (m.length : Int)) :: stp m (0, 0) := by
  obtain ⟨_, h0, h1⟩ := chk_zero h
  obtain ⟨m, rfl⟩ := ones_eq ls (fun l hl => by
    have := (cpt_zero (h1 l hl)).1; unfold shK at this; omega)
  refine ⟨m, rfl, ?_, ?_⟩
  · cases m with
    | nil => exact absurd rfl h0
    | cons a m => simp
  · unfold enc; rw [if_pos rfl, encA_one, List.length_map]; rfl
theorem enc_line {k : Int} (hk : k = 2 ∨ k = 3) (ls : List (List Pt)) : enc k ls = encA k ls (0, 0) := by
  unfold enc; rw [if_neg (by omega)]; rfl
theorem enc_head {k : Int} (hk : k = 2 ∨ k = 3) {ls : List (List Pt)} (h : chk k ls = 0) : ∃ (a b : Pt) (l : List Pt) (t : List (List Pt)), ls = (a :: b :: l) :: t ∧ enc k ls = 9 :: zz a.1 :: zz a.2 :: (2 + 8 * ((b :: l).length : Int)) :: (stp (b :: l) a ++ ((if k = 3 then [15] else []) ++ encA k t (lastP (a :: b :: l) (0, 0)))) := by
  obtain ⟨_, h0, _⟩ := chk_zero h
  have h2 := two_of hk h
  match ls, h0, h2 with
  | l :: t, _, h2 =>
    have h3 := h2 l (by simp)
    match l, h3 with
    | a :: b :: l, _ =>
      refine ⟨a, b, l, t, rfl, ?_⟩
      rw [enc_line hk, encA, encP_line hk]
      simp
theorem dec_cut {k : Int} {l : List Int} {ls : List (List Pt)} (hr : I64s l) (h : dec k l = some ls) : dec k l.dropLast = none := by
  obtain ⟨hc, he⟩ := dec_inv hr h
  cases hd : dec k l.dropLast with
  | none => rfl
  | some ms =>
    exfalso
    obtain ⟨hc2, he2⟩ := dec_inv (fun x hx => hr x (List.dropLast_subset l hx)) hd
    have hk := (chk_zero hc).1
    unfold vK at hk
    have hne : l ≠ [] := by
      intro e; subst e
      by_cases k1 : k = 1
      · subst k1
        obtain ⟨m, _, _, e⟩ := one_of hc
        rw [e] at he; cases he
      · obtain ⟨a, b, l, t, _, e⟩ := enc_head (by omega) hc
        rw [e] at he; cases he
    obtain ⟨x, hl⟩ : ∃ x, l = l.dropLast ++ [x] := ⟨l.getLast hne, (List.dropLast_concat_getLast hne).symm⟩
    by_cases k1 : k = 1
    · subst k1
      obtain ⟨m, _, m1, e⟩ := one_of hc
      obtain ⟨m', _, m1', e'⟩ := one_of hc2
      rw [e] at he; rw [e'] at he2
      rw [← he2, ← he, List.cons_append] at hl
      injection hl with hl1 hl2
      have := congrArg List.length hl2
      rw [List.length_append, stp_len, stp_len] at this
      simp at this; omega
    · have hk2 : k = 2 ∨ k = 3 := by omega
      rw [enc_line hk2] at he he2
      rw [← he2] at hl
      rw [← he] at hl
      exact encA_short hk2 _ _ _ _ (two_of hk2 hc) (two_of hk2 hc2) hl
theorem dec_other {k k' : Int} {ls : List (List Pt)} (h : chk k ls = 0) (hk' : k' = k % 3 + 1) (hr : I64s (enc k ls)) : dec k' (enc k ls) = none := by
  cases hd : dec k' (enc k ls) with
  | none => rfl
  | some ms =>
    exfalso
    obtain ⟨hc2, he⟩ := dec_inv hr hd
    have hk := (chk_zero h).1
    unfold vK at hk
    have key : ∀ k, (k = 2 ∨ k = 3) → ∀ (m : List Pt) (ls : List (List Pt)), 1 ≤ m.length → chk k ls = 0 → enc k ls = (1 + 8 * (m.length : Int)) :: stp m (0, 0) → False := fun k hk m ls hm hc e => by
      obtain ⟨a, b, l, t, _, e2⟩ := enc_head hk hc
      rw [e2] at e
      injection e with e3 e4
      have := congrArg List.length e4
      rw [stp_len] at this
      simp at this; omega
    rcases (by omega : k = 1 ∨ k = 2 ∨ k = 3) with rfl | rfl | rfl
    · have : k' = 2 := by rw [hk']; rfl
      subst this
      obtain ⟨m, _, m1, e⟩ := one_of h
      rw [e] at he
      exact key 2 (Or.inl rfl) m ms m1 hc2 he
    · have : k' = 3 := by rw [hk']; rfl
      subst this
      obtain ⟨a, b, l, t, _, e1⟩ := enc_head (Or.inl rfl) h
      obtain ⟨a', b', l', t', _, e2⟩ := enc_head (Or.inr rfl) hc2
      rw [e1, e2] at he
      injection he with _ he
      injection he with h1 he
      injection he with h2 he
      injection he with h3 he
      have e1 := zz_inj h1; have e2 := zz_inj h2
      have e : a' = a := by
        obtain ⟨a1, a2⟩ := a; obtain ⟨b1, b2⟩ := a'
        dsimp only at e1 e2
        subst e1; subst e2; rfl
      subst e
      obtain ⟨_, e4⟩ := stp_inj _ _ _ _ _ (by omega) he
      rw [if_pos rfl, if_neg (by decide)] at e4
      match t, e4 with
      | [], e4 => cases e4
      | u :: t, e4 =>
        rw [encA] at e4
        have h2 := two_of (Or.inl rfl) h u (by subst_vars; simp)
        match u, h2 with
        | c :: d :: u, _ =>
          rw [encP_line (Or.inl rfl)] at e4
          injection e4 with e5 _
          cases e5
    · have : k' = 1 := by rw [hk']; rfl
      subst this
      obtain ⟨m, _, m1, e⟩ := one_of hc2
      rw [e] at he
      exact key 3 (Or.inr rfl) m ls m1 h he.symm
end Go.Proofs.YthlbenldgnjgcaaDoor
