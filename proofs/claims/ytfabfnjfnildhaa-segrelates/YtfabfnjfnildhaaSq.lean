/- seg: what Relate says, its symmetries, and the reference's list of common ends. -/
import Derived.Test.YtfabfnjfnildhaaSk
namespace Go.Proofs.Ytfabfnjfnildhaa
/- the smaller end of a segment, and the greater -/
def loF (a b c d : Int) : Int × Int := if lsB c d a b = true then (c, d) else (a, b)
def hiF (a b c d : Int) : Int × Int := if lsB c d a b = true then (a, b) else (c, d)
def shB (a b c d e f g h : Int) : Bool :=
  lsB (loF a b c d).1 (loF a b c d).2 (hiF e f g h).1 (hiF e f g h).2 && lsB (loF e f g h).1 (loF e f g h).2 (hiF a b c d).1 (hiF a b c d).2
def okB (a b c d e f g h : Int) : Bool := (vldB a b && vldB c d && vldB e f && vldB g h) && !(a == c && b == d) && !(e == g && f == h)
def stB (a b c d e f g h : Int) : Bool := trn a b c d e f == 0 && trn a b c d g h == 0
def enB (a b c d e f g h : Int) : Bool := onB a b e f g h || onB c d e f g h
def crB (a b c d e f g h : Int) : Bool := splB (trn a b c d e f) (trn a b c d g h) && splB (trn e f g h a b) (trn e f g h c d)
def relF (a b c d e f g h : Int) : Int :=
  if okB a b c d e f g h = true then (if crB a b c d e f g h = true then 2 else if (stB a b c d e f g h && shB a b c d e f g h) = true then 3 else if (enB a b c d e f g h || enB e f g h a b c d) = true then 1 else 0) else 0
theorem lo_sw (a b c d : Int) : loF c d a b = loF a b c d := by
  unfold loF
  by_cases h1 : lsB c d a b = true <;> by_cases h2 : lsB a b c d = true
  · rw [lsB_iff] at h1 h2; omega
  · rw [if_neg h2, if_pos h1]
  · rw [if_pos h2, if_neg h1]
  · rw [if_neg h2, if_neg h1]
    rw [lsB_iff] at h1 h2
    have e1 : a = c := by omega
    have e2 : b = d := by omega
    rw [e1, e2]
theorem hi_sw (a b c d : Int) : hiF c d a b = hiF a b c d := by
  unfold hiF
  by_cases h1 : lsB c d a b = true <;> by_cases h2 : lsB a b c d = true
  · rw [lsB_iff] at h1 h2; omega
  · rw [if_neg h2, if_pos h1]
  · rw [if_pos h2, if_neg h1]
  · rw [if_neg h2, if_neg h1]
    rw [lsB_iff] at h1 h2
    have e1 : a = c := by omega
    have e2 : b = d := by omega
    rw [e1, e2]
theorem zero_of {x y : Int} (h : x * y = 0) (hx : x ≠ 0) : y = 0 := by
  rcases Int.mul_eq_zero.1 h with h | h
  · exact absurd h hx
  · exact h
/- three points of one line -/
theorem line3 {p q r s a b c d e f : Int} (hn : p ≠ r ∨ q ≠ s) (h1 : tr p q r s a b = 0) (h2 : tr p q r s c d = 0) (h3 : tr p q r s e f = 0) : tr a b c d e f = 0 := by
  unfold tr at *
  have k1 : (r - p) * ((c - a) * (f - b) - (d - b) * (e - a)) = 0 := by grind
  have k2 : (s - q) * ((c - a) * (f - b) - (d - b) * (e - a)) = 0 := by grind
  by_cases h : p = r
  · exact zero_of k2 (by omega)
  · exact zero_of k1 (by omega)
theorem tr_a (a b c d : Int) : tr a b c d a b = 0 := by unfold tr; grind
theorem tr_c (a b c d : Int) : tr a b c d c d = 0 := by unfold tr; grind
theorem ok_valid {a b c d e f g h : Int} (k : okB a b c d e f g h = true) : (vldB a b = true ∧ vldB c d = true ∧ vldB e f = true ∧ vldB g h = true) ∧ (a ≠ c ∨ b ≠ d) ∧ (e ≠ g ∨ f ≠ h) := by
  unfold okB at k
  simp only [Bool.and_eq_true, Bool.not_eq_true', Bool.and_eq_false_iff, beq_eq_false_iff_ne] at k
  obtain ⟨⟨⟨⟨⟨h1, h2⟩, h3⟩, h4⟩, h5⟩, h6⟩ := k
  exact ⟨⟨h1, h2, h3, h4⟩, h5, h6⟩
theorem trn_ok {a b c d e f : Int} (h1 : vldB a b = true) (h2 : vldB c d = true) (h3 : vldB e f = true) : trn a b c d e f = tr a b c d e f := by
  unfold trn v3; rw [h1, h2, h3]; rfl
theorem st_imp {a b c d e f g h : Int} (k : okB a b c d e f g h = true) (s : stB a b c d e f g h = true) : stB e f g h a b c d = true := by
  obtain ⟨⟨v1, v2, v3, v4⟩, n1, n2⟩ := ok_valid k
  unfold stB at *
  rw [trn_ok v1 v2 v3, trn_ok v1 v2 v4] at s
  rw [trn_ok v3 v4 v1, trn_ok v3 v4 v2]
  simp only [Bool.and_eq_true, beq_iff_eq] at *
  exact ⟨line3 n1 s.1 s.2 (tr_a a b c d), line3 n1 s.1 s.2 (tr_c a b c d)⟩
theorem ok_sw (a b c d e f g h : Int) : okB e f g h a b c d = okB a b c d e f g h := by
  unfold okB; cases vldB a b <;> cases vldB c d <;> cases vldB e f <;> cases vldB g h <;> cases (a == c && b == d) <;> cases (e == g && f == h) <;> rfl
theorem ok_bk (a b c d e f g h : Int) : okB c d a b e f g h = okB a b c d e f g h := by
  unfold okB
  rw [show (c == a && d == b) = (a == c && b == d) by rw [Bool.eq_iff_iff]; simp; omega]
  cases vldB a b <;> cases vldB c d <;> cases vldB e f <;> cases vldB g h <;> rfl
theorem rel_sym (a b c d e f g h : Int) : relF e f g h a b c d = relF a b c d e f g h := by
  unfold relF
  rw [ok_sw]
  by_cases k : okB a b c d e f g h = true
  · rw [if_pos k, if_pos k]
    have s1 : stB e f g h a b c d = stB a b c d e f g h := by
      rw [Bool.eq_iff_iff]
      exact ⟨st_imp (by rw [ok_sw]; exact k), st_imp k⟩
    have s2 : shB e f g h a b c d = shB a b c d e f g h := by unfold shB; rw [Bool.and_comm]
    have s3 : crB e f g h a b c d = crB a b c d e f g h := by unfold crB; rw [Bool.and_comm]
    rw [s1, s2, s3, Bool.or_comm]
  · rw [if_neg k, if_neg k]
theorem spl_neg (u v : Int) : splB (-u) (-v) = splB u v := by unfold splB; rw [Bool.eq_iff_iff]; simp; omega
theorem spl_com (u v : Int) : splB v u = splB u v := by unfold splB; rw [Bool.eq_iff_iff]; simp; omega
theorem rel_bk (a b c d e f g h : Int) : relF c d a b e f g h = relF a b c d e f g h := by
  unfold relF
  rw [ok_bk]
  have s1 : stB c d a b e f g h = stB a b c d e f g h := by
    unfold stB; rw [trn_sw a b c d e f, trn_sw a b c d g h, Bool.eq_iff_iff]; simp
  have s2 : shB c d a b e f g h = shB a b c d e f g h := by unfold shB; rw [lo_sw a b c d, hi_sw a b c d]
  have s3 : crB c d a b e f g h = crB a b c d e f g h := by
    unfold crB; rw [trn_sw a b c d e f, trn_sw a b c d g h, spl_neg, spl_com (trn e f g h c d)]
  have s4 : enB c d a b e f g h = enB a b c d e f g h := by unfold enB; rw [Bool.or_comm]
  have s5 : enB e f g h c d a b = enB e f g h a b c d := by unfold enB; rw [onB_sw, onB_sw g h]
  rw [s1, s2, s3, s4, s5]
theorem rel_self {a b c d : Int} (v1 : vldB a b = true) (v2 : vldB c d = true) (hn : ¬ (a = c ∧ b = d)) : relF a b c d a b c d = 3 := by
  have k : okB a b c d a b c d = true := by
    unfold okB; rw [v1, v2]; simp; omega
  unfold relF
  rw [if_pos k]
  have t1 : trn a b c d a b = 0 := by rw [trn_ok v1 v2 v1]; exact tr_a a b c d
  have t2 : trn a b c d c d = 0 := by rw [trn_ok v1 v2 v2]; exact tr_c a b c d
  have s3 : crB a b c d a b c d = false := by unfold crB; rw [t1, t2]; rfl
  have s1 : stB a b c d a b c d = true := by unfold stB; rw [t1, t2]; rfl
  have s2 : shB a b c d a b c d = true := by
    unfold shB loF hiF
    by_cases q : lsB c d a b = true
    · rw [if_pos q, if_pos q]; simp [q]
    · rw [if_neg q, if_neg q]
      have : lsB a b c d = true := by rw [lsB_iff] at *; omega
      simp [this]
  rw [s3, s1, s2]; simp
theorem rel_range (a b c d e f g h : Int) : 0 ≤ relF a b c d e f g h ∧ relF a b c d e f g h ≤ 3 := by
  unfold relF; split
  · split
    · omega
    · split
      · omega
      · split <;> omega
  · omega
/- the reference's list of the ends on both segments -/
def stepL (L : List (Int × Int)) (x : (Int × Int) × Bool) : List (Int × Int) := if x.2 = true ∧ ¬ (x.1 ∈ L) then L ++ [x.1] else L
theorem step_mem (L : List (Int × Int)) (x : (Int × Int) × Bool) (p : Int × Int) : p ∈ stepL L x ↔ p ∈ L ∨ (x.1 = p ∧ x.2 = true) := by
  unfold stepL
  by_cases h : x.2 = true ∧ ¬ (x.1 ∈ L)
  · rw [if_pos h]; simp only [List.mem_append, List.mem_singleton]
    constructor
    · rintro (h1 | h1)
      · exact Or.inl h1
      · exact Or.inr ⟨h1.symm, h.1⟩
    · rintro (h1 | h1)
      · exact Or.inl h1
      · exact Or.inr h1.1.symm
  · rw [if_neg h]
    constructor
    · exact Or.inl
    · rintro (h1 | ⟨h1, h2⟩)
      · exact h1
      · subst h1
        by_cases k : x.1 ∈ L
        · exact k
        · exact absurd ⟨h2, k⟩ h
theorem step_nodup {L : List (Int × Int)} (x : (Int × Int) × Bool) (h : L.Nodup) : (stepL L x).Nodup := by
  unfold stepL
  by_cases k : x.2 = true ∧ ¬ (x.1 ∈ L)
  · rw [if_pos k, List.nodup_append]
    refine ⟨h, by simp, ?_⟩
    intro y hy z hz e
    simp only [List.mem_singleton] at hz
    subst hz e
    exact k.2 hy
  · rw [if_neg k]; exact h
theorem two_of_long {L : List (Int × Int)} (h : L.Nodup) (k : 1 < L.length) : ∃ p q, p ∈ L ∧ q ∈ L ∧ p ≠ q := by
  match L, k with
  | x :: y :: l, _ =>
    refine ⟨x, y, by simp, by simp, ?_⟩
    intro e; subst e
    simp at h
theorem long_of_two {L : List (Int × Int)} {p q : Int × Int} (hp : p ∈ L) (hq : q ∈ L) (hn : p ≠ q) : 1 < L.length := by
  match L with
  | [] => cases hp
  | [x] =>
    simp only [List.mem_singleton] at hp hq
    exact absurd (hp.trans hq.symm) hn
  | x :: y :: l => simp
def endL (a b c d e f g h : Int) : List (Int × Int) :=
  stepL (stepL (stepL (stepL [] ((a, b), onB a b a b c d && onB a b e f g h)) ((c, d), onB c d a b c d && onB c d e f g h)) ((e, f), onB e f a b c d && onB e f e f g h)) ((g, h), onB g h a b c d && onB g h e f g h)
theorem end_nodup (a b c d e f g h : Int) : (endL a b c d e f g h).Nodup := step_nodup _ (step_nodup _ (step_nodup _ (step_nodup _ List.nodup_nil)))
theorem end_mem (a b c d e f g h : Int) (p : Int × Int) : p ∈ endL a b c d e f g h ↔ (((a, b) = p ∨ (c, d) = p ∨ (e, f) = p ∨ (g, h) = p) ∧ onB p.1 p.2 a b c d = true ∧ onB p.1 p.2 e f g h = true) := by
  unfold endL
  rw [step_mem, step_mem, step_mem, step_mem]
  simp only [Bool.and_eq_true, List.not_mem_nil, false_or]
  constructor
  · rintro (((⟨rfl, h1⟩ | ⟨rfl, h1⟩) | ⟨rfl, h1⟩) | ⟨rfl, h1⟩)
    · exact ⟨Or.inl rfl, h1⟩
    · exact ⟨Or.inr (Or.inl rfl), h1⟩
    · exact ⟨Or.inr (Or.inr (Or.inl rfl)), h1⟩
    · exact ⟨Or.inr (Or.inr (Or.inr rfl)), h1⟩
  · rintro ⟨rfl | rfl | rfl | rfl, h1⟩
    · exact Or.inl (Or.inl (Or.inl ⟨rfl, h1⟩))
    · exact Or.inl (Or.inl (Or.inr ⟨rfl, h1⟩))
    · exact Or.inl (Or.inr ⟨rfl, h1⟩)
    · exact Or.inr ⟨rfl, h1⟩
/- on a segment: of its line, and between its ends in the order of points -/
theorem btw {L A v u : Int} (hL : 0 < L) (h0 : 0 ≤ A) (h1 : A ≤ L) (h : L * v = u * A) : (A = 0 → v = 0) ∧ (A = L → v = u) ∧ ((0 ≤ v ∧ v ≤ u) ∨ (u ≤ v ∧ v ≤ 0)) := by
  have e0 : A = 0 → v = 0 := fun e => by
    subst e; rw [Int.mul_zero] at h; exact zero_of h (by omega)
  have e1 : A = L → v = u := fun e => by
    subst e
    have : A * (v - u) = 0 := by rw [Int.mul_sub, h, Int.mul_comm u A]; omega
    have := zero_of this (by omega); omega
  refine ⟨e0, e1, ?_⟩
  by_cases a0 : A = 0
  · have := e0 a0; omega
  · by_cases aL : A = L
    · have := e1 aL; omega
    · exact between (by omega) (by omega) h
theorem box_lex {a b c d x y : Int} (ho : a < c ∨ a = c ∧ b ≤ d) (ht : tr a b c d x y = 0) :
    (minZ a c ≤ x ∧ x ≤ maxZ a c ∧ minZ b d ≤ y ∧ y ≤ maxZ b d) ↔ (¬ (x < a ∨ x = a ∧ y < b) ∧ ¬ (c < x ∨ c = x ∧ d < y)) := by
  unfold tr at ht
  have hm : minZ a c = a := by unfold minZ; split <;> omega
  have hx : maxZ a c = c := by unfold maxZ; split <;> omega
  rw [hm, hx]
  by_cases hac : a = c
  · subst hac
    have h1 : minZ b d = b := by unfold minZ; split <;> omega
    have h2 : maxZ b d = d := by unfold maxZ; split <;> omega
    rw [h1, h2]; omega
  · have e : (c - a) * (y - b) = (d - b) * (x - a) := by omega
    have mn : minZ b d ≤ y ∧ y ≤ maxZ b d ↔ (0 ≤ y - b ∧ y - b ≤ d - b) ∨ (d - b ≤ y - b ∧ y - b ≤ 0) := by
      unfold minZ maxZ; split <;> split <;> omega
    constructor
    · rintro ⟨h1, h2, h3⟩
      obtain ⟨k1, k2, _⟩ := btw (L := c - a) (A := x - a) (by omega) (by omega) (by omega) e
      omega
    · rintro ⟨h1, h2⟩
      obtain ⟨k1, k2, k3⟩ := btw (L := c - a) (A := x - a) (by omega) (by omega) (by omega) e
      exact ⟨by omega, by omega, mn.2 k3⟩
theorem on_raw {a b c d x y : Int} (v1 : vldB a b = true) (v2 : vldB c d = true) (v3 : vldB x y = true) : onB x y a b c d = true ↔ ((minZ a c ≤ x ∧ x ≤ maxZ a c ∧ minZ b d ≤ y ∧ y ≤ maxZ b d) ∧ tr a b c d x y = 0) := by
  have hg : goodB (minZ a c) (minZ b d) (maxZ a c) (maxZ b d) = true := by
    unfold vldB at v1 v2
    simp only [decide_eq_true_eq] at v1 v2
    unfold goodB minZ maxZ
    rw [decide_eq_true_eq]
    split <;> split <;> split <;> split <;> omega
  unfold onB vab hdB
  rw [v1, v2, v3, hg, trn_ok v1 v2 v3]
  simp
theorem on_lex {a b c d x y : Int} (v1 : vldB a b = true) (v2 : vldB c d = true) (v3 : vldB x y = true) :
    onB x y a b c d = true ↔ (¬ (x < (loF a b c d).1 ∨ x = (loF a b c d).1 ∧ y < (loF a b c d).2) ∧ ¬ ((hiF a b c d).1 < x ∨ (hiF a b c d).1 = x ∧ (hiF a b c d).2 < y) ∧ tr a b c d x y = 0) := by
  rw [on_raw v1 v2 v3]
  unfold loF hiF
  by_cases q : lsB c d a b = true
  · rw [if_pos q, if_pos q]
    rw [lsB_iff] at q
    have e : tr a b c d x y = - tr c d a b x y := by unfold tr; grind
    have m1 : minZ a c = minZ c a := by unfold minZ; split <;> split <;> omega
    have m2 : maxZ a c = maxZ c a := by unfold maxZ; split <;> split <;> omega
    have m3 : minZ b d = minZ d b := by unfold minZ; split <;> split <;> omega
    have m4 : maxZ b d = maxZ d b := by unfold maxZ; split <;> split <;> omega
    rw [m1, m2, m3, m4, e]
    constructor
    · rintro ⟨h1, h2⟩
      have := (box_lex (a := c) (b := d) (c := a) (d := b) (by omega) (by omega)).1 h1
      exact ⟨this.1, this.2, h2⟩
    · rintro ⟨h1, h2, h3⟩
      exact ⟨(box_lex (a := c) (b := d) (c := a) (d := b) (by omega) (by omega)).2 ⟨h1, h2⟩, h3⟩
  · rw [if_neg q, if_neg q]
    rw [lsB_iff] at q
    constructor
    · rintro ⟨h1, h2⟩
      have := (box_lex (by omega) h2).1 h1
      exact ⟨this.1, this.2, h2⟩
    · rintro ⟨h1, h2, h3⟩
      exact ⟨(box_lex (by omega) h3).2 ⟨h1, h2⟩, h3⟩
theorem lohi (a b c d : Int) (hn : a ≠ c ∨ b ≠ d) : ((loF a b c d).1 < (hiF a b c d).1 ∨ (loF a b c d).1 = (hiF a b c d).1 ∧ (loF a b c d).2 < (hiF a b c d).2) ∧
    (((a, b) = loF a b c d ∧ (c, d) = hiF a b c d) ∨ ((c, d) = loF a b c d ∧ (a, b) = hiF a b c d)) := by
  unfold loF hiF
  by_cases q : lsB c d a b = true
  · rw [if_pos q, if_pos q]
    rw [lsB_iff] at q
    exact ⟨by simpa using q, Or.inr ⟨rfl, rfl⟩⟩
  · rw [if_neg q, if_neg q]
    rw [lsB_iff] at q
    refine ⟨?_, Or.inl ⟨rfl, rfl⟩⟩
    show a < c ∨ a = c ∧ b < d
    omega
theorem sh_iff (a b c d e f g h : Int) : shB a b c d e f g h = true ↔ (((loF a b c d).1 < (hiF e f g h).1 ∨ (loF a b c d).1 = (hiF e f g h).1 ∧ (loF a b c d).2 < (hiF e f g h).2) ∧ ((loF e f g h).1 < (hiF a b c d).1 ∨ (loF e f g h).1 = (hiF a b c d).1 ∧ (loF e f g h).2 < (hiF a b c d).2)) := by
  unfold shB; rw [Bool.and_eq_true, lsB_iff, lsB_iff]
theorem end_val {a b c d e f g h : Int} {p : Int × Int} (v1 : vldB a b = true) (v2 : vldB c d = true) (v3 : vldB e f = true) (v4 : vldB g h = true) (hp : (a, b) = p ∨ (c, d) = p ∨ (e, f) = p ∨ (g, h) = p) : vldB p.1 p.2 = true := by
  rcases hp with rfl | rfl | rfl | rfl
  · exact v1
  · exact v2
  · exact v3
  · exact v4
theorem long_iff {a b c d e f g h : Int} (k : okB a b c d e f g h = true) : 1 < (endL a b c d e f g h).length ↔ (stB a b c d e f g h && shB a b c d e f g h) = true := by
  obtain ⟨⟨v1, v2, v3, v4⟩, n1, n2⟩ := ok_valid k
  rw [Bool.and_eq_true]
  constructor
  · intro hl
    obtain ⟨p, q, hp, hq, hpq⟩ := two_of_long (end_nodup _ _ _ _ _ _ _ _) hl
    rw [end_mem] at hp hq
    obtain ⟨hp0, hp1, hp2⟩ := hp
    obtain ⟨hq0, hq1, hq2⟩ := hq
    have vp := end_val v1 v2 v3 v4 hp0
    have vq := end_val v1 v2 v3 v4 hq0
    obtain ⟨p1, p2⟩ := p
    obtain ⟨q1, q2⟩ := q
    simp only at hp1 hp2 hq1 hq2 vp vq
    have hne : p1 ≠ q1 ∨ p2 ≠ q2 := by
      by_cases e1 : p1 = q1
      · right; intro e2; exact hpq (by rw [e1, e2])
      · exact Or.inl e1
    rw [on_lex v1 v2 vp] at hp1
    rw [on_lex v3 v4 vp] at hp2
    rw [on_lex v1 v2 vq] at hq1
    rw [on_lex v3 v4 vq] at hq2
    have A1 := line3 n1 hp1.2.2 hq1.2.2 (tr_a a b c d)
    have A2 := line3 n1 hp1.2.2 hq1.2.2 (tr_c a b c d)
    have B1 := line3 n2 hp2.2.2 hq2.2.2 (tr_a e f g h)
    have B2 := line3 n2 hp2.2.2 hq2.2.2 (tr_c e f g h)
    constructor
    · unfold stB
      rw [trn_ok v1 v2 v3, trn_ok v1 v2 v4, line3 hne A1 A2 B1, line3 hne A1 A2 B2]; rfl
    · rw [sh_iff]
      generalize loF a b c d = l1 at *
      generalize hiF a b c d = u1 at *
      generalize loF e f g h = l2 at *
      generalize hiF e f g h = u2 at *
      obtain ⟨hp11, hp12, _⟩ := hp1
      obtain ⟨hp21, hp22, _⟩ := hp2
      obtain ⟨hq11, hq12, _⟩ := hq1
      obtain ⟨hq21, hq22, _⟩ := hq2
      clear A1 A2 B1 B2 hp0 hq0 hl hpq k vp vq v1 v2 v3 v4
      constructor <;> omega
  · rintro ⟨hs, hh⟩
    have hs' := st_imp k hs
    unfold stB at hs hs'
    rw [trn_ok v1 v2 v3, trn_ok v1 v2 v4] at hs
    rw [trn_ok v3 v4 v1, trn_ok v3 v4 v2] at hs'
    simp only [Bool.and_eq_true, beq_iff_eq] at hs hs'
    rw [sh_iff] at hh
    obtain ⟨o1, m1⟩ := lohi a b c d n1
    obtain ⟨o2, m2⟩ := lohi e f g h n2
    have T1 : ∀ p : Int × Int, ((a, b) = p ∨ (c, d) = p ∨ (e, f) = p ∨ (g, h) = p) → tr a b c d p.1 p.2 = 0 ∧ tr e f g h p.1 p.2 = 0 := by
      rintro p (rfl | rfl | rfl | rfl)
      · exact ⟨tr_a _ _ _ _, hs'.1⟩
      · exact ⟨tr_c _ _ _ _, hs'.2⟩
      · exact ⟨hs.1, tr_a _ _ _ _⟩
      · exact ⟨hs.2, tr_c _ _ _ _⟩
    have E1 : ((a, b) = loF a b c d ∨ (c, d) = loF a b c d ∨ (e, f) = loF a b c d ∨ (g, h) = loF a b c d) := by
      rcases m1 with m | m
      · exact Or.inl m.1
      · exact Or.inr (Or.inl m.1)
    have E2 : ((a, b) = hiF a b c d ∨ (c, d) = hiF a b c d ∨ (e, f) = hiF a b c d ∨ (g, h) = hiF a b c d) := by
      rcases m1 with m | m
      · exact Or.inr (Or.inl m.2)
      · exact Or.inl m.2
    have E3 : ((a, b) = loF e f g h ∨ (c, d) = loF e f g h ∨ (e, f) = loF e f g h ∨ (g, h) = loF e f g h) := by
      rcases m2 with m | m
      · exact Or.inr (Or.inr (Or.inl m.1))
      · exact Or.inr (Or.inr (Or.inr m.1))
    have E4 : ((a, b) = hiF e f g h ∨ (c, d) = hiF e f g h ∨ (e, f) = hiF e f g h ∨ (g, h) = hiF e f g h) := by
      rcases m2 with m | m
      · exact Or.inr (Or.inr (Or.inr m.2))
      · exact Or.inr (Or.inr (Or.inl m.2))
    have M : ∀ p : Int × Int, ((a, b) = p ∨ (c, d) = p ∨ (e, f) = p ∨ (g, h) = p) →
        ¬ (p.1 < (loF a b c d).1 ∨ p.1 = (loF a b c d).1 ∧ p.2 < (loF a b c d).2) → ¬ ((hiF a b c d).1 < p.1 ∨ (hiF a b c d).1 = p.1 ∧ (hiF a b c d).2 < p.2) →
        ¬ (p.1 < (loF e f g h).1 ∨ p.1 = (loF e f g h).1 ∧ p.2 < (loF e f g h).2) → ¬ ((hiF e f g h).1 < p.1 ∨ (hiF e f g h).1 = p.1 ∧ (hiF e f g h).2 < p.2) → p ∈ endL a b c d e f g h := by
      intro p hp h1 h2 h3 h4
      have vp := end_val v1 v2 v3 v4 hp
      rw [end_mem]
      exact ⟨hp, (on_lex v1 v2 vp).2 ⟨h1, h2, (T1 p hp).1⟩, (on_lex v3 v4 vp).2 ⟨h3, h4, (T1 p hp).2⟩⟩
    have M1 := M _ E1
    have M2 := M _ E2
    have M3 := M _ E3
    have M4 := M _ E4
    clear M T1 E1 E2 E3 E4 m1 m2 hs hs' n1 n2 v1 v2 v3 v4 k
    generalize endL a b c d e f g h = LL at *
    generalize loF a b c d = l1 at *
    generalize hiF a b c d = u1 at *
    generalize loF e f g h = l2 at *
    generalize hiF e f g h = u2 at *
    have ne : ∀ {p q : Int × Int}, (p.1 < q.1 ∨ p.1 = q.1 ∧ p.2 < q.2) → p ≠ q := fun h e => by subst e; omega
    obtain ⟨h1, h2⟩ := hh
    by_cases cl : l1.1 < l2.1 ∨ l1.1 = l2.1 ∧ l1.2 < l2.2
    · by_cases cu : u1.1 < u2.1 ∨ u1.1 = u2.1 ∧ u1.2 < u2.2
      · exact long_of_two (M3 (by omega) (by omega) (by omega) (by omega)) (M2 (by omega) (by omega) (by omega) (by omega)) (ne h2)
      · exact long_of_two (M3 (by omega) (by omega) (by omega) (by omega)) (M4 (by omega) (by omega) (by omega) (by omega)) (ne o2)
    · by_cases cu : u1.1 < u2.1 ∨ u1.1 = u2.1 ∧ u1.2 < u2.2
      · exact long_of_two (M1 (by omega) (by omega) (by omega) (by omega)) (M2 (by omega) (by omega) (by omega) (by omega)) (ne o1)
      · exact long_of_two (M1 (by omega) (by omega) (by omega) (by omega)) (M4 (by omega) (by omega) (by omega) (by omega)) (ne h1)
theorem on_self {a b c d : Int} (v1 : vldB a b = true) (v2 : vldB c d = true) : onB a b a b c d = true ∧ onB c d a b c d = true := by
  rw [on_raw v1 v2 v1, on_raw v1 v2 v2]
  refine ⟨⟨?_, tr_a _ _ _ _⟩, ⟨?_, tr_c _ _ _ _⟩⟩ <;> (unfold minZ maxZ; split <;> split <;> split <;> split <;> omega)
theorem some_iff {a b c d e f g h : Int} (k : okB a b c d e f g h = true) : 0 < (endL a b c d e f g h).length ↔ (enB a b c d e f g h || enB e f g h a b c d) = true := by
  obtain ⟨⟨v1, v2, v3, v4⟩, _, _⟩ := ok_valid k
  have s1 := on_self v1 v2
  have s2 := on_self v3 v4
  rw [List.length_pos_iff_exists_mem]
  unfold enB
  simp only [Bool.or_eq_true]
  constructor
  · rintro ⟨p, hp⟩
    rw [end_mem] at hp
    obtain ⟨rfl | rfl | rfl | rfl, h1, h2⟩ := hp
    · exact Or.inl (Or.inl h2)
    · exact Or.inl (Or.inr h2)
    · exact Or.inr (Or.inl h1)
    · exact Or.inr (Or.inr h1)
  · rintro ((h1 | h1) | (h1 | h1))
    · exact ⟨(a, b), (end_mem _ _ _ _ _ _ _ _ _).2 ⟨Or.inl rfl, s1.1, h1⟩⟩
    · exact ⟨(c, d), (end_mem _ _ _ _ _ _ _ _ _).2 ⟨Or.inr (Or.inl rfl), s1.2, h1⟩⟩
    · exact ⟨(e, f), (end_mem _ _ _ _ _ _ _ _ _).2 ⟨Or.inr (Or.inr (Or.inl rfl)), h1, s2.1⟩⟩
    · exact ⟨(g, h), (end_mem _ _ _ _ _ _ _ _ _).2 ⟨Or.inr (Or.inr (Or.inr rfl)), h1, s2.2⟩⟩
theorem rel_ref {a b c d e f g h : Int} (k : okB a b c d e f g h = true) (hc : crB a b c d e f g h = false) :
    relF a b c d e f g h = if 1 < (endL a b c d e f g h).length then 3 else if (endL a b c d e f g h).length = 1 then 1 else 0 := by
  have h1 := long_iff k
  have h2 := some_iff k
  unfold relF
  rw [if_pos k, hc, if_neg (by simp)]
  by_cases q : (stB a b c d e f g h && shB a b c d e f g h) = true
  · rw [if_pos q, if_pos (h1.2 q)]
  · rw [if_neg q, if_neg (fun h => q (h1.1 h))]
    by_cases z : (enB a b c d e f g h || enB e f g h a b c d) = true
    · have q' : ¬ 1 < (endL a b c d e f g h).length := fun h => q (h1.1 h)
      have z' := h2.2 z
      rw [if_pos z, if_pos (by omega)]
    · rw [if_neg z, if_neg (fun h => z (h2.1 (by omega)))]
end Go.Proofs.Ytfabfnjfnildhaa
