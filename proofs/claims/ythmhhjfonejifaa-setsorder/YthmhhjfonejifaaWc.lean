/- choose, and what stands on it. -/
import Derived.Test.YthmhhjfonejifaaWb
namespace Go.Proofs.Ythmhhjfonejifaa
open Go.ChangeShapes Go.WideShapes Go.ChangeAt Go.RowKit Go.Joins Go.Deep

def Pf (f : Bool → Bool → Bool) (A B : List Int) (x : Int) : Prop := (x ∈ A ∨ x ∈ B) ∧ f (decide (x ∈ A)) (decide (x ∈ B)) = true
structure Mg (f : Bool → Bool → Bool) (Q : Int → Prop) (N : Nat) (A B O : List Int) : Prop where
  sa : SInc A
  sb : SInc B
  so : SInc O
  oa : ∀ o ∈ O, ∀ a ∈ A, o < a
  ob : ∀ o ∈ O, ∀ b ∈ B, o < b
  mem : ∀ x, (x ∈ O ∨ Pf f A B x) ↔ Q x
  len : O.length + A.length + B.length ≤ N
theorem Mg.step {f : Bool → Bool → Bool} {Q : Int → Prop} {N : Nat} {A B A' B' O : List Int} {x : Int} {p q : Bool} (h : Mg f Q N A B O)
    (hA : A = if p then x :: A' else A') (hB : B = if q then x :: B' else B') (hpq : p = true ∨ q = true) (ha : ∀ y ∈ A', x < y) (hb : ∀ y ∈ B', x < y) :
    Mg f Q N A' B' (if f p q then O ++ [x] else O) := by
  have sa : SInc A' := by
    have := h.sa; rw [hA] at this; cases p
    · simpa using this
    · simp at this; exact this.2
  have sb : SInc B' := by
    have := h.sb; rw [hB] at this; cases q
    · simpa using this
    · simp at this; exact this.2
  have hxA : x ∉ A' := fun k => by have := ha x k; omega
  have hxB : x ∉ B' := fun k => by have := hb x k; omega
  have mA : ∀ y, y ∈ A ↔ (p = true ∧ y = x) ∨ y ∈ A' := fun y => by rw [hA]; cases p <;> simp
  have mB : ∀ y, y ∈ B ↔ (q = true ∧ y = x) ∨ y ∈ B' := fun y => by rw [hB]; cases q <;> simp
  have ox : ∀ o ∈ O, o < x := fun o ho => by
    rcases hpq with e | e
    · exact h.oa o ho x ((mA x).2 (Or.inl ⟨e, rfl⟩))
    · exact h.ob o ho x ((mB x).2 (Or.inl ⟨e, rfl⟩))
  have oa : ∀ o ∈ O, ∀ a ∈ A', o < a := fun o ho a ha' => h.oa o ho a ((mA a).2 (Or.inr ha'))
  have ob : ∀ o ∈ O, ∀ b ∈ B', o < b := fun o ho b hb' => h.ob o ho b ((mB b).2 (Or.inr hb'))
  have hlen : O.length + 1 + A'.length + B'.length ≤ N := by
    have := h.len; rw [hA, hB] at this
    cases p <;> cases q <;> simp at this hpq ⊢ <;> omega
  have dA : decide (x ∈ A) = p := by
    have := mA x; cases p <;> simp [hxA] at this ⊢ <;> exact this
  have dB : decide (x ∈ B) = q := by
    have := mB x; cases q <;> simp [hxB] at this ⊢ <;> exact this
  have oth : ∀ y, y ≠ x → (Pf f A B y ↔ Pf f A' B' y) := fun y hy => by
    have e1 : y ∈ A ↔ y ∈ A' := by rw [mA]; simp [hy]
    have e2 : y ∈ B ↔ y ∈ B' := by rw [mB]; simp [hy]
    unfold Pf
    rw [decide_eq_decide.2 e1, decide_eq_decide.2 e2, e1, e2]
  have hx : Pf f A B x ↔ f p q = true := by
    unfold Pf; rw [dA, dB]
    constructor
    · exact fun k => k.2
    · refine fun k => ⟨?_, k⟩
      rcases hpq with e | e
      · exact Or.inl ((mA x).2 (Or.inl ⟨e, rfl⟩))
      · exact Or.inr ((mB x).2 (Or.inl ⟨e, rfl⟩))
  have nx : ¬ Pf f A' B' x := fun k => by rcases k.1 with k | k <;> contradiction
  have nO : x ∉ O := fun k => by have := ox x k; omega
  by_cases hf : f p q = true
  · rw [if_pos hf]
    refine ⟨sa, sb, ?_, ?_, ?_, ?_, by simp; omega⟩
    · rw [SInc, List.pairwise_append]
      exact ⟨h.so, by simp, fun a ha' b hb' => by simp at hb'; subst hb'; exact ox a ha'⟩
    · intro o ho a ha'
      rw [List.mem_append] at ho
      rcases ho with ho | ho
      · exact oa o ho a ha'
      · simp at ho; subst ho; exact ha a ha'
    · intro o ho a ha'
      rw [List.mem_append] at ho
      rcases ho with ho | ho
      · exact ob o ho a ha'
      · simp at ho; subst ho; exact hb a ha'
    · intro y
      rw [← h.mem y, List.mem_append]
      by_cases hy : y = x
      · subst hy; simp [hx, hf]
      · rw [oth y hy]; simp [hy]
  · rw [if_neg hf]
    refine ⟨sa, sb, h.so, oa, ob, ?_, by omega⟩
    intro y
    rw [← h.mem y]
    by_cases hy : y = x
    · subst hy; simp [hx, hf, nx]
    · rw [oth y hy]
theorem Mg.stop {f : Bool → Bool → Bool} {Q : Int → Prop} {N : Nat} {O : List Int} (h : Mg f Q N [] [] O) : SInc O ∧ (∀ x, x ∈ O ↔ Q x) ∧ O.length ≤ N :=
  ⟨h.so, fun x => by have := h.mem x; unfold Pf at this; simpa using this, by have := h.len; simpa using this⟩
theorem Mg.start {f : Bool → Bool → Bool} {l m A B : List Int} (hA : IsSet l A) (hB : IsSet m B) (N : Nat) (hN : A.length + B.length ≤ N) : Mg f (Pf f l m) N A B [] := by
  refine ⟨hA.1, hB.1, List.Pairwise.nil, by simp, by simp, fun x => ?_, by simpa using hN⟩
  unfold Pf
  have e1 : decide (x ∈ A) = decide (x ∈ l) := decide_eq_decide.2 (hA.2 x)
  have e2 : decide (x ∈ B) = decide (x ∈ m) := decide_eq_decide.2 (hB.2 x)
  rw [e1, e2, hA.2 x, hB.2 x]; simp
def lenOf : Value → Nat
  | .slice _ n _ => n
  | _ => 0
/- the head and the tail of a slice -/
theorem IntsAt.cons {w : World} {v : Value} {x : Int} {l : List Int} (h : IntsAt w v (x :: l)) : ∃ b off cap, v = .slice (some ⟨b, off, none⟩) (l.length + 1) cap ∧ l.length + 1 ≤ cap ∧ w.cell? ⟨b, off, none⟩ = some (.int .i64 x) ∧
    (cap = 1 → IntsAt w (.slice (some ⟨b, off, none⟩) l.length (cap - 1)) l) ∧ (1 < cap → IntsAt w (.slice (some ⟨b, off + 1, none⟩) l.length (cap - 1)) l) := by
  obtain ⟨a, cap, rfl, hc, h2⟩ := h
  rcases h2 with h2 | ⟨b, off, rfl, hlt, hcell⟩
  · cases h2
  · simp at hc
    refine ⟨b, off, cap, rfl, hc, by simpa using hcell 0 (by simp), ?_, ?_⟩
    · intro e
      have : l = [] := by apply List.eq_nil_of_length_eq_zero; omega
      subst this
      exact ⟨_, _, rfl, Nat.zero_le _, Or.inl rfl⟩
    · intro _
      refine ⟨_, _, rfl, by omega, ?_⟩
      refine Or.inr ⟨b, off + 1, rfl, hlt, fun j hj => ?_⟩
      have := hcell (j + 1) (by simpa using hj)
      rw [show off + 1 + j = off + (j + 1) by omega, this]; simp

theorem head_all {a : Int} {A : List Int} (h : SInc (a :: A)) : ∀ y ∈ A, a < y := by
  rw [SInc, List.pairwise_cons] at h; exact h.1
theorem head_lt {x b : Int} {B : List Int} (h : SInc (b :: B)) (hx : x < b) : ∀ y ∈ b :: B, x < y := by
  intro y hy
  rw [List.mem_cons] at hy
  rcases hy with e | hy
  · omega
  · have := head_all h y hy; omega
theorem oldc {w w' : World} {p : Addr} {v : Value} (hb : Below w.heap.size w w') (h : w.cell? p = some v) : w'.cell? p = some v := by rw [hb.cell (cell_lt h)]; exact h
/- the row has grown by one -/
theorem row_more {w2 w3 w4 : World} {o : Obj} {O : List Int} {x : Int} {v v' : Value} (B : Below w2.heap.size w2 w3) (R : w3.ownsRow w2.heap.size 3 1 v O.length (nums O)) (hg : (w3.alloc o).grownBy w4 v.ownBlock) (hr : w4.ownsRow w2.heap.size 3 1 v' (O.length + 1) (nums O ++ [.int .i64 x])) :
    Below w2.heap.size w2 w4 ∧ w4.ownsRow w2.heap.size 3 1 v' (O ++ [x]).length (nums (O ++ [x])) := by
  refine ⟨(B.alloc B.size o).grown hg (by have := B.size; simp; omega) (row_base R), ?_⟩
  have e : (O ++ [x]).length = O.length + 1 := by simp
  rw [e, nums_append]; exact hr

set_option maxRecDepth 100000 in
set_option maxHeartbeats 8000000 in
theorem choose_any (g : FuncId) (f : Bool → Bool → Bool) (hfn : ∀ (args : Array Value) (w : World), Sem.run Try.prog (callFunc g args) w = .ok (.enter g args) w) (hk : ∀ p q w, Calls Try.prog g #[.bool p, .bool q] w fun e w' => e = .returned (.bool (f p q)) ∧ w = w')
    {w : World} {v u : Value} {l m : List Int} (h : IntsAt w v l) (h' : IntsAt w u m) (hl : l.length ≤ 1000000) (hm : m.length ≤ 1000000) :
    Calls Try.prog 51 #[v, u, .func (.func g) #[] #[]] w fun e w' => ∃ r s, e = .returned r ∧ IntsAt w' r s ∧ SInc s ∧ (∀ x, x ∈ s ↔ Pf f l m x) ∧ s.length ≤ l.length + m.length ∧ Below w.heap.size w w' := by
  have HK := Lib.hid hk; have HI := Lib.hid h; have HJ := Lib.hid h'; clear hk
  obtain ⟨a, cap, rfl⟩ := h.form
  obtain ⟨a2, cap2, rfl⟩ := h'.form
  obtain ⟨i0, hi, hz0, hz1, hz2⟩ := info_parts Try.info3
  have II := Lib.hid hi; have Z0 := Lib.hid hz0; have Z1 := Lib.hid hz1; have Z2 := Lib.hid hz2
  clear h h' hi hz0 hz1 hz2
  go_enter Try.func51, Try.ntmps51
  go_wp2_with fail
  refine (of_any HI.out hl).mono ?_; rintro e w1 ⟨v1, A, rfl, hsA, hiA, hlA, hb1⟩
  have SA := Lib.hid hsA; have IA := Lib.hid hiA; have LA := Lib.hid hlA; have B1 := Lib.hid hb1; clear hsA hiA hlA hb1
  go_wp2_with fail
  refine (of_any (HJ.out.below B1.out) hm).mono ?_; rintro e w2 ⟨v2, B, rfl, hsB, hiB, hlB, hb2⟩
  have M0 : Hid (Mg f (Pf f l m) (l.length + m.length) A B []) := Mg.start SA.out hsB _ (by have := LA.out; omega)
  have IA2 := Lib.hid (IA.out.below hb2); have IB2 := Lib.hid hiB; have B2 := Lib.hid (B1.out.trans (hb2.mono B1.out.size))
  clear hsB hiB hlB hb2 IA B1 SA LA HI HJ
  go_wp2_with fail
  go_loopw [0, 1, 7] (fun s0 s1 s7 wr => ∃ (A B O : List Int), Hid (Mg f (Pf f l m) (l.length + m.length) A B O) ∧ Hid (IntsAt w2 s0 A) ∧ Hid (IntsAt w2 s1 B) ∧ Hid (wr.ownsRow w2.heap.size 3 1 s7 O.length (nums O)) ∧ Hid (Below w2.heap.size w2 wr)) (fun s0 s1 _ _ => lenOf s0 + lenOf s1)
  case atStart => exact ⟨A, B, [], M0, IA2, IB2, World.ownsRow_nil _ _ _ _, Below.refl _ _⟩
  case round =>
    clear M0 IA2 IB2
    obtain ⟨A, B, O, M, IA, IB, RO, BB⟩ := hrel
    have hol : O.length ≤ 2000000 := by have := M.out.len; omega
    obtain ⟨a7, c7, rfl⟩ := row_form RO.out
    cases A with
    | nil =>
      obtain ⟨aA, cA, rfl⟩ := IA.out.form
      cases B with
      | nil =>
        obtain ⟨aB, cB, rfl⟩ := IB.out.form
        go_wp2
        go_ret
        exact ⟨_, O, rfl, IntsAt.of_row RO.out, M.out.stop.1, M.out.stop.2.1, M.out.stop.2.2, B2.out.trans (BB.out.mono B2.out.size)⟩
      | cons b B' =>
        obtain ⟨bb, ob, cb, rfl, hcb, cb0, tb1, tb2⟩ := IB.out.cons
        obtain ⟨nb, hnb⟩ : ∃ n, B'.length + 1 = n := ⟨_, rfl⟩
        have kb0 := oldc BB.out cb0
        rw [hnb] at hcb
        rw [hnb]
        have TB1 := Lib.hid tb1; have TB2 := Lib.hid tb2; have HNB := Lib.hid hnb
        have gb1 : 0 < nb := by omega
        clear tb1 tb2 hnb cb0
        have gb2 : (0 : Int) < (nb : Int) := by omega
        have gb3 : ((nb : Int) == 0) = false := by simp; omega
        have gb4 : (1 : Int) ≤ (nb : Int) := by omega
        have gb5 : (nb : Int) ≤ (cb : Int) := by omega
        have MS := Lib.hid (M.out.step (x := b) (p := false) (q := true) (A' := []) (B' := B') rfl rfl (by simp) (fun y hy => by cases hy) (head_all M.out.sb))
        by_cases hB1 : cb = 1
        · subst hB1
          have NA := IA
          have NB : Hid (IntsAt w2 (.slice (some ⟨bb, ob, none⟩) (nb - 1) (1 - 1)) B') := by show IntsAt _ _ _; have := TB1.out rfl; rw [show nb - 1 = B'.length by have := HNB.out; omega]; exact this
          obtain rfl : nb = 1 := by omega
          go_wp2_with fail
          go_quiet (fail)
          go_wp2_with fail
          go_quiet (fail)
          go_wp2_with fail
          go_quiet (fail)
          go_wp2_with fail
          refine (HK.out _ _ _).mono ?_; rintro e w3 ⟨rfl, hw3⟩
          have B3 : Hid (Below w2.heap.size w2 w3) := by show Below _ _ _; rw [← hw3]; exact below_drewN BB.out _
          have R3 : Hid (w3.ownsRow w2.heap.size 3 1 (.slice a7 O.length c7) O.length (nums O)) := by show World.ownsRow _ _ _ _ _ _ _; rw [← hw3]; exact RO.out
          have hbs : w2.heap.size ≤ w3.heap.size := B3.out.size
          clear hw3
          cases hf : f false true
          · have MF : Hid (Mg f (Pf f l m) (l.length + m.length) [] B' O) := by have := MS.out; rw [hf] at this; exact this
            clear hf
            go_wp2_with fail
            go_roundw
            case rel => exact ⟨_, _, O, MF, NA, NB, R3, B3⟩
            case measure => first | (simp [lenOf]; done) | (simp [lenOf]; omega)
          · have MF : Hid (Mg f (Pf f l m) (l.length + m.length) [] B' (O ++ [b])) := by have := MS.out; rw [hf] at this; exact this
            clear hf
            go_wp2_with (at_builtin; refine wpList_append_own_at _ rfl _ _ 22 rfl w2.heap.size 3 i0 (.int .i64 0) 1 8 Try.underlying22 II.out Z0.out Z1.out Z2.out rfl (by decide) _ _ _ rfl (R3.out.alloc _) ⟨w3.heap.size, 0, none⟩ 1 1 [.int .i64 b] rfl rfl (cell_one_new _ _ _) (by simp [Value.oneCell']) (by unfold maxLen; omega) (by omega) (by simp; omega) ?_; intro v' w4 hown' hgrow hnil hloc; obtain ⟨a', cap', hv'⟩ := row_form hown'; subst hv'; have R4 := Lib.hid hown'; have G4 := Lib.hid hgrow; clear hown' hgrow hloc hnil)
            have RM := row_more B3.out R3.out G4.out R4.out
            have R5 := Lib.hid RM.2; have B5 := Lib.hid RM.1; clear RM
            go_roundw
            case rel => exact ⟨_, _, O ++ [b], MF, NA, NB, R5, B5⟩
            case measure => first | (simp [lenOf]; done) | (simp [lenOf]; omega)
        · have hB2 : 1 < cb := by omega
          have NA := IA
          have NB : Hid (IntsAt w2 (.slice (some ⟨bb, ob + 1, none⟩) (nb - 1) (cb - 1)) B') := by show IntsAt _ _ _; have := TB2.out (by omega); rw [show nb - 1 = B'.length by have := HNB.out; omega]; exact this
          go_wp2_with fail
          go_quiet (fail)
          go_wp2_with fail
          go_quiet (fail)
          go_wp2_with fail
          go_quiet (fail)
          go_wp2_with fail
          refine (HK.out _ _ _).mono ?_; rintro e w3 ⟨rfl, hw3⟩
          have B3 : Hid (Below w2.heap.size w2 w3) := by show Below _ _ _; rw [← hw3]; exact below_drewN BB.out _
          have R3 : Hid (w3.ownsRow w2.heap.size 3 1 (.slice a7 O.length c7) O.length (nums O)) := by show World.ownsRow _ _ _ _ _ _ _; rw [← hw3]; exact RO.out
          have hbs : w2.heap.size ≤ w3.heap.size := B3.out.size
          clear hw3
          cases hf : f false true
          · have MF : Hid (Mg f (Pf f l m) (l.length + m.length) [] B' O) := by have := MS.out; rw [hf] at this; exact this
            clear hf
            go_wp2_with fail
            go_roundw
            case rel => exact ⟨_, _, O, MF, NA, NB, R3, B3⟩
            case measure => first | (simp [lenOf]; done) | (simp [lenOf]; omega)
          · have MF : Hid (Mg f (Pf f l m) (l.length + m.length) [] B' (O ++ [b])) := by have := MS.out; rw [hf] at this; exact this
            clear hf
            go_wp2_with (at_builtin; refine wpList_append_own_at _ rfl _ _ 22 rfl w2.heap.size 3 i0 (.int .i64 0) 1 8 Try.underlying22 II.out Z0.out Z1.out Z2.out rfl (by decide) _ _ _ rfl (R3.out.alloc _) ⟨w3.heap.size, 0, none⟩ 1 1 [.int .i64 b] rfl rfl (cell_one_new _ _ _) (by simp [Value.oneCell']) (by unfold maxLen; omega) (by omega) (by simp; omega) ?_; intro v' w4 hown' hgrow hnil hloc; obtain ⟨a', cap', hv'⟩ := row_form hown'; subst hv'; have R4 := Lib.hid hown'; have G4 := Lib.hid hgrow; clear hown' hgrow hloc hnil)
            have RM := row_more B3.out R3.out G4.out R4.out
            have R5 := Lib.hid RM.2; have B5 := Lib.hid RM.1; clear RM
            go_roundw
            case rel => exact ⟨_, _, O ++ [b], MF, NA, NB, R5, B5⟩
            case measure => first | (simp [lenOf]; done) | (simp [lenOf]; omega)
    | cons a A' =>
      cases B with
      | nil =>
        obtain ⟨aB, cB, rfl⟩ := IB.out.form
        obtain ⟨ba, oa, ca, rfl, hca, ca0, ta1, ta2⟩ := IA.out.cons
        obtain ⟨na, hna⟩ : ∃ n, A'.length + 1 = n := ⟨_, rfl⟩
        have ka0 := oldc BB.out ca0
        rw [hna] at hca
        rw [hna]
        have TA1 := Lib.hid ta1; have TA2 := Lib.hid ta2; have HNA := Lib.hid hna
        have ga1 : 0 < na := by omega
        clear ta1 ta2 hna ca0
        have ga2 : (0 : Int) < (na : Int) := by omega
        have ga3 : ((na : Int) == 0) = false := by simp; omega
        have ga4 : (1 : Int) ≤ (na : Int) := by omega
        have ga5 : (na : Int) ≤ (ca : Int) := by omega
        have MS := Lib.hid (M.out.step (x := a) (p := true) (q := false) (A' := A') (B' := []) rfl rfl (by simp) (head_all M.out.sa) (fun y hy => by cases hy))
        by_cases hA1 : ca = 1
        · subst hA1
          have NA : Hid (IntsAt w2 (.slice (some ⟨ba, oa, none⟩) (na - 1) (1 - 1)) A') := by show IntsAt _ _ _; have := TA1.out rfl; rw [show na - 1 = A'.length by have := HNA.out; omega]; exact this
          have NB := IB
          obtain rfl : na = 1 := by omega
          go_wp2_with fail
          go_quiet (fail)
          go_wp2_with fail
          go_quiet (fail)
          go_wp2_with fail
          go_quiet (fail)
          go_wp2_with fail
          refine (HK.out _ _ _).mono ?_; rintro e w3 ⟨rfl, hw3⟩
          have B3 : Hid (Below w2.heap.size w2 w3) := by show Below _ _ _; rw [← hw3]; exact below_drewN BB.out _
          have R3 : Hid (w3.ownsRow w2.heap.size 3 1 (.slice a7 O.length c7) O.length (nums O)) := by show World.ownsRow _ _ _ _ _ _ _; rw [← hw3]; exact RO.out
          have hbs : w2.heap.size ≤ w3.heap.size := B3.out.size
          clear hw3
          cases hf : f true false
          · have MF : Hid (Mg f (Pf f l m) (l.length + m.length) A' [] O) := by have := MS.out; rw [hf] at this; exact this
            clear hf
            go_wp2_with fail
            go_roundw
            case rel => exact ⟨_, _, O, MF, NA, NB, R3, B3⟩
            case measure => first | (simp [lenOf]; done) | (simp [lenOf]; omega)
          · have MF : Hid (Mg f (Pf f l m) (l.length + m.length) A' [] (O ++ [a])) := by have := MS.out; rw [hf] at this; exact this
            clear hf
            go_wp2_with (at_builtin; refine wpList_append_own_at _ rfl _ _ 22 rfl w2.heap.size 3 i0 (.int .i64 0) 1 8 Try.underlying22 II.out Z0.out Z1.out Z2.out rfl (by decide) _ _ _ rfl (R3.out.alloc _) ⟨w3.heap.size, 0, none⟩ 1 1 [.int .i64 a] rfl rfl (cell_one_new _ _ _) (by simp [Value.oneCell']) (by unfold maxLen; omega) (by omega) (by simp; omega) ?_; intro v' w4 hown' hgrow hnil hloc; obtain ⟨a', cap', hv'⟩ := row_form hown'; subst hv'; have R4 := Lib.hid hown'; have G4 := Lib.hid hgrow; clear hown' hgrow hloc hnil)
            have RM := row_more B3.out R3.out G4.out R4.out
            have R5 := Lib.hid RM.2; have B5 := Lib.hid RM.1; clear RM
            go_roundw
            case rel => exact ⟨_, _, O ++ [a], MF, NA, NB, R5, B5⟩
            case measure => first | (simp [lenOf]; done) | (simp [lenOf]; omega)
        · have hA2 : 1 < ca := by omega
          have NA : Hid (IntsAt w2 (.slice (some ⟨ba, oa + 1, none⟩) (na - 1) (ca - 1)) A') := by show IntsAt _ _ _; have := TA2.out (by omega); rw [show na - 1 = A'.length by have := HNA.out; omega]; exact this
          have NB := IB
          go_wp2_with fail
          go_quiet (fail)
          go_wp2_with fail
          go_quiet (fail)
          go_wp2_with fail
          go_quiet (fail)
          go_wp2_with fail
          refine (HK.out _ _ _).mono ?_; rintro e w3 ⟨rfl, hw3⟩
          have B3 : Hid (Below w2.heap.size w2 w3) := by show Below _ _ _; rw [← hw3]; exact below_drewN BB.out _
          have R3 : Hid (w3.ownsRow w2.heap.size 3 1 (.slice a7 O.length c7) O.length (nums O)) := by show World.ownsRow _ _ _ _ _ _ _; rw [← hw3]; exact RO.out
          have hbs : w2.heap.size ≤ w3.heap.size := B3.out.size
          clear hw3
          cases hf : f true false
          · have MF : Hid (Mg f (Pf f l m) (l.length + m.length) A' [] O) := by have := MS.out; rw [hf] at this; exact this
            clear hf
            go_wp2_with fail
            go_roundw
            case rel => exact ⟨_, _, O, MF, NA, NB, R3, B3⟩
            case measure => first | (simp [lenOf]; done) | (simp [lenOf]; omega)
          · have MF : Hid (Mg f (Pf f l m) (l.length + m.length) A' [] (O ++ [a])) := by have := MS.out; rw [hf] at this; exact this
            clear hf
            go_wp2_with (at_builtin; refine wpList_append_own_at _ rfl _ _ 22 rfl w2.heap.size 3 i0 (.int .i64 0) 1 8 Try.underlying22 II.out Z0.out Z1.out Z2.out rfl (by decide) _ _ _ rfl (R3.out.alloc _) ⟨w3.heap.size, 0, none⟩ 1 1 [.int .i64 a] rfl rfl (cell_one_new _ _ _) (by simp [Value.oneCell']) (by unfold maxLen; omega) (by omega) (by simp; omega) ?_; intro v' w4 hown' hgrow hnil hloc; obtain ⟨a', cap', hv'⟩ := row_form hown'; subst hv'; have R4 := Lib.hid hown'; have G4 := Lib.hid hgrow; clear hown' hgrow hloc hnil)
            have RM := row_more B3.out R3.out G4.out R4.out
            have R5 := Lib.hid RM.2; have B5 := Lib.hid RM.1; clear RM
            go_roundw
            case rel => exact ⟨_, _, O ++ [a], MF, NA, NB, R5, B5⟩
            case measure => first | (simp [lenOf]; done) | (simp [lenOf]; omega)
      | cons b B' =>
        rcases Int.lt_trichotomy a b with hab | hab | hab
        · skip
          obtain ⟨ba, oa, ca, rfl, hca, ca0, ta1, ta2⟩ := IA.out.cons
          obtain ⟨na, hna⟩ : ∃ n, A'.length + 1 = n := ⟨_, rfl⟩
          have ka0 := oldc BB.out ca0
          rw [hna] at hca
          rw [hna]
          have TA1 := Lib.hid ta1; have TA2 := Lib.hid ta2; have HNA := Lib.hid hna
          have ga1 : 0 < na := by omega
          clear ta1 ta2 hna ca0
          have ga2 : (0 : Int) < (na : Int) := by omega
          have ga3 : ((na : Int) == 0) = false := by simp; omega
          have ga4 : (1 : Int) ≤ (na : Int) := by omega
          have ga5 : (na : Int) ≤ (ca : Int) := by omega
          obtain ⟨bb, ob, cb, rfl, hcb, cb0, tb1, tb2⟩ := IB.out.cons
          obtain ⟨nb, hnb⟩ : ∃ n, B'.length + 1 = n := ⟨_, rfl⟩
          have kb0 := oldc BB.out cb0
          rw [hnb] at hcb
          rw [hnb]
          have TB1 := Lib.hid tb1; have TB2 := Lib.hid tb2; have HNB := Lib.hid hnb
          have gb1 : 0 < nb := by omega
          clear tb1 tb2 hnb cb0
          have gb2 : (0 : Int) < (nb : Int) := by omega
          have gb3 : ((nb : Int) == 0) = false := by simp; omega
          have gb4 : (1 : Int) ≤ (nb : Int) := by omega
          have gb5 : (nb : Int) ≤ (cb : Int) := by omega
          have q1 : a ≤ b := by omega
          have q2 : decide (b ≤ a) = false := by simp; omega
          have MS := Lib.hid (M.out.step (x := a) (p := true) (q := false) (A' := A') (B' := (b :: B')) rfl rfl (by simp) (head_all M.out.sa) (head_lt M.out.sb hab))
          by_cases hA1 : ca = 1
          · subst hA1
            have NA : Hid (IntsAt w2 (.slice (some ⟨ba, oa, none⟩) (na - 1) (1 - 1)) A') := by show IntsAt _ _ _; have := TA1.out rfl; rw [show na - 1 = A'.length by have := HNA.out; omega]; exact this
            have NB : Hid (IntsAt w2 (.slice (some ⟨bb, ob, none⟩) nb cb) (b :: B')) := by show IntsAt _ _ _; have := IB.out; rw [HNB.out] at this; exact this
            obtain rfl : na = 1 := by omega
            go_wp2_with fail
            go_quiet (fail)
            go_wp2_with fail
            go_quiet (fail)
            go_wp2_with fail
            go_quiet (fail)
            go_wp2_with fail
            refine (HK.out _ _ _).mono ?_; rintro e w3 ⟨rfl, hw3⟩
            have B3 : Hid (Below w2.heap.size w2 w3) := by show Below _ _ _; rw [← hw3]; exact below_drewN BB.out _
            have R3 : Hid (w3.ownsRow w2.heap.size 3 1 (.slice a7 O.length c7) O.length (nums O)) := by show World.ownsRow _ _ _ _ _ _ _; rw [← hw3]; exact RO.out
            have hbs : w2.heap.size ≤ w3.heap.size := B3.out.size
            clear hw3
            cases hf : f true false
            · have MF : Hid (Mg f (Pf f l m) (l.length + m.length) A' (b :: B') O) := by have := MS.out; rw [hf] at this; exact this
              clear hf
              go_wp2_with fail
              go_roundw
              case rel => exact ⟨_, _, O, MF, NA, NB, R3, B3⟩
              case measure => first | (simp [lenOf]; done) | (simp [lenOf]; omega)
            · have MF : Hid (Mg f (Pf f l m) (l.length + m.length) A' (b :: B') (O ++ [a])) := by have := MS.out; rw [hf] at this; exact this
              clear hf
              go_wp2_with (at_builtin; refine wpList_append_own_at _ rfl _ _ 22 rfl w2.heap.size 3 i0 (.int .i64 0) 1 8 Try.underlying22 II.out Z0.out Z1.out Z2.out rfl (by decide) _ _ _ rfl (R3.out.alloc _) ⟨w3.heap.size, 0, none⟩ 1 1 [.int .i64 a] rfl rfl (cell_one_new _ _ _) (by simp [Value.oneCell']) (by unfold maxLen; omega) (by omega) (by simp; omega) ?_; intro v' w4 hown' hgrow hnil hloc; obtain ⟨a', cap', hv'⟩ := row_form hown'; subst hv'; have R4 := Lib.hid hown'; have G4 := Lib.hid hgrow; clear hown' hgrow hloc hnil)
              have RM := row_more B3.out R3.out G4.out R4.out
              have R5 := Lib.hid RM.2; have B5 := Lib.hid RM.1; clear RM
              go_roundw
              case rel => exact ⟨_, _, O ++ [a], MF, NA, NB, R5, B5⟩
              case measure => first | (simp [lenOf]; done) | (simp [lenOf]; omega)
          · have hA2 : 1 < ca := by omega
            have NA : Hid (IntsAt w2 (.slice (some ⟨ba, oa + 1, none⟩) (na - 1) (ca - 1)) A') := by show IntsAt _ _ _; have := TA2.out (by omega); rw [show na - 1 = A'.length by have := HNA.out; omega]; exact this
            have NB : Hid (IntsAt w2 (.slice (some ⟨bb, ob, none⟩) nb cb) (b :: B')) := by show IntsAt _ _ _; have := IB.out; rw [HNB.out] at this; exact this
            go_wp2_with fail
            go_quiet (fail)
            go_wp2_with fail
            go_quiet (fail)
            go_wp2_with fail
            go_quiet (fail)
            go_wp2_with fail
            refine (HK.out _ _ _).mono ?_; rintro e w3 ⟨rfl, hw3⟩
            have B3 : Hid (Below w2.heap.size w2 w3) := by show Below _ _ _; rw [← hw3]; exact below_drewN BB.out _
            have R3 : Hid (w3.ownsRow w2.heap.size 3 1 (.slice a7 O.length c7) O.length (nums O)) := by show World.ownsRow _ _ _ _ _ _ _; rw [← hw3]; exact RO.out
            have hbs : w2.heap.size ≤ w3.heap.size := B3.out.size
            clear hw3
            cases hf : f true false
            · have MF : Hid (Mg f (Pf f l m) (l.length + m.length) A' (b :: B') O) := by have := MS.out; rw [hf] at this; exact this
              clear hf
              go_wp2_with fail
              go_roundw
              case rel => exact ⟨_, _, O, MF, NA, NB, R3, B3⟩
              case measure => first | (simp [lenOf]; done) | (simp [lenOf]; omega)
            · have MF : Hid (Mg f (Pf f l m) (l.length + m.length) A' (b :: B') (O ++ [a])) := by have := MS.out; rw [hf] at this; exact this
              clear hf
              go_wp2_with (at_builtin; refine wpList_append_own_at _ rfl _ _ 22 rfl w2.heap.size 3 i0 (.int .i64 0) 1 8 Try.underlying22 II.out Z0.out Z1.out Z2.out rfl (by decide) _ _ _ rfl (R3.out.alloc _) ⟨w3.heap.size, 0, none⟩ 1 1 [.int .i64 a] rfl rfl (cell_one_new _ _ _) (by simp [Value.oneCell']) (by unfold maxLen; omega) (by omega) (by simp; omega) ?_; intro v' w4 hown' hgrow hnil hloc; obtain ⟨a', cap', hv'⟩ := row_form hown'; subst hv'; have R4 := Lib.hid hown'; have G4 := Lib.hid hgrow; clear hown' hgrow hloc hnil)
              have RM := row_more B3.out R3.out G4.out R4.out
              have R5 := Lib.hid RM.2; have B5 := Lib.hid RM.1; clear RM
              go_roundw
              case rel => exact ⟨_, _, O ++ [a], MF, NA, NB, R5, B5⟩
              case measure => first | (simp [lenOf]; done) | (simp [lenOf]; omega)
        · subst hab
          obtain ⟨ba, oa, ca, rfl, hca, ca0, ta1, ta2⟩ := IA.out.cons
          obtain ⟨na, hna⟩ : ∃ n, A'.length + 1 = n := ⟨_, rfl⟩
          have ka0 := oldc BB.out ca0
          rw [hna] at hca
          rw [hna]
          have TA1 := Lib.hid ta1; have TA2 := Lib.hid ta2; have HNA := Lib.hid hna
          have ga1 : 0 < na := by omega
          clear ta1 ta2 hna ca0
          have ga2 : (0 : Int) < (na : Int) := by omega
          have ga3 : ((na : Int) == 0) = false := by simp; omega
          have ga4 : (1 : Int) ≤ (na : Int) := by omega
          have ga5 : (na : Int) ≤ (ca : Int) := by omega
          obtain ⟨bb, ob, cb, rfl, hcb, cb0, tb1, tb2⟩ := IB.out.cons
          obtain ⟨nb, hnb⟩ : ∃ n, B'.length + 1 = n := ⟨_, rfl⟩
          have kb0 := oldc BB.out cb0
          rw [hnb] at hcb
          rw [hnb]
          have TB1 := Lib.hid tb1; have TB2 := Lib.hid tb2; have HNB := Lib.hid hnb
          have gb1 : 0 < nb := by omega
          clear tb1 tb2 hnb cb0
          have gb2 : (0 : Int) < (nb : Int) := by omega
          have gb3 : ((nb : Int) == 0) = false := by simp; omega
          have gb4 : (1 : Int) ≤ (nb : Int) := by omega
          have gb5 : (nb : Int) ≤ (cb : Int) := by omega
          have q1 : a ≤ a := by omega
          have MS := Lib.hid (M.out.step (x := a) (p := true) (q := true) (A' := A') (B' := B') rfl rfl (by simp) (head_all M.out.sa) (head_all M.out.sb))
          by_cases hA1 : ca = 1
          · subst hA1
            by_cases hB1 : cb = 1
            · subst hB1
              have NA : Hid (IntsAt w2 (.slice (some ⟨ba, oa, none⟩) (na - 1) (1 - 1)) A') := by show IntsAt _ _ _; have := TA1.out rfl; rw [show na - 1 = A'.length by have := HNA.out; omega]; exact this
              have NB : Hid (IntsAt w2 (.slice (some ⟨bb, ob, none⟩) (nb - 1) (1 - 1)) B') := by show IntsAt _ _ _; have := TB1.out rfl; rw [show nb - 1 = B'.length by have := HNB.out; omega]; exact this
              obtain rfl : na = 1 := by omega
              obtain rfl : nb = 1 := by omega
              go_wp2_with fail
              go_quiet (fail)
              go_wp2_with fail
              go_quiet (fail)
              go_wp2_with fail
              go_quiet (fail)
              go_wp2_with fail
              go_quiet (fail)
              go_wp2_with fail
              refine (HK.out _ _ _).mono ?_; rintro e w3 ⟨rfl, hw3⟩
              have B3 : Hid (Below w2.heap.size w2 w3) := by show Below _ _ _; rw [← hw3]; exact below_drewN BB.out _
              have R3 : Hid (w3.ownsRow w2.heap.size 3 1 (.slice a7 O.length c7) O.length (nums O)) := by show World.ownsRow _ _ _ _ _ _ _; rw [← hw3]; exact RO.out
              have hbs : w2.heap.size ≤ w3.heap.size := B3.out.size
              clear hw3
              cases hf : f true true
              · have MF : Hid (Mg f (Pf f l m) (l.length + m.length) A' B' O) := by have := MS.out; rw [hf] at this; exact this
                clear hf
                go_wp2_with fail
                go_roundw
                case rel => exact ⟨_, _, O, MF, NA, NB, R3, B3⟩
                case measure => first | (simp [lenOf]; done) | (simp [lenOf]; omega)
              · have MF : Hid (Mg f (Pf f l m) (l.length + m.length) A' B' (O ++ [a])) := by have := MS.out; rw [hf] at this; exact this
                clear hf
                go_wp2_with (at_builtin; refine wpList_append_own_at _ rfl _ _ 22 rfl w2.heap.size 3 i0 (.int .i64 0) 1 8 Try.underlying22 II.out Z0.out Z1.out Z2.out rfl (by decide) _ _ _ rfl (R3.out.alloc _) ⟨w3.heap.size, 0, none⟩ 1 1 [.int .i64 a] rfl rfl (cell_one_new _ _ _) (by simp [Value.oneCell']) (by unfold maxLen; omega) (by omega) (by simp; omega) ?_; intro v' w4 hown' hgrow hnil hloc; obtain ⟨a', cap', hv'⟩ := row_form hown'; subst hv'; have R4 := Lib.hid hown'; have G4 := Lib.hid hgrow; clear hown' hgrow hloc hnil)
                have RM := row_more B3.out R3.out G4.out R4.out
                have R5 := Lib.hid RM.2; have B5 := Lib.hid RM.1; clear RM
                go_roundw
                case rel => exact ⟨_, _, O ++ [a], MF, NA, NB, R5, B5⟩
                case measure => first | (simp [lenOf]; done) | (simp [lenOf]; omega)
            · have hB2 : 1 < cb := by omega
              have NA : Hid (IntsAt w2 (.slice (some ⟨ba, oa, none⟩) (na - 1) (1 - 1)) A') := by show IntsAt _ _ _; have := TA1.out rfl; rw [show na - 1 = A'.length by have := HNA.out; omega]; exact this
              have NB : Hid (IntsAt w2 (.slice (some ⟨bb, ob + 1, none⟩) (nb - 1) (cb - 1)) B') := by show IntsAt _ _ _; have := TB2.out (by omega); rw [show nb - 1 = B'.length by have := HNB.out; omega]; exact this
              obtain rfl : na = 1 := by omega
              go_wp2_with fail
              go_quiet (fail)
              go_wp2_with fail
              go_quiet (fail)
              go_wp2_with fail
              go_quiet (fail)
              go_wp2_with fail
              go_quiet (fail)
              go_wp2_with fail
              refine (HK.out _ _ _).mono ?_; rintro e w3 ⟨rfl, hw3⟩
              have B3 : Hid (Below w2.heap.size w2 w3) := by show Below _ _ _; rw [← hw3]; exact below_drewN BB.out _
              have R3 : Hid (w3.ownsRow w2.heap.size 3 1 (.slice a7 O.length c7) O.length (nums O)) := by show World.ownsRow _ _ _ _ _ _ _; rw [← hw3]; exact RO.out
              have hbs : w2.heap.size ≤ w3.heap.size := B3.out.size
              clear hw3
              cases hf : f true true
              · have MF : Hid (Mg f (Pf f l m) (l.length + m.length) A' B' O) := by have := MS.out; rw [hf] at this; exact this
                clear hf
                go_wp2_with fail
                go_roundw
                case rel => exact ⟨_, _, O, MF, NA, NB, R3, B3⟩
                case measure => first | (simp [lenOf]; done) | (simp [lenOf]; omega)
              · have MF : Hid (Mg f (Pf f l m) (l.length + m.length) A' B' (O ++ [a])) := by have := MS.out; rw [hf] at this; exact this
                clear hf
                go_wp2_with (at_builtin; refine wpList_append_own_at _ rfl _ _ 22 rfl w2.heap.size 3 i0 (.int .i64 0) 1 8 Try.underlying22 II.out Z0.out Z1.out Z2.out rfl (by decide) _ _ _ rfl (R3.out.alloc _) ⟨w3.heap.size, 0, none⟩ 1 1 [.int .i64 a] rfl rfl (cell_one_new _ _ _) (by simp [Value.oneCell']) (by unfold maxLen; omega) (by omega) (by simp; omega) ?_; intro v' w4 hown' hgrow hnil hloc; obtain ⟨a', cap', hv'⟩ := row_form hown'; subst hv'; have R4 := Lib.hid hown'; have G4 := Lib.hid hgrow; clear hown' hgrow hloc hnil)
                have RM := row_more B3.out R3.out G4.out R4.out
                have R5 := Lib.hid RM.2; have B5 := Lib.hid RM.1; clear RM
                go_roundw
                case rel => exact ⟨_, _, O ++ [a], MF, NA, NB, R5, B5⟩
                case measure => first | (simp [lenOf]; done) | (simp [lenOf]; omega)
          · have hA2 : 1 < ca := by omega
            by_cases hB1 : cb = 1
            · subst hB1
              have NA : Hid (IntsAt w2 (.slice (some ⟨ba, oa + 1, none⟩) (na - 1) (ca - 1)) A') := by show IntsAt _ _ _; have := TA2.out (by omega); rw [show na - 1 = A'.length by have := HNA.out; omega]; exact this
              have NB : Hid (IntsAt w2 (.slice (some ⟨bb, ob, none⟩) (nb - 1) (1 - 1)) B') := by show IntsAt _ _ _; have := TB1.out rfl; rw [show nb - 1 = B'.length by have := HNB.out; omega]; exact this
              obtain rfl : nb = 1 := by omega
              go_wp2_with fail
              go_quiet (fail)
              go_wp2_with fail
              go_quiet (fail)
              go_wp2_with fail
              go_quiet (fail)
              go_wp2_with fail
              go_quiet (fail)
              go_wp2_with fail
              refine (HK.out _ _ _).mono ?_; rintro e w3 ⟨rfl, hw3⟩
              have B3 : Hid (Below w2.heap.size w2 w3) := by show Below _ _ _; rw [← hw3]; exact below_drewN BB.out _
              have R3 : Hid (w3.ownsRow w2.heap.size 3 1 (.slice a7 O.length c7) O.length (nums O)) := by show World.ownsRow _ _ _ _ _ _ _; rw [← hw3]; exact RO.out
              have hbs : w2.heap.size ≤ w3.heap.size := B3.out.size
              clear hw3
              cases hf : f true true
              · have MF : Hid (Mg f (Pf f l m) (l.length + m.length) A' B' O) := by have := MS.out; rw [hf] at this; exact this
                clear hf
                go_wp2_with fail
                go_roundw
                case rel => exact ⟨_, _, O, MF, NA, NB, R3, B3⟩
                case measure => first | (simp [lenOf]; done) | (simp [lenOf]; omega)
              · have MF : Hid (Mg f (Pf f l m) (l.length + m.length) A' B' (O ++ [a])) := by have := MS.out; rw [hf] at this; exact this
                clear hf
                go_wp2_with (at_builtin; refine wpList_append_own_at _ rfl _ _ 22 rfl w2.heap.size 3 i0 (.int .i64 0) 1 8 Try.underlying22 II.out Z0.out Z1.out Z2.out rfl (by decide) _ _ _ rfl (R3.out.alloc _) ⟨w3.heap.size, 0, none⟩ 1 1 [.int .i64 a] rfl rfl (cell_one_new _ _ _) (by simp [Value.oneCell']) (by unfold maxLen; omega) (by omega) (by simp; omega) ?_; intro v' w4 hown' hgrow hnil hloc; obtain ⟨a', cap', hv'⟩ := row_form hown'; subst hv'; have R4 := Lib.hid hown'; have G4 := Lib.hid hgrow; clear hown' hgrow hloc hnil)
                have RM := row_more B3.out R3.out G4.out R4.out
                have R5 := Lib.hid RM.2; have B5 := Lib.hid RM.1; clear RM
                go_roundw
                case rel => exact ⟨_, _, O ++ [a], MF, NA, NB, R5, B5⟩
                case measure => first | (simp [lenOf]; done) | (simp [lenOf]; omega)
            · have hB2 : 1 < cb := by omega
              have NA : Hid (IntsAt w2 (.slice (some ⟨ba, oa + 1, none⟩) (na - 1) (ca - 1)) A') := by show IntsAt _ _ _; have := TA2.out (by omega); rw [show na - 1 = A'.length by have := HNA.out; omega]; exact this
              have NB : Hid (IntsAt w2 (.slice (some ⟨bb, ob + 1, none⟩) (nb - 1) (cb - 1)) B') := by show IntsAt _ _ _; have := TB2.out (by omega); rw [show nb - 1 = B'.length by have := HNB.out; omega]; exact this
              go_wp2_with fail
              go_quiet (fail)
              go_wp2_with fail
              go_quiet (fail)
              go_wp2_with fail
              go_quiet (fail)
              go_wp2_with fail
              go_quiet (fail)
              go_wp2_with fail
              refine (HK.out _ _ _).mono ?_; rintro e w3 ⟨rfl, hw3⟩
              have B3 : Hid (Below w2.heap.size w2 w3) := by show Below _ _ _; rw [← hw3]; exact below_drewN BB.out _
              have R3 : Hid (w3.ownsRow w2.heap.size 3 1 (.slice a7 O.length c7) O.length (nums O)) := by show World.ownsRow _ _ _ _ _ _ _; rw [← hw3]; exact RO.out
              have hbs : w2.heap.size ≤ w3.heap.size := B3.out.size
              clear hw3
              cases hf : f true true
              · have MF : Hid (Mg f (Pf f l m) (l.length + m.length) A' B' O) := by have := MS.out; rw [hf] at this; exact this
                clear hf
                go_wp2_with fail
                go_roundw
                case rel => exact ⟨_, _, O, MF, NA, NB, R3, B3⟩
                case measure => first | (simp [lenOf]; done) | (simp [lenOf]; omega)
              · have MF : Hid (Mg f (Pf f l m) (l.length + m.length) A' B' (O ++ [a])) := by have := MS.out; rw [hf] at this; exact this
                clear hf
                go_wp2_with (at_builtin; refine wpList_append_own_at _ rfl _ _ 22 rfl w2.heap.size 3 i0 (.int .i64 0) 1 8 Try.underlying22 II.out Z0.out Z1.out Z2.out rfl (by decide) _ _ _ rfl (R3.out.alloc _) ⟨w3.heap.size, 0, none⟩ 1 1 [.int .i64 a] rfl rfl (cell_one_new _ _ _) (by simp [Value.oneCell']) (by unfold maxLen; omega) (by omega) (by simp; omega) ?_; intro v' w4 hown' hgrow hnil hloc; obtain ⟨a', cap', hv'⟩ := row_form hown'; subst hv'; have R4 := Lib.hid hown'; have G4 := Lib.hid hgrow; clear hown' hgrow hloc hnil)
                have RM := row_more B3.out R3.out G4.out R4.out
                have R5 := Lib.hid RM.2; have B5 := Lib.hid RM.1; clear RM
                go_roundw
                case rel => exact ⟨_, _, O ++ [a], MF, NA, NB, R5, B5⟩
                case measure => first | (simp [lenOf]; done) | (simp [lenOf]; omega)
        · skip
          obtain ⟨ba, oa, ca, rfl, hca, ca0, ta1, ta2⟩ := IA.out.cons
          obtain ⟨na, hna⟩ : ∃ n, A'.length + 1 = n := ⟨_, rfl⟩
          have ka0 := oldc BB.out ca0
          rw [hna] at hca
          rw [hna]
          have TA1 := Lib.hid ta1; have TA2 := Lib.hid ta2; have HNA := Lib.hid hna
          have ga1 : 0 < na := by omega
          clear ta1 ta2 hna ca0
          have ga2 : (0 : Int) < (na : Int) := by omega
          have ga3 : ((na : Int) == 0) = false := by simp; omega
          have ga4 : (1 : Int) ≤ (na : Int) := by omega
          have ga5 : (na : Int) ≤ (ca : Int) := by omega
          obtain ⟨bb, ob, cb, rfl, hcb, cb0, tb1, tb2⟩ := IB.out.cons
          obtain ⟨nb, hnb⟩ : ∃ n, B'.length + 1 = n := ⟨_, rfl⟩
          have kb0 := oldc BB.out cb0
          rw [hnb] at hcb
          rw [hnb]
          have TB1 := Lib.hid tb1; have TB2 := Lib.hid tb2; have HNB := Lib.hid hnb
          have gb1 : 0 < nb := by omega
          clear tb1 tb2 hnb cb0
          have gb2 : (0 : Int) < (nb : Int) := by omega
          have gb3 : ((nb : Int) == 0) = false := by simp; omega
          have gb4 : (1 : Int) ≤ (nb : Int) := by omega
          have gb5 : (nb : Int) ≤ (cb : Int) := by omega
          have q1 : b ≤ a := by omega
          have q2 : decide (a ≤ b) = false := by simp; omega
          have MS := Lib.hid (M.out.step (x := b) (p := false) (q := true) (A' := (a :: A')) (B' := B') rfl rfl (by simp) (head_lt M.out.sa hab) (head_all M.out.sb))
          by_cases hB1 : cb = 1
          · subst hB1
            have NA : Hid (IntsAt w2 (.slice (some ⟨ba, oa, none⟩) na ca) (a :: A')) := by show IntsAt _ _ _; have := IA.out; rw [HNA.out] at this; exact this
            have NB : Hid (IntsAt w2 (.slice (some ⟨bb, ob, none⟩) (nb - 1) (1 - 1)) B') := by show IntsAt _ _ _; have := TB1.out rfl; rw [show nb - 1 = B'.length by have := HNB.out; omega]; exact this
            obtain rfl : nb = 1 := by omega
            go_wp2_with fail
            go_quiet (fail)
            go_wp2_with fail
            go_quiet (fail)
            go_wp2_with fail
            go_quiet (fail)
            go_wp2_with fail
            refine (HK.out _ _ _).mono ?_; rintro e w3 ⟨rfl, hw3⟩
            have B3 : Hid (Below w2.heap.size w2 w3) := by show Below _ _ _; rw [← hw3]; exact below_drewN BB.out _
            have R3 : Hid (w3.ownsRow w2.heap.size 3 1 (.slice a7 O.length c7) O.length (nums O)) := by show World.ownsRow _ _ _ _ _ _ _; rw [← hw3]; exact RO.out
            have hbs : w2.heap.size ≤ w3.heap.size := B3.out.size
            clear hw3
            cases hf : f false true
            · have MF : Hid (Mg f (Pf f l m) (l.length + m.length) (a :: A') B' O) := by have := MS.out; rw [hf] at this; exact this
              clear hf
              go_wp2_with fail
              go_roundw
              case rel => exact ⟨_, _, O, MF, NA, NB, R3, B3⟩
              case measure => first | (simp [lenOf]; done) | (simp [lenOf]; omega)
            · have MF : Hid (Mg f (Pf f l m) (l.length + m.length) (a :: A') B' (O ++ [b])) := by have := MS.out; rw [hf] at this; exact this
              clear hf
              go_wp2_with (at_builtin; refine wpList_append_own_at _ rfl _ _ 22 rfl w2.heap.size 3 i0 (.int .i64 0) 1 8 Try.underlying22 II.out Z0.out Z1.out Z2.out rfl (by decide) _ _ _ rfl (R3.out.alloc _) ⟨w3.heap.size, 0, none⟩ 1 1 [.int .i64 b] rfl rfl (cell_one_new _ _ _) (by simp [Value.oneCell']) (by unfold maxLen; omega) (by omega) (by simp; omega) ?_; intro v' w4 hown' hgrow hnil hloc; obtain ⟨a', cap', hv'⟩ := row_form hown'; subst hv'; have R4 := Lib.hid hown'; have G4 := Lib.hid hgrow; clear hown' hgrow hloc hnil)
              have RM := row_more B3.out R3.out G4.out R4.out
              have R5 := Lib.hid RM.2; have B5 := Lib.hid RM.1; clear RM
              go_roundw
              case rel => exact ⟨_, _, O ++ [b], MF, NA, NB, R5, B5⟩
              case measure => first | (simp [lenOf]; done) | (simp [lenOf]; omega)
          · have hB2 : 1 < cb := by omega
            have NA : Hid (IntsAt w2 (.slice (some ⟨ba, oa, none⟩) na ca) (a :: A')) := by show IntsAt _ _ _; have := IA.out; rw [HNA.out] at this; exact this
            have NB : Hid (IntsAt w2 (.slice (some ⟨bb, ob + 1, none⟩) (nb - 1) (cb - 1)) B') := by show IntsAt _ _ _; have := TB2.out (by omega); rw [show nb - 1 = B'.length by have := HNB.out; omega]; exact this
            go_wp2_with fail
            go_quiet (fail)
            go_wp2_with fail
            go_quiet (fail)
            go_wp2_with fail
            go_quiet (fail)
            go_wp2_with fail
            refine (HK.out _ _ _).mono ?_; rintro e w3 ⟨rfl, hw3⟩
            have B3 : Hid (Below w2.heap.size w2 w3) := by show Below _ _ _; rw [← hw3]; exact below_drewN BB.out _
            have R3 : Hid (w3.ownsRow w2.heap.size 3 1 (.slice a7 O.length c7) O.length (nums O)) := by show World.ownsRow _ _ _ _ _ _ _; rw [← hw3]; exact RO.out
            have hbs : w2.heap.size ≤ w3.heap.size := B3.out.size
            clear hw3
            cases hf : f false true
            · have MF : Hid (Mg f (Pf f l m) (l.length + m.length) (a :: A') B' O) := by have := MS.out; rw [hf] at this; exact this
              clear hf
              go_wp2_with fail
              go_roundw
              case rel => exact ⟨_, _, O, MF, NA, NB, R3, B3⟩
              case measure => first | (simp [lenOf]; done) | (simp [lenOf]; omega)
            · have MF : Hid (Mg f (Pf f l m) (l.length + m.length) (a :: A') B' (O ++ [b])) := by have := MS.out; rw [hf] at this; exact this
              clear hf
              go_wp2_with (at_builtin; refine wpList_append_own_at _ rfl _ _ 22 rfl w2.heap.size 3 i0 (.int .i64 0) 1 8 Try.underlying22 II.out Z0.out Z1.out Z2.out rfl (by decide) _ _ _ rfl (R3.out.alloc _) ⟨w3.heap.size, 0, none⟩ 1 1 [.int .i64 b] rfl rfl (cell_one_new _ _ _) (by simp [Value.oneCell']) (by unfold maxLen; omega) (by omega) (by simp; omega) ?_; intro v' w4 hown' hgrow hnil hloc; obtain ⟨a', cap', hv'⟩ := row_form hown'; subst hv'; have R4 := Lib.hid hown'; have G4 := Lib.hid hgrow; clear hown' hgrow hloc hnil)
              have RM := row_more B3.out R3.out G4.out R4.out
              have R5 := Lib.hid RM.2; have B5 := Lib.hid RM.1; clear RM
              go_roundw
              case rel => exact ⟨_, _, O ++ [b], MF, NA, NB, R5, B5⟩
              case measure => first | (simp [lenOf]; done) | (simp [lenOf]; omega)
end Go.Proofs.Ythmhhjfonejifaa
