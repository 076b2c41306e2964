/- pq: the queue as a whole, and its swap and before by positions. -/
import Derived.Test.YtgofachgoflgnaaPd
import Derived.Test.YtgofachgoflgnaaPn
namespace Go.Proofs.Ytgofachgoflgnaa
open Go.ChangeShapes Go.WideShapes Go.ChangeAt Go.RowKit Go.Joins Go.Deep

structure QS (w : World) (qb hb kb pb hc kc pc base : Nat) (hs ks ps : List Int) : Prop where
  q : QCells w qb (.slice (some ⟨hb, 0, none⟩) hs.length hc) (.slice (some ⟨kb, 0, none⟩) ks.length kc) (.slice (some ⟨pb, 0, none⟩) ps.length pc)
  h : Ints w base (.slice (some ⟨hb, 0, none⟩) hs.length hc) hs
  k : Ints w base (.slice (some ⟨kb, 0, none⟩) ks.length kc) ks
  p : Ints w base (.slice (some ⟨pb, 0, none⟩) ps.length pc) ps
  kl : ks.length = ps.length
  n1 : hb ≠ pb
  n2 : hb ≠ kb
  n3 : kb ≠ pb
  q1 : qb ≠ hb
  q2 : qb ≠ kb
  q3 : qb ≠ pb
theorem QS.keep {w w' : World} {qb hb kb pb hc kc pc base : Nat} {hs ks ps : List Int} (s : QS w qb hb kb pb hc kc pc base hs ks ps) (b : Below w.heap.size w w') : QS w' qb hb kb pb hc kc pc base hs ks ps :=
  ⟨s.q.below b s.q.lt, s.h.keep b, s.k.keep b, s.p.keep b, s.kl, s.n1, s.n2, s.n3, s.q1, s.q2, s.q3⟩
theorem item_of {hs ps : List Int} (C : Cons hs ps) {i : Nat} (hi : i < hs.length) : hs.getD i 0 = ((hf hs i : Nat) : Int) ∧ hf hs i < ps.length ∧ ps.getD (hf hs i) 0 = (i : Int) := by
  obtain ⟨X, h1, h2, h3⟩ := C i hi
  have e : hf hs i = X := by unfold hf; rw [h1]; rfl
  rw [e]; exact ⟨h1, h2, h3⟩
theorem swap_qs {w : World} {qb hb kb pb hc kc pc base i j : Nat} {hs ks ps : List Int} (s : QS w qb hb kb pb hc kc pc base hs ks ps) (C : Cons hs ps) (hi : i < hs.length) (hj : j < hs.length) :
    Calls Try.prog 44 #[qp qb, .int .i64 i, .int .i64 j] w fun e w' => e = .returned (.tuple #[]) ∧
      ∃ hs' ps', QS w' qb hb kb pb hc kc pc base hs' ks ps' ∧ Cons hs' ps' ∧ hf hs' = swp (hf hs) i j ∧ Same hs ps hs' ps' ∧ Only hb pb w w' := by
  obtain ⟨x1, x2, _⟩ := item_of C hi
  obtain ⟨y1, y2, _⟩ := item_of C hj
  refine (swap_any s.q s.h s.p (fun a b e1 e2 => by injection e1 with e1; injection e1 with e1; injection e2 with e2; injection e2 with e2; subst e1 e2; exact s.n1)
    (fun a e => by injection e with e; injection e with e; subst e; exact s.q1) (fun a e => by injection e with e; injection e with e; subst e; exact s.q3) hi hj x1 y1 x2 y2 rfl rfl).mono ?_
  rintro e w' ⟨rfl, q', h', p', hb', pb', e1, e2, on⟩
  injection e1 with e1; injection e1 with e1 _ _; subst e1
  injection e2 with e2; injection e2 with e2 _ _; subst e2
  refine ⟨rfl, _, _, ⟨?_, ?_, ?_, ?_, by rw [List.length_set, List.length_set]; exact s.kl, s.n1, s.n2, s.n3, s.q1, s.q2, s.q3⟩, cons_swap C hi hj x1 y1, hf_swap hi hj x1 y1, same_swap C hi hj x1 y1, on⟩
  · rw [List.length_set, List.length_set, List.length_set, List.length_set]; exact q'
  · have l : ((hs.set i ((hf hs j : Nat) : Int)).set j ((hf hs i : Nat) : Int)).length = hs.length := by simp
    rw [l]; exact h'
  · obtain ⟨g, e3, _, _, _, _, same⟩ := s.k.block (by have := s.kl; omega)
    injection e3 with e3; injection e3 with e3 _ _; subst e3
    exact same w' (on.block _ s.n2.symm s.n3)
  · have l : ((ps.set (hf hs j) (i : Int)).set (hf hs i) (j : Int)).length = ps.length := by simp
    rw [l]; exact p'
theorem before_qs {w : World} {qb hb kb pb hc kc pc base i j : Nat} {hs ks ps : List Int} (s : QS w qb hb kb pb hc kc pc base hs ks ps) (hi : i < ps.length) (hj : j < ps.length) :
    Calls Try.prog 43 #[qp qb, .int .i64 i, .int .i64 j] w fun e w' => e = .returned (.bool (bfr ks i j)) ∧ Below w.heap.size w w' :=
  before_any s.q s.k (by rw [s.kl]; exact hi) (by rw [s.kl]; exact hj)
end Go.Proofs.Ytgofachgoflgnaa
