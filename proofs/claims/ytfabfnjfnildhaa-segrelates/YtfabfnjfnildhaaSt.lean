/- seg: rows of points; the reference's sign; the ends met so far. -/
import Derived.Test.YtfabfnjfnildhaaSr
import Derived.Test.YtfabfnjfnildhaaSm
import Derived.Maps.AppendAt
namespace Go.Proofs.Ytfabfnjfnildhaa
open Go.ChangeShapes Go.WideShapes Go.ChangeAt Go.RowKit Go.Joins Go.Deep

def pcs (l : List Pt) : List Value := l.flatMap fun t => [.int .i64 t.1, .int .i64 t.2]
theorem pcs_append (l m : List Pt) : pcs (l ++ m) = pcs l ++ pcs m := by simp [pcs]
theorem pcs_at (l : List Pt) : ∀ i, i < l.length → (pcs l)[i * 2]? = some (.int .i64 (l.getD i (0, 0)).1) ∧ (pcs l)[i * 2 + 1]? = some (.int .i64 (l.getD i (0, 0)).2) := by
  induction l with
  | nil => intro i h; simp at h
  | cons t l ih =>
    intro i h
    have e : pcs (t :: l) = .int .i64 t.1 :: .int .i64 t.2 :: pcs l := rfl
    rw [e]
    cases i with
    | zero => simp
    | succ i =>
      obtain ⟨a, b⟩ := ih i (by simpa using h)
      rw [show (i + 1) * 2 = i * 2 + 2 by omega]
      refine ⟨?_, ?_⟩
      · simpa using a
      · rw [show i * 2 + 2 + 1 = (i * 2 + 1) + 2 by omega]; simpa using b
theorem row_cells {w : World} {base : Nat} {a : Option Addr} {n cap : Nat} {l : List Pt} (h : w.ownsRow base 23 2 (.slice a n cap) l.length (pcs l)) : n = l.length ∧ (0 < l.length → ∃ g, a = some ⟨g, 0, none⟩ ∧ ∀ i, i < l.length → w.cell? ⟨g, i * 2, none⟩ = some (.int .i64 (l.getD i (0, 0)).1) ∧ w.cell? ⟨g, i * 2 + 1, none⟩ = some (.int .i64 (l.getD i (0, 0)).2)) := by
  rcases h.2 with ⟨e, h0⟩ | ⟨g, cap', cur, e, _, hg, h1, h2, h3, h4⟩
  · injection e with e1 e2 e3
    exact ⟨by omega, fun hp => by omega⟩
  · injection e with e1 e2 e3
    refine ⟨e2, fun _ => ⟨g, e1, fun i hi => ?_⟩⟩
    have key : ∀ j u, j < l.length * 2 → (pcs l)[j]? = some u → w.cell? ⟨g, j, none⟩ = some u := by
      intro j u hj hu
      rw [← h4, List.getElem?_take, if_pos hj] at hu
      unfold World.cell?
      rw [hg]
      simpa using hu
    obtain ⟨p, q⟩ := pcs_at l i hi
    exact ⟨key _ _ (by omega) p, key _ _ (by omega) q⟩
theorem rowf {w : World} {base : Nat} {v : Value} {n : Nat} {xs : List Value} (h : w.ownsRow base 23 2 v n xs) : ∃ a cap, v = .slice a n cap := by
  rcases h.2 with ⟨rfl, rfl⟩ | ⟨g, cap, cur, rfl, _⟩
  · exact ⟨none, 0, rfl⟩
  · exact ⟨_, cap, rfl⟩
theorem rowb {w : World} {base : Nat} {v : Value} {n : Nat} {xs : List Value} (h : w.ownsRow base 23 2 v n xs) : ∀ k, v.ownBlock = some k → base ≤ k := by
  rcases h.2 with ⟨rfl, rfl⟩ | ⟨g, cap, cur, rfl, hb, _⟩
  · intro k e; cases e
  · intro k e; injection e with e; subst e; exact hb
theorem Try.info23 : (Try.prog.info? 23).map (fun i => (i.zero, i.size, i.bytes)) = some (some (.agg #[.int .i64 0, .int .i64 0]), 2, 16) := by kernel_rfl
theorem info_parts {t : TypeId} {z : Option Value} {s b : Nat} (h : (Try.prog.info? t).map (fun i => (i.zero, i.size, i.bytes)) = some (z, s, b)) : ∃ i, Try.prog.info? t = some i ∧ i.zero = z ∧ i.size = s ∧ i.bytes = b := by
  cases hi : Try.prog.info? t with
  | none => rw [hi] at h; cases h
  | some i => rw [hi] at h; simp at h; exact ⟨i, rfl, h.1, h.2.1, h.2.2⟩
theorem rowm {w2 w3 w4 : World} {o : Obj} {O : List Pt} {t : Pt} {v v' : Value} (B : Below w2.heap.size w2 w3) (R : w3.ownsRow w2.heap.size 23 2 v O.length (pcs O)) (hg : (w3.alloc o).grownBy w4 v.ownBlock) (hr : w4.ownsRow w2.heap.size 23 2 v' (O.length + 1) (pcs O ++ [.int .i64 t.1, .int .i64 t.2])) :
    Below w2.heap.size w2 w4 ∧ w4.ownsRow w2.heap.size 23 2 v' (O ++ [t]).length (pcs (O ++ [t])) := by
  refine ⟨(B.alloc B.size o).grown hg (by have := B.size; simp; omega) (rowb R), ?_⟩
  have e : (O ++ [t]).length = O.length + 1 := by simp
  rw [e, pcs_append]; exact hr
theorem cells2_new (w : World) (x y : Value) (t : TypeId) : ∀ j u, [x, y][j]? = some u → (w.alloc (.cells #[x, y] t)).cell? ((⟨w.heap.size, 0, none⟩ : Addr).add j) = some u := by
  intro j u hj
  match j, hj with
  | 0, hj => simp at hj; subst hj; simp [Addr.add]
  | 1, hj => simp at hj; subst hj; simp [Addr.add]
/- the sign -/
def sg1 (x : Int) : Int := if x < 0 then -1 else if 0 < x then 1 else 0
theorem sign48 (x : Int) (w : World) : Calls Try.prog 48 #[.int .i64 x] w fun e' w' => e' = .returned (.int .i64 (sg1 x)) ∧ Below w.heap.size w w' := by
  by_cases h : x < 0
  · have D : sg1 x = -1 := by unfold sg1; rw [if_pos h]
    go_enter Try.func48, Try.ntmps48
    go_wp2
    go_ret
    exact ⟨by first | rfl | (rw [D]; rfl), Below.refl _ _⟩
  · by_cases k : 0 < x
    · have D : sg1 x = 1 := by unfold sg1; rw [if_neg h, if_pos k]
      go_enter Try.func48, Try.ntmps48
      go_wp2
      go_ret
      exact ⟨by first | rfl | (rw [D]; rfl), Below.refl _ _⟩
    · have D : sg1 x = 0 := by unfold sg1; rw [if_neg h, if_neg k]
      go_enter Try.func48, Try.ntmps48
      go_wp2
      go_ret
      exact ⟨by first | rfl | (rw [D]; rfl), Below.refl _ _⟩
theorem sg_spl (u v : Int) : (sg1 u * sg1 v < 0) ↔ splB u v = true := by
  unfold sg1 splB
  by_cases h1 : u < 0
  · rw [if_pos h1]
    by_cases h2 : v < 0
    · rw [if_pos h2]; simp; omega
    · rw [if_neg h2]; by_cases h3 : 0 < v
      · rw [if_pos h3]; simp; omega
      · rw [if_neg h3]; simp; omega
  · rw [if_neg h1]
    by_cases h0 : 0 < u
    · rw [if_pos h0]
      by_cases h2 : v < 0
      · rw [if_pos h2]; simp; omega
      · rw [if_neg h2]; by_cases h3 : 0 < v
        · rw [if_pos h3]; simp; omega
        · rw [if_neg h3]; simp; omega
    · rw [if_neg h0]; simp; omega
theorem sg1_bd (u : Int) : -1 ≤ sg1 u ∧ sg1 u ≤ 1 := by unfold sg1; split <;> (try split) <;> omega
/- the ends, and what the reference has met of them -/
def ens (a b c d e f g h : Int) : List Pt := [(a, b), (c, d), (e, f), (g, h)]
def onE (a b c d e f g h : Int) (p : Pt) : Bool := onB p.1 p.2 a b c d && onB p.1 p.2 e f g h
def preL (a b c d e f g h : Int) (i : Nat) : List Pt := ((ens a b c d e f g h).take i).foldl (fun L p => stepL L (p, onE a b c d e f g h p)) []
theorem pre_succ (a b c d e f g h : Int) {i : Nat} (hi : i < 4) : preL a b c d e f g h (i + 1) = stepL (preL a b c d e f g h i) ((ens a b c d e f g h).getD i (0, 0), onE a b c d e f g h ((ens a b c d e f g h).getD i (0, 0))) := by
  match i, hi with
  | 0, _ => rfl
  | 1, _ => rfl
  | 2, _ => rfl
  | 3, _ => rfl
theorem pre_four (a b c d e f g h : Int) : preL a b c d e f g h 4 = endL a b c d e f g h := rfl
theorem step_len (L : List Pt) (x : Pt × Bool) : (stepL L x).length ≤ L.length + 1 := by unfold stepL; split <;> simp
theorem pre_len (a b c d e f g h : Int) : ∀ i, i ≤ 4 → (preL a b c d e f g h i).length ≤ i := by
  intro i
  induction i with
  | zero => intro _; exact Nat.le_refl _
  | succ i ih =>
    intro hi
    rw [pre_succ _ _ _ _ _ _ _ _ (by omega)]
    have := step_len (preL a b c d e f g h i) ((ens a b c d e f g h).getD i (0, 0), onE a b c d e f g h ((ens a b c d e f g h).getD i (0, 0)))
    have := ih (by omega)
    omega
theorem step_no {L : List Pt} {p : Pt} : stepL L (p, false) = L := by unfold stepL; rw [if_neg (by simp)]
theorem step_in {L : List Pt} {p : Pt} (h : p ∈ L) : stepL L (p, true) = L := by unfold stepL; rw [if_neg (fun k => k.2 h)]
theorem step_new {L : List Pt} {p : Pt} (h : ¬ p ∈ L) : stepL L (p, true) = L ++ [p] := by unfold stepL; rw [if_pos ⟨rfl, h⟩]
theorem mem_take {L : List Pt} {p : Pt} {k : Nat} (hk : k < L.length) : (p ∈ L.take (k + 1)) ↔ (p ∈ L.take k ∨ L.getD k (0, 0) = p) := by
  rw [List.take_add_one, List.mem_append]
  have e : L[k]? = some L[k] := List.getElem?_eq_getElem hk
  have e2 : L.getD k (0, 0) = L[k] := by simp [List.getD, e]
  rw [e, e2]
  simp [eq_comm]
end Go.Proofs.Ytfabfnjfnildhaa
