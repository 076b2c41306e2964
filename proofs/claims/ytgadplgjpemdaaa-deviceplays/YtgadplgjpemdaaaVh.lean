/- device: histories as mathematics; rows of numbers and strings of the call's own. -/
import Derived.Test.YtgadplgjpemdaaaVg
set_option linter.unusedSimpArgs false
namespace Go.Proofs.Ytgadplgjpemdaaa
open Go.ChangeShapes Go.WideShapes Go.ChangeAt Go.RowKit Go.Joins Go.Deep

def hof (L : List (Nat × ByteArray)) : List (Nat × List UInt8) := L.map (fun p => (p.1, padL p.2))
def lastF (i : Nat) (acc : ByteArray) (p : Nat × ByteArray) : ByteArray := if p.1 = i then p.2 else acc
def lastS (L : List (Nat × ByteArray)) (i : Nat) : ByteArray := L.foldl (lastF i) ByteArray.empty
theorem lastS_snoc (L : List (Nat × ByteArray)) (p : Nat × ByteArray) (i : Nat) : lastS (L ++ [p]) i = if p.1 = i then p.2 else lastS L i := by
  unfold lastS; rw [List.foldl_append]; rfl
theorem hof_snoc (L : List (Nat × ByteArray)) (q : Nat) (s : ByteArray) : hof (L ++ [(q, s)]) = hof L ++ [(q, padL s)] := by unfold hof; rw [List.map_append]; rfl
theorem hof_len (L : List (Nat × ByteArray)) : (hof L).length = L.length := by unfold hof; rw [List.length_map]
theorem hof_take (L : List (Nat × ByteArray)) (k : Nat) : (hof L).take k = hof (L.take k) := by unfold hof; rw [List.map_take]
theorem rep_getD : ∀ (L : List (Nat × ByteArray)) (bs : List (List UInt8)) (i n : Nat) (acc : ByteArray), (∀ p ∈ L, p.1 < n) → bs.length = n → i < n → bs.getD i [] = padL acc → (rep bs (hof L)).getD i [] = padL (L.foldl (lastF i) acc)
  | [], _, _, _, _, _, _, _, h => h
  | p :: L, bs, i, n, acc, hp, hl, hi, h => by
    show (rep (bs.set p.1 (padL p.2)) (hof L)).getD i [] = padL (L.foldl (lastF i) (lastF i acc p))
    refine rep_getD L _ i n _ (fun q hq => hp q (List.mem_cons_of_mem _ hq)) (by rw [List.length_set]; exact hl) hi ?_
    rw [getD_setL _ _ _ _ _ (by rw [hl]; exact hp p (List.mem_cons_self ..))]
    unfold lastF
    by_cases e : p.1 = i
    · rw [if_pos e, if_pos e]
    · rw [if_neg e, if_neg e]; exact h
theorem rep_last {L : List (Nat × ByteArray)} {i n : Nat} (hp : ∀ p ∈ L, p.1 < n) (hi : i < n) : (rep (zbs n) (hof L)).getD i [] = padL (lastS L i) := by
  refine rep_getD L _ i n _ hp (by unfold zbs; simp) hi ?_
  unfold zbs
  rw [List.getD, List.getElem?_replicate, if_pos hi]; rfl
theorem lastF_size : ∀ (L : List (Nat × ByteArray)) (i : Nat) (acc : ByteArray), (∀ p ∈ L, p.2.size ≤ 64) → acc.size ≤ 64 → (L.foldl (lastF i) acc).size ≤ 64
  | [], _, _, _, h => h
  | p :: L, i, acc, hp, h => by
    refine lastF_size L i _ (fun q hq => hp q (List.mem_cons_of_mem _ hq)) ?_
    unfold lastF; split
    · exact hp p (List.mem_cons_self ..)
    · exact h
theorem lastS_size {L : List (Nat × ByteArray)} (i : Nat) (hp : ∀ p ∈ L, p.2.size ≤ 64) : (lastS L i).size ≤ 64 := lastF_size L i _ hp (by decide)
def padS (s : ByteArray) : ByteArray := ⟨(padL s).toArray⟩
theorem rd_last {L : List (Nat × ByteArray)} {i n : Nat} (hp : ∀ p ∈ L, p.1 < n) (hi : i < n) : rd n (rep (zbs n) (hof L)) (i : Int) = padS (lastS L i) := by
  unfold rd; rw [if_neg (by omega), Int.toNat_natCast, rep_last hp hi]; rfl
def zer (k : Nat) : ByteArray := ⟨(List.replicate k (0 : UInt8)).toArray⟩
theorem padS_eq (s : ByteArray) : s ++ zer (64 - s.size) = padS s := by
  apply ByteArray.ext
  rw [ByteArray.data_append]
  unfold zer padS padL
  simp
theorem kk_lt {m j : Nat} {k : Int} (h : j < m) : (j : Int) < k ↔ j < kk m k := by unfold kk; split; omega; split <;> omega
theorem kk_all (m : Nat) : kk m (m : Int) = m := by unfold kk; split; omega; split <;> omega
/- one step of the inner loop -/
theorem lastS_step {L : List (Nat × ByteArray)} {j i : Nat} (h : j < L.length) : lastS (L.take (j + 1)) i = if (L.getD j (0, ByteArray.empty)).1 = i then (L.getD j (0, ByteArray.empty)).2 else lastS (L.take j) i := by
  rw [take_snoc (0, ByteArray.empty) h, lastS_snoc]
/- rows of the call's own, an element a cell -/
theorem row_form1 {w : World} {B e : Nat} {v : Value} {n : Nat} {xs : List Value} (h : w.ownsRow B e 1 v n xs) : ∃ a cap, v = .slice a n cap := by
  rcases h.2 with ⟨rfl, rfl⟩ | ⟨g, cap, cur, rfl, _⟩
  · exact ⟨none, 0, rfl⟩
  · exact ⟨_, cap, rfl⟩
theorem own_at1 {w : World} {B e n cap j : Nat} {a : Option Addr} {xs : List Value} {x : Value} (h : w.ownsRow B e 1 (.slice a n cap) n xs) (hj : xs[j]? = some x) : ∃ g, a = some ⟨g, 0, none⟩ ∧ g < w.heap.size ∧ w.cell? ⟨g, j, none⟩ = some x := by
  have hjl := (List.getElem?_eq_some_iff.1 hj).1
  have hl := h.1
  rcases h.2 with ⟨_, h0⟩ | ⟨g, cap', cur, e, _, hg, h1, h2, h3, h4⟩
  · omega
  · injection e with e1 e2 e3
    subst e1
    refine ⟨g, rfl, ?_, ?_⟩
    · by_cases hl : g < w.heap.size
      · exact hl
      · rw [Array.getElem?_eq_none (Nat.le_of_not_lt hl)] at hg; cases hg
    · rw [← h4, List.getElem?_take, if_pos (by omega)] at hj
      rw [cell_of_row w g j cur e (0, 0) hg, ← hj]
      simp
def ats (L : List (Nat × ByteArray)) : List Value := L.map (fun p => .int .i64 (p.1 : Int))
def pts (L : List (Nat × ByteArray)) : List Value := L.map (fun p => .string p.2)
theorem ats_at {L : List (Nat × ByteArray)} {j : Nat} (h : j < L.length) : (ats L)[j]? = some (.int .i64 ((L.getD j (0, ByteArray.empty)).1 : Int)) := by
  unfold ats; rw [List.getElem?_map, List.getElem?_eq_getElem h, List.getD, List.getElem?_eq_getElem h]; rfl
theorem pts_at {L : List (Nat × ByteArray)} {j : Nat} (h : j < L.length) : (pts L)[j]? = some (.string (L.getD j (0, ByteArray.empty)).2) := by
  unfold pts; rw [List.getElem?_map, List.getElem?_eq_getElem h, List.getD, List.getElem?_eq_getElem h]; rfl
theorem ats_snoc (L : List (Nat × ByteArray)) (q : Nat) (s : ByteArray) : ats (L ++ [(q, s)]) = ats L ++ [.int .i64 (q : Int)] := by unfold ats; rw [List.map_append]; rfl
theorem pts_snoc (L : List (Nat × ByteArray)) (q : Nat) (s : ByteArray) : pts (L ++ [(q, s)]) = pts L ++ [.string s] := by unfold pts; rw [List.map_append]; rfl
/- no block of the device -/
def Ap (D gf gn : Nat) (H v : Value) : Prop := ∀ b, v.ownBlock = some b → b ≠ D ∧ b ≠ gf ∧ b ≠ gn ∧ H.ownBlock ≠ some b
theorem DvB.same {w W : World} {B D gf gn cf cn n : Nat} {H : Value} {fs ns : List (List UInt8)} {hs : List (Nat × List UInt8)} {lim : Bool} {left : Int} (k : DvB w B D gf gn cf cn H n fs ns hs lim left)
    (e : ∀ b, b < w.heap.size → (b = D ∨ b = gf ∨ b = gn ∨ H.ownBlock = some b) → W.heap[b]? = w.heap[b]?) : DvB W B D gf gn cf cn H n fs ns hs lim left :=
  { k with
    row := k.row.same (e D k.row.lt (Or.inl rfl))
    f := k.f.same (e gf k.f.lt (Or.inr (Or.inl rfl)))
    nw := k.nw.same (e gn k.nw.lt (Or.inr (Or.inr (Or.inl rfl))))
    h := own_same k.h (fun b hb => e b (k.h.lt b hb).2 (Or.inr (Or.inr (Or.inr hb)))) }
theorem DvB.grown {w W : World} {B D gf gn cf cn n : Nat} {H v : Value} {fs ns : List (List UInt8)} {hs : List (Nat × List UInt8)} {lim : Bool} {left : Int} (k : DvB w B D gf gn cf cn H n fs ns hs lim left)
    (a : Ap D gf gn H v) (g : w.grownBy W v.ownBlock) : DvB W B D gf gn cf cn H n fs ns hs lim left := k.same (fun b hb hc => g.block b hb (fun e => by
      obtain ⟨h1, h2, h3, h4⟩ := a b e.symm
      rcases hc with rfl | rfl | rfl | hc
      · exact h1 rfl
      · exact h2 rfl
      · exact h3 rfl
      · exact h4 hc))
theorem Ap.write {w : World} {D gf gn : Nat} {H H' v : Value} (a : Ap D gf gn H v) (hv : ∀ b, v.ownBlock = some b → b < w.heap.size) (h : H'.ownBlock = H.ownBlock ∨ ∃ k, H'.ownBlock = some k ∧ w.heap.size ≤ k) : Ap D gf gn H' v := fun b hb => by
  obtain ⟨h1, h2, h3, h4⟩ := a b hb
  refine ⟨h1, h2, h3, fun e => ?_⟩
  rcases h with h | ⟨k, h, hk⟩
  · exact h4 (by rw [← h]; exact e)
  · rw [h] at e; injection e with e; have := hv b hb; omega
theorem Ap.new {w : World} {B D gf gn cf cn n : Nat} {H v v' : Value} {fs ns : List (List UInt8)} {hs : List (Nat × List UInt8)} {lim : Bool} {left : Int} (k : DvB w B D gf gn cf cn H n fs ns hs lim left) (a : Ap D gf gn H v) {s : Nat} (hs' : w.heap.size ≤ s) (h : v'.ownBlock = v.ownBlock ∨ v'.ownBlock = some s) : Ap D gf gn H v' := fun b hb => by
  rcases h with h | h
  · exact a b (by rw [← h]; exact hb)
  · rw [h] at hb; injection hb with hb
    have h1 := k.row.lt; have h2 := k.f.lt; have h3 := k.nw.lt
    refine ⟨by omega, by omega, by omega, fun e => ?_⟩
    have := (k.h.lt b e).2; omega
structure HS (w wr : World) (D gf gn cf cn n : Nat) (H : Value) (L : List (Nat × ByteArray)) (va vp : Value) : Prop where
  dv : DvB wr w.heap.size D gf gn cf cn H n (zbs n) (rep (zbs n) (hof L)) (hof L) false 0
  a : wr.ownsRow w.heap.size 3 1 va L.length (ats L)
  p : wr.ownsRow w.heap.size 9 1 vp L.length (pts L)
  ok : ∀ p ∈ L, p.1 < n ∧ p.2.size ≤ 64
  apA : Ap D gf gn H va
  apP : Ap D gf gn H vp
  ne : ∀ b, va.ownBlock = some b → vp.ownBlock ≠ some b
  bel : Below w.heap.size w wr
theorem HS.drew {w wr : World} {D gf gn cf cn n : Nat} {H : Value} {L : List (Nat × ByteArray)} {va vp : Value} (h : HS w wr D gf gn cf cn n H L va vp) : HS w wr.drew D gf gn cf cn n H L va vp :=
  { h with dv := h.dv.keep (Below.refl _ _).drew, a := h.a.drew, p := h.p.drew, bel := h.bel.drew }
end Go.Proofs.Ytgadplgjpemdaaa
