/- device: a device and the reference's, side by side. -/
import Derived.Test.YtgadplgjpemdaaaVo
set_option linter.unusedSimpArgs false
namespace Go.Proofs.Ytgadplgjpemdaaa
open Go.ChangeShapes Go.WideShapes Go.ChangeAt Go.RowKit Go.Joins Go.Deep

theorem own_leN {w : World} {B B' e k n : Nat} {v : Value} {xs : List Value} (h : w.ownsRow B e k v n xs) (hb : B' ≤ B) : w.ownsRow B' e k v n xs := by
  refine ⟨h.1, ?_⟩
  rcases h.2 with h0 | ⟨g, cap, cur, rfl, h2, h3⟩
  · exact Or.inl h0
  · exact Or.inr ⟨g, cap, cur, rfl, Nat.le_trans hb h2, h3⟩
theorem DvB.base {w : World} {B B' D gf gn cf cn n : Nat} {H : Value} {fs ns : List (List UInt8)} {hs : List (Nat × List UInt8)} {lim : Bool} {left : Int} (k : DvB w B D gf gn cf cn H n fs ns hs lim left) (hb : B' ≤ B) : DvB w B' D gf gn cf cn H n fs ns hs lim left :=
  { k with h := own_leN k.h hb, bD := Nat.le_trans hb k.bD, bf := Nat.le_trans hb k.bf, bn := Nat.le_trans hb k.bn }
def lz (hs : List (Nat × List UInt8)) : List (Nat × ByteArray) := hs.map (fun p => (p.1, ⟨p.2.toArray⟩))
theorem lz_snoc (hs : List (Nat × List UInt8)) (q : Nat) (d : List UInt8) : lz (hs ++ [(q, d)]) = lz hs ++ [(q, ⟨d.toArray⟩)] := by unfold lz; rw [List.map_append]; rfl
theorem lz_len (hs : List (Nat × List UInt8)) : (lz hs).length = hs.length := by unfold lz; rw [List.length_map]
theorem lz_take (hs : List (Nat × List UInt8)) (k : Nat) : (lz hs).take k = lz (hs.take k) := by unfold lz; rw [List.map_take]
theorem strs_set (l : List (List UInt8)) (q : Nat) (d : List UInt8) : strs (l.set q d) = (strs l).set q ⟨d.toArray⟩ := by unfold strs; rw [List.map_set]
theorem strs_rep : ∀ (l : List (Nat × List UInt8)) (bs : List (List UInt8)), strs (rep bs l) = repS (strs bs) (lz l)
  | [], _ => rfl
  | p :: l, bs => by
    show strs (rep (bs.set p.1 p.2) l) = repS ((strs bs).set p.1 ⟨p.2.toArray⟩) (lz l)
    rw [strs_rep l, strs_set]
def lr (lim : Bool) (left : Int) : Int := if lim = true then left else -1
structure PS (w wr : World) (D gf gn cf cn n : Nat) (H : Value) (fs ns : List (List UInt8)) (hs : List (Nat × List UInt8)) (lim : Bool) (left : Int) (pB pF : Addr) (aA aP : Option Addr) (m kB kF kA kP : Nat) (M : Nat → Prop) : Prop where
  dv : DvB wr w.heap.size D gf gn cf cn H n fs ns hs lim left
  B : wr.ownsRow w.heap.size 9 1 (.slice (some pB) n kB) n (sts (strs ns))
  F : wr.ownsRow w.heap.size 9 1 (.slice (some pF) n kF) n (sts (strs fs))
  A : wr.ownsRow w.heap.size 3 1 (.slice aA m kA) m (itz (lz hs))
  P : wr.ownsRow w.heap.size 9 1 (.slice aP m kP) m (stz (lz hs))
  apB : Ap D gf gn H (.slice (some pB) n kB)
  apF : Ap D gf gn H (.slice (some pF) n kF)
  apA : Ap D gf gn H (.slice aA m kA)
  apP : Ap D gf gn H (.slice aP m kP)
  len : hs.length = m
  nq : (aA = none ∧ kA = 0 ∧ aP = none ∧ kP = 0 ∧ m = 0) ∨ (∃ pA pP, aA = some pA ∧ aP = some pP)
  apM : ∀ b, M b → b ≠ D ∧ b ≠ gf ∧ b ≠ gn ∧ H.ownBlock ≠ some b
  nmB : ∀ b, M b → Value.ownBlock (.slice (some pB) n kB) ≠ some b
  nmF : ∀ b, M b → Value.ownBlock (.slice (some pF) n kF) ≠ some b
  nmA : ∀ b, M b → Value.ownBlock (.slice aA m kA) ≠ some b
  nmP : ∀ b, M b → Value.ownBlock (.slice aP m kP) ≠ some b
  mlt : ∀ b, M b → b < wr.heap.size
  bel : Below w.heap.size w wr
theorem PS.keep {w wr W : World} {D gf gn cf cn n : Nat} {H : Value} {fs ns : List (List UInt8)} {hs : List (Nat × List UInt8)} {lim : Bool} {left : Int} {pB pF : Addr} {aA aP : Option Addr} {m kB kF kA kP : Nat} {M : Nat → Prop}
    (h : PS w wr D gf gn cf cn n H fs ns hs lim left pB pF aA aP m kB kF kA kP M) (b : Below wr.heap.size wr W) : PS w W D gf gn cf cn n H fs ns hs lim left pB pF aA aP m kB kF kA kP M :=
  { h with dv := h.dv.keep b, B := own_below h.B b, F := own_below h.F b, A := own_below h.A b, P := own_below h.P b, mlt := fun c hc => Nat.lt_of_lt_of_le (h.mlt c hc) b.size, bel := h.bel.trans (b.mono h.bel.size) }
/- m's own block is written -/
theorem PS.setM {w wr W : World} {D gf gn cf cn n : Nat} {H : Value} {fs ns : List (List UInt8)} {hs : List (Nat × List UInt8)} {lim : Bool} {left : Int} {pB pF : Addr} {aA aP : Option Addr} {m kB kF kA kP : Nat} {M : Nat → Prop}
    (h : PS w wr D gf gn cf cn n H fs ns hs lim left pB pF aA aP m kB kF kA kP M) (o : ∀ b, ¬ M b → W.heap[b]? = wr.heap[b]?) (hs' : wr.heap.size ≤ W.heap.size) (bl : Below w.heap.size w W) : PS w W D gf gn cf cn n H fs ns hs lim left pB pF aA aP m kB kF kA kP M :=
  { h with
    dv := h.dv.same (fun b _ hc => o b (fun e => by
      have q := h.apM b e
      rcases hc with c | c | c | c
      · exact q.1 c
      · exact q.2.1 c
      · exact q.2.2.1 c
      · exact q.2.2.2 c))
    B := own_same h.B (fun b hb => o b (fun e => h.nmB b e hb))
    F := own_same h.F (fun b hb => o b (fun e => h.nmF b e hb))
    A := own_same h.A (fun b hb => o b (fun e => h.nmA b e hb))
    P := own_same h.P (fun b hb => o b (fun e => h.nmP b e hb))
    mlt := fun c hc => Nat.lt_of_lt_of_le (h.mlt c hc) hs'
    bel := bl }
abbrev rvP (n : Nat) (pB pF : Addr) (aA aP : Option Addr) (m kB kF kA kP : Nat) (l : Int) : Value := rv false (.slice (some pB) n kB) (.slice (some pF) n kF) (.slice aA m kA) (.slice aP m kP) l
/- a device and the value of the reference's are alike; j bounds the writes -/
def PX (w wr : World) (D n : Nat) (M : Nat → Prop) (j : Nat) (v : Value) : Prop := ∃ gf gn cf cn H fs ns hs lim left pB pF aA aP m kB kF kA kP, v = rvP n pB pF aA aP m kB kF kA kP (lr lim left) ∧ m ≤ j ∧ PS w wr D gf gn cf cn n H fs ns hs lim left pB pF aA aP m kB kF kA kP M
theorem PX.keep {w wr W : World} {D n j : Nat} {M : Nat → Prop} {v : Value} (h : PX w wr D n M j v) (b : Below wr.heap.size wr W) : PX w W D n M j v := by
  obtain ⟨gf, gn, cf, cn, H, fs, ns, hs, lim, left, pB, pF, aA, aP, m, kB, kF, kA, kP, e, hj, k⟩ := h
  exact ⟨gf, gn, cf, cn, H, fs, ns, hs, lim, left, pB, pF, aA, aP, m, kB, kF, kA, kP, e, hj, k.keep b⟩
theorem PX.setM {w wr W : World} {D n j : Nat} {M : Nat → Prop} {v : Value} (h : PX w wr D n M j v) (o : ∀ b, ¬ M b → W.heap[b]? = wr.heap[b]?) (hs' : wr.heap.size ≤ W.heap.size) (bl : Below w.heap.size w W) : PX w W D n M j v := by
  obtain ⟨gf, gn, cf, cn, H, fs, ns, hs, lim, left, pB, pF, aA, aP, m, kB, kF, kA, kP, e, hj, k⟩ := h
  exact ⟨gf, gn, cf, cn, H, fs, ns, hs, lim, left, pB, pF, aA, aP, m, kB, kF, kA, kP, e, hj, k.setM o hs' bl⟩
theorem PX.bel {w wr : World} {D n j : Nat} {M : Nat → Prop} {v : Value} (h : PX w wr D n M j v) : Below w.heap.size w wr := by
  obtain ⟨gf, gn, cf, cn, H, fs, ns, hs, lim, left, pB, pF, aA, aP, m, kB, kF, kA, kP, e, hj, k⟩ := h; exact k.bel
theorem PX.up {w wr : World} {D n j j' : Nat} {M : Nat → Prop} {v : Value} (h : PX w wr D n M j v) (hj' : j ≤ j') : PX w wr D n M j' v := by
  obtain ⟨gf, gn, cf, cn, H, fs, ns, hs, lim, left, pB, pF, aA, aP, m, kB, kF, kA, kP, e, hj, k⟩ := h
  exact ⟨gf, gn, cf, cn, H, fs, ns, hs, lim, left, pB, pF, aA, aP, m, kB, kF, kA, kP, e, Nat.le_trans hj hj', k⟩
theorem PX.sub {w wr : World} {D n j : Nat} {M M' : Nat → Prop} {v : Value} (h : PX w wr D n M j v) (s : ∀ b, M' b → M b) : PX w wr D n M' j v := by
  obtain ⟨gf, gn, cf, cn, H, fs, ns, hs, lim, left, pB, pF, aA, aP, m, kB, kF, kA, kP, e, hj, k⟩ := h
  exact ⟨gf, gn, cf, cn, H, fs, ns, hs, lim, left, pB, pF, aA, aP, m, kB, kF, kA, kP, e, hj, { k with apM := fun b hb => k.apM b (s b hb), nmB := fun b hb => k.nmB b (s b hb), nmF := fun b hb => k.nmF b (s b hb), nmA := fun b hb => k.nmA b (s b hb), nmP := fun b hb => k.nmP b (s b hb), mlt := fun b hb => k.mlt b (s b hb) }⟩
/- a block made since is none of theirs -/
theorem PX.more {w wr W : World} {D n j : Nat} {M : Nat → Prop} {v : Value} (h : PX w wr D n M j v) (b : Below wr.heap.size wr W) : PX w W D n (fun c => M c ∨ (wr.heap.size ≤ c ∧ c < W.heap.size)) j v := by
  obtain ⟨gf, gn, cf, cn, H, fs, ns, hs, lim, left, pB, pF, aA, aP, m, kB, kF, kA, kP, e, hj, k⟩ := h
  have nf : ∀ {B e N : Nat} {u : Value} {xs : List Value}, wr.ownsRow B e 1 u N xs → ∀ c, wr.heap.size ≤ c → u.ownBlock ≠ some c := fun h c hc e => by have := (h.lt c e).2; omega
  have q := k.keep b
  refine ⟨gf, gn, cf, cn, H, fs, ns, hs, lim, left, pB, pF, aA, aP, m, kB, kF, kA, kP, e, hj, { q with apM := fun c hc => ?_, nmB := fun c hc => ?_, nmF := fun c hc => ?_, nmA := fun c hc => ?_, nmP := fun c hc => ?_, mlt := fun c hc => ?_ }⟩
  · rcases hc with hc | hc
    · exact k.apM c hc
    · have h1 := k.dv.row.lt; have h2 := k.dv.f.lt; have h3 := k.dv.nw.lt
      exact ⟨by omega, by omega, by omega, fun e => by have := (k.dv.h.lt c e).2; omega⟩
  · rcases hc with hc | hc
    · exact k.nmB c hc
    · exact nf k.B c hc.1
  · rcases hc with hc | hc
    · exact k.nmF c hc
    · exact nf k.F c hc.1
  · rcases hc with hc | hc
    · exact k.nmA c hc
    · exact nf k.A c hc.1
  · rcases hc with hc | hc
    · exact k.nmP c hc
    · exact nf k.P c hc.1
  · rcases hc with hc | hc
    · have := k.mlt c hc; have := b.size; omega
    · exact hc.2
theorem PX.same {w wr : World} {D n j : Nat} {M : Nat → Prop} {v : Value} (h : PX w wr D n M j v) : Calls Try.prog 10 #[pD D, v] wr fun e w' => e = .returned (.bool true) ∧ Below wr.heap.size wr w' := by
  obtain ⟨gf, gn, cf, cn, H, fs, ns, hs, lim, left, pB, pF, aA, aP, m, kB, kF, kA, kP, rfl, hj, k⟩ := h
  exact same_any ⟨gf, gn, cf, cn, H, k.dv⟩ k.len k.B
theorem PX.read {w wr : World} {D n j : Nat} {M : Nat → Prop} {v : Value} (h : PX w wr D n M j v) (i : Int) : ∃ s c, (Calls Try.prog 13 #[pD D, .int .i64 i] wr fun e w' => e = .returned (.tuple #[.string s, .int .i64 c]) ∧ w' = wr) ∧
    ∀ W, Below wr.heap.size wr W → Calls Try.prog 14 #[v, .int .i64 i] W fun e w' => e = .returned (.tuple #[.string s, .int .i64 c]) ∧ Below W.heap.size W w' := by
  obtain ⟨gf, gn, cf, cn, H, fs, ns, hs, lim, left, pB, pF, aA, aP, m, kB, kF, kA, kP, rfl, hj, k⟩ := h
  refine ⟨_, _, read_any ⟨gf, gn, cf, cn, H, k.dv⟩ i, fun W b => ?_⟩
  have e : (strs ns).length = n := by rw [strs_len]; exact k.dv.nw.len
  have h : W.ownsRow w.heap.size 9 1 (.slice (some pB) n kB) (strs ns).length (sts (strs ns)) := by rw [e]; exact own_below k.B b
  have q := readr_any (vF := .slice (some pF) n kF) (vA := .slice aA m kA) (vP := .slice aP m kP) (left := lr lim left) h i
  rw [rdr_eq, e, k.dv.nw.len] at q; exact q
end Go.Proofs.Ytgadplgjpemdaaa
