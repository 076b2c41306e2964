/- device: a device and the reference's, side by side: both there, or both nil. -/
import Derived.Test.YtgadplgjpemdaaaVr
set_option linter.unusedSimpArgs false
namespace Go.Proofs.Ytgadplgjpemdaaa
open Go.ChangeShapes Go.WideShapes Go.ChangeAt Go.RowKit Go.Joins Go.Deep

def PG (w wr : World) (pp : Option Addr) (M : Nat → Prop) (j : Nat) (v : Value) : Prop := (∃ D n, n ≤ 1000 ∧ pp = some ⟨D, 0, none⟩ ∧ PX w wr D n M j v) ∨ (pp = none ∧ v = nilR ∧ Below w.heap.size w wr ∧ ∀ b, M b → b < wr.heap.size)
theorem PG.keep {w wr W : World} {pp : Option Addr} {j : Nat} {M : Nat → Prop} {v : Value} (h : PG w wr pp M j v) (b : Below wr.heap.size wr W) : PG w W pp M j v := by
  rcases h with ⟨D, n, hn, e, h⟩ | ⟨e, hv, h1, h2⟩
  · exact Or.inl ⟨D, n, hn, e, h.keep b⟩
  · exact Or.inr ⟨e, hv, h1.trans (b.mono h1.size), fun c hc => Nat.lt_of_lt_of_le (h2 c hc) b.size⟩
theorem PG.setM {w wr W : World} {pp : Option Addr} {j : Nat} {M : Nat → Prop} {v : Value} (h : PG w wr pp M j v) (o : ∀ b, ¬ M b → W.heap[b]? = wr.heap[b]?) (hs' : wr.heap.size ≤ W.heap.size) (bl : Below w.heap.size w W) : PG w W pp M j v := by
  rcases h with ⟨D, n, hn, e, h⟩ | ⟨e, hv, h1, h2⟩
  · exact Or.inl ⟨D, n, hn, e, h.setM o hs' bl⟩
  · exact Or.inr ⟨e, hv, bl, fun c hc => Nat.lt_of_lt_of_le (h2 c hc) hs'⟩
theorem PG.bel {w wr : World} {pp : Option Addr} {j : Nat} {M : Nat → Prop} {v : Value} (h : PG w wr pp M j v) : Below w.heap.size w wr := by
  rcases h with ⟨D, n, hn, e, h⟩ | ⟨e, hv, h1, h2⟩
  · exact h.bel
  · exact h1
theorem PG.up {w wr : World} {pp : Option Addr} {j j' : Nat} {M : Nat → Prop} {v : Value} (h : PG w wr pp M j v) (hj' : j ≤ j') : PG w wr pp M j' v := by
  rcases h with ⟨D, n, hn, e, h⟩ | h
  · exact Or.inl ⟨D, n, hn, e, h.up hj'⟩
  · exact Or.inr h
theorem PG.sub {w wr : World} {pp : Option Addr} {j : Nat} {M M' : Nat → Prop} {v : Value} (h : PG w wr pp M j v) (s : ∀ b, M' b → M b) : PG w wr pp M' j v := by
  rcases h with ⟨D, n, hn, e, h⟩ | ⟨e, hv, h1, h2⟩
  · exact Or.inl ⟨D, n, hn, e, h.sub s⟩
  · exact Or.inr ⟨e, hv, h1, fun c hc => h2 c (s c hc)⟩
theorem PG.more {w wr W : World} {pp : Option Addr} {j : Nat} {M : Nat → Prop} {v : Value} (h : PG w wr pp M j v) (b : Below wr.heap.size wr W) : PG w W pp (fun c => M c ∨ (wr.heap.size ≤ c ∧ c < W.heap.size)) j v := by
  rcases h with ⟨D, n, hn, e, h⟩ | ⟨e, hv, h1, h2⟩
  · exact Or.inl ⟨D, n, hn, e, h.more b⟩
  · refine Or.inr ⟨e, hv, h1.trans (b.mono h1.size), fun c hc => ?_⟩
    rcases hc with hc | hc
    · exact Nat.lt_of_lt_of_le (h2 c hc) b.size
    · exact hc.2
theorem PG.same {w wr : World} {pp : Option Addr} {j : Nat} {M : Nat → Prop} {v : Value} (h : PG w wr pp M j v) : Calls Try.prog 10 #[.pointer pp, v] wr fun e w' => e = .returned (.bool true) ∧ Below wr.heap.size wr w' := by
  rcases h with ⟨D, n, hn, rfl, h⟩ | ⟨rfl, rfl, h1, h2⟩
  · exact h.same
  · exact same_nil wr
theorem PG.read {w wr : World} {pp : Option Addr} {j : Nat} {M : Nat → Prop} {v : Value} (h : PG w wr pp M j v) (i : Int) : ∃ s c, (Calls Try.prog 13 #[.pointer pp, .int .i64 i] wr fun e w' => e = .returned (.tuple #[.string s, .int .i64 c]) ∧ w' = wr) ∧
    ∀ W, Below wr.heap.size wr W → Calls Try.prog 14 #[v, .int .i64 i] W fun e w' => e = .returned (.tuple #[.string s, .int .i64 c]) ∧ Below W.heap.size W w' := by
  rcases h with ⟨D, n, hn, rfl, h⟩ | ⟨rfl, rfl, h1, h2⟩
  · exact h.read i
  · exact ⟨_, _, read_nil wr i, fun W _ => readr_nil W _ _ _ _ _ i⟩
def RWG (w w' : World) (pp : Option Addr) (M : Nat → Prop) (j : Nat) (v : Value) (i c : Int) (s : ByteArray) : Prop := ∀ W, Below w'.heap.size w' W → Calls Try.prog 12 #[v, .int .i64 i, .string s] W fun e2 w2 => ∃ v', e2 = .returned (.tuple #[v', .int .i64 c]) ∧ PG w w2 pp (fun b => M b ∨ (w'.heap.size ≤ b ∧ b < W.heap.size)) (j + 1) v' ∧ Below W.heap.size W w2
def WG (w wr : World) (pp : Option Addr) (M : Nat → Prop) (j : Nat) (v : Value) (i c : Int) (s : ByteArray) : Prop := Calls Try.prog 11 #[.pointer pp, .int .i64 i, .string s] wr fun e w' => e = .returned (.int .i64 c) ∧ Below w.heap.size w w' ∧ wr.heap.size ≤ w'.heap.size ∧ (∀ b, M b → w'.heap[b]? = wr.heap[b]?) ∧ RWG w w' pp M j v i c s
theorem PG.write {w wr : World} {pp : Option Addr} {j : Nat} {M : Nat → Prop} {v : Value} (h : PG w wr pp M j v) (i : Int) (s : ByteArray) (hj : j ≤ 100) : ∃ c, WG w wr pp M j v i c s := by
  rcases h with ⟨D, n, hn, rfl, h⟩ | ⟨rfl, rfl, h1, h2⟩
  · obtain ⟨c, hc⟩ := h.write i s hj hn
    unfold WX at hc
    refine ⟨c, hc.mono ?_⟩
    rintro e w' ⟨rfl, b, sz, fr, r⟩
    refine ⟨rfl, b, sz, fr, fun W bW => (r W bW).mono ?_⟩
    rintro e2 w2 ⟨v', rfl, p, b2⟩
    exact ⟨v', rfl, Or.inl ⟨D, n, hn, rfl, p⟩, b2⟩
  · refine ⟨1, (write_nil wr i s).mono ?_⟩
    rintro e w' ⟨rfl, hw⟩
    subst hw
    refine ⟨rfl, h1, Nat.le_refl _, fun _ _ => rfl, fun W bW => (writer_nil W none none none none 0 0 0 0 0 0 0 0 0 i s).mono ?_⟩
    rintro e2 w2 ⟨rfl, b2⟩
    have bb := bW.trans (b2.mono bW.size)
    refine ⟨_, rfl, Or.inr ⟨rfl, rfl, h1.trans (bb.mono h1.size), fun c hc => ?_⟩, b2⟩
    rcases hc with hc | hc
    · exact Nat.lt_of_lt_of_le (h2 c hc) bb.size
    · exact Nat.lt_of_lt_of_le hc.2 b2.size
theorem PG.limit {w wr : World} {pp : Option Addr} {j : Nat} {M : Nat → Prop} {v : Value} (h : PG w wr pp M j v) (i : Int) (hi : i ≤ 9223372036854775807) :
    Calls Try.prog 15 #[.pointer pp, .int .i64 i] wr fun e w' => e = .returned (.tuple #[]) ∧ Below w.heap.size w w' ∧ wr.heap.size ≤ w'.heap.size ∧ (∀ b, M b → w'.heap[b]? = wr.heap[b]?) ∧
      ∀ W, Below w'.heap.size w' W → Calls Try.prog 16 #[v, .int .i64 i] W fun e2 w2 => ∃ v', e2 = .returned v' ∧ PG w w2 pp M j v' ∧ Below W.heap.size W w2 := by
  rcases h with ⟨D, n, hn, rfl, h⟩ | ⟨rfl, rfl, h1, h2⟩
  · refine (h.limit i hi).mono ?_
    rintro e w' ⟨rfl, b, sz, fr, r⟩
    refine ⟨rfl, b, sz, fr, fun W bW => (r W bW).mono ?_⟩
    rintro e2 w2 ⟨v', rfl, p, b2⟩
    exact ⟨v', rfl, Or.inl ⟨D, n, hn, rfl, p⟩, b2⟩
  · refine (limit_nil wr i).mono ?_
    rintro e w' ⟨rfl, hw⟩
    subst hw
    refine ⟨rfl, h1, Nat.le_refl _, fun _ _ => rfl, fun W bW => (limitr_nil W none none none none 0 0 0 0 0 0 0 0 0 i).mono ?_⟩
    rintro e2 w2 ⟨rfl, b2⟩
    have bb := bW.trans (b2.mono bW.size)
    exact ⟨_, rfl, Or.inr ⟨rfl, rfl, h1.trans (bb.mono h1.size), fun c hc => Nat.lt_of_lt_of_le (h2 c hc) bb.size⟩, b2⟩
theorem PG.after {w wr : World} {pp : Option Addr} {j : Nat} {M : Nat → Prop} {v : Value} (h : PG w wr pp M j v) (i : Int) (hj : j ≤ 100) :
    Calls Try.prog 17 #[.pointer pp, .int .i64 i] wr fun e w' => ∃ p', e = .returned (.pointer p') ∧ Below wr.heap.size wr w' ∧
      ∀ W, Below w'.heap.size w' W → Calls Try.prog 18 #[v, .int .i64 i] W fun e2 w2 => ∃ v', e2 = .returned v' ∧ PG w w2 p' M j v' ∧ Below W.heap.size W w2 := by
  rcases h with ⟨D, n, hn, rfl, h⟩ | ⟨rfl, rfl, h1, h2⟩
  · refine (h.after i hj hn).mono ?_
    rintro e w' ⟨D', rfl, b, r⟩
    refine ⟨_, rfl, b, fun W bW => (r W bW).mono ?_⟩
    rintro e2 w2 ⟨v', rfl, p, b2⟩
    exact ⟨v', rfl, Or.inl ⟨D', n, hn, rfl, p⟩, b2⟩
  · refine (after_nil wr i).mono ?_
    rintro e w' ⟨rfl, hw⟩
    subst hw
    refine ⟨_, rfl, Below.refl _ _, fun W bW => (afterr_nil W none none none none 0 0 0 0 0 0 0 0 0 i).mono ?_⟩
    rintro e2 w2 ⟨rfl, b2⟩
    have bb := bW.trans (b2.mono bW.size)
    exact ⟨_, rfl, Or.inr ⟨rfl, rfl, h1.trans (bb.mono h1.size), fun c hc => Nat.lt_of_lt_of_le (h2 c hc) bb.size⟩, b2⟩
theorem PG.form {w wr : World} {pp : Option Addr} {j : Nat} {M : Nat → Prop} {v : Value} (h : PG w wr pp M j v) : ∃ (nl : Bool) (aB aF aA aP : Option Addr) (nB nF nA nP kB kF kA kP : Nat) (l : Int), v = rv nl (.slice aB nB kB) (.slice aF nF kF) (.slice aA nA kA) (.slice aP nP kP) l := by
  rcases h with ⟨D, n, hn, rfl, h⟩ | ⟨rfl, rfl, h1, h2⟩
  · obtain ⟨gf, gn, cf, cn, H, fs, ns, hs, lim, left, pB, pF, aA, aP, m, kB, kF, kA, kP, e, _⟩ := h
    exact ⟨_, _, _, _, _, _, _, _, _, _, _, _, _, _, e⟩
  · exact ⟨_, _, _, _, _, _, _, _, _, _, _, _, _, _, rfl⟩
/- six cells go into the block -/
theorem PG.put {w wr : World} {pp : Option Addr} {mb j : Nat} {nl : Bool} {aB aF aA aP : Option Addr} {nB nF nA nP kB kF kA kP : Nat} {l : Int} {M : Nat → Prop} {z0 z1 z2 z3 z4 z5 : Value} (h : PG w wr pp M j (rv nl (.slice aB nB kB) (.slice aF nF kF) (.slice aA nA kA) (.slice aP nP kP) l)) (hM : M mb) (hb : w.heap.size ≤ mb) (r : Row wr mb 31 [z0, z1, z2, z3, z4, z5]) :
    ∃ W, (((((wr.setCell ⟨mb, 0, none⟩ (.bool nl)).setCell ⟨mb, 1, none⟩ (.slice aB nB kB)).setCell ⟨mb, 2, none⟩ (.slice aF nF kF)).setCell ⟨mb, 3, none⟩ (.slice aA nA kA)).setCell ⟨mb, 4, none⟩ (.slice aP nP kP)).setCell ⟨mb, 5, none⟩ (.int .i64 l) = W ∧
      Row W mb 31 (rcs nl (.slice aB nB kB) (.slice aF nF kF) (.slice aA nA kA) (.slice aP nP kP) l) ∧ PG w W pp M j (rv nl (.slice aB nB kB) (.slice aF nF kF) (.slice aA nA kA) (.slice aP nP kP) l) ∧ (∀ b, b ≠ mb → W.heap[b]? = wr.heap[b]?) ∧ W.heap.size = wr.heap.size := by
  obtain ⟨W, hW, r', bl⟩ := set6 r (.bool nl) (.slice aB nB kB) (.slice aF nF kF) (.slice aA nA kA) (.slice aP nP kP) (.int .i64 l)
  have o : ∀ b, b ≠ mb → W.heap[b]? = wr.heap[b]? := fun b hb => by rw [← hW]; simp only [Below.heap_setCell _ _ _ _ (show b ≠ (Addr.mk mb _ none).block from hb)]
  have s : W.heap.size = wr.heap.size := by rw [← hW]; simp [World.setCell]
  exact ⟨W, hW, r', h.setM (fun b hb => o b (fun e => hb (by rw [e]; exact hM))) (Nat.le_of_eq s.symm) (bl w.heap.size w hb h.bel), o, s⟩
/- a device, the reference's beside it, and the block in which the law keeps the reference's -/
def PMG (w wr : World) (pp : Option Addr) (mb j : Nat) : Prop := ∃ (nl : Bool) (aB aF aA aP : Option Addr) (nB nF nA nP kB kF kA kP : Nat) (l : Int), PG w wr pp (fun b => b = mb) j (rv nl (.slice aB nB kB) (.slice aF nF kF) (.slice aA nA kA) (.slice aP nP kP) l) ∧ Row wr mb 31 (rcs nl (.slice aB nB kB) (.slice aF nF kF) (.slice aA nA kA) (.slice aP nP kP) l)
/- New and the reference's New -/
theorem start (w wr : World) (x : Int) (hx : x ≤ 16) (bw : Below w.heap.size w wr) : Calls Try.prog 8 #[.int .i64 x] wr fun e w1 => ∃ pp, e = .returned (.pointer pp) ∧ Calls Try.prog 9 #[.int .i64 x] w1 fun e2 w2 => ∃ v, e2 = .returned v ∧ PG w w2 pp (fun _ => False) 0 v := by
  by_cases h1 : x < 1
  · refine (new_none wr x (Or.inl h1)).mono ?_
    rintro e w1 ⟨rfl, hw⟩
    subst hw
    refine ⟨none, rfl, (newr_none w1 x (Or.inl h1)).mono ?_⟩
    rintro e2 w2 ⟨rfl, b2⟩
    exact ⟨_, rfl, Or.inr ⟨rfl, rfl, bw.trans (b2.mono bw.size), fun _ h => h.elim⟩⟩
  · obtain ⟨n, rfl⟩ : ∃ n : Nat, x = (n : Int) := ⟨x.toNat, by omega⟩
    have hn : 1 ≤ n ∧ n ≤ 16 := by omega
    refine (new_any wr n hn.1 (by omega)).mono ?_
    rintro e w1 ⟨D, rfl, ⟨gf, gn, cf, cn, H0, KD⟩, b1⟩
    refine ⟨_, rfl, (newr_any w1 n hn.1 (by omega)).mono ?_⟩
    rintro e2 w2 ⟨v, rfl, ho, b⟩
    obtain ⟨p, kx, hv, hp⟩ : ∃ p kx, v = .slice (some p) n kx ∧ w1.heap.size ≤ p.block := by
      rcases ho.2 with ⟨_, h⟩ | ⟨g', cap', cur, e, hb, _⟩
      · omega
      · exact ⟨_, _, e, hb⟩
    subst hv
    have B1 := bw.trans (b1.mono bw.size)
    have es : strs (zbs n) = List.replicate n (padS ByteArray.empty) := by unfold strs zbs; rw [List.map_replicate]; rfl
    have ho3 : w2.ownsRow w1.heap.size 9 1 (.slice (some p) n kx) n (sts (strs (zbs n))) := by rw [es]; exact ho
    have ap := Ap.fresh KD ho3 (Nat.le_refl _)
    have sw : w.heap.size ≤ w1.heap.size := B1.size
    refine ⟨_, rfl, Or.inl ⟨D, n, by omega, rfl, gf, gn, cf, cn, H0, zbs n, zbs n, [], false, 0, p, p, none, none, 0, kx, kx, 0, 0, rfl, Nat.le_refl _, ?_⟩⟩
    exact {
      dv := (KD.base bw.size).keep b
      B := own_le ho3 sw
      F := own_le ho3 sw
      A := World.ownsRow_nil _ _ _ _
      P := World.ownsRow_nil _ _ _ _
      apB := ap
      apF := ap
      apA := fun b hb => absurd hb (by simp [Value.ownBlock])
      apP := fun b hb => absurd hb (by simp [Value.ownBlock])
      len := rfl
      nq := Or.inl ⟨rfl, rfl, rfl, rfl, rfl⟩
      apM := fun c hc => hc.elim
      nmB := fun c hc => hc.elim
      nmF := fun c hc => hc.elim
      nmA := fun c hc => hc.elim
      nmP := fun c hc => hc.elim
      mlt := fun c hc => hc.elim
      bel := B1.trans (b.mono sw) }
end Go.Proofs.Ytgadplgjpemdaaa
