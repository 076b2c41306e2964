/- pq: the queue as a whole, empty or not, with the blocks that are its own; what Len, has and Key say of it. -/
import Derived.Test.YtgofachgoflgnaaPe
import Derived.Test.YtgofachgoflgnaaPf
namespace Go.Proofs.Ytgofachgoflgnaa
open Go.ChangeShapes Go.WideShapes Go.ChangeAt Go.RowKit Go.Joins Go.Deep

/- what changes are blocks of F, and new ones -/
structure FrF (F : Nat → Prop) (w w' : World) : Prop where
  os : w'.os = w.os
  tape : w'.tape = w.tape
  output : w'.output = w.output
  size : w.heap.size ≤ w'.heap.size
  block : ∀ k, k < w.heap.size → ¬ F k → w'.heap[k]? = w.heap[k]?
theorem FrF.refl (F : Nat → Prop) (w : World) : FrF F w w := ⟨rfl, rfl, rfl, Nat.le_refl _, fun _ _ _ => rfl⟩
theorem FrF.trans {F F' : Nat → Prop} {a b c : World} (h : FrF F a b) (k : FrF F' b c) (hF : ∀ i, i < a.heap.size → F' i → F i) : FrF F a c :=
  ⟨k.os.trans h.os, k.tape.trans h.tape, k.output.trans h.output, Nat.le_trans h.size k.size, fun i h1 h2 => (k.block i (Nat.lt_of_lt_of_le h1 h.size) (fun e => h2 (hF i h1 e))).trans (h.block i h1 h2)⟩
theorem FrF.of_below {F : Nat → Prop} {w w' : World} (b : Below w.heap.size w w') : FrF F w w' := ⟨b.os, b.tape, b.output, b.size, fun k h1 _ => b.block k h1⟩
theorem FrF.of_fr {F : Nat → Prop} {hb pb : Nat} {w w' : World} (f : Fr hb pb w w') (h1 : F hb) (h2 : F pb) : FrF F w w' := by
  have b := f.below 0 (Nat.zero_le _) (Nat.zero_le _) (Nat.zero_le _)
  exact ⟨b.os, b.tape, b.output, f.size, fun k hk hn => f.block k hk (fun e => hn (e ▸ h1)) (fun e => hn (e ▸ h2))⟩
theorem FrF.of_only {F : Nat → Prop} {hb pb : Nat} {w w' : World} (f : Only hb pb w w') (h1 : F hb) (h2 : F pb) : FrF F w w' := by
  have b := f.below 0 (Nat.zero_le _) (Nat.zero_le _)
  exact ⟨b.os, b.tape, b.output, Nat.le_of_eq f.size.symm, fun k _ hn => f.block k (fun e => hn (e ▸ h1)) (fun e => hn (e ▸ h2))⟩
theorem FrF.setCell {F : Nat → Prop} (w : World) {a : Addr} (h : F a.block) (u : Value) : FrF F w (w.setCell a u) :=
  ⟨rfl, rfl, rfl, by simp [World.setCell], fun k _ hn => Below.heap_setCell _ _ _ _ (fun e => hn (e ▸ h))⟩
theorem FrF.below {F : Nat → Prop} {w w' : World} (f : FrF F w w') {B : Nat} (hB : B ≤ w.heap.size) (h : ∀ k, F k → B ≤ k) : Below B w w' :=
  ⟨f.os, f.tape, f.output, f.size, fun k hk => f.block k (by omega) (fun e => by have := h k e; omega)⟩
theorem Ints.same {w W : World} {base : Nat} {v : Value} {l : List Int} (h : Ints w base v l) (e : ∀ g, v.ownBlock = some g → W.heap[g]? = w.heap[g]?) : Ints W base v l := by
  refine ⟨h.1, ?_⟩
  rcases h.2 with h0 | ⟨g, cap, cur, rfl, h2, hg, h3⟩
  · exact Or.inl h0
  · exact Or.inr ⟨g, cap, cur, rfl, h2, by rw [e g rfl]; exact hg, h3⟩
theorem Ints.blk {w : World} {base : Nat} {v : Value} {l : List Int} (h : Ints w base v l) (hp : 0 < l.length) : ∃ g cap, v = .slice (some ⟨g, 0, none⟩) l.length cap := by
  rcases h.2 with ⟨_, h0⟩ | ⟨g, cap, cur, e, _⟩
  · omega
  · exact ⟨g, cap, e⟩
structure QG (w : World) (qb : Nat) (F : Nat → Prop) (vh vk vp : Value) (hs ks ps : List Int) : Prop where
  q : QCells w qb vh vk vp
  h : Ints w 0 vh hs
  k : Ints w 0 vk ks
  p : Ints w 0 vp ps
  kl : ks.length = ps.length
  n1 : ∀ a, vh.ownBlock = some a → vp.ownBlock = some a → False
  n2 : ∀ a, vh.ownBlock = some a → vk.ownBlock = some a → False
  n3 : ∀ a, vk.ownBlock = some a → vp.ownBlock = some a → False
  q1 : vh.ownBlock ≠ some qb
  q2 : vk.ownBlock ≠ some qb
  q3 : vp.ownBlock ≠ some qb
  fq : F qb
  fh : ∀ a, vh.ownBlock = some a → F a
  fk : ∀ a, vk.ownBlock = some a → F a
  fp : ∀ a, vp.ownBlock = some a → F a
  lt : ∀ a, F a → a < w.heap.size
theorem QG.same {w W : World} {qb : Nat} {F : Nat → Prop} {vh vk vp : Value} {hs ks ps : List Int} (g : QG w qb F vh vk vp hs ks ps) (hsz : w.heap.size ≤ W.heap.size) (e : ∀ k, F k → W.heap[k]? = w.heap[k]?) : QG W qb F vh vk vp hs ks ps :=
  ⟨by unfold QCells; rw [e _ g.fq]; exact g.q, g.h.same (fun a h => e a (g.fh a h)), g.k.same (fun a h => e a (g.fk a h)), g.p.same (fun a h => e a (g.fp a h)), g.kl, g.n1, g.n2, g.n3, g.q1, g.q2, g.q3, g.fq, g.fh, g.fk, g.fp, fun a h => Nat.lt_of_lt_of_le (g.lt a h) hsz⟩
theorem QG.qs {w : World} {qb : Nat} {F : Nat → Prop} {vh vk vp : Value} {hs ks ps : List Int} (g : QG w qb F vh vk vp hs ks ps) (hp : 0 < hs.length) (hn : 0 < ps.length) :
    ∃ hb kb pb hc kc pc, vh = .slice (some ⟨hb, 0, none⟩) hs.length hc ∧ vk = .slice (some ⟨kb, 0, none⟩) ks.length kc ∧ vp = .slice (some ⟨pb, 0, none⟩) ps.length pc ∧ QS w qb hb kb pb hc kc pc 0 hs ks ps ∧ F hb ∧ F kb ∧ F pb := by
  obtain ⟨hb, hc, rfl⟩ := g.h.blk hp
  obtain ⟨kb, kc, rfl⟩ := g.k.blk (by rw [g.kl]; exact hn)
  obtain ⟨pb, pc, rfl⟩ := g.p.blk hn
  refine ⟨hb, kb, pb, hc, kc, pc, rfl, rfl, rfl, ⟨g.q, g.h, g.k, g.p, g.kl, ?_, ?_, ?_, ?_, ?_, ?_⟩, g.fh _ rfl, g.fk _ rfl, g.fp _ rfl⟩
  · intro e; exact g.n1 hb rfl (by rw [e]; rfl)
  · intro e; exact g.n2 hb rfl (by rw [e]; rfl)
  · intro e; exact g.n3 kb rfl (by rw [e]; rfl)
  · intro e; exact g.q1 (by rw [e]; rfl)
  · intro e; exact g.q2 (by rw [e]; rfl)
  · intro e; exact g.q3 (by rw [e]; rfl)
theorem own_slice {a b n c : Nat} (h : (Value.slice (some ⟨a, 0, none⟩) n c).ownBlock = some b) : a = b := by injection h
theorem QS.qg {w : World} {qb hb kb pb hc kc pc : Nat} {F : Nat → Prop} {hs ks ps : List Int} (s : QS w qb hb kb pb hc kc pc 0 hs ks ps) (fq : F qb) (fh : F hb) (fk : F kb) (fp : F pb) (lt : ∀ a, F a → a < w.heap.size) :
    QG w qb F (.slice (some ⟨hb, 0, none⟩) hs.length hc) (.slice (some ⟨kb, 0, none⟩) ks.length kc) (.slice (some ⟨pb, 0, none⟩) ps.length pc) hs ks ps :=
  ⟨s.q, s.h, s.k, s.p, s.kl, fun a h1 h2 => s.n1 ((own_slice h1).trans (own_slice h2).symm), fun a h1 h2 => s.n2 ((own_slice h1).trans (own_slice h2).symm), fun a h1 h2 => s.n3 ((own_slice h1).trans (own_slice h2).symm),
    fun h => s.q1 (own_slice h).symm, fun h => s.q2 (own_slice h).symm, fun h => s.q3 (own_slice h).symm, fq, fun a h => by rw [← own_slice h]; exact fh, fun a h => by rw [← own_slice h]; exact fk, fun a h => by rw [← own_slice h]; exact fp, lt⟩
/- what the queue holds: the items of ins, with the keys ks -/
structure Pre (ins : List Bool) (hs ps : List Int) : Prop where
  c : Cons hs ps
  len : ins.length = ps.length
  inp : ∀ X, X < ps.length → (ins.getD X false = true ↔ ps.getD X 0 ≠ -1)
  at_ : ∀ X, X < ps.length → ps.getD X 0 ≠ -1 → ∃ i, i < hs.length ∧ hs.getD i 0 = (X : Int)
  cnt : hs.length = ins.count true
  most : ps.length ≤ 1048576
structure Inv (ins : List Bool) (hs ks ps : List Int) : Prop extends Pre ins hs ps where
  hp : Heap (leK ks) (hf hs) hs.length
def QI (w : World) (qb : Nat) (F : Nat → Prop) (ins : List Bool) (ks : List Int) : Prop := ∃ vh vk vp hs ps, QG w qb F vh vk vp hs ks ps ∧ Inv ins hs ks ps
theorem QI.frame {w W : World} {qb : Nat} {F G : Nat → Prop} {ins : List Bool} {ks : List Int} (I : QI w qb F ins ks) (f : FrF G w W) (d : ∀ k, F k → ¬ G k) : QI W qb F ins ks := by
  obtain ⟨vh, vk, vp, hs, ps, g, i⟩ := I
  exact ⟨vh, vk, vp, hs, ps, g.same f.size (fun k hk => f.block k (g.lt k hk) (d k hk)), i⟩
theorem QI.below {w W : World} {qb : Nat} {F : Nat → Prop} {ins : List Bool} {ks : List Int} (I : QI w qb F ins ks) (b : Below w.heap.size w W) : QI W qb F ins ks := I.frame (FrF.of_below (F := fun _ => False) b) (fun _ _ h => h)
theorem QI.lt {w : World} {qb : Nat} {F : Nat → Prop} {ins : List Bool} {ks : List Int} (I : QI w qb F ins ks) : ∀ a, F a → a < w.heap.size := by
  obtain ⟨_, _, _, _, _, g, _⟩ := I; exact g.lt
theorem QI.fq {w : World} {qb : Nat} {F : Nat → Prop} {ins : List Bool} {ks : List Int} (I : QI w qb F ins ks) : F qb := by
  obtain ⟨_, _, _, _, _, g, _⟩ := I; exact g.fq
theorem QI.kl {w : World} {qb : Nat} {F : Nat → Prop} {ins : List Bool} {ks : List Int} (I : QI w qb F ins ks) : ks.length = ins.length ∧ ins.length ≤ 1048576 := by
  obtain ⟨_, _, _, _, _, g, i⟩ := I; exact ⟨g.kl.trans i.len.symm, by rw [i.len]; exact i.most⟩
theorem len_qi {w : World} {qb : Nat} {F : Nat → Prop} {ins : List Bool} {ks : List Int} (I : QI w qb F ins ks) : Calls Try.prog 46 #[qp qb] w fun e w' => e = .returned (.int .i64 ((ins.count true : Nat) : Int)) ∧ w = w' := by
  obtain ⟨vh, vk, vp, hs, ps, g, i⟩ := I
  obtain ⟨a, cap, rfl⟩ := g.h.form
  have := len_any g.q
  rw [i.cnt] at this
  exact this
/- whether x is an item of the queue -/
def hasB (ins : List Bool) (x : Int) : Bool := decide (0 ≤ x) && (ins.getD x.toNat false)
theorem hasB_neg {ins : List Bool} {x : Int} (h : x < 0) : hasB ins x = false := by unfold hasB; rw [decide_eq_false (by omega)]; rfl
theorem hasB_out {ins : List Bool} {x : Int} (h : (ins.length : Int) ≤ x) : hasB ins x = false := by
  unfold hasB
  have : ins.getD x.toNat false = false := by rw [List.getD, List.getElem?_eq_none (by omega)]; rfl
  rw [this, Bool.and_false]
theorem hasB_nat {ins : List Bool} (X : Nat) : hasB ins (X : Int) = ins.getD X false := by
  unfold hasB; rw [decide_eq_true (by omega)]; simp
theorem has_qi {w : World} {qb : Nat} {F : Nat → Prop} {ins : List Bool} {ks : List Int} (I : QI w qb F ins ks) (x : Int) : Calls Try.prog 48 #[qp qb, .int .i64 x] w fun e w' => e = .returned (.bool (hasB ins x)) ∧ w = w' := by
  obtain ⟨vh, vk, vp, hs, ps, g, i⟩ := I
  obtain ⟨a, cap, rfl⟩ := g.p.form
  rcases Int.lt_or_le x 0 with h0 | h0
  · rw [hasB_neg h0]; exact has_out g.q (Or.inl h0)
  · rcases Int.lt_or_le x (ps.length : Int) with h1 | h1
    · obtain ⟨X, rfl⟩ : ∃ X : Nat, x = (X : Int) := ⟨x.toNat, by omega⟩
      have e : hasB ins (X : Int) = (ps.getD X 0 != -1) := by
        rw [hasB_nat]
        have := i.inp X (by omega)
        cases hb : ins.getD X false <;> simp_all
      rw [e]; exact has_in g.q g.p (by omega)
    · rw [hasB_out (by rw [i.len]; exact h1)]; exact has_out g.q (Or.inr h1)
end Go.Proofs.Ytgofachgoflgnaa

