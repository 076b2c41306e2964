/- The walk of the law on sequences of operations. -/
import Derived.Test.YtpgblcemooamdaaWf
import Derived.Deep.Slices
import Derived.Deep.Strs
namespace Go.Proofs.Ytpgblcemooamdaa
open Go.ChangeShapes Go.WideShapes Go.ChangeAt Go.RowKit Go.Maps Go.WideMaps

structure OpZ where
  kind : Int
  s : ByteArray
  i : Int
instance : Inhabited OpZ := ⟨⟨0, ByteArray.empty, 0⟩⟩
/- a slice of operations -/
def OpsAt (w : World) (v : Value) (n : Nat) (g : Nat → OpZ) : Prop :=
  ∃ (a : Option Addr) (cap : Nat), v = .slice a n cap ∧ n ≤ maxLen ∧ (∀ j, j < n → 0 ≤ (g j).kind ∧ (g j).kind ≤ 255 ∧ (g j).s.size ≤ maxLen) ∧
    (n = 0 ∨ ∃ b off, a = some ⟨b, off, none⟩ ∧ b < w.heap.size ∧ ∀ j, j < n → w.cell? ⟨b, off + j * 3, none⟩ = some (.int .u8 (g j).kind) ∧ w.cell? ⟨b, off + j * 3 + 1, none⟩ = some (.string (g j).s) ∧ w.cell? ⟨b, off + j * 3 + 2, none⟩ = some (.int .i64 (g j).i))
theorem Try.cells28 : Try.prog.cellsOf 28 = 3 := by kernel_rfl
theorem Try.cells5 : Try.prog.cellsOf 5 = 1 := by kernel_rfl
theorem Try.cells3 : Try.prog.cellsOf 3 = 1 := by kernel_rfl
theorem ops_open {H : Type} {enc : TypeId × Value → H} {W : World} {base b0 : Nat} {spare : Nat → Bool} {held : Bool} {r : Reach} {v : Value} {d : DataW H} {p : List MemPlace}
    (hv : Value.okWide Try.prog W r b0 22 v) (h : DataW.Trod enc Try.prog W base spare held 22 v d p) : ∃ n g, OpsAt W v n g := by
  obtain ⟨a0, len0, cap0, rfl⟩ := okWide_slice Try.underlying22 hv
  obtain ⟨fuel, hf⟩ := h
  rcases Deep.open_slice Try.underlying22 hf with ⟨hcs, _⟩ | ⟨a, len, cap, m, n', D, Pl, hcs, _, hl, hm, hmm, _, hi⟩
  · simp [Value.cells] at hcs
    obtain ⟨rfl, rfl, rfl⟩ := hcs
    exact ⟨0, fun _ => default, none, 0, rfl, by decide, (fun j h => absurd h (Nat.not_lt_zero j)), Or.inl rfl⟩
  · simp [Value.cells] at hcs
    obtain ⟨rfl, rfl, rfl⟩ := hcs
    have hlm : len0 ≤ m := by rw [hmm]; split <;> omega
    have key : ∀ j, j < len0 → ∃ z : OpZ, (0 ≤ z.kind ∧ z.kind ≤ 255 ∧ z.s.size ≤ maxLen) ∧ W.cell? (a.add (j * 3)) = some (.int .u8 z.kind) ∧ W.cell? (a.add (j * 3 + 1)) = some (.string z.s) ∧ W.cell? (a.add (j * 3 + 2)) = some (.int .i64 z.i) := by
      intro j hj
      obtain ⟨cs', hc, ht⟩ := hi j (by omega)
      rw [Try.cells28] at hc
      obtain ⟨_, hcl, hat⟩ := World.cells?_some hc
      obtain ⟨z0, z1, z2, n2, _, _, t0, t1, t2⟩ := Deep.trod_struct3 Try.underlying28 ht
      obtain ⟨x, ex, _, wx⟩ := DataW.trod_int Try.underlying5 t0
      obtain ⟨y, ey, _, wy⟩ := DataW.trod_string Try.underlying9 t1
      obtain ⟨u, eu, _, wu⟩ := DataW.trod_int Try.underlying3 t2
      rw [Try.cells5] at ex
      rw [Try.cells9] at ey
      rw [Try.cells3] at eu
      match cs', hcl with
      | [q0, q1, q2], _ =>
        simp at ex ey eu
        subst ex ey eu
        have hb := bounds_u8 wx
        refine ⟨⟨x, y, u⟩, ⟨by show 0 ≤ x; omega, by show x ≤ 255; omega, wy⟩, ?_, ?_, ?_⟩
        · have := hat 0 (by omega); simpa [Addr.add] using this
        · have := hat 1 (by omega); rw [Deep.add_add] at this; simpa using this
        · have := hat 2 (by omega); rw [Deep.add_add] at this; simpa using this
    obtain ⟨g, hg⟩ := Deep.choose_lt key
    refine ⟨len0, g, some a, cap0, rfl, by omega, fun j hj => (hg j hj).1, ?_⟩
    by_cases hz : len0 = 0
    · exact Or.inl hz
    · right
      obtain ⟨b, off, spot⟩ := a
      have c0 := (hg 0 (by omega)).2.1
      have hspot : spot = none := by simpa [Addr.add] using World.cell?_spot c0
      subst hspot
      refine ⟨b, off, rfl, ?_, fun j hj => ?_⟩
      · rw [Addr.add_lit] at c0
        by_cases hb : b < W.heap.size
        · exact hb
        · exfalso
          unfold World.cell? at c0
          simp [Array.getElem?_eq_none (Nat.le_of_not_lt hb)] at c0
      · obtain ⟨_, h1, h2, h3⟩ := hg j hj
        rw [Addr.add_lit] at h1 h2 h3
        exact ⟨h1, h2, h3⟩

/- the reference's list lies apart from the table -/
def Away (w : World) (v : Value) (tb mb : Nat) (sv : Value) : Prop := ∀ ad n cap, v = .slice (some ad) n cap → ad.block < w.heap.size ∧ ad.block ≠ tb ∧ ad.block ≠ mb ∧ sv.ownBlock ≠ some ad.block
/- what the walk carries from round to round -/
structure Play (w0 w : World) (tb mb : Nat) (sv v : Value) (ss : List ByteArray) : Prop where
  tab : Tab w tb mb sv ss
  own : ∀ k, sv.ownBlock = some k → w0.heap.size ≤ k
  tb0 : w0.heap.size ≤ tb
  mb0 : w0.heap.size ≤ mb
  ref : StrsAt w v ss
  away : Away w v tb mb sv
  bel : Below w0.heap.size w0 w
theorem Play.keep {w0 w w' : World} {tb mb : Nat} {sv v : Value} {ss : List ByteArray} (h : Play w0 w tb mb sv v ss) (hb : Below w.heap.size w w') : Play w0 w' tb mb sv v ss :=
  ⟨h.tab.keep hb, h.own, h.tb0, h.mb0, h.ref.below hb, fun ad n cap e => ⟨Nat.lt_of_lt_of_le (h.away ad n cap e).1 hb.size, (h.away ad n cap e).2⟩, h.bel.trans (hb.mono h.bel.size)⟩
/- both lists have taken the string -/
theorem Play.add {w0 w w1 w2 : World} {tb mb : Nat} {sv v v' : Value} {ss ss' : List ByteArray} (h : Play w0 w tb mb sv v ss) (hs : StrsAt w1 v' ss') (hv : v' = v ∨ ∀ ad n cap, v' = .slice (some ad) n cap → w.heap.size ≤ ad.block) (hne : v' = v ∨ ss' ≠ []) (hb : Below w.heap.size w w1) (ha : AddsTo ss' w1 tb mb sv w2) :
    ∃ sv', Play w0 w2 tb mb sv' v' ss' := by
  have h1 := h.keep hb
  obtain ⟨sv', t', o', b'⟩ := Tab.own h1.bel h.tb0 h.mb0 h.own ha
  obtain ⟨sv2, t2, l2, k2⟩ := ha
  have hws := hb.size
  have htl := h.tab.lt
  obtain ⟨_, _, _, hml⟩ := h.tab.apart
  /- v' lies apart from the table as it was, in w1 -/
  have aw : Away w1 v' tb mb sv := by
    rcases hv with rfl | hv
    · exact h1.away
    · intro ad n cap e
      have hlo := hv ad n cap e
      have hlt : ad.block < w1.heap.size := by
        rcases hs with ⟨e2, _⟩ | ⟨ad2, cap2, e2, hb2, _, _⟩
        · rw [e] at e2; cases e2
        · rw [e] at e2
          injection e2 with e2 _ _
          injection e2 with e2
          subst e2
          rcases hb2 with hb2 | hb2
          · rcases hne with rfl | hne
            · exact (h1.away ad n cap e).1
            · exact absurd hb2 hne
          · exact hb2
      refine ⟨hlt, by omega, by omega, fun e2 => ?_⟩
      have hown := h.tab.row.lt ad.block e2
      omega
  refine ⟨sv2, t2, ?_, h.tb0, h.mb0, ?_, ?_, b'⟩
  · intro k e
    rcases l2 with l2 | ⟨k', l2, hk⟩
    · rw [l2] at e; exact h.own k e
    · rw [l2] at e; injection e with e
      have := h1.bel.size; omega
  · refine hs.kept k2 (fun ad n cap e => ?_)
    obtain ⟨_, a2, a3, a4⟩ := aw ad n cap e
    simp
    exact ⟨a2, a3, a4⟩
  · intro ad n cap e
    obtain ⟨a1, a2, a3, a4⟩ := aw ad n cap e
    refine ⟨Nat.lt_of_lt_of_le a1 k2.size, a2, a3, fun e2 => ?_⟩
    rcases l2 with l2 | ⟨k', l2, hk⟩
    · rw [l2] at e2; exact a4 e2
    · rw [l2] at e2; injection e2 with e2; omega
theorem addL_len {ss ss' : List ByteArray} {s : ByteArray} {c : Int} (h : AddL ss s c ss') : ss'.length ≤ ss.length + 1 ∧ (ss' = ss ∨ ss' ≠ []) := by
  rcases h with ⟨_, rfl, _⟩ | ⟨_, rfl, _⟩
  · exact ⟨by omega, Or.inl rfl⟩
  · exact ⟨by simp, Or.inr (by simp)⟩
abbrev namesPlays_zero0 : Value := .slice none 0 0
theorem namesPlays_open0 {H : Type} {enc : TypeId × Value → H} {W : World} {base b0 : Nat} {spare : Nat → Bool} {held : Bool} {r : Reach} {v : Value} {d : DataW H} {p : List MemPlace}
    (hv : Value.okWide Try.prog W r b0 22 v) (h : DataW.Trod enc Try.prog W base spare held 22 v d p) : ∃ n g, OpsAt W v n g := ops_open hv h
end Go.Proofs.Ytpgblcemooamdaa
