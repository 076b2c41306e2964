/- The walk of NamesInverts. -/
import Derived.Test.YtpgblcemooamdaaWh
namespace Go.Proofs.Ytpgblcemooamdaa
open Go.ChangeShapes Go.WideShapes Go.ChangeAt Go.RowKit Go.Maps Go.WideMaps

/- Add of a string that is there: nothing turns -/
set_option maxHeartbeats 1000000 in
theorem add_in {w : World} {tb mb : Nat} {sv : Value} {ss : List ByteArray} {c : Int} (h : Tab w tb mb sv ss) (s : ByteArray) (hs : s.size ≤ maxLen) (hc : Num ss s c true) :
    Calls Try.prog 10 #[.pointer (some ⟨tb, 0, none⟩), .string s] w fun e w' => e = .returned (.int .i64 c) ∧ w = w' := by
  have c1 := h.c1
  have nd := h.nd
  obtain ⟨D, hD, hN⟩ := h.map
  have OWN := Lib.hid hD; have NUM := Lib.hid hN; have ND := Lib.hid nd; have CC := Lib.hid hc
  have hkey := Lib.hid (keyOf_string_mk (P := Try.prog) Try.underlying9 hs)
  have hm : s ∈ ss := by
    rcases hc with ⟨_, _, h⟩ | ⟨i, hi, e, _, _⟩
    · cases h
    · exact e ▸ List.getElem_mem hi
  have ho : has D (.string s.data.toList) = true := (hN.2.1 s).2 hm
  clear h hD hN hm nd hc
  go_enter Try.func10, Try.ntmps10
  go_wp2_with (at_lookup; refine wpList_lookup_own_ok_int _ rfl _ _ 50 rfl 9 3 .i64 law Try.underlying50 Try.underlying3 (zero3 _) mb _ D rfl OWN.out _ _ rfl hkey.out ?_; intro c' hat hwc; have HA := Lib.hid hat; clear hat)
  have HR := numbers_num NUM.out s c' HA.out
  rw [ho] at HR
  obtain ⟨rfl, _⟩ := num_unique ND.out HR CC.out
  go_ret
  exact ⟨rfl, rfl⟩

theorem Try.info3 : (Try.prog.info? 3).map (fun i => (i.zero, i.size, i.bytes)) = some (some (.int .i64 0), 1, 8) := by kernel_rfl
def nums (fs : List Int) : List Value := fs.map (Value.int .i64)
/- a row of integers of the call's own lies apart from the table: it holds another kind of things -/
theorem row_apart {w : World} {tb mb : Nat} {sv fv : Value} {ss : List ByteArray} {n : Nat} {xs : List Value} (h : Tab w tb mb sv ss) (hf : w.ownsRow 0 3 1 fv n xs) : ∀ k, fv.ownBlock = some k → k ≠ tb ∧ k ≠ mb ∧ sv.ownBlock ≠ some k := by
  intro k e
  obtain ⟨D, ⟨es, clock, hm, _⟩, _⟩ := h.map
  rcases hf.2 with ⟨rfl, _⟩ | ⟨g, cap, cur, rfl, _, hg, _⟩
  · cases e
  · have e2 : some g = some k := e
    injection e2 with e2
    subst e2
    refine ⟨?_, ?_, ?_⟩
    · rintro rfl; rw [h.here] at hg; cases hg
    · rintro rfl; rw [hm] at hg; cases hg
    · intro e3
      rcases h.row.2 with ⟨rfl, _⟩ | ⟨g', cap', cur', rfl, _, hg', _⟩
      · cases e3
      · have e4 : some g' = some g := e3
        injection e4 with e4
        subst e4
        rw [hg'] at hg; cases hg
theorem Tab.grown {w w' : World} {tb mb : Nat} {sv : Value} {ss : List ByteArray} {row : Option Nat} (h : Tab w tb mb sv ss) (g : w.grownBy w' row) (hr : ∀ k, row = some k → k ≠ tb ∧ k ≠ mb ∧ sv.ownBlock ≠ some k) : Tab w' tb mb sv ss := by
  obtain ⟨D, h1, h2⟩ := h.map
  refine ⟨?_, h.row.kept g ?_, ⟨D, h1.kept g ?_, h2⟩, h.len, h.sz, h.nd⟩
  · rw [g.block tb h.lt (fun e => (hr tb e.symm).1 rfl)]; exact h.here
  · cases hs : sv.ownBlock with
    | none => exact Or.inl rfl
    | some k => exact Or.inr (fun e => (hr k e.symm).2.2 hs)
  · intro e; exact (hr mb e.symm).2.1 rfl
theorem row_kp {w w' : World} {fv : Value} {n : Nat} {xs : List Value} {bad : List Nat} (h : w.ownsRow 0 3 1 fv n xs) (k : Kp bad w w') (hb : ∀ j, fv.ownBlock = some j → j ∉ bad) : w'.ownsRow 0 3 1 fv n xs := by
  refine ⟨h.1, ?_⟩
  rcases h.2 with h2 | ⟨g, cap, cur, rfl, h0, hg, r⟩
  · exact Or.inl h2
  · have hlt : g < w.heap.size := by
      by_cases hb : g < w.heap.size
      · exact hb
      · rw [Array.getElem?_eq_none (Nat.le_of_not_lt hb)] at hg; cases hg
    exact Or.inr ⟨g, cap, cur, rfl, h0, by rw [k.block g hlt (hb g rfl)]; exact hg, r⟩
theorem num_more {ss : List ByteArray} {s u : ByteArray} {c : Int} (h : Num ss s c true) : Num (ss ++ [u]) s c true := by
  rcases h with ⟨_, _, h⟩ | ⟨i, hi, e, hc, ho⟩
  · cases h
  · exact Or.inr ⟨i, by simp; omega, by rw [List.getElem_append_left hi]; exact e, hc, ho⟩
theorem num_add {ss ss' : List ByteArray} {s : ByteArray} {c : Int} (h : AddL ss s c ss') : Num ss' s c true ∧ (∀ u d, Num ss u d true → Num ss' u d true) ∧ c ≤ ss.length ∧ 0 ≤ c ∧ ss'.length ≤ ss.length + 1 := by
  rcases h with ⟨h1, rfl, h3⟩ | ⟨h1, rfl, h3⟩
  · refine ⟨h3, fun _ _ h => h, ?_, ?_, by omega⟩
    all_goals
      rcases h3 with ⟨h, _⟩ | ⟨i, hi, _, hc, _⟩
      · exact absurd h1 h
      · omega
  · exact ⟨Or.inr ⟨ss.length, by simp, by simp, h3, rfl⟩, fun _ _ h => num_more h, by omega, by omega, by simp⟩
/- what is carried through the first loop -/
structure Inv (w0 w : World) (tb mb : Nat) (sv fv : Value) (ss : List ByteArray) (fs : List Int) (ls : List ByteArray) (k : Nat) : Prop where
  tab : Tab w tb mb sv ss
  own : ∀ k, sv.ownBlock = some k → w0.heap.size ≤ k
  tb0 : w0.heap.size ≤ tb
  mb0 : w0.heap.size ≤ mb
  row : w.ownsRow 0 3 1 fv fs.length (nums fs)
  fown : ∀ k, fv.ownBlock = some k → w0.heap.size ≤ k
  flen : fs.length = k
  num : ∀ j (h : j < fs.length) (h' : j < ls.length), Num ss ls[j] fs[j] true
  slen : ss.length ≤ k
  bel : Below w0.heap.size w0 w
theorem Inv.keep {w0 w w' : World} {tb mb : Nat} {sv fv : Value} {ss : List ByteArray} {fs : List Int} {ls : List ByteArray} {k : Nat} (h : Inv w0 w tb mb sv fv ss fs ls k) (hb : Below w.heap.size w w') : Inv w0 w' tb mb sv fv ss fs ls k :=
  ⟨h.tab.keep hb, h.own, h.tb0, h.mb0, row_kp h.row (Kp.of_below (bad := []) hb) (fun _ _ => by simp), h.fown, h.flen, h.num, h.slen, h.bel.trans (hb.mono h.bel.size)⟩
/- the table has taken the k-th string -/
theorem Inv.add {w0 w w' : World} {tb mb : Nat} {sv fv : Value} {ss ss' : List ByteArray} {fs : List Int} {ls : List ByteArray} {k : Nat} (h : Inv w0 w tb mb sv fv ss fs ls k) (ha : AddsTo ss' w tb mb sv w') :
    ∃ sv', Tab w' tb mb sv' ss' ∧ (∀ k, sv'.ownBlock = some k → w0.heap.size ≤ k) ∧ Below w0.heap.size w0 w' ∧ w'.ownsRow 0 3 1 fv fs.length (nums fs) := by
  obtain ⟨sv', t', o', b'⟩ := Tab.own h.bel h.tb0 h.mb0 h.own ha
  obtain ⟨sv2, t2, l2, k2⟩ := ha
  refine ⟨sv', t', o', b', row_kp h.row k2 (fun j e => ?_)⟩
  obtain ⟨a1, a2, a3⟩ := row_apart h.tab h.row j e
  simp
  exact ⟨a1, a2, a3⟩
end Go.Proofs.Ytpgblcemooamdaa
