/- A string table in memory: what the walks carry; contracts of New, Len, Get, Find, Add. -/
import Derived.Test.YtpgblcemooamdaaRows
import Derived.WalkKit
import Derived.ProofKit
import Derived.OpenShut
import Derived.Lib.Hide
import Derived.WalkSmall
import Derived.WalkMore
import Derived.Maps.Own
import Derived.Maps.OwnOps
import Derived.Maps.OwnSet
import Derived.Maps.Views
import Derived.Maps.AppendAt
namespace Go.Proofs.Ytpgblcemooamdaa
open Go.ChangeShapes Go.WideShapes Go.ChangeAt Go.RowKit Go.Maps Go.WideMaps

theorem ret_i64 {a b : Int} (h : a = b) : Ending.returned (.int .i64 a) = .returned (.int .i64 b) := by rw [h]

/- two strings, as the walk compares them -/
theorem bytes_inj {u s : ByteArray} (h : u.toList = s.toList) : u = s := by
  obtain ⟨⟨l⟩⟩ := u
  obtain ⟨⟨m⟩⟩ := s
  simp at h
  rw [h]
theorem str_ne {u s : ByteArray} (h : u ≠ s) : (u.toList == s.toList) = false := by
  rw [beq_eq_false_iff_ne]
  exact fun e => h (bytes_inj e)
theorem str_eq {u s : ByteArray} (h : (u.toList == s.toList) = true) : u = s := bytes_inj (by simpa using h)

/- only the listed blocks may have turned -/
structure Kp (bad : List Nat) (w w' : World) : Prop where
  os : w'.os = w.os
  tape : w'.tape = w.tape
  output : w'.output = w.output
  size : w.heap.size ≤ w'.heap.size
  block : ∀ k, k < w.heap.size → k ∉ bad → w'.heap[k]? = w.heap[k]?
theorem Kp.refl (bad : List Nat) (w : World) : Kp bad w w := ⟨rfl, rfl, rfl, Nat.le_refl _, fun _ _ _ => rfl⟩
theorem Kp.trans {bad : List Nat} {a b c : World} (h : Kp bad a b) (k : Kp bad b c) : Kp bad a c :=
  ⟨k.os.trans h.os, k.tape.trans h.tape, k.output.trans h.output, Nat.le_trans h.size k.size, fun i hi hn => (k.block i (Nat.lt_of_lt_of_le hi h.size) hn).trans (h.block i hi hn)⟩
theorem Kp.mono {bad bad' : List Nat} {a b : World} (h : Kp bad a b) (hs : ∀ k, k < a.heap.size → k ∈ bad → k ∈ bad') : Kp bad' a b :=
  ⟨h.os, h.tape, h.output, h.size, fun k hk hn => h.block k hk fun hb => hn (hs k hk hb)⟩
theorem Kp.alloc (bad : List Nat) (w : World) (o : Obj) : Kp bad w (w.alloc o) :=
  ⟨rfl, rfl, rfl, by simp, fun k hk _ => Below.heap_alloc _ _ _ hk⟩
theorem Kp.setCell {bad : List Nat} {w : World} {p : Addr} (hp : p.block ∈ bad) (u : Value) : Kp bad w (w.setCell p u) :=
  ⟨rfl, rfl, rfl, by simp [World.setCell], fun k _ hn => Below.heap_setCell _ _ _ _ fun e => hn (e ▸ hp)⟩
theorem Kp.grown {bad : List Nat} {w w' : World} {row : Option Nat} (h : w.grownBy w' row) (hr : ∀ k, row = some k → k ∈ bad) : Kp bad w w' :=
  ⟨h.os, h.tape, h.output, h.size, fun k hk hn => h.block k hk fun e => hn (hr k e.symm)⟩
theorem Kp.below {bad : List Nat} {w w' : World} {B : Nat} (h : Kp bad w w') (hB : B ≤ w.heap.size) (hb : ∀ k, k ∈ bad → B ≤ k) : Below B w w' :=
  ⟨h.os, h.tape, h.output, h.size, fun k hk => h.block k (by omega) fun hm => by have := hb k hm; omega⟩
theorem Kp.of_below {bad : List Nat} {w w' : World} (h : Below w.heap.size w w') : Kp bad w w' :=
  ⟨h.os, h.tape, h.output, h.size, fun k hk _ => h.block k hk⟩
theorem Kp.cell {bad : List Nat} {w w' : World} (h : Kp bad w w') {p : Addr} (hp : p.block < w.heap.size) (hn : p.block ∉ bad) : w'.cell? p = w.cell? p := World.cell?_of_block (h.block _ hp hn)

def strs (ss : List ByteArray) : List Value := ss.map Value.string
/- the map of the strings' numbers -/
def Numbers (D : DataW Unit) (ss : List ByteArray) : Prop :=
  IsMap D ∧ (∀ s : ByteArray, has D (.string s.data.toList) = true ↔ s ∈ ss) ∧ ∀ i (h : i < ss.length) z, D.atKey (.string (ss[i]).data.toList) z = .lit (.int .i64 i)
theorem str_inj {s t : ByteArray} (h : (Lit.string s.data.toList) = .string t.data.toList) : s = t := by
  injection h with h
  cases s; cases t
  simp at h
  rw [h]
theorem key_lit (s : ByteArray) : WideAt.IsKeyLit (.string s.data.toList) := trivial
theorem numbers_nil : Numbers (.map []) [] := ⟨isMap_empty, fun s => by simp [has], fun i h => absurd h (Nat.not_lt_zero i)⟩
theorem numbers_add {D : DataW Unit} {ss : List ByteArray} (h : Numbers D ss) (s : ByteArray) (hs : s ∉ ss) : Numbers (D.put (.string s.data.toList) (.lit (.int .i64 ss.length))) (ss ++ [s]) := by
  obtain ⟨h1, h2, h3⟩ := h
  refine ⟨h1.put _ _, ?_, ?_⟩
  · intro u
    by_cases e : u = s
    · subst e
      rw [has_put_same h1 (key_lit u)]; simp
    · rw [has_put_other (fun k => e (str_inj k)), h2]
      simp [e]
  · intro i hi z
    by_cases e : i < ss.length
    · rw [List.getElem_append_left e, atKey_put_other (fun k => hs (by rw [← str_inj k]; exact List.getElem_mem e))]
      exact h3 i e z
    · have : i = ss.length := by simp at hi; omega
      subst this
      simp only [List.getElem_concat_length]
      rw [atKey_put_same h1 (key_lit s)]

theorem law : Keyed Try.prog 9 := string_keyed Try.underlying9
theorem zero3 (w : World) : (zeroValue 3).run Try.prog w = .ok (.int .i64 0) w := by kernel_rfl

/- the table at block tb: its list's slice sv, its map at block mb -/
structure Tab (w : World) (tb mb : Nat) (sv : Value) (ss : List ByteArray) : Prop where
  here : w.heap[tb]? = some (.cells #[sv, .map (some mb)] 52 (0, 0))
  row : w.ownsRow 0 9 1 sv ss.length (strs ss)
  map : ∃ D, w.ownsMap Try.prog 9 (plainElem Try.prog 3) mb ss.length D ∧ Numbers D ss
  len : ss.length ≤ 1000000
  sz : ∀ s ∈ ss, s.size ≤ maxLen
  nd : ss.Nodup
theorem Tab.c0 {w : World} {tb mb : Nat} {sv : Value} {ss : List ByteArray} (h : Tab w tb mb sv ss) : w.cell? ⟨tb, 0, none⟩ = some sv := by
  unfold World.cell?; rw [h.here]; rfl
theorem Tab.c1 {w : World} {tb mb : Nat} {sv : Value} {ss : List ByteArray} (h : Tab w tb mb sv ss) : w.cell? ⟨tb, 1, none⟩ = some (.map (some mb)) := by
  unfold World.cell?; rw [h.here]; rfl
theorem Tab.fr {w : World} {tb mb : Nat} {sv : Value} {ss : List ByteArray} (h : Tab w tb mb sv ss) : w.frozen? ⟨tb, 0, none⟩ = false := by
  unfold World.frozen?; rw [h.here]; simp
theorem Tab.lt {w : World} {tb mb : Nat} {sv : Value} {ss : List ByteArray} (h : Tab w tb mb sv ss) : tb < w.heap.size := by
  by_cases hb : tb < w.heap.size
  · exact hb
  · have := h.here; rw [Array.getElem?_eq_none (Nat.le_of_not_lt hb)] at this; cases this

theorem new_any (w : World) : Calls Try.prog 7 #[] w fun e w' => e = .returned (.pointer (some ⟨w.heap.size + 1, 0, none⟩)) ∧ Tab w' (w.heap.size + 1) w.heap.size (.slice none 0 0) [] ∧ Kp [] w w' ∧ w.heap.size + 2 ≤ w'.heap.size := by
  have hmm := @run_makeMap Try.prog
  go_enter Try.func7, Try.ntmps7
  go_wp2
  go_ret
  refine ⟨rfl, ?_, (Kp.alloc _ _ _).trans (Kp.alloc _ _ _), by simp⟩
  refine ⟨?_, World.ownsRow_nil _ _ _ _, ⟨_, (World.ownsMap_made _ _ _ _).alloc _, numbers_nil⟩, by simp, (fun s h => by cases h), List.nodup_nil⟩
  show ((w.heap.push _).push _)[w.heap.size + 1]? = _
  rw [Array.getElem?_push, if_pos (by simp)]

theorem len_nil (w : World) : Calls Try.prog 15 #[.pointer none] w fun e w' => e = .returned (.int .i64 0) ∧ w = w' := by
  go_enter Try.func15, Try.ntmps15
  go_wp2
  go_ret
  exact ⟨rfl, rfl⟩
theorem row_len {w : World} {sv : Value} {n : Nat} {xs : List Value} (h : w.ownsRow 0 9 1 sv n xs) : ∃ a cap, sv = .slice a n cap ∧ n ≤ maxLen := by
  rcases h.2 with ⟨rfl, rfl⟩ | ⟨g, cap, cur, rfl, _, _, h1, h2, _⟩
  · exact ⟨none, 0, rfl, by decide⟩
  · exact ⟨_, cap, rfl, by omega⟩
theorem len_any {w : World} {tb mb : Nat} {sv : Value} {ss : List ByteArray} (h : Tab w tb mb sv ss) : Calls Try.prog 15 #[.pointer (some ⟨tb, 0, none⟩)] w fun e w' => e = .returned (.int .i64 ss.length) ∧ w = w' := by
  have c0 := h.c0
  obtain ⟨a, cap, rfl, hm⟩ := row_len h.row
  unfold maxLen at hm
  clear h
  go_enter Try.func15, Try.ntmps15
  go_wp2
  go_ret
  exact ⟨rfl, rfl⟩

/- the i-th string of an owned row -/
theorem row_at {w : World} {sv : Value} {ss : List ByteArray} (h : w.ownsRow 0 9 1 sv ss.length (strs ss)) (i : Nat) (hi : i < ss.length) :
    ∃ g cap, sv = .slice (some ⟨g, 0, none⟩) ss.length cap ∧ w.cell? ⟨g, i, none⟩ = some (.string ss[i]) := by
  rcases h.2 with ⟨_, h0⟩ | ⟨g, cap, cur, rfl, _, hg, h1, h2, h3, h4⟩
  · omega
  · refine ⟨g, cap, rfl, ?_⟩
    unfold World.cell?
    rw [hg]
    have e : (cur.toList.take (ss.length * 1))[i]? = some (.string ss[i]) := by rw [h4]; simp [strs, hi]
    rw [List.getElem?_take] at e
    split at e
    · simpa using e
    · cases e

theorem get_no {w : World} (t : Value) (n : Nat) (i : Int) (hl : Calls Try.prog 15 #[t] w fun e w' => e = .returned (.int .i64 n) ∧ w = w') (hi : i < 0 ∨ (n : Int) ≤ i) :
    Calls Try.prog 13 #[t, .int .i64 i] w fun e w' => e = .returned (.tuple #[.string ⟨#[]⟩, .bool false]) ∧ w = w' := by
  have HL := Lib.hid hl; clear hl
  by_cases h0 : i < 0
  · clear hi
    go_enter Try.func13, Try.ntmps13
    go_wp2_with fail
    go_ret2
    exact ⟨rfl, rfl⟩
  · have h1 : (n : Int) ≤ i := by omega
    clear hi
    go_enter Try.func13, Try.ntmps13
    go_wp2_with fail
    refine HL.out.mono ?_; rintro e w' ⟨rfl, rfl⟩
    go_wp2_with fail
    go_ret2
    exact ⟨rfl, rfl⟩
theorem get_yes {w : World} {tb mb : Nat} {sv : Value} {ss : List ByteArray} (h : Tab w tb mb sv ss) (i : Nat) (hi : i < ss.length) :
    Calls Try.prog 13 #[.pointer (some ⟨tb, 0, none⟩), .int .i64 i] w fun e w' => e = .returned (.tuple #[.string ss[i], .bool true]) ∧ w = w' := by
  have c0 := h.c0
  have HT := Lib.hid h
  have hm := h.len
  obtain ⟨g, cap, rfl, hc⟩ := row_at h.row i hi
  obtain ⟨u, hu⟩ : ∃ u, ss[i] = u := ⟨_, rfl⟩
  rw [hu] at hc ⊢
  obtain ⟨n, hn⟩ : ∃ n, ss.length = n := ⟨_, rfl⟩
  rw [hn] at hi hm c0
  have HN := Lib.hid hn
  have HTn : Hid (Calls Try.prog 15 #[.pointer (some ⟨tb, 0, none⟩)] w fun e w' => e = .returned (.int .i64 n) ∧ w = w') := by
    have := len_any HT.out; rw [HN.out] at this; exact this
  clear h hu hn HT HN
  go_enter Try.func13, Try.ntmps13
  go_wp2_with fail
  refine HTn.out.mono ?_; rintro e w' ⟨rfl, rfl⟩
  go_wp2_with fail
  go_ret2
  exact ⟨rfl, rfl⟩

theorem find_nil (s : ByteArray) (w : World) : Calls Try.prog 11 #[.pointer none, .string s] w fun e w' => e = .returned (.tuple #[.int .i64 0, .bool false]) ∧ w = w' := by
  go_enter Try.func11, Try.ntmps11
  go_wp2
  go_ret2
  exact ⟨rfl, rfl⟩
/- the number of a string: its first place -/
def Num (ss : List ByteArray) (s : ByteArray) (c : Int) (o : Bool) : Prop := (s ∉ ss ∧ c = 0 ∧ o = false) ∨ ∃ i, ∃ h : i < ss.length, ss[i] = s ∧ c = i ∧ o = true
theorem atKey_none {D : DataW Unit} {k : Lit} {z : DataW Unit} (h : has D k = false) : D.atKey k z = z := by
  unfold DataW.atKey
  cases D with
  | map es =>
    simp only
    have : es.find? (fun p => p.1.sameKey k) = none := by
      rw [List.find?_eq_none]
      intro p hp
      unfold has at h
      simp only [List.any_eq_false] at h
      exact h p hp
    rw [this]
  | _ => rfl
theorem numbers_num {D : DataW Unit} {ss : List ByteArray} (h : Numbers D ss) (s : ByteArray) (c : Int) (hc : D.atKey (.string s.data.toList) (.lit (.int .i64 0)) = .lit (.int .i64 c)) : Num ss s c (has D (.string s.data.toList)) := by
  by_cases hs : s ∈ ss
  · have ho := (h.2.1 s).2 hs
    obtain ⟨i, hi, rfl⟩ := List.getElem_of_mem hs
    refine Or.inr ⟨i, hi, rfl, ?_, ho⟩
    rw [h.2.2 i hi] at hc
    injection hc with e; injection e with _ e
    exact e.symm
  · have ho : has D (.string s.data.toList) = false := by
      cases hh : has D (.string s.data.toList)
      · rfl
      · exact absurd ((h.2.1 s).1 hh) hs
    rw [atKey_none ho] at hc
    injection hc with e; injection e with _ e
    exact Or.inl ⟨hs, e.symm, ho⟩
def Finds (ss : List ByteArray) (s : ByteArray) (w : World) (e : Ending) (w' : World) : Prop := ∃ c o, Num ss s c o ∧ e = .returned (.tuple #[.int .i64 c, .bool o]) ∧ w = w'
theorem find_any {w : World} {tb mb : Nat} {sv : Value} {ss : List ByteArray} (h : Tab w tb mb sv ss) (s : ByteArray) (hs : s.size ≤ maxLen) :
    Calls Try.prog 11 #[.pointer (some ⟨tb, 0, none⟩), .string s] w (Finds ss s w) := by
  have c1 := h.c1
  obtain ⟨D, hD, hN⟩ := h.map
  have OWN := Lib.hid hD; have NUM := Lib.hid hN
  have hkey := Lib.hid (keyOf_string_mk (P := Try.prog) Try.underlying9 hs)
  clear h hD hN
  go_enter Try.func11, Try.ntmps11
  go_wp2_with (at_lookup; refine wpList_lookup_own_ok_int _ rfl _ _ 50 rfl 9 3 .i64 law Try.underlying50 Try.underlying3 (zero3 _) mb _ D rfl OWN.out _ _ rfl hkey.out ?_; intro c hat hwc)
  have HR := Lib.hid (numbers_num NUM.out s c hat)
  go_ret2
  exact ⟨c, _, HR.out, rfl, rfl⟩

/- the blocks of a table are apart: they hold things of different kinds -/
theorem Tab.apart {w : World} {tb mb : Nat} {sv : Value} {ss : List ByteArray} (h : Tab w tb mb sv ss) : sv.ownBlock ≠ some tb ∧ sv.ownBlock ≠ some mb ∧ tb ≠ mb ∧ mb < w.heap.size := by
  obtain ⟨D, hD, _⟩ := h.map
  have hmb := hD.lt
  obtain ⟨es, clock, hm, _⟩ := hD
  have htm : tb ≠ mb := by
    rintro rfl
    rw [h.here] at hm; cases hm
  rcases h.row.2 with ⟨rfl, _⟩ | ⟨g, cap, cur, rfl, _, hg, _⟩
  · exact ⟨by simp [Value.ownBlock], by simp [Value.ownBlock], htm, hmb⟩
  · refine ⟨fun e => ?_, fun e => ?_, htm, hmb⟩
    · simp [Value.ownBlock] at e
      subst e
      rw [h.here] at hg; cases hg
    · simp [Value.ownBlock] at e
      subst e
      rw [hm] at hg; cases hg
theorem grown_setCell (w : World) (p : Addr) (u : Value) : w.grownBy (w.setCell p u) (some p.block) :=
  ⟨rfl, rfl, rfl, by simp [World.setCell], fun k _ hn => Below.heap_setCell _ _ _ _ fun e => hn (by rw [e])⟩

/- in the middle of Add: the row has grown, the table's own cell is yet to be written -/
theorem add_mid {w w1 : World} {o : Obj} {tb mb : Nat} {sv v' : Value} {ss : List ByteArray} {s : ByteArray} (h : Tab w tb mb sv ss) (hown : w1.ownsRow 0 9 1 v' (ss.length + 1) (strs ss ++ [.string s])) (hg : (w.alloc o).grownBy w1 sv.ownBlock) :
    ∃ a' cap', v' = .slice a' (ss.length + 1) cap' ∧ w1.cell? ⟨tb, 0, none⟩ = some sv ∧ w1.cell? ⟨tb, 1, none⟩ = some (.map (some mb)) ∧ w1.frozen? ⟨tb, 0, none⟩ = false := by
  obtain ⟨a', cap', e, _⟩ := row_len hown
  have hb : w1.heap[tb]? = w.heap[tb]? := by
    rw [hg.block tb (by simp; have := h.lt; omega) (fun e => h.apart.1 e.symm), Below.heap_alloc _ _ _ h.lt]
  refine ⟨a', cap', e, ?_, ?_, ?_⟩
  · rw [World.cell?_of_block (w := w) hb]; exact h.c0
  · rw [World.cell?_of_block (w := w) hb]; exact h.c1
  · rw [World.frozen?_of_block (w := w) hb]; exact h.fr
theorem add_end {w w1 w2 : World} {o : Obj} {tb mb cap' : Nat} {a' : Option Addr} {sv : Value} {ss : List ByteArray} {s : ByteArray} {D : DataW Unit} (h : Tab w tb mb sv ss) (hm : s ∉ ss) (hs : s.size ≤ maxLen) (hl : ss.length < 1000000)
    (r1 : w1.ownsRow 0 9 1 (.slice a' (ss.length + 1) cap') (ss.length + 1) (strs ss ++ [.string s])) (g1 : (w.alloc o).grownBy w1 sv.ownBlock)
    (l1 : (Value.slice a' (ss.length + 1) cap').ownBlock = sv.ownBlock ∨ (Value.slice a' (ss.length + 1) cap').ownBlock = some (w.alloc o).heap.size)
    (r2 : w2.ownsMap Try.prog 9 (plainElem Try.prog 3) mb (ss.length + 1) (D.put (.string s.data.toList) (.lit (.int .i64 ss.length)))) (g2 : (w1.setCell ⟨tb, 0, none⟩ (.slice a' (ss.length + 1) cap')).grownBy w2 (some mb)) (hN : Numbers D ss) :
    Tab w2 tb mb (.slice a' (ss.length + 1) cap') (ss ++ [s]) ∧ ((Value.slice a' (ss.length + 1) cap').ownBlock = sv.ownBlock ∨ ∃ k, (Value.slice a' (ss.length + 1) cap').ownBlock = some k ∧ w.heap.size ≤ k) ∧ Kp (tb :: mb :: sv.ownBlock.toList) w w2 := by
  obtain ⟨ap1, ap2, ap3, ap4⟩ := h.apart
  have hlt := h.lt
  have hs1 := g1.size
  simp only [World.size_alloc] at hs1 l1
  have n1 : (Value.slice a' (ss.length + 1) cap').ownBlock ≠ some tb := by
    rcases l1 with e | e <;> rw [e]
    · exact ap1
    · intro k; injection k; omega
  have n2 : (Value.slice a' (ss.length + 1) cap').ownBlock ≠ some mb := by
    rcases l1 with e | e <;> rw [e]
    · exact ap2
    · intro k; injection k; omega
  refine ⟨⟨?_, ?_, ⟨_, by simpa using r2, numbers_add hN s hm⟩, by simp; omega, ?_, ?_⟩, ?_, ?_⟩
  · rw [g2.block tb (by simp [World.setCell]; omega) (fun e => by injection e with e; exact ap3 e)]
    have hb : w1.heap[tb]? = w.heap[tb]? := by
      rw [g1.block tb (by simp; omega) (fun e => ap1 e.symm), Below.heap_alloc _ _ _ hlt]
    simp only [World.setCell, Array.getElem?_modify]
    rw [if_pos trivial, hb, h.here]
    rfl
  · have k1 := r1.kept (grown_setCell w1 ⟨tb, 0, none⟩ (.slice a' (ss.length + 1) cap')) (Or.inr n1)
    have k2 := k1.kept g2 (Or.inr n2)
    simpa [strs] using k2
  · intro u hu
    rcases List.mem_append.1 hu with hu | hu
    · exact h.sz u hu
    · simp at hu; subst hu; exact hs
  · rw [List.nodup_append]
    refine ⟨h.nd, by simp, fun x hx y hy => ?_⟩
    simp at hy; subst hy
    intro e; subst e; exact hm hx
  · rcases l1 with e | e
    · exact Or.inl e
    · exact Or.inr ⟨_, e, by omega⟩
  · have k1 : Kp (tb :: mb :: sv.ownBlock.toList) w (w.alloc o) := Kp.alloc _ _ _
    have k2 : Kp (tb :: mb :: sv.ownBlock.toList) (w.alloc o) w1 := Kp.grown g1 (fun k e => by rw [e]; simp)
    have k3 : Kp (tb :: mb :: sv.ownBlock.toList) w1 (w1.setCell ⟨tb, 0, none⟩ (.slice a' (ss.length + 1) cap')) := Kp.setCell (by simp) _
    have k4 : Kp (tb :: mb :: sv.ownBlock.toList) (w1.setCell ⟨tb, 0, none⟩ (.slice a' (ss.length + 1) cap')) w2 := Kp.grown g2 (fun k e => by injection e with e; subst e; simp)
    exact ((k1.trans k2).trans k3).trans k4
theorem Try.info9 : (Try.prog.info? 9).map (fun i => (i.zero, i.size, i.bytes)) = some (some (.string ⟨#[]⟩), 1, 16) := by kernel_rfl
def AddL (ss : List ByteArray) (s : ByteArray) (c : Int) (ss' : List ByteArray) : Prop := (s ∈ ss ∧ ss' = ss ∧ Num ss s c true) ∨ (s ∉ ss ∧ ss' = ss ++ [s] ∧ c = ss.length)
def Adds (ss : List ByteArray) (s : ByteArray) (w : World) (tb mb : Nat) (sv : Value) (e : Ending) (w' : World) : Prop :=
  ∃ c sv' ss', AddL ss s c ss' ∧ e = .returned (.int .i64 c) ∧ Tab w' tb mb sv' ss' ∧ (sv'.ownBlock = sv.ownBlock ∨ ∃ k, sv'.ownBlock = some k ∧ w.heap.size ≤ k) ∧ Kp (tb :: mb :: sv.ownBlock.toList) w w'
set_option maxHeartbeats 1000000 in
theorem add_any {w : World} {tb mb : Nat} {sv : Value} {ss : List ByteArray} (h : Tab w tb mb sv ss) (s : ByteArray) (hs : s.size ≤ maxLen) (hl : ss.length < 1000000) :
    Calls Try.prog 10 #[.pointer (some ⟨tb, 0, none⟩), .string s] w (Adds ss s w tb mb sv) := by
  have c0 := h.c0
  have c1 := h.c1
  have HT := Lib.hid h
  obtain ⟨D, hD, hN⟩ := h.map
  have OWN := Lib.hid hD; have NUM := Lib.hid hN
  have hkey := Lib.hid (keyOf_string_mk (P := Try.prog) Try.underlying9 hs)
  obtain ⟨n, hn⟩ : ∃ n, ss.length = n := ⟨_, rfl⟩
  have HN := Lib.hid hn
  rw [hn] at hl
  by_cases hm : s ∈ ss
  · have ho : has D (.string s.data.toList) = true := (hN.2.1 s).2 hm
    have HM := Lib.hid hm
    clear h hD hN hn hm
    go_enter Try.func10, Try.ntmps10
    go_wp2_with (at_lookup; refine wpList_lookup_own_ok_int _ rfl _ _ 50 rfl 9 3 .i64 law Try.underlying50 Try.underlying3 (zero3 _) mb _ D rfl OWN.out _ _ rfl hkey.out ?_; intro c hat hwc; have HA := Lib.hid hat; clear hat)
    have HR := numbers_num NUM.out s c HA.out
    rw [ho] at HR
    go_ret
    exact ⟨c, sv, ss, Or.inl ⟨HM.out, rfl, HR⟩, rfl, HT.out, Or.inl rfl, Kp.refl _ _⟩
  · have ho : has D (.string s.data.toList) = false := by
      cases hh : has D (.string s.data.toList)
      · rfl
      · exact absurd ((hN.2.1 s).1 hh) hm
    have HM := Lib.hid hm
    obtain ⟨a, cap, rfl, _⟩ := row_len h.row
    rw [hn] at c0
    obtain ⟨i0, hi, hz0, hz1, hz2⟩ := info_parts Try.info9
    have II := Lib.hid hi; have Z0 := Lib.hid hz0; have Z1 := Lib.hid hz1; have Z2 := Lib.hid hz2
    have row1 : ∀ o, (w.alloc o).ownsRow 0 9 1 (.slice a n cap) n (strs ss) := fun o => by
      have := h.row.alloc o; rw [hn] at this; exact this
    have ROW := Lib.hid row1
    have mid : ∀ (v' : Value) (w1 : World) (o : Obj), w1.ownsRow 0 9 1 v' (n + 1) (strs ss ++ [.string s]) → (w.alloc o).grownBy w1 (Value.slice a n cap).ownBlock →
        ∃ a' cap', v' = .slice a' (n + 1) cap' ∧ w1.cell? ⟨tb, 0, none⟩ = some (.slice a n cap) ∧ w1.cell? ⟨tb, 1, none⟩ = some (.map (some mb)) ∧ w1.frozen? ⟨tb, 0, none⟩ = false := fun v' w1 o h1 h2 => by
      have := add_mid (v' := v') (s := s) h (by rw [hn]; exact h1) (by rw [hn]; exact h2)
      rw [hn] at this; exact this
    have MID := Lib.hid mid
    have own1 : ∀ (w1 : World) (o : Obj) (x : Value), (w.alloc o).grownBy w1 (Value.slice a n cap).ownBlock → (w1.setCell ⟨tb, 0, none⟩ x).ownsMap Try.prog 9 (plainElem Try.prog 3) mb n D := fun w1 o x h2 => by
      have k1 := (hD.alloc o).kept h2 (by
        intro e; have := h.apart.2.1; rw [hn] at this; exact this e.symm)
      have k2 := k1.kept (grown_setCell w1 ⟨tb, 0, none⟩ x) (by
        intro e; injection e with e; exact h.apart.2.2.1 e.symm)
      rw [hn] at k2; exact k2
    have OWN1 := Lib.hid own1
    clear h hD hN hn hm hi hz0 hz1 hz2 row1 mid own1
    go_enter Try.func10, Try.ntmps10
    go_wp2_with (first
      | (at_lookup; refine wpList_lookup_own_ok_int _ rfl _ _ 50 rfl 9 3 .i64 law Try.underlying50 Try.underlying3 (zero3 _) mb _ D rfl OWN.out _ _ rfl hkey.out ?_; intro c hat hwc; clear hat hwc)
      | (at_builtin; refine wpList_append_own_at _ rfl _ _ 26 rfl 0 9 i0 (.string ⟨#[]⟩) 1 16 Try.underlying26 II.out Z0.out Z1.out Z2.out rfl (by decide) _ _ _ rfl (ROW.out _) ⟨w.heap.size, 0, none⟩ 1 1 [.string s] rfl rfl (cell_one_new _ _ _) (by simp [Value.oneCell']) (by unfold maxLen; omega) (by omega) (by simp) ?_; intro v' w1 hown' hgrow hnil hloc; obtain ⟨a', cap', hv', d0, d1, f0⟩ := MID.out v' w1 _ hown' hgrow; subst hv'; have R1 := Lib.hid hown'; have G1 := Lib.hid hgrow; have L1 := Lib.hid hloc; clear hown' hgrow hloc hnil)
      | (at_mapUpdate; refine wpList_mapUpdate_own _ rfl _ _ _ 50 rfl 9 3 law Try.underlying50 _ mb n D rfl (OWN1.out _ _ _ G1.out) (by unfold maxLen; omega) _ _ _ rfl rfl hkey.out _ [] (plainElem_int Try.underlying3 (WalkArith.wf_i64 (by omega))) ?_; intro w2 hown2 hgrow2; have R2 := Lib.hid hown2; have G2 := Lib.hid hgrow2; clear hown2 hgrow2))
    go_ret
    have h := HT.out
    have e := add_end (s := s) h HM.out hs (by rw [HN.out]; exact hl) (by rw [HN.out]; exact R1.out) (by rw [HN.out]; exact G1.out) (by rw [HN.out]; exact L1.out) (by rw [HN.out]; exact R2.out) (by rw [HN.out]; exact G2.out) NUM.out
    rw [HN.out] at e
    exact ⟨n, _, ss ++ [s], Or.inr ⟨HM.out, rfl, by rw [HN.out]⟩, rfl, e.1, by rw [HN.out]; exact e.2.1, by rw [HN.out]; exact e.2.2⟩
end Go.Proofs.Ytpgblcemooamdaa
