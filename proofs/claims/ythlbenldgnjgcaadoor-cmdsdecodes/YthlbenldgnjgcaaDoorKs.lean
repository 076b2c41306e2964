/- cmds: the reader's next. -/
import Derived.Test.YthlbenldgnjgcaaDoorKr
import Derived.Laws.BitsLemmas
namespace Go.Proofs.YthlbenldgnjgcaaDoor
open Go.ChangeShapes Go.WideShapes Go.ChangeAt Go.RowKit Go.Joins Go.Deep

theorem i64_and7 (n : Int) : bits .and .i64 n 7 = n % 8 := by
  have h7 : (BitVec.ofInt 64 7).toNat = 2 ^ 3 - 1 := by decide
  have key : (BitVec.ofInt 64 n &&& BitVec.ofInt 64 7).toNat = (n % ((2 ^ 64 : Nat) : Int)).toNat % 2 ^ 3 := by
    rw [BitVec.toNat_and, BitVec.toNat_ofInt, h7, Nat.and_two_pow_sub_one_eq_mod]
  show IntKind.i64.wrap ((BitVec.ofInt 64 n &&& BitVec.ofInt 64 7).toNat : Nat) = n % 8
  rw [key, IntKind.wrap_i64]
  omega
abbrev s_mv : ByteArray := ⟨#[77, 111, 118, 101, 84, 111]⟩
abbrev s_ln : ByteArray := ⟨#[76, 105, 110, 101, 84, 111]⟩
abbrev s_cl : ByteArray := ⟨#[67, 108, 111, 115, 101]⟩
def nmL : List ByteArray := [⟨#[]⟩, s_mv, s_ln, ⟨#[]⟩, ⟨#[]⟩, ⟨#[]⟩, ⟨#[]⟩, s_cl]
def ctL (i : Nat) : Int := if i = 7 then 1 else 0
def prL (i : Nat) : Int := if i = 1 ∨ i = 2 then 1 else 0
/- the package's variable -/
structure GV (w : World) : Prop where
  c : ∀ i, i < 8 → w.cell? ⟨0, i * 3, none⟩ = some (.string (nmL.getD i default)) ∧ w.cell? ⟨0, i * 3 + 1, none⟩ = some (.int .i64 (ctL i)) ∧ w.cell? ⟨0, i * 3 + 2, none⟩ = some (.int .i64 (prL i))
  s : 0 < w.heap.size
theorem GV.below {w W : World} (h : GV w) (b : Below w.heap.size w W) : GV W :=
  ⟨fun i hi => by obtain ⟨a, c, d⟩ := h.c i hi; rw [b.cell h.s, b.cell h.s, b.cell h.s]; exact ⟨a, c, d⟩, by have := b.size; have := h.s; omega⟩
theorem nmL_empty {i : Nat} (hi : i < 8) (h : i ≠ 1 ∧ i ≠ 2 ∧ i ≠ 7) : nmL.getD i default = ⟨#[]⟩ := by
  match i, hi, h with
  | 0, _, _ => rfl
  | 1, _, h => exact absurd rfl h.1
  | 2, _, h => exact absurd rfl h.2.1
  | 3, _, _ => rfl
  | 4, _, _ => rfl
  | 5, _, _ => rfl
  | 6, _, _ => rfl
  | 7, _, h => exact absurd rfl h.2.2
theorem nmL_named {i : Nat} (h : i = 1 ∨ i = 2 ∨ i = 7) : (nmL.getD i default).toList.isEmpty = false := by
  rcases h with rfl | rfl | rfl <;> decide +kernel
/- frames -/
theorem gb_trans {a b c : World} {row : Option Nat} (h : a.grownBy b row) (k : b.grownBy c row) : a.grownBy c row :=
  ⟨k.os.trans h.os, k.tape.trans h.tape, k.output.trans h.output, Nat.le_trans h.size k.size, fun j hj hr => (k.block j (by have := h.size; omega) hr).trans (h.block j hj hr)⟩
theorem gb_below {w W : World} (B : Nat) (b : Below w.heap.size w W) : w.grownBy W (some B) := ⟨b.os, b.tape, b.output, b.size, fun k hk _ => b.block k hk⟩
theorem gb_set {w W : World} {B : Nat} (h : w.grownBy W (some B)) (i : Nat) (v : Value) : w.grownBy (W.setCell ⟨B, i, none⟩ v) (some B) := by
  have b : Below B W (W.setCell ⟨B, i, none⟩ v) := Below.setCell (Below.refl _ _) (by exact Nat.le_refl B) _
  exact ⟨b.os.trans h.os, b.tape.trans h.tape, b.output.trans h.output, Nat.le_trans h.size b.size, fun k hk hr => by
    rw [Below.heap_setCell _ _ _ _ (by intro e; exact hr (by rw [e]))]; exact h.block k hk hr⟩
theorem gb_low {w W : World} {B base : Nat} (h : w.grownBy W (some B)) (hb : base ≤ B) (hB : B < w.heap.size) : Below base w W :=
  ⟨h.os, h.tape, h.output, h.size, fun k hk => h.block k (by omega) (by intro e; injection e with e; omega)⟩
theorem gb_app {w W w7 : World} {B : Nat} {row : Option Nat} (h : w.grownBy W (some B)) (g : W.grownBy w7 row) (hr : ∀ k, row = some k → w.heap.size ≤ k) : w.grownBy w7 (some B) :=
  ⟨g.os.trans h.os, g.tape.trans h.tape, g.output.trans h.output, Nat.le_trans h.size g.size, fun k hk hk2 => (g.block k (by have := h.size; omega) (fun e => by have := hr k e.symm; omega)).trans (h.block k hk hk2)⟩
/- the reader: what is left of the row that w0 knows, and where it is -/
structure Rd (w0 : World) (B : Nat) (w : World) (v : Value) (r : List Int) (p : Pt) : Prop where
  row : Row w B 56 [v, .int .i64 p.1, .int .i64 p.2]
  ints : IntsAt w0 v r
  low : w0.heap.size ≤ B
  bel : Below w0.heap.size w0 w
  b64 : ∀ x ∈ r, -9223372036854775808 ≤ x ∧ x ≤ 9223372036854775807
  len : r.length ≤ 1000000
theorem Rd.keep {w0 w W : World} {B : Nat} {v : Value} {r : List Int} {p : Pt} (h : Rd w0 B w v r p) (b : Below w.heap.size w W) : Rd w0 B W v r p :=
  ⟨h.row.below b h.row.lt, h.ints, h.low, h.bel.trans (b.mono h.bel.size), h.b64, h.len⟩
theorem Rd.same {w0 w W : World} {B : Nat} {v : Value} {r : List Int} {p : Pt} (h : Rd w0 B w v r p) (e : W.heap[B]? = w.heap[B]?) (b : Below w0.heap.size w W) : Rd w0 B W v r p :=
  ⟨h.row.same e, h.ints, h.low, h.bel.trans b, h.b64, h.len⟩
theorem Rd.at_ {w0 w : World} {B : Nat} {a : Option Addr} {n cap j : Nat} {r : List Int} {p : Pt} (h : Rd w0 B w (.slice a n cap) r p) (hj : j < r.length) : ∃ b off, a = some ⟨b, off, none⟩ ∧ w.cell? ⟨b, off + j, none⟩ = some (.int .i64 (r.getD j 0)) := by
  obtain ⟨b, off, e, hc⟩ := h.ints.at hj
  exact ⟨b, off, e, by rw [h.bel.cell (cell_lt hc)]; exact hc⟩
theorem Rd.cut {w0 w : World} {B b off n cap c : Nat} {r : List Int} {p : Pt} (h : Rd w0 B w (.slice (some ⟨b, off, none⟩) n cap) r p) (hc : c ≤ n) : Rd w0 B (w.setCell ⟨B, 0, none⟩ (cutV b off n cap c)) (cutV b off n cap c) (r.drop c) p :=
  ⟨by have := h.row.set (i := 0) (cutV b off n cap c); simpa using this, h.ints.cut hc, h.low, Below.setCell h.bel h.low _, fun x hx => h.b64 x (List.mem_of_mem_drop hx), by have := h.len; rw [List.length_drop]; omega⟩
def NxPost (w0 : World) (B : Nat) (w : World) (r : List Int) (p : Pt) (e : Ending) (w' : World) : Prop :=
  ∃ (id : Int) (u : Value) (l : List Pt) (v' : Value) (r' : List Int) (p' : Pt), e = .returned (.tuple #[.int .i64 id, u]) ∧ POwn w' w.heap.size u l ∧ Rd w0 B w' v' r' p' ∧ w.grownBy w' (some B) ∧ (nx r p = some (id, l, r', p') ∨ nx r p = none ∧ id = 0 ∧ l = []) ∧ r'.length ≤ r.length ∧ l.length ≤ r.length
theorem nx_fail {w0 w W : World} {B : Nat} {v' : Value} {l r' : List Int} {p p' : Pt} (h : Rd w0 B W v' r' p') (hg : w.grownBy W (some B)) (hn : nx l p = none) (hl : r'.length ≤ l.length) : NxPost w0 B w l p (.returned (.tuple #[.int .i64 0, .slice none 0 0])) W :=
  ⟨0, .slice none 0 0, [], v', r', p', rfl, World.ownsRow_nil _ _ _ _, h, hg, Or.inr ⟨hn, rfl, rfl⟩, hl, Nat.zero_le _⟩
theorem nx_none {x : Int} {r : List Int} {p : Pt} {i : Nat} {c : Int} (hi : x % 8 = (i : Int)) (hc : x / 8 = c) (h : ¬ (i = 1 ∨ i = 2 ∨ i = 7) ∨ c < 1 ∨ i = 7 ∧ c ≠ 1) : nx (x :: r) p = none := by
  rw [nx, if_neg, if_neg]
  · omega
  · rintro ⟨h1, h2⟩; omega
theorem nx_some {x : Int} {r : List Int} {p : Pt} {i : Nat} {c : Int} (hi : x % 8 = (i : Int)) (hc : x / 8 = c) (h : i = 1 ∨ i = 2) (h1 : 1 ≤ c) : nx (x :: r) p = (rdA c.toNat [] r p).map (fun t => ((i : Int), t)) := by
  rw [nx, if_pos ⟨by omega, by omega⟩, hi, hc]
theorem nx_seven {x : Int} {r : List Int} {p : Pt} {i : Nat} {c : Int} (hi : x % 8 = (i : Int)) (hc : x / 8 = c) (h : i = 7) (h1 : c = 1) : nx (x :: r) p = some ((i : Int), [], r, p) := by
  have e : x = 15 := by omega
  subst e; subst h
  rw [nx, if_neg (by decide), if_pos rfl]; rfl
theorem own_form {w : World} {base e size : Nat} {v : Value} {n : Nat} {xs : List Value} (h : w.ownsRow base e size v n xs) : ∃ a cap, v = .slice a n cap := by
  rcases h.2 with ⟨rfl, rfl⟩ | ⟨g, cap, cur, rfl, _⟩
  · exact ⟨none, 0, rfl⟩
  · exact ⟨_, cap, rfl⟩
theorem pown_base {w : World} {base : Nat} {v : Value} {l : List Pt} (h : POwn w base v l) : ∀ g, v.ownBlock = some g → base ≤ g ∧ g < w.heap.size := fun g e => World.ownsRow.lt h g e
theorem rd_app {w0 w w8 w7 : World} {B base k : Nat} {v v' rv : Value} {l : List Pt} {r : List Int} {p : Pt} {X Y : Int} {o : Obj} (h : Rd w0 B w8 rv r p) (hB : B < base) (ow : POwn w8 base v l) (hk : l.length = k) (gr : (w8.alloc o).grownBy w7 v.ownBlock)
    (hown : w7.ownsRow base 44 2 v' (k + 1) (pcs l ++ [.int .i64 X, .int .i64 Y])) (hb : w.heap.size = base) (G : w.grownBy w8 (some B)) : Rd w0 B w7 rv r p ∧ POwn w7 base v' (l ++ [(X, Y)]) ∧ w.grownBy w7 (some B) := by
  have hlt := h.row.lt
  have ne : ∀ j, v.ownBlock = some j → base ≤ j := fun j e => (pown_base ow j e).1
  have ba : Below w8.heap.size w8 (w8.alloc o) := (Below.refl _ _).alloc (Nat.le_refl _) _
  have hlow := h.low
  refine ⟨?_, pown_add hk rfl hown, gb_app (gb_trans G (gb_below B ba)) gr (fun j e => by have := ne j e; omega)⟩
  have h1 := h.keep ba
  refine h1.same (gr.block B (by have := ba.size; omega) (fun e => by have := ne B e.symm; omega)) ?_
  refine Below.grown (Below.refl _ _) gr (by have := ba.size; omega) (fun j e => by have := ne j e; omega)
theorem Rd.cutE {w0 w : World} {B b off : Nat} {c : Nat} {r : List Int} {p : Pt} (h : Rd w0 B w (.slice (some ⟨b, off, none⟩) c c) r p) : Rd w0 B (w.setCell ⟨B, 0, none⟩ (.slice (some ⟨b, off, none⟩) 0 0)) (.slice (some ⟨b, off, none⟩) 0 0) (r.drop c) p := by
  have := h.cut (Nat.le_refl c)
  unfold cutV at this
  rw [if_pos rfl, Nat.sub_self] at this; exact this
theorem Rd.cutN {w0 w : World} {B b off n cap c : Nat} {r : List Int} {p : Pt} (h : Rd w0 B w (.slice (some ⟨b, off, none⟩) n cap) r p) (hc : c ≤ n) (hn : ¬ cap = c) : Rd w0 B (w.setCell ⟨B, 0, none⟩ (.slice (some ⟨b, off + c, none⟩) (n - c) (cap - c))) (.slice (some ⟨b, off + c, none⟩) (n - c) (cap - c)) (r.drop c) p := by
  have := h.cut hc
  unfold cutV at this
  rw [if_neg hn] at this; exact this
theorem next_nil {w0 w : World} {B : Nat} {v : Value} {p : Pt} (h : Rd w0 B w v [] p) : Calls Tryd.prog 27 #[qp B] w (NxPost w0 B w [] p) := by
  have HH := Lib.hid h
  obtain ⟨a, cap, rfl⟩ := h.ints.form
  have q0 := h.row.cell (i := 0) rfl
  rw [List.length_nil] at q0
  clear h
  go_enter Tryd.func27, Tryd.ntmps27
  go_wp2_with fail
  go_ret2
  exact ⟨0, .slice none 0 0, [], _, [], p, rfl, World.ownsRow_nil _ _ _ _, HH.out, gb_below _ (Below.refl _ _), Or.inr ⟨rfl, rfl, rfl⟩, Nat.le_refl _, Nat.le_refl _⟩
theorem info44 : (Tryd.prog.info? 44).map (fun i => (i.zero, i.size, i.bytes)) = some (some (.agg #[.int .i64 0, .int .i64 0]), 2, 16) := by kernel_rfl
set_option maxRecDepth 100000 in
set_option maxHeartbeats 8000000 in
theorem next_cons {w0 w : World} {B : Nat} {v : Value} {x : Int} {r : List Int} {p : Pt} (g : GV w0) (h : Rd w0 B w v (x :: r) p) : Calls Tryd.prog 27 #[qp B] w (NxPost w0 B w (x :: r) p) := by
  obtain ⟨i0, hi0, hz0, hz1, hz2⟩ := info_parts info44
  have II := Lib.hid hi0; have Z0 := Lib.hid hz0; have Z1 := Lib.hid hz1; have Z2 := Lib.hid hz2
  clear hi0 hz0 hz1 hz2
  have HH := Lib.hid h
  obtain ⟨a, cap, rfl⟩ := h.ints.form
  obtain ⟨b, off, rfl, cx⟩ := h.at_ (j := 0) (by simp)
  rw [List.getD_cons_zero, Nat.add_zero] at cx
  obtain ⟨n, hn⟩ : ∃ n, (x :: r).length = n := ⟨_, rfl⟩
  rw [hn] at HH h
  have HN := Lib.hid hn
  have HLE := Lib.hid (show n ≤ 1000000 by rw [← hn]; exact h.len)
  obtain ⟨i, hi⟩ : ∃ i : Nat, x % 8 = (i : Int) := ⟨(x % 8).toNat, by omega⟩
  obtain ⟨c, hc⟩ : ∃ c, x / 8 = c := ⟨_, rfl⟩
  have XB := Lib.hid (h.b64 x (by simp))
  have i8 : i < 8 := by omega
  have ea : bits .and .i64 x 7 = (i : Int) := by rw [i64_and7, hi]
  have hi' : Hid (x % 8 = (i : Int)) := hi
  have hc' : Hid (x / 8 = c) := hc
  obtain ⟨q0, q1, q2⟩ := (g.below h.bel).c i i8
  obtain ⟨ct, hct⟩ : ∃ ct, ctL i = ct := ⟨_, rfl⟩
  obtain ⟨pr, hpr⟩ : ∃ pr, prL i = pr := ⟨_, rfl⟩
  rw [hct] at q1; rw [hpr] at q2
  have HCT := Lib.hid hct; have HPR := Lib.hid hpr
  have c0 := h.row.cell (i := 0) rfl
  have f0 := h.row.fr (i := 0)
  have n0 : 0 < n := by rw [← hn]; simp
  have n0i : (0 : Int) < (n : Int) := by omega
  have nz : ((n : Int) == 0) = false := by simp; omega
  have ii0 : (0 : Int) ≤ (i : Int) := by omega
  have ii8 : (i : Int) < 8 := by omega
  have LB := Lib.hid h.row.lt
  have HHI := Lib.hid i8
  clear h hn g hi hct hpr i8
  obtain ⟨s, hs⟩ : ∃ s, nmL.getD i default = s := ⟨_, rfl⟩
  rw [hs] at q0
  have HS := Lib.hid hs
  clear hs
  go_enter Tryd.func27, Tryd.ntmps27
  go_wp2_with fail
  go_quiet (fail)
  obtain ⟨W, hW⟩ : ∃ W, w.drewN nq = W := ⟨_, rfl⟩
  have bW : Below w.heap.size w W := by rw [← hW]; exact below_drewN (Below.refl _ _) nq
  have lo : 0 < w.heap.size := by have := LB.out; omega
  have q0 : W.cell? ⟨0, i * 3, none⟩ = some (.string s) := by rw [bW.cell lo]; exact q0
  have q1 : W.cell? ⟨0, i * 3 + 1, none⟩ = some (.int .i64 ct) := by rw [bW.cell lo]; exact q1
  have q2 : W.cell? ⟨0, i * 3 + 2, none⟩ = some (.int .i64 pr) := by rw [bW.cell lo]; exact q2
  obtain ⟨Z, hZ⟩ : ∃ Z, W.heap.size = Z := ⟨_, rfl⟩
  obtain ⟨W1, hW1⟩ : ∃ W1, W.alloc (.cells #[.string ⟨#[]⟩, .int .i64 0, .int .i64 0] 72) = W1 := ⟨_, rfl⟩
  have rz : Row W1 Z 72 [.string ⟨#[]⟩, .int .i64 0, .int .i64 0] := by rw [← hW1, ← hZ]; exact Row.new _ _ _
  have z0 := rz.cell (i := 0) rfl; have z1 := rz.cell (i := 1) rfl; have z2 := rz.cell (i := 2) rfl; have zf0 := rz.fr (i := 0); have zf1 := rz.fr (i := 1); have zf2 := rz.fr (i := 2)
  obtain ⟨W2, hW2⟩ : ∃ W2, ((W1.setCell ⟨Z, 0, none⟩ (.string s)).setCell ⟨Z, 1, none⟩ (.int .i64 ct)).setCell ⟨Z, 2, none⟩ (.int .i64 pr) = W2 := ⟨_, rfl⟩
  have rz2 : Row W2 Z 72 [.string s, .int .i64 ct, .int .i64 pr] := by rw [← hW2]; exact ((rz.set (i := 0) _).set (i := 1) _).set (i := 2) _
  have b2 : Below w.heap.size w W2 := by
    have hz : w.heap.size ≤ Z := by rw [← hZ]; exact bW.size
    have s1 : Below w.heap.size w W1 := by rw [← hW1]; exact bW.alloc bW.size _
    rw [← hW2]; exact ((s1.setCell hz _).setCell hz _).setCell hz _
  have HWZ : Hid (Z < W2.heap.size ∧ w.heap.size ≤ Z) := ⟨rz2.lt, by rw [← hZ]; exact bW.size⟩
  have RZ2 := Lib.hid rz2; have B2 := Lib.hid b2
  have BBZ : Hid (B ≠ Z) := by have := LB.out; have := HWZ.out.2; show _ ≠ _; omega
  clear rz rz2 b2 c0 f0 lo
  have H2 := Lib.hid (HH.out.keep B2.out)
  have c0 := H2.out.row.cell (i := 0) rfl; have f0 := H2.out.row.fr (i := 0)
  have y0 := RZ2.out.cell (i := 0) rfl; have y1 := RZ2.out.cell (i := 1) rfl; have y2 := RZ2.out.cell (i := 2) rfl
  by_cases hs : i = 1 ∨ i = 2 ∨ i = 7
  rotate_left 1
  · have sE : s = ⟨#[]⟩ := by rw [← HS.out]; exact nmL_empty HHI.out (by omega)
    have NN := Lib.hid (nx_none (r := r) (p := p) hi'.out hc'.out (Or.inl hs))
    subst sE
    clear hs
    go_wp2_with fail
    go_ret2
    exact nx_fail (HH.out.keep B2.out) (gb_below _ B2.out) NN.out (Nat.le_refl _)
  have sN : s.toList.isEmpty = false := by rw [← HS.out]; exact nmL_named hs
  have HIS := Lib.hid hs
  clear hs
  by_cases c1 : c < 1
  · have NN := Lib.hid (nx_none (r := r) (p := p) hi'.out hc'.out (Or.inr (Or.inl c1)))
    go_wp2_with fail
    go_ret2
    exact nx_fail (HH.out.keep B2.out) (gb_below _ B2.out) NN.out (Nat.le_refl _)
  obtain ⟨P, rfl⟩ : ∃ P : Nat, c = (P : Int) := ⟨c.toNat, by omega⟩
  obtain ⟨m, hm⟩ : ∃ m, n - 1 = m := ⟨_, rfl⟩
  have HM := Lib.hid hm
  have HR : Hid (r.length = m) := by have := HN.out; have := HM.out; rw [List.length_cons] at *; show _ = _; omega
  have CAP : Hid (n ≤ cap) := by
    obtain ⟨_, _, e, hq, _⟩ := H2.out.ints
    injection e with _ e2 e3
    show _ ≤ _; omega
  have wP : IntKind.i64.wrap (P : Int) = (P : Int) := by have := hc'.out; have := XB.out; rw [IntKind.wrap_i64]; omega
  obtain ⟨q, hq⟩ : ∃ q : Nat, Int.tdiv (m : Int) 2 = (q : Int) := ⟨m / 2, by rw [Int.tdiv_eq_ediv_of_nonneg (by omega)]; omega⟩
  have HQ : Hid (q = m / 2) := by rw [Int.tdiv_eq_ediv_of_nonneg (by omega)] at hq; show _ = _; omega
  have wq : IntKind.i64.wrap (q : Int) = (q : Int) := by have := HQ.out; have := HLE.out; rw [IntKind.wrap_i64]; omega
  have m2 : Hid ((m : Int) = ((n - 1 : Nat) : Int)) := by show _ = _; rw [hm]
  by_cases i7 : i = 7
  · have hct : ct = 1 := by rw [← HCT.out]; exact if_pos i7
    have hpr : pr = 0 := by rw [← HPR.out]; unfold prL; rw [if_neg (by omega)]
    have HI7 := Lib.hid i7
    subst hct; subst hpr
    clear i7
    by_cases cc : P = 1
    · subst cc
      have NN := Lib.hid (nx_seven (r := r) (p := p) hi'.out hc'.out HI7.out rfl)
      by_cases hcap : cap = 1
      · have n1 : n = 1 := by have := CAP.out; omega
        have m0 : m = 0 := by have := HM.out; omega
        subst n1; subst hcap; subst m0
        have q00 : q = 0 := by have := HQ.out; omega
        subst q00
        have H3 := Lib.hid (H2.out.cut (c := 1) (by omega))
        have G3 := Lib.hid (gb_set (gb_below B B2.out) 0 (cutV b off 1 1 1))
        have cv : cutV b off 1 1 1 = .slice (some ⟨b, off, none⟩) 0 0 := rfl
        rw [cv] at H3 G3
        obtain ⟨W3, hW3⟩ : ∃ W3, W2.setCell ⟨B, 0, none⟩ (.slice (some ⟨b, off, none⟩) 0 0) = W3 := ⟨_, rfl⟩
        rw [hW3] at H3 G3
        rw [List.drop_succ_cons, List.drop_zero] at H3
        have RZ3 : Hid (Row W3 Z 72 [.string s, .int .i64 1, .int .i64 0]) := by rw [← hW3]; exact RZ2.out.other (by exact fun e => BBZ.out e.symm)
        have x2 := RZ3.out.cell (i := 2) rfl
        have x0 := H3.out.row.cell (i := 0) rfl
        go_wp2_with fail
        go_loopw [2, 3, 69] (fun s2 s3 s wr => s2 = .int .i64 (i : Int) ∧ s3 = .slice none 0 0 ∧ s = .int .i64 0 ∧ wr = W3) (fun _ _ _ _ => 0)
        case atStart => exact ⟨rfl, rfl, rfl, rfl⟩
        case round =>
          obtain ⟨rfl, rfl, rfl, rfl⟩ := hrel
          go_wp2_with fail
          go_ret2
          exact ⟨_, .slice none 0 0, [], _, r, p, rfl, World.ownsRow_nil _ _ _ _, H3.out, G3.out, Or.inl NN.out, by simp, by simp⟩
      · have GZ := Lib.hid hcap
        have H3 := Lib.hid (H2.out.cut (c := 1) (by omega))
        have G3 := Lib.hid (gb_set (gb_below B B2.out) 0 (cutV b off n cap 1))
        unfold cutV at H3 G3
        rw [if_neg hcap, hm] at H3 G3
        obtain ⟨k, hk⟩ : ∃ k, cap - 1 = k := ⟨_, rfl⟩
        rw [hk] at H3 G3
        obtain ⟨W3, hW3⟩ : ∃ W3, W2.setCell ⟨B, 0, none⟩ (.slice (some ⟨b, off + 1, none⟩) m k) = W3 := ⟨_, rfl⟩
        rw [hW3] at H3 G3
        rw [List.drop_succ_cons, List.drop_zero] at H3
        have RZ3 : Hid (Row W3 Z 72 [.string s, .int .i64 1, .int .i64 0]) := by rw [← hW3]; exact RZ2.out.other (by exact fun e => BBZ.out e.symm)
        have x2 := RZ3.out.cell (i := 2) rfl
        have x0 := H3.out.row.cell (i := 0) rfl
        have q0 : ¬ ((q : Nat) : Int) < 0 := by omega
        go_wp2_with fail
        go_loopw [2, 3, 69] (fun s2 s3 s wr => s2 = .int .i64 (i : Int) ∧ s3 = .slice none 0 0 ∧ s = .int .i64 0 ∧ wr = W3) (fun _ _ _ _ => 0)
        case atStart => exact ⟨rfl, rfl, rfl, rfl⟩
        case round =>
          obtain ⟨rfl, rfl, rfl, rfl⟩ := hrel
          go_wp2_with fail
          go_ret2
          exact ⟨_, .slice none 0 0, [], _, r, p, rfl, World.ownsRow_nil _ _ _ _, H3.out, G3.out, Or.inl NN.out, by simp, by simp⟩
    · have NN := Lib.hid (nx_none (r := r) (p := p) hi'.out hc'.out (Or.inr (Or.inr ⟨HI7.out, by omega⟩)))
      have cb : ((P : Int) != 1) = true := by simp; omega
      clear cc
      go_wp2_with fail
      go_ret2
      exact nx_fail (HH.out.keep B2.out) (gb_below _ B2.out) NN.out (Nat.le_refl _)
  · have i12 : i = 1 ∨ i = 2 := by have := HIS.out; omega
    have hct : ct = 0 := by rw [← HCT.out]; exact if_neg i7
    have hpr : pr = 1 := by rw [← HPR.out]; exact if_pos i12
    subst hct; subst hpr
    have NN := Lib.hid (nx_some (r := r) (p := p) hi'.out hc'.out i12 (by omega))
    have H12 := Lib.hid i12
    clear i7 i12
    by_cases hcap : cap = 1
    · have n1 : n = 1 := by have := CAP.out; omega
      have m0 : m = 0 := by have := HM.out; omega
      subst n1; subst hcap; subst m0
      have q00 : q = 0 := by have := HQ.out; omega
      subst q00
      have H3 := Lib.hid (H2.out.cut (c := 1) (by omega))
      have G3 := Lib.hid (gb_set (gb_below B B2.out) 0 (cutV b off 1 1 1))
      have cv : cutV b off 1 1 1 = .slice (some ⟨b, off, none⟩) 0 0 := rfl
      rw [cv] at H3 G3
      obtain ⟨W3, hW3⟩ : ∃ W3, W2.setCell ⟨B, 0, none⟩ (.slice (some ⟨b, off, none⟩) 0 0) = W3 := ⟨_, rfl⟩
      rw [hW3] at H3 G3
      rw [List.drop_succ_cons, List.drop_zero] at H3
      have RZ3 : Hid (Row W3 Z 72 [.string s, .int .i64 0, .int .i64 1]) := by rw [← hW3]; exact RZ2.out.other (by exact fun e => BBZ.out e.symm)
      have x2 := RZ3.out.cell (i := 2) rfl
      have x0 := H3.out.row.cell (i := 0) rfl
      have NN2 : Hid (nx (x :: r) p = none) := by
        show _ = _
        rw [NN.out, Int.toNat_natCast, rdA_short]
        · rfl
        · have := HR.out; omega
      have q0 : (0 : Int) < (P : Int) := by omega
      go_wp2_with fail
      go_ret2
      exact nx_fail H3.out G3.out NN2.out (by simp)
    · have GZ := Lib.hid hcap
      have H3 := Lib.hid (H2.out.cut (c := 1) (by omega))
      have G3 := Lib.hid (gb_set (gb_below B B2.out) 0 (cutV b off n cap 1))
      unfold cutV at H3 G3
      rw [if_neg hcap, hm] at H3 G3
      obtain ⟨k, hk⟩ : ∃ k, cap - 1 = k := ⟨_, rfl⟩
      rw [hk] at H3 G3
      obtain ⟨W3, hW3⟩ : ∃ W3, W2.setCell ⟨B, 0, none⟩ (.slice (some ⟨b, off + 1, none⟩) m k) = W3 := ⟨_, rfl⟩
      rw [hW3] at H3 G3
      rw [List.drop_succ_cons, List.drop_zero] at H3
      have RZ3 : Hid (Row W3 Z 72 [.string s, .int .i64 0, .int .i64 1]) := by rw [← hW3]; exact RZ2.out.other (by exact fun e => BBZ.out e.symm)
      have x2 := RZ3.out.cell (i := 2) rfl
      have x0 := H3.out.row.cell (i := 0) rfl
      by_cases hcq : (q : Int) < (P : Int)
      · have NN2 : Hid (nx (x :: r) p = none) := by
          show _ = _
          rw [NN.out, Int.toNat_natCast, rdA_short]
          · rfl
          · have := HQ.out; have := HR.out; omega
        go_wp2_with fail
        go_ret2
        exact nx_fail H3.out G3.out NN2.out (by simp)
      · have LEN : Hid (2 * P ≤ r.length) := by have := HQ.out; have := HR.out; show _ ≤ _; omega
        obtain ⟨R, hR⟩ : ∃ R, rdA P [] r p = R := ⟨_, rfl⟩
        have NX : Hid (nx (x :: r) p = R.map (fun t => ((i : Int), t))) := by show _ = _; rw [NN.out, Int.toNat_natCast, hR]
        have HRR := Lib.hid hR
        have GP : Hid (P ≤ 1000000) := by have := LEN.out; have := H3.out.len; show _ ≤ _; omega
        clear hR
        go_wp2_with fail
        clear x0 x2 y0 y1 y2 c0 f0 hW3 hcq
        obtain ⟨base, hbase⟩ : ∃ base, w.heap.size = base := ⟨_, rfl⟩
        have HBS := Lib.hid hbase
        clear hbase
        go_loopw [2, 3, 69] (fun s2 s3 s69 wr => ∃ (k : Nat) (l : List Pt) (v' : Value) (r' : List Int) (p' : Pt), k ≤ P ∧ s2 = .int .i64 (i : Int) ∧ s69 = .int .i64 (k : Int) ∧ Hid (POwn wr base s3 l) ∧ Hid (Rd w0 B wr v' r' p') ∧ Hid (w.grownBy wr (some B)) ∧ Hid (rdA (P - k) l r' p' = R) ∧ Hid (2 * (P - k) ≤ r'.length ∧ r'.length ≤ r.length ∧ l.length = k)) (fun _ _ s69 _ => P - (intOf s69).toNat)
        case atStart => exact ⟨0, [], _, r, p, Nat.zero_le _, rfl, rfl, World.ownsRow_nil _ _ _ _, H3.out, G3.out, HRR.out, LEN.out, Nat.le_refl _, rfl⟩
        case round =>
          obtain ⟨k, l, v', r', p', hk, rfl, rfl, OW, RD, GB, HRd, HL⟩ := hrel
          by_cases hkp : k < P
          · obtain ⟨dx, dy, r2, rfl⟩ : ∃ dx dy r2, r' = dx :: dy :: r2 := by
              have := HL.out.1
              match r', this with
              | [], h => simp at h; omega
              | [_], h => simp at h; omega
              | dx :: dy :: r2, _ => exact ⟨dx, dy, r2, rfl⟩
            obtain ⟨a', cap', rfl⟩ := RD.out.ints.form
            obtain ⟨b', off', rfl, d0⟩ := RD.out.at_ (j := 0) (by simp)
            obtain ⟨b'', off'', e', d1⟩ := RD.out.at_ (j := 1) (by simp)
            injection e' with e'; injection e' with e1' e2'; subst e1'; subst e2'
            rw [List.getD_cons_zero, Nat.add_zero] at d0
            rw [List.getD_cons_succ, List.getD_cons_zero] at d1
            obtain ⟨n', hn'⟩ : ∃ n', (dx :: dy :: r2).length = n' := ⟨_, rfl⟩
            rw [hn'] at RD
            have HN' := Lib.hid (show r2.length + 2 = n' by rw [← hn']; simp)
            have j0 : 0 < n' := by rw [← hn']; simp
            have j1 : 1 < n' := by rw [← hn']; simp
            have i0' : (0 : Int) < (n' : Int) := by rw [← hn']; simp; omega
            have i1' : (1 : Int) < (n' : Int) := by rw [← hn']; simp; omega
            have kl : (k : Int) < (P : Int) := by omega
            have g0 := RD.out.row.cell (i := 0) rfl
            have BD0 := Lib.hid (RD.out.b64 dx (by simp)); have BD1 := Lib.hid (RD.out.b64 dy (by simp))
            obtain ⟨px, py⟩ := p'
            obtain ⟨ks, hks⟩ : ∃ ks, k + 1 = ks := ⟨_, rfl⟩
            have HKS := Lib.hid hks
            have k1e : (k : Int) + 1 = (ks : Int) := by omega
            have k1w : IntKind.i64.wrap (ks : Int) = (ks : Int) := by have := GP.out; rw [IntKind.wrap_i64]; omega
            clear hks
            clear hn'
            have NS : ∃ m', P - k = m' + 1 := ⟨P - k - 1, by omega⟩
            obtain ⟨m', hm'⟩ := NS
            rw [hm', rdA] at HRd
            have HM' := Lib.hid hm'
            clear hm'
            by_cases hneg : dx < 0 ∨ dy < 0
            · have NN2 : Hid (nx (x :: r) p = none) := by
                show _ = _
                rw [NX.out, ← HRd.out, if_neg (by omega)]; rfl
              have ST := Lib.hid (step_neg (w := wr.drew) (B := B) hneg)
              clear HRd hneg
              go_wp2_with fail
              refine wp_region_drop (fun W => W.cell? ⟨B, 0, none⟩ = some (.slice (some ⟨b', off', none⟩) n' cap') ∧ W.cell? ⟨b', off', none⟩ = some (.int .i64 dx) ∧ W.cell? ⟨b', off' + 1, none⟩ = some (.int .i64 dy)) 13 (by kernel_rfl) ⟨g0, d0, d1⟩ (fun hHeld => ?_)
              refine wpAnyD_pure (i := 0) (v := ?_) rfl (by kernel_rfl) (by kernel_rfl) (by kernel_rfl) (by rfl) (fun _ _ _ h => h) (Or.inl ⟨by rfl, ?_⟩) (by assumption) ?_
              rotate_left 1
              · (intro w; first | (go_simp; done) | (go_simp; with_reducible rfl))
              simp only [Act.put, List.getElem_toArray, List.getElem_cons_zero, List.setIfInBounds_toArray, List.set_cons_zero, List.set_cons_succ]
              refine wpAnyD_pure (i := 1) (v := ?_) rfl (by kernel_rfl) (by kernel_rfl) (by kernel_rfl) (by rfl) (fun _ _ _ h => h) (Or.inl ⟨by rfl, ?_⟩) (by assumption) ?_
              rotate_left 1
              · (intro w; first | (go_simp; done) | (go_simp; with_reducible rfl))
              simp only [Act.put, List.getElem_toArray, List.getElem_cons_zero, List.getElem_cons_succ, List.setIfInBounds_toArray, List.set_cons_zero, List.set_cons_succ]
              refine wpAnyD_pure (i := 2) (v := ?_) rfl (by kernel_rfl) (by kernel_rfl) (by kernel_rfl) (by rfl) (fun _ _ _ h => h) (Or.inl ⟨by rfl, ?_⟩) (by assumption) ?_
              rotate_left 1
              · (intro w; first | (go_simp; done) | (go_simp; with_reducible rfl))
              simp only [Act.put, List.getElem_toArray, List.getElem_cons_zero, List.getElem_cons_succ, List.setIfInBounds_toArray, List.set_cons_zero, List.set_cons_succ]
              refine wpAnyD_pure (i := 3) (v := ?_) rfl (by kernel_rfl) (by kernel_rfl) (by kernel_rfl) (by rfl) (fun _ _ _ h => h) (Or.inl ⟨by rfl, ?_⟩) (by assumption) ?_
              rotate_left 1
              · (intro w; first | (go_simp; done) | (go_simp; with_reducible rfl))
              simp only [Act.put, List.getElem_toArray, List.getElem_cons_zero, List.getElem_cons_succ, List.setIfInBounds_toArray, List.set_cons_zero, List.set_cons_succ]
              refine wpAnyD_take (i := 4) (v := ?_) rfl (by kernel_rfl) (by kernel_rfl) (by kernel_rfl) (by kernel_rfl) (fun _ _ _ h => h) (Or.inl ⟨by rfl, ?_⟩) (by assumption) ?_
              rotate_left 1
              · (intro w hSw; (try dsimp only at hSw); first | (go_simp; done) | (go_simp; with_reducible rfl))
              simp only [Act.put, List.getElem_toArray, List.getElem_cons_zero, List.getElem_cons_succ, List.setIfInBounds_toArray, List.set_cons_zero, List.set_cons_succ]
              refine wpAnyD_pure (i := 5) (v := ?_) rfl (by kernel_rfl) (by kernel_rfl) (by kernel_rfl) (by rfl) (fun _ _ _ h => h) (Or.inl ⟨by rfl, ?_⟩) (by assumption) ?_
              rotate_left 1
              · (intro w; first | (go_simp; done) | (go_simp; with_reducible rfl))
              simp only [Act.put, List.getElem_toArray, List.getElem_cons_zero, List.getElem_cons_succ, List.setIfInBounds_toArray, List.set_cons_zero, List.set_cons_succ]
              refine wpAnyD_take (i := 6) (v := ?_) rfl (by kernel_rfl) (by kernel_rfl) (by kernel_rfl) (by kernel_rfl) (fun _ _ _ h => h) (Or.inl ⟨by rfl, ?_⟩) (by assumption) ?_
              rotate_left 1
              · (intro w hSw; (try dsimp only at hSw); first | (go_simp; done) | (go_simp; with_reducible rfl))
              simp only [Act.put, List.getElem_toArray, List.getElem_cons_zero, List.getElem_cons_succ, List.setIfInBounds_toArray, List.set_cons_zero, List.set_cons_succ]
              refine wpAnyD_pure (i := 7) (v := ?_) rfl (by kernel_rfl) (by kernel_rfl) (by kernel_rfl) (by rfl) (fun _ _ _ h => h) (Or.inl ⟨by rfl, ?_⟩) (by assumption) ?_
              rotate_left 1
              · (intro w; first | (go_simp; done) | (go_simp; with_reducible rfl))
              simp only [Act.put, List.getElem_toArray, List.getElem_cons_zero, List.getElem_cons_succ, List.setIfInBounds_toArray, List.set_cons_zero, List.set_cons_succ]
              refine wpAnyD_pure (i := 8) (v := ?_) rfl (by kernel_rfl) (by kernel_rfl) (by kernel_rfl) (by rfl) (fun _ _ _ h => h) (Or.inl ⟨by rfl, ?_⟩) (by assumption) ?_
              rotate_left 1
              · (intro w; first | (go_simp; done) | (go_simp; with_reducible rfl))
              simp only [Act.put, List.getElem_toArray, List.getElem_cons_zero, List.getElem_cons_succ, List.setIfInBounds_toArray, List.set_cons_zero, List.set_cons_succ]
              refine wpAnyD_pure (i := 9) (v := ?_) rfl (by kernel_rfl) (by kernel_rfl) (by kernel_rfl) (by rfl) (fun _ _ _ h => h) (Or.inl ⟨by rfl, ?_⟩) (by assumption) ?_
              rotate_left 1
              · (intro w; first | (go_simp; done) | (go_simp; with_reducible rfl))
              simp only [Act.put, List.getElem_toArray, List.getElem_cons_zero, List.getElem_cons_succ, List.setIfInBounds_toArray, List.set_cons_zero, List.set_cons_succ]
              refine wpAnyD_take (i := 10) (v := ?_) rfl (by kernel_rfl) (by kernel_rfl) (by kernel_rfl) (by kernel_rfl) (fun _ _ _ h => h) (Or.inl ⟨by rfl, ?_⟩) (by assumption) ?_
              rotate_left 1
              · (intro w hSw; (try dsimp only at hSw); first | (go_simp; done) | (go_simp; with_reducible rfl))
              simp only [Act.put, List.getElem_toArray, List.getElem_cons_zero, List.getElem_cons_succ, List.setIfInBounds_toArray, List.set_cons_zero, List.set_cons_succ]
              refine wpAnyD_pure (i := 11) (v := ?_) rfl (by kernel_rfl) (by kernel_rfl) (by kernel_rfl) (by rfl) (fun _ _ _ h => h) (Or.inl ⟨by rfl, ?_⟩) (by assumption) ?_
              rotate_left 1
              · (intro w; first | (go_simp; done) | (go_simp; with_reducible rfl))
              simp only [Act.put, List.getElem_toArray, List.getElem_cons_zero, List.getElem_cons_succ, List.setIfInBounds_toArray, List.set_cons_zero, List.set_cons_succ]
              refine wpAnyD_take (i := 12) (v := ?_) rfl (by kernel_rfl) (by kernel_rfl) (by kernel_rfl) (by kernel_rfl) (fun _ _ _ h => h) (Or.inl ⟨by rfl, ?_⟩) (by assumption) ?_
              rotate_left 1
              · (intro w hSw; (try dsimp only at hSw); first | (go_simp; done) | (go_simp; with_reducible rfl))
              simp only [Act.put, List.getElem_toArray, List.getElem_cons_zero, List.getElem_cons_succ, List.setIfInBounds_toArray, List.set_cons_zero, List.set_cons_succ]
              refine wpAnyD_drop (by kernel_rfl) rfl (fun K hK => ?_)
              go_simp
              go_wp2_with (go_at_call 31; (with_reducible refine ST.out.mono ?_); rintro en w8 ⟨rfl, rfl⟩)
              refine hK.out _ _ ?_
              clear hK K hHeld
              refine wpAny_one (i := 14) (by decide +kernel) rfl (fun K hK => ?_)
              go_simp
              refine hK.out _ _ ?_
              clear hK K
              refine wpAny_done (by kernel_rfl) ?_ _
              go_wp2_with fail
              go_ret2
              exact nx_fail (RD.out.keep (Below.drew (Below.refl _ _))) (gb_trans GB.out (gb_below B (Below.drew (Below.refl _ _)))) NN2.out (by have := HL.out.2.1; simp at this ⊢; omega)
            · obtain ⟨X, Y, hmv⟩ : ∃ X Y, mv (px, py) dx dy = (X, Y) := ⟨_, _, rfl⟩
              rw [hmv] at HRd
              have ST := Lib.hid (step_all (w := wr.drew) (B := B) (h := (RD.out.keep (Below.drew (Below.refl _ wr))).row) ⟨by omega, BD0.out.2⟩ ⟨by omega, BD1.out.2⟩ hmv)
              obtain ⟨W5, hW5⟩ : ∃ W5, (wr.drew.setCell ⟨B, 1, none⟩ (.int .i64 X)).setCell ⟨B, 2, none⟩ (.int .i64 Y) = W5 := ⟨_, rfl⟩
              rw [hW5] at ST
              have G5 : Hid (wr.grownBy W5 (some B)) := by rw [← hW5]; exact gb_set (gb_set (gb_below B (Below.drew (Below.refl _ _))) _ _) _ _
              have R5 : Hid (Rd w0 B W5 (.slice (some ⟨b', off', none⟩) n' cap') (dx :: dy :: r2) (X, Y)) := by
                rw [← hW5]
                have hd := RD.out.keep (Below.drew (Below.refl _ wr))
                exact ⟨by have := (hd.row.set (i := 1) (.int .i64 X)).set (i := 2) (.int .i64 Y); simpa using this, hd.ints, hd.low, (hd.bel.setCell hd.low _).setCell hd.low _, hd.b64, hd.len⟩
              clear hW5 hmv
              by_cases hin : inE (X, Y)
              · have hd : decide (inE (X, Y)) = true := decide_eq_true hin
                rw [hd] at ST
                rw [if_pos ⟨by omega, by omega, hin⟩] at HRd
                clear hneg hin hd
                go_wp2_with fail
                refine wp_region_drop (fun W => W.cell? ⟨B, 0, none⟩ = some (.slice (some ⟨b', off', none⟩) n' cap') ∧ W.cell? ⟨b', off', none⟩ = some (.int .i64 dx) ∧ W.cell? ⟨b', off' + 1, none⟩ = some (.int .i64 dy)) 13 (by kernel_rfl) ⟨g0, d0, d1⟩ (fun hHeld => ?_)
                refine wpAnyD_pure (i := 0) (v := ?_) rfl (by kernel_rfl) (by kernel_rfl) (by kernel_rfl) (by rfl) (fun _ _ _ h => h) (Or.inl ⟨by rfl, ?_⟩) (by assumption) ?_
                rotate_left 1
                · (intro w; first | (go_simp; done) | (go_simp; with_reducible rfl))
                simp only [Act.put, List.getElem_toArray, List.getElem_cons_zero, List.setIfInBounds_toArray, List.set_cons_zero, List.set_cons_succ]
                refine wpAnyD_pure (i := 1) (v := ?_) rfl (by kernel_rfl) (by kernel_rfl) (by kernel_rfl) (by rfl) (fun _ _ _ h => h) (Or.inl ⟨by rfl, ?_⟩) (by assumption) ?_
                rotate_left 1
                · (intro w; first | (go_simp; done) | (go_simp; with_reducible rfl))
                simp only [Act.put, List.getElem_toArray, List.getElem_cons_zero, List.getElem_cons_succ, List.setIfInBounds_toArray, List.set_cons_zero, List.set_cons_succ]
                refine wpAnyD_pure (i := 2) (v := ?_) rfl (by kernel_rfl) (by kernel_rfl) (by kernel_rfl) (by rfl) (fun _ _ _ h => h) (Or.inl ⟨by rfl, ?_⟩) (by assumption) ?_
                rotate_left 1
                · (intro w; first | (go_simp; done) | (go_simp; with_reducible rfl))
                simp only [Act.put, List.getElem_toArray, List.getElem_cons_zero, List.getElem_cons_succ, List.setIfInBounds_toArray, List.set_cons_zero, List.set_cons_succ]
                refine wpAnyD_pure (i := 3) (v := ?_) rfl (by kernel_rfl) (by kernel_rfl) (by kernel_rfl) (by rfl) (fun _ _ _ h => h) (Or.inl ⟨by rfl, ?_⟩) (by assumption) ?_
                rotate_left 1
                · (intro w; first | (go_simp; done) | (go_simp; with_reducible rfl))
                simp only [Act.put, List.getElem_toArray, List.getElem_cons_zero, List.getElem_cons_succ, List.setIfInBounds_toArray, List.set_cons_zero, List.set_cons_succ]
                refine wpAnyD_take (i := 4) (v := ?_) rfl (by kernel_rfl) (by kernel_rfl) (by kernel_rfl) (by kernel_rfl) (fun _ _ _ h => h) (Or.inl ⟨by rfl, ?_⟩) (by assumption) ?_
                rotate_left 1
                · (intro w hSw; (try dsimp only at hSw); first | (go_simp; done) | (go_simp; with_reducible rfl))
                simp only [Act.put, List.getElem_toArray, List.getElem_cons_zero, List.getElem_cons_succ, List.setIfInBounds_toArray, List.set_cons_zero, List.set_cons_succ]
                refine wpAnyD_pure (i := 5) (v := ?_) rfl (by kernel_rfl) (by kernel_rfl) (by kernel_rfl) (by rfl) (fun _ _ _ h => h) (Or.inl ⟨by rfl, ?_⟩) (by assumption) ?_
                rotate_left 1
                · (intro w; first | (go_simp; done) | (go_simp; with_reducible rfl))
                simp only [Act.put, List.getElem_toArray, List.getElem_cons_zero, List.getElem_cons_succ, List.setIfInBounds_toArray, List.set_cons_zero, List.set_cons_succ]
                refine wpAnyD_take (i := 6) (v := ?_) rfl (by kernel_rfl) (by kernel_rfl) (by kernel_rfl) (by kernel_rfl) (fun _ _ _ h => h) (Or.inl ⟨by rfl, ?_⟩) (by assumption) ?_
                rotate_left 1
                · (intro w hSw; (try dsimp only at hSw); first | (go_simp; done) | (go_simp; with_reducible rfl))
                simp only [Act.put, List.getElem_toArray, List.getElem_cons_zero, List.getElem_cons_succ, List.setIfInBounds_toArray, List.set_cons_zero, List.set_cons_succ]
                refine wpAnyD_pure (i := 7) (v := ?_) rfl (by kernel_rfl) (by kernel_rfl) (by kernel_rfl) (by rfl) (fun _ _ _ h => h) (Or.inl ⟨by rfl, ?_⟩) (by assumption) ?_
                rotate_left 1
                · (intro w; first | (go_simp; done) | (go_simp; with_reducible rfl))
                simp only [Act.put, List.getElem_toArray, List.getElem_cons_zero, List.getElem_cons_succ, List.setIfInBounds_toArray, List.set_cons_zero, List.set_cons_succ]
                refine wpAnyD_pure (i := 8) (v := ?_) rfl (by kernel_rfl) (by kernel_rfl) (by kernel_rfl) (by rfl) (fun _ _ _ h => h) (Or.inl ⟨by rfl, ?_⟩) (by assumption) ?_
                rotate_left 1
                · (intro w; first | (go_simp; done) | (go_simp; with_reducible rfl))
                simp only [Act.put, List.getElem_toArray, List.getElem_cons_zero, List.getElem_cons_succ, List.setIfInBounds_toArray, List.set_cons_zero, List.set_cons_succ]
                refine wpAnyD_pure (i := 9) (v := ?_) rfl (by kernel_rfl) (by kernel_rfl) (by kernel_rfl) (by rfl) (fun _ _ _ h => h) (Or.inl ⟨by rfl, ?_⟩) (by assumption) ?_
                rotate_left 1
                · (intro w; first | (go_simp; done) | (go_simp; with_reducible rfl))
                simp only [Act.put, List.getElem_toArray, List.getElem_cons_zero, List.getElem_cons_succ, List.setIfInBounds_toArray, List.set_cons_zero, List.set_cons_succ]
                refine wpAnyD_take (i := 10) (v := ?_) rfl (by kernel_rfl) (by kernel_rfl) (by kernel_rfl) (by kernel_rfl) (fun _ _ _ h => h) (Or.inl ⟨by rfl, ?_⟩) (by assumption) ?_
                rotate_left 1
                · (intro w hSw; (try dsimp only at hSw); first | (go_simp; done) | (go_simp; with_reducible rfl))
                simp only [Act.put, List.getElem_toArray, List.getElem_cons_zero, List.getElem_cons_succ, List.setIfInBounds_toArray, List.set_cons_zero, List.set_cons_succ]
                refine wpAnyD_pure (i := 11) (v := ?_) rfl (by kernel_rfl) (by kernel_rfl) (by kernel_rfl) (by rfl) (fun _ _ _ h => h) (Or.inl ⟨by rfl, ?_⟩) (by assumption) ?_
                rotate_left 1
                · (intro w; first | (go_simp; done) | (go_simp; with_reducible rfl))
                simp only [Act.put, List.getElem_toArray, List.getElem_cons_zero, List.getElem_cons_succ, List.setIfInBounds_toArray, List.set_cons_zero, List.set_cons_succ]
                refine wpAnyD_take (i := 12) (v := ?_) rfl (by kernel_rfl) (by kernel_rfl) (by kernel_rfl) (by kernel_rfl) (fun _ _ _ h => h) (Or.inl ⟨by rfl, ?_⟩) (by assumption) ?_
                rotate_left 1
                · (intro w hSw; (try dsimp only at hSw); first | (go_simp; done) | (go_simp; with_reducible rfl))
                simp only [Act.put, List.getElem_toArray, List.getElem_cons_zero, List.getElem_cons_succ, List.setIfInBounds_toArray, List.set_cons_zero, List.set_cons_succ]
                refine wpAnyD_drop (by kernel_rfl) rfl (fun K hK => ?_)
                go_simp
                go_wp2_with (go_at_call 31; (with_reducible refine ST.out.mono ?_); rintro en w8 ⟨rfl, b8⟩)
                refine hK.out _ _ ?_
                clear hK K hHeld
                refine wpAny_one (i := 14) (by decide +kernel) rfl (fun K hK => ?_)
                go_simp
                refine hK.out _ _ ?_
                clear hK K
                refine wpAny_done (by kernel_rfl) ?_ _
                have R8 := Lib.hid (R5.out.keep b8); have G8 := Lib.hid (gb_trans GB.out (gb_trans G5.out (gb_below B b8)))
                have G58 := gb_trans G5.out (gb_below B b8)
                have HBB : Hid (B < base) := by have := LB.out; have := HBS.out; show _ < _; omega
                obtain ⟨a3, c3, hs3⟩ := OW.out.form
                have O8 : Hid (POwn w8 base u3 l) := OW.out.same (fun g e => G58.block g (pown_base OW.out g e).2 (by intro e2; injection e2 with e2; have := (pown_base OW.out g e).1; have := HBB.out; omega))
                rw [HL.out.2.2] at hs3
                subst hs3
                have OX : Hid (w8.ownsRow base 44 2 (.slice a3 k c3) k (pcs l)) := by have := O8.out; unfold POwn at this; rw [HL.out.2.2] at this; exact this
                have u1 := R8.out.row.cell (i := 1) rfl; have u2 := R8.out.row.cell (i := 2) rfl
                have SZ8 : Hid (base ≤ w8.heap.size) := by have := G8.out.size; have := HBS.out; show _ ≤ _; omega
                have HKK : Hid (k ≤ 1000000) := by have := GP.out; show _ ≤ _; omega
                have CAP' : Hid (n' ≤ cap') := by
                  obtain ⟨_, _, e, hq, _⟩ := RD.out.ints
                  injection e with _ e2 e3
                  show _ ≤ _; omega
                clear b8 G58 d0 d1 g0 ST
                by_cases hc2 : cap' = 2
                · have n2 : n' = 2 := by have := CAP'.out; have := HN'.out; omega
                  subst n2; subst hc2
                  go_wp2_with (at_builtin; refine wpList_append_own_at _ rfl _ _ 42 rfl base 44 i0 (.agg #[.int .i64 0, .int .i64 0]) 2 16 Tryd.underlying42 II.out Z0.out Z1.out Z2.out rfl (by decide) (.slice a3 k c3) k (pcs l) rfl (OX.out.alloc _) ⟨w8.heap.size, 0, none⟩ 1 1 [.int .i64 X, .int .i64 Y] rfl rfl (two_new _ _ _ _) (by simp [Value.oneCell']) (by have := HKK.out; unfold maxLen; omega) (by have := HKK.out; omega) (by have := SZ8.out; simp; omega) ?_; intro v7 w7 hown' hgrow hnil hloc; have F7 := Lib.hid (rd_app R8.out HBB.out O8.out HL.out.2.2 hgrow hown' HBS.out G8.out); have k0 := F7.out.1.row.cell (i := 0) rfl; have k1 := F7.out.1.row.fr (i := 0); obtain ⟨a7, c7, hv7⟩ := own_form hown'; subst hv7; clear hown' hgrow hnil hloc)
                  go_wp2_with fail
                  go_roundw
                  case measure => have := HKS.out; simp [intOf]; omega
                  case rel => exact ⟨ks, l ++ [(X, Y)], _, r2, (X, Y), by have := HKS.out; omega, rfl, rfl, POwn.same F7.out.2.1 (fun g e => Below.heap_setCell _ _ _ _ (by have := (pown_base F7.out.2.1 g e).1; have := HBB.out; show g ≠ B; omega)), F7.out.1.cutE, gb_set F7.out.2.2 _ _, by rw [show P - ks = m' by have := HM'.out; have := HKS.out; omega]; exact HRd.out, by have h1 := HL.out; have h2 := HM'.out; have h3 := HKS.out; have h4 := HN'.out; show _ ∧ _ ∧ _; simp only [List.length_cons, List.length_append, List.length_nil] at h1 h2 h3 h4 ⊢; omega⟩
                · have HC2 := Lib.hid hc2
                  go_wp2_with (at_builtin; refine wpList_append_own_at _ rfl _ _ 42 rfl base 44 i0 (.agg #[.int .i64 0, .int .i64 0]) 2 16 Tryd.underlying42 II.out Z0.out Z1.out Z2.out rfl (by decide) (.slice a3 k c3) k (pcs l) rfl (OX.out.alloc _) ⟨w8.heap.size, 0, none⟩ 1 1 [.int .i64 X, .int .i64 Y] rfl rfl (two_new _ _ _ _) (by simp [Value.oneCell']) (by have := HKK.out; unfold maxLen; omega) (by have := HKK.out; omega) (by have := SZ8.out; simp; omega) ?_; intro v7 w7 hown' hgrow hnil hloc; have F7 := Lib.hid (rd_app R8.out HBB.out O8.out HL.out.2.2 hgrow hown' HBS.out G8.out); have k0 := F7.out.1.row.cell (i := 0) rfl; have k1 := F7.out.1.row.fr (i := 0); obtain ⟨a7, c7, hv7⟩ := own_form hown'; subst hv7; clear hown' hgrow hnil hloc)
                  go_wp2_with fail
                  go_roundw
                  case measure => have := HKS.out; simp [intOf]; omega
                  case rel => exact ⟨ks, l ++ [(X, Y)], _, r2, (X, Y), by have := HKS.out; omega, rfl, rfl, POwn.same F7.out.2.1 (fun g e => Below.heap_setCell _ _ _ _ (by have := (pown_base F7.out.2.1 g e).1; have := HBB.out; show g ≠ B; omega)), F7.out.1.cutN (by have := HN'.out; omega) HC2.out, gb_set F7.out.2.2 _ _, by rw [show P - ks = m' by have := HM'.out; have := HKS.out; omega]; exact HRd.out, by have h1 := HL.out; have h2 := HM'.out; have h3 := HKS.out; show _ ∧ _ ∧ _; simp only [List.length_cons, List.length_append, List.length_nil] at h1 h2 h3 ⊢; omega⟩
              · have hd : decide (inE (X, Y)) = false := decide_eq_false hin
                rw [hd] at ST
                have NN2 : Hid (nx (x :: r) p = none) := by
                  show _ = _
                  rw [NX.out, ← HRd.out, if_neg (fun hh => hin hh.2.2)]; rfl
                clear HRd hneg hin hd
                go_wp2_with fail
                refine wp_region_drop (fun W => W.cell? ⟨B, 0, none⟩ = some (.slice (some ⟨b', off', none⟩) n' cap') ∧ W.cell? ⟨b', off', none⟩ = some (.int .i64 dx) ∧ W.cell? ⟨b', off' + 1, none⟩ = some (.int .i64 dy)) 13 (by kernel_rfl) ⟨g0, d0, d1⟩ (fun hHeld => ?_)
                refine wpAnyD_pure (i := 0) (v := ?_) rfl (by kernel_rfl) (by kernel_rfl) (by kernel_rfl) (by rfl) (fun _ _ _ h => h) (Or.inl ⟨by rfl, ?_⟩) (by assumption) ?_
                rotate_left 1
                · (intro w; first | (go_simp; done) | (go_simp; with_reducible rfl))
                simp only [Act.put, List.getElem_toArray, List.getElem_cons_zero, List.setIfInBounds_toArray, List.set_cons_zero, List.set_cons_succ]
                refine wpAnyD_pure (i := 1) (v := ?_) rfl (by kernel_rfl) (by kernel_rfl) (by kernel_rfl) (by rfl) (fun _ _ _ h => h) (Or.inl ⟨by rfl, ?_⟩) (by assumption) ?_
                rotate_left 1
                · (intro w; first | (go_simp; done) | (go_simp; with_reducible rfl))
                simp only [Act.put, List.getElem_toArray, List.getElem_cons_zero, List.getElem_cons_succ, List.setIfInBounds_toArray, List.set_cons_zero, List.set_cons_succ]
                refine wpAnyD_pure (i := 2) (v := ?_) rfl (by kernel_rfl) (by kernel_rfl) (by kernel_rfl) (by rfl) (fun _ _ _ h => h) (Or.inl ⟨by rfl, ?_⟩) (by assumption) ?_
                rotate_left 1
                · (intro w; first | (go_simp; done) | (go_simp; with_reducible rfl))
                simp only [Act.put, List.getElem_toArray, List.getElem_cons_zero, List.getElem_cons_succ, List.setIfInBounds_toArray, List.set_cons_zero, List.set_cons_succ]
                refine wpAnyD_pure (i := 3) (v := ?_) rfl (by kernel_rfl) (by kernel_rfl) (by kernel_rfl) (by rfl) (fun _ _ _ h => h) (Or.inl ⟨by rfl, ?_⟩) (by assumption) ?_
                rotate_left 1
                · (intro w; first | (go_simp; done) | (go_simp; with_reducible rfl))
                simp only [Act.put, List.getElem_toArray, List.getElem_cons_zero, List.getElem_cons_succ, List.setIfInBounds_toArray, List.set_cons_zero, List.set_cons_succ]
                refine wpAnyD_take (i := 4) (v := ?_) rfl (by kernel_rfl) (by kernel_rfl) (by kernel_rfl) (by kernel_rfl) (fun _ _ _ h => h) (Or.inl ⟨by rfl, ?_⟩) (by assumption) ?_
                rotate_left 1
                · (intro w hSw; (try dsimp only at hSw); first | (go_simp; done) | (go_simp; with_reducible rfl))
                simp only [Act.put, List.getElem_toArray, List.getElem_cons_zero, List.getElem_cons_succ, List.setIfInBounds_toArray, List.set_cons_zero, List.set_cons_succ]
                refine wpAnyD_pure (i := 5) (v := ?_) rfl (by kernel_rfl) (by kernel_rfl) (by kernel_rfl) (by rfl) (fun _ _ _ h => h) (Or.inl ⟨by rfl, ?_⟩) (by assumption) ?_
                rotate_left 1
                · (intro w; first | (go_simp; done) | (go_simp; with_reducible rfl))
                simp only [Act.put, List.getElem_toArray, List.getElem_cons_zero, List.getElem_cons_succ, List.setIfInBounds_toArray, List.set_cons_zero, List.set_cons_succ]
                refine wpAnyD_take (i := 6) (v := ?_) rfl (by kernel_rfl) (by kernel_rfl) (by kernel_rfl) (by kernel_rfl) (fun _ _ _ h => h) (Or.inl ⟨by rfl, ?_⟩) (by assumption) ?_
                rotate_left 1
                · (intro w hSw; (try dsimp only at hSw); first | (go_simp; done) | (go_simp; with_reducible rfl))
                simp only [Act.put, List.getElem_toArray, List.getElem_cons_zero, List.getElem_cons_succ, List.setIfInBounds_toArray, List.set_cons_zero, List.set_cons_succ]
                refine wpAnyD_pure (i := 7) (v := ?_) rfl (by kernel_rfl) (by kernel_rfl) (by kernel_rfl) (by rfl) (fun _ _ _ h => h) (Or.inl ⟨by rfl, ?_⟩) (by assumption) ?_
                rotate_left 1
                · (intro w; first | (go_simp; done) | (go_simp; with_reducible rfl))
                simp only [Act.put, List.getElem_toArray, List.getElem_cons_zero, List.getElem_cons_succ, List.setIfInBounds_toArray, List.set_cons_zero, List.set_cons_succ]
                refine wpAnyD_pure (i := 8) (v := ?_) rfl (by kernel_rfl) (by kernel_rfl) (by kernel_rfl) (by rfl) (fun _ _ _ h => h) (Or.inl ⟨by rfl, ?_⟩) (by assumption) ?_
                rotate_left 1
                · (intro w; first | (go_simp; done) | (go_simp; with_reducible rfl))
                simp only [Act.put, List.getElem_toArray, List.getElem_cons_zero, List.getElem_cons_succ, List.setIfInBounds_toArray, List.set_cons_zero, List.set_cons_succ]
                refine wpAnyD_pure (i := 9) (v := ?_) rfl (by kernel_rfl) (by kernel_rfl) (by kernel_rfl) (by rfl) (fun _ _ _ h => h) (Or.inl ⟨by rfl, ?_⟩) (by assumption) ?_
                rotate_left 1
                · (intro w; first | (go_simp; done) | (go_simp; with_reducible rfl))
                simp only [Act.put, List.getElem_toArray, List.getElem_cons_zero, List.getElem_cons_succ, List.setIfInBounds_toArray, List.set_cons_zero, List.set_cons_succ]
                refine wpAnyD_take (i := 10) (v := ?_) rfl (by kernel_rfl) (by kernel_rfl) (by kernel_rfl) (by kernel_rfl) (fun _ _ _ h => h) (Or.inl ⟨by rfl, ?_⟩) (by assumption) ?_
                rotate_left 1
                · (intro w hSw; (try dsimp only at hSw); first | (go_simp; done) | (go_simp; with_reducible rfl))
                simp only [Act.put, List.getElem_toArray, List.getElem_cons_zero, List.getElem_cons_succ, List.setIfInBounds_toArray, List.set_cons_zero, List.set_cons_succ]
                refine wpAnyD_pure (i := 11) (v := ?_) rfl (by kernel_rfl) (by kernel_rfl) (by kernel_rfl) (by rfl) (fun _ _ _ h => h) (Or.inl ⟨by rfl, ?_⟩) (by assumption) ?_
                rotate_left 1
                · (intro w; first | (go_simp; done) | (go_simp; with_reducible rfl))
                simp only [Act.put, List.getElem_toArray, List.getElem_cons_zero, List.getElem_cons_succ, List.setIfInBounds_toArray, List.set_cons_zero, List.set_cons_succ]
                refine wpAnyD_take (i := 12) (v := ?_) rfl (by kernel_rfl) (by kernel_rfl) (by kernel_rfl) (by kernel_rfl) (fun _ _ _ h => h) (Or.inl ⟨by rfl, ?_⟩) (by assumption) ?_
                rotate_left 1
                · (intro w hSw; (try dsimp only at hSw); first | (go_simp; done) | (go_simp; with_reducible rfl))
                simp only [Act.put, List.getElem_toArray, List.getElem_cons_zero, List.getElem_cons_succ, List.setIfInBounds_toArray, List.set_cons_zero, List.set_cons_succ]
                refine wpAnyD_drop (by kernel_rfl) rfl (fun K hK => ?_)
                go_simp
                go_wp2_with (go_at_call 31; (with_reducible refine ST.out.mono ?_); rintro en w8 ⟨rfl, b8⟩)
                refine hK.out _ _ ?_
                clear hK K hHeld
                refine wpAny_one (i := 14) (by decide +kernel) rfl (fun K hK => ?_)
                go_simp
                refine hK.out _ _ ?_
                clear hK K
                refine wpAny_done (by kernel_rfl) ?_ _
                have R8 := Lib.hid (R5.out.keep b8); have G8 := Lib.hid (gb_trans GB.out (gb_trans G5.out (gb_below B b8)))
                clear b8
                go_wp2_with fail
                go_ret2
                exact nx_fail R8.out G8.out NN2.out (by have := HL.out.2.1; simp at this ⊢; omega)
          · have kl : ¬ (k : Int) < (P : Int) := by omega
            have e0 : P - k = 0 := by omega
            have NX2 : Hid (nx (x :: r) p = some ((i : Int), l, r', p')) := by
              show _ = _
              rw [NX.out, ← HRd.out, e0, rdA]; rfl
            go_wp2_with fail
            go_ret2
            exact ⟨_, _, l, _, r', p', rfl, by rw [HBS.out]; exact OW.out, RD.out, GB.out, Or.inl NX2.out, by have := HL.out.2.1; simp; omega, by have := HL.out; have := LEN.out; simp; omega⟩
end Go.Proofs.YthlbenldgnjgcaaDoor
