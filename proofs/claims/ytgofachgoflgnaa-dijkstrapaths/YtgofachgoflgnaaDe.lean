/- dijkstra: next; what the search keeps; relax. -/
import Derived.Test.YtgofachgoflgnaaDc
import Derived.Test.YtgofachgoflgnaaDd
import Derived.Test.YtgofachgoflgnaaGi
import Derived.Deep.RegionWith
namespace Go.Proofs.Ytgofachgoflgnaa
open Go.ChangeShapes Go.WideShapes Go.ChangeAt Go.RowKit Go.Joins Go.Deep

theorem next_no {w : World} {qb : Nat} {F : Nat → Prop} {ins : List Bool} {ks : List Int} (I : QI w qb F ins ks) (h0 : ins.count true = 0) : Calls Try.prog 34 #[qp qb] w fun e w' => e = .returned (.iface 80 (.agg #[])) ∧ w = w' := by
  have C := Lib.hid (pop_no I h0)
  go_enter Try.func34, Try.ntmps34
  go_wp2_with fail
  refine C.out.mono ?_; rintro e w3 ⟨rfl, rfl⟩
  go_wp2_with fail
  go_ret
  exact ⟨rfl, rfl⟩
def NextPost (qb : Nat) (F : Nat → Prop) (ins : List Bool) (ks : List Int) (w : World) (e : Ending) (w' : World) : Prop := ∃ (X : Nat) (k : Int), Least ins ks X ∧ k = ks.getD X 0 ∧ e = .returned (.iface 65 (.agg #[.int .i64 (X : Int), .int .i64 k])) ∧ QI w' qb F (ins.set X false) ks ∧ FrF F w w'
theorem next_yes {w : World} {qb : Nat} {F : Nat → Prop} {ins : List Bool} {ks : List Int} (I : QI w qb F ins ks) (h0 : 0 < ins.count true) : Calls Try.prog 34 #[qp qb] w (NextPost qb F ins ks w) := by
  have C := Lib.hid (pop_qi I h0)
  clear I h0
  go_enter Try.func34, Try.ntmps34
  go_wp2_with fail
  refine C.out.mono ?_; rintro e w3 ⟨X, hX, rfl, hI, hF⟩
  obtain ⟨k, hk⟩ : ∃ k, ks.getD X 0 = k := ⟨_, rfl⟩
  rw [hk]
  have HX := Lib.hid hX; have HK := Lib.hid hk; have HI := Lib.hid hI; have HF := Lib.hid hF
  clear hX hk hI hF
  go_wp2_with fail
  go_ret
  exact ⟨X, k, HX.out, HK.out.symm, rfl, HI.out, HF.out⟩
/- what the search keeps in memory -/
structure SE (w0 W : World) (gB wB dB lB qB gd gl qb m n cap k uc cd cl : Nat) (a ua : Option Addr) (F : Nat → Prop) (st : DS) : Prop where
  b : Below w0.heap.size w0 W
  g : Row W gB 24 [.int .i64 (m : Int), .slice a n cap]
  w : Row W wB 25 [.slice ua k uc]
  dv : Row W dB 25 [.slice (some ⟨gd, 0, none⟩) m cd]
  lv : Row W lB 25 [.slice (some ⟨gl, 0, none⟩) m cl]
  qv : Row W qB 58 [qp qb]
  d : Nums W gd m cd st.d
  l : Nums W gl m cl st.la
  q : QI W qb F st.ins st.ks
  n1 : gd ≠ gl
  ng : gB ≠ gd ∧ gB ≠ gl ∧ ¬ F gB
  nw : wB ≠ gd ∧ wB ≠ gl ∧ ¬ F wB
  ndv : dB ≠ gd ∧ dB ≠ gl ∧ ¬ F dB
  nlv : lB ≠ gd ∧ lB ≠ gl ∧ ¬ F lB
  nq : qB ≠ gd ∧ qB ≠ gl ∧ ¬ F qB
  nf : ¬ F gd ∧ ¬ F gl
  lo : w0.heap.size ≤ gd ∧ w0.heap.size ≤ gl ∧ ∀ x, F x → w0.heap.size ≤ x
theorem SE.below {w0 W W' : World} {gB wB dB lB qB gd gl qb m n cap k uc cd cl : Nat} {a ua : Option Addr} {F : Nat → Prop} {st : DS} (h : SE w0 W gB wB dB lB qB gd gl qb m n cap k uc cd cl a ua F st) (b : Below W.heap.size W W') : SE w0 W' gB wB dB lB qB gd gl qb m n cap k uc cd cl a ua F st :=
  ⟨h.b.trans (b.mono h.b.size), h.g.below b h.g.lt, h.w.below b h.w.lt, h.dv.below b h.dv.lt, h.lv.below b h.lv.lt, h.qv.below b h.qv.lt, h.d.same (b.block _ h.d.lt), h.l.same (b.block _ h.l.lt), h.q.below b, h.n1, h.ng, h.nw, h.ndv, h.nlv, h.nq, h.nf, h.lo⟩
theorem SE.store {w0 W : World} {gB wB dB lB qB gd gl qb m n cap k uc cd cl : Nat} {a ua : Option Addr} {F : Nat → Prop} {st : DS} (h : SE w0 W gB wB dB lB qB gd gl qb m n cap k uc cd cl a ua F st) (v : Nat) (x y : Int) : SE w0 ((W.setCell ⟨gd, v, none⟩ (.int .i64 x)).setCell ⟨gl, v, none⟩ (.int .i64 y)) gB wB dB lB qB gd gl qb m n cap k uc cd cl a ua F ⟨st.d.set v x, st.la.set v y, st.ins, st.ks⟩ := by
  have hb : ∀ j, j ≠ gd → j ≠ gl → ((W.setCell ⟨gd, v, none⟩ (.int .i64 x)).setCell ⟨gl, v, none⟩ (.int .i64 y)).heap[j]? = W.heap[j]? := fun j h1 h2 => by
    rw [Below.heap_setCell _ _ _ _ h2, Below.heap_setCell _ _ _ _ h1]
  have sz : ((W.setCell ⟨gd, v, none⟩ (.int .i64 x)).setCell ⟨gl, v, none⟩ (.int .i64 y)).heap.size = W.heap.size := by simp
  have hd1 : Nums (W.setCell ⟨gd, v, none⟩ (.int .i64 x)) gd m cd (st.d.set v x) := h.d.set x
  have hl1 : Nums (W.setCell ⟨gd, v, none⟩ (.int .i64 x)) gl m cl st.la := h.l.same (Below.heap_setCell _ _ _ _ (fun e => h.n1 e.symm))
  have hf : FrF (fun j => j = gd ∨ j = gl) W ((W.setCell ⟨gd, v, none⟩ (.int .i64 x)).setCell ⟨gl, v, none⟩ (.int .i64 y)) :=
    ⟨rfl, rfl, rfl, Nat.le_of_eq sz.symm, fun j _ hn => hb j (fun e => hn (Or.inl e)) (fun e => hn (Or.inr e))⟩
  have hq : QI ((W.setCell ⟨gd, v, none⟩ (.int .i64 x)).setCell ⟨gl, v, none⟩ (.int .i64 y)) qb F st.ins st.ks := h.q.frame hf (fun j hj e => by
    rcases e with e | e
    · exact h.nf.1 (e ▸ hj)
    · exact h.nf.2 (e ▸ hj))
  exact ⟨h.b.trans (hf.below h.b.size (fun j e => by rcases e with e | e <;> rw [e]; exact h.lo.1; exact h.lo.2.1)), h.g.same (hb _ h.ng.1 h.ng.2.1), h.w.same (hb _ h.nw.1 h.nw.2.1), h.dv.same (hb _ h.ndv.1 h.ndv.2.1), h.lv.same (hb _ h.nlv.1 h.nlv.2.1), h.qv.same (hb _ h.nq.1 h.nq.2.1),
    hd1.same (Below.heap_setCell _ _ _ _ h.n1), hl1.set y, hq, h.n1, h.ng, h.nw, h.ndv, h.nlv, h.nq, h.nf, h.lo⟩
theorem SE.queue {w0 W W' : World} {gB wB dB lB qB gd gl qb m n cap k uc cd cl : Nat} {a ua : Option Addr} {F F' : Nat → Prop} {st : DS} {ins : List Bool} {ks : List Int} (h : SE w0 W gB wB dB lB qB gd gl qb m n cap k uc cd cl a ua F st) (q : QI W' qb F' ins ks) (f : FrF F W W') (hF : ∀ j, F' j → F j ∨ W.heap.size ≤ j) :
    SE w0 W' gB wB dB lB qB gd gl qb m n cap k uc cd cl a ua F' ⟨st.d, st.la, ins, ks⟩ := by
  have ne : ∀ j, j < W.heap.size → ¬ F j → ¬ F' j := fun j h1 h2 h3 => by
    rcases hF j h3 with h4 | h4
    · exact h2 h4
    · omega
  exact ⟨h.b.trans (f.below h.b.size h.lo.2.2), h.g.same (f.block _ h.g.lt h.ng.2.2), h.w.same (f.block _ h.w.lt h.nw.2.2), h.dv.same (f.block _ h.dv.lt h.ndv.2.2), h.lv.same (f.block _ h.lv.lt h.nlv.2.2), h.qv.same (f.block _ h.qv.lt h.nq.2.2),
    h.d.same (f.block _ h.d.lt h.nf.1), h.l.same (f.block _ h.l.lt h.nf.2), q, h.n1, ⟨h.ng.1, h.ng.2.1, ne _ h.g.lt h.ng.2.2⟩, ⟨h.nw.1, h.nw.2.1, ne _ h.w.lt h.nw.2.2⟩, ⟨h.ndv.1, h.ndv.2.1, ne _ h.dv.lt h.ndv.2.2⟩, ⟨h.nlv.1, h.nlv.2.1, ne _ h.lv.lt h.nlv.2.2⟩, ⟨h.nq.1, h.nq.2.1, ne _ h.qv.lt h.nq.2.2⟩,
    ⟨ne _ h.d.lt h.nf.1, ne _ h.l.lt h.nf.2⟩, h.lo.1, h.lo.2.1, fun j hj => by
      rcases hF j hj with h4 | h4
      · exact h.lo.2.2 j h4
      · have := h.b.size; omega⟩
theorem setCell_comm (w : World) (a b : Addr) (x y : Value) (h : b.block ≠ a.block) : (w.setCell b y).setCell a x = (w.setCell a x).setCell b y := by
  have e : ((w.setCell b y).setCell a x).heap = ((w.setCell a x).setCell b y).heap := by
    apply Array.ext_getElem?
    intro i
    by_cases ha : i = a.block
    · have hb : i ≠ b.block := fun k => h (k ▸ ha ▸ rfl)
      rw [Below.heap_setCell (w.setCell a x) _ _ _ hb]
      unfold World.setCell
      simp only [Array.getElem?_modify]
      rw [if_neg (c := b.block = i) (fun k => hb k.symm)]
    · rw [Below.heap_setCell (w.setCell b y) _ _ _ ha]
      by_cases hb : i = b.block
      · unfold World.setCell
        simp only [Array.getElem?_modify]
        rw [if_neg (c := a.block = i) (fun k => ha k.symm)]
      · rw [Below.heap_setCell _ _ _ _ hb, Below.heap_setCell _ _ _ _ hb, Below.heap_setCell _ _ _ _ ha]
  show ({ w with heap := _ } : World) = { w with heap := _ }
  congr 1
abbrev pt (b : Nat) : Value := .pointer (some ⟨b, 0, none⟩)
def RelPost (w0 W : World) (F : Nat → Prop) (gB wB dB lB qB gd gl qb m n cap k uc cd cl : Nat) (a ua : Option Addr) (st : DS) (e : Ending) (w' : World) : Prop := e = .returned (.tuple #[]) ∧ ∃ F', SE w0 w' gB wB dB lB qB gd gl qb m n cap k uc cd cl a ua F' st ∧ FrF (fun j => j = gd ∨ j = gl ∨ F j) W w' ∧ ∀ j, F' j → F j ∨ W.heap.size ≤ j
set_option maxRecDepth 100000 in
set_option maxHeartbeats 8000000 in
theorem relax_any {w0 W : World} {gB wB dB lB qB gd gl qb m n cap k uc cd cl : Nat} {a ua : Option Addr} {F : Nat → Prop} {st : DS} {ars : List (Int × Int)} {ws : List Int} (h : SE w0 W gB wB dB lB qB gd gl qb m n cap k uc cd cl a ua F st) (A : ArcsAt w0 (.slice a n cap) ars) (U : IntsAt w0 (.slice ua k uc) ws) (O : OkW m ars ws) (hn : ars.length = n) (hk : ws.length = k)
    (hil : st.ins.length = m) {i : Nat} (hi : i < n) {c : Int} (c0 : 0 ≤ c) (c1 : c ≤ INF) : Calls Try.prog 32 #[.int .i64 (i : Int), .int .i64 c, pt gB, pt wB, pt dB, pt lB, pt qB] W (RelPost w0 W F gB wB dB lB qB gd gl qb m n cap k uc cd cl a ua (rlx ars ws i c st)) := by
  have hi' : i < ars.length := by omega
  obtain ⟨p, v, epv, hp, hv⟩ := arc_nat O.arc hi'
  obtain ⟨ba, oa, rfl, g0, g1⟩ := (A.below h.b).at_ hi'
  obtain ⟨bu, ou, rfl, u00⟩ := U.at (k := i) (by rw [O.l]; exact hi')
  have BU := Lib.hid (Nat.lt_of_lt_of_le (cell_lt u00) (Nat.le_refl _))
  have u0 : W.cell? ⟨bu, ou + i, none⟩ = some (.int .i64 (ws.getD i 0)) := by rw [h.b.cell (cell_lt u00)]; exact u00
  clear u00
  rw [epv] at g0 g1
  dsimp only at g0 g1
  obtain ⟨x, hx⟩ : ∃ x, ws.getD i 0 = x := ⟨_, rfl⟩
  have hxb := O.w i (by rw [O.l]; exact hi')
  rw [hx] at u0 hxb
  have dv0 := h.dv.cell (i := 0) rfl; have lv0 := h.lv.cell (i := 0) rfl; have wv0 := h.w.cell (i := 0) rfl; have qv0 := h.qv.cell (i := 0) rfl; have gv1 := h.g.cell (i := 1) rfl
  obtain ⟨y, hy⟩ : ∃ y, st.d.getD v 0 = y := ⟨_, rfl⟩
  obtain ⟨dc, fd⟩ := h.d.at_ hv
  obtain ⟨lc, fl⟩ := h.l.at_ hv
  rw [hy] at dc
  obtain ⟨z, hz⟩ : ∃ z, c + x = z := ⟨_, rfl⟩
  have hw : IntKind.i64.wrap z = z := by rw [← hz]; rw [IntKind.wrap_i64]; unfold INF at c1; omega
  have i0 : (0 : Int) ≤ (i : Int) := by omega
  have il : (i : Int) < (n : Int) := by omega
  have ik : (i : Int) < (k : Int) := by have := O.l; omega
  have v0 : (0 : Int) ≤ (v : Int) := by omega
  have vl : (v : Int) < (m : Int) := by omega
  have HH := Lib.hid h
  have RL : Hid (rlx ars ws i c st = if x ≠ -1 ∧ z < y then ⟨st.d.set v z, st.la.set v (i : Int), st.ins.set v true, st.ks.set v z⟩ else st) := by
    show _ = _
    unfold rlx
    rw [epv]
    dsimp only
    rw [Int.toNat_natCast, hx, hz, hy]
  have hvi : Hid (v < st.ins.length) := by show v < _; rw [hil]; exact hv
  have HXB := Lib.hid hxb; have HVM := Lib.hid hv
  clear h A U O hn hk hil hi hi' epv hp hv hx hy c0 c1 hxb
  by_cases q1 : x = -1
  · have d1 : (x != -1) = false := by simpa using q1
    have R2 : Hid (rlx ars ws i c st = st) := by show _ = _; rw [RL.out, if_neg (by rintro ⟨h, _⟩; exact h q1)]
    clear q1
    go_enter Try.func32, Try.ntmps32
    go_wp2_with fail
    go_quiet (fail)
    go_wp2_with fail
    go_end0
    exact ⟨rfl, F, by rw [R2.out]; exact HH.out.below (below_drewN (Below.refl _ _) _), FrF.of_below (below_drewN (Below.refl _ _) _), fun j hj => Or.inl hj⟩
  · have d1 : (x != -1) = true := by simpa using q1
    by_cases q2 : z < y
    · have d2 : decide (z < y) = true := by simpa using q2
      have R2 : Hid (rlx ars ws i c st = ⟨st.d.set v z, st.la.set v (i : Int), st.ins.set v true, st.ks.set v z⟩) := by show _ = _; rw [RL.out, if_pos ⟨q1, q2⟩]
      clear q1 q2
      go_enter Try.func32, Try.ntmps32
      go_wp2_with fail
      go_quiet (fail)
      obtain ⟨W2, hW2⟩ : ∃ W2, W.drewN nq = W2 := ⟨_, rfl⟩
      have b2 : Below W.heap.size W W2 := by rw [← hW2]; exact below_drewN (Below.refl _ _) nq
      have H2 := Lib.hid (HH.out.below b2)
      have dv0' := H2.out.dv.cell (i := 0) rfl; have lv0' := H2.out.lv.cell (i := 0) rfl; have wv0' := H2.out.w.cell (i := 0) rfl; have qv0' := H2.out.qv.cell (i := 0) rfl
      have u0' : W2.cell? ⟨bu, ou + i, none⟩ = some (.int .i64 x) := by rw [b2.cell (cell_lt u0)]; exact u0
      obtain ⟨dc', fd'⟩ := H2.out.d.at_ HVM.out; obtain ⟨lc', fl'⟩ := H2.out.l.at_ HVM.out
      obtain ⟨e1, he1⟩ : ∃ e1, st.d.getD v 0 = e1 := ⟨_, rfl⟩
      obtain ⟨e2, he2⟩ : ∃ e2, st.la.getD v 0 = e2 := ⟨_, rfl⟩
      rw [he1] at dc'
      rw [he2] at lc'
      clear he1 he2
      obtain ⟨Wa, hWa⟩ : ∃ Wa, W2.setCell ⟨gd, v, none⟩ (.int .i64 z) = Wa := ⟨_, rfl⟩
      obtain ⟨Wb, hWb⟩ : ∃ Wb, W2.setCell ⟨gl, v, none⟩ (.int .i64 (i : Int)) = Wb := ⟨_, rfl⟩
      have Wad : Wa.cell? ⟨dB, 0, none⟩ = some (.slice (some ⟨gd, 0, none⟩) m cd) := by rw [← hWa, World.cell?_setCell_far _ _ _ _ (fun e => H2.out.ndv.1 e.symm)]; exact dv0'
      have Wal : Wa.cell? ⟨lB, 0, none⟩ = some (.slice (some ⟨gl, 0, none⟩) m cl) := by rw [← hWa, World.cell?_setCell_far _ _ _ _ (fun e => H2.out.nlv.1 e.symm)]; exact lv0'
      have Waw : Wa.cell? ⟨wB, 0, none⟩ = some (.slice (some ⟨bu, ou, none⟩) k uc) := by rw [← hWa, World.cell?_setCell_far _ _ _ _ (fun e => H2.out.nw.1 e.symm)]; exact wv0'
      have Wau : Wa.cell? ⟨bu, ou + i, none⟩ = some (.int .i64 x) := by rw [← hWa, World.cell?_setCell_far _ _ _ _ (fun e => by have h1 := BU.out; have h2 := H2.out.lo.1; simp at e h1; omega)]; exact u0'
      have Wbd : Wb.cell? ⟨dB, 0, none⟩ = some (.slice (some ⟨gd, 0, none⟩) m cd) := by rw [← hWb, World.cell?_setCell_far _ _ _ _ (fun e => H2.out.ndv.2.1 e.symm)]; exact dv0'
      have Wbl : Wb.cell? ⟨lB, 0, none⟩ = some (.slice (some ⟨gl, 0, none⟩) m cl) := by rw [← hWb, World.cell?_setCell_far _ _ _ _ (fun e => H2.out.nlv.2.1 e.symm)]; exact lv0'
      have Wbw : Wb.cell? ⟨wB, 0, none⟩ = some (.slice (some ⟨bu, ou, none⟩) k uc) := by rw [← hWb, World.cell?_setCell_far _ _ _ _ (fun e => H2.out.nw.2.1 e.symm)]; exact wv0'
      have Wbu : Wb.cell? ⟨bu, ou + i, none⟩ = some (.int .i64 x) := by rw [← hWb, World.cell?_setCell_far _ _ _ _ (fun e => by have h1 := BU.out; have h2 := H2.out.lo.2.1; simp at e h1; omega)]; exact u0'
      have la1 : Wa.cell? ⟨gl, v, none⟩ = some (.int .i64 e2) := by rw [← hWa, World.cell?_setCell_far _ _ _ _ H2.out.n1]; exact lc'
      have la2 : Wa.frozen? ⟨gl, v, none⟩ = false := by rw [← hWa, World.frozen?_setCell]; exact fl'
      have la3 : Wb.cell? ⟨gd, v, none⟩ = some (.int .i64 e1) := by rw [← hWb, World.cell?_setCell_far _ _ _ _ (fun e => H2.out.n1 e.symm)]; exact dc'
      have la4 : Wb.frozen? ⟨gd, v, none⟩ = false := by rw [← hWb, World.frozen?_setCell]; exact fd'
      obtain ⟨W3, hW3⟩ : ∃ W3, (W2.setCell ⟨gd, v, none⟩ (.int .i64 z)).setCell ⟨gl, v, none⟩ (.int .i64 (i : Int)) = W3 := ⟨_, rfl⟩
      have hW3' : (W2.setCell ⟨gl, v, none⟩ (.int .i64 (i : Int))).setCell ⟨gd, v, none⟩ (.int .i64 z) = W3 := by
        rw [← hW3]; exact setCell_comm _ _ _ _ _ (fun e => H2.out.n1 e.symm)
      rw [hWa] at hW3
      rw [hWb] at hW3'
      have h3 := H2.out.store v z (i : Int)
      rw [hWa, hW3] at h3
      have qv3 := h3.qv.cell (i := 0) rfl; have dv3 := h3.dv.cell (i := 0) rfl
      have d3 := (h3.d.at_ HVM.out).1
      rw [getD_set2 _ _ _ _ (by rw [H2.out.d.len]; exact HVM.out), if_pos rfl] at d3
      have FF : FrF (fun j => j = gd ∨ j = gl ∨ F j) W W3 := by
        have f2 := (FrF.setCell (F := fun j => j = gd ∨ j = gl ∨ F j) W2 (a := ⟨gd, v, none⟩) (Or.inl rfl) (.int .i64 z)).trans (FrF.setCell (F := fun j => j = gd ∨ j = gl ∨ F j) _ (a := ⟨gl, v, none⟩) (Or.inr (Or.inl rfl)) (.int .i64 (i : Int))) (fun _ _ h => h)
        rw [hWa, hW3] at f2
        exact (FrF.of_below b2).trans f2 (fun _ _ h => h)
      have SQ : Hid (∀ W', Below W3.heap.size W3 W' → Calls Try.prog 33 #[qp qb, .int .i64 (v : Int), .int .i64 z] W' fun e w' => e = .returned (.bool true) ∧ ∃ F', SE w0 w' gB wB dB lB qB gd gl qb m n cap k uc cd cl (some ⟨ba, oa, none⟩) (some ⟨bu, ou, none⟩) F' ⟨st.d.set v z, st.la.set v (i : Int), st.ins.set v true, st.ks.set v z⟩ ∧ FrF (fun j => j = gd ∨ j = gl ∨ F j) W w' ∧ ∀ j, F' j → F j ∨ W.heap.size ≤ j) := fun W' b => by
        have h4 := h3.below b
        refine (set_qi h4.q hvi.out z).mono ?_
        rintro e w' ⟨rfl, F', q', f', g'⟩
        exact ⟨rfl, F', h4.queue q' f' g', (FF.trans (FrF.of_below (F := fun j => j = gd ∨ j = gl ∨ F j) b) (fun _ _ h => h)).trans f' (fun _ _ h => Or.inr (Or.inr h)), fun j hj => by
          rcases g' j hj with h5 | h5
          · exact Or.inl h5
          · exact Or.inr (Nat.le_trans FF.size (Nat.le_trans b.size h5))⟩
      clear h3 FF b2
      clear dv0 lv0 wv0 qv0 gv1 g0 g1 u0 dc fd lc fl
      go_wp2_with fail
      go_region
      all_goals
        go_wp2_with fail
        go_region_with (go_at_call 33; (with_reducible refine (SQ.out _ (by (repeat (first | exact Below.refl _ _ | (refine Below.drew ?_) | (refine below_drewN ?_ _))))).mono ?_); rintro en w9 ⟨rfl, F9, s9, f9, g9⟩; have S9 := Lib.hid s9; have T9 := Lib.hid f9; have G9 := Lib.hid g9; clear s9 f9 g9)
        all_goals
          go_wp2_with fail
          go_end0
          exact ⟨rfl, F9, by rw [R2.out]; exact S9.out, T9.out, G9.out⟩
    · have d2 : decide (z < y) = false := by simpa using q2
      have R2 : Hid (rlx ars ws i c st = st) := by show _ = _; rw [RL.out, if_neg (by rintro ⟨_, h⟩; exact q2 h)]
      clear q1 q2
      go_enter Try.func32, Try.ntmps32
      go_wp2_with fail
      go_quiet (fail)
      go_wp2_with fail
      go_end0
      exact ⟨rfl, F, by rw [R2.out]; exact HH.out.below (below_drewN (Below.refl _ _) _), FrF.of_below (below_drewN (Below.refl _ _) _), fun j hj => Or.inl hj⟩
end Go.Proofs.Ytgofachgoflgnaa
