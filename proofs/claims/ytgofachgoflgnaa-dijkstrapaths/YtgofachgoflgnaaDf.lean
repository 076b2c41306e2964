/- dijkstra: search. -/
import Derived.Test.YtgofachgoflgnaaDe
import Derived.Test.YtgofachgoflgnaaPk2
namespace Go.Proofs.Ytgofachgoflgnaa
open Go.ChangeShapes Go.WideShapes Go.ChangeAt Go.RowKit Go.Joins Go.Deep

theorem bcell {W w1 : World} (hb : Below W.heap.size W w1) : (∀ b o, b < W.heap.size → w1.cell? ⟨b, o, none⟩ = W.cell? ⟨b, o, none⟩) ∧ (∀ b o, b < W.heap.size → w1.frozen? ⟨b, o, none⟩ = W.frozen? ⟨b, o, none⟩) :=
  ⟨fun b o h => hb.cell (p := ⟨b, o, none⟩) h, fun b o h => hb.frozen (p := ⟨b, o, none⟩) h⟩
theorem below_al (w : World) (o : Obj) : Below w.heap.size w (w.alloc o) := (Below.refl _ _).alloc (Nat.le_refl _) _
/- the boxes of search -/
structure PQ (w W : World) (gB wB dB lB m n cap k uc : Nat) (a ua : Option Addr) (vd vl : Value) : Prop where
  b : Below w.heap.size w W
  g : Row W gB 24 [.int .i64 (m : Int), .slice a n cap]
  ww : Row W wB 25 [.slice ua k uc]
  dv : Row W dB 25 [vd]
  lv : Row W lB 25 [vl]
  ne : gB ≠ dB ∧ gB ≠ lB ∧ wB ≠ dB ∧ wB ≠ lB ∧ dB ≠ lB ∧ w.heap.size ≤ dB ∧ w.heap.size ≤ lB
theorem PQ.below {w W W' : World} {gB wB dB lB m n cap k uc : Nat} {a ua : Option Addr} {vd vl : Value} (h : PQ w W gB wB dB lB m n cap k uc a ua vd vl) (b : Below W.heap.size W W') : PQ w W' gB wB dB lB m n cap k uc a ua vd vl :=
  ⟨h.b.trans (b.mono h.b.size), h.g.below b h.g.lt, h.ww.below b h.ww.lt, h.dv.below b h.dv.lt, h.lv.below b h.lv.lt, h.ne⟩
theorem PQ.setd {w W : World} {gB wB dB lB m n cap k uc : Nat} {a ua : Option Addr} {vd vl : Value} (h : PQ w W gB wB dB lB m n cap k uc a ua vd vl) (x : Value) : PQ w (W.setCell ⟨dB, 0, none⟩ x) gB wB dB lB m n cap k uc a ua x vl :=
  ⟨h.b.setCell h.ne.2.2.2.2.2.1 _, h.g.other h.ne.1, h.ww.other h.ne.2.2.1, h.dv.set x, h.lv.other (fun e => h.ne.2.2.2.2.1 e.symm), h.ne⟩
theorem PQ.setl {w W : World} {gB wB dB lB m n cap k uc : Nat} {a ua : Option Addr} {vd vl : Value} (h : PQ w W gB wB dB lB m n cap k uc a ua vd vl) (x : Value) : PQ w (W.setCell ⟨lB, 0, none⟩ x) gB wB dB lB m n cap k uc a ua vd x :=
  ⟨h.b.setCell h.ne.2.2.2.2.2.2 _, h.g.other h.ne.2.1, h.ww.other h.ne.2.2.2.1, h.dv.other h.ne.2.2.2.2.1, h.lv.set x, h.ne⟩
structure PR (w W : World) (gB wB dB lB gd gl m n cap k uc : Nat) (a ua : Option Addr) : Prop where
  q : PQ w W gB wB dB lB m n cap k uc a ua (.slice (some ⟨gd, 0, none⟩) m m) (.slice (some ⟨gl, 0, none⟩) m m)
  d : Nums W gd m m (List.replicate m INF)
  l : Nums W gl m m (List.replicate m (-1))
  n1 : gd ≠ gl
  n2 : gB < gd ∧ wB < gd ∧ dB < gd ∧ lB < gd ∧ gB < gl ∧ wB < gl ∧ dB < gl ∧ lB < gl
theorem PR.below {w W W' : World} {gB wB dB lB gd gl m n cap k uc : Nat} {a ua : Option Addr} (h : PR w W gB wB dB lB gd gl m n cap k uc a ua) (b : Below W.heap.size W W') : PR w W' gB wB dB lB gd gl m n cap k uc a ua :=
  ⟨h.q.below b, h.d.same (b.block _ h.d.lt), h.l.same (b.block _ h.l.lt), h.n1, h.n2⟩
theorem PR.other {w W : World} {gB wB dB lB gd gl m n cap k uc xq : Nat} {a ua : Option Addr} {x : Value} (h : PR w W gB wB dB lB gd gl m n cap k uc a ua) (h1 : xq ≠ gB ∧ xq ≠ wB ∧ xq ≠ dB ∧ xq ≠ lB ∧ xq ≠ gd ∧ xq ≠ gl) (h2 : w.heap.size ≤ xq) : PR w (W.setCell ⟨xq, 0, none⟩ x) gB wB dB lB gd gl m n cap k uc a ua :=
  ⟨⟨h.q.b.setCell h2 _, h.q.g.other (fun e => h1.1 e.symm), h.q.ww.other (fun e => h1.2.1 e.symm), h.q.dv.other (fun e => h1.2.2.1 e.symm), h.q.lv.other (fun e => h1.2.2.2.1 e.symm), h.q.ne⟩, h.d.same (Below.heap_setCell _ _ _ _ (fun e => h1.2.2.2.2.1 e.symm)), h.l.same (Below.heap_setCell _ _ _ _ (fun e => h1.2.2.2.2.2 e.symm)), h.n1, h.n2⟩
theorem one_at {W : World} {xq j T : Nat} {p u : Value} (h : Row W xq T [p]) (e : W.cell? ⟨xq, j, none⟩ = some u) : u = p := by
  unfold Row at h
  unfold World.cell? at e
  rw [h] at e
  cases j with
  | zero => simpa using e.symm
  | succ j => simp at e
theorem ints_other {W : World} {xq T : Nat} {x v : Value} {p : Option Addr} {l : List Int} (h : IntsAt W v l) (r : Row W xq T [.pointer p]) : IntsAt (W.setCell ⟨xq, 0, none⟩ x) v l := by
  obtain ⟨a, cap, h1, hc, h2⟩ := h
  refine ⟨a, cap, h1, hc, ?_⟩
  rcases h2 with h2 | ⟨b, off, e, hl, hj⟩
  · exact Or.inl h2
  · by_cases hb : xq = b
    · refine Or.inl ?_
      cases l with
      | nil => rfl
      | cons y ys =>
        have h0 := hj 0 (by simp)
        rw [← hb] at h0
        have := one_at r h0
        cases this
    · refine Or.inr ⟨b, off, e, by simpa using hl, fun j hjl => ?_⟩
      rw [World.cell?_setCell_far _ _ _ _ hb]; exact hj j hjl
theorem rows_other {W : World} {xq T : Nat} {x v : Value} {p : Option Addr} {ls : List (List Int)} (h : RowsAt W v ls) (r : Row W xq T [.pointer p]) : RowsAt (W.setCell ⟨xq, 0, none⟩ x) v ls := by
  obtain ⟨a, cap, h1, h2⟩ := h
  refine ⟨a, cap, h1, ?_⟩
  rcases h2 with h2 | ⟨ob, e, hj⟩
  · exact Or.inl h2
  · by_cases hb : xq = ob
    · refine Or.inl ?_
      cases ls with
      | nil => rfl
      | cons y ys =>
        obtain ⟨u, h0, hi⟩ := hj 0 (by simp)
        rw [← hb] at h0
        have e2 := one_at r h0
        obtain ⟨b, c, e3⟩ := hi.form
        rw [e2] at e3; cases e3
    · refine Or.inr ⟨ob, e, fun j hjl => ?_⟩
      obtain ⟨u, h0, hi⟩ := hj j hjl
      exact ⟨u, by rw [World.cell?_setCell_far _ _ _ _ hb]; exact h0, ints_other hi r⟩
structure RW (W : World) (bo tp ob m : Nat) (vs : List Value) (ls : List (List Int)) : Prop where
  rr : RR W bo ob m vs ls
  ob : ob < tp
  vi : ∀ k a, k < m → (vs.getD k nilV).ownBlock = some a → a < tp
  sz : tp ≤ W.heap.size
theorem RW.new {W : World} {bo ob m : Nat} {vs : List Value} {ls : List (List Int)} (rr : RR W bo ob m vs ls) : RW W bo W.heap.size ob m vs ls :=
  ⟨rr, rr.o.lt, fun k a hk ha => ((rr.i k hk).lt a ha).2, Nat.le_refl _⟩
theorem RW.frame {W W' : World} {bo tp ob m : Nat} {vs : List Value} {ls : List (List Int)} (h : RW W bo tp ob m vs ls) (hs : W.heap.size ≤ W'.heap.size) (hb : ∀ j, bo ≤ j → j < tp → W'.heap[j]? = W.heap[j]?) : RW W' bo tp ob m vs ls :=
  ⟨⟨h.rr.o.same (hb _ h.rr.go h.ob), h.rr.vl, h.rr.ll, fun k hk => (h.rr.i k hk).same (fun g hg => hb g (h.rr.gi k g hk hg) (h.vi k g hk hg)), h.rr.d, h.rr.no, h.rr.go, h.rr.gi⟩, h.ob, h.vi, Nat.le_trans h.sz hs⟩
theorem RW.below {W W' : World} {bo tp ob m : Nat} {vs : List Value} {ls : List (List Int)} (h : RW W bo tp ob m vs ls) (b : Below W.heap.size W W') : RW W' bo tp ob m vs ls := h.frame b.size (fun j _ h2 => b.block j (Nat.lt_of_lt_of_le h2 h.sz))
theorem RW.fr {W W' : World} {bo tp ob m : Nat} {vs : List Value} {ls : List (List Int)} {F : Nat → Prop} (h : RW W bo tp ob m vs ls) (f : FrF F W W') (hF : ∀ j, F j → j < bo ∨ tp ≤ j) : RW W' bo tp ob m vs ls :=
  h.frame f.size (fun j h1 h2 => f.block j (Nat.lt_of_lt_of_le h2 h.sz) (fun k => by rcases hF j k with h3 | h3 <;> omega))
theorem SE.setD {w0 W : World} {gB wB dB lB qB gd gl qb m n cap k uc cd cl : Nat} {a ua : Option Addr} {F : Nat → Prop} {st : DS} (h : SE w0 W gB wB dB lB qB gd gl qb m n cap k uc cd cl a ua F st) (v : Nat) (x : Int) : SE w0 (W.setCell ⟨gd, v, none⟩ (.int .i64 x)) gB wB dB lB qB gd gl qb m n cap k uc cd cl a ua F ⟨st.d.set v x, st.la, st.ins, st.ks⟩ := by
  have hf := FrF.setCell (F := fun j => j = gd) W (a := ⟨gd, v, none⟩) rfl (.int .i64 x)
  exact ⟨h.b.setCell h.lo.1 _, h.g.other h.ng.1, h.w.other h.nw.1, h.dv.other h.ndv.1, h.lv.other h.nlv.1, h.qv.other h.nq.1, h.d.set x, h.l.same (Below.heap_setCell _ _ _ _ (fun e => h.n1 e.symm)), h.q.frame hf (fun j hj e => h.nf.1 (e ▸ hj)), h.n1, h.ng, h.nw, h.ndv, h.nlv, h.nq, h.nf, h.lo⟩
theorem ends_mem (f : Int × Int → Int) (l : List (Int × Int)) (k v : Nat) (z : Int) : z ∈ ends f l k v ↔ ∃ a : Nat, z = (a : Int) ∧ a < k ∧ f (l.getD a (0, 0)) = (v : Int) := by
  unfold ends
  rw [List.mem_map]
  constructor
  · rintro ⟨a, ha, rfl⟩
    rw [List.mem_filter, List.mem_range] at ha
    exact ⟨a, rfl, ha.1, of_decide_eq_true ha.2⟩
  · rintro ⟨a, rfl, ha, e⟩
    exact ⟨a, List.mem_filter.2 ⟨List.mem_range.2 ha, decide_eq_true e⟩, rfl⟩
theorem mem_getD {l : List Int} {z : Int} (h : z ∈ l) : ∃ j, j < l.length ∧ l.getD j 0 = z := by
  obtain ⟨j, hj, e⟩ := List.getElem_of_mem h
  exact ⟨j, hj, by rw [List.getD, List.getElem?_eq_getElem hj, Option.getD_some, e]⟩
def SearchPost (ars : List (Int × Int)) (ws : List Int) (m s : Nat) (w : World) (e : Ending) (w' : World) : Prop := ∃ (uD uL : Value) (d la : List Int), e = .returned (.tuple #[uD, uL]) ∧ SR ars ws m s d la ∧ IntsAt w' uD d ∧ IntsAt w' uL la ∧ Below w.heap.size w w'
theorem same_set {W : World} {b T i : Nat} {v : Value} {cs : List Value} (h : Row W b T cs) (hv : cs[i]? = some v) : W.setCell ⟨b, i, none⟩ v = W := by
  have e : (W.setCell ⟨b, i, none⟩ v).heap = W.heap := by
    apply Array.ext_getElem?
    intro q
    by_cases hi : q = b
    · subst hi
      have k := h.set (i := i) v
      have e2 : cs.set i v = cs := by
        obtain ⟨h1, h2⟩ := List.getElem?_eq_some_iff.1 hv
        rw [← h2]; exact List.set_getElem_self h1
      rw [e2] at k
      unfold Row at h k
      rw [k, h]
    · exact Below.heap_setCell _ _ _ _ hi
  have : ({ W with heap := (W.setCell ⟨b, i, none⟩ v).heap } : World) = W := by rw [e]
  exact this
theorem Nums.ints {w : World} {g n cap : Nat} {l : List Int} (h : Nums w g n cap l) : IntsAt w (.slice (some ⟨g, 0, none⟩) n cap) l := by
  have : w.ownsRow 0 3 1 (.slice (some ⟨g, 0, none⟩) n cap) l.length (nums l) := by rw [h.len]; exact h.own
  have r := IntsAt.of_row this
  exact r
theorem ta_no (w : World) : Sem.run Try.prog (Instr.typeAssert (.iface 80 (.agg #[])) 20 65 true) w = .ok (.tuple #[.agg #[.int .i64 0, .int .i64 0], .bool false]) w := by rfl
theorem ta_yes (x k : Int) (w : World) : Sem.run Try.prog (Instr.typeAssert (.iface 65 (.agg #[.int .i64 x, .int .i64 k])) 20 65 true) w = .ok (.tuple #[.agg #[.int .i64 x, .int .i64 k], .bool true]) w := by rfl
def ds0 (m : Nat) : DS := ⟨List.replicate m INF, List.replicate m (-1), List.replicate m false, List.replicate m 0⟩
theorem PR.se {w W : World} {gB wB dB lB gd gl m n cap k uc qB qb : Nat} {a ua : Option Addr} {F : Nat → Prop} (h : PR w W gB wB dB lB gd gl m n cap k uc a ua) (q : QI W qb F (List.replicate m false) (List.replicate m 0)) (r : Row W qB 58 [qp qb])
    (fx : ∀ j, F j → gd < j ∧ gl < j ∧ gB < j ∧ wB < j ∧ dB < j ∧ lB < j) (hq : gd < qB ∧ gl < qB) (fq : ¬ F qB) : SE w W gB wB dB lB qB gd gl qb m n cap k uc m m a ua F (ds0 m) := by
  have n2 := h.n2; have ne := h.q.ne
  exact ⟨h.q.b, h.q.g, h.q.ww, h.q.dv, h.q.lv, r, h.d, h.l, q, h.n1, ⟨by omega, by omega, fun e => by have := fx _ e; omega⟩, ⟨by omega, by omega, fun e => by have := fx _ e; omega⟩, ⟨by omega, by omega, fun e => by have := fx _ e; omega⟩, ⟨by omega, by omega, fun e => by have := fx _ e; omega⟩, ⟨by omega, by omega, fq⟩,
    ⟨fun e => by have := fx _ e; omega, fun e => by have := fx _ e; omega⟩, by omega, by omega, fun j hj => by have := fx _ hj; omega⟩
theorem nums_rep {w : World} {B g m : Nat} {x : Int} (h : Ints w B (.slice (some ⟨g, 0, none⟩) m m) (List.replicate m x)) : Nums w g m m (List.replicate m x) := by
  refine ⟨?_, by simp⟩
  have h' := h
  unfold Ints at h'
  rw [List.length_replicate] at h'
  refine ⟨h'.1, ?_⟩
  rcases h'.2 with h0 | ⟨q, c, cur, e, hb, r⟩
  · exact Or.inl h0
  · exact Or.inr ⟨q, c, cur, e, Nat.zero_le _, r⟩
set_option maxRecDepth 100000 in
set_option maxHeartbeats 8000000 in
theorem search_any {w : World} {m s : Nat} {v u : Value} {ars : List (Int × Int)} {ws : List Int} (A : ArcsAt w v ars) (U : IntsAt w u ws) (O : OkW m ars ws) (hs : s < m) : Calls Try.prog 23 #[gv (m : Int) v, u, .int .i64 (s : Int)] w (SearchPost ars ws m s w) := by
  have A0 := A; have U0 := U
  obtain ⟨a, cap, rfl, _⟩ := A
  obtain ⟨ua, uc, rfl⟩ := U.form
  obtain ⟨n, hn⟩ : ∃ n, ars.length = n := ⟨_, rfl⟩
  obtain ⟨k, hk⟩ : ∃ k, ws.length = k := ⟨_, rfl⟩
  rw [hn, hk]
  rw [hn] at A0
  rw [hk] at U0
  have HM : Hid (m ≤ 1048576) := O.size.1
  obtain ⟨gB, hgB⟩ : ∃ gB, w.heap.size = gB := ⟨_, rfl⟩
  obtain ⟨W1, hW1⟩ : ∃ W1, w.alloc (.cells #[.int .i64 (m : Int), .slice a n cap] 24) = W1 := ⟨_, rfl⟩
  obtain ⟨wB, hwB⟩ : ∃ wB, W1.heap.size = wB := ⟨_, rfl⟩
  obtain ⟨W2, hW2⟩ : ∃ W2, W1.alloc (.cells #[.slice ua k uc] 25) = W2 := ⟨_, rfl⟩
  obtain ⟨dB, hdB⟩ : ∃ dB, W2.heap.size = dB := ⟨_, rfl⟩
  obtain ⟨W3, hW3⟩ : ∃ W3, W2.alloc (.cells #[.slice none 0 0] 25) = W3 := ⟨_, rfl⟩
  obtain ⟨lB, hlB⟩ : ∃ lB, W3.heap.size = lB := ⟨_, rfl⟩
  obtain ⟨W4, hW4⟩ : ∃ W4, W3.alloc (.cells #[.slice none 0 0] 25) = W4 := ⟨_, rfl⟩
  have s1 : wB = gB + 1 := by rw [← hwB, ← hW1, World.size_alloc, hgB]
  have s2 : dB = wB + 1 := by rw [← hdB, ← hW2, World.size_alloc, hwB]
  have s3 : lB = dB + 1 := by rw [← hlB, ← hW3, World.size_alloc, hdB]
  have s4 : W4.heap.size = lB + 1 := by rw [← hW4, World.size_alloc, hlB]
  have r1 : Row W4 gB 24 [.int .i64 (m : Int), .slice a n cap] := by rw [← hW4, ← hW3, ← hW2, ← hW1, ← hgB]; exact (((Row.new _ _ _).alloc _).alloc _).alloc _
  have r2 : Row W4 wB 25 [.slice ua k uc] := by rw [← hW4, ← hW3, ← hW2, ← hwB]; exact ((Row.new _ _ _).alloc _).alloc _
  have r3 : Row W4 dB 25 [.slice none 0 0] := by rw [← hW4, ← hW3, ← hdB]; exact (Row.new _ _ _).alloc _
  have r4 : Row W4 lB 25 [.slice none 0 0] := by rw [← hW4, ← hlB]; exact Row.new _ _ _
  have B4 : Below w.heap.size w W4 := by rw [← hW4, ← hW3, ← hW2, ← hW1]; exact ((((Below.refl _ _).alloc (Nat.le_refl _) _).alloc (by simp) _).alloc (by simp; omega) _).alloc (by simp; omega) _
  have g0 := r1.cell (i := 0) rfl; have g1 := r1.cell (i := 1) rfl
  have d0 := r3.cell (i := 0) rfl; have l0 := r4.cell (i := 0) rfl
  have df := r3.fr (i := 0); have lf := r4.fr (i := 0)
  have lg : gB < W4.heap.size := r1.lt
  have ld : dB < W4.heap.size := r3.lt
  have ll : lB < W4.heap.size := r4.lt
  have hgw : w.heap.size = gB := hgB
  have SS := Lib.hid (And.intro hgw (And.intro s1 (And.intro s2 (And.intro s3 s4))))
  have RR := Lib.hid (And.intro r1 (And.intro r2 (And.intro r3 r4)))
  have HB4 := Lib.hid B4; have HA := Lib.hid A0; have HU := Lib.hid U0; have HO := Lib.hid O; have HS := Lib.hid hs; have HN := Lib.hid hn; have HK := Lib.hid hk
  clear hgw s1 s2 s3 s4 r1 r2 r3 r4 B4 A0 U0 U O hs hn hk
  go_enter Try.func23, Try.ntmps23
  go_wp2_with fail
  clear hW1 hW2 hW3 hW4
  have P0 : Hid (PQ w W4.drew gB wB dB lB m n cap k uc a ua (.slice none 0 0) (.slice none 0 0)) := by
    have p : PQ w W4 gB wB dB lB m n cap k uc a ua (.slice none 0 0) (.slice none 0 0) := ⟨HB4.out, RR.out.1, RR.out.2.1, RR.out.2.2.1, RR.out.2.2.2, by have q := SS.out; omega⟩
    exact p.below ((Below.refl _ _).drew)
  clear lg ld ll g0 g1 d0 l0 df lf
  go_upto_region 2 with (fail)
  go_cut [18] (fun _ wx => ∃ gd gl : Nat, Hid (PR w wx gB wB dB lB gd gl m n cap k uc a ua))
  case first =>
    refine wp_region_held_drew (S := fun W => (∃ vd vl, PQ w W gB wB dB lB m n cap k uc a ua vd vl) ∧ W.cell? ⟨gB, 0, none⟩ = some (.int .i64 (m : Int))) (by kernel_rfl) ⟨⟨_, _, P0.out⟩, P0.out.g.cell (i := 0) rfl⟩ (fun hHeld => ?_)
    generalize W4.drew = wd at hHeld P0 ⊢
    refine wpAnyH_take (i := 1) (v := ?_) rfl (by kernel_rfl) (by kernel_rfl) (by kernel_rfl) (fun _ _ _ h => h) (Or.inl ⟨by rfl, ?_⟩) (by assumption) ?_
    rotate_left 1
    · (intro w hSw; (try dsimp only at hSw); first | (go_simp; done) | (go_simp; with_reducible rfl))
    simp only [Act.put, List.getElem_toArray, List.getElem_cons_zero, List.getElem_cons_succ, List.setIfInBounds_toArray, List.set_cons_zero, List.set_cons_succ]
    refine wpAnyH_take (i := 2) (v := ?_) rfl (by kernel_rfl) (by kernel_rfl) (by kernel_rfl) (fun _ _ _ h => h) (Or.inl ⟨by rfl, ?_⟩) (by assumption) ?_
    rotate_left 1
    · (intro w hSw; (try dsimp only at hSw); first | (go_simp; done) | (go_simp; with_reducible rfl))
    simp only [Act.put, List.getElem_toArray, List.getElem_cons_zero, List.getElem_cons_succ, List.setIfInBounds_toArray, List.set_cons_zero, List.set_cons_succ]
    refine wpAnyH_take (i := 5) (v := ?_) rfl (by kernel_rfl) (by kernel_rfl) (by kernel_rfl) (fun _ _ _ h => h) (Or.inl ⟨by rfl, ?_⟩) (by assumption) ?_
    rotate_left 1
    · (intro w hSw; (try dsimp only at hSw); first | (go_simp; done) | (go_simp; with_reducible rfl))
    simp only [Act.put, List.getElem_toArray, List.getElem_cons_zero, List.getElem_cons_succ, List.setIfInBounds_toArray, List.set_cons_zero, List.set_cons_succ]
    refine wpAnyH_take (i := 6) (v := ?_) rfl (by kernel_rfl) (by kernel_rfl) (by kernel_rfl) (fun _ _ _ h => h) (Or.inl ⟨by rfl, ?_⟩) (by assumption) ?_
    rotate_left 1
    · (intro w hSw; (try dsimp only at hSw); first | (go_simp; done) | (go_simp; with_reducible rfl))
    simp only [Act.put, List.getElem_toArray, List.getElem_cons_zero, List.getElem_cons_succ, List.setIfInBounds_toArray, List.set_cons_zero, List.set_cons_succ]
    refine wpAnyH_ready (rs := [0, 4]) (by kernel_rfl) (by simp) ?_
    refine AllReadyH.cons rfl (fun K hK => ?_) (AllReadyH.cons rfl (fun K hK => ?_) AllReadyH.nil)
    · obtain ⟨x1, hx1⟩ : ∃ x, wd.heap.size = x := ⟨_, rfl⟩
      obtain ⟨V1, hV1⟩ : ∃ V, wd.alloc (.cells #[.int .i64 1152921504606846976] 3) = V := ⟨_, rfl⟩
      have b1 : Below wd.heap.size wd V1 := by rw [← hV1]; exact below_al _ _
      have X1 : Hid (V1.cell? ⟨x1, 0, none⟩ = some (.int .i64 1152921504606846976)) := by show _ = _; rw [← hV1, ← hx1]; exact (Row.new _ _ [.int .i64 1152921504606846976]).cell (i := 0) rfl
      go_simp
      have P1 := Lib.hid (P0.out.below b1)
      clear b1
      refine hK.out _ _ ⟨⟨_, _, P1.out⟩, P1.out.g.cell (i := 0) rfl⟩ (fun hHeld2 => ?_)
      clear hK K hHeld; have hHeld := hHeld2; clear hHeld2
      clear hV1
      refine wpAnyH_ready (rs := [3, 4]) (by kernel_rfl) (by simp) ?_
      refine AllReadyH.cons rfl (fun K hK => ?_) (AllReadyH.cons rfl (fun K hK => ?_) AllReadyH.nil)
      · have cx2 := X1.out
        go_simp
        go_wp2_with (go_at_call 29; (refine (repeat_anyI HM.out cx2).mono ?_); rintro en V2 ⟨rfl, a2, b2, z2⟩)
        have N2 := Lib.hid (nums_rep a2)
        obtain ⟨g2, hg2⟩ : ∃ g, V1.heap.size = g := ⟨_, rfl⟩
        rw [hg2] at N2
        have LT2 : Hid (gB < g2 ∧ wB < g2 ∧ dB < g2 ∧ lB < g2) := by have q := P1.out; have q1 := q.g.lt; have q2 := q.ww.lt; have q3 := q.dv.lt; have q4 := q.lv.lt; rw [hg2] at q1 q2 q3 q4; exact ⟨q1, q2, q3, q4⟩
        rw [hg2]
        clear cx2 a2
        have SZ2 : Hid (g2 < V2.heap.size) := by show _ < _; rw [← hg2]; exact z2
        have P2 := Lib.hid (P1.out.below b2)
        clear b2
        refine hK.out _ _ ⟨⟨_, _, P2.out⟩, P2.out.g.cell (i := 0) rfl⟩ (fun hHeld2 => ?_)
        clear hK K hHeld; have hHeld := hHeld2; clear hHeld2
        refine wpAnyH_ready (rs := [4]) (by kernel_rfl) (by simp) ?_
        refine AllReadyH.cons rfl (fun K hK => ?_) AllReadyH.nil
        obtain ⟨x3, hx3⟩ : ∃ x, V2.heap.size = x := ⟨_, rfl⟩
        obtain ⟨V3, hV3⟩ : ∃ V, V2.alloc (.cells #[.int .i64 (-1)] 3) = V := ⟨_, rfl⟩
        have b3 : Below V2.heap.size V2 V3 := by rw [← hV3]; exact below_al _ _
        have X3 : Hid (V3.cell? ⟨x3, 0, none⟩ = some (.int .i64 (-1))) := by show _ = _; rw [← hV3, ← hx3]; exact (Row.new _ _ [.int .i64 (-1)]).cell (i := 0) rfl
        go_simp
        have P3 := Lib.hid (P2.out.below b3)
        have U3 := Lib.hid (N2.out.same (b3.block _ N2.out.lt))
        clear b3
        refine hK.out _ _ ⟨⟨_, _, P3.out⟩, P3.out.g.cell (i := 0) rfl⟩ (fun hHeld2 => ?_)
        clear hK K hHeld; have hHeld := hHeld2; clear hHeld2
        clear hV3
        refine wpAnyH_ready (rs := [7]) (by kernel_rfl) (by simp) ?_
        refine AllReadyH.cons rfl (fun K hK => ?_) AllReadyH.nil
        have cx4 := X3.out
        go_simp
        go_wp2_with (go_at_call 29; (refine (repeat_any HM.out cx4).mono ?_); rintro en V4 ⟨rfl, a4, b4, z4⟩)
        have N4 := Lib.hid (nums_rep a4)
        obtain ⟨g4, hg4⟩ : ∃ g, V3.heap.size = g := ⟨_, rfl⟩
        rw [hg4] at N4
        have LT4 : Hid (gB < g4 ∧ wB < g4 ∧ dB < g4 ∧ lB < g4) := by have q := P3.out; have q1 := q.g.lt; have q2 := q.ww.lt; have q3 := q.dv.lt; have q4 := q.lv.lt; rw [hg4] at q1 q2 q3 q4; exact ⟨q1, q2, q3, q4⟩
        rw [hg4]
        clear cx4 a4
        have NE4 : Hid (g2 ≠ g4 ∧ (gB < g2 ∧ wB < g2 ∧ dB < g2 ∧ lB < g2 ∧ gB < g4 ∧ wB < g4 ∧ dB < g4 ∧ lB < g4)) := by
          have q := U3.out.lt; rw [hg4] at q; have p1 := LT2.out; have p2 := LT4.out; exact ⟨by omega, p1.1, p1.2.1, p1.2.2.1, p1.2.2.2, p2⟩
        have P4 := Lib.hid (P3.out.below b4)
        have U4 := Lib.hid (U3.out.same (b4.block _ U3.out.lt))
        clear b4
        refine hK.out _ _ ⟨⟨_, _, P4.out⟩, P4.out.g.cell (i := 0) rfl⟩ (fun hHeld2 => ?_)
        clear hK K hHeld; have hHeld := hHeld2; clear hHeld2
        refine wpAnyH_ready (rs := [8]) (by kernel_rfl) (by simp) ?_
        refine AllReadyH.cons rfl (fun K hK => ?_) AllReadyH.nil
        have c5 := P4.out.dv.cell (i := 0) rfl; have r5 := P4.out.dv.fr (i := 0)
        obtain ⟨V5, hV5⟩ : ∃ V, V4.setCell ⟨dB, 0, none⟩ (.slice (some ⟨g2, 0, none⟩) m m) = V := ⟨_, rfl⟩
        go_simp
        have P5 : Hid (PQ w V5 gB wB dB lB m n cap k uc a ua (.slice (some ⟨g2, 0, none⟩) m m) (.slice none 0 0)) := by show PQ _ _ _ _ _ _ _ _ _ _ _ _ _ _ _; rw [← hV5]; exact P4.out.setd _
        have M5 := Lib.hid (by rw [← hV5]; exact U4.out.same (Below.heap_setCell _ _ _ _ (by have q := NE4.out; show _ ≠ dB; omega)) : Nums V5 g2 m m (List.replicate m INF))
        have Q5 := Lib.hid (by rw [← hV5]; exact N4.out.same (Below.heap_setCell _ _ _ _ (by have q := NE4.out; show _ ≠ dB; omega)) : Nums V5 g4 m m (List.replicate m (-1)))
        refine hK.out _ _ ⟨⟨_, _, P5.out⟩, P5.out.g.cell (i := 0) rfl⟩ (fun hHeld2 => ?_)
        clear hK K hHeld; have hHeld := hHeld2; clear hHeld2
        clear c5 r5
        refine wpAnyH_ready (rs := [9]) (by kernel_rfl) (by simp) ?_
        refine AllReadyH.cons rfl (fun K hK => ?_) AllReadyH.nil
        have c6 := P5.out.lv.cell (i := 0) rfl; have r6 := P5.out.lv.fr (i := 0)
        obtain ⟨V6, hV6⟩ : ∃ V, V5.setCell ⟨lB, 0, none⟩ (.slice (some ⟨g4, 0, none⟩) m m) = V := ⟨_, rfl⟩
        go_simp
        have P6 : Hid (PQ w V6 gB wB dB lB m n cap k uc a ua (.slice (some ⟨g2, 0, none⟩) m m) (.slice (some ⟨g4, 0, none⟩) m m)) := by show PQ _ _ _ _ _ _ _ _ _ _ _ _ _ _ _; rw [← hV6]; exact P5.out.setl _
        have M6 := Lib.hid (by rw [← hV6]; exact M5.out.same (Below.heap_setCell _ _ _ _ (by have q := NE4.out; show _ ≠ lB; omega)) : Nums V6 g2 m m (List.replicate m INF))
        have Q6 := Lib.hid (by rw [← hV6]; exact Q5.out.same (Below.heap_setCell _ _ _ _ (by have q := NE4.out; show _ ≠ lB; omega)) : Nums V6 g4 m m (List.replicate m (-1)))
        refine hK.out _ _ ⟨⟨_, _, P6.out⟩, P6.out.g.cell (i := 0) rfl⟩ (fun hHeld2 => ?_)
        clear hK K hHeld; have hHeld := hHeld2; clear hHeld2
        clear c6 r6
        refine wpAnyH_done (by kernel_rfl) ?_ _
        clear hHeld
        go_wp2_with fail
        go_meet
        exact ⟨g2, g4, P6.out, M6.out, Q6.out, NE4.out.1, NE4.out.2⟩
      · obtain ⟨x7, hx7⟩ : ∃ x, V1.heap.size = x := ⟨_, rfl⟩
        obtain ⟨V7, hV7⟩ : ∃ V, V1.alloc (.cells #[.int .i64 (-1)] 3) = V := ⟨_, rfl⟩
        have b7 : Below V1.heap.size V1 V7 := by rw [← hV7]; exact below_al _ _
        have X7 : Hid (V7.cell? ⟨x7, 0, none⟩ = some (.int .i64 (-1))) := by show _ = _; rw [← hV7, ← hx7]; exact (Row.new _ _ [.int .i64 (-1)]).cell (i := 0) rfl
        go_simp
        have P7 := Lib.hid (P1.out.below b7)
        have Y7 : Hid (V7.cell? ⟨x1, 0, none⟩ = some (.int .i64 1152921504606846976)) := by show _ = _; rw [b7.cell (cell_lt X1.out)]; exact X1.out
        clear b7
        refine hK.out _ _ ⟨⟨_, _, P7.out⟩, P7.out.g.cell (i := 0) rfl⟩ (fun hHeld2 => ?_)
        clear hK K hHeld; have hHeld := hHeld2; clear hHeld2
        clear hV7
        refine wpAnyH_ready (rs := [3]) (by kernel_rfl) (by simp) ?_
        refine AllReadyH.cons rfl (fun K hK => ?_) AllReadyH.nil
        have cx8 := Y7.out
        go_simp
        go_wp2_with (go_at_call 29; (refine (repeat_anyI HM.out cx8).mono ?_); rintro en V8 ⟨rfl, a8, b8, z8⟩)
        have N8 := Lib.hid (nums_rep a8)
        obtain ⟨g8, hg8⟩ : ∃ g, V7.heap.size = g := ⟨_, rfl⟩
        rw [hg8] at N8
        have LT8 : Hid (gB < g8 ∧ wB < g8 ∧ dB < g8 ∧ lB < g8) := by have q := P7.out; have q1 := q.g.lt; have q2 := q.ww.lt; have q3 := q.dv.lt; have q4 := q.lv.lt; rw [hg8] at q1 q2 q3 q4; exact ⟨q1, q2, q3, q4⟩
        rw [hg8]
        clear cx8 a8
        have SZ8 : Hid (g8 < V8.heap.size) := by show _ < _; rw [← hg8]; exact z8
        have P8 := Lib.hid (P7.out.below b8)
        have Y8 : Hid (V8.cell? ⟨x7, 0, none⟩ = some (.int .i64 (-1))) := by show _ = _; rw [b8.cell (cell_lt X7.out)]; exact X7.out
        clear b8
        refine hK.out _ _ ⟨⟨_, _, P8.out⟩, P8.out.g.cell (i := 0) rfl⟩ (fun hHeld2 => ?_)
        clear hK K hHeld; have hHeld := hHeld2; clear hHeld2
        refine wpAnyH_ready (rs := [7]) (by kernel_rfl) (by simp) ?_
        refine AllReadyH.cons rfl (fun K hK => ?_) AllReadyH.nil
        have cx9 := Y8.out
        go_simp
        go_wp2_with (go_at_call 29; (refine (repeat_any HM.out cx9).mono ?_); rintro en V9 ⟨rfl, a9, b9, z9⟩)
        have N9 := Lib.hid (nums_rep a9)
        obtain ⟨g9, hg9⟩ : ∃ g, V8.heap.size = g := ⟨_, rfl⟩
        rw [hg9] at N9
        have LT9 : Hid (gB < g9 ∧ wB < g9 ∧ dB < g9 ∧ lB < g9) := by have q := P8.out; have q1 := q.g.lt; have q2 := q.ww.lt; have q3 := q.dv.lt; have q4 := q.lv.lt; rw [hg9] at q1 q2 q3 q4; exact ⟨q1, q2, q3, q4⟩
        rw [hg9]
        clear cx9 a9
        have NE9 : Hid (g8 ≠ g9 ∧ (gB < g8 ∧ wB < g8 ∧ dB < g8 ∧ lB < g8 ∧ gB < g9 ∧ wB < g9 ∧ dB < g9 ∧ lB < g9)) := by
          have q := N8.out.lt; rw [hg9] at q; have p1 := LT8.out; have p2 := LT9.out; exact ⟨by omega, p1.1, p1.2.1, p1.2.2.1, p1.2.2.2, p2⟩
        have P9 := Lib.hid (P8.out.below b9)
        have U9 := Lib.hid (N8.out.same (b9.block _ N8.out.lt))
        clear b9
        refine hK.out _ _ ⟨⟨_, _, P9.out⟩, P9.out.g.cell (i := 0) rfl⟩ (fun hHeld2 => ?_)
        clear hK K hHeld; have hHeld := hHeld2; clear hHeld2
        refine wpAnyH_ready (rs := [8]) (by kernel_rfl) (by simp) ?_
        refine AllReadyH.cons rfl (fun K hK => ?_) AllReadyH.nil
        have c10 := P9.out.dv.cell (i := 0) rfl; have r10 := P9.out.dv.fr (i := 0)
        obtain ⟨V10, hV10⟩ : ∃ V, V9.setCell ⟨dB, 0, none⟩ (.slice (some ⟨g8, 0, none⟩) m m) = V := ⟨_, rfl⟩
        go_simp
        have P10 : Hid (PQ w V10 gB wB dB lB m n cap k uc a ua (.slice (some ⟨g8, 0, none⟩) m m) (.slice none 0 0)) := by show PQ _ _ _ _ _ _ _ _ _ _ _ _ _ _ _; rw [← hV10]; exact P9.out.setd _
        have M10 := Lib.hid (by rw [← hV10]; exact U9.out.same (Below.heap_setCell _ _ _ _ (by have q := NE9.out; show _ ≠ dB; omega)) : Nums V10 g8 m m (List.replicate m INF))
        have Q10 := Lib.hid (by rw [← hV10]; exact N9.out.same (Below.heap_setCell _ _ _ _ (by have q := NE9.out; show _ ≠ dB; omega)) : Nums V10 g9 m m (List.replicate m (-1)))
        refine hK.out _ _ ⟨⟨_, _, P10.out⟩, P10.out.g.cell (i := 0) rfl⟩ (fun hHeld2 => ?_)
        clear hK K hHeld; have hHeld := hHeld2; clear hHeld2
        clear c10 r10
        refine wpAnyH_ready (rs := [9]) (by kernel_rfl) (by simp) ?_
        refine AllReadyH.cons rfl (fun K hK => ?_) AllReadyH.nil
        have c11 := P10.out.lv.cell (i := 0) rfl; have r11 := P10.out.lv.fr (i := 0)
        obtain ⟨V11, hV11⟩ : ∃ V, V10.setCell ⟨lB, 0, none⟩ (.slice (some ⟨g9, 0, none⟩) m m) = V := ⟨_, rfl⟩
        go_simp
        have P11 : Hid (PQ w V11 gB wB dB lB m n cap k uc a ua (.slice (some ⟨g8, 0, none⟩) m m) (.slice (some ⟨g9, 0, none⟩) m m)) := by show PQ _ _ _ _ _ _ _ _ _ _ _ _ _ _ _; rw [← hV11]; exact P10.out.setl _
        have M11 := Lib.hid (by rw [← hV11]; exact M10.out.same (Below.heap_setCell _ _ _ _ (by have q := NE9.out; show _ ≠ lB; omega)) : Nums V11 g8 m m (List.replicate m INF))
        have Q11 := Lib.hid (by rw [← hV11]; exact Q10.out.same (Below.heap_setCell _ _ _ _ (by have q := NE9.out; show _ ≠ lB; omega)) : Nums V11 g9 m m (List.replicate m (-1)))
        refine hK.out _ _ ⟨⟨_, _, P11.out⟩, P11.out.g.cell (i := 0) rfl⟩ (fun hHeld2 => ?_)
        clear hK K hHeld; have hHeld := hHeld2; clear hHeld2
        clear c11 r11
        refine wpAnyH_done (by kernel_rfl) ?_ _
        clear hHeld
        go_wp2_with fail
        go_meet
        exact ⟨g8, g9, P11.out, M11.out, Q11.out, NE9.out.1, NE9.out.2⟩
    · obtain ⟨x12, hx12⟩ : ∃ x, wd.heap.size = x := ⟨_, rfl⟩
      obtain ⟨V12, hV12⟩ : ∃ V, wd.alloc (.cells #[.int .i64 (-1)] 3) = V := ⟨_, rfl⟩
      have b12 : Below wd.heap.size wd V12 := by rw [← hV12]; exact below_al _ _
      have X12 : Hid (V12.cell? ⟨x12, 0, none⟩ = some (.int .i64 (-1))) := by show _ = _; rw [← hV12, ← hx12]; exact (Row.new _ _ [.int .i64 (-1)]).cell (i := 0) rfl
      go_simp
      have P12 := Lib.hid (P0.out.below b12)
      clear b12
      refine hK.out _ _ ⟨⟨_, _, P12.out⟩, P12.out.g.cell (i := 0) rfl⟩ (fun hHeld2 => ?_)
      clear hK K hHeld; have hHeld := hHeld2; clear hHeld2
      clear hV12
      refine wpAnyH_ready (rs := [0]) (by kernel_rfl) (by simp) ?_
      refine AllReadyH.cons rfl (fun K hK => ?_) AllReadyH.nil
      obtain ⟨x13, hx13⟩ : ∃ x, V12.heap.size = x := ⟨_, rfl⟩
      obtain ⟨V13, hV13⟩ : ∃ V, V12.alloc (.cells #[.int .i64 1152921504606846976] 3) = V := ⟨_, rfl⟩
      have b13 : Below V12.heap.size V12 V13 := by rw [← hV13]; exact below_al _ _
      have X13 : Hid (V13.cell? ⟨x13, 0, none⟩ = some (.int .i64 1152921504606846976)) := by show _ = _; rw [← hV13, ← hx13]; exact (Row.new _ _ [.int .i64 1152921504606846976]).cell (i := 0) rfl
      go_simp
      have P13 := Lib.hid (P12.out.below b13)
      have Y13 : Hid (V13.cell? ⟨x12, 0, none⟩ = some (.int .i64 (-1))) := by show _ = _; rw [b13.cell (cell_lt X12.out)]; exact X12.out
      clear b13
      refine hK.out _ _ ⟨⟨_, _, P13.out⟩, P13.out.g.cell (i := 0) rfl⟩ (fun hHeld2 => ?_)
      clear hK K hHeld; have hHeld := hHeld2; clear hHeld2
      clear hV13
      refine wpAnyH_ready (rs := [3]) (by kernel_rfl) (by simp) ?_
      refine AllReadyH.cons rfl (fun K hK => ?_) AllReadyH.nil
      have cx14 := X13.out
      go_simp
      go_wp2_with (go_at_call 29; (refine (repeat_anyI HM.out cx14).mono ?_); rintro en V14 ⟨rfl, a14, b14, z14⟩)
      have N14 := Lib.hid (nums_rep a14)
      obtain ⟨g14, hg14⟩ : ∃ g, V13.heap.size = g := ⟨_, rfl⟩
      rw [hg14] at N14
      have LT14 : Hid (gB < g14 ∧ wB < g14 ∧ dB < g14 ∧ lB < g14) := by have q := P13.out; have q1 := q.g.lt; have q2 := q.ww.lt; have q3 := q.dv.lt; have q4 := q.lv.lt; rw [hg14] at q1 q2 q3 q4; exact ⟨q1, q2, q3, q4⟩
      rw [hg14]
      clear cx14 a14
      have SZ14 : Hid (g14 < V14.heap.size) := by show _ < _; rw [← hg14]; exact z14
      have P14 := Lib.hid (P13.out.below b14)
      have Y14 : Hid (V14.cell? ⟨x12, 0, none⟩ = some (.int .i64 (-1))) := by show _ = _; rw [b14.cell (cell_lt Y13.out)]; exact Y13.out
      clear b14
      refine hK.out _ _ ⟨⟨_, _, P14.out⟩, P14.out.g.cell (i := 0) rfl⟩ (fun hHeld2 => ?_)
      clear hK K hHeld; have hHeld := hHeld2; clear hHeld2
      refine wpAnyH_ready (rs := [7]) (by kernel_rfl) (by simp) ?_
      refine AllReadyH.cons rfl (fun K hK => ?_) AllReadyH.nil
      have cx15 := Y14.out
      go_simp
      go_wp2_with (go_at_call 29; (refine (repeat_any HM.out cx15).mono ?_); rintro en V15 ⟨rfl, a15, b15, z15⟩)
      have N15 := Lib.hid (nums_rep a15)
      obtain ⟨g15, hg15⟩ : ∃ g, V14.heap.size = g := ⟨_, rfl⟩
      rw [hg15] at N15
      have LT15 : Hid (gB < g15 ∧ wB < g15 ∧ dB < g15 ∧ lB < g15) := by have q := P14.out; have q1 := q.g.lt; have q2 := q.ww.lt; have q3 := q.dv.lt; have q4 := q.lv.lt; rw [hg15] at q1 q2 q3 q4; exact ⟨q1, q2, q3, q4⟩
      rw [hg15]
      clear cx15 a15
      have NE15 : Hid (g14 ≠ g15 ∧ (gB < g14 ∧ wB < g14 ∧ dB < g14 ∧ lB < g14 ∧ gB < g15 ∧ wB < g15 ∧ dB < g15 ∧ lB < g15)) := by
        have q := N14.out.lt; rw [hg15] at q; have p1 := LT14.out; have p2 := LT15.out; exact ⟨by omega, p1.1, p1.2.1, p1.2.2.1, p1.2.2.2, p2⟩
      have P15 := Lib.hid (P14.out.below b15)
      have U15 := Lib.hid (N14.out.same (b15.block _ N14.out.lt))
      clear b15
      refine hK.out _ _ ⟨⟨_, _, P15.out⟩, P15.out.g.cell (i := 0) rfl⟩ (fun hHeld2 => ?_)
      clear hK K hHeld; have hHeld := hHeld2; clear hHeld2
      refine wpAnyH_ready (rs := [8]) (by kernel_rfl) (by simp) ?_
      refine AllReadyH.cons rfl (fun K hK => ?_) AllReadyH.nil
      have c16 := P15.out.dv.cell (i := 0) rfl; have r16 := P15.out.dv.fr (i := 0)
      obtain ⟨V16, hV16⟩ : ∃ V, V15.setCell ⟨dB, 0, none⟩ (.slice (some ⟨g14, 0, none⟩) m m) = V := ⟨_, rfl⟩
      go_simp
      have P16 : Hid (PQ w V16 gB wB dB lB m n cap k uc a ua (.slice (some ⟨g14, 0, none⟩) m m) (.slice none 0 0)) := by show PQ _ _ _ _ _ _ _ _ _ _ _ _ _ _ _; rw [← hV16]; exact P15.out.setd _
      have M16 := Lib.hid (by rw [← hV16]; exact U15.out.same (Below.heap_setCell _ _ _ _ (by have q := NE15.out; show _ ≠ dB; omega)) : Nums V16 g14 m m (List.replicate m INF))
      have Q16 := Lib.hid (by rw [← hV16]; exact N15.out.same (Below.heap_setCell _ _ _ _ (by have q := NE15.out; show _ ≠ dB; omega)) : Nums V16 g15 m m (List.replicate m (-1)))
      refine hK.out _ _ ⟨⟨_, _, P16.out⟩, P16.out.g.cell (i := 0) rfl⟩ (fun hHeld2 => ?_)
      clear hK K hHeld; have hHeld := hHeld2; clear hHeld2
      clear c16 r16
      refine wpAnyH_ready (rs := [9]) (by kernel_rfl) (by simp) ?_
      refine AllReadyH.cons rfl (fun K hK => ?_) AllReadyH.nil
      have c17 := P16.out.lv.cell (i := 0) rfl; have r17 := P16.out.lv.fr (i := 0)
      obtain ⟨V17, hV17⟩ : ∃ V, V16.setCell ⟨lB, 0, none⟩ (.slice (some ⟨g15, 0, none⟩) m m) = V := ⟨_, rfl⟩
      go_simp
      have P17 : Hid (PQ w V17 gB wB dB lB m n cap k uc a ua (.slice (some ⟨g14, 0, none⟩) m m) (.slice (some ⟨g15, 0, none⟩) m m)) := by show PQ _ _ _ _ _ _ _ _ _ _ _ _ _ _ _; rw [← hV17]; exact P16.out.setl _
      have M17 := Lib.hid (by rw [← hV17]; exact M16.out.same (Below.heap_setCell _ _ _ _ (by have q := NE15.out; show _ ≠ lB; omega)) : Nums V17 g14 m m (List.replicate m INF))
      have Q17 := Lib.hid (by rw [← hV17]; exact Q16.out.same (Below.heap_setCell _ _ _ _ (by have q := NE15.out; show _ ≠ lB; omega)) : Nums V17 g15 m m (List.replicate m (-1)))
      refine hK.out _ _ ⟨⟨_, _, P17.out⟩, P17.out.g.cell (i := 0) rfl⟩ (fun hHeld2 => ?_)
      clear hK K hHeld; have hHeld := hHeld2; clear hHeld2
      clear c17 r17
      refine wpAnyH_done (by kernel_rfl) ?_ _
      clear hHeld
      go_wp2_with fail
      go_meet
      exact ⟨g14, g15, P17.out, M17.out, Q17.out, NE15.out.1, NE15.out.2⟩
  case rest =>
    obtain ⟨gd, gl, HP⟩ := hcut
    have C30 := Lib.hid (fun W => new_any m HM.out W)
    have C31 : Hid (∀ W, Below w.heap.size w W → Calls Try.prog 31 #[gv (m : Int) (.slice a n cap)] W fun e w' => ∃ u, e = .returned u ∧ RNew W.heap.size w' u m (groups Prod.fst ars n m) ∧ Below W.heap.size W w') := fun W b => by
      have q := out_any (HA.out.below b) HO.out.c
      rw [HN.out] at q; exact q
    go_upto_region 3 with (fail)
    go_cut [8, 9] (fun s8 s9 wx => ∃ (qB qb : Nat) (F : Nat → Prop) (bo tp ob cp : Nat) (vs : List Value), s8 = pt qB ∧ s9 = .slice (some ⟨ob, 0, none⟩) m cp ∧ Hid (SE w wx gB wB dB lB qB gd gl qb m n cap k uc m m a ua F (ds0 m)) ∧ Hid (RW wx bo tp ob m vs (groups Prod.fst ars n m)) ∧ Hid ((∀ j, F j → j < bo) ∧ gd < bo ∧ gl < bo))
    case first =>
      refine wp_region_held_drew (S := fun W => PR w W gB wB dB lB gd gl m n cap k uc a ua ∧ W.cell? ⟨gB, 0, none⟩ = some (.int .i64 (m : Int)) ∧ W.cell? ⟨gB, 1, none⟩ = some (.slice a n cap)) (by kernel_rfl) (by have p := HP.out.below ((Below.refl _ _).drew); exact ⟨p, p.q.g.cell (i := 0) rfl, p.q.g.cell (i := 1) rfl⟩) (fun hHeld => ?_)
      have P0 : Hid (PR w wc.drew gB wB dB lB gd gl m n cap k uc a ua) := HP.out.below ((Below.refl _ _).drew)
      generalize wc.drew = wd at hHeld P0 ⊢
      refine wpAnyH_take (i := 0) (v := ?_) rfl (by kernel_rfl) (by kernel_rfl) (by kernel_rfl) (fun _ _ _ h => h) (Or.inl ⟨by rfl, ?_⟩) (by assumption) ?_
      rotate_left 1
      · (intro w hSw; (try dsimp only at hSw); first | (go_simp; done) | (go_simp; with_reducible rfl))
      simp only [Act.put, List.getElem_toArray, List.getElem_cons_zero, List.setIfInBounds_toArray, List.set_cons_zero, List.set_cons_succ]
      refine wpAnyH_take (i := 1) (v := ?_) rfl (by kernel_rfl) (by kernel_rfl) (by kernel_rfl) (fun _ _ _ h => h) (Or.inl ⟨by rfl, ?_⟩) (by assumption) ?_
      rotate_left 1
      · (intro w hSw; (try dsimp only at hSw); first | (go_simp; done) | (go_simp; with_reducible rfl))
      simp only [Act.put, List.getElem_toArray, List.getElem_cons_zero, List.getElem_cons_succ, List.setIfInBounds_toArray, List.set_cons_zero, List.set_cons_succ]
      refine wpAnyH_take (i := 3) (v := ?_) rfl (by kernel_rfl) (by kernel_rfl) (by kernel_rfl) (fun _ _ _ h => h) (Or.inl ⟨by rfl, ?_⟩) (by assumption) ?_
      rotate_left 1
      · (intro w hSw; (try dsimp only at hSw); first | (go_simp; done) | (go_simp; with_reducible rfl))
      simp only [Act.put, List.getElem_toArray, List.getElem_cons_zero, List.getElem_cons_succ, List.setIfInBounds_toArray, List.set_cons_zero, List.set_cons_succ]
      refine wpAnyH_ready (rs := [2, 5]) (by kernel_rfl) (by simp) ?_
      refine AllReadyH.cons rfl (fun K hK => ?_) (AllReadyH.cons rfl (fun K hK => ?_) AllReadyH.nil)
      · go_simp
        go_wp2_with (go_at_call 30; refine (C30.out _).mono ?_; rintro en V18 ⟨qb18, F18, rfl, q18, b18, f18⟩)
        have Q18 := Lib.hid q18
        have FX18 : Hid (∀ j, F18 j → gd < j ∧ gl < j ∧ gB < j ∧ wB < j ∧ dB < j ∧ lB < j) := fun j hj => by have h1 := f18 j hj; have h2 := P0.out.d.lt; have h3 := P0.out.l.lt; have h4 := P0.out.n2; omega
        clear q18 f18
        have P18 := Lib.hid (P0.out.below b18)
        clear b18
        refine hK.out _ _ ⟨P18.out, P18.out.q.g.cell (i := 0) rfl, P18.out.q.g.cell (i := 1) rfl⟩ (fun hHeld2 => ?_)
        clear hK K hHeld; have hHeld := hHeld2; clear hHeld2
        refine wpAnyH_ready (rs := [4, 5]) (by kernel_rfl) (by simp) ?_
        refine AllReadyH.cons rfl (fun K hK => ?_) (AllReadyH.cons rfl (fun K hK => ?_) AllReadyH.nil)
        · go_simp
          go_wp2_with (go_at_call 31; refine (C31.out _ P18.out.q.b).mono ?_; rintro en V19 ⟨u19, rfl, a19, b19⟩)
          obtain ⟨ob19, vs19, cp19, rfl, rr19⟩ := a19
          obtain ⟨bo19, hbo19⟩ : ∃ bo, V18.heap.size = bo := ⟨_, rfl⟩
          obtain ⟨tp19, hto19⟩ : ∃ tp, V19.heap.size = tp := ⟨_, rfl⟩
          have R19 := Lib.hid (RW.new rr19)
          rw [hbo19, hto19] at R19
          have FO19 : Hid ((∀ j, F18 j → j < bo19) ∧ gd < bo19 ∧ gl < bo19) := by
            have h2 := P18.out.d.lt; have h3 := P18.out.l.lt; rw [hbo19] at h2 h3
            exact ⟨fun j hj => by have h1 := Q18.out.lt _ hj; rw [hbo19] at h1; exact h1, h2, h3⟩
          clear rr19
          clear hbo19 hto19
          have P19 := Lib.hid (P18.out.below b19)
          have Qb19 := Lib.hid (Q18.out.below b19)
          clear b19
          refine hK.out _ _ ⟨P19.out, P19.out.q.g.cell (i := 0) rfl, P19.out.q.g.cell (i := 1) rfl⟩ (fun hHeld2 => ?_)
          clear hK K hHeld; have hHeld := hHeld2; clear hHeld2
          refine wpAnyH_ready (rs := [5]) (by kernel_rfl) (by simp) ?_
          refine AllReadyH.cons rfl (fun K hK => ?_) AllReadyH.nil
          obtain ⟨x20, hx20⟩ : ∃ x, V19.heap.size = x := ⟨_, rfl⟩
          obtain ⟨V20, hV20⟩ : ∃ V, V19.alloc (.cells #[.pointer none] 58) = V := ⟨_, rfl⟩
          have b20 : Below V19.heap.size V19 V20 := by rw [← hV20]; exact below_al _ _
          have X20 : Hid (Row V20 x20 58 [.pointer none]) := by rw [← hV20, ← hx20]; exact Row.new _ _ _
          have HQ20 : Hid (gd < x20 ∧ gl < x20) := by have h2 := P19.out.d.lt; have h3 := P19.out.l.lt; rw [hx20] at h2 h3; exact ⟨h2, h3⟩
          have XO20 : Hid (x20 < bo19 ∨ tp19 ≤ x20) := by have h1 := R19.out.sz; rw [hx20] at h1; exact Or.inr h1
          have FQ20 : Hid (¬ F18 x20) := fun hj => by have h1 := Qb19.out.lt _ hj; omega
          go_simp
          have P20 := Lib.hid (P19.out.below b20)
          have Qb20 := Lib.hid (Qb19.out.below b20)
          have Rb20 := Lib.hid (R19.out.below b20)
          clear b20
          refine hK.out _ _ ⟨P20.out, P20.out.q.g.cell (i := 0) rfl, P20.out.q.g.cell (i := 1) rfl⟩ (fun hHeld2 => ?_)
          clear hK K hHeld; have hHeld := hHeld2; clear hHeld2
          clear hV20
          refine wpAnyH_ready (rs := [6]) (by kernel_rfl) (by simp) ?_
          refine AllReadyH.cons rfl (fun K hK => ?_) AllReadyH.nil
          have c21 := X20.out.cell (i := 0) rfl; have r21 := X20.out.fr (i := 0)
          obtain ⟨V21, hV21⟩ : ∃ V, V20.setCell ⟨x20, 0, none⟩ (qp qb18) = V := ⟨_, rfl⟩
          go_simp
          have ne21 := HQ20.out
          have P21 := Lib.hid (P20.out.other (xq := x20) (x := qp qb18) (by have h4 := P20.out.n2; omega) (by have h4 := P20.out.n2; have h5 := P20.out.q.ne; omega))
          rw [hV21] at P21
          have Q21 := Lib.hid (Qb20.out.frame (FrF.setCell (F := fun j => j = x20) V20 (a := ⟨x20, 0, none⟩) rfl (qp qb18)) (fun j hj e => FQ20.out (e ▸ hj)))
          rw [hV21] at Q21
          have R21 := Lib.hid (Rb20.out.fr (FrF.setCell (F := fun j => j = x20) V20 (a := ⟨x20, 0, none⟩) rfl (qp qb18)) (fun j e => by rw [e]; exact XO20.out))
          rw [hV21] at R21
          have X21 := Lib.hid (X20.out.set (i := 0) (qp qb18))
          rw [hV21] at X21
          refine hK.out _ _ ⟨P21.out, P21.out.q.g.cell (i := 0) rfl, P21.out.q.g.cell (i := 1) rfl⟩ (fun hHeld2 => ?_)
          clear hK K hHeld; have hHeld := hHeld2; clear hHeld2
          clear c21 r21
          refine wpAnyH_take (i := 7) (v := ?_) rfl (by kernel_rfl) (by kernel_rfl) (by kernel_rfl) (fun _ _ _ h => h) (Or.inl ⟨by rfl, ?_⟩) (by assumption) ?_
          rotate_left 1
          · (intro w hSw; (try dsimp only at hSw); first | (go_simp; done) | (go_simp; with_reducible rfl))
          simp only [Act.put, List.getElem_toArray, List.getElem_cons_zero, List.getElem_cons_succ, List.setIfInBounds_toArray, List.set_cons_zero, List.set_cons_succ]
          refine wpAnyH_done (by kernel_rfl) ?_ _
          clear hHeld
          go_wp2_with fail
          go_meet
          exact ⟨x20, qb18, F18, bo19, tp19, ob19, cp19, vs19, rfl, rfl, P21.out.se Q21.out X21.out FX18.out HQ20.out FQ20.out, R21.out, FO19.out⟩
        · obtain ⟨x22, hx22⟩ : ∃ x, V18.heap.size = x := ⟨_, rfl⟩
          obtain ⟨V22, hV22⟩ : ∃ V, V18.alloc (.cells #[.pointer none] 58) = V := ⟨_, rfl⟩
          have b22 : Below V18.heap.size V18 V22 := by rw [← hV22]; exact below_al _ _
          have X22 : Hid (Row V22 x22 58 [.pointer none]) := by rw [← hV22, ← hx22]; exact Row.new _ _ _
          have HQ22 : Hid (gd < x22 ∧ gl < x22) := by have h2 := P18.out.d.lt; have h3 := P18.out.l.lt; rw [hx22] at h2 h3; exact ⟨h2, h3⟩
          have FQ22 : Hid (¬ F18 x22) := fun hj => by have h1 := Q18.out.lt _ hj; omega
          go_simp
          have P22 := Lib.hid (P18.out.below b22)
          have Qb22 := Lib.hid (Q18.out.below b22)
          clear b22
          refine hK.out _ _ ⟨P22.out, P22.out.q.g.cell (i := 0) rfl, P22.out.q.g.cell (i := 1) rfl⟩ (fun hHeld2 => ?_)
          clear hK K hHeld; have hHeld := hHeld2; clear hHeld2
          clear hV22
          refine wpAnyH_ready (rs := [4]) (by kernel_rfl) (by simp) ?_
          refine AllReadyH.cons rfl (fun K hK => ?_) AllReadyH.nil
          go_simp
          go_wp2_with (go_at_call 31; refine (C31.out _ P22.out.q.b).mono ?_; rintro en V23 ⟨u23, rfl, a23, b23⟩)
          obtain ⟨ob23, vs23, cp23, rfl, rr23⟩ := a23
          obtain ⟨bo23, hbo23⟩ : ∃ bo, V22.heap.size = bo := ⟨_, rfl⟩
          obtain ⟨tp23, hto23⟩ : ∃ tp, V23.heap.size = tp := ⟨_, rfl⟩
          have R23 := Lib.hid (RW.new rr23)
          rw [hbo23, hto23] at R23
          have FO23 : Hid ((∀ j, F18 j → j < bo23) ∧ gd < bo23 ∧ gl < bo23) := by
            have h2 := P22.out.d.lt; have h3 := P22.out.l.lt; rw [hbo23] at h2 h3
            exact ⟨fun j hj => by have h1 := Qb22.out.lt _ hj; rw [hbo23] at h1; exact h1, h2, h3⟩
          clear rr23
          have XO23 : Hid (x22 < bo23 ∨ tp23 ≤ x22) := by have h1 := X22.out.lt; rw [hbo23] at h1; exact Or.inl h1
          clear hbo23 hto23
          have P23 := Lib.hid (P22.out.below b23)
          have Qb23 := Lib.hid (Qb22.out.below b23)
          have Xb23 := Lib.hid (X22.out.below b23 X22.out.lt)
          clear b23
          refine hK.out _ _ ⟨P23.out, P23.out.q.g.cell (i := 0) rfl, P23.out.q.g.cell (i := 1) rfl⟩ (fun hHeld2 => ?_)
          clear hK K hHeld; have hHeld := hHeld2; clear hHeld2
          refine wpAnyH_ready (rs := [6]) (by kernel_rfl) (by simp) ?_
          refine AllReadyH.cons rfl (fun K hK => ?_) AllReadyH.nil
          have c24 := Xb23.out.cell (i := 0) rfl; have r24 := Xb23.out.fr (i := 0)
          obtain ⟨V24, hV24⟩ : ∃ V, V23.setCell ⟨x22, 0, none⟩ (qp qb18) = V := ⟨_, rfl⟩
          go_simp
          have ne24 := HQ22.out
          have P24 := Lib.hid (P23.out.other (xq := x22) (x := qp qb18) (by have h4 := P23.out.n2; omega) (by have h4 := P23.out.n2; have h5 := P23.out.q.ne; omega))
          rw [hV24] at P24
          have Q24 := Lib.hid (Qb23.out.frame (FrF.setCell (F := fun j => j = x22) V23 (a := ⟨x22, 0, none⟩) rfl (qp qb18)) (fun j hj e => FQ22.out (e ▸ hj)))
          rw [hV24] at Q24
          have R24 := Lib.hid (R23.out.fr (FrF.setCell (F := fun j => j = x22) V23 (a := ⟨x22, 0, none⟩) rfl (qp qb18)) (fun j e => by rw [e]; exact XO23.out))
          rw [hV24] at R24
          have X24 := Lib.hid (Xb23.out.set (i := 0) (qp qb18))
          rw [hV24] at X24
          refine hK.out _ _ ⟨P24.out, P24.out.q.g.cell (i := 0) rfl, P24.out.q.g.cell (i := 1) rfl⟩ (fun hHeld2 => ?_)
          clear hK K hHeld; have hHeld := hHeld2; clear hHeld2
          clear c24 r24
          refine wpAnyH_take (i := 7) (v := ?_) rfl (by kernel_rfl) (by kernel_rfl) (by kernel_rfl) (fun _ _ _ h => h) (Or.inl ⟨by rfl, ?_⟩) (by assumption) ?_
          rotate_left 1
          · (intro w hSw; (try dsimp only at hSw); first | (go_simp; done) | (go_simp; with_reducible rfl))
          simp only [Act.put, List.getElem_toArray, List.getElem_cons_zero, List.getElem_cons_succ, List.setIfInBounds_toArray, List.set_cons_zero, List.set_cons_succ]
          refine wpAnyH_done (by kernel_rfl) ?_ _
          clear hHeld
          go_wp2_with fail
          go_meet
          exact ⟨x22, qb18, F18, bo23, tp23, ob23, cp23, vs23, rfl, rfl, P24.out.se Q24.out X24.out FX18.out HQ22.out FQ22.out, R24.out, FO23.out⟩
      · obtain ⟨x25, hx25⟩ : ∃ x, wd.heap.size = x := ⟨_, rfl⟩
        obtain ⟨V25, hV25⟩ : ∃ V, wd.alloc (.cells #[.pointer none] 58) = V := ⟨_, rfl⟩
        have b25 : Below wd.heap.size wd V25 := by rw [← hV25]; exact below_al _ _
        have X25 : Hid (Row V25 x25 58 [.pointer none]) := by rw [← hV25, ← hx25]; exact Row.new _ _ _
        have HQ25 : Hid (gd < x25 ∧ gl < x25) := by have h2 := P0.out.d.lt; have h3 := P0.out.l.lt; rw [hx25] at h2 h3; exact ⟨h2, h3⟩
        go_simp
        have P25 := Lib.hid (P0.out.below b25)
        clear b25
        refine hK.out _ _ ⟨P25.out, P25.out.q.g.cell (i := 0) rfl, P25.out.q.g.cell (i := 1) rfl⟩ (fun hHeld2 => ?_)
        clear hK K hHeld; have hHeld := hHeld2; clear hHeld2
        clear hV25
        refine wpAnyH_ready (rs := [2]) (by kernel_rfl) (by simp) ?_
        refine AllReadyH.cons rfl (fun K hK => ?_) AllReadyH.nil
        go_simp
        go_wp2_with (go_at_call 30; refine (C30.out _).mono ?_; rintro en V26 ⟨qb26, F26, rfl, q26, b26, f26⟩)
        have Q26 := Lib.hid q26
        have FX26 : Hid (∀ j, F26 j → gd < j ∧ gl < j ∧ gB < j ∧ wB < j ∧ dB < j ∧ lB < j) := fun j hj => by have h1 := f26 j hj; have h2 := P25.out.d.lt; have h3 := P25.out.l.lt; have h4 := P25.out.n2; omega
        have FQ26 : Hid (¬ F26 x25) := fun hj => by have h1 := f26 _ hj; have h2 := X25.out.lt; omega
        clear q26 f26
        have P26 := Lib.hid (P25.out.below b26)
        have Xb26 := Lib.hid (X25.out.below b26 X25.out.lt)
        clear b26
        refine hK.out _ _ ⟨P26.out, P26.out.q.g.cell (i := 0) rfl, P26.out.q.g.cell (i := 1) rfl⟩ (fun hHeld2 => ?_)
        clear hK K hHeld; have hHeld := hHeld2; clear hHeld2
        refine wpAnyH_ready (rs := [4]) (by kernel_rfl) (by simp) ?_
        refine AllReadyH.cons rfl (fun K hK => ?_) AllReadyH.nil
        go_simp
        go_wp2_with (go_at_call 31; refine (C31.out _ P26.out.q.b).mono ?_; rintro en V27 ⟨u27, rfl, a27, b27⟩)
        obtain ⟨ob27, vs27, cp27, rfl, rr27⟩ := a27
        obtain ⟨bo27, hbo27⟩ : ∃ bo, V26.heap.size = bo := ⟨_, rfl⟩
        obtain ⟨tp27, hto27⟩ : ∃ tp, V27.heap.size = tp := ⟨_, rfl⟩
        have R27 := Lib.hid (RW.new rr27)
        rw [hbo27, hto27] at R27
        have FO27 : Hid ((∀ j, F26 j → j < bo27) ∧ gd < bo27 ∧ gl < bo27) := by
          have h2 := P26.out.d.lt; have h3 := P26.out.l.lt; rw [hbo27] at h2 h3
          exact ⟨fun j hj => by have h1 := Q26.out.lt _ hj; rw [hbo27] at h1; exact h1, h2, h3⟩
        clear rr27
        have XO27 : Hid (x25 < bo27 ∨ tp27 ≤ x25) := by have h1 := Xb26.out.lt; rw [hbo27] at h1; exact Or.inl h1
        clear hbo27 hto27
        have P27 := Lib.hid (P26.out.below b27)
        have Qb27 := Lib.hid (Q26.out.below b27)
        have Xb27 := Lib.hid (Xb26.out.below b27 Xb26.out.lt)
        clear b27
        refine hK.out _ _ ⟨P27.out, P27.out.q.g.cell (i := 0) rfl, P27.out.q.g.cell (i := 1) rfl⟩ (fun hHeld2 => ?_)
        clear hK K hHeld; have hHeld := hHeld2; clear hHeld2
        refine wpAnyH_ready (rs := [6]) (by kernel_rfl) (by simp) ?_
        refine AllReadyH.cons rfl (fun K hK => ?_) AllReadyH.nil
        have c28 := Xb27.out.cell (i := 0) rfl; have r28 := Xb27.out.fr (i := 0)
        obtain ⟨V28, hV28⟩ : ∃ V, V27.setCell ⟨x25, 0, none⟩ (qp qb26) = V := ⟨_, rfl⟩
        go_simp
        have ne28 := HQ25.out
        have P28 := Lib.hid (P27.out.other (xq := x25) (x := qp qb26) (by have h4 := P27.out.n2; omega) (by have h4 := P27.out.n2; have h5 := P27.out.q.ne; omega))
        rw [hV28] at P28
        have Q28 := Lib.hid (Qb27.out.frame (FrF.setCell (F := fun j => j = x25) V27 (a := ⟨x25, 0, none⟩) rfl (qp qb26)) (fun j hj e => FQ26.out (e ▸ hj)))
        rw [hV28] at Q28
        have R28 := Lib.hid (R27.out.fr (FrF.setCell (F := fun j => j = x25) V27 (a := ⟨x25, 0, none⟩) rfl (qp qb26)) (fun j e => by rw [e]; exact XO27.out))
        rw [hV28] at R28
        have X28 := Lib.hid (Xb27.out.set (i := 0) (qp qb26))
        rw [hV28] at X28
        refine hK.out _ _ ⟨P28.out, P28.out.q.g.cell (i := 0) rfl, P28.out.q.g.cell (i := 1) rfl⟩ (fun hHeld2 => ?_)
        clear hK K hHeld; have hHeld := hHeld2; clear hHeld2
        clear c28 r28
        refine wpAnyH_take (i := 7) (v := ?_) rfl (by kernel_rfl) (by kernel_rfl) (by kernel_rfl) (fun _ _ _ h => h) (Or.inl ⟨by rfl, ?_⟩) (by assumption) ?_
        rotate_left 1
        · (intro w hSw; (try dsimp only at hSw); first | (go_simp; done) | (go_simp; with_reducible rfl))
        simp only [Act.put, List.getElem_toArray, List.getElem_cons_zero, List.getElem_cons_succ, List.setIfInBounds_toArray, List.set_cons_zero, List.set_cons_succ]
        refine wpAnyH_done (by kernel_rfl) ?_ _
        clear hHeld
        go_wp2_with fail
        go_meet
        exact ⟨x25, qb26, F26, bo27, tp27, ob27, cp27, vs27, rfl, rfl, P28.out.se Q28.out X28.out FX26.out HQ25.out FQ26.out, R28.out, FO27.out⟩
    case rest =>
      obtain ⟨qB, qb, F, bo, tp, ob, cp, vs, rfl, rfl, HE, HR, HF⟩ := hcut
      have dv0 := HE.out.dv.cell (i := 0) rfl; have qv0 := HE.out.qv.cell (i := 0) rfl
      obtain ⟨ds0', df0⟩ := HE.out.d.at_ HS.out
      obtain ⟨e0, he0⟩ : ∃ e0, (ds0 m).d.getD s 0 = e0 := ⟨_, rfl⟩
      rw [he0] at ds0'
      obtain ⟨Ws, hWs⟩ : ∃ Ws, wc.setCell ⟨gd, s, none⟩ (.int .i64 0) = Ws := ⟨_, rfl⟩
      have hE1 := HE.out.setD s 0
      rw [hWs] at hE1
      have hR1 := HR.out.fr (FrF.setCell (F := fun j => j = gd) wc (a := ⟨gd, s, none⟩) rfl (.int .i64 0)) (fun j e => by rw [e]; exact Or.inl HF.out.2.1)
      rw [hWs] at hR1
      have E1 := Lib.hid hE1; have R1 := Lib.hid hR1
      have dv1 := hE1.dv.cell (i := 0) rfl; have qv1 := hE1.qv.cell (i := 0) rfl
      have s0 : (0 : Int) ≤ (s : Int) := by omega
      have sl : (s : Int) < (m : Int) := by have := HS.out; omega
      clear hE1 hR1 he0
      go_wp2_with fail
      refine (set_qi E1.out.q (X := s) (by show s < (List.replicate m false).length; rw [List.length_replicate]; exact HS.out) 0).mono ?_; rintro e w2 ⟨rfl, F2, q2, f2, g2⟩
      have E2 := Lib.hid (E1.out.queue q2 f2 g2)
      have R2 := Lib.hid (R1.out.fr f2 (fun j hj => Or.inl (HF.out.1 j hj)))
      have F2o : Hid (∀ j, F2 j → j < bo ∨ tp ≤ j) := fun j hj => by
        rcases g2 j hj with h | h
        · exact Or.inl (HF.out.1 j h)
        · exact Or.inr (Nat.le_trans R1.out.sz h)
      clear q2 f2 g2 dv0 qv0 dv1 qv1 ds0' df0 hWs
      have E3 : Hid (SE w w2 gB wB dB lB qB gd gl qb m n cap k uc m m a ua F2 (st0 m s (List.replicate m 0))) := E2.out
      clear E1 R1 E2
      go_wp2_with fail
      go_loopg [12] (m + 1) (fun gk _ wr => ∃ (st : DS) (ps : List Nat) (K : Int) (rk : Nat → Nat) (T : Nat → Prop) (F : Nat → Prop), Hid (gk + ps.length = m + 1) ∧ Hid (SE w wr gB wB dB lB qB gd gl qb m n cap k uc m m a ua F st) ∧ Hid (Dj ars ws m s st ps K rk T) ∧ Hid (∀ i u v : Nat, i < ars.length → ars.getD i (0, 0) = ((u : Int), (v : Int)) → u ∈ ps → T i) ∧ Hid (RW wr bo tp ob m vs (groups Prod.fst ars n m)) ∧ Hid (∀ j, F j → j < bo ∨ tp ≤ j))
      case atStart => exact ⟨_, [], 0, _, _, F2, rfl, E3, dj_start HS.out (by simp), fun i u v _ _ h => (List.not_mem_nil h).elim, R2, F2o⟩
      case round =>
        clear E3 R2 F2o
        obtain ⟨st, ps, K, rk, T, F3, HG, E4, D4, CV, R4, FO4⟩ := hrel
        have qv0 := E4.out.qv.cell (i := 0) rfl
        by_cases hc : st.ins.count true = 0
        · have FIN : Hid (SR ars ws m s st.d st.la) := dj_done HO.out.arc D4.out CV.out (fun v hv => by
            have h : st.ins.getD v false ≠ true := fun h => by
              have hm : true ∈ st.ins := by
                have hv' : v < st.ins.length := by rw [D4.out.il]; exact hv
                rw [List.getD, List.getElem?_eq_getElem hv', Option.getD_some] at h
                rw [← h]; exact List.getElem_mem hv'
              have := List.count_pos_iff.2 hm; omega
            simpa using h)
          obtain ⟨W5, hW5⟩ : ∃ W5, wr.alloc (.cells #[.int .i64 0, .int .i64 0] 65) = W5 := ⟨_, rfl⟩
          have b5 : Below wr.heap.size wr W5 := by rw [← hW5]; exact below_al _ _
          have hE5 := E4.out.below b5
          have E5 := Lib.hid hE5
          have dv5 := hE5.dv.cell (i := 0) rfl; have lv5 := hE5.lv.cell (i := 0) rfl
          have df5 := hE5.dv.fr (i := 0); have lf5 := hE5.lv.fr (i := 0)
          have sd5 := same_set (i := 0) hE5.dv rfl; have sl5 := same_set (i := 0) hE5.lv rfl
          have v5 : Row W5 wr.heap.size 65 [.int .i64 0, .int .i64 0] := by rw [← hW5]; exact Row.new _ _ _
          have v50 := v5.cell (i := 0) rfl; have v51 := v5.cell (i := 1) rfl; have v5f := v5.fr (i := 0); have v5g := v5.fr (i := 1)
          have v5s := same_set (i := 0) v5 rfl; have v5t := same_set (i := 1) v5 rfl
          clear v5
          have NX := Lib.hid (next_no E4.out.q hc)
          clear hE5 b5 hc D4 CV R4
          go_wp2_with fail
          refine NX.out.mono ?_; rintro e w3 ⟨rfl, rfl⟩
          have TA := ta_no
          go_wp2_with fail
          go_region
          all_goals
            go_wp2_with fail
            exact bodyPost_ret (v := .tuple #[.slice (some ⟨gd, 0, none⟩) m m, .slice (some ⟨gl, 0, none⟩) m m]) (by simp [results, Try.results23, go_sem, dv5, lv5]) rfl ⟨_, _, st.d, st.la, rfl, FIN.out, (E5.out.d.same rfl).ints, (E5.out.l.same rfl).ints, E5.out.b.drew⟩
        · have NX := Lib.hid (next_yes E4.out.q (by omega))
          clear hc
          go_wp2_with fail
          refine NX.out.mono ?_; rintro e w3 ⟨X, kx, hL, hk, rfl, q3, f3⟩
          clear NX
          have hX : X < m := by have := hL.lt; rw [D4.out.il] at this; exact this
          have hkx : st.d.getD X 0 = kx := by rw [hk]; exact ((D4.out.ky X hX hL.mem).1).symm
          have E5 := Lib.hid (E4.out.queue q3 f3 (fun j hj => Or.inl hj))
          have R5 := Lib.hid (R4.out.fr f3 FO4.out)
          have D5 := Lib.hid (dj_pop D4.out hX hL.mem (fun v hv hin => by
            have h := hL.min v (by rw [D4.out.il]; exact hv) hin
            unfold leK bfr at h; simp only [decide_eq_true_eq] at h; omega))
          have HXN : Hid (X ∉ ps) := ((D4.out.q X hX).1 hL.mem).2
          rw [hkx] at D5
          have HX := Lib.hid hX; have HKX := Lib.hid hkx
          clear hL hk q3 f3 hkx hX qv0
          obtain ⟨vB, hvB⟩ : ∃ vB, w3.heap.size = vB := ⟨_, rfl⟩
          obtain ⟨W6, hW6⟩ : ∃ W6, w3.alloc (.cells #[.int .i64 (X : Int), .int .i64 kx] 65) = W6 := ⟨_, rfl⟩
          have b6 : Below w3.heap.size w3 W6 := by rw [← hW6]; exact below_al _ _
          have v6 : Row W6 vB 65 [.int .i64 (X : Int), .int .i64 kx] := by rw [← hW6, ← hvB]; exact Row.new _ _ _
          have NVB : Hid (¬ F3 vB ∧ vB ≠ gd ∧ vB ≠ gl) := ⟨fun h => by have := E5.out.q.lt _ h; omega, by have := E5.out.d.lt; omega, by have := E5.out.l.lt; omega⟩
          have E6 := Lib.hid (E5.out.below b6); have R6 := Lib.hid (R5.out.below b6); have V6 := Lib.hid v6
          obtain ⟨ra, rc, hrv⟩ := (R6.out.rr.i X HX.out).form
          rw [groups_get HX.out] at hrv
          obtain ⟨rl, hrl⟩ : ∃ rl, (ends Prod.fst ars n X).length = rl := ⟨_, rfl⟩
          have RLB : Hid (rl ≤ 4194304) := by have h1 := ends_len Prod.fst ars n X; have h2 := HO.out.size.2; have h3 := HN.out; show rl ≤ _; omega
          rw [hrl] at hrv
          have cr := R6.out.rr.cell HX.out
          rw [hrv] at cr
          have x0 := v6.cell (i := 0) rfl; have x1 := v6.cell (i := 1) rfl
          have HRV := Lib.hid hrv; have HRL := Lib.hid hrl
          have X0 : (0 : Int) ≤ (X : Int) := by omega
          have Xl : (X : Int) < (m : Int) := by have := HX.out; omega
          have D6 : Hid (Dj ars ws m s ⟨st.d, st.la, st.ins.set X false, st.ks⟩ (ps ++ [X]) kx (fun v => if v = X then ps.length else rk v) (fun i => T i ∨ ∃ j, j < 0 ∧ (ends Prod.fst ars n X).getD j 0 = (i : Int))) := D5.out.weak (fun i _ h => by rcases h with h | ⟨j, hj, _⟩; exact h; omega)
          clear b6 v6 hrv hrl E4 E5 R4 R5 D5
          have TA := ta_yes
          go_wp2_with fail
          clear cr x0 x1 hW6
          go_loopw [51] (fun s51 wr => ∃ (j : Nat) (st : DS) (F : Nat → Prop), j ≤ rl ∧ s51 = .int .i64 (j : Int) ∧ Hid (SE w wr gB wB dB lB qB gd gl qb m n cap k uc m m a ua F st) ∧ Hid (Dj ars ws m s st (ps ++ [X]) kx (fun v => if v = X then ps.length else rk v) (fun i => T i ∨ ∃ j', j' < j ∧ (ends Prod.fst ars n X).getD j' 0 = (i : Int)) ∧ st.d.getD X 0 = kx) ∧ Hid (RW wr bo tp ob m vs (groups Prod.fst ars n m)) ∧ Hid (∀ j, F j → j < bo ∨ tp ≤ j) ∧ Hid (Row wr vB 65 [.int .i64 (X : Int), .int .i64 kx] ∧ ¬ F vB)) (fun s51 _ => rl - (intOf s51).toNat)
          case atStart => exact ⟨0, _, F3, Nat.zero_le _, rfl, E6, ⟨D6.out, HKX.out⟩, R6, FO4, ⟨V6.out, NVB.out.1⟩⟩
          case round =>
            clear E6 D6 R6 FO4 V6
            obtain ⟨j, st', F4, hj, rfl, E7, D7, R7, FO7, V7⟩ := hrel
            by_cases hjl : j < rl
            · obtain ⟨z, hz, hzn, hzx⟩ := (ends_mem Prod.fst ars n X ((ends Prod.fst ars n X).getD j 0)).1 (getD_mem' (by rw [HRL.out]; exact hjl))
              have hrow := IntsAt.of_row (R7.out.rr.i X HX.out)
              rw [groups_get HX.out, HRV.out] at hrow
              obtain ⟨rb, ro, hra, c0⟩ := hrow.at (k := j) (by rw [HRL.out]; exact hjl)
              subst hra
              rw [hz] at c0
              have hzl : z < ars.length := by rw [HN.out]; exact hzn
              obtain ⟨p, y, exy, hp, hy⟩ := arc_nat HO.out.arc hzl
              rw [exy] at hzx
              dsimp only at hzx
              have epX : p = X := by omega
              subst epX
              have x0 := V7.out.1.cell (i := 0) rfl; have x1 := V7.out.1.cell (i := 1) rfl
              obtain ⟨d1, d2⟩ := D7.out
              have hXp : p ∈ ps ++ [p] := List.mem_append_right _ (List.mem_singleton.2 rfl)
              have hpm := d1.pm p hXp
              rw [d2] at hpm
              have hk0 : 0 ≤ kx := by have h := d1.rx.nonneg HX.out; rw [d2] at h; exact h
              have RX := Lib.hid (relax_any E7.out HA.out HU.out HO.out HN.out HK.out d1.il (i := z) hzn hk0 (Int.le_of_lt hpm.2.1))
              have dd : Dj ars ws m s st' (ps ++ [p]) (st'.d.getD p 0) (fun v => if v = p then ps.length else rk v) (fun i => T i ∨ ∃ j', j' < j ∧ (ends Prod.fst ars n p).getD j' 0 = (i : Int)) := by rw [d2]; exact d1
              obtain ⟨r1, r2⟩ := dj_relax dd hXp hzl exy hy (HO.out.w z (by rw [HO.out.l]; exact hzl)).1
              rw [r2] at r1
              rw [d2] at r1 r2
              have D8 : Hid (Dj ars ws m s (rlx ars ws z kx st') (ps ++ [p]) kx (fun v => if v = p then ps.length else rk v) (fun i => T i ∨ ∃ j', j' < j + 1 ∧ (ends Prod.fst ars n p).getD j' 0 = (i : Int)) ∧ (rlx ars ws z kx st').d.getD p 0 = kx) := ⟨r1.weak (fun i _ h => by
                rcases h with h | ⟨j', h1, h2⟩
                · exact Or.inl (Or.inl h)
                · by_cases e : j' = j
                  · rw [e, hz] at h2; exact Or.inr (by omega)
                  · exact Or.inl (Or.inr ⟨j', by omega, h2⟩)), r2⟩
              obtain ⟨j1, hj1⟩ : ∃ j1, j + 1 = j1 := ⟨_, rfl⟩
              rw [hj1] at D8
              have HJ := Lib.hid hj1; have HJL := Lib.hid hjl
              have j0 : (0 : Int) ≤ (j : Int) := by omega
              have jl : (j : Int) < (rl : Int) := by omega
              have e1 : (j : Int) + 1 = (j1 : Int) := by omega
              have e2 : IntKind.i64.wrap (j1 : Int) = (j1 : Int) := by rw [IntKind.wrap_i64]; have := RLB.out; omega
              clear hz hzn hzx hrow hzl exy hp hy d1 d2 hXp hpm hk0 dd r1 r2 hj1 hjl hj D7
              go_wp2_with fail
              refine RX.out.mono ?_; rintro e w8 ⟨rfl, F8, e8, f8, g8⟩
              have E8 := Lib.hid e8
              have R8 := Lib.hid (R7.out.fr f8 (fun j hj => by
                rcases hj with h | h | h
                · rw [h]; exact Or.inl HF.out.2.1
                · rw [h]; exact Or.inl HF.out.2.2
                · exact FO7.out j h))
              have F8o : Hid (∀ j, F8 j → j < bo ∨ tp ≤ j) := fun j hj => by
                rcases g8 j hj with h | h
                · exact FO7.out j h
                · exact Or.inr (Nat.le_trans R7.out.sz h)
              have V8 : Hid (Row w8 vB 65 [.int .i64 (p : Int), .int .i64 kx] ∧ ¬ F8 vB) := by
                have lv := V7.out.1.lt
                refine ⟨V7.out.1.same (f8.block _ lv (fun h => ?_)), fun h => ?_⟩
                · rcases h with h | h | h
                  · exact NVB.out.2.1 h
                  · exact NVB.out.2.2 h
                  · exact V7.out.2 h
                · rcases g8 _ h with h2 | h2
                  · exact V7.out.2 h2
                  · omega
              clear e8 f8 g8 x0 x1 c0 E7 R7 V7 FO7 RX
              go_wp2_with fail
              go_roundw
              case measure => simp [intOf]; have := HJ.out; have := HJL.out; omega
              case rel => exact ⟨j1, _, F8, by have := HJ.out; have := HJL.out; omega, rfl, E8, D8, R8, F8o, V8⟩
            · have jl : ¬ (j : Int) < (rl : Int) := by omega
              obtain rfl : j = rl := by omega
              have CV2 : Hid (∀ i u v : Nat, i < ars.length → ars.getD i (0, 0) = ((u : Int), (v : Int)) → u ∈ ps ++ [X] → (T i ∨ ∃ j', j' < j ∧ (ends Prod.fst ars n X).getD j' 0 = (i : Int))) := fun i u v hi e hu => by
                rw [List.mem_append, List.mem_singleton] at hu
                rcases hu with hu | rfl
                · exact Or.inl (CV.out i u v hi e hu)
                · obtain ⟨j', h1, h2⟩ := mem_getD ((ends_mem Prod.fst ars n u (i : Int)).2 ⟨i, rfl, by rw [← HN.out]; exact hi, by rw [e]⟩)
                  exact Or.inr ⟨j', by rw [HRL.out] at h1; exact h1, h2⟩
              have D9 := Lib.hid D7.out.1
              have PL : Hid (ps.length + 1 ≤ m) := by
                have h := ps_le D9.out.nd (fun v hv => (D9.out.pm v hv).1)
                rw [List.length_append] at h; exact h
              clear hj hjl D7 D4 CV
              go_wp2_with fail
              go_roundg (gk - 1)
              case measure => have h1 := HG.out; have h2 := PL.out; omega
              case rel => exact ⟨st', ps ++ [X], kx, _, _, F4, by have h1 := HG.out; have h2 := PL.out; show _ = _; rw [List.length_append]; simp only [List.length_cons, List.length_nil]; omega, E7, D9, CV2, R7, FO7⟩

end Go.Proofs.Ytgofachgoflgnaa
