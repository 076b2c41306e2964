/- pq: PqPlays: both queues side by side. -/
import Derived.Test.YtdohmlkocbdomaaPx
namespace Go.Proofs.Ytdohmlkocbdomaa
open Go.ChangeShapes Go.WideShapes Go.ChangeAt Go.RowKit Go.Joins Go.Deep

structure OpZ where
  kind : Int
  item : Int
  key : Int
instance : Inhabited OpZ := ⟨⟨0, 0, 0⟩⟩
def OpsAt (w : World) (v : Value) (n : Nat) (g : Nat → OpZ) : Prop :=
  ∃ (a : Option Addr) (cap : Nat), v = .slice a n cap ∧
    (n = 0 ∨ ∃ b off, a = some ⟨b, off, none⟩ ∧ b < w.heap.size ∧ ∀ j, j < n → w.cell? ⟨b, off + j * 3, none⟩ = some (.int .i64 (g j).kind) ∧ w.cell? ⟨b, off + j * 3 + 1, none⟩ = some (.int .i64 (g j).item) ∧ w.cell? ⟨b, off + j * 3 + 2, none⟩ = some (.int .i64 (g j).key))
theorem c32 : Try.prog.cellsOf 32 = 3 := by kernel_rfl
theorem ops_open {H : Type} {enc : TypeId × Value → H} {W : World} {base b0 : Nat} {spare : Nat → Bool} {held : Bool} {r : Reach} {v : Value} {d : DataW H} {p : List MemPlace}
    (hv : Value.okWide Try.prog W r b0 22 v) (h : DataW.Trod enc Try.prog W base spare held 22 v d p) : ∃ n g, OpsAt W v n g := by
  obtain ⟨a0, len0, cap0, rfl⟩ := okWide_slice Try.underlying22 hv
  obtain ⟨fuel, hf⟩ := h
  rcases Deep.open_slice Try.underlying22 hf with ⟨hcs, _⟩ | ⟨a, len, cap, m, n', D, Pl, hcs, _, hl, hm, hmm, _, hi⟩
  · simp [Value.cells] at hcs
    obtain ⟨rfl, rfl, rfl⟩ := hcs
    exact ⟨0, fun _ => default, none, 0, rfl, Or.inl rfl⟩
  · simp [Value.cells] at hcs
    obtain ⟨rfl, rfl, rfl⟩ := hcs
    have hlm : len0 ≤ m := by rw [hmm]; split <;> omega
    have key : ∀ j, j < len0 → ∃ z : OpZ, W.cell? (a.add (j * 3)) = some (.int .i64 z.kind) ∧ W.cell? (a.add (j * 3 + 1)) = some (.int .i64 z.item) ∧ W.cell? (a.add (j * 3 + 2)) = some (.int .i64 z.key) := by
      intro j hj
      obtain ⟨cs', hc, ht⟩ := hi j (by omega)
      rw [c32] at hc
      obtain ⟨_, hcl, hat⟩ := World.cells?_some hc
      obtain ⟨z0, z1, z2, n2, _, _, t0, t1, t2⟩ := Deep.trod_struct3 Try.underlying32 ht
      obtain ⟨x, ex, _, wx⟩ := DataW.trod_int Try.underlying3 t0
      obtain ⟨y, ey, _, wy⟩ := DataW.trod_int Try.underlying3 t1
      obtain ⟨u, eu, _, wu⟩ := DataW.trod_int Try.underlying3 t2
      rw [c3] at ex ey eu
      match cs', hcl with
      | [q0, q1, q2], _ =>
        simp at ex ey eu
        subst ex ey eu
        refine ⟨⟨x, y, u⟩, ?_, ?_, ?_⟩
        · have := hat 0 (by omega); simpa [Addr.add] using this
        · have := hat 1 (by omega); rw [Deep.add_add] at this; simpa using this
        · have := hat 2 (by omega); rw [Deep.add_add] at this; simpa using this
    obtain ⟨g, hg⟩ := Deep.choose_lt key
    refine ⟨len0, g, some a, cap0, rfl, ?_⟩
    by_cases hz : len0 = 0
    · exact Or.inl hz
    · right
      obtain ⟨b, off, spot⟩ := a
      have c0 := (hg 0 (by omega)).1
      have hspot : spot = none := by simpa [Addr.add] using World.cell?_spot c0
      subst hspot
      refine ⟨b, off, rfl, ?_, fun j hj => ?_⟩
      · rw [Addr.add_lit] at c0; exact cell_lt c0
      · obtain ⟨h1, h2, h3⟩ := hg j hj
        rw [Addr.add_lit] at h1 h2 h3
        exact ⟨h1, h2, h3⟩
/- both queues; A: what the program's queue does not touch -/
structure Play (w wr : World) (A : Nat → Prop) (qb ib kb n : Nat) (ins : List Bool) (ks : List Int) (ins' : List Bool) (ks' : List Int) : Prop where
  q : ∃ F, QI wr qb F ins ks ∧ ∀ k, F k → w.heap.size ≤ k ∧ ¬ A k
  r : RefS wr ib kb n ins' ks'
  ai : A ib
  ak : A kb
  al : ∀ k, A k → k < wr.heap.size
  b : Below w.heap.size w wr
  gi : w.heap.size ≤ ib
  gk : w.heap.size ≤ kb
  ql : ins.length = n
theorem Play.more {w wr W : World} {A G : Nat → Prop} {qb ib kb n : Nat} {ins ins' : List Bool} {ks ks' : List Int} (P : Play w wr A qb ib kb n ins ks ins' ks') (f : FrF G wr W) (g : ∀ k, G k → A k ∧ k ≠ ib ∧ k ≠ kb ∧ w.heap.size ≤ k) : Play w W A qb ib kb n ins ks ins' ks' := by
  obtain ⟨F, I, l⟩ := P.q
  exact ⟨⟨F, I.frame f (fun k h1 h2 => (l k h1).2 (g k h2).1), l⟩, P.r.same (f.block _ P.r.i.lt (fun h => (g _ h).2.1 rfl)) (f.block _ P.r.k.lt (fun h => (g _ h).2.2.1 rfl)), P.ai, P.ak, fun k h => Nat.lt_of_lt_of_le (P.al k h) f.size, P.b.trans (f.below P.b.size (fun k h => (g k h).2.2.2)), P.gi, P.gk, P.ql⟩
theorem Play.below {w wr W : World} {A : Nat → Prop} {qb ib kb n : Nat} {ins ins' : List Bool} {ks ks' : List Int} (P : Play w wr A qb ib kb n ins ks ins' ks') (b : Below wr.heap.size wr W) : Play w W A qb ib kb n ins ks ins' ks' :=
  P.more (G := fun _ => False) (FrF.of_below b) (fun _ h => h.elim)
/- a new block is spared too -/
theorem Play.spare {w wr : World} {A : Nat → Prop} {qb ib kb n : Nat} {ins ins' : List Bool} {ks ks' : List Int} (P : Play w wr A qb ib kb n ins ks ins' ks') (o : Obj) : Play w (wr.alloc o) (fun k => A k ∨ k = wr.heap.size) qb ib kb n ins ks ins' ks' := by
  have P1 := P.below ((Below.refl _ wr).alloc (Nat.le_refl _) o)
  obtain ⟨F, I, l⟩ := P.q
  refine ⟨⟨F, I.below ((Below.refl _ wr).alloc (Nat.le_refl _) o), fun k h => ⟨(l k h).1, fun h2 => ?_⟩⟩, P1.r, Or.inl P1.ai, Or.inl P1.ak, fun k h => ?_, P1.b, P.gi, P.gk, P.ql⟩
  · rcases h2 with h2 | h2
    · exact (l k h).2 h2
    · have := I.lt k h; omega
  · rw [World.size_alloc]
    rcases h with h | h
    · have := P.al k h; omega
    · omega
theorem Play.less {w wr : World} {A A' : Nat → Prop} {qb ib kb n : Nat} {ins ins' : List Bool} {ks ks' : List Int} (P : Play w wr A qb ib kb n ins ks ins' ks') (h : ∀ k, A' k → A k) (h1 : A' ib) (h2 : A' kb) : Play w wr A' qb ib kb n ins ks ins' ks' := by
  obtain ⟨F, I, l⟩ := P.q
  exact ⟨⟨F, I, fun k hk => ⟨(l k hk).1, fun e => (l k hk).2 (h k e)⟩⟩, P.r, h1, h2, fun k hk => P.al k (h k hk), P.b, P.gi, P.gk, P.ql⟩
def Kept (A : Nat → Prop) (w w' : World) : Prop := ∀ k, A k → k < w.heap.size → w'.heap[k]? = w.heap[k]?
def KeptR (ib kb : Nat) (w w' : World) : Prop := ∀ k, k < w.heap.size → k ≠ ib → k ≠ kb → w'.heap[k]? = w.heap[k]?
theorem play_q {w wr w' : World} {A F F' : Nat → Prop} {qb ib kb n : Nat} {ins ins' ins2 : List Bool} {ks ks' ks2 : List Int} (P : Play w wr A qb ib kb n ins ks ins' ks') (l : ∀ k, F k → w.heap.size ≤ k ∧ ¬ A k) (I : QI w' qb F' ins2 ks2) (f : FrF F wr w') (l' : ∀ k, F' k → F k ∨ wr.heap.size ≤ k) (hl : ins2.length = n) : Play w w' A qb ib kb n ins2 ks2 ins' ks' ∧ Kept A wr w' := by
  refine ⟨⟨⟨F', I, fun k h => ?_⟩, P.r.same (f.block _ P.r.i.lt (fun h => (l _ h).2 P.ai)) (f.block _ P.r.k.lt (fun h => (l _ h).2 P.ak)), P.ai, P.ak, fun k h => Nat.lt_of_lt_of_le (P.al k h) f.size, P.b.trans (f.below P.b.size (fun k h => (l k h).1)), P.gi, P.gk, hl⟩, fun k h1 h2 => f.block k h2 (fun e => (l k e).2 h1)⟩
  rcases l' k h with h1 | h1
  · exact l k h1
  · refine ⟨by have := P.b.size; omega, fun h2 => ?_⟩
    have := P.al k h2; omega
theorem play_ref {w wr w' : World} {A : Nat → Prop} {qb ib kb n : Nat} {ins ins' ins2 : List Bool} {ks ks' ks2 : List Int} (P : Play w wr A qb ib kb n ins ks ins' ks') (R : RefS w' ib kb n ins2 ks2) (f : FrF (IK ib kb) wr w') : Play w w' A qb ib kb n ins ks ins2 ks2 ∧ KeptR ib kb wr w' := by
  obtain ⟨F, I, l⟩ := P.q
  refine ⟨⟨⟨F, I.frame f (fun k h1 h2 => ?_), l⟩, R, P.ai, P.ak, fun k h => Nat.lt_of_lt_of_le (P.al k h) f.size, P.b.trans (f.below P.b.size (fun k h => ?_)), P.gi, P.gk, P.ql⟩, fun k h1 h2 h3 => f.block k h1 (fun h => h.elim h2 h3)⟩
  · rcases h2 with rfl | rfl
    · exact (l _ h1).2 P.ai
    · exact (l _ h1).2 P.ak
  · rcases h with rfl | rfl
    · exact P.gi
    · exact P.gk
/- what Set and Drop answer -/
def SetR (n : Nat) (ins : List Bool) (ks : List Int) (x y : Int) (b : Bool) (ins2 : List Bool) (ks2 : List Int) : Prop :=
  (InN n x = false ∧ b = false ∧ ins2 = ins ∧ ks2 = ks) ∨ ∃ X : Nat, X < n ∧ x = (X : Int) ∧ b = true ∧ ins2 = ins.set X true ∧ ks2 = ks.set X y
def DropR (n : Nat) (ins : List Bool) (x : Int) (b : Bool) (ins2 : List Bool) : Prop :=
  (hasB ins x = false ∧ b = false ∧ ins2 = ins) ∨ ∃ X : Nat, X < n ∧ x = (X : Int) ∧ ins.getD X false = true ∧ b = true ∧ ins2 = ins.set X false
theorem setr_same {n : Nat} {ins ins2 ins3 : List Bool} {ks ks2 ks3 : List Int} {x y : Int} {b b' : Bool} (p : SetR n ins ks x y b ins2 ks2) (q : SetR n ins ks x y b' ins3 ks3) : b' = b ∧ ins3 = ins2 ∧ ks3 = ks2 := by
  rcases p with ⟨h, rfl, rfl, rfl⟩ | ⟨X, hX, rfl, rfl, rfl, rfl⟩
  · rcases q with ⟨_, rfl, rfl, rfl⟩ | ⟨Y, hY, rfl, _⟩
    · exact ⟨rfl, rfl, rfl⟩
    · rw [InN_nat hY] at h; cases h
  · rcases q with ⟨h, _⟩ | ⟨Y, hY, e, rfl, rfl, rfl⟩
    · rw [InN_nat hX] at h; cases h
    · obtain rfl : X = Y := by omega
      exact ⟨rfl, rfl, rfl⟩
theorem dropr_same {n : Nat} {ins ins2 ins3 : List Bool} {x : Int} {b b' : Bool} (p : DropR n ins x b ins2) (q : DropR n ins x b' ins3) : b' = b ∧ ins3 = ins2 := by
  rcases p with ⟨h, rfl, rfl⟩ | ⟨X, hX, rfl, hi, rfl, rfl⟩
  · rcases q with ⟨_, rfl, rfl⟩ | ⟨Y, hY, rfl, hi, _⟩
    · exact ⟨rfl, rfl⟩
    · rw [hasB_nat, hi] at h; cases h
  · rcases q with ⟨h, _⟩ | ⟨Y, hY, e, _, rfl, rfl⟩
    · rw [hasB_nat, hi] at h; cases h
    · obtain rfl : X = Y := by omega
      exact ⟨rfl, rfl⟩
theorem InN_cases (n : Nat) (x : Int) : InN n x = false ∨ ∃ X : Nat, X < n ∧ x = (X : Int) := by
  by_cases h : 0 ≤ x ∧ x < (n : Int)
  · exact Or.inr ⟨x.toNat, by omega, by omega⟩
  · left; unfold InN; exact decide_eq_false h
theorem has_cases {n : Nat} {ins : List Bool} (hl : ins.length = n) (x : Int) : hasB ins x = false ∨ ∃ X : Nat, X < n ∧ x = (X : Int) ∧ ins.getD X false = true := by
  rcases InN_cases n x with h | ⟨X, hX, rfl⟩
  · exact Or.inl (InN_has hl h)
  · rw [hasB_nat]
    cases hb : ins.getD X false
    · exact Or.inl rfl
    · exact Or.inr ⟨X, hX, rfl, hb⟩
theorem play_set {w wr : World} {A : Nat → Prop} {qb ib kb n : Nat} {ins ins' : List Bool} {ks ks' : List Int} (P : Play w wr A qb ib kb n ins ks ins' ks') (x y : Int) : Calls Try.prog 11 #[qp qb, .int .i64 x, .int .i64 y] wr fun e w' => ∃ b ins2 ks2, SetR n ins ks x y b ins2 ks2 ∧ e = .returned (.bool b) ∧ Play w w' A qb ib kb n ins2 ks2 ins' ks' ∧ Kept A wr w' := by
  obtain ⟨F, I, l⟩ := P.q
  rcases InN_cases n x with h | ⟨X, hX, rfl⟩
  · refine (set_qo I (by unfold InN at h; rw [P.ql]; simp at h; omega) y).mono ?_
    rintro e w' ⟨rfl, rfl⟩
    exact ⟨false, ins, ks, Or.inl ⟨h, rfl, rfl, rfl⟩, rfl, P, fun _ _ _ => rfl⟩
  · refine (set_qi I (by rw [P.ql]; exact hX) y).mono ?_
    rintro e w' ⟨rfl, F', I', f, l'⟩
    exact ⟨true, _, _, Or.inr ⟨X, hX, rfl, rfl, rfl, rfl⟩, rfl, play_q P l I' f l' (by rw [List.length_set]; exact P.ql)⟩
theorem play_rset {w wr : World} {A : Nat → Prop} {qb ib kb n : Nat} {ins ins' : List Bool} {ks ks' : List Int} (P : Play w wr A qb ib kb n ins ks ins' ks') (x y : Int) : Calls Try.prog 12 #[rv ib kb n, .int .i64 x, .int .i64 y] wr fun e w' => ∃ b ins2 ks2, SetR n ins' ks' x y b ins2 ks2 ∧ e = .returned (.tuple #[rv ib kb n, .bool b]) ∧ Play w w' A qb ib kb n ins ks ins2 ks2 ∧ KeptR ib kb wr w' := by
  rcases InN_cases n x with h | ⟨X, hX, rfl⟩
  · refine (rset_no h y wr).mono ?_
    rintro e w' ⟨rfl, b⟩
    exact ⟨false, ins', ks', Or.inl ⟨h, rfl, rfl, rfl⟩, rfl, P.below b, fun k h1 _ _ => b.block k h1⟩
  · refine (rset_yes P.r hX y).mono ?_
    rintro e w' ⟨rfl, R, f⟩
    exact ⟨true, _, _, Or.inr ⟨X, hX, rfl, rfl, rfl, rfl⟩, rfl, play_ref P R f⟩
theorem play_drop {w wr : World} {A : Nat → Prop} {qb ib kb n : Nat} {ins ins' : List Bool} {ks ks' : List Int} (P : Play w wr A qb ib kb n ins ks ins' ks') (x : Int) : Calls Try.prog 15 #[qp qb, .int .i64 x] wr fun e w' => ∃ b ins2, DropR n ins x b ins2 ∧ e = .returned (.bool b) ∧ Play w w' A qb ib kb n ins2 ks ins' ks' ∧ Kept A wr w' := by
  obtain ⟨F, I, l⟩ := P.q
  rcases has_cases P.ql x with h | ⟨X, hX, rfl, hi⟩
  · refine (drop_no I h).mono ?_
    rintro e w' ⟨rfl, rfl⟩
    exact ⟨false, ins, Or.inl ⟨h, rfl, rfl⟩, rfl, P, fun _ _ _ => rfl⟩
  · refine (drop_qi I (by rw [P.ql]; exact hX) hi).mono ?_
    rintro e w' ⟨rfl, I', f⟩
    exact ⟨true, _, Or.inr ⟨X, hX, rfl, hi, rfl, rfl⟩, rfl, play_q P l I' f (fun _ h => Or.inl h) (by rw [List.length_set]; exact P.ql)⟩
theorem play_rdrop {w wr : World} {A : Nat → Prop} {qb ib kb n : Nat} {ins ins' : List Bool} {ks ks' : List Int} (P : Play w wr A qb ib kb n ins ks ins' ks') (x : Int) : Calls Try.prog 16 #[rv ib kb n, .int .i64 x] wr fun e w' => ∃ b ins2, DropR n ins' x b ins2 ∧ e = .returned (.tuple #[rv ib kb n, .bool b]) ∧ Play w w' A qb ib kb n ins ks ins2 ks' ∧ KeptR ib kb wr w' := by
  rcases has_cases P.r.il x with h | ⟨X, hX, rfl, hi⟩
  · refine (rdrop_no P.r h).mono ?_
    rintro e w' ⟨rfl, b⟩
    exact ⟨false, ins', Or.inl ⟨h, rfl, rfl⟩, rfl, P.below b, fun k h1 _ _ => b.block k h1⟩
  · refine (rdrop_yes P.r hX hi).mono ?_
    rintro e w' ⟨rfl, R, f⟩
    exact ⟨true, _, Or.inr ⟨X, hX, rfl, hi, rfl, rfl⟩, rfl, play_ref P R f⟩
theorem popr_len {ins ins2 : List Bool} {ks : List Int} {a k : Int} {b : Bool} (p : PopR ins ks a k b ins2) : ins2.length = ins.length := by
  rcases p with ⟨_, _, _, _, rfl⟩ | ⟨X, _, _, _, _, rfl⟩
  · rfl
  · rw [List.length_set]
theorem play_pop {w wr : World} {A : Nat → Prop} {qb ib kb n : Nat} {ins ins' : List Bool} {ks ks' : List Int} (P : Play w wr A qb ib kb n ins ks ins' ks') : Calls Try.prog 17 #[qp qb] wr fun e w' => ∃ a k b ins2, PopR ins ks a k b ins2 ∧ e = .returned (.tuple #[.int .i64 a, .int .i64 k, .bool b]) ∧ Play w w' A qb ib kb n ins2 ks ins' ks' ∧ Kept A wr w' := by
  obtain ⟨F, I, l⟩ := P.q
  refine (pop_r I).mono ?_
  rintro e w' ⟨a, k, b, ins2, p, rfl, I', f⟩
  exact ⟨a, k, b, ins2, p, rfl, play_q P l I' f (fun _ h => Or.inl h) ((popr_len p).trans P.ql)⟩
theorem play_rpop {w wr : World} {A : Nat → Prop} {qb ib kb n : Nat} {ins ins' : List Bool} {ks ks' : List Int} (P : Play w wr A qb ib kb n ins ks ins' ks') (hn : n ≤ 1048576) : Calls Try.prog 18 #[rv ib kb n] wr fun e w' => ∃ a k b ins2, PopR ins' ks' a k b ins2 ∧ e = .returned (.tuple #[rv ib kb n, .agg #[.int .i64 a, .int .i64 k, .bool b]]) ∧ Play w w' A qb ib kb n ins ks ins2 ks' ∧ KeptR ib kb wr w' := by
  refine (rpop_any P.r hn).mono ?_
  rintro e w' ⟨a, k, b, ins2, p, rfl, R, f⟩
  exact ⟨a, k, b, ins2, p, rfl, play_ref P R f⟩
/- the result put back into the variable -/
theorem back {w w3 : World} {A : Nat → Prop} {qb rb ib kb n : Nat} {ins ins' : List Bool} {ks ks' : List Int} (P : Play w w3 A qb ib kb n ins ks ins' ks') (c : Row w3 rb 29 [sl ib n, sl kb n]) (ar : A rb) (gr : w.heap.size ≤ rb) (n1 : rb ≠ ib) (n2 : rb ≠ kb) :
    ∃ W5, (w3.setCell ⟨rb, 0, none⟩ (sl ib n)).setCell ⟨rb, 1, none⟩ (sl kb n) = W5 ∧ Row W5 rb 29 [sl ib n, sl kb n] ∧ Play w W5 A qb ib kb n ins ks ins' ks' ∧ (∀ k, k < w3.heap.size → k ≠ rb → W5.heap[k]? = w3.heap[k]?) ∧ W5.heap.size = w3.heap.size := by
  obtain ⟨W5, h5, r5, f5⟩ := put2 (sl ib n) (sl kb n) c
  exact ⟨W5, h5, r5, P.more f5 (fun k h => by subst h; exact ⟨ar, n1, n2, gr⟩), fun k h1 h2 => f5.block k h1 h2, by rw [← h5]; simp⟩
theorem Play.lenq {w wr W : World} {A : Nat → Prop} {qb ib kb n : Nat} {ins ins' : List Bool} {ks ks' : List Int} (P : Play w wr A qb ib kb n ins ks ins' ks') (b : Below wr.heap.size wr W) : Calls Try.prog 19 #[qp qb] W fun e w' => e = .returned (.int .i64 ((ins.count true : Nat) : Int)) ∧ W = w' := by
  obtain ⟨F, I, l⟩ := (P.below b).q
  exact len_qi I
theorem Play.lenr {w wr W : World} {A : Nat → Prop} {qb ib kb n : Nat} {ins ins' : List Bool} {ks ks' : List Int} (P : Play w wr A qb ib kb n ins ks ins' ks') (hn : n ≤ 1048576) (b : Below wr.heap.size wr W) : Calls Try.prog 20 #[rv ib kb n] W fun e w' => e = .returned (.int .i64 ((ins'.count true : Nat) : Int)) ∧ Below W.heap.size W w' := rlen_any (P.below b).r hn
theorem s_keep {wz W w8 : World} {rb : Nat} {u v : Value} (hr : rb < wz.heap.size) (b8 : Below W.heap.size W w8) (h : Below wz.heap.size wz W ∧ W.cell? ⟨rb, 0, none⟩ = some u ∧ W.cell? ⟨rb, 1, none⟩ = some v) : Below wz.heap.size wz w8 ∧ w8.cell? ⟨rb, 0, none⟩ = some u ∧ w8.cell? ⟨rb, 1, none⟩ = some v :=
  ⟨h.1.trans (b8.mono h.1.size), by rw [b8.cell (by have := h.1.size; show rb < _; omega)]; exact h.2.1, by rw [b8.cell (by have := h.1.size; show rb < _; omega)]; exact h.2.2⟩
theorem play_key {w wr : World} {A : Nat → Prop} {qb ib kb n : Nat} {ins ins' : List Bool} {ks ks' : List Int} (P : Play w wr A qb ib kb n ins ks ins' ks') (x : Int) : Calls Try.prog 13 #[qp qb, .int .i64 x] wr fun e w' => e = .returned (.tuple #[.int .i64 (if hasB ins x = true then ks.getD x.toNat 0 else 0), .bool (hasB ins x)]) ∧ wr = w' := by
  obtain ⟨F, I, l⟩ := P.q
  exact key_qi I x
theorem ops_at {w w' : World} {a : Option Addr} {n cap j : Nat} {g : Nat → OpZ} (h : OpsAt w (.slice a n cap) n g) (hb : Below w.heap.size w w') (hj : j < n) : ∃ b off, a = some ⟨b, off, none⟩ ∧ w'.cell? ⟨b, off + j * 3, none⟩ = some (.int .i64 (g j).kind) ∧ w'.cell? ⟨b, off + j * 3 + 1, none⟩ = some (.int .i64 (g j).item) ∧ w'.cell? ⟨b, off + j * 3 + 2, none⟩ = some (.int .i64 (g j).key) := by
  obtain ⟨a', cap', e, h⟩ := h
  injection e with e1 e2 e3
  subst e1
  rcases h with h | ⟨b, off, e, hl, hc⟩
  · omega
  · obtain ⟨h1, h2, h3⟩ := hc j hj
    exact ⟨b, off, e, by rw [hb.cell hl]; exact h1, by rw [hb.cell hl]; exact h2, by rw [hb.cell hl]; exact h3⟩
end Go.Proofs.Ytdohmlkocbdomaa
