/- device: how a device lies in memory; check, Read, Blocks, Writes, Limit. -/
import Derived.Test.YtgadplgjpemdaaaRows
import Derived.WalkKit
import Derived.ProofKit
import Derived.OpenShut
import Derived.Deep.QuietTactic
import Derived.BigQuiet
import Derived.Lib.Hide
import Derived.Lib.SmallJoins
import Derived.Deep.Slices
import Derived.ChangeSame
import Derived.WalkSmall
import Derived.WalkMore
import Derived.Deep.LoopGhost
import Derived.Deep.DeepCutAuto
import Derived.Deep.CutBlock
import Derived.Deep.RegionHeld3
import Derived.Maps.AppendAt
import Derived.Deep.MidRow
import Derived.Deep.WholeRow
import Derived.Lib.LazyBuf
import Derived.Lib.UnsafeStr
import Derived.Laws.IdiomStrings
import Derived.Laws.MakeOwn
namespace Go.Proofs.Ytgadplgjpemdaaa
open Go.ChangeShapes Go.WideShapes Go.ChangeAt Go.RowKit Go.Joins Go.Deep

theorem cell_lt {w : World} {p : Addr} {v : Value} (h : w.cell? p = some v) : p.block < w.heap.size := by
  by_cases hb : p.block < w.heap.size
  · exact hb
  · exfalso
    unfold World.cell? at h
    simp [Array.getElem?_eq_none (Nat.le_of_not_lt hb)] at h
theorem below_al (w : World) (o : Obj) : Below w.heap.size w (w.alloc o) := (Below.refl _ _).alloc (Nat.le_refl _) _
theorem below_drewN {B : Nat} {a w : World} (h : Below B a w) (n : Nat) : Below B a (w.drewN n) := ⟨h.os, h.tape, h.output, h.size, h.block⟩
/- a block whose cells are these -/
def Row (w : World) (b : Nat) (T : TypeId) (cs : List Value) : Prop := w.heap[b]? = some (.cells cs.toArray T (0, 0))
theorem Row.cell {w : World} {b T i : Nat} {cs : List Value} {v : Value} (h : Row w b T cs) (hv : cs[i]? = some v) : w.cell? ⟨b, i, none⟩ = some v := by
  unfold Row at h; unfold World.cell?; rw [h]; simpa using hv
theorem Row.fr {w : World} {b T i : Nat} {cs : List Value} (h : Row w b T cs) : w.frozen? ⟨b, i, none⟩ = false := by
  unfold Row at h; unfold World.frozen?; rw [h]; simp
theorem Row.lt {w : World} {b T : Nat} {cs : List Value} (h : Row w b T cs) : b < w.heap.size := by
  by_cases hl : b < w.heap.size
  · exact hl
  · unfold Row at h; rw [Array.getElem?_eq_none (Nat.le_of_not_lt hl)] at h; cases h
theorem Row.same {w W : World} {b T : Nat} {cs : List Value} (h : Row w b T cs) (e : W.heap[b]? = w.heap[b]?) : Row W b T cs := by unfold Row at h ⊢; rw [e]; exact h
theorem Row.below {w W : World} {B b T : Nat} {cs : List Value} (h : Row w b T cs) (k : Below B w W) (hb : b < B) : Row W b T cs := h.same (k.block b hb)
theorem Row.new (w : World) (T : TypeId) (cs : List Value) : Row (w.alloc (.cells cs.toArray T)) w.heap.size T cs := by unfold Row World.alloc; simp
theorem Row.set {w : World} {b T i : Nat} {cs : List Value} (h : Row w b T cs) (v : Value) : Row (w.setCell ⟨b, i, none⟩ v) b T (cs.set i v) := by
  unfold Row at h ⊢; rw [heap_setCell_same _ _ _ _ _ _ h]; simp
theorem Row.other {w : World} {b T : Nat} {cs : List Value} {a : Addr} {v : Value} (h : Row w b T cs) (hn : b ≠ a.block) : Row (w.setCell a v) b T cs := by
  unfold Row at h ⊢; rw [Below.heap_setCell _ _ _ _ hn]; exact h
/- blocks of bytes -/
structure Bl (w : World) (g n : Nat) (bs : List (List UInt8)) : Prop where
  lt : g < w.heap.size
  len : bs.length = n
  each : ∀ i, i < n → (bs.getD i []).length = 64
  cell : ∀ i, i < n → w.rangeAt g (i * 64) (Lib.byteCells (bs.getD i []))
  fr : ∀ o, w.frozen? ⟨g, o, none⟩ = false
theorem Bl.same {w W : World} {g n : Nat} {bs : List (List UInt8)} (h : Bl w g n bs) (e : W.heap[g]? = w.heap[g]?) : Bl W g n bs := by
  refine ⟨?_, h.len, h.each, fun i hi j v hv => ?_, fun o => ?_⟩
  · by_cases hl : g < W.heap.size
    · exact hl
    · rw [Array.getElem?_eq_none (Nat.le_of_not_lt hl)] at e
      have h2 := h.lt
      rw [Array.getElem?_eq_getElem h2] at e; cases e
  · rw [World.cell?_of_block (w := w) e]; exact h.cell i hi j v hv
  · rw [World.frozen?_of_block (w := w) e]; exact h.fr o
theorem Bl.keep {w W : World} {g n : Nat} {bs : List (List UInt8)} (h : Bl w g n bs) (b : Below w.heap.size w W) : Bl W g n bs := h.same (b.block g h.lt)
theorem byteCells_at {l : List UInt8} {j : Nat} (h : j < l.length) : (Lib.byteCells l)[j]? = some (.int .u8 (l[j].toNat : Int)) := by
  unfold Lib.byteCells; rw [List.getElem?_map, List.getElem?_eq_getElem h]; rfl
theorem Bl.bytes {w : World} {g n i : Nat} {bs : List (List UInt8)} (h : Bl w g n bs) (hi : i < n) : ∀ j (hj : j < (bs.getD i []).length), w.cell? ((⟨g, i * 64, none⟩ : Addr).add j) = some (.int .u8 ((bs.getD i [])[j].toNat : Int)) := fun j hj => by
  rw [Addr.add_mid]; exact h.cell i hi j _ (byteCells_at hj)
theorem Bl.there {w : World} {g n i : Nat} {bs : List (List UInt8)} (h : Bl w g n bs) (hi : i < n) : w.there g (i * 64) 64 := fun j hj =>
  ⟨(h.cell i hi).isSome j (by rw [Lib.byteCells_length, h.each i hi]; exact hj), h.fr _⟩
theorem heap_setCells (b : Nat) : ∀ (vs : List Value) (o : Nat) (w : World) (k : Nat), k ≠ b → (w.setCells b o vs).heap[k]? = w.heap[k]?
  | [], _, _, _, _ => rfl
  | v :: r, o, w, k, hk => by rw [World.setCells, heap_setCells b r (o + 1) _ k hk, Below.heap_setCell _ _ _ _ (by exact hk)]
theorem size_setCells (b : Nat) : ∀ (vs : List Value) (o : Nat) (w : World), (w.setCells b o vs).heap.size = w.heap.size
  | [], _, _ => rfl
  | v :: r, o, w => by rw [World.setCells, size_setCells b r (o + 1)]; simp [World.setCell]
theorem getD_setL {α : Type} (l : List α) (i k : Nat) (d x : α) (h : i < l.length) : (l.set i x).getD k d = if i = k then x else l.getD k d := by
  rw [List.getD, List.getD, List.getElem?_set]
  by_cases e : i = k
  · subst e; rw [if_pos rfl, if_pos rfl, if_pos h]; rfl
  · rw [if_neg e, if_neg e]
theorem Bl.set {w : World} {g n i : Nat} {bs : List (List UInt8)} (h : Bl w g n bs) (hi : i < n) {d : List UInt8} (hd : d.length = 64) : Bl (w.setCells g (i * 64) (Lib.byteCells d)) g n (bs.set i d) := by
  have hl : (Lib.byteCells d).length = 64 := by rw [Lib.byteCells_length, hd]
  have G := fun k => getD_setL bs i k [] d (by rw [h.len]; exact hi)
  refine ⟨by rw [size_setCells]; exact h.lt, by rw [List.length_set]; exact h.len, fun k hk => ?_, fun k hk => ?_, fun o => by rw [World.frozen?_setCells]; exact h.fr o⟩
  · rw [G]; split
    · exact hd
    · exact h.each k hk
  · rw [G]; split
    · rename_i e; subst e
      exact World.rangeAt_setCells_same _ _ _ _ (by rw [hl]; exact h.there hi)
    · rename_i e
      refine World.rangeAt_setCells_apart (h.cell k hk) _ _ _ (Or.inr ?_)
      rw [hl, Lib.byteCells_length, h.each k hk]; omega
theorem Bl.setOther {w : World} {g n b o : Nat} {bs : List (List UInt8)} (h : Bl w g n bs) (vs : List Value) (hne : g ≠ b) : Bl (w.setCells b o vs) g n bs := h.same (heap_setCells b vs o w g hne)
/- the cells of a history -/
def hcs (hs : List (Nat × List UInt8)) : List Value := hs.flatMap (fun p => .int .i64 (p.1 : Int) :: Lib.byteCells p.2)
structure DvB (w : World) (B D gf gn cf cn : Nat) (H : Value) (n : Nat) (fs ns : List (List UInt8)) (hs : List (Nat × List UInt8)) (lim : Bool) (left : Int) : Prop where
  row : Row w D 56 [.slice (some ⟨gf, 0, none⟩) n cf, .slice (some ⟨gn, 0, none⟩) n cn, H, .bool lim, .int .i64 left]
  f : Bl w gf n fs
  nw : Bl w gn n ns
  h : w.ownsRow B 60 65 H hs.length (hcs hs)
  bD : B ≤ D
  bf : B ≤ gf
  bn : B ≤ gn
  ne1 : D ≠ gf
  ne2 : D ≠ gn
  ne3 : gf ≠ gn
  hD : H.ownBlock ≠ some D
  hf : H.ownBlock ≠ some gf
  hn : H.ownBlock ≠ some gn
  ok : ∀ p ∈ hs, p.1 < n ∧ p.2.length = 64
  n1 : 1 ≤ n ∧ n ≤ 65536
  lf : 0 ≤ left ∧ left ≤ 9223372036854775807
def Dv (w : World) (B D n : Nat) (fs ns : List (List UInt8)) (hs : List (Nat × List UInt8)) (lim : Bool) (left : Int) : Prop := ∃ gf gn cf cn H, DvB w B D gf gn cf cn H n fs ns hs lim left
theorem own_below {w W : World} {B e size : Nat} {v : Value} {n : Nat} {xs : List Value} (h : w.ownsRow B e size v n xs) (b : Below w.heap.size w W) : W.ownsRow B e size v n xs :=
  h.kept (row := none) ⟨b.os, b.tape, b.output, b.size, fun j hj _ => b.block j hj⟩ (by cases v.ownBlock <;> simp)
theorem DvB.keep {w W : World} {B D gf gn cf cn : Nat} {H : Value} {n : Nat} {fs ns : List (List UInt8)} {hs : List (Nat × List UInt8)} {lim : Bool} {left : Int} (h : DvB w B D gf gn cf cn H n fs ns hs lim left) (b : Below w.heap.size w W) : DvB W B D gf gn cf cn H n fs ns hs lim left :=
  { h with row := h.row.below b h.row.lt, f := h.f.keep b, nw := h.nw.keep b, h := own_below h.h b }
theorem Dv.keep {w W : World} {B D n : Nat} {fs ns : List (List UInt8)} {hs : List (Nat × List UInt8)} {lim : Bool} {left : Int} (h : Dv w B D n fs ns hs lim left) (b : Below w.heap.size w W) : Dv W B D n fs ns hs lim left := by
  obtain ⟨gf, gn, cf, cn, H, k⟩ := h; exact ⟨gf, gn, cf, cn, H, k.keep b⟩
theorem row_formH {w : World} {B : Nat} {v : Value} {n : Nat} {xs : List Value} (h : w.ownsRow B 60 65 v n xs) : ∃ a cap, v = .slice a n cap := by
  rcases h.2 with ⟨rfl, rfl⟩ | ⟨g, cap, cur, rfl, _⟩
  · exact ⟨none, 0, rfl⟩
  · exact ⟨_, cap, rfl⟩
/- check -/
def cerr (n : Nat) (i : Int) : Int := if i < 0 ∨ (n : Int) ≤ i then 2 else 0
abbrev pD (D : Nat) : Value := .pointer (some ⟨D, 0, none⟩)
theorem check_any {w : World} {D n cn : Nat} {F : Value} {a : Option Addr} {r : List Value} (R : Row w D 56 (F :: .slice a n cn :: r)) (i : Int) : Calls Try.prog 24 #[pD D, .int .i64 i] w fun e w' => e = .returned (.int .i64 (cerr n i)) ∧ w' = w := by
  have g1 := R.cell (i := 1) rfl
  clear R
  by_cases h0 : i < 0
  · have d0 : decide (i < 0) = true := by simpa using h0
    have V : Hid (cerr n i = 2) := if_pos (Or.inl h0)
    clear h0
    go_enter Try.func24, Try.ntmps24
    go_wp2_with fail
    go_ret
    exact ⟨by rw [V.out]; rfl, rfl⟩
  · have d0 : decide (i < 0) = false := by simpa using h0
    by_cases h1 : (n : Int) ≤ i
    · have d1 : decide ((n : Int) ≤ i) = true := by simpa using h1
      have V : Hid (cerr n i = 2) := if_pos (Or.inr h1)
      clear h0 h1
      go_enter Try.func24, Try.ntmps24
      go_wp2_with fail
      go_ret
      exact ⟨by rw [V.out]; rfl, rfl⟩
    · have d1 : decide ((n : Int) ≤ i) = false := by simpa using h1
      have V : Hid (cerr n i = 0) := if_neg (by omega)
      clear h0 h1
      go_enter Try.func24, Try.ntmps24
      go_wp2_with fail
      go_ret
      exact ⟨by rw [V.out]; rfl, rfl⟩
theorem check_nil (w : World) (i : Int) : Calls Try.prog 24 #[.pointer none, .int .i64 i] w fun e w' => e = .returned (.int .i64 1) ∧ w' = w := by
  go_enter Try.func24, Try.ntmps24
  go_wp2_with fail
  go_ret
  exact ⟨rfl, rfl⟩
/- Read -/
def rd (n : Nat) (ns : List (List UInt8)) (i : Int) : ByteArray := if i < 0 ∨ (n : Int) ≤ i then ByteArray.empty else ⟨(ns.getD i.toNat []).toArray⟩
theorem run_conv (w : World) (a : Addr) (cap : Nat) (l : List UInt8) (hc : ∀ j (hj : j < l.length), w.cell? (a.add j) = some (.int .u8 (l[j].toNat : Int))) :
    Sem.run Try.prog (convert 46 9 (.slice (some a) l.length cap)) w = .ok (.string ⟨l.toArray⟩) w := run_convert_bytes_back w 46 9 5 a cap l Try.underlying46 Try.underlying5 Try.underlying9 hc
theorem read_any {w : World} {B D n : Nat} {fs ns : List (List UInt8)} {hs : List (Nat × List UInt8)} {lim : Bool} {left : Int} (h : Dv w B D n fs ns hs lim left) (i : Int) :
    Calls Try.prog 13 #[pD D, .int .i64 i] w fun e w' => e = .returned (.tuple #[.string (rd n ns i), .int .i64 (cerr n i)]) ∧ w' = w := by
  obtain ⟨gf, gn, cf, cn, H, k⟩ := h
  have K := Lib.hid k
  have CK := Lib.hid (check_any k.row i)
  have g1 := k.row.cell (i := 1) rfl
  by_cases hb : i < 0 ∨ (n : Int) ≤ i
  · have V : Hid (rd n ns i = ByteArray.empty) := if_pos hb
    have E : Hid (cerr n i = 2) := if_pos hb
    rw [E.out] at CK ⊢
    rw [V.out]
    clear k hb
    go_enter Try.func13, Try.ntmps13
    go_wp2_with fail
    refine CK.out.mono ?_; rintro e w4 ⟨rfl, rfl⟩
    go_wp2_with fail
    go_ret2
    exact ⟨rfl, rfl⟩
  · have V : Hid (rd n ns i = ⟨(ns.getD i.toNat []).toArray⟩) := if_neg hb
    have E : Hid (cerr n i = 0) := if_neg hb
    rw [E.out] at CK ⊢
    rw [V.out]
    obtain ⟨q, rfl⟩ : ∃ q : Nat, i = (q : Int) := ⟨i.toNat, by omega⟩
    have hq : q < n := by omega
    have q0 : (0 : Int) ≤ (q : Int) := by omega
    have ql : (q : Int) < (n : Int) := by omega
    have CV : Sem.run Try.prog (convert 46 9 (.slice (some ⟨gn, q * 64, none⟩) 64 64)) w = .ok (.string ⟨(ns.getD q []).toArray⟩) w := by
      have h := run_conv w ⟨gn, q * 64, none⟩ 64 (ns.getD q []) (k.nw.bytes hq)
      rw [k.nw.each q hq] at h; exact h
    have EQ : Hid ((q : Int).toNat = q) := Int.toNat_natCast q
    rw [EQ.out]
    clear k hb hq
    go_enter Try.func13, Try.ntmps13
    go_wp2_with fail
    refine CK.out.mono ?_; rintro e w4 ⟨rfl, rfl⟩
    go_wp2_with fail
    go_ret2
    exact ⟨rfl, rfl⟩
theorem read_nil (w : World) (i : Int) : Calls Try.prog 13 #[.pointer none, .int .i64 i] w fun e w' => e = .returned (.tuple #[.string ByteArray.empty, .int .i64 1]) ∧ w' = w := by
  have CK := Lib.hid (check_nil w i)
  go_enter Try.func13, Try.ntmps13
  go_wp2_with fail
  refine CK.out.mono ?_; rintro e w4 ⟨rfl, rfl⟩
  go_wp2_with fail
  go_ret2
  exact ⟨rfl, rfl⟩
/- Blocks, Writes, Limit -/
theorem blocks_any {w : World} {B D n : Nat} {fs ns : List (List UInt8)} {hs : List (Nat × List UInt8)} {lim : Bool} {left : Int} (h : Dv w B D n fs ns hs lim left) :
    Calls Try.prog 19 #[pD D] w fun e w' => e = .returned (.int .i64 (n : Int)) ∧ w' = w := by
  obtain ⟨gf, gn, cf, cn, H, k⟩ := h
  have g1 := k.row.cell (i := 1) rfl
  clear k
  go_enter Try.func19, Try.ntmps19
  go_wp2_with fail
  go_ret
  exact ⟨rfl, rfl⟩
theorem blocks_nil (w : World) : Calls Try.prog 19 #[.pointer none] w fun e w' => e = .returned (.int .i64 0) ∧ w' = w := by
  go_enter Try.func19, Try.ntmps19
  go_wp2_with fail
  go_ret
  exact ⟨rfl, rfl⟩
theorem writes_any {w : World} {B D n : Nat} {fs ns : List (List UInt8)} {hs : List (Nat × List UInt8)} {lim : Bool} {left : Int} (h : Dv w B D n fs ns hs lim left) :
    Calls Try.prog 20 #[pD D] w fun e w' => e = .returned (.int .i64 (hs.length : Int)) ∧ w' = w := by
  obtain ⟨gf, gn, cf, cn, H, k⟩ := h
  obtain ⟨a, cap, rfl⟩ := row_formH k.h
  have g2 := k.row.cell (i := 2) rfl
  clear k
  go_enter Try.func20, Try.ntmps20
  go_wp2_with fail
  go_ret
  exact ⟨rfl, rfl⟩
theorem writes_nil (w : World) : Calls Try.prog 20 #[.pointer none] w fun e w' => e = .returned (.int .i64 0) ∧ w' = w := by
  go_enter Try.func20, Try.ntmps20
  go_wp2_with fail
  go_ret
  exact ⟨rfl, rfl⟩
theorem limit_nil (w : World) (i : Int) : Calls Try.prog 15 #[.pointer none, .int .i64 i] w fun e w' => e = .returned (.tuple #[]) ∧ w' = w := by
  go_enter Try.func15, Try.ntmps15
  go_wp2_with fail
  refine bodyPost_ret (results_none rfl _ _ _) rfl ?_
  exact ⟨rfl, rfl⟩
end Go.Proofs.Ytgadplgjpemdaaa
