/- Box and its reference. -/
import Derived.Test.YtahaigamigkhbaaWf
namespace Go.Proofs.Ytahaigamigkhbaa
open Go.ChangeShapes Go.WideShapes Go.ChangeAt Go.RowKit Go.Joins Go.Deep

abbrev Pt := Int × Int
abbrev Q4 := Int × Int × Int × Int
def bst (q : Q4) (p : Pt) : Q4 := (minZ q.1 p.1, minZ q.2.1 p.2, maxZ q.2.2.1 p.1, maxZ q.2.2.2 p.2)
def b0 (l : List Pt) : Q4 := ((l.getD 0 (0, 0)).1, (l.getD 0 (0, 0)).2, (l.getD 0 (0, 0)).1, (l.getD 0 (0, 0)).2)
def bfk (l : List Pt) (k : Nat) : Q4 := (l.take k).foldl bst (b0 l)
def allV (l : List Pt) : Bool := l.all fun p => vldB p.1 p.2
def bok (l : List Pt) : Bool := decide (l ≠ []) && allV l
def bq (l : List Pt) : Q4 := if bok l = true then bfk l l.length else (0, 0, 0, 0)
theorem bfk_succ (l : List Pt) (k : Nat) (h : k < l.length) : bfk l (k + 1) = bst (bfk l k) (l.getD k (0, 0)) := by
  unfold bfk
  rw [List.take_succ_eq_append_getElem h, List.foldl_append]
  simp [List.getD, h]
theorem bst_same (x y : Int) : bst (x, y, x, y) (x, y) = (x, y, x, y) := by unfold bst minZ maxZ; simp
theorem bfk_one (l : List Pt) (h : 0 < l.length) : bfk l 1 = b0 l := by
  rw [bfk_succ l 0 h]; unfold bfk; simp only [List.take_zero, List.foldl_nil]; exact bst_same _ _
theorem allV_succ (l : List Pt) (k : Nat) (h : k < l.length) : allV (l.take (k + 1)) = (allV (l.take k) && vldB (l.getD k (0, 0)).1 (l.getD k (0, 0)).2) := by
  unfold allV; rw [List.take_succ_eq_append_getElem h, List.all_append]; simp [List.getD, h]
theorem allV_no {l : List Pt} {k : Nat} (h : k < l.length) (hv : vldB (l.getD k (0, 0)).1 (l.getD k (0, 0)).2 = false) : allV l = false := by
  unfold allV
  rw [Bool.eq_false_iff, ne_eq, List.all_eq_true]
  intro hall
  have := hall (l[k]) (List.getElem_mem h)
  simp [List.getD, h] at hv
  rw [hv] at this; cases this

def PtsAt (w : World) (a : Option Addr) (len : Nat) (l : List Pt) : Prop :=
  len = l.length ∧ (len = 0 ∨ ∃ b off, a = some ⟨b, off, none⟩ ∧ b < w.heap.size ∧ ∀ i, i < len → w.cell? ⟨b, off + i * 2, none⟩ = some (.int .i64 (l.getD i (0, 0)).1) ∧ w.cell? ⟨b, off + i * 2 + 1, none⟩ = some (.int .i64 (l.getD i (0, 0)).2))
theorem PtsAt.below {w w' : World} {a : Option Addr} {len : Nat} {l : List Pt} (h : PtsAt w a len l) (hb : Below w.heap.size w w') : PtsAt w' a len l := by
  obtain ⟨h1, h3⟩ := h
  refine ⟨h1, ?_⟩
  rcases h3 with h3 | ⟨b, off, e, hlt, hc⟩
  · exact Or.inl h3
  · refine Or.inr ⟨b, off, e, Nat.lt_of_lt_of_le hlt hb.size, fun i hi => ?_⟩
    obtain ⟨c1, c2⟩ := hc i hi
    exact ⟨by rw [hb.cell (by exact hlt)]; exact c1, by rw [hb.cell (by exact hlt)]; exact c2⟩
theorem PtsAt.at {w : World} {a : Option Addr} {len : Nat} {l : List Pt} (h : PtsAt w a len l) {k : Nat} (hk : k < len) : ∃ b off, a = some ⟨b, off, none⟩ ∧ w.cell? ⟨b, off + k * 2, none⟩ = some (.int .i64 (l.getD k (0, 0)).1) ∧ w.cell? ⟨b, off + k * 2 + 1, none⟩ = some (.int .i64 (l.getD k (0, 0)).2) := by
  rcases h.2 with h3 | ⟨b, off, e, hlt, hc⟩
  · omega
  · exact ⟨b, off, e, hc k hk⟩

def Blk (w : World) (g : Nat) (q : Q4) : Prop := w.heap[g]? = some (.cells #[.int .i64 q.1, .int .i64 q.2.1, .int .i64 q.2.2.1, .int .i64 q.2.2.2] 40)
theorem Blk.facts {w : World} {g : Nat} {q : Q4} (h : Blk w g q) : w.cell? ⟨g, 0, none⟩ = some (.int .i64 q.1) ∧ w.cell? ⟨g, 1, none⟩ = some (.int .i64 q.2.1) ∧ w.cell? ⟨g, 2, none⟩ = some (.int .i64 q.2.2.1) ∧ w.cell? ⟨g, 3, none⟩ = some (.int .i64 q.2.2.2) ∧ (∀ i, w.frozen? ⟨g, i, none⟩ = false) := by
  unfold Blk at h
  refine ⟨?_, ?_, ?_, ?_, fun i => ?_⟩ <;> simp [World.cell?, World.frozen?, h]
theorem Blk.lt {w : World} {g : Nat} {q : Q4} (h : Blk w g q) : g < w.heap.size := cell_lt h.facts.1
theorem Blk.below {w w' : World} {g B : Nat} {q : Q4} (h : Blk w g q) (hb : Below B w w') (hn : g < B) : Blk w' g q := by
  unfold Blk; rw [hb.block _ hn]; exact h
theorem Blk.new (w : World) (a b c d : Int) : Blk (w.alloc (.cells #[.int .i64 a, .int .i64 b, .int .i64 c, .int .i64 d] 40)) w.heap.size (a, b, c, d) := by
  show (w.heap.push _)[w.heap.size]? = _
  rw [Array.getElem?_push, if_pos rfl]
theorem set_blk {w : World} {g i : Nat} {cs : Array Value} {t : TypeId} {u : Value} (h : w.heap[g]? = some (.cells cs t)) : (w.setCell ⟨g, i, none⟩ u).heap[g]? = some (.cells (cs.setIfInBounds i u) t) := by
  simp [World.setCell, Array.getElem?_modify, h]
theorem Blk.set {w : World} {g : Nat} {q : Q4} (h : Blk w g q) (a b c d : Int) :
    Blk ((((w.setCell ⟨g, 0, none⟩ (.int .i64 a)).setCell ⟨g, 1, none⟩ (.int .i64 b)).setCell ⟨g, 2, none⟩ (.int .i64 c)).setCell ⟨g, 3, none⟩ (.int .i64 d)) g (a, b, c, d) := by
  have k := set_blk (i := 3) (u := .int .i64 d) (set_blk (i := 2) (u := .int .i64 c) (set_blk (i := 1) (u := .int .i64 b) (set_blk (i := 0) (u := .int .i64 a) h)))
  exact k
theorem Blk.other {w : World} {g : Nat} {q : Q4} {u : Value} {a : Addr} (h : Blk w g q) (hn : g ≠ a.block) : Blk (w.setCell a u) g q := by
  unfold Blk; rw [Below.heap_setCell _ _ _ _ hn]; exact h

set_option maxHeartbeats 1000000 in
theorem single_any (x y : Int) (w : World) :
    Calls Try.prog 31 #[pt x y] w fun e w' => e = .returned (bx x y x y) ∧ Below w.heap.size w w' := by
  go_enter Try.func31, Try.ntmps31
  go_wp2
  refine bodyPost_ret (v := bx x y x y) (by simp [results, Try.results31, go_sem]) rfl ⟨rfl, ?_⟩
  exact ((Below.refl _ _).alloc (Nat.le_refl _) _).alloc (by simp) _

set_option maxHeartbeats 1000000 in
theorem all_any (a : Option Addr) (len cap : Nat) (l : List Pt) (w : World) (h : PtsAt w a len l) (hl : len ≤ 1000000) :
    Calls Try.prog 33 #[.slice a len cap] w fun e w' => e = .returned (.bool (allV l)) ∧ Below w.heap.size w w' := by
  have HP := Lib.hid h
  have HL := Lib.hid h.1; clear h
  go_enter Try.func33, Try.ntmps33
  go_wp2_with fail
  go_loopw [3] (fun s3 wr => ∃ k : Nat, k ≤ len ∧ s3 = .int .i64 k ∧ Hid (allV (l.take k) = true) ∧ Hid (Below w.heap.size w wr)) (fun s3 _ => len - (intOf s3).toNat)
  case atStart => exact ⟨0, by omega, rfl, by simp [Hid, allV], Below.refl _ _⟩
  case round =>
    obtain ⟨k, hk, rfl, HA, HB⟩ := hrel
    by_cases hlt : k < len
    · obtain ⟨b, off, rfl, c1, c2⟩ := (HP.out.below HB.out).at hlt
      have hk' : Hid (k < l.length) := by show k < l.length; rw [← HL.out]; exact hlt
      obtain ⟨⟨x, y⟩, hxy⟩ : ∃ p, l.getD k (0, 0) = p := ⟨_, rfl⟩
      rw [hxy] at c1 c2
      have HXY := Lib.hid hxy; clear hxy
      cases hv : vldB x y
      · have HV := Lib.hid hv; clear hv
        go_wp2_with fail
        refine (validr_any _ _ _).mono ?_; rintro e w1 ⟨rfl, hb⟩; rw [HV.out]
        have H1 := Lib.hid (HB.out.trans (hb.mono HB.out.size)); clear hb
        go_wp2_with fail
        go_ret
        exact ⟨ret_bool (allV_no hk'.out (by rw [HXY.out]; exact HV.out)).symm, H1.out⟩
      · have HV := Lib.hid hv; clear hv
        go_wp2_with fail
        refine (validr_any _ _ _).mono ?_; rintro e w1 ⟨rfl, hb⟩; rw [HV.out]
        have H1 := Lib.hid (HB.out.trans (hb.mono HB.out.size)); clear hb
        have HA2 : Hid (allV (l.take (k + 1)) = true) := by
          show allV (l.take (k + 1)) = true
          rw [allV_succ l k hk'.out, HXY.out, HA.out, HV.out]; rfl
        go_wp2_with fail
        go_roundw
        case rel => exact ⟨k + 1, by omega, by go_num, HA2, H1⟩
        case measure => simp [intOf]; omega
    · have hall : Hid (allV l = true) := by
        have := HA.out
        rwa [List.take_of_length_le (by have := HL.out; omega)] at this
      go_wp2
      go_ret
      exact ⟨ret_bool hall.out.symm, HB.out⟩
end Go.Proofs.Ytahaigamigkhbaa
