/- What was written is read back, value by value. -/
import Derived.Test.YtnjednndpphhlaaWm
import Derived.Deep.Cut
import Derived.Deep.DeepCutAuto
import Derived.Deep.CutBlock
import Derived.Deep.RegionHeld
import Derived.Deep.RegionWith
import Derived.Deep.RegionHeld3
import Derived.Deep.DrawnRows
namespace Go.Proofs.Ytnjednndpphhlaa
open Go.ChangeShapes Go.WideShapes Go.ChangeAt Go.RowKit Go.Maps Go.WideMaps

theorem arr_r (a r : Array UInt8) : (a ++ r).extract a.size (a.size + r.size) = r := by
  apply Array.ext'
  simp [List.extract]
theorem ex_r (a r : ByteArray) : (a ++ r).extract a.size (a ++ r).size = r := by
  apply ByteArray.ext
  rw [ByteArray.size_append, ByteArray.data_extract, ByteArray.data_append]
  exact arr_r a.data r.data
theorem ex_m (a b r : ByteArray) : (a ++ (b ++ r)).extract a.size (a.size + b.size) = b := by
  apply ByteArray.ext
  rw [ByteArray.data_extract, ByteArray.data_append, ByteArray.data_append]
  show (a.data ++ (b.data ++ r.data)).extract a.data.size (a.data.size + b.data.size) = b.data
  apply Array.ext'
  have h1 : a.data.toList.drop a.data.size = [] := List.drop_of_length_le (by simp)
  have h2 : b.data.toList.take b.data.size = b.data.toList := List.take_of_length_le (by simp)
  have h3 : a.data.toList.drop a.size = [] := h1
  have h4 : b.data.toList.take b.size = b.data.toList := h2
  simp [List.extract, h3, h4]
theorem ex_t (a b r : ByteArray) : (a ++ (b ++ r)).extract (a.size + b.size) (a ++ (b ++ r)).size = r := by
  have := ex_r (a ++ b) r
  rw [ba_assoc, ByteArray.size_append] at this
  exact this
def C3 (w : World) (b o : Nat) (kd x : Int) (s : ByteArray) : Prop := w.cell? ⟨b, o, none⟩ = some (.int .u8 kd) ∧ w.cell? ⟨b, o + 1, none⟩ = some (.int .i64 x) ∧ w.cell? ⟨b, o + 2, none⟩ = some (.string s)
theorem c3_next {w w' : World} {b o B : Nat} {kd x : Int} {s : ByteArray} (h : C3 w b o kd x s) (hb : b < B) (k : Below B w.drew w') : C3 w' b o kd x s := by
  obtain ⟨h1, h2, h3⟩ := h
  have e : ∀ p : Addr, p.block < B → w'.cell? p = w.cell? p := fun p hp => by rw [k.cell hp]; rfl
  exact ⟨by rw [e _ hb]; exact h1, by rw [e _ hb]; exact h2, by rw [e _ hb]; exact h3⟩
theorem tail_step (g : Nat → ValZ) {j n : Nat} (h : j < n) : tailOf g j (n - j) = item (g j) ++ tailOf g (j + 1) (n - (j + 1)) := by
  rw [show n - j = (n - (j + 1)) + 1 by omega, tailOf]
theorem tail_size (g : Nat → ValZ) (n : Nat) (hz : ∀ i, i < n → (item (g i)).size ≤ 210) : ∀ m i, i + m ≤ n → (tailOf g i m).size ≤ 210 * m := by
  intro m
  induction m with
  | zero => intro i _; show (0 : Nat) ≤ _; omega
  | succ m ih =>
    intro i hi
    rw [tailOf, ByteArray.size_append]
    have := hz i (by omega); have := ih (i + 1) (by omega); omega
theorem rest_put (u : Nat) (R : ByteArray) : rest (bytes u ++ R) (enc u).length 0 = R := by
  unfold rest; rw [if_pos rfl]
  exact ex_r (bytes u) R
set_option maxHeartbeats 400000 in
theorem done_ok {w : World} {rb : Nat} (h : RdAt w rb ⟨#[]⟩ 0) : Calls Try.prog 28 #[.pointer (some ⟨rb, 0, none⟩)] w fun en w' => en = .returned (.int .i64 0) ∧ w = w' := by
  have HH := Lib.hid h; clear h
  go_enter Try.func28, Try.ntmps28
  go_wp2_with fail
  refine (err_any HH.out).mono ?_; rintro e w' ⟨rfl, rfl⟩
  go_wp2_with fail
  refine (left_any HH.out).mono ?_; rintro e w' ⟨rfl, rfl⟩
  have hz : (⟨#[]⟩ : ByteArray).size = 0 := rfl
  rw [hz]
  go_wp2_with fail
  go_ret
  exact ⟨rfl, rfl⟩
def Cells3 (w : World) (b o : Nat) (z : ValZ) : Prop := w.cell? ⟨b, o, none⟩ = some (.int .u8 z.kind) ∧ w.cell? ⟨b, o + 1, none⟩ = some (.int .i64 z.n) ∧ w.cell? ⟨b, o + 2, none⟩ = some (.string z.s)
theorem Cells3.below {w w' : World} {b o : Nat} {z : ValZ} {B : Nat} (h : Cells3 w b o z) (hb : b < B) (k : Below B w w') : Cells3 w' b o z := by
  obtain ⟨h1, h2, h3⟩ := h
  refine ⟨?_, ?_, ?_⟩ <;> (rw [k.cell (by exact hb)]; assumption)
theorem all_step {g : Nat → ValZ} {i : Nat} {z : ValZ} (h : g i = z) : allOf g (i + 1) = allOf g i ++ item z := by rw [allOf, h]
attribute [local go_sem ↓] Go.wp_at_zero Go.wp_at_succ
abbrev uX (i : Int) : Nat := u64 i
theorem item0 {kd x : Int} {s : ByteArray} (h : kd % 3 = 0) : item ⟨kd, x, s⟩ = bytes (uX x) := by unfold item; rw [if_pos h]
theorem item1 {kd x : Int} {s : ByteArray} (h : kd % 3 = 1) : item ⟨kd, x, s⟩ = bytes (zz x) := by unfold item; rw [if_neg (by simp only; omega), if_pos h]
theorem item2 {kd x : Int} {s : ByteArray} (h : kd % 3 = 2) : item ⟨kd, x, s⟩ = bytes s.size ++ s := by unfold item; rw [if_neg (by simp only; omega), if_neg (by simp only; omega)]
theorem uX_wrap (x : Int) : IntKind.u64.wrap x = ((uX x : Nat) : Int) := by rw [IntKind.wrap_u64]; unfold uX u64; omega
theorem uX_lt (x : Int) : uX x < 18446744073709551616 := u64_lt x


theorem rd_uint {w : World} {rb : Nat} {x : Int} {R : ByteArray} (hs : (bytes (uX x) ++ R).size ≤ 1000000) (h : RdAt w rb (bytes (uX x) ++ R) 0) :
    Calls Try.prog 17 #[.pointer (some ⟨rb, 0, none⟩)] w.drew fun en w' => en = .returned (.int .u64 (uX x)) ∧ RdAt w' rb R 0 ∧ Below rb w.drew w' := by
  refine (uint_any (w := w.drew) hs (parse_put R (uX_lt x)) h).mono ?_
  rintro en w' ⟨rfl, h1, h2, _⟩
  rw [rest_put] at h1
  exact ⟨rfl, h1, h2⟩
theorem rd_int {w : World} {rb : Nat} {x : Int} {R : ByteArray} (h0 : -9223372036854775808 ≤ x) (h1 : x ≤ 9223372036854775807) (hs : (bytes (zz x) ++ R).size ≤ 1000000) (h : RdAt w rb (bytes (zz x) ++ R) 0) :
    Calls Try.prog 19 #[.pointer (some ⟨rb, 0, none⟩)] w.drew fun en w' => en = .returned (.int .i64 x) ∧ RdAt w' rb R 0 ∧ Below rb w.drew w' := by
  have := int_of (zz_lt h0 h1) (uint_any (w := w.drew) hs (parse_put R (zz_lt h0 h1)) h)
  rw [unzz_zz] at this
  refine this.mono ?_
  rintro en w' ⟨rfl, h1, h2, _⟩
  rw [rest_put] at h1
  exact ⟨rfl, h1, h2⟩
theorem rd_text {w : World} {rb : Nat} {s R : ByteArray} (hz : s.size ≤ 200) (hs : ((bytes s.size ++ s) ++ R).size ≤ 1000000) (h : RdAt w rb ((bytes s.size ++ s) ++ R) 0) :
    Calls Try.prog 23 #[.pointer (some ⟨rb, 0, none⟩), .int .i64 200] w.drew fun en w' => en = .returned (.string s) ∧ RdAt w' rb R 0 ∧ Below rb w.drew w' := by
  rw [ba_assoc] at hs h
  have hn : s.size < 18446744073709551616 := by omega
  have hm : ((s.size : Nat) : Int) ≤ max 200 0 := by omega
  have P := parse_put (s ++ R) hn
  have hN : cntN s.size 0 200 = s.size := by unfold cntN; rw [if_pos ⟨rfl, hm⟩]
  have hK : cntK s.size (enc s.size).length 0 200 = (enc s.size).length := by unfold cntK; rw [if_pos ⟨rfl, hm⟩]
  have hE : cntE s.size 0 200 = 0 := by unfold cntE; rw [if_pos rfl, if_pos hm]
  have fz : Fits (bytes s.size ++ (s ++ R)) s.size (enc s.size).length 0 := by
    exact ⟨rfl, by rw [ByteArray.size_append, ByteArray.size_append]; show (enc _).length + s.size ≤ (enc _).length + (s.size + R.size); omega⟩
  have := text_any (w := w.drew) hs P (by omega) (by omega) hN hK hE h
  refine this.mono ?_
  rintro en w' ⟨rfl, h1, h2, _⟩
  have e1 : txtS (bytes s.size ++ (s ++ R)) s.size (enc s.size).length 0 = s := by
    unfold txtS; rw [if_pos fz]; exact ex_m (bytes s.size) s R
  have e2 : txtE (bytes s.size ++ (s ++ R)) s.size (enc s.size).length 0 = 0 := by unfold txtE; rw [if_pos fz]
  have e3 : rest (bytes s.size ++ (s ++ R)) (txtK (bytes s.size ++ (s ++ R)) s.size (enc s.size).length 0) 0 = R := by
    unfold rest txtK; rw [if_pos rfl, if_pos fz]; exact ex_t (bytes s.size) s R
  rw [e2, e3] at h1
  rw [e1]
  exact ⟨rfl, h1, h2⟩

end Go.Proofs.Ytnjednndpphhlaa
