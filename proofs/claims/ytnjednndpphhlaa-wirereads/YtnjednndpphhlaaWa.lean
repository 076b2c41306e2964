/- Writing numbers: what PutUint appends. -/
import Derived.Test.YtnjednndpphhlaaRows
import Derived.WalkKit
import Derived.ProofKit
import Derived.OpenShut
import Derived.Lib.Hide
import Derived.WalkSmall
import Derived.WalkMore
import Derived.Laws.IdiomStrings
import Derived.Laws.Concat
import Derived.Maps.AppendAt
namespace Go.Proofs.Ytnjednndpphhlaa
open Go.ChangeShapes Go.WideShapes Go.ChangeAt Go.RowKit Go.Maps Go.WideMaps

/- the bytes of a number -/
def enc (n : Nat) : List UInt8 := if h : n < 128 then [UInt8.ofNat n] else UInt8.ofNat (128 + n % 128) :: enc (n / 128)
termination_by n
decreasing_by omega
theorem enc_small {n : Nat} (h : n < 128) : enc n = [UInt8.ofNat n] := by rw [enc]; simp [h]
theorem enc_big {n : Nat} (h : ¬ n < 128) : enc n = UInt8.ofNat (128 + n % 128) :: enc (n / 128) := by rw [enc]; simp [h]
theorem enc_len (k : Nat) : ∀ n, n < 128 ^ (k + 1) → (enc n).length ≤ k + 1 := by
  induction k with
  | zero => intro n h; rw [enc_small (by simpa using h)]; simp
  | succ k ih =>
    intro n h
    by_cases hs : n < 128
    · rw [enc_small hs]; simp
    · rw [enc_big hs, List.length_cons]
      have := ih (n / 128) (by rw [Nat.div_lt_iff_lt_mul (by decide)]; rw [Nat.pow_succ] at h; exact h)
      omega
theorem enc_ten {n : Nat} (h : n < 18446744073709551616) : (enc n).length ≤ 10 := enc_len 9 n (by omega)
/- the string b with the number behind it -/
def put (b : ByteArray) (n : Nat) : ByteArray := b ++ ⟨(enc n).toArray⟩
theorem put_small {b : ByteArray} {n : Nat} (h : n < 128) : put b n = b ++ ⟨#[UInt8.ofNat n]⟩ := by rw [put, enc_small h]
theorem put_big {b : ByteArray} {n : Nat} (h : ¬ n < 128) : put b n = put (b ++ ⟨#[UInt8.ofNat (128 + n % 128)]⟩) (n / 128) := by
  rw [put, enc_big h, put]
  apply ByteArray.ext
  simp [ByteArray.data_append]
theorem put_size {b : ByteArray} {n : Nat} (h : n < 18446744073709551616) : b.size < (put b n).size ∧ (put b n).size ≤ b.size + 10 := by
  have e : (put b n).size = b.size + (enc n).length := by simp [put, ByteArray.size_append]; rfl
  have := enc_ten h
  have : 0 < (enc n).length := by
    by_cases hs : n < 128
    · rw [enc_small hs]; simp
    · rw [enc_big hs]; simp
  omega

theorem conv_one (w : World) (x : Int) (B : UInt8) (h0 : 0 ≤ x) (h1 : x ≤ 255) (hB : UInt8.ofNat x.toNat = B) : Sem.run Try.prog (convert 56 9 (.slice (some ⟨w.heap.size, 0, none⟩) 1 1)) (w.alloc (.cells #[.int .u8 x] 5)) = .ok (.string ⟨#[B]⟩) (w.alloc (.cells #[.int .u8 x] 5)) := by
  have := run_convert_bytes_back (P := Try.prog) (w.alloc (.cells #[.int .u8 x] 5)) 56 9 5 ⟨w.heap.size, 0, none⟩ 1 [UInt8.ofNat x.toNat] Try.underlying56 Try.underlying5 Try.underlying9 (fun j hj => by
    have : j = 0 := by simpa using hj
    subst this
    simp [Addr.add]; omega)
  rw [hB] at this
  simpa using this
set_option maxRecDepth 100000 in
set_option maxHeartbeats 1000000 in
theorem rput_any (b : ByteArray) (n : Nat) (w : World) (hb : b.size ≤ 1000000) (hn : n < 18446744073709551616) :
    Calls Try.prog 9 #[.string b, .int .u64 n] w fun e w' => e = .returned (.string (put b n)) ∧ Below w.heap.size w w' := by
  have HN := Lib.hid hn
  have HL : Hid (b.size ≤ 1000100) := by show b.size ≤ 1000100; omega
  have HLIM : Hid ((put b n).size ≤ 1000100) := by have := (put_size (b := b) hn).2; show _ ≤ _; omega
  clear hn hb
  go_enter Try.func9, Try.ntmps9
  go_wp2_with fail
  go_loopw [0, 1] (fun s0 s1 wr => ∃ (c : ByteArray) (m : Nat), s0 = .string c ∧ s1 = .int .u64 m ∧ Hid (m < 18446744073709551616) ∧ Hid (put c m = put b n) ∧ Hid (c.size ≤ 1000100) ∧ Hid (Below w.heap.size w wr)) (fun _ s1 _ => (intOf s1).toNat)
  case atStart => exact ⟨b, n, rfl, rfl, HN.out, rfl, HL.out, Below.refl _ _⟩
  case round =>
    obtain ⟨c, m, rfl, rfl, HM, HP, HC, HB⟩ := hrel
    have SZ : ¬ 9223372036854775807 < c.size + 1 := by have := HC.out; omega
    by_cases hs : m < 128
    · have hs1 : (m : Int) < 128 := by omega
      obtain ⟨B, hB⟩ : ∃ B, UInt8.ofNat m = B := ⟨_, rfl⟩
      have fin : Hid (put b n = c ++ ⟨#[B]⟩) := by show _ = _; rw [← HP.out, put_small hs, hB]
      have wm : IntKind.u8.wrap (m : Int) = m := by rw [IntKind.wrap_u8]; omega
      have CV := conv_one wr (m : Int) B (by omega) (by omega) (by simpa using hB)
      clear hs hB
      go_wp2
      go_ret
      exact ⟨by simp [fin.out], (HB.out.alloc HB.out.size _)⟩
    · have hs1 : 128 ≤ (m : Int) := by omega
      obtain ⟨B, hB⟩ : ∃ B, UInt8.ofNat (128 + m % 128) = B := ⟨_, rfl⟩
      have HP2 : Hid (put (c ++ ⟨#[B]⟩) (m / 128) = put b n) := by show _ = _; rw [← HP.out, put_big hs, hB]
      have HC2 : Hid ((c ++ ⟨#[B]⟩ : ByteArray).size ≤ 1000100) := by
        have h1 := (put_size (b := c ++ ⟨#[B]⟩) (n := m / 128) (by have := HM.out; omega)).1
        rw [HP2.out] at h1
        have := HLIM.out
        show _ ≤ _
        omega
      have wq : IntKind.u64.wrap ((m : Int) / 128) = ((m / 128 : Nat) : Int) := by have := HM.out; rw [IntKind.wrap_u64]; omega
      have CV := conv_one wr (128 + (m : Int) % 128) B (by omega) (by omega) (by rw [← hB]; congr 1)
      clear hs hB
      go_wp2
      go_roundw
      case rel => exact ⟨c ++ ⟨#[B]⟩, m / 128, rfl, by simp, Nat.lt_of_le_of_lt (Nat.div_le_self _ _) HM.out, HP2, HC2, HB.out.alloc HB.out.size _⟩
      case measure => simp [intOf]; omega

theorem Try.info5 : (Try.prog.info? 5).map (fun i => (i.zero, i.size, i.bytes)) = some (some (.int .u8 0), 1, 1) := by kernel_rfl
def byteVals (l : List UInt8) : List Value := l.map (fun b => Value.int .u8 (b.toNat : Int))
theorem row_slice {w : World} {v : Value} {n : Nat} {xs : List Value} (h : w.ownsRow 0 5 1 v n xs) : ∃ a cap, v = .slice a n cap := by
  rcases h.2 with ⟨rfl, rfl⟩ | ⟨g, cap, cur, rfl, _⟩
  · exact ⟨none, 0, rfl⟩
  · exact ⟨_, cap, rfl⟩
/- the bytes of a row as a string -/
theorem conv_row {w : World} {v : Value} {l : List UInt8} (h : w.ownsRow 0 5 1 v l.length (byteVals l)) (hl : l ≠ []) : Sem.run Try.prog (convert 56 9 v) w = .ok (.string ⟨l.toArray⟩) w := by
  rcases h.2 with ⟨_, h0⟩ | ⟨g, cap, cur, rfl, _, hg, h1, h2, h3, h4⟩
  · exact absurd (List.length_eq_zero_iff.1 h0) hl
  · refine run_convert_bytes_back (P := Try.prog) w 56 9 5 ⟨g, 0, none⟩ cap l Try.underlying56 Try.underlying5 Try.underlying9 (fun j hj => ?_)
    unfold World.cell?
    have ea : (⟨g, 0, none⟩ : Addr).add j = ⟨g, j, none⟩ := by simp [Addr.add]; intro h; exact h.symm
    rw [ea]
    simp only
    rw [hg]
    have e : (cur.toList.take (l.length * 1))[j]? = some (.int .u8 (l[j].toNat : Int)) := by rw [h4]; simp [byteVals, hj]
    rw [List.getElem?_take] at e
    split at e
    · simpa using e
    · cases e
theorem or128_all : ∀ r : Fin 256, bits BinOp.or IntKind.u8 ((r.val : Nat) : Int) 128 = ((128 + r.val % 128 : Nat) : Int) := by decide +kernel
theorem or128 (m : Nat) : bits BinOp.or IntKind.u8 ((m : Int) % 256) 128 = ((128 + m % 128 : Nat) : Int) := by
  have h := or128_all ⟨m % 256, Nat.mod_lt _ (by decide)⟩
  simp only at h
  have e : ((m % 256 : Nat) : Int) = (m : Int) % 256 := by simp
  rw [e] at h
  rw [h]; congr 2; omega
theorem vals_snoc (l : List UInt8) (x : Nat) (hx : x < 256) : byteVals l ++ [.int .u8 (x : Int)] = byteVals (l ++ [UInt8.ofNat x]) := by
  simp [byteVals]; omega
theorem row_step {w wr w3 : World} {o : Obj} {v v' : Value} (hb : Below w.heap.size w wr) (ho : ∀ j, v.ownBlock = some j → w.heap.size ≤ j) (g : (wr.alloc o).grownBy w3 v.ownBlock) (hl : v'.ownBlock = v.ownBlock ∨ v'.ownBlock = some (wr.alloc o).heap.size) :
    (∀ j, v'.ownBlock = some j → w.heap.size ≤ j) ∧ Below w.heap.size w w3 := by
  have hs := hb.size
  refine ⟨fun j e => ?_, (hb.alloc hs _).grown g (by rw [World.size_alloc]; omega) ho⟩
  rcases hl with hl | hl
  · rw [hl] at e; exact ho j e
  · rw [hl] at e; injection e with e; rw [World.size_alloc] at e; omega
theorem conv_all {w : World} {v : Value} {k x : Nat} {l r : List UInt8} (h : w.ownsRow 0 5 1 v (k + 1) (byteVals l ++ [.int .u8 (x : Int)])) (hk : l.length = k) (hx : x < 256) (hr : l ++ [UInt8.ofNat x] = r) (E : ByteArray) (hE : (⟨r.toArray⟩ : ByteArray) = E) : Sem.run Try.prog (convert 56 9 v) w = .ok (.string E) w := by
  subst hE hr hk
  rw [vals_snoc l x hx] at h
  exact conv_row (by simpa using h) (by simp)
set_option maxRecDepth 100000 in
set_option maxHeartbeats 1000000 in
theorem put_any (b : ByteArray) (n : Nat) (w : World) (hb : b.size ≤ 1000000) (hn : n < 18446744073709551616) :
    Calls Try.prog 8 #[.string b, .int .u64 n] w fun e w' => e = .returned (.string (put b n)) ∧ Below w.heap.size w w' := by
  have HN := Lib.hid hn
  have HL : Hid (b.size ≤ 1000000) := hb
  have HE := Lib.hid (enc_ten hn)
  obtain ⟨E, hE⟩ : ∃ E : ByteArray, (⟨(enc n).toArray⟩ : ByteArray) = E := ⟨_, rfl⟩
  have SZ : ¬ 9223372036854775807 < b.size + E.size := by
    have h1 : E.size = (enc n).length := by rw [← hE]; rfl
    have := HE.out; omega
  have HEE := Lib.hid hE
  clear hE
  obtain ⟨i0, hi, hz0, hz1, hz2⟩ := info_parts Try.info5
  have II := Lib.hid hi; have Z0 := Lib.hid hz0; have Z1 := Lib.hid hz1; have Z2 := Lib.hid hz2
  clear hn hb hi hz0 hz1 hz2
  go_enter Try.func8, Try.ntmps8
  go_wp2_with fail
  go_loopw [1, 5] (fun s1 s5 wr => ∃ (l : List UInt8) (m : Nat) (k : Nat) (a : Option Addr) (cap : Nat), s1 = .int .u64 m ∧ s5 = .slice a k cap ∧ Hid (l.length = k) ∧ Hid (m < 18446744073709551616) ∧ Hid (l ++ enc m = enc n) ∧ Hid (wr.ownsRow 0 5 1 (.slice a k cap) k (byteVals l)) ∧ Hid (∀ j, (Value.slice a k cap).ownBlock = some j → w.heap.size ≤ j) ∧ Hid (Below w.heap.size w wr)) (fun s1 _ _ => (intOf s1).toNat)
  case atStart => exact ⟨[], n, 0, none, 0, rfl, rfl, rfl, HN.out, rfl, World.ownsRow_nil _ _ _ _, (fun j e => by cases e), Below.refl _ _⟩
  case round =>
    obtain ⟨l, m, k, a, cap, rfl, rfl, HK, HM, HP, HR, HO, HB⟩ := hrel
    by_cases hs : m < 128
    · have hs1 : (m : Int) < 128 := by omega
      have HS := Lib.hid hs
      have wm : IntKind.u8.wrap (m : Int) = m := by rw [IntKind.wrap_u8]; omega
      have R' : Hid (∀ o, (wr.alloc o).ownsRow 0 5 1 (.slice a k cap) k (byteVals l)) := fun o => HR.out.alloc o
      have hk : k ≤ 10 := by have h1 := HE.out; rw [← HP.out] at h1; simp at h1; have := HK.out; omega
      clear hs
      go_wp2_with (at_builtin; refine wpList_append_own_at _ rfl _ _ 56 rfl 0 5 i0 (.int .u8 0) 1 1 Try.underlying56 II.out Z0.out Z1.out Z2.out rfl (by decide) _ _ _ rfl (R'.out _) ⟨wr.heap.size, 0, none⟩ 1 1 [.int .u8 m] rfl rfl (cell_one_new _ _ _) (by simp [Value.oneCell']) (by unfold maxLen; omega) (by omega) (by simp) ?_; intro v' w3 hown' hgrow hnil hloc; obtain ⟨a', cap', hv'⟩ := row_slice hown'; subst hv'; have R3 := Lib.hid hown'; have G3 := Lib.hid hgrow; have L3 := Lib.hid hloc; clear hown' hgrow hloc hnil; have CV := conv_all R3.out HK.out (Nat.lt_trans HS.out (by decide)) (by have := HP.out; rw [enc_small HS.out] at this; exact this) E HEE.out)
      go_ret
      exact ⟨by rw [put, HEE.out]; rfl, (row_step HB.out HO.out G3.out L3.out).2⟩
    · have hs1 : 128 ≤ (m : Int) := by omega
      have HS := Lib.hid hs
      have R' : Hid (∀ o, (wr.alloc o).ownsRow 0 5 1 (.slice a k cap) k (byteVals l)) := fun o => HR.out.alloc o
      have hk : k ≤ 10 := by have h1 := HE.out; rw [← HP.out] at h1; simp at h1; have := HK.out; omega
      obtain ⟨x, hx⟩ : ∃ x, 128 + m % 128 = x := ⟨_, rfl⟩
      have OR := or128 m
      rw [hx] at OR
      have hx2 : x < 256 := by omega
      have HX := Lib.hid hx
      have wq : IntKind.u64.wrap ((m : Int) / 128) = ((m / 128 : Nat) : Int) := by have := HM.out; rw [IntKind.wrap_u64]; omega
      clear hs hx
      go_wp2_with (at_builtin; refine wpList_append_own_at _ rfl _ _ 56 rfl 0 5 i0 (.int .u8 0) 1 1 Try.underlying56 II.out Z0.out Z1.out Z2.out rfl (by decide) _ _ _ rfl (R'.out _) ⟨wr.heap.size, 0, none⟩ 1 1 [.int .u8 x] rfl rfl (cell_one_new _ _ _) (by simp [Value.oneCell']) (by unfold maxLen; omega) (by omega) (by simp) ?_; intro v' w3 hown' hgrow hnil hloc; obtain ⟨a', cap', hv'⟩ := row_slice hown'; subst hv'; have R3 := Lib.hid hown'; have G3 := Lib.hid hgrow; have L3 := Lib.hid hloc; clear hown' hgrow hloc hnil)
      have hst := row_step HB.out HO.out G3.out L3.out
      have HR3 : Hid (w3.ownsRow 0 5 1 (.slice a' (k + 1) cap') (k + 1) (byteVals (l ++ [UInt8.ofNat x]))) := by
        have := R3.out; rw [vals_snoc l x hx2] at this; exact this
      go_roundw
      case rel => exact ⟨l ++ [UInt8.ofNat x], m / 128, k + 1, a', cap', by simp, rfl, (by have := HK.out; show _ = _; simp [this]), Nat.lt_of_le_of_lt (Nat.div_le_self _ _) HM.out, (by show _ = _; rw [← HP.out, enc_big HS.out, HX.out]; simp), HR3, hst.1, hst.2⟩
      case measure => simp [intOf]; omega
end Go.Proofs.Ytnjednndpphhlaa
