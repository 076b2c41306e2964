/- Tiles: FloorDiv, Same. -/
import Derived.Test.YtoibhapjkeakbaaWg
namespace Go.Proofs.Ytoibhapjkeakbaa
open Go.ChangeShapes Go.WideShapes Go.ChangeAt Go.RowKit Go.Joins Go.Deep

def RetTs (l : List Tl) (w : World) (e : Ending) (w' : World) : Prop := ∃ v, e = .returned v ∧ TsAt w' v l ∧ Below w.heap.size w w'
theorem floor_any (a b : Int) (w : World) (h0 : -1 ≤ a) (h1 : a ≤ 32768) (hb : 256 ≤ b) (hb2 : b ≤ 32768) :
    Calls Try.prog 40 #[.int .i64 a, .int .i64 b] w fun e w' => e = .returned (.int .i64 (a / b)) ∧ w = w' := by
  by_cases ha : a = -1
  · subst ha
    have q : (-1 : Int).tdiv b = 0 := by rw [Int.neg_tdiv, Int.tdiv_eq_ediv_of_nonneg (by omega), Int.ediv_eq_zero_of_lt (by omega) (by omega)]; rfl
    have m : (-1 : Int).tmod b = -1 := by rw [Int.neg_tmod, Int.tmod_eq_emod_of_nonneg (by omega), Int.emod_eq_of_lt (by omega) (by omega)]
    have E := Lib.hid (show (-1 : Int) / b = -1 by
      have := Int.mul_ediv_add_emod (-1) b
      have := Int.emod_nonneg (-1) (show b ≠ 0 by omega)
      have := Int.emod_lt_of_pos (-1) (show 0 < b by omega)
      exact Int.ediv_eq_neg_one_of_neg_of_le (by omega) (by omega))
    have ne : ¬ (b = 0) := by omega
    clear h0 h1
    go_enter Try.func40, Try.ntmps40
    go_wp2
    go_ret
    exact ⟨ret_i64 (by rw [E.out]), rfl⟩
  · have a0 : 0 ≤ a := by omega
    have q : a.tdiv b = a / b := Int.tdiv_eq_ediv_of_nonneg a0
    have m : a.tmod b = a % b := Int.tmod_eq_emod_of_nonneg a0
    have q0 : 0 ≤ a / b := Int.ediv_nonneg a0 (by omega)
    have q1 : a / b ≤ a := Int.ediv_le_self b a0
    have m0 : 0 ≤ a % b := Int.emod_nonneg _ (by omega)
    have ne : ¬ (b = 0) := by omega
    obtain ⟨Q, hQ⟩ : ∃ Q, a / b = Q := ⟨_, rfl⟩
    obtain ⟨M, hM⟩ : ∃ Q, a % b = Q := ⟨_, rfl⟩
    rw [hQ] at q q0 q1 ⊢; rw [hM] at m m0
    clear hQ hM ha
    go_enter Try.func40, Try.ntmps40
    go_wp2
    go_ret
    exact ⟨rfl, rfl⟩
theorem draw_more {w wr : World} {n : Nat} (h : ∃ q, wr = w.drewN q) : ∃ q, wr.drewN n = w.drewN q := by
  obtain ⟨q, rfl⟩ := h; exact ⟨q + n, by rw [World.drewN_drewN]⟩
theorem TsAt.drewN {w : World} {v : Value} {l : List Tl} (h : TsAt w v l) (q : Nat) : TsAt (w.drewN q) v l := h.below (below_drewN (Below.refl _ _) q)
set_option maxRecDepth 100000 in
set_option maxHeartbeats 4000000 in
theorem same_any {w : World} {va vb : Value} {l : List Tl} (h1 : TsAt w va l) (h2 : TsAt w vb l) (hl : l.length ≤ 20000) :
    Calls Try.prog 22 #[va, vb] w fun e w' => e = .returned (.bool true) ∧ ∃ q, w' = w.drewN q := by
  obtain ⟨aa, ca, rfl⟩ := h1.form
  obtain ⟨ab, cb, rfl⟩ := h2.form
  obtain ⟨n, hn⟩ : ∃ n, l.length = n := ⟨_, rfl⟩
  rw [hn] at h1 h2 hl ⊢
  have H1 := Lib.hid h1; have H2 := Lib.hid h2; have HN := Lib.hid hn
  clear h1 h2 hn
  go_enter Try.func22, Try.ntmps22
  go_wp2_with fail
  go_loopw [5] (fun s5 wr => ∃ k : Nat, k ≤ n ∧ s5 = .int .i64 (k : Int) ∧ Hid (∃ q, wr = w.drewN q)) (fun s5 _ => n - (intOf s5).toNat)
  case atStart => exact ⟨0, by omega, rfl, ⟨0, rfl⟩⟩
  case round =>
    obtain ⟨k, hk, rfl, HQ⟩ := hrel
    by_cases hkn : k < n
    · have hk' : k < l.length := by have := HN.out; omega
      have t1 : TsAt wr (.slice aa n ca) l := by obtain ⟨q, rfl⟩ := HQ.out; exact H1.out.drewN q
      have t2 : TsAt wr (.slice ab n cb) l := by obtain ⟨q, rfl⟩ := HQ.out; exact H2.out.drewN q
      obtain ⟨b1, o1, e1, x1, x2, x3⟩ := t1.at hk'
      obtain ⟨b2, o2, e2, y1, y2, y3⟩ := t2.at hk'
      subst e1 e2
      clear t1 t2 hk'
      obtain ⟨t, ht⟩ : ∃ t, l.getD k (0, 0, 0) = t := ⟨_, rfl⟩
      rw [ht] at x1 x2 x3 y1 y2 y3
      clear ht
      obtain ⟨p, q, r⟩ := t
      have i1 : (0 : Int) ≤ (k : Int) := by omega
      have i2 : (k : Int) < (n : Int) := by omega
      go_wp2_with fail
      go_quiet (fail)
      go_wp2
      go_roundw
      case rel => exact ⟨k + 1, by omega, by go_num, draw_more HQ.out⟩
      case measure => simp [intOf]; omega
    · go_wp2
      go_ret
      exact ⟨rfl, HQ.out⟩
end Go.Proofs.Ytoibhapjkeakbaa
