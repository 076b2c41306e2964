/- Int, Count and Text. -/
import Derived.Test.YtnjednndpphhlaaWg
namespace Go.Proofs.Ytnjednndpphhlaa
open Go.ChangeShapes Go.WideShapes Go.ChangeAt Go.RowKit Go.Maps Go.WideMaps

def unzz (n : Nat) : Int := if n % 2 = 1 then -((n / 2 : Nat) : Int) - 1 else ((n / 2 : Nat) : Int)
theorem and_one (n : Nat) (h : n < 18446744073709551616) : bits BinOp.and IntKind.u64 (n : Int) 1 = ((n % 2 : Nat) : Int) := by
  show IntKind.u64.wrap ↑(BitVec.ofInt 64 (n : Int) &&& BitVec.ofInt 64 1).toNat = _
  have e1 : (BitVec.ofInt 64 (n : Int)).toNat = n := by rw [BitVec.toNat_ofInt]; omega
  have e2 : (BitVec.ofInt 64 1).toNat = 1 := by decide
  rw [BitVec.toNat_and, e1, e2, Nat.and_one_is_mod, IntKind.wrap_u64]
  omega
set_option maxRecDepth 100000 in
theorem int_of {w : World} {p : Value} {n : Nat} {Q : World → Prop} (hn : n < 18446744073709551616) (h : Calls Try.prog 17 #[p] w fun en w' => en = .returned (.int .u64 n) ∧ Q w') :
    Calls Try.prog 19 #[p] w fun en w' => en = .returned (.int .i64 (unzz n)) ∧ Q w' := by
  have A := and_one n hn
  obtain ⟨m, hm⟩ : ∃ m : Nat, n / 2 = m := ⟨_, rfl⟩
  have w1 : IntKind.i64.wrap ((n : Int) / 2) = (m : Int) := by rw [IntKind.wrap_i64]; omega
  have X := xor_all (i := (m : Int)) (by omega) (by omega)
  have H := Lib.hid h; have HM := Lib.hid hm
  clear h hn hm
  by_cases hp : n % 2 = 1
  · have hu : unzz n = -((m : Int) + 1) := by rw [unzz, if_pos hp, HM.out]; omega
    rw [hp] at A
    have HU := Lib.hid hu
    clear hu hp
    go_enter Try.func19, Try.ntmps19
    go_wp2_with fail
    refine H.out.mono ?_; rintro e w1 ⟨rfl, b1⟩
    go_wp2_with fail
    go_ret
    exact ⟨by rw [HU.out]; rfl, b1⟩
  · have hp0 : n % 2 = 0 := by omega
    have hu : unzz n = (m : Int) := by rw [unzz, if_neg hp, HM.out]
    rw [hp0] at A
    have HU := Lib.hid hu
    clear hu hp hp0
    go_enter Try.func19, Try.ntmps19
    go_wp2_with fail
    refine H.out.mono ?_; rintro e w1 ⟨rfl, b1⟩
    go_wp2_with fail
    go_ret
    exact ⟨by rw [HU.out]; rfl, b1⟩

/- a count: its number, its length, its error -/
def cntN (n : Nat) (c most : Int) : Nat := if c = 0 ∧ (n : Int) ≤ max most 0 then n else 0
def cntK (n k : Nat) (c most : Int) : Nat := if c = 0 ∧ (n : Int) ≤ max most 0 then k else 0
def cntE (n : Nat) (c most : Int) : Int := if c = 0 then (if (n : Int) ≤ max most 0 then 0 else 5) else c
set_option maxRecDepth 100000 in
theorem pcount_any {w : World} {s : ByteArray} {n k : Nat} {c most : Int} (hs : s.size ≤ 1000000) (hp : Parse s n k c) (h0 : -9223372036854775808 ≤ most) (h1 : most ≤ 9223372036854775807) :
    Calls Try.prog 35 #[.string s, .int .i64 most] w fun en w' => en = .returned (.tuple #[.int .i64 (cntN n c most), .int .i64 (cntK n k c most), .int .i64 (cntE n c most)]) ∧ w = w' := by
  have HS := Lib.hid hs; have HP := Lib.hid hp
  by_cases hc : c = 0
  · subst hc
    obtain ⟨M, hM⟩ : ∃ M : Int, max most 0 = M := ⟨_, rfl⟩
    have m0 : 0 ≤ M := by omega
    have m1 : M ≤ 9223372036854775807 := by omega
    have wM : IntKind.u64.wrap M = M := by rw [IntKind.wrap_u64]; omega
    clear hp hs
    by_cases hl : (n : Int) ≤ M
    · have wn : IntKind.i64.wrap (n : Int) = n := by rw [IntKind.wrap_i64]; omega
      have e1 : cntN n 0 most = n := by rw [cntN, hM, if_pos ⟨rfl, hl⟩]
      have e2 : cntK n k 0 most = k := by rw [cntK, hM, if_pos ⟨rfl, hl⟩]
      have e3 : cntE n 0 most = 0 := by rw [cntE, hM, if_pos rfl, if_pos hl]
      have E1 := Lib.hid e1; have E2 := Lib.hid e2; have E3 := Lib.hid e3
      clear e1 e2 e3
      by_cases hm : most < 0
      · obtain rfl : M = 0 := by omega
        clear h0 h1
        go_enter Try.func35, Try.ntmps35
        go_wp2_with fail
        refine (parse_any s _ HS.out).mono ?_; rintro e w1 ⟨n', k', c', hp', rfl, rfl⟩
        obtain ⟨rfl, rfl, rfl⟩ := hp'.unique HP.out
        clear hp'
        go_wp2_with fail
        go_ret3
        exact ⟨by rw [E1.out, E2.out, E3.out]; rfl, rfl⟩
      · obtain rfl : M = most := by omega
        clear h0 h1
        go_enter Try.func35, Try.ntmps35
        go_wp2_with fail
        refine (parse_any s _ HS.out).mono ?_; rintro e w1 ⟨n', k', c', hp', rfl, rfl⟩
        obtain ⟨rfl, rfl, rfl⟩ := hp'.unique HP.out
        clear hp'
        go_wp2_with fail
        go_ret3
        exact ⟨by rw [E1.out, E2.out, E3.out]; rfl, rfl⟩
    · have e1 : cntN n 0 most = 0 := by rw [cntN, hM, if_neg (fun h => hl h.2)]
      have e2 : cntK n k 0 most = 0 := by rw [cntK, hM, if_neg (fun h => hl h.2)]
      have e3 : cntE n 0 most = 5 := by rw [cntE, hM, if_pos rfl, if_neg hl]
      have E1 := Lib.hid e1; have E2 := Lib.hid e2; have E3 := Lib.hid e3
      have hl2 : M < (n : Int) := by omega
      clear e1 e2 e3 hl
      by_cases hm : most < 0
      · obtain rfl : M = 0 := by omega
        clear h0 h1
        go_enter Try.func35, Try.ntmps35
        go_wp2_with fail
        refine (parse_any s _ HS.out).mono ?_; rintro e w1 ⟨n', k', c', hp', rfl, rfl⟩
        obtain ⟨rfl, rfl, rfl⟩ := hp'.unique HP.out
        clear hp'
        go_wp2_with fail
        go_ret3
        exact ⟨by rw [E1.out, E2.out, E3.out]; rfl, rfl⟩
      · obtain rfl : M = most := by omega
        clear h0 h1
        go_enter Try.func35, Try.ntmps35
        go_wp2_with fail
        refine (parse_any s _ HS.out).mono ?_; rintro e w1 ⟨n', k', c', hp', rfl, rfl⟩
        obtain ⟨rfl, rfl, rfl⟩ := hp'.unique HP.out
        clear hp'
        go_wp2_with fail
        go_ret3
        exact ⟨by rw [E1.out, E2.out, E3.out]; rfl, rfl⟩
  · have e1 : cntN n c most = 0 := by rw [cntN, if_neg (fun h => hc h.1)]
    have e2 : cntK n k c most = 0 := by rw [cntK, if_neg (fun h => hc h.1)]
    have e3 : cntE n c most = c := by rw [cntE, if_neg hc]
    have E1 := Lib.hid e1; have E2 := Lib.hid e2; have E3 := Lib.hid e3
    have hb : (c != 0) = true := by simpa using hc
    clear e1 e2 e3 hp hs hc
    clear h0 h1
    go_enter Try.func35, Try.ntmps35
    go_wp2_with fail
    refine (parse_any s _ HS.out).mono ?_; rintro e w1 ⟨n', k', c', hp', rfl, rfl⟩
    obtain ⟨rfl, rfl, rfl⟩ := hp'.unique HP.out
    clear hp'
    go_wp2_with fail
    go_ret3
    exact ⟨by rw [E1.out, E2.out, E3.out]; rfl, rfl⟩
end Go.Proofs.Ytnjednndpphhlaa
