/- device: the example of the chapter. -/
import Derived.Test.YtgadplgjpemdaaaVd
set_option linter.unusedSimpArgs false
namespace Go.Proofs.Ytgadplgjpemdaaa
open Go.ChangeShapes Go.WideShapes Go.ChangeAt Go.RowKit Go.Joins Go.Deep

def sAB : ByteArray := ⟨#[97, 98]⟩
def sC : ByteArray := ⟨#[99]⟩
def sPad : ByteArray := ⟨(padL sAB).toArray⟩
theorem sPad_size : sPad.size = 64 := by kernel_rfl
theorem sPad_head : sPad.extract 0 3 = ⟨#[97, 98, 0]⟩ := by kernel_rfl
theorem rd_ex : rd 2 ((zbs 2).set 1 (padL sAB)) 1 = sPad := by
  unfold rd; rw [if_neg (by decide)]; rfl
set_option maxRecDepth 100000 in
set_option maxHeartbeats 4000000 in
theorem lives_any (w : World) : Calls Try.prog 7 #[] w fun e w' => e = .returned (.bool true) ∧ Below w.heap.size w w' := by
  have N2 := Lib.hid (new_any w 2 (by decide) (by decide))
  go_enter Try.func7, Try.ntmps7
  go_wp2_with fail
  refine (show Calls Try.prog 8 #[.int .i64 2] w _ from N2.out).mono ?_; rintro e w1 ⟨D, rfl, hd, b⟩
  have D1 := Lib.hid hd; have B1 := Lib.hid b
  clear hd b N2
  go_wp2_with fail
  refine (new_none w1 0 (Or.inl (by decide))).mono ?_; rintro e w2 ⟨rfl, hw⟩
  subst hw
  go_wp2_with fail
  refine (limit_any D1.out 1 (by decide)).mono ?_; rintro e w3 ⟨rfl, hd, b⟩
  have D3 := Lib.hid hd; have B3 := Lib.hid (B1.out.trans b)
  clear hd b
  go_wp2_with fail
  refine (show Calls Try.prog 11 #[pD D, .int .i64 1, .string sAB] w3 _ from write_ok D3.out 1 sAB (by decide) (by decide) (by decide) (by decide) B3.out.size).mono ?_; rintro e w4 ⟨rfl, hd, b⟩
  have D4 := Lib.hid hd; have B4 := Lib.hid (B3.out.trans b)
  clear hd b
  go_wp2_with fail
  refine (show Calls Try.prog 11 #[pD D, .int .i64 0, .string sC] w4 _ from write_bad D4.out 0 sC (by decide)).mono ?_; rintro e w5 ⟨rfl, hw⟩
  subst hw
  have e20 : werr 2 true (lf1 true (mx0 1)) 0 sC = 20 := by decide
  rw [e20]
  clear e20
  go_wp2_with fail
  refine (show Calls Try.prog 13 #[pD D, .int .i64 1] w5 _ from read_any D4.out 1).mono ?_; rintro e w6 ⟨rfl, hw⟩
  subst hw
  have e0 : cerr 2 1 = 0 := by decide
  rw [rd_ex, e0]
  clear e0
  obtain ⟨sp, hsp⟩ : ∃ sp, sPad = sp := ⟨_, rfl⟩
  have z64 := sPad_size; have zh := sPad_head
  rw [hsp] at z64 zh ⊢
  clear hsp
  go_wp2_with fail
  refine (writes_any D4.out).mono ?_; rintro e w7 ⟨rfl, hw⟩
  subst hw
  go_wp2_with fail
  go_ret
  exact ⟨rfl, B4.out⟩
end Go.Proofs.Ytgadplgjpemdaaa
