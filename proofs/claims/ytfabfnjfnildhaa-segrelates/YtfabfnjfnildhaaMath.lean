/- Plain arithmetic of the grid. -/
import Derived.WalkKit
namespace Go.Proofs.Ytfabfnjfnildhaa

def clampZ (x lo hi : Int) : Int := if x < lo then lo else if hi < x then hi else x
def minZ (a b : Int) : Int := if b < a then b else a
def maxZ (a b : Int) : Int := if a < b then b else a
def vldB (x y : Int) : Bool := decide (0 ≤ x ∧ x ≤ 32767 ∧ 0 ≤ y ∧ y ≤ 32767)
def goodB (a b c d : Int) : Bool := decide (0 ≤ a ∧ a ≤ c ∧ c ≤ 32768 ∧ 0 ≤ b ∧ b ≤ d ∧ d ≤ 32768)
def inB (lon lat : Int) : Bool := decide (-1800000000 ≤ lon ∧ lon ≤ 1800000000 ∧ -900000000 ≤ lat ∧ lat ≤ 900000000)
def px (lon : Int) : Int := min ((lon + 1800000000) * 32768 / 3600000000) 32767
def py (lat : Int) : Int := min ((900000000 - lat) * 32768 / 1800000000) 32767
def cx (x : Int) : Int := (2 * x + 1) * 1800000000 / 32768 - 1800000000
def cy (y : Int) : Int := 900000000 - (2 * y + 1) * 900000000 / 32768

theorem vldB_iff {x y : Int} : vldB x y = true ↔ (0 ≤ x ∧ x ≤ 32767 ∧ 0 ≤ y ∧ y ≤ 32767) := by unfold vldB; simp
theorem goodB_iff {a b c d : Int} : goodB a b c d = true ↔ (0 ≤ a ∧ a ≤ c ∧ c ≤ 32768 ∧ 0 ≤ b ∧ b ≤ d ∧ d ≤ 32768) := by unfold goodB; simp
theorem inB_iff {a b : Int} : inB a b = true ↔ (-1800000000 ≤ a ∧ a ≤ 1800000000 ∧ -900000000 ≤ b ∧ b ≤ 900000000) := by unfold inB; simp
theorem clamp_eq {x a c : Int} : (clampZ x a c = x) ↔ (a ≤ x ∧ x ≤ c) := by
  unfold clampZ; split <;> (try split) <;> omega
theorem px_bd {l : Int} (h0 : -1800000000 ≤ l) (h1 : l ≤ 1800000000) : 0 ≤ px l ∧ px l ≤ 32767 := by unfold px; omega
theorem py_bd {l : Int} (h0 : -900000000 ≤ l) (h1 : l ≤ 900000000) : 0 ≤ py l ∧ py l ≤ 32767 := by unfold py; omega
theorem px_cx {x : Int} (h0 : 0 ≤ x) (h1 : x ≤ 32767) : px (cx x) = x := by unfold px cx; omega
theorem py_cy {x : Int} (h0 : 0 ≤ x) (h1 : x ≤ 32767) : py (cy x) = x := by unfold py cy; omega
theorem cx_bd {x : Int} (h0 : 0 ≤ x) (h1 : x ≤ 32767) : -1800000000 ≤ cx x ∧ cx x ≤ 1800000000 := by unfold cx; omega
theorem cy_bd {x : Int} (h0 : 0 ≤ x) (h1 : x ≤ 32767) : -900000000 ≤ cy x ∧ cy x ≤ 900000000 := by unfold cy; omega
theorem px_mono {a b : Int} (h : a ≤ b) : px a ≤ px b := by unfold px; omega
theorem py_mono {a b : Int} (h : a ≤ b) : py b ≤ py a := by unfold py; omega
end Go.Proofs.Ytfabfnjfnildhaa
