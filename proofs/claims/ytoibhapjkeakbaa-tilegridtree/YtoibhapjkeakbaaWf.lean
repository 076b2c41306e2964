/- Tiles: Tile and its reference. -/
import Derived.Test.YtoibhapjkeakbaaWe
namespace Go.Proofs.Ytoibhapjkeakbaa
open Go.ChangeShapes Go.WideShapes Go.ChangeAt Go.RowKit Go.Joins Go.Deep

def tz (i : Int) : Int := if i < 1 then 0 else if i < 5 then 1 else if i < 21 then 2 else if i < 85 then 3 else if i < 341 then 4 else if i < 1365 then 5 else if i < 5461 then 6 else 7
def okN (i : Int) : Bool := decide (0 ≤ i ∧ i < 21845)
def tileT (i : Int) : Value := if okN i = true then .tuple #[tl (tz i) ((i - bef (tz i)) % cnt (tz i)) ((i - bef (tz i)) / cnt (tz i)), .bool true] else .tuple #[tl 0 0 0, .bool false]
theorem tile_no {i : Int} (h : okN i = false) : Ending.returned (tileT i) = .returned (.tuple #[tl 0 0 0, .bool false]) := by unfold tileT; rw [if_neg (by rw [h]; simp)]
theorem bef_val : bef 0 = 0 ∧ bef 1 = 1 ∧ bef 2 = 5 ∧ bef 3 = 21 ∧ bef 4 = 85 ∧ bef 5 = 341 ∧ bef 6 = 1365 ∧ bef 7 = 5461 ∧ bef 8 = 21845 := by decide
theorem tz_eq {i z : Int} (h0 : 0 ≤ z) (h1 : z ≤ 7) (h2 : bef z ≤ i) (h3 : i < bef (z + 1)) : tz i = z := by
  obtain ⟨b0, b1, b2, b3, b4, b5, b6, b7, b8⟩ := bef_val
  rcases z8 h0 h1 with rfl | rfl | rfl | rfl | rfl | rfl | rfl | rfl <;> simp only [Int.zero_add, Int.reduceAdd, b0, b1, b2, b3, b4, b5, b6, b7, b8] at h2 h3 <;> unfold tz <;> (repeat (first | rw [if_pos (by omega)] | rw [if_neg (by omega)]))
theorem tile_at {i z : Int} (h0 : 0 ≤ z) (h1 : z ≤ 7) (h2 : bef z ≤ i) (h3 : i < bef (z + 1)) : Ending.returned (tileT i) = .returned (.tuple #[tl z ((i - bef z) % cnt z) ((i - bef z) / cnt z), .bool true]) := by
  have hb := bef_bd h0 (by omega)
  have hb2 := bef_bd (z := z + 1) (by omega) (by omega)
  unfold tileT; rw [if_pos (by unfold okN; simp; omega), tz_eq h0 h1 h2 h3]
set_option maxHeartbeats 4000000 in
theorem tile_any (id : Int) (w : World) (hI : I64 id) :
    Calls Try.prog 20 #[.int .i64 id] w fun e w' => e = .returned (tileT id) ∧ Below w.heap.size w w' := by
  obtain ⟨hI0, hI1⟩ := hI
  by_cases hneg : id < 0
  · have HO := Lib.hid (tile_no (i := id) (by unfold okN; simp; omega))
    go_enter Try.func20, Try.ntmps20
    go_wp2
    refine bodyPost_ret (by simp [results, Try.results20, go_sem] <;> rfl) rfl ⟨HO.out.symm, ?_⟩
    (repeat (first | exact Below.refl _ _ | (refine Below.drew ?_) | (refine below_drewN ?_ _) | (refine Below.alloc ?_ (by first | omega | (simp <;> omega)) _) | (refine Below.setCell ?_ (by first | omega | (simp <;> omega)) _) | (refine Below.trans ?_ (Below.mono (by assumption) (by first | omega | (simp <;> omega))))))
  · have hpos : 0 ≤ id := by omega
    clear hneg
    go_enter Try.func20, Try.ntmps20
    go_wp2_with fail
    go_loopw [0, 9] (fun s0 sl wr => Hid (wr = w.alloc (.cells #[.int .i64 0, .int .i64 0, .int .i64 0] 23)) ∧ ∃ i : Nat, i ≤ 8 ∧ sl = .int .i64 (i : Int) ∧ s0 = .int .i64 (id - bef i) ∧ Hid (bef i ≤ id)) (fun _ sl _ => 8 - (intOf sl).toNat)
    case atStart => exact ⟨rfl, 0, by omega, rfl, (by simp [bef]), hpos⟩
    case round =>
      obtain ⟨HW, i, hi, rfl, rfl, HBI⟩ := hrel
      have hwe := HW.out; subst hwe
      obtain ⟨f0, f1⟩ := bef_bd (z := (i : Int)) (by omega) (by omega)
      by_cases hij : i < 8
      · obtain ⟨s0, s1⟩ := sq_bd (z := (i : Int)) (by omega) (by omega)
        obtain ⟨c0, c1⟩ := cnt_bd (z := (i : Int)) (by omega) (by omega)
        have HE := Lib.hid (bef_succ (z := (i : Int)) (by omega) (by omega))
        have HT := Lib.hid (fun a b => tile_at (i := id) (z := (i : Int)) (by omega) (by omega) a b)
        have i0 : (0 : Int) ≤ (i : Int) := by omega
        have i7 : (i : Int) ≤ 7 := by omega
        obtain ⟨c, hcc⟩ : ∃ c, cnt (i : Int) = c := ⟨_, rfl⟩
        obtain ⟨f, hff⟩ : ∃ c, bef (i : Int) = c := ⟨_, rfl⟩
        have CC : Hid (∀ W, Calls Try.prog 37 #[.int .i64 (i : Int)] W fun e w' => e = .returned (.int .i64 c) ∧ W = w') := by
          intro W; rw [← hcc]; exact count_any _ W i0 i7
        rw [hcc] at s0 s1 c0 c1 HE HT
        rw [hff] at f0 f1 HE HT HBI ⊢
        have hb := HBI.out
        clear hcc hff
        by_cases hlt : id - f < c * c
        · have HT2 := Lib.hid (HT.out hb (by rw [HE.out]; omega))
          clear HT
          have r0 : 0 ≤ id - f := by omega
          have t1 : (id - f).tmod c = (id - f) % c := Int.tmod_eq_emod_of_nonneg r0
          have t2 : (id - f).tdiv c = (id - f) / c := Int.tdiv_eq_ediv_of_nonneg r0
          have q0 : 0 ≤ (id - f) / c := Int.ediv_nonneg r0 (by omega)
          have q1 : (id - f) / c ≤ id - f := Int.ediv_le_self c r0
          have ne : ¬ (c = 0) := by omega
          obtain ⟨M, hM⟩ : ∃ M, (id - f) % c = M := ⟨_, rfl⟩
          obtain ⟨D, hD⟩ : ∃ M, (id - f) / c = M := ⟨_, rfl⟩
          rw [hM] at t1 HT2; rw [hD] at t2 q0 q1 HT2
          clear hM hD
          have WD := Lib.hid (w64 (z := D) (by omega) (by omega))
          have DL := Lib.hid (show decide (id - f < c * c) = true by simp; omega)
          go_wp2_with fail
          refine (CC.out _).mono ?_; rintro e w2 ⟨rfl, rfl⟩
          go_wp2_with fail
          have wd := WD.out
          go_region
          all_goals go_wp2
          all_goals
            refine bodyPost_ret (by simp [results, Try.results20, go_sem] <;> rfl) rfl ⟨HT2.out.symm, ?_⟩
            (repeat (first | exact Below.refl _ _ | (refine Below.drew ?_) | (refine below_drewN ?_ _) | (refine Below.alloc ?_ (by first | omega | (simp <;> omega)) _) | (refine Below.setCell ?_ (by first | omega | (simp <;> omega)) _) | (refine Below.trans ?_ (Below.mono (by assumption) (by first | omega | (simp <;> omega))))))
        · clear HT
          go_wp2_with fail
          refine (CC.out _).mono ?_; rintro e w2 ⟨rfl, rfl⟩
          go_wp2_with fail
          go_roundw
          case rel => exact ⟨(by first | exact rfl | trivial), i + 1, by omega, by go_num, by rw [show ((i + 1 : Nat) : Int) = (i : Int) + 1 by omega, HE.out, show id - f - c * c = id - (f + c * c) by omega], (by show bef ((i + 1 : Nat) : Int) ≤ id; rw [show ((i + 1 : Nat) : Int) = (i : Int) + 1 by omega, HE.out]; omega)⟩
          case measure => simp [intOf]; omega
      · obtain rfl : i = 8 := by omega
        have HO := Lib.hid (tile_no (i := id) (by have := HBI.out; have e := bef_val.2.2.2.2.2.2.2.2; unfold okN; simp; intro _; rw [show ((8 : Nat) : Int) = 8 from rfl, e] at this; exact this))
        go_wp2
        refine bodyPost_ret (by simp [results, Try.results20, go_sem] <;> rfl) rfl ⟨HO.out.symm, ?_⟩
        (repeat (first | exact Below.refl _ _ | (refine Below.drew ?_) | (refine below_drewN ?_ _) | (refine Below.alloc ?_ (by first | omega | (simp <;> omega)) _) | (refine Below.setCell ?_ (by first | omega | (simp <;> omega)) _) | (refine Below.trans ?_ (Below.mono (by assumption) (by first | omega | (simp <;> omega))))))
set_option maxHeartbeats 4000000 in
theorem tiler_any (id : Int) (w : World) (hI : I64 id) :
    Calls Try.prog 21 #[.int .i64 id] w fun e w' => e = .returned (tileT id) ∧ Below w.heap.size w w' := by
  obtain ⟨hI0, hI1⟩ := hI
  by_cases hneg : id < 0
  · have HO := Lib.hid (tile_no (i := id) (by unfold okN; simp; omega))
    go_enter Try.func21, Try.ntmps21
    go_wp2
    refine bodyPost_ret (by simp [results, Try.results21, go_sem] <;> rfl) rfl ⟨HO.out.symm, ?_⟩
    (repeat (first | exact Below.refl _ _ | (refine Below.drew ?_) | (refine below_drewN ?_ _) | (refine Below.alloc ?_ (by first | omega | (simp <;> omega)) _) | (refine Below.setCell ?_ (by first | omega | (simp <;> omega)) _) | (refine Below.trans ?_ (Below.mono (by assumption) (by first | omega | (simp <;> omega))))))
  · have hpos : 0 ≤ id := by omega
    clear hneg
    go_enter Try.func21, Try.ntmps21
    go_wp2_with fail
    go_loopw [0, 4] (fun s0 sl wr => Hid (wr = w.alloc (.cells #[.int .i64 0, .int .i64 0, .int .i64 0] 23)) ∧ ∃ i : Nat, i ≤ 8 ∧ sl = .int .i64 (i : Int) ∧ s0 = .int .i64 (id - bef i) ∧ Hid (bef i ≤ id)) (fun _ sl _ => 8 - (intOf sl).toNat)
    case atStart => exact ⟨rfl, 0, by omega, rfl, (by simp [bef]), hpos⟩
    case round =>
      obtain ⟨HW, i, hi, rfl, rfl, HBI⟩ := hrel
      have hwe := HW.out; subst hwe
      obtain ⟨f0, f1⟩ := bef_bd (z := (i : Int)) (by omega) (by omega)
      by_cases hij : i < 8
      · obtain ⟨s0, s1⟩ := sq_bd (z := (i : Int)) (by omega) (by omega)
        obtain ⟨c0, c1⟩ := cnt_bd (z := (i : Int)) (by omega) (by omega)
        have HE := Lib.hid (bef_succ (z := (i : Int)) (by omega) (by omega))
        have HT := Lib.hid (fun a b => tile_at (i := id) (z := (i : Int)) (by omega) (by omega) a b)
        have i0 : (0 : Int) ≤ (i : Int) := by omega
        have i7 : (i : Int) ≤ 7 := by omega
        obtain ⟨c, hcc⟩ : ∃ c, cnt (i : Int) = c := ⟨_, rfl⟩
        obtain ⟨f, hff⟩ : ∃ c, bef (i : Int) = c := ⟨_, rfl⟩
        have CC : Hid (∀ W, Calls Try.prog 36 #[.int .i64 (i : Int)] W fun e w' => e = .returned (.int .i64 c) ∧ W = w') := by
          intro W; rw [← hcc]; exact power_any _ W i0 i7
        rw [hcc] at s0 s1 c0 c1 HE HT
        rw [hff] at f0 f1 HE HT HBI ⊢
        have hb := HBI.out
        clear hcc hff
        by_cases hlt : id - f < c * c
        · have HT2 := Lib.hid (HT.out hb (by rw [HE.out]; omega))
          clear HT
          have r0 : 0 ≤ id - f := by omega
          have t1 : (id - f).tmod c = (id - f) % c := Int.tmod_eq_emod_of_nonneg r0
          have t2 : (id - f).tdiv c = (id - f) / c := Int.tdiv_eq_ediv_of_nonneg r0
          have q0 : 0 ≤ (id - f) / c := Int.ediv_nonneg r0 (by omega)
          have q1 : (id - f) / c ≤ id - f := Int.ediv_le_self c r0
          have ne : ¬ (c = 0) := by omega
          obtain ⟨M, hM⟩ : ∃ M, (id - f) % c = M := ⟨_, rfl⟩
          obtain ⟨D, hD⟩ : ∃ M, (id - f) / c = M := ⟨_, rfl⟩
          rw [hM] at t1 HT2; rw [hD] at t2 q0 q1 HT2
          clear hM hD
          have WD := Lib.hid (w64 (z := D) (by omega) (by omega))
          have DL := Lib.hid (show decide (id - f < c * c) = true by simp; omega)
          go_wp2_with fail
          refine (CC.out _).mono ?_; rintro e w2 ⟨rfl, rfl⟩
          go_wp2_with fail
          refine (CC.out _).mono ?_; rintro e w2 ⟨rfl, rfl⟩
          go_wp2_with fail
          have wd := WD.out
          go_region_held3 (fun _ => True)
            (trivial) (first | (go_at_call 36; (with_reducible refine (CC.out _).mono ?_); rintro e w' ⟨rfl, rfl⟩))
          all_goals go_wp2
          all_goals
            refine bodyPost_ret (by simp [results, Try.results21, go_sem] <;> rfl) rfl ⟨HT2.out.symm, ?_⟩
            (repeat (first | exact Below.refl _ _ | (refine Below.drew ?_) | (refine below_drewN ?_ _) | (refine Below.alloc ?_ (by first | omega | (simp <;> omega)) _) | (refine Below.setCell ?_ (by first | omega | (simp <;> omega)) _) | (refine Below.trans ?_ (Below.mono (by assumption) (by first | omega | (simp <;> omega))))))
        · clear HT
          go_wp2_with fail
          refine (CC.out _).mono ?_; rintro e w2 ⟨rfl, rfl⟩
          go_wp2_with fail
          refine (CC.out _).mono ?_; rintro e w2 ⟨rfl, rfl⟩
          go_wp2_with fail
          refine (CC.out _).mono ?_; rintro e w2 ⟨rfl, rfl⟩
          go_wp2_with fail
          refine (CC.out _).mono ?_; rintro e w2 ⟨rfl, rfl⟩
          go_wp2_with fail
          go_roundw
          case rel => exact ⟨(by first | exact rfl | trivial), i + 1, by omega, by go_num, by rw [show ((i + 1 : Nat) : Int) = (i : Int) + 1 by omega, HE.out, show id - f - c * c = id - (f + c * c) by omega], (by show bef ((i + 1 : Nat) : Int) ≤ id; rw [show ((i + 1 : Nat) : Int) = (i : Int) + 1 by omega, HE.out]; omega)⟩
          case measure => simp [intOf]; omega
      · obtain rfl : i = 8 := by omega
        have HO := Lib.hid (tile_no (i := id) (by have := HBI.out; have e := bef_val.2.2.2.2.2.2.2.2; unfold okN; simp; intro _; rw [show ((8 : Nat) : Int) = 8 from rfl, e] at this; exact this))
        go_wp2
        refine bodyPost_ret (by simp [results, Try.results21, go_sem] <;> rfl) rfl ⟨HO.out.symm, ?_⟩
        (repeat (first | exact Below.refl _ _ | (refine Below.drew ?_) | (refine below_drewN ?_ _) | (refine Below.alloc ?_ (by first | omega | (simp <;> omega)) _) | (refine Below.setCell ?_ (by first | omega | (simp <;> omega)) _) | (refine Below.trans ?_ (Below.mono (by assumption) (by first | omega | (simp <;> omega))))))

end Go.Proofs.Ytoibhapjkeakbaa
