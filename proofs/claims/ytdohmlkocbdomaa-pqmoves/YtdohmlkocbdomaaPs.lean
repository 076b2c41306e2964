/- pq: PqMoves. -/
import Derived.Test.YtdohmlkocbdomaaPr
namespace Go.Proofs.Ytdohmlkocbdomaa
open Go.ChangeShapes Go.WideShapes Go.ChangeAt Go.RowKit Go.Joins Go.Deep

theorem rep_get {α : Type} {n i : Nat} {x : α} (h : i < n) : (List.replicate n x)[i]? = some x := by rw [List.getElem?_replicate, if_pos h]
theorem agree_refl (ins : List Bool) (ks : List Int) : Agree ins ks ks := fun _ _ => rfl
set_option maxRecDepth 100000 in
set_option maxHeartbeats 4000000 in
theorem moves_main {w : World} {a0 a1 : Option Addr} {c0 c1 n : Nat} {fs ls : List Int} (h0 : IntsAt w (.slice a0 n c0) fs) (h1 : IntsAt w (.slice a1 n c1) ls) (hf : fs.length = n) (hl : ls.length = n) (hn : n ≤ 100) :
    Calls Try.prog 5 #[.slice a0 n c0, .slice a1 n c1] w fun e w' => e = .returned (.bool true) ∧ Below w.heap.size w w' := by
  have A0 := Lib.hid h0; have A1 := Lib.hid h1; have HF := Lib.hid hf; have HL := Lib.hid hl; have HN := Lib.hid hn
  have NE := Lib.hid (fun W => new_any n (by omega) W)
  have n1 : ¬ (100 : Int) < (n : Int) := by omega
  clear h0 h1 hf hl hn
  go_enter Try.func5, Try.ntmps5
  go_wp2_with fail
  refine (NE.out _).mono ?_; rintro e w1 p1
  have P1 := Lib.hid p1
  obtain ⟨qb, F, rfl, _⟩ := p1
  go_wp2_with fail
  refine (NE.out _).mono ?_; rintro e w2 p2
  have P2 := Lib.hid p2
  obtain ⟨rb, G, rfl, _⟩ := p2
  obtain ⟨qb', rb', e1, e2, t⟩ := two_new P1.out P2.out
  injection e1 with e1; injection e1 with e1; injection e1 with e1; injection e1 with e1; subst e1
  injection e2 with e2; injection e2 with e2; injection e2 with e2; injection e2 with e2; subst e2
  have T0 := Lib.hid t
  clear t P1 P2
  go_wp2_with fail
  go_loopw [7] (fun s7 wr => ∃ i : Nat, i ≤ n ∧ s7 = .int .i64 (i : Int) ∧ Hid (Two w wr qb rb (mix i (List.replicate n true) (List.replicate n false)) (mix i fs (List.replicate n 0)) (List.replicate n false) (List.replicate n 0))) (fun s7 _ => n - (intOf s7).toNat)
  case atStart => exact ⟨0, Nat.zero_le _, rfl, by show Two _ _ _ _ _ _ _ _; rw [mix_zero, mix_zero]; exact T0.out⟩
  case round =>
    clear T0
    obtain ⟨i, hi, rfl, T⟩ := hrel
    by_cases hin : i < n
    · obtain ⟨b, off, rfl, cx⟩ := A0.out.at_ (j := i) T.out.below (by rw [HF.out]; exact hin)
      obtain ⟨x, hx⟩ : ∃ x, fs.getD i 0 = x := ⟨_, rfl⟩
      rw [hx] at cx
      have HX := Lib.hid hx
      obtain ⟨i1, hi1⟩ : ∃ i1, i + 1 = i1 := ⟨_, rfl⟩
      have HI := Lib.hid hi1
      have i0 : (0 : Int) ≤ (i : Int) := by omega
      have il : (i : Int) < (n : Int) := by omega
      have w1' : (i : Int) + 1 = (i1 : Int) := by omega
      have w2' : IntKind.i64.wrap (i1 : Int) = (i1 : Int) := by rw [IntKind.wrap_i64]; have := HN.out; omega
      clear hx hi1
      go_wp2_with fail
      refine (two_set T.out (X := i) (by rw [mix_len _ _ _ (by simp)]; simpa using hin) x).mono ?_; rintro e w3 ⟨rfl, t⟩
      have T2 : Hid (Two w w3 qb rb (mix i1 (List.replicate n true) (List.replicate n false)) (mix i1 fs (List.replicate n 0)) (List.replicate n false) (List.replicate n 0)) := by
        rw [mix_set (by simp) (by simpa using hin) (rep_get hin), mix_set (by simp [HF.out]) (by rw [HF.out]; exact hin) (by rw [get_of_getD (by rw [HF.out]; exact hin), HX.out]), HI.out] at t
        exact t
      clear t T
      go_wp2_with fail
      go_roundw
      case measure => simp [intOf]; have := HI.out; omega
      case rel => exact ⟨i1, by have := HI.out; omega, rfl, T2⟩
    · have il : ¬ (i : Int) < (n : Int) := by omega
      obtain rfl : i = n := by omega
      have T1 : Hid (Two w wr qb rb (List.replicate i true) fs (List.replicate i false) (List.replicate i 0)) := by
        have t := T.out
        rw [mix_all _ _ (by simp) (by simp), mix_all _ _ HF.out (by simp)] at t
        exact t
      clear T
      go_wp2_with fail
      go_loopw [8] (fun s8 wq => ∃ j : Nat, j ≤ i ∧ s8 = .int .i64 (j : Int) ∧ Hid (Two w wq qb rb (mix j (List.replicate i true) (List.replicate i true)) (mix j ls fs) (mix j (List.replicate i true) (List.replicate i false)) (mix j ls (List.replicate i 0)))) (fun s8 _ => i - (intOf s8).toNat)
      case atStart => exact ⟨0, Nat.zero_le _, rfl, by show Two _ _ _ _ _ _ _ _; rw [mix_zero, mix_zero, mix_zero, mix_zero]; exact T1.out⟩
      case round =>
        clear T1
        obtain ⟨j, hj, rfl, T⟩ := hrel
        by_cases hjn : j < i
        · obtain ⟨b, off, rfl, cx⟩ := A1.out.at_ (j := j) T.out.below (by rw [HL.out]; exact hjn)
          obtain ⟨x, hx⟩ : ∃ x, ls.getD j 0 = x := ⟨_, rfl⟩
          rw [hx] at cx
          have HX := Lib.hid hx
          have CX := Lib.hid cx
          obtain ⟨i1, hi1⟩ : ∃ i1, j + 1 = i1 := ⟨_, rfl⟩
          have HI := Lib.hid hi1
          have i0 : (0 : Int) ≤ (j : Int) := by omega
          have il : (j : Int) < (i : Int) := by omega
          have w1' : (j : Int) + 1 = (i1 : Int) := by omega
          have w2' : IntKind.i64.wrap (i1 : Int) = (i1 : Int) := by rw [IntKind.wrap_i64]; have := HN.out; omega
          clear hx hi1
          go_wp2_with fail
          refine (two_set T.out (X := j) (by rw [mix_len _ _ _ (by simp)]; simpa using hjn) x).mono ?_; rintro e w3 ⟨rfl, t⟩
          have T2 : Hid (Two w w3 qb rb (mix i1 (List.replicate i true) (List.replicate i true)) (mix i1 ls fs) (mix j (List.replicate i true) (List.replicate i false)) (mix j ls (List.replicate i 0))) := by
            rw [mix_set (by simp) (by simpa using hjn) (rep_get hjn), mix_set (by rw [HL.out, HF.out]) (by rw [HL.out]; exact hjn) (by rw [get_of_getD (by rw [HL.out]; exact hjn), HX.out]), HI.out] at t
            exact t
          obtain ⟨b2, off2, e2, cx2⟩ := A1.out.at_ (j := j) T2.out.below (by rw [HL.out]; exact hjn)
          injection e2 with e2; injection e2 with e2 e3 _; subst e2 e3
          rw [HX.out] at cx2
          clear t T cx
          go_wp2_with fail
          refine (two_set T2.out.symm (X := j) (by rw [mix_len _ _ _ (by simp)]; simpa using hjn) x).mono ?_; rintro e w4 ⟨rfl, t⟩
          have T3 : Hid (Two w w4 qb rb (mix i1 (List.replicate i true) (List.replicate i true)) (mix i1 ls fs) (mix i1 (List.replicate i true) (List.replicate i false)) (mix i1 ls (List.replicate i 0))) := by
            have t := t.symm
            rw [mix_set (by simp) (by simpa using hjn) (rep_get hjn), mix_set (by simp [HL.out]) (by rw [HL.out]; exact hjn) (by rw [get_of_getD (by rw [HL.out]; exact hjn), HX.out]), HI.out] at t
            exact t
          clear t T2 cx2
          go_wp2_with fail
          go_roundw
          case measure => simp [intOf]; have := HI.out; omega
          case rel => exact ⟨i1, by have := HI.out; omega, rfl, T3⟩
        · have il : ¬ (j : Int) < (i : Int) := by omega
          obtain rfl : j = i := by omega
          have T1 : Hid (Two w wr qb rb (List.replicate j true) ls (List.replicate j true) ls) := by
            have t := T.out
            rw [mix_all _ _ (by simp) (by simp), mix_all _ _ HL.out HF.out, mix_all _ _ (by simp) (by simp), mix_all _ _ HL.out (by simp)] at t
            exact t
          clear T
          go_wp2_with fail
          go_loopw [9] (fun s9 wp => ∃ (k : Nat) (ins : List Bool), k ≤ j + 1 ∧ s9 = .int .i64 (k : Int) ∧ Hid (Two w wp qb rb ins ls ins ls)) (fun s9 _ => j + 1 - (intOf s9).toNat)
          case atStart => exact ⟨0, _, Nat.zero_le _, rfl, T1⟩
          case round =>
            clear T1
            obtain ⟨k, ins, hk, rfl, T⟩ := hrel
            by_cases hkn : k ≤ j
            · obtain ⟨i1, hi1⟩ : ∃ i1, k + 1 = i1 := ⟨_, rfl⟩
              have HI := Lib.hid hi1
              have il : (k : Int) ≤ (j : Int) := by omega
              have w1' : (k : Int) + 1 = (i1 : Int) := by omega
              have w2' : IntKind.i64.wrap (i1 : Int) = (i1 : Int) := by rw [IntKind.wrap_i64]; have := HN.out; omega
              clear hi1
              go_wp2_with fail
              refine (two_pop T.out).mono ?_; rintro e w3 ⟨pa, pk, pb, ins2, pr, rfl, t⟩
              have PR := Lib.hid pr; have T2 := Lib.hid t
              clear t T pr
              go_wp2_with fail
              refine (two_pop T2.out.symm).mono ?_; rintro e w4 ⟨pa', pk', pb', ins2', pr, rfl, t⟩
              obtain ⟨rfl, rfl, rfl, rfl, _⟩ := popr_same (agree_refl _ _) PR.out pr
              have T3 := Lib.hid t.symm
              clear t T2 pr PR
              go_wp2_with fail
              go_roundw
              case measure => simp [intOf]; have := HI.out; omega
              case rel => exact ⟨i1, ins2', by have := HI.out; omega, rfl, T3⟩
            · have il : ¬ (k : Int) ≤ (j : Int) := by omega
              go_wp2_with fail
              refine (lives_any _).mono ?_; rintro e w3 ⟨rfl, b⟩
              have BB := Lib.hid b
              clear b
              go_wp2_with fail
              go_ret
              exact ⟨rfl, T.out.below.trans (BB.out.mono T.out.below.size)⟩
theorem moves_long {w : World} {a0 a1 : Option Addr} {c0 c1 n m : Nat} (hn : 100 < n) :
    Calls Try.prog 5 #[.slice a0 n c0, .slice a1 m c1] w fun e w' => e = .returned (.bool true) ∧ Below w.heap.size w w' := by
  have n1 : (100 : Int) < (n : Int) := by omega
  clear hn
  go_enter Try.func5, Try.ntmps5
  go_wp2_with fail
  refine (lives_any _).mono ?_; rintro e w3 ⟨rfl, b⟩
  go_wp2_with fail
  go_ret
  exact ⟨rfl, b⟩
theorem moves_ne {w : World} {a0 a1 : Option Addr} {c0 c1 n m : Nat} (hn : n ≤ 100) (hm : m ≠ n) :
    Calls Try.prog 5 #[.slice a0 n c0, .slice a1 m c1] w fun e w' => e = .returned (.bool true) ∧ Below w.heap.size w w' := by
  have n1 : ¬ (100 : Int) < (n : Int) := by omega
  have n2 : ((m : Int) == (n : Int)) = false := by simp; omega
  clear hn
  go_enter Try.func5, Try.ntmps5
  go_wp2_with fail
  refine (lives_any _).mono ?_; rintro e w3 ⟨rfl, b⟩
  go_wp2_with fail
  go_ret
  exact ⟨rfl, b⟩
theorem pqMoves_walk (v0 v1 : Value) (w : World) (h0 : ∃ l, IntsAt w v0 l) (h1 : ∃ l, IntsAt w v1 l) : Calls Try.prog 5 #[v0, v1] w fun e w' => e = .returned (.bool true) ∧ Below w.heap.size w w' := by
  obtain ⟨fs, h0⟩ := h0
  obtain ⟨ls, h1⟩ := h1
  have A0 := h0; have A1 := h1
  obtain ⟨a0, c0, rfl, _⟩ := h0
  obtain ⟨a1, c1, rfl, _⟩ := h1
  by_cases hn : 100 < fs.length
  · exact moves_long hn
  · by_cases hm : ls.length = fs.length
    · rw [hm] at A1 ⊢; exact moves_main A0 A1 rfl hm (by omega)
    · exact moves_ne (by omega) hm
theorem pqMoves_open0 {H : Type} {enc : TypeId × Value → H} {W : World} {base b0 : Nat} {spare : Nat → Bool} {held : Bool} {r : Reach} {v : Value} {d : DataW H} {p : List MemPlace}
    (hv : Value.okWide Try.prog W r b0 27 v) (h : DataW.Trod enc Try.prog W base spare held 27 v d p) : ∃ l, IntsAt W v l := ints_open hv h
theorem pqMoves_open1 {H : Type} {enc : TypeId × Value → H} {W : World} {base b0 : Nat} {spare : Nat → Bool} {held : Bool} {r : Reach} {v : Value} {d : DataW H} {p : List MemPlace}
    (hv : Value.okWide Try.prog W r b0 27 v) (h : DataW.Trod enc Try.prog W base spare held 27 v d p) : ∃ l, IntsAt W v l := ints_open hv h
end Go.Proofs.Ytdohmlkocbdomaa
