/- pq: PqDrops. -/
import Derived.Test.YtdohmlkocbdomaaPs
namespace Go.Proofs.Ytdohmlkocbdomaa
open Go.ChangeShapes Go.WideShapes Go.ChangeAt Go.RowKit Go.Joins Go.Deep

def mk {α : Type} (n : Nat) (f : Nat → α) : List α := (List.range n).map f
theorem mk_len {α : Type} (n : Nat) (f : Nat → α) : (mk n f).length = n := by simp [mk]
theorem mk_get {α : Type} {n i : Nat} (f : Nat → α) (h : i < n) : (mk n f)[i]? = some (f i) := by simp [mk, h]
theorem mk_out {α : Type} {n i : Nat} (f : Nat → α) (h : ¬ i < n) : (mk n f)[i]? = none := List.getElem?_eq_none (by rw [mk_len]; omega)
def nd (n : Nat) (ds : List Bool) : List Bool := mk n fun j => !(ds.getD j false)
def kd (n : Nat) (ds : List Bool) (ks : List Int) : List Int := mk n fun j => if ds.getD j false = true then 0 else ks.getD j 0
theorem agree_nd (n : Nat) (ds : List Bool) (ks : List Int) : Agree (nd n ds) ks (kd n ds ks) := by
  intro Z hZ
  by_cases h : Z < n
  · rw [List.getD, nd, mk_get _ h] at hZ
    have e : ds.getD Z false = false := by simpa using hZ
    have e2 : (kd n ds ks)[Z]? = some (ks.getD Z 0) := by rw [kd, mk_get _ h, e]; rfl
    show ks.getD Z 0 = ((kd n ds ks)[Z]?).getD 0
    rw [e2]; rfl
  · rw [List.getD, nd, mk_out _ h] at hZ; cases hZ
set_option maxRecDepth 100000 in
set_option maxHeartbeats 4000000 in
theorem drops_main {w : World} {a0 a1 : Option Addr} {c0 c1 n : Nat} {ks : List Int} {ds : List Bool} (h0 : IntsAt w (.slice a0 n c0) ks) (h1 : BoolsAt w (.slice a1 n c1) ds) (hf : ks.length = n) (hl : ds.length = n) (hn : n ≤ 100) :
    Calls Try.prog 6 #[.slice a0 n c0, .slice a1 n c1] w fun e w' => e = .returned (.bool true) ∧ Below w.heap.size w w' := by
  have A0 := Lib.hid h0; have A1 := Lib.hid h1; have HF := Lib.hid hf; have HL := Lib.hid hl; have HN := Lib.hid hn
  have NE := Lib.hid (fun W => new_any n (by omega) W)
  have n1 : ¬ (100 : Int) < (n : Int) := by omega
  clear h0 h1 hf hl hn
  go_enter Try.func6, Try.ntmps6
  go_wp2_with fail
  refine (NE.out _).mono ?_; rintro e w1 p1
  have P1 := Lib.hid p1
  obtain ⟨qb, F, rfl, _⟩ := p1
  go_wp2_with fail
  refine (NE.out _).mono ?_; rintro e w2 p2
  have P2 := Lib.hid p2
  obtain ⟨rb, G, rfl, _⟩ := p2
  obtain ⟨qb', rb', e1, e2, t⟩ := two_new P1.out P2.out
  injection e1 with e1; injection e1 with e1; injection e1 with e1; injection e1 with e1; subst e1
  injection e2 with e2; injection e2 with e2; injection e2 with e2; injection e2 with e2; subst e2
  have T0 := Lib.hid t
  clear t P1 P2
  go_wp2_with fail
  go_loopw [7] (fun s7 wr => ∃ i : Nat, i ≤ n ∧ s7 = .int .i64 (i : Int) ∧ Hid (Two w wr qb rb (mix i (List.replicate n true) (List.replicate n false)) (mix i ks (List.replicate n 0)) (mix i (nd n ds) (List.replicate n false)) (mix i (kd n ds ks) (List.replicate n 0)))) (fun s7 _ => n - (intOf s7).toNat)
  case atStart => exact ⟨0, Nat.zero_le _, rfl, by show Two _ _ _ _ _ _ _ _; rw [mix_zero, mix_zero, mix_zero, mix_zero]; exact T0.out⟩
  case round =>
    clear T0
    obtain ⟨i, hi, rfl, T⟩ := hrel
    by_cases hin : i < n
    · obtain ⟨b, off, rfl, cx⟩ := A0.out.at_ (j := i) T.out.below (by rw [HF.out]; exact hin)
      obtain ⟨x, hx⟩ : ∃ x, ks.getD i 0 = x := ⟨_, rfl⟩
      rw [hx] at cx
      have HX := Lib.hid hx
      obtain ⟨i1, hi1⟩ : ∃ i1, i + 1 = i1 := ⟨_, rfl⟩
      have HI := Lib.hid hi1
      have i0 : (0 : Int) ≤ (i : Int) := by omega
      have il : (i : Int) < (n : Int) := by omega
      have w1' : (i : Int) + 1 = (i1 : Int) := by omega
      have w2' : IntKind.i64.wrap (i1 : Int) = (i1 : Int) := by rw [IntKind.wrap_i64]; have := HN.out; omega
      clear hx hi1
      go_wp2_with fail
      refine (two_set T.out (X := i) (by rw [mix_len _ _ _ (by simp)]; simpa using hin) x).mono ?_; rintro e w3 ⟨rfl, t⟩
      have T2 : Hid (Two w w3 qb rb (mix i1 (List.replicate n true) (List.replicate n false)) (mix i1 ks (List.replicate n 0)) (mix i (nd n ds) (List.replicate n false)) (mix i (kd n ds ks) (List.replicate n 0))) := by
        rw [mix_set (by simp) (by simpa using hin) (rep_get hin), mix_set (by simp [HF.out]) (by rw [HF.out]; exact hin) (by rw [get_of_getD (by rw [HF.out]; exact hin), HX.out]), HI.out] at t
        exact t
      obtain ⟨b2, off2, rfl, cd⟩ := A1.out.at_ (j := i) T2.out.below (by rw [HL.out]; exact hin)
      obtain ⟨b3, off3, e3, cx2⟩ := A0.out.at_ (j := i) T2.out.below (by rw [HF.out]; exact hin)
      injection e3 with e3; injection e3 with e3 e4 _; subst e3 e4
      rw [HX.out] at cx2
      clear t T cx
      cases hd : ds.getD i false
      · rw [hd] at cd
        have HD := Lib.hid hd
        clear hd
        go_wp2_with fail
        refine (two_set T2.out.symm (X := i) (by rw [mix_len _ _ _ (by simp [nd, mk_len])]; simpa using hin) x).mono ?_; rintro e w4 ⟨rfl, t⟩
        have T3 : Hid (Two w w4 qb rb (mix i1 (List.replicate n true) (List.replicate n false)) (mix i1 ks (List.replicate n 0)) (mix i1 (nd n ds) (List.replicate n false)) (mix i1 (kd n ds ks) (List.replicate n 0))) := by
          have t := t.symm
          rw [mix_set (by simp [nd, mk_len]) (by simpa [nd, mk_len] using hin) (by rw [nd, mk_get _ hin, HD.out]; rfl), mix_set (by simp [kd, mk_len]) (by simpa [kd, mk_len] using hin) (by rw [kd, mk_get _ hin, HD.out, HX.out]; rfl), HI.out] at t
          exact t
        clear t T2 cx2 cd
        go_wp2_with fail
        go_roundw
        case measure => simp [intOf]; have := HI.out; omega
        case rel => exact ⟨i1, by have := HI.out; omega, rfl, T3⟩
      · rw [hd] at cd
        have HD := Lib.hid hd
        clear hd
        have T3 : Hid (Two w w3 qb rb (mix i1 (List.replicate n true) (List.replicate n false)) (mix i1 ks (List.replicate n 0)) (mix i1 (nd n ds) (List.replicate n false)) (mix i1 (kd n ds ks) (List.replicate n 0))) := by
          have t := T2.out
          rw [mix_skip (l := nd n ds) (i := i) (by simp [nd, mk_len]) (by rw [nd, mk_get _ hin, HD.out, rep_get hin]; rfl), mix_skip (l := kd n ds ks) (i := i) (by simp [kd, mk_len]) (by rw [kd, mk_get _ hin, HD.out, rep_get hin]; rfl), HI.out] at t
          exact t
        clear T2
        go_wp2_with fail
        go_roundw
        case measure => simp [intOf]; have := HI.out; omega
        case rel => exact ⟨i1, by have := HI.out; omega, rfl, T3⟩
    · have il : ¬ (i : Int) < (n : Int) := by omega
      obtain rfl : i = n := by omega
      have T1 : Hid (Two w wr qb rb (List.replicate i true) ks (nd i ds) (kd i ds ks)) := by
        have t := T.out
        rw [mix_all _ _ (by simp) (by simp), mix_all _ _ HF.out (by simp), mix_all _ _ (by simp [nd, mk_len]) (by simp), mix_all _ _ (by simp [kd, mk_len]) (by simp)] at t
        exact t
      clear T
      go_wp2_with fail
      go_loopw [8] (fun s8 wq => ∃ j : Nat, j ≤ i ∧ s8 = .int .i64 (j : Int) ∧ Hid (Two w wq qb rb (mix j (nd i ds) (List.replicate i true)) ks (nd i ds) (kd i ds ks))) (fun s8 _ => i - (intOf s8).toNat)
      case atStart => exact ⟨0, Nat.zero_le _, rfl, by show Two _ _ _ _ _ _ _ _; rw [mix_zero]; exact T1.out⟩
      case round =>
        clear T1
        obtain ⟨j, hj, rfl, T⟩ := hrel
        by_cases hjn : j < i
        · obtain ⟨b, off, rfl, cd⟩ := A1.out.at_ (j := j) T.out.below (by rw [HL.out]; exact hjn)
          obtain ⟨i1, hi1⟩ : ∃ i1, j + 1 = i1 := ⟨_, rfl⟩
          have HI := Lib.hid hi1
          have i0 : (0 : Int) ≤ (j : Int) := by omega
          have il : (j : Int) < (i : Int) := by omega
          have w1' : (j : Int) + 1 = (i1 : Int) := by omega
          have w2' : IntKind.i64.wrap (i1 : Int) = (i1 : Int) := by rw [IntKind.wrap_i64]; have := HN.out; omega
          have hlen : Hid (j < (mix j (nd i ds) (List.replicate i true)).length) := by show _ < _; rw [mix_len _ _ _ (by simp [nd, mk_len])]; simpa using hjn
          clear hi1
          cases hd : ds.getD j false
          · rw [hd] at cd
            have HD := Lib.hid hd
            clear hd
            have T3 : Hid (Two w wr qb rb (mix i1 (nd i ds) (List.replicate i true)) ks (nd i ds) (kd i ds ks)) := by
              have t := T.out
              rw [mix_skip (l := nd i ds) (i := j) (by simp [nd, mk_len]) (by rw [nd, mk_get _ hjn, HD.out, rep_get hjn]; rfl), HI.out] at t
              exact t
            clear T
            go_wp2_with fail
            go_roundw
            case measure => simp [intOf]; have := HI.out; omega
            case rel => exact ⟨i1, by have := HI.out; omega, rfl, T3⟩
          · rw [hd] at cd
            have HD := Lib.hid hd
            clear hd
            go_wp2_with fail
            refine (two_drop T.out (X := j) hlen.out (by rw [List.getD, mix_get _ _ _ _ (by simp [nd, mk_len]), if_neg (by omega), rep_get hjn]; rfl)).mono ?_; rintro e w3 ⟨rfl, t⟩
            have T2 := Lib.hid t
            clear t T cd
            go_wp2_with fail
            refine (two_dropn T2.out (x := (j : Int)) (by rw [hasB_nat, getD_setB _ _ _ _ hlen.out, if_pos rfl])).mono ?_; rintro e w' ⟨rfl, rfl⟩
            have T3 : Hid (Two w w3 qb rb (mix i1 (nd i ds) (List.replicate i true)) ks (nd i ds) (kd i ds ks)) := by
              have t := T2.out
              rw [mix_set (by simp [nd, mk_len]) (by simpa [nd, mk_len] using hjn) (by rw [nd, mk_get _ hjn, HD.out]; rfl), HI.out] at t
              exact t
            clear T2 hlen
            go_wp2_with fail
            go_roundw
            case measure => simp [intOf]; have := HI.out; omega
            case rel => exact ⟨i1, by have := HI.out; omega, rfl, T3⟩
        · have il : ¬ (j : Int) < (i : Int) := by omega
          obtain rfl : j = i := by omega
          have T1 : Hid (Two w wr qb rb (nd j ds) ks (nd j ds) (kd j ds ks)) := by
            have t := T.out
            rw [mix_all _ _ (by simp [nd, mk_len]) (by simp)] at t
            exact t
          clear T
          go_wp2_with fail
          go_loopw [9] (fun s9 wp => ∃ (k : Nat) (ins : List Bool), k ≤ j + 1 ∧ s9 = .int .i64 (k : Int) ∧ Hid (Two w wp qb rb ins ks ins (kd j ds ks) ∧ Agree ins ks (kd j ds ks))) (fun s9 _ => j + 1 - (intOf s9).toNat)
          case atStart => exact ⟨0, _, Nat.zero_le _, rfl, T1.out, agree_nd _ _ _⟩
          case round =>
            clear T1
            obtain ⟨k, ins, hk, rfl, T⟩ := hrel
            by_cases hkn : k ≤ j
            · obtain ⟨i1, hi1⟩ : ∃ i1, k + 1 = i1 := ⟨_, rfl⟩
              have HI := Lib.hid hi1
              have il : (k : Int) ≤ (j : Int) := by omega
              have w1' : (k : Int) + 1 = (i1 : Int) := by omega
              have w2' : IntKind.i64.wrap (i1 : Int) = (i1 : Int) := by rw [IntKind.wrap_i64]; have := HN.out; omega
              clear hi1
              have AG := Lib.hid T.out.2
              go_wp2_with fail
              refine (two_pop T.out.1).mono ?_; rintro e w3 ⟨pa, pk, pb, ins2, pr, rfl, t⟩
              have PR := Lib.hid pr; have T2 := Lib.hid t
              clear t T pr
              go_wp2_with fail
              refine (two_pop T2.out.symm).mono ?_; rintro e w4 ⟨pa', pk', pb', ins2', pr, rfl, t⟩
              obtain ⟨rfl, rfl, rfl, rfl, ag⟩ := popr_same AG.out PR.out pr
              have T3 := Lib.hid (And.intro t.symm ag)
              clear t T2 pr PR ag AG
              go_wp2_with fail
              go_roundw
              case measure => simp [intOf]; have := HI.out; omega
              case rel => exact ⟨i1, ins2', by have := HI.out; omega, rfl, T3⟩
            · have il : ¬ (k : Int) ≤ (j : Int) := by omega
              go_wp2_with fail
              refine (lives_any _).mono ?_; rintro e w3 ⟨rfl, b⟩
              have BB := Lib.hid b
              clear b
              go_wp2_with fail
              go_ret
              exact ⟨rfl, T.out.1.below.trans (BB.out.mono T.out.1.below.size)⟩
theorem drops_long {w : World} {a0 a1 : Option Addr} {c0 c1 n m : Nat} (hn : 100 < n) :
    Calls Try.prog 6 #[.slice a0 n c0, .slice a1 m c1] w fun e w' => e = .returned (.bool true) ∧ Below w.heap.size w w' := by
  have n1 : (100 : Int) < (n : Int) := by omega
  clear hn
  go_enter Try.func6, Try.ntmps6
  go_wp2_with fail
  refine (lives_any _).mono ?_; rintro e w3 ⟨rfl, b⟩
  go_wp2_with fail
  go_ret
  exact ⟨rfl, b⟩
theorem drops_ne {w : World} {a0 a1 : Option Addr} {c0 c1 n m : Nat} (hn : n ≤ 100) (hm : m ≠ n) :
    Calls Try.prog 6 #[.slice a0 n c0, .slice a1 m c1] w fun e w' => e = .returned (.bool true) ∧ Below w.heap.size w w' := by
  have n1 : ¬ (100 : Int) < (n : Int) := by omega
  have n2 : ((m : Int) == (n : Int)) = false := by simp; omega
  clear hn
  go_enter Try.func6, Try.ntmps6
  go_wp2_with fail
  refine (lives_any _).mono ?_; rintro e w3 ⟨rfl, b⟩
  go_wp2_with fail
  go_ret
  exact ⟨rfl, b⟩
theorem pqDrops_walk (v0 v1 : Value) (w : World) (h0 : ∃ l, IntsAt w v0 l) (h1 : ∃ l, BoolsAt w v1 l) : Calls Try.prog 6 #[v0, v1] w fun e w' => e = .returned (.bool true) ∧ Below w.heap.size w w' := by
  obtain ⟨fs, h0⟩ := h0
  obtain ⟨ls, h1⟩ := h1
  have A0 := h0; have A1 := h1
  obtain ⟨a0, c0, rfl, _⟩ := h0
  obtain ⟨a1, c1, rfl, _⟩ := h1
  by_cases hn : 100 < fs.length
  · exact drops_long hn
  · by_cases hm : ls.length = fs.length
    · rw [hm] at A1 ⊢; exact drops_main A0 A1 rfl hm (by omega)
    · exact drops_ne (by omega) hm
theorem pqDrops_open0 {H : Type} {enc : TypeId × Value → H} {W : World} {base b0 : Nat} {spare : Nat → Bool} {held : Bool} {r : Reach} {v : Value} {d : DataW H} {p : List MemPlace}
    (hv : Value.okWide Try.prog W r b0 27 v) (h : DataW.Trod enc Try.prog W base spare held 27 v d p) : ∃ l, IntsAt W v l := ints_open hv h
theorem pqDrops_open1 {H : Type} {enc : TypeId × Value → H} {W : World} {base b0 : Nat} {spare : Nat → Bool} {held : Bool} {r : Reach} {v : Value} {d : DataW H} {p : List MemPlace}
    (hv : Value.okWide Try.prog W r b0 26 v) (h : DataW.Trod enc Try.prog W base spare held 26 v d p) : ∃ l, BoolsAt W v l := bools_open hv h
end Go.Proofs.Ytdohmlkocbdomaa
