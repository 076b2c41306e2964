/- dijkstra: DijkstraPaths. -/
import Derived.Test.YtgofachgoflgnaaDu
namespace Go.Proofs.Ytgofachgoflgnaa
open Go.ChangeShapes Go.WideShapes Go.ChangeAt Go.RowKit Go.Joins Go.Deep
theorem ckv_two {m q r : Nat} {ars : List (Int × Int)} {ws : List Int} (O : OkW m ars ws) (hq : q < m) (hr : r < m) : ckv (m : Int) ars ws [(q : Int), (r : Int)] = 0 := by
  rw [ckv_ok (ok_ck O), if_neg]
  rintro ⟨x, hx, ho⟩
  rcases List.mem_cons.1 hx with rfl | hx
  · unfold out at ho; omega
  · rw [List.mem_singleton] at hx
    subst hx
    unfold out at ho; omega
def PJ (ars : List (Int × Int)) (ws : List Int) (N s t : Int) (w' : World) (u : Value) (k c : Int) : Prop :=
  (∀ w2 e2 w2', RPost ars ws N s t w2 e2 w2' → ∃ u2, e2 = .returned (.tuple #[u2, .int .i64 k, .int .i64 c]) ∧ Below w2.heap.size w2 w2') ∧
  ((c ≠ 0 ∧ u = nilV) ∨ (c = 0 ∧ ∃ pl, IntsAt w' u pl ∧ pl.length ≤ 60 ∧ cres N ars ws s t pl = (k, true)))
theorem pj_of {w : World} {e : Ending} {w' : World} {ars : List (Int × Int)} {ws : List Int} {N s t : Int} (h : PPost ars ws N s t w e w') (hN : N ≤ 12) :
    ∃ u k c, e = .returned (.tuple #[u, .int .i64 k, .int .i64 c]) ∧ Below w.heap.size w w' ∧ PJ ars ws N s t w' u k c := by
  rcases h with ⟨c, hc, hv, rfl, b⟩ | ⟨m, q, r, d, rfl, rfl, rfl, hq, hr, O, ID, hI, rfl, b⟩ | ⟨m, q, r, d, u, pl, rfl, rfl, rfl, hq, hr, O, ID, hI, rfl, hi, hl, hcs, b⟩
  · refine ⟨_, _, _, rfl, b, fun w2 e2 w2' h2 => ?_, Or.inl ⟨hc, rfl⟩⟩
    rcases h2 with ⟨c', _, hv', rfl, b'⟩ | ⟨m, q, r, d, rfl, rfl, rfl, hq, hr, O, _⟩ | ⟨m, q, r, d, u, rfl, rfl, rfl, hq, hr, O, _⟩
    · rw [hv] at hv'; subst hv'; exact ⟨_, rfl, b'⟩
    · rw [ckv_two O hq hr] at hv; exact absurd hv.symm hc
    · rw [ckv_two O hq hr] at hv; exact absurd hv.symm hc
  · refine ⟨_, _, _, rfl, b, fun w2 e2 w2' h2 => ?_, Or.inl ⟨by decide, rfl⟩⟩
    rcases h2 with ⟨c', hc', hv', _⟩ | ⟨m', q', r', d', e1, e2', e3, hq', hr', O', ID', hI', rfl, b'⟩ | ⟨m', q', r', d', u', e1, e2', e3, hq', hr', O', ID', hI', rfl, b'⟩
    · rw [ckv_two O hq hr] at hv'; exact absurd hv'.symm hc'
    · exact ⟨_, rfl, b'⟩
    · obtain rfl : m = m' := by omega
      obtain rfl : q = q' := by omega
      obtain rfl : r = r' := by omega
      rw [ID.unique ID'] at hI; omega
  · have Z := ckv_two O hq hr
    refine ⟨_, _, _, rfl, b, fun w2 e2 w2' h2 => ?_, Or.inr ⟨rfl, pl, hi, by omega, ?_⟩⟩
    · rcases h2 with ⟨c', hc', hv', _⟩ | ⟨m', q', r', d', e1, e2', e3, hq', hr', O', ID', hI', rfl, b'⟩ | ⟨m', q', r', d', u', e1, e2', e3, hq', hr', O', ID', hI', rfl, b'⟩
      · rw [Z] at hv'; exact absurd hv'.symm hc'
      · obtain rfl : m = m' := by omega
        obtain rfl : q = q' := by omega
        obtain rfl : r = r' := by omega
        rw [ID.unique ID'] at hI; omega
      · obtain rfl : m = m' := by omega
        obtain rfl : q = q' := by omega
        obtain rfl : r = r' := by omega
        rw [ID.unique ID']; exact ⟨_, rfl, b'⟩
    · rw [cres_some Z hcs, if_pos rfl]
set_option maxRecDepth 100000 in
set_option maxHeartbeats 8000000 in
theorem paths_few {w : World} {N s t : Int} {v u : Value} {ars : List (Int × Int)} {ws : List Int} (A : ArcsAt w v ars) (U : IntsAt w u ws) (hf : fewD N ars.length ws.length = true) : Calls Try.prog 4 #[gv N v, u, .int .i64 s, .int .i64 t] w fun e w' => e = .returned (.bool true) ∧ Below w.heap.size w w' := by
  have A0 := A; have U0 := U
  obtain ⟨a, cap, rfl, _⟩ := A
  obtain ⟨ua, uc, rfl⟩ := U.form
  have F12 : Hid (N ≤ 12) := by unfold fewD at hf; simp at hf; exact hf.1
  have FW := few_any N ars.length cap ws.length uc a ua
  rw [hf] at FW
  have FF := Lib.hid FW
  have C1 := Lib.hid (fun W (b : Below w.heap.size w W) => path_any (N := N) (s := s) (t := t) (A0.below b) (U0.below b))
  have C2 := Lib.hid (fun W (b : Below w.heap.size w W) => pathr_any (N := N) (s := s) (t := t) (A0.below b) (U0.below b))
  have C3 := Lib.hid (fun W (b : Below w.heap.size w W) p (pl : List Int) (P : IntsAt W p pl) (hl : pl.length ≤ 60) => costr_any (N := N) (s := s) (t := t) (A0.below b) (U0.below b) P hl)
  obtain ⟨n, hn⟩ : ∃ n, ars.length = n := ⟨_, rfl⟩
  obtain ⟨k, hk⟩ : ∃ k, ws.length = k := ⟨_, rfl⟩
  rw [hn, hk] at FF C1 C2 C3
  rw [hn, hk]
  obtain ⟨gB, hgB⟩ : ∃ gB, w.heap.size = gB := ⟨_, rfl⟩
  obtain ⟨W1, hW1⟩ : ∃ W1, w.alloc (.cells #[.int .i64 N, .slice a n cap] 24) = W1 := ⟨_, rfl⟩
  have r1 : Row W1 gB 24 [.int .i64 N, .slice a n cap] := by rw [← hW1, ← hgB]; exact Row.new _ _ _
  have q0 := r1.cell (i := 0) rfl; have q1 := r1.cell (i := 1) rfl
  have b1 : Below w.heap.size w W1 := by rw [← hW1]; exact below_al _ _
  have B1 := Lib.hid b1; have R1 := Lib.hid r1
  clear A0 U0 U b1 r1 hn hk hf FW
  go_enter Try.func4, Try.ntmps4
  go_wp2_with fail
  refine (FF.out _).mono ?_; rintro e w2 ⟨rfl, b⟩
  have B2 := Lib.hid (B1.out.trans (b.mono B1.out.size)); have R2 := Lib.hid (R1.out.below b R1.out.lt)
  clear b q0 q1 hW1
  have q0 := R2.out.cell (i := 0) rfl; have q1 := R2.out.cell (i := 1) rfl
  go_wp2_with fail
  refine (C1.out _ B2.out).mono ?_; intro e w3 hp
  obtain ⟨u3, k3, c3, rfl, b, hj, hu⟩ := pj_of hp F12.out
  have HJ := Lib.hid hj
  have B3 := Lib.hid (B2.out.trans (b.mono B2.out.size)); have R3 := Lib.hid (R2.out.below b R2.out.lt)
  clear b q0 q1 hp hj
  have q0 := R3.out.cell (i := 0) rfl; have q1 := R3.out.cell (i := 1) rfl
  rcases hu with ⟨hc, rfl⟩ | ⟨rfl, pl, hi, hl, hcr⟩
  · have d1 : (c3 != 0) = true := by simpa using hc
    have d2 : (c3 == 0) = false := by simpa using hc
    clear hc
    go_wp2_with fail
    refine (C2.out _ B3.out).mono ?_; intro e w4 hp
    obtain ⟨u4, rfl, b⟩ := HJ.out _ _ _ hp
    have B4 := Lib.hid (B3.out.trans (b.mono B3.out.size))
    clear b q0 q1 hp
    go_wp2_with fail
    refine (lives38_any _).mono ?_; rintro e w5 ⟨rfl, b⟩
    have B5 := Lib.hid (B4.out.trans (b.mono B4.out.size))
    clear b
    go_wp2_with fail
    go_ret
    exact ⟨rfl, B5.out⟩
  · have HI := Lib.hid hi; have HL := Lib.hid hl
    obtain ⟨pa, pc, rfl⟩ := hi.form
    obtain ⟨pk, hpk⟩ : ∃ pk, pl.length = pk := ⟨_, rfl⟩
    rw [hpk] at HI
    have HCR := Lib.hid hcr; have HPK := Lib.hid hpk
    rw [hpk]
    clear hi hl hcr hpk
    go_wp2_with fail
    refine (C2.out _ B3.out).mono ?_; intro e w4 hp
    obtain ⟨u4, rfl, b⟩ := HJ.out _ _ _ hp
    have B4 := Lib.hid (B3.out.trans (b.mono B3.out.size)); have R4 := Lib.hid (R3.out.below b R3.out.lt)
    have HI4 := Lib.hid (HI.out.below b)
    clear b q0 q1 hp
    have q0 := R4.out.cell (i := 0) rfl; have q1 := R4.out.cell (i := 1) rfl
    go_wp2_with fail
    refine (C3.out _ B4.out _ pl HI4.out HL.out).mono ?_; intro e w5 hp
    rw [HCR.out] at hp
    obtain ⟨rfl, b⟩ := hp
    have B5 := Lib.hid (B4.out.trans (b.mono B4.out.size))
    clear b q0 q1
    go_wp2_with fail
    refine (lives38_any _).mono ?_; rintro e w6 ⟨rfl, b⟩
    have B6 := Lib.hid (B5.out.trans (b.mono B5.out.size))
    clear b
    go_wp2_with fail
    go_ret
    exact ⟨rfl, B6.out⟩
set_option maxRecDepth 100000 in
set_option maxHeartbeats 8000000 in
theorem paths_many {w : World} {N s t : Int} {n cap k uc : Nat} {a ua : Option Addr} (hf : fewD N n k = false) : Calls Try.prog 4 #[gv N (.slice a n cap), .slice ua k uc, .int .i64 s, .int .i64 t] w fun e w' => e = .returned (.bool true) ∧ Below w.heap.size w w' := by
  obtain ⟨W1, hW1⟩ : ∃ W1, w.alloc (.cells #[.int .i64 N, .slice a n cap] 24) = W1 := ⟨_, rfl⟩
  have r1 : Row W1 w.heap.size 24 [.int .i64 N, .slice a n cap] := by rw [← hW1]; exact Row.new _ _ _
  have b1 : Below w.heap.size w W1 := by rw [← hW1]; exact below_al _ _
  have FW := few_any N n cap k uc a ua
  rw [hf] at FW
  have FF := Lib.hid FW; have BB := Lib.hid b1
  have q0 := r1.cell (i := 0) rfl; have q1 := r1.cell (i := 1) rfl
  clear FW b1 r1 hf
  go_enter Try.func4, Try.ntmps4
  go_wp2_with fail
  refine (FF.out _).mono ?_; rintro e w3 ⟨rfl, b⟩
  have B3 := Lib.hid (BB.out.trans (b.mono BB.out.size))
  clear b
  go_wp2_with fail
  refine (lives38_any _).mono ?_; rintro e w4 ⟨rfl, b⟩
  have B4 := Lib.hid (B3.out.trans (b.mono B3.out.size))
  clear b
  go_wp2_with fail
  go_ret
  exact ⟨rfl, B4.out⟩
abbrev dijkstraPaths_zero0 : Value := gv 0 nilV
theorem dijkstraPaths_open0 {H : Type} {enc : TypeId × Value → H} {W : World} {base b0 : Nat} {spare : Nat → Bool} {held : Bool} {r : Reach} {v : Value} {d : DataW H} {p : List MemPlace}
    (hv : Value.okWide Try.prog W r b0 24 v) (h : DataW.Trod enc Try.prog W base spare held 24 v d p) : IsG W v := graph_open hv h
theorem dijkstraPaths_open1 {H : Type} {enc : TypeId × Value → H} {W : World} {base b0 : Nat} {spare : Nat → Bool} {held : Bool} {r : Reach} {v : Value} {d : DataW H} {p : List MemPlace}
    (hv : Value.okWide Try.prog W r b0 25 v) (h : DataW.Trod enc Try.prog W base spare held 25 v d p) : IsInts W v := ints_open hv h
theorem dijkstraPaths_walk (v u : Value) (s t : Int) (w : World) (h : IsG w v) (h1 : IsInts w u) (_ : (Lit.int .i64 s).wf = true) (_ : (Lit.int .i64 t).wf = true) : Calls Try.prog 4 #[v, u, .int .i64 s, .int .i64 t] w fun e w' => e = .returned (.bool true) ∧ Below w.heap.size w w' := by
  obtain ⟨N, x, ars, rfl, ha⟩ := h
  obtain ⟨ws, hw, _⟩ := h1
  by_cases hf : fewD N ars.length ws.length = true
  · exact paths_few ha hw hf
  · obtain ⟨a, cap, rfl, _⟩ := ha
    obtain ⟨ua, uc, rfl⟩ := hw.form
    exact paths_many (by simpa using hf)
end Go.Proofs.Ytgofachgoflgnaa
