/- device: DeviceLimits. -/
import Derived.Test.YtgadplgjpemdaaaVf
import Derived.ChangeSame
import Derived.Deep.Slices
import Derived.WalkArith
set_option linter.unusedSimpArgs false
namespace Go.Proofs.Ytgadplgjpemdaaa
open Go.ChangeShapes Go.WideShapes Go.ChangeAt Go.RowKit Go.Joins Go.Deep

/- the row of operations -/
structure OpZ where
  kind : Int
  i : Int
  s : ByteArray
instance : Inhabited OpZ := ⟨⟨0, 0, ByteArray.empty⟩⟩
def OpsAt (w : World) (v : Value) (n : Nat) (g : Nat → OpZ) : Prop :=
  ∃ (a : Option Addr) (cap : Nat), v = .slice a n cap ∧ n ≤ maxLen ∧ (∀ j, j < n → 0 ≤ (g j).kind ∧ (g j).kind ≤ 255 ∧ (-9223372036854775808 ≤ (g j).i ∧ (g j).i ≤ 9223372036854775807) ∧ (g j).s.size ≤ maxLen) ∧
    (n = 0 ∨ ∃ b off, a = some ⟨b, off, none⟩ ∧ b < w.heap.size ∧ ∀ j, j < n → w.cell? ⟨b, off + j * 3, none⟩ = some (.int .u8 (g j).kind) ∧ w.cell? ⟨b, off + j * 3 + 1, none⟩ = some (.int .i64 (g j).i) ∧ w.cell? ⟨b, off + j * 3 + 2, none⟩ = some (.string (g j).s))
theorem Try.cells25 : Try.prog.cellsOf 25 = 3 := by kernel_rfl
theorem Try.cells5 : Try.prog.cellsOf 5 = 1 := by kernel_rfl
theorem Try.cells3 : Try.prog.cellsOf 3 = 1 := by kernel_rfl
theorem Try.cells9 : Try.prog.cellsOf 9 = 1 := by kernel_rfl
theorem ops_open {H : Type} {enc : TypeId × Value → H} {W : World} {base b0 : Nat} {spare : Nat → Bool} {held : Bool} {r : Reach} {v : Value} {d : DataW H} {p : List MemPlace}
    (hv : Value.okWide Try.prog W r b0 22 v) (h : DataW.Trod enc Try.prog W base spare held 22 v d p) : ∃ n g, OpsAt W v n g := by
  obtain ⟨a0, len0, cap0, rfl⟩ := okWide_slice Try.underlying22 hv
  obtain ⟨fuel, hf⟩ := h
  rcases Deep.open_slice Try.underlying22 hf with ⟨hcs, _⟩ | ⟨a, len, cap, m, n', D, Pl, hcs, _, hl, hm, hmm, _, hi⟩
  · simp [Value.cells] at hcs
    obtain ⟨rfl, rfl, rfl⟩ := hcs
    exact ⟨0, fun _ => default, none, 0, rfl, by decide, (fun j h => absurd h (Nat.not_lt_zero j)), Or.inl rfl⟩
  · simp [Value.cells] at hcs
    obtain ⟨rfl, rfl, rfl⟩ := hcs
    have hlm : len0 ≤ m := by rw [hmm]; split <;> omega
    have key : ∀ j, j < len0 → ∃ z : OpZ, (0 ≤ z.kind ∧ z.kind ≤ 255 ∧ (-9223372036854775808 ≤ z.i ∧ z.i ≤ 9223372036854775807) ∧ z.s.size ≤ maxLen) ∧ W.cell? (a.add (j * 3)) = some (.int .u8 z.kind) ∧ W.cell? (a.add (j * 3 + 1)) = some (.int .i64 z.i) ∧ W.cell? (a.add (j * 3 + 2)) = some (.string z.s) := by
      intro j hj
      obtain ⟨cs', hc, ht⟩ := hi j (by omega)
      rw [Try.cells25] at hc
      obtain ⟨_, hcl, hat⟩ := World.cells?_some hc
      obtain ⟨z0, z1, z2, n2, _, _, t0, t1, t2⟩ := Deep.trod_struct3 Try.underlying25 ht
      obtain ⟨x, ex, _, wx⟩ := DataW.trod_int Try.underlying5 t0
      obtain ⟨u, eu, _, wu⟩ := DataW.trod_int Try.underlying3 t1
      obtain ⟨y, ey, _, wy⟩ := DataW.trod_string Try.underlying9 t2
      rw [Try.cells5] at ex
      rw [Try.cells9] at ey
      rw [Try.cells3] at eu
      match cs', hcl with
      | [q0, q1, q2], _ =>
        simp at ex ey eu
        subst ex ey eu
        have hb := bounds_u8 wx
        have hu := bounds_i64 wu
        refine ⟨⟨x, u, y⟩, ⟨by show 0 ≤ x; omega, by show x ≤ 255; omega, ⟨by show _ ≤ u; omega, by show u ≤ _; omega⟩, wy⟩, ?_, ?_, ?_⟩
        · have := hat 0 (by omega); simpa [Addr.add] using this
        · have := hat 1 (by omega); rw [Deep.add_add] at this; simpa using this
        · have := hat 2 (by omega); rw [Deep.add_add] at this; simpa using this
    obtain ⟨g, hg⟩ := Deep.choose_lt key
    refine ⟨len0, g, some a, cap0, rfl, by omega, fun j hj => (hg j hj).1, ?_⟩
    by_cases hz : len0 = 0
    · exact Or.inl hz
    · right
      obtain ⟨b, off, spot⟩ := a
      have c0 := (hg 0 (by omega)).2.1
      have hspot : spot = none := by simpa [Addr.add] using World.cell?_spot c0
      subst hspot
      refine ⟨b, off, rfl, ?_, fun j hj => ?_⟩
      · rw [Addr.add_lit] at c0
        by_cases hb : b < W.heap.size
        · exact hb
        · exfalso
          unfold World.cell? at c0
          simp [Array.getElem?_eq_none (Nat.le_of_not_lt hb)] at c0
      · obtain ⟨_, h1, h2, h3⟩ := hg j hj
        rw [Addr.add_lit] at h1 h2 h3
        exact ⟨h1, h2, h3⟩
theorem ops_at {w : World} {a : Option Addr} {n cap : Nat} {g : Nat → OpZ} (h : OpsAt w (.slice a n cap) n g) {j : Nat} (hj : j < n) : ∃ b off, a = some ⟨b, off, none⟩ ∧ b < w.heap.size ∧ w.cell? ⟨b, off + j * 3, none⟩ = some (.int .u8 (g j).kind) ∧ w.cell? ⟨b, off + j * 3 + 1, none⟩ = some (.int .i64 (g j).i) ∧ w.cell? ⟨b, off + j * 3 + 2, none⟩ = some (.string (g j).s) := by
  obtain ⟨a', cap', e, _, _, h2⟩ := h
  injection e with e1 _ e3
  subst e1
  rcases h2 with h2 | ⟨b, off, rfl, hb, hc⟩
  · omega
  · exact ⟨b, off, rfl, hb, hc j hj⟩
theorem write_okI {w : World} {B D n : Nat} {fs ns : List (List UInt8)} {hs : List (Nat × List UInt8)} {left x : Int} {s : ByteArray} (h : Dv w B D n fs ns hs true left) (hx : 0 ≤ x ∧ x < (n : Int)) (h64 : s.size ≤ 64) (hl : ¬ left = 0) (hh : hs.length ≤ 1000) (hB : B ≤ w.heap.size) :
    Calls Try.prog 11 #[pD D, .int .i64 x, .string s] w fun e w' => e = .returned (.int .i64 0) ∧ Dv w' B D n fs (ns.set x.toNat (padL s)) (hs ++ [(x.toNat, padL s)]) true (lf1 true left) ∧ Below B w w' := by
  have h1 := write_ok h x.toNat s (by omega) h64 (fun e => hl e.2) hh hB
  rw [show ((x.toNat : Nat) : Int) = x by omega] at h1
  exact h1
theorem hsub_of {a b c : Int} (h : a + b = c) : c - b = a := by omega
set_option maxRecDepth 100000 in
set_option maxHeartbeats 8000000 in
theorem limits_main (w : World) (n m cap : Nat) (a : Option Addr) (g : Nat → OpZ) (lim : Int) (hl : lim ≤ 9223372036854775807) (h : OpsAt w (.slice a m cap) m g) (hn : 1 ≤ n ∧ n ≤ 16) (hm : m ≤ 40) :
    Calls Try.prog 6 #[.int .i64 (n : Int), .slice a m cap, .int .i64 lim] w fun e w' => e = .returned (.bool true) ∧ Below w.heap.size w w' := by
  have HO := Lib.hid h
  have NN := Lib.hid (new_any w n hn.1 (by omega))
  have HN := Lib.hid hn; have HM := Lib.hid hm; have HL := Lib.hid hl
  have n1 : decide ((16 : Int) < (n : Int)) = false := by simp; omega
  have n2 : decide (16 < n) = false := by simp; omega
  have n3 : ¬ (16 : Int) < (n : Int) := by omega
  have m1 : decide ((40 : Int) < (m : Int)) = false := by simp; omega
  have m2 : decide (40 < m) = false := by simp; omega
  have m3 : ¬ (40 : Int) < (m : Int) := by omega
  obtain ⟨L0, hL0⟩ : ∃ L0, mx0 lim = L0 := ⟨_, rfl⟩
  have hmx : (if lim < 0 then 0 else lim) = L0 := hL0
  have LZ : Hid (0 ≤ L0 ∧ L0 ≤ 9223372036854775807) := by show _ ∧ _; rw [← hL0]; unfold mx0; split <;> omega
  have HL0 := Lib.hid hL0
  clear h hn hm hl hL0
  go_enter Try.func6, Try.ntmps6
  go_wp2_with fail
  refine NN.out.mono ?_; rintro e w1 ⟨D, rfl, hd, b⟩
  have D1 := Lib.hid hd; have B1 := Lib.hid b
  clear NN hd b
  go_wp2_with fail
  refine (limit_any D1.out lim HL.out).mono ?_; rintro e w2 ⟨rfl, hd, b⟩
  rw [HL0.out] at hd
  have D2 := Lib.hid hd; have B2 := Lib.hid (B1.out.trans b)
  clear hd b
  go_wp2_with fail
  clear n1 n2 n3 m1 m2 m3
  go_loopw [8, 9] (fun s8 s9 wr => ∃ (j : Nat) (lf : Int) (ns : List (List UInt8)) (hs : List (Nat × List UInt8)), j ≤ m ∧ s9 = .int .i64 (j : Int) ∧ s8 = .int .i64 lf ∧ Hid (Dv wr w.heap.size D n (zbs n) ns hs true lf) ∧ Hid ((hs.length : Int) + lf = L0 ∧ hs.length ≤ j) ∧ Hid (Below w.heap.size w wr)) (fun _ s9 _ => m - (intOf s9).toNat)
  case atStart => exact ⟨0, L0, zbs n, [], Nat.zero_le _, rfl, rfl, D2.out, (show Hid _ from ⟨by simp, by simp⟩), B2.out⟩
  case round =>
    clear D2
    obtain ⟨j, lf, ns, hs, hj, rfl, rfl, DV, HS, BW⟩ := hrel
    have DVD : Hid (Dv wr.drew w.heap.size D n (zbs n) ns hs true lf) := DV.out.keep (Below.refl _ _).drew
    have BWD : Hid (w.heap.size ≤ wr.drew.heap.size) := BW.out.size
    have LF : Hid (0 ≤ lf ∧ lf ≤ 9223372036854775807) := by obtain ⟨_, _, _, _, _, k⟩ := DV.out; exact k.lf
    by_cases hlt : j < m
    · obtain ⟨b, off, rfl, hbl, hc0, hc1, hc2⟩ := ops_at HO.out hlt
      obtain ⟨⟨kd, x, s⟩, hz⟩ : ∃ z, g j = z := ⟨_, rfl⟩
      rw [hz] at hc1 hc2
      obtain ⟨j1, hj1⟩ : ∃ j1, j + 1 = j1 := ⟨_, rfl⟩
      have HJ := Lib.hid hj1; have HJT := Lib.hid hlt
      have j0 : (0 : Int) ≤ (j : Int) := by omega
      have jl : (j : Int) < (m : Int) := by omega
      have f1 : (j : Int) + 1 = (j1 : Int) := by omega
      have f2 : IntKind.i64.wrap (j1 : Int) = (j1 : Int) := by rw [IntKind.wrap_i64]; have := HM.out; omega
      have c1 : wr.cell? ⟨b, off + j * 3 + 1, none⟩ = some (.int .i64 x) := by rw [BW.out.cell (by exact hbl)]; exact hc1
      have c2 : wr.cell? ⟨b, off + j * 3 + 2, none⟩ = some (.string s) := by rw [BW.out.cell (by exact hbl)]; exact hc2
      have HBL := Lib.hid hbl
      clear hc0 hc1 hc2 hz hj1 hbl hj
      by_cases h400 : 400 < s.size
      · have q1 : decide ((400 : Int) < (s.size : Int)) = true := by simp; omega
        have q2 : decide (400 < s.size) = true := by simpa using h400
        have q3 : (400 : Int) < (s.size : Int) := by omega
        clear hlt h400
        go_wp2_with fail
        refine (lives_any _).mono ?_; rintro e w3 ⟨rfl, b⟩
        have BB := Lib.hid (BW.out.trans (b.mono BW.out.size))
        clear b
        go_wp2_with fail
        go_ret
        exact ⟨rfl, BB.out⟩
      have q1 : decide ((400 : Int) < (s.size : Int)) = false := by simp; omega
      have q2 : decide (400 < s.size) = false := by simpa using h400
      have q3 : ¬ (400 : Int) < (s.size : Int) := by omega
      clear h400
      by_cases x0 : x < 0
      · have x1 : decide (x < 0) = true := by simpa using x0
        have V : Hid (werr n true lf x s = 2) := by show werr _ _ _ _ _ = _; unfold werr; rw [if_pos (Or.inl x0)]
        clear hlt
        go_wp2_with fail
        refine wp_region_drop (fun W => W.cell? ⟨b, off + j * 3 + 1, none⟩ = some (.int .i64 x) ∧ W.cell? ⟨b, off + j * 3 + 2, none⟩ = some (.string s)) 11 (by kernel_rfl) ⟨c1, c2⟩ (fun hHeld => ?_)
        refine wpAnyD_pure (i := 0) (v := ?_) rfl (by kernel_rfl) (by kernel_rfl) (by kernel_rfl) (by rfl) (fun _ _ _ h => h) (Or.inl ⟨by rfl, ?_⟩) (by assumption) ?_
        rotate_left 1
        · (intro w; first | (go_simp; done) | (go_simp; with_reducible rfl))
        simp only [Act.put, List.getElem_toArray, List.getElem_cons_zero, List.setIfInBounds_toArray, List.set_cons_zero, List.set_cons_succ]
        refine wpAnyD_pure (i := 1) (v := ?_) rfl (by kernel_rfl) (by kernel_rfl) (by kernel_rfl) (by rfl) (fun _ _ _ h => h) (Or.inl ⟨by rfl, ?_⟩) (by assumption) ?_
        rotate_left 1
        · (intro w; first | (go_simp; done) | (go_simp; with_reducible rfl))
        simp only [Act.put, List.getElem_toArray, List.getElem_cons_zero, List.getElem_cons_succ, List.setIfInBounds_toArray, List.set_cons_zero, List.set_cons_succ]
        refine wpAnyD_pure (i := 2) (v := ?_) rfl (by kernel_rfl) (by kernel_rfl) (by kernel_rfl) (by rfl) (fun _ _ _ h => h) (Or.inl ⟨by rfl, ?_⟩) (by assumption) ?_
        rotate_left 1
        · (intro w; first | (go_simp; done) | (go_simp; with_reducible rfl))
        simp only [Act.put, List.getElem_toArray, List.getElem_cons_zero, List.getElem_cons_succ, List.setIfInBounds_toArray, List.set_cons_zero, List.set_cons_succ]
        refine wpAnyD_pure (i := 3) (v := ?_) rfl (by kernel_rfl) (by kernel_rfl) (by kernel_rfl) (by rfl) (fun _ _ _ h => h) (Or.inl ⟨by rfl, ?_⟩) (by assumption) ?_
        rotate_left 1
        · (intro w; first | (go_simp; done) | (go_simp; with_reducible rfl))
        simp only [Act.put, List.getElem_toArray, List.getElem_cons_zero, List.getElem_cons_succ, List.setIfInBounds_toArray, List.set_cons_zero, List.set_cons_succ]
        refine wpAnyD_pure (i := 4) (v := ?_) rfl (by kernel_rfl) (by kernel_rfl) (by kernel_rfl) (by rfl) (fun _ _ _ h => h) (Or.inl ⟨by rfl, ?_⟩) (by assumption) ?_
        rotate_left 1
        · (intro w; first | (go_simp; done) | (go_simp; with_reducible rfl))
        simp only [Act.put, List.getElem_toArray, List.getElem_cons_zero, List.getElem_cons_succ, List.setIfInBounds_toArray, List.set_cons_zero, List.set_cons_succ]
        refine wpAnyD_take (i := 5) (v := ?_) rfl (by kernel_rfl) (by kernel_rfl) (by kernel_rfl) (by kernel_rfl) (fun _ _ _ h => h) (Or.inl ⟨by rfl, ?_⟩) (by assumption) ?_
        rotate_left 1
        · (intro w hSw; (try dsimp only at hSw); first | (go_simp; done) | (go_simp; with_reducible rfl))
        simp only [Act.put, List.getElem_toArray, List.getElem_cons_zero, List.getElem_cons_succ, List.setIfInBounds_toArray, List.set_cons_zero, List.set_cons_succ]
        refine wpAnyD_pure (i := 6) (v := ?_) rfl (by kernel_rfl) (by kernel_rfl) (by kernel_rfl) (by rfl) (fun _ _ _ h => h) (Or.inl ⟨by rfl, ?_⟩) (by assumption) ?_
        rotate_left 1
        · (intro w; first | (go_simp; done) | (go_simp; with_reducible rfl))
        simp only [Act.put, List.getElem_toArray, List.getElem_cons_zero, List.getElem_cons_succ, List.setIfInBounds_toArray, List.set_cons_zero, List.set_cons_succ]
        refine wpAnyD_pure (i := 7) (v := ?_) rfl (by kernel_rfl) (by kernel_rfl) (by kernel_rfl) (by rfl) (fun _ _ _ h => h) (Or.inl ⟨by rfl, ?_⟩) (by assumption) ?_
        rotate_left 1
        · (intro w; first | (go_simp; done) | (go_simp; with_reducible rfl))
        simp only [Act.put, List.getElem_toArray, List.getElem_cons_zero, List.getElem_cons_succ, List.setIfInBounds_toArray, List.set_cons_zero, List.set_cons_succ]
        refine wpAnyD_pure (i := 8) (v := ?_) rfl (by kernel_rfl) (by kernel_rfl) (by kernel_rfl) (by rfl) (fun _ _ _ h => h) (Or.inl ⟨by rfl, ?_⟩) (by assumption) ?_
        rotate_left 1
        · (intro w; first | (go_simp; done) | (go_simp; with_reducible rfl))
        simp only [Act.put, List.getElem_toArray, List.getElem_cons_zero, List.getElem_cons_succ, List.setIfInBounds_toArray, List.set_cons_zero, List.set_cons_succ]
        refine wpAnyD_pure (i := 9) (v := ?_) rfl (by kernel_rfl) (by kernel_rfl) (by kernel_rfl) (by rfl) (fun _ _ _ h => h) (Or.inl ⟨by rfl, ?_⟩) (by assumption) ?_
        rotate_left 1
        · (intro w; first | (go_simp; done) | (go_simp; with_reducible rfl))
        simp only [Act.put, List.getElem_toArray, List.getElem_cons_zero, List.getElem_cons_succ, List.setIfInBounds_toArray, List.set_cons_zero, List.set_cons_succ]
        refine wpAnyD_take (i := 10) (v := ?_) rfl (by kernel_rfl) (by kernel_rfl) (by kernel_rfl) (by kernel_rfl) (fun _ _ _ h => h) (Or.inl ⟨by rfl, ?_⟩) (by assumption) ?_
        rotate_left 1
        · (intro w hSw; (try dsimp only at hSw); first | (go_simp; done) | (go_simp; with_reducible rfl))
        simp only [Act.put, List.getElem_toArray, List.getElem_cons_zero, List.getElem_cons_succ, List.setIfInBounds_toArray, List.set_cons_zero, List.set_cons_succ]
        refine wpAnyD_pure (i := 12) (v := ?_) rfl (by kernel_rfl) (by kernel_rfl) (by kernel_rfl) (by rfl) (fun _ _ _ h => h) (Or.inl ⟨by rfl, ?_⟩) (by assumption) ?_
        rotate_left 1
        · (intro w; first | (go_simp; done) | (go_simp; with_reducible rfl))
        simp only [Act.put, List.getElem_toArray, List.getElem_cons_zero, List.getElem_cons_succ, List.setIfInBounds_toArray, List.set_cons_zero, List.set_cons_succ]
        refine wpAnyD_drop (by kernel_rfl) rfl (fun KK hK => ?_)
        go_simp
        go_wp2_with (go_at_call 11; (with_reducible refine (write_bad DVD.out x s (by rw [V.out]; decide)).mono ?_); rintro en w3 ⟨rfl, hw⟩)
        subst hw
        rw [V.out]
        refine hK.out _ _ ?_
        clear hK KK hHeld
        refine wpAny_one (i := 13) (by kernel_rfl) rfl (fun K hK => ?_)
        go_simp
        refine hK.out _ _ ?_
        clear hK K
        refine wpAny_done (by kernel_rfl) ?_ _
        go_wp2_with fail
        go_roundw
        case measure => simp [intOf]; have := HJ.out; have := HJT.out; omega
        case rel => exact ⟨j1, lf, ns, hs, by have := HJ.out; have := HJT.out; omega, rfl, rfl, DV.out.keep (Below.refl _ _).drew, by have h1 := HS.out; have h2 := HJ.out; exact (show Hid _ from ⟨h1.1, by omega⟩), BW.out.drew⟩
      have x1 : decide (x < 0) = false := by simpa using x0
      by_cases x2 : (n : Int) ≤ x
      · have x3 : decide ((n : Int) ≤ x) = true := by simpa using x2
        have V : Hid (werr n true lf x s = 2) := by show werr _ _ _ _ _ = _; unfold werr; rw [if_pos (Or.inr x2)]
        clear hlt
        go_wp2_with fail
        refine wp_region_drop (fun W => W.cell? ⟨b, off + j * 3 + 1, none⟩ = some (.int .i64 x) ∧ W.cell? ⟨b, off + j * 3 + 2, none⟩ = some (.string s)) 11 (by kernel_rfl) ⟨c1, c2⟩ (fun hHeld => ?_)
        refine wpAnyD_pure (i := 0) (v := ?_) rfl (by kernel_rfl) (by kernel_rfl) (by kernel_rfl) (by rfl) (fun _ _ _ h => h) (Or.inl ⟨by rfl, ?_⟩) (by assumption) ?_
        rotate_left 1
        · (intro w; first | (go_simp; done) | (go_simp; with_reducible rfl))
        simp only [Act.put, List.getElem_toArray, List.getElem_cons_zero, List.setIfInBounds_toArray, List.set_cons_zero, List.set_cons_succ]
        refine wpAnyD_pure (i := 1) (v := ?_) rfl (by kernel_rfl) (by kernel_rfl) (by kernel_rfl) (by rfl) (fun _ _ _ h => h) (Or.inl ⟨by rfl, ?_⟩) (by assumption) ?_
        rotate_left 1
        · (intro w; first | (go_simp; done) | (go_simp; with_reducible rfl))
        simp only [Act.put, List.getElem_toArray, List.getElem_cons_zero, List.getElem_cons_succ, List.setIfInBounds_toArray, List.set_cons_zero, List.set_cons_succ]
        refine wpAnyD_pure (i := 2) (v := ?_) rfl (by kernel_rfl) (by kernel_rfl) (by kernel_rfl) (by rfl) (fun _ _ _ h => h) (Or.inl ⟨by rfl, ?_⟩) (by assumption) ?_
        rotate_left 1
        · (intro w; first | (go_simp; done) | (go_simp; with_reducible rfl))
        simp only [Act.put, List.getElem_toArray, List.getElem_cons_zero, List.getElem_cons_succ, List.setIfInBounds_toArray, List.set_cons_zero, List.set_cons_succ]
        refine wpAnyD_pure (i := 3) (v := ?_) rfl (by kernel_rfl) (by kernel_rfl) (by kernel_rfl) (by rfl) (fun _ _ _ h => h) (Or.inl ⟨by rfl, ?_⟩) (by assumption) ?_
        rotate_left 1
        · (intro w; first | (go_simp; done) | (go_simp; with_reducible rfl))
        simp only [Act.put, List.getElem_toArray, List.getElem_cons_zero, List.getElem_cons_succ, List.setIfInBounds_toArray, List.set_cons_zero, List.set_cons_succ]
        refine wpAnyD_pure (i := 4) (v := ?_) rfl (by kernel_rfl) (by kernel_rfl) (by kernel_rfl) (by rfl) (fun _ _ _ h => h) (Or.inl ⟨by rfl, ?_⟩) (by assumption) ?_
        rotate_left 1
        · (intro w; first | (go_simp; done) | (go_simp; with_reducible rfl))
        simp only [Act.put, List.getElem_toArray, List.getElem_cons_zero, List.getElem_cons_succ, List.setIfInBounds_toArray, List.set_cons_zero, List.set_cons_succ]
        refine wpAnyD_take (i := 5) (v := ?_) rfl (by kernel_rfl) (by kernel_rfl) (by kernel_rfl) (by kernel_rfl) (fun _ _ _ h => h) (Or.inl ⟨by rfl, ?_⟩) (by assumption) ?_
        rotate_left 1
        · (intro w hSw; (try dsimp only at hSw); first | (go_simp; done) | (go_simp; with_reducible rfl))
        simp only [Act.put, List.getElem_toArray, List.getElem_cons_zero, List.getElem_cons_succ, List.setIfInBounds_toArray, List.set_cons_zero, List.set_cons_succ]
        refine wpAnyD_pure (i := 6) (v := ?_) rfl (by kernel_rfl) (by kernel_rfl) (by kernel_rfl) (by rfl) (fun _ _ _ h => h) (Or.inl ⟨by rfl, ?_⟩) (by assumption) ?_
        rotate_left 1
        · (intro w; first | (go_simp; done) | (go_simp; with_reducible rfl))
        simp only [Act.put, List.getElem_toArray, List.getElem_cons_zero, List.getElem_cons_succ, List.setIfInBounds_toArray, List.set_cons_zero, List.set_cons_succ]
        refine wpAnyD_pure (i := 7) (v := ?_) rfl (by kernel_rfl) (by kernel_rfl) (by kernel_rfl) (by rfl) (fun _ _ _ h => h) (Or.inl ⟨by rfl, ?_⟩) (by assumption) ?_
        rotate_left 1
        · (intro w; first | (go_simp; done) | (go_simp; with_reducible rfl))
        simp only [Act.put, List.getElem_toArray, List.getElem_cons_zero, List.getElem_cons_succ, List.setIfInBounds_toArray, List.set_cons_zero, List.set_cons_succ]
        refine wpAnyD_pure (i := 8) (v := ?_) rfl (by kernel_rfl) (by kernel_rfl) (by kernel_rfl) (by rfl) (fun _ _ _ h => h) (Or.inl ⟨by rfl, ?_⟩) (by assumption) ?_
        rotate_left 1
        · (intro w; first | (go_simp; done) | (go_simp; with_reducible rfl))
        simp only [Act.put, List.getElem_toArray, List.getElem_cons_zero, List.getElem_cons_succ, List.setIfInBounds_toArray, List.set_cons_zero, List.set_cons_succ]
        refine wpAnyD_pure (i := 9) (v := ?_) rfl (by kernel_rfl) (by kernel_rfl) (by kernel_rfl) (by rfl) (fun _ _ _ h => h) (Or.inl ⟨by rfl, ?_⟩) (by assumption) ?_
        rotate_left 1
        · (intro w; first | (go_simp; done) | (go_simp; with_reducible rfl))
        simp only [Act.put, List.getElem_toArray, List.getElem_cons_zero, List.getElem_cons_succ, List.setIfInBounds_toArray, List.set_cons_zero, List.set_cons_succ]
        refine wpAnyD_take (i := 10) (v := ?_) rfl (by kernel_rfl) (by kernel_rfl) (by kernel_rfl) (by kernel_rfl) (fun _ _ _ h => h) (Or.inl ⟨by rfl, ?_⟩) (by assumption) ?_
        rotate_left 1
        · (intro w hSw; (try dsimp only at hSw); first | (go_simp; done) | (go_simp; with_reducible rfl))
        simp only [Act.put, List.getElem_toArray, List.getElem_cons_zero, List.getElem_cons_succ, List.setIfInBounds_toArray, List.set_cons_zero, List.set_cons_succ]
        refine wpAnyD_pure (i := 12) (v := ?_) rfl (by kernel_rfl) (by kernel_rfl) (by kernel_rfl) (by rfl) (fun _ _ _ h => h) (Or.inl ⟨by rfl, ?_⟩) (by assumption) ?_
        rotate_left 1
        · (intro w; first | (go_simp; done) | (go_simp; with_reducible rfl))
        simp only [Act.put, List.getElem_toArray, List.getElem_cons_zero, List.getElem_cons_succ, List.setIfInBounds_toArray, List.set_cons_zero, List.set_cons_succ]
        refine wpAnyD_drop (by kernel_rfl) rfl (fun KK hK => ?_)
        go_simp
        go_wp2_with (go_at_call 11; (with_reducible refine (write_bad DVD.out x s (by rw [V.out]; decide)).mono ?_); rintro en w3 ⟨rfl, hw⟩)
        subst hw
        rw [V.out]
        refine hK.out _ _ ?_
        clear hK KK hHeld
        refine wpAny_one (i := 13) (by kernel_rfl) rfl (fun K hK => ?_)
        go_simp
        refine hK.out _ _ ?_
        clear hK K
        refine wpAny_done (by kernel_rfl) ?_ _
        go_wp2_with fail
        go_roundw
        case measure => simp [intOf]; have := HJ.out; have := HJT.out; omega
        case rel => exact ⟨j1, lf, ns, hs, by have := HJ.out; have := HJT.out; omega, rfl, rfl, DV.out.keep (Below.refl _ _).drew, by have h1 := HS.out; have h2 := HJ.out; exact (show Hid _ from ⟨h1.1, by omega⟩), BW.out.drew⟩
      have x3 : decide ((n : Int) ≤ x) = false := by simpa using x2
      have XR : Hid (0 ≤ x ∧ x < (n : Int)) := by exact (show _ ∧ _ from ⟨by omega, by omega⟩)
      by_cases s0 : 64 < s.size
      · have s1 : decide ((64 : Int) < (s.size : Int)) = true := by simp; omega
        have s2 : decide (64 < s.size) = true := by simpa using s0
        have s3 : (64 : Int) < (s.size : Int) := by omega
        have V : Hid (werr n true lf x s = 5) := by show werr _ _ _ _ _ = _; unfold werr; rw [if_neg (by omega), if_pos s0]
        clear hlt
        go_wp2_with fail
        refine wp_region_drop (fun W => W.cell? ⟨b, off + j * 3 + 1, none⟩ = some (.int .i64 x) ∧ W.cell? ⟨b, off + j * 3 + 2, none⟩ = some (.string s)) 11 (by kernel_rfl) ⟨c1, c2⟩ (fun hHeld => ?_)
        refine wpAnyD_pure (i := 0) (v := ?_) rfl (by kernel_rfl) (by kernel_rfl) (by kernel_rfl) (by rfl) (fun _ _ _ h => h) (Or.inl ⟨by rfl, ?_⟩) (by assumption) ?_
        rotate_left 1
        · (intro w; first | (go_simp; done) | (go_simp; with_reducible rfl))
        simp only [Act.put, List.getElem_toArray, List.getElem_cons_zero, List.setIfInBounds_toArray, List.set_cons_zero, List.set_cons_succ]
        refine wpAnyD_pure (i := 1) (v := ?_) rfl (by kernel_rfl) (by kernel_rfl) (by kernel_rfl) (by rfl) (fun _ _ _ h => h) (Or.inl ⟨by rfl, ?_⟩) (by assumption) ?_
        rotate_left 1
        · (intro w; first | (go_simp; done) | (go_simp; with_reducible rfl))
        simp only [Act.put, List.getElem_toArray, List.getElem_cons_zero, List.getElem_cons_succ, List.setIfInBounds_toArray, List.set_cons_zero, List.set_cons_succ]
        refine wpAnyD_pure (i := 2) (v := ?_) rfl (by kernel_rfl) (by kernel_rfl) (by kernel_rfl) (by rfl) (fun _ _ _ h => h) (Or.inl ⟨by rfl, ?_⟩) (by assumption) ?_
        rotate_left 1
        · (intro w; first | (go_simp; done) | (go_simp; with_reducible rfl))
        simp only [Act.put, List.getElem_toArray, List.getElem_cons_zero, List.getElem_cons_succ, List.setIfInBounds_toArray, List.set_cons_zero, List.set_cons_succ]
        refine wpAnyD_pure (i := 3) (v := ?_) rfl (by kernel_rfl) (by kernel_rfl) (by kernel_rfl) (by rfl) (fun _ _ _ h => h) (Or.inl ⟨by rfl, ?_⟩) (by assumption) ?_
        rotate_left 1
        · (intro w; first | (go_simp; done) | (go_simp; with_reducible rfl))
        simp only [Act.put, List.getElem_toArray, List.getElem_cons_zero, List.getElem_cons_succ, List.setIfInBounds_toArray, List.set_cons_zero, List.set_cons_succ]
        refine wpAnyD_pure (i := 4) (v := ?_) rfl (by kernel_rfl) (by kernel_rfl) (by kernel_rfl) (by rfl) (fun _ _ _ h => h) (Or.inl ⟨by rfl, ?_⟩) (by assumption) ?_
        rotate_left 1
        · (intro w; first | (go_simp; done) | (go_simp; with_reducible rfl))
        simp only [Act.put, List.getElem_toArray, List.getElem_cons_zero, List.getElem_cons_succ, List.setIfInBounds_toArray, List.set_cons_zero, List.set_cons_succ]
        refine wpAnyD_take (i := 5) (v := ?_) rfl (by kernel_rfl) (by kernel_rfl) (by kernel_rfl) (by kernel_rfl) (fun _ _ _ h => h) (Or.inl ⟨by rfl, ?_⟩) (by assumption) ?_
        rotate_left 1
        · (intro w hSw; (try dsimp only at hSw); first | (go_simp; done) | (go_simp; with_reducible rfl))
        simp only [Act.put, List.getElem_toArray, List.getElem_cons_zero, List.getElem_cons_succ, List.setIfInBounds_toArray, List.set_cons_zero, List.set_cons_succ]
        refine wpAnyD_pure (i := 6) (v := ?_) rfl (by kernel_rfl) (by kernel_rfl) (by kernel_rfl) (by rfl) (fun _ _ _ h => h) (Or.inl ⟨by rfl, ?_⟩) (by assumption) ?_
        rotate_left 1
        · (intro w; first | (go_simp; done) | (go_simp; with_reducible rfl))
        simp only [Act.put, List.getElem_toArray, List.getElem_cons_zero, List.getElem_cons_succ, List.setIfInBounds_toArray, List.set_cons_zero, List.set_cons_succ]
        refine wpAnyD_pure (i := 7) (v := ?_) rfl (by kernel_rfl) (by kernel_rfl) (by kernel_rfl) (by rfl) (fun _ _ _ h => h) (Or.inl ⟨by rfl, ?_⟩) (by assumption) ?_
        rotate_left 1
        · (intro w; first | (go_simp; done) | (go_simp; with_reducible rfl))
        simp only [Act.put, List.getElem_toArray, List.getElem_cons_zero, List.getElem_cons_succ, List.setIfInBounds_toArray, List.set_cons_zero, List.set_cons_succ]
        refine wpAnyD_pure (i := 8) (v := ?_) rfl (by kernel_rfl) (by kernel_rfl) (by kernel_rfl) (by rfl) (fun _ _ _ h => h) (Or.inl ⟨by rfl, ?_⟩) (by assumption) ?_
        rotate_left 1
        · (intro w; first | (go_simp; done) | (go_simp; with_reducible rfl))
        simp only [Act.put, List.getElem_toArray, List.getElem_cons_zero, List.getElem_cons_succ, List.setIfInBounds_toArray, List.set_cons_zero, List.set_cons_succ]
        refine wpAnyD_pure (i := 9) (v := ?_) rfl (by kernel_rfl) (by kernel_rfl) (by kernel_rfl) (by rfl) (fun _ _ _ h => h) (Or.inl ⟨by rfl, ?_⟩) (by assumption) ?_
        rotate_left 1
        · (intro w; first | (go_simp; done) | (go_simp; with_reducible rfl))
        simp only [Act.put, List.getElem_toArray, List.getElem_cons_zero, List.getElem_cons_succ, List.setIfInBounds_toArray, List.set_cons_zero, List.set_cons_succ]
        refine wpAnyD_take (i := 10) (v := ?_) rfl (by kernel_rfl) (by kernel_rfl) (by kernel_rfl) (by kernel_rfl) (fun _ _ _ h => h) (Or.inl ⟨by rfl, ?_⟩) (by assumption) ?_
        rotate_left 1
        · (intro w hSw; (try dsimp only at hSw); first | (go_simp; done) | (go_simp; with_reducible rfl))
        simp only [Act.put, List.getElem_toArray, List.getElem_cons_zero, List.getElem_cons_succ, List.setIfInBounds_toArray, List.set_cons_zero, List.set_cons_succ]
        refine wpAnyD_pure (i := 12) (v := ?_) rfl (by kernel_rfl) (by kernel_rfl) (by kernel_rfl) (by rfl) (fun _ _ _ h => h) (Or.inl ⟨by rfl, ?_⟩) (by assumption) ?_
        rotate_left 1
        · (intro w; first | (go_simp; done) | (go_simp; with_reducible rfl))
        simp only [Act.put, List.getElem_toArray, List.getElem_cons_zero, List.getElem_cons_succ, List.setIfInBounds_toArray, List.set_cons_zero, List.set_cons_succ]
        refine wpAnyD_drop (by kernel_rfl) rfl (fun KK hK => ?_)
        go_simp
        go_wp2_with (go_at_call 11; (with_reducible refine (write_bad DVD.out x s (by rw [V.out]; decide)).mono ?_); rintro en w3 ⟨rfl, hw⟩)
        subst hw
        rw [V.out]
        refine hK.out _ _ ?_
        clear hK KK hHeld
        refine wpAny_one (i := 13) (by kernel_rfl) rfl (fun K hK => ?_)
        go_simp
        refine hK.out _ _ ?_
        clear hK K
        refine wpAny_done (by kernel_rfl) ?_ _
        go_wp2_with fail
        go_roundw
        case measure => simp [intOf]; have := HJ.out; have := HJT.out; omega
        case rel => exact ⟨j1, lf, ns, hs, by have := HJ.out; have := HJT.out; omega, rfl, rfl, DV.out.keep (Below.refl _ _).drew, by have h1 := HS.out; have h2 := HJ.out; exact (show Hid _ from ⟨h1.1, by omega⟩), BW.out.drew⟩
      have s1 : decide ((64 : Int) < (s.size : Int)) = false := by simp; omega
      have s2 : decide (64 < s.size) = false := by simpa using s0
      have s3 : ¬ (64 : Int) < (s.size : Int) := by omega
      by_cases l0 : lf = 0
      · subst l0
        have V : Hid (werr n true 0 x s = 20) := by show werr _ _ _ _ _ = _; unfold werr; rw [if_neg (by omega), if_neg s0, if_pos ⟨rfl, rfl⟩]
        clear hlt
        go_wp2_with fail
        refine wp_region_drop (fun W => W.cell? ⟨b, off + j * 3 + 1, none⟩ = some (.int .i64 x) ∧ W.cell? ⟨b, off + j * 3 + 2, none⟩ = some (.string s)) 11 (by kernel_rfl) ⟨c1, c2⟩ (fun hHeld => ?_)
        refine wpAnyD_pure (i := 0) (v := ?_) rfl (by kernel_rfl) (by kernel_rfl) (by kernel_rfl) (by rfl) (fun _ _ _ h => h) (Or.inl ⟨by rfl, ?_⟩) (by assumption) ?_
        rotate_left 1
        · (intro w; first | (go_simp; done) | (go_simp; with_reducible rfl))
        simp only [Act.put, List.getElem_toArray, List.getElem_cons_zero, List.setIfInBounds_toArray, List.set_cons_zero, List.set_cons_succ]
        refine wpAnyD_pure (i := 1) (v := ?_) rfl (by kernel_rfl) (by kernel_rfl) (by kernel_rfl) (by rfl) (fun _ _ _ h => h) (Or.inl ⟨by rfl, ?_⟩) (by assumption) ?_
        rotate_left 1
        · (intro w; first | (go_simp; done) | (go_simp; with_reducible rfl))
        simp only [Act.put, List.getElem_toArray, List.getElem_cons_zero, List.getElem_cons_succ, List.setIfInBounds_toArray, List.set_cons_zero, List.set_cons_succ]
        refine wpAnyD_pure (i := 2) (v := ?_) rfl (by kernel_rfl) (by kernel_rfl) (by kernel_rfl) (by rfl) (fun _ _ _ h => h) (Or.inl ⟨by rfl, ?_⟩) (by assumption) ?_
        rotate_left 1
        · (intro w; first | (go_simp; done) | (go_simp; with_reducible rfl))
        simp only [Act.put, List.getElem_toArray, List.getElem_cons_zero, List.getElem_cons_succ, List.setIfInBounds_toArray, List.set_cons_zero, List.set_cons_succ]
        refine wpAnyD_pure (i := 3) (v := ?_) rfl (by kernel_rfl) (by kernel_rfl) (by kernel_rfl) (by rfl) (fun _ _ _ h => h) (Or.inl ⟨by rfl, ?_⟩) (by assumption) ?_
        rotate_left 1
        · (intro w; first | (go_simp; done) | (go_simp; with_reducible rfl))
        simp only [Act.put, List.getElem_toArray, List.getElem_cons_zero, List.getElem_cons_succ, List.setIfInBounds_toArray, List.set_cons_zero, List.set_cons_succ]
        refine wpAnyD_pure (i := 4) (v := ?_) rfl (by kernel_rfl) (by kernel_rfl) (by kernel_rfl) (by rfl) (fun _ _ _ h => h) (Or.inl ⟨by rfl, ?_⟩) (by assumption) ?_
        rotate_left 1
        · (intro w; first | (go_simp; done) | (go_simp; with_reducible rfl))
        simp only [Act.put, List.getElem_toArray, List.getElem_cons_zero, List.getElem_cons_succ, List.setIfInBounds_toArray, List.set_cons_zero, List.set_cons_succ]
        refine wpAnyD_take (i := 5) (v := ?_) rfl (by kernel_rfl) (by kernel_rfl) (by kernel_rfl) (by kernel_rfl) (fun _ _ _ h => h) (Or.inl ⟨by rfl, ?_⟩) (by assumption) ?_
        rotate_left 1
        · (intro w hSw; (try dsimp only at hSw); first | (go_simp; done) | (go_simp; with_reducible rfl))
        simp only [Act.put, List.getElem_toArray, List.getElem_cons_zero, List.getElem_cons_succ, List.setIfInBounds_toArray, List.set_cons_zero, List.set_cons_succ]
        refine wpAnyD_pure (i := 6) (v := ?_) rfl (by kernel_rfl) (by kernel_rfl) (by kernel_rfl) (by rfl) (fun _ _ _ h => h) (Or.inl ⟨by rfl, ?_⟩) (by assumption) ?_
        rotate_left 1
        · (intro w; first | (go_simp; done) | (go_simp; with_reducible rfl))
        simp only [Act.put, List.getElem_toArray, List.getElem_cons_zero, List.getElem_cons_succ, List.setIfInBounds_toArray, List.set_cons_zero, List.set_cons_succ]
        refine wpAnyD_pure (i := 7) (v := ?_) rfl (by kernel_rfl) (by kernel_rfl) (by kernel_rfl) (by rfl) (fun _ _ _ h => h) (Or.inl ⟨by rfl, ?_⟩) (by assumption) ?_
        rotate_left 1
        · (intro w; first | (go_simp; done) | (go_simp; with_reducible rfl))
        simp only [Act.put, List.getElem_toArray, List.getElem_cons_zero, List.getElem_cons_succ, List.setIfInBounds_toArray, List.set_cons_zero, List.set_cons_succ]
        refine wpAnyD_pure (i := 8) (v := ?_) rfl (by kernel_rfl) (by kernel_rfl) (by kernel_rfl) (by rfl) (fun _ _ _ h => h) (Or.inl ⟨by rfl, ?_⟩) (by assumption) ?_
        rotate_left 1
        · (intro w; first | (go_simp; done) | (go_simp; with_reducible rfl))
        simp only [Act.put, List.getElem_toArray, List.getElem_cons_zero, List.getElem_cons_succ, List.setIfInBounds_toArray, List.set_cons_zero, List.set_cons_succ]
        refine wpAnyD_pure (i := 9) (v := ?_) rfl (by kernel_rfl) (by kernel_rfl) (by kernel_rfl) (by rfl) (fun _ _ _ h => h) (Or.inl ⟨by rfl, ?_⟩) (by assumption) ?_
        rotate_left 1
        · (intro w; first | (go_simp; done) | (go_simp; with_reducible rfl))
        simp only [Act.put, List.getElem_toArray, List.getElem_cons_zero, List.getElem_cons_succ, List.setIfInBounds_toArray, List.set_cons_zero, List.set_cons_succ]
        refine wpAnyD_take (i := 10) (v := ?_) rfl (by kernel_rfl) (by kernel_rfl) (by kernel_rfl) (by kernel_rfl) (fun _ _ _ h => h) (Or.inl ⟨by rfl, ?_⟩) (by assumption) ?_
        rotate_left 1
        · (intro w hSw; (try dsimp only at hSw); first | (go_simp; done) | (go_simp; with_reducible rfl))
        simp only [Act.put, List.getElem_toArray, List.getElem_cons_zero, List.getElem_cons_succ, List.setIfInBounds_toArray, List.set_cons_zero, List.set_cons_succ]
        refine wpAnyD_pure (i := 12) (v := ?_) rfl (by kernel_rfl) (by kernel_rfl) (by kernel_rfl) (by rfl) (fun _ _ _ h => h) (Or.inl ⟨by rfl, ?_⟩) (by assumption) ?_
        rotate_left 1
        · (intro w; first | (go_simp; done) | (go_simp; with_reducible rfl))
        simp only [Act.put, List.getElem_toArray, List.getElem_cons_zero, List.getElem_cons_succ, List.setIfInBounds_toArray, List.set_cons_zero, List.set_cons_succ]
        refine wpAnyD_drop (by kernel_rfl) rfl (fun KK hK => ?_)
        go_simp
        go_wp2_with (go_at_call 11; (with_reducible refine (write_bad DVD.out x s (by rw [V.out]; decide)).mono ?_); rintro en w3 ⟨rfl, hw⟩)
        subst hw
        rw [V.out]
        refine hK.out _ _ ?_
        clear hK KK hHeld
        refine wpAny_one (i := 13) (by kernel_rfl) rfl (fun K hK => ?_)
        go_simp
        refine hK.out _ _ ?_
        clear hK K
        refine wpAny_done (by kernel_rfl) ?_ _
        go_wp2_with fail
        go_roundw
        case measure => simp [intOf]; have := HJ.out; have := HJT.out; omega
        case rel => exact ⟨j1, 0, ns, hs, by have := HJ.out; have := HJT.out; omega, rfl, rfl, DV.out.keep (Below.refl _ _).drew, by have h1 := HS.out; have h2 := HJ.out; exact (show Hid _ from ⟨h1.1, by omega⟩), BW.out.drew⟩
      have l1 : (lf == 0) = false := by simpa using l0
      have l2 : IntKind.i64.wrap (lf - 1) = lf - 1 := by rw [IntKind.wrap_i64]; have := LF.out; omega
      obtain ⟨lg, hlg⟩ : ∃ lg, lf - 1 = lg := ⟨_, rfl⟩
      have HLG := Lib.hid hlg
      rw [hlg] at l2
      have S64 : Hid (s.size ≤ 64) := by show s.size ≤ 64; omega
      have L0N := Lib.hid l0
      have H1000 : Hid (hs.length ≤ 1000) := by have h1 := HS.out.2; have h2 := HM.out; have h3 := HJT.out; show _ ≤ _; omega
      clear hlt l0 s0
      go_wp2_with fail
      refine wp_region_drop (fun W => W.cell? ⟨b, off + j * 3 + 1, none⟩ = some (.int .i64 x) ∧ W.cell? ⟨b, off + j * 3 + 2, none⟩ = some (.string s)) 11 (by kernel_rfl) ⟨c1, c2⟩ (fun hHeld => ?_)
      refine wpAnyD_pure (i := 0) (v := ?_) rfl (by kernel_rfl) (by kernel_rfl) (by kernel_rfl) (by rfl) (fun _ _ _ h => h) (Or.inl ⟨by rfl, ?_⟩) (by assumption) ?_
      rotate_left 1
      · (intro w; first | (go_simp; done) | (go_simp; with_reducible rfl))
      simp only [Act.put, List.getElem_toArray, List.getElem_cons_zero, List.setIfInBounds_toArray, List.set_cons_zero, List.set_cons_succ]
      refine wpAnyD_pure (i := 1) (v := ?_) rfl (by kernel_rfl) (by kernel_rfl) (by kernel_rfl) (by rfl) (fun _ _ _ h => h) (Or.inl ⟨by rfl, ?_⟩) (by assumption) ?_
      rotate_left 1
      · (intro w; first | (go_simp; done) | (go_simp; with_reducible rfl))
      simp only [Act.put, List.getElem_toArray, List.getElem_cons_zero, List.getElem_cons_succ, List.setIfInBounds_toArray, List.set_cons_zero, List.set_cons_succ]
      refine wpAnyD_pure (i := 2) (v := ?_) rfl (by kernel_rfl) (by kernel_rfl) (by kernel_rfl) (by rfl) (fun _ _ _ h => h) (Or.inl ⟨by rfl, ?_⟩) (by assumption) ?_
      rotate_left 1
      · (intro w; first | (go_simp; done) | (go_simp; with_reducible rfl))
      simp only [Act.put, List.getElem_toArray, List.getElem_cons_zero, List.getElem_cons_succ, List.setIfInBounds_toArray, List.set_cons_zero, List.set_cons_succ]
      refine wpAnyD_pure (i := 3) (v := ?_) rfl (by kernel_rfl) (by kernel_rfl) (by kernel_rfl) (by rfl) (fun _ _ _ h => h) (Or.inl ⟨by rfl, ?_⟩) (by assumption) ?_
      rotate_left 1
      · (intro w; first | (go_simp; done) | (go_simp; with_reducible rfl))
      simp only [Act.put, List.getElem_toArray, List.getElem_cons_zero, List.getElem_cons_succ, List.setIfInBounds_toArray, List.set_cons_zero, List.set_cons_succ]
      refine wpAnyD_pure (i := 4) (v := ?_) rfl (by kernel_rfl) (by kernel_rfl) (by kernel_rfl) (by rfl) (fun _ _ _ h => h) (Or.inl ⟨by rfl, ?_⟩) (by assumption) ?_
      rotate_left 1
      · (intro w; first | (go_simp; done) | (go_simp; with_reducible rfl))
      simp only [Act.put, List.getElem_toArray, List.getElem_cons_zero, List.getElem_cons_succ, List.setIfInBounds_toArray, List.set_cons_zero, List.set_cons_succ]
      refine wpAnyD_take (i := 5) (v := ?_) rfl (by kernel_rfl) (by kernel_rfl) (by kernel_rfl) (by kernel_rfl) (fun _ _ _ h => h) (Or.inl ⟨by rfl, ?_⟩) (by assumption) ?_
      rotate_left 1
      · (intro w hSw; (try dsimp only at hSw); first | (go_simp; done) | (go_simp; with_reducible rfl))
      simp only [Act.put, List.getElem_toArray, List.getElem_cons_zero, List.getElem_cons_succ, List.setIfInBounds_toArray, List.set_cons_zero, List.set_cons_succ]
      refine wpAnyD_pure (i := 6) (v := ?_) rfl (by kernel_rfl) (by kernel_rfl) (by kernel_rfl) (by rfl) (fun _ _ _ h => h) (Or.inl ⟨by rfl, ?_⟩) (by assumption) ?_
      rotate_left 1
      · (intro w; first | (go_simp; done) | (go_simp; with_reducible rfl))
      simp only [Act.put, List.getElem_toArray, List.getElem_cons_zero, List.getElem_cons_succ, List.setIfInBounds_toArray, List.set_cons_zero, List.set_cons_succ]
      refine wpAnyD_pure (i := 7) (v := ?_) rfl (by kernel_rfl) (by kernel_rfl) (by kernel_rfl) (by rfl) (fun _ _ _ h => h) (Or.inl ⟨by rfl, ?_⟩) (by assumption) ?_
      rotate_left 1
      · (intro w; first | (go_simp; done) | (go_simp; with_reducible rfl))
      simp only [Act.put, List.getElem_toArray, List.getElem_cons_zero, List.getElem_cons_succ, List.setIfInBounds_toArray, List.set_cons_zero, List.set_cons_succ]
      refine wpAnyD_pure (i := 8) (v := ?_) rfl (by kernel_rfl) (by kernel_rfl) (by kernel_rfl) (by rfl) (fun _ _ _ h => h) (Or.inl ⟨by rfl, ?_⟩) (by assumption) ?_
      rotate_left 1
      · (intro w; first | (go_simp; done) | (go_simp; with_reducible rfl))
      simp only [Act.put, List.getElem_toArray, List.getElem_cons_zero, List.getElem_cons_succ, List.setIfInBounds_toArray, List.set_cons_zero, List.set_cons_succ]
      refine wpAnyD_pure (i := 9) (v := ?_) rfl (by kernel_rfl) (by kernel_rfl) (by kernel_rfl) (by rfl) (fun _ _ _ h => h) (Or.inl ⟨by rfl, ?_⟩) (by assumption) ?_
      rotate_left 1
      · (intro w; first | (go_simp; done) | (go_simp; with_reducible rfl))
      simp only [Act.put, List.getElem_toArray, List.getElem_cons_zero, List.getElem_cons_succ, List.setIfInBounds_toArray, List.set_cons_zero, List.set_cons_succ]
      refine wpAnyD_take (i := 10) (v := ?_) rfl (by kernel_rfl) (by kernel_rfl) (by kernel_rfl) (by kernel_rfl) (fun _ _ _ h => h) (Or.inl ⟨by rfl, ?_⟩) (by assumption) ?_
      rotate_left 1
      · (intro w hSw; (try dsimp only at hSw); first | (go_simp; done) | (go_simp; with_reducible rfl))
      simp only [Act.put, List.getElem_toArray, List.getElem_cons_zero, List.getElem_cons_succ, List.setIfInBounds_toArray, List.set_cons_zero, List.set_cons_succ]
      refine wpAnyD_pure (i := 12) (v := ?_) rfl (by kernel_rfl) (by kernel_rfl) (by kernel_rfl) (by rfl) (fun _ _ _ h => h) (Or.inl ⟨by rfl, ?_⟩) (by assumption) ?_
      rotate_left 1
      · (intro w; first | (go_simp; done) | (go_simp; with_reducible rfl))
      simp only [Act.put, List.getElem_toArray, List.getElem_cons_zero, List.getElem_cons_succ, List.setIfInBounds_toArray, List.set_cons_zero, List.set_cons_succ]
      refine wpAnyD_drop (by kernel_rfl) rfl (fun KK hK => ?_)
      go_simp
      go_wp2_with (go_at_call 11; (with_reducible refine (write_okI DVD.out XR.out S64.out L0N.out H1000.out BWD.out).mono ?_); rintro en w3 ⟨rfl, hd, b4⟩)
      have BQ := Lib.hid b4
      have DQ := Lib.hid hd
      refine hK.out _ _ ?_
      clear hK KK hHeld hd b4
      refine wpAny_one (i := 13) (by kernel_rfl) rfl (fun K hK => ?_)
      go_simp
      refine hK.out _ _ ?_
      clear hK K
      refine wpAny_done (by kernel_rfl) ?_ _
      go_wp2_with fail
      go_roundw
      case measure => simp [intOf]; have := HJ.out; have := HJT.out; omega
      case rel =>
        refine ⟨j1, lg, ns.set x.toNat (padL s), hs ++ [(x.toNat, padL s)], by have := HJ.out; have := HJT.out; omega, rfl, rfl, ?_, ?_, ?_⟩
        · have e : lf1 true lf = lg := HLG.out
          have h := DQ.out
          rw [e] at h; exact h
        · have h1 := HS.out; have h2 := HJ.out; have h3 := HLG.out
          exact (show Hid _ from ⟨by rw [List.length_append]; simp only [List.length_cons, List.length_nil]; omega, by rw [List.length_append]; simp only [List.length_cons, List.length_nil]; omega⟩)
        · exact (BW.out.drew).trans BQ.out
    · have jl : ¬ (j : Int) < (m : Int) := by omega
      have hl1000 : hs.length ≤ 40 := by have h1 := HS.out.2; have h2 := HM.out; omega
      have HL1 := Lib.hid hl1000
      clear hlt hj hl1000 DVD
      go_wp2_with fail
      refine (show Calls Try.prog 17 #[pD D, .int .i64 0] wr _ from after_any DV.out 0 (by have := HL1.out; omega)).mono ?_; rintro e w3 ⟨D', rfl, hd, b⟩
      have D3 := Lib.hid hd; have B3 := Lib.hid b; have DV3 := Lib.hid (DV.out.keep b)
      clear hd b
      go_wp2_with fail
      refine (show Calls Try.prog 11 #[pD D', .int .i64 0, .string _] w3 _ from write_ok D3.out 0 ⟨#[]⟩ HN.out.1 (by decide) (by decide) (by decide) B3.out.size).mono ?_; rintro e w4 ⟨rfl, hd, b⟩
      have B4 := Lib.hid (B3.out.trans b)
      clear hd b
      obtain ⟨hl, hhl⟩ : ∃ hl, hs.length = hl := ⟨_, rfl⟩
      have HH := HS.out
      have sub1 : L0 - lf = (hl : Int) := by rw [← hhl]; omega
      have sub2 : IntKind.i64.wrap (hl : Int) = (hl : Int) := by rw [IntKind.wrap_i64]; have := HL1.out; omega
      have DV4 := Lib.hid (DV.out.keep B4.out)
      have WA := Lib.hid (writes_any DV4.out)
      rw [hhl] at WA
      clear HH hhl
      go_wp2_with fail
      refine WA.out.mono ?_; rintro e w5 ⟨rfl, hw⟩
      subst hw
      go_wp2_with fail
      refine (lives_any _).mono ?_; rintro e w6 ⟨rfl, b⟩
      have BB := Lib.hid (BW.out.trans ((B4.out.trans (b.mono B4.out.size)).mono BW.out.size))
      clear b
      go_wp2_with fail
      go_ret
      exact ⟨rfl, BB.out⟩
set_option maxHeartbeats 2000000 in
theorem limits_few (w : World) (x lim : Int) (m cap : Nat) (a : Option Addr) (h : 16 < x ∨ 40 < m ∨ x < 1) :
    Calls Try.prog 6 #[.int .i64 x, .slice a m cap, .int .i64 lim] w fun e w' => e = .returned (.bool true) ∧ Below w.heap.size w w' := by
  by_cases h1 : 16 < x
  · have n1 : decide (16 < x) = true := by simpa using h1
    clear h h1
    go_enter Try.func6, Try.ntmps6
    go_wp2_with fail
    refine (lives_any _).mono ?_; rintro e w2 ⟨rfl, b⟩
    have BB := Lib.hid b
    clear b
    go_wp2_with fail
    go_ret
    exact ⟨rfl, BB.out⟩
  have n1 : decide (16 < x) = false := by simpa using h1
  by_cases h2 : 40 < m
  · have m1 : decide ((40 : Int) < (m : Int)) = true := by simp; omega
    have m2 : decide (40 < m) = true := by simpa using h2
    have m3 : (40 : Int) < (m : Int) := by omega
    clear h h1 h2
    go_enter Try.func6, Try.ntmps6
    go_wp2_with fail
    refine (lives_any _).mono ?_; rintro e w2 ⟨rfl, b⟩
    have BB := Lib.hid b
    clear b
    go_wp2_with fail
    go_ret
    exact ⟨rfl, BB.out⟩
  have m1 : decide ((40 : Int) < (m : Int)) = false := by simp; omega
  have m2 : decide (40 < m) = false := by simpa using h2
  have m3 : ¬ (40 : Int) < (m : Int) := by omega
  have NN := Lib.hid (new_none w x (Or.inl (by omega)))
  clear h h1 h2
  go_enter Try.func6, Try.ntmps6
  go_wp2_with fail
  refine NN.out.mono ?_; rintro e w1 ⟨rfl, hw⟩
  subst hw
  go_wp2_with fail
  refine (lives_any _).mono ?_; rintro e w2 ⟨rfl, b⟩
  have BB := Lib.hid b
  clear b
  go_wp2_with fail
  go_ret
  exact ⟨rfl, BB.out⟩
theorem deviceLimits_open1 {H : Type} {enc : TypeId × Value → H} {W : World} {base b0 : Nat} {spare : Nat → Bool} {held : Bool} {r : Reach} {v : Value} {d : DataW H} {p : List MemPlace}
    (hv : Value.okWide Try.prog W r b0 22 v) (h : DataW.Trod enc Try.prog W base spare held 22 v d p) : ∃ n g, OpsAt W v n g := ops_open hv h
theorem deviceLimits_walk (x : Int) (v : Value) (lim : Int) (w : World) (_ : (Lit.int .i64 x).wf = true) (h : ∃ n g, OpsAt w v n g) (wl : (Lit.int .i64 lim).wf = true) : Calls Try.prog 6 #[.int .i64 x, v, .int .i64 lim] w fun e w' => e = .returned (.bool true) ∧ Below w.heap.size w w' := by
  obtain ⟨m, g, h⟩ := h
  have h0 := h
  obtain ⟨a, cap, rfl, _⟩ := h
  have hl := bounds_i64 wl
  by_cases hb : 16 < x ∨ 40 < m ∨ x < 1
  · exact limits_few w x lim m cap a hb
  · obtain ⟨n, rfl⟩ : ∃ n : Nat, x = (n : Int) := ⟨x.toNat, by omega⟩
    exact limits_main w n m cap a g lim (by omega) h0 ⟨by omega, by omega⟩ (by omega)
end Go.Proofs.Ytgadplgjpemdaaa
