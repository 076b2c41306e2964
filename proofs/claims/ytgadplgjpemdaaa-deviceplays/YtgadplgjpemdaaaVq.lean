/- device: a device and the reference's, side by side: Write. -/
import Derived.Test.YtgadplgjpemdaaaVp
set_option linter.unusedSimpArgs false
namespace Go.Proofs.Ytgadplgjpemdaaa
open Go.ChangeShapes Go.WideShapes Go.ChangeAt Go.RowKit Go.Joins Go.Deep

theorem Ap.fresh {w W : World} {B D gf gn cf cn n s e m : Nat} {H v : Value} {fs ns : List (List UInt8)} {hs : List (Nat × List UInt8)} {lim : Bool} {left : Int} {xs : List Value} (k : DvB w B D gf gn cf cn H n fs ns hs lim left) (ho : W.ownsRow s e 1 v m xs) (hs' : w.heap.size ≤ s) : Ap D gf gn H v := fun b hb => by
  have h0 := (ho.lt b hb).1
  have h1 := k.row.lt; have h2 := k.f.lt; have h3 := k.nw.lt
  refine ⟨by omega, by omega, by omega, fun e => ?_⟩
  have := (k.h.lt b e).2; omega
theorem lr_zero {lim : Bool} {left : Int} : lr lim left = 0 ↔ lim = true ∧ left = 0 := by
  unfold lr
  cases lim <;> simp
theorem itz_snoc (hs : List (Nat × List UInt8)) (q : Nat) (d : List UInt8) : itz (lz (hs ++ [(q, d)])) = its ((lz hs).map (·.1) ++ [q]) := by
  unfold itz; rw [lz_snoc, List.map_append]; rfl
theorem stz_snoc (hs : List (Nat × List UInt8)) (q : Nat) (d : List UInt8) : stz (lz (hs ++ [(q, d)])) = sts ((lz hs).map (·.2) ++ [⟨d.toArray⟩]) := by
  unfold stz; rw [lz_snoc, List.map_append]; rfl
/- what the reference must do beside a Write of the device -/
def RW (w w' : World) (D n : Nat) (M : Nat → Prop) (j : Nat) (v : Value) (i c : Int) (s : ByteArray) : Prop := ∀ W, Below w'.heap.size w' W → Calls Try.prog 12 #[v, .int .i64 i, .string s] W fun e2 w2 => ∃ v', e2 = .returned (.tuple #[v', .int .i64 c]) ∧ PX w w2 D n (fun b => M b ∨ (w'.heap.size ≤ b ∧ b < W.heap.size)) (j + 1) v' ∧ Below W.heap.size W w2
def WX (w wr : World) (D n : Nat) (M : Nat → Prop) (j : Nat) (v : Value) (i c : Int) (s : ByteArray) : Prop := Calls Try.prog 11 #[pD D, .int .i64 i, .string s] wr fun e w' => e = .returned (.int .i64 c) ∧ Below w.heap.size w w' ∧ wr.heap.size ≤ w'.heap.size ∧ (∀ b, M b → w'.heap[b]? = wr.heap[b]?) ∧ RW w w' D n M j v i c s
theorem PX.write {w wr : World} {D n j : Nat} {M : Nat → Prop} {v : Value} (h : PX w wr D n M j v) (i : Int) (s : ByteArray) (hj : j ≤ 100) (HN1 : n ≤ 1000) : ∃ c, WX w wr D n M j v i c s := by
  have h0 := h
  obtain ⟨gf, gn, cf, cn, H, fs, ns, hs, lim, left, pB, pF, aA, aP, m, kB, kF, kA, kP, rfl, hmj, k⟩ := h
  have DV : Dv wr w.heap.size D n fs ns hs lim left := ⟨gf, gn, cf, cn, H, k.dv⟩
  have bad : ∀ c : Int, c ≠ 0 → werr n lim left i s = c → (∀ W, Calls Try.prog 12 #[rvP n pB pF aA aP m kB kF kA kP (lr lim left), .int .i64 i, .string s] W fun e w' => e = .returned (.tuple #[rvP n pB pF aA aP m kB kF kA kP (lr lim left), .int .i64 c]) ∧ Below W.heap.size W w') → WX w wr D n M j (rvP n pB pF aA aP m kB kF kA kP (lr lim left)) i c s := by
    intro c hc hw hr
    have q := write_bad DV i s (by rw [hw]; exact hc)
    rw [hw] at q
    refine q.mono ?_
    rintro e w' ⟨rfl, hw'⟩
    subst hw'
    refine ⟨rfl, k.bel, Nat.le_refl _, fun _ _ => rfl, fun W b => (hr W).mono ?_⟩
    rintro e2 w2 ⟨rfl, b2⟩
    exact ⟨_, rfl, ((h0.more b).keep b2).up (Nat.le_succ _), b2⟩
  by_cases h1 : i < 0
  · exact ⟨2, bad 2 (by decide) (if_pos (Or.inl h1)) (fun W => writer_lo W _ _ _ _ _ _ _ _ _ _ _ _ _ i s h1)⟩
  by_cases h2 : (n : Int) ≤ i
  · exact ⟨2, bad 2 (by decide) (if_pos (Or.inr h2)) (fun W => writer_hi W _ _ _ _ _ _ _ _ _ _ _ _ _ i s h1 h2)⟩
  by_cases h3 : 64 < s.size
  · exact ⟨5, bad 5 (by decide) (by unfold werr; rw [if_neg (by omega), if_pos h3]) (fun W => writer_long W _ _ _ _ _ _ _ _ _ _ _ _ _ i s h1 h2 h3)⟩
  by_cases h4 : lr lim left = 0
  · exact ⟨20, bad 20 (by decide) (by unfold werr; rw [if_neg (by omega), if_neg h3, if_pos (lr_zero.1 h4)]) (fun W => writer_full W _ _ _ _ _ _ _ _ _ _ _ _ _ i s h1 h2 h3 h4)⟩
  obtain ⟨q, rfl⟩ : ∃ q : Nat, i = (q : Int) := ⟨i.toNat, by omega⟩
  have hq : q < n := by omega
  have h64 : s.size ≤ 64 := by omega
  refine ⟨0, (write_okB k.dv q s hq h64 (fun e => h4 (lr_zero.2 e)) (by rw [k.len]; omega) k.bel.size).mono ?_⟩
  rintro e w' ⟨rfl, ⟨H', dv, ho⟩, bw, fr⟩
  have rk : ∀ {e N : Nat} {u : Value} {xs : List Value}, wr.ownsRow w.heap.size e 1 u N xs → Ap D gf gn H u → w'.ownsRow w.heap.size e 1 u N xs := fun h a => own_same h (fun c hc => by
    obtain ⟨h1, _, h3, h4⟩ := a c hc
    exact fr c (h.lt c hc).2 h1 h3 h4)
  have RB := rk k.B k.apB; have RF := rk k.F k.apF; have RA := rk k.A k.apA; have RP := rk k.P k.apP
  have aF := k.apF.write (w := wr) (fun b hb => (k.F.lt b hb).2) ho
  have bel' := k.bel.trans bw
  have mb' : ∀ c, M c → w'.heap[c]? = wr.heap[c]? := fun c hc => fr c (k.mlt c hc) (k.apM c hc).1 (k.apM c hc).2.2.1 (k.apM c hc).2.2.2
  have hMb : ∀ c, M c → c ≠ D ∧ c ≠ gf ∧ c ≠ gn ∧ H'.ownBlock ≠ some c := fun c hc => ⟨(k.apM c hc).1, (k.apM c hc).2.1, (k.apM c hc).2.2.1, fun e => by
    rcases ho with h | ⟨t, h, ht⟩
    · exact (k.apM c hc).2.2.2 (by rw [← h]; exact e)
    · rw [h] at e; injection e with e; have := k.mlt c hc; omega⟩
  refine ⟨rfl, bel', bw.size, mb', fun W b => ?_⟩
  have mW : ∀ c, (M c ∨ (w'.heap.size ≤ c ∧ c < W.heap.size)) → c < W.heap.size := fun c hc => by
    rcases hc with hc | hc
    · have h1 := bw.size; have h2 := b.size; have h3 := k.mlt c hc; omega
    · exact hc.2
  /- the state that follows, whatever the new rows are -/
  have fin : ∀ (W2 : World) (l' : Int) (a1 a2 a3 : Option Addr) (k1 k2 k3 N : Nat), N = m + 1 → l' = lr lim (lf1 lim left) →
      W2.ownsRow W.heap.size 9 1 (.slice a1 n k1) n (sts ((strs ns).set q (padS s))) → W2.ownsRow W.heap.size 3 1 (.slice a2 N k2) N (its ((lz hs).map (·.1) ++ [q])) → W2.ownsRow W.heap.size 9 1 (.slice a3 N k3) N (sts ((lz hs).map (·.2) ++ [padS s])) → Below W.heap.size W W2 →
      PX w W2 D n (fun c => M c ∨ (w'.heap.size ≤ c ∧ c < W.heap.size)) (j + 1) (rv false (.slice a1 n k1) (.slice (some pF) n kF) (.slice a2 N k2) (.slice a3 N k3) l') := by
    intro W2 l' a1 a2 a3 k1 k2 k3 N hN hl' hB hA hP b2
    subst hN hl'
    have sz : w.heap.size ≤ W.heap.size := by have h1 := bel'.size; have h2 := b.size; omega
    obtain ⟨p1, rfl⟩ : ∃ p, a1 = some p := by
      rcases hB.2 with ⟨_, h⟩ | ⟨g, _, _, e, _⟩
      · omega
      · injection e with e _ _; exact ⟨_, e⟩
    obtain ⟨p2, rfl⟩ : ∃ p, a2 = some p := by
      rcases hA.2 with ⟨_, h⟩ | ⟨g, _, _, e, _⟩
      · omega
      · injection e with e _ _; exact ⟨_, e⟩
    obtain ⟨p3, rfl⟩ : ∃ p, a3 = some p := by
      rcases hP.2 with ⟨_, h⟩ | ⟨g, _, _, e, _⟩
      · omega
      · injection e with e _ _; exact ⟨_, e⟩
    have bb : Below w'.heap.size w' W2 := b.trans (b2.mono b.size)
    have nf : ∀ {e N0 : Nat} {u : Value} {xs : List Value}, W2.ownsRow W.heap.size e 1 u N0 xs → ∀ c, (M c ∨ (w'.heap.size ≤ c ∧ c < W.heap.size)) → u.ownBlock ≠ some c := fun h c hc e => by have h1 := (h.lt _ e).1; have h2 := mW c hc; omega
    refine ⟨gf, gn, cf, cn, H', fs, ns.set q (padL s), hs ++ [(q, padL s)], lim, lf1 lim left, p1, pF, some p2, some p3, m + 1, k1, kF, k2, k3, rfl, by omega, ?_⟩
    exact {
      dv := dv.keep bb
      B := by rw [strs_set]; exact own_le hB sz
      F := own_below RF bb
      A := by rw [itz_snoc]; exact own_le hA sz
      P := by rw [stz_snoc]; exact own_le hP sz
      apB := Ap.fresh dv hB b.size
      apF := aF
      apA := Ap.fresh dv hA b.size
      apP := Ap.fresh dv hP b.size
      len := by rw [List.length_append, k.len]; rfl
      nq := Or.inr ⟨_, _, rfl, rfl⟩
      apM := fun c hc => by
        rcases hc with hc | hc
        · exact hMb c hc
        · have h1 := dv.row.lt; have h2 := dv.f.lt; have h3 := dv.nw.lt
          exact ⟨by omega, by omega, by omega, fun e => by have := (dv.h.lt c e).2; omega⟩
      nmB := nf hB
      nmF := fun c hc => by
        rcases hc with hc | hc
        · exact k.nmF c hc
        · exact fun e => by have := (RF.lt c e).2; omega
      nmA := nf hA
      nmP := nf hP
      mlt := fun c hc => by have h1 := mW c hc; have h2 := b2.size; omega
      bel := bel'.trans (bb.mono bel'.size) }
  have hsz : n ≤ 1000 := HN1
  have BW := own_below RB b; have AW := own_below RA b; have PW := own_below RP b
  have lpos : lim = true → 0 < left := fun e => by
    have h1 := k.dv.lf
    have h2 : left ≠ 0 := fun e2 => h4 (lr_zero.2 ⟨e, e2⟩)
    omega
  cases lim with
  | true =>
    have l0 := lpos rfl
    have ld : lr true left - 1 = lr true (lf1 true left) := rfl
    rcases k.nq with ⟨rfl, rfl, rfl, rfl, rfl⟩ | ⟨pA, pP, rfl, rfl⟩
    · have hz : hs = [] := List.eq_nil_of_length_eq_zero k.len
      refine (writer_ed W w.heap.size pB (some pF) n kB n kF (strs ns) (lr true left) q s BW hq h64 ⟨l0, k.dv.lf.2⟩ hsz).mono ?_
      rintro e2 w2 ⟨a1, k1, a2, k2, a3, k3, rfl, hB, hA, hP, b2⟩
      subst hz
      exact ⟨_, rfl, fin w2 _ a1 a2 a3 k1 k2 k3 1 rfl ld hB hA hP b2, b2⟩
    · refine (writer_fd W w.heap.size pB (some pF) n kB n kF (strs ns) pA pP m kA m kP ((lz hs).map (fun p : Nat × ByteArray => p.1)) ((lz hs).map (fun p : Nat × ByteArray => p.2)) (lr true left) q s BW AW PW hq h64 ⟨l0, k.dv.lf.2⟩ ⟨hsz, by omega, by omega⟩).mono ?_
      rintro e2 w2 ⟨a1, k1, a2, k2, a3, k3, rfl, hB, hA, hP, b2⟩
      exact ⟨_, rfl, fin w2 _ a1 a2 a3 k1 k2 k3 (m + 1) rfl ld hB hA hP b2, b2⟩
  | false =>
    have ld : lr false left = lr false (lf1 false left) := rfl
    rcases k.nq with ⟨rfl, rfl, rfl, rfl, rfl⟩ | ⟨pA, pP, rfl, rfl⟩
    · have hz : hs = [] := List.eq_nil_of_length_eq_zero k.len
      refine (writer_eu W w.heap.size pB (some pF) n kB n kF (strs ns) (lr false left) q s BW hq h64 (by show (-1 : Int) < 0; decide) hsz).mono ?_
      rintro e2 w2 ⟨a1, k1, a2, k2, a3, k3, rfl, hB, hA, hP, b2⟩
      subst hz
      exact ⟨_, rfl, fin w2 _ a1 a2 a3 k1 k2 k3 1 rfl ld hB hA hP b2, b2⟩
    · refine (writer_fu W w.heap.size pB (some pF) n kB n kF (strs ns) pA pP m kA m kP ((lz hs).map (fun p : Nat × ByteArray => p.1)) ((lz hs).map (fun p : Nat × ByteArray => p.2)) (lr false left) q s BW AW PW hq h64 (by show (-1 : Int) < 0; decide) ⟨hsz, by omega, by omega⟩).mono ?_
      rintro e2 w2 ⟨a1, k1, a2, k2, a3, k3, rfl, hB, hA, hP, b2⟩
      exact ⟨_, rfl, fin w2 _ a1 a2 a3 k1 k2 k3 (m + 1) rfl ld hB hA hP b2, b2⟩
end Go.Proofs.Ytgadplgjpemdaaa
