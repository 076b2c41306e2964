/- tags: Canon, the program's. -/
import Derived.Test.YtlojecpladckiaaTi
namespace Go.Proofs.Ytlojecpladckiaa
open Go.ChangeShapes Go.WideShapes Go.ChangeAt Go.RowKit Go.Joins Go.Deep

open Go.Proofs.TagM Go.Shelf Go.Sort

theorem canon_long {n cap : Nat} {a : Option Addr} (hl : 16 < (n : Int)) (w : World) : Calls Try.prog 10 #[.slice a n cap] w fun e w' => e = .returned (.tuple #[.slice none 0 0, .int .i64 5]) ∧ Below w.heap.size w w' := by
  go_enter Try.func10, Try.ntmps10
  go_wp2_with fail
  go_ret2
  exact ⟨rfl, Below.refl _ _⟩
theorem nil_at (w : World) : TagsAt w (.slice none 0 0) [] := ⟨none, 0, rfl, fun _ => ⟨rfl, rfl⟩, Or.inl rfl⟩
theorem cp_long {l : List Tg} (h : 16 < l.length) : CP l [] 5 := ⟨fun _ => ⟨rfl, rfl⟩, fun k => by omega, fun k => by omega, fun k => by omega⟩
theorem cp_bad {l : List Tg} (h : ¬ 16 < l.length) {j : Nat} (hj : j < l.length) (hv : ¬ vld (l.getD j default)) : CP l [] 10 :=
  ⟨fun k => absurd k h, fun _ _ => ⟨rfl, rfl⟩, fun _ k => absurd (k _ (getD_mem hj)) hv, fun _ k => absurd (k _ (getD_mem hj)) hv⟩
theorem cp_fine {l r : List Tg} (h : ¬ 16 < l.length) (hv : ∀ t ∈ l, vld t) (hs : SK r) (hp : r.Perm l) : CP l r 0 :=
  ⟨fun k => absurd k h, fun _ ⟨t, ht, hb⟩ => absurd (hv t ht) hb, fun _ _ hn => absurd ((hp.map (·.1)).nodup_iff.1 (sk_nodup hs)) hn, fun _ _ _ => ⟨rfl, hs, hp⟩⟩
theorem cp_twice {l : List Tg} (h : ¬ 16 < l.length) (hv : ∀ t ∈ l, vld t) (hn : ¬ (l.map (·.1)).Nodup) : CP l [] 7 :=
  ⟨fun k => absurd k h, fun _ ⟨t, ht, hb⟩ => absurd (hv t ht) hb, fun _ _ _ => ⟨rfl, rfl⟩, fun _ _ k => absurd k hn⟩
theorem all_vld {l : List Tg} (h : ∀ j, j < l.length → vld (l.getD j default)) : ∀ t ∈ l, vld t := fun t ht => by
  obtain ⟨i, h1, h2⟩ := mem_of_getD ht
  rw [← h2]; exact h i h1
/- a row in order by keys that are not less backward is strictly in order if no key comes twice -/
theorem sk_of_sorted {m : List Tg} (hs : m.Pairwise (fun a b => klt b.1 a.1 = false)) (hn : (m.map (·.1)).Nodup) : SK m := by
  unfold SK
  rw [List.Nodup, List.pairwise_map] at hn
  refine (hs.and hn).imp fun {a b} h => ?_
  cases hh : klt a.1 b.1 with
  | true => rfl
  | false => exact absurd (klt_tri hh h.1) h.2
set_option maxRecDepth 100000 in
set_option maxHeartbeats 4000000 in
theorem canon_any {w : World} {v : Value} {l : List Tg} (h : TagsAt w v l) : Calls Try.prog 10 #[v] w fun e w' => ∃ u r f, e = .returned (.tuple #[u, .int .i64 f]) ∧ TagsAt w' u r ∧ CP l r f ∧ Below w.heap.size w w' := by
  have A0 := h
  obtain ⟨a, cap, rfl, _⟩ := h
  by_cases hl : 16 < l.length
  · exact (canon_long (by omega) w).mono fun e w' ⟨he, hb⟩ => ⟨_, [], 5, he, nil_at _, cp_long hl, hb⟩
  · have NL := Lib.hid hl
    have AA := Lib.hid A0
    have CL := Lib.hid (fun W (b : Below w.heap.size w W) => clone_any (A0.below b) (by omega))
    obtain ⟨n, hn⟩ : ∃ n, l.length = n := ⟨_, rfl⟩
    have HN := Lib.hid hn
    rw [hn] at hl AA CL ⊢
    have n2 : ¬ 16 < (n : Int) := by omega
    have HC := Lib.hid n2
    clear A0 hn hl
    go_enter Try.func10, Try.ntmps10
    go_wp2_with fail
    go_loopw [12] (fun s wr => ∃ k : Nat, k ≤ n ∧ s = .int .i64 (k : Int) ∧ Hid (∀ j, j < k → vld (l.getD j default)) ∧ Hid (Below w.heap.size w wr)) (fun s _ => n - (intOf s).toNat)
    case atStart => exact ⟨0, Nat.zero_le _, rfl, fun j hj => absurd hj (by omega), Below.refl _ _⟩
    case round =>
      obtain ⟨k, hk, rfl, GG, BX⟩ := hrel
      by_cases hkn : k < n
      · obtain ⟨b, off, rfl, hbl, o0, o1⟩ := (AA.out.below BX.out).at_ (j := k) (by rw [HN.out]; exact hkn)
        have hlk : k < l.length := by rw [HN.out]; exact hkn
        have BD := Lib.hid (fun hv => cp_bad NL.out hlk hv)
        obtain ⟨⟨x, y⟩, hz⟩ : ∃ z, l.getD k default = z := ⟨_, rfl⟩
        rw [hz] at o0 o1 BD
        dsimp only at o0 o1
        have HZ := Lib.hid hz
        obtain ⟨k1, hk1⟩ : ∃ k1, k + 1 = k1 := ⟨_, rfl⟩
        have HK := Lib.hid hk1
        have k0 : (0 : Int) ≤ (k : Int) := by omega
        have kl : (k : Int) < (n : Int) := by omega
        have e1 : (k : Int) + 1 = (k1 : Int) := by omega
        have e2 : IntKind.i64.wrap (k1 : Int) = (k1 : Int) := by rw [IntKind.wrap_i64]; have := HC.out; omega
        obtain ⟨xb, hxb⟩ : ∃ xb, wr.heap.size = xb := ⟨_, rfl⟩
        obtain ⟨W2, hW2⟩ : ∃ W2, wr.alloc (.cells #[.string x, .string y] 42) = W2 := ⟨_, rfl⟩
        have r2 : Row W2 xb 42 [.string x, .string y] := by rw [← hW2, ← hxb]; exact Row.new _ _ _
        have b2 : Below wr.heap.size wr W2 := by rw [← hW2]; exact (Below.refl _ _).alloc (Nat.le_refl _) _
        have x0 := r2.cell (i := 0) rfl; have x1 := r2.cell (i := 1) rfl
        have B2 := Lib.hid b2
        have VV := Lib.hid (valid_any (x, y) W2)
        have BE := Lib.hid (BX.out.trans (B2.out.mono BX.out.size))
        clear r2 b2 hz hk1 hlk
        by_cases hv : vld (x, y)
        · rw [decide_eq_true hv] at VV
          have G2 : Hid (∀ j, j < k1 → vld (l.getD j default)) := by
            intro j hj
            by_cases e : j = k
            · rw [e, HZ.out]; exact hv
            · exact GG.out j (by have := HK.out; omega)
          clear hv GG BD
          go_wp2_with fail
          refine VV.out.mono ?_; rintro e w3 ⟨rfl, b3⟩
          have B3 := Lib.hid (BE.out.trans (b3.mono BE.out.size))
          clear b3 hW2 x0 x1 o0 o1
          go_wp2_with fail
          go_roundw
          case measure => simp [intOf]; have := HK.out; omega
          case rel => exact ⟨k1, by have := HK.out; omega, rfl, G2, B3⟩
        · rw [decide_eq_false hv] at VV
          have RV := Lib.hid (BD.out hv)
          clear hv GG BD
          go_wp2_with fail
          refine VV.out.mono ?_; rintro e w3 ⟨rfl, b3⟩
          have bb := Lib.hid (BE.out.trans (b3.mono BE.out.size))
          clear b3
          go_wp2_with fail
          go_ret2
          exact ⟨_, [], 10, rfl, nil_at _, RV.out, bb.out⟩
      · have kl : ¬ (k : Int) < (n : Int) := by omega
        have VL := Lib.hid (all_vld (fun j hj => GG.out j (by rw [HN.out] at hj; omega)))
        clear GG
        go_wp2_with fail
        refine (CL.out wr BX.out).mono ?_; rintro e w3 ⟨u, rfl, ou, b3⟩
        have B3 := Lib.hid (BX.out.trans (b3.mono BX.out.size))
        have SO := Lib.hid (sort_any ou (by have := HN.out; have := HC.out; omega))
        have BW := Lib.hid BX.out.size
        clear ou b3
        go_wp2_with fail
        refine SO.out.mono ?_; rintro e w4 ⟨rfl, m, am, pm, sm, b4⟩
        have B4 := Lib.hid (B3.out.trans (b4.mono BW.out))
        have CK := Lib.hid (check_any am)
        have AM := Lib.hid am; have PM := Lib.hid pm; have SM := Lib.hid sm
        clear am pm sm b4
        by_cases hc : chkT m = 0
        · have FIN : Hid (CP l m 0) := by
            have h := (chk_zero (by rw [PM.out.length_eq]; have := NL.out; omega)).1 hc
            exact cp_fine NL.out VL.out h.2 PM.out
          rw [hc] at CK
          clear hc
          go_wp2_with fail
          refine CK.out.mono ?_; rintro e w5 ⟨rfl, b5⟩
          have B5 := Lib.hid (B4.out.trans (b5.mono B4.out.size)); have A5 := Lib.hid (AM.out.below b5)
          clear b5
          go_wp2_with fail
          go_ret2
          exact ⟨u, m, 0, rfl, A5.out, FIN.out, B5.out⟩
        · have FIN : Hid (CP l [] 7) := by
            refine cp_twice NL.out VL.out fun hn => hc ((chk_zero (by rw [PM.out.length_eq]; have := NL.out; omega)).2 ⟨fun t ht => VL.out t (PM.out.mem_iff.1 ht), sk_of_sorted SM.out ((PM.out.map (·.1)).nodup_iff.2 hn)⟩)
          obtain ⟨c, hcc⟩ : ∃ c, chkT m = c := ⟨_, rfl⟩
          rw [hcc] at CK hc
          have c1 : (c == 0) = false := by simpa using hc
          clear hcc hc
          go_wp2_with fail
          refine CK.out.mono ?_; rintro e w5 ⟨rfl, b5⟩
          have B5 := Lib.hid (B4.out.trans (b5.mono B4.out.size))
          clear b5
          go_wp2_with fail
          go_ret2
          exact ⟨_, [], 7, rfl, nil_at _, FIN.out, B5.out⟩
end Go.Proofs.Ytlojecpladckiaa
