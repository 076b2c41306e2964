/- few, names.Of, the reference's Of. -/
import Derived.Test.YtpgblcemooamdaaWd
namespace Go.Proofs.Ytpgblcemooamdaa
open Go.ChangeShapes Go.WideShapes Go.ChangeAt Go.RowKit Go.Maps Go.WideMaps

def Few (ss : List ByteArray) (w : World) (e : Ending) (w' : World) : Prop := ∃ b : Bool, (b = true → ss.length ≤ 60) ∧ e = .returned (.bool b) ∧ w = w'
set_option maxHeartbeats 1000000 in
theorem few_any {w : World} {v : Value} {ss : List ByteArray} (h : StrsAt w v ss) (hl : ss.length ≤ maxLen) (hz : ∀ s ∈ ss, s.size ≤ maxLen) : Calls Try.prog 18 #[v] w (Few ss w) := by
  have HS := Lib.hid h; have HZ := Lib.hid hz
  obtain ⟨a, cap, rfl⟩ := slice_len h
  obtain ⟨n, hn⟩ : ∃ n, ss.length = n := ⟨_, rfl⟩
  have HN := Lib.hid hn
  rw [hn] at hl ⊢
  unfold maxLen at hl
  clear h hn hz
  go_enter Try.func18, Try.ntmps18
  go_wp2_with fail
  go_loop [3] (fun s3 => ∃ k : Nat, k ≤ n ∧ k ≤ 61 ∧ s3 = .int .i64 k) (fun s3 => 61 - (intOf s3).toNat)
  case atStart => exact ⟨0, by omega, by omega, rfl⟩
  case round =>
    obtain ⟨k, hk, hk2, rfl⟩ := hrel
    by_cases hlt : k < n
    · by_cases h61 : k < 61
      · have hk' : k < ss.length := by have := HN.out; omega
        obtain ⟨b, off, cap', e, _, hc⟩ := strs_at HS.out k hk'
        rw [HN.out] at e
        injection e with e1 e2 e3
        subst e1 e3
        have c1 := hc k hk'
        obtain ⟨u, hu⟩ : ∃ u, ss[k] = u := ⟨_, rfl⟩
        rw [hu] at c1
        have hus : u.size ≤ maxLen := by rw [← hu]; exact HZ.out _ (List.getElem_mem hk')
        unfold maxLen at hus
        clear hc hu e2
        by_cases h3 : 300 < u.size
        · go_wp2
          go_ret
          exact ⟨false, (fun h => by cases h), rfl, rfl⟩
        · go_wp2
          go_round
          case rel => exact ⟨k + 1, by omega, by omega, by go_num⟩
          case measure => simp [intOf]; omega
      · have hd : decide (n ≤ 60) = false := by simp; omega
        go_wp2
        go_ret
        exact ⟨_, (fun h => by simp at h; omega), rfl, rfl⟩
    · by_cases h60 : n ≤ 60
      · go_wp2
        go_ret
        exact ⟨_, (fun _ => by rw [HN.out]; exact h60), rfl, rfl⟩
      · have hd : decide (n ≤ 60) = false := by simpa using h60
        go_wp2
        go_ret
        exact ⟨_, (fun h => by simp at h; omega), rfl, rfl⟩

theorem take_snoc (ss : List ByteArray) (k : Nat) (h : k < ss.length) : ss.take (k + 1) = ss.take k ++ [ss[k]] := by
  rw [List.take_succ_eq_append_getElem h]
theorem take_twice {ss : List ByteArray} {k : Nat} (h : k < ss.length) (hm : ss[k] ∈ ss.take k) : ¬ ss.Nodup := by
  intro nd
  obtain ⟨i, hi, e⟩ := List.getElem_of_mem hm
  have hi' : i < k := by simp at hi; omega
  have hp := List.pairwise_iff_getElem.1 nd
  exact hp i k (by omega) h hi' (by rw [← e]; simp)
/- what names.Of leaves: a table of the call's own, or an error -/
def Ofs (ss : List ByteArray) (w : World) (e : Ending) (w' : World) : Prop :=
  (ss.Nodup ∧ e = .returned (.tuple #[.pointer (some ⟨w.heap.size + 1, 0, none⟩), .int .i64 0]) ∧ (∃ sv, Tab w' (w.heap.size + 1) w.heap.size sv ss ∧ ∀ k, sv.ownBlock = some k → w.heap.size ≤ k) ∧ Below w.heap.size w w') ∨
  (¬ ss.Nodup ∧ e = .returned (.tuple #[.pointer none, .int .i64 7]) ∧ Below w.heap.size w w')
set_option maxHeartbeats 1000000 in
theorem of_any {w : World} {v : Value} {ss : List ByteArray} (h : StrsAt w v ss) (hl : ss.length < 1000000) (hz : ∀ s ∈ ss, s.size ≤ maxLen) : Calls Try.prog 19 #[v] w (Ofs ss w) := by
  have HS := Lib.hid h; have HZ := Lib.hid hz
  obtain ⟨a, cap, rfl⟩ := slice_len h
  obtain ⟨n, hn⟩ : ∃ n, ss.length = n := ⟨_, rfl⟩
  have HN := Lib.hid hn
  rw [hn] at hl ⊢
  clear h hn hz
  go_enter Try.func19, Try.ntmps19
  go_wp2_with fail
  refine (new_any w).mono ?_; rintro e w1 ⟨rfl, ht, hk, hz⟩
  have T0 := Lib.hid ht; have B0 := Lib.hid hk.all; clear ht hk hz
  go_wp2_with fail
  go_loopw [10] (fun s10 wr => ∃ k : Nat, k ≤ n ∧ s10 = .int .i64 k ∧ ∃ sv, Hid (Tab wr (w.heap.size + 1) w.heap.size sv (ss.take k)) ∧ Hid (∀ j, sv.ownBlock = some j → w.heap.size ≤ j) ∧ Hid (Below w.heap.size w wr)) (fun s10 _ => n - (intOf s10).toNat)
  case atStart => exact ⟨0, by omega, rfl, _, by simpa using T0, (fun j e => by cases e), B0⟩
  case round =>
    obtain ⟨k, hk, rfl, sv, T, O, B⟩ := hrel
    by_cases hlt : k < n
    · have hk' : k < ss.length := by have := HN.out; omega
      obtain ⟨b, off, cap', e, _, hc⟩ := strs_at (HS.out.below B.out) k hk'
      rw [HN.out] at e
      injection e with e1 e2 e3
      subst e1 e3
      have c1 := hc k hk'
      obtain ⟨u, hu⟩ : ∃ u, ss[k] = u := ⟨_, rfl⟩
      rw [hu] at c1
      have HU := Lib.hid hu
      have hus : Hid (u.size ≤ maxLen) := by show u.size ≤ maxLen; rw [← hu]; exact HZ.out _ (List.getElem_mem hk')
      have htl : (ss.take k).length = k := by simp; omega
      have HTL := Lib.hid htl
      clear hc hu e2 htl
      go_wp2_with fail
      refine (add_any T.out u hus.out (by rw [HTL.out]; omega)).mono ?_; rintro e w2 ⟨c, sv', t, hA, rfl, h1, h2, h3⟩
      obtain ⟨sv2, t2, o2, b2⟩ := Tab.own B.out (Nat.le_succ _) (Nat.le_refl _) O.out ⟨sv', h1, h2, h3⟩
      have T2 := Lib.hid t2; have O2 := Lib.hid o2; have B2 := Lib.hid b2
      clear h1 h2 h3 t2 o2 b2
      rcases hA with ⟨m1, m2, m3⟩ | ⟨m1, m2, m3⟩
      · have ck : (c != (k : Int)) = true := by
          rcases m3 with ⟨m4, _⟩ | ⟨i, hi, _, hc, _⟩
          · exact absurd m1 m4
          · simp at hi
            simp; omega
        have fin : Hid (¬ ss.Nodup) := take_twice hk' (by rw [HU.out]; exact m1)
        clear m1 m2 m3
        go_wp2_with fail
        go_ret2
        exact Or.inr ⟨fin.out, rfl, B2.out⟩
      · have ck : c = (k : Int) := by rw [m3, HTL.out]
        subst ck
        have hkk : ((k : Int) != (k : Int)) = false := by simp
        have T3 : Hid (Tab w2 (w.heap.size + 1) w.heap.size sv2 (ss.take (k + 1))) := by
          show Tab w2 (w.heap.size + 1) w.heap.size sv2 (ss.take (k + 1))
          rw [take_snoc ss k hk', HU.out, ← m2]; exact T2.out
        clear m1 m2 m3
        go_wp2_with fail
        go_roundw
        case rel => exact ⟨k + 1, by omega, by go_num, sv2, T3, O2, B2⟩
        case measure => simp [intOf]; omega
    · have hall : ss.take k = ss := by rw [List.take_of_length_le]; have := HN.out; omega
      have T3 := T.out
      rw [hall] at T3
      have T4 := Lib.hid T3
      clear T3 hall
      go_wp2_with fail
      go_ret2
      exact Or.inl ⟨T4.out.nd, rfl, ⟨sv, T4.out, O.out⟩, B.out⟩

/- the reference's Of -/
def ROfs (ss : List ByteArray) (w : World) (v : Value) (e : Ending) (w' : World) : Prop :=
  (ss.Nodup ∧ e = .returned (.tuple #[v, .int .i64 0]) ∧ ∃ q, w' = w.drewN q) ∨ (¬ ss.Nodup ∧ e = .returned (.tuple #[.slice none 0 0, .int .i64 7]) ∧ ∃ q, w' = w.drewN q)

theorem qsame {P : Program} {f : FuncId} {args : Array Value} {w : World} {n : Nat} {v : Value}
    (h : Calls P f args (w.drewN n) fun e w' => e = .returned v ∧ w.drewN n = w') : Calls P f args (w.drewN n) fun e w'' => e = .returned v ∧ ∃ m, w'' = w.drewN m :=
  h.mono fun _ _ ⟨he, hm⟩ => ⟨he, n, hm.symm⟩
theorem first_unique {ss : List ByteArray} {s : ByteArray} {c c' : Int} {o o' : Bool} (h : First ss s c o) (k : First ss s c' o') : c = c' ∧ o = o' := by
  rcases h with ⟨h1, h2, h3⟩ | ⟨i, hi, e, h2, h3, h4⟩ <;> rcases k with ⟨k1, k2, k3⟩ | ⟨j, hj, e', k2, k3, k4⟩
  · exact ⟨h2.trans k2.symm, h3.trans k3.symm⟩
  · exact absurd (e' ▸ List.getElem_mem hj) h1
  · exact absurd (e ▸ List.getElem_mem hi) k1
  · have : i = j := by
      rcases Nat.lt_trichotomy i j with h | h | h
      · exact absurd e (k4 i h)
      · exact h
      · exact absurd e' (h4 j h)
    subst this
    exact ⟨h2.trans k2.symm, h3.trans k3.symm⟩
theorem first_exists (ss : List ByteArray) (s : ByteArray) : ∃ c o, First ss s c o := by
  induction ss with
  | nil => exact ⟨0, false, Or.inl ⟨by simp, rfl, rfl⟩⟩
  | cons x r ih =>
    by_cases hx : x = s
    · exact ⟨0, true, Or.inr ⟨0, by simp, hx, rfl, rfl, fun j hj => absurd hj (Nat.not_lt_zero j)⟩⟩
    · obtain ⟨c, o, h⟩ := ih
      rcases h with ⟨h1, h2, h3⟩ | ⟨i, hi, e, h2, h3, h4⟩
      · exact ⟨0, false, Or.inl ⟨by simp [h1]; exact fun e => hx e.symm, rfl, rfl⟩⟩
      · refine ⟨((i + 1 : Nat) : Int), true, Or.inr ⟨i + 1, by simp; omega, by simpa using e, rfl, rfl, fun j hj => ?_⟩⟩
        cases j with
        | zero => exact hx
        | succ j => simpa using h4 j (by omega)
theorem rfind_at {w : World} {v : Value} {ss : List ByteArray} {c : Int} {o : Bool} (h : StrsAt w v ss) (s : ByteArray) (hl : ss.length ≤ 1000000) (hf : First ss s c o) : Calls Try.prog 12 #[v, .string s] w fun e w' => e = .returned (.tuple #[.int .i64 c, .bool o]) ∧ w = w' := by
  refine (rfind_any h s hl).mono ?_
  rintro e w' ⟨c', o', hf', rfl, rfl⟩
  obtain ⟨rfl, rfl⟩ := first_unique hf' hf
  exact ⟨rfl, rfl⟩
theorem draw_more {w wr : World} {n : Nat} (h : ∃ q, wr = w.drewN q) : ∃ q, wr.drewN n = w.drewN q := by
  obtain ⟨q, rfl⟩ := h; exact ⟨q + n, by rw [World.drewN_drewN]⟩
theorem StrsAt.drewN {w : World} {v : Value} {ss : List ByteArray} (h : StrsAt w v ss) (q : Nat) : StrsAt (w.drewN q) v ss := h.below (below_drewN (Below.refl _ _) q)
theorem strs_take {w : World} {b off n cap : Nat} {ss : List ByteArray} (h : StrsAt w (.slice (some ⟨b, off, none⟩) n cap) ss) (k : Nat) (hk : k ≤ ss.length) : StrsAt w (.slice (some ⟨b, off, none⟩) k cap) (ss.take k) := by
  rcases h with ⟨e, _⟩ | ⟨ad, cap', e, hb, hcap, hc⟩
  · cases e
  · injection e with e1 e2 e3
    injection e1 with e1
    subst e1 e3
    refine Or.inr ⟨_, cap, by simp; omega, hb.imp (fun e => by subst e; simp) id, by simp; omega, fun i hi => ?_⟩
    simp at hi
    rw [hc i (by omega)]; simp
set_option maxHeartbeats 1000000 in
theorem rof_any {w : World} {v : Value} {ss : List ByteArray} (h : StrsAt w v ss) (hl : ss.length ≤ 1000000) : Calls Try.prog 20 #[v] w (ROfs ss w v) := by
  have HS := Lib.hid h
  obtain ⟨a, cap, rfl⟩ := slice_len h
  obtain ⟨n, hn⟩ : ∃ n, ss.length = n := ⟨_, rfl⟩
  have HN := Lib.hid hn
  rw [hn] at hl ⊢
  clear h hn
  go_enter Try.func20, Try.ntmps20
  go_wp2_with fail
  go_loopw [4] (fun s4 wr => ∃ k : Nat, k ≤ n ∧ s4 = .int .i64 k ∧ Hid ((ss.take k).Nodup) ∧ Hid (∃ q, wr = w.drewN q)) (fun s4 _ => n - (intOf s4).toNat)
  case atStart => exact ⟨0, by omega, rfl, by simp [Hid], ⟨0, rfl⟩⟩
  case round =>
    obtain ⟨k, hk, rfl, HD, HQ⟩ := hrel
    have SW : Hid (StrsAt wr (.slice a ss.length cap) ss) := by
      obtain ⟨q, e⟩ := HQ.out; rw [e]; exact HS.out.drewN q
    clear HS
    by_cases hlt : k < n
    · have hk' : k < ss.length := by have := HN.out; omega
      obtain ⟨b, off, cap', e, hcap, hc⟩ := strs_at SW.out k hk'
      rw [HN.out] at e hcap
      injection e with e1 e2 e3
      subst e1 e3
      have c1 := hc k hk'
      obtain ⟨u, hu⟩ : ∃ u, ss[k] = u := ⟨_, rfl⟩
      rw [hu] at c1
      have HU := Lib.hid hu
      have s0 := SW.out
      rw [HN.out] at s0
      have ST := Lib.hid (strs_take s0 k (by omega))
      have htl : (ss.take k).length = k := by simp; omega
      have HTL := Lib.hid htl
      obtain ⟨c, o, hf⟩ := first_exists (ss.take k) u
      have HF := Lib.hid hf
      have i1 : (k : Int) ≤ (cap : Int) := by omega
      have i2 : (0 : Int) ≤ (k : Int) := by omega
      have i3 : (k : Int) < (n : Int) := by omega
      have i4 : k ≤ cap := by omega
      clear hc hu e2 htl hf s0
      cases o
      · have hm : u ∉ ss.take k := by
          rcases HF.out with ⟨h1, _⟩ | ⟨_, _, _, _, h, _⟩
          · exact h1
          · cases h
        have nd' : Hid ((ss.take (k + 1)).Nodup) := by
          show (ss.take (k + 1)).Nodup
          rw [take_snoc ss k hk', HU.out, List.nodup_append]
          refine ⟨HD.out, by simp, fun x hx y hy => ?_⟩
          simp at hy; subst hy
          intro e; subst e; exact hm hx
        clear hm
        go_wp2_with fail
        go_quiet ((go_at_call 12; exact qsame (rfind_at ((ST.out.drewN _)) u (by rw [HTL.out]; omega) HF.out)))
        go_wp2
        go_roundw
        case rel => exact ⟨k + 1, by omega, by go_num, nd', draw_more HQ.out⟩
        case measure => simp [intOf]; omega
      · have fin : Hid (¬ ss.Nodup) := take_twice hk' (by rw [HU.out]; exact (first_num HF.out).1)
        go_wp2_with fail
        go_quiet ((go_at_call 12; exact qsame (rfind_at ((ST.out.drewN _)) u (by rw [HTL.out]; omega) HF.out)))
        go_wp2
        go_ret2
        exact Or.inr ⟨fin.out, rfl, draw_more HQ.out⟩
    · have hall : ss.take k = ss := by rw [List.take_of_length_le]; have := HN.out; omega
      have nd : Hid ss.Nodup := by have := HD.out; rw [hall] at this; exact this
      clear hall
      go_wp2
      go_ret2
      exact Or.inl ⟨nd.out, rfl, HQ.out⟩
end Go.Proofs.Ytpgblcemooamdaa
