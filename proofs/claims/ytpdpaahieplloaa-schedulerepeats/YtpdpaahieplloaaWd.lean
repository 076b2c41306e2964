/- Contracts: openAt, the reference's minute. -/
import Derived.Test.YtpdpaahieplloaaWc
namespace Go.Proofs.Ytpdpaahieplloaa
open Go.ChangeShapes Go.WideShapes Go.ChangeAt Go.RowKit Go.Joins Go.Deep

theorem ok_parts {l : List Sp} {f e : Int} (h : checkZ l f e = 0) : l.length ≤ 8 ∧ chk l 0 = 0 ∧ 0 ≤ e ∧ (e = 0 → f = 0) ∧ (0 < e → 0 ≤ f ∧ f ≤ 1439) := by
  unfold checkZ at h
  split at h
  · omega
  · split at h
    · split at h
      · omega
      · rename_i ht
        unfold timeBad at ht
        exact ⟨by omega, by assumption, by omega, by omega, by omega⟩
    · exact absurd h (by assumption)
theorem minute_no {l : List Sp} {f e m : Int} (h : timeAt f e m = false) : minuteZ l f e m = false := by unfold minuteZ; rw [h]; simp
theorem minute_closed {l : List Sp} {f e m : Int} (h : closedAt l m = true) : minuteZ l f e m = false := by unfold minuteZ; rw [h]; simp
theorem minute_yes {l : List Sp} {f e m : Int} (h : closedAt l m = false) (k : timeAt f e m = true) : minuteZ l f e m = true := by unfold minuteZ; rw [h, k]; rfl

/- where the search over the spans stands -/
def Past (l : List Sp) (m : Int) (k : Nat) : Prop := ∀ j, j < k → (l.getD j (0, 0)).2 ≤ m
theorem past_zero (l : List Sp) (m : Int) : Past l m 0 := fun j h => absurd h (Nat.not_lt_zero j)
theorem past_succ {l : List Sp} {m : Int} {k : Nat} (h : Past l m k) (hk : (l.getD k (0, 0)).2 ≤ m) : Past l m (k + 1) := fun j hj => by
  by_cases e : j = k
  · subst e; exact hk
  · exact h j (by omega)

set_option maxRecDepth 100000 in
set_option maxHeartbeats 2000000 in
theorem openAt_time (a : Option Addr) (len cap : Nat) (l : List Sp) (f e m : Int) (w : World) (hm : len ≤ 1000) (HL : Hid (len = l.length))
    (HC : Hid (len = 0 ∨ ∃ b off, a = some ⟨b, off, none⟩ ∧ b < w.heap.size ∧ ∀ i, i < len → w.cell? ⟨b, off + i * 2, none⟩ = some (.int .i64 (l.getD i (0, 0)).1) ∧ w.cell? ⟨b, off + i * 2 + 1, none⟩ = some (.int .i64 (l.getD i (0, 0)).2)))
    (LC : Hid (chk l 0 = 0)) (m0 : 0 ≤ m) (m1 : m < 1440) (HT : Hid (timeAt f e m = true))
    (q : Bool) (hq : decide (0 < e) = q) (hq2 : q = true → f ≤ m ∧ 0 ≤ f ∧ ((m - f) % e != 0) = false ∧ 0 < e) :
    Calls Try.prog 18 #[.agg #[.slice a len cap, .int .i64 f, .int .i64 e], .int .i64 m] w fun en w' => en = .returned (.bool (minuteZ l f e m)) ∧ Below w.heap.size w w' := by
  have HP := Lib.hid (past_zero l m)
  cases q
  case false =>
    clear hq2
    go_enter Try.func18, Try.ntmps18
    go_wp2_with fail
    go_step3
    go_wp2_with fail
    go_step3
    go_wp2_with fail
    go_loopw [29] (fun s29 wr => ∃ k : Nat, k ≤ len ∧ s29 = .int .i64 k ∧ Hid (Past l m k) ∧ Below (w.heap.size + 1) (w.alloc (.cells #[.slice a len cap, .int .i64 f, .int .i64 e] 24)) wr) (fun s29 _ => len - (intOf s29).toNat)
    case atStart => exact ⟨0, by omega, rfl, HP, Below.refl _ _⟩
    case round =>
      clear HP
      obtain ⟨k, hk, rfl, HK, hb⟩ := hrel
      have hsz := hb.size
      simp only [World.size_alloc] at hsz
      by_cases hlt : k < len
      · obtain ⟨b, off, rfl, hbl, hc⟩ : ∃ b off, a = some ⟨b, off, none⟩ ∧ b < w.heap.size ∧ ∀ i, i < len → w.cell? ⟨b, off + i * 2, none⟩ = some (.int .i64 (l.getD i (0, 0)).1) ∧ w.cell? ⟨b, off + i * 2 + 1, none⟩ = some (.int .i64 (l.getD i (0, 0)).2) := by
          rcases HC.out with h | h
          · omega
          · exact h
        have e1 : wr.cell? ⟨b, off + k * 2, none⟩ = some (.int .i64 (l.getD k (0, 0)).1) := by
          rw [hb.cell (by show b < w.heap.size + 1; omega), Below.cell ((Below.refl w.heap.size w).alloc (Nat.le_refl _) _) (by exact hbl)]; exact (hc k hlt).1
        have e2 : wr.cell? ⟨b, off + k * 2 + 1, none⟩ = some (.int .i64 (l.getD k (0, 0)).2) := by
          rw [hb.cell (by show b < w.heap.size + 1; omega), Below.cell ((Below.refl w.heap.size w).alloc (Nat.le_refl _) _) (by exact hbl)]; exact (hc k hlt).2
        obtain ⟨c, hcc⟩ : ∃ c, l.getD k (0, 0) = c := ⟨_, rfl⟩
        rw [hcc] at e1 e2
        obtain ⟨c1, c2⟩ := c
        have CC := Lib.hid hcc
        have hkl : Hid (k < l.length) := by show k < l.length; have := HL.out; omega
        clear hcc hc
        by_cases h1 : m < c1
        · have fin : Hid (minuteZ l f e m = true) := minute_yes (closed_stop l k 0 m (Int.le_refl 0) LC.out hkl.out HK.out (by rw [CC.out]; exact h1)) HT.out
          go_wp2
          try rw [Exit.noGoto_ret]
          go_ret
          exact ⟨ret_bool fin.out.symm, below_end1 hb hsz⟩
        · by_cases h2 : m < c2
          · have fin : Hid (minuteZ l f e m = false) := minute_closed (closed_some l m k hkl.out (by rw [CC.out]; show c1 ≤ m; omega) (by rw [CC.out]; exact h2))
            go_wp2
            try rw [Exit.noGoto_ret]
            go_ret
            exact ⟨ret_bool fin.out.symm, below_end1 hb hsz⟩
          · have st : Hid (Past l m (k + 1)) := past_succ HK.out (by rw [CC.out]; show c2 ≤ m; omega)
            go_wp2
            go_roundw
            case rel => exact ⟨k + 1, by omega, by go_num, st, hb.alloc (by omega) _⟩
            case measure => simp [intOf]; omega
      · obtain rfl : k = len := by omega
        have fin : Hid (minuteZ l f e m = true) := by
          refine minute_yes (closed_none l m fun j hj => ?_) HT.out
          have := HK.out j (by have := HL.out; omega)
          omega
        go_wp2
        try rw [Exit.noGoto_ret]
        go_ret
        exact ⟨ret_bool fin.out.symm, below_end hb⟩
  case true =>
    obtain ⟨q1, q2, q3, q4⟩ := hq2 rfl
    clear hq2
    go_enter Try.func18, Try.ntmps18
    go_wp2_with fail
    go_step3
    go_wp2_with fail
    go_step3
    go_wp2_with fail
    go_loopw [29] (fun s29 wr => ∃ k : Nat, k ≤ len ∧ s29 = .int .i64 k ∧ Hid (Past l m k) ∧ Below (w.heap.size + 1) (w.alloc (.cells #[.slice a len cap, .int .i64 f, .int .i64 e] 24)) wr) (fun s29 _ => len - (intOf s29).toNat)
    case atStart => exact ⟨0, by omega, rfl, HP, Below.refl _ _⟩
    case round =>
      clear HP
      obtain ⟨k, hk, rfl, HK, hb⟩ := hrel
      have hsz := hb.size
      simp only [World.size_alloc] at hsz
      by_cases hlt : k < len
      · obtain ⟨b, off, rfl, hbl, hc⟩ : ∃ b off, a = some ⟨b, off, none⟩ ∧ b < w.heap.size ∧ ∀ i, i < len → w.cell? ⟨b, off + i * 2, none⟩ = some (.int .i64 (l.getD i (0, 0)).1) ∧ w.cell? ⟨b, off + i * 2 + 1, none⟩ = some (.int .i64 (l.getD i (0, 0)).2) := by
          rcases HC.out with h | h
          · omega
          · exact h
        have e1 : wr.cell? ⟨b, off + k * 2, none⟩ = some (.int .i64 (l.getD k (0, 0)).1) := by
          rw [hb.cell (by show b < w.heap.size + 1; omega), Below.cell ((Below.refl w.heap.size w).alloc (Nat.le_refl _) _) (by exact hbl)]; exact (hc k hlt).1
        have e2 : wr.cell? ⟨b, off + k * 2 + 1, none⟩ = some (.int .i64 (l.getD k (0, 0)).2) := by
          rw [hb.cell (by show b < w.heap.size + 1; omega), Below.cell ((Below.refl w.heap.size w).alloc (Nat.le_refl _) _) (by exact hbl)]; exact (hc k hlt).2
        obtain ⟨c, hcc⟩ : ∃ c, l.getD k (0, 0) = c := ⟨_, rfl⟩
        rw [hcc] at e1 e2
        obtain ⟨c1, c2⟩ := c
        have CC := Lib.hid hcc
        have hkl : Hid (k < l.length) := by show k < l.length; have := HL.out; omega
        clear hcc hc
        by_cases h1 : m < c1
        · have fin : Hid (minuteZ l f e m = true) := minute_yes (closed_stop l k 0 m (Int.le_refl 0) LC.out hkl.out HK.out (by rw [CC.out]; exact h1)) HT.out
          go_wp2
          try rw [Exit.noGoto_ret]
          go_ret
          exact ⟨ret_bool fin.out.symm, below_end1 hb hsz⟩
        · by_cases h2 : m < c2
          · have fin : Hid (minuteZ l f e m = false) := minute_closed (closed_some l m k hkl.out (by rw [CC.out]; show c1 ≤ m; omega) (by rw [CC.out]; exact h2))
            go_wp2
            try rw [Exit.noGoto_ret]
            go_ret
            exact ⟨ret_bool fin.out.symm, below_end1 hb hsz⟩
          · have st : Hid (Past l m (k + 1)) := past_succ HK.out (by rw [CC.out]; show c2 ≤ m; omega)
            go_wp2
            go_roundw
            case rel => exact ⟨k + 1, by omega, by go_num, st, hb.alloc (by omega) _⟩
            case measure => simp [intOf]; omega
      · obtain rfl : k = len := by omega
        have fin : Hid (minuteZ l f e m = true) := by
          refine minute_yes (closed_none l m fun j hj => ?_) HT.out
          have := HK.out j (by have := HL.out; omega)
          omega
        go_wp2
        try rw [Exit.noGoto_ret]
        go_ret
        exact ⟨ret_bool fin.out.symm, below_end hb⟩

set_option maxRecDepth 100000 in
set_option maxHeartbeats 1000000 in
theorem openAt_any (v : Value) (l : List Sp) (f e m : Int) (w : World) (hv : IsSched w v l f e) (hok : checkZ l f e = 0) (m0 : 0 ≤ m) (m1 : m < 1440) :
    Calls Try.prog 18 #[v, .int .i64 m] w fun en w' => en = .returned (.bool (minuteZ l f e m)) ∧ Below w.heap.size w w' := by
  obtain ⟨a, len, cap, rfl, hm, hf, he, hs⟩ := hv
  obtain ⟨hlen, hbd, hcell⟩ := hs
  obtain ⟨l8, lc, e0, ef, e1⟩ := ok_parts hok
  by_cases ht : timeAt f e m = true
  · refine openAt_time a len cap l f e m w (by omega) hlen hcell lc m0 m1 ht _ rfl ?_
    intro h
    have h0 : 0 < e := by simpa using h
    unfold timeAt at ht
    have := e1 h0
    simp at ht
    rcases ht with ht | ⟨h1, h2⟩
    · omega
    · exact ⟨h1, by omega, by simp [h2], h0⟩
  · have ht' : timeAt f e m = false := by simpa using ht
    have fin : Hid (minuteZ l f e m = false) := minute_no ht'
    have h0 : 0 < e := by
      by_cases h : 0 < e
      · exact h
      · exfalso; apply ht; unfold timeAt; simp; left; omega
    have f0 := (e1 h0).1; have f1 := (e1 h0).2
    have hq : decide (0 < e) = true := by simpa using h0
    clear hcell hlen hbd ef e1 lc l8 hok
    by_cases h1 : m < f
    · clear ht ht'
      go_enter Try.func18, Try.ntmps18
      go_wp2_with fail
      go_step3
      go_wp2
      try rw [Exit.noGoto_ret]
      go_ret
      exact ⟨ret_bool fin.out.symm, (Below.refl _ _).alloc (Nat.le_refl _) _⟩
    · have h2 : ((m - f) % e != 0) = true := by
        unfold timeAt at ht'
        simp at ht'
        simp
        exact ht'.2 (by omega)
      clear ht ht'
      go_enter Try.func18, Try.ntmps18
      go_wp2_with fail
      go_step3
      go_wp2
      try rw [Exit.noGoto_ret]
      go_ret
      exact ⟨ret_bool fin.out.symm, (Below.refl _ _).alloc (Nat.le_refl _) _⟩

/- the reference's minute: every valid schedule -/
set_option maxRecDepth 100000 in
set_option maxHeartbeats 2000000 in
theorem minute_any (v : Value) (l : List Sp) (f e m : Int) (w : World) (hv : IsSched w v l f e) (hok : checkZ l f e = 0) (m0 : 0 ≤ m) (m1 : m < 1440) :
    Calls Try.prog 19 #[v, .int .i64 m] w fun en w' => en = .returned (.bool (minuteZ l f e m)) ∧ Below w.heap.size w w' := by
  obtain ⟨a, len, cap, rfl, hm, hf, he, hs⟩ := hv
  obtain ⟨hlen, hbd, hcell⟩ := hs
  obtain ⟨l8, lc, e0, ef, e1⟩ := ok_parts hok
  have hm8 : len ≤ 1000 := by omega
  have HL := Lib.hid hlen; have HC := Lib.hid hcell; have EF := Lib.hid ef; have E1 := Lib.hid e1
  clear hcell hlen hbd ef e1 lc hok l8 hm
  go_enter Try.func19, Try.ntmps19
  go_wp2_with fail
  go_loopw [5] (fun s5 wr => ∃ k : Nat, k ≤ len ∧ s5 = .int .i64 k ∧ Hid (∀ j, j < k → ¬ ((l.getD j (0, 0)).1 ≤ m ∧ m < (l.getD j (0, 0)).2)) ∧ w.alloc (.cells #[.slice a len cap, .int .i64 f, .int .i64 e] 24) = wr) (fun s5 _ => len - (intOf s5).toNat)
  case atStart => exact ⟨0, by omega, rfl, fun j h => absurd h (Nat.not_lt_zero j), rfl⟩
  case round =>
    obtain ⟨k, hk, rfl, HK, rfl⟩ := hrel
    by_cases hlt : k < len
    · obtain ⟨b, off, rfl, hbl, hc⟩ : ∃ b off, a = some ⟨b, off, none⟩ ∧ b < w.heap.size ∧ ∀ i, i < len → w.cell? ⟨b, off + i * 2, none⟩ = some (.int .i64 (l.getD i (0, 0)).1) ∧ w.cell? ⟨b, off + i * 2 + 1, none⟩ = some (.int .i64 (l.getD i (0, 0)).2) := by
        rcases HC.out with h | h
        · omega
        · exact h
      have e1 : ∀ o, (w.alloc o).cell? ⟨b, off + k * 2, none⟩ = some (.int .i64 (l.getD k (0, 0)).1) := fun o => by
        rw [Below.cell ((Below.refl w.heap.size w).alloc (Nat.le_refl _) o) (by exact hbl)]; exact (hc k hlt).1
      have e2 : ∀ o, (w.alloc o).cell? ⟨b, off + k * 2 + 1, none⟩ = some (.int .i64 (l.getD k (0, 0)).2) := fun o => by
        rw [Below.cell ((Below.refl w.heap.size w).alloc (Nat.le_refl _) o) (by exact hbl)]; exact (hc k hlt).2
      obtain ⟨c, hcc⟩ : ∃ c, l.getD k (0, 0) = c := ⟨_, rfl⟩
      rw [hcc] at e1 e2
      obtain ⟨c1, c2⟩ := c
      have CC := Lib.hid hcc
      have hkl : Hid (k < l.length) := by show k < l.length; have := HL.out; omega
      clear hcc hc
      by_cases h1 : c1 ≤ m
      · by_cases h2 : m < c2
        · have fin : Hid (minuteZ l f e m = false) := minute_closed (closed_some l m k hkl.out (by rw [CC.out]; exact h1) (by rw [CC.out]; exact h2))
          go_wp2
          go_ret
          exact ⟨ret_bool fin.out.symm, (Below.refl _ _).alloc (Nat.le_refl _) _⟩
        · have st : Hid (∀ j, j < k + 1 → ¬ ((l.getD j (0, 0)).1 ≤ m ∧ m < (l.getD j (0, 0)).2)) := fun j hj => by
            by_cases ej : j = k
            · subst ej; rw [CC.out]; show ¬ (c1 ≤ m ∧ m < c2); omega
            · exact HK.out j (by omega)
          go_wp2
          go_roundw
          case rel => exact ⟨k + 1, by omega, by go_num, st, by first | trivial | rfl⟩
          case measure => simp [intOf]; omega
      · have st : Hid (∀ j, j < k + 1 → ¬ ((l.getD j (0, 0)).1 ≤ m ∧ m < (l.getD j (0, 0)).2)) := fun j hj => by
          by_cases ej : j = k
          · subst ej; rw [CC.out]; show ¬ (c1 ≤ m ∧ m < c2); omega
          · exact HK.out j (by omega)
        have h1' : decide (c1 ≤ m) = false := by simpa using h1
        go_wp2
        go_roundw
        case rel => exact ⟨k + 1, by omega, by go_num, st, by first | trivial | rfl⟩
        case measure => simp [intOf]; omega
    · obtain rfl : k = len := by omega
      have hcl : closedAt l m = false := closed_none l m fun j hj => HK.out j (by have := HL.out; omega)
      by_cases t2 : e = 0
      · subst t2
        have fin : Hid (minuteZ l f 0 m = true) := minute_yes hcl (by unfold timeAt; simp)
        clear hcl
        go_wp2
        go_ret
        exact ⟨ret_bool fin.out.symm, (Below.refl _ _).alloc (Nat.le_refl _) _⟩
      · have t3 : (e == 0) = false := by simp; omega
        have h0 : 0 < e := by omega
        have f0 := (E1.out h0).1; have f1 := (E1.out h0).2
        by_cases h1 : f ≤ m
        · by_cases h2 : (m - f) % e = 0
          · have fin : Hid (minuteZ l f e m = true) := minute_yes hcl (by unfold timeAt; simp [h1, h2])
            have h3 : ((m - f) % e == 0) = true := by simpa using h2
            clear hcl h2
            go_wp2
            go_ret
            exact ⟨ret_bool fin.out.symm, (Below.refl _ _).alloc (Nat.le_refl _) _⟩
          · have fin : Hid (minuteZ l f e m = false) := minute_no (by unfold timeAt; simp [h2]; omega)
            have h3 : ((m - f) % e == 0) = false := by simpa using h2
            clear hcl h2
            go_wp2
            go_ret
            exact ⟨ret_bool fin.out.symm, (Below.refl _ _).alloc (Nat.le_refl _) _⟩
        · have fin : Hid (minuteZ l f e m = false) := minute_no (by unfold timeAt; simp; omega)
          have h1' : decide (f ≤ m) = false := by simpa using h1
          clear hcl
          go_wp2
          go_ret
          exact ⟨ret_bool fin.out.symm, (Below.refl _ _).alloc (Nat.le_refl _) _⟩

end Go.Proofs.Ytpdpaahieplloaa
