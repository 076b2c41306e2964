/- tags: what copy does to a row of tags; Insert at the end. -/
import Derived.Test.YtgfhanhonfpngaaDoorTp
import Derived.Test.YtgfhanhonfpngaaDoorDr
import Derived.Lib.AppendZerosOnto
import Derived.Lib.Overlaps
namespace Go.Proofs.YtgfhanhonfpngaaDoor
open Go.ChangeShapes Go.WideShapes Go.ChangeAt Go.RowKit Go.Joins Go.Deep

open Go.Proofs.TagM Go.Shelf Go.Sort

/- cells laid into a row -/
def spl (cur : Array Value) (o : Nat) (cs : List Value) : Array Value := (cur.toList.take o ++ cs ++ cur.toList.drop (o + cs.length)).toArray
theorem spl_size {cur : Array Value} {o : Nat} {cs : List Value} (h : o + cs.length ≤ cur.size) : (spl cur o cs).size = cur.size := by
  unfold spl; simp; omega
/- copy of elements of two cells -/
theorem copy2 {w : World} {g o dLen dCap sLen sCap m : Nat} {a : Addr} {cur : Array Value} {cs : List Value} (hm : m = Nat.min sLen dLen) (hg : w.heap[g]? = some (.cells cur 32 (0, 0))) (hn : cs.length = m * 2)
    (hsrc : ∀ j v, cs[j]? = some v → w.cell? (a.add j) = some v) (hfit : o + cs.length ≤ cur.size) (h1 : ∀ v ∈ cs, v.oneCell' = true) (ty : TypeId) :
    Sem.run Tryd.prog (Builtin.copy_ #[22, 22] ty #[.slice (some ⟨g, o, none⟩) dLen dCap, .slice (some a) sLen sCap]) w = .ok (goInt m) (w.setRow g (spl cur o cs)) := by
  have hl := run_loadCells_list (P := Tryd.prog) w a cs hsrc
  have hst := run_storeCells_at Tryd.prog g o 32 cs 0 cur w hg (by simpa using hfit) h1
  obtain ⟨i0, hi, hz0, hz1, hz2⟩ := Go.info_parts info32
  have e0 : (cur.toList.take (o + 0) ++ cs ++ cur.toList.drop (o + 0 + cs.length)).toArray = spl cur o cs := rfl
  rw [e0] at hst
  rw [hn] at hl
  simp [Builtin.copy_, run_underlying Tryd.underlying22, Builtin.lenOf, Builtin.firstCells, sizeOf, typeInfo, hi, hz1, ← hm, hl, hst]
theorem setRow_below {w : World} {base g : Nat} (hb : base ≤ g) (cs : Array Value) : Below base w (w.setRow g cs) :=
  ⟨rfl, rfl, rfl, by simp [World.setRow], fun k hk => setRow_other w g k _ (by omega)⟩
/- t in the midst of a row -/
def insT (K : List Tg) (i : Nat) (t : Tg) : List Tg := K.take i ++ t :: K.drop i
theorem insT_len {K : List Tg} {i : Nat} {t : Tg} (h : i ≤ K.length) : (insT K i t).length = K.length + 1 := by
  unfold insT; simp; omega
theorem tcs_drop : ∀ (l : List Tg) (i : Nat), tcs (l.drop i) = (tcs l).drop (i * 2)
  | [], i => by simp [tcs]
  | a :: l, 0 => by simp
  | a :: l, i + 1 => by
    have e1 : (i + 1) * 2 = i * 2 + 1 + 1 := by omega
    rw [e1, List.drop_succ_cons, tcs, List.drop_succ_cons, List.drop_succ_cons, tcs_drop l i]
theorem tcs_ins {K : List Tg} {i : Nat} {x y : ByteArray} : tcs (insT K i (x, y)) = (tcs K).take (i * 2) ++ (.string x :: .string y :: (tcs K).drop (i * 2)) := by
  unfold insT; rw [tcs_append, tcs_take, tcs, tcs_drop]
set_option maxRecDepth 100000 in
set_option maxHeartbeats 2000000 in
theorem insert_end {w : World} {base vb : Nat} {u : Value} {K : List Tg} (ho : TOwn w base u K) (x y : ByteArray) (hv : Row w vb 32 [.string x, .string y]) (hl : K.length ≤ 1000000) (hbs : base ≤ w.heap.size) :
    Calls Tryd.prog 34 #[u, .int .i64 (K.length : Int), .slice (some ⟨vb, 0, none⟩) 1 1] w fun e w' => ∃ u', e = .returned u' ∧ TOwn w' base u' (insT K K.length (x, y)) ∧ Below base w w' := by
  obtain ⟨i0, hi, hz0, hz1, hz2⟩ := Go.info_parts info32
  have II := Lib.hid hi; have Z0 := Lib.hid hz0; have Z1 := Lib.hid hz1; have Z2 := Lib.hid hz2
  clear hi hz0 hz1 hz2
  obtain ⟨au, cu, rfl⟩ := ho.form
  have NW : Hid (∀ (j : Nat) (v : Value), [Value.string x, Value.string y][j]? = some v → w.cell? ((⟨vb, 0, none⟩ : Addr).add j) = some v) := by
    intro j v hj
    rw [Addr.add_lit, Nat.zero_add]
    exact hv.cell hj
  obtain ⟨n, hn⟩ : ∃ n, K.length = n := ⟨_, rfl⟩
  have HN := Lib.hid hn
  have O1 : Hid (w.ownsRow base 32 2 (.slice au n cu) n (tcs K)) := by have h := ho; unfold TOwn at h; rw [hn] at h; exact h
  have E : Hid (insT K n (x, y) = K ++ [(x, y)]) := by
    show insT K n (x, y) = K ++ [(x, y)]
    unfold insT; rw [List.take_of_length_le (Nat.le_of_eq hn), List.drop_eq_nil_of_le (Nat.le_of_eq hn)]
  rw [hn] at hl ⊢
  have HL := Lib.hid hl; have HB := Lib.hid hbs
  have nn : ((n : Int) == (n : Int)) = true := by simp
  have n0 : (0 : Int) ≤ (n : Int) := by omega
  have cn : n ≤ cu := by
    rcases ho.2 with ⟨e, h0⟩ | ⟨g, cap, cur, e, _, _, h1, _⟩
    · injection e with e1 e2 e3; omega
    · injection e with e1 e2 e3; omega
  clear ho hv hn hl hbs
  go_enter Tryd.func34, Tryd.ntmps34
  go_wp2_with (at_builtin; refine wpList_append_own_at _ rfl _ _ 22 rfl base 32 i0 zt 2 32 Tryd.underlying22 II.out Z0.out Z1.out Z2.out rfl (by decide) (.slice au n cu) n (tcs K) rfl O1.out ⟨vb, 0, none⟩ 1 1 [.string x, .string y] rfl rfl NW.out (by simp [Value.oneCell']) (by have := HL.out; unfold maxLen; omega) (by have := HL.out; omega) HB.out ?_; intro v' w7 hown' hgrow hnil hloc; have R7 := Lib.hid hown'; have G7 := Lib.hid hgrow; clear hown' hgrow hnil hloc)
  all_goals go_ret
  all_goals exact ⟨v', rfl, by rw [E.out]; exact own_add HN.out R7.out, (Below.refl base w).grown G7.out HB.out (fun q e => (O1.out.lt q e).1)⟩
end Go.Proofs.YtgfhanhonfpngaaDoor

