/- device: Write. -/
import Derived.Test.YtgadplgjpemdaaaVb
import Derived.Test.YtgadplgjpemdaaaDr
import Derived.Lib.BufferWrite
import Derived.Laws.CopyOwn
set_option linter.unusedSimpArgs false
namespace Go.Proofs.Ytgadplgjpemdaaa
open Go.ChangeShapes Go.WideShapes Go.ChangeAt Go.RowKit Go.Joins Go.Deep

def padL (s : ByteArray) : List UInt8 := s.data.toList ++ List.replicate (64 - s.size) 0
theorem padL_len {s : ByteArray} (h : s.size ≤ 64) : (padL s).length = 64 := by
  unfold padL; rw [List.length_append, List.length_replicate, ← Lib.size_eq]; omega
def werr (n : Nat) (lim : Bool) (left i : Int) (s : ByteArray) : Int := if i < 0 ∨ (n : Int) ≤ i then 2 else if 64 < s.size then 5 else if lim = true ∧ left = 0 then 20 else 0
def lf1 (lim : Bool) (left : Int) : Int := if lim = true then left - 1 else left
theorem write_nil (w : World) (i : Int) (s : ByteArray) : Calls Try.prog 11 #[.pointer none, .int .i64 i, .string s] w fun e w' => e = .returned (.int .i64 1) ∧ w' = w := by
  have CK := Lib.hid (check_nil w i)
  go_enter Try.func11, Try.ntmps11
  go_wp2_with fail
  refine CK.out.mono ?_; rintro e w4 ⟨rfl, rfl⟩
  go_wp2_with fail
  go_ret
  exact ⟨rfl, rfl⟩
theorem write_bad {w : World} {B D n : Nat} {fs ns : List (List UInt8)} {hs : List (Nat × List UInt8)} {lim : Bool} {left : Int} (h : Dv w B D n fs ns hs lim left) (i : Int) (s : ByteArray) (hb : werr n lim left i s ≠ 0) :
    Calls Try.prog 11 #[pD D, .int .i64 i, .string s] w fun e w' => e = .returned (.int .i64 (werr n lim left i s)) ∧ w' = w := by
  obtain ⟨gf, gn, cf, cn, H, k⟩ := h
  have CK := Lib.hid (check_any k.row i)
  have g3 := k.row.cell (i := 3) rfl; have g4 := k.row.cell (i := 4) rfl
  by_cases h0 : i < 0 ∨ (n : Int) ≤ i
  · have V : Hid (werr n lim left i s = 2) := if_pos h0
    have E : Hid (cerr n i = 2) := if_pos h0
    rw [E.out] at CK; rw [V.out]
    clear k hb h0
    go_enter Try.func11, Try.ntmps11
    go_wp2_with fail
    refine CK.out.mono ?_; rintro e w4 ⟨rfl, rfl⟩
    go_wp2_with fail
    go_ret
    exact ⟨rfl, rfl⟩
  · have E : Hid (cerr n i = 0) := if_neg h0
    rw [E.out] at CK
    by_cases h1 : 64 < s.size
    · have V : Hid (werr n lim left i s = 5) := by show werr _ _ _ _ _ = _; unfold werr; rw [if_neg h0, if_pos h1]
      rw [V.out]
      have d1 : decide ((64 : Int) < (s.size : Int)) = true := by simp; omega
      have d1' : decide (64 < s.size) = true := by simpa using h1
      have d1'' : (64 : Int) < (s.size : Int) := by omega
      clear k hb h0
      go_enter Try.func11, Try.ntmps11
      go_wp2_with fail
      refine CK.out.mono ?_; rintro e w4 ⟨rfl, rfl⟩
      go_wp2_with fail
      go_ret
      exact ⟨rfl, rfl⟩
    · by_cases h2 : lim = true ∧ left = 0
      · have V : Hid (werr n lim left i s = 20) := by show werr _ _ _ _ _ = _; unfold werr; rw [if_neg h0, if_neg h1, if_pos h2]
        rw [V.out]
        obtain ⟨rfl, rfl⟩ := h2
        have d1 : decide ((64 : Int) < (s.size : Int)) = false := by simp; omega
        have d1' : decide (64 < s.size) = false := by simpa using h1
        have d1'' : ¬ (64 : Int) < (s.size : Int) := by omega
        clear k hb h0
        go_enter Try.func11, Try.ntmps11
        go_wp2_with fail
        refine CK.out.mono ?_; rintro e w4 ⟨rfl, rfl⟩
        go_wp2_with fail
        go_ret
        exact ⟨rfl, rfl⟩
      · exact absurd (by unfold werr; rw [if_neg h0, if_neg h1, if_neg h2]) hb
def Z60 : Array Value := #[.int .i64 0] ++ Array.replicate 64 (.int .u8 0)
theorem Try.info60 : (Try.prog.info? 60).map (fun i => (i.zero, i.size)) = some (some (.agg Z60), 65) := by kernel_rfl
theorem Try.info60b : (Try.prog.info? 60).map (fun i => (i.zero, i.size, i.bytes)) = some (some (.agg Z60), 65, 72) := by kernel_rfl
theorem z60_size : Z60.size = 65 := by kernel_rfl
theorem z60_ne : (Z60 = #[]) = False := by
  simp only [eq_iff_iff, iff_false]
  intro e
  have := z60_size
  rw [e] at this; cases this
theorem z60_list : Z60.toList = .int .i64 0 :: List.replicate 64 (.int .u8 0) := by kernel_rfl
theorem step_append_own {P : Program} {ops : Array Oper} {o : Oper} {a : Act} {w : World} {K : Act → World → Prop} {Q : Exit → Act → World → Prop} {E : Prop} (hgd : o.guard = none) (s x : Operand) (t : TypeId)
    (ho : o.op = .call { callee := .builtin .append, args := #[s, x], argTypes := #[t, t] })
    (base : Nat) (e : TypeId) (i : TypeInfo) (z : Value) (size bytes : Nat) (ht : P.underlying t = some (.slice e)) (hi : P.info? e = some i) (hz : i.zero = some z)
    (hsize : i.size = size) (hby : i.bytes = bytes) (hzs : z.cells.size = size) (hsz : 0 < size)
    (v : Value) (n : Nat) (xs : List Value) (hs : a.eval s = v) (hown : w.ownsRow base e size v n xs)
    (ad : Addr) (m c : Nat) (news : List Value) (hx : a.eval x = .slice (some ad) m c) (hl : news.length = m * size) (hnews : ∀ j u, news[j]? = some u → w.cell? (ad.add j) = some u) (h1 : ∀ u ∈ news, u.oneCell' = true)
    (h63 : n + m ≤ maxLen) (hbytes : (n + m) * bytes ≤ 140737488355328) (hbase : base ≤ w.heap.size)
    (h : ∀ v' w', w'.ownsRow base e size v' (n + m) (xs ++ news) → w.grownBy w' v.ownBlock → (v'.ownBlock = v.ownBlock ∨ v'.ownBlock = some w.heap.size) → K (a.put o.dst v') w') :
    if Region.wanted o (yielded ops a.tmps) = true then Oper.wp P o a w K Q else E := by
  have hw : Region.wanted o (yielded ops a.tmps) = true := by simp [Region.wanted, hgd]
  rw [if_pos hw]
  obtain ⟨v', w', hr, h2, h3, _, h5⟩ := run_append_own_at (P := P) w base t o.type e i z size bytes ht hi hz hsize hby hzs hsz v n xs hown ad m c news hl hnews h1 h63 hbytes hbase
  unfold Oper.wp
  simp [execOp, ho, resolve, invoke, builtin, hs, hx, hr, Result.andThen]
  exact h v' w' h2 h3 h5
theorem size_al (w : World) (o : Obj) : (w.alloc o).heap.size = w.heap.size + 1 := by unfold World.alloc; simp
theorem fold_list : ∀ (l : List Value) (k : Nat) (Z : Array Value), (l.zipIdx k).foldl (fun cs (x : Value × Nat) => cs.setIfInBounds (0 + x.2) x.1) Z = (l.zipIdx k).foldl (fun cs (x : Value × Nat) => cs.setIfInBounds x.2 x.1) Z := by
  intro l k Z
  congr 1
  funext cs x
  rw [Nat.zero_add]
theorem fold_get : ∀ (l : List Value) (k : Nat) (Z : Array Value), k + l.length ≤ Z.size → ∀ i, ((l.zipIdx k).foldl (fun cs (x : Value × Nat) => cs.setIfInBounds x.2 x.1) Z)[i]? = if k ≤ i ∧ i < k + l.length then l[i - k]? else Z[i]?
  | [], k, Z, _, i => by rw [if_neg (by simp)]; simp
  | v :: l, k, Z, h, i => by
    rw [List.zipIdx_cons, List.foldl_cons, fold_get l (k + 1) _ (by rw [Array.size_setIfInBounds]; simp at h; omega) i]
    simp only [List.length_cons] at h ⊢
    by_cases e : i = k
    · subst e
      rw [if_neg (by omega), if_pos (by omega), Nat.sub_self, Array.getElem?_setIfInBounds_self]
      rw [if_pos (by omega)]
      rfl
    · rw [Array.getElem?_setIfInBounds_ne (fun e2 => e e2.symm)]
      by_cases c : k + 1 ≤ i ∧ i < k + 1 + l.length
      · rw [if_pos c, if_pos (by omega), show i - k = (i - (k + 1)) + 1 by omega, List.getElem?_cons_succ]
      · rw [if_neg c, if_neg (by omega)]
theorem fold_all (C Z : Array Value) (h : C.size = Z.size) : C.zipIdx.foldl (fun cs (x : Value × Nat) => cs.setIfInBounds (0 + x.2) x.1) Z = C := by
  rw [← Array.foldl_toList, Array.toList_zipIdx, fold_list]
  apply Array.ext_getElem?
  intro i
  rw [fold_get C.toList 0 Z (by simp; omega) i]
  by_cases c : i < C.size
  · rw [if_pos (by simp; omega), Nat.sub_zero]; simp
  · rw [if_neg (by simp; omega), Array.getElem?_eq_none (by omega), Array.getElem?_eq_none (by omega)]
theorem run_bs (C : Array Value) (hC : C.size = 65) (w : World) : Sem.run Try.prog (Instr.buildSlice 54 1 #[(0, .agg C)]) w = .ok (.slice (some ⟨w.heap.size, 0, none⟩) 1 1) (w.alloc (.cells C 60)) := by
  have zv := (zero_of_info Try.info60).1
  have fa := fold_all C ((Array.range (1 * 65)).map (fun i => Z60[i % Z60.size]!)) (by rw [Array.size_map, Array.size_range, hC])
  unfold Instr.buildSlice
  simp only [Sem.run_bind, Try.runUnderlying54, Result.andThen_ok, Try.sizeOf60, Value.cells]
  simp [Sem.run_bind, zv, Instr.fill, Value.cells, hC, newRow]
  simp at fa
  rw [hC] at fa
  rw [fa]
theorem wp_bs {op : Oper} {a : Act} {w : World} {K : Act → World → Prop} {Q : Exit → Act → World → Prop} (x : Operand) (ho : op.op = .buildSlice 54 1 #[(0, x)]) (C : Array Value) (hx : a.eval x = .agg C) (hC : C.size = 65)
    (h : K (a.put op.dst (.slice (some ⟨w.heap.size, 0, none⟩) 1 1)) (w.alloc (.cells C 60))) : op.wp Try.prog a w K Q := by
  have e : (#[(0, x)] : Array (Nat × Operand)).map (fun (p : Nat × Operand) => (p.1, a.eval p.2)) = #[(0, .agg C)] := by simp [hx]
  unfold Oper.wp execOp
  simp only [ho]
  simp [hx, run_bs C hC w, Result.andThen]
  exact h
theorem own_same {w W : World} {B e size : Nat} {v : Value} {n : Nat} {xs : List Value} (h : w.ownsRow B e size v n xs) (k : ∀ b, v.ownBlock = some b → W.heap[b]? = w.heap[b]?) : W.ownsRow B e size v n xs := by
  refine ⟨h.1, ?_⟩
  rcases h.2 with h0 | ⟨g, cap, cur, rfl, hb, hg, h3⟩
  · exact Or.inl h0
  · exact Or.inr ⟨g, cap, cur, rfl, hb, by rw [k g rfl]; exact hg, h3⟩
theorem hcs_snoc (hs : List (Nat × List UInt8)) (q : Nat) (d : List UInt8) : hcs (hs ++ [(q, d)]) = hcs hs ++ (.int .i64 (q : Int) :: Lib.byteCells d) := by
  unfold hcs; rw [List.flatMap_append]; simp
theorem pad_cells (q : Nat) (s : ByteArray) (_ : s.size ≤ 64) (l : List Value) (hl : l = .int .i64 (q : Int) :: List.replicate 64 (.int .u8 0)) : l.take 1 ++ Lib.byteCells s.data.toList ++ l.drop (1 + s.size) = .int .i64 (q : Int) :: Lib.byteCells (padL s) := by
  rw [hl, Nat.add_comm 1 s.size, List.drop_succ_cons, List.drop_replicate]
  unfold padL Lib.byteCells
  rw [List.map_append, List.map_replicate]
  rfl
theorem Try.info58s : (Try.prog.info? 58).map (·.size) = some 64 := by kernel_rfl
theorem Try.info60s : (Try.prog.info? 60).map (·.size) = some 65 := by kernel_rfl
theorem Try.info5s : (Try.prog.info? 5).map (·.size) = some 1 := by kernel_rfl
set_option maxRecDepth 100000 in
set_option maxHeartbeats 8000000 in
theorem write_okB {w : World} {B D gf gn cf cn n : Nat} {H : Value} {fs ns : List (List UInt8)} {hs : List (Nat × List UInt8)} {lim : Bool} {left : Int} (k : DvB w B D gf gn cf cn H n fs ns hs lim left) (q : Nat) (s : ByteArray) (hq : q < n) (h64 : s.size ≤ 64) (hl : ¬ (lim = true ∧ left = 0)) (hh : hs.length ≤ 1000) (hB : B ≤ w.heap.size) :
    Calls Try.prog 11 #[pD D, .int .i64 (q : Int), .string s] w fun e w' => e = .returned (.int .i64 0) ∧ (∃ H', DvB w' B D gf gn cf cn H' n fs (ns.set q (padL s)) (hs ++ [(q, padL s)]) lim (lf1 lim left) ∧ (H'.ownBlock = H.ownBlock ∨ ∃ k, H'.ownBlock = some k ∧ w.heap.size ≤ k)) ∧ Below B w w' ∧
      (∀ b, b < w.heap.size → b ≠ D → b ≠ gn → H.ownBlock ≠ some b → w'.heap[b]? = w.heap[b]?) := by
  have K := Lib.hid k
  have CK := Lib.hid (check_any k.row (q : Int))
  have E : Hid (cerr n (q : Int) = 0) := if_neg (by omega)
  rw [E.out] at CK
  have g0 := k.row.cell (i := 0) rfl; have g1 := k.row.cell (i := 1) rfl; have g2 := k.row.cell (i := 2) rfl; have g3 := k.row.cell (i := 3) rfl; have g4 := k.row.cell (i := 4) rfl
  have d1 : decide ((64 : Int) < (s.size : Int)) = false := by simp; omega
  have d1' : decide (64 < s.size) = false := by simp; omega
  have d1'' : ¬ (64 : Int) < (s.size : Int) := by omega
  have HQ := Lib.hid hq; have H64 := Lib.hid h64; have HH := Lib.hid hh
  have q0 : (0 : Int) ≤ (q : Int) := by omega
  have ql : (q : Int) < (n : Int) := by omega
  have L0 : Hid (lim = true → left ≠ 0) := fun e e2 => hl ⟨e, e2⟩
  have zv : ∀ w, Sem.run Try.prog (zeroValue 60) w = .ok (.agg Z60) w := (zero_of_info Try.info60).1
  have zn := z60_ne
  obtain ⟨CQ, hCQ⟩ : ∃ CQ, Z60.setIfInBounds 0 (.int .i64 (q : Int)) = CQ := ⟨_, rfl⟩
  have cqs : CQ.size = 65 := by rw [← hCQ, Array.size_setIfInBounds]; exact z60_size
  have cql : CQ.toList = .int .i64 (q : Int) :: List.replicate 64 (.int .u8 0) := by rw [← hCQ, Array.toList_setIfInBounds, z60_list]; rfl
  have CQL := Lib.hid cql
  obtain ⟨W1, hW1⟩ : ∃ W1, w.alloc (.cells CQ 60) = W1 := ⟨_, rfl⟩
  have one1 : CQ.all (·.oneCell') = true := by
    refine Array.all_eq_true_iff_forall_mem.2 (fun v hv => ?_)
    have hv' : v ∈ CQ.toList := by simpa using hv
    rw [cql] at hv'
    rcases List.mem_cons.1 hv' with rfl | hv'
    · rfl
    · rw [List.eq_of_mem_replicate hv']; rfl
  have hsc : Sem.run Try.prog (storeCells ⟨w.heap.size, 0, none⟩ CQ.toList 0) (w.alloc (.cells Z60 60)) = .ok () W1 := by
    rw [← hW1]
    exact run_storeCells_new (P := Try.prog) w 60 Z60 CQ (by rw [(zero_of_info Try.info60).2, cqs]) (by rw [z60_size, cqs]) one1
  obtain ⟨gw, hgw⟩ : ∃ gw, w.heap.size = gw := ⟨_, rfl⟩
  have HGW := Lib.hid hgw
  rw [hgw] at hsc
  have P1 : W1.heap[gw]? = some (.cells CQ 60 (0, 0)) := by rw [← hW1, ← hgw]; exact heap_alloc_last _ _
  obtain ⟨d, hd⟩ : ∃ d, padL s = d := ⟨_, rfl⟩
  have HD := Lib.hid hd
  have hdl : d.length = 64 := by rw [← hd]; exact padL_len H64.out
  obtain ⟨CC, hCC⟩ : ∃ CC, Value.int .i64 (q : Int) :: Lib.byteCells d = CC := ⟨_, rfl⟩
  have HCC := Lib.hid hCC
  have hccl : CC.length = 65 := by rw [← hCC, List.length_cons, Lib.byteCells_length, hdl]
  obtain ⟨W2, hW2⟩ : ∃ W2, W1.setRow gw CC.toArray = W2 := ⟨_, rfl⟩
  have hcp : Sem.run Try.prog (Builtin.copy_ #[46, 9] 3 #[.slice (some ⟨gw, 1, none⟩) 64 64, .string s]) W1 = .ok (goInt s.size) W2 := by
    have h := Lib.run_copy_row_string (P := Try.prog) W1 46 9 3 5 gw 1 64 64 s CQ 60 Try.underlying46 Try.info5s P1 H64.out (by rw [cqs]; have := H64.out; omega)
    rw [pad_cells q s H64.out CQ.toList CQL.out, hd, hCC, hW2] at h
    exact h
  have R2 : Hid (Row W2 gw 60 CC) := by show W2.heap[gw]? = _; rw [← hW2]; exact setRow_heap _ _ _ _ _ _ P1
  have RG1 : Hid (W2.rangeAt gw 1 (Lib.byteCells d)) := fun j v hv => by
    refine R2.out.cell ?_
    rw [← HCC.out, Nat.add_comm, List.getElem?_cons_succ]; exact hv
  have EQ2 : Hid (∀ b, b < w.heap.size → W2.heap[b]? = w.heap[b]?) := fun b hb => by
    rw [← hW2, setRow_other _ _ _ _ (by omega), ← hW1]; exact Below.heap_alloc _ _ _ hb
  have SZ2 : Hid (W2.heap.size = w.heap.size + 1) := by show _ = _; rw [← hW2, setRow_size, ← hW1]; exact size_al _ _
  have R1 : Hid (Row W2 D 56 _) := K.out.row.same (EQ2.out D K.out.row.lt)
  have N2 := Lib.hid (K.out.nw.same (EQ2.out gn K.out.nw.lt))
  have a1 := Lib.hid (R1.out.cell (i := 1) rfl)
  have TH : Hid (W2.drew.there gn (q * 64) (Lib.byteCells d).toArray.size) := by
    show World.there _ _ _ _
    rw [List.size_toArray, Lib.byteCells_length, hdl]; exact (World.there_drew _ _ _ _).2 (N2.out.there HQ.out)
  have LI : Hid ((Try.prog.info? 58).map (·.size) = some (Lib.byteCells d).length) := by show _ = _; rw [Lib.byteCells_length, hdl]; exact Try.info58s
  have LI2 : Hid ((Try.prog.info? 58).map (·.size) = some (Lib.byteCells d).toArray.size) := by show _ = _; rw [List.size_toArray]; exact LI.out
  have LC : Hid ((Try.prog.info? 60).map (·.size) = some CC.length) := by show _ = _; rw [hccl]; exact Try.info60s
  have LC2 : Hid (CC.toArray.size = 65) := by show _ = _; rw [List.size_toArray]; exact hccl
  have ON1 : Hid ((Lib.byteCells d).toArray.all (·.oneCell') = true) := all_oneCell_toArray (byteCells_one d)
  have ON2 : Hid (∀ u ∈ CC, u.oneCell' = true) := by
    show ∀ u ∈ CC, _
    rw [← HCC.out]
    intro u hu
    rcases List.mem_cons.1 hu with rfl | hu
    · rfl
    · exact byteCells_one d u hu
  obtain ⟨W3, hW3⟩ : ∃ W3, W2.drew.setCells gn (q * 64) (Lib.byteCells d).toArray.toList = W3 := ⟨_, rfl⟩
  have N3 : Hid (Bl W3 gn n (ns.set q d)) := by show Bl _ _ _ _; rw [← hW3]; exact (show Bl W2.drew gn n ns from N2.out.same rfl).set HQ.out hdl
  have EQ3 : Hid (∀ b, b < w.heap.size → b ≠ gn → W3.heap[b]? = w.heap[b]?) := fun b hb hne => by
    rw [← hW3, heap_setCells _ _ _ _ _ hne]; exact EQ2.out b hb
  have SZ3 : Hid (W3.heap.size = w.heap.size + 1) := by show _ = _; rw [← hW3, size_setCells]; exact SZ2.out
  have R3 : Hid (Row W3 gw 60 CC) := by
    refine R2.out.same ?_
    rw [← hW3, heap_setCells _ _ _ _ _ (by have := K.out.nw.lt; omega)]; rfl
  have RD3 : Hid (Row W3 D 56 _) := K.out.row.same (EQ3.out D K.out.row.lt K.out.ne2)
  have a2 := Lib.hid (RD3.out.cell (i := 2) rfl)
  have RG3 : Hid (W3.rangeAt gw 0 CC) := fun j v hv => by rw [Nat.zero_add]; exact R3.out.cell hv
  have B3 : Hid (Below B w W3) := by
    show Below _ _ _
    rw [← hW3]
    refine below_setCells K.out.bn _ _ _ (Below.drew ?_)
    rw [← hW2]
    refine below_setRow ?_ (by omega) _
    rw [← hW1]
    exact (Below.refl _ _).alloc hB _
  obtain ⟨W4, hW4⟩ : ∃ W4, W3.drew.alloc (.cells CC.toArray 60) = W4 := ⟨_, rfl⟩
  have SZ4 : Hid (W4.heap.size = w.heap.size + 2) := by show _ = _; rw [← hW4, size_al, show W3.drew.heap.size = W3.heap.size from rfl, SZ3.out]
  have EQ4 : Hid (∀ b, b < W3.heap.size → W4.heap[b]? = W3.heap[b]?) := fun b hb => by rw [← hW4]; exact Below.heap_alloc _ _ _ hb
  have R4 : Hid (Row W4 W3.heap.size 60 CC) := by show _ = _; rw [← hW4]; exact heap_alloc_last _ _
  have S4 : Hid (W4.cell? ⟨D, 2, none⟩ = some H ∧ W4.rangeAt gw 0 CC) := by
    refine ⟨?_, ?_⟩
    · rw [World.cell?_of_block (w := W3) (EQ4.out D (by have := SZ3.out; have := K.out.row.lt; omega))]; exact a2.out
    · intro j v hv
      rw [World.cell?_of_block (w := W3) (EQ4.out gw (by have := SZ3.out; omega))]; exact RG3.out j v hv
  have O4 : Hid (W4.ownsRow B 60 65 H hs.length (hcs hs)) := own_same K.out.h (fun b hb => by
    have h1 := (K.out.h.lt b hb).2
    rw [EQ4.out b (by have := SZ3.out; omega), EQ3.out b h1 (fun e => K.out.hn (by rw [hb, e]))])
  have B4 : Hid (Below B w W4) := by show Below _ _ _; rw [← hW4]; exact (B3.out.drew).alloc (by show B ≤ W3.heap.size; have := SZ3.out; omega) _
  have NEWS : Hid (∀ j u, CC[j]? = some u → W4.cell? ((⟨W3.heap.size, 0, none⟩ : Addr).add j) = some u) := fun j u hu => by
    rw [Addr.add_mid, Nat.zero_add]; exact R4.out.cell hu
  have LEN : Hid (CC.length = 1 * 65) := hccl
  have HB4 : Hid (B ≤ W4.heap.size) := by show B ≤ _; have := SZ4.out; omega
  obtain ⟨i0, hi, hz0, hz1, hz2⟩ := info_parts Try.info60b
  have II := Lib.hid hi; have Z0 := Lib.hid hz0; have Z1 := Lib.hid hz1; have Z2 := Lib.hid hz2
  /- what stands behind the append -/
  have FIN : Hid (∀ v' w7, w7.ownsRow B 60 65 v' (hs.length + 1) (hcs hs ++ CC) → W4.grownBy w7 H.ownBlock → (v'.ownBlock = H.ownBlock ∨ v'.ownBlock = some W4.heap.size) →
      Row w7 D 56 [.slice (some ⟨gf, 0, none⟩) n cf, .slice (some ⟨gn, 0, none⟩) n cn, H, .bool lim, .int .i64 left] ∧
      DvB (w7.setCell ⟨D, 2, none⟩ v') B D gf gn cf cn v' n fs (ns.set q d) (hs ++ [(q, d)]) lim left ∧ Below B w (w7.setCell ⟨D, 2, none⟩ v') ∧
      (∀ b, b < w.heap.size → b ≠ D → b ≠ gn → H.ownBlock ≠ some b → (w7.setCell ⟨D, 2, none⟩ v').heap[b]? = w.heap[b]?) ∧ (v'.ownBlock = H.ownBlock ∨ ∃ k, v'.ownBlock = some k ∧ w.heap.size ≤ k)) := by
    intro v' w7 ho hg hl
    have E7 : ∀ b, b < w.heap.size → b ≠ gn → H.ownBlock ≠ some b → w7.heap[b]? = w.heap[b]? := fun b hb h1 h2 => by
      rw [hg.block b (by have := SZ4.out; omega) (fun e => h2 e.symm), EQ4.out b (by have := SZ3.out; omega), EQ3.out b hb h1]
    have r7 := K.out.row.same (E7 D K.out.row.lt K.out.ne2 K.out.hD)
    have hv : ∀ b, b < w.heap.size → H.ownBlock ≠ some b → v'.ownBlock ≠ some b := fun b hb h1 e => by
      rcases hl with h | h
      · exact h1 (by rw [← h]; exact e)
      · rw [h] at e; injection e with e; have := SZ4.out; omega
    have o8 : ∀ b, b ≠ D → (w7.setCell ⟨D, 2, none⟩ v').heap[b]? = w7.heap[b]? := fun b hb => Below.heap_setCell _ _ _ _ (by exact hb)
    refine ⟨r7, ?_, ?_, fun b hb h1 h2 h3 => by rw [o8 b h1]; exact E7 b hb h2 h3, ?_⟩
    · exact {
        row := r7.set (i := 2) v'
        f := K.out.f.same (by rw [o8 gf (fun e => K.out.ne1 e.symm)]; exact E7 gf K.out.f.lt K.out.ne3 K.out.hf)
        nw := N3.out.same (by rw [o8 gn (fun e => K.out.ne2 e.symm), hg.block gn (by have := SZ4.out; have := K.out.nw.lt; omega) (fun e => K.out.hn e.symm), EQ4.out gn (by have := SZ3.out; have := K.out.nw.lt; omega)])
        h := by
          rw [hcs_snoc, HCC.out, List.length_append]
          exact own_same ho (fun b hb => o8 b (fun e => hv D K.out.row.lt K.out.hD (by rw [hb, e])))
        bD := K.out.bD
        bf := K.out.bf
        bn := K.out.bn
        ne1 := K.out.ne1
        ne2 := K.out.ne2
        ne3 := K.out.ne3
        hD := hv D K.out.row.lt K.out.hD
        hf := hv gf K.out.f.lt K.out.hf
        hn := hv gn K.out.nw.lt K.out.hn
        ok := fun p hp => by
          rcases List.mem_append.1 hp with hp | hp
          · exact K.out.ok p hp
          · rw [List.mem_singleton.1 hp]; exact ⟨HQ.out, hdl⟩
        n1 := K.out.n1
        lf := K.out.lf }
    · exact (B4.out.grown hg HB4.out (fun b hb => (K.out.h.lt b hb).1)).setCell (by exact K.out.bD) _
    · rcases hl with h | h
      · exact Or.inl h
      · exact Or.inr ⟨_, h, by have := SZ4.out; omega⟩
  have ONE := Lib.hid one1
  have F7 : Hid (∀ (w7 : World) cs, Row w7 D 56 cs → ∀ i, w7.frozen? ⟨D, i, none⟩ = false) := fun w7 cs r i => r.fr
  rw [hd]
  clear k hq h64 hl hh cql one1 hd hCC P1 hi hz0 hz1 hz2 hdl hccl
  cases lim with
  | false =>
    go_enter Try.func11, Try.ntmps11
    go_wp2_with fail
    refine CK.out.mono ?_; rintro e w4 ⟨rfl, rfl⟩
    go_wp2_with fail
    refine wp_region_drop (fun W => W.cell? ⟨D, 1, none⟩ = some (.slice (some ⟨gn, 0, none⟩) n cn) ∧ W.rangeAt gw 1 (Lib.byteCells d)) 8 (by kernel_rfl) ⟨a1.out, (World.rangeAt_drew _ _ _ _).2 RG1.out⟩ (fun hHeld => ?_)
    refine wpAnyD_pure (i := 0) (v := ?_) rfl (by kernel_rfl) (by kernel_rfl) (by kernel_rfl) (by rfl) (fun _ _ _ h => h) (Or.inl ⟨by rfl, ?_⟩) (by assumption) ?_
    rotate_left 1
    · (intro w; first | (go_simp; done) | (go_simp; with_reducible rfl))
    simp only [Act.put, List.getElem_toArray, List.getElem_cons_zero, List.setIfInBounds_toArray, List.set_cons_zero, List.set_cons_succ]
    refine wpAnyD_pure (i := 1) (v := ?_) rfl (by kernel_rfl) (by kernel_rfl) (by kernel_rfl) (by rfl) (fun _ _ _ h => h) (Or.inl ⟨by rfl, ?_⟩) (by assumption) ?_
    rotate_left 1
    · (intro w; first | (go_simp; done) | (go_simp; with_reducible rfl))
    simp only [Act.put, List.getElem_toArray, List.getElem_cons_zero, List.getElem_cons_succ, List.setIfInBounds_toArray, List.set_cons_zero, List.set_cons_succ]
    refine wpAnyD_pure (i := 2) (v := ?_) rfl (by kernel_rfl) (by kernel_rfl) (by kernel_rfl) (by rfl) (fun _ _ _ h => h) (Or.inl ⟨by rfl, ?_⟩) (by assumption) ?_
    rotate_left 1
    · (intro w; first | (go_simp; done) | (go_simp; with_reducible rfl))
    simp only [Act.put, List.getElem_toArray, List.getElem_cons_zero, List.getElem_cons_succ, List.setIfInBounds_toArray, List.set_cons_zero, List.set_cons_succ]
    refine wpAnyD_take (i := 3) (v := ?_) rfl (by kernel_rfl) (by kernel_rfl) (by kernel_rfl) (by kernel_rfl) (fun _ _ _ h => h) (Or.inl ⟨by rfl, ?_⟩) (by assumption) ?_
    rotate_left 1
    · (intro w hSw; (try dsimp only at hSw); first | (go_simp; done) | (go_simp; with_reducible rfl))
    simp only [Act.put, List.getElem_toArray, List.getElem_cons_zero, List.getElem_cons_succ, List.setIfInBounds_toArray, List.set_cons_zero, List.set_cons_succ]
    refine wpAnyD_pure (i := 4) (v := ?_) rfl (by kernel_rfl) (by kernel_rfl) (by kernel_rfl) (by rfl) (fun _ _ _ h => h) (Or.inl ⟨by rfl, ?_⟩) (by assumption) ?_
    rotate_left 1
    · (intro w; first | (go_simp; done) | (go_simp; with_reducible rfl))
    simp only [Act.put, List.getElem_toArray, List.getElem_cons_zero, List.getElem_cons_succ, List.setIfInBounds_toArray, List.set_cons_zero, List.set_cons_succ]
    refine wpAnyD_pure (i := 5) (v := ?_) rfl (by kernel_rfl) (by kernel_rfl) (by kernel_rfl) (by rfl) (fun _ _ _ h => h) (Or.inl ⟨by rfl, ?_⟩) (by assumption) ?_
    rotate_left 1
    · (intro w; first | (go_simp; done) | (go_simp; with_reducible rfl))
    simp only [Act.put, List.getElem_toArray, List.getElem_cons_zero, List.getElem_cons_succ, List.setIfInBounds_toArray, List.set_cons_zero, List.set_cons_succ]
    refine wpAnyD_take (i := 6) (v := .agg (Lib.byteCells d).toArray) rfl (by kernel_rfl) (by kernel_rfl) (by kernel_rfl) (by kernel_rfl) (fun _ _ _ h => h) (yieldsIf_load_mid (by rfl) 58 _ rfl gw 1 rfl (Lib.byteCells d) _ (fun w h => h.2) Try.underlying58 rfl LI.out) (by assumption) ?_
    simp only [Act.put, List.getElem_toArray, List.getElem_cons_zero, List.getElem_cons_succ, List.setIfInBounds_toArray, List.set_cons_zero, List.set_cons_succ]
    refine wpAnyD_pure (i := 7) (v := ?_) rfl (by kernel_rfl) (by kernel_rfl) (by kernel_rfl) (by rfl) (fun _ _ _ h => h) (Or.inl ⟨by rfl, ?_⟩) (by assumption) ?_
    rotate_left 1
    · (intro w; first | (go_simp; done) | (go_simp; with_reducible rfl))
    simp only [Act.put, List.getElem_toArray, List.getElem_cons_zero, List.getElem_cons_succ, List.setIfInBounds_toArray, List.set_cons_zero, List.set_cons_succ]
    refine wpAnyD_drop (by kernel_rfl) rfl (fun K hK => ?_)
    rw [if_pos (by rfl)]
    refine wp_store_mid 58 _ _ rfl gn (q * 64) (Lib.byteCells d).toArray rfl rfl TH.out LI2.out ON1.out ?_
    refine hK.out _ _ ?_
    clear hK K
    clear hHeld
    rw [hW3]
    refine wpAny_done (by kernel_rfl) ?_ _
    clear hcp hsc zv zn hW1 hW2 hW3 g0 g1 g2 g3 g4
    go_wp2_with fail
    refine wp_region_drop (fun W => W.cell? ⟨D, 2, none⟩ = some H ∧ W.rangeAt gw 0 CC) 7 (by kernel_rfl) ⟨a2.out, (World.rangeAt_drew _ _ _ _).2 RG3.out⟩ (fun hHeld => ?_)
    refine wpAnyD_pure (i := 0) (v := ?_) rfl (by kernel_rfl) (by kernel_rfl) (by kernel_rfl) (by rfl) (fun _ _ _ h => h) (Or.inl ⟨by rfl, ?_⟩) (by assumption) ?_
    rotate_left 1
    · (intro w; first | (go_simp; done) | (go_simp; with_reducible rfl))
    simp only [Act.put, List.getElem_toArray, List.getElem_cons_zero, List.setIfInBounds_toArray, List.set_cons_zero, List.set_cons_succ]
    refine wpAnyD_pure (i := 1) (v := ?_) rfl (by kernel_rfl) (by kernel_rfl) (by kernel_rfl) (by rfl) (fun _ _ _ h => h) (Or.inl ⟨by rfl, ?_⟩) (by assumption) ?_
    rotate_left 1
    · (intro w; first | (go_simp; done) | (go_simp; with_reducible rfl))
    simp only [Act.put, List.getElem_toArray, List.getElem_cons_zero, List.getElem_cons_succ, List.setIfInBounds_toArray, List.set_cons_zero, List.set_cons_succ]
    refine wpAnyD_pure (i := 2) (v := ?_) rfl (by kernel_rfl) (by kernel_rfl) (by kernel_rfl) (by rfl) (fun _ _ _ h => h) (Or.inl ⟨by rfl, ?_⟩) (by assumption) ?_
    rotate_left 1
    · (intro w; first | (go_simp; done) | (go_simp; with_reducible rfl))
    simp only [Act.put, List.getElem_toArray, List.getElem_cons_zero, List.getElem_cons_succ, List.setIfInBounds_toArray, List.set_cons_zero, List.set_cons_succ]
    refine wpAnyD_pure (i := 3) (v := ?_) rfl (by kernel_rfl) (by kernel_rfl) (by kernel_rfl) (by rfl) (fun _ _ _ h => h) (Or.inl ⟨by rfl, ?_⟩) (by assumption) ?_
    rotate_left 1
    · (intro w; first | (go_simp; done) | (go_simp; with_reducible rfl))
    simp only [Act.put, List.getElem_toArray, List.getElem_cons_zero, List.getElem_cons_succ, List.setIfInBounds_toArray, List.set_cons_zero, List.set_cons_succ]
    refine wpAnyD_take (i := 4) (v := ?_) rfl (by kernel_rfl) (by kernel_rfl) (by kernel_rfl) (by kernel_rfl) (fun _ _ _ h => h) (Or.inl ⟨by rfl, ?_⟩) (by assumption) ?_
    rotate_left 1
    · (intro w hSw; (try dsimp only at hSw); first | (go_simp; done) | (go_simp; with_reducible rfl))
    simp only [Act.put, List.getElem_toArray, List.getElem_cons_zero, List.getElem_cons_succ, List.setIfInBounds_toArray, List.set_cons_zero, List.set_cons_succ]
    refine wpAnyD_take (i := 5) (v := .agg (CC).toArray) rfl (by kernel_rfl) (by kernel_rfl) (by kernel_rfl) (by kernel_rfl) (fun _ _ _ h => h) (yieldsIf_load_mid (by rfl) 60 _ rfl gw 0 rfl (CC) _ (fun w h => h.2) Try.underlying60 rfl LC.out) (by assumption) ?_
    simp only [Act.put, List.getElem_toArray, List.getElem_cons_zero, List.getElem_cons_succ, List.setIfInBounds_toArray, List.set_cons_zero, List.set_cons_succ]
    refine wpAnyD_one (i := 6) (by kernel_rfl) (by rfl) rfl (fun KK hK => ?_)
    rw [if_pos (by rfl)]
    refine wp_bs _ rfl CC.toArray rfl LC2.out ?_
    rw [hW4]
    refine hK.out _ _ S4.out (fun hHeld2 => ?_)
    clear hK KK hHeld hHeld2
    refine wpAnyD_drop (by kernel_rfl) rfl (fun KK hK => ?_)
    refine step_append_own rfl _ _ 54 rfl B 60 i0 (.agg Z60) 65 72 Try.underlying54 II.out Z0.out Z1.out Z2.out z60_size (by decide) H hs.length (hcs hs) rfl O4.out ⟨W3.heap.size, 0, none⟩ 1 1 CC rfl LEN.out NEWS.out ON2.out (by have := HH.out; unfold maxLen; omega) (by have := HH.out; omega) HB4.out ?_
    intro v' w7 hown' hgrow hloc
    obtain ⟨va, vc, rfl⟩ := row_formH hown'
    obtain ⟨r7, dv8, b8, fr8, ow8⟩ := FIN.out _ w7 hown' hgrow hloc
    have DV8 := Lib.hid dv8; have B8 := Lib.hid b8
    have c72 := r7.cell (i := 2) rfl; have f72 := r7.fr (i := 2)
    obtain ⟨W8, hW8⟩ : ∃ W8, w7.setCell ⟨D, 2, none⟩ (.slice va (hs.length + 1) vc) = W8 := ⟨_, rfl⟩
    have FR8 := Lib.hid fr8; have OW8 := Lib.hid ow8
    rw [hW8] at DV8 B8 FR8
    refine hK.out _ _ ?_
    clear hK KK hown' hgrow hloc dv8 b8 r7 fr8 ow8
    refine wpAny_one (i := 8) (by kernel_rfl) rfl (fun K hK => ?_)
    go_simp
    refine hK.out _ _ ?_
    clear hK K
    refine wpAny_one (i := 9) (by kernel_rfl) rfl (fun K hK => ?_)
    go_simp
    refine hK.out _ _ ?_
    clear hK K
    refine wpAny_one (i := 10) (by kernel_rfl) rfl (fun K hK => ?_)
    go_simp
    refine hK.out _ _ ?_
    clear hK K
    refine wpAny_done (by kernel_rfl) ?_ _
    have c83 := DV8.out.row.cell (i := 3) rfl; have c84 := DV8.out.row.cell (i := 4) rfl; have f84 := DV8.out.row.fr (i := 4)
    go_wp2_with fail
    go_ret
    exact ⟨rfl, ⟨_, DV8.out, OW8.out⟩, B8.out, FR8.out⟩
  | true =>
    have hlz : (left == 0) = false := by simp; exact L0.out rfl
    have hlw : IntKind.i64.wrap (left - 1) = left - 1 := by rw [IntKind.wrap_i64]; have := K.out.lf; omega
    have LF : Hid (0 ≤ left - 1 ∧ left - 1 ≤ 9223372036854775807) := by have h1 := K.out.lf; have h2 := L0.out rfl; exact (show _ ∧ _ from ⟨by omega, by omega⟩)
    go_enter Try.func11, Try.ntmps11
    go_wp2_with fail
    refine CK.out.mono ?_; rintro e w4 ⟨rfl, rfl⟩
    go_wp2_with fail
    refine wp_region_drop (fun W => W.cell? ⟨D, 1, none⟩ = some (.slice (some ⟨gn, 0, none⟩) n cn) ∧ W.rangeAt gw 1 (Lib.byteCells d)) 8 (by kernel_rfl) ⟨a1.out, (World.rangeAt_drew _ _ _ _).2 RG1.out⟩ (fun hHeld => ?_)
    refine wpAnyD_pure (i := 0) (v := ?_) rfl (by kernel_rfl) (by kernel_rfl) (by kernel_rfl) (by rfl) (fun _ _ _ h => h) (Or.inl ⟨by rfl, ?_⟩) (by assumption) ?_
    rotate_left 1
    · (intro w; first | (go_simp; done) | (go_simp; with_reducible rfl))
    simp only [Act.put, List.getElem_toArray, List.getElem_cons_zero, List.setIfInBounds_toArray, List.set_cons_zero, List.set_cons_succ]
    refine wpAnyD_pure (i := 1) (v := ?_) rfl (by kernel_rfl) (by kernel_rfl) (by kernel_rfl) (by rfl) (fun _ _ _ h => h) (Or.inl ⟨by rfl, ?_⟩) (by assumption) ?_
    rotate_left 1
    · (intro w; first | (go_simp; done) | (go_simp; with_reducible rfl))
    simp only [Act.put, List.getElem_toArray, List.getElem_cons_zero, List.getElem_cons_succ, List.setIfInBounds_toArray, List.set_cons_zero, List.set_cons_succ]
    refine wpAnyD_pure (i := 2) (v := ?_) rfl (by kernel_rfl) (by kernel_rfl) (by kernel_rfl) (by rfl) (fun _ _ _ h => h) (Or.inl ⟨by rfl, ?_⟩) (by assumption) ?_
    rotate_left 1
    · (intro w; first | (go_simp; done) | (go_simp; with_reducible rfl))
    simp only [Act.put, List.getElem_toArray, List.getElem_cons_zero, List.getElem_cons_succ, List.setIfInBounds_toArray, List.set_cons_zero, List.set_cons_succ]
    refine wpAnyD_take (i := 3) (v := ?_) rfl (by kernel_rfl) (by kernel_rfl) (by kernel_rfl) (by kernel_rfl) (fun _ _ _ h => h) (Or.inl ⟨by rfl, ?_⟩) (by assumption) ?_
    rotate_left 1
    · (intro w hSw; (try dsimp only at hSw); first | (go_simp; done) | (go_simp; with_reducible rfl))
    simp only [Act.put, List.getElem_toArray, List.getElem_cons_zero, List.getElem_cons_succ, List.setIfInBounds_toArray, List.set_cons_zero, List.set_cons_succ]
    refine wpAnyD_pure (i := 4) (v := ?_) rfl (by kernel_rfl) (by kernel_rfl) (by kernel_rfl) (by rfl) (fun _ _ _ h => h) (Or.inl ⟨by rfl, ?_⟩) (by assumption) ?_
    rotate_left 1
    · (intro w; first | (go_simp; done) | (go_simp; with_reducible rfl))
    simp only [Act.put, List.getElem_toArray, List.getElem_cons_zero, List.getElem_cons_succ, List.setIfInBounds_toArray, List.set_cons_zero, List.set_cons_succ]
    refine wpAnyD_pure (i := 5) (v := ?_) rfl (by kernel_rfl) (by kernel_rfl) (by kernel_rfl) (by rfl) (fun _ _ _ h => h) (Or.inl ⟨by rfl, ?_⟩) (by assumption) ?_
    rotate_left 1
    · (intro w; first | (go_simp; done) | (go_simp; with_reducible rfl))
    simp only [Act.put, List.getElem_toArray, List.getElem_cons_zero, List.getElem_cons_succ, List.setIfInBounds_toArray, List.set_cons_zero, List.set_cons_succ]
    refine wpAnyD_take (i := 6) (v := .agg (Lib.byteCells d).toArray) rfl (by kernel_rfl) (by kernel_rfl) (by kernel_rfl) (by kernel_rfl) (fun _ _ _ h => h) (yieldsIf_load_mid (by rfl) 58 _ rfl gw 1 rfl (Lib.byteCells d) _ (fun w h => h.2) Try.underlying58 rfl LI.out) (by assumption) ?_
    simp only [Act.put, List.getElem_toArray, List.getElem_cons_zero, List.getElem_cons_succ, List.setIfInBounds_toArray, List.set_cons_zero, List.set_cons_succ]
    refine wpAnyD_pure (i := 7) (v := ?_) rfl (by kernel_rfl) (by kernel_rfl) (by kernel_rfl) (by rfl) (fun _ _ _ h => h) (Or.inl ⟨by rfl, ?_⟩) (by assumption) ?_
    rotate_left 1
    · (intro w; first | (go_simp; done) | (go_simp; with_reducible rfl))
    simp only [Act.put, List.getElem_toArray, List.getElem_cons_zero, List.getElem_cons_succ, List.setIfInBounds_toArray, List.set_cons_zero, List.set_cons_succ]
    refine wpAnyD_drop (by kernel_rfl) rfl (fun K hK => ?_)
    rw [if_pos (by rfl)]
    refine wp_store_mid 58 _ _ rfl gn (q * 64) (Lib.byteCells d).toArray rfl rfl TH.out LI2.out ON1.out ?_
    refine hK.out _ _ ?_
    clear hK K
    clear hHeld
    rw [hW3]
    refine wpAny_done (by kernel_rfl) ?_ _
    clear hcp hsc zv zn hW1 hW2 hW3 g0 g1 g2 g3 g4
    go_wp2_with fail
    refine wp_region_drop (fun W => W.cell? ⟨D, 2, none⟩ = some H ∧ W.rangeAt gw 0 CC) 7 (by kernel_rfl) ⟨a2.out, (World.rangeAt_drew _ _ _ _).2 RG3.out⟩ (fun hHeld => ?_)
    refine wpAnyD_pure (i := 0) (v := ?_) rfl (by kernel_rfl) (by kernel_rfl) (by kernel_rfl) (by rfl) (fun _ _ _ h => h) (Or.inl ⟨by rfl, ?_⟩) (by assumption) ?_
    rotate_left 1
    · (intro w; first | (go_simp; done) | (go_simp; with_reducible rfl))
    simp only [Act.put, List.getElem_toArray, List.getElem_cons_zero, List.setIfInBounds_toArray, List.set_cons_zero, List.set_cons_succ]
    refine wpAnyD_pure (i := 1) (v := ?_) rfl (by kernel_rfl) (by kernel_rfl) (by kernel_rfl) (by rfl) (fun _ _ _ h => h) (Or.inl ⟨by rfl, ?_⟩) (by assumption) ?_
    rotate_left 1
    · (intro w; first | (go_simp; done) | (go_simp; with_reducible rfl))
    simp only [Act.put, List.getElem_toArray, List.getElem_cons_zero, List.getElem_cons_succ, List.setIfInBounds_toArray, List.set_cons_zero, List.set_cons_succ]
    refine wpAnyD_pure (i := 2) (v := ?_) rfl (by kernel_rfl) (by kernel_rfl) (by kernel_rfl) (by rfl) (fun _ _ _ h => h) (Or.inl ⟨by rfl, ?_⟩) (by assumption) ?_
    rotate_left 1
    · (intro w; first | (go_simp; done) | (go_simp; with_reducible rfl))
    simp only [Act.put, List.getElem_toArray, List.getElem_cons_zero, List.getElem_cons_succ, List.setIfInBounds_toArray, List.set_cons_zero, List.set_cons_succ]
    refine wpAnyD_pure (i := 3) (v := ?_) rfl (by kernel_rfl) (by kernel_rfl) (by kernel_rfl) (by rfl) (fun _ _ _ h => h) (Or.inl ⟨by rfl, ?_⟩) (by assumption) ?_
    rotate_left 1
    · (intro w; first | (go_simp; done) | (go_simp; with_reducible rfl))
    simp only [Act.put, List.getElem_toArray, List.getElem_cons_zero, List.getElem_cons_succ, List.setIfInBounds_toArray, List.set_cons_zero, List.set_cons_succ]
    refine wpAnyD_take (i := 4) (v := ?_) rfl (by kernel_rfl) (by kernel_rfl) (by kernel_rfl) (by kernel_rfl) (fun _ _ _ h => h) (Or.inl ⟨by rfl, ?_⟩) (by assumption) ?_
    rotate_left 1
    · (intro w hSw; (try dsimp only at hSw); first | (go_simp; done) | (go_simp; with_reducible rfl))
    simp only [Act.put, List.getElem_toArray, List.getElem_cons_zero, List.getElem_cons_succ, List.setIfInBounds_toArray, List.set_cons_zero, List.set_cons_succ]
    refine wpAnyD_take (i := 5) (v := .agg (CC).toArray) rfl (by kernel_rfl) (by kernel_rfl) (by kernel_rfl) (by kernel_rfl) (fun _ _ _ h => h) (yieldsIf_load_mid (by rfl) 60 _ rfl gw 0 rfl (CC) _ (fun w h => h.2) Try.underlying60 rfl LC.out) (by assumption) ?_
    simp only [Act.put, List.getElem_toArray, List.getElem_cons_zero, List.getElem_cons_succ, List.setIfInBounds_toArray, List.set_cons_zero, List.set_cons_succ]
    refine wpAnyD_one (i := 6) (by kernel_rfl) (by rfl) rfl (fun KK hK => ?_)
    rw [if_pos (by rfl)]
    refine wp_bs _ rfl CC.toArray rfl LC2.out ?_
    rw [hW4]
    refine hK.out _ _ S4.out (fun hHeld2 => ?_)
    clear hK KK hHeld hHeld2
    refine wpAnyD_drop (by kernel_rfl) rfl (fun KK hK => ?_)
    refine step_append_own rfl _ _ 54 rfl B 60 i0 (.agg Z60) 65 72 Try.underlying54 II.out Z0.out Z1.out Z2.out z60_size (by decide) H hs.length (hcs hs) rfl O4.out ⟨W3.heap.size, 0, none⟩ 1 1 CC rfl LEN.out NEWS.out ON2.out (by have := HH.out; unfold maxLen; omega) (by have := HH.out; omega) HB4.out ?_
    intro v' w7 hown' hgrow hloc
    obtain ⟨va, vc, rfl⟩ := row_formH hown'
    obtain ⟨r7, dv8, b8, fr8, ow8⟩ := FIN.out _ w7 hown' hgrow hloc
    have DV8 := Lib.hid dv8; have B8 := Lib.hid b8
    have c72 := r7.cell (i := 2) rfl; have f72 := r7.fr (i := 2)
    obtain ⟨W8, hW8⟩ : ∃ W8, w7.setCell ⟨D, 2, none⟩ (.slice va (hs.length + 1) vc) = W8 := ⟨_, rfl⟩
    have FR8 := Lib.hid fr8; have OW8 := Lib.hid ow8
    rw [hW8] at DV8 B8 FR8
    refine hK.out _ _ ?_
    clear hK KK hown' hgrow hloc dv8 b8 r7 fr8 ow8
    refine wpAny_one (i := 8) (by kernel_rfl) rfl (fun K hK => ?_)
    go_simp
    refine hK.out _ _ ?_
    clear hK K
    refine wpAny_one (i := 9) (by kernel_rfl) rfl (fun K hK => ?_)
    go_simp
    refine hK.out _ _ ?_
    clear hK K
    refine wpAny_one (i := 10) (by kernel_rfl) rfl (fun K hK => ?_)
    go_simp
    refine hK.out _ _ ?_
    clear hK K
    refine wpAny_done (by kernel_rfl) ?_ _
    have c83 := DV8.out.row.cell (i := 3) rfl; have c84 := DV8.out.row.cell (i := 4) rfl; have f84 := DV8.out.row.fr (i := 4)
    go_wp2_with fail
    go_ret
    refine ⟨rfl, ⟨.slice va (hs.length + 1) vc, ?_, OW8.out⟩, B8.out.setCell (by exact K.out.bD) _, fun b hb h1 h2 h3 => by rw [Below.heap_setCell _ _ _ _ (by exact h1)]; exact FR8.out b hb h1 h2 h3⟩
    have o9 : ∀ b, b ≠ D → (W8.setCell ⟨D, 4, none⟩ (.int .i64 (left - 1))).heap[b]? = W8.heap[b]? := fun b hb => Below.heap_setCell _ _ _ _ (by exact hb)
    exact { DV8.out with
      row := DV8.out.row.set (i := 4) _
      f := DV8.out.f.same (o9 gf (fun e => DV8.out.ne1 e.symm))
      nw := DV8.out.nw.same (o9 gn (fun e => DV8.out.ne2 e.symm))
      h := own_same DV8.out.h (fun b hb => o9 b (fun e => DV8.out.hD (by rw [hb, e])))
      lf := LF.out }
theorem write_ok {w : World} {B D n : Nat} {fs ns : List (List UInt8)} {hs : List (Nat × List UInt8)} {lim : Bool} {left : Int} (h : Dv w B D n fs ns hs lim left) (q : Nat) (s : ByteArray) (hq : q < n) (h64 : s.size ≤ 64) (hl : ¬ (lim = true ∧ left = 0)) (hh : hs.length ≤ 1000) (hB : B ≤ w.heap.size) :
    Calls Try.prog 11 #[pD D, .int .i64 (q : Int), .string s] w fun e w' => e = .returned (.int .i64 0) ∧ Dv w' B D n fs (ns.set q (padL s)) (hs ++ [(q, padL s)]) lim (lf1 lim left) ∧ Below B w w' := by
  obtain ⟨gf, gn, cf, cn, H, k⟩ := h
  refine (write_okB k q s hq h64 hl hh hB).mono ?_
  rintro e w' ⟨rfl, ⟨H', k', _⟩, b, _⟩
  exact ⟨rfl, ⟨gf, gn, cf, cn, H', k'⟩, b⟩
end Go.Proofs.Ytgadplgjpemdaaa
