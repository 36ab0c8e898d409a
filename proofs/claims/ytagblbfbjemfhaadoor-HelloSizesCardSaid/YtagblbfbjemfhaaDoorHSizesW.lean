/-
  The walk of the statement HelloSizes.
-/
import Derived.Test.YtagblbfbjemfhaaDoorSpc
import Derived.MapFrom
import Derived.Test.YtagblbfbjemfhaaDoorJm
namespace Go.Proofs.YtagblbfbjemfhaaDoor
open Go.RowKit Go.MapKept
open HelloMath (Msg zeroM wholeM formM readBy saidM altM special)

theorem xor_u8 (a b : UInt8) : bits .xor .u8 (a.toNat : Int) (b.toNat : Int) = ((a ^^^ b).toNat : Int) := by
  have h1 : (BitVec.ofInt 8 (a.toNat : Int)).toNat = a.toNat := by rw [BitVec.ofInt_natCast, BitVec.toNat_ofNat]; exact Nat.mod_eq_of_lt (by have := a.toNat_lt; omega)
  have h2 : (BitVec.ofInt 8 (b.toNat : Int)).toNat = b.toNat := by rw [BitVec.ofInt_natCast, BitVec.toNat_ofNat]; exact Nat.mod_eq_of_lt (by have := b.toNat_lt; omega)
  show IntKind.u8.wrap ((BitVec.ofInt 8 (a.toNat : Int) ^^^ BitVec.ofInt 8 (b.toNat : Int)).toNat : Int) = _
  rw [BitVec.toNat_xor, h1, h2, UInt8.toNat_xor, IntKind.wrap_u8]
  have := (a ^^^ b).toNat_lt
  rw [UInt8.toNat_xor] at this
  omega
theorem rC_setR {m : Msg} {vc : Value} (j : Nat) (hj : j < 32) (hr : m.rnd.length = 32) (x : UInt8) : (rC m vc).set (1 + j) (B8 x) = rC { m with rnd := m.rnd.set j x } vc := by
  unfold rC mC
  rw [show 1 + j = j + 1 by omega, List.set_cons_succ, List.set_append_left _ _ (by rw [List.length_map, hr]; omega), map_set8]
theorem rC_setK {m : Msg} {vc : Value} (j : Nat) (hj : j < 32) (hr : m.rnd.length = 32) (hm : m.mark.length = 32) (x : UInt8) : (rC m vc).set (33 + j) (B8 x) = rC { m with mark := m.mark.set j x } vc := by
  unfold rC mC
  rw [show 33 + j = (32 + j) + 1 by omega, List.set_cons_succ, List.set_append_right _ _ (by rw [List.length_map, hr]; omega), List.length_map, hr, show 32 + j - 32 = j by omega, List.set_append_left _ _ (by rw [List.length_map, hm]; omega), map_set8]
set_option maxRecDepth 100000 in
set_option maxHeartbeats 1000000 in
theorem sizes_0 (m : Msg) (cs : List Value) (y : UInt8) (w : World) (hT : TabH w) (h : RIn w m cs) (hf : formM (tameM m) = false) : Calls Tryd.prog 8 #[.agg cs.toArray, .int .u8 (y.toNat : Int)] w fun e w' => e = .returned (.bool true) ∧ Below w.heap.size w w' := by
  have HT := Lib.hid hT
  have HF := Lib.hid hf
  clear hT hf
  go_enter Tryd.func8, Tryd.ntmps8
  go_upto_region 0 with (fail)
  refine wp_region_lit ?_
  refine wpList_plain rfl (fun K hK => ?_)
  go_simp
  refine hK _ _ ?_
  clear hK K
  have b1 := Blk.new w 25 cs
  have hb1 : Below w.heap.size w (w.alloc (.cells cs.toArray 25)) := (Below.refl _ _).alloc (Nat.le_refl _) _
  have h1 := h.below hb1
  obtain ⟨g, hg1⟩ : ∃ g, g = w.heap.size := ⟨_, rfl⟩
  rw [← hg1] at b1
  simp only [← hg1]
  have HG := Lib.hid (Nat.le_of_eq hg1.symm)
  clear h hg1
  generalize w.alloc (.cells cs.toArray 25) = w1 at *
  try simp only [Act.put, List.setIfInBounds_toArray, List.set_cons_zero, List.set_cons_succ]
  go_upto_region 1 with (fail)
  refine wp_region_lit ?_
  refine wpList_load_mid rfl 25 (.tmp 2) rfl g 0 rfl cs _ (rangeAt_of_blk b1) Tryd.underlying25 rfl (infoR.trans (by rw [h1.len])) ?_
  try simp only [Act.put, List.setIfInBounds_toArray, List.set_cons_zero, List.set_cons_succ]
  refine wpList_plain rfl (fun K hK0 => ?_)
  have hK := Lib.hid hK0
  clear hK0
  go_simp
  go_at_call 9
  refine (tame_e m cs _ h1).mono ?_
  rintro e w2 ⟨cs2, rfl, hm2, hb2⟩
  try go_wp2_with fail
  refine hK.out _ _ ?_
  clear hK K
  try simp only [Act.put, List.setIfInBounds_toArray, List.set_cons_zero, List.set_cons_succ]
  have b2 := b1.below hb2 b1.lt
  obtain ⟨M, hM⟩ : ∃ M, tameM m = M := ⟨_, rfl⟩
  have HSM := Lib.hid (show Small M by rw [← hM]; exact small_tame m)
  rw [hM] at hm2 HF
  refine wpList_store_blk rfl 25 (.tmp 2) (.tmp 14) rfl rfl g cs2 rfl rfl _ _ b2 (infoR.trans (by rw [hm2.rin.len])) (by rw [hm2.rin.len, h1.len]) hm2.rin.one ?_
  intro w3 b3 hg3
  try simp only [Act.put, List.setIfInBounds_toArray, List.set_cons_zero, List.set_cons_succ]
  replace hm2 := (hm2.kept hg3 b1.lt).rin
  have hb13 := hb1.trans ((hb2.mono hb1.size).trans (grown_below hg3 HG.out (Nat.le_trans hb1.size hb2.size)))
  clear hb2 hb1 hg3 b1 b2 h1 hM
  go_upto_region 2 with (fail)
  refine wp_region_lit ?_
  refine wpList_load_mid rfl 25 (.tmp 2) rfl g 0 rfl cs2 _ (rangeAt_of_blk b3) Tryd.underlying25 rfl (infoR.trans (by rw [hm2.len])) ?_
  try simp only [Act.put, List.setIfInBounds_toArray, List.set_cons_zero, List.set_cons_succ]
  refine wpList_plain rfl (fun K hK0 => ?_)
  have hK := Lib.hid hK0
  clear hK0
  go_simp
  go_at_call 10
  refine (to_e M cs2 _ hm2 HSM).mono ?_
  rintro e w4 ⟨cs4, rfl, hm4, hb4⟩
  try go_wp2_with fail
  refine hK.out _ _ ?_
  clear hK K
  try simp only [Act.put, List.setIfInBounds_toArray, List.set_cons_zero, List.set_cons_succ]
  have b4 := b3.below hb4 b3.lt
  replace hm2 := hm2.below hb4
  have hb14 := hb13.trans (hb4.mono hb13.size)
  clear hb4 hb13 b3
  refine wpList_plain rfl (fun K hK0 => ?_)
  have hK := Lib.hid hK0
  clear hK0
  go_simp
  go_at_call 11
  refine (write_0 M cs4 _ (HT.out.below hb14) hm4 HF.out).mono ?_
  rintro e w5 ⟨rfl, hb5⟩
  try go_wp2_with fail
  refine hK.out _ _ ?_
  clear hK K
  try simp only [Act.put, List.setIfInBounds_toArray, List.set_cons_zero, List.set_cons_succ]
  have b5 := b4.below hb5 b4.lt
  replace hm2 := hm2.below hb5
  have hb15 := hb14.trans (hb5.mono hb14.size)
  have HG4 := Lib.hid (show g < w4.heap.size from b4.lt)
  clear hb5 b4 hm4 hb14
  refine wpList_plain rfl (fun K hK => ?_)
  go_simp
  refine hK _ _ ?_
  clear hK K
  try simp only [Act.put, List.setIfInBounds_toArray, List.set_cons_zero, List.set_cons_succ]
  refine wpList_plain rfl (fun K hK => ?_)
  go_simp
  refine hK _ _ ?_
  clear hK K
  try simp only [Act.put, List.setIfInBounds_toArray, List.set_cons_zero, List.set_cons_succ]
  refine wpList_plain rfl (fun K hK => ?_)
  go_simp
  refine hK _ _ ?_
  clear hK K
  try simp only [Act.put, List.setIfInBounds_toArray, List.set_cons_zero, List.set_cons_succ]
  refine wpList_plain rfl (fun K hK => ?_)
  go_simp
  refine hK _ _ ?_
  clear hK K
  try simp only [Act.put, List.setIfInBounds_toArray, List.set_cons_zero, List.set_cons_succ]
  refine wpList_plain rfl (fun K hK => ?_)
  go_simp
  refine hK _ _ ?_
  clear hK K
  try simp only [Act.put, List.setIfInBounds_toArray, List.set_cons_zero, List.set_cons_succ]
  go_upto_region 4 with (go_at_call 13; refine (hellos_e _ (HT.out.below hb15)).mono ?_; rintro e w6 ⟨rfl, hb6⟩)
  have hb16 := hb15.trans (hb6.mono hb15.size)
  go_wp2_with (go_at_call 13; refine (hellos_e _ (HT.out.below hb16)).mono ?_; rintro e w7 ⟨rfl, hb7⟩)
  go_ret
  exact ⟨rfl, hb16.trans (hb7.mono hb16.size)⟩
abbrev MI : TypeId := 53
def ent (k v : Int) (b : Nat) : MapEntry := { key := .int .i64 k, val := .int .i64 v, born := b }
section
variable {o : Oper} {a : Act} {w : World} {ops : Array Oper} {rest : List Oper} {Q : Exit → Act → World → Prop}
theorem wpList_makeMI (hgd : o.guard = none) (ho : o.op = .makeMap MI none)
    (h : ∀ g w', g = w.heap.size → w'.heap[g]? = some (.map #[] 0) → Below w.heap.size w w' → wpList Tryd.prog ops Q rest (a.put o.dst (.map (some g))) w') : wpList Tryd.prog ops Q (o :: rest) a w := by
  refine wpList_plain hgd fun K hK => ?_
  unfold Oper.wp execOp
  simp only [ho, Sem.run_bind, Sem.run_pure]
  exact hK _ _ (h w.heap.size _ rfl (heap_alloc w _).1 ((Below.refl _ _).alloc (Nat.le_refl _) _))
theorem wpList_putMI (hgd : o.guard = none) (x y z : Operand) (ho : o.op = .insert MI x y z) (hd : o.dst = none) (g : Nat) (es : Array MapEntry) (b : Nat) (k v : Int) (hx : a.eval x = .map (some g)) (hy : a.eval y = .int .i64 k) (hz : a.eval z = .int .i64 v)
    (hg : w.heap[g]? = some (.map es b)) (hn : Instr.findNow (.int .i64) (.int .i64 k) es.toList 0 = some none)
    (h : ∀ w', w'.heap[g]? = some (.map (es.push (ent k v b)) (b + 1)) → w.grownBy w' (some g) → wpList Tryd.prog ops Q rest a w') : wpList Tryd.prog ops Q (o :: rest) a w := by
  have hr : (Instr.mapUpdate MI (.map (some g)) (.int .i64 k) (.int .i64 v)).run Tryd.prog w = .ok () { w with heap := w.heap.setIfInBounds g (.map (es.push (ent k v b)) (b + 1)) } := by
    simp [Instr.mapUpdate, run_underlying Tryd.underlying53, MapKept.run_getObj_map hg, run_checkKey (k := .int .i64 k) Tryd.underlying3 rfl, run_findKey Tryd.underlying3 hn, MapKept.run_setObj_map _ hg, Result.andThen, ent]
  refine wpList_plain hgd fun K hK => ?_
  unfold Oper.wp execOp
  simp only [ho, hx, hy, hz, Sem.run_bind, Sem.run_pure, Result.andThen_ok, hr]
  have hs := heap_set (o' := Obj.map (es.push (ent k v b)) (b + 1)) hg
  refine hK _ _ (by rw [hd]; exact h _ hs.1 ⟨rfl, rfl, rfl, by simp, fun i _ hi => hs.2 i (fun e => hi (by rw [e]))⟩)
theorem wpList_lookMI (hgd : o.guard = none) (x y : Operand) (ho : o.op = .lookup MI x y true) (g : Nat) (es : Array MapEntry) (b : Nat) (k : Int) (hx : a.eval x = .map (some g)) (hy : a.eval y = .int .i64 k)
    (hg : w.heap[g]? = some (.map es b)) (r : Option (Nat × Value)) (hn : Instr.findNow (.int .i64) (.int .i64 k) es.toList 0 = some r)
    (h : wpList Tryd.prog ops Q rest (a.put o.dst (.tuple #[(r.map (·.2)).getD (.int .i64 0), .bool r.isSome])) w) : wpList Tryd.prog ops Q (o :: rest) a w := by
  have hzv : (zeroValue 3).run Tryd.prog w = .ok (.int .i64 0) w := by kernel_rfl
  have hr : (Instr.lookup MI (.map (some g)) (.int .i64 k) true).run Tryd.prog w = .ok (.tuple #[(r.map (·.2)).getD (.int .i64 0), .bool r.isSome]) w := by
    cases r with
    | none => simp [Instr.lookup, run_underlying Tryd.underlying53, MapKept.run_getObj_map hg, run_checkKey (k := .int .i64 k) Tryd.underlying3 rfl, run_findKey Tryd.underlying3 hn, Result.andThen, hzv]
    | some q => obtain ⟨i, v⟩ := q; simp [Instr.lookup, run_underlying Tryd.underlying53, MapKept.run_getObj_map hg, run_checkKey (k := .int .i64 k) Tryd.underlying3 rfl, run_findKey Tryd.underlying3 hn, Result.andThen]
  refine wpList_plain hgd fun K hK => ?_
  unfold Oper.wp execOp
  simp only [ho, hx, hy, Sem.run_bind, Sem.run_pure, Result.andThen_ok, hr]
  exact hK _ _ h
end
/-- Some cells go into a block that is known, from place off on. -/
theorem wpList_store_part {P : Program} {ops : Array Oper} {rest : List Oper} {o : Oper} {a : Act} {w : World} {Q : Exit → Act → World → Prop} (hgd : o.guard = none) (ty : TypeId) (x y : Operand) (ho : o.op = .store ty x y) (hd : o.dst = none)
    (g off : Nat) (cells : List Value) (hx : a.eval x = .pointer (some ⟨g, off, none⟩)) (hy : a.eval y = .agg cells.toArray)
    (t : TypeId) (old : List Value) (hg : Blk w g t old) (hi : (P.info? ty).map (·.size) = some cells.length)
    (hfit : off + cells.length ≤ old.length) (h1 : ∀ v ∈ cells, v.oneCell' = true)
    (h : ∀ w', Blk w' g t (splice old off cells) → w.grownBy w' (some g) → wpList P ops Q rest a w') : wpList P ops Q (o :: rest) a w := by
  have hst := run_storeCells_at P g off t cells 0 old.toArray w hg (by simpa using hfit) h1
  refine wpList_plain hgd fun K hK => ?_
  have hrun : (storeVar ty ⟨g, off, none⟩ (.agg cells.toArray)).run P w = .ok () (w.setRow g (splice old off cells).toArray) := by
    cases hq : P.info? ty with
    | none => simp [hq] at hi
    | some i =>
      have hs : cells.length = i.size := by simp [hq] at hi; omega
      simp only [Nat.add_zero] at hst
      simp [storeVar, sizeOf, typeInfo, hq, Value.cells, hs, hst, splice_eq]
  unfold Oper.wp execOp
  simp only [ho, hx, hy, Instr.storeAt, Instr.sureAddr, Sem.run_bind, Sem.run_pure, Result.andThen_ok, hrun]
  exact hK _ _ (by rw [hd]; exact h _ (hg.row _) (grown_setRow _ _ _))

theorem grown_cellB {B : Nat} {w0 w : World} (hb : Below B w0 w) (hB : B ≤ w.heap.size) (g o : Nat) (u : Value) (hg : B ≤ g) : Below B w0 (w.setCell ⟨g, o, none⟩ u) := below_new hb (grown_cell w g o u) hg hB
theorem rC_splR {m : Msg} {vc : Value} (hl : m.rnd.length = 32 ∧ m.mark.length = 32) {x : List UInt8} (hx : x.length = 32) : splice (rC m vc) 1 (x.map B8) = rC { m with rnd := x } vc := by
  unfold rC mC
  rw [splice_eq, List.length_map, hx, show 1 + 32 = 32 + 1 by rfl, List.drop_succ_cons, List.drop_left' (by rw [List.length_map, hl.1])]
  rfl
theorem rC_splK {m : Msg} {vc : Value} (hl : m.rnd.length = 32 ∧ m.mark.length = 32) {x : List UInt8} (hx : x.length = 32) : splice (rC m vc) 33 (x.map B8) = rC { m with mark := x } vc := by
  unfold rC mC
  rw [splice_eq, List.length_map, hx, show 33 + 32 = 64 + 1 by rfl, List.drop_succ_cons, show (33 : Nat) = 32 + 1 by rfl, List.take_succ_cons, List.take_left' (by rw [List.length_map, hl.1]), ← List.append_assoc (m.rnd.map B8) (m.mark.map B8), List.drop_left' (by rw [List.length_append, List.length_map, List.length_map, hl.1, hl.2])]
  rw [List.cons_append]
theorem len_rC {m : Msg} {vc : Value} (hl : m.rnd.length = 32 ∧ m.mark.length = 32) : (rC m vc).length = 75 := mC_length hl.1 hl.2
set_option maxRecDepth 100000 in
set_option maxHeartbeats 1000000 in
theorem sizes_1 (m : Msg) (cs : List Value) (y : UInt8) (w : World) (hT : TabH w) (h : RIn w m cs) (hf : formM (tameM m) = true) (HKI : Hid ((tameM m).kind = 1)) (HPS : Hid ((tameM m).psk = false)) (HRE : Hid ((tameM m).retry = false)) : Calls Tryd.prog 8 #[.agg cs.toArray, .int .u8 (y.toNat : Int)] w fun e w' => e = .returned (.bool true) ∧ Below w.heap.size w w' := by
  have HT := Lib.hid hT
  have HF := Lib.hid hf
  clear hT hf
  go_enter Tryd.func8, Tryd.ntmps8
  go_upto_region 0 with (fail)
  refine wp_region_lit ?_
  refine wpList_plain rfl (fun K hK => ?_)
  go_simp
  refine hK _ _ ?_
  clear hK K
  have b1 := Blk.new w 25 cs
  have hb1 : Below w.heap.size w (w.alloc (.cells cs.toArray 25)) := (Below.refl _ _).alloc (Nat.le_refl _) _
  have h1 := h.below hb1
  obtain ⟨g, hg1⟩ : ∃ g, g = w.heap.size := ⟨_, rfl⟩
  rw [← hg1] at b1
  simp only [← hg1]
  have HG := Lib.hid (Nat.le_of_eq hg1.symm)
  clear h hg1
  generalize w.alloc (.cells cs.toArray 25) = w1 at *
  try simp only [Act.put, List.setIfInBounds_toArray, List.set_cons_zero, List.set_cons_succ]
  go_upto_region 1 with (fail)
  refine wp_region_lit ?_
  refine wpList_load_mid rfl 25 (.tmp 2) rfl g 0 rfl cs _ (rangeAt_of_blk b1) Tryd.underlying25 rfl (infoR.trans (by rw [h1.len])) ?_
  try simp only [Act.put, List.setIfInBounds_toArray, List.set_cons_zero, List.set_cons_succ]
  refine wpList_plain rfl (fun K hK0 => ?_)
  have hK := Lib.hid hK0
  clear hK0
  go_simp
  go_at_call 9
  refine (tame_e m cs _ h1).mono ?_
  rintro e w2 ⟨cs2, rfl, hm2, hb2⟩
  try go_wp2_with fail
  refine hK.out _ _ ?_
  clear hK K
  try simp only [Act.put, List.setIfInBounds_toArray, List.set_cons_zero, List.set_cons_succ]
  have b2 := b1.below hb2 b1.lt
  obtain ⟨M, hM⟩ : ∃ M, tameM m = M := ⟨_, rfl⟩
  have HSM := Lib.hid (show Small M by rw [← hM]; exact small_tame m)
  rw [hM] at hm2 HF HKI HPS HRE
  refine wpList_store_blk rfl 25 (.tmp 2) (.tmp 14) rfl rfl g cs2 rfl rfl _ _ b2 (infoR.trans (by rw [hm2.rin.len])) (by rw [hm2.rin.len, h1.len]) hm2.rin.one ?_
  intro w3 b3 hg3
  try simp only [Act.put, List.setIfInBounds_toArray, List.set_cons_zero, List.set_cons_succ]
  replace hm2 := (hm2.kept hg3 b1.lt).rin
  have hb13 := hb1.trans ((hb2.mono hb1.size).trans (grown_below hg3 HG.out (Nat.le_trans hb1.size hb2.size)))
  clear hb2 hb1 hg3 b1 b2 h1 hM
  go_upto_region 2 with (fail)
  refine wp_region_lit ?_
  refine wpList_load_mid rfl 25 (.tmp 2) rfl g 0 rfl cs2 _ (rangeAt_of_blk b3) Tryd.underlying25 rfl (infoR.trans (by rw [hm2.len])) ?_
  try simp only [Act.put, List.setIfInBounds_toArray, List.set_cons_zero, List.set_cons_succ]
  refine wpList_plain rfl (fun K hK0 => ?_)
  have hK := Lib.hid hK0
  clear hK0
  go_simp
  go_at_call 10
  refine (to_e M cs2 _ hm2 HSM).mono ?_
  rintro e w4 ⟨cs4, rfl, hm4, hb4⟩
  try go_wp2_with fail
  refine hK.out _ _ ?_
  clear hK K
  try simp only [Act.put, List.setIfInBounds_toArray, List.set_cons_zero, List.set_cons_succ]
  have b4 := b3.below hb4 b3.lt
  replace hm2 := hm2.below hb4
  have hb14 := hb13.trans (hb4.mono hb13.size)
  clear hb4 hb13 b3
  refine wpList_plain rfl (fun K hK0 => ?_)
  have hK := Lib.hid hK0
  clear hK0
  go_simp
  go_at_call 11
  refine (write_1 M cs4 _ (HT.out.below hb14) hm4 HF.out).mono ?_
  rintro e w5 ⟨r, rfl, hB5, hb5⟩
  try go_wp2_with fail
  refine hK.out _ _ ?_
  clear hK K
  try simp only [Act.put, List.setIfInBounds_toArray, List.set_cons_zero, List.set_cons_succ]
  have b5 := b4.below hb5 b4.lt
  replace hm2 := hm2.below hb5
  have hb15 := hb14.trans (hb5.mono hb14.size)
  have HG4 := Lib.hid (show g < w4.heap.size from b4.lt)
  clear hb5 b4 hm4 hb14
  refine wpList_plain rfl (fun K hK => ?_)
  go_simp
  refine hK _ _ ?_
  clear hK K
  try simp only [Act.put, List.setIfInBounds_toArray, List.set_cons_zero, List.set_cons_succ]
  refine wpList_plain rfl (fun K hK => ?_)
  go_simp
  refine hK _ _ ?_
  clear hK K
  try simp only [Act.put, List.setIfInBounds_toArray, List.set_cons_zero, List.set_cons_succ]
  refine wpList_plain rfl (fun K hK => ?_)
  go_simp
  refine hK _ _ ?_
  clear hK K
  try simp only [Act.put, List.setIfInBounds_toArray, List.set_cons_zero, List.set_cons_succ]
  refine wpList_plain rfl (fun K hK => ?_)
  go_simp
  refine hK _ _ ?_
  clear hK K
  try simp only [Act.put, List.setIfInBounds_toArray, List.set_cons_zero, List.set_cons_succ]
  refine wpList_plain rfl (fun K hK => ?_)
  go_simp
  refine hK _ _ ?_
  clear hK K
  try simp only [Act.put, List.setIfInBounds_toArray, List.set_cons_zero, List.set_cons_succ]
  go_upto_region 5 with (go_at_call 13; refine (hellos_e _ (HT.out.below hb15)).mono ?_; rintro e w6 ⟨rfl, hb6⟩)
  have hb16 := hb15.trans (hb6.mono hb15.size)
  have b6 := b5.below hb6 b5.lt
  have hm6 := hm2.below hb6
  have hB6 := hB5.below hb6
  have HM6 := Lib.hid hm6
  obtain ⟨hlen, vc, hcs2, hsr⟩ := hm6
  clear b5 hm2 hB5 hb15 hb6
  refine wp_region_lit ?_
  refine wpList_load_mid rfl 25 (.tmp 2) rfl g 0 rfl cs2 _ (rangeAt_of_blk b6) Tryd.underlying25 rfl (infoR.trans (by rw [hcs2]; exact congrArg some (mC_length hlen.1 hlen.2).symm)) ?_
  try simp only [Act.put, List.setIfInBounds_toArray, List.set_cons_zero, List.set_cons_succ]
  refine wpList_new_blk rfl 25 rfl _ zeroR ?_
  intro g7 w7 hg7 b7 hb7
  try simp only [Act.put, List.setIfInBounds_toArray, List.set_cons_zero, List.set_cons_succ]
  have HG7 := Lib.hid (show w6.heap.size ≤ g7 by rw [hg7]; exact Nat.le_refl _)
  refine wpList_store_blk rfl 25 (.tmp 7) (.tmp 28) rfl rfl g7 cs2 rfl rfl _ _ b7 (infoR.trans (by rw [hcs2]; exact congrArg some (mC_length hlen.1 hlen.2).symm)) (by rw [hcs2]; exact (rC_zero.trans (mC_length hlen.1 hlen.2).symm)) (by obtain ⟨Av, cv, rfl, _⟩ := hsr; rw [hcs2]; exact one_rC) ?_
  intro w8 b8 hg8
  try simp only [Act.put, List.setIfInBounds_toArray, List.set_cons_zero, List.set_cons_succ]
  have hb68 := hb7.trans (grown_below hg8 HG7.out hb7.size)
  clear hb7 hg8 hg7 b7
  rw [hcs2] at b8
  obtain ⟨x3, hx3⟩ : ∃ x : UInt8, M.rnd.getD 3 0 = x := ⟨_, rfl⟩
  obtain ⟨x5, hx5⟩ : ∃ x : UInt8, M.mark.getD 5 0 = x := ⟨_, rfl⟩
  have hc4 : w8.cell? ⟨g7, 4, none⟩ = some (.int .u8 (x3.toNat : Int)) := by rw [b8.cell, rC, mC_rnd hlen.1 3 (by decide), getD_map8 _ 3 (by rw [hlen.1]; decide), hx3]
  have hfz := b8.frozen 4
  have hxo := xor_u8 x3 y
  go_upto_region 7 with (fail)
  rw [← UInt8.toNat_xor]
  clear hc4 hfz hxo
  have b9 := b8.set_ 4 (B8 (x3 ^^^ y))
  rw [show (4 : Nat) = 1 + 3 from rfl, rC_setR 3 (by decide) hlen.1] at b9
  obtain ⟨R1, hR1⟩ : ∃ R, M.rnd.set 3 (x3 ^^^ y) = R := ⟨_, rfl⟩
  rw [hR1] at b9
  have hRl : R1.length = 32 := by rw [← hR1, List.length_set]; exact hlen.1
  have hb69 := grown_cellB hb68 hb68.size g7 4 (B8 (x3 ^^^ y)) HG7.out
  replace b9 : Blk (w8.setCell ⟨g7, 4, none⟩ (.int .u8 ((x3 ^^^ y).toNat : Int))) g7 25 (rC { M with rnd := R1 } vc) := b9
  replace hb69 : Below w6.heap.size w6 (w8.setCell ⟨g7, 4, none⟩ (.int .u8 ((x3 ^^^ y).toNat : Int))) := hb69
  generalize w8.setCell ⟨g7, 4, none⟩ (.int .u8 ((x3 ^^^ y).toNat : Int)) = w9 at *
  clear b8 hb68
  have hc5 : w9.cell? ⟨g7, 38, none⟩ = some (.int .u8 (x5.toNat : Int)) := by rw [b9.cell, rC, mC_mark (m := { M with rnd := R1 }) hRl hlen.2 5 (by decide), getD_map8 _ 5 (by rw [hlen.2]; decide), hx5]
  have hfz := b9.frozen 38
  have hxo := xor_u8 x5 y
  go_upto_region 8 with (fail)
  rw [← UInt8.toNat_xor]
  clear hc5 hfz hxo
  have b10 := b9.set_ 38 (B8 (x5 ^^^ y))
  rw [show (38 : Nat) = 33 + 5 from rfl, rC_setK (m := { M with rnd := R1 }) 5 (by decide) hRl hlen.2] at b10
  replace b10 : Blk (w9.setCell ⟨g7, 38, none⟩ (.int .u8 ((x5 ^^^ y).toNat : Int))) g7 25 (rC (altM M R1 (M.mark.set 5 (x5 ^^^ y))) vc) := b10
  obtain ⟨K1, hK1⟩ : ∃ R, M.mark.set 5 (x5 ^^^ y) = R := ⟨_, rfl⟩
  rw [hK1] at b10
  have hKl : K1.length = 32 := by rw [← hK1, List.length_set]; exact hlen.2
  have hba := grown_cellB hb69 hb69.size g7 38 (B8 (x5 ^^^ y)) HG7.out
  replace hba : Below w6.heap.size w6 (w9.setCell ⟨g7, 38, none⟩ (.int .u8 ((x5 ^^^ y).toNat : Int))) := hba
  generalize w9.setCell ⟨g7, 38, none⟩ (.int .u8 ((x5 ^^^ y).toNat : Int)) = wa at *
  clear b9 hb69
  obtain ⟨z3, hz3⟩ : ∃ z, x3 ^^^ y = z := ⟨_, rfl⟩
  obtain ⟨z5, hz5⟩ : ∃ z, x5 ^^^ y = z := ⟨_, rfl⟩
  simp only [hz3, hz5]
  clear hz3 hz5 hx3 hx5
  have ba : Blk wa g 25 (rC M vc) := by rw [← hcs2]; exact b6.below hba b6.lt
  have hcK : wa.cell? ⟨g, 0, none⟩ = some (.int .i64 1) := by rw [← HKI.out]; exact ba.cell 0
  have hcP : wa.cell? ⟨g, 73, none⟩ = some (.bool false) := by rw [← HPS.out]; exact (ba.cell (65 + 8)).trans (mC_get hlen.1 hlen.2 8)
  have hcR : wa.cell? ⟨g, 74, none⟩ = some (.bool false) := by rw [← HRE.out]; exact (ba.cell (65 + 9)).trans (mC_get hlen.1 hlen.2 9)
  go_upto_region 11 with (fail)
  refine wp_region_lit ?_
  refine wpList_plain rfl (fun K hK => ?_)
  go_simp
  refine hK _ _ ?_
  clear hK K
  try simp only [Act.put, List.setIfInBounds_toArray, List.set_cons_zero, List.set_cons_succ]
  refine wpList_load_mid rfl 22 (.tmp 76) rfl g 33 rfl (M.mark.map B8) _ (RAt.mark (m := M) ⟨rC M vc, ba, hlen, vc, rfl, hsr.below hba⟩) Tryd.underlying22 rfl (info40.trans (by rw [List.length_map, hlen.2])) ?_
  try simp only [Act.put, List.setIfInBounds_toArray, List.set_cons_zero, List.set_cons_succ]
  refine wpList_plain rfl (fun K hK => ?_)
  go_simp
  refine hK _ _ ?_
  clear hK K
  try simp only [Act.put, List.setIfInBounds_toArray, List.set_cons_zero, List.set_cons_succ]
  refine wpList_store_part rfl 22 (.tmp 78) (.tmp 77) rfl rfl g7 33 (M.mark.map B8) rfl rfl _ _ b10 (info40.trans (by rw [List.length_map, hlen.2])) (by rw [List.length_map, hlen.2, len_rC (m := (altM M R1 K1)) ⟨hRl, hKl⟩]; decide) (fun v hv => by obtain ⟨x, _, rfl⟩ := List.mem_map.1 hv; rfl) ?_
  intro wc b12 hgs
  rw [rC_splK (m := (altM M R1 K1)) ⟨hRl, hKl⟩ hlen.2] at b12
  try simp only [Act.put, List.setIfInBounds_toArray, List.set_cons_zero, List.set_cons_succ]
  replace b12 : Blk wc g7 25 (rC (altM M R1 M.mark) vc) := b12
  have hbb := below_new hba hgs HG7.out hba.size
  have ba' : Blk wc g 25 (rC M vc) := by rw [← hcs2]; exact b6.below hbb b6.lt
  clear hba hgs ba b10 hcK hcP hcR
  have hba := hbb
  have ba := ba'
  clear hbb ba'
  have hcK : wc.cell? ⟨g, 0, none⟩ = some (.int .i64 1) := by rw [← HKI.out]; exact ba.cell 0
  have hcP : wc.cell? ⟨g, 73, none⟩ = some (.bool false) := by rw [← HPS.out]; exact (ba.cell (65 + 8)).trans (mC_get hlen.1 hlen.2 8)
  have hcR : wc.cell? ⟨g, 74, none⟩ = some (.bool false) := by rw [← HRE.out]; exact (ba.cell (65 + 9)).trans (mC_get hlen.1 hlen.2 9)
  have hal := HelloMath.alter_form HF.out R1 K1 false true (by rw [HKI.out, HRE.out]; rfl) (by rw [HKI.out, HPS.out]; rfl)
  replace hal : formM (altM M R1 M.mark) = true ∨ (M.kind = 2 ∧ R1 = special) := hal
  have HAL := Lib.hid hal
  have hals := HelloMath.alter_len (m := M) (r := R1) (k := M.mark) (by rw [hRl, hlen.1]) rfl
  have HALS := Lib.hid hals
  have HRI := Lib.hid (show RIn wc (altM M R1 M.mark) (rC (altM M R1 M.mark) vc) from ⟨⟨hRl, hlen.2⟩, vc, rfl, hsr.below hba⟩)
  have HBA := Lib.hid (hb16.trans (hba.mono hb16.size))
  have HSA := Lib.hid (show Small (altM M R1 M.mark) from HSM.out)
  have HBUF := Lib.hid (hB6.below (hba.mono (Nat.le_refl _)))
  have HLEN := Lib.hid hlen
  have HSR := Lib.hid (hsr.below hba)
  clear hal hals hB6 hsr hb16 hlen
  go_upto_region 12 with (fail)
  clear hcP hcR
  refine wp_region_lit ?_
  refine wpList_load_mid rfl 25 (.tmp 7) rfl g7 0 rfl (rC (altM M R1 M.mark) vc) _ (rangeAt_of_blk b12) Tryd.underlying25 rfl (infoR.trans (by rw [HRI.out.len])) ?_
  try simp only [Act.put, List.setIfInBounds_toArray, List.set_cons_zero, List.set_cons_succ]
  refine wpList_plain rfl (fun K hK0 => ?_)
  have hK := Lib.hid hK0
  clear hK0
  go_simp
  go_at_call 10
  refine (to_e (altM M R1 M.mark) (rC (altM M R1 M.mark) vc) _ HRI.out HSA).mono ?_
  rintro e wd ⟨csd, rfl, hmd, hbd⟩
  try go_wp2_with fail
  refine hK.out _ _ ?_
  clear hK K
  try simp only [Act.put, List.setIfInBounds_toArray, List.set_cons_zero, List.set_cons_succ]
  have HBD := Lib.hid (HBA.out.trans (hbd.mono HBA.out.size))
  have hbdk := hbd
  have bd := ba.below hbd ba.lt
  have bd7 := b12.below hbd b12.lt
  clear hbd ba b12 hba hcK
  have hff : formM (altM M R1 M.mark) = true := by
    rcases HAL.out with h | h
    · exact h
    · exact absurd h.1 (by rw [HKI.out]; decide)
  refine wpList_plain rfl (fun K hK0 => ?_)
  have hK := Lib.hid hK0
  clear hK0
  go_simp
  go_at_call 11
  refine (write_1 (altM M R1 M.mark) csd _ (HT.out.below HBD.out) hmd hff).mono ?_
  rintro e we ⟨re, rfl, hBe, hbe⟩
  try go_wp2_with fail
  refine hK.out _ _ ?_
  clear hK K
  try simp only [Act.put, List.setIfInBounds_toArray, List.set_cons_zero, List.set_cons_succ]
  have HBE := Lib.hid (HBD.out.trans (hbe.mono HBD.out.size))
  have be := bd.below hbe bd.lt
  obtain ⟨Ae, ce, hre, -⟩ := hBe
  obtain ⟨A7, c7, hr7, -⟩ := HBUF.out
  subst hre
  subst hr7
  obtain ⟨l, hl⟩ : ∃ l, (wholeM M).length = l := ⟨_, rfl⟩
  have hl2 : (wholeM (altM M R1 M.mark)).length = l := HALS.out.trans hl
  simp only [hl2, hl]
  have HL := Lib.hid hl
  clear hbe bd bd7 hmd hl hl2 HBUF hbdk
  refine wpList_plain rfl (fun K hK => ?_)
  go_simp
  refine hK _ _ ?_
  clear hK K
  try simp only [Act.put, List.setIfInBounds_toArray, List.set_cons_zero, List.set_cons_succ]
  refine wpList_plain rfl (fun K hK => ?_)
  go_simp
  refine hK _ _ ?_
  clear hK K
  try simp only [Act.put, List.setIfInBounds_toArray, List.set_cons_zero, List.set_cons_succ]
  refine wpList_plain rfl (fun K hK => ?_)
  go_simp
  refine hK _ _ ?_
  clear hK K
  try simp only [Act.put, List.setIfInBounds_toArray, List.set_cons_zero, List.set_cons_succ]
  refine wpList_plain rfl (fun K hK => ?_)
  go_simp
  refine hK _ _ ?_
  clear hK K
  try simp only [Act.put, List.setIfInBounds_toArray, List.set_cons_zero, List.set_cons_succ]
  refine wpList_plain rfl (fun K hK => ?_)
  go_simp
  refine hK _ _ ?_
  clear hK K
  try simp only [Act.put, List.setIfInBounds_toArray, List.set_cons_zero, List.set_cons_succ]
  go_upto_region 15 with (fail)
  refine wp_region_lit ?_
  refine wpList_makeMI rfl rfl ?_
  intro gm wf0 hgm hm0 hbf0
  try simp only [Act.put, List.setIfInBounds_toArray, List.set_cons_zero, List.set_cons_succ]
  refine wpList_putMI rfl (.tmp 96) _ _ rfl rfl gm #[] 0 8 6 rfl rfl rfl hm0 rfl ?_
  intro wf1 hm1 hgm1
  try simp only [Act.put, List.setIfInBounds_toArray, List.set_cons_zero, List.set_cons_succ]
  refine wpList_putMI rfl (.tmp 96) _ _ rfl rfl gm (#[].push (ent 8 6 0)) 1 13 15 rfl rfl rfl hm1 rfl ?_
  intro wf2 hm2 hgm2
  try simp only [Act.put, List.setIfInBounds_toArray, List.set_cons_zero, List.set_cons_succ]
  refine wpList_putMI rfl (.tmp 96) _ _ rfl rfl gm ((#[].push (ent 8 6 0)).push (ent 13 15 1)) 2 20 36 rfl rfl rfl hm2 rfl ?_
  intro wf3 hm3 hgm3
  try simp only [Act.put, List.setIfInBounds_toArray, List.set_cons_zero, List.set_cons_succ]
  have hbf := hbf0.trans (grown_below (grown_trans (grown_trans hgm1 hgm2) hgm3) (Nat.le_of_eq hgm.symm) hbf0.size)
  have bf := be.below hbf be.lt
  have HBF := Lib.hid (HBE.out.trans (hbf.mono HBE.out.size))
  clear hbf hbf0 hgm1 hgm2 hgm3 hgm hm0 hm1 hm2 be
  have hcK : wf3.cell? ⟨g, 0, none⟩ = some (.int .i64 1) := by rw [← HKI.out]; exact bf.cell 0
  refine wpList_plain rfl (fun K hK => ?_)
  go_simp
  refine hK _ _ ?_
  clear hK K
  try simp only [Act.put, List.setIfInBounds_toArray, List.set_cons_zero, List.set_cons_succ]
  refine wpList_plain rfl (fun K hK => ?_)
  go_simp
  refine hK _ _ ?_
  clear hK K
  try simp only [Act.put, List.setIfInBounds_toArray, List.set_cons_zero, List.set_cons_succ]
  go_upto_region 16 with (fail)
  refine wp_region_lit ?_
  refine wpList_plain rfl (fun K hK => ?_)
  go_simp
  refine hK _ _ ?_
  clear hK K
  try simp only [Act.put, List.setIfInBounds_toArray, List.set_cons_zero, List.set_cons_succ]
  refine wpList_plain rfl (fun K hK => ?_)
  go_simp
  refine hK _ _ ?_
  clear hK K
  try simp only [Act.put, List.setIfInBounds_toArray, List.set_cons_zero, List.set_cons_succ]
  refine wpList_plain rfl (fun K hK => ?_)
  go_simp
  refine hK _ _ ?_
  clear hK K
  try simp only [Act.put, List.setIfInBounds_toArray, List.set_cons_zero, List.set_cons_succ]
  refine wpList_lookMI rfl (.tmp 99) (.tmp 101) rfl gm (((#[].push (ent 8 6 0)).push (ent 13 15 1)).push (ent 20 36 2)) 3 1 rfl rfl hm3 none rfl ?_
  try simp only [Act.put, List.setIfInBounds_toArray, List.set_cons_zero, List.set_cons_succ]
  refine wpList_plain rfl (fun K hK => ?_)
  go_simp
  refine hK _ _ ?_
  clear hK K
  try simp only [Act.put, List.setIfInBounds_toArray, List.set_cons_zero, List.set_cons_succ]
  refine wpList_plain rfl (fun K hK => ?_)
  go_simp
  refine hK _ _ ?_
  clear hK K
  try simp only [Act.put, List.setIfInBounds_toArray, List.set_cons_zero, List.set_cons_succ]
  refine wpList_plain rfl (fun K hK => ?_)
  go_simp
  refine hK _ _ ?_
  clear hK K
  try simp only [Act.put, List.setIfInBounds_toArray, List.set_cons_zero, List.set_cons_succ]
  refine wpList_plain rfl (fun K hK => ?_)
  go_simp
  refine hK _ _ ?_
  clear hK K
  try simp only [Act.put, List.setIfInBounds_toArray, List.set_cons_zero, List.set_cons_succ]
  refine wpList_plain rfl (fun K hK => ?_)
  go_simp
  refine hK _ _ ?_
  clear hK K
  try simp only [Act.put, List.setIfInBounds_toArray, List.set_cons_zero, List.set_cons_succ]
  go_wp2
  go_ret
  exact ⟨rfl, HBF.out⟩
set_option maxRecDepth 100000 in
set_option maxHeartbeats 1000000 in
theorem sizes_1p (m : Msg) (cs : List Value) (y : UInt8) (w : World) (hT : TabH w) (h : RIn w m cs) (hf : formM (tameM m) = true) (HKI : Hid ((tameM m).kind = 1)) (HPS : Hid ((tameM m).psk = true)) (HRE : Hid ((tameM m).retry = false)) : Calls Tryd.prog 8 #[.agg cs.toArray, .int .u8 (y.toNat : Int)] w fun e w' => e = .returned (.bool true) ∧ Below w.heap.size w w' := by
  have HT := Lib.hid hT
  have HF := Lib.hid hf
  clear hT hf
  go_enter Tryd.func8, Tryd.ntmps8
  go_upto_region 0 with (fail)
  refine wp_region_lit ?_
  refine wpList_plain rfl (fun K hK => ?_)
  go_simp
  refine hK _ _ ?_
  clear hK K
  have b1 := Blk.new w 25 cs
  have hb1 : Below w.heap.size w (w.alloc (.cells cs.toArray 25)) := (Below.refl _ _).alloc (Nat.le_refl _) _
  have h1 := h.below hb1
  obtain ⟨g, hg1⟩ : ∃ g, g = w.heap.size := ⟨_, rfl⟩
  rw [← hg1] at b1
  simp only [← hg1]
  have HG := Lib.hid (Nat.le_of_eq hg1.symm)
  clear h hg1
  generalize w.alloc (.cells cs.toArray 25) = w1 at *
  try simp only [Act.put, List.setIfInBounds_toArray, List.set_cons_zero, List.set_cons_succ]
  go_upto_region 1 with (fail)
  refine wp_region_lit ?_
  refine wpList_load_mid rfl 25 (.tmp 2) rfl g 0 rfl cs _ (rangeAt_of_blk b1) Tryd.underlying25 rfl (infoR.trans (by rw [h1.len])) ?_
  try simp only [Act.put, List.setIfInBounds_toArray, List.set_cons_zero, List.set_cons_succ]
  refine wpList_plain rfl (fun K hK0 => ?_)
  have hK := Lib.hid hK0
  clear hK0
  go_simp
  go_at_call 9
  refine (tame_e m cs _ h1).mono ?_
  rintro e w2 ⟨cs2, rfl, hm2, hb2⟩
  try go_wp2_with fail
  refine hK.out _ _ ?_
  clear hK K
  try simp only [Act.put, List.setIfInBounds_toArray, List.set_cons_zero, List.set_cons_succ]
  have b2 := b1.below hb2 b1.lt
  obtain ⟨M, hM⟩ : ∃ M, tameM m = M := ⟨_, rfl⟩
  have HSM := Lib.hid (show Small M by rw [← hM]; exact small_tame m)
  rw [hM] at hm2 HF HKI HPS HRE
  refine wpList_store_blk rfl 25 (.tmp 2) (.tmp 14) rfl rfl g cs2 rfl rfl _ _ b2 (infoR.trans (by rw [hm2.rin.len])) (by rw [hm2.rin.len, h1.len]) hm2.rin.one ?_
  intro w3 b3 hg3
  try simp only [Act.put, List.setIfInBounds_toArray, List.set_cons_zero, List.set_cons_succ]
  replace hm2 := (hm2.kept hg3 b1.lt).rin
  have hb13 := hb1.trans ((hb2.mono hb1.size).trans (grown_below hg3 HG.out (Nat.le_trans hb1.size hb2.size)))
  clear hb2 hb1 hg3 b1 b2 h1 hM
  go_upto_region 2 with (fail)
  refine wp_region_lit ?_
  refine wpList_load_mid rfl 25 (.tmp 2) rfl g 0 rfl cs2 _ (rangeAt_of_blk b3) Tryd.underlying25 rfl (infoR.trans (by rw [hm2.len])) ?_
  try simp only [Act.put, List.setIfInBounds_toArray, List.set_cons_zero, List.set_cons_succ]
  refine wpList_plain rfl (fun K hK0 => ?_)
  have hK := Lib.hid hK0
  clear hK0
  go_simp
  go_at_call 10
  refine (to_e M cs2 _ hm2 HSM).mono ?_
  rintro e w4 ⟨cs4, rfl, hm4, hb4⟩
  try go_wp2_with fail
  refine hK.out _ _ ?_
  clear hK K
  try simp only [Act.put, List.setIfInBounds_toArray, List.set_cons_zero, List.set_cons_succ]
  have b4 := b3.below hb4 b3.lt
  replace hm2 := hm2.below hb4
  have hb14 := hb13.trans (hb4.mono hb13.size)
  clear hb4 hb13 b3
  refine wpList_plain rfl (fun K hK0 => ?_)
  have hK := Lib.hid hK0
  clear hK0
  go_simp
  go_at_call 11
  refine (write_1 M cs4 _ (HT.out.below hb14) hm4 HF.out).mono ?_
  rintro e w5 ⟨r, rfl, hB5, hb5⟩
  try go_wp2_with fail
  refine hK.out _ _ ?_
  clear hK K
  try simp only [Act.put, List.setIfInBounds_toArray, List.set_cons_zero, List.set_cons_succ]
  have b5 := b4.below hb5 b4.lt
  replace hm2 := hm2.below hb5
  have hb15 := hb14.trans (hb5.mono hb14.size)
  have HG4 := Lib.hid (show g < w4.heap.size from b4.lt)
  clear hb5 b4 hm4 hb14
  refine wpList_plain rfl (fun K hK => ?_)
  go_simp
  refine hK _ _ ?_
  clear hK K
  try simp only [Act.put, List.setIfInBounds_toArray, List.set_cons_zero, List.set_cons_succ]
  refine wpList_plain rfl (fun K hK => ?_)
  go_simp
  refine hK _ _ ?_
  clear hK K
  try simp only [Act.put, List.setIfInBounds_toArray, List.set_cons_zero, List.set_cons_succ]
  refine wpList_plain rfl (fun K hK => ?_)
  go_simp
  refine hK _ _ ?_
  clear hK K
  try simp only [Act.put, List.setIfInBounds_toArray, List.set_cons_zero, List.set_cons_succ]
  refine wpList_plain rfl (fun K hK => ?_)
  go_simp
  refine hK _ _ ?_
  clear hK K
  try simp only [Act.put, List.setIfInBounds_toArray, List.set_cons_zero, List.set_cons_succ]
  refine wpList_plain rfl (fun K hK => ?_)
  go_simp
  refine hK _ _ ?_
  clear hK K
  try simp only [Act.put, List.setIfInBounds_toArray, List.set_cons_zero, List.set_cons_succ]
  go_upto_region 5 with (go_at_call 13; refine (hellos_e _ (HT.out.below hb15)).mono ?_; rintro e w6 ⟨rfl, hb6⟩)
  have hb16 := hb15.trans (hb6.mono hb15.size)
  have b6 := b5.below hb6 b5.lt
  have hm6 := hm2.below hb6
  have hB6 := hB5.below hb6
  have HM6 := Lib.hid hm6
  obtain ⟨hlen, vc, hcs2, hsr⟩ := hm6
  clear b5 hm2 hB5 hb15 hb6
  refine wp_region_lit ?_
  refine wpList_load_mid rfl 25 (.tmp 2) rfl g 0 rfl cs2 _ (rangeAt_of_blk b6) Tryd.underlying25 rfl (infoR.trans (by rw [hcs2]; exact congrArg some (mC_length hlen.1 hlen.2).symm)) ?_
  try simp only [Act.put, List.setIfInBounds_toArray, List.set_cons_zero, List.set_cons_succ]
  refine wpList_new_blk rfl 25 rfl _ zeroR ?_
  intro g7 w7 hg7 b7 hb7
  try simp only [Act.put, List.setIfInBounds_toArray, List.set_cons_zero, List.set_cons_succ]
  have HG7 := Lib.hid (show w6.heap.size ≤ g7 by rw [hg7]; exact Nat.le_refl _)
  refine wpList_store_blk rfl 25 (.tmp 7) (.tmp 28) rfl rfl g7 cs2 rfl rfl _ _ b7 (infoR.trans (by rw [hcs2]; exact congrArg some (mC_length hlen.1 hlen.2).symm)) (by rw [hcs2]; exact (rC_zero.trans (mC_length hlen.1 hlen.2).symm)) (by obtain ⟨Av, cv, rfl, _⟩ := hsr; rw [hcs2]; exact one_rC) ?_
  intro w8 b8 hg8
  try simp only [Act.put, List.setIfInBounds_toArray, List.set_cons_zero, List.set_cons_succ]
  have hb68 := hb7.trans (grown_below hg8 HG7.out hb7.size)
  clear hb7 hg8 hg7 b7
  rw [hcs2] at b8
  obtain ⟨x3, hx3⟩ : ∃ x : UInt8, M.rnd.getD 3 0 = x := ⟨_, rfl⟩
  obtain ⟨x5, hx5⟩ : ∃ x : UInt8, M.mark.getD 5 0 = x := ⟨_, rfl⟩
  have hc4 : w8.cell? ⟨g7, 4, none⟩ = some (.int .u8 (x3.toNat : Int)) := by rw [b8.cell, rC, mC_rnd hlen.1 3 (by decide), getD_map8 _ 3 (by rw [hlen.1]; decide), hx3]
  have hfz := b8.frozen 4
  have hxo := xor_u8 x3 y
  go_upto_region 7 with (fail)
  rw [← UInt8.toNat_xor]
  clear hc4 hfz hxo
  have b9 := b8.set_ 4 (B8 (x3 ^^^ y))
  rw [show (4 : Nat) = 1 + 3 from rfl, rC_setR 3 (by decide) hlen.1] at b9
  obtain ⟨R1, hR1⟩ : ∃ R, M.rnd.set 3 (x3 ^^^ y) = R := ⟨_, rfl⟩
  rw [hR1] at b9
  have hRl : R1.length = 32 := by rw [← hR1, List.length_set]; exact hlen.1
  have hb69 := grown_cellB hb68 hb68.size g7 4 (B8 (x3 ^^^ y)) HG7.out
  replace b9 : Blk (w8.setCell ⟨g7, 4, none⟩ (.int .u8 ((x3 ^^^ y).toNat : Int))) g7 25 (rC { M with rnd := R1 } vc) := b9
  replace hb69 : Below w6.heap.size w6 (w8.setCell ⟨g7, 4, none⟩ (.int .u8 ((x3 ^^^ y).toNat : Int))) := hb69
  generalize w8.setCell ⟨g7, 4, none⟩ (.int .u8 ((x3 ^^^ y).toNat : Int)) = w9 at *
  clear b8 hb68
  have hc5 : w9.cell? ⟨g7, 38, none⟩ = some (.int .u8 (x5.toNat : Int)) := by rw [b9.cell, rC, mC_mark (m := { M with rnd := R1 }) hRl hlen.2 5 (by decide), getD_map8 _ 5 (by rw [hlen.2]; decide), hx5]
  have hfz := b9.frozen 38
  have hxo := xor_u8 x5 y
  go_upto_region 8 with (fail)
  rw [← UInt8.toNat_xor]
  clear hc5 hfz hxo
  have b10 := b9.set_ 38 (B8 (x5 ^^^ y))
  rw [show (38 : Nat) = 33 + 5 from rfl, rC_setK (m := { M with rnd := R1 }) 5 (by decide) hRl hlen.2] at b10
  replace b10 : Blk (w9.setCell ⟨g7, 38, none⟩ (.int .u8 ((x5 ^^^ y).toNat : Int))) g7 25 (rC (altM M R1 (M.mark.set 5 (x5 ^^^ y))) vc) := b10
  obtain ⟨K1, hK1⟩ : ∃ R, M.mark.set 5 (x5 ^^^ y) = R := ⟨_, rfl⟩
  rw [hK1] at b10
  have hKl : K1.length = 32 := by rw [← hK1, List.length_set]; exact hlen.2
  have hba := grown_cellB hb69 hb69.size g7 38 (B8 (x5 ^^^ y)) HG7.out
  replace hba : Below w6.heap.size w6 (w9.setCell ⟨g7, 38, none⟩ (.int .u8 ((x5 ^^^ y).toNat : Int))) := hba
  generalize w9.setCell ⟨g7, 38, none⟩ (.int .u8 ((x5 ^^^ y).toNat : Int)) = wa at *
  clear b9 hb69
  obtain ⟨z3, hz3⟩ : ∃ z, x3 ^^^ y = z := ⟨_, rfl⟩
  obtain ⟨z5, hz5⟩ : ∃ z, x5 ^^^ y = z := ⟨_, rfl⟩
  simp only [hz3, hz5]
  clear hz3 hz5 hx3 hx5
  have ba : Blk wa g 25 (rC M vc) := by rw [← hcs2]; exact b6.below hba b6.lt
  have hcK : wa.cell? ⟨g, 0, none⟩ = some (.int .i64 1) := by rw [← HKI.out]; exact ba.cell 0
  have hcP : wa.cell? ⟨g, 73, none⟩ = some (.bool true) := by rw [← HPS.out]; exact (ba.cell (65 + 8)).trans (mC_get hlen.1 hlen.2 8)
  have hcR : wa.cell? ⟨g, 74, none⟩ = some (.bool false) := by rw [← HRE.out]; exact (ba.cell (65 + 9)).trans (mC_get hlen.1 hlen.2 9)
  have hal := HelloMath.alter_form HF.out R1 K1 false false (by rw [HKI.out, HRE.out]; rfl) (by rw [HKI.out, HPS.out]; rfl)
  replace hal : formM (altM M R1 K1) = true ∨ (M.kind = 2 ∧ R1 = special) := hal
  have HAL := Lib.hid hal
  have hals := HelloMath.alter_len (m := M) (r := R1) (k := K1) (by rw [hRl, hlen.1]) (by rw [hKl, hlen.2])
  have HALS := Lib.hid hals
  have HRI := Lib.hid (show RIn wa (altM M R1 K1) (rC (altM M R1 K1) vc) from ⟨⟨hRl, hKl⟩, vc, rfl, hsr.below hba⟩)
  have HBA := Lib.hid (hb16.trans (hba.mono hb16.size))
  have HSA := Lib.hid (show Small (altM M R1 K1) from HSM.out)
  have HBUF := Lib.hid (hB6.below (hba.mono (Nat.le_refl _)))
  have HLEN := Lib.hid hlen
  have HSR := Lib.hid (hsr.below hba)
  clear hal hals hB6 hsr hb16 hlen
  go_upto_region 12 with (fail)
  clear hcP hcR
  refine wp_region_lit ?_
  refine wpList_load_mid rfl 25 (.tmp 7) rfl g7 0 rfl (rC (altM M R1 K1) vc) _ (rangeAt_of_blk b10) Tryd.underlying25 rfl (infoR.trans (by rw [HRI.out.len])) ?_
  try simp only [Act.put, List.setIfInBounds_toArray, List.set_cons_zero, List.set_cons_succ]
  refine wpList_plain rfl (fun K hK0 => ?_)
  have hK := Lib.hid hK0
  clear hK0
  go_simp
  go_at_call 10
  refine (to_e (altM M R1 K1) (rC (altM M R1 K1) vc) _ HRI.out HSA).mono ?_
  rintro e wd ⟨csd, rfl, hmd, hbd⟩
  try go_wp2_with fail
  refine hK.out _ _ ?_
  clear hK K
  try simp only [Act.put, List.setIfInBounds_toArray, List.set_cons_zero, List.set_cons_succ]
  have HBD := Lib.hid (HBA.out.trans (hbd.mono HBA.out.size))
  have hbdk := hbd
  have bd := ba.below hbd ba.lt
  have bd7 := b10.below hbd b10.lt
  clear hbd ba b10 hba hcK
  have hff : formM (altM M R1 K1) = true := by
    rcases HAL.out with h | h
    · exact h
    · exact absurd h.1 (by rw [HKI.out]; decide)
  refine wpList_plain rfl (fun K hK0 => ?_)
  have hK := Lib.hid hK0
  clear hK0
  go_simp
  go_at_call 11
  refine (write_1 (altM M R1 K1) csd _ (HT.out.below HBD.out) hmd hff).mono ?_
  rintro e we ⟨re, rfl, hBe, hbe⟩
  try go_wp2_with fail
  refine hK.out _ _ ?_
  clear hK K
  try simp only [Act.put, List.setIfInBounds_toArray, List.set_cons_zero, List.set_cons_succ]
  have HBE := Lib.hid (HBD.out.trans (hbe.mono HBD.out.size))
  have be := bd.below hbe bd.lt
  obtain ⟨Ae, ce, hre, -⟩ := hBe
  obtain ⟨A7, c7, hr7, -⟩ := HBUF.out
  subst hre
  subst hr7
  obtain ⟨l, hl⟩ : ∃ l, (wholeM M).length = l := ⟨_, rfl⟩
  have hl2 : (wholeM (altM M R1 K1)).length = l := HALS.out.trans hl
  simp only [hl2, hl]
  have HL := Lib.hid hl
  clear hbe bd bd7 hmd hl hl2 HBUF hbdk
  refine wpList_plain rfl (fun K hK => ?_)
  go_simp
  refine hK _ _ ?_
  clear hK K
  try simp only [Act.put, List.setIfInBounds_toArray, List.set_cons_zero, List.set_cons_succ]
  refine wpList_plain rfl (fun K hK => ?_)
  go_simp
  refine hK _ _ ?_
  clear hK K
  try simp only [Act.put, List.setIfInBounds_toArray, List.set_cons_zero, List.set_cons_succ]
  refine wpList_plain rfl (fun K hK => ?_)
  go_simp
  refine hK _ _ ?_
  clear hK K
  try simp only [Act.put, List.setIfInBounds_toArray, List.set_cons_zero, List.set_cons_succ]
  refine wpList_plain rfl (fun K hK => ?_)
  go_simp
  refine hK _ _ ?_
  clear hK K
  try simp only [Act.put, List.setIfInBounds_toArray, List.set_cons_zero, List.set_cons_succ]
  refine wpList_plain rfl (fun K hK => ?_)
  go_simp
  refine hK _ _ ?_
  clear hK K
  try simp only [Act.put, List.setIfInBounds_toArray, List.set_cons_zero, List.set_cons_succ]
  go_upto_region 15 with (fail)
  refine wp_region_lit ?_
  refine wpList_makeMI rfl rfl ?_
  intro gm wf0 hgm hm0 hbf0
  try simp only [Act.put, List.setIfInBounds_toArray, List.set_cons_zero, List.set_cons_succ]
  refine wpList_putMI rfl (.tmp 96) _ _ rfl rfl gm #[] 0 8 6 rfl rfl rfl hm0 rfl ?_
  intro wf1 hm1 hgm1
  try simp only [Act.put, List.setIfInBounds_toArray, List.set_cons_zero, List.set_cons_succ]
  refine wpList_putMI rfl (.tmp 96) _ _ rfl rfl gm (#[].push (ent 8 6 0)) 1 13 15 rfl rfl rfl hm1 rfl ?_
  intro wf2 hm2 hgm2
  try simp only [Act.put, List.setIfInBounds_toArray, List.set_cons_zero, List.set_cons_succ]
  refine wpList_putMI rfl (.tmp 96) _ _ rfl rfl gm ((#[].push (ent 8 6 0)).push (ent 13 15 1)) 2 20 36 rfl rfl rfl hm2 rfl ?_
  intro wf3 hm3 hgm3
  try simp only [Act.put, List.setIfInBounds_toArray, List.set_cons_zero, List.set_cons_succ]
  have hbf := hbf0.trans (grown_below (grown_trans (grown_trans hgm1 hgm2) hgm3) (Nat.le_of_eq hgm.symm) hbf0.size)
  have bf := be.below hbf be.lt
  have HBF := Lib.hid (HBE.out.trans (hbf.mono HBE.out.size))
  clear hbf hbf0 hgm1 hgm2 hgm3 hgm hm0 hm1 hm2 be
  have hcK : wf3.cell? ⟨g, 0, none⟩ = some (.int .i64 1) := by rw [← HKI.out]; exact bf.cell 0
  refine wpList_plain rfl (fun K hK => ?_)
  go_simp
  refine hK _ _ ?_
  clear hK K
  try simp only [Act.put, List.setIfInBounds_toArray, List.set_cons_zero, List.set_cons_succ]
  refine wpList_plain rfl (fun K hK => ?_)
  go_simp
  refine hK _ _ ?_
  clear hK K
  try simp only [Act.put, List.setIfInBounds_toArray, List.set_cons_zero, List.set_cons_succ]
  go_upto_region 16 with (fail)
  refine wp_region_lit ?_
  refine wpList_plain rfl (fun K hK => ?_)
  go_simp
  refine hK _ _ ?_
  clear hK K
  try simp only [Act.put, List.setIfInBounds_toArray, List.set_cons_zero, List.set_cons_succ]
  refine wpList_plain rfl (fun K hK => ?_)
  go_simp
  refine hK _ _ ?_
  clear hK K
  try simp only [Act.put, List.setIfInBounds_toArray, List.set_cons_zero, List.set_cons_succ]
  refine wpList_plain rfl (fun K hK => ?_)
  go_simp
  refine hK _ _ ?_
  clear hK K
  try simp only [Act.put, List.setIfInBounds_toArray, List.set_cons_zero, List.set_cons_succ]
  refine wpList_lookMI rfl (.tmp 99) (.tmp 101) rfl gm (((#[].push (ent 8 6 0)).push (ent 13 15 1)).push (ent 20 36 2)) 3 1 rfl rfl hm3 none rfl ?_
  try simp only [Act.put, List.setIfInBounds_toArray, List.set_cons_zero, List.set_cons_succ]
  refine wpList_plain rfl (fun K hK => ?_)
  go_simp
  refine hK _ _ ?_
  clear hK K
  try simp only [Act.put, List.setIfInBounds_toArray, List.set_cons_zero, List.set_cons_succ]
  refine wpList_plain rfl (fun K hK => ?_)
  go_simp
  refine hK _ _ ?_
  clear hK K
  try simp only [Act.put, List.setIfInBounds_toArray, List.set_cons_zero, List.set_cons_succ]
  refine wpList_plain rfl (fun K hK => ?_)
  go_simp
  refine hK _ _ ?_
  clear hK K
  try simp only [Act.put, List.setIfInBounds_toArray, List.set_cons_zero, List.set_cons_succ]
  refine wpList_plain rfl (fun K hK => ?_)
  go_simp
  refine hK _ _ ?_
  clear hK K
  try simp only [Act.put, List.setIfInBounds_toArray, List.set_cons_zero, List.set_cons_succ]
  refine wpList_plain rfl (fun K hK => ?_)
  go_simp
  refine hK _ _ ?_
  clear hK K
  try simp only [Act.put, List.setIfInBounds_toArray, List.set_cons_zero, List.set_cons_succ]
  go_wp2
  go_ret
  exact ⟨rfl, HBF.out⟩
set_option maxRecDepth 100000 in
set_option maxHeartbeats 1000000 in
theorem sizes_2 (m : Msg) (cs : List Value) (y : UInt8) (w : World) (hT : TabH w) (h : RIn w m cs) (hf : formM (tameM m) = true) (HKI : Hid ((tameM m).kind = 2)) (HPS : Hid ((tameM m).psk = false)) (HRE : Hid ((tameM m).retry = false)) : Calls Tryd.prog 8 #[.agg cs.toArray, .int .u8 (y.toNat : Int)] w fun e w' => e = .returned (.bool true) ∧ Below w.heap.size w w' := by
  have HT := Lib.hid hT
  have HF := Lib.hid hf
  clear hT hf
  go_enter Tryd.func8, Tryd.ntmps8
  go_upto_region 0 with (fail)
  refine wp_region_lit ?_
  refine wpList_plain rfl (fun K hK => ?_)
  go_simp
  refine hK _ _ ?_
  clear hK K
  have b1 := Blk.new w 25 cs
  have hb1 : Below w.heap.size w (w.alloc (.cells cs.toArray 25)) := (Below.refl _ _).alloc (Nat.le_refl _) _
  have h1 := h.below hb1
  obtain ⟨g, hg1⟩ : ∃ g, g = w.heap.size := ⟨_, rfl⟩
  rw [← hg1] at b1
  simp only [← hg1]
  have HG := Lib.hid (Nat.le_of_eq hg1.symm)
  clear h hg1
  generalize w.alloc (.cells cs.toArray 25) = w1 at *
  try simp only [Act.put, List.setIfInBounds_toArray, List.set_cons_zero, List.set_cons_succ]
  go_upto_region 1 with (fail)
  refine wp_region_lit ?_
  refine wpList_load_mid rfl 25 (.tmp 2) rfl g 0 rfl cs _ (rangeAt_of_blk b1) Tryd.underlying25 rfl (infoR.trans (by rw [h1.len])) ?_
  try simp only [Act.put, List.setIfInBounds_toArray, List.set_cons_zero, List.set_cons_succ]
  refine wpList_plain rfl (fun K hK0 => ?_)
  have hK := Lib.hid hK0
  clear hK0
  go_simp
  go_at_call 9
  refine (tame_e m cs _ h1).mono ?_
  rintro e w2 ⟨cs2, rfl, hm2, hb2⟩
  try go_wp2_with fail
  refine hK.out _ _ ?_
  clear hK K
  try simp only [Act.put, List.setIfInBounds_toArray, List.set_cons_zero, List.set_cons_succ]
  have b2 := b1.below hb2 b1.lt
  obtain ⟨M, hM⟩ : ∃ M, tameM m = M := ⟨_, rfl⟩
  have HSM := Lib.hid (show Small M by rw [← hM]; exact small_tame m)
  rw [hM] at hm2 HF HKI HPS HRE
  refine wpList_store_blk rfl 25 (.tmp 2) (.tmp 14) rfl rfl g cs2 rfl rfl _ _ b2 (infoR.trans (by rw [hm2.rin.len])) (by rw [hm2.rin.len, h1.len]) hm2.rin.one ?_
  intro w3 b3 hg3
  try simp only [Act.put, List.setIfInBounds_toArray, List.set_cons_zero, List.set_cons_succ]
  replace hm2 := (hm2.kept hg3 b1.lt).rin
  have hb13 := hb1.trans ((hb2.mono hb1.size).trans (grown_below hg3 HG.out (Nat.le_trans hb1.size hb2.size)))
  clear hb2 hb1 hg3 b1 b2 h1 hM
  go_upto_region 2 with (fail)
  refine wp_region_lit ?_
  refine wpList_load_mid rfl 25 (.tmp 2) rfl g 0 rfl cs2 _ (rangeAt_of_blk b3) Tryd.underlying25 rfl (infoR.trans (by rw [hm2.len])) ?_
  try simp only [Act.put, List.setIfInBounds_toArray, List.set_cons_zero, List.set_cons_succ]
  refine wpList_plain rfl (fun K hK0 => ?_)
  have hK := Lib.hid hK0
  clear hK0
  go_simp
  go_at_call 10
  refine (to_e M cs2 _ hm2 HSM).mono ?_
  rintro e w4 ⟨cs4, rfl, hm4, hb4⟩
  try go_wp2_with fail
  refine hK.out _ _ ?_
  clear hK K
  try simp only [Act.put, List.setIfInBounds_toArray, List.set_cons_zero, List.set_cons_succ]
  have b4 := b3.below hb4 b3.lt
  replace hm2 := hm2.below hb4
  have hb14 := hb13.trans (hb4.mono hb13.size)
  clear hb4 hb13 b3
  refine wpList_plain rfl (fun K hK0 => ?_)
  have hK := Lib.hid hK0
  clear hK0
  go_simp
  go_at_call 11
  refine (write_1 M cs4 _ (HT.out.below hb14) hm4 HF.out).mono ?_
  rintro e w5 ⟨r, rfl, hB5, hb5⟩
  try go_wp2_with fail
  refine hK.out _ _ ?_
  clear hK K
  try simp only [Act.put, List.setIfInBounds_toArray, List.set_cons_zero, List.set_cons_succ]
  have b5 := b4.below hb5 b4.lt
  replace hm2 := hm2.below hb5
  have hb15 := hb14.trans (hb5.mono hb14.size)
  have HG4 := Lib.hid (show g < w4.heap.size from b4.lt)
  clear hb5 b4 hm4 hb14
  refine wpList_plain rfl (fun K hK => ?_)
  go_simp
  refine hK _ _ ?_
  clear hK K
  try simp only [Act.put, List.setIfInBounds_toArray, List.set_cons_zero, List.set_cons_succ]
  refine wpList_plain rfl (fun K hK => ?_)
  go_simp
  refine hK _ _ ?_
  clear hK K
  try simp only [Act.put, List.setIfInBounds_toArray, List.set_cons_zero, List.set_cons_succ]
  refine wpList_plain rfl (fun K hK => ?_)
  go_simp
  refine hK _ _ ?_
  clear hK K
  try simp only [Act.put, List.setIfInBounds_toArray, List.set_cons_zero, List.set_cons_succ]
  refine wpList_plain rfl (fun K hK => ?_)
  go_simp
  refine hK _ _ ?_
  clear hK K
  try simp only [Act.put, List.setIfInBounds_toArray, List.set_cons_zero, List.set_cons_succ]
  refine wpList_plain rfl (fun K hK => ?_)
  go_simp
  refine hK _ _ ?_
  clear hK K
  try simp only [Act.put, List.setIfInBounds_toArray, List.set_cons_zero, List.set_cons_succ]
  go_upto_region 5 with (go_at_call 13; refine (hellos_e _ (HT.out.below hb15)).mono ?_; rintro e w6 ⟨rfl, hb6⟩)
  have hb16 := hb15.trans (hb6.mono hb15.size)
  have b6 := b5.below hb6 b5.lt
  have hm6 := hm2.below hb6
  have hB6 := hB5.below hb6
  have HM6 := Lib.hid hm6
  obtain ⟨hlen, vc, hcs2, hsr⟩ := hm6
  clear b5 hm2 hB5 hb15 hb6
  refine wp_region_lit ?_
  refine wpList_load_mid rfl 25 (.tmp 2) rfl g 0 rfl cs2 _ (rangeAt_of_blk b6) Tryd.underlying25 rfl (infoR.trans (by rw [hcs2]; exact congrArg some (mC_length hlen.1 hlen.2).symm)) ?_
  try simp only [Act.put, List.setIfInBounds_toArray, List.set_cons_zero, List.set_cons_succ]
  refine wpList_new_blk rfl 25 rfl _ zeroR ?_
  intro g7 w7 hg7 b7 hb7
  try simp only [Act.put, List.setIfInBounds_toArray, List.set_cons_zero, List.set_cons_succ]
  have HG7 := Lib.hid (show w6.heap.size ≤ g7 by rw [hg7]; exact Nat.le_refl _)
  refine wpList_store_blk rfl 25 (.tmp 7) (.tmp 28) rfl rfl g7 cs2 rfl rfl _ _ b7 (infoR.trans (by rw [hcs2]; exact congrArg some (mC_length hlen.1 hlen.2).symm)) (by rw [hcs2]; exact (rC_zero.trans (mC_length hlen.1 hlen.2).symm)) (by obtain ⟨Av, cv, rfl, _⟩ := hsr; rw [hcs2]; exact one_rC) ?_
  intro w8 b8 hg8
  try simp only [Act.put, List.setIfInBounds_toArray, List.set_cons_zero, List.set_cons_succ]
  have hb68 := hb7.trans (grown_below hg8 HG7.out hb7.size)
  clear hb7 hg8 hg7 b7
  rw [hcs2] at b8
  obtain ⟨x3, hx3⟩ : ∃ x : UInt8, M.rnd.getD 3 0 = x := ⟨_, rfl⟩
  obtain ⟨x5, hx5⟩ : ∃ x : UInt8, M.mark.getD 5 0 = x := ⟨_, rfl⟩
  have hc4 : w8.cell? ⟨g7, 4, none⟩ = some (.int .u8 (x3.toNat : Int)) := by rw [b8.cell, rC, mC_rnd hlen.1 3 (by decide), getD_map8 _ 3 (by rw [hlen.1]; decide), hx3]
  have hfz := b8.frozen 4
  have hxo := xor_u8 x3 y
  go_upto_region 7 with (fail)
  rw [← UInt8.toNat_xor]
  clear hc4 hfz hxo
  have b9 := b8.set_ 4 (B8 (x3 ^^^ y))
  rw [show (4 : Nat) = 1 + 3 from rfl, rC_setR 3 (by decide) hlen.1] at b9
  obtain ⟨R1, hR1⟩ : ∃ R, M.rnd.set 3 (x3 ^^^ y) = R := ⟨_, rfl⟩
  rw [hR1] at b9
  have hRl : R1.length = 32 := by rw [← hR1, List.length_set]; exact hlen.1
  have hb69 := grown_cellB hb68 hb68.size g7 4 (B8 (x3 ^^^ y)) HG7.out
  replace b9 : Blk (w8.setCell ⟨g7, 4, none⟩ (.int .u8 ((x3 ^^^ y).toNat : Int))) g7 25 (rC { M with rnd := R1 } vc) := b9
  replace hb69 : Below w6.heap.size w6 (w8.setCell ⟨g7, 4, none⟩ (.int .u8 ((x3 ^^^ y).toNat : Int))) := hb69
  generalize w8.setCell ⟨g7, 4, none⟩ (.int .u8 ((x3 ^^^ y).toNat : Int)) = w9 at *
  clear b8 hb68
  have hc5 : w9.cell? ⟨g7, 38, none⟩ = some (.int .u8 (x5.toNat : Int)) := by rw [b9.cell, rC, mC_mark (m := { M with rnd := R1 }) hRl hlen.2 5 (by decide), getD_map8 _ 5 (by rw [hlen.2]; decide), hx5]
  have hfz := b9.frozen 38
  have hxo := xor_u8 x5 y
  go_upto_region 8 with (fail)
  rw [← UInt8.toNat_xor]
  clear hc5 hfz hxo
  have b10 := b9.set_ 38 (B8 (x5 ^^^ y))
  rw [show (38 : Nat) = 33 + 5 from rfl, rC_setK (m := { M with rnd := R1 }) 5 (by decide) hRl hlen.2] at b10
  replace b10 : Blk (w9.setCell ⟨g7, 38, none⟩ (.int .u8 ((x5 ^^^ y).toNat : Int))) g7 25 (rC (altM M R1 (M.mark.set 5 (x5 ^^^ y))) vc) := b10
  obtain ⟨K1, hK1⟩ : ∃ R, M.mark.set 5 (x5 ^^^ y) = R := ⟨_, rfl⟩
  rw [hK1] at b10
  have hKl : K1.length = 32 := by rw [← hK1, List.length_set]; exact hlen.2
  have hba := grown_cellB hb69 hb69.size g7 38 (B8 (x5 ^^^ y)) HG7.out
  replace hba : Below w6.heap.size w6 (w9.setCell ⟨g7, 38, none⟩ (.int .u8 ((x5 ^^^ y).toNat : Int))) := hba
  generalize w9.setCell ⟨g7, 38, none⟩ (.int .u8 ((x5 ^^^ y).toNat : Int)) = wa at *
  clear b9 hb69
  obtain ⟨z3, hz3⟩ : ∃ z, x3 ^^^ y = z := ⟨_, rfl⟩
  obtain ⟨z5, hz5⟩ : ∃ z, x5 ^^^ y = z := ⟨_, rfl⟩
  simp only [hz3, hz5]
  clear hz3 hz5 hx3 hx5
  have ba : Blk wa g 25 (rC M vc) := by rw [← hcs2]; exact b6.below hba b6.lt
  have hcK : wa.cell? ⟨g, 0, none⟩ = some (.int .i64 2) := by rw [← HKI.out]; exact ba.cell 0
  have hcP : wa.cell? ⟨g, 73, none⟩ = some (.bool false) := by rw [← HPS.out]; exact (ba.cell (65 + 8)).trans (mC_get hlen.1 hlen.2 8)
  have hcR : wa.cell? ⟨g, 74, none⟩ = some (.bool false) := by rw [← HRE.out]; exact (ba.cell (65 + 9)).trans (mC_get hlen.1 hlen.2 9)
  go_upto_region 11 with (fail)
  refine wp_region_lit ?_
  refine wpList_plain rfl (fun K hK => ?_)
  go_simp
  refine hK _ _ ?_
  clear hK K
  try simp only [Act.put, List.setIfInBounds_toArray, List.set_cons_zero, List.set_cons_succ]
  refine wpList_load_mid rfl 22 (.tmp 76) rfl g 33 rfl (M.mark.map B8) _ (RAt.mark (m := M) ⟨rC M vc, ba, hlen, vc, rfl, hsr.below hba⟩) Tryd.underlying22 rfl (info40.trans (by rw [List.length_map, hlen.2])) ?_
  try simp only [Act.put, List.setIfInBounds_toArray, List.set_cons_zero, List.set_cons_succ]
  refine wpList_plain rfl (fun K hK => ?_)
  go_simp
  refine hK _ _ ?_
  clear hK K
  try simp only [Act.put, List.setIfInBounds_toArray, List.set_cons_zero, List.set_cons_succ]
  refine wpList_store_part rfl 22 (.tmp 78) (.tmp 77) rfl rfl g7 33 (M.mark.map B8) rfl rfl _ _ b10 (info40.trans (by rw [List.length_map, hlen.2])) (by rw [List.length_map, hlen.2, len_rC (m := (altM M R1 K1)) ⟨hRl, hKl⟩]; decide) (fun v hv => by obtain ⟨x, _, rfl⟩ := List.mem_map.1 hv; rfl) ?_
  intro wc b12 hgs
  rw [rC_splK (m := (altM M R1 K1)) ⟨hRl, hKl⟩ hlen.2] at b12
  try simp only [Act.put, List.setIfInBounds_toArray, List.set_cons_zero, List.set_cons_succ]
  replace b12 : Blk wc g7 25 (rC (altM M R1 M.mark) vc) := b12
  have hbb := below_new hba hgs HG7.out hba.size
  have ba' : Blk wc g 25 (rC M vc) := by rw [← hcs2]; exact b6.below hbb b6.lt
  clear hba hgs ba b10 hcK hcP hcR
  have hba := hbb
  have ba := ba'
  clear hbb ba'
  have hcK : wc.cell? ⟨g, 0, none⟩ = some (.int .i64 2) := by rw [← HKI.out]; exact ba.cell 0
  have hcP : wc.cell? ⟨g, 73, none⟩ = some (.bool false) := by rw [← HPS.out]; exact (ba.cell (65 + 8)).trans (mC_get hlen.1 hlen.2 8)
  have hcR : wc.cell? ⟨g, 74, none⟩ = some (.bool false) := by rw [← HRE.out]; exact (ba.cell (65 + 9)).trans (mC_get hlen.1 hlen.2 9)
  have hal := HelloMath.alter_form HF.out R1 K1 false true (by rw [HKI.out, HRE.out]; rfl) (by rw [HKI.out, HPS.out]; rfl)
  replace hal : formM (altM M R1 M.mark) = true ∨ (M.kind = 2 ∧ R1 = special) := hal
  have HAL := Lib.hid hal
  have hals := HelloMath.alter_len (m := M) (r := R1) (k := M.mark) (by rw [hRl, hlen.1]) rfl
  have HALS := Lib.hid hals
  have HRI := Lib.hid (show RIn wc (altM M R1 M.mark) (rC (altM M R1 M.mark) vc) from ⟨⟨hRl, hlen.2⟩, vc, rfl, hsr.below hba⟩)
  have HBA := Lib.hid (hb16.trans (hba.mono hb16.size))
  have HSA := Lib.hid (show Small (altM M R1 M.mark) from HSM.out)
  have HBUF := Lib.hid (hB6.below (hba.mono (Nat.le_refl _)))
  have HLEN := Lib.hid hlen
  have HSR := Lib.hid (hsr.below hba)
  clear hal hals hB6 hsr hb16 hlen
  go_upto_region 12 with (fail)
  clear hcP hcR
  refine wp_region_lit ?_
  refine wpList_load_mid rfl 25 (.tmp 7) rfl g7 0 rfl (rC (altM M R1 M.mark) vc) _ (rangeAt_of_blk b12) Tryd.underlying25 rfl (infoR.trans (by rw [HRI.out.len])) ?_
  try simp only [Act.put, List.setIfInBounds_toArray, List.set_cons_zero, List.set_cons_succ]
  refine wpList_plain rfl (fun K hK0 => ?_)
  have hK := Lib.hid hK0
  clear hK0
  go_simp
  go_at_call 10
  refine (to_e (altM M R1 M.mark) (rC (altM M R1 M.mark) vc) _ HRI.out HSA).mono ?_
  rintro e wd ⟨csd, rfl, hmd, hbd⟩
  try go_wp2_with fail
  refine hK.out _ _ ?_
  clear hK K
  try simp only [Act.put, List.setIfInBounds_toArray, List.set_cons_zero, List.set_cons_succ]
  have HBD := Lib.hid (HBA.out.trans (hbd.mono HBA.out.size))
  have hbdk := hbd
  have bd := ba.below hbd ba.lt
  have bd7 := b12.below hbd b12.lt
  clear hbd ba b12 hba hcK
  cases hff : formM (altM M R1 M.mark) with
  | false =>
    refine wpList_plain rfl (fun K hK0 => ?_)
    have hK := Lib.hid hK0
    clear hK0
    go_simp
    go_at_call 11
    refine (write_0 (altM M R1 M.mark) csd _ (HT.out.below HBD.out) hmd hff).mono ?_
    rintro e we ⟨rfl, hbe⟩
    try go_wp2_with fail
    refine hK.out _ _ ?_
    clear hK K
    try simp only [Act.put, List.setIfInBounds_toArray, List.set_cons_zero, List.set_cons_succ]
    have hbek := hbe
    have HBE := Lib.hid (HBD.out.trans (hbe.mono HBD.out.size))
    have be := bd.below hbe bd.lt
    have be7 := bd7.below hbe bd7.lt
    have hRs : R1 = special := by
      rcases HAL.out with h | h
      · rw [hff] at h; cases h
      · exact h.2
    have HRS := Lib.hid hRs
    clear hbe bd bd7 hmd hRs
    have hcK : we.cell? ⟨g, 0, none⟩ = some (.int .i64 2) := by rw [← HKI.out]; exact be.cell 0
    have be8 := Lib.hid (show RIn we (altM M R1 M.mark) (rC (altM M R1 M.mark) vc) from (HRI.out.below hbdk).below hbek)
    have HL7 := Lib.hid (fun (V : World) (hV : Below we.heap.size we V) => RAt.rnd (m := (altM M R1 M.mark)) ⟨rC (altM M R1 M.mark) vc, be7.below hV be7.lt, be8.out.below hV⟩)
    obtain ⟨A7, c7, hr7, -⟩ := HBUF.out
    subst hr7
    have HCK := Lib.hid (fun (V : World) (hV : Below we.heap.size we V) => (show V.cell? ⟨g, 0, none⟩ = some (.int .i64 2) from ((be.below hV be.lt).cell 0).trans (congrArg (fun x : Int => some (Value.int .i64 x)) HKI.out)))
    clear be7 be8 hbdk hbek HBUF hcK
    refine wpList_plain rfl (fun K hK => ?_)
    go_simp
    refine hK _ _ ?_
    clear hK K
    try simp only [Act.put, List.setIfInBounds_toArray, List.set_cons_zero, List.set_cons_succ]
    refine wpList_plain rfl (fun K hK => ?_)
    go_simp
    refine hK _ _ ?_
    clear hK K
    try simp only [Act.put, List.setIfInBounds_toArray, List.set_cons_zero, List.set_cons_succ]
    refine wpList_plain rfl (fun K hK => ?_)
    go_simp
    refine hK _ _ ?_
    clear hK K
    try simp only [Act.put, List.setIfInBounds_toArray, List.set_cons_zero, List.set_cons_succ]
    refine wpList_plain rfl (fun K hK => ?_)
    go_simp
    refine hK _ _ ?_
    clear hK K
    try simp only [Act.put, List.setIfInBounds_toArray, List.set_cons_zero, List.set_cons_succ]
    refine wpList_plain rfl (fun K hK => ?_)
    go_simp
    refine hK _ _ ?_
    clear hK K
    try simp only [Act.put, List.setIfInBounds_toArray, List.set_cons_zero, List.set_cons_succ]
    go_upto_region 14 with (fail)
    have hd0 := HBE.out
    refine wp_region_noPanic ?_
    refine wp_region_held_drew (S := fun V => Below we.heap.size we V) (by kernel_rfl) (by exact below_drewN (Below.refl _ _) 1) (fun hHeld => ?_)
    refine wpAnyH_take (i := 0) (oi := ⟨_, _, _, _, _, _⟩) (v := ?_) rfl (by kernel_rfl) (by kernel_rfl) (by kernel_rfl) (fun _ _ _ h => h) (Or.inl ⟨by rfl, ?_⟩) hHeld ?_
    rotate_left 1
    · (intro W hSw; (try dsimp only at hSw); go_simp; try with_reducible rfl)
    try simp only [Act.put, List.setIfInBounds_toArray, List.set_cons_zero, List.set_cons_succ]
    refine wpAnyH_take (i := 1) (oi := ⟨_, _, _, _, _, _⟩) (v := ?_) rfl (by kernel_rfl) (by kernel_rfl) (by kernel_rfl) (fun _ _ _ h => h) (Or.inl ⟨by rfl, ?_⟩) hHeld ?_
    rotate_left 1
    · (intro W hSw; (try dsimp only at hSw); have hcc := HCK.out W hSw; go_simp; try with_reducible rfl)
    try simp only [Act.put, List.setIfInBounds_toArray, List.set_cons_zero, List.set_cons_succ]
    refine wpAnyH_take (i := 2) (oi := ⟨_, _, _, _, _, _⟩) (v := ?_) rfl (by kernel_rfl) (by kernel_rfl) (by kernel_rfl) (fun _ _ _ h => h) (Or.inl ⟨by rfl, ?_⟩) hHeld ?_
    rotate_left 1
    · (intro W hSw; (try dsimp only at hSw); go_simp; try with_reducible rfl)
    try simp only [Act.put, List.setIfInBounds_toArray, List.set_cons_zero, List.set_cons_succ]
    refine wpAnyH_take (i := 3) (oi := ⟨_, _, _, _, _, _⟩) (v := ?_) rfl (by kernel_rfl) (by kernel_rfl) (by kernel_rfl) (fun _ _ _ h => h) (Or.inl ⟨by rfl, ?_⟩) hHeld ?_
    rotate_left 1
    · (intro W hSw; (try dsimp only at hSw); go_simp; try with_reducible rfl)
    try simp only [Act.put, List.setIfInBounds_toArray, List.set_cons_zero, List.set_cons_succ]
    refine wpAnyH_take (i := 4) (oi := ⟨_, _, _, _, _, _⟩) (v := ?_) rfl (by kernel_rfl) (by kernel_rfl) (by kernel_rfl) (fun _ _ _ h => h) (Or.inl ⟨by rfl, ?_⟩) hHeld ?_
    rotate_left 1
    · (intro W hSw; (try dsimp only at hSw); go_simp; try with_reducible rfl)
    try simp only [Act.put, List.setIfInBounds_toArray, List.set_cons_zero, List.set_cons_succ]
    refine wpAnyH_take (i := 5) (oi := ⟨_, _, _, _, _, _⟩) (v := ?_) rfl (by kernel_rfl) (by kernel_rfl) (by kernel_rfl) (fun _ _ _ h => h) (Or.inl ⟨by rfl, ?_⟩) hHeld ?_
    rotate_left 1
    · (intro W hSw; (try dsimp only at hSw); refine exec_load_mid 22 (.tmp 91) ?_ g7 1 ?_ ((altM M R1 M.mark).rnd.map B8) _ (HL7.out W hSw) Tryd.underlying22 rfl (info40.trans (by rw [List.length_map]; exact congrArg some hRl.symm)) <;> rfl)
    try simp only [Act.put, List.setIfInBounds_toArray, List.set_cons_zero, List.set_cons_succ]
    refine wpAnyH_ready (rs := [6]) (by kernel_rfl) (by simp) ?_
    refine AllReadyH.cons (o := ⟨_, _, _, _, _, _⟩) rfl (fun K hK => ?_) AllReadyH.nil
    go_simp
    go_at_call 19
    refine (special_e _).mono ?_
    rintro e wf ⟨rfl, hbn⟩
    try go_wp2_with fail
    refine hK.out _ _ (hHeld.trans (hbn.mono hHeld.size)) (fun hHeld => ?_)
    clear hK K hbn
    try simp only [Act.put, List.setIfInBounds_toArray, List.set_cons_zero, List.set_cons_succ]
    refine wpAnyH_ready (rs := [7]) (by kernel_rfl) (by simp) ?_
    refine AllReadyH.cons (o := ⟨_, _, _, _, _, _⟩) rfl (fun K hK => ?_) AllReadyH.nil
    refine wp_eqlA rfl rfl rfl guardB32 (EqB (Lib.hid hRl) (Lib.hid special_len) (Lib.hid (show (R1 == special) = true by rw [HRS.out]; exact BEq.refl _)) _) ?_
    refine hK.out _ _ hHeld (fun hHeld => ?_)
    clear hK K
    try simp only [Act.put, List.setIfInBounds_toArray, List.set_cons_zero, List.set_cons_succ]
    refine wpAnyH_take (i := 8) (oi := ⟨_, _, _, _, _, _⟩) (v := ?_) rfl (by kernel_rfl) (by kernel_rfl) (by kernel_rfl) (fun _ _ _ h => h) (Or.inl ⟨by rfl, ?_⟩) hHeld ?_
    rotate_left 1
    · (intro W hSw; (try dsimp only at hSw); go_simp; try with_reducible rfl)
    try simp only [Act.put, List.setIfInBounds_toArray, List.set_cons_zero, List.set_cons_succ]
    refine wpAnyH_take (i := 9) (oi := ⟨_, _, _, _, _, _⟩) (v := ?_) rfl (by kernel_rfl) (by kernel_rfl) (by kernel_rfl) (fun _ _ _ h => h) (Or.inl ⟨by rfl, ?_⟩) hHeld ?_
    rotate_left 1
    · (intro W hSw; (try dsimp only at hSw); go_simp; try with_reducible rfl)
    try simp only [Act.put, List.setIfInBounds_toArray, List.set_cons_zero, List.set_cons_succ]
    refine wpAnyH_done (by kernel_rfl) ?_ _
    refine NoPanic.normal ?_
    go_wp2
    go_ret
    exact ⟨rfl, HBE.out.trans (hHeld.mono HBE.out.size)⟩
  | true =>
    refine wpList_plain rfl (fun K hK0 => ?_)
    have hK := Lib.hid hK0
    clear hK0
    go_simp
    go_at_call 11
    refine (write_1 (altM M R1 M.mark) csd _ (HT.out.below HBD.out) hmd hff).mono ?_
    rintro e we ⟨re, rfl, hBe, hbe⟩
    try go_wp2_with fail
    refine hK.out _ _ ?_
    clear hK K
    try simp only [Act.put, List.setIfInBounds_toArray, List.set_cons_zero, List.set_cons_succ]
    have HBE := Lib.hid (HBD.out.trans (hbe.mono HBD.out.size))
    have be := bd.below hbe bd.lt
    obtain ⟨Ae, ce, hre, -⟩ := hBe
    obtain ⟨A7, c7, hr7, -⟩ := HBUF.out
    subst hre
    subst hr7
    obtain ⟨l, hl⟩ : ∃ l, (wholeM M).length = l := ⟨_, rfl⟩
    have hl2 : (wholeM (altM M R1 M.mark)).length = l := HALS.out.trans hl
    simp only [hl2, hl]
    have HL := Lib.hid hl
    clear hbe bd bd7 hmd hl hl2 HBUF hbdk
    refine wpList_plain rfl (fun K hK => ?_)
    go_simp
    refine hK _ _ ?_
    clear hK K
    try simp only [Act.put, List.setIfInBounds_toArray, List.set_cons_zero, List.set_cons_succ]
    refine wpList_plain rfl (fun K hK => ?_)
    go_simp
    refine hK _ _ ?_
    clear hK K
    try simp only [Act.put, List.setIfInBounds_toArray, List.set_cons_zero, List.set_cons_succ]
    refine wpList_plain rfl (fun K hK => ?_)
    go_simp
    refine hK _ _ ?_
    clear hK K
    try simp only [Act.put, List.setIfInBounds_toArray, List.set_cons_zero, List.set_cons_succ]
    refine wpList_plain rfl (fun K hK => ?_)
    go_simp
    refine hK _ _ ?_
    clear hK K
    try simp only [Act.put, List.setIfInBounds_toArray, List.set_cons_zero, List.set_cons_succ]
    refine wpList_plain rfl (fun K hK => ?_)
    go_simp
    refine hK _ _ ?_
    clear hK K
    try simp only [Act.put, List.setIfInBounds_toArray, List.set_cons_zero, List.set_cons_succ]
    go_upto_region 15 with (fail)
    refine wp_region_lit ?_
    refine wpList_makeMI rfl rfl ?_
    intro gm wf0 hgm hm0 hbf0
    try simp only [Act.put, List.setIfInBounds_toArray, List.set_cons_zero, List.set_cons_succ]
    refine wpList_putMI rfl (.tmp 96) _ _ rfl rfl gm #[] 0 8 6 rfl rfl rfl hm0 rfl ?_
    intro wf1 hm1 hgm1
    try simp only [Act.put, List.setIfInBounds_toArray, List.set_cons_zero, List.set_cons_succ]
    refine wpList_putMI rfl (.tmp 96) _ _ rfl rfl gm (#[].push (ent 8 6 0)) 1 13 15 rfl rfl rfl hm1 rfl ?_
    intro wf2 hm2 hgm2
    try simp only [Act.put, List.setIfInBounds_toArray, List.set_cons_zero, List.set_cons_succ]
    refine wpList_putMI rfl (.tmp 96) _ _ rfl rfl gm ((#[].push (ent 8 6 0)).push (ent 13 15 1)) 2 20 36 rfl rfl rfl hm2 rfl ?_
    intro wf3 hm3 hgm3
    try simp only [Act.put, List.setIfInBounds_toArray, List.set_cons_zero, List.set_cons_succ]
    have hbf := hbf0.trans (grown_below (grown_trans (grown_trans hgm1 hgm2) hgm3) (Nat.le_of_eq hgm.symm) hbf0.size)
    have bf := be.below hbf be.lt
    have HBF := Lib.hid (HBE.out.trans (hbf.mono HBE.out.size))
    clear hbf hbf0 hgm1 hgm2 hgm3 hgm hm0 hm1 hm2 be
    have hcK : wf3.cell? ⟨g, 0, none⟩ = some (.int .i64 2) := by rw [← HKI.out]; exact bf.cell 0
    refine wpList_plain rfl (fun K hK => ?_)
    go_simp
    refine hK _ _ ?_
    clear hK K
    try simp only [Act.put, List.setIfInBounds_toArray, List.set_cons_zero, List.set_cons_succ]
    refine wpList_plain rfl (fun K hK => ?_)
    go_simp
    refine hK _ _ ?_
    clear hK K
    try simp only [Act.put, List.setIfInBounds_toArray, List.set_cons_zero, List.set_cons_succ]
    go_upto_region 16 with (fail)
    refine wp_region_lit ?_
    refine wpList_plain rfl (fun K hK => ?_)
    go_simp
    refine hK _ _ ?_
    clear hK K
    try simp only [Act.put, List.setIfInBounds_toArray, List.set_cons_zero, List.set_cons_succ]
    refine wpList_plain rfl (fun K hK => ?_)
    go_simp
    refine hK _ _ ?_
    clear hK K
    try simp only [Act.put, List.setIfInBounds_toArray, List.set_cons_zero, List.set_cons_succ]
    refine wpList_plain rfl (fun K hK => ?_)
    go_simp
    refine hK _ _ ?_
    clear hK K
    try simp only [Act.put, List.setIfInBounds_toArray, List.set_cons_zero, List.set_cons_succ]
    refine wpList_lookMI rfl (.tmp 99) (.tmp 101) rfl gm (((#[].push (ent 8 6 0)).push (ent 13 15 1)).push (ent 20 36 2)) 3 2 rfl rfl hm3 none rfl ?_
    try simp only [Act.put, List.setIfInBounds_toArray, List.set_cons_zero, List.set_cons_succ]
    refine wpList_plain rfl (fun K hK => ?_)
    go_simp
    refine hK _ _ ?_
    clear hK K
    try simp only [Act.put, List.setIfInBounds_toArray, List.set_cons_zero, List.set_cons_succ]
    refine wpList_plain rfl (fun K hK => ?_)
    go_simp
    refine hK _ _ ?_
    clear hK K
    try simp only [Act.put, List.setIfInBounds_toArray, List.set_cons_zero, List.set_cons_succ]
    refine wpList_plain rfl (fun K hK => ?_)
    go_simp
    refine hK _ _ ?_
    clear hK K
    try simp only [Act.put, List.setIfInBounds_toArray, List.set_cons_zero, List.set_cons_succ]
    refine wpList_plain rfl (fun K hK => ?_)
    go_simp
    refine hK _ _ ?_
    clear hK K
    try simp only [Act.put, List.setIfInBounds_toArray, List.set_cons_zero, List.set_cons_succ]
    refine wpList_plain rfl (fun K hK => ?_)
    go_simp
    refine hK _ _ ?_
    clear hK K
    try simp only [Act.put, List.setIfInBounds_toArray, List.set_cons_zero, List.set_cons_succ]
    go_wp2
    go_ret
    exact ⟨rfl, HBF.out⟩
set_option maxRecDepth 100000 in
set_option maxHeartbeats 1000000 in
theorem sizes_2p (m : Msg) (cs : List Value) (y : UInt8) (w : World) (hT : TabH w) (h : RIn w m cs) (hf : formM (tameM m) = true) (HKI : Hid ((tameM m).kind = 2)) (HPS : Hid ((tameM m).psk = true)) (HRE : Hid ((tameM m).retry = false)) : Calls Tryd.prog 8 #[.agg cs.toArray, .int .u8 (y.toNat : Int)] w fun e w' => e = .returned (.bool true) ∧ Below w.heap.size w w' := by
  have HT := Lib.hid hT
  have HF := Lib.hid hf
  clear hT hf
  go_enter Tryd.func8, Tryd.ntmps8
  go_upto_region 0 with (fail)
  refine wp_region_lit ?_
  refine wpList_plain rfl (fun K hK => ?_)
  go_simp
  refine hK _ _ ?_
  clear hK K
  have b1 := Blk.new w 25 cs
  have hb1 : Below w.heap.size w (w.alloc (.cells cs.toArray 25)) := (Below.refl _ _).alloc (Nat.le_refl _) _
  have h1 := h.below hb1
  obtain ⟨g, hg1⟩ : ∃ g, g = w.heap.size := ⟨_, rfl⟩
  rw [← hg1] at b1
  simp only [← hg1]
  have HG := Lib.hid (Nat.le_of_eq hg1.symm)
  clear h hg1
  generalize w.alloc (.cells cs.toArray 25) = w1 at *
  try simp only [Act.put, List.setIfInBounds_toArray, List.set_cons_zero, List.set_cons_succ]
  go_upto_region 1 with (fail)
  refine wp_region_lit ?_
  refine wpList_load_mid rfl 25 (.tmp 2) rfl g 0 rfl cs _ (rangeAt_of_blk b1) Tryd.underlying25 rfl (infoR.trans (by rw [h1.len])) ?_
  try simp only [Act.put, List.setIfInBounds_toArray, List.set_cons_zero, List.set_cons_succ]
  refine wpList_plain rfl (fun K hK0 => ?_)
  have hK := Lib.hid hK0
  clear hK0
  go_simp
  go_at_call 9
  refine (tame_e m cs _ h1).mono ?_
  rintro e w2 ⟨cs2, rfl, hm2, hb2⟩
  try go_wp2_with fail
  refine hK.out _ _ ?_
  clear hK K
  try simp only [Act.put, List.setIfInBounds_toArray, List.set_cons_zero, List.set_cons_succ]
  have b2 := b1.below hb2 b1.lt
  obtain ⟨M, hM⟩ : ∃ M, tameM m = M := ⟨_, rfl⟩
  have HSM := Lib.hid (show Small M by rw [← hM]; exact small_tame m)
  rw [hM] at hm2 HF HKI HPS HRE
  refine wpList_store_blk rfl 25 (.tmp 2) (.tmp 14) rfl rfl g cs2 rfl rfl _ _ b2 (infoR.trans (by rw [hm2.rin.len])) (by rw [hm2.rin.len, h1.len]) hm2.rin.one ?_
  intro w3 b3 hg3
  try simp only [Act.put, List.setIfInBounds_toArray, List.set_cons_zero, List.set_cons_succ]
  replace hm2 := (hm2.kept hg3 b1.lt).rin
  have hb13 := hb1.trans ((hb2.mono hb1.size).trans (grown_below hg3 HG.out (Nat.le_trans hb1.size hb2.size)))
  clear hb2 hb1 hg3 b1 b2 h1 hM
  go_upto_region 2 with (fail)
  refine wp_region_lit ?_
  refine wpList_load_mid rfl 25 (.tmp 2) rfl g 0 rfl cs2 _ (rangeAt_of_blk b3) Tryd.underlying25 rfl (infoR.trans (by rw [hm2.len])) ?_
  try simp only [Act.put, List.setIfInBounds_toArray, List.set_cons_zero, List.set_cons_succ]
  refine wpList_plain rfl (fun K hK0 => ?_)
  have hK := Lib.hid hK0
  clear hK0
  go_simp
  go_at_call 10
  refine (to_e M cs2 _ hm2 HSM).mono ?_
  rintro e w4 ⟨cs4, rfl, hm4, hb4⟩
  try go_wp2_with fail
  refine hK.out _ _ ?_
  clear hK K
  try simp only [Act.put, List.setIfInBounds_toArray, List.set_cons_zero, List.set_cons_succ]
  have b4 := b3.below hb4 b3.lt
  replace hm2 := hm2.below hb4
  have hb14 := hb13.trans (hb4.mono hb13.size)
  clear hb4 hb13 b3
  refine wpList_plain rfl (fun K hK0 => ?_)
  have hK := Lib.hid hK0
  clear hK0
  go_simp
  go_at_call 11
  refine (write_1 M cs4 _ (HT.out.below hb14) hm4 HF.out).mono ?_
  rintro e w5 ⟨r, rfl, hB5, hb5⟩
  try go_wp2_with fail
  refine hK.out _ _ ?_
  clear hK K
  try simp only [Act.put, List.setIfInBounds_toArray, List.set_cons_zero, List.set_cons_succ]
  have b5 := b4.below hb5 b4.lt
  replace hm2 := hm2.below hb5
  have hb15 := hb14.trans (hb5.mono hb14.size)
  have HG4 := Lib.hid (show g < w4.heap.size from b4.lt)
  clear hb5 b4 hm4 hb14
  refine wpList_plain rfl (fun K hK => ?_)
  go_simp
  refine hK _ _ ?_
  clear hK K
  try simp only [Act.put, List.setIfInBounds_toArray, List.set_cons_zero, List.set_cons_succ]
  refine wpList_plain rfl (fun K hK => ?_)
  go_simp
  refine hK _ _ ?_
  clear hK K
  try simp only [Act.put, List.setIfInBounds_toArray, List.set_cons_zero, List.set_cons_succ]
  refine wpList_plain rfl (fun K hK => ?_)
  go_simp
  refine hK _ _ ?_
  clear hK K
  try simp only [Act.put, List.setIfInBounds_toArray, List.set_cons_zero, List.set_cons_succ]
  refine wpList_plain rfl (fun K hK => ?_)
  go_simp
  refine hK _ _ ?_
  clear hK K
  try simp only [Act.put, List.setIfInBounds_toArray, List.set_cons_zero, List.set_cons_succ]
  refine wpList_plain rfl (fun K hK => ?_)
  go_simp
  refine hK _ _ ?_
  clear hK K
  try simp only [Act.put, List.setIfInBounds_toArray, List.set_cons_zero, List.set_cons_succ]
  go_upto_region 5 with (go_at_call 13; refine (hellos_e _ (HT.out.below hb15)).mono ?_; rintro e w6 ⟨rfl, hb6⟩)
  have hb16 := hb15.trans (hb6.mono hb15.size)
  have b6 := b5.below hb6 b5.lt
  have hm6 := hm2.below hb6
  have hB6 := hB5.below hb6
  have HM6 := Lib.hid hm6
  obtain ⟨hlen, vc, hcs2, hsr⟩ := hm6
  clear b5 hm2 hB5 hb15 hb6
  refine wp_region_lit ?_
  refine wpList_load_mid rfl 25 (.tmp 2) rfl g 0 rfl cs2 _ (rangeAt_of_blk b6) Tryd.underlying25 rfl (infoR.trans (by rw [hcs2]; exact congrArg some (mC_length hlen.1 hlen.2).symm)) ?_
  try simp only [Act.put, List.setIfInBounds_toArray, List.set_cons_zero, List.set_cons_succ]
  refine wpList_new_blk rfl 25 rfl _ zeroR ?_
  intro g7 w7 hg7 b7 hb7
  try simp only [Act.put, List.setIfInBounds_toArray, List.set_cons_zero, List.set_cons_succ]
  have HG7 := Lib.hid (show w6.heap.size ≤ g7 by rw [hg7]; exact Nat.le_refl _)
  refine wpList_store_blk rfl 25 (.tmp 7) (.tmp 28) rfl rfl g7 cs2 rfl rfl _ _ b7 (infoR.trans (by rw [hcs2]; exact congrArg some (mC_length hlen.1 hlen.2).symm)) (by rw [hcs2]; exact (rC_zero.trans (mC_length hlen.1 hlen.2).symm)) (by obtain ⟨Av, cv, rfl, _⟩ := hsr; rw [hcs2]; exact one_rC) ?_
  intro w8 b8 hg8
  try simp only [Act.put, List.setIfInBounds_toArray, List.set_cons_zero, List.set_cons_succ]
  have hb68 := hb7.trans (grown_below hg8 HG7.out hb7.size)
  clear hb7 hg8 hg7 b7
  rw [hcs2] at b8
  obtain ⟨x3, hx3⟩ : ∃ x : UInt8, M.rnd.getD 3 0 = x := ⟨_, rfl⟩
  obtain ⟨x5, hx5⟩ : ∃ x : UInt8, M.mark.getD 5 0 = x := ⟨_, rfl⟩
  have hc4 : w8.cell? ⟨g7, 4, none⟩ = some (.int .u8 (x3.toNat : Int)) := by rw [b8.cell, rC, mC_rnd hlen.1 3 (by decide), getD_map8 _ 3 (by rw [hlen.1]; decide), hx3]
  have hfz := b8.frozen 4
  have hxo := xor_u8 x3 y
  go_upto_region 7 with (fail)
  rw [← UInt8.toNat_xor]
  clear hc4 hfz hxo
  have b9 := b8.set_ 4 (B8 (x3 ^^^ y))
  rw [show (4 : Nat) = 1 + 3 from rfl, rC_setR 3 (by decide) hlen.1] at b9
  obtain ⟨R1, hR1⟩ : ∃ R, M.rnd.set 3 (x3 ^^^ y) = R := ⟨_, rfl⟩
  rw [hR1] at b9
  have hRl : R1.length = 32 := by rw [← hR1, List.length_set]; exact hlen.1
  have hb69 := grown_cellB hb68 hb68.size g7 4 (B8 (x3 ^^^ y)) HG7.out
  replace b9 : Blk (w8.setCell ⟨g7, 4, none⟩ (.int .u8 ((x3 ^^^ y).toNat : Int))) g7 25 (rC { M with rnd := R1 } vc) := b9
  replace hb69 : Below w6.heap.size w6 (w8.setCell ⟨g7, 4, none⟩ (.int .u8 ((x3 ^^^ y).toNat : Int))) := hb69
  generalize w8.setCell ⟨g7, 4, none⟩ (.int .u8 ((x3 ^^^ y).toNat : Int)) = w9 at *
  clear b8 hb68
  have hc5 : w9.cell? ⟨g7, 38, none⟩ = some (.int .u8 (x5.toNat : Int)) := by rw [b9.cell, rC, mC_mark (m := { M with rnd := R1 }) hRl hlen.2 5 (by decide), getD_map8 _ 5 (by rw [hlen.2]; decide), hx5]
  have hfz := b9.frozen 38
  have hxo := xor_u8 x5 y
  go_upto_region 8 with (fail)
  rw [← UInt8.toNat_xor]
  clear hc5 hfz hxo
  have b10 := b9.set_ 38 (B8 (x5 ^^^ y))
  rw [show (38 : Nat) = 33 + 5 from rfl, rC_setK (m := { M with rnd := R1 }) 5 (by decide) hRl hlen.2] at b10
  replace b10 : Blk (w9.setCell ⟨g7, 38, none⟩ (.int .u8 ((x5 ^^^ y).toNat : Int))) g7 25 (rC (altM M R1 (M.mark.set 5 (x5 ^^^ y))) vc) := b10
  obtain ⟨K1, hK1⟩ : ∃ R, M.mark.set 5 (x5 ^^^ y) = R := ⟨_, rfl⟩
  rw [hK1] at b10
  have hKl : K1.length = 32 := by rw [← hK1, List.length_set]; exact hlen.2
  have hba := grown_cellB hb69 hb69.size g7 38 (B8 (x5 ^^^ y)) HG7.out
  replace hba : Below w6.heap.size w6 (w9.setCell ⟨g7, 38, none⟩ (.int .u8 ((x5 ^^^ y).toNat : Int))) := hba
  generalize w9.setCell ⟨g7, 38, none⟩ (.int .u8 ((x5 ^^^ y).toNat : Int)) = wa at *
  clear b9 hb69
  obtain ⟨z3, hz3⟩ : ∃ z, x3 ^^^ y = z := ⟨_, rfl⟩
  obtain ⟨z5, hz5⟩ : ∃ z, x5 ^^^ y = z := ⟨_, rfl⟩
  simp only [hz3, hz5]
  clear hz3 hz5 hx3 hx5
  have ba : Blk wa g 25 (rC M vc) := by rw [← hcs2]; exact b6.below hba b6.lt
  have hcK : wa.cell? ⟨g, 0, none⟩ = some (.int .i64 2) := by rw [← HKI.out]; exact ba.cell 0
  have hcP : wa.cell? ⟨g, 73, none⟩ = some (.bool true) := by rw [← HPS.out]; exact (ba.cell (65 + 8)).trans (mC_get hlen.1 hlen.2 8)
  have hcR : wa.cell? ⟨g, 74, none⟩ = some (.bool false) := by rw [← HRE.out]; exact (ba.cell (65 + 9)).trans (mC_get hlen.1 hlen.2 9)
  go_upto_region 11 with (fail)
  refine wp_region_lit ?_
  refine wpList_plain rfl (fun K hK => ?_)
  go_simp
  refine hK _ _ ?_
  clear hK K
  try simp only [Act.put, List.setIfInBounds_toArray, List.set_cons_zero, List.set_cons_succ]
  refine wpList_load_mid rfl 22 (.tmp 76) rfl g 33 rfl (M.mark.map B8) _ (RAt.mark (m := M) ⟨rC M vc, ba, hlen, vc, rfl, hsr.below hba⟩) Tryd.underlying22 rfl (info40.trans (by rw [List.length_map, hlen.2])) ?_
  try simp only [Act.put, List.setIfInBounds_toArray, List.set_cons_zero, List.set_cons_succ]
  refine wpList_plain rfl (fun K hK => ?_)
  go_simp
  refine hK _ _ ?_
  clear hK K
  try simp only [Act.put, List.setIfInBounds_toArray, List.set_cons_zero, List.set_cons_succ]
  refine wpList_store_part rfl 22 (.tmp 78) (.tmp 77) rfl rfl g7 33 (M.mark.map B8) rfl rfl _ _ b10 (info40.trans (by rw [List.length_map, hlen.2])) (by rw [List.length_map, hlen.2, len_rC (m := (altM M R1 K1)) ⟨hRl, hKl⟩]; decide) (fun v hv => by obtain ⟨x, _, rfl⟩ := List.mem_map.1 hv; rfl) ?_
  intro wc b12 hgs
  rw [rC_splK (m := (altM M R1 K1)) ⟨hRl, hKl⟩ hlen.2] at b12
  try simp only [Act.put, List.setIfInBounds_toArray, List.set_cons_zero, List.set_cons_succ]
  replace b12 : Blk wc g7 25 (rC (altM M R1 M.mark) vc) := b12
  have hbb := below_new hba hgs HG7.out hba.size
  have ba' : Blk wc g 25 (rC M vc) := by rw [← hcs2]; exact b6.below hbb b6.lt
  clear hba hgs ba b10 hcK hcP hcR
  have hba := hbb
  have ba := ba'
  clear hbb ba'
  have hcK : wc.cell? ⟨g, 0, none⟩ = some (.int .i64 2) := by rw [← HKI.out]; exact ba.cell 0
  have hcP : wc.cell? ⟨g, 73, none⟩ = some (.bool true) := by rw [← HPS.out]; exact (ba.cell (65 + 8)).trans (mC_get hlen.1 hlen.2 8)
  have hcR : wc.cell? ⟨g, 74, none⟩ = some (.bool false) := by rw [← HRE.out]; exact (ba.cell (65 + 9)).trans (mC_get hlen.1 hlen.2 9)
  have hal := HelloMath.alter_form HF.out R1 K1 false true (by rw [HKI.out, HRE.out]; rfl) (by rw [HKI.out, HPS.out]; rfl)
  replace hal : formM (altM M R1 M.mark) = true ∨ (M.kind = 2 ∧ R1 = special) := hal
  have HAL := Lib.hid hal
  have hals := HelloMath.alter_len (m := M) (r := R1) (k := M.mark) (by rw [hRl, hlen.1]) rfl
  have HALS := Lib.hid hals
  have HRI := Lib.hid (show RIn wc (altM M R1 M.mark) (rC (altM M R1 M.mark) vc) from ⟨⟨hRl, hlen.2⟩, vc, rfl, hsr.below hba⟩)
  have HBA := Lib.hid (hb16.trans (hba.mono hb16.size))
  have HSA := Lib.hid (show Small (altM M R1 M.mark) from HSM.out)
  have HBUF := Lib.hid (hB6.below (hba.mono (Nat.le_refl _)))
  have HLEN := Lib.hid hlen
  have HSR := Lib.hid (hsr.below hba)
  clear hal hals hB6 hsr hb16 hlen
  go_upto_region 12 with (fail)
  clear hcP hcR
  refine wp_region_lit ?_
  refine wpList_load_mid rfl 25 (.tmp 7) rfl g7 0 rfl (rC (altM M R1 M.mark) vc) _ (rangeAt_of_blk b12) Tryd.underlying25 rfl (infoR.trans (by rw [HRI.out.len])) ?_
  try simp only [Act.put, List.setIfInBounds_toArray, List.set_cons_zero, List.set_cons_succ]
  refine wpList_plain rfl (fun K hK0 => ?_)
  have hK := Lib.hid hK0
  clear hK0
  go_simp
  go_at_call 10
  refine (to_e (altM M R1 M.mark) (rC (altM M R1 M.mark) vc) _ HRI.out HSA).mono ?_
  rintro e wd ⟨csd, rfl, hmd, hbd⟩
  try go_wp2_with fail
  refine hK.out _ _ ?_
  clear hK K
  try simp only [Act.put, List.setIfInBounds_toArray, List.set_cons_zero, List.set_cons_succ]
  have HBD := Lib.hid (HBA.out.trans (hbd.mono HBA.out.size))
  have hbdk := hbd
  have bd := ba.below hbd ba.lt
  have bd7 := b12.below hbd b12.lt
  clear hbd ba b12 hba hcK
  cases hff : formM (altM M R1 M.mark) with
  | false =>
    refine wpList_plain rfl (fun K hK0 => ?_)
    have hK := Lib.hid hK0
    clear hK0
    go_simp
    go_at_call 11
    refine (write_0 (altM M R1 M.mark) csd _ (HT.out.below HBD.out) hmd hff).mono ?_
    rintro e we ⟨rfl, hbe⟩
    try go_wp2_with fail
    refine hK.out _ _ ?_
    clear hK K
    try simp only [Act.put, List.setIfInBounds_toArray, List.set_cons_zero, List.set_cons_succ]
    have hbek := hbe
    have HBE := Lib.hid (HBD.out.trans (hbe.mono HBD.out.size))
    have be := bd.below hbe bd.lt
    have be7 := bd7.below hbe bd7.lt
    have hRs : R1 = special := by
      rcases HAL.out with h | h
      · rw [hff] at h; cases h
      · exact h.2
    have HRS := Lib.hid hRs
    clear hbe bd bd7 hmd hRs
    have hcK : we.cell? ⟨g, 0, none⟩ = some (.int .i64 2) := by rw [← HKI.out]; exact be.cell 0
    have be8 := Lib.hid (show RIn we (altM M R1 M.mark) (rC (altM M R1 M.mark) vc) from (HRI.out.below hbdk).below hbek)
    have HL7 := Lib.hid (fun (V : World) (hV : Below we.heap.size we V) => RAt.rnd (m := (altM M R1 M.mark)) ⟨rC (altM M R1 M.mark) vc, be7.below hV be7.lt, be8.out.below hV⟩)
    obtain ⟨A7, c7, hr7, -⟩ := HBUF.out
    subst hr7
    have HCK := Lib.hid (fun (V : World) (hV : Below we.heap.size we V) => (show V.cell? ⟨g, 0, none⟩ = some (.int .i64 2) from ((be.below hV be.lt).cell 0).trans (congrArg (fun x : Int => some (Value.int .i64 x)) HKI.out)))
    clear be7 be8 hbdk hbek HBUF hcK
    refine wpList_plain rfl (fun K hK => ?_)
    go_simp
    refine hK _ _ ?_
    clear hK K
    try simp only [Act.put, List.setIfInBounds_toArray, List.set_cons_zero, List.set_cons_succ]
    refine wpList_plain rfl (fun K hK => ?_)
    go_simp
    refine hK _ _ ?_
    clear hK K
    try simp only [Act.put, List.setIfInBounds_toArray, List.set_cons_zero, List.set_cons_succ]
    refine wpList_plain rfl (fun K hK => ?_)
    go_simp
    refine hK _ _ ?_
    clear hK K
    try simp only [Act.put, List.setIfInBounds_toArray, List.set_cons_zero, List.set_cons_succ]
    refine wpList_plain rfl (fun K hK => ?_)
    go_simp
    refine hK _ _ ?_
    clear hK K
    try simp only [Act.put, List.setIfInBounds_toArray, List.set_cons_zero, List.set_cons_succ]
    refine wpList_plain rfl (fun K hK => ?_)
    go_simp
    refine hK _ _ ?_
    clear hK K
    try simp only [Act.put, List.setIfInBounds_toArray, List.set_cons_zero, List.set_cons_succ]
    go_upto_region 14 with (fail)
    have hd0 := HBE.out
    refine wp_region_noPanic ?_
    refine wp_region_held_drew (S := fun V => Below we.heap.size we V) (by kernel_rfl) (by exact below_drewN (Below.refl _ _) 1) (fun hHeld => ?_)
    refine wpAnyH_take (i := 0) (oi := ⟨_, _, _, _, _, _⟩) (v := ?_) rfl (by kernel_rfl) (by kernel_rfl) (by kernel_rfl) (fun _ _ _ h => h) (Or.inl ⟨by rfl, ?_⟩) hHeld ?_
    rotate_left 1
    · (intro W hSw; (try dsimp only at hSw); go_simp; try with_reducible rfl)
    try simp only [Act.put, List.setIfInBounds_toArray, List.set_cons_zero, List.set_cons_succ]
    refine wpAnyH_take (i := 1) (oi := ⟨_, _, _, _, _, _⟩) (v := ?_) rfl (by kernel_rfl) (by kernel_rfl) (by kernel_rfl) (fun _ _ _ h => h) (Or.inl ⟨by rfl, ?_⟩) hHeld ?_
    rotate_left 1
    · (intro W hSw; (try dsimp only at hSw); have hcc := HCK.out W hSw; go_simp; try with_reducible rfl)
    try simp only [Act.put, List.setIfInBounds_toArray, List.set_cons_zero, List.set_cons_succ]
    refine wpAnyH_take (i := 2) (oi := ⟨_, _, _, _, _, _⟩) (v := ?_) rfl (by kernel_rfl) (by kernel_rfl) (by kernel_rfl) (fun _ _ _ h => h) (Or.inl ⟨by rfl, ?_⟩) hHeld ?_
    rotate_left 1
    · (intro W hSw; (try dsimp only at hSw); go_simp; try with_reducible rfl)
    try simp only [Act.put, List.setIfInBounds_toArray, List.set_cons_zero, List.set_cons_succ]
    refine wpAnyH_take (i := 3) (oi := ⟨_, _, _, _, _, _⟩) (v := ?_) rfl (by kernel_rfl) (by kernel_rfl) (by kernel_rfl) (fun _ _ _ h => h) (Or.inl ⟨by rfl, ?_⟩) hHeld ?_
    rotate_left 1
    · (intro W hSw; (try dsimp only at hSw); go_simp; try with_reducible rfl)
    try simp only [Act.put, List.setIfInBounds_toArray, List.set_cons_zero, List.set_cons_succ]
    refine wpAnyH_take (i := 4) (oi := ⟨_, _, _, _, _, _⟩) (v := ?_) rfl (by kernel_rfl) (by kernel_rfl) (by kernel_rfl) (fun _ _ _ h => h) (Or.inl ⟨by rfl, ?_⟩) hHeld ?_
    rotate_left 1
    · (intro W hSw; (try dsimp only at hSw); go_simp; try with_reducible rfl)
    try simp only [Act.put, List.setIfInBounds_toArray, List.set_cons_zero, List.set_cons_succ]
    refine wpAnyH_take (i := 5) (oi := ⟨_, _, _, _, _, _⟩) (v := ?_) rfl (by kernel_rfl) (by kernel_rfl) (by kernel_rfl) (fun _ _ _ h => h) (Or.inl ⟨by rfl, ?_⟩) hHeld ?_
    rotate_left 1
    · (intro W hSw; (try dsimp only at hSw); refine exec_load_mid 22 (.tmp 91) ?_ g7 1 ?_ ((altM M R1 M.mark).rnd.map B8) _ (HL7.out W hSw) Tryd.underlying22 rfl (info40.trans (by rw [List.length_map]; exact congrArg some hRl.symm)) <;> rfl)
    try simp only [Act.put, List.setIfInBounds_toArray, List.set_cons_zero, List.set_cons_succ]
    refine wpAnyH_ready (rs := [6]) (by kernel_rfl) (by simp) ?_
    refine AllReadyH.cons (o := ⟨_, _, _, _, _, _⟩) rfl (fun K hK => ?_) AllReadyH.nil
    go_simp
    go_at_call 19
    refine (special_e _).mono ?_
    rintro e wf ⟨rfl, hbn⟩
    try go_wp2_with fail
    refine hK.out _ _ (hHeld.trans (hbn.mono hHeld.size)) (fun hHeld => ?_)
    clear hK K hbn
    try simp only [Act.put, List.setIfInBounds_toArray, List.set_cons_zero, List.set_cons_succ]
    refine wpAnyH_ready (rs := [7]) (by kernel_rfl) (by simp) ?_
    refine AllReadyH.cons (o := ⟨_, _, _, _, _, _⟩) rfl (fun K hK => ?_) AllReadyH.nil
    refine wp_eqlA rfl rfl rfl guardB32 (EqB (Lib.hid hRl) (Lib.hid special_len) (Lib.hid (show (R1 == special) = true by rw [HRS.out]; exact BEq.refl _)) _) ?_
    refine hK.out _ _ hHeld (fun hHeld => ?_)
    clear hK K
    try simp only [Act.put, List.setIfInBounds_toArray, List.set_cons_zero, List.set_cons_succ]
    refine wpAnyH_take (i := 8) (oi := ⟨_, _, _, _, _, _⟩) (v := ?_) rfl (by kernel_rfl) (by kernel_rfl) (by kernel_rfl) (fun _ _ _ h => h) (Or.inl ⟨by rfl, ?_⟩) hHeld ?_
    rotate_left 1
    · (intro W hSw; (try dsimp only at hSw); go_simp; try with_reducible rfl)
    try simp only [Act.put, List.setIfInBounds_toArray, List.set_cons_zero, List.set_cons_succ]
    refine wpAnyH_take (i := 9) (oi := ⟨_, _, _, _, _, _⟩) (v := ?_) rfl (by kernel_rfl) (by kernel_rfl) (by kernel_rfl) (fun _ _ _ h => h) (Or.inl ⟨by rfl, ?_⟩) hHeld ?_
    rotate_left 1
    · (intro W hSw; (try dsimp only at hSw); go_simp; try with_reducible rfl)
    try simp only [Act.put, List.setIfInBounds_toArray, List.set_cons_zero, List.set_cons_succ]
    refine wpAnyH_done (by kernel_rfl) ?_ _
    refine NoPanic.normal ?_
    go_wp2
    go_ret
    exact ⟨rfl, HBE.out.trans (hHeld.mono HBE.out.size)⟩
  | true =>
    refine wpList_plain rfl (fun K hK0 => ?_)
    have hK := Lib.hid hK0
    clear hK0
    go_simp
    go_at_call 11
    refine (write_1 (altM M R1 M.mark) csd _ (HT.out.below HBD.out) hmd hff).mono ?_
    rintro e we ⟨re, rfl, hBe, hbe⟩
    try go_wp2_with fail
    refine hK.out _ _ ?_
    clear hK K
    try simp only [Act.put, List.setIfInBounds_toArray, List.set_cons_zero, List.set_cons_succ]
    have HBE := Lib.hid (HBD.out.trans (hbe.mono HBD.out.size))
    have be := bd.below hbe bd.lt
    obtain ⟨Ae, ce, hre, -⟩ := hBe
    obtain ⟨A7, c7, hr7, -⟩ := HBUF.out
    subst hre
    subst hr7
    obtain ⟨l, hl⟩ : ∃ l, (wholeM M).length = l := ⟨_, rfl⟩
    have hl2 : (wholeM (altM M R1 M.mark)).length = l := HALS.out.trans hl
    simp only [hl2, hl]
    have HL := Lib.hid hl
    clear hbe bd bd7 hmd hl hl2 HBUF hbdk
    refine wpList_plain rfl (fun K hK => ?_)
    go_simp
    refine hK _ _ ?_
    clear hK K
    try simp only [Act.put, List.setIfInBounds_toArray, List.set_cons_zero, List.set_cons_succ]
    refine wpList_plain rfl (fun K hK => ?_)
    go_simp
    refine hK _ _ ?_
    clear hK K
    try simp only [Act.put, List.setIfInBounds_toArray, List.set_cons_zero, List.set_cons_succ]
    refine wpList_plain rfl (fun K hK => ?_)
    go_simp
    refine hK _ _ ?_
    clear hK K
    try simp only [Act.put, List.setIfInBounds_toArray, List.set_cons_zero, List.set_cons_succ]
    refine wpList_plain rfl (fun K hK => ?_)
    go_simp
    refine hK _ _ ?_
    clear hK K
    try simp only [Act.put, List.setIfInBounds_toArray, List.set_cons_zero, List.set_cons_succ]
    refine wpList_plain rfl (fun K hK => ?_)
    go_simp
    refine hK _ _ ?_
    clear hK K
    try simp only [Act.put, List.setIfInBounds_toArray, List.set_cons_zero, List.set_cons_succ]
    go_upto_region 15 with (fail)
    refine wp_region_lit ?_
    refine wpList_makeMI rfl rfl ?_
    intro gm wf0 hgm hm0 hbf0
    try simp only [Act.put, List.setIfInBounds_toArray, List.set_cons_zero, List.set_cons_succ]
    refine wpList_putMI rfl (.tmp 96) _ _ rfl rfl gm #[] 0 8 6 rfl rfl rfl hm0 rfl ?_
    intro wf1 hm1 hgm1
    try simp only [Act.put, List.setIfInBounds_toArray, List.set_cons_zero, List.set_cons_succ]
    refine wpList_putMI rfl (.tmp 96) _ _ rfl rfl gm (#[].push (ent 8 6 0)) 1 13 15 rfl rfl rfl hm1 rfl ?_
    intro wf2 hm2 hgm2
    try simp only [Act.put, List.setIfInBounds_toArray, List.set_cons_zero, List.set_cons_succ]
    refine wpList_putMI rfl (.tmp 96) _ _ rfl rfl gm ((#[].push (ent 8 6 0)).push (ent 13 15 1)) 2 20 36 rfl rfl rfl hm2 rfl ?_
    intro wf3 hm3 hgm3
    try simp only [Act.put, List.setIfInBounds_toArray, List.set_cons_zero, List.set_cons_succ]
    have hbf := hbf0.trans (grown_below (grown_trans (grown_trans hgm1 hgm2) hgm3) (Nat.le_of_eq hgm.symm) hbf0.size)
    have bf := be.below hbf be.lt
    have HBF := Lib.hid (HBE.out.trans (hbf.mono HBE.out.size))
    clear hbf hbf0 hgm1 hgm2 hgm3 hgm hm0 hm1 hm2 be
    have hcK : wf3.cell? ⟨g, 0, none⟩ = some (.int .i64 2) := by rw [← HKI.out]; exact bf.cell 0
    refine wpList_plain rfl (fun K hK => ?_)
    go_simp
    refine hK _ _ ?_
    clear hK K
    try simp only [Act.put, List.setIfInBounds_toArray, List.set_cons_zero, List.set_cons_succ]
    refine wpList_plain rfl (fun K hK => ?_)
    go_simp
    refine hK _ _ ?_
    clear hK K
    try simp only [Act.put, List.setIfInBounds_toArray, List.set_cons_zero, List.set_cons_succ]
    go_upto_region 16 with (fail)
    refine wp_region_lit ?_
    refine wpList_plain rfl (fun K hK => ?_)
    go_simp
    refine hK _ _ ?_
    clear hK K
    try simp only [Act.put, List.setIfInBounds_toArray, List.set_cons_zero, List.set_cons_succ]
    refine wpList_plain rfl (fun K hK => ?_)
    go_simp
    refine hK _ _ ?_
    clear hK K
    try simp only [Act.put, List.setIfInBounds_toArray, List.set_cons_zero, List.set_cons_succ]
    refine wpList_plain rfl (fun K hK => ?_)
    go_simp
    refine hK _ _ ?_
    clear hK K
    try simp only [Act.put, List.setIfInBounds_toArray, List.set_cons_zero, List.set_cons_succ]
    refine wpList_lookMI rfl (.tmp 99) (.tmp 101) rfl gm (((#[].push (ent 8 6 0)).push (ent 13 15 1)).push (ent 20 36 2)) 3 2 rfl rfl hm3 none rfl ?_
    try simp only [Act.put, List.setIfInBounds_toArray, List.set_cons_zero, List.set_cons_succ]
    refine wpList_plain rfl (fun K hK => ?_)
    go_simp
    refine hK _ _ ?_
    clear hK K
    try simp only [Act.put, List.setIfInBounds_toArray, List.set_cons_zero, List.set_cons_succ]
    refine wpList_plain rfl (fun K hK => ?_)
    go_simp
    refine hK _ _ ?_
    clear hK K
    try simp only [Act.put, List.setIfInBounds_toArray, List.set_cons_zero, List.set_cons_succ]
    refine wpList_plain rfl (fun K hK => ?_)
    go_simp
    refine hK _ _ ?_
    clear hK K
    try simp only [Act.put, List.setIfInBounds_toArray, List.set_cons_zero, List.set_cons_succ]
    refine wpList_plain rfl (fun K hK => ?_)
    go_simp
    refine hK _ _ ?_
    clear hK K
    try simp only [Act.put, List.setIfInBounds_toArray, List.set_cons_zero, List.set_cons_succ]
    refine wpList_plain rfl (fun K hK => ?_)
    go_simp
    refine hK _ _ ?_
    clear hK K
    try simp only [Act.put, List.setIfInBounds_toArray, List.set_cons_zero, List.set_cons_succ]
    go_wp2
    go_ret
    exact ⟨rfl, HBF.out⟩
set_option maxRecDepth 100000 in
set_option maxHeartbeats 1000000 in
theorem sizes_2r (m : Msg) (cs : List Value) (y : UInt8) (w : World) (hT : TabH w) (h : RIn w m cs) (hf : formM (tameM m) = true) (HKI : Hid ((tameM m).kind = 2)) (HPS : Hid ((tameM m).psk = false)) (HRE : Hid ((tameM m).retry = true)) : Calls Tryd.prog 8 #[.agg cs.toArray, .int .u8 (y.toNat : Int)] w fun e w' => e = .returned (.bool true) ∧ Below w.heap.size w w' := by
  have HT := Lib.hid hT
  have HF := Lib.hid hf
  clear hT hf
  go_enter Tryd.func8, Tryd.ntmps8
  go_upto_region 0 with (fail)
  refine wp_region_lit ?_
  refine wpList_plain rfl (fun K hK => ?_)
  go_simp
  refine hK _ _ ?_
  clear hK K
  have b1 := Blk.new w 25 cs
  have hb1 : Below w.heap.size w (w.alloc (.cells cs.toArray 25)) := (Below.refl _ _).alloc (Nat.le_refl _) _
  have h1 := h.below hb1
  obtain ⟨g, hg1⟩ : ∃ g, g = w.heap.size := ⟨_, rfl⟩
  rw [← hg1] at b1
  simp only [← hg1]
  have HG := Lib.hid (Nat.le_of_eq hg1.symm)
  clear h hg1
  generalize w.alloc (.cells cs.toArray 25) = w1 at *
  try simp only [Act.put, List.setIfInBounds_toArray, List.set_cons_zero, List.set_cons_succ]
  go_upto_region 1 with (fail)
  refine wp_region_lit ?_
  refine wpList_load_mid rfl 25 (.tmp 2) rfl g 0 rfl cs _ (rangeAt_of_blk b1) Tryd.underlying25 rfl (infoR.trans (by rw [h1.len])) ?_
  try simp only [Act.put, List.setIfInBounds_toArray, List.set_cons_zero, List.set_cons_succ]
  refine wpList_plain rfl (fun K hK0 => ?_)
  have hK := Lib.hid hK0
  clear hK0
  go_simp
  go_at_call 9
  refine (tame_e m cs _ h1).mono ?_
  rintro e w2 ⟨cs2, rfl, hm2, hb2⟩
  try go_wp2_with fail
  refine hK.out _ _ ?_
  clear hK K
  try simp only [Act.put, List.setIfInBounds_toArray, List.set_cons_zero, List.set_cons_succ]
  have b2 := b1.below hb2 b1.lt
  obtain ⟨M, hM⟩ : ∃ M, tameM m = M := ⟨_, rfl⟩
  have HSM := Lib.hid (show Small M by rw [← hM]; exact small_tame m)
  rw [hM] at hm2 HF HKI HPS HRE
  refine wpList_store_blk rfl 25 (.tmp 2) (.tmp 14) rfl rfl g cs2 rfl rfl _ _ b2 (infoR.trans (by rw [hm2.rin.len])) (by rw [hm2.rin.len, h1.len]) hm2.rin.one ?_
  intro w3 b3 hg3
  try simp only [Act.put, List.setIfInBounds_toArray, List.set_cons_zero, List.set_cons_succ]
  replace hm2 := (hm2.kept hg3 b1.lt).rin
  have hb13 := hb1.trans ((hb2.mono hb1.size).trans (grown_below hg3 HG.out (Nat.le_trans hb1.size hb2.size)))
  clear hb2 hb1 hg3 b1 b2 h1 hM
  go_upto_region 2 with (fail)
  refine wp_region_lit ?_
  refine wpList_load_mid rfl 25 (.tmp 2) rfl g 0 rfl cs2 _ (rangeAt_of_blk b3) Tryd.underlying25 rfl (infoR.trans (by rw [hm2.len])) ?_
  try simp only [Act.put, List.setIfInBounds_toArray, List.set_cons_zero, List.set_cons_succ]
  refine wpList_plain rfl (fun K hK0 => ?_)
  have hK := Lib.hid hK0
  clear hK0
  go_simp
  go_at_call 10
  refine (to_e M cs2 _ hm2 HSM).mono ?_
  rintro e w4 ⟨cs4, rfl, hm4, hb4⟩
  try go_wp2_with fail
  refine hK.out _ _ ?_
  clear hK K
  try simp only [Act.put, List.setIfInBounds_toArray, List.set_cons_zero, List.set_cons_succ]
  have b4 := b3.below hb4 b3.lt
  replace hm2 := hm2.below hb4
  have hb14 := hb13.trans (hb4.mono hb13.size)
  clear hb4 hb13 b3
  refine wpList_plain rfl (fun K hK0 => ?_)
  have hK := Lib.hid hK0
  clear hK0
  go_simp
  go_at_call 11
  refine (write_1 M cs4 _ (HT.out.below hb14) hm4 HF.out).mono ?_
  rintro e w5 ⟨r, rfl, hB5, hb5⟩
  try go_wp2_with fail
  refine hK.out _ _ ?_
  clear hK K
  try simp only [Act.put, List.setIfInBounds_toArray, List.set_cons_zero, List.set_cons_succ]
  have b5 := b4.below hb5 b4.lt
  replace hm2 := hm2.below hb5
  have hb15 := hb14.trans (hb5.mono hb14.size)
  have HG4 := Lib.hid (show g < w4.heap.size from b4.lt)
  clear hb5 b4 hm4 hb14
  refine wpList_plain rfl (fun K hK => ?_)
  go_simp
  refine hK _ _ ?_
  clear hK K
  try simp only [Act.put, List.setIfInBounds_toArray, List.set_cons_zero, List.set_cons_succ]
  refine wpList_plain rfl (fun K hK => ?_)
  go_simp
  refine hK _ _ ?_
  clear hK K
  try simp only [Act.put, List.setIfInBounds_toArray, List.set_cons_zero, List.set_cons_succ]
  refine wpList_plain rfl (fun K hK => ?_)
  go_simp
  refine hK _ _ ?_
  clear hK K
  try simp only [Act.put, List.setIfInBounds_toArray, List.set_cons_zero, List.set_cons_succ]
  refine wpList_plain rfl (fun K hK => ?_)
  go_simp
  refine hK _ _ ?_
  clear hK K
  try simp only [Act.put, List.setIfInBounds_toArray, List.set_cons_zero, List.set_cons_succ]
  refine wpList_plain rfl (fun K hK => ?_)
  go_simp
  refine hK _ _ ?_
  clear hK K
  try simp only [Act.put, List.setIfInBounds_toArray, List.set_cons_zero, List.set_cons_succ]
  go_upto_region 5 with (go_at_call 13; refine (hellos_e _ (HT.out.below hb15)).mono ?_; rintro e w6 ⟨rfl, hb6⟩)
  have hb16 := hb15.trans (hb6.mono hb15.size)
  have b6 := b5.below hb6 b5.lt
  have hm6 := hm2.below hb6
  have hB6 := hB5.below hb6
  have HM6 := Lib.hid hm6
  obtain ⟨hlen, vc, hcs2, hsr⟩ := hm6
  clear b5 hm2 hB5 hb15 hb6
  refine wp_region_lit ?_
  refine wpList_load_mid rfl 25 (.tmp 2) rfl g 0 rfl cs2 _ (rangeAt_of_blk b6) Tryd.underlying25 rfl (infoR.trans (by rw [hcs2]; exact congrArg some (mC_length hlen.1 hlen.2).symm)) ?_
  try simp only [Act.put, List.setIfInBounds_toArray, List.set_cons_zero, List.set_cons_succ]
  refine wpList_new_blk rfl 25 rfl _ zeroR ?_
  intro g7 w7 hg7 b7 hb7
  try simp only [Act.put, List.setIfInBounds_toArray, List.set_cons_zero, List.set_cons_succ]
  have HG7 := Lib.hid (show w6.heap.size ≤ g7 by rw [hg7]; exact Nat.le_refl _)
  refine wpList_store_blk rfl 25 (.tmp 7) (.tmp 28) rfl rfl g7 cs2 rfl rfl _ _ b7 (infoR.trans (by rw [hcs2]; exact congrArg some (mC_length hlen.1 hlen.2).symm)) (by rw [hcs2]; exact (rC_zero.trans (mC_length hlen.1 hlen.2).symm)) (by obtain ⟨Av, cv, rfl, _⟩ := hsr; rw [hcs2]; exact one_rC) ?_
  intro w8 b8 hg8
  try simp only [Act.put, List.setIfInBounds_toArray, List.set_cons_zero, List.set_cons_succ]
  have hb68 := hb7.trans (grown_below hg8 HG7.out hb7.size)
  clear hb7 hg8 hg7 b7
  rw [hcs2] at b8
  obtain ⟨x3, hx3⟩ : ∃ x : UInt8, M.rnd.getD 3 0 = x := ⟨_, rfl⟩
  obtain ⟨x5, hx5⟩ : ∃ x : UInt8, M.mark.getD 5 0 = x := ⟨_, rfl⟩
  have hc4 : w8.cell? ⟨g7, 4, none⟩ = some (.int .u8 (x3.toNat : Int)) := by rw [b8.cell, rC, mC_rnd hlen.1 3 (by decide), getD_map8 _ 3 (by rw [hlen.1]; decide), hx3]
  have hfz := b8.frozen 4
  have hxo := xor_u8 x3 y
  go_upto_region 7 with (fail)
  rw [← UInt8.toNat_xor]
  clear hc4 hfz hxo
  have b9 := b8.set_ 4 (B8 (x3 ^^^ y))
  rw [show (4 : Nat) = 1 + 3 from rfl, rC_setR 3 (by decide) hlen.1] at b9
  obtain ⟨R1, hR1⟩ : ∃ R, M.rnd.set 3 (x3 ^^^ y) = R := ⟨_, rfl⟩
  rw [hR1] at b9
  have hRl : R1.length = 32 := by rw [← hR1, List.length_set]; exact hlen.1
  have hb69 := grown_cellB hb68 hb68.size g7 4 (B8 (x3 ^^^ y)) HG7.out
  replace b9 : Blk (w8.setCell ⟨g7, 4, none⟩ (.int .u8 ((x3 ^^^ y).toNat : Int))) g7 25 (rC { M with rnd := R1 } vc) := b9
  replace hb69 : Below w6.heap.size w6 (w8.setCell ⟨g7, 4, none⟩ (.int .u8 ((x3 ^^^ y).toNat : Int))) := hb69
  generalize w8.setCell ⟨g7, 4, none⟩ (.int .u8 ((x3 ^^^ y).toNat : Int)) = w9 at *
  clear b8 hb68
  have hc5 : w9.cell? ⟨g7, 38, none⟩ = some (.int .u8 (x5.toNat : Int)) := by rw [b9.cell, rC, mC_mark (m := { M with rnd := R1 }) hRl hlen.2 5 (by decide), getD_map8 _ 5 (by rw [hlen.2]; decide), hx5]
  have hfz := b9.frozen 38
  have hxo := xor_u8 x5 y
  go_upto_region 8 with (fail)
  rw [← UInt8.toNat_xor]
  clear hc5 hfz hxo
  have b10 := b9.set_ 38 (B8 (x5 ^^^ y))
  rw [show (38 : Nat) = 33 + 5 from rfl, rC_setK (m := { M with rnd := R1 }) 5 (by decide) hRl hlen.2] at b10
  replace b10 : Blk (w9.setCell ⟨g7, 38, none⟩ (.int .u8 ((x5 ^^^ y).toNat : Int))) g7 25 (rC (altM M R1 (M.mark.set 5 (x5 ^^^ y))) vc) := b10
  obtain ⟨K1, hK1⟩ : ∃ R, M.mark.set 5 (x5 ^^^ y) = R := ⟨_, rfl⟩
  rw [hK1] at b10
  have hKl : K1.length = 32 := by rw [← hK1, List.length_set]; exact hlen.2
  have hba := grown_cellB hb69 hb69.size g7 38 (B8 (x5 ^^^ y)) HG7.out
  replace hba : Below w6.heap.size w6 (w9.setCell ⟨g7, 38, none⟩ (.int .u8 ((x5 ^^^ y).toNat : Int))) := hba
  generalize w9.setCell ⟨g7, 38, none⟩ (.int .u8 ((x5 ^^^ y).toNat : Int)) = wa at *
  clear b9 hb69
  obtain ⟨z3, hz3⟩ : ∃ z, x3 ^^^ y = z := ⟨_, rfl⟩
  obtain ⟨z5, hz5⟩ : ∃ z, x5 ^^^ y = z := ⟨_, rfl⟩
  simp only [hz3, hz5]
  clear hz3 hz5 hx3 hx5
  have ba : Blk wa g 25 (rC M vc) := by rw [← hcs2]; exact b6.below hba b6.lt
  have hcK : wa.cell? ⟨g, 0, none⟩ = some (.int .i64 2) := by rw [← HKI.out]; exact ba.cell 0
  have hcP : wa.cell? ⟨g, 73, none⟩ = some (.bool false) := by rw [← HPS.out]; exact (ba.cell (65 + 8)).trans (mC_get hlen.1 hlen.2 8)
  have hcR : wa.cell? ⟨g, 74, none⟩ = some (.bool true) := by rw [← HRE.out]; exact (ba.cell (65 + 9)).trans (mC_get hlen.1 hlen.2 9)
  go_upto_region 9 with (fail)
  refine wp_region_lit ?_
  refine wpList_plain rfl (fun K hK => ?_)
  go_simp
  refine hK _ _ ?_
  clear hK K
  try simp only [Act.put, List.setIfInBounds_toArray, List.set_cons_zero, List.set_cons_succ]
  refine wpList_load_mid rfl 22 (.tmp 55) rfl g 1 rfl (M.rnd.map B8) _ (RAt.rnd (m := M) ⟨rC M vc, ba, hlen, vc, rfl, hsr.below hba⟩) Tryd.underlying22 rfl (info40.trans (by rw [List.length_map, hlen.1])) ?_
  try simp only [Act.put, List.setIfInBounds_toArray, List.set_cons_zero, List.set_cons_succ]
  refine wpList_plain rfl (fun K hK => ?_)
  go_simp
  refine hK _ _ ?_
  clear hK K
  try simp only [Act.put, List.setIfInBounds_toArray, List.set_cons_zero, List.set_cons_succ]
  refine wpList_store_part rfl 22 (.tmp 57) (.tmp 56) rfl rfl g7 1 (M.rnd.map B8) rfl rfl _ _ b10 (info40.trans (by rw [List.length_map, hlen.1])) (by rw [List.length_map, hlen.1, len_rC (m := (altM M R1 K1)) ⟨hRl, hKl⟩]; decide) (fun v hv => by obtain ⟨x, _, rfl⟩ := List.mem_map.1 hv; rfl) ?_
  intro wb b11 hgs
  rw [rC_splR (m := (altM M R1 K1)) ⟨hRl, hKl⟩ hlen.1] at b11
  try simp only [Act.put, List.setIfInBounds_toArray, List.set_cons_zero, List.set_cons_succ]
  replace b11 : Blk wb g7 25 (rC (altM M M.rnd K1) vc) := b11
  have hbb := below_new hba hgs HG7.out hba.size
  have ba' : Blk wb g 25 (rC M vc) := by rw [← hcs2]; exact b6.below hbb b6.lt
  clear hba hgs ba b10 hcK hcP hcR
  have hba := hbb
  have ba := ba'
  clear hbb ba'
  have hcK : wb.cell? ⟨g, 0, none⟩ = some (.int .i64 2) := by rw [← HKI.out]; exact ba.cell 0
  have hcP : wb.cell? ⟨g, 73, none⟩ = some (.bool false) := by rw [← HPS.out]; exact (ba.cell (65 + 8)).trans (mC_get hlen.1 hlen.2 8)
  have hcR : wb.cell? ⟨g, 74, none⟩ = some (.bool true) := by rw [← HRE.out]; exact (ba.cell (65 + 9)).trans (mC_get hlen.1 hlen.2 9)
  go_upto_region 11 with (fail)
  refine wp_region_lit ?_
  refine wpList_plain rfl (fun K hK => ?_)
  go_simp
  refine hK _ _ ?_
  clear hK K
  try simp only [Act.put, List.setIfInBounds_toArray, List.set_cons_zero, List.set_cons_succ]
  refine wpList_load_mid rfl 22 (.tmp 76) rfl g 33 rfl (M.mark.map B8) _ (RAt.mark (m := M) ⟨rC M vc, ba, hlen, vc, rfl, hsr.below hba⟩) Tryd.underlying22 rfl (info40.trans (by rw [List.length_map, hlen.2])) ?_
  try simp only [Act.put, List.setIfInBounds_toArray, List.set_cons_zero, List.set_cons_succ]
  refine wpList_plain rfl (fun K hK => ?_)
  go_simp
  refine hK _ _ ?_
  clear hK K
  try simp only [Act.put, List.setIfInBounds_toArray, List.set_cons_zero, List.set_cons_succ]
  refine wpList_store_part rfl 22 (.tmp 78) (.tmp 77) rfl rfl g7 33 (M.mark.map B8) rfl rfl _ _ b11 (info40.trans (by rw [List.length_map, hlen.2])) (by rw [List.length_map, hlen.2, len_rC (m := (altM M M.rnd K1)) ⟨hlen.1, hKl⟩]; decide) (fun v hv => by obtain ⟨x, _, rfl⟩ := List.mem_map.1 hv; rfl) ?_
  intro wc b12 hgs
  rw [rC_splK (m := (altM M M.rnd K1)) ⟨hlen.1, hKl⟩ hlen.2] at b12
  try simp only [Act.put, List.setIfInBounds_toArray, List.set_cons_zero, List.set_cons_succ]
  replace b12 : Blk wc g7 25 (rC (altM M M.rnd M.mark) vc) := b12
  have hbb := below_new hba hgs HG7.out hba.size
  have ba' : Blk wc g 25 (rC M vc) := by rw [← hcs2]; exact b6.below hbb b6.lt
  clear hba hgs ba b11 hcK hcP hcR
  have hba := hbb
  have ba := ba'
  clear hbb ba'
  have hcK : wc.cell? ⟨g, 0, none⟩ = some (.int .i64 2) := by rw [← HKI.out]; exact ba.cell 0
  have hcP : wc.cell? ⟨g, 73, none⟩ = some (.bool false) := by rw [← HPS.out]; exact (ba.cell (65 + 8)).trans (mC_get hlen.1 hlen.2 8)
  have hcR : wc.cell? ⟨g, 74, none⟩ = some (.bool true) := by rw [← HRE.out]; exact (ba.cell (65 + 9)).trans (mC_get hlen.1 hlen.2 9)
  have hal := HelloMath.alter_form HF.out R1 K1 true true (by rw [HKI.out, HRE.out]; rfl) (by rw [HKI.out, HPS.out]; rfl)
  replace hal : formM (altM M M.rnd M.mark) = true ∨ (M.kind = 2 ∧ M.rnd = special) := hal
  have HAL := Lib.hid hal
  have hals := HelloMath.alter_len (m := M) (r := M.rnd) (k := M.mark) rfl rfl
  have HALS := Lib.hid hals
  have HRI := Lib.hid (show RIn wc (altM M M.rnd M.mark) (rC (altM M M.rnd M.mark) vc) from ⟨⟨hlen.1, hlen.2⟩, vc, rfl, hsr.below hba⟩)
  have HBA := Lib.hid (hb16.trans (hba.mono hb16.size))
  have HSA := Lib.hid (show Small (altM M M.rnd M.mark) from HSM.out)
  have HBUF := Lib.hid (hB6.below (hba.mono (Nat.le_refl _)))
  have HLEN := Lib.hid hlen
  have HSR := Lib.hid (hsr.below hba)
  clear hal hals hB6 hsr hb16 hlen
  go_upto_region 12 with (fail)
  clear hcP hcR
  refine wp_region_lit ?_
  refine wpList_load_mid rfl 25 (.tmp 7) rfl g7 0 rfl (rC (altM M M.rnd M.mark) vc) _ (rangeAt_of_blk b12) Tryd.underlying25 rfl (infoR.trans (by rw [HRI.out.len])) ?_
  try simp only [Act.put, List.setIfInBounds_toArray, List.set_cons_zero, List.set_cons_succ]
  refine wpList_plain rfl (fun K hK0 => ?_)
  have hK := Lib.hid hK0
  clear hK0
  go_simp
  go_at_call 10
  refine (to_e (altM M M.rnd M.mark) (rC (altM M M.rnd M.mark) vc) _ HRI.out HSA).mono ?_
  rintro e wd ⟨csd, rfl, hmd, hbd⟩
  try go_wp2_with fail
  refine hK.out _ _ ?_
  clear hK K
  try simp only [Act.put, List.setIfInBounds_toArray, List.set_cons_zero, List.set_cons_succ]
  have HBD := Lib.hid (HBA.out.trans (hbd.mono HBA.out.size))
  have hbdk := hbd
  have bd := ba.below hbd ba.lt
  have bd7 := b12.below hbd b12.lt
  clear hbd ba b12 hba hcK
  have hff : formM (altM M M.rnd M.mark) = true := HF.out
  refine wpList_plain rfl (fun K hK0 => ?_)
  have hK := Lib.hid hK0
  clear hK0
  go_simp
  go_at_call 11
  refine (write_1 (altM M M.rnd M.mark) csd _ (HT.out.below HBD.out) hmd hff).mono ?_
  rintro e we ⟨re, rfl, hBe, hbe⟩
  try go_wp2_with fail
  refine hK.out _ _ ?_
  clear hK K
  try simp only [Act.put, List.setIfInBounds_toArray, List.set_cons_zero, List.set_cons_succ]
  have HBE := Lib.hid (HBD.out.trans (hbe.mono HBD.out.size))
  have be := bd.below hbe bd.lt
  obtain ⟨Ae, ce, hre, -⟩ := hBe
  obtain ⟨A7, c7, hr7, -⟩ := HBUF.out
  subst hre
  subst hr7
  obtain ⟨l, hl⟩ : ∃ l, (wholeM M).length = l := ⟨_, rfl⟩
  have hl2 : (wholeM (altM M M.rnd M.mark)).length = l := HALS.out.trans hl
  simp only [hl2, hl]
  have HL := Lib.hid hl
  clear hbe bd bd7 hmd hl hl2 HBUF hbdk
  refine wpList_plain rfl (fun K hK => ?_)
  go_simp
  refine hK _ _ ?_
  clear hK K
  try simp only [Act.put, List.setIfInBounds_toArray, List.set_cons_zero, List.set_cons_succ]
  refine wpList_plain rfl (fun K hK => ?_)
  go_simp
  refine hK _ _ ?_
  clear hK K
  try simp only [Act.put, List.setIfInBounds_toArray, List.set_cons_zero, List.set_cons_succ]
  refine wpList_plain rfl (fun K hK => ?_)
  go_simp
  refine hK _ _ ?_
  clear hK K
  try simp only [Act.put, List.setIfInBounds_toArray, List.set_cons_zero, List.set_cons_succ]
  refine wpList_plain rfl (fun K hK => ?_)
  go_simp
  refine hK _ _ ?_
  clear hK K
  try simp only [Act.put, List.setIfInBounds_toArray, List.set_cons_zero, List.set_cons_succ]
  refine wpList_plain rfl (fun K hK => ?_)
  go_simp
  refine hK _ _ ?_
  clear hK K
  try simp only [Act.put, List.setIfInBounds_toArray, List.set_cons_zero, List.set_cons_succ]
  go_upto_region 15 with (fail)
  refine wp_region_lit ?_
  refine wpList_makeMI rfl rfl ?_
  intro gm wf0 hgm hm0 hbf0
  try simp only [Act.put, List.setIfInBounds_toArray, List.set_cons_zero, List.set_cons_succ]
  refine wpList_putMI rfl (.tmp 96) _ _ rfl rfl gm #[] 0 8 6 rfl rfl rfl hm0 rfl ?_
  intro wf1 hm1 hgm1
  try simp only [Act.put, List.setIfInBounds_toArray, List.set_cons_zero, List.set_cons_succ]
  refine wpList_putMI rfl (.tmp 96) _ _ rfl rfl gm (#[].push (ent 8 6 0)) 1 13 15 rfl rfl rfl hm1 rfl ?_
  intro wf2 hm2 hgm2
  try simp only [Act.put, List.setIfInBounds_toArray, List.set_cons_zero, List.set_cons_succ]
  refine wpList_putMI rfl (.tmp 96) _ _ rfl rfl gm ((#[].push (ent 8 6 0)).push (ent 13 15 1)) 2 20 36 rfl rfl rfl hm2 rfl ?_
  intro wf3 hm3 hgm3
  try simp only [Act.put, List.setIfInBounds_toArray, List.set_cons_zero, List.set_cons_succ]
  have hbf := hbf0.trans (grown_below (grown_trans (grown_trans hgm1 hgm2) hgm3) (Nat.le_of_eq hgm.symm) hbf0.size)
  have bf := be.below hbf be.lt
  have HBF := Lib.hid (HBE.out.trans (hbf.mono HBE.out.size))
  clear hbf hbf0 hgm1 hgm2 hgm3 hgm hm0 hm1 hm2 be
  have hcK : wf3.cell? ⟨g, 0, none⟩ = some (.int .i64 2) := by rw [← HKI.out]; exact bf.cell 0
  refine wpList_plain rfl (fun K hK => ?_)
  go_simp
  refine hK _ _ ?_
  clear hK K
  try simp only [Act.put, List.setIfInBounds_toArray, List.set_cons_zero, List.set_cons_succ]
  refine wpList_plain rfl (fun K hK => ?_)
  go_simp
  refine hK _ _ ?_
  clear hK K
  try simp only [Act.put, List.setIfInBounds_toArray, List.set_cons_zero, List.set_cons_succ]
  go_upto_region 16 with (fail)
  refine wp_region_lit ?_
  refine wpList_plain rfl (fun K hK => ?_)
  go_simp
  refine hK _ _ ?_
  clear hK K
  try simp only [Act.put, List.setIfInBounds_toArray, List.set_cons_zero, List.set_cons_succ]
  refine wpList_plain rfl (fun K hK => ?_)
  go_simp
  refine hK _ _ ?_
  clear hK K
  try simp only [Act.put, List.setIfInBounds_toArray, List.set_cons_zero, List.set_cons_succ]
  refine wpList_plain rfl (fun K hK => ?_)
  go_simp
  refine hK _ _ ?_
  clear hK K
  try simp only [Act.put, List.setIfInBounds_toArray, List.set_cons_zero, List.set_cons_succ]
  refine wpList_lookMI rfl (.tmp 99) (.tmp 101) rfl gm (((#[].push (ent 8 6 0)).push (ent 13 15 1)).push (ent 20 36 2)) 3 2 rfl rfl hm3 none rfl ?_
  try simp only [Act.put, List.setIfInBounds_toArray, List.set_cons_zero, List.set_cons_succ]
  refine wpList_plain rfl (fun K hK => ?_)
  go_simp
  refine hK _ _ ?_
  clear hK K
  try simp only [Act.put, List.setIfInBounds_toArray, List.set_cons_zero, List.set_cons_succ]
  refine wpList_plain rfl (fun K hK => ?_)
  go_simp
  refine hK _ _ ?_
  clear hK K
  try simp only [Act.put, List.setIfInBounds_toArray, List.set_cons_zero, List.set_cons_succ]
  refine wpList_plain rfl (fun K hK => ?_)
  go_simp
  refine hK _ _ ?_
  clear hK K
  try simp only [Act.put, List.setIfInBounds_toArray, List.set_cons_zero, List.set_cons_succ]
  refine wpList_plain rfl (fun K hK => ?_)
  go_simp
  refine hK _ _ ?_
  clear hK K
  try simp only [Act.put, List.setIfInBounds_toArray, List.set_cons_zero, List.set_cons_succ]
  refine wpList_plain rfl (fun K hK => ?_)
  go_simp
  refine hK _ _ ?_
  clear hK K
  try simp only [Act.put, List.setIfInBounds_toArray, List.set_cons_zero, List.set_cons_succ]
  go_wp2
  go_ret
  exact ⟨rfl, HBF.out⟩
set_option maxRecDepth 100000 in
set_option maxHeartbeats 1000000 in
theorem sizes_4 (m : Msg) (cs : List Value) (y : UInt8) (w : World) (hT : TabH w) (h : RIn w m cs) (hf : formM (tameM m) = true) (HKI : Hid ((tameM m).kind = 4)) (HPS : Hid ((tameM m).psk = false)) (HRE : Hid ((tameM m).retry = false)) : Calls Tryd.prog 8 #[.agg cs.toArray, .int .u8 (y.toNat : Int)] w fun e w' => e = .returned (.bool true) ∧ Below w.heap.size w w' := by
  have HT := Lib.hid hT
  have HF := Lib.hid hf
  clear hT hf
  go_enter Tryd.func8, Tryd.ntmps8
  go_upto_region 0 with (fail)
  refine wp_region_lit ?_
  refine wpList_plain rfl (fun K hK => ?_)
  go_simp
  refine hK _ _ ?_
  clear hK K
  have b1 := Blk.new w 25 cs
  have hb1 : Below w.heap.size w (w.alloc (.cells cs.toArray 25)) := (Below.refl _ _).alloc (Nat.le_refl _) _
  have h1 := h.below hb1
  obtain ⟨g, hg1⟩ : ∃ g, g = w.heap.size := ⟨_, rfl⟩
  rw [← hg1] at b1
  simp only [← hg1]
  have HG := Lib.hid (Nat.le_of_eq hg1.symm)
  clear h hg1
  generalize w.alloc (.cells cs.toArray 25) = w1 at *
  try simp only [Act.put, List.setIfInBounds_toArray, List.set_cons_zero, List.set_cons_succ]
  go_upto_region 1 with (fail)
  refine wp_region_lit ?_
  refine wpList_load_mid rfl 25 (.tmp 2) rfl g 0 rfl cs _ (rangeAt_of_blk b1) Tryd.underlying25 rfl (infoR.trans (by rw [h1.len])) ?_
  try simp only [Act.put, List.setIfInBounds_toArray, List.set_cons_zero, List.set_cons_succ]
  refine wpList_plain rfl (fun K hK0 => ?_)
  have hK := Lib.hid hK0
  clear hK0
  go_simp
  go_at_call 9
  refine (tame_e m cs _ h1).mono ?_
  rintro e w2 ⟨cs2, rfl, hm2, hb2⟩
  try go_wp2_with fail
  refine hK.out _ _ ?_
  clear hK K
  try simp only [Act.put, List.setIfInBounds_toArray, List.set_cons_zero, List.set_cons_succ]
  have b2 := b1.below hb2 b1.lt
  obtain ⟨M, hM⟩ : ∃ M, tameM m = M := ⟨_, rfl⟩
  have HSM := Lib.hid (show Small M by rw [← hM]; exact small_tame m)
  rw [hM] at hm2 HF HKI HPS HRE
  refine wpList_store_blk rfl 25 (.tmp 2) (.tmp 14) rfl rfl g cs2 rfl rfl _ _ b2 (infoR.trans (by rw [hm2.rin.len])) (by rw [hm2.rin.len, h1.len]) hm2.rin.one ?_
  intro w3 b3 hg3
  try simp only [Act.put, List.setIfInBounds_toArray, List.set_cons_zero, List.set_cons_succ]
  replace hm2 := (hm2.kept hg3 b1.lt).rin
  have hb13 := hb1.trans ((hb2.mono hb1.size).trans (grown_below hg3 HG.out (Nat.le_trans hb1.size hb2.size)))
  clear hb2 hb1 hg3 b1 b2 h1 hM
  go_upto_region 2 with (fail)
  refine wp_region_lit ?_
  refine wpList_load_mid rfl 25 (.tmp 2) rfl g 0 rfl cs2 _ (rangeAt_of_blk b3) Tryd.underlying25 rfl (infoR.trans (by rw [hm2.len])) ?_
  try simp only [Act.put, List.setIfInBounds_toArray, List.set_cons_zero, List.set_cons_succ]
  refine wpList_plain rfl (fun K hK0 => ?_)
  have hK := Lib.hid hK0
  clear hK0
  go_simp
  go_at_call 10
  refine (to_e M cs2 _ hm2 HSM).mono ?_
  rintro e w4 ⟨cs4, rfl, hm4, hb4⟩
  try go_wp2_with fail
  refine hK.out _ _ ?_
  clear hK K
  try simp only [Act.put, List.setIfInBounds_toArray, List.set_cons_zero, List.set_cons_succ]
  have b4 := b3.below hb4 b3.lt
  replace hm2 := hm2.below hb4
  have hb14 := hb13.trans (hb4.mono hb13.size)
  clear hb4 hb13 b3
  refine wpList_plain rfl (fun K hK0 => ?_)
  have hK := Lib.hid hK0
  clear hK0
  go_simp
  go_at_call 11
  refine (write_1 M cs4 _ (HT.out.below hb14) hm4 HF.out).mono ?_
  rintro e w5 ⟨r, rfl, hB5, hb5⟩
  try go_wp2_with fail
  refine hK.out _ _ ?_
  clear hK K
  try simp only [Act.put, List.setIfInBounds_toArray, List.set_cons_zero, List.set_cons_succ]
  have b5 := b4.below hb5 b4.lt
  replace hm2 := hm2.below hb5
  have hb15 := hb14.trans (hb5.mono hb14.size)
  have HG4 := Lib.hid (show g < w4.heap.size from b4.lt)
  clear hb5 b4 hm4 hb14
  refine wpList_plain rfl (fun K hK => ?_)
  go_simp
  refine hK _ _ ?_
  clear hK K
  try simp only [Act.put, List.setIfInBounds_toArray, List.set_cons_zero, List.set_cons_succ]
  refine wpList_plain rfl (fun K hK => ?_)
  go_simp
  refine hK _ _ ?_
  clear hK K
  try simp only [Act.put, List.setIfInBounds_toArray, List.set_cons_zero, List.set_cons_succ]
  refine wpList_plain rfl (fun K hK => ?_)
  go_simp
  refine hK _ _ ?_
  clear hK K
  try simp only [Act.put, List.setIfInBounds_toArray, List.set_cons_zero, List.set_cons_succ]
  refine wpList_plain rfl (fun K hK => ?_)
  go_simp
  refine hK _ _ ?_
  clear hK K
  try simp only [Act.put, List.setIfInBounds_toArray, List.set_cons_zero, List.set_cons_succ]
  refine wpList_plain rfl (fun K hK => ?_)
  go_simp
  refine hK _ _ ?_
  clear hK K
  try simp only [Act.put, List.setIfInBounds_toArray, List.set_cons_zero, List.set_cons_succ]
  go_upto_region 5 with (go_at_call 13; refine (hellos_e _ (HT.out.below hb15)).mono ?_; rintro e w6 ⟨rfl, hb6⟩)
  have hb16 := hb15.trans (hb6.mono hb15.size)
  have b6 := b5.below hb6 b5.lt
  have hm6 := hm2.below hb6
  have hB6 := hB5.below hb6
  have HM6 := Lib.hid hm6
  obtain ⟨hlen, vc, hcs2, hsr⟩ := hm6
  clear b5 hm2 hB5 hb15 hb6
  refine wp_region_lit ?_
  refine wpList_load_mid rfl 25 (.tmp 2) rfl g 0 rfl cs2 _ (rangeAt_of_blk b6) Tryd.underlying25 rfl (infoR.trans (by rw [hcs2]; exact congrArg some (mC_length hlen.1 hlen.2).symm)) ?_
  try simp only [Act.put, List.setIfInBounds_toArray, List.set_cons_zero, List.set_cons_succ]
  refine wpList_new_blk rfl 25 rfl _ zeroR ?_
  intro g7 w7 hg7 b7 hb7
  try simp only [Act.put, List.setIfInBounds_toArray, List.set_cons_zero, List.set_cons_succ]
  have HG7 := Lib.hid (show w6.heap.size ≤ g7 by rw [hg7]; exact Nat.le_refl _)
  refine wpList_store_blk rfl 25 (.tmp 7) (.tmp 28) rfl rfl g7 cs2 rfl rfl _ _ b7 (infoR.trans (by rw [hcs2]; exact congrArg some (mC_length hlen.1 hlen.2).symm)) (by rw [hcs2]; exact (rC_zero.trans (mC_length hlen.1 hlen.2).symm)) (by obtain ⟨Av, cv, rfl, _⟩ := hsr; rw [hcs2]; exact one_rC) ?_
  intro w8 b8 hg8
  try simp only [Act.put, List.setIfInBounds_toArray, List.set_cons_zero, List.set_cons_succ]
  have hb68 := hb7.trans (grown_below hg8 HG7.out hb7.size)
  clear hb7 hg8 hg7 b7
  rw [hcs2] at b8
  obtain ⟨x3, hx3⟩ : ∃ x : UInt8, M.rnd.getD 3 0 = x := ⟨_, rfl⟩
  obtain ⟨x5, hx5⟩ : ∃ x : UInt8, M.mark.getD 5 0 = x := ⟨_, rfl⟩
  have hc4 : w8.cell? ⟨g7, 4, none⟩ = some (.int .u8 (x3.toNat : Int)) := by rw [b8.cell, rC, mC_rnd hlen.1 3 (by decide), getD_map8 _ 3 (by rw [hlen.1]; decide), hx3]
  have hfz := b8.frozen 4
  have hxo := xor_u8 x3 y
  go_upto_region 7 with (fail)
  rw [← UInt8.toNat_xor]
  clear hc4 hfz hxo
  have b9 := b8.set_ 4 (B8 (x3 ^^^ y))
  rw [show (4 : Nat) = 1 + 3 from rfl, rC_setR 3 (by decide) hlen.1] at b9
  obtain ⟨R1, hR1⟩ : ∃ R, M.rnd.set 3 (x3 ^^^ y) = R := ⟨_, rfl⟩
  rw [hR1] at b9
  have hRl : R1.length = 32 := by rw [← hR1, List.length_set]; exact hlen.1
  have hb69 := grown_cellB hb68 hb68.size g7 4 (B8 (x3 ^^^ y)) HG7.out
  replace b9 : Blk (w8.setCell ⟨g7, 4, none⟩ (.int .u8 ((x3 ^^^ y).toNat : Int))) g7 25 (rC { M with rnd := R1 } vc) := b9
  replace hb69 : Below w6.heap.size w6 (w8.setCell ⟨g7, 4, none⟩ (.int .u8 ((x3 ^^^ y).toNat : Int))) := hb69
  generalize w8.setCell ⟨g7, 4, none⟩ (.int .u8 ((x3 ^^^ y).toNat : Int)) = w9 at *
  clear b8 hb68
  have hc5 : w9.cell? ⟨g7, 38, none⟩ = some (.int .u8 (x5.toNat : Int)) := by rw [b9.cell, rC, mC_mark (m := { M with rnd := R1 }) hRl hlen.2 5 (by decide), getD_map8 _ 5 (by rw [hlen.2]; decide), hx5]
  have hfz := b9.frozen 38
  have hxo := xor_u8 x5 y
  go_upto_region 8 with (fail)
  rw [← UInt8.toNat_xor]
  clear hc5 hfz hxo
  have b10 := b9.set_ 38 (B8 (x5 ^^^ y))
  rw [show (38 : Nat) = 33 + 5 from rfl, rC_setK (m := { M with rnd := R1 }) 5 (by decide) hRl hlen.2] at b10
  replace b10 : Blk (w9.setCell ⟨g7, 38, none⟩ (.int .u8 ((x5 ^^^ y).toNat : Int))) g7 25 (rC (altM M R1 (M.mark.set 5 (x5 ^^^ y))) vc) := b10
  obtain ⟨K1, hK1⟩ : ∃ R, M.mark.set 5 (x5 ^^^ y) = R := ⟨_, rfl⟩
  rw [hK1] at b10
  have hKl : K1.length = 32 := by rw [← hK1, List.length_set]; exact hlen.2
  have hba := grown_cellB hb69 hb69.size g7 38 (B8 (x5 ^^^ y)) HG7.out
  replace hba : Below w6.heap.size w6 (w9.setCell ⟨g7, 38, none⟩ (.int .u8 ((x5 ^^^ y).toNat : Int))) := hba
  generalize w9.setCell ⟨g7, 38, none⟩ (.int .u8 ((x5 ^^^ y).toNat : Int)) = wa at *
  clear b9 hb69
  obtain ⟨z3, hz3⟩ : ∃ z, x3 ^^^ y = z := ⟨_, rfl⟩
  obtain ⟨z5, hz5⟩ : ∃ z, x5 ^^^ y = z := ⟨_, rfl⟩
  simp only [hz3, hz5]
  clear hz3 hz5 hx3 hx5
  have ba : Blk wa g 25 (rC M vc) := by rw [← hcs2]; exact b6.below hba b6.lt
  have hcK : wa.cell? ⟨g, 0, none⟩ = some (.int .i64 4) := by rw [← HKI.out]; exact ba.cell 0
  have hcP : wa.cell? ⟨g, 73, none⟩ = some (.bool false) := by rw [← HPS.out]; exact (ba.cell (65 + 8)).trans (mC_get hlen.1 hlen.2 8)
  have hcR : wa.cell? ⟨g, 74, none⟩ = some (.bool false) := by rw [← HRE.out]; exact (ba.cell (65 + 9)).trans (mC_get hlen.1 hlen.2 9)
  go_upto_region 9 with (fail)
  refine wp_region_lit ?_
  refine wpList_plain rfl (fun K hK => ?_)
  go_simp
  refine hK _ _ ?_
  clear hK K
  try simp only [Act.put, List.setIfInBounds_toArray, List.set_cons_zero, List.set_cons_succ]
  refine wpList_load_mid rfl 22 (.tmp 55) rfl g 1 rfl (M.rnd.map B8) _ (RAt.rnd (m := M) ⟨rC M vc, ba, hlen, vc, rfl, hsr.below hba⟩) Tryd.underlying22 rfl (info40.trans (by rw [List.length_map, hlen.1])) ?_
  try simp only [Act.put, List.setIfInBounds_toArray, List.set_cons_zero, List.set_cons_succ]
  refine wpList_plain rfl (fun K hK => ?_)
  go_simp
  refine hK _ _ ?_
  clear hK K
  try simp only [Act.put, List.setIfInBounds_toArray, List.set_cons_zero, List.set_cons_succ]
  refine wpList_store_part rfl 22 (.tmp 57) (.tmp 56) rfl rfl g7 1 (M.rnd.map B8) rfl rfl _ _ b10 (info40.trans (by rw [List.length_map, hlen.1])) (by rw [List.length_map, hlen.1, len_rC (m := (altM M R1 K1)) ⟨hRl, hKl⟩]; decide) (fun v hv => by obtain ⟨x, _, rfl⟩ := List.mem_map.1 hv; rfl) ?_
  intro wb b11 hgs
  rw [rC_splR (m := (altM M R1 K1)) ⟨hRl, hKl⟩ hlen.1] at b11
  try simp only [Act.put, List.setIfInBounds_toArray, List.set_cons_zero, List.set_cons_succ]
  replace b11 : Blk wb g7 25 (rC (altM M M.rnd K1) vc) := b11
  have hbb := below_new hba hgs HG7.out hba.size
  have ba' : Blk wb g 25 (rC M vc) := by rw [← hcs2]; exact b6.below hbb b6.lt
  clear hba hgs ba b10 hcK hcP hcR
  have hba := hbb
  have ba := ba'
  clear hbb ba'
  have hcK : wb.cell? ⟨g, 0, none⟩ = some (.int .i64 4) := by rw [← HKI.out]; exact ba.cell 0
  have hcP : wb.cell? ⟨g, 73, none⟩ = some (.bool false) := by rw [← HPS.out]; exact (ba.cell (65 + 8)).trans (mC_get hlen.1 hlen.2 8)
  have hcR : wb.cell? ⟨g, 74, none⟩ = some (.bool false) := by rw [← HRE.out]; exact (ba.cell (65 + 9)).trans (mC_get hlen.1 hlen.2 9)
  go_upto_region 11 with (fail)
  refine wp_region_lit ?_
  refine wpList_plain rfl (fun K hK => ?_)
  go_simp
  refine hK _ _ ?_
  clear hK K
  try simp only [Act.put, List.setIfInBounds_toArray, List.set_cons_zero, List.set_cons_succ]
  refine wpList_load_mid rfl 22 (.tmp 76) rfl g 33 rfl (M.mark.map B8) _ (RAt.mark (m := M) ⟨rC M vc, ba, hlen, vc, rfl, hsr.below hba⟩) Tryd.underlying22 rfl (info40.trans (by rw [List.length_map, hlen.2])) ?_
  try simp only [Act.put, List.setIfInBounds_toArray, List.set_cons_zero, List.set_cons_succ]
  refine wpList_plain rfl (fun K hK => ?_)
  go_simp
  refine hK _ _ ?_
  clear hK K
  try simp only [Act.put, List.setIfInBounds_toArray, List.set_cons_zero, List.set_cons_succ]
  refine wpList_store_part rfl 22 (.tmp 78) (.tmp 77) rfl rfl g7 33 (M.mark.map B8) rfl rfl _ _ b11 (info40.trans (by rw [List.length_map, hlen.2])) (by rw [List.length_map, hlen.2, len_rC (m := (altM M M.rnd K1)) ⟨hlen.1, hKl⟩]; decide) (fun v hv => by obtain ⟨x, _, rfl⟩ := List.mem_map.1 hv; rfl) ?_
  intro wc b12 hgs
  rw [rC_splK (m := (altM M M.rnd K1)) ⟨hlen.1, hKl⟩ hlen.2] at b12
  try simp only [Act.put, List.setIfInBounds_toArray, List.set_cons_zero, List.set_cons_succ]
  replace b12 : Blk wc g7 25 (rC (altM M M.rnd M.mark) vc) := b12
  have hbb := below_new hba hgs HG7.out hba.size
  have ba' : Blk wc g 25 (rC M vc) := by rw [← hcs2]; exact b6.below hbb b6.lt
  clear hba hgs ba b11 hcK hcP hcR
  have hba := hbb
  have ba := ba'
  clear hbb ba'
  have hcK : wc.cell? ⟨g, 0, none⟩ = some (.int .i64 4) := by rw [← HKI.out]; exact ba.cell 0
  have hcP : wc.cell? ⟨g, 73, none⟩ = some (.bool false) := by rw [← HPS.out]; exact (ba.cell (65 + 8)).trans (mC_get hlen.1 hlen.2 8)
  have hcR : wc.cell? ⟨g, 74, none⟩ = some (.bool false) := by rw [← HRE.out]; exact (ba.cell (65 + 9)).trans (mC_get hlen.1 hlen.2 9)
  have hal := HelloMath.alter_form HF.out R1 K1 true true (by rw [HKI.out, HRE.out]; rfl) (by rw [HKI.out, HPS.out]; rfl)
  replace hal : formM (altM M M.rnd M.mark) = true ∨ (M.kind = 2 ∧ M.rnd = special) := hal
  have HAL := Lib.hid hal
  have hals := HelloMath.alter_len (m := M) (r := M.rnd) (k := M.mark) rfl rfl
  have HALS := Lib.hid hals
  have HRI := Lib.hid (show RIn wc (altM M M.rnd M.mark) (rC (altM M M.rnd M.mark) vc) from ⟨⟨hlen.1, hlen.2⟩, vc, rfl, hsr.below hba⟩)
  have HBA := Lib.hid (hb16.trans (hba.mono hb16.size))
  have HSA := Lib.hid (show Small (altM M M.rnd M.mark) from HSM.out)
  have HBUF := Lib.hid (hB6.below (hba.mono (Nat.le_refl _)))
  have HLEN := Lib.hid hlen
  have HSR := Lib.hid (hsr.below hba)
  clear hal hals hB6 hsr hb16 hlen
  go_upto_region 12 with (fail)
  clear hcP hcR
  refine wp_region_lit ?_
  refine wpList_load_mid rfl 25 (.tmp 7) rfl g7 0 rfl (rC (altM M M.rnd M.mark) vc) _ (rangeAt_of_blk b12) Tryd.underlying25 rfl (infoR.trans (by rw [HRI.out.len])) ?_
  try simp only [Act.put, List.setIfInBounds_toArray, List.set_cons_zero, List.set_cons_succ]
  refine wpList_plain rfl (fun K hK0 => ?_)
  have hK := Lib.hid hK0
  clear hK0
  go_simp
  go_at_call 10
  refine (to_e (altM M M.rnd M.mark) (rC (altM M M.rnd M.mark) vc) _ HRI.out HSA).mono ?_
  rintro e wd ⟨csd, rfl, hmd, hbd⟩
  try go_wp2_with fail
  refine hK.out _ _ ?_
  clear hK K
  try simp only [Act.put, List.setIfInBounds_toArray, List.set_cons_zero, List.set_cons_succ]
  have HBD := Lib.hid (HBA.out.trans (hbd.mono HBA.out.size))
  have hbdk := hbd
  have bd := ba.below hbd ba.lt
  have bd7 := b12.below hbd b12.lt
  clear hbd ba b12 hba hcK
  have hff : formM (altM M M.rnd M.mark) = true := by
    rcases HAL.out with h | h
    · exact h
    · exact absurd h.1 (by rw [HKI.out]; decide)
  refine wpList_plain rfl (fun K hK0 => ?_)
  have hK := Lib.hid hK0
  clear hK0
  go_simp
  go_at_call 11
  refine (write_1 (altM M M.rnd M.mark) csd _ (HT.out.below HBD.out) hmd hff).mono ?_
  rintro e we ⟨re, rfl, hBe, hbe⟩
  try go_wp2_with fail
  refine hK.out _ _ ?_
  clear hK K
  try simp only [Act.put, List.setIfInBounds_toArray, List.set_cons_zero, List.set_cons_succ]
  have HBE := Lib.hid (HBD.out.trans (hbe.mono HBD.out.size))
  have be := bd.below hbe bd.lt
  obtain ⟨Ae, ce, hre, -⟩ := hBe
  obtain ⟨A7, c7, hr7, -⟩ := HBUF.out
  subst hre
  subst hr7
  obtain ⟨l, hl⟩ : ∃ l, (wholeM M).length = l := ⟨_, rfl⟩
  have hl2 : (wholeM (altM M M.rnd M.mark)).length = l := HALS.out.trans hl
  simp only [hl2, hl]
  have HL := Lib.hid hl
  clear hbe bd bd7 hmd hl hl2 HBUF hbdk
  refine wpList_plain rfl (fun K hK => ?_)
  go_simp
  refine hK _ _ ?_
  clear hK K
  try simp only [Act.put, List.setIfInBounds_toArray, List.set_cons_zero, List.set_cons_succ]
  refine wpList_plain rfl (fun K hK => ?_)
  go_simp
  refine hK _ _ ?_
  clear hK K
  try simp only [Act.put, List.setIfInBounds_toArray, List.set_cons_zero, List.set_cons_succ]
  refine wpList_plain rfl (fun K hK => ?_)
  go_simp
  refine hK _ _ ?_
  clear hK K
  try simp only [Act.put, List.setIfInBounds_toArray, List.set_cons_zero, List.set_cons_succ]
  refine wpList_plain rfl (fun K hK => ?_)
  go_simp
  refine hK _ _ ?_
  clear hK K
  try simp only [Act.put, List.setIfInBounds_toArray, List.set_cons_zero, List.set_cons_succ]
  refine wpList_plain rfl (fun K hK => ?_)
  go_simp
  refine hK _ _ ?_
  clear hK K
  try simp only [Act.put, List.setIfInBounds_toArray, List.set_cons_zero, List.set_cons_succ]
  go_upto_region 15 with (fail)
  refine wp_region_lit ?_
  refine wpList_makeMI rfl rfl ?_
  intro gm wf0 hgm hm0 hbf0
  try simp only [Act.put, List.setIfInBounds_toArray, List.set_cons_zero, List.set_cons_succ]
  refine wpList_putMI rfl (.tmp 96) _ _ rfl rfl gm #[] 0 8 6 rfl rfl rfl hm0 rfl ?_
  intro wf1 hm1 hgm1
  try simp only [Act.put, List.setIfInBounds_toArray, List.set_cons_zero, List.set_cons_succ]
  refine wpList_putMI rfl (.tmp 96) _ _ rfl rfl gm (#[].push (ent 8 6 0)) 1 13 15 rfl rfl rfl hm1 rfl ?_
  intro wf2 hm2 hgm2
  try simp only [Act.put, List.setIfInBounds_toArray, List.set_cons_zero, List.set_cons_succ]
  refine wpList_putMI rfl (.tmp 96) _ _ rfl rfl gm ((#[].push (ent 8 6 0)).push (ent 13 15 1)) 2 20 36 rfl rfl rfl hm2 rfl ?_
  intro wf3 hm3 hgm3
  try simp only [Act.put, List.setIfInBounds_toArray, List.set_cons_zero, List.set_cons_succ]
  have hbf := hbf0.trans (grown_below (grown_trans (grown_trans hgm1 hgm2) hgm3) (Nat.le_of_eq hgm.symm) hbf0.size)
  have bf := be.below hbf be.lt
  have HBF := Lib.hid (HBE.out.trans (hbf.mono HBE.out.size))
  clear hbf hbf0 hgm1 hgm2 hgm3 hgm hm0 hm1 hm2 be
  have hcK : wf3.cell? ⟨g, 0, none⟩ = some (.int .i64 4) := by rw [← HKI.out]; exact bf.cell 0
  refine wpList_plain rfl (fun K hK => ?_)
  go_simp
  refine hK _ _ ?_
  clear hK K
  try simp only [Act.put, List.setIfInBounds_toArray, List.set_cons_zero, List.set_cons_succ]
  refine wpList_plain rfl (fun K hK => ?_)
  go_simp
  refine hK _ _ ?_
  clear hK K
  try simp only [Act.put, List.setIfInBounds_toArray, List.set_cons_zero, List.set_cons_succ]
  go_upto_region 16 with (fail)
  refine wp_region_lit ?_
  refine wpList_plain rfl (fun K hK => ?_)
  go_simp
  refine hK _ _ ?_
  clear hK K
  try simp only [Act.put, List.setIfInBounds_toArray, List.set_cons_zero, List.set_cons_succ]
  refine wpList_plain rfl (fun K hK => ?_)
  go_simp
  refine hK _ _ ?_
  clear hK K
  try simp only [Act.put, List.setIfInBounds_toArray, List.set_cons_zero, List.set_cons_succ]
  refine wpList_plain rfl (fun K hK => ?_)
  go_simp
  refine hK _ _ ?_
  clear hK K
  try simp only [Act.put, List.setIfInBounds_toArray, List.set_cons_zero, List.set_cons_succ]
  refine wpList_lookMI rfl (.tmp 99) (.tmp 101) rfl gm (((#[].push (ent 8 6 0)).push (ent 13 15 1)).push (ent 20 36 2)) 3 4 rfl rfl hm3 none rfl ?_
  try simp only [Act.put, List.setIfInBounds_toArray, List.set_cons_zero, List.set_cons_succ]
  refine wpList_plain rfl (fun K hK => ?_)
  go_simp
  refine hK _ _ ?_
  clear hK K
  try simp only [Act.put, List.setIfInBounds_toArray, List.set_cons_zero, List.set_cons_succ]
  refine wpList_plain rfl (fun K hK => ?_)
  go_simp
  refine hK _ _ ?_
  clear hK K
  try simp only [Act.put, List.setIfInBounds_toArray, List.set_cons_zero, List.set_cons_succ]
  refine wpList_plain rfl (fun K hK => ?_)
  go_simp
  refine hK _ _ ?_
  clear hK K
  try simp only [Act.put, List.setIfInBounds_toArray, List.set_cons_zero, List.set_cons_succ]
  refine wpList_plain rfl (fun K hK => ?_)
  go_simp
  refine hK _ _ ?_
  clear hK K
  try simp only [Act.put, List.setIfInBounds_toArray, List.set_cons_zero, List.set_cons_succ]
  refine wpList_plain rfl (fun K hK => ?_)
  go_simp
  refine hK _ _ ?_
  clear hK K
  try simp only [Act.put, List.setIfInBounds_toArray, List.set_cons_zero, List.set_cons_succ]
  go_wp2
  go_ret
  exact ⟨rfl, HBF.out⟩
set_option maxRecDepth 100000 in
set_option maxHeartbeats 1000000 in
theorem sizes_8 (m : Msg) (cs : List Value) (y : UInt8) (w : World) (hT : TabH w) (h : RIn w m cs) (hf : formM (tameM m) = true) (HKI : Hid ((tameM m).kind = 8)) (HPS : Hid ((tameM m).psk = false)) (HRE : Hid ((tameM m).retry = false)) : Calls Tryd.prog 8 #[.agg cs.toArray, .int .u8 (y.toNat : Int)] w fun e w' => e = .returned (.bool true) ∧ Below w.heap.size w w' := by
  have HT := Lib.hid hT
  have HF := Lib.hid hf
  clear hT hf
  go_enter Tryd.func8, Tryd.ntmps8
  go_upto_region 0 with (fail)
  refine wp_region_lit ?_
  refine wpList_plain rfl (fun K hK => ?_)
  go_simp
  refine hK _ _ ?_
  clear hK K
  have b1 := Blk.new w 25 cs
  have hb1 : Below w.heap.size w (w.alloc (.cells cs.toArray 25)) := (Below.refl _ _).alloc (Nat.le_refl _) _
  have h1 := h.below hb1
  obtain ⟨g, hg1⟩ : ∃ g, g = w.heap.size := ⟨_, rfl⟩
  rw [← hg1] at b1
  simp only [← hg1]
  have HG := Lib.hid (Nat.le_of_eq hg1.symm)
  clear h hg1
  generalize w.alloc (.cells cs.toArray 25) = w1 at *
  try simp only [Act.put, List.setIfInBounds_toArray, List.set_cons_zero, List.set_cons_succ]
  go_upto_region 1 with (fail)
  refine wp_region_lit ?_
  refine wpList_load_mid rfl 25 (.tmp 2) rfl g 0 rfl cs _ (rangeAt_of_blk b1) Tryd.underlying25 rfl (infoR.trans (by rw [h1.len])) ?_
  try simp only [Act.put, List.setIfInBounds_toArray, List.set_cons_zero, List.set_cons_succ]
  refine wpList_plain rfl (fun K hK0 => ?_)
  have hK := Lib.hid hK0
  clear hK0
  go_simp
  go_at_call 9
  refine (tame_e m cs _ h1).mono ?_
  rintro e w2 ⟨cs2, rfl, hm2, hb2⟩
  try go_wp2_with fail
  refine hK.out _ _ ?_
  clear hK K
  try simp only [Act.put, List.setIfInBounds_toArray, List.set_cons_zero, List.set_cons_succ]
  have b2 := b1.below hb2 b1.lt
  obtain ⟨M, hM⟩ : ∃ M, tameM m = M := ⟨_, rfl⟩
  have HSM := Lib.hid (show Small M by rw [← hM]; exact small_tame m)
  rw [hM] at hm2 HF HKI HPS HRE
  refine wpList_store_blk rfl 25 (.tmp 2) (.tmp 14) rfl rfl g cs2 rfl rfl _ _ b2 (infoR.trans (by rw [hm2.rin.len])) (by rw [hm2.rin.len, h1.len]) hm2.rin.one ?_
  intro w3 b3 hg3
  try simp only [Act.put, List.setIfInBounds_toArray, List.set_cons_zero, List.set_cons_succ]
  replace hm2 := (hm2.kept hg3 b1.lt).rin
  have hb13 := hb1.trans ((hb2.mono hb1.size).trans (grown_below hg3 HG.out (Nat.le_trans hb1.size hb2.size)))
  clear hb2 hb1 hg3 b1 b2 h1 hM
  go_upto_region 2 with (fail)
  refine wp_region_lit ?_
  refine wpList_load_mid rfl 25 (.tmp 2) rfl g 0 rfl cs2 _ (rangeAt_of_blk b3) Tryd.underlying25 rfl (infoR.trans (by rw [hm2.len])) ?_
  try simp only [Act.put, List.setIfInBounds_toArray, List.set_cons_zero, List.set_cons_succ]
  refine wpList_plain rfl (fun K hK0 => ?_)
  have hK := Lib.hid hK0
  clear hK0
  go_simp
  go_at_call 10
  refine (to_e M cs2 _ hm2 HSM).mono ?_
  rintro e w4 ⟨cs4, rfl, hm4, hb4⟩
  try go_wp2_with fail
  refine hK.out _ _ ?_
  clear hK K
  try simp only [Act.put, List.setIfInBounds_toArray, List.set_cons_zero, List.set_cons_succ]
  have b4 := b3.below hb4 b3.lt
  replace hm2 := hm2.below hb4
  have hb14 := hb13.trans (hb4.mono hb13.size)
  clear hb4 hb13 b3
  refine wpList_plain rfl (fun K hK0 => ?_)
  have hK := Lib.hid hK0
  clear hK0
  go_simp
  go_at_call 11
  refine (write_1 M cs4 _ (HT.out.below hb14) hm4 HF.out).mono ?_
  rintro e w5 ⟨r, rfl, hB5, hb5⟩
  try go_wp2_with fail
  refine hK.out _ _ ?_
  clear hK K
  try simp only [Act.put, List.setIfInBounds_toArray, List.set_cons_zero, List.set_cons_succ]
  have b5 := b4.below hb5 b4.lt
  replace hm2 := hm2.below hb5
  have hb15 := hb14.trans (hb5.mono hb14.size)
  have HG4 := Lib.hid (show g < w4.heap.size from b4.lt)
  clear hb5 b4 hm4 hb14
  refine wpList_plain rfl (fun K hK => ?_)
  go_simp
  refine hK _ _ ?_
  clear hK K
  try simp only [Act.put, List.setIfInBounds_toArray, List.set_cons_zero, List.set_cons_succ]
  refine wpList_plain rfl (fun K hK => ?_)
  go_simp
  refine hK _ _ ?_
  clear hK K
  try simp only [Act.put, List.setIfInBounds_toArray, List.set_cons_zero, List.set_cons_succ]
  refine wpList_plain rfl (fun K hK => ?_)
  go_simp
  refine hK _ _ ?_
  clear hK K
  try simp only [Act.put, List.setIfInBounds_toArray, List.set_cons_zero, List.set_cons_succ]
  refine wpList_plain rfl (fun K hK => ?_)
  go_simp
  refine hK _ _ ?_
  clear hK K
  try simp only [Act.put, List.setIfInBounds_toArray, List.set_cons_zero, List.set_cons_succ]
  refine wpList_plain rfl (fun K hK => ?_)
  go_simp
  refine hK _ _ ?_
  clear hK K
  try simp only [Act.put, List.setIfInBounds_toArray, List.set_cons_zero, List.set_cons_succ]
  go_upto_region 5 with (go_at_call 13; refine (hellos_e _ (HT.out.below hb15)).mono ?_; rintro e w6 ⟨rfl, hb6⟩)
  have hb16 := hb15.trans (hb6.mono hb15.size)
  have b6 := b5.below hb6 b5.lt
  have hm6 := hm2.below hb6
  have hB6 := hB5.below hb6
  have HM6 := Lib.hid hm6
  obtain ⟨hlen, vc, hcs2, hsr⟩ := hm6
  clear b5 hm2 hB5 hb15 hb6
  refine wp_region_lit ?_
  refine wpList_load_mid rfl 25 (.tmp 2) rfl g 0 rfl cs2 _ (rangeAt_of_blk b6) Tryd.underlying25 rfl (infoR.trans (by rw [hcs2]; exact congrArg some (mC_length hlen.1 hlen.2).symm)) ?_
  try simp only [Act.put, List.setIfInBounds_toArray, List.set_cons_zero, List.set_cons_succ]
  refine wpList_new_blk rfl 25 rfl _ zeroR ?_
  intro g7 w7 hg7 b7 hb7
  try simp only [Act.put, List.setIfInBounds_toArray, List.set_cons_zero, List.set_cons_succ]
  have HG7 := Lib.hid (show w6.heap.size ≤ g7 by rw [hg7]; exact Nat.le_refl _)
  refine wpList_store_blk rfl 25 (.tmp 7) (.tmp 28) rfl rfl g7 cs2 rfl rfl _ _ b7 (infoR.trans (by rw [hcs2]; exact congrArg some (mC_length hlen.1 hlen.2).symm)) (by rw [hcs2]; exact (rC_zero.trans (mC_length hlen.1 hlen.2).symm)) (by obtain ⟨Av, cv, rfl, _⟩ := hsr; rw [hcs2]; exact one_rC) ?_
  intro w8 b8 hg8
  try simp only [Act.put, List.setIfInBounds_toArray, List.set_cons_zero, List.set_cons_succ]
  have hb68 := hb7.trans (grown_below hg8 HG7.out hb7.size)
  clear hb7 hg8 hg7 b7
  rw [hcs2] at b8
  obtain ⟨x3, hx3⟩ : ∃ x : UInt8, M.rnd.getD 3 0 = x := ⟨_, rfl⟩
  obtain ⟨x5, hx5⟩ : ∃ x : UInt8, M.mark.getD 5 0 = x := ⟨_, rfl⟩
  have hc4 : w8.cell? ⟨g7, 4, none⟩ = some (.int .u8 (x3.toNat : Int)) := by rw [b8.cell, rC, mC_rnd hlen.1 3 (by decide), getD_map8 _ 3 (by rw [hlen.1]; decide), hx3]
  have hfz := b8.frozen 4
  have hxo := xor_u8 x3 y
  go_upto_region 7 with (fail)
  rw [← UInt8.toNat_xor]
  clear hc4 hfz hxo
  have b9 := b8.set_ 4 (B8 (x3 ^^^ y))
  rw [show (4 : Nat) = 1 + 3 from rfl, rC_setR 3 (by decide) hlen.1] at b9
  obtain ⟨R1, hR1⟩ : ∃ R, M.rnd.set 3 (x3 ^^^ y) = R := ⟨_, rfl⟩
  rw [hR1] at b9
  have hRl : R1.length = 32 := by rw [← hR1, List.length_set]; exact hlen.1
  have hb69 := grown_cellB hb68 hb68.size g7 4 (B8 (x3 ^^^ y)) HG7.out
  replace b9 : Blk (w8.setCell ⟨g7, 4, none⟩ (.int .u8 ((x3 ^^^ y).toNat : Int))) g7 25 (rC { M with rnd := R1 } vc) := b9
  replace hb69 : Below w6.heap.size w6 (w8.setCell ⟨g7, 4, none⟩ (.int .u8 ((x3 ^^^ y).toNat : Int))) := hb69
  generalize w8.setCell ⟨g7, 4, none⟩ (.int .u8 ((x3 ^^^ y).toNat : Int)) = w9 at *
  clear b8 hb68
  have hc5 : w9.cell? ⟨g7, 38, none⟩ = some (.int .u8 (x5.toNat : Int)) := by rw [b9.cell, rC, mC_mark (m := { M with rnd := R1 }) hRl hlen.2 5 (by decide), getD_map8 _ 5 (by rw [hlen.2]; decide), hx5]
  have hfz := b9.frozen 38
  have hxo := xor_u8 x5 y
  go_upto_region 8 with (fail)
  rw [← UInt8.toNat_xor]
  clear hc5 hfz hxo
  have b10 := b9.set_ 38 (B8 (x5 ^^^ y))
  rw [show (38 : Nat) = 33 + 5 from rfl, rC_setK (m := { M with rnd := R1 }) 5 (by decide) hRl hlen.2] at b10
  replace b10 : Blk (w9.setCell ⟨g7, 38, none⟩ (.int .u8 ((x5 ^^^ y).toNat : Int))) g7 25 (rC (altM M R1 (M.mark.set 5 (x5 ^^^ y))) vc) := b10
  obtain ⟨K1, hK1⟩ : ∃ R, M.mark.set 5 (x5 ^^^ y) = R := ⟨_, rfl⟩
  rw [hK1] at b10
  have hKl : K1.length = 32 := by rw [← hK1, List.length_set]; exact hlen.2
  have hba := grown_cellB hb69 hb69.size g7 38 (B8 (x5 ^^^ y)) HG7.out
  replace hba : Below w6.heap.size w6 (w9.setCell ⟨g7, 38, none⟩ (.int .u8 ((x5 ^^^ y).toNat : Int))) := hba
  generalize w9.setCell ⟨g7, 38, none⟩ (.int .u8 ((x5 ^^^ y).toNat : Int)) = wa at *
  clear b9 hb69
  obtain ⟨z3, hz3⟩ : ∃ z, x3 ^^^ y = z := ⟨_, rfl⟩
  obtain ⟨z5, hz5⟩ : ∃ z, x5 ^^^ y = z := ⟨_, rfl⟩
  simp only [hz3, hz5]
  clear hz3 hz5 hx3 hx5
  have ba : Blk wa g 25 (rC M vc) := by rw [← hcs2]; exact b6.below hba b6.lt
  have hcK : wa.cell? ⟨g, 0, none⟩ = some (.int .i64 8) := by rw [← HKI.out]; exact ba.cell 0
  have hcP : wa.cell? ⟨g, 73, none⟩ = some (.bool false) := by rw [← HPS.out]; exact (ba.cell (65 + 8)).trans (mC_get hlen.1 hlen.2 8)
  have hcR : wa.cell? ⟨g, 74, none⟩ = some (.bool false) := by rw [← HRE.out]; exact (ba.cell (65 + 9)).trans (mC_get hlen.1 hlen.2 9)
  go_upto_region 9 with (fail)
  refine wp_region_lit ?_
  refine wpList_plain rfl (fun K hK => ?_)
  go_simp
  refine hK _ _ ?_
  clear hK K
  try simp only [Act.put, List.setIfInBounds_toArray, List.set_cons_zero, List.set_cons_succ]
  refine wpList_load_mid rfl 22 (.tmp 55) rfl g 1 rfl (M.rnd.map B8) _ (RAt.rnd (m := M) ⟨rC M vc, ba, hlen, vc, rfl, hsr.below hba⟩) Tryd.underlying22 rfl (info40.trans (by rw [List.length_map, hlen.1])) ?_
  try simp only [Act.put, List.setIfInBounds_toArray, List.set_cons_zero, List.set_cons_succ]
  refine wpList_plain rfl (fun K hK => ?_)
  go_simp
  refine hK _ _ ?_
  clear hK K
  try simp only [Act.put, List.setIfInBounds_toArray, List.set_cons_zero, List.set_cons_succ]
  refine wpList_store_part rfl 22 (.tmp 57) (.tmp 56) rfl rfl g7 1 (M.rnd.map B8) rfl rfl _ _ b10 (info40.trans (by rw [List.length_map, hlen.1])) (by rw [List.length_map, hlen.1, len_rC (m := (altM M R1 K1)) ⟨hRl, hKl⟩]; decide) (fun v hv => by obtain ⟨x, _, rfl⟩ := List.mem_map.1 hv; rfl) ?_
  intro wb b11 hgs
  rw [rC_splR (m := (altM M R1 K1)) ⟨hRl, hKl⟩ hlen.1] at b11
  try simp only [Act.put, List.setIfInBounds_toArray, List.set_cons_zero, List.set_cons_succ]
  replace b11 : Blk wb g7 25 (rC (altM M M.rnd K1) vc) := b11
  have hbb := below_new hba hgs HG7.out hba.size
  have ba' : Blk wb g 25 (rC M vc) := by rw [← hcs2]; exact b6.below hbb b6.lt
  clear hba hgs ba b10 hcK hcP hcR
  have hba := hbb
  have ba := ba'
  clear hbb ba'
  have hcK : wb.cell? ⟨g, 0, none⟩ = some (.int .i64 8) := by rw [← HKI.out]; exact ba.cell 0
  have hcP : wb.cell? ⟨g, 73, none⟩ = some (.bool false) := by rw [← HPS.out]; exact (ba.cell (65 + 8)).trans (mC_get hlen.1 hlen.2 8)
  have hcR : wb.cell? ⟨g, 74, none⟩ = some (.bool false) := by rw [← HRE.out]; exact (ba.cell (65 + 9)).trans (mC_get hlen.1 hlen.2 9)
  go_upto_region 11 with (fail)
  refine wp_region_lit ?_
  refine wpList_plain rfl (fun K hK => ?_)
  go_simp
  refine hK _ _ ?_
  clear hK K
  try simp only [Act.put, List.setIfInBounds_toArray, List.set_cons_zero, List.set_cons_succ]
  refine wpList_load_mid rfl 22 (.tmp 76) rfl g 33 rfl (M.mark.map B8) _ (RAt.mark (m := M) ⟨rC M vc, ba, hlen, vc, rfl, hsr.below hba⟩) Tryd.underlying22 rfl (info40.trans (by rw [List.length_map, hlen.2])) ?_
  try simp only [Act.put, List.setIfInBounds_toArray, List.set_cons_zero, List.set_cons_succ]
  refine wpList_plain rfl (fun K hK => ?_)
  go_simp
  refine hK _ _ ?_
  clear hK K
  try simp only [Act.put, List.setIfInBounds_toArray, List.set_cons_zero, List.set_cons_succ]
  refine wpList_store_part rfl 22 (.tmp 78) (.tmp 77) rfl rfl g7 33 (M.mark.map B8) rfl rfl _ _ b11 (info40.trans (by rw [List.length_map, hlen.2])) (by rw [List.length_map, hlen.2, len_rC (m := (altM M M.rnd K1)) ⟨hlen.1, hKl⟩]; decide) (fun v hv => by obtain ⟨x, _, rfl⟩ := List.mem_map.1 hv; rfl) ?_
  intro wc b12 hgs
  rw [rC_splK (m := (altM M M.rnd K1)) ⟨hlen.1, hKl⟩ hlen.2] at b12
  try simp only [Act.put, List.setIfInBounds_toArray, List.set_cons_zero, List.set_cons_succ]
  replace b12 : Blk wc g7 25 (rC (altM M M.rnd M.mark) vc) := b12
  have hbb := below_new hba hgs HG7.out hba.size
  have ba' : Blk wc g 25 (rC M vc) := by rw [← hcs2]; exact b6.below hbb b6.lt
  clear hba hgs ba b11 hcK hcP hcR
  have hba := hbb
  have ba := ba'
  clear hbb ba'
  have hcK : wc.cell? ⟨g, 0, none⟩ = some (.int .i64 8) := by rw [← HKI.out]; exact ba.cell 0
  have hcP : wc.cell? ⟨g, 73, none⟩ = some (.bool false) := by rw [← HPS.out]; exact (ba.cell (65 + 8)).trans (mC_get hlen.1 hlen.2 8)
  have hcR : wc.cell? ⟨g, 74, none⟩ = some (.bool false) := by rw [← HRE.out]; exact (ba.cell (65 + 9)).trans (mC_get hlen.1 hlen.2 9)
  have hal := HelloMath.alter_form HF.out R1 K1 true true (by rw [HKI.out, HRE.out]; rfl) (by rw [HKI.out, HPS.out]; rfl)
  replace hal : formM (altM M M.rnd M.mark) = true ∨ (M.kind = 2 ∧ M.rnd = special) := hal
  have HAL := Lib.hid hal
  have hals := HelloMath.alter_len (m := M) (r := M.rnd) (k := M.mark) rfl rfl
  have HALS := Lib.hid hals
  have HRI := Lib.hid (show RIn wc (altM M M.rnd M.mark) (rC (altM M M.rnd M.mark) vc) from ⟨⟨hlen.1, hlen.2⟩, vc, rfl, hsr.below hba⟩)
  have HBA := Lib.hid (hb16.trans (hba.mono hb16.size))
  have HSA := Lib.hid (show Small (altM M M.rnd M.mark) from HSM.out)
  have HBUF := Lib.hid (hB6.below (hba.mono (Nat.le_refl _)))
  have HLEN := Lib.hid hlen
  have HSR := Lib.hid (hsr.below hba)
  clear hal hals hB6 hsr hb16 hlen
  go_upto_region 12 with (fail)
  clear hcP hcR
  refine wp_region_lit ?_
  refine wpList_load_mid rfl 25 (.tmp 7) rfl g7 0 rfl (rC (altM M M.rnd M.mark) vc) _ (rangeAt_of_blk b12) Tryd.underlying25 rfl (infoR.trans (by rw [HRI.out.len])) ?_
  try simp only [Act.put, List.setIfInBounds_toArray, List.set_cons_zero, List.set_cons_succ]
  refine wpList_plain rfl (fun K hK0 => ?_)
  have hK := Lib.hid hK0
  clear hK0
  go_simp
  go_at_call 10
  refine (to_e (altM M M.rnd M.mark) (rC (altM M M.rnd M.mark) vc) _ HRI.out HSA).mono ?_
  rintro e wd ⟨csd, rfl, hmd, hbd⟩
  try go_wp2_with fail
  refine hK.out _ _ ?_
  clear hK K
  try simp only [Act.put, List.setIfInBounds_toArray, List.set_cons_zero, List.set_cons_succ]
  have HBD := Lib.hid (HBA.out.trans (hbd.mono HBA.out.size))
  have hbdk := hbd
  have bd := ba.below hbd ba.lt
  have bd7 := b12.below hbd b12.lt
  clear hbd ba b12 hba hcK
  have hff : formM (altM M M.rnd M.mark) = true := by
    rcases HAL.out with h | h
    · exact h
    · exact absurd h.1 (by rw [HKI.out]; decide)
  refine wpList_plain rfl (fun K hK0 => ?_)
  have hK := Lib.hid hK0
  clear hK0
  go_simp
  go_at_call 11
  refine (write_1 (altM M M.rnd M.mark) csd _ (HT.out.below HBD.out) hmd hff).mono ?_
  rintro e we ⟨re, rfl, hBe, hbe⟩
  try go_wp2_with fail
  refine hK.out _ _ ?_
  clear hK K
  try simp only [Act.put, List.setIfInBounds_toArray, List.set_cons_zero, List.set_cons_succ]
  have HBE := Lib.hid (HBD.out.trans (hbe.mono HBD.out.size))
  have be := bd.below hbe bd.lt
  obtain ⟨Ae, ce, hre, -⟩ := hBe
  obtain ⟨A7, c7, hr7, -⟩ := HBUF.out
  subst hre
  subst hr7
  obtain ⟨l, hl⟩ : ∃ l, (wholeM M).length = l := ⟨_, rfl⟩
  have hl2 : (wholeM (altM M M.rnd M.mark)).length = l := HALS.out.trans hl
  simp only [hl2, hl]
  have HL := Lib.hid hl
  clear hbe bd bd7 hmd hl hl2 HBUF hbdk
  refine wpList_plain rfl (fun K hK => ?_)
  go_simp
  refine hK _ _ ?_
  clear hK K
  try simp only [Act.put, List.setIfInBounds_toArray, List.set_cons_zero, List.set_cons_succ]
  refine wpList_plain rfl (fun K hK => ?_)
  go_simp
  refine hK _ _ ?_
  clear hK K
  try simp only [Act.put, List.setIfInBounds_toArray, List.set_cons_zero, List.set_cons_succ]
  refine wpList_plain rfl (fun K hK => ?_)
  go_simp
  refine hK _ _ ?_
  clear hK K
  try simp only [Act.put, List.setIfInBounds_toArray, List.set_cons_zero, List.set_cons_succ]
  refine wpList_plain rfl (fun K hK => ?_)
  go_simp
  refine hK _ _ ?_
  clear hK K
  try simp only [Act.put, List.setIfInBounds_toArray, List.set_cons_zero, List.set_cons_succ]
  refine wpList_plain rfl (fun K hK => ?_)
  go_simp
  refine hK _ _ ?_
  clear hK K
  try simp only [Act.put, List.setIfInBounds_toArray, List.set_cons_zero, List.set_cons_succ]
  go_upto_region 15 with (fail)
  refine wp_region_lit ?_
  refine wpList_makeMI rfl rfl ?_
  intro gm wf0 hgm hm0 hbf0
  try simp only [Act.put, List.setIfInBounds_toArray, List.set_cons_zero, List.set_cons_succ]
  refine wpList_putMI rfl (.tmp 96) _ _ rfl rfl gm #[] 0 8 6 rfl rfl rfl hm0 rfl ?_
  intro wf1 hm1 hgm1
  try simp only [Act.put, List.setIfInBounds_toArray, List.set_cons_zero, List.set_cons_succ]
  refine wpList_putMI rfl (.tmp 96) _ _ rfl rfl gm (#[].push (ent 8 6 0)) 1 13 15 rfl rfl rfl hm1 rfl ?_
  intro wf2 hm2 hgm2
  try simp only [Act.put, List.setIfInBounds_toArray, List.set_cons_zero, List.set_cons_succ]
  refine wpList_putMI rfl (.tmp 96) _ _ rfl rfl gm ((#[].push (ent 8 6 0)).push (ent 13 15 1)) 2 20 36 rfl rfl rfl hm2 rfl ?_
  intro wf3 hm3 hgm3
  try simp only [Act.put, List.setIfInBounds_toArray, List.set_cons_zero, List.set_cons_succ]
  have hbf := hbf0.trans (grown_below (grown_trans (grown_trans hgm1 hgm2) hgm3) (Nat.le_of_eq hgm.symm) hbf0.size)
  have bf := be.below hbf be.lt
  have HBF := Lib.hid (HBE.out.trans (hbf.mono HBE.out.size))
  clear hbf hbf0 hgm1 hgm2 hgm3 hgm hm0 hm1 hm2 be
  have hcK : wf3.cell? ⟨g, 0, none⟩ = some (.int .i64 8) := by rw [← HKI.out]; exact bf.cell 0
  refine wpList_plain rfl (fun K hK => ?_)
  go_simp
  refine hK _ _ ?_
  clear hK K
  try simp only [Act.put, List.setIfInBounds_toArray, List.set_cons_zero, List.set_cons_succ]
  refine wpList_plain rfl (fun K hK => ?_)
  go_simp
  refine hK _ _ ?_
  clear hK K
  try simp only [Act.put, List.setIfInBounds_toArray, List.set_cons_zero, List.set_cons_succ]
  go_upto_region 16 with (fail)
  refine wp_region_lit ?_
  refine wpList_plain rfl (fun K hK => ?_)
  go_simp
  refine hK _ _ ?_
  clear hK K
  try simp only [Act.put, List.setIfInBounds_toArray, List.set_cons_zero, List.set_cons_succ]
  refine wpList_plain rfl (fun K hK => ?_)
  go_simp
  refine hK _ _ ?_
  clear hK K
  try simp only [Act.put, List.setIfInBounds_toArray, List.set_cons_zero, List.set_cons_succ]
  refine wpList_plain rfl (fun K hK => ?_)
  go_simp
  refine hK _ _ ?_
  clear hK K
  try simp only [Act.put, List.setIfInBounds_toArray, List.set_cons_zero, List.set_cons_succ]
  refine wpList_lookMI rfl (.tmp 99) (.tmp 101) rfl gm (((#[].push (ent 8 6 0)).push (ent 13 15 1)).push (ent 20 36 2)) 3 8 rfl rfl hm3 (some (0, .int .i64 6)) rfl ?_
  try simp only [Act.put, List.setIfInBounds_toArray, List.set_cons_zero, List.set_cons_succ]
  refine wpList_plain rfl (fun K hK => ?_)
  go_simp
  refine hK _ _ ?_
  clear hK K
  try simp only [Act.put, List.setIfInBounds_toArray, List.set_cons_zero, List.set_cons_succ]
  refine wpList_plain rfl (fun K hK => ?_)
  go_simp
  refine hK _ _ ?_
  clear hK K
  try simp only [Act.put, List.setIfInBounds_toArray, List.set_cons_zero, List.set_cons_succ]
  refine wpList_plain rfl (fun K hK => ?_)
  go_simp
  refine hK _ _ ?_
  clear hK K
  try simp only [Act.put, List.setIfInBounds_toArray, List.set_cons_zero, List.set_cons_succ]
  refine wpList_plain rfl (fun K hK => ?_)
  go_simp
  refine hK _ _ ?_
  clear hK K
  try simp only [Act.put, List.setIfInBounds_toArray, List.set_cons_zero, List.set_cons_succ]
  refine wpList_plain rfl (fun K hK => ?_)
  go_simp
  refine hK _ _ ?_
  clear hK K
  try simp only [Act.put, List.setIfInBounds_toArray, List.set_cons_zero, List.set_cons_succ]
  have hl1 : (l : Int) = 6 := by rw [← HL.out]; exact congrArg Nat.cast (HelloMath.size_8 HKI.out)
  go_wp2
  go_ret
  exact ⟨rfl, HBF.out⟩
set_option maxRecDepth 100000 in
set_option maxHeartbeats 1000000 in
theorem sizes_11 (m : Msg) (cs : List Value) (y : UInt8) (w : World) (hT : TabH w) (h : RIn w m cs) (hf : formM (tameM m) = true) (HKI : Hid ((tameM m).kind = 11)) (HPS : Hid ((tameM m).psk = false)) (HRE : Hid ((tameM m).retry = false)) : Calls Tryd.prog 8 #[.agg cs.toArray, .int .u8 (y.toNat : Int)] w fun e w' => e = .returned (.bool true) ∧ Below w.heap.size w w' := by
  have HT := Lib.hid hT
  have HF := Lib.hid hf
  clear hT hf
  go_enter Tryd.func8, Tryd.ntmps8
  go_upto_region 0 with (fail)
  refine wp_region_lit ?_
  refine wpList_plain rfl (fun K hK => ?_)
  go_simp
  refine hK _ _ ?_
  clear hK K
  have b1 := Blk.new w 25 cs
  have hb1 : Below w.heap.size w (w.alloc (.cells cs.toArray 25)) := (Below.refl _ _).alloc (Nat.le_refl _) _
  have h1 := h.below hb1
  obtain ⟨g, hg1⟩ : ∃ g, g = w.heap.size := ⟨_, rfl⟩
  rw [← hg1] at b1
  simp only [← hg1]
  have HG := Lib.hid (Nat.le_of_eq hg1.symm)
  clear h hg1
  generalize w.alloc (.cells cs.toArray 25) = w1 at *
  try simp only [Act.put, List.setIfInBounds_toArray, List.set_cons_zero, List.set_cons_succ]
  go_upto_region 1 with (fail)
  refine wp_region_lit ?_
  refine wpList_load_mid rfl 25 (.tmp 2) rfl g 0 rfl cs _ (rangeAt_of_blk b1) Tryd.underlying25 rfl (infoR.trans (by rw [h1.len])) ?_
  try simp only [Act.put, List.setIfInBounds_toArray, List.set_cons_zero, List.set_cons_succ]
  refine wpList_plain rfl (fun K hK0 => ?_)
  have hK := Lib.hid hK0
  clear hK0
  go_simp
  go_at_call 9
  refine (tame_e m cs _ h1).mono ?_
  rintro e w2 ⟨cs2, rfl, hm2, hb2⟩
  try go_wp2_with fail
  refine hK.out _ _ ?_
  clear hK K
  try simp only [Act.put, List.setIfInBounds_toArray, List.set_cons_zero, List.set_cons_succ]
  have b2 := b1.below hb2 b1.lt
  obtain ⟨M, hM⟩ : ∃ M, tameM m = M := ⟨_, rfl⟩
  have HSM := Lib.hid (show Small M by rw [← hM]; exact small_tame m)
  rw [hM] at hm2 HF HKI HPS HRE
  refine wpList_store_blk rfl 25 (.tmp 2) (.tmp 14) rfl rfl g cs2 rfl rfl _ _ b2 (infoR.trans (by rw [hm2.rin.len])) (by rw [hm2.rin.len, h1.len]) hm2.rin.one ?_
  intro w3 b3 hg3
  try simp only [Act.put, List.setIfInBounds_toArray, List.set_cons_zero, List.set_cons_succ]
  replace hm2 := (hm2.kept hg3 b1.lt).rin
  have hb13 := hb1.trans ((hb2.mono hb1.size).trans (grown_below hg3 HG.out (Nat.le_trans hb1.size hb2.size)))
  clear hb2 hb1 hg3 b1 b2 h1 hM
  go_upto_region 2 with (fail)
  refine wp_region_lit ?_
  refine wpList_load_mid rfl 25 (.tmp 2) rfl g 0 rfl cs2 _ (rangeAt_of_blk b3) Tryd.underlying25 rfl (infoR.trans (by rw [hm2.len])) ?_
  try simp only [Act.put, List.setIfInBounds_toArray, List.set_cons_zero, List.set_cons_succ]
  refine wpList_plain rfl (fun K hK0 => ?_)
  have hK := Lib.hid hK0
  clear hK0
  go_simp
  go_at_call 10
  refine (to_e M cs2 _ hm2 HSM).mono ?_
  rintro e w4 ⟨cs4, rfl, hm4, hb4⟩
  try go_wp2_with fail
  refine hK.out _ _ ?_
  clear hK K
  try simp only [Act.put, List.setIfInBounds_toArray, List.set_cons_zero, List.set_cons_succ]
  have b4 := b3.below hb4 b3.lt
  replace hm2 := hm2.below hb4
  have hb14 := hb13.trans (hb4.mono hb13.size)
  clear hb4 hb13 b3
  refine wpList_plain rfl (fun K hK0 => ?_)
  have hK := Lib.hid hK0
  clear hK0
  go_simp
  go_at_call 11
  refine (write_1 M cs4 _ (HT.out.below hb14) hm4 HF.out).mono ?_
  rintro e w5 ⟨r, rfl, hB5, hb5⟩
  try go_wp2_with fail
  refine hK.out _ _ ?_
  clear hK K
  try simp only [Act.put, List.setIfInBounds_toArray, List.set_cons_zero, List.set_cons_succ]
  have b5 := b4.below hb5 b4.lt
  replace hm2 := hm2.below hb5
  have hb15 := hb14.trans (hb5.mono hb14.size)
  have HG4 := Lib.hid (show g < w4.heap.size from b4.lt)
  clear hb5 b4 hm4 hb14
  refine wpList_plain rfl (fun K hK => ?_)
  go_simp
  refine hK _ _ ?_
  clear hK K
  try simp only [Act.put, List.setIfInBounds_toArray, List.set_cons_zero, List.set_cons_succ]
  refine wpList_plain rfl (fun K hK => ?_)
  go_simp
  refine hK _ _ ?_
  clear hK K
  try simp only [Act.put, List.setIfInBounds_toArray, List.set_cons_zero, List.set_cons_succ]
  refine wpList_plain rfl (fun K hK => ?_)
  go_simp
  refine hK _ _ ?_
  clear hK K
  try simp only [Act.put, List.setIfInBounds_toArray, List.set_cons_zero, List.set_cons_succ]
  refine wpList_plain rfl (fun K hK => ?_)
  go_simp
  refine hK _ _ ?_
  clear hK K
  try simp only [Act.put, List.setIfInBounds_toArray, List.set_cons_zero, List.set_cons_succ]
  refine wpList_plain rfl (fun K hK => ?_)
  go_simp
  refine hK _ _ ?_
  clear hK K
  try simp only [Act.put, List.setIfInBounds_toArray, List.set_cons_zero, List.set_cons_succ]
  go_upto_region 5 with (go_at_call 13; refine (hellos_e _ (HT.out.below hb15)).mono ?_; rintro e w6 ⟨rfl, hb6⟩)
  have hb16 := hb15.trans (hb6.mono hb15.size)
  have b6 := b5.below hb6 b5.lt
  have hm6 := hm2.below hb6
  have hB6 := hB5.below hb6
  have HM6 := Lib.hid hm6
  obtain ⟨hlen, vc, hcs2, hsr⟩ := hm6
  clear b5 hm2 hB5 hb15 hb6
  refine wp_region_lit ?_
  refine wpList_load_mid rfl 25 (.tmp 2) rfl g 0 rfl cs2 _ (rangeAt_of_blk b6) Tryd.underlying25 rfl (infoR.trans (by rw [hcs2]; exact congrArg some (mC_length hlen.1 hlen.2).symm)) ?_
  try simp only [Act.put, List.setIfInBounds_toArray, List.set_cons_zero, List.set_cons_succ]
  refine wpList_new_blk rfl 25 rfl _ zeroR ?_
  intro g7 w7 hg7 b7 hb7
  try simp only [Act.put, List.setIfInBounds_toArray, List.set_cons_zero, List.set_cons_succ]
  have HG7 := Lib.hid (show w6.heap.size ≤ g7 by rw [hg7]; exact Nat.le_refl _)
  refine wpList_store_blk rfl 25 (.tmp 7) (.tmp 28) rfl rfl g7 cs2 rfl rfl _ _ b7 (infoR.trans (by rw [hcs2]; exact congrArg some (mC_length hlen.1 hlen.2).symm)) (by rw [hcs2]; exact (rC_zero.trans (mC_length hlen.1 hlen.2).symm)) (by obtain ⟨Av, cv, rfl, _⟩ := hsr; rw [hcs2]; exact one_rC) ?_
  intro w8 b8 hg8
  try simp only [Act.put, List.setIfInBounds_toArray, List.set_cons_zero, List.set_cons_succ]
  have hb68 := hb7.trans (grown_below hg8 HG7.out hb7.size)
  clear hb7 hg8 hg7 b7
  rw [hcs2] at b8
  obtain ⟨x3, hx3⟩ : ∃ x : UInt8, M.rnd.getD 3 0 = x := ⟨_, rfl⟩
  obtain ⟨x5, hx5⟩ : ∃ x : UInt8, M.mark.getD 5 0 = x := ⟨_, rfl⟩
  have hc4 : w8.cell? ⟨g7, 4, none⟩ = some (.int .u8 (x3.toNat : Int)) := by rw [b8.cell, rC, mC_rnd hlen.1 3 (by decide), getD_map8 _ 3 (by rw [hlen.1]; decide), hx3]
  have hfz := b8.frozen 4
  have hxo := xor_u8 x3 y
  go_upto_region 7 with (fail)
  rw [← UInt8.toNat_xor]
  clear hc4 hfz hxo
  have b9 := b8.set_ 4 (B8 (x3 ^^^ y))
  rw [show (4 : Nat) = 1 + 3 from rfl, rC_setR 3 (by decide) hlen.1] at b9
  obtain ⟨R1, hR1⟩ : ∃ R, M.rnd.set 3 (x3 ^^^ y) = R := ⟨_, rfl⟩
  rw [hR1] at b9
  have hRl : R1.length = 32 := by rw [← hR1, List.length_set]; exact hlen.1
  have hb69 := grown_cellB hb68 hb68.size g7 4 (B8 (x3 ^^^ y)) HG7.out
  replace b9 : Blk (w8.setCell ⟨g7, 4, none⟩ (.int .u8 ((x3 ^^^ y).toNat : Int))) g7 25 (rC { M with rnd := R1 } vc) := b9
  replace hb69 : Below w6.heap.size w6 (w8.setCell ⟨g7, 4, none⟩ (.int .u8 ((x3 ^^^ y).toNat : Int))) := hb69
  generalize w8.setCell ⟨g7, 4, none⟩ (.int .u8 ((x3 ^^^ y).toNat : Int)) = w9 at *
  clear b8 hb68
  have hc5 : w9.cell? ⟨g7, 38, none⟩ = some (.int .u8 (x5.toNat : Int)) := by rw [b9.cell, rC, mC_mark (m := { M with rnd := R1 }) hRl hlen.2 5 (by decide), getD_map8 _ 5 (by rw [hlen.2]; decide), hx5]
  have hfz := b9.frozen 38
  have hxo := xor_u8 x5 y
  go_upto_region 8 with (fail)
  rw [← UInt8.toNat_xor]
  clear hc5 hfz hxo
  have b10 := b9.set_ 38 (B8 (x5 ^^^ y))
  rw [show (38 : Nat) = 33 + 5 from rfl, rC_setK (m := { M with rnd := R1 }) 5 (by decide) hRl hlen.2] at b10
  replace b10 : Blk (w9.setCell ⟨g7, 38, none⟩ (.int .u8 ((x5 ^^^ y).toNat : Int))) g7 25 (rC (altM M R1 (M.mark.set 5 (x5 ^^^ y))) vc) := b10
  obtain ⟨K1, hK1⟩ : ∃ R, M.mark.set 5 (x5 ^^^ y) = R := ⟨_, rfl⟩
  rw [hK1] at b10
  have hKl : K1.length = 32 := by rw [← hK1, List.length_set]; exact hlen.2
  have hba := grown_cellB hb69 hb69.size g7 38 (B8 (x5 ^^^ y)) HG7.out
  replace hba : Below w6.heap.size w6 (w9.setCell ⟨g7, 38, none⟩ (.int .u8 ((x5 ^^^ y).toNat : Int))) := hba
  generalize w9.setCell ⟨g7, 38, none⟩ (.int .u8 ((x5 ^^^ y).toNat : Int)) = wa at *
  clear b9 hb69
  obtain ⟨z3, hz3⟩ : ∃ z, x3 ^^^ y = z := ⟨_, rfl⟩
  obtain ⟨z5, hz5⟩ : ∃ z, x5 ^^^ y = z := ⟨_, rfl⟩
  simp only [hz3, hz5]
  clear hz3 hz5 hx3 hx5
  have ba : Blk wa g 25 (rC M vc) := by rw [← hcs2]; exact b6.below hba b6.lt
  have hcK : wa.cell? ⟨g, 0, none⟩ = some (.int .i64 11) := by rw [← HKI.out]; exact ba.cell 0
  have hcP : wa.cell? ⟨g, 73, none⟩ = some (.bool false) := by rw [← HPS.out]; exact (ba.cell (65 + 8)).trans (mC_get hlen.1 hlen.2 8)
  have hcR : wa.cell? ⟨g, 74, none⟩ = some (.bool false) := by rw [← HRE.out]; exact (ba.cell (65 + 9)).trans (mC_get hlen.1 hlen.2 9)
  go_upto_region 9 with (fail)
  refine wp_region_lit ?_
  refine wpList_plain rfl (fun K hK => ?_)
  go_simp
  refine hK _ _ ?_
  clear hK K
  try simp only [Act.put, List.setIfInBounds_toArray, List.set_cons_zero, List.set_cons_succ]
  refine wpList_load_mid rfl 22 (.tmp 55) rfl g 1 rfl (M.rnd.map B8) _ (RAt.rnd (m := M) ⟨rC M vc, ba, hlen, vc, rfl, hsr.below hba⟩) Tryd.underlying22 rfl (info40.trans (by rw [List.length_map, hlen.1])) ?_
  try simp only [Act.put, List.setIfInBounds_toArray, List.set_cons_zero, List.set_cons_succ]
  refine wpList_plain rfl (fun K hK => ?_)
  go_simp
  refine hK _ _ ?_
  clear hK K
  try simp only [Act.put, List.setIfInBounds_toArray, List.set_cons_zero, List.set_cons_succ]
  refine wpList_store_part rfl 22 (.tmp 57) (.tmp 56) rfl rfl g7 1 (M.rnd.map B8) rfl rfl _ _ b10 (info40.trans (by rw [List.length_map, hlen.1])) (by rw [List.length_map, hlen.1, len_rC (m := (altM M R1 K1)) ⟨hRl, hKl⟩]; decide) (fun v hv => by obtain ⟨x, _, rfl⟩ := List.mem_map.1 hv; rfl) ?_
  intro wb b11 hgs
  rw [rC_splR (m := (altM M R1 K1)) ⟨hRl, hKl⟩ hlen.1] at b11
  try simp only [Act.put, List.setIfInBounds_toArray, List.set_cons_zero, List.set_cons_succ]
  replace b11 : Blk wb g7 25 (rC (altM M M.rnd K1) vc) := b11
  have hbb := below_new hba hgs HG7.out hba.size
  have ba' : Blk wb g 25 (rC M vc) := by rw [← hcs2]; exact b6.below hbb b6.lt
  clear hba hgs ba b10 hcK hcP hcR
  have hba := hbb
  have ba := ba'
  clear hbb ba'
  have hcK : wb.cell? ⟨g, 0, none⟩ = some (.int .i64 11) := by rw [← HKI.out]; exact ba.cell 0
  have hcP : wb.cell? ⟨g, 73, none⟩ = some (.bool false) := by rw [← HPS.out]; exact (ba.cell (65 + 8)).trans (mC_get hlen.1 hlen.2 8)
  have hcR : wb.cell? ⟨g, 74, none⟩ = some (.bool false) := by rw [← HRE.out]; exact (ba.cell (65 + 9)).trans (mC_get hlen.1 hlen.2 9)
  go_upto_region 11 with (fail)
  refine wp_region_lit ?_
  refine wpList_plain rfl (fun K hK => ?_)
  go_simp
  refine hK _ _ ?_
  clear hK K
  try simp only [Act.put, List.setIfInBounds_toArray, List.set_cons_zero, List.set_cons_succ]
  refine wpList_load_mid rfl 22 (.tmp 76) rfl g 33 rfl (M.mark.map B8) _ (RAt.mark (m := M) ⟨rC M vc, ba, hlen, vc, rfl, hsr.below hba⟩) Tryd.underlying22 rfl (info40.trans (by rw [List.length_map, hlen.2])) ?_
  try simp only [Act.put, List.setIfInBounds_toArray, List.set_cons_zero, List.set_cons_succ]
  refine wpList_plain rfl (fun K hK => ?_)
  go_simp
  refine hK _ _ ?_
  clear hK K
  try simp only [Act.put, List.setIfInBounds_toArray, List.set_cons_zero, List.set_cons_succ]
  refine wpList_store_part rfl 22 (.tmp 78) (.tmp 77) rfl rfl g7 33 (M.mark.map B8) rfl rfl _ _ b11 (info40.trans (by rw [List.length_map, hlen.2])) (by rw [List.length_map, hlen.2, len_rC (m := (altM M M.rnd K1)) ⟨hlen.1, hKl⟩]; decide) (fun v hv => by obtain ⟨x, _, rfl⟩ := List.mem_map.1 hv; rfl) ?_
  intro wc b12 hgs
  rw [rC_splK (m := (altM M M.rnd K1)) ⟨hlen.1, hKl⟩ hlen.2] at b12
  try simp only [Act.put, List.setIfInBounds_toArray, List.set_cons_zero, List.set_cons_succ]
  replace b12 : Blk wc g7 25 (rC (altM M M.rnd M.mark) vc) := b12
  have hbb := below_new hba hgs HG7.out hba.size
  have ba' : Blk wc g 25 (rC M vc) := by rw [← hcs2]; exact b6.below hbb b6.lt
  clear hba hgs ba b11 hcK hcP hcR
  have hba := hbb
  have ba := ba'
  clear hbb ba'
  have hcK : wc.cell? ⟨g, 0, none⟩ = some (.int .i64 11) := by rw [← HKI.out]; exact ba.cell 0
  have hcP : wc.cell? ⟨g, 73, none⟩ = some (.bool false) := by rw [← HPS.out]; exact (ba.cell (65 + 8)).trans (mC_get hlen.1 hlen.2 8)
  have hcR : wc.cell? ⟨g, 74, none⟩ = some (.bool false) := by rw [← HRE.out]; exact (ba.cell (65 + 9)).trans (mC_get hlen.1 hlen.2 9)
  have hal := HelloMath.alter_form HF.out R1 K1 true true (by rw [HKI.out, HRE.out]; rfl) (by rw [HKI.out, HPS.out]; rfl)
  replace hal : formM (altM M M.rnd M.mark) = true ∨ (M.kind = 2 ∧ M.rnd = special) := hal
  have HAL := Lib.hid hal
  have hals := HelloMath.alter_len (m := M) (r := M.rnd) (k := M.mark) rfl rfl
  have HALS := Lib.hid hals
  have HRI := Lib.hid (show RIn wc (altM M M.rnd M.mark) (rC (altM M M.rnd M.mark) vc) from ⟨⟨hlen.1, hlen.2⟩, vc, rfl, hsr.below hba⟩)
  have HBA := Lib.hid (hb16.trans (hba.mono hb16.size))
  have HSA := Lib.hid (show Small (altM M M.rnd M.mark) from HSM.out)
  have HBUF := Lib.hid (hB6.below (hba.mono (Nat.le_refl _)))
  have HLEN := Lib.hid hlen
  have HSR := Lib.hid (hsr.below hba)
  clear hal hals hB6 hsr hb16 hlen
  go_upto_region 12 with (fail)
  clear hcP hcR
  refine wp_region_lit ?_
  refine wpList_load_mid rfl 25 (.tmp 7) rfl g7 0 rfl (rC (altM M M.rnd M.mark) vc) _ (rangeAt_of_blk b12) Tryd.underlying25 rfl (infoR.trans (by rw [HRI.out.len])) ?_
  try simp only [Act.put, List.setIfInBounds_toArray, List.set_cons_zero, List.set_cons_succ]
  refine wpList_plain rfl (fun K hK0 => ?_)
  have hK := Lib.hid hK0
  clear hK0
  go_simp
  go_at_call 10
  refine (to_e (altM M M.rnd M.mark) (rC (altM M M.rnd M.mark) vc) _ HRI.out HSA).mono ?_
  rintro e wd ⟨csd, rfl, hmd, hbd⟩
  try go_wp2_with fail
  refine hK.out _ _ ?_
  clear hK K
  try simp only [Act.put, List.setIfInBounds_toArray, List.set_cons_zero, List.set_cons_succ]
  have HBD := Lib.hid (HBA.out.trans (hbd.mono HBA.out.size))
  have hbdk := hbd
  have bd := ba.below hbd ba.lt
  have bd7 := b12.below hbd b12.lt
  clear hbd ba b12 hba hcK
  have hff : formM (altM M M.rnd M.mark) = true := by
    rcases HAL.out with h | h
    · exact h
    · exact absurd h.1 (by rw [HKI.out]; decide)
  refine wpList_plain rfl (fun K hK0 => ?_)
  have hK := Lib.hid hK0
  clear hK0
  go_simp
  go_at_call 11
  refine (write_1 (altM M M.rnd M.mark) csd _ (HT.out.below HBD.out) hmd hff).mono ?_
  rintro e we ⟨re, rfl, hBe, hbe⟩
  try go_wp2_with fail
  refine hK.out _ _ ?_
  clear hK K
  try simp only [Act.put, List.setIfInBounds_toArray, List.set_cons_zero, List.set_cons_succ]
  have HBE := Lib.hid (HBD.out.trans (hbe.mono HBD.out.size))
  have be := bd.below hbe bd.lt
  obtain ⟨Ae, ce, hre, -⟩ := hBe
  obtain ⟨A7, c7, hr7, -⟩ := HBUF.out
  subst hre
  subst hr7
  obtain ⟨l, hl⟩ : ∃ l, (wholeM M).length = l := ⟨_, rfl⟩
  have hl2 : (wholeM (altM M M.rnd M.mark)).length = l := HALS.out.trans hl
  simp only [hl2, hl]
  have HL := Lib.hid hl
  clear hbe bd bd7 hmd hl hl2 HBUF hbdk
  refine wpList_plain rfl (fun K hK => ?_)
  go_simp
  refine hK _ _ ?_
  clear hK K
  try simp only [Act.put, List.setIfInBounds_toArray, List.set_cons_zero, List.set_cons_succ]
  refine wpList_plain rfl (fun K hK => ?_)
  go_simp
  refine hK _ _ ?_
  clear hK K
  try simp only [Act.put, List.setIfInBounds_toArray, List.set_cons_zero, List.set_cons_succ]
  refine wpList_plain rfl (fun K hK => ?_)
  go_simp
  refine hK _ _ ?_
  clear hK K
  try simp only [Act.put, List.setIfInBounds_toArray, List.set_cons_zero, List.set_cons_succ]
  refine wpList_plain rfl (fun K hK => ?_)
  go_simp
  refine hK _ _ ?_
  clear hK K
  try simp only [Act.put, List.setIfInBounds_toArray, List.set_cons_zero, List.set_cons_succ]
  refine wpList_plain rfl (fun K hK => ?_)
  go_simp
  refine hK _ _ ?_
  clear hK K
  try simp only [Act.put, List.setIfInBounds_toArray, List.set_cons_zero, List.set_cons_succ]
  go_upto_region 15 with (fail)
  refine wp_region_lit ?_
  refine wpList_makeMI rfl rfl ?_
  intro gm wf0 hgm hm0 hbf0
  try simp only [Act.put, List.setIfInBounds_toArray, List.set_cons_zero, List.set_cons_succ]
  refine wpList_putMI rfl (.tmp 96) _ _ rfl rfl gm #[] 0 8 6 rfl rfl rfl hm0 rfl ?_
  intro wf1 hm1 hgm1
  try simp only [Act.put, List.setIfInBounds_toArray, List.set_cons_zero, List.set_cons_succ]
  refine wpList_putMI rfl (.tmp 96) _ _ rfl rfl gm (#[].push (ent 8 6 0)) 1 13 15 rfl rfl rfl hm1 rfl ?_
  intro wf2 hm2 hgm2
  try simp only [Act.put, List.setIfInBounds_toArray, List.set_cons_zero, List.set_cons_succ]
  refine wpList_putMI rfl (.tmp 96) _ _ rfl rfl gm ((#[].push (ent 8 6 0)).push (ent 13 15 1)) 2 20 36 rfl rfl rfl hm2 rfl ?_
  intro wf3 hm3 hgm3
  try simp only [Act.put, List.setIfInBounds_toArray, List.set_cons_zero, List.set_cons_succ]
  have hbf := hbf0.trans (grown_below (grown_trans (grown_trans hgm1 hgm2) hgm3) (Nat.le_of_eq hgm.symm) hbf0.size)
  have bf := be.below hbf be.lt
  have HBF := Lib.hid (HBE.out.trans (hbf.mono HBE.out.size))
  clear hbf hbf0 hgm1 hgm2 hgm3 hgm hm0 hm1 hm2 be
  have hcK : wf3.cell? ⟨g, 0, none⟩ = some (.int .i64 11) := by rw [← HKI.out]; exact bf.cell 0
  refine wpList_plain rfl (fun K hK => ?_)
  go_simp
  refine hK _ _ ?_
  clear hK K
  try simp only [Act.put, List.setIfInBounds_toArray, List.set_cons_zero, List.set_cons_succ]
  refine wpList_plain rfl (fun K hK => ?_)
  go_simp
  refine hK _ _ ?_
  clear hK K
  try simp only [Act.put, List.setIfInBounds_toArray, List.set_cons_zero, List.set_cons_succ]
  go_upto_region 16 with (fail)
  refine wp_region_lit ?_
  refine wpList_plain rfl (fun K hK => ?_)
  go_simp
  refine hK _ _ ?_
  clear hK K
  try simp only [Act.put, List.setIfInBounds_toArray, List.set_cons_zero, List.set_cons_succ]
  refine wpList_plain rfl (fun K hK => ?_)
  go_simp
  refine hK _ _ ?_
  clear hK K
  try simp only [Act.put, List.setIfInBounds_toArray, List.set_cons_zero, List.set_cons_succ]
  refine wpList_plain rfl (fun K hK => ?_)
  go_simp
  refine hK _ _ ?_
  clear hK K
  try simp only [Act.put, List.setIfInBounds_toArray, List.set_cons_zero, List.set_cons_succ]
  refine wpList_lookMI rfl (.tmp 99) (.tmp 101) rfl gm (((#[].push (ent 8 6 0)).push (ent 13 15 1)).push (ent 20 36 2)) 3 11 rfl rfl hm3 none rfl ?_
  try simp only [Act.put, List.setIfInBounds_toArray, List.set_cons_zero, List.set_cons_succ]
  refine wpList_plain rfl (fun K hK => ?_)
  go_simp
  refine hK _ _ ?_
  clear hK K
  try simp only [Act.put, List.setIfInBounds_toArray, List.set_cons_zero, List.set_cons_succ]
  refine wpList_plain rfl (fun K hK => ?_)
  go_simp
  refine hK _ _ ?_
  clear hK K
  try simp only [Act.put, List.setIfInBounds_toArray, List.set_cons_zero, List.set_cons_succ]
  refine wpList_plain rfl (fun K hK => ?_)
  go_simp
  refine hK _ _ ?_
  clear hK K
  try simp only [Act.put, List.setIfInBounds_toArray, List.set_cons_zero, List.set_cons_succ]
  refine wpList_plain rfl (fun K hK => ?_)
  go_simp
  refine hK _ _ ?_
  clear hK K
  try simp only [Act.put, List.setIfInBounds_toArray, List.set_cons_zero, List.set_cons_succ]
  refine wpList_plain rfl (fun K hK => ?_)
  go_simp
  refine hK _ _ ?_
  clear hK K
  try simp only [Act.put, List.setIfInBounds_toArray, List.set_cons_zero, List.set_cons_succ]
  go_wp2
  go_ret
  exact ⟨rfl, HBF.out⟩
set_option maxRecDepth 100000 in
set_option maxHeartbeats 1000000 in
theorem sizes_13 (m : Msg) (cs : List Value) (y : UInt8) (w : World) (hT : TabH w) (h : RIn w m cs) (hf : formM (tameM m) = true) (HKI : Hid ((tameM m).kind = 13)) (HPS : Hid ((tameM m).psk = false)) (HRE : Hid ((tameM m).retry = false)) : Calls Tryd.prog 8 #[.agg cs.toArray, .int .u8 (y.toNat : Int)] w fun e w' => e = .returned (.bool true) ∧ Below w.heap.size w w' := by
  have HT := Lib.hid hT
  have HF := Lib.hid hf
  clear hT hf
  go_enter Tryd.func8, Tryd.ntmps8
  go_upto_region 0 with (fail)
  refine wp_region_lit ?_
  refine wpList_plain rfl (fun K hK => ?_)
  go_simp
  refine hK _ _ ?_
  clear hK K
  have b1 := Blk.new w 25 cs
  have hb1 : Below w.heap.size w (w.alloc (.cells cs.toArray 25)) := (Below.refl _ _).alloc (Nat.le_refl _) _
  have h1 := h.below hb1
  obtain ⟨g, hg1⟩ : ∃ g, g = w.heap.size := ⟨_, rfl⟩
  rw [← hg1] at b1
  simp only [← hg1]
  have HG := Lib.hid (Nat.le_of_eq hg1.symm)
  clear h hg1
  generalize w.alloc (.cells cs.toArray 25) = w1 at *
  try simp only [Act.put, List.setIfInBounds_toArray, List.set_cons_zero, List.set_cons_succ]
  go_upto_region 1 with (fail)
  refine wp_region_lit ?_
  refine wpList_load_mid rfl 25 (.tmp 2) rfl g 0 rfl cs _ (rangeAt_of_blk b1) Tryd.underlying25 rfl (infoR.trans (by rw [h1.len])) ?_
  try simp only [Act.put, List.setIfInBounds_toArray, List.set_cons_zero, List.set_cons_succ]
  refine wpList_plain rfl (fun K hK0 => ?_)
  have hK := Lib.hid hK0
  clear hK0
  go_simp
  go_at_call 9
  refine (tame_e m cs _ h1).mono ?_
  rintro e w2 ⟨cs2, rfl, hm2, hb2⟩
  try go_wp2_with fail
  refine hK.out _ _ ?_
  clear hK K
  try simp only [Act.put, List.setIfInBounds_toArray, List.set_cons_zero, List.set_cons_succ]
  have b2 := b1.below hb2 b1.lt
  obtain ⟨M, hM⟩ : ∃ M, tameM m = M := ⟨_, rfl⟩
  have HSM := Lib.hid (show Small M by rw [← hM]; exact small_tame m)
  rw [hM] at hm2 HF HKI HPS HRE
  refine wpList_store_blk rfl 25 (.tmp 2) (.tmp 14) rfl rfl g cs2 rfl rfl _ _ b2 (infoR.trans (by rw [hm2.rin.len])) (by rw [hm2.rin.len, h1.len]) hm2.rin.one ?_
  intro w3 b3 hg3
  try simp only [Act.put, List.setIfInBounds_toArray, List.set_cons_zero, List.set_cons_succ]
  replace hm2 := (hm2.kept hg3 b1.lt).rin
  have hb13 := hb1.trans ((hb2.mono hb1.size).trans (grown_below hg3 HG.out (Nat.le_trans hb1.size hb2.size)))
  clear hb2 hb1 hg3 b1 b2 h1 hM
  go_upto_region 2 with (fail)
  refine wp_region_lit ?_
  refine wpList_load_mid rfl 25 (.tmp 2) rfl g 0 rfl cs2 _ (rangeAt_of_blk b3) Tryd.underlying25 rfl (infoR.trans (by rw [hm2.len])) ?_
  try simp only [Act.put, List.setIfInBounds_toArray, List.set_cons_zero, List.set_cons_succ]
  refine wpList_plain rfl (fun K hK0 => ?_)
  have hK := Lib.hid hK0
  clear hK0
  go_simp
  go_at_call 10
  refine (to_e M cs2 _ hm2 HSM).mono ?_
  rintro e w4 ⟨cs4, rfl, hm4, hb4⟩
  try go_wp2_with fail
  refine hK.out _ _ ?_
  clear hK K
  try simp only [Act.put, List.setIfInBounds_toArray, List.set_cons_zero, List.set_cons_succ]
  have b4 := b3.below hb4 b3.lt
  replace hm2 := hm2.below hb4
  have hb14 := hb13.trans (hb4.mono hb13.size)
  clear hb4 hb13 b3
  refine wpList_plain rfl (fun K hK0 => ?_)
  have hK := Lib.hid hK0
  clear hK0
  go_simp
  go_at_call 11
  refine (write_1 M cs4 _ (HT.out.below hb14) hm4 HF.out).mono ?_
  rintro e w5 ⟨r, rfl, hB5, hb5⟩
  try go_wp2_with fail
  refine hK.out _ _ ?_
  clear hK K
  try simp only [Act.put, List.setIfInBounds_toArray, List.set_cons_zero, List.set_cons_succ]
  have b5 := b4.below hb5 b4.lt
  replace hm2 := hm2.below hb5
  have hb15 := hb14.trans (hb5.mono hb14.size)
  have HG4 := Lib.hid (show g < w4.heap.size from b4.lt)
  clear hb5 b4 hm4 hb14
  refine wpList_plain rfl (fun K hK => ?_)
  go_simp
  refine hK _ _ ?_
  clear hK K
  try simp only [Act.put, List.setIfInBounds_toArray, List.set_cons_zero, List.set_cons_succ]
  refine wpList_plain rfl (fun K hK => ?_)
  go_simp
  refine hK _ _ ?_
  clear hK K
  try simp only [Act.put, List.setIfInBounds_toArray, List.set_cons_zero, List.set_cons_succ]
  refine wpList_plain rfl (fun K hK => ?_)
  go_simp
  refine hK _ _ ?_
  clear hK K
  try simp only [Act.put, List.setIfInBounds_toArray, List.set_cons_zero, List.set_cons_succ]
  refine wpList_plain rfl (fun K hK => ?_)
  go_simp
  refine hK _ _ ?_
  clear hK K
  try simp only [Act.put, List.setIfInBounds_toArray, List.set_cons_zero, List.set_cons_succ]
  refine wpList_plain rfl (fun K hK => ?_)
  go_simp
  refine hK _ _ ?_
  clear hK K
  try simp only [Act.put, List.setIfInBounds_toArray, List.set_cons_zero, List.set_cons_succ]
  go_upto_region 5 with (go_at_call 13; refine (hellos_e _ (HT.out.below hb15)).mono ?_; rintro e w6 ⟨rfl, hb6⟩)
  have hb16 := hb15.trans (hb6.mono hb15.size)
  have b6 := b5.below hb6 b5.lt
  have hm6 := hm2.below hb6
  have hB6 := hB5.below hb6
  have HM6 := Lib.hid hm6
  obtain ⟨hlen, vc, hcs2, hsr⟩ := hm6
  clear b5 hm2 hB5 hb15 hb6
  refine wp_region_lit ?_
  refine wpList_load_mid rfl 25 (.tmp 2) rfl g 0 rfl cs2 _ (rangeAt_of_blk b6) Tryd.underlying25 rfl (infoR.trans (by rw [hcs2]; exact congrArg some (mC_length hlen.1 hlen.2).symm)) ?_
  try simp only [Act.put, List.setIfInBounds_toArray, List.set_cons_zero, List.set_cons_succ]
  refine wpList_new_blk rfl 25 rfl _ zeroR ?_
  intro g7 w7 hg7 b7 hb7
  try simp only [Act.put, List.setIfInBounds_toArray, List.set_cons_zero, List.set_cons_succ]
  have HG7 := Lib.hid (show w6.heap.size ≤ g7 by rw [hg7]; exact Nat.le_refl _)
  refine wpList_store_blk rfl 25 (.tmp 7) (.tmp 28) rfl rfl g7 cs2 rfl rfl _ _ b7 (infoR.trans (by rw [hcs2]; exact congrArg some (mC_length hlen.1 hlen.2).symm)) (by rw [hcs2]; exact (rC_zero.trans (mC_length hlen.1 hlen.2).symm)) (by obtain ⟨Av, cv, rfl, _⟩ := hsr; rw [hcs2]; exact one_rC) ?_
  intro w8 b8 hg8
  try simp only [Act.put, List.setIfInBounds_toArray, List.set_cons_zero, List.set_cons_succ]
  have hb68 := hb7.trans (grown_below hg8 HG7.out hb7.size)
  clear hb7 hg8 hg7 b7
  rw [hcs2] at b8
  obtain ⟨x3, hx3⟩ : ∃ x : UInt8, M.rnd.getD 3 0 = x := ⟨_, rfl⟩
  obtain ⟨x5, hx5⟩ : ∃ x : UInt8, M.mark.getD 5 0 = x := ⟨_, rfl⟩
  have hc4 : w8.cell? ⟨g7, 4, none⟩ = some (.int .u8 (x3.toNat : Int)) := by rw [b8.cell, rC, mC_rnd hlen.1 3 (by decide), getD_map8 _ 3 (by rw [hlen.1]; decide), hx3]
  have hfz := b8.frozen 4
  have hxo := xor_u8 x3 y
  go_upto_region 7 with (fail)
  rw [← UInt8.toNat_xor]
  clear hc4 hfz hxo
  have b9 := b8.set_ 4 (B8 (x3 ^^^ y))
  rw [show (4 : Nat) = 1 + 3 from rfl, rC_setR 3 (by decide) hlen.1] at b9
  obtain ⟨R1, hR1⟩ : ∃ R, M.rnd.set 3 (x3 ^^^ y) = R := ⟨_, rfl⟩
  rw [hR1] at b9
  have hRl : R1.length = 32 := by rw [← hR1, List.length_set]; exact hlen.1
  have hb69 := grown_cellB hb68 hb68.size g7 4 (B8 (x3 ^^^ y)) HG7.out
  replace b9 : Blk (w8.setCell ⟨g7, 4, none⟩ (.int .u8 ((x3 ^^^ y).toNat : Int))) g7 25 (rC { M with rnd := R1 } vc) := b9
  replace hb69 : Below w6.heap.size w6 (w8.setCell ⟨g7, 4, none⟩ (.int .u8 ((x3 ^^^ y).toNat : Int))) := hb69
  generalize w8.setCell ⟨g7, 4, none⟩ (.int .u8 ((x3 ^^^ y).toNat : Int)) = w9 at *
  clear b8 hb68
  have hc5 : w9.cell? ⟨g7, 38, none⟩ = some (.int .u8 (x5.toNat : Int)) := by rw [b9.cell, rC, mC_mark (m := { M with rnd := R1 }) hRl hlen.2 5 (by decide), getD_map8 _ 5 (by rw [hlen.2]; decide), hx5]
  have hfz := b9.frozen 38
  have hxo := xor_u8 x5 y
  go_upto_region 8 with (fail)
  rw [← UInt8.toNat_xor]
  clear hc5 hfz hxo
  have b10 := b9.set_ 38 (B8 (x5 ^^^ y))
  rw [show (38 : Nat) = 33 + 5 from rfl, rC_setK (m := { M with rnd := R1 }) 5 (by decide) hRl hlen.2] at b10
  replace b10 : Blk (w9.setCell ⟨g7, 38, none⟩ (.int .u8 ((x5 ^^^ y).toNat : Int))) g7 25 (rC (altM M R1 (M.mark.set 5 (x5 ^^^ y))) vc) := b10
  obtain ⟨K1, hK1⟩ : ∃ R, M.mark.set 5 (x5 ^^^ y) = R := ⟨_, rfl⟩
  rw [hK1] at b10
  have hKl : K1.length = 32 := by rw [← hK1, List.length_set]; exact hlen.2
  have hba := grown_cellB hb69 hb69.size g7 38 (B8 (x5 ^^^ y)) HG7.out
  replace hba : Below w6.heap.size w6 (w9.setCell ⟨g7, 38, none⟩ (.int .u8 ((x5 ^^^ y).toNat : Int))) := hba
  generalize w9.setCell ⟨g7, 38, none⟩ (.int .u8 ((x5 ^^^ y).toNat : Int)) = wa at *
  clear b9 hb69
  obtain ⟨z3, hz3⟩ : ∃ z, x3 ^^^ y = z := ⟨_, rfl⟩
  obtain ⟨z5, hz5⟩ : ∃ z, x5 ^^^ y = z := ⟨_, rfl⟩
  simp only [hz3, hz5]
  clear hz3 hz5 hx3 hx5
  have ba : Blk wa g 25 (rC M vc) := by rw [← hcs2]; exact b6.below hba b6.lt
  have hcK : wa.cell? ⟨g, 0, none⟩ = some (.int .i64 13) := by rw [← HKI.out]; exact ba.cell 0
  have hcP : wa.cell? ⟨g, 73, none⟩ = some (.bool false) := by rw [← HPS.out]; exact (ba.cell (65 + 8)).trans (mC_get hlen.1 hlen.2 8)
  have hcR : wa.cell? ⟨g, 74, none⟩ = some (.bool false) := by rw [← HRE.out]; exact (ba.cell (65 + 9)).trans (mC_get hlen.1 hlen.2 9)
  go_upto_region 9 with (fail)
  refine wp_region_lit ?_
  refine wpList_plain rfl (fun K hK => ?_)
  go_simp
  refine hK _ _ ?_
  clear hK K
  try simp only [Act.put, List.setIfInBounds_toArray, List.set_cons_zero, List.set_cons_succ]
  refine wpList_load_mid rfl 22 (.tmp 55) rfl g 1 rfl (M.rnd.map B8) _ (RAt.rnd (m := M) ⟨rC M vc, ba, hlen, vc, rfl, hsr.below hba⟩) Tryd.underlying22 rfl (info40.trans (by rw [List.length_map, hlen.1])) ?_
  try simp only [Act.put, List.setIfInBounds_toArray, List.set_cons_zero, List.set_cons_succ]
  refine wpList_plain rfl (fun K hK => ?_)
  go_simp
  refine hK _ _ ?_
  clear hK K
  try simp only [Act.put, List.setIfInBounds_toArray, List.set_cons_zero, List.set_cons_succ]
  refine wpList_store_part rfl 22 (.tmp 57) (.tmp 56) rfl rfl g7 1 (M.rnd.map B8) rfl rfl _ _ b10 (info40.trans (by rw [List.length_map, hlen.1])) (by rw [List.length_map, hlen.1, len_rC (m := (altM M R1 K1)) ⟨hRl, hKl⟩]; decide) (fun v hv => by obtain ⟨x, _, rfl⟩ := List.mem_map.1 hv; rfl) ?_
  intro wb b11 hgs
  rw [rC_splR (m := (altM M R1 K1)) ⟨hRl, hKl⟩ hlen.1] at b11
  try simp only [Act.put, List.setIfInBounds_toArray, List.set_cons_zero, List.set_cons_succ]
  replace b11 : Blk wb g7 25 (rC (altM M M.rnd K1) vc) := b11
  have hbb := below_new hba hgs HG7.out hba.size
  have ba' : Blk wb g 25 (rC M vc) := by rw [← hcs2]; exact b6.below hbb b6.lt
  clear hba hgs ba b10 hcK hcP hcR
  have hba := hbb
  have ba := ba'
  clear hbb ba'
  have hcK : wb.cell? ⟨g, 0, none⟩ = some (.int .i64 13) := by rw [← HKI.out]; exact ba.cell 0
  have hcP : wb.cell? ⟨g, 73, none⟩ = some (.bool false) := by rw [← HPS.out]; exact (ba.cell (65 + 8)).trans (mC_get hlen.1 hlen.2 8)
  have hcR : wb.cell? ⟨g, 74, none⟩ = some (.bool false) := by rw [← HRE.out]; exact (ba.cell (65 + 9)).trans (mC_get hlen.1 hlen.2 9)
  go_upto_region 11 with (fail)
  refine wp_region_lit ?_
  refine wpList_plain rfl (fun K hK => ?_)
  go_simp
  refine hK _ _ ?_
  clear hK K
  try simp only [Act.put, List.setIfInBounds_toArray, List.set_cons_zero, List.set_cons_succ]
  refine wpList_load_mid rfl 22 (.tmp 76) rfl g 33 rfl (M.mark.map B8) _ (RAt.mark (m := M) ⟨rC M vc, ba, hlen, vc, rfl, hsr.below hba⟩) Tryd.underlying22 rfl (info40.trans (by rw [List.length_map, hlen.2])) ?_
  try simp only [Act.put, List.setIfInBounds_toArray, List.set_cons_zero, List.set_cons_succ]
  refine wpList_plain rfl (fun K hK => ?_)
  go_simp
  refine hK _ _ ?_
  clear hK K
  try simp only [Act.put, List.setIfInBounds_toArray, List.set_cons_zero, List.set_cons_succ]
  refine wpList_store_part rfl 22 (.tmp 78) (.tmp 77) rfl rfl g7 33 (M.mark.map B8) rfl rfl _ _ b11 (info40.trans (by rw [List.length_map, hlen.2])) (by rw [List.length_map, hlen.2, len_rC (m := (altM M M.rnd K1)) ⟨hlen.1, hKl⟩]; decide) (fun v hv => by obtain ⟨x, _, rfl⟩ := List.mem_map.1 hv; rfl) ?_
  intro wc b12 hgs
  rw [rC_splK (m := (altM M M.rnd K1)) ⟨hlen.1, hKl⟩ hlen.2] at b12
  try simp only [Act.put, List.setIfInBounds_toArray, List.set_cons_zero, List.set_cons_succ]
  replace b12 : Blk wc g7 25 (rC (altM M M.rnd M.mark) vc) := b12
  have hbb := below_new hba hgs HG7.out hba.size
  have ba' : Blk wc g 25 (rC M vc) := by rw [← hcs2]; exact b6.below hbb b6.lt
  clear hba hgs ba b11 hcK hcP hcR
  have hba := hbb
  have ba := ba'
  clear hbb ba'
  have hcK : wc.cell? ⟨g, 0, none⟩ = some (.int .i64 13) := by rw [← HKI.out]; exact ba.cell 0
  have hcP : wc.cell? ⟨g, 73, none⟩ = some (.bool false) := by rw [← HPS.out]; exact (ba.cell (65 + 8)).trans (mC_get hlen.1 hlen.2 8)
  have hcR : wc.cell? ⟨g, 74, none⟩ = some (.bool false) := by rw [← HRE.out]; exact (ba.cell (65 + 9)).trans (mC_get hlen.1 hlen.2 9)
  have hal := HelloMath.alter_form HF.out R1 K1 true true (by rw [HKI.out, HRE.out]; rfl) (by rw [HKI.out, HPS.out]; rfl)
  replace hal : formM (altM M M.rnd M.mark) = true ∨ (M.kind = 2 ∧ M.rnd = special) := hal
  have HAL := Lib.hid hal
  have hals := HelloMath.alter_len (m := M) (r := M.rnd) (k := M.mark) rfl rfl
  have HALS := Lib.hid hals
  have HRI := Lib.hid (show RIn wc (altM M M.rnd M.mark) (rC (altM M M.rnd M.mark) vc) from ⟨⟨hlen.1, hlen.2⟩, vc, rfl, hsr.below hba⟩)
  have HBA := Lib.hid (hb16.trans (hba.mono hb16.size))
  have HSA := Lib.hid (show Small (altM M M.rnd M.mark) from HSM.out)
  have HBUF := Lib.hid (hB6.below (hba.mono (Nat.le_refl _)))
  have HLEN := Lib.hid hlen
  have HSR := Lib.hid (hsr.below hba)
  clear hal hals hB6 hsr hb16 hlen
  go_upto_region 12 with (fail)
  clear hcP hcR
  refine wp_region_lit ?_
  refine wpList_load_mid rfl 25 (.tmp 7) rfl g7 0 rfl (rC (altM M M.rnd M.mark) vc) _ (rangeAt_of_blk b12) Tryd.underlying25 rfl (infoR.trans (by rw [HRI.out.len])) ?_
  try simp only [Act.put, List.setIfInBounds_toArray, List.set_cons_zero, List.set_cons_succ]
  refine wpList_plain rfl (fun K hK0 => ?_)
  have hK := Lib.hid hK0
  clear hK0
  go_simp
  go_at_call 10
  refine (to_e (altM M M.rnd M.mark) (rC (altM M M.rnd M.mark) vc) _ HRI.out HSA).mono ?_
  rintro e wd ⟨csd, rfl, hmd, hbd⟩
  try go_wp2_with fail
  refine hK.out _ _ ?_
  clear hK K
  try simp only [Act.put, List.setIfInBounds_toArray, List.set_cons_zero, List.set_cons_succ]
  have HBD := Lib.hid (HBA.out.trans (hbd.mono HBA.out.size))
  have hbdk := hbd
  have bd := ba.below hbd ba.lt
  have bd7 := b12.below hbd b12.lt
  clear hbd ba b12 hba hcK
  have hff : formM (altM M M.rnd M.mark) = true := by
    rcases HAL.out with h | h
    · exact h
    · exact absurd h.1 (by rw [HKI.out]; decide)
  refine wpList_plain rfl (fun K hK0 => ?_)
  have hK := Lib.hid hK0
  clear hK0
  go_simp
  go_at_call 11
  refine (write_1 (altM M M.rnd M.mark) csd _ (HT.out.below HBD.out) hmd hff).mono ?_
  rintro e we ⟨re, rfl, hBe, hbe⟩
  try go_wp2_with fail
  refine hK.out _ _ ?_
  clear hK K
  try simp only [Act.put, List.setIfInBounds_toArray, List.set_cons_zero, List.set_cons_succ]
  have HBE := Lib.hid (HBD.out.trans (hbe.mono HBD.out.size))
  have be := bd.below hbe bd.lt
  obtain ⟨Ae, ce, hre, -⟩ := hBe
  obtain ⟨A7, c7, hr7, -⟩ := HBUF.out
  subst hre
  subst hr7
  obtain ⟨l, hl⟩ : ∃ l, (wholeM M).length = l := ⟨_, rfl⟩
  have hl2 : (wholeM (altM M M.rnd M.mark)).length = l := HALS.out.trans hl
  simp only [hl2, hl]
  have HL := Lib.hid hl
  clear hbe bd bd7 hmd hl hl2 HBUF hbdk
  refine wpList_plain rfl (fun K hK => ?_)
  go_simp
  refine hK _ _ ?_
  clear hK K
  try simp only [Act.put, List.setIfInBounds_toArray, List.set_cons_zero, List.set_cons_succ]
  refine wpList_plain rfl (fun K hK => ?_)
  go_simp
  refine hK _ _ ?_
  clear hK K
  try simp only [Act.put, List.setIfInBounds_toArray, List.set_cons_zero, List.set_cons_succ]
  refine wpList_plain rfl (fun K hK => ?_)
  go_simp
  refine hK _ _ ?_
  clear hK K
  try simp only [Act.put, List.setIfInBounds_toArray, List.set_cons_zero, List.set_cons_succ]
  refine wpList_plain rfl (fun K hK => ?_)
  go_simp
  refine hK _ _ ?_
  clear hK K
  try simp only [Act.put, List.setIfInBounds_toArray, List.set_cons_zero, List.set_cons_succ]
  refine wpList_plain rfl (fun K hK => ?_)
  go_simp
  refine hK _ _ ?_
  clear hK K
  try simp only [Act.put, List.setIfInBounds_toArray, List.set_cons_zero, List.set_cons_succ]
  go_upto_region 15 with (fail)
  refine wp_region_lit ?_
  refine wpList_makeMI rfl rfl ?_
  intro gm wf0 hgm hm0 hbf0
  try simp only [Act.put, List.setIfInBounds_toArray, List.set_cons_zero, List.set_cons_succ]
  refine wpList_putMI rfl (.tmp 96) _ _ rfl rfl gm #[] 0 8 6 rfl rfl rfl hm0 rfl ?_
  intro wf1 hm1 hgm1
  try simp only [Act.put, List.setIfInBounds_toArray, List.set_cons_zero, List.set_cons_succ]
  refine wpList_putMI rfl (.tmp 96) _ _ rfl rfl gm (#[].push (ent 8 6 0)) 1 13 15 rfl rfl rfl hm1 rfl ?_
  intro wf2 hm2 hgm2
  try simp only [Act.put, List.setIfInBounds_toArray, List.set_cons_zero, List.set_cons_succ]
  refine wpList_putMI rfl (.tmp 96) _ _ rfl rfl gm ((#[].push (ent 8 6 0)).push (ent 13 15 1)) 2 20 36 rfl rfl rfl hm2 rfl ?_
  intro wf3 hm3 hgm3
  try simp only [Act.put, List.setIfInBounds_toArray, List.set_cons_zero, List.set_cons_succ]
  have hbf := hbf0.trans (grown_below (grown_trans (grown_trans hgm1 hgm2) hgm3) (Nat.le_of_eq hgm.symm) hbf0.size)
  have bf := be.below hbf be.lt
  have HBF := Lib.hid (HBE.out.trans (hbf.mono HBE.out.size))
  clear hbf hbf0 hgm1 hgm2 hgm3 hgm hm0 hm1 hm2 be
  have hcK : wf3.cell? ⟨g, 0, none⟩ = some (.int .i64 13) := by rw [← HKI.out]; exact bf.cell 0
  refine wpList_plain rfl (fun K hK => ?_)
  go_simp
  refine hK _ _ ?_
  clear hK K
  try simp only [Act.put, List.setIfInBounds_toArray, List.set_cons_zero, List.set_cons_succ]
  refine wpList_plain rfl (fun K hK => ?_)
  go_simp
  refine hK _ _ ?_
  clear hK K
  try simp only [Act.put, List.setIfInBounds_toArray, List.set_cons_zero, List.set_cons_succ]
  go_upto_region 16 with (fail)
  refine wp_region_lit ?_
  refine wpList_plain rfl (fun K hK => ?_)
  go_simp
  refine hK _ _ ?_
  clear hK K
  try simp only [Act.put, List.setIfInBounds_toArray, List.set_cons_zero, List.set_cons_succ]
  refine wpList_plain rfl (fun K hK => ?_)
  go_simp
  refine hK _ _ ?_
  clear hK K
  try simp only [Act.put, List.setIfInBounds_toArray, List.set_cons_zero, List.set_cons_succ]
  refine wpList_plain rfl (fun K hK => ?_)
  go_simp
  refine hK _ _ ?_
  clear hK K
  try simp only [Act.put, List.setIfInBounds_toArray, List.set_cons_zero, List.set_cons_succ]
  refine wpList_lookMI rfl (.tmp 99) (.tmp 101) rfl gm (((#[].push (ent 8 6 0)).push (ent 13 15 1)).push (ent 20 36 2)) 3 13 rfl rfl hm3 (some (1, .int .i64 15)) rfl ?_
  try simp only [Act.put, List.setIfInBounds_toArray, List.set_cons_zero, List.set_cons_succ]
  refine wpList_plain rfl (fun K hK => ?_)
  go_simp
  refine hK _ _ ?_
  clear hK K
  try simp only [Act.put, List.setIfInBounds_toArray, List.set_cons_zero, List.set_cons_succ]
  refine wpList_plain rfl (fun K hK => ?_)
  go_simp
  refine hK _ _ ?_
  clear hK K
  try simp only [Act.put, List.setIfInBounds_toArray, List.set_cons_zero, List.set_cons_succ]
  refine wpList_plain rfl (fun K hK => ?_)
  go_simp
  refine hK _ _ ?_
  clear hK K
  try simp only [Act.put, List.setIfInBounds_toArray, List.set_cons_zero, List.set_cons_succ]
  refine wpList_plain rfl (fun K hK => ?_)
  go_simp
  refine hK _ _ ?_
  clear hK K
  try simp only [Act.put, List.setIfInBounds_toArray, List.set_cons_zero, List.set_cons_succ]
  refine wpList_plain rfl (fun K hK => ?_)
  go_simp
  refine hK _ _ ?_
  clear hK K
  try simp only [Act.put, List.setIfInBounds_toArray, List.set_cons_zero, List.set_cons_succ]
  have hl1 : (l : Int) = 15 := by rw [← HL.out]; exact congrArg Nat.cast (HelloMath.size_13 HKI.out)
  go_wp2
  go_ret
  exact ⟨rfl, HBF.out⟩
set_option maxRecDepth 100000 in
set_option maxHeartbeats 1000000 in
theorem sizes_15 (m : Msg) (cs : List Value) (y : UInt8) (w : World) (hT : TabH w) (h : RIn w m cs) (hf : formM (tameM m) = true) (HKI : Hid ((tameM m).kind = 15)) (HPS : Hid ((tameM m).psk = false)) (HRE : Hid ((tameM m).retry = false)) : Calls Tryd.prog 8 #[.agg cs.toArray, .int .u8 (y.toNat : Int)] w fun e w' => e = .returned (.bool true) ∧ Below w.heap.size w w' := by
  have HT := Lib.hid hT
  have HF := Lib.hid hf
  clear hT hf
  go_enter Tryd.func8, Tryd.ntmps8
  go_upto_region 0 with (fail)
  refine wp_region_lit ?_
  refine wpList_plain rfl (fun K hK => ?_)
  go_simp
  refine hK _ _ ?_
  clear hK K
  have b1 := Blk.new w 25 cs
  have hb1 : Below w.heap.size w (w.alloc (.cells cs.toArray 25)) := (Below.refl _ _).alloc (Nat.le_refl _) _
  have h1 := h.below hb1
  obtain ⟨g, hg1⟩ : ∃ g, g = w.heap.size := ⟨_, rfl⟩
  rw [← hg1] at b1
  simp only [← hg1]
  have HG := Lib.hid (Nat.le_of_eq hg1.symm)
  clear h hg1
  generalize w.alloc (.cells cs.toArray 25) = w1 at *
  try simp only [Act.put, List.setIfInBounds_toArray, List.set_cons_zero, List.set_cons_succ]
  go_upto_region 1 with (fail)
  refine wp_region_lit ?_
  refine wpList_load_mid rfl 25 (.tmp 2) rfl g 0 rfl cs _ (rangeAt_of_blk b1) Tryd.underlying25 rfl (infoR.trans (by rw [h1.len])) ?_
  try simp only [Act.put, List.setIfInBounds_toArray, List.set_cons_zero, List.set_cons_succ]
  refine wpList_plain rfl (fun K hK0 => ?_)
  have hK := Lib.hid hK0
  clear hK0
  go_simp
  go_at_call 9
  refine (tame_e m cs _ h1).mono ?_
  rintro e w2 ⟨cs2, rfl, hm2, hb2⟩
  try go_wp2_with fail
  refine hK.out _ _ ?_
  clear hK K
  try simp only [Act.put, List.setIfInBounds_toArray, List.set_cons_zero, List.set_cons_succ]
  have b2 := b1.below hb2 b1.lt
  obtain ⟨M, hM⟩ : ∃ M, tameM m = M := ⟨_, rfl⟩
  have HSM := Lib.hid (show Small M by rw [← hM]; exact small_tame m)
  rw [hM] at hm2 HF HKI HPS HRE
  refine wpList_store_blk rfl 25 (.tmp 2) (.tmp 14) rfl rfl g cs2 rfl rfl _ _ b2 (infoR.trans (by rw [hm2.rin.len])) (by rw [hm2.rin.len, h1.len]) hm2.rin.one ?_
  intro w3 b3 hg3
  try simp only [Act.put, List.setIfInBounds_toArray, List.set_cons_zero, List.set_cons_succ]
  replace hm2 := (hm2.kept hg3 b1.lt).rin
  have hb13 := hb1.trans ((hb2.mono hb1.size).trans (grown_below hg3 HG.out (Nat.le_trans hb1.size hb2.size)))
  clear hb2 hb1 hg3 b1 b2 h1 hM
  go_upto_region 2 with (fail)
  refine wp_region_lit ?_
  refine wpList_load_mid rfl 25 (.tmp 2) rfl g 0 rfl cs2 _ (rangeAt_of_blk b3) Tryd.underlying25 rfl (infoR.trans (by rw [hm2.len])) ?_
  try simp only [Act.put, List.setIfInBounds_toArray, List.set_cons_zero, List.set_cons_succ]
  refine wpList_plain rfl (fun K hK0 => ?_)
  have hK := Lib.hid hK0
  clear hK0
  go_simp
  go_at_call 10
  refine (to_e M cs2 _ hm2 HSM).mono ?_
  rintro e w4 ⟨cs4, rfl, hm4, hb4⟩
  try go_wp2_with fail
  refine hK.out _ _ ?_
  clear hK K
  try simp only [Act.put, List.setIfInBounds_toArray, List.set_cons_zero, List.set_cons_succ]
  have b4 := b3.below hb4 b3.lt
  replace hm2 := hm2.below hb4
  have hb14 := hb13.trans (hb4.mono hb13.size)
  clear hb4 hb13 b3
  refine wpList_plain rfl (fun K hK0 => ?_)
  have hK := Lib.hid hK0
  clear hK0
  go_simp
  go_at_call 11
  refine (write_1 M cs4 _ (HT.out.below hb14) hm4 HF.out).mono ?_
  rintro e w5 ⟨r, rfl, hB5, hb5⟩
  try go_wp2_with fail
  refine hK.out _ _ ?_
  clear hK K
  try simp only [Act.put, List.setIfInBounds_toArray, List.set_cons_zero, List.set_cons_succ]
  have b5 := b4.below hb5 b4.lt
  replace hm2 := hm2.below hb5
  have hb15 := hb14.trans (hb5.mono hb14.size)
  have HG4 := Lib.hid (show g < w4.heap.size from b4.lt)
  clear hb5 b4 hm4 hb14
  refine wpList_plain rfl (fun K hK => ?_)
  go_simp
  refine hK _ _ ?_
  clear hK K
  try simp only [Act.put, List.setIfInBounds_toArray, List.set_cons_zero, List.set_cons_succ]
  refine wpList_plain rfl (fun K hK => ?_)
  go_simp
  refine hK _ _ ?_
  clear hK K
  try simp only [Act.put, List.setIfInBounds_toArray, List.set_cons_zero, List.set_cons_succ]
  refine wpList_plain rfl (fun K hK => ?_)
  go_simp
  refine hK _ _ ?_
  clear hK K
  try simp only [Act.put, List.setIfInBounds_toArray, List.set_cons_zero, List.set_cons_succ]
  refine wpList_plain rfl (fun K hK => ?_)
  go_simp
  refine hK _ _ ?_
  clear hK K
  try simp only [Act.put, List.setIfInBounds_toArray, List.set_cons_zero, List.set_cons_succ]
  refine wpList_plain rfl (fun K hK => ?_)
  go_simp
  refine hK _ _ ?_
  clear hK K
  try simp only [Act.put, List.setIfInBounds_toArray, List.set_cons_zero, List.set_cons_succ]
  go_upto_region 5 with (go_at_call 13; refine (hellos_e _ (HT.out.below hb15)).mono ?_; rintro e w6 ⟨rfl, hb6⟩)
  have hb16 := hb15.trans (hb6.mono hb15.size)
  have b6 := b5.below hb6 b5.lt
  have hm6 := hm2.below hb6
  have hB6 := hB5.below hb6
  have HM6 := Lib.hid hm6
  obtain ⟨hlen, vc, hcs2, hsr⟩ := hm6
  clear b5 hm2 hB5 hb15 hb6
  refine wp_region_lit ?_
  refine wpList_load_mid rfl 25 (.tmp 2) rfl g 0 rfl cs2 _ (rangeAt_of_blk b6) Tryd.underlying25 rfl (infoR.trans (by rw [hcs2]; exact congrArg some (mC_length hlen.1 hlen.2).symm)) ?_
  try simp only [Act.put, List.setIfInBounds_toArray, List.set_cons_zero, List.set_cons_succ]
  refine wpList_new_blk rfl 25 rfl _ zeroR ?_
  intro g7 w7 hg7 b7 hb7
  try simp only [Act.put, List.setIfInBounds_toArray, List.set_cons_zero, List.set_cons_succ]
  have HG7 := Lib.hid (show w6.heap.size ≤ g7 by rw [hg7]; exact Nat.le_refl _)
  refine wpList_store_blk rfl 25 (.tmp 7) (.tmp 28) rfl rfl g7 cs2 rfl rfl _ _ b7 (infoR.trans (by rw [hcs2]; exact congrArg some (mC_length hlen.1 hlen.2).symm)) (by rw [hcs2]; exact (rC_zero.trans (mC_length hlen.1 hlen.2).symm)) (by obtain ⟨Av, cv, rfl, _⟩ := hsr; rw [hcs2]; exact one_rC) ?_
  intro w8 b8 hg8
  try simp only [Act.put, List.setIfInBounds_toArray, List.set_cons_zero, List.set_cons_succ]
  have hb68 := hb7.trans (grown_below hg8 HG7.out hb7.size)
  clear hb7 hg8 hg7 b7
  rw [hcs2] at b8
  obtain ⟨x3, hx3⟩ : ∃ x : UInt8, M.rnd.getD 3 0 = x := ⟨_, rfl⟩
  obtain ⟨x5, hx5⟩ : ∃ x : UInt8, M.mark.getD 5 0 = x := ⟨_, rfl⟩
  have hc4 : w8.cell? ⟨g7, 4, none⟩ = some (.int .u8 (x3.toNat : Int)) := by rw [b8.cell, rC, mC_rnd hlen.1 3 (by decide), getD_map8 _ 3 (by rw [hlen.1]; decide), hx3]
  have hfz := b8.frozen 4
  have hxo := xor_u8 x3 y
  go_upto_region 7 with (fail)
  rw [← UInt8.toNat_xor]
  clear hc4 hfz hxo
  have b9 := b8.set_ 4 (B8 (x3 ^^^ y))
  rw [show (4 : Nat) = 1 + 3 from rfl, rC_setR 3 (by decide) hlen.1] at b9
  obtain ⟨R1, hR1⟩ : ∃ R, M.rnd.set 3 (x3 ^^^ y) = R := ⟨_, rfl⟩
  rw [hR1] at b9
  have hRl : R1.length = 32 := by rw [← hR1, List.length_set]; exact hlen.1
  have hb69 := grown_cellB hb68 hb68.size g7 4 (B8 (x3 ^^^ y)) HG7.out
  replace b9 : Blk (w8.setCell ⟨g7, 4, none⟩ (.int .u8 ((x3 ^^^ y).toNat : Int))) g7 25 (rC { M with rnd := R1 } vc) := b9
  replace hb69 : Below w6.heap.size w6 (w8.setCell ⟨g7, 4, none⟩ (.int .u8 ((x3 ^^^ y).toNat : Int))) := hb69
  generalize w8.setCell ⟨g7, 4, none⟩ (.int .u8 ((x3 ^^^ y).toNat : Int)) = w9 at *
  clear b8 hb68
  have hc5 : w9.cell? ⟨g7, 38, none⟩ = some (.int .u8 (x5.toNat : Int)) := by rw [b9.cell, rC, mC_mark (m := { M with rnd := R1 }) hRl hlen.2 5 (by decide), getD_map8 _ 5 (by rw [hlen.2]; decide), hx5]
  have hfz := b9.frozen 38
  have hxo := xor_u8 x5 y
  go_upto_region 8 with (fail)
  rw [← UInt8.toNat_xor]
  clear hc5 hfz hxo
  have b10 := b9.set_ 38 (B8 (x5 ^^^ y))
  rw [show (38 : Nat) = 33 + 5 from rfl, rC_setK (m := { M with rnd := R1 }) 5 (by decide) hRl hlen.2] at b10
  replace b10 : Blk (w9.setCell ⟨g7, 38, none⟩ (.int .u8 ((x5 ^^^ y).toNat : Int))) g7 25 (rC (altM M R1 (M.mark.set 5 (x5 ^^^ y))) vc) := b10
  obtain ⟨K1, hK1⟩ : ∃ R, M.mark.set 5 (x5 ^^^ y) = R := ⟨_, rfl⟩
  rw [hK1] at b10
  have hKl : K1.length = 32 := by rw [← hK1, List.length_set]; exact hlen.2
  have hba := grown_cellB hb69 hb69.size g7 38 (B8 (x5 ^^^ y)) HG7.out
  replace hba : Below w6.heap.size w6 (w9.setCell ⟨g7, 38, none⟩ (.int .u8 ((x5 ^^^ y).toNat : Int))) := hba
  generalize w9.setCell ⟨g7, 38, none⟩ (.int .u8 ((x5 ^^^ y).toNat : Int)) = wa at *
  clear b9 hb69
  obtain ⟨z3, hz3⟩ : ∃ z, x3 ^^^ y = z := ⟨_, rfl⟩
  obtain ⟨z5, hz5⟩ : ∃ z, x5 ^^^ y = z := ⟨_, rfl⟩
  simp only [hz3, hz5]
  clear hz3 hz5 hx3 hx5
  have ba : Blk wa g 25 (rC M vc) := by rw [← hcs2]; exact b6.below hba b6.lt
  have hcK : wa.cell? ⟨g, 0, none⟩ = some (.int .i64 15) := by rw [← HKI.out]; exact ba.cell 0
  have hcP : wa.cell? ⟨g, 73, none⟩ = some (.bool false) := by rw [← HPS.out]; exact (ba.cell (65 + 8)).trans (mC_get hlen.1 hlen.2 8)
  have hcR : wa.cell? ⟨g, 74, none⟩ = some (.bool false) := by rw [← HRE.out]; exact (ba.cell (65 + 9)).trans (mC_get hlen.1 hlen.2 9)
  go_upto_region 9 with (fail)
  refine wp_region_lit ?_
  refine wpList_plain rfl (fun K hK => ?_)
  go_simp
  refine hK _ _ ?_
  clear hK K
  try simp only [Act.put, List.setIfInBounds_toArray, List.set_cons_zero, List.set_cons_succ]
  refine wpList_load_mid rfl 22 (.tmp 55) rfl g 1 rfl (M.rnd.map B8) _ (RAt.rnd (m := M) ⟨rC M vc, ba, hlen, vc, rfl, hsr.below hba⟩) Tryd.underlying22 rfl (info40.trans (by rw [List.length_map, hlen.1])) ?_
  try simp only [Act.put, List.setIfInBounds_toArray, List.set_cons_zero, List.set_cons_succ]
  refine wpList_plain rfl (fun K hK => ?_)
  go_simp
  refine hK _ _ ?_
  clear hK K
  try simp only [Act.put, List.setIfInBounds_toArray, List.set_cons_zero, List.set_cons_succ]
  refine wpList_store_part rfl 22 (.tmp 57) (.tmp 56) rfl rfl g7 1 (M.rnd.map B8) rfl rfl _ _ b10 (info40.trans (by rw [List.length_map, hlen.1])) (by rw [List.length_map, hlen.1, len_rC (m := (altM M R1 K1)) ⟨hRl, hKl⟩]; decide) (fun v hv => by obtain ⟨x, _, rfl⟩ := List.mem_map.1 hv; rfl) ?_
  intro wb b11 hgs
  rw [rC_splR (m := (altM M R1 K1)) ⟨hRl, hKl⟩ hlen.1] at b11
  try simp only [Act.put, List.setIfInBounds_toArray, List.set_cons_zero, List.set_cons_succ]
  replace b11 : Blk wb g7 25 (rC (altM M M.rnd K1) vc) := b11
  have hbb := below_new hba hgs HG7.out hba.size
  have ba' : Blk wb g 25 (rC M vc) := by rw [← hcs2]; exact b6.below hbb b6.lt
  clear hba hgs ba b10 hcK hcP hcR
  have hba := hbb
  have ba := ba'
  clear hbb ba'
  have hcK : wb.cell? ⟨g, 0, none⟩ = some (.int .i64 15) := by rw [← HKI.out]; exact ba.cell 0
  have hcP : wb.cell? ⟨g, 73, none⟩ = some (.bool false) := by rw [← HPS.out]; exact (ba.cell (65 + 8)).trans (mC_get hlen.1 hlen.2 8)
  have hcR : wb.cell? ⟨g, 74, none⟩ = some (.bool false) := by rw [← HRE.out]; exact (ba.cell (65 + 9)).trans (mC_get hlen.1 hlen.2 9)
  go_upto_region 11 with (fail)
  refine wp_region_lit ?_
  refine wpList_plain rfl (fun K hK => ?_)
  go_simp
  refine hK _ _ ?_
  clear hK K
  try simp only [Act.put, List.setIfInBounds_toArray, List.set_cons_zero, List.set_cons_succ]
  refine wpList_load_mid rfl 22 (.tmp 76) rfl g 33 rfl (M.mark.map B8) _ (RAt.mark (m := M) ⟨rC M vc, ba, hlen, vc, rfl, hsr.below hba⟩) Tryd.underlying22 rfl (info40.trans (by rw [List.length_map, hlen.2])) ?_
  try simp only [Act.put, List.setIfInBounds_toArray, List.set_cons_zero, List.set_cons_succ]
  refine wpList_plain rfl (fun K hK => ?_)
  go_simp
  refine hK _ _ ?_
  clear hK K
  try simp only [Act.put, List.setIfInBounds_toArray, List.set_cons_zero, List.set_cons_succ]
  refine wpList_store_part rfl 22 (.tmp 78) (.tmp 77) rfl rfl g7 33 (M.mark.map B8) rfl rfl _ _ b11 (info40.trans (by rw [List.length_map, hlen.2])) (by rw [List.length_map, hlen.2, len_rC (m := (altM M M.rnd K1)) ⟨hlen.1, hKl⟩]; decide) (fun v hv => by obtain ⟨x, _, rfl⟩ := List.mem_map.1 hv; rfl) ?_
  intro wc b12 hgs
  rw [rC_splK (m := (altM M M.rnd K1)) ⟨hlen.1, hKl⟩ hlen.2] at b12
  try simp only [Act.put, List.setIfInBounds_toArray, List.set_cons_zero, List.set_cons_succ]
  replace b12 : Blk wc g7 25 (rC (altM M M.rnd M.mark) vc) := b12
  have hbb := below_new hba hgs HG7.out hba.size
  have ba' : Blk wc g 25 (rC M vc) := by rw [← hcs2]; exact b6.below hbb b6.lt
  clear hba hgs ba b11 hcK hcP hcR
  have hba := hbb
  have ba := ba'
  clear hbb ba'
  have hcK : wc.cell? ⟨g, 0, none⟩ = some (.int .i64 15) := by rw [← HKI.out]; exact ba.cell 0
  have hcP : wc.cell? ⟨g, 73, none⟩ = some (.bool false) := by rw [← HPS.out]; exact (ba.cell (65 + 8)).trans (mC_get hlen.1 hlen.2 8)
  have hcR : wc.cell? ⟨g, 74, none⟩ = some (.bool false) := by rw [← HRE.out]; exact (ba.cell (65 + 9)).trans (mC_get hlen.1 hlen.2 9)
  have hal := HelloMath.alter_form HF.out R1 K1 true true (by rw [HKI.out, HRE.out]; rfl) (by rw [HKI.out, HPS.out]; rfl)
  replace hal : formM (altM M M.rnd M.mark) = true ∨ (M.kind = 2 ∧ M.rnd = special) := hal
  have HAL := Lib.hid hal
  have hals := HelloMath.alter_len (m := M) (r := M.rnd) (k := M.mark) rfl rfl
  have HALS := Lib.hid hals
  have HRI := Lib.hid (show RIn wc (altM M M.rnd M.mark) (rC (altM M M.rnd M.mark) vc) from ⟨⟨hlen.1, hlen.2⟩, vc, rfl, hsr.below hba⟩)
  have HBA := Lib.hid (hb16.trans (hba.mono hb16.size))
  have HSA := Lib.hid (show Small (altM M M.rnd M.mark) from HSM.out)
  have HBUF := Lib.hid (hB6.below (hba.mono (Nat.le_refl _)))
  have HLEN := Lib.hid hlen
  have HSR := Lib.hid (hsr.below hba)
  clear hal hals hB6 hsr hb16 hlen
  go_upto_region 12 with (fail)
  clear hcP hcR
  refine wp_region_lit ?_
  refine wpList_load_mid rfl 25 (.tmp 7) rfl g7 0 rfl (rC (altM M M.rnd M.mark) vc) _ (rangeAt_of_blk b12) Tryd.underlying25 rfl (infoR.trans (by rw [HRI.out.len])) ?_
  try simp only [Act.put, List.setIfInBounds_toArray, List.set_cons_zero, List.set_cons_succ]
  refine wpList_plain rfl (fun K hK0 => ?_)
  have hK := Lib.hid hK0
  clear hK0
  go_simp
  go_at_call 10
  refine (to_e (altM M M.rnd M.mark) (rC (altM M M.rnd M.mark) vc) _ HRI.out HSA).mono ?_
  rintro e wd ⟨csd, rfl, hmd, hbd⟩
  try go_wp2_with fail
  refine hK.out _ _ ?_
  clear hK K
  try simp only [Act.put, List.setIfInBounds_toArray, List.set_cons_zero, List.set_cons_succ]
  have HBD := Lib.hid (HBA.out.trans (hbd.mono HBA.out.size))
  have hbdk := hbd
  have bd := ba.below hbd ba.lt
  have bd7 := b12.below hbd b12.lt
  clear hbd ba b12 hba hcK
  have hff : formM (altM M M.rnd M.mark) = true := by
    rcases HAL.out with h | h
    · exact h
    · exact absurd h.1 (by rw [HKI.out]; decide)
  refine wpList_plain rfl (fun K hK0 => ?_)
  have hK := Lib.hid hK0
  clear hK0
  go_simp
  go_at_call 11
  refine (write_1 (altM M M.rnd M.mark) csd _ (HT.out.below HBD.out) hmd hff).mono ?_
  rintro e we ⟨re, rfl, hBe, hbe⟩
  try go_wp2_with fail
  refine hK.out _ _ ?_
  clear hK K
  try simp only [Act.put, List.setIfInBounds_toArray, List.set_cons_zero, List.set_cons_succ]
  have HBE := Lib.hid (HBD.out.trans (hbe.mono HBD.out.size))
  have be := bd.below hbe bd.lt
  obtain ⟨Ae, ce, hre, -⟩ := hBe
  obtain ⟨A7, c7, hr7, -⟩ := HBUF.out
  subst hre
  subst hr7
  obtain ⟨l, hl⟩ : ∃ l, (wholeM M).length = l := ⟨_, rfl⟩
  have hl2 : (wholeM (altM M M.rnd M.mark)).length = l := HALS.out.trans hl
  simp only [hl2, hl]
  have HL := Lib.hid hl
  clear hbe bd bd7 hmd hl hl2 HBUF hbdk
  refine wpList_plain rfl (fun K hK => ?_)
  go_simp
  refine hK _ _ ?_
  clear hK K
  try simp only [Act.put, List.setIfInBounds_toArray, List.set_cons_zero, List.set_cons_succ]
  refine wpList_plain rfl (fun K hK => ?_)
  go_simp
  refine hK _ _ ?_
  clear hK K
  try simp only [Act.put, List.setIfInBounds_toArray, List.set_cons_zero, List.set_cons_succ]
  refine wpList_plain rfl (fun K hK => ?_)
  go_simp
  refine hK _ _ ?_
  clear hK K
  try simp only [Act.put, List.setIfInBounds_toArray, List.set_cons_zero, List.set_cons_succ]
  refine wpList_plain rfl (fun K hK => ?_)
  go_simp
  refine hK _ _ ?_
  clear hK K
  try simp only [Act.put, List.setIfInBounds_toArray, List.set_cons_zero, List.set_cons_succ]
  refine wpList_plain rfl (fun K hK => ?_)
  go_simp
  refine hK _ _ ?_
  clear hK K
  try simp only [Act.put, List.setIfInBounds_toArray, List.set_cons_zero, List.set_cons_succ]
  go_upto_region 15 with (fail)
  refine wp_region_lit ?_
  refine wpList_makeMI rfl rfl ?_
  intro gm wf0 hgm hm0 hbf0
  try simp only [Act.put, List.setIfInBounds_toArray, List.set_cons_zero, List.set_cons_succ]
  refine wpList_putMI rfl (.tmp 96) _ _ rfl rfl gm #[] 0 8 6 rfl rfl rfl hm0 rfl ?_
  intro wf1 hm1 hgm1
  try simp only [Act.put, List.setIfInBounds_toArray, List.set_cons_zero, List.set_cons_succ]
  refine wpList_putMI rfl (.tmp 96) _ _ rfl rfl gm (#[].push (ent 8 6 0)) 1 13 15 rfl rfl rfl hm1 rfl ?_
  intro wf2 hm2 hgm2
  try simp only [Act.put, List.setIfInBounds_toArray, List.set_cons_zero, List.set_cons_succ]
  refine wpList_putMI rfl (.tmp 96) _ _ rfl rfl gm ((#[].push (ent 8 6 0)).push (ent 13 15 1)) 2 20 36 rfl rfl rfl hm2 rfl ?_
  intro wf3 hm3 hgm3
  try simp only [Act.put, List.setIfInBounds_toArray, List.set_cons_zero, List.set_cons_succ]
  have hbf := hbf0.trans (grown_below (grown_trans (grown_trans hgm1 hgm2) hgm3) (Nat.le_of_eq hgm.symm) hbf0.size)
  have bf := be.below hbf be.lt
  have HBF := Lib.hid (HBE.out.trans (hbf.mono HBE.out.size))
  clear hbf hbf0 hgm1 hgm2 hgm3 hgm hm0 hm1 hm2 be
  have hcK : wf3.cell? ⟨g, 0, none⟩ = some (.int .i64 15) := by rw [← HKI.out]; exact bf.cell 0
  refine wpList_plain rfl (fun K hK => ?_)
  go_simp
  refine hK _ _ ?_
  clear hK K
  try simp only [Act.put, List.setIfInBounds_toArray, List.set_cons_zero, List.set_cons_succ]
  refine wpList_plain rfl (fun K hK => ?_)
  go_simp
  refine hK _ _ ?_
  clear hK K
  try simp only [Act.put, List.setIfInBounds_toArray, List.set_cons_zero, List.set_cons_succ]
  go_upto_region 16 with (fail)
  refine wp_region_lit ?_
  refine wpList_plain rfl (fun K hK => ?_)
  go_simp
  refine hK _ _ ?_
  clear hK K
  try simp only [Act.put, List.setIfInBounds_toArray, List.set_cons_zero, List.set_cons_succ]
  refine wpList_plain rfl (fun K hK => ?_)
  go_simp
  refine hK _ _ ?_
  clear hK K
  try simp only [Act.put, List.setIfInBounds_toArray, List.set_cons_zero, List.set_cons_succ]
  refine wpList_plain rfl (fun K hK => ?_)
  go_simp
  refine hK _ _ ?_
  clear hK K
  try simp only [Act.put, List.setIfInBounds_toArray, List.set_cons_zero, List.set_cons_succ]
  refine wpList_lookMI rfl (.tmp 99) (.tmp 101) rfl gm (((#[].push (ent 8 6 0)).push (ent 13 15 1)).push (ent 20 36 2)) 3 15 rfl rfl hm3 none rfl ?_
  try simp only [Act.put, List.setIfInBounds_toArray, List.set_cons_zero, List.set_cons_succ]
  refine wpList_plain rfl (fun K hK => ?_)
  go_simp
  refine hK _ _ ?_
  clear hK K
  try simp only [Act.put, List.setIfInBounds_toArray, List.set_cons_zero, List.set_cons_succ]
  refine wpList_plain rfl (fun K hK => ?_)
  go_simp
  refine hK _ _ ?_
  clear hK K
  try simp only [Act.put, List.setIfInBounds_toArray, List.set_cons_zero, List.set_cons_succ]
  refine wpList_plain rfl (fun K hK => ?_)
  go_simp
  refine hK _ _ ?_
  clear hK K
  try simp only [Act.put, List.setIfInBounds_toArray, List.set_cons_zero, List.set_cons_succ]
  refine wpList_plain rfl (fun K hK => ?_)
  go_simp
  refine hK _ _ ?_
  clear hK K
  try simp only [Act.put, List.setIfInBounds_toArray, List.set_cons_zero, List.set_cons_succ]
  refine wpList_plain rfl (fun K hK => ?_)
  go_simp
  refine hK _ _ ?_
  clear hK K
  try simp only [Act.put, List.setIfInBounds_toArray, List.set_cons_zero, List.set_cons_succ]
  obtain ⟨sl, hsl⟩ : ∃ n, M.sig.length = n := ⟨_, rfl⟩
  have hl1 : (l : Int) = 8 + (sl : Int) := by rw [← HL.out, HelloMath.size_15 HKI.out, hsl]; omega
  have hs2 : sl ≤ 2100 := by rw [← hsl]; exact HSM.out.2.2.2.2.1
  have hcS : wf3.cell? ⟨g, 69, none⟩ = some (TX M.sig) := (bf.cell (65 + 4)).trans (mC_get HLEN.out.1 HLEN.out.2 4)
  have hsz : (⟨M.sig.toArray⟩ : ByteArray).size = sl := hsl
  go_wp2
  go_ret
  exact ⟨rfl, HBF.out⟩
set_option maxRecDepth 100000 in
set_option maxHeartbeats 1000000 in
theorem sizes_20 (m : Msg) (cs : List Value) (y : UInt8) (w : World) (hT : TabH w) (h : RIn w m cs) (hf : formM (tameM m) = true) (HKI : Hid ((tameM m).kind = 20)) (HPS : Hid ((tameM m).psk = false)) (HRE : Hid ((tameM m).retry = false)) : Calls Tryd.prog 8 #[.agg cs.toArray, .int .u8 (y.toNat : Int)] w fun e w' => e = .returned (.bool true) ∧ Below w.heap.size w w' := by
  have HT := Lib.hid hT
  have HF := Lib.hid hf
  clear hT hf
  go_enter Tryd.func8, Tryd.ntmps8
  go_upto_region 0 with (fail)
  refine wp_region_lit ?_
  refine wpList_plain rfl (fun K hK => ?_)
  go_simp
  refine hK _ _ ?_
  clear hK K
  have b1 := Blk.new w 25 cs
  have hb1 : Below w.heap.size w (w.alloc (.cells cs.toArray 25)) := (Below.refl _ _).alloc (Nat.le_refl _) _
  have h1 := h.below hb1
  obtain ⟨g, hg1⟩ : ∃ g, g = w.heap.size := ⟨_, rfl⟩
  rw [← hg1] at b1
  simp only [← hg1]
  have HG := Lib.hid (Nat.le_of_eq hg1.symm)
  clear h hg1
  generalize w.alloc (.cells cs.toArray 25) = w1 at *
  try simp only [Act.put, List.setIfInBounds_toArray, List.set_cons_zero, List.set_cons_succ]
  go_upto_region 1 with (fail)
  refine wp_region_lit ?_
  refine wpList_load_mid rfl 25 (.tmp 2) rfl g 0 rfl cs _ (rangeAt_of_blk b1) Tryd.underlying25 rfl (infoR.trans (by rw [h1.len])) ?_
  try simp only [Act.put, List.setIfInBounds_toArray, List.set_cons_zero, List.set_cons_succ]
  refine wpList_plain rfl (fun K hK0 => ?_)
  have hK := Lib.hid hK0
  clear hK0
  go_simp
  go_at_call 9
  refine (tame_e m cs _ h1).mono ?_
  rintro e w2 ⟨cs2, rfl, hm2, hb2⟩
  try go_wp2_with fail
  refine hK.out _ _ ?_
  clear hK K
  try simp only [Act.put, List.setIfInBounds_toArray, List.set_cons_zero, List.set_cons_succ]
  have b2 := b1.below hb2 b1.lt
  obtain ⟨M, hM⟩ : ∃ M, tameM m = M := ⟨_, rfl⟩
  have HSM := Lib.hid (show Small M by rw [← hM]; exact small_tame m)
  rw [hM] at hm2 HF HKI HPS HRE
  refine wpList_store_blk rfl 25 (.tmp 2) (.tmp 14) rfl rfl g cs2 rfl rfl _ _ b2 (infoR.trans (by rw [hm2.rin.len])) (by rw [hm2.rin.len, h1.len]) hm2.rin.one ?_
  intro w3 b3 hg3
  try simp only [Act.put, List.setIfInBounds_toArray, List.set_cons_zero, List.set_cons_succ]
  replace hm2 := (hm2.kept hg3 b1.lt).rin
  have hb13 := hb1.trans ((hb2.mono hb1.size).trans (grown_below hg3 HG.out (Nat.le_trans hb1.size hb2.size)))
  clear hb2 hb1 hg3 b1 b2 h1 hM
  go_upto_region 2 with (fail)
  refine wp_region_lit ?_
  refine wpList_load_mid rfl 25 (.tmp 2) rfl g 0 rfl cs2 _ (rangeAt_of_blk b3) Tryd.underlying25 rfl (infoR.trans (by rw [hm2.len])) ?_
  try simp only [Act.put, List.setIfInBounds_toArray, List.set_cons_zero, List.set_cons_succ]
  refine wpList_plain rfl (fun K hK0 => ?_)
  have hK := Lib.hid hK0
  clear hK0
  go_simp
  go_at_call 10
  refine (to_e M cs2 _ hm2 HSM).mono ?_
  rintro e w4 ⟨cs4, rfl, hm4, hb4⟩
  try go_wp2_with fail
  refine hK.out _ _ ?_
  clear hK K
  try simp only [Act.put, List.setIfInBounds_toArray, List.set_cons_zero, List.set_cons_succ]
  have b4 := b3.below hb4 b3.lt
  replace hm2 := hm2.below hb4
  have hb14 := hb13.trans (hb4.mono hb13.size)
  clear hb4 hb13 b3
  refine wpList_plain rfl (fun K hK0 => ?_)
  have hK := Lib.hid hK0
  clear hK0
  go_simp
  go_at_call 11
  refine (write_1 M cs4 _ (HT.out.below hb14) hm4 HF.out).mono ?_
  rintro e w5 ⟨r, rfl, hB5, hb5⟩
  try go_wp2_with fail
  refine hK.out _ _ ?_
  clear hK K
  try simp only [Act.put, List.setIfInBounds_toArray, List.set_cons_zero, List.set_cons_succ]
  have b5 := b4.below hb5 b4.lt
  replace hm2 := hm2.below hb5
  have hb15 := hb14.trans (hb5.mono hb14.size)
  have HG4 := Lib.hid (show g < w4.heap.size from b4.lt)
  clear hb5 b4 hm4 hb14
  refine wpList_plain rfl (fun K hK => ?_)
  go_simp
  refine hK _ _ ?_
  clear hK K
  try simp only [Act.put, List.setIfInBounds_toArray, List.set_cons_zero, List.set_cons_succ]
  refine wpList_plain rfl (fun K hK => ?_)
  go_simp
  refine hK _ _ ?_
  clear hK K
  try simp only [Act.put, List.setIfInBounds_toArray, List.set_cons_zero, List.set_cons_succ]
  refine wpList_plain rfl (fun K hK => ?_)
  go_simp
  refine hK _ _ ?_
  clear hK K
  try simp only [Act.put, List.setIfInBounds_toArray, List.set_cons_zero, List.set_cons_succ]
  refine wpList_plain rfl (fun K hK => ?_)
  go_simp
  refine hK _ _ ?_
  clear hK K
  try simp only [Act.put, List.setIfInBounds_toArray, List.set_cons_zero, List.set_cons_succ]
  refine wpList_plain rfl (fun K hK => ?_)
  go_simp
  refine hK _ _ ?_
  clear hK K
  try simp only [Act.put, List.setIfInBounds_toArray, List.set_cons_zero, List.set_cons_succ]
  go_upto_region 5 with (go_at_call 13; refine (hellos_e _ (HT.out.below hb15)).mono ?_; rintro e w6 ⟨rfl, hb6⟩)
  have hb16 := hb15.trans (hb6.mono hb15.size)
  have b6 := b5.below hb6 b5.lt
  have hm6 := hm2.below hb6
  have hB6 := hB5.below hb6
  have HM6 := Lib.hid hm6
  obtain ⟨hlen, vc, hcs2, hsr⟩ := hm6
  clear b5 hm2 hB5 hb15 hb6
  refine wp_region_lit ?_
  refine wpList_load_mid rfl 25 (.tmp 2) rfl g 0 rfl cs2 _ (rangeAt_of_blk b6) Tryd.underlying25 rfl (infoR.trans (by rw [hcs2]; exact congrArg some (mC_length hlen.1 hlen.2).symm)) ?_
  try simp only [Act.put, List.setIfInBounds_toArray, List.set_cons_zero, List.set_cons_succ]
  refine wpList_new_blk rfl 25 rfl _ zeroR ?_
  intro g7 w7 hg7 b7 hb7
  try simp only [Act.put, List.setIfInBounds_toArray, List.set_cons_zero, List.set_cons_succ]
  have HG7 := Lib.hid (show w6.heap.size ≤ g7 by rw [hg7]; exact Nat.le_refl _)
  refine wpList_store_blk rfl 25 (.tmp 7) (.tmp 28) rfl rfl g7 cs2 rfl rfl _ _ b7 (infoR.trans (by rw [hcs2]; exact congrArg some (mC_length hlen.1 hlen.2).symm)) (by rw [hcs2]; exact (rC_zero.trans (mC_length hlen.1 hlen.2).symm)) (by obtain ⟨Av, cv, rfl, _⟩ := hsr; rw [hcs2]; exact one_rC) ?_
  intro w8 b8 hg8
  try simp only [Act.put, List.setIfInBounds_toArray, List.set_cons_zero, List.set_cons_succ]
  have hb68 := hb7.trans (grown_below hg8 HG7.out hb7.size)
  clear hb7 hg8 hg7 b7
  rw [hcs2] at b8
  obtain ⟨x3, hx3⟩ : ∃ x : UInt8, M.rnd.getD 3 0 = x := ⟨_, rfl⟩
  obtain ⟨x5, hx5⟩ : ∃ x : UInt8, M.mark.getD 5 0 = x := ⟨_, rfl⟩
  have hc4 : w8.cell? ⟨g7, 4, none⟩ = some (.int .u8 (x3.toNat : Int)) := by rw [b8.cell, rC, mC_rnd hlen.1 3 (by decide), getD_map8 _ 3 (by rw [hlen.1]; decide), hx3]
  have hfz := b8.frozen 4
  have hxo := xor_u8 x3 y
  go_upto_region 7 with (fail)
  rw [← UInt8.toNat_xor]
  clear hc4 hfz hxo
  have b9 := b8.set_ 4 (B8 (x3 ^^^ y))
  rw [show (4 : Nat) = 1 + 3 from rfl, rC_setR 3 (by decide) hlen.1] at b9
  obtain ⟨R1, hR1⟩ : ∃ R, M.rnd.set 3 (x3 ^^^ y) = R := ⟨_, rfl⟩
  rw [hR1] at b9
  have hRl : R1.length = 32 := by rw [← hR1, List.length_set]; exact hlen.1
  have hb69 := grown_cellB hb68 hb68.size g7 4 (B8 (x3 ^^^ y)) HG7.out
  replace b9 : Blk (w8.setCell ⟨g7, 4, none⟩ (.int .u8 ((x3 ^^^ y).toNat : Int))) g7 25 (rC { M with rnd := R1 } vc) := b9
  replace hb69 : Below w6.heap.size w6 (w8.setCell ⟨g7, 4, none⟩ (.int .u8 ((x3 ^^^ y).toNat : Int))) := hb69
  generalize w8.setCell ⟨g7, 4, none⟩ (.int .u8 ((x3 ^^^ y).toNat : Int)) = w9 at *
  clear b8 hb68
  have hc5 : w9.cell? ⟨g7, 38, none⟩ = some (.int .u8 (x5.toNat : Int)) := by rw [b9.cell, rC, mC_mark (m := { M with rnd := R1 }) hRl hlen.2 5 (by decide), getD_map8 _ 5 (by rw [hlen.2]; decide), hx5]
  have hfz := b9.frozen 38
  have hxo := xor_u8 x5 y
  go_upto_region 8 with (fail)
  rw [← UInt8.toNat_xor]
  clear hc5 hfz hxo
  have b10 := b9.set_ 38 (B8 (x5 ^^^ y))
  rw [show (38 : Nat) = 33 + 5 from rfl, rC_setK (m := { M with rnd := R1 }) 5 (by decide) hRl hlen.2] at b10
  replace b10 : Blk (w9.setCell ⟨g7, 38, none⟩ (.int .u8 ((x5 ^^^ y).toNat : Int))) g7 25 (rC (altM M R1 (M.mark.set 5 (x5 ^^^ y))) vc) := b10
  obtain ⟨K1, hK1⟩ : ∃ R, M.mark.set 5 (x5 ^^^ y) = R := ⟨_, rfl⟩
  rw [hK1] at b10
  have hKl : K1.length = 32 := by rw [← hK1, List.length_set]; exact hlen.2
  have hba := grown_cellB hb69 hb69.size g7 38 (B8 (x5 ^^^ y)) HG7.out
  replace hba : Below w6.heap.size w6 (w9.setCell ⟨g7, 38, none⟩ (.int .u8 ((x5 ^^^ y).toNat : Int))) := hba
  generalize w9.setCell ⟨g7, 38, none⟩ (.int .u8 ((x5 ^^^ y).toNat : Int)) = wa at *
  clear b9 hb69
  obtain ⟨z3, hz3⟩ : ∃ z, x3 ^^^ y = z := ⟨_, rfl⟩
  obtain ⟨z5, hz5⟩ : ∃ z, x5 ^^^ y = z := ⟨_, rfl⟩
  simp only [hz3, hz5]
  clear hz3 hz5 hx3 hx5
  have ba : Blk wa g 25 (rC M vc) := by rw [← hcs2]; exact b6.below hba b6.lt
  have hcK : wa.cell? ⟨g, 0, none⟩ = some (.int .i64 20) := by rw [← HKI.out]; exact ba.cell 0
  have hcP : wa.cell? ⟨g, 73, none⟩ = some (.bool false) := by rw [← HPS.out]; exact (ba.cell (65 + 8)).trans (mC_get hlen.1 hlen.2 8)
  have hcR : wa.cell? ⟨g, 74, none⟩ = some (.bool false) := by rw [← HRE.out]; exact (ba.cell (65 + 9)).trans (mC_get hlen.1 hlen.2 9)
  go_upto_region 9 with (fail)
  refine wp_region_lit ?_
  refine wpList_plain rfl (fun K hK => ?_)
  go_simp
  refine hK _ _ ?_
  clear hK K
  try simp only [Act.put, List.setIfInBounds_toArray, List.set_cons_zero, List.set_cons_succ]
  refine wpList_load_mid rfl 22 (.tmp 55) rfl g 1 rfl (M.rnd.map B8) _ (RAt.rnd (m := M) ⟨rC M vc, ba, hlen, vc, rfl, hsr.below hba⟩) Tryd.underlying22 rfl (info40.trans (by rw [List.length_map, hlen.1])) ?_
  try simp only [Act.put, List.setIfInBounds_toArray, List.set_cons_zero, List.set_cons_succ]
  refine wpList_plain rfl (fun K hK => ?_)
  go_simp
  refine hK _ _ ?_
  clear hK K
  try simp only [Act.put, List.setIfInBounds_toArray, List.set_cons_zero, List.set_cons_succ]
  refine wpList_store_part rfl 22 (.tmp 57) (.tmp 56) rfl rfl g7 1 (M.rnd.map B8) rfl rfl _ _ b10 (info40.trans (by rw [List.length_map, hlen.1])) (by rw [List.length_map, hlen.1, len_rC (m := (altM M R1 K1)) ⟨hRl, hKl⟩]; decide) (fun v hv => by obtain ⟨x, _, rfl⟩ := List.mem_map.1 hv; rfl) ?_
  intro wb b11 hgs
  rw [rC_splR (m := (altM M R1 K1)) ⟨hRl, hKl⟩ hlen.1] at b11
  try simp only [Act.put, List.setIfInBounds_toArray, List.set_cons_zero, List.set_cons_succ]
  replace b11 : Blk wb g7 25 (rC (altM M M.rnd K1) vc) := b11
  have hbb := below_new hba hgs HG7.out hba.size
  have ba' : Blk wb g 25 (rC M vc) := by rw [← hcs2]; exact b6.below hbb b6.lt
  clear hba hgs ba b10 hcK hcP hcR
  have hba := hbb
  have ba := ba'
  clear hbb ba'
  have hcK : wb.cell? ⟨g, 0, none⟩ = some (.int .i64 20) := by rw [← HKI.out]; exact ba.cell 0
  have hcP : wb.cell? ⟨g, 73, none⟩ = some (.bool false) := by rw [← HPS.out]; exact (ba.cell (65 + 8)).trans (mC_get hlen.1 hlen.2 8)
  have hcR : wb.cell? ⟨g, 74, none⟩ = some (.bool false) := by rw [← HRE.out]; exact (ba.cell (65 + 9)).trans (mC_get hlen.1 hlen.2 9)
  have hal := HelloMath.alter_form HF.out R1 K1 true false (by rw [HKI.out, HRE.out]; rfl) (by rw [HKI.out, HPS.out]; rfl)
  replace hal : formM (altM M M.rnd K1) = true ∨ (M.kind = 2 ∧ M.rnd = special) := hal
  have HAL := Lib.hid hal
  have hals := HelloMath.alter_len (m := M) (r := M.rnd) (k := K1) rfl (by rw [hKl, hlen.2])
  have HALS := Lib.hid hals
  have HRI := Lib.hid (show RIn wb (altM M M.rnd K1) (rC (altM M M.rnd K1) vc) from ⟨⟨hlen.1, hKl⟩, vc, rfl, hsr.below hba⟩)
  have HBA := Lib.hid (hb16.trans (hba.mono hb16.size))
  have HSA := Lib.hid (show Small (altM M M.rnd K1) from HSM.out)
  have HBUF := Lib.hid (hB6.below (hba.mono (Nat.le_refl _)))
  have HLEN := Lib.hid hlen
  have HSR := Lib.hid (hsr.below hba)
  clear hal hals hB6 hsr hb16 hlen
  go_upto_region 12 with (fail)
  clear hcP hcR
  refine wp_region_lit ?_
  refine wpList_load_mid rfl 25 (.tmp 7) rfl g7 0 rfl (rC (altM M M.rnd K1) vc) _ (rangeAt_of_blk b11) Tryd.underlying25 rfl (infoR.trans (by rw [HRI.out.len])) ?_
  try simp only [Act.put, List.setIfInBounds_toArray, List.set_cons_zero, List.set_cons_succ]
  refine wpList_plain rfl (fun K hK0 => ?_)
  have hK := Lib.hid hK0
  clear hK0
  go_simp
  go_at_call 10
  refine (to_e (altM M M.rnd K1) (rC (altM M M.rnd K1) vc) _ HRI.out HSA).mono ?_
  rintro e wd ⟨csd, rfl, hmd, hbd⟩
  try go_wp2_with fail
  refine hK.out _ _ ?_
  clear hK K
  try simp only [Act.put, List.setIfInBounds_toArray, List.set_cons_zero, List.set_cons_succ]
  have HBD := Lib.hid (HBA.out.trans (hbd.mono HBA.out.size))
  have hbdk := hbd
  have bd := ba.below hbd ba.lt
  have bd7 := b11.below hbd b11.lt
  clear hbd ba b11 hba hcK
  have hff : formM (altM M M.rnd K1) = true := by
    rcases HAL.out with h | h
    · exact h
    · exact absurd h.1 (by rw [HKI.out]; decide)
  refine wpList_plain rfl (fun K hK0 => ?_)
  have hK := Lib.hid hK0
  clear hK0
  go_simp
  go_at_call 11
  refine (write_1 (altM M M.rnd K1) csd _ (HT.out.below HBD.out) hmd hff).mono ?_
  rintro e we ⟨re, rfl, hBe, hbe⟩
  try go_wp2_with fail
  refine hK.out _ _ ?_
  clear hK K
  try simp only [Act.put, List.setIfInBounds_toArray, List.set_cons_zero, List.set_cons_succ]
  have HBE := Lib.hid (HBD.out.trans (hbe.mono HBD.out.size))
  have be := bd.below hbe bd.lt
  obtain ⟨Ae, ce, hre, -⟩ := hBe
  obtain ⟨A7, c7, hr7, -⟩ := HBUF.out
  subst hre
  subst hr7
  obtain ⟨l, hl⟩ : ∃ l, (wholeM M).length = l := ⟨_, rfl⟩
  have hl2 : (wholeM (altM M M.rnd K1)).length = l := HALS.out.trans hl
  simp only [hl2, hl]
  have HL := Lib.hid hl
  clear hbe bd bd7 hmd hl hl2 HBUF hbdk
  refine wpList_plain rfl (fun K hK => ?_)
  go_simp
  refine hK _ _ ?_
  clear hK K
  try simp only [Act.put, List.setIfInBounds_toArray, List.set_cons_zero, List.set_cons_succ]
  refine wpList_plain rfl (fun K hK => ?_)
  go_simp
  refine hK _ _ ?_
  clear hK K
  try simp only [Act.put, List.setIfInBounds_toArray, List.set_cons_zero, List.set_cons_succ]
  refine wpList_plain rfl (fun K hK => ?_)
  go_simp
  refine hK _ _ ?_
  clear hK K
  try simp only [Act.put, List.setIfInBounds_toArray, List.set_cons_zero, List.set_cons_succ]
  refine wpList_plain rfl (fun K hK => ?_)
  go_simp
  refine hK _ _ ?_
  clear hK K
  try simp only [Act.put, List.setIfInBounds_toArray, List.set_cons_zero, List.set_cons_succ]
  refine wpList_plain rfl (fun K hK => ?_)
  go_simp
  refine hK _ _ ?_
  clear hK K
  try simp only [Act.put, List.setIfInBounds_toArray, List.set_cons_zero, List.set_cons_succ]
  go_upto_region 15 with (fail)
  refine wp_region_lit ?_
  refine wpList_makeMI rfl rfl ?_
  intro gm wf0 hgm hm0 hbf0
  try simp only [Act.put, List.setIfInBounds_toArray, List.set_cons_zero, List.set_cons_succ]
  refine wpList_putMI rfl (.tmp 96) _ _ rfl rfl gm #[] 0 8 6 rfl rfl rfl hm0 rfl ?_
  intro wf1 hm1 hgm1
  try simp only [Act.put, List.setIfInBounds_toArray, List.set_cons_zero, List.set_cons_succ]
  refine wpList_putMI rfl (.tmp 96) _ _ rfl rfl gm (#[].push (ent 8 6 0)) 1 13 15 rfl rfl rfl hm1 rfl ?_
  intro wf2 hm2 hgm2
  try simp only [Act.put, List.setIfInBounds_toArray, List.set_cons_zero, List.set_cons_succ]
  refine wpList_putMI rfl (.tmp 96) _ _ rfl rfl gm ((#[].push (ent 8 6 0)).push (ent 13 15 1)) 2 20 36 rfl rfl rfl hm2 rfl ?_
  intro wf3 hm3 hgm3
  try simp only [Act.put, List.setIfInBounds_toArray, List.set_cons_zero, List.set_cons_succ]
  have hbf := hbf0.trans (grown_below (grown_trans (grown_trans hgm1 hgm2) hgm3) (Nat.le_of_eq hgm.symm) hbf0.size)
  have bf := be.below hbf be.lt
  have HBF := Lib.hid (HBE.out.trans (hbf.mono HBE.out.size))
  clear hbf hbf0 hgm1 hgm2 hgm3 hgm hm0 hm1 hm2 be
  have hcK : wf3.cell? ⟨g, 0, none⟩ = some (.int .i64 20) := by rw [← HKI.out]; exact bf.cell 0
  refine wpList_plain rfl (fun K hK => ?_)
  go_simp
  refine hK _ _ ?_
  clear hK K
  try simp only [Act.put, List.setIfInBounds_toArray, List.set_cons_zero, List.set_cons_succ]
  refine wpList_plain rfl (fun K hK => ?_)
  go_simp
  refine hK _ _ ?_
  clear hK K
  try simp only [Act.put, List.setIfInBounds_toArray, List.set_cons_zero, List.set_cons_succ]
  go_upto_region 16 with (fail)
  refine wp_region_lit ?_
  refine wpList_plain rfl (fun K hK => ?_)
  go_simp
  refine hK _ _ ?_
  clear hK K
  try simp only [Act.put, List.setIfInBounds_toArray, List.set_cons_zero, List.set_cons_succ]
  refine wpList_plain rfl (fun K hK => ?_)
  go_simp
  refine hK _ _ ?_
  clear hK K
  try simp only [Act.put, List.setIfInBounds_toArray, List.set_cons_zero, List.set_cons_succ]
  refine wpList_plain rfl (fun K hK => ?_)
  go_simp
  refine hK _ _ ?_
  clear hK K
  try simp only [Act.put, List.setIfInBounds_toArray, List.set_cons_zero, List.set_cons_succ]
  refine wpList_lookMI rfl (.tmp 99) (.tmp 101) rfl gm (((#[].push (ent 8 6 0)).push (ent 13 15 1)).push (ent 20 36 2)) 3 20 rfl rfl hm3 (some (2, .int .i64 36)) rfl ?_
  try simp only [Act.put, List.setIfInBounds_toArray, List.set_cons_zero, List.set_cons_succ]
  refine wpList_plain rfl (fun K hK => ?_)
  go_simp
  refine hK _ _ ?_
  clear hK K
  try simp only [Act.put, List.setIfInBounds_toArray, List.set_cons_zero, List.set_cons_succ]
  refine wpList_plain rfl (fun K hK => ?_)
  go_simp
  refine hK _ _ ?_
  clear hK K
  try simp only [Act.put, List.setIfInBounds_toArray, List.set_cons_zero, List.set_cons_succ]
  refine wpList_plain rfl (fun K hK => ?_)
  go_simp
  refine hK _ _ ?_
  clear hK K
  try simp only [Act.put, List.setIfInBounds_toArray, List.set_cons_zero, List.set_cons_succ]
  refine wpList_plain rfl (fun K hK => ?_)
  go_simp
  refine hK _ _ ?_
  clear hK K
  try simp only [Act.put, List.setIfInBounds_toArray, List.set_cons_zero, List.set_cons_succ]
  refine wpList_plain rfl (fun K hK => ?_)
  go_simp
  refine hK _ _ ?_
  clear hK K
  try simp only [Act.put, List.setIfInBounds_toArray, List.set_cons_zero, List.set_cons_succ]
  have hl1 : (l : Int) = 36 := by rw [← HL.out]; exact congrArg Nat.cast (HelloMath.size_20 HKI.out HLEN.out.2)
  go_wp2
  go_ret
  exact ⟨rfl, HBF.out⟩
theorem form_flags {m : Msg} (hf : formM m = true) : (m.kind = 1 ∧ m.retry = false) ∨ (m.kind = 2 ∧ (m.retry = true → m.psk = false)) ∨ ((m.kind = 4 ∨ m.kind = 8 ∨ m.kind = 11 ∨ m.kind = 13 ∨ m.kind = 15 ∨ m.kind = 20) ∧ m.psk = false ∧ m.retry = false) := by
  have hk := HelloMath.kinds (HelloMath.form_kind hf)
  obtain ⟨k, R, M, S, H, T, N, G, C, li, ag, ps, re⟩ := m
  dsimp only at hk
  rcases hk with e | e | e | e | e | e | e | e <;> subst e <;> cases ps <;> cases re <;> simp_all [HelloMath.formM, HelloMath.okM, HelloMath.okF, HelloMath.fitM]
theorem helloSizes_walk (m : Msg) (cs : List Value) (y : UInt8) (w : World) (hT : TabH w) (h : RIn w m cs) : Calls Tryd.prog 8 #[.agg cs.toArray, .int .u8 (y.toNat : Int)] w fun e w' => e = .returned (.bool true) ∧ Below w.heap.size w w' := by
  cases hf : formM (tameM m) with
  | false => exact sizes_0 m cs y w hT h hf
  | true =>
    rcases form_flags hf with ⟨hk, hr⟩ | ⟨hk, hr⟩ | ⟨hk, hp, hr⟩
    · cases hp : (tameM m).psk with
      | false => exact sizes_1 m cs y w hT h hf (Lib.hid hk) (Lib.hid hp) (Lib.hid hr)
      | true => exact sizes_1p m cs y w hT h hf (Lib.hid hk) (Lib.hid hp) (Lib.hid hr)
    · cases hp : (tameM m).psk with
      | true =>
        cases hq : (tameM m).retry with
        | false => exact sizes_2p m cs y w hT h hf (Lib.hid hk) (Lib.hid hp) (Lib.hid hq)
        | true => have := hr hq; rw [hp] at this; cases this
      | false =>
        cases hq : (tameM m).retry with
        | false => exact sizes_2 m cs y w hT h hf (Lib.hid hk) (Lib.hid hp) (Lib.hid hq)
        | true => exact sizes_2r m cs y w hT h hf (Lib.hid hk) (Lib.hid hp) (Lib.hid hq)
    · rcases hk with hk | hk | hk | hk | hk | hk
      · exact sizes_4 m cs y w hT h hf (Lib.hid hk) (Lib.hid hp) (Lib.hid hr)
      · exact sizes_8 m cs y w hT h hf (Lib.hid hk) (Lib.hid hp) (Lib.hid hr)
      · exact sizes_11 m cs y w hT h hf (Lib.hid hk) (Lib.hid hp) (Lib.hid hr)
      · exact sizes_13 m cs y w hT h hf (Lib.hid hk) (Lib.hid hp) (Lib.hid hr)
      · exact sizes_15 m cs y w hT h hf (Lib.hid hk) (Lib.hid hp) (Lib.hid hr)
      · exact sizes_20 m cs y w hT h hf (Lib.hid hk) (Lib.hid hp) (Lib.hid hr)
end Go.Proofs.YtagblbfbjemfhaaDoor
