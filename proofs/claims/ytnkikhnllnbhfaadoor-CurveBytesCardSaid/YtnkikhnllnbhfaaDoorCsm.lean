/-
  Joined: Sb, Cs1, Cs2.
-/
import Derived.Test.YtnkikhnllnbhfaaDoorCb
import Derived.Laws.Cover3
import Derived.Great.Walk
import Derived.Test.YtnkikhnllnbhfaaDoorCr5
import Derived.Test.YtnkikhnllnbhfaaDoorCl0
namespace Go.Proofs.YtnkikhnllnbhfaaDoor
open Go.RowKit
open CurveMath

section
variable {ops : Array Oper} {rest : List Oper} {o : Oper} {a : Act} {w : World} {K : Act → World → Prop} {Q : Exit → Act → World → Prop}
theorem elem8 : Tryd.prog.elem 47 = 5 := by kernel_rfl
theorem under8 : Tryd.prog.underlying 47 = some (.slice (Tryd.prog.elem 47)) := by rw [elem8]; exact Tryd.underlying47
theorem add_at (g ob lo : Nat) : (⟨g, ob, none⟩ : Addr).add lo = ⟨g, ob + lo, none⟩ := by
  by_cases h : lo = 0
  · subst h; simp [Addr.add]
  · simp [Addr.add, h]
theorem run_piece {g ob n c lo hi : Nat} (h1 : lo ≤ hi) (h2 : hi ≤ c) (h3 : lo < c) (w : World) :
    (Instr.sliceAt 47 (.slice (some ⟨g, ob, none⟩) n c) (some (.int .i64 (lo : Int))) (some (.int .i64 (hi : Int))) none).run Tryd.prog w = .ok (.slice (some ⟨g, ob + lo, none⟩) (hi - lo) (c - lo)) w := by
  rw [run_sliceAt_slice w _ _ _ _ _ under8, run_slice_lh w _ _ _ _ under8 _ _ _ _ (by omega) (by omega) (by omega), elem8, size8]
  simp only [Result.andThen_ok, sliced, Int.toNat_natCast, if_neg (show ¬ c = lo by omega), Option.map_some, Nat.mul_one, add_at]
theorem run_behind {g ob n c lo : Nat} (h1 : lo ≤ n) (h3 : lo < c) (w : World) :
    (Instr.sliceAt 47 (.slice (some ⟨g, ob, none⟩) n c) (some (.int .i64 (lo : Int))) none none).run Tryd.prog w = .ok (.slice (some ⟨g, ob + lo, none⟩) (n - lo) (c - lo)) w := by
  rw [run_sliceAt_slice w _ _ _ _ _ under8, run_slice_l w _ _ _ _ under8 _ _ (by omega) (by omega), elem8, size8]
  simp only [Result.andThen_ok, sliced, Int.toNat_natCast, if_neg (show ¬ c = lo by omega), Option.map_some, Nat.mul_one, add_at]
theorem run_ahead {A : Option Addr} {n c hi : Nat} (h2 : hi ≤ c) (w : World) :
    (Instr.sliceAt 47 (.slice A n c) none (some (.int .i64 (hi : Int))) none).run Tryd.prog w = .ok (.slice A hi c) w := by
  rw [run_sliceAt_slice w _ _ _ _ _ under8, run_slice_h w _ _ _ _ under8 _ _ (by omega) (by omega), elem8, size8]
  simp only [Result.andThen_ok, sliced, Int.toNat_natCast, Nat.sub_zero]
  by_cases hc : c = 0
  · rw [if_pos hc]
  · rw [if_neg hc]
    cases A with
    | none => rfl
    | some ad => simp [Addr.add]
theorem wp_piece {x l h : Operand} (ho : o.op = .slice 47 x (some l) (some h) none) {g ob n c lo hi : Nat} (hx : a.eval x = .slice (some ⟨g, ob, none⟩) n c) (hl : a.eval l = .int .i64 (lo : Int)) (hh : a.eval h = .int .i64 (hi : Int)) (h1 : lo ≤ hi) (h2 : hi ≤ c) (h3 : lo < c)
    (hk : K (a.put o.dst (.slice (some ⟨g, ob + lo, none⟩) (hi - lo) (c - lo))) w) : o.wp Tryd.prog a w K Q := by
  unfold Oper.wp execOp
  simp only [ho, hx, hl, hh, Option.map_some, Option.map_none, Sem.run_bind, run_piece h1 h2 h3, Result.andThen_ok]
  exact hk
theorem wp_behind {x l : Operand} (ho : o.op = .slice 47 x (some l) none none) {g ob n c lo : Nat} (hx : a.eval x = .slice (some ⟨g, ob, none⟩) n c) (hl : a.eval l = .int .i64 (lo : Int)) (h1 : lo ≤ n) (h3 : lo < c)
    (hk : K (a.put o.dst (.slice (some ⟨g, ob + lo, none⟩) (n - lo) (c - lo))) w) : o.wp Tryd.prog a w K Q := by
  unfold Oper.wp execOp
  simp only [ho, hx, hl, Option.map_some, Option.map_none, Sem.run_bind, run_behind h1 h3, Result.andThen_ok]
  exact hk
theorem wp_ahead {x h : Operand} (ho : o.op = .slice 47 x none (some h) none) {A : Option Addr} {n c hi : Nat} (hx : a.eval x = .slice A n c) (hh : a.eval h = .int .i64 (hi : Int)) (h2 : hi ≤ c)
    (hk : K (a.put o.dst (.slice A hi c)) w) : o.wp Tryd.prog a w K Q := by
  unfold Oper.wp execOp
  simp only [ho, hx, hh, Option.map_some, Option.map_none, Sem.run_bind, run_ahead h2, Result.andThen_ok]
  exact hk
/-- A whole array's slice. -/
theorem run_rowOf {t e : TypeId} {m g ob : Nat} (hu : Tryd.prog.underlying t = some (.array m e)) (hs : (sizeOf e).run Tryd.prog w = .ok 1 w) :
    (Instr.sliceAt t (.pointer (some ⟨g, ob, none⟩)) none none none).run Tryd.prog w = .ok (.slice (some ⟨g, ob, none⟩) m m) w := by
  by_cases hm : m = 0
  · subst hm
    simp [Instr.sliceAt, run_underlying hu, Instr.sliceBounds, hs, Addr.add, Instr.sureAddr, go_sem]
  · simp [Instr.sliceAt, run_underlying hu, Instr.sliceBounds, hs, Addr.add, Instr.sureAddr, go_sem]
theorem wp_rowOf {x : Operand} {t e : TypeId} {m g ob : Nat} (ho : o.op = .slice t x none none none) (hu : Tryd.prog.underlying t = some (.array m e)) (hs : ∀ w, (sizeOf e).run Tryd.prog w = .ok 1 w) (hx : a.eval x = .pointer (some ⟨g, ob, none⟩))
    (hk : K (a.put o.dst (.slice (some ⟨g, ob, none⟩) m m)) w) : o.wp Tryd.prog a w K Q := by
  unfold Oper.wp execOp
  simp only [ho, hx, Option.map_none, Sem.run_bind, run_rowOf hu (hs w), Result.andThen_ok]
  exact hk
theorem wp_arrayOf {x : Operand} {t e : TypeId} {m n c : Nat} {A : Option Addr} (ho : o.op = .sliceToArrayPointer t x) (hu : Tryd.prog.underlying t = some (.array m e)) (hx : a.eval x = .slice A n c) (hn : m ≤ n)
    (hk : K (a.put o.dst (.pointer A)) w) : o.wp Tryd.prog a w K Q := by
  unfold Oper.wp execOp
  simp only [ho, hx, Sem.run_bind, run_arrayAt w t e m A n c hu hn, Result.andThen_ok]
  exact hk
theorem wp_neqR {t rt : TypeId} {x y : Operand} {xs ys : Array Value} {r : Bool} (ho : o.op = .binOp .neq t x y rt) (hx : a.eval x = .agg xs) (hy : a.eval y = .agg ys) (hm : Tryd.prog.eqGuardType Tryd.prog.depth t = false) (he : (Op.equalIn 10000 t (.agg xs) (.agg ys)).run Tryd.prog w = .ok (!r) w) (h : K (a.put o.dst (.bool r)) w) : o.wp Tryd.prog a w K Q :=
  wp_neqA ho hx hy hm he (by rw [Bool.not_not]; exact h)
/-- A new variable and its value. -/
theorem wpList_new_store {o1 o2 : Oper} {d : Tmp} {y : Operand} (hg1 : o1.guard = none) (t : TypeId) (ho1 : o1.op = .alloc t) (hd1 : o1.dst = some d) (zs : List Value) (hz : Zero Tryd.prog t zs) (hg2 : o2.guard = none) (ho2 : o2.op = .store t (.tmp d) y) (hd2 : o2.dst = none)
    (cells : List Value) (hx : ∀ v, (a.put (some d) v).eval (.tmp d) = v) (hy : ∀ v, (a.put (some d) v).eval y = .agg cells.toArray) (hi : (Tryd.prog.info? t).map (·.size) = some cells.length) (hold : zs.length = cells.length) (h1 : cells.toArray.all (·.oneCell') = true)
    (h : ∀ g w', g = w.heap.size → Blk w' g t cells → Below w.heap.size w w' → wpList Tryd.prog ops Q rest (a.put (some d) (.pointer (some ⟨g, 0, none⟩))) w') : wpList Tryd.prog ops Q (o1 :: o2 :: rest) a w := by
  refine wpList_new_blk hg1 t ho1 zs hz fun g w1 hg hb hw => ?_
  rw [hd1]
  refine wpList_store_blk hg2 t (.tmp d) y ho2 hd2 g cells (hx _) (hy _) t zs hb hi hold h1 fun w2 hb2 hs => ?_
  exact h g w2 hg hb2 (below_new hw hs (by omega) hw.size)
theorem wpList_make_buf (hgd : o.guard = none) {x y : Operand} (ho : o.op = .makeSlice 47 x y) {n c : Nat} (hx : a.eval x = .int .i64 (n : Int)) (hy : a.eval y = .int .i64 (c : Int)) (hnc : n ≤ c) (hc : c ≤ 1000000)
    (h : ∀ g w', g = w.heap.size → Buf w' w.heap.size (some ⟨g, 0, none⟩) n c (List.replicate n 0) → Below w.heap.size w w' → wpList Tryd.prog ops Q rest (a.put o.dst (.slice (some ⟨g, 0, none⟩) n c)) w') : wpList Tryd.prog ops Q (o :: rest) a w := by
  refine wpList_plain hgd fun K hK => ?_
  have hz : Buf (w.alloc (.cells ((List.replicate c (0 : UInt8)).map B8).toArray 5)) w.heap.size (some ⟨w.heap.size, 0, none⟩) n c (List.replicate n 0) :=
    Buf.made _ _ _ _ (Nat.le_refl _) List.length_replicate hnc (by unfold maxLen; omega) (by simp) (.inr rfl) (fun j hj => by
      rw [List.getElem?_toArray]
      simp [List.getD_eq_getElem?_getD, show j < c by omega, hj])
  unfold Oper.wp execOp
  simp only [ho, hx, hy, Sem.run_bind, run_make_bytes _ _ n c hnc (by omega) w, Result.andThen_ok]
  exact hK _ _ (h _ _ rfl hz ((Below.refl _ _).alloc (Nat.le_refl _) _))
/-- One byte as a slice. -/
theorem wpList_one (hgd : o.guard = none) {b : Operand} (ho : o.op = .buildSlice 47 1 #[(0, b)]) {y : UInt8} (hb : a.eval b = B8 y)
    (h : ∀ g w', g = w.heap.size → Blk w' g 5 [B8 y] → Below w.heap.size w w' → wpList Tryd.prog ops Q rest (a.put o.dst (.slice (some ⟨g, 0, none⟩) 1 1)) w') : wpList Tryd.prog ops Q (o :: rest) a w :=
  Go.Great.wpList_buildSliceTo hgd 47 5 1 _ ho w.heap.size rfl o.dst rfl Tryd.underlying47 #[B8 y]
    (by simp only [List.map_toArray, List.map_cons, List.map_nil, hb]; kernel_rfl) (h _ _ rfl (Blk.new w _ [B8 y]) ((Below.refl _ _).alloc (Nat.le_refl _) _))
theorem src_range {w : World} {g off n : Nat} {ys : List UInt8} (h : w.rangeAt g off (ys.map B8)) (hn : ys.length = n) : _root_.Go.Src Tryd.prog 1 47 (.slice (some ⟨g, off, none⟩) n n) ys.length (ys.map B8) w := by
  subst hn
  exact _root_.Go.Src.ofSlice w Tryd.underlying47 ⟨g, off, none⟩ _ _ _ (by simp) (fun j u hu => by
    have k := h j u hu
    by_cases e : j = 0
    · subst e; simpa [Addr.add] using k
    · simpa [Addr.add, e] using k) (oneB8 _)
end
/-- A point's bytes. -/
def wrB (X Y : List UInt8) : List UInt8 := if holdsB X Y = true then 4 :: (X ++ Y) else []
set_option maxRecDepth 100000 in
set_option maxHeartbeats 400000 in
theorem curveWrite_0 (X Y : List UInt8) (w : World) (hT : TabsC w) (hX : Hid (X.length = 32)) (hY : Hid (Y.length = 32)) (hH : Hid (holdsB X Y = false)) : Calls Tryd.prog 28 #[.agg (ptC X Y).toArray] w fun e w' => ∃ A c, e = .returned (.slice A 0 c) ∧ Buf w' w.heap.size A 0 c ([]) ∧ Below w.heap.size w w' := by
  go_enter Tryd.func28, Tryd.ntmps28
  have hb0 : Below w.heap.size w w := Below.refl _ _
  go_upto_region 0 with (fail)
  refine wp_region_lit ?_
  refine wpList_box_blk rfl 24 (.tmp 0) rfl (ptC X Y) rfl ?_
  intro g1 w1 hg bg1 hb
  have og1 := Lib.hid (show w.heap.size ≤ g1 from Nat.le_trans hb0.size (Nat.le_of_eq hg.symm))
  clear hg
  replace hb0 := hb0.trans (hb.mono hb0.size)
  clear hb
  have lg1 := bg1.lt
  try simp only [Act.put, List.setIfInBounds_toArray, List.set_cons_zero, List.set_cons_succ]
  go_upto_region 1 with (fail)
  apply wp_region_once_tail (m := 4) (Z := []) (D := [[], [], [0, 1], [0, 1, 2]]) (J := [[], [], [0, 1], [2]]) (Je := [3]) (Rs := [fun v V => ∃ g, v = .agg #[.pointer (some ⟨g, 0, none⟩)] ∧ GrpAt V g, Is _, Is _, Is _])
  · kernel_rfl
  · kernel_rfl
  · kernel_rfl
  · kernel_rfl
  · kernel_rfl
  · kernel_rfl
  · kernel_rfl
  · exact fun h => absurd rfl h
  · intro u
    simp only [List.take_succ_cons, List.take_zero, List.map_cons, List.map_nil, fillU, List.setIfInBounds_toArray, List.set_cons_zero, List.set_cons_succ, Nat.reduceAdd]
    exact rfl
  · simp only [List.take_succ_cons, List.take_zero]
    refine ⟨fun u W hb hd K hK => ?_, ?_⟩
    · clear hd
      go_simp
      refine (newGroup_k W (hT.up hb0 hb)).mono ?_
      rintro e wy ⟨g, rfl, hgl, hM, hby⟩
      exact hK _ _ _ rfl hby ⟨g, rfl, hM⟩
    refine ⟨fun u W hb hd K hK => ?_, ?_⟩
    · clear hd
      rw [if_pos (by rfl)]
      refine wp_load_mid 24 (.tmp 1) rfl g1 0 rfl (ptC X Y) _ (rangeAt_of_blk (bg1.below hb lg1)) Tryd.underlying24 rfl (infoPt.trans (by rw [ptC_length (hX).out (hY).out])) ?_
      exact hK _ _ _ rfl (Below.refl _ _) IsOut
    refine ⟨fun u W hb hd K hK => ?_, ?_⟩
    · simp only [Facts, nthR, Is, and_true] at hd
      obtain ⟨⟨g, h0, hM⟩, h1⟩ := hd
      simp only [h0, h1] at hK ⊢
      go_simp
      refine (HolE hH hM (hT.up hb0 hb) (hX) (hY)).mono ?_
      rintro e wy ⟨rfl, hby⟩
      exact hK _ _ _ rfl hby IsOut
    refine ⟨fun u W hb hd K hK => ?_, ?_⟩
    · simp only [Facts, nthR, Is, and_true] at hd
      simp only [hd] at hK ⊢
      clear hd
      go_simp
      apply hK
      · simp only [Act.put, List.setIfInBounds_toArray, List.set_cons_zero, List.set_cons_succ]
        exact rfl
      · exact Below.refl _ _
      · exact IsOut
    exact trivial
  · skip
    exact trivial
  · exact (.cons (fun v V V' ⟨g, h1, h2⟩ hb => ⟨g, h1, h2.up hb⟩) (.is (.is (.is .nil))))
  · intro u w2 hb hd
    simp only [List.drop_succ_cons, List.drop_zero]
    simp only [Facts, nthR, Is, and_true] at hd
    have h3 := hd
    clear hd
    simp only [h3]
    clear h3
    replace bg1 := bg1.below hb lg1
    replace hb0 := hb0.trans (hb.mono hb0.size)
    replace lg1 := bg1.lt
    clear hb
    go_upto_region 2 with (fail)
    refine wp_region_lit ?_
    go_wp2_with (fail)
    refine bodyPost_ret (results_tmp Tryd.results28 _ _ _) rfl ?_
    exact ⟨_, _, rfl, Buf.nil _ _, hb0⟩
set_option maxRecDepth 100000 in
set_option maxHeartbeats 400000 in
theorem curveWrite_1 (X Y : List UInt8) (w : World) (hT : TabsC w) (hX : Hid (X.length = 32)) (hY : Hid (Y.length = 32)) (hH : Hid (holdsB X Y = true)) : Calls Tryd.prog 28 #[.agg (ptC X Y).toArray] w fun e w' => ∃ A c, e = .returned (.slice A 65 c) ∧ Buf w' w.heap.size A 65 c (4 :: (X ++ Y)) ∧ Below w.heap.size w w' := by
  go_enter Tryd.func28, Tryd.ntmps28
  have hb0 : Below w.heap.size w w := Below.refl _ _
  go_upto_region 0 with (fail)
  refine wp_region_lit ?_
  refine wpList_box_blk rfl 24 (.tmp 0) rfl (ptC X Y) rfl ?_
  intro g1 w1 hg bg1 hb
  have og1 := Lib.hid (show w.heap.size ≤ g1 from Nat.le_trans hb0.size (Nat.le_of_eq hg.symm))
  clear hg
  replace hb0 := hb0.trans (hb.mono hb0.size)
  clear hb
  have lg1 := bg1.lt
  try simp only [Act.put, List.setIfInBounds_toArray, List.set_cons_zero, List.set_cons_succ]
  go_upto_region 1 with (fail)
  apply wp_region_once_tail (m := 4) (Z := []) (D := [[], [], [0, 1], [0, 1, 2]]) (J := [[], [], [0, 1], [2]]) (Je := [3]) (Rs := [fun v V => ∃ g, v = .agg #[.pointer (some ⟨g, 0, none⟩)] ∧ GrpAt V g, Is _, Is _, Is _])
  · kernel_rfl
  · kernel_rfl
  · kernel_rfl
  · kernel_rfl
  · kernel_rfl
  · kernel_rfl
  · kernel_rfl
  · exact fun h => absurd rfl h
  · intro u
    simp only [List.take_succ_cons, List.take_zero, List.map_cons, List.map_nil, fillU, List.setIfInBounds_toArray, List.set_cons_zero, List.set_cons_succ, Nat.reduceAdd]
    exact rfl
  · simp only [List.take_succ_cons, List.take_zero]
    refine ⟨fun u W hb hd K hK => ?_, ?_⟩
    · clear hd
      go_simp
      refine (newGroup_k W (hT.up hb0 hb)).mono ?_
      rintro e wy ⟨g, rfl, hgl, hM, hby⟩
      exact hK _ _ _ rfl hby ⟨g, rfl, hM⟩
    refine ⟨fun u W hb hd K hK => ?_, ?_⟩
    · clear hd
      rw [if_pos (by rfl)]
      refine wp_load_mid 24 (.tmp 1) rfl g1 0 rfl (ptC X Y) _ (rangeAt_of_blk (bg1.below hb lg1)) Tryd.underlying24 rfl (infoPt.trans (by rw [ptC_length (hX).out (hY).out])) ?_
      exact hK _ _ _ rfl (Below.refl _ _) IsOut
    refine ⟨fun u W hb hd K hK => ?_, ?_⟩
    · simp only [Facts, nthR, Is, and_true] at hd
      obtain ⟨⟨g, h0, hM⟩, h1⟩ := hd
      simp only [h0, h1] at hK ⊢
      go_simp
      refine (HolE hH hM (hT.up hb0 hb) (hX) (hY)).mono ?_
      rintro e wy ⟨rfl, hby⟩
      exact hK _ _ _ rfl hby IsOut
    refine ⟨fun u W hb hd K hK => ?_, ?_⟩
    · simp only [Facts, nthR, Is, and_true] at hd
      simp only [hd] at hK ⊢
      clear hd
      go_simp
      apply hK
      · simp only [Act.put, List.setIfInBounds_toArray, List.set_cons_zero, List.set_cons_succ]
        exact rfl
      · exact Below.refl _ _
      · exact IsOut
    exact trivial
  · skip
    exact trivial
  · exact (.cons (fun v V V' ⟨g, h1, h2⟩ hb => ⟨g, h1, h2.up hb⟩) (.is (.is (.is .nil))))
  · intro u w2 hb hd
    simp only [List.drop_succ_cons, List.drop_zero]
    simp only [Facts, nthR, Is, and_true] at hd
    have h3 := hd
    clear hd
    simp only [h3]
    clear h3
    replace bg1 := bg1.below hb lg1
    replace hb0 := hb0.trans (hb.mono hb0.size)
    replace lg1 := bg1.lt
    clear hb
    go_upto_region 3 with (fail)
    refine wp_region_lit ?_
    obtain ⟨Ba, hBa⟩ : ∃ s, s = w2.heap.size := ⟨_, rfl⟩
    have oBa := Lib.hid (show w.heap.size ≤ Ba ∧ g1 < Ba from ⟨Nat.le_trans hb0.size (Nat.le_of_eq hBa.symm), Nat.lt_of_lt_of_le lg1 (Nat.le_of_eq hBa.symm)⟩)
    refine wpList_make_buf rfl rfl (n := 0) (c := 65) rfl rfl (by decide) (by decide) ?_
    intro Aa w3 hg fa hb
    clear hg
    rw [← hBa] at fa
    have lBa : Ba ≤ w3.heap.size := by rw [hBa]; exact hb.size
    clear hBa
    replace fa : Buf w3 Ba _ 0 65 [] := fa
    replace bg1 := bg1.below hb lg1
    replace hb0 := hb0.trans (hb.mono hb0.size)
    replace lg1 := bg1.lt
    clear hb
    try simp only [Act.put, List.setIfInBounds_toArray, List.set_cons_zero, List.set_cons_succ]
    go_upto_region 4 with (fail)
    apply wp_plain_once (m := 1) (J := [[]]) (Je := [0]) (Rs := [Is _])
    · kernel_rfl
    · kernel_rfl
    · intro u
      simp only [List.take_succ_cons, List.take_zero, List.map_cons, List.map_nil, fillU, List.setIfInBounds_toArray, List.set_cons_zero, List.set_cons_succ]
      exact rfl
    · simp only [List.take_succ_cons, List.take_zero]
      refine ⟨fun u W hb hd K hK => ?_, ?_⟩
      · clear hd
        go_simp
        apply hK
        · simp only [Act.put, List.setIfInBounds_toArray, List.set_cons_zero, List.set_cons_succ]
          exact rfl
        · exact Below.refl _ _
        · exact IsOut
      exact trivial
    · exact (.is .nil)
    · intro u w4 hb hd
      simp only [List.drop_succ_cons, List.drop_zero]
      simp only [Facts, nthR, Is, and_true] at hd
      have h0 := hd
      clear hd
      simp only [h0]
      clear h0
      replace bg1 := bg1.below hb lg1
      replace hb0 := hb0.trans (hb.mono hb0.size)
      replace lg1 := bg1.lt
      replace fa := fa.below hb
      replace lBa := Nat.le_trans lBa hb.size
      clear hb
      refine wpList_one rfl rfl (y := 4) rfl ?_
      intro g10 w5 hg bg10 hb
      clear hg
      replace bg1 := bg1.below hb lg1
      replace hb0 := hb0.trans (hb.mono hb0.size)
      replace lg1 := bg1.lt
      replace fa := fa.below hb
      replace lBa := Nat.le_trans lBa hb.size
      clear hb
      try simp only [Act.put, List.setIfInBounds_toArray, List.set_cons_zero, List.set_cons_succ]
      refine wpList_append_keep rfl (.tmp 9) (.tmp 10) _ rfl Ba (some ⟨Aa, 0, none⟩) 0 65 [] ([4]) (.slice (some ⟨g10, 0, none⟩) 1 1) rfl fa rfl (src_byte (bg10.cell 0)) (by rw [show ([4] : List UInt8).length = 1 from rfl]; decide) lBa 1 (by rw [show ([4] : List UInt8).length = 1 from rfl]) ?_
      intro Aaw6 caw6 w6 fn hgs hold
      clear hold
      replace bg1 := bg1.grown hgs (ownOf_fresh fa oBa.out.2)
      replace hb0 := below_own hb0 fa hgs oBa.out.1 hb0.size
      replace lBa := Nat.le_trans lBa hgs.size
      replace lg1 := bg1.lt
      clear bg10
      clear hgs fa
      have fa := fn
      clear fn
      try simp only [Act.put, List.setIfInBounds_toArray, List.set_cons_zero, List.set_cons_succ]
      go_upto_region 5 with (fail)
      apply wp_plain_once (m := 3) (J := [[], [], [1]]) (Je := [0, 2]) (Rs := [Is _, Is _, Is _])
      · kernel_rfl
      · kernel_rfl
      · intro u
        simp only [List.take_succ_cons, List.take_zero, List.map_cons, List.map_nil, fillU, List.setIfInBounds_toArray, List.set_cons_zero, List.set_cons_succ, Nat.reduceAdd]
        exact rfl
      · simp only [List.take_succ_cons, List.take_zero]
        refine ⟨fun u W hb hd K hK => ?_, ?_⟩
        · clear hd
          go_simp
          apply hK
          · simp only [Act.put, List.setIfInBounds_toArray, List.set_cons_zero, List.set_cons_succ]
            exact rfl
          · exact Below.refl _ _
          · exact IsOut
        refine ⟨fun u W hb hd K hK => ?_, ?_⟩
        · clear hd
          go_simp
          apply hK
          · simp only [Act.put, List.setIfInBounds_toArray, List.set_cons_zero, List.set_cons_succ]
            exact rfl
          · exact Below.refl _ _
          · exact IsOut
        refine ⟨fun u W hb hd K hK => ?_, ?_⟩
        · simp only [Facts, nthR, Is, and_true] at hd
          simp only [hd] at hK ⊢
          clear hd
          rw [if_pos (by rfl)]
          refine wp_rowOf rfl Tryd.underlying22 (fun w => size8 w) rfl ?_
          exact hK _ _ _ rfl (Below.refl _ _) IsOut
        exact trivial
      · exact (.is (.is (.is .nil)))
      · intro u w7 hb hd
        simp only [List.drop_succ_cons, List.drop_zero]
        simp only [Facts, nthR, Is, and_true] at hd
        obtain ⟨h0, h2⟩ := hd
        simp only [h0, h2]
        clear h0 h2
        replace bg1 := bg1.below hb lg1
        replace hb0 := hb0.trans (hb.mono hb0.size)
        replace lg1 := bg1.lt
        replace fa := fa.below hb
        replace lBa := Nat.le_trans lBa hb.size
        clear hb
        refine wpList_append_keep rfl (.tmp 12) (.tmp 14) _ rfl Ba Aaw6 1 caw6 ([] ++ [4]) (X) (.slice (some ⟨g1, 0, none⟩) 32 32) rfl fa rfl (src_range (pt_range0 (hX).out (bg1)) (hX).out) (by rw [show (X : List UInt8).length = 32 from (hX).out]; decide) lBa 33 (by rw [show (X : List UInt8).length = 32 from (hX).out]) ?_
        intro Aaw8 caw8 w8 fn hgs hold
        clear hold
        replace bg1 := bg1.grown hgs (ownOf_fresh fa oBa.out.2)
        replace hb0 := below_own hb0 fa hgs oBa.out.1 hb0.size
        replace lBa := Nat.le_trans lBa hgs.size
        replace lg1 := bg1.lt
        clear hgs fa
        have fa := fn
        clear fn
        try simp only [Act.put, List.setIfInBounds_toArray, List.set_cons_zero, List.set_cons_succ]
        go_upto_region 6 with (fail)
        apply wp_plain_once (m := 3) (J := [[], [], [1]]) (Je := [0, 2]) (Rs := [Is _, Is _, Is _])
        · kernel_rfl
        · kernel_rfl
        · intro u
          simp only [List.take_succ_cons, List.take_zero, List.map_cons, List.map_nil, fillU, List.setIfInBounds_toArray, List.set_cons_zero, List.set_cons_succ, Nat.reduceAdd]
          exact rfl
        · simp only [List.take_succ_cons, List.take_zero]
          refine ⟨fun u W hb hd K hK => ?_, ?_⟩
          · clear hd
            go_simp
            apply hK
            · simp only [Act.put, List.setIfInBounds_toArray, List.set_cons_zero, List.set_cons_succ]
              exact rfl
            · exact Below.refl _ _
            · exact IsOut
          refine ⟨fun u W hb hd K hK => ?_, ?_⟩
          · clear hd
            go_simp
            apply hK
            · simp only [Act.put, List.setIfInBounds_toArray, List.set_cons_zero, List.set_cons_succ]
              exact rfl
            · exact Below.refl _ _
            · exact IsOut
          refine ⟨fun u W hb hd K hK => ?_, ?_⟩
          · simp only [Facts, nthR, Is, and_true] at hd
            simp only [hd] at hK ⊢
            clear hd
            rw [if_pos (by rfl)]
            refine wp_rowOf rfl Tryd.underlying22 (fun w => size8 w) rfl ?_
            exact hK _ _ _ rfl (Below.refl _ _) IsOut
          exact trivial
        · exact (.is (.is (.is .nil)))
        · intro u w9 hb hd
          simp only [List.drop_succ_cons, List.drop_zero]
          simp only [Facts, nthR, Is, and_true] at hd
          obtain ⟨h0, h2⟩ := hd
          simp only [h0, h2]
          clear h0 h2
          replace bg1 := bg1.below hb lg1
          replace hb0 := hb0.trans (hb.mono hb0.size)
          replace lg1 := bg1.lt
          replace fa := fa.below hb
          replace lBa := Nat.le_trans lBa hb.size
          clear hb
          refine wpList_append_keep rfl (.tmp 16) (.tmp 18) _ rfl Ba Aaw8 33 caw8 (([] ++ [4]) ++ X) (Y) (.slice (some ⟨g1, 32, none⟩) 32 32) rfl fa rfl (src_range (pt_range1 (hX).out (bg1)) (hY).out) (by rw [show (Y : List UInt8).length = 32 from (hY).out]; decide) lBa 65 (by rw [show (Y : List UInt8).length = 32 from (hY).out]) ?_
          intro Aaw10 caw10 w10 fn hgs hold
          clear hold
          replace bg1 := bg1.grown hgs (ownOf_fresh fa oBa.out.2)
          replace hb0 := below_own hb0 fa hgs oBa.out.1 hb0.size
          replace lBa := Nat.le_trans lBa hgs.size
          replace lg1 := bg1.lt
          clear hgs fa
          have fa := fn
          clear fn
          try simp only [Act.put, List.setIfInBounds_toArray, List.set_cons_zero, List.set_cons_succ]
          go_wp2_with (fail)
          refine bodyPost_ret (results_tmp Tryd.results28 _ _ _) rfl ?_
          exact ⟨_, _, rfl, fa.base oBa.out.1, hb0⟩
theorem WriteC {X Y bs : List UInt8} {w : World} (hT : TabsC w) (hX : Hid (X.length = 32)) (hY : Hid (Y.length = 32)) (h : Hid (wrB X Y = bs)) : Calls Tryd.prog 28 #[.agg (ptC X Y).toArray] w fun e w' => ∃ A c, e = .returned (.slice A bs.length c) ∧ Buf w' w.heap.size A bs.length c bs ∧ Below w.heap.size w w' := by
  rw [← h.out]
  unfold wrB
  cases h0 : holdsB X Y with
  | true =>
    rw [if_pos rfl, show (4 :: (X ++ Y)).length = 65 by rw [List.length_cons, List.length_append, hX.out, hY.out]]
    exact curveWrite_1 X Y w hT hX hY (Lib.hid h0)
  | false =>
    rw [if_neg (by decide)]
    exact curveWrite_0 X Y w hT hX hY (Lib.hid h0)
/-- A row of bytes that lies somewhere. -/
def RowAt (w : World) (g ob : Nat) (xs : List UInt8) : Prop := g < w.heap.size ∧ Bytes w g ob xs
theorem RowAt.up {w w' : World} {g ob : Nat} {xs : List UInt8} (h : RowAt w g ob xs) (hb : Below w.heap.size w w') : RowAt w' g ob xs := ⟨Nat.lt_of_lt_of_le h.1 hb.size, h.2.below hb h.1⟩
theorem RowAt.piece {w : World} {g ob k n : Nat} {xs X : List UInt8} (h : RowAt w g ob xs) (hX : X = (xs.drop k).take n) (hn : k + n ≤ xs.length) : w.rangeAt g (ob + k) (X.map B8) := fun j v hv => by
  have hl : X.length = n := by rw [hX, List.length_take, List.length_drop]; omega
  have hj : j < n := by
    have := (List.getElem?_eq_some_iff.1 hv).1
    rwa [List.length_map, hl] at this
  have k1 := h.2 (k + j) (by omega)
  rw [← Nat.add_assoc] at k1
  rw [k1, ← hv, getD_map8 _ _ (by omega)]
  congr 2
  rw [hX]
  simp [List.getD_eq_getElem?_getD, hj]
theorem RowAt.first {w : World} {g ob : Nat} {xs : List UInt8} (h : RowAt w g ob xs) (h0 : 0 < xs.length) : w.cell? ⟨g, ob, none⟩ = some (.int .u8 (((xs.getD 0 0).toNat : Nat) : Int)) := h.2 0 h0
theorem row_of_in {w : World} {A : Option Addr} {c : Nat} {xs : List UInt8} (h : In w w.heap.size A c xs) (h0 : 0 < xs.length) : ∃ g ob, A = some ⟨g, ob, none⟩ ∧ RowAt w g ob xs := by
  obtain ⟨g, ob, e, hl, hb⟩ := h.2.2 h0
  exact ⟨g, ob, e, hl, hb⟩
theorem results_pt {fn : Func} {p q : Tmp} (h : fn.results = #[.cell p 24, .tmp q]) (tmps : Array Value) (w : World) (g : Nat) (cs : List Value) (hl : cs.length = 64) (e : Value)
    (hp : tmps.getD p undef = .pointer (some ⟨g, 0, none⟩)) (hq : tmps.getD q undef = e) (hg : Blk w g 24 cs) : (results fn tmps).run Tryd.prog w = .ok (.tuple #[.agg cs.toArray, e]) w := by
  have hp' : tmps[p]?.getD undef = .pointer (some ⟨g, 0, none⟩) := by simpa using hp
  have hq' : tmps[q]?.getD undef = e := by simpa using hq
  have h1 := run_loadVar_row (P := Tryd.prog) w g 24 24 cs.toArray (0, 0) _ hg Tryd.underlying24 rfl (infoPt.trans (by rw [List.size_toArray, hl]))
  simp [results, h, hp', hq', asAddr, h1]
/-- Are these a point's bytes? -/
def okR (xs : List UInt8) : Bool := decide (xs.length = 65) && xs.getD 0 0 == 4 && holdsB ((xs.drop 1).take 32) ((xs.drop 33).take 32)
/-- What Read answers. -/
def rdX (xs : List UInt8) : List UInt8 := if okR xs = true then (xs.drop 1).take 32 else zero32
def rdY (xs : List UInt8) : List UInt8 := if okR xs = true then (xs.drop 33).take 32 else zero32
def rdE (xs : List UInt8) : Int := if okR xs = true then 0 else 15
set_option maxRecDepth 100000 in
set_option maxHeartbeats 400000 in
theorem curveRead_1 (A : Option Addr) (n c : Nat) (w : World) (hn : Hid (((n : Int) != 65) = true)) : Calls Tryd.prog 29 #[.slice A n c] w fun e w' => e = .returned (.tuple #[.agg (ptV none).toArray, .int .i64 15]) ∧ Below w.heap.size w w' := by
  go_enter Tryd.func29, Tryd.ntmps29
  have hb0 : Below w.heap.size w w := Below.refl _ _
  go_upto_region 0 with (fail)
  refine wp_region_lit ?_
  refine wpList_new_blk rfl 24 rfl (ptV none) zeroPt ?_
  intro g2 w1 hg bg2 hb
  have og2 := Lib.hid (show w.heap.size ≤ g2 from Nat.le_trans hb0.size (Nat.le_of_eq hg.symm))
  clear hg
  replace hb0 := hb0.trans (hb.mono hb0.size)
  clear hb
  have lg2 := bg2.lt
  try simp only [Act.put, List.setIfInBounds_toArray, List.set_cons_zero, List.set_cons_succ]
  go_upto_region 1 with (fail)
  apply wp_plain_once (m := 9) (J := [[], [0], [1], [2], [3], [3, 4], [3, 5], [3, 6], [3, 7]]) (Je := [8]) (Rs := [Is _, Is _, Is _, Is _, Is _, Is _, Is _, Is _, Is _])
  · kernel_rfl
  · kernel_rfl
  · intro u
    simp only [List.take_succ_cons, List.take_zero, List.map_cons, List.map_nil, fillU, List.setIfInBounds_toArray, List.set_cons_zero, List.set_cons_succ, Nat.reduceAdd]
    exact rfl
  · simp only [List.take_succ_cons, List.take_zero]
    refine ⟨fun u W hb hd K hK => ?_, ?_⟩
    · clear hd
      go_simp
      apply hK
      · simp only [Act.put, List.setIfInBounds_toArray, List.set_cons_zero, List.set_cons_succ]
        exact rfl
      · exact Below.refl _ _
      · exact IsOut
    refine ⟨fun u W hb hd K hK => ?_, ?_⟩
    · simp only [Facts, nthR, Is, and_true] at hd
      simp only [hd] at hK ⊢
      clear hd
      go_simp
      apply hK
      · simp only [Act.put, List.setIfInBounds_toArray, List.set_cons_zero, List.set_cons_succ]
        exact rfl
      · exact Below.refl _ _
      · exact IsOut
    refine ⟨fun u W hb hd K hK => ?_, ?_⟩
    · simp only [Facts, nthR, Is, and_true] at hd
      simp only [hd] at hK ⊢
      clear hd
      have hn1 := hn.out
      go_simp
      apply hK
      · simp only [Act.put, List.setIfInBounds_toArray, List.set_cons_zero, List.set_cons_succ]
        exact rfl
      · exact Below.refl _ _
      · exact IsOut
    refine ⟨fun u W hb hd K hK => ?_, ?_⟩
    · simp only [Facts, nthR, Is, and_true] at hd
      simp only [hd] at hK ⊢
      clear hd
      go_simp
      apply hK
      · simp only [Act.put, List.setIfInBounds_toArray, List.set_cons_zero, List.set_cons_succ]
        exact rfl
      · exact Below.refl _ _
      · exact IsOut
    refine ⟨fun u W hb hd K hK => ?_, ?_⟩
    · simp only [Facts, nthR, Is, and_true] at hd
      simp only [hd] at hK ⊢
      clear hd
      go_simp
      apply hK
      · simp only [Act.put, List.setIfInBounds_toArray, List.set_cons_zero, List.set_cons_succ]
        exact rfl
      · exact Below.refl _ _
      · exact IsOut
    refine ⟨fun u W hb hd K hK => ?_, ?_⟩
    · simp only [Facts, nthR, Is, and_true] at hd
      simp only [hd] at hK ⊢
      clear hd
      go_simp
      apply hK
      · simp only [Act.put, List.setIfInBounds_toArray, List.set_cons_zero, List.set_cons_succ]
        exact rfl
      · exact Below.refl _ _
      · exact IsOut
    refine ⟨fun u W hb hd K hK => ?_, ?_⟩
    · simp only [Facts, nthR, Is, and_true] at hd
      simp only [hd] at hK ⊢
      clear hd
      go_simp
      apply hK
      · simp only [Act.put, List.setIfInBounds_toArray, List.set_cons_zero, List.set_cons_succ]
        exact rfl
      · exact Below.refl _ _
      · exact IsOut
    refine ⟨fun u W hb hd K hK => ?_, ?_⟩
    · simp only [Facts, nthR, Is, and_true] at hd
      simp only [hd] at hK ⊢
      clear hd
      go_simp
      apply hK
      · simp only [Act.put, List.setIfInBounds_toArray, List.set_cons_zero, List.set_cons_succ]
        exact rfl
      · exact Below.refl _ _
      · exact IsOut
    refine ⟨fun u W hb hd K hK => ?_, ?_⟩
    · simp only [Facts, nthR, Is, and_true] at hd
      simp only [hd] at hK ⊢
      clear hd
      go_simp
      apply hK
      · simp only [Act.put, List.setIfInBounds_toArray, List.set_cons_zero, List.set_cons_succ]
        exact rfl
      · exact Below.refl _ _
      · exact IsOut
    exact trivial
  · exact (.is (.is (.is (.is (.is (.is (.is (.is (.is .nil)))))))))
  · intro u w2 hb hd
    simp only [List.drop_succ_cons, List.drop_zero]
    simp only [Facts, nthR, Is, and_true] at hd
    have h8 := hd
    clear hd
    simp only [h8]
    clear h8
    replace bg2 := bg2.below hb lg2
    replace hb0 := hb0.trans (hb.mono hb0.size)
    replace lg2 := bg2.lt
    clear hb
    go_upto_region 2 with (fail)
    apply wp_plain_once (m := 1) (J := [[]]) (Je := [0]) (Rs := [Is _])
    · kernel_rfl
    · kernel_rfl
    · intro u
      simp only [List.take_succ_cons, List.take_zero, List.map_cons, List.map_nil, fillU, List.setIfInBounds_toArray, List.set_cons_zero, List.set_cons_succ]
      exact rfl
    · simp only [List.take_succ_cons, List.take_zero]
      refine ⟨fun u W hb hd K hK => ?_, ?_⟩
      · clear hd
        rw [if_pos (by rfl)]
        refine wp_builtV 24 _ rfl [] rfl (ptV none).toArray builtZ ?_
        exact hK _ _ _ rfl (Below.refl _ _) IsOut
      exact trivial
    · exact (.is .nil)
    · intro u w3 hb hd
      simp only [List.drop_succ_cons, List.drop_zero]
      simp only [Facts, nthR, Is, and_true] at hd
      have h0 := hd
      clear hd
      simp only [h0]
      clear h0
      replace bg2 := bg2.below hb lg2
      replace hb0 := hb0.trans (hb.mono hb0.size)
      replace lg2 := bg2.lt
      clear hb
      refine wpList_store_blk rfl 24 (.tmp 2) (.tmp 14) rfl rfl g2 (ptV none) rfl rfl _ _ bg2 (infoPt.trans (by rw [ptV_length])) (by first | with_reducible rfl | rw [ptV_length, ptV_length] | rw [ptV_length]) (onePv _) ?_
      intro w4 bn hgs
      replace hb0 := below_new hb0 hgs og2.out hb0.size
      clear hgs bg2
      have bg2 := bn
      clear bn
      replace lg2 := bg2.lt
      try simp only [Act.put]
      go_wp2_with (fail)
      refine bodyPost_ret (v := .tuple _) (results_pt rfl _ _ g2 (ptV none) (by rw [ptV_length]) (.int .i64 15) rfl rfl bg2) rfl ?_
      exact ⟨rfl, hb0⟩
set_option maxRecDepth 100000 in
set_option maxHeartbeats 400000 in
theorem curveRead_2 (g ob c : Nat) (xs : List UInt8) (w : World) (_hT : TabsC w) (hR : RowAt w g ob xs) (hl : Hid (xs.length = 65)) (_hc65 : Hid (65 ≤ c)) (y : UInt8) (hy : Hid (xs.getD 0 0 = y)) (h4 : Hid (((y.toNat : Int) != 4) = true)) : Calls Tryd.prog 29 #[.slice (some ⟨g, ob, none⟩) 65 c] w fun e w' => e = .returned (.tuple #[.agg (ptV none).toArray, .int .i64 15]) ∧ Below w.heap.size w w' := by
  go_enter Tryd.func29, Tryd.ntmps29
  have hb0 : Below w.heap.size w w := Below.refl _ _
  go_upto_region 0 with (fail)
  refine wp_region_lit ?_
  refine wpList_new_blk rfl 24 rfl (ptV none) zeroPt ?_
  intro g2 w1 hg bg2 hb
  have og2 := Lib.hid (show w.heap.size ≤ g2 from Nat.le_trans hb0.size (Nat.le_of_eq hg.symm))
  clear hg
  replace hb0 := hb0.trans (hb.mono hb0.size)
  clear hb
  have lg2 := bg2.lt
  try simp only [Act.put, List.setIfInBounds_toArray, List.set_cons_zero, List.set_cons_succ]
  go_upto_region 1 with (fail)
  apply wp_plain_once (m := 9) (J := [[], [0], [1], [2], [3], [3, 4], [3, 5], [3, 6], [3, 7]]) (Je := [8]) (Rs := [Is _, Is _, Is _, Is _, Is _, Is _, Is _, Is _, Is _])
  · kernel_rfl
  · kernel_rfl
  · intro u
    simp only [List.take_succ_cons, List.take_zero, List.map_cons, List.map_nil, fillU, List.setIfInBounds_toArray, List.set_cons_zero, List.set_cons_succ, Nat.reduceAdd]
    exact rfl
  · simp only [List.take_succ_cons, List.take_zero]
    refine ⟨fun u W hb hd K hK => ?_, ?_⟩
    · clear hd
      go_simp
      apply hK
      · simp only [Act.put, List.setIfInBounds_toArray, List.set_cons_zero, List.set_cons_succ]
        exact rfl
      · exact Below.refl _ _
      · exact IsOut
    refine ⟨fun u W hb hd K hK => ?_, ?_⟩
    · simp only [Facts, nthR, Is, and_true] at hd
      simp only [hd] at hK ⊢
      clear hd
      go_simp
      apply hK
      · simp only [Act.put, List.setIfInBounds_toArray, List.set_cons_zero, List.set_cons_succ]
        exact rfl
      · exact Below.refl _ _
      · exact IsOut
    refine ⟨fun u W hb hd K hK => ?_, ?_⟩
    · simp only [Facts, nthR, Is, and_true] at hd
      simp only [hd] at hK ⊢
      clear hd
      go_simp
      apply hK
      · simp only [Act.put, List.setIfInBounds_toArray, List.set_cons_zero, List.set_cons_succ]
        exact rfl
      · exact Below.refl _ _
      · exact IsOut
    refine ⟨fun u W hb hd K hK => ?_, ?_⟩
    · simp only [Facts, nthR, Is, and_true] at hd
      simp only [hd] at hK ⊢
      clear hd
      go_simp
      apply hK
      · simp only [Act.put, List.setIfInBounds_toArray, List.set_cons_zero, List.set_cons_succ]
        exact rfl
      · exact Below.refl _ _
      · exact IsOut
    refine ⟨fun u W hb hd K hK => ?_, ?_⟩
    · simp only [Facts, nthR, Is, and_true] at hd
      simp only [hd] at hK ⊢
      clear hd
      go_simp
      apply hK
      · simp only [Act.put, List.setIfInBounds_toArray, List.set_cons_zero, List.set_cons_succ]
        exact rfl
      · exact Below.refl _ _
      · exact IsOut
    refine ⟨fun u W hb hd K hK => ?_, ?_⟩
    · simp only [Facts, nthR, Is, and_true] at hd
      simp only [hd] at hK ⊢
      clear hd
      go_simp
      apply hK
      · simp only [Act.put, List.setIfInBounds_toArray, List.set_cons_zero, List.set_cons_succ]
        exact rfl
      · exact Below.refl _ _
      · exact IsOut
    refine ⟨fun u W hb hd K hK => ?_, ?_⟩
    · simp only [Facts, nthR, Is, and_true] at hd
      simp only [hd] at hK ⊢
      clear hd
      have hc := (hR.up (hb0.trans (hb.mono hb0.size))).first (by rw [hl.out]; decide)
      rw [hy.out] at hc
      go_simp
      apply hK
      · simp only [Act.put, List.setIfInBounds_toArray, List.set_cons_zero, List.set_cons_succ]
        exact rfl
      · exact Below.refl _ _
      · exact IsOut
    refine ⟨fun u W hb hd K hK => ?_, ?_⟩
    · simp only [Facts, nthR, Is, and_true] at hd
      simp only [hd] at hK ⊢
      clear hd
      have hn1 := h4.out
      go_simp
      apply hK
      · simp only [Act.put, List.setIfInBounds_toArray, List.set_cons_zero, List.set_cons_succ]
        exact rfl
      · exact Below.refl _ _
      · exact IsOut
    refine ⟨fun u W hb hd K hK => ?_, ?_⟩
    · simp only [Facts, nthR, Is, and_true] at hd
      simp only [hd] at hK ⊢
      clear hd
      go_simp
      apply hK
      · simp only [Act.put, List.setIfInBounds_toArray, List.set_cons_zero, List.set_cons_succ]
        exact rfl
      · exact Below.refl _ _
      · exact IsOut
    exact trivial
  · exact (.is (.is (.is (.is (.is (.is (.is (.is (.is .nil)))))))))
  · intro u w2 hb hd
    simp only [List.drop_succ_cons, List.drop_zero]
    simp only [Facts, nthR, Is, and_true] at hd
    have h8 := hd
    clear hd
    simp only [h8]
    clear h8
    replace bg2 := bg2.below hb lg2
    replace hb0 := hb0.trans (hb.mono hb0.size)
    replace lg2 := bg2.lt
    clear hb
    go_upto_region 2 with (fail)
    apply wp_plain_once (m := 1) (J := [[]]) (Je := [0]) (Rs := [Is _])
    · kernel_rfl
    · kernel_rfl
    · intro u
      simp only [List.take_succ_cons, List.take_zero, List.map_cons, List.map_nil, fillU, List.setIfInBounds_toArray, List.set_cons_zero, List.set_cons_succ]
      exact rfl
    · simp only [List.take_succ_cons, List.take_zero]
      refine ⟨fun u W hb hd K hK => ?_, ?_⟩
      · clear hd
        rw [if_pos (by rfl)]
        refine wp_builtV 24 _ rfl [] rfl (ptV none).toArray builtZ ?_
        exact hK _ _ _ rfl (Below.refl _ _) IsOut
      exact trivial
    · exact (.is .nil)
    · intro u w3 hb hd
      simp only [List.drop_succ_cons, List.drop_zero]
      simp only [Facts, nthR, Is, and_true] at hd
      have h0 := hd
      clear hd
      simp only [h0]
      clear h0
      replace bg2 := bg2.below hb lg2
      replace hb0 := hb0.trans (hb.mono hb0.size)
      replace lg2 := bg2.lt
      clear hb
      refine wpList_store_blk rfl 24 (.tmp 2) (.tmp 14) rfl rfl g2 (ptV none) rfl rfl _ _ bg2 (infoPt.trans (by rw [ptV_length])) (by first | with_reducible rfl | rw [ptV_length, ptV_length] | rw [ptV_length]) (onePv _) ?_
      intro w4 bn hgs
      replace hb0 := below_new hb0 hgs og2.out hb0.size
      clear hgs bg2
      have bg2 := bn
      clear bn
      replace lg2 := bg2.lt
      try simp only [Act.put]
      go_wp2_with (fail)
      refine bodyPost_ret (v := .tuple _) (results_pt rfl _ _ g2 (ptV none) (by rw [ptV_length]) (.int .i64 15) rfl rfl bg2) rfl ?_
      exact ⟨rfl, hb0⟩
set_option maxRecDepth 100000 in
set_option maxHeartbeats 400000 in
theorem curveRead_3 (g ob c : Nat) (xs X Y : List UInt8) (w : World) (hT : TabsC w) (hR : RowAt w g ob xs) (hl : Hid (xs.length = 65)) (hc65 : Hid (65 ≤ c)) (y : UInt8) (hy : Hid (xs.getD 0 0 = y)) (h4 : Hid (((y.toNat : Int) != 4) = false)) (hX : Hid (X.length = 32)) (hY : Hid (Y.length = 32)) (eX : Hid (X = (xs.drop 1).take 32)) (eY : Hid (Y = (xs.drop 33).take 32)) (hH : Hid (holdsB X Y = false)) : Calls Tryd.prog 29 #[.slice (some ⟨g, ob, none⟩) 65 c] w fun e w' => e = .returned (.tuple #[.agg (ptV none).toArray, .int .i64 15]) ∧ Below w.heap.size w w' := by
  go_enter Tryd.func29, Tryd.ntmps29
  have hb0 : Below w.heap.size w w := Below.refl _ _
  go_upto_region 0 with (fail)
  refine wp_region_lit ?_
  refine wpList_new_blk rfl 24 rfl (ptV none) zeroPt ?_
  intro g2 w1 hg bg2 hb
  have og2 := Lib.hid (show w.heap.size ≤ g2 from Nat.le_trans hb0.size (Nat.le_of_eq hg.symm))
  clear hg
  replace hb0 := hb0.trans (hb.mono hb0.size)
  clear hb
  have lg2 := bg2.lt
  try simp only [Act.put, List.setIfInBounds_toArray, List.set_cons_zero, List.set_cons_succ]
  go_upto_region 1 with (fail)
  apply wp_plain_once (m := 9) (J := [[], [0], [1], [2], [3], [3, 4], [3, 5], [3, 6], [3, 7]]) (Je := [8]) (Rs := [Is _, Is _, Is _, Is _, Is _, Is _, Is _, Is _, Is _])
  · kernel_rfl
  · kernel_rfl
  · intro u
    simp only [List.take_succ_cons, List.take_zero, List.map_cons, List.map_nil, fillU, List.setIfInBounds_toArray, List.set_cons_zero, List.set_cons_succ, Nat.reduceAdd]
    exact rfl
  · simp only [List.take_succ_cons, List.take_zero]
    refine ⟨fun u W hb hd K hK => ?_, ?_⟩
    · clear hd
      go_simp
      apply hK
      · simp only [Act.put, List.setIfInBounds_toArray, List.set_cons_zero, List.set_cons_succ]
        exact rfl
      · exact Below.refl _ _
      · exact IsOut
    refine ⟨fun u W hb hd K hK => ?_, ?_⟩
    · simp only [Facts, nthR, Is, and_true] at hd
      simp only [hd] at hK ⊢
      clear hd
      go_simp
      apply hK
      · simp only [Act.put, List.setIfInBounds_toArray, List.set_cons_zero, List.set_cons_succ]
        exact rfl
      · exact Below.refl _ _
      · exact IsOut
    refine ⟨fun u W hb hd K hK => ?_, ?_⟩
    · simp only [Facts, nthR, Is, and_true] at hd
      simp only [hd] at hK ⊢
      clear hd
      go_simp
      apply hK
      · simp only [Act.put, List.setIfInBounds_toArray, List.set_cons_zero, List.set_cons_succ]
        exact rfl
      · exact Below.refl _ _
      · exact IsOut
    refine ⟨fun u W hb hd K hK => ?_, ?_⟩
    · simp only [Facts, nthR, Is, and_true] at hd
      simp only [hd] at hK ⊢
      clear hd
      go_simp
      apply hK
      · simp only [Act.put, List.setIfInBounds_toArray, List.set_cons_zero, List.set_cons_succ]
        exact rfl
      · exact Below.refl _ _
      · exact IsOut
    refine ⟨fun u W hb hd K hK => ?_, ?_⟩
    · simp only [Facts, nthR, Is, and_true] at hd
      simp only [hd] at hK ⊢
      clear hd
      go_simp
      apply hK
      · simp only [Act.put, List.setIfInBounds_toArray, List.set_cons_zero, List.set_cons_succ]
        exact rfl
      · exact Below.refl _ _
      · exact IsOut
    refine ⟨fun u W hb hd K hK => ?_, ?_⟩
    · simp only [Facts, nthR, Is, and_true] at hd
      simp only [hd] at hK ⊢
      clear hd
      go_simp
      apply hK
      · simp only [Act.put, List.setIfInBounds_toArray, List.set_cons_zero, List.set_cons_succ]
        exact rfl
      · exact Below.refl _ _
      · exact IsOut
    refine ⟨fun u W hb hd K hK => ?_, ?_⟩
    · simp only [Facts, nthR, Is, and_true] at hd
      simp only [hd] at hK ⊢
      clear hd
      have hc := (hR.up (hb0.trans (hb.mono hb0.size))).first (by rw [hl.out]; decide)
      rw [hy.out] at hc
      go_simp
      apply hK
      · simp only [Act.put, List.setIfInBounds_toArray, List.set_cons_zero, List.set_cons_succ]
        exact rfl
      · exact Below.refl _ _
      · exact IsOut
    refine ⟨fun u W hb hd K hK => ?_, ?_⟩
    · simp only [Facts, nthR, Is, and_true] at hd
      simp only [hd] at hK ⊢
      clear hd
      have hn1 := h4.out
      go_simp
      apply hK
      · simp only [Act.put, List.setIfInBounds_toArray, List.set_cons_zero, List.set_cons_succ]
        exact rfl
      · exact Below.refl _ _
      · exact IsOut
    refine ⟨fun u W hb hd K hK => ?_, ?_⟩
    · simp only [Facts, nthR, Is, and_true] at hd
      simp only [hd] at hK ⊢
      clear hd
      go_simp
      apply hK
      · simp only [Act.put, List.setIfInBounds_toArray, List.set_cons_zero, List.set_cons_succ]
        exact rfl
      · exact Below.refl _ _
      · exact IsOut
    exact trivial
  · exact (.is (.is (.is (.is (.is (.is (.is (.is (.is .nil)))))))))
  · intro u w2 hb hd
    simp only [List.drop_succ_cons, List.drop_zero]
    simp only [Facts, nthR, Is, and_true] at hd
    have h8 := hd
    clear hd
    simp only [h8]
    clear h8
    replace bg2 := bg2.below hb lg2
    replace hb0 := hb0.trans (hb.mono hb0.size)
    replace lg2 := bg2.lt
    clear hb
    go_upto_region 3 with (fail)
    apply wp_region_once_tail (m := 10) (Z := []) (D := [[], [0], [0, 1], [0, 1, 2], [], [4], [4, 5], [4, 5, 6], [0, 1, 2, 3, 4, 5, 6, 7], [], [0, 1, 2, 3, 4, 5, 6, 7, 8, 9]]) (J := [[], [0], [1], [2], [], [4], [5], [6], [3, 7], []]) (Je := [8, 9]) (Rs := [Is _, Is _, Is _, Is _, Is _, Is _, Is _, Is _, Is _, fun v V => ∃ g', v = .pointer (some ⟨g', 0, none⟩) ∧ w2.heap.size ≤ g' ∧ Blk V g' 24 (ptV none)])
    · kernel_rfl
    · kernel_rfl
    · kernel_rfl
    · kernel_rfl
    · kernel_rfl
    · kernel_rfl
    · kernel_rfl
    · exact fun h => absurd rfl h
    · intro u
      simp only [List.take_succ_cons, List.take_zero, List.map_cons, List.map_nil, fillU, List.setIfInBounds_toArray, List.set_cons_zero, List.set_cons_succ, Nat.reduceAdd]
      exact rfl
    · simp only [List.take_succ_cons, List.take_zero]
      refine ⟨fun u W hb hd K hK => ?_, ?_⟩
      · clear hd
        go_simp
        apply hK
        · simp only [Act.put, List.setIfInBounds_toArray, List.set_cons_zero, List.set_cons_succ]
          exact rfl
        · exact Below.refl _ _
        · exact IsOut
      refine ⟨fun u W hb hd K hK => ?_, ?_⟩
      · simp only [Facts, nthR, Is, and_true] at hd
        simp only [hd] at hK ⊢
        clear hd
        rw [if_pos (by rfl)]
        refine wp_piece rfl rfl (lo := 1) (hi := 33) rfl rfl (by decide) (by have h := hc65.out; omega) (by have h := hc65.out; omega) ?_
        exact hK _ _ _ rfl (Below.refl _ _) IsOut
      refine ⟨fun u W hb hd K hK => ?_, ?_⟩
      · simp only [Facts, nthR, Is, and_true] at hd
        simp only [hd] at hK ⊢
        clear hd
        rw [if_pos (by rfl)]
        refine wp_arrayOf rfl Tryd.underlying22 rfl (by decide) ?_
        exact hK _ _ _ rfl (Below.refl _ _) IsOut
      refine ⟨fun u W hb hd K hK => ?_, ?_⟩
      · simp only [Facts, nthR, Is, and_true] at hd
        simp only [hd] at hK ⊢
        clear hd
        rw [if_pos (by rfl)]
        refine wp_load_mid 22 (.tmp 17) rfl g (ob + 1) rfl (X.map B8) _ ((hR.up (hb0.trans (hb.mono hb0.size))).piece (n := 32) eX.out (by rw [hl.out]; decide)) Tryd.underlying22 rfl (info40.trans (by rw [List.length_map, hX.out])) ?_
        exact hK _ _ _ rfl (Below.refl _ _) IsOut
      refine ⟨fun u W hb hd K hK => ?_, ?_⟩
      · clear hd
        go_simp
        apply hK
        · simp only [Act.put, List.setIfInBounds_toArray, List.set_cons_zero, List.set_cons_succ]
          exact rfl
        · exact Below.refl _ _
        · exact IsOut
      refine ⟨fun u W hb hd K hK => ?_, ?_⟩
      · simp only [Facts, nthR, Is, and_true] at hd
        simp only [hd] at hK ⊢
        clear hd
        rw [if_pos (by rfl)]
        refine wp_behind rfl rfl (lo := 33) rfl (by decide) (by have h := hc65.out; omega) ?_
        exact hK _ _ _ rfl (Below.refl _ _) IsOut
      refine ⟨fun u W hb hd K hK => ?_, ?_⟩
      · simp only [Facts, nthR, Is, and_true] at hd
        simp only [hd] at hK ⊢
        clear hd
        rw [if_pos (by rfl)]
        refine wp_arrayOf rfl Tryd.underlying22 rfl (by decide) ?_
        exact hK _ _ _ rfl (Below.refl _ _) IsOut
      refine ⟨fun u W hb hd K hK => ?_, ?_⟩
      · simp only [Facts, nthR, Is, and_true] at hd
        simp only [hd] at hK ⊢
        clear hd
        rw [if_pos (by rfl)]
        refine wp_load_mid 22 (.tmp 21) rfl g (ob + 33) rfl (Y.map B8) _ ((hR.up (hb0.trans (hb.mono hb0.size))).piece (n := 32) eY.out (by rw [hl.out]; decide)) Tryd.underlying22 rfl (info40.trans (by rw [List.length_map, hY.out])) ?_
        exact hK _ _ _ rfl (Below.refl _ _) IsOut
      refine ⟨fun u W hb hd K hK => ?_, ?_⟩
      · simp only [Facts, nthR, Is, and_true] at hd
        simp only [hd] at hK ⊢
        clear hd
        rw [if_pos (by rfl)]
        refine wp_builtV 24 _ rfl [(0, .agg (X.map B8).toArray), (1, .agg (Y.map B8).toArray)] rfl (ptC X Y).toArray (builtPtC (hX) (hY)) ?_
        exact hK _ _ _ rfl (Below.refl _ _) IsOut
      refine ⟨fun u W hb hd K hK => ?_, ?_⟩
      · clear hd
        go_simp
        apply hK
        · simp only [Act.put, List.setIfInBounds_toArray, List.set_cons_zero, List.set_cons_succ]
          exact rfl
        · exact (Below.refl _ _).alloc (Nat.le_refl _) _
        · exact ⟨_, rfl, hb.size, Blk.new_of _ _ _ _ rfl⟩
      exact trivial
    · skip
      exact trivial
    · exact (.is (.is (.is (.is (.is (.is (.is (.is (.is (.cons (fun v V V' ⟨g', h1, h2, h3⟩ hb => ⟨g', h1, h2, h3.below hb h3.lt⟩) .nil))))))))))
    · intro u w3 hb hd
      simp only [List.drop_succ_cons, List.drop_zero]
      simp only [Facts, nthR, Is, and_true] at hd
      obtain ⟨h8, ⟨g4, h9, hng4, bg4⟩⟩ := hd
      have og4 := Lib.hid (show w.heap.size ≤ g4 ∧ g2 < g4 from ⟨Nat.le_trans hb0.size hng4, Nat.lt_of_lt_of_le lg2 hng4⟩)
      simp only [h8, h9]
      clear h8 h9
      replace bg2 := bg2.below hb lg2
      replace hb0 := hb0.trans (hb.mono hb0.size)
      replace lg2 := bg2.lt
      clear hb
      have lg4 := bg4.lt
      clear hng4
      refine wpList_store_blk rfl 24 (.tmp 4) (.tmp 23) rfl rfl g4 (ptC X Y) rfl rfl _ _ bg4 (infoPt.trans (by rw [ptC_length (hX).out (hY).out])) (by first | with_reducible rfl | rw [ptV_length, ptC_length (hX).out (hY).out] | rw [ptV_length]) (onePt _ _) ?_
      intro w4 bn hgs
      replace bg2 := bg2.grown hgs (fun e => Nat.ne_of_lt og4.out.2 (Option.some.inj e))
      replace hb0 := below_new hb0 hgs og4.out.1 hb0.size
      clear hgs bg4
      have bg4 := bn
      clear bn
      replace lg2 := bg2.lt
      replace lg4 := bg4.lt
      try simp only [Act.put]
      go_upto_region 4 with (fail)
      apply wp_region_once_tail (m := 4) (Z := []) (D := [[], [], [0, 1], [0, 1, 2]]) (J := [[], [], [0, 1], [2]]) (Je := [3]) (Rs := [fun v V => ∃ g, v = .agg #[.pointer (some ⟨g, 0, none⟩)] ∧ GrpAt V g, Is _, Is _, Is _])
      · kernel_rfl
      · kernel_rfl
      · kernel_rfl
      · kernel_rfl
      · kernel_rfl
      · kernel_rfl
      · kernel_rfl
      · exact fun h => absurd rfl h
      · intro u
        simp only [List.take_succ_cons, List.take_zero, List.map_cons, List.map_nil, fillU, List.setIfInBounds_toArray, List.set_cons_zero, List.set_cons_succ, Nat.reduceAdd]
        exact rfl
      · simp only [List.take_succ_cons, List.take_zero]
        refine ⟨fun u W hb hd K hK => ?_, ?_⟩
        · clear hd
          go_simp
          refine (newGroup_k W (hT.up hb0 hb)).mono ?_
          rintro e wy ⟨g, rfl, hgl, hM, hby⟩
          exact hK _ _ _ rfl hby ⟨g, rfl, hM⟩
        refine ⟨fun u W hb hd K hK => ?_, ?_⟩
        · clear hd
          rw [if_pos (by rfl)]
          refine wp_load_mid 24 (.tmp 4) rfl g4 0 rfl (ptC X Y) _ (rangeAt_of_blk (bg4.below hb lg4)) Tryd.underlying24 rfl (infoPt.trans (by rw [ptC_length (hX).out (hY).out])) ?_
          exact hK _ _ _ rfl (Below.refl _ _) IsOut
        refine ⟨fun u W hb hd K hK => ?_, ?_⟩
        · simp only [Facts, nthR, Is, and_true] at hd
          obtain ⟨⟨g, h0, hM⟩, h1⟩ := hd
          simp only [h0, h1] at hK ⊢
          go_simp
          refine (HolE hH hM (hT.up hb0 hb) (hX) (hY)).mono ?_
          rintro e wy ⟨rfl, hby⟩
          exact hK _ _ _ rfl hby IsOut
        refine ⟨fun u W hb hd K hK => ?_, ?_⟩
        · simp only [Facts, nthR, Is, and_true] at hd
          simp only [hd] at hK ⊢
          clear hd
          go_simp
          apply hK
          · simp only [Act.put, List.setIfInBounds_toArray, List.set_cons_zero, List.set_cons_succ]
            exact rfl
          · exact Below.refl _ _
          · exact IsOut
        exact trivial
      · skip
        exact trivial
      · exact (.cons (fun v V V' ⟨g, h1, h2⟩ hb => ⟨g, h1, h2.up hb⟩) (.is (.is (.is .nil))))
      · intro u w5 hb hd
        simp only [List.drop_succ_cons, List.drop_zero]
        simp only [Facts, nthR, Is, and_true] at hd
        have h3 := hd
        clear hd
        simp only [h3]
        clear h3
        replace bg2 := bg2.below hb lg2
        replace bg4 := bg4.below hb lg4
        replace hb0 := hb0.trans (hb.mono hb0.size)
        replace lg2 := bg2.lt
        replace lg4 := bg4.lt
        clear hb
        go_upto_region 5 with (fail)
        apply wp_plain_once (m := 1) (J := [[]]) (Je := [0]) (Rs := [Is _])
        · kernel_rfl
        · kernel_rfl
        · intro u
          simp only [List.take_succ_cons, List.take_zero, List.map_cons, List.map_nil, fillU, List.setIfInBounds_toArray, List.set_cons_zero, List.set_cons_succ]
          exact rfl
        · simp only [List.take_succ_cons, List.take_zero]
          refine ⟨fun u W hb hd K hK => ?_, ?_⟩
          · clear hd
            rw [if_pos (by rfl)]
            refine wp_builtV 24 _ rfl [] rfl (ptV none).toArray builtZ ?_
            exact hK _ _ _ rfl (Below.refl _ _) IsOut
          exact trivial
        · exact (.is .nil)
        · intro u w6 hb hd
          simp only [List.drop_succ_cons, List.drop_zero]
          simp only [Facts, nthR, Is, and_true] at hd
          have h0 := hd
          clear hd
          simp only [h0]
          clear h0
          replace bg2 := bg2.below hb lg2
          replace bg4 := bg4.below hb lg4
          replace hb0 := hb0.trans (hb.mono hb0.size)
          replace lg2 := bg2.lt
          replace lg4 := bg4.lt
          clear hb
          refine wpList_store_blk rfl 24 (.tmp 2) (.tmp 28) rfl rfl g2 (ptV none) rfl rfl _ _ bg2 (infoPt.trans (by rw [ptV_length])) (by first | with_reducible rfl | rw [ptV_length, ptV_length] | rw [ptV_length]) (onePv _) ?_
          intro w7 bn hgs
          replace bg4 := bg4.grown hgs (fun e => Nat.ne_of_gt og4.out.2 (Option.some.inj e))
          replace hb0 := below_new hb0 hgs og2.out hb0.size
          clear hgs bg2
          have bg2 := bn
          clear bn
          replace lg2 := bg2.lt
          replace lg4 := bg4.lt
          try simp only [Act.put]
          go_wp2_with (fail)
          refine bodyPost_ret (v := .tuple _) (results_pt rfl _ _ g2 (ptV none) (by rw [ptV_length]) (.int .i64 15) rfl rfl bg2) rfl ?_
          exact ⟨rfl, hb0⟩
set_option maxRecDepth 100000 in
set_option maxHeartbeats 400000 in
theorem curveRead_4 (g ob c : Nat) (xs X Y : List UInt8) (w : World) (hT : TabsC w) (hR : RowAt w g ob xs) (hl : Hid (xs.length = 65)) (hc65 : Hid (65 ≤ c)) (y : UInt8) (hy : Hid (xs.getD 0 0 = y)) (h4 : Hid (((y.toNat : Int) != 4) = false)) (hX : Hid (X.length = 32)) (hY : Hid (Y.length = 32)) (eX : Hid (X = (xs.drop 1).take 32)) (eY : Hid (Y = (xs.drop 33).take 32)) (hH : Hid (holdsB X Y = true)) : Calls Tryd.prog 29 #[.slice (some ⟨g, ob, none⟩) 65 c] w fun e w' => e = .returned (.tuple #[.agg (ptC X Y).toArray, .int .i64 0]) ∧ Below w.heap.size w w' := by
  go_enter Tryd.func29, Tryd.ntmps29
  have hb0 : Below w.heap.size w w := Below.refl _ _
  go_upto_region 0 with (fail)
  refine wp_region_lit ?_
  refine wpList_new_blk rfl 24 rfl (ptV none) zeroPt ?_
  intro g2 w1 hg bg2 hb
  have og2 := Lib.hid (show w.heap.size ≤ g2 from Nat.le_trans hb0.size (Nat.le_of_eq hg.symm))
  clear hg
  replace hb0 := hb0.trans (hb.mono hb0.size)
  clear hb
  have lg2 := bg2.lt
  try simp only [Act.put, List.setIfInBounds_toArray, List.set_cons_zero, List.set_cons_succ]
  go_upto_region 1 with (fail)
  apply wp_plain_once (m := 9) (J := [[], [0], [1], [2], [3], [3, 4], [3, 5], [3, 6], [3, 7]]) (Je := [8]) (Rs := [Is _, Is _, Is _, Is _, Is _, Is _, Is _, Is _, Is _])
  · kernel_rfl
  · kernel_rfl
  · intro u
    simp only [List.take_succ_cons, List.take_zero, List.map_cons, List.map_nil, fillU, List.setIfInBounds_toArray, List.set_cons_zero, List.set_cons_succ, Nat.reduceAdd]
    exact rfl
  · simp only [List.take_succ_cons, List.take_zero]
    refine ⟨fun u W hb hd K hK => ?_, ?_⟩
    · clear hd
      go_simp
      apply hK
      · simp only [Act.put, List.setIfInBounds_toArray, List.set_cons_zero, List.set_cons_succ]
        exact rfl
      · exact Below.refl _ _
      · exact IsOut
    refine ⟨fun u W hb hd K hK => ?_, ?_⟩
    · simp only [Facts, nthR, Is, and_true] at hd
      simp only [hd] at hK ⊢
      clear hd
      go_simp
      apply hK
      · simp only [Act.put, List.setIfInBounds_toArray, List.set_cons_zero, List.set_cons_succ]
        exact rfl
      · exact Below.refl _ _
      · exact IsOut
    refine ⟨fun u W hb hd K hK => ?_, ?_⟩
    · simp only [Facts, nthR, Is, and_true] at hd
      simp only [hd] at hK ⊢
      clear hd
      go_simp
      apply hK
      · simp only [Act.put, List.setIfInBounds_toArray, List.set_cons_zero, List.set_cons_succ]
        exact rfl
      · exact Below.refl _ _
      · exact IsOut
    refine ⟨fun u W hb hd K hK => ?_, ?_⟩
    · simp only [Facts, nthR, Is, and_true] at hd
      simp only [hd] at hK ⊢
      clear hd
      go_simp
      apply hK
      · simp only [Act.put, List.setIfInBounds_toArray, List.set_cons_zero, List.set_cons_succ]
        exact rfl
      · exact Below.refl _ _
      · exact IsOut
    refine ⟨fun u W hb hd K hK => ?_, ?_⟩
    · simp only [Facts, nthR, Is, and_true] at hd
      simp only [hd] at hK ⊢
      clear hd
      go_simp
      apply hK
      · simp only [Act.put, List.setIfInBounds_toArray, List.set_cons_zero, List.set_cons_succ]
        exact rfl
      · exact Below.refl _ _
      · exact IsOut
    refine ⟨fun u W hb hd K hK => ?_, ?_⟩
    · simp only [Facts, nthR, Is, and_true] at hd
      simp only [hd] at hK ⊢
      clear hd
      go_simp
      apply hK
      · simp only [Act.put, List.setIfInBounds_toArray, List.set_cons_zero, List.set_cons_succ]
        exact rfl
      · exact Below.refl _ _
      · exact IsOut
    refine ⟨fun u W hb hd K hK => ?_, ?_⟩
    · simp only [Facts, nthR, Is, and_true] at hd
      simp only [hd] at hK ⊢
      clear hd
      have hc := (hR.up (hb0.trans (hb.mono hb0.size))).first (by rw [hl.out]; decide)
      rw [hy.out] at hc
      go_simp
      apply hK
      · simp only [Act.put, List.setIfInBounds_toArray, List.set_cons_zero, List.set_cons_succ]
        exact rfl
      · exact Below.refl _ _
      · exact IsOut
    refine ⟨fun u W hb hd K hK => ?_, ?_⟩
    · simp only [Facts, nthR, Is, and_true] at hd
      simp only [hd] at hK ⊢
      clear hd
      have hn1 := h4.out
      go_simp
      apply hK
      · simp only [Act.put, List.setIfInBounds_toArray, List.set_cons_zero, List.set_cons_succ]
        exact rfl
      · exact Below.refl _ _
      · exact IsOut
    refine ⟨fun u W hb hd K hK => ?_, ?_⟩
    · simp only [Facts, nthR, Is, and_true] at hd
      simp only [hd] at hK ⊢
      clear hd
      go_simp
      apply hK
      · simp only [Act.put, List.setIfInBounds_toArray, List.set_cons_zero, List.set_cons_succ]
        exact rfl
      · exact Below.refl _ _
      · exact IsOut
    exact trivial
  · exact (.is (.is (.is (.is (.is (.is (.is (.is (.is .nil)))))))))
  · intro u w2 hb hd
    simp only [List.drop_succ_cons, List.drop_zero]
    simp only [Facts, nthR, Is, and_true] at hd
    have h8 := hd
    clear hd
    simp only [h8]
    clear h8
    replace bg2 := bg2.below hb lg2
    replace hb0 := hb0.trans (hb.mono hb0.size)
    replace lg2 := bg2.lt
    clear hb
    go_upto_region 3 with (fail)
    apply wp_region_once_tail (m := 10) (Z := []) (D := [[], [0], [0, 1], [0, 1, 2], [], [4], [4, 5], [4, 5, 6], [0, 1, 2, 3, 4, 5, 6, 7], [], [0, 1, 2, 3, 4, 5, 6, 7, 8, 9]]) (J := [[], [0], [1], [2], [], [4], [5], [6], [3, 7], []]) (Je := [8, 9]) (Rs := [Is _, Is _, Is _, Is _, Is _, Is _, Is _, Is _, Is _, fun v V => ∃ g', v = .pointer (some ⟨g', 0, none⟩) ∧ w2.heap.size ≤ g' ∧ Blk V g' 24 (ptV none)])
    · kernel_rfl
    · kernel_rfl
    · kernel_rfl
    · kernel_rfl
    · kernel_rfl
    · kernel_rfl
    · kernel_rfl
    · exact fun h => absurd rfl h
    · intro u
      simp only [List.take_succ_cons, List.take_zero, List.map_cons, List.map_nil, fillU, List.setIfInBounds_toArray, List.set_cons_zero, List.set_cons_succ, Nat.reduceAdd]
      exact rfl
    · simp only [List.take_succ_cons, List.take_zero]
      refine ⟨fun u W hb hd K hK => ?_, ?_⟩
      · clear hd
        go_simp
        apply hK
        · simp only [Act.put, List.setIfInBounds_toArray, List.set_cons_zero, List.set_cons_succ]
          exact rfl
        · exact Below.refl _ _
        · exact IsOut
      refine ⟨fun u W hb hd K hK => ?_, ?_⟩
      · simp only [Facts, nthR, Is, and_true] at hd
        simp only [hd] at hK ⊢
        clear hd
        rw [if_pos (by rfl)]
        refine wp_piece rfl rfl (lo := 1) (hi := 33) rfl rfl (by decide) (by have h := hc65.out; omega) (by have h := hc65.out; omega) ?_
        exact hK _ _ _ rfl (Below.refl _ _) IsOut
      refine ⟨fun u W hb hd K hK => ?_, ?_⟩
      · simp only [Facts, nthR, Is, and_true] at hd
        simp only [hd] at hK ⊢
        clear hd
        rw [if_pos (by rfl)]
        refine wp_arrayOf rfl Tryd.underlying22 rfl (by decide) ?_
        exact hK _ _ _ rfl (Below.refl _ _) IsOut
      refine ⟨fun u W hb hd K hK => ?_, ?_⟩
      · simp only [Facts, nthR, Is, and_true] at hd
        simp only [hd] at hK ⊢
        clear hd
        rw [if_pos (by rfl)]
        refine wp_load_mid 22 (.tmp 17) rfl g (ob + 1) rfl (X.map B8) _ ((hR.up (hb0.trans (hb.mono hb0.size))).piece (n := 32) eX.out (by rw [hl.out]; decide)) Tryd.underlying22 rfl (info40.trans (by rw [List.length_map, hX.out])) ?_
        exact hK _ _ _ rfl (Below.refl _ _) IsOut
      refine ⟨fun u W hb hd K hK => ?_, ?_⟩
      · clear hd
        go_simp
        apply hK
        · simp only [Act.put, List.setIfInBounds_toArray, List.set_cons_zero, List.set_cons_succ]
          exact rfl
        · exact Below.refl _ _
        · exact IsOut
      refine ⟨fun u W hb hd K hK => ?_, ?_⟩
      · simp only [Facts, nthR, Is, and_true] at hd
        simp only [hd] at hK ⊢
        clear hd
        rw [if_pos (by rfl)]
        refine wp_behind rfl rfl (lo := 33) rfl (by decide) (by have h := hc65.out; omega) ?_
        exact hK _ _ _ rfl (Below.refl _ _) IsOut
      refine ⟨fun u W hb hd K hK => ?_, ?_⟩
      · simp only [Facts, nthR, Is, and_true] at hd
        simp only [hd] at hK ⊢
        clear hd
        rw [if_pos (by rfl)]
        refine wp_arrayOf rfl Tryd.underlying22 rfl (by decide) ?_
        exact hK _ _ _ rfl (Below.refl _ _) IsOut
      refine ⟨fun u W hb hd K hK => ?_, ?_⟩
      · simp only [Facts, nthR, Is, and_true] at hd
        simp only [hd] at hK ⊢
        clear hd
        rw [if_pos (by rfl)]
        refine wp_load_mid 22 (.tmp 21) rfl g (ob + 33) rfl (Y.map B8) _ ((hR.up (hb0.trans (hb.mono hb0.size))).piece (n := 32) eY.out (by rw [hl.out]; decide)) Tryd.underlying22 rfl (info40.trans (by rw [List.length_map, hY.out])) ?_
        exact hK _ _ _ rfl (Below.refl _ _) IsOut
      refine ⟨fun u W hb hd K hK => ?_, ?_⟩
      · simp only [Facts, nthR, Is, and_true] at hd
        simp only [hd] at hK ⊢
        clear hd
        rw [if_pos (by rfl)]
        refine wp_builtV 24 _ rfl [(0, .agg (X.map B8).toArray), (1, .agg (Y.map B8).toArray)] rfl (ptC X Y).toArray (builtPtC (hX) (hY)) ?_
        exact hK _ _ _ rfl (Below.refl _ _) IsOut
      refine ⟨fun u W hb hd K hK => ?_, ?_⟩
      · clear hd
        go_simp
        apply hK
        · simp only [Act.put, List.setIfInBounds_toArray, List.set_cons_zero, List.set_cons_succ]
          exact rfl
        · exact (Below.refl _ _).alloc (Nat.le_refl _) _
        · exact ⟨_, rfl, hb.size, Blk.new_of _ _ _ _ rfl⟩
      exact trivial
    · skip
      exact trivial
    · exact (.is (.is (.is (.is (.is (.is (.is (.is (.is (.cons (fun v V V' ⟨g', h1, h2, h3⟩ hb => ⟨g', h1, h2, h3.below hb h3.lt⟩) .nil))))))))))
    · intro u w3 hb hd
      simp only [List.drop_succ_cons, List.drop_zero]
      simp only [Facts, nthR, Is, and_true] at hd
      obtain ⟨h8, ⟨g4, h9, hng4, bg4⟩⟩ := hd
      have og4 := Lib.hid (show w.heap.size ≤ g4 ∧ g2 < g4 from ⟨Nat.le_trans hb0.size hng4, Nat.lt_of_lt_of_le lg2 hng4⟩)
      simp only [h8, h9]
      clear h8 h9
      replace bg2 := bg2.below hb lg2
      replace hb0 := hb0.trans (hb.mono hb0.size)
      replace lg2 := bg2.lt
      clear hb
      have lg4 := bg4.lt
      clear hng4
      refine wpList_store_blk rfl 24 (.tmp 4) (.tmp 23) rfl rfl g4 (ptC X Y) rfl rfl _ _ bg4 (infoPt.trans (by rw [ptC_length (hX).out (hY).out])) (by first | with_reducible rfl | rw [ptV_length, ptC_length (hX).out (hY).out] | rw [ptV_length]) (onePt _ _) ?_
      intro w4 bn hgs
      replace bg2 := bg2.grown hgs (fun e => Nat.ne_of_lt og4.out.2 (Option.some.inj e))
      replace hb0 := below_new hb0 hgs og4.out.1 hb0.size
      clear hgs bg4
      have bg4 := bn
      clear bn
      replace lg2 := bg2.lt
      replace lg4 := bg4.lt
      try simp only [Act.put]
      go_upto_region 4 with (fail)
      apply wp_region_once_tail (m := 4) (Z := []) (D := [[], [], [0, 1], [0, 1, 2]]) (J := [[], [], [0, 1], [2]]) (Je := [3]) (Rs := [fun v V => ∃ g, v = .agg #[.pointer (some ⟨g, 0, none⟩)] ∧ GrpAt V g, Is _, Is _, Is _])
      · kernel_rfl
      · kernel_rfl
      · kernel_rfl
      · kernel_rfl
      · kernel_rfl
      · kernel_rfl
      · kernel_rfl
      · exact fun h => absurd rfl h
      · intro u
        simp only [List.take_succ_cons, List.take_zero, List.map_cons, List.map_nil, fillU, List.setIfInBounds_toArray, List.set_cons_zero, List.set_cons_succ, Nat.reduceAdd]
        exact rfl
      · simp only [List.take_succ_cons, List.take_zero]
        refine ⟨fun u W hb hd K hK => ?_, ?_⟩
        · clear hd
          go_simp
          refine (newGroup_k W (hT.up hb0 hb)).mono ?_
          rintro e wy ⟨g, rfl, hgl, hM, hby⟩
          exact hK _ _ _ rfl hby ⟨g, rfl, hM⟩
        refine ⟨fun u W hb hd K hK => ?_, ?_⟩
        · clear hd
          rw [if_pos (by rfl)]
          refine wp_load_mid 24 (.tmp 4) rfl g4 0 rfl (ptC X Y) _ (rangeAt_of_blk (bg4.below hb lg4)) Tryd.underlying24 rfl (infoPt.trans (by rw [ptC_length (hX).out (hY).out])) ?_
          exact hK _ _ _ rfl (Below.refl _ _) IsOut
        refine ⟨fun u W hb hd K hK => ?_, ?_⟩
        · simp only [Facts, nthR, Is, and_true] at hd
          obtain ⟨⟨g, h0, hM⟩, h1⟩ := hd
          simp only [h0, h1] at hK ⊢
          go_simp
          refine (HolE hH hM (hT.up hb0 hb) (hX) (hY)).mono ?_
          rintro e wy ⟨rfl, hby⟩
          exact hK _ _ _ rfl hby IsOut
        refine ⟨fun u W hb hd K hK => ?_, ?_⟩
        · simp only [Facts, nthR, Is, and_true] at hd
          simp only [hd] at hK ⊢
          clear hd
          go_simp
          apply hK
          · simp only [Act.put, List.setIfInBounds_toArray, List.set_cons_zero, List.set_cons_succ]
            exact rfl
          · exact Below.refl _ _
          · exact IsOut
        exact trivial
      · skip
        exact trivial
      · exact (.cons (fun v V V' ⟨g, h1, h2⟩ hb => ⟨g, h1, h2.up hb⟩) (.is (.is (.is .nil))))
      · intro u w5 hb hd
        simp only [List.drop_succ_cons, List.drop_zero]
        simp only [Facts, nthR, Is, and_true] at hd
        have h3 := hd
        clear hd
        simp only [h3]
        clear h3
        replace bg2 := bg2.below hb lg2
        replace bg4 := bg4.below hb lg4
        replace hb0 := hb0.trans (hb.mono hb0.size)
        replace lg2 := bg2.lt
        replace lg4 := bg4.lt
        clear hb
        go_upto_region 6 with (fail)
        apply wp_plain_once (m := 1) (J := [[]]) (Je := [0]) (Rs := [Is _])
        · kernel_rfl
        · kernel_rfl
        · intro u
          simp only [List.take_succ_cons, List.take_zero, List.map_cons, List.map_nil, fillU, List.setIfInBounds_toArray, List.set_cons_zero, List.set_cons_succ]
          exact rfl
        · simp only [List.take_succ_cons, List.take_zero]
          refine ⟨fun u W hb hd K hK => ?_, ?_⟩
          · clear hd
            rw [if_pos (by rfl)]
            refine wp_load_mid 24 (.tmp 4) rfl g4 0 rfl (ptC X Y) _ (rangeAt_of_blk (bg4.below hb lg4)) Tryd.underlying24 rfl (infoPt.trans (by rw [ptC_length (hX).out (hY).out])) ?_
            exact hK _ _ _ rfl (Below.refl _ _) IsOut
          exact trivial
        · exact (.is .nil)
        · intro u w6 hb hd
          simp only [List.drop_succ_cons, List.drop_zero]
          simp only [Facts, nthR, Is, and_true] at hd
          have h0 := hd
          clear hd
          simp only [h0]
          clear h0
          replace bg2 := bg2.below hb lg2
          replace bg4 := bg4.below hb lg4
          replace hb0 := hb0.trans (hb.mono hb0.size)
          replace lg2 := bg2.lt
          replace lg4 := bg4.lt
          clear hb
          refine wpList_store_blk rfl 24 (.tmp 2) (.tmp 29) rfl rfl g2 (ptC X Y) rfl rfl _ _ bg2 (infoPt.trans (by rw [ptC_length (hX).out (hY).out])) (by first | with_reducible rfl | rw [ptV_length, ptC_length (hX).out (hY).out] | rw [ptV_length]) (onePt _ _) ?_
          intro w7 bn hgs
          replace bg4 := bg4.grown hgs (fun e => Nat.ne_of_gt og4.out.2 (Option.some.inj e))
          replace hb0 := below_new hb0 hgs og2.out hb0.size
          clear hgs bg2
          have bg2 := bn
          clear bn
          replace lg2 := bg2.lt
          replace lg4 := bg4.lt
          try simp only [Act.put]
          go_wp2_with (fail)
          refine bodyPost_ret (v := .tuple _) (results_pt rfl _ _ g2 (ptC X Y) (by rw [ptC_length hX.out hY.out]) (.int .i64 0) rfl rfl bg2) rfl ?_
          exact ⟨rfl, hb0⟩
theorem u8_eq4 (y : UInt8) : ((y.toNat : Int) == 4) = (y == 4) := by
  rw [Bool.eq_iff_iff, beq_iff_eq, beq_iff_eq]
  refine ⟨fun h => UInt8.toNat_inj.1 (by show y.toNat = 4; omega), fun h => by subst h; rfl⟩
theorem ReadE {A : Option Addr} {n c : Nat} {xs : List UInt8} {w : World} (hT : TabsC w) (hn : xs.length = n) (hI : In w w.heap.size A c xs) : Calls Tryd.prog 29 #[.slice A n c] w fun e w' => e = .returned (.tuple #[.agg (ptC (rdX xs) (rdY xs)).toArray, .int .i64 (rdE xs)]) ∧ Below w.heap.size w w' := by
  subst hn
  unfold rdX rdY rdE okR
  by_cases h65 : xs.length = 65
  · obtain ⟨g, ob, rfl, hR⟩ := row_of_in hI (by omega)
    have hc65 := hI.1
    rw [h65] at hc65
    rw [decide_eq_true h65, Bool.true_and]
    rw [h65]
    have lX : ((xs.drop 1).take 32).length = 32 := by rw [List.length_take, List.length_drop]; omega
    have lY : ((xs.drop 33).take 32).length = 32 := by rw [List.length_take, List.length_drop]; omega
    cases h4 : (xs.getD 0 0 == 4) with
    | false =>
      rw [Bool.false_and, if_neg (by decide), if_neg (by decide), if_neg (by decide)]
      exact curveRead_2 g ob c xs w hT hR (Lib.hid h65) (Lib.hid hc65) _ (Lib.hid rfl) (Lib.hid (by rw [bne, u8_eq4, h4]; rfl))
    | true =>
      rw [Bool.true_and]
      cases hH : holdsB ((xs.drop 1).take 32) ((xs.drop 33).take 32) with
      | false =>
        rw [if_neg (by decide), if_neg (by decide), if_neg (by decide)]
        exact curveRead_3 g ob c xs _ _ w hT hR (Lib.hid h65) (Lib.hid hc65) _ (Lib.hid rfl) (Lib.hid (by rw [bne, u8_eq4, h4]; rfl)) (Lib.hid lX) (Lib.hid lY) (Lib.hid rfl) (Lib.hid rfl) (Lib.hid hH)
      | true =>
        rw [if_pos rfl, if_pos rfl, if_pos rfl]
        exact curveRead_4 g ob c xs _ _ w hT hR (Lib.hid h65) (Lib.hid hc65) _ (Lib.hid rfl) (Lib.hid (by rw [bne, u8_eq4, h4]; rfl)) (Lib.hid lX) (Lib.hid lY) (Lib.hid rfl) (Lib.hid rfl) (Lib.hid hH)
  · rw [decide_eq_false h65, Bool.false_and, Bool.false_and, if_neg (by decide), if_neg (by decide), if_neg (by decide)]
    exact curveRead_1 A xs.length c w (Lib.hid (by rw [bne_iff_ne]; omega))
end Go.Proofs.YtnkikhnllnbhfaaDoor
