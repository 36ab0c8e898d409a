/-
  Package curve's On; the law's small, of and curves.
-/
import Derived.Test.YtnkikhnllnbhfaaDoorCr2
import Derived.Test.YtnkikhnllnbhfaaDoorSx
namespace Go.Proofs.YtnkikhnllnbhfaaDoor
open Go.RowKit
open CurveMath

theorem guardPt : Tryd.prog.eqGuardType Tryd.prog.depth 24 = false := by kernel_rfl
theorem guardB32 : Tryd.prog.eqGuardType Tryd.prog.depth 22 = false := by kernel_rfl
theorem orderP_ok : orderP.ok := ⟨by decide, by decide, by decide, by decide⟩
theorem orderP_val : orderP.val = nN := by decide
theorem ok_of {B : List UInt8} {n : P4} (h : Hid (ofTo B 32 = n)) : Hid n.ok := Lib.hid (by rw [← h.out]; exact ofTo_ok _ _)
theorem ok_red {m n : P4} {v : Nat} (h : Hid (n = redP m v)) : Hid n.ok := Lib.hid (by rw [h.out]; exact redP_ok _ _)
theorem bytes_len {n : P4} {B : List UInt8} (h : Hid (bsTo n 32 = B)) : Hid (B.length = 32) := Lib.hid (by rw [← h.out]; exact bsTo_length _ _)
theorem bytes_val {n : P4} {B : List UInt8} {v : Nat} (h : Hid (bsTo n 32 = B)) (hn : Hid n.ok) (hv : n.val = v) : Hid ((ofTo B 32).val = v) := Lib.hid (by rw [← h.out, of_bytes hn.out, hv])
theorem orderB_val : Hid ((ofTo orderB 32).val = nN) := Lib.hid (by unfold orderB; rw [of_bytes orderP_ok, orderP_val])
theorem small_ok {n : Nat} (h : n < 65536) : (⟨n, 0, 0, 0⟩ : P4).ok := ⟨by show n < _; omega, by show 0 < _; decide, by show 0 < _; decide, by show 0 < _; decide⟩
theorem small_len {n : Nat} {B : List UInt8} (h : Hid (B = bsTo ⟨n, 0, 0, 0⟩ 32)) : Hid (B.length = 32) := Lib.hid (by rw [h.out]; exact bsTo_length _ _)
theorem small_val {n : Nat} {B : List UInt8} (hn : n < 65536) (h : Hid (B = bsTo ⟨n, 0, 0, 0⟩ 32)) : Hid ((ofTo B 32).val = n) := Lib.hid (by rw [h.out, of_bytes (small_ok hn)]; show n + _ * 0 + _ * 0 + _ * 0 = n; omega)
theorem RAddN {x y m n : P4} (hx : Hid x.ok) (hy : Hid y.ok) (hm : Hid m.ok) (h : Hid (n = redP m (x.val + y.val))) (hb : 1 < m.val) (w : World) : Calls Tryd.prog 26 #[.agg (nC x).toArray, .agg (nC y).toArray, .agg (nC m).toArray] w fun e w' => e = .returned (.agg (nC n).toArray) ∧ Below w.heap.size w w' := by
  rw [h.out]
  exact rAdd_any x y m w hx.out hy.out hm.out hb
theorem RSubN {x y m n : P4} (hx : Hid x.ok) (hy : Hid y.ok) (hm : Hid m.ok) (h : Hid (n = redP m (x.val % m.val + m.val - y.val % m.val))) (hb : 1 < m.val) (w : World) : Calls Tryd.prog 23 #[.agg (nC x).toArray, .agg (nC y).toArray, .agg (nC m).toArray] w fun e w' => e = .returned (.agg (nC n).toArray) ∧ Below w.heap.size w w' := by
  rw [h.out]
  exact rSub_any x y m w hx.out hy.out hm.out hb
theorem RRestN {x m n : P4} (hx : Hid x.ok) (hm : Hid m.ok) (h : Hid (n = redP m x.val)) (hb : 1 < m.val) (w : World) : Calls Tryd.prog 27 #[.agg (nC x).toArray, .agg (nC m).toArray] w fun e w' => e = .returned (.agg (nC n).toArray) ∧ Below w.heap.size w w' := by
  rw [h.out]
  exact rRest_any x m w hx.out hm.out hb
set_option maxRecDepth 100000 in
theorem built32_0 : Tryd.prog.built 22 [] = some (zero32.map B8).toArray := by kernel_rfl
theorem built6_n (n : Nat) : Tryd.prog.built 29 [(0, .int .u64 (n : Int))] = some (nC ⟨n, 0, 0, 0⟩).toArray := by kernel_rfl
theorem zero32_length : zero32.length = 32 := by decide
/-- Is it infinity, or a point? -/
def onB (X Y : List UInt8) : Bool := eqPtB X Y zero32 zero32 || holdsB X Y
theorem onB_pt {P : Pt} (h : onPt P) : onB (xB P) (yB P) = true := by
  unfold onB
  match P, h with
  | none, _ => exact (Bool.or_eq_true_iff).2 (.inl (by unfold eqPtB; rw [Bool.and_eq_true]; exact ⟨beq_self_eq_true _, beq_self_eq_true _⟩))
  | some (x, y), h =>
    show (_ || holdsB (kB x) (kB y)) = true
    rw [holds_kB, decide_eq_true (p := y * y = x * x * x - 3 * x + bK) h, Bool.or_true]
set_option maxRecDepth 100000 in
set_option maxHeartbeats 400000 in
theorem curveOn_1 (X Y : List UInt8) (w : World) (_hT : TabsC w) (hX : Hid (X.length = 32)) (hY : Hid (Y.length = 32)) (he0 : Hid (eqPtB X Y zero32 zero32 = true)) : Calls Tryd.prog 17 #[.agg (ptC X Y).toArray] w fun e w' => e = .returned (.bool true) ∧ Below w.heap.size w w' := by
  go_enter Tryd.func17, Tryd.ntmps17
  have hb0 : Below w.heap.size w w := Below.refl _ _
  go_upto_region 0 with (fail)
  refine wp_region_lit ?_
  refine wpList_box_blk rfl 24 (.tmp 0) rfl (ptC X Y) rfl ?_
  intro g1 w1 hg bg1 hb
  have og1 := Lib.hid (show w.heap.size ≤ g1 from Nat.le_trans hb0.size (Nat.le_of_eq hg.symm))
  clear hg
  replace hb0 := hb0.trans (hb.mono hb0.size)
  clear hb
  have lg1 := bg1.lt
  try simp only [Act.put, List.setIfInBounds_toArray, List.set_cons_zero, List.set_cons_succ]
  go_upto_region 1 with (fail)
  apply wp_region_once_tail (m := 8) (Z := []) (D := [[], [], [0, 1], [0, 1, 2], [0, 1, 2, 3], [0, 1, 2, 3], [0, 1, 2, 3, 4, 5], [0, 1, 2, 3, 4, 5, 6], [0, 1, 2, 3, 4, 5, 6, 7]]) (J := [[], [], [0, 1], [2], [3], [3], [3, 4, 5], [3, 6]]) (Je := [7]) (Rs := [Is _, Is _, Is _, Is _, Is _, Is _, Is _, Is _])
  · kernel_rfl
  · kernel_rfl
  · kernel_rfl
  · kernel_rfl
  · kernel_rfl
  · kernel_rfl
  · kernel_rfl
  · exact fun h => absurd rfl h
  · intro u
    simp only [List.take_succ_cons, List.take_zero, List.map_cons, List.map_nil, fillU, List.setIfInBounds_toArray, List.set_cons_zero, List.set_cons_succ, Nat.reduceAdd]
    exact rfl
  · simp only [List.take_succ_cons, List.take_zero]
    refine ⟨fun u W hb hd K hK => ?_, ?_⟩
    · clear hd
      rw [if_pos (by rfl)]
      refine wp_load_mid 24 (.tmp 1) rfl g1 0 rfl (ptC X Y) _ (rangeAt_of_blk (bg1.below hb lg1)) Tryd.underlying24 rfl (infoPt.trans (by rw [ptC_length (hX).out (hY).out])) ?_
      exact hK _ _ _ rfl (Below.refl _ _) IsOut
    refine ⟨fun u W hb hd K hK => ?_, ?_⟩
    · clear hd
      rw [if_pos (by rfl)]
      refine wp_builtV 24 _ rfl [] rfl (ptV none).toArray builtZ ?_
      exact hK _ _ _ rfl (Below.refl _ _) IsOut
    refine ⟨fun u W hb hd K hK => ?_, ?_⟩
    · simp only [Facts, nthR, Is, and_true] at hd
      simp only [hd] at hK ⊢
      clear hd
      rw [if_pos (by rfl)]
      refine wp_eqlA rfl rfl rfl guardPt (show (Op.equalIn 10000 24 (.agg (ptC X Y).toArray) (.agg (ptV none).toArray)).run Tryd.prog W = .ok true W from EqPC hX hY (Lib.hid zero32_length) (Lib.hid zero32_length) he0 W) ?_
      exact hK _ _ (.bool true) rfl (Below.refl _ _) IsOut
    refine ⟨fun u W hb hd K hK => ?_, ?_⟩
    · simp only [Facts, nthR, Is, and_true] at hd
      simp only [hd] at hK ⊢
      clear hd
      go_simp
      apply hK
      · simp only [Act.put, List.setIfInBounds_toArray, List.set_cons_zero, List.set_cons_succ]
        exact rfl
      · exact Below.refl _ _
      · exact IsOut
    refine ⟨fun u W hb hd K hK => ?_, ?_⟩
    · simp only [Facts, nthR, Is, and_true] at hd
      simp only [hd] at hK ⊢
      clear hd
      go_simp
      apply hK
      · simp only [Act.put, List.setIfInBounds_toArray, List.set_cons_zero, List.set_cons_succ]
        exact rfl
      · exact Below.refl _ _
      · exact IsOut
    refine ⟨fun u W hb hd K hK => ?_, ?_⟩
    · simp only [Facts, nthR, Is, and_true] at hd
      simp only [hd] at hK ⊢
      clear hd
      go_simp
      apply hK
      · simp only [Act.put, List.setIfInBounds_toArray, List.set_cons_zero, List.set_cons_succ]
        exact rfl
      · exact Below.refl _ _
      · exact IsOut
    refine ⟨fun u W hb hd K hK => ?_, ?_⟩
    · simp only [Facts, nthR, Is, and_true] at hd
      simp only [hd] at hK ⊢
      clear hd
      go_simp
      apply hK
      · simp only [Act.put, List.setIfInBounds_toArray, List.set_cons_zero, List.set_cons_succ]
        exact rfl
      · exact Below.refl _ _
      · exact IsOut
    refine ⟨fun u W hb hd K hK => ?_, ?_⟩
    · simp only [Facts, nthR, Is, and_true] at hd
      simp only [hd] at hK ⊢
      clear hd
      go_simp
      apply hK
      · simp only [Act.put, List.setIfInBounds_toArray, List.set_cons_zero, List.set_cons_succ]
        exact rfl
      · exact Below.refl _ _
      · exact IsOut
    exact trivial
  · skip
    exact trivial
  · exact (.is (.is (.is (.is (.is (.is (.is (.is .nil))))))))
  · intro u w2 hb hd
    simp only [List.drop_succ_cons, List.drop_zero]
    simp only [Facts, nthR, Is, and_true] at hd
    have h7 := hd
    clear hd
    simp only [h7]
    clear h7
    replace bg1 := bg1.below hb lg1
    replace hb0 := hb0.trans (hb.mono hb0.size)
    replace lg1 := bg1.lt
    clear hb
    go_wp2_with (fail)
    refine bodyPost_ret (results_tmp Tryd.results17 _ _ _) rfl ?_
    exact ⟨rfl, hb0⟩
set_option maxRecDepth 100000 in
set_option maxHeartbeats 400000 in
theorem curveOn_0 (X Y : List UInt8) (w : World) (hT : TabsC w) (hX : Hid (X.length = 32)) (hY : Hid (Y.length = 32)) (bH : Bool) (hbH : Hid (holdsB X Y = bH)) (he0 : Hid (eqPtB X Y zero32 zero32 = false)) : Calls Tryd.prog 17 #[.agg (ptC X Y).toArray] w fun e w' => e = .returned (.bool bH) ∧ Below w.heap.size w w' := by
  go_enter Tryd.func17, Tryd.ntmps17
  have hb0 : Below w.heap.size w w := Below.refl _ _
  go_upto_region 0 with (fail)
  refine wp_region_lit ?_
  refine wpList_box_blk rfl 24 (.tmp 0) rfl (ptC X Y) rfl ?_
  intro g1 w1 hg bg1 hb
  have og1 := Lib.hid (show w.heap.size ≤ g1 from Nat.le_trans hb0.size (Nat.le_of_eq hg.symm))
  clear hg
  replace hb0 := hb0.trans (hb.mono hb0.size)
  clear hb
  have lg1 := bg1.lt
  try simp only [Act.put, List.setIfInBounds_toArray, List.set_cons_zero, List.set_cons_succ]
  go_upto_region 1 with (fail)
  apply wp_region_once_tail (m := 8) (Z := []) (D := [[], [], [0, 1], [0, 1, 2], [0, 1, 2, 3], [0, 1, 2, 3], [0, 1, 2, 3, 4, 5], [0, 1, 2, 3, 4, 5, 6], [0, 1, 2, 3, 4, 5, 6, 7]]) (J := [[], [], [0, 1], [2], [3], [3], [3, 4, 5], [3, 6]]) (Je := [7]) (Rs := [Is _, Is _, Is _, Is _, fun v V => ∃ g, v = .agg #[.pointer (some ⟨g, 0, none⟩)] ∧ GrpAt V g, Is _, Is _, Is _])
  · kernel_rfl
  · kernel_rfl
  · kernel_rfl
  · kernel_rfl
  · kernel_rfl
  · kernel_rfl
  · kernel_rfl
  · exact fun h => absurd rfl h
  · intro u
    simp only [List.take_succ_cons, List.take_zero, List.map_cons, List.map_nil, fillU, List.setIfInBounds_toArray, List.set_cons_zero, List.set_cons_succ, Nat.reduceAdd]
    exact rfl
  · simp only [List.take_succ_cons, List.take_zero]
    refine ⟨fun u W hb hd K hK => ?_, ?_⟩
    · clear hd
      rw [if_pos (by rfl)]
      refine wp_load_mid 24 (.tmp 1) rfl g1 0 rfl (ptC X Y) _ (rangeAt_of_blk (bg1.below hb lg1)) Tryd.underlying24 rfl (infoPt.trans (by rw [ptC_length (hX).out (hY).out])) ?_
      exact hK _ _ _ rfl (Below.refl _ _) IsOut
    refine ⟨fun u W hb hd K hK => ?_, ?_⟩
    · clear hd
      rw [if_pos (by rfl)]
      refine wp_builtV 24 _ rfl [] rfl (ptV none).toArray builtZ ?_
      exact hK _ _ _ rfl (Below.refl _ _) IsOut
    refine ⟨fun u W hb hd K hK => ?_, ?_⟩
    · simp only [Facts, nthR, Is, and_true] at hd
      simp only [hd] at hK ⊢
      clear hd
      rw [if_pos (by rfl)]
      refine wp_eqlA rfl rfl rfl guardPt (show (Op.equalIn 10000 24 (.agg (ptC X Y).toArray) (.agg (ptV none).toArray)).run Tryd.prog W = .ok false W from EqPC hX hY (Lib.hid zero32_length) (Lib.hid zero32_length) he0 W) ?_
      exact hK _ _ (.bool false) rfl (Below.refl _ _) IsOut
    refine ⟨fun u W hb hd K hK => ?_, ?_⟩
    · simp only [Facts, nthR, Is, and_true] at hd
      simp only [hd] at hK ⊢
      clear hd
      go_simp
      apply hK
      · simp only [Act.put, List.setIfInBounds_toArray, List.set_cons_zero, List.set_cons_succ]
        exact rfl
      · exact Below.refl _ _
      · exact IsOut
    refine ⟨fun u W hb hd K hK => ?_, ?_⟩
    · simp only [Facts, nthR, Is, and_true] at hd
      simp only [hd] at hK ⊢
      clear hd
      go_simp
      refine (newGroup_k W (hT.up hb0 hb)).mono ?_
      rintro e wy ⟨g, rfl, hgl, hM, hby⟩
      exact hK _ _ _ rfl hby ⟨g, rfl, hM⟩
    refine ⟨fun u W hb hd K hK => ?_, ?_⟩
    · simp only [Facts, nthR, Is, and_true] at hd
      simp only [hd] at hK ⊢
      clear hd
      rw [if_pos (by rfl)]
      refine wp_load_mid 24 (.tmp 1) rfl g1 0 rfl (ptC X Y) _ (rangeAt_of_blk (bg1.below hb lg1)) Tryd.underlying24 rfl (infoPt.trans (by rw [ptC_length (hX).out (hY).out])) ?_
      exact hK _ _ _ rfl (Below.refl _ _) IsOut
    refine ⟨fun u W hb hd K hK => ?_, ?_⟩
    · simp only [Facts, nthR, Is, and_true] at hd
      obtain ⟨h3, ⟨g, h4, hM⟩, h5⟩ := hd
      simp only [h3, h4, h5] at hK ⊢
      go_simp
      refine (HolE hbH hM (hT.up hb0 hb) (hX) (hY)).mono ?_
      rintro e wy ⟨rfl, hby⟩
      exact hK _ _ _ rfl hby IsOut
    refine ⟨fun u W hb hd K hK => ?_, ?_⟩
    · simp only [Facts, nthR, Is, and_true] at hd
      simp only [hd] at hK ⊢
      clear hd
      go_simp
      apply hK
      · simp only [Act.put, List.setIfInBounds_toArray, List.set_cons_zero, List.set_cons_succ]
        exact rfl
      · exact Below.refl _ _
      · exact IsOut
    exact trivial
  · skip
    exact trivial
  · exact (.is (.is (.is (.is (.cons (fun v V V' ⟨g, h1, h2⟩ hb => ⟨g, h1, h2.up hb⟩) (.is (.is (.is .nil))))))))
  · intro u w2 hb hd
    simp only [List.drop_succ_cons, List.drop_zero]
    simp only [Facts, nthR, Is, and_true] at hd
    have h7 := hd
    clear hd
    simp only [h7]
    clear h7
    replace bg1 := bg1.below hb lg1
    replace hb0 := hb0.trans (hb.mono hb0.size)
    replace lg1 := bg1.lt
    clear hb
    go_wp2_with (fail)
    refine bodyPost_ret (results_tmp Tryd.results17 _ _ _) rfl ?_
    exact ⟨rfl, hb0⟩
theorem OnC {X Y : List UInt8} {b : Bool} {w : World} (hT : TabsC w) (hX : Hid (X.length = 32)) (hY : Hid (Y.length = 32)) (h : Hid (onB X Y = b)) : Calls Tryd.prog 17 #[.agg (ptC X Y).toArray] w fun e w' => e = .returned (.bool b) ∧ Below w.heap.size w w' := by
  rw [← h.out]
  unfold onB
  cases h0 : eqPtB X Y zero32 zero32 with
  | true => exact curveOn_1 X Y w hT hX hY (Lib.hid h0)
  | false => exact curveOn_0 X Y w hT hX hY _ (Lib.hid rfl) (Lib.hid h0)
theorem OnP {P : Pt} {m : Nat} {w : World} (hT : TabsC w) (hP : Hid (P = mulG m)) : Calls Tryd.prog 17 #[.agg (ptV P).toArray] w fun e w' => e = .returned (.bool true) ∧ Below w.heap.size w w' := by
  rw [ptV_eq]
  exact OnC hT (Lib.hid (xB_length P)) (Lib.hid (yB_length P)) (Lib.hid (onB_pt (on_of hP).out))
theorem wrap_small {n : Nat} (h : n < 65536) : IntKind.u64.wrap (n : Int) = (n : Int) := by rw [IntKind.wrap_u64]; omega
set_option maxRecDepth 100000 in
set_option maxHeartbeats 400000 in
theorem SmallE {n : Nat} {B : List UInt8} (hn : n < 65536) (hBQ : Hid (B = bsTo ⟨n, 0, 0, 0⟩ 32)) (w : World) : Calls Tryd.prog 21 #[.int .i64 (n : Int)] w fun e w' => e = .returned (.agg (B.map B8).toArray) ∧ Below w.heap.size w w' := by
  go_enter Tryd.func21, Tryd.ntmps21
  have hb0 : Below w.heap.size w w := Below.refl _ _
  go_upto_region 0 with (fail)
  refine wp_region_lit ?_
  refine wpList_new_blk rfl 22 rfl (zero32.map B8) zeroB32 ?_
  intro g2 w1 hg bg2 hb
  have og2 := Lib.hid (show w.heap.size ≤ g2 from Nat.le_trans hb0.size (Nat.le_of_eq hg.symm))
  clear hg
  replace hb0 := hb0.trans (hb.mono hb0.size)
  clear hb
  have lg2 := bg2.lt
  try simp only [Act.put, List.setIfInBounds_toArray, List.set_cons_zero, List.set_cons_succ]
  go_upto_region 1 with (fail)
  obtain ⟨B6, hB6⟩ : ∃ s : List UInt8, Hid (bsTo (⟨n, 0, 0, 0⟩) 32 = s) := ⟨_, Lib.hid rfl⟩
  apply wp_plain_once (m := 4) (J := [[], [0], [1], [2]]) (Je := [3]) (Rs := [Is _, Is _, Is _, Is _])
  · kernel_rfl
  · kernel_rfl
  · intro u
    simp only [List.take_succ_cons, List.take_zero, List.map_cons, List.map_nil, fillU, List.setIfInBounds_toArray, List.set_cons_zero, List.set_cons_succ, Nat.reduceAdd]
    exact rfl
  · simp only [List.take_succ_cons, List.take_zero]
    refine ⟨fun u W hb hd K hK => ?_, ?_⟩
    · clear hd
      go_simp
      apply hK
      · simp only [Act.put, List.setIfInBounds_toArray, List.set_cons_zero, List.set_cons_succ]
        exact rfl
      · exact Below.refl _ _
      · exact IsOut
    refine ⟨fun u W hb hd K hK => ?_, ?_⟩
    · simp only [Facts, nthR, Is, and_true] at hd
      simp only [hd] at hK ⊢
      clear hd
      have hw : IntKind.u64.wrap (n : Int) = (n : Int) := wrap_small hn
      go_simp
      apply hK
      · simp only [Act.put, List.setIfInBounds_toArray, List.set_cons_zero, List.set_cons_succ]
        exact rfl
      · exact Below.refl _ _
      · exact IsOut
    refine ⟨fun u W hb hd K hK => ?_, ?_⟩
    · simp only [Facts, nthR, Is, and_true] at hd
      simp only [hd] at hK ⊢
      clear hd
      rw [if_pos (by rfl)]
      refine wp_builtV 29 _ rfl [(0, .int .u64 (n : Int))] rfl (nC ⟨n, 0, 0, 0⟩).toArray (built6_n n) ?_
      exact hK _ _ _ rfl (Below.refl _ _) IsOut
    refine ⟨fun u W hb hd K hK => ?_, ?_⟩
    · simp only [Facts, nthR, Is, and_true] at hd
      simp only [hd] at hK ⊢
      clear hd
      go_simp
      refine (RBytes hB6 _).mono ?_
      rintro e wy ⟨rfl, hby⟩
      exact hK _ _ _ rfl hby IsOut
    exact trivial
  · exact (.is (.is (.is (.is .nil))))
  · intro u w2 hb hd
    simp only [List.drop_succ_cons, List.drop_zero]
    simp only [Facts, nthR, Is, and_true] at hd
    have h3 := hd
    clear hd
    simp only [h3]
    clear h3
    replace bg2 := bg2.below hb lg2
    replace hb0 := hb0.trans (hb.mono hb0.size)
    replace lg2 := bg2.lt
    clear hb
    refine wpList_store_blk rfl 22 (.tmp 2) (.tmp 6) rfl rfl g2 (B6.map B8) rfl rfl _ _ bg2 (info40.trans (by rw [List.length_map, (bytes_len hB6).out])) (by first | with_reducible rfl | rw [List.length_map, ((Lib.hid (by decide) : Hid (zero32.length = 32))).out, List.length_map, (bytes_len hB6).out] | rw [List.length_map, ((Lib.hid (by decide) : Hid (zero32.length = 32))).out]) (one8 _) ?_
    intro w3 bn hgs
    replace hb0 := below_new hb0 hgs og2.out hb0.size
    clear hgs bg2
    have bg2 := bn
    clear bn
    replace lg2 := bg2.lt
    try simp only [Act.put]
    go_wp2_with (fail)
    refine bodyPost_ret (v := .agg _) (results_cell_row rfl _ _ g2 22 _ (0, 0) _ rfl bg2.raw Tryd.underlying22 rfl (info40.trans (by rw [List.size_toArray, List.length_map, (bytes_len hB6).out]))) rfl ?_
    exact ⟨by rw [hBQ.out, ← hB6.out], hb0⟩
set_option maxRecDepth 100000 in
set_option maxHeartbeats 400000 in
theorem OfE {B : List UInt8} {R : Pt} {n : Nat} {w : World} (hT : TabsC w) (hB : Hid (B.length = 32)) (hn : Hid ((ofTo B 32).val = n)) (hR : Hid (R = mulG n)) : Calls Tryd.prog 20 #[.agg (B.map B8).toArray] w fun e w' => e = .returned (.agg (ptV R).toArray) ∧ Below w.heap.size w w' := by
  go_enter Tryd.func20, Tryd.ntmps20
  have hb0 : Below w.heap.size w w := Below.refl _ _
  go_upto_region 0 with (fail)
  refine wp_region_lit ?_
  refine wpList_box_blk rfl 22 (.tmp 0) rfl (B.map B8) rfl ?_
  intro g1 w1 hg bg1 hb
  have og1 := Lib.hid (show w.heap.size ≤ g1 from Nat.le_trans hb0.size (Nat.le_of_eq hg.symm))
  clear hg
  replace hb0 := hb0.trans (hb.mono hb0.size)
  clear hb
  have lg1 := bg1.lt
  try simp only [Act.put, List.setIfInBounds_toArray, List.set_cons_zero, List.set_cons_succ]
  refine wpList_new_blk rfl 24 rfl (ptV none) zeroPt ?_
  intro g2 w2 hg bg2 hb
  have og2 := Lib.hid (show w.heap.size ≤ g2 ∧ g1 < g2 from ⟨Nat.le_trans hb0.size (Nat.le_of_eq hg.symm), Nat.lt_of_lt_of_le lg1 (Nat.le_of_eq hg.symm)⟩)
  clear hg
  replace bg1 := bg1.below hb lg1
  replace hb0 := hb0.trans (hb.mono hb0.size)
  replace lg1 := bg1.lt
  clear hb
  have lg2 := bg2.lt
  try simp only [Act.put, List.setIfInBounds_toArray, List.set_cons_zero, List.set_cons_succ]
  go_upto_region 1 with (fail)
  obtain ⟨p4, hp4⟩ : ∃ s : Pt, Hid (s = mulG (1)) := ⟨_, Lib.hid rfl⟩
  obtain ⟨p5, hp5⟩ : ∃ s : Pt, Hid (s = mulG (n * 1)) := ⟨_, Lib.hid rfl⟩
  apply wp_region_once_tail (m := 3) (Z := []) (D := [[], [], [0, 1], [0, 1, 2]]) (J := [[], [], [0, 1]]) (Je := [2]) (Rs := [Is _, Is _, Is _])
  · kernel_rfl
  · kernel_rfl
  · kernel_rfl
  · kernel_rfl
  · kernel_rfl
  · kernel_rfl
  · kernel_rfl
  · exact fun h => absurd rfl h
  · intro u
    simp only [List.take_succ_cons, List.take_zero, List.map_cons, List.map_nil, fillU, List.setIfInBounds_toArray, List.set_cons_zero, List.set_cons_succ, Nat.reduceAdd]
    exact rfl
  · simp only [List.take_succ_cons, List.take_zero]
    refine ⟨fun u W hb hd K hK => ?_, ?_⟩
    · clear hd
      rw [if_pos (by rfl)]
      refine wp_load_mid 22 (.tmp 1) rfl g1 0 rfl (B.map B8) _ (rangeAt_of_blk (bg1.below hb lg1)) Tryd.underlying22 rfl (info40.trans (by rw [List.length_map, (hB).out])) ?_
      exact hK _ _ _ rfl (Below.refl _ _) IsOut
    refine ⟨fun u W hb hd K hK => ?_, ?_⟩
    · clear hd
      go_simp
      refine (BaseP (hT.up hb0 hb) hp4).mono ?_
      rintro e wy ⟨rfl, hby⟩
      exact hK _ _ _ rfl hby IsOut
    refine ⟨fun u W hb hd K hK => ?_, ?_⟩
    · simp only [Facts, nthR, Is, and_true] at hd
      simp only [hd] at hK ⊢
      clear hd
      go_simp
      refine (TimesP (hT.up hb0 hb) (hB) (hn) (hp4) hp5).mono ?_
      rintro e wy ⟨rfl, hby⟩
      exact hK _ _ _ rfl hby IsOut
    exact trivial
  · skip
    exact trivial
  · exact (.is (.is (.is .nil)))
  · intro u w3 hb hd
    simp only [List.drop_succ_cons, List.drop_zero]
    simp only [Facts, nthR, Is, and_true] at hd
    have h2 := hd
    clear hd
    simp only [h2]
    clear h2
    replace bg1 := bg1.below hb lg1
    replace bg2 := bg2.below hb lg2
    replace hb0 := hb0.trans (hb.mono hb0.size)
    replace lg1 := bg1.lt
    replace lg2 := bg2.lt
    clear hb
    refine wpList_store_blk rfl 24 (.tmp 2) (.tmp 5) rfl rfl g2 (ptV p5) rfl rfl _ _ bg2 (infoPt.trans (by rw [ptV_length])) (by first | with_reducible rfl | rw [ptV_length, ptV_length] | rw [ptV_length]) (onePv _) ?_
    intro w4 bn hgs
    replace bg1 := bg1.grown hgs (fun e => Nat.ne_of_lt og2.out.2 (Option.some.inj e))
    replace hb0 := below_new hb0 hgs og2.out.1 hb0.size
    clear hgs bg2
    have bg2 := bn
    clear bn
    replace lg1 := bg1.lt
    replace lg2 := bg2.lt
    try simp only [Act.put]
    go_wp2_with (fail)
    refine bodyPost_ret (v := .agg _) (results_cell_row rfl _ _ g2 24 _ (0, 0) _ rfl bg2.raw Tryd.underlying24 rfl (infoPt.trans (by rw [List.size_toArray, ptV_length]))) rfl ?_
    exact ⟨by rw [hR.out, hp5.out, Nat.mul_one], hb0⟩
theorem two_x : (kB (Fin.ofNat pN twoX)).getD 0 0 = 124 ∧ (kB (Fin.ofNat pN twoX)).getD 31 0 = 120 := by decide +kernel
theorem two_blk {P : Pt} {w : World} {g : Nat} (h : Hid (P = mulG (2 * 1))) (hb : Blk w g 24 (ptV P)) : ∃ y, Blk w g 24 (ptC (kB (Fin.ofNat pN twoX)) y) := ⟨kB (Fin.ofNat pN twoY), by
  rw [h.out, Nat.mul_one, mulG_two] at hb
  exact hb⟩
theorem two_first {P : Pt} {w : World} {g : Nat} (h : Hid (P = mulG (2 * 1))) (hb : Blk w g 24 (ptV P)) : w.cell? ⟨g, 0, none⟩ = some (.int .u8 124) := by
  obtain ⟨y, hb⟩ := two_blk h hb
  rw [hb.cell 0]
  unfold ptC
  rw [List.getElem?_append_left (by rw [List.length_map, kB_length]; decide), getD_map8 _ _ (by rw [kB_length]; decide), two_x.1]
  rfl
theorem two_last {P : Pt} {w : World} {g : Nat} (h : Hid (P = mulG (2 * 1))) (hb : Blk w g 24 (ptV P)) : w.cell? ⟨g, 31, none⟩ = some (.int .u8 120) := by
  obtain ⟨y, hb⟩ := two_blk h hb
  rw [hb.cell 31]
  unfold ptC
  rw [List.getElem?_append_left (by rw [List.length_map, kB_length]; decide), getD_map8 _ _ (by rw [kB_length]; decide), two_x.2]
  rfl
set_option maxRecDepth 100000 in
set_option maxHeartbeats 400000 in
theorem CurvesE {w : World} (hT : TabsC w) : Calls Tryd.prog 11 #[] w fun e w' => e = .returned (.bool true) ∧ Below w.heap.size w w' := by
  go_enter Tryd.func11, Tryd.ntmps11
  have hb0 : Below w.heap.size w w := Below.refl _ _
  go_upto_region 0 with (fail)
  refine wp_region_lit ?_
  go_upto_region 1 with (fail)
  obtain ⟨B2, hB2⟩ : ∃ s : List UInt8, Hid (s = bsTo ⟨2, 0, 0, 0⟩ 32) := ⟨_, Lib.hid rfl⟩
  obtain ⟨p3, hp3⟩ : ∃ s : Pt, Hid (s = mulG (1)) := ⟨_, Lib.hid rfl⟩
  obtain ⟨p4, hp4⟩ : ∃ s : Pt, Hid (s = mulG (2 * 1)) := ⟨_, Lib.hid rfl⟩
  apply wp_plain_once (m := 3) (J := [[], [], [0, 1]]) (Je := [2]) (Rs := [Is _, Is _, Is _])
  · kernel_rfl
  · kernel_rfl
  · intro u
    simp only [List.take_succ_cons, List.take_zero, List.map_cons, List.map_nil, fillU, List.setIfInBounds_toArray, List.set_cons_zero, List.set_cons_succ, Nat.reduceAdd]
    exact rfl
  · simp only [List.take_succ_cons, List.take_zero]
    refine ⟨fun u W hb hd K hK => ?_, ?_⟩
    · clear hd
      go_simp
      refine (SmallE (by decide) hB2 _).mono ?_
      rintro e wy ⟨rfl, hby⟩
      exact hK _ _ _ rfl hby IsOut
    refine ⟨fun u W hb hd K hK => ?_, ?_⟩
    · clear hd
      go_simp
      refine (BaseP (hT.up hb0 hb) hp3).mono ?_
      rintro e wy ⟨rfl, hby⟩
      exact hK _ _ _ rfl hby IsOut
    refine ⟨fun u W hb hd K hK => ?_, ?_⟩
    · simp only [Facts, nthR, Is, and_true] at hd
      simp only [hd] at hK ⊢
      clear hd
      go_simp
      refine (TimesP (hT.up hb0 hb) (small_len hB2) (small_val (by decide) hB2) (hp3) hp4).mono ?_
      rintro e wy ⟨rfl, hby⟩
      exact hK _ _ _ rfl hby IsOut
    exact trivial
  · exact (.is (.is (.is .nil)))
  · intro u w1 hb hd
    simp only [List.drop_succ_cons, List.drop_zero]
    simp only [Facts, nthR, Is, and_true] at hd
    have h2 := hd
    clear hd
    simp only [h2]
    clear h2
    replace hb0 := hb0.trans (hb.mono hb0.size)
    clear hb
    refine wpList_new_blk rfl 24 rfl (ptV none) zeroPt ?_
    intro g1 w2 hg bg1 hb
    have og1 := Lib.hid (show w.heap.size ≤ g1 from Nat.le_trans hb0.size (Nat.le_of_eq hg.symm))
    clear hg
    replace hb0 := hb0.trans (hb.mono hb0.size)
    clear hb
    have lg1 := bg1.lt
    try simp only [Act.put, List.setIfInBounds_toArray, List.set_cons_zero, List.set_cons_succ]
    refine wpList_store_blk rfl 24 (.tmp 1) (.tmp 4) rfl rfl g1 (ptV p4) rfl rfl _ _ bg1 (infoPt.trans (by rw [ptV_length])) (by first | with_reducible rfl | rw [ptV_length, ptV_length] | rw [ptV_length]) (onePv _) ?_
    intro w3 bn hgs
    replace hb0 := below_new hb0 hgs og1.out hb0.size
    clear hgs bg1
    have bg1 := bn
    clear bn
    replace lg1 := bg1.lt
    try simp only [Act.put]
    go_upto_region 2 with (fail)
    obtain ⟨p17, hp17⟩ : ∃ s : Pt, Hid (s = mulG (1)) := ⟨_, Lib.hid rfl⟩
    obtain ⟨p18, hp18⟩ : ∃ s : Pt, Hid (s = mulG (nN * 1)) := ⟨_, Lib.hid rfl⟩
    apply wp_plain_once (m := 17) (J := [[], [0], [1], [2], [3], [4], [4, 5], [4, 6], [4, 7], [4, 8], [9], [10], [10], [10, 11, 12], [10], [10, 13, 14], [10, 15]]) (Je := [16]) (Rs := [Is _, Is _, Is _, Is _, Is _, Is _, Is _, Is _, Is _, Is _, Is _, Is _, Is _, Is _, Is _, Is _, Is _])
    · kernel_rfl
    · kernel_rfl
    · intro u
      simp only [List.take_succ_cons, List.take_zero, List.map_cons, List.map_nil, fillU, List.setIfInBounds_toArray, List.set_cons_zero, List.set_cons_succ, Nat.reduceAdd]
      exact rfl
    · simp only [List.take_succ_cons, List.take_zero]
      refine ⟨fun u W hb hd K hK => ?_, ?_⟩
      · clear hd
        go_simp
        apply hK
        · simp only [Act.put, List.setIfInBounds_toArray, List.set_cons_zero, List.set_cons_succ]
          exact rfl
        · exact Below.refl _ _
        · exact IsOut
      refine ⟨fun u W hb hd K hK => ?_, ?_⟩
      · simp only [Facts, nthR, Is, and_true] at hd
        simp only [hd] at hK ⊢
        clear hd
        go_simp
        apply hK
        · simp only [Act.put, List.setIfInBounds_toArray, List.set_cons_zero, List.set_cons_succ]
          exact rfl
        · exact Below.refl _ _
        · exact IsOut
      refine ⟨fun u W hb hd K hK => ?_, ?_⟩
      · simp only [Facts, nthR, Is, and_true] at hd
        simp only [hd] at hK ⊢
        clear hd
        have hc := two_first hp4 (bg1.below hb lg1)
        go_simp
        apply hK
        · simp only [Act.put, List.setIfInBounds_toArray, List.set_cons_zero, List.set_cons_succ]
          exact rfl
        · exact Below.refl _ _
        · exact IsOut
      refine ⟨fun u W hb hd K hK => ?_, ?_⟩
      · simp only [Facts, nthR, Is, and_true] at hd
        simp only [hd] at hK ⊢
        clear hd
        go_simp
        apply hK
        · simp only [Act.put, List.setIfInBounds_toArray, List.set_cons_zero, List.set_cons_succ]
          exact rfl
        · exact Below.refl _ _
        · exact IsOut
      refine ⟨fun u W hb hd K hK => ?_, ?_⟩
      · simp only [Facts, nthR, Is, and_true] at hd
        simp only [hd] at hK ⊢
        clear hd
        go_simp
        apply hK
        · simp only [Act.put, List.setIfInBounds_toArray, List.set_cons_zero, List.set_cons_succ]
          exact rfl
        · exact Below.refl _ _
        · exact IsOut
      refine ⟨fun u W hb hd K hK => ?_, ?_⟩
      · simp only [Facts, nthR, Is, and_true] at hd
        simp only [hd] at hK ⊢
        clear hd
        go_simp
        apply hK
        · simp only [Act.put, List.setIfInBounds_toArray, List.set_cons_zero, List.set_cons_succ]
          exact rfl
        · exact Below.refl _ _
        · exact IsOut
      refine ⟨fun u W hb hd K hK => ?_, ?_⟩
      · simp only [Facts, nthR, Is, and_true] at hd
        simp only [hd] at hK ⊢
        clear hd
        go_simp
        apply hK
        · simp only [Act.put, List.setIfInBounds_toArray, List.set_cons_zero, List.set_cons_succ]
          exact rfl
        · exact Below.refl _ _
        · exact IsOut
      refine ⟨fun u W hb hd K hK => ?_, ?_⟩
      · simp only [Facts, nthR, Is, and_true] at hd
        simp only [hd] at hK ⊢
        clear hd
        have hc := two_last hp4 (bg1.below hb lg1)
        go_simp
        apply hK
        · simp only [Act.put, List.setIfInBounds_toArray, List.set_cons_zero, List.set_cons_succ]
          exact rfl
        · exact Below.refl _ _
        · exact IsOut
      refine ⟨fun u W hb hd K hK => ?_, ?_⟩
      · simp only [Facts, nthR, Is, and_true] at hd
        simp only [hd] at hK ⊢
        clear hd
        go_simp
        apply hK
        · simp only [Act.put, List.setIfInBounds_toArray, List.set_cons_zero, List.set_cons_succ]
          exact rfl
        · exact Below.refl _ _
        · exact IsOut
      refine ⟨fun u W hb hd K hK => ?_, ?_⟩
      · simp only [Facts, nthR, Is, and_true] at hd
        simp only [hd] at hK ⊢
        clear hd
        go_simp
        apply hK
        · simp only [Act.put, List.setIfInBounds_toArray, List.set_cons_zero, List.set_cons_succ]
          exact rfl
        · exact Below.refl _ _
        · exact IsOut
      refine ⟨fun u W hb hd K hK => ?_, ?_⟩
      · simp only [Facts, nthR, Is, and_true] at hd
        simp only [hd] at hK ⊢
        clear hd
        go_simp
        apply hK
        · simp only [Act.put, List.setIfInBounds_toArray, List.set_cons_zero, List.set_cons_succ]
          exact rfl
        · exact Below.refl _ _
        · exact IsOut
      refine ⟨fun u W hb hd K hK => ?_, ?_⟩
      · simp only [Facts, nthR, Is, and_true] at hd
        simp only [hd] at hK ⊢
        clear hd
        go_simp
        refine (OrderE (hT.up hb0 hb) (Lib.hid rfl)).mono ?_
        rintro e wy ⟨rfl, hby⟩
        exact hK _ _ _ rfl hby IsOut
      refine ⟨fun u W hb hd K hK => ?_, ?_⟩
      · simp only [Facts, nthR, Is, and_true] at hd
        simp only [hd] at hK ⊢
        clear hd
        go_simp
        refine (BaseP (hT.up hb0 hb) hp17).mono ?_
        rintro e wy ⟨rfl, hby⟩
        exact hK _ _ _ rfl hby IsOut
      refine ⟨fun u W hb hd K hK => ?_, ?_⟩
      · simp only [Facts, nthR, Is, and_true] at hd
        simp only [hd] at hK ⊢
        clear hd
        go_simp
        refine (TimesP (hT.up hb0 hb) (Lib.hid orderB_length) (orderB_val) (hp17) hp18).mono ?_
        rintro e wy ⟨rfl, hby⟩
        exact hK _ _ _ rfl hby IsOut
      refine ⟨fun u W hb hd K hK => ?_, ?_⟩
      · simp only [Facts, nthR, Is, and_true] at hd
        simp only [hd] at hK ⊢
        clear hd
        rw [if_pos (by rfl)]
        refine wp_builtV 24 _ rfl [] rfl (ptV none).toArray builtZ ?_
        exact hK _ _ _ rfl (Below.refl _ _) IsOut
      refine ⟨fun u W hb hd K hK => ?_, ?_⟩
      · simp only [Facts, nthR, Is, and_true] at hd
        simp only [hd] at hK ⊢
        clear hd
        rw [if_pos (by rfl)]
        refine wp_eqlA rfl rfl rfl guardPt (show (Op.equalIn 10000 24 (.agg (ptV p18).toArray) (.agg (ptV none).toArray)).run Tryd.prog W = .ok true W from EqP (on_of hp18) (on_of (Lib.hid rfl : Hid ((none : Pt) = mulG 0))) (Lib.hid (decide_eq_true (by rw [hp18.out, Nat.mul_one]; exact mulG_order))) W) ?_
        exact hK _ _ (.bool true) rfl (Below.refl _ _) IsOut
      refine ⟨fun u W hb hd K hK => ?_, ?_⟩
      · simp only [Facts, nthR, Is, and_true] at hd
        simp only [hd] at hK ⊢
        clear hd
        go_simp
        apply hK
        · simp only [Act.put, List.setIfInBounds_toArray, List.set_cons_zero, List.set_cons_succ]
          exact rfl
        · exact Below.refl _ _
        · exact IsOut
      exact trivial
    · exact (.is (.is (.is (.is (.is (.is (.is (.is (.is (.is (.is (.is (.is (.is (.is (.is (.is .nil)))))))))))))))))
    · intro u w4 hb hd
      simp only [List.drop_succ_cons, List.drop_zero]
      simp only [Facts, nthR, Is, and_true] at hd
      have h16 := hd
      clear hd
      simp only [h16]
      clear h16
      replace bg1 := bg1.below hb lg1
      replace hb0 := hb0.trans (hb.mono hb0.size)
      replace lg1 := bg1.lt
      clear hb
      go_wp2_with (fail)
      refine bodyPost_ret (results_tmp Tryd.results11 _ _ _) rfl ?_
      exact ⟨rfl, hb0⟩
end Go.Proofs.YtnkikhnllnbhfaaDoor
