/-
  The document's numbers over the field; its P, N, B, X, Y and On.
-/
import Derived.Test.YtnkikhnllnbhfaaDoorCp
import Derived.Test.YtnkikhnllnbhfaaDoorCr1
namespace Go.Proofs.YtnkikhnllnbhfaaDoor
open Go.RowKit
open CurveMath

def Maybe (c p : Bool) (x : Value) : Value → World → Prop := fun v _ => c = p → v = x
theorem infoN6 : (Tryd.prog.info? 29).map (·.size) = some 4 := by kernel_rfl
theorem wp_builtV {o : Oper} {a : Act} {w : World} {K : Act → World → Prop} {Q : Exit → Act → World → Prop} (t : TypeId) (parts : Array (Nat × Operand)) (ho : o.op = .build t parts) (vs : List (Nat × Value)) (hv : (parts.toList.map fun (i, x) => (i, a.eval x)) = vs) (cells : Array Value) (hc : Tryd.prog.built t vs = some cells) (h : K (a.put o.dst (.agg cells)) w) : o.wp Tryd.prog a w K Q := by
  have hc' : Tryd.prog.built t (parts.map fun (i, x) => (i, a.eval x)).toList = some cells := by rw [Array.toList_map, hv]; exact hc
  exact wp_build t _ ho (by rw [hc']; rfl) (by rw [hc']; exact h)
theorem built6_0 : Tryd.prog.built 29 [] = some (nC zeroP).toArray := by kernel_rfl
theorem built6_1 : Tryd.prog.built 29 [(0, .int .u64 1)] = some (kC 1).toArray := by kernel_rfl
theorem built6_2 : Tryd.prog.built 29 [(0, .int .u64 2)] = some (kC 2).toArray := by kernel_rfl
theorem built6_3 : Tryd.prog.built 29 [(0, .int .u64 3)] = some (kC 3).toArray := by kernel_rfl
theorem built6_primeP : Tryd.prog.built 29 [(0, .int .u64 18446744073709551615), (1, .int .u64 4294967295), (2, .int .u64 0), (3, .int .u64 18446744069414584321)] = some (nC primeP).toArray := by kernel_rfl
theorem built6_orderP : Tryd.prog.built 29 [(0, .int .u64 17562291160714782033), (1, .int .u64 13611842547513532036), (2, .int .u64 18446744073709551615), (3, .int .u64 18446744069414584320)] = some (nC orderP).toArray := by kernel_rfl
theorem built6_bK : Tryd.prog.built 29 [(0, .int .u64 4309448131093880907), (1, .int .u64 7285987128567378166), (2, .int .u64 12964664127075681980), (3, .int .u64 6540974713487397863)] = some (kC bK).toArray := by kernel_rfl
theorem built6_gx : Tryd.prog.built 29 [(0, .int .u64 17627433388654248598), (1, .int .u64 8575836109218198432), (2, .int .u64 17923454489921339634), (3, .int .u64 7716867327612699207)] = some (kC gx).toArray := by kernel_rfl
theorem built6_gy : Tryd.prog.built 29 [(0, .int .u64 14678990851816772085), (1, .int .u64 3156516839386865358), (2, .int .u64 10297457778147434006), (3, .int .u64 5756518291402817435)] = some (kC gy).toArray := by kernel_rfl
theorem EqN6 {x y : P4} {b : Bool} (h : Hid (eqP x y = b)) (w : World) : (Op.equalIn 10000 29 (.agg (nC x).toArray) (.agg (nC y).toArray)).run Tryd.prog w = .ok b w := by rw [← h.out]; exact eq23 x y w
theorem EqK6 {x y : K} {b : Bool} (h : Hid (decide (x = y) = b)) (w : World) : (Op.equalIn 10000 29 (.agg (kC x).toArray) (.agg (kC y).toArray)).run Tryd.prog w = .ok b w := by
  refine EqN6 (Lib.hid ?_) w
  rw [← h.out, Bool.eq_iff_iff, eqP_eq, decide_eq_true_iff]
  exact ⟨pK_inj, fun h => by rw [h]⟩
theorem zeroK4 : nC zeroP = kC 0 := by kernel_rfl
theorem RLess {x y : P4} {b : Bool} (hx : Hid x.ok) (hy : Hid y.ok) (h : Hid (lessP x y = b)) (w : World) : Calls Tryd.prog 37 #[.agg (nC x).toArray, .agg (nC y).toArray] w fun e w' => e = .returned (.bool b) ∧ Below w.heap.size w w' := by
  rw [← h.out]
  exact rLess_any x y w hx.out hy.out
theorem ROf {B : List UInt8} {n : P4} (hn : Hid (ofTo B 32 = n)) (hB : Hid (B.length = 32)) (w : World) : Calls Tryd.prog 19 #[.agg (B.map B8).toArray] w fun e w' => e = .returned (.agg (nC n).toArray) ∧ Below w.heap.size w w' := by
  rw [← hn.out]
  exact rOf_any B w hB.out
theorem RBytes {B : List UInt8} {n : P4} (hn : Hid (bsTo n 32 = B)) (w : World) : Calls Tryd.prog 12 #[.agg (nC n).toArray] w fun e w' => e = .returned (.agg (B.map B8).toArray) ∧ Below w.heap.size w w' := by
  rw [← hn.out]
  exact rBytes_any n w
theorem RMulK {a b r : K} (h : Hid (r = a * b)) (w : World) : Calls Tryd.prog 38 #[.agg (kC a).toArray, .agg (kC b).toArray, .agg (nC primeP).toArray] w fun e w' => e = .returned (.agg (kC r).toArray) ∧ Below w.heap.size w w' := by
  rw [h.out]
  have k := rMul_any (pK a) (pK b) primeP w (pK_ok a) (pK_ok b) primeP_ok (by decide)
  rw [pK_mul] at k
  exact k
theorem RAddK {a b r : K} (h : Hid (r = a + b)) (w : World) : Calls Tryd.prog 26 #[.agg (kC a).toArray, .agg (kC b).toArray, .agg (nC primeP).toArray] w fun e w' => e = .returned (.agg (kC r).toArray) ∧ Below w.heap.size w w' := by
  rw [h.out]
  have k := rAdd_any (pK a) (pK b) primeP w (pK_ok a) (pK_ok b) primeP_ok (by decide)
  rw [pK_add] at k
  exact k
theorem RSubK {a b r : K} (h : Hid (r = a - b)) (w : World) : Calls Tryd.prog 23 #[.agg (kC a).toArray, .agg (kC b).toArray, .agg (nC primeP).toArray] w fun e w' => e = .returned (.agg (kC r).toArray) ∧ Below w.heap.size w w' := by
  rw [h.out]
  have k := rSub_any (pK a) (pK b) primeP w (pK_ok a) (pK_ok b) primeP_ok (by decide)
  rw [pK_sub] at k
  exact k
set_option maxRecDepth 100000 in
set_option maxHeartbeats 400000 in
theorem rP (w : World) : Calls Tryd.prog 33 #[] w fun e w' => e = .returned (.agg (nC primeP).toArray) ∧ Below w.heap.size w w' := by
  go_enter Tryd.func33, Tryd.ntmps33
  have hb0 : Below w.heap.size w w := Below.refl _ _
  go_upto_region 0 with (fail)
  refine wp_region_lit ?_
  refine wpList_new_blk rfl 29 rfl (nC zeroP) zeroN4 ?_
  intro g0 w1 hg bg0 hb
  have og0 := Lib.hid (show w.heap.size ≤ g0 from Nat.le_trans hb0.size (Nat.le_of_eq hg.symm))
  clear hg
  replace hb0 := hb0.trans (hb.mono hb0.size)
  clear hb
  have lg0 := bg0.lt
  try simp only [Act.put, List.setIfInBounds_toArray, List.set_cons_zero]
  go_upto_region 1 with (fail)
  apply wp_plain_once (m := 1) (J := [[]]) (Je := [0]) (Rs := [Is _])
  · kernel_rfl
  · kernel_rfl
  · intro u
    simp only [List.take_succ_cons, List.take_zero, List.map_cons, List.map_nil, fillU, List.setIfInBounds_toArray, List.set_cons_zero, List.set_cons_succ]
    exact rfl
  · simp only [List.take_succ_cons, List.take_zero]
    refine ⟨fun u W hb hd K hK => ?_, ?_⟩
    · clear hd
      rw [if_pos (by rfl)]
      refine wp_builtV 29 _ rfl [(0, .int .u64 18446744073709551615), (1, .int .u64 4294967295), (2, .int .u64 0), (3, .int .u64 18446744069414584321)] rfl (nC primeP).toArray built6_primeP ?_
      exact hK _ _ _ rfl (Below.refl _ _) IsOut
    exact trivial
  · exact (.is .nil)
  · intro u w2 hb hd
    simp only [List.drop_succ_cons, List.drop_zero]
    simp only [Facts, nthR, Is, and_true] at hd
    have h0 := hd
    clear hd
    simp only [h0]
    clear h0
    replace bg0 := bg0.below hb lg0
    replace hb0 := hb0.trans (hb.mono hb0.size)
    replace lg0 := bg0.lt
    clear hb
    refine wpList_store_blk rfl 29 (.tmp 0) (.tmp 1) rfl rfl g0 (nC primeP) rfl rfl _ _ bg0 (infoN6.trans (by rw [nC_length])) (by rw [nC_length]; with_reducible first | rfl | rw [nC_length]) (one4 _) ?_
    intro w3 bn hgs
    replace hb0 := below_new hb0 hgs og0.out hb0.size
    clear hgs bg0
    have bg0 := bn
    clear bn
    replace lg0 := bg0.lt
    try simp only [Act.put, List.setIfInBounds_toArray, List.set_cons_zero, List.set_cons_succ]
    go_wp2_with (fail)
    refine bodyPost_ret (v := .agg _) (results_cell_row rfl _ _ g0 29 _ (0, 0) _ rfl bg0.raw Tryd.underlying29 rfl (infoN6.trans (by rw [List.size_toArray, nC_length]))) rfl ?_
    exact ⟨rfl, hb0⟩
set_option maxRecDepth 100000 in
set_option maxHeartbeats 400000 in
theorem rN (w : World) : Calls Tryd.prog 16 #[] w fun e w' => e = .returned (.agg (nC orderP).toArray) ∧ Below w.heap.size w w' := by
  go_enter Tryd.func16, Tryd.ntmps16
  have hb0 : Below w.heap.size w w := Below.refl _ _
  go_upto_region 0 with (fail)
  refine wp_region_lit ?_
  refine wpList_new_blk rfl 29 rfl (nC zeroP) zeroN4 ?_
  intro g0 w1 hg bg0 hb
  have og0 := Lib.hid (show w.heap.size ≤ g0 from Nat.le_trans hb0.size (Nat.le_of_eq hg.symm))
  clear hg
  replace hb0 := hb0.trans (hb.mono hb0.size)
  clear hb
  have lg0 := bg0.lt
  try simp only [Act.put, List.setIfInBounds_toArray, List.set_cons_zero]
  go_upto_region 1 with (fail)
  apply wp_plain_once (m := 1) (J := [[]]) (Je := [0]) (Rs := [Is _])
  · kernel_rfl
  · kernel_rfl
  · intro u
    simp only [List.take_succ_cons, List.take_zero, List.map_cons, List.map_nil, fillU, List.setIfInBounds_toArray, List.set_cons_zero, List.set_cons_succ]
    exact rfl
  · simp only [List.take_succ_cons, List.take_zero]
    refine ⟨fun u W hb hd K hK => ?_, ?_⟩
    · clear hd
      rw [if_pos (by rfl)]
      refine wp_builtV 29 _ rfl [(0, .int .u64 17562291160714782033), (1, .int .u64 13611842547513532036), (2, .int .u64 18446744073709551615), (3, .int .u64 18446744069414584320)] rfl (nC orderP).toArray built6_orderP ?_
      exact hK _ _ _ rfl (Below.refl _ _) IsOut
    exact trivial
  · exact (.is .nil)
  · intro u w2 hb hd
    simp only [List.drop_succ_cons, List.drop_zero]
    simp only [Facts, nthR, Is, and_true] at hd
    have h0 := hd
    clear hd
    simp only [h0]
    clear h0
    replace bg0 := bg0.below hb lg0
    replace hb0 := hb0.trans (hb.mono hb0.size)
    replace lg0 := bg0.lt
    clear hb
    refine wpList_store_blk rfl 29 (.tmp 0) (.tmp 1) rfl rfl g0 (nC orderP) rfl rfl _ _ bg0 (infoN6.trans (by rw [nC_length])) (by rw [nC_length]; with_reducible first | rfl | rw [nC_length]) (one4 _) ?_
    intro w3 bn hgs
    replace hb0 := below_new hb0 hgs og0.out hb0.size
    clear hgs bg0
    have bg0 := bn
    clear bn
    replace lg0 := bg0.lt
    try simp only [Act.put, List.setIfInBounds_toArray, List.set_cons_zero, List.set_cons_succ]
    go_wp2_with (fail)
    refine bodyPost_ret (v := .agg _) (results_cell_row rfl _ _ g0 29 _ (0, 0) _ rfl bg0.raw Tryd.underlying29 rfl (infoN6.trans (by rw [List.size_toArray, nC_length]))) rfl ?_
    exact ⟨rfl, hb0⟩
set_option maxRecDepth 100000 in
set_option maxHeartbeats 400000 in
theorem rB (w : World) : Calls Tryd.prog 39 #[] w fun e w' => e = .returned (.agg (kC bK).toArray) ∧ Below w.heap.size w w' := by
  go_enter Tryd.func39, Tryd.ntmps39
  have hb0 : Below w.heap.size w w := Below.refl _ _
  go_upto_region 0 with (fail)
  refine wp_region_lit ?_
  refine wpList_new_blk rfl 29 rfl (nC zeroP) zeroN4 ?_
  intro g0 w1 hg bg0 hb
  have og0 := Lib.hid (show w.heap.size ≤ g0 from Nat.le_trans hb0.size (Nat.le_of_eq hg.symm))
  clear hg
  replace hb0 := hb0.trans (hb.mono hb0.size)
  clear hb
  have lg0 := bg0.lt
  try simp only [Act.put, List.setIfInBounds_toArray, List.set_cons_zero]
  go_upto_region 1 with (fail)
  apply wp_plain_once (m := 1) (J := [[]]) (Je := [0]) (Rs := [Is _])
  · kernel_rfl
  · kernel_rfl
  · intro u
    simp only [List.take_succ_cons, List.take_zero, List.map_cons, List.map_nil, fillU, List.setIfInBounds_toArray, List.set_cons_zero, List.set_cons_succ]
    exact rfl
  · simp only [List.take_succ_cons, List.take_zero]
    refine ⟨fun u W hb hd K hK => ?_, ?_⟩
    · clear hd
      rw [if_pos (by rfl)]
      refine wp_builtV 29 _ rfl [(0, .int .u64 4309448131093880907), (1, .int .u64 7285987128567378166), (2, .int .u64 12964664127075681980), (3, .int .u64 6540974713487397863)] rfl (kC bK).toArray built6_bK ?_
      exact hK _ _ _ rfl (Below.refl _ _) IsOut
    exact trivial
  · exact (.is .nil)
  · intro u w2 hb hd
    simp only [List.drop_succ_cons, List.drop_zero]
    simp only [Facts, nthR, Is, and_true] at hd
    have h0 := hd
    clear hd
    simp only [h0]
    clear h0
    replace bg0 := bg0.below hb lg0
    replace hb0 := hb0.trans (hb.mono hb0.size)
    replace lg0 := bg0.lt
    clear hb
    refine wpList_store_blk rfl 29 (.tmp 0) (.tmp 1) rfl rfl g0 (kC bK) rfl rfl _ _ bg0 (infoN6.trans (by rw [kC_length])) (by rw [nC_length]; with_reducible first | rfl | rw [kC_length]) (oneK4 _) ?_
    intro w3 bn hgs
    replace hb0 := below_new hb0 hgs og0.out hb0.size
    clear hgs bg0
    have bg0 := bn
    clear bn
    replace lg0 := bg0.lt
    try simp only [Act.put, List.setIfInBounds_toArray, List.set_cons_zero, List.set_cons_succ]
    go_wp2_with (fail)
    refine bodyPost_ret (v := .agg _) (results_cell_row rfl _ _ g0 29 _ (0, 0) _ rfl bg0.raw Tryd.underlying29 rfl (infoN6.trans (by rw [List.size_toArray, kC_length]))) rfl ?_
    exact ⟨rfl, hb0⟩
set_option maxRecDepth 100000 in
set_option maxHeartbeats 400000 in
theorem rX (w : World) : Calls Tryd.prog 13 #[] w fun e w' => e = .returned (.agg (kC gx).toArray) ∧ Below w.heap.size w w' := by
  go_enter Tryd.func13, Tryd.ntmps13
  have hb0 : Below w.heap.size w w := Below.refl _ _
  go_upto_region 0 with (fail)
  refine wp_region_lit ?_
  refine wpList_new_blk rfl 29 rfl (nC zeroP) zeroN4 ?_
  intro g0 w1 hg bg0 hb
  have og0 := Lib.hid (show w.heap.size ≤ g0 from Nat.le_trans hb0.size (Nat.le_of_eq hg.symm))
  clear hg
  replace hb0 := hb0.trans (hb.mono hb0.size)
  clear hb
  have lg0 := bg0.lt
  try simp only [Act.put, List.setIfInBounds_toArray, List.set_cons_zero]
  go_upto_region 1 with (fail)
  apply wp_plain_once (m := 1) (J := [[]]) (Je := [0]) (Rs := [Is _])
  · kernel_rfl
  · kernel_rfl
  · intro u
    simp only [List.take_succ_cons, List.take_zero, List.map_cons, List.map_nil, fillU, List.setIfInBounds_toArray, List.set_cons_zero, List.set_cons_succ]
    exact rfl
  · simp only [List.take_succ_cons, List.take_zero]
    refine ⟨fun u W hb hd K hK => ?_, ?_⟩
    · clear hd
      rw [if_pos (by rfl)]
      refine wp_builtV 29 _ rfl [(0, .int .u64 17627433388654248598), (1, .int .u64 8575836109218198432), (2, .int .u64 17923454489921339634), (3, .int .u64 7716867327612699207)] rfl (kC gx).toArray built6_gx ?_
      exact hK _ _ _ rfl (Below.refl _ _) IsOut
    exact trivial
  · exact (.is .nil)
  · intro u w2 hb hd
    simp only [List.drop_succ_cons, List.drop_zero]
    simp only [Facts, nthR, Is, and_true] at hd
    have h0 := hd
    clear hd
    simp only [h0]
    clear h0
    replace bg0 := bg0.below hb lg0
    replace hb0 := hb0.trans (hb.mono hb0.size)
    replace lg0 := bg0.lt
    clear hb
    refine wpList_store_blk rfl 29 (.tmp 0) (.tmp 1) rfl rfl g0 (kC gx) rfl rfl _ _ bg0 (infoN6.trans (by rw [kC_length])) (by rw [nC_length]; with_reducible first | rfl | rw [kC_length]) (oneK4 _) ?_
    intro w3 bn hgs
    replace hb0 := below_new hb0 hgs og0.out hb0.size
    clear hgs bg0
    have bg0 := bn
    clear bn
    replace lg0 := bg0.lt
    try simp only [Act.put, List.setIfInBounds_toArray, List.set_cons_zero, List.set_cons_succ]
    go_wp2_with (fail)
    refine bodyPost_ret (v := .agg _) (results_cell_row rfl _ _ g0 29 _ (0, 0) _ rfl bg0.raw Tryd.underlying29 rfl (infoN6.trans (by rw [List.size_toArray, kC_length]))) rfl ?_
    exact ⟨rfl, hb0⟩
set_option maxRecDepth 100000 in
set_option maxHeartbeats 400000 in
theorem rY (w : World) : Calls Tryd.prog 14 #[] w fun e w' => e = .returned (.agg (kC gy).toArray) ∧ Below w.heap.size w w' := by
  go_enter Tryd.func14, Tryd.ntmps14
  have hb0 : Below w.heap.size w w := Below.refl _ _
  go_upto_region 0 with (fail)
  refine wp_region_lit ?_
  refine wpList_new_blk rfl 29 rfl (nC zeroP) zeroN4 ?_
  intro g0 w1 hg bg0 hb
  have og0 := Lib.hid (show w.heap.size ≤ g0 from Nat.le_trans hb0.size (Nat.le_of_eq hg.symm))
  clear hg
  replace hb0 := hb0.trans (hb.mono hb0.size)
  clear hb
  have lg0 := bg0.lt
  try simp only [Act.put, List.setIfInBounds_toArray, List.set_cons_zero]
  go_upto_region 1 with (fail)
  apply wp_plain_once (m := 1) (J := [[]]) (Je := [0]) (Rs := [Is _])
  · kernel_rfl
  · kernel_rfl
  · intro u
    simp only [List.take_succ_cons, List.take_zero, List.map_cons, List.map_nil, fillU, List.setIfInBounds_toArray, List.set_cons_zero, List.set_cons_succ]
    exact rfl
  · simp only [List.take_succ_cons, List.take_zero]
    refine ⟨fun u W hb hd K hK => ?_, ?_⟩
    · clear hd
      rw [if_pos (by rfl)]
      refine wp_builtV 29 _ rfl [(0, .int .u64 14678990851816772085), (1, .int .u64 3156516839386865358), (2, .int .u64 10297457778147434006), (3, .int .u64 5756518291402817435)] rfl (kC gy).toArray built6_gy ?_
      exact hK _ _ _ rfl (Below.refl _ _) IsOut
    exact trivial
  · exact (.is .nil)
  · intro u w2 hb hd
    simp only [List.drop_succ_cons, List.drop_zero]
    simp only [Facts, nthR, Is, and_true] at hd
    have h0 := hd
    clear hd
    simp only [h0]
    clear h0
    replace bg0 := bg0.below hb lg0
    replace hb0 := hb0.trans (hb.mono hb0.size)
    replace lg0 := bg0.lt
    clear hb
    refine wpList_store_blk rfl 29 (.tmp 0) (.tmp 1) rfl rfl g0 (kC gy) rfl rfl _ _ bg0 (infoN6.trans (by rw [kC_length])) (by rw [nC_length]; with_reducible first | rfl | rw [kC_length]) (oneK4 _) ?_
    intro w3 bn hgs
    replace hb0 := below_new hb0 hgs og0.out hb0.size
    clear hgs bg0
    have bg0 := bn
    clear bn
    replace lg0 := bg0.lt
    try simp only [Act.put, List.setIfInBounds_toArray, List.set_cons_zero, List.set_cons_succ]
    go_wp2_with (fail)
    refine bodyPost_ret (v := .agg _) (results_cell_row rfl _ _ g0 29 _ (0, 0) _ rfl bg0.raw Tryd.underlying29 rfl (infoN6.trans (by rw [List.size_toArray, kC_length]))) rfl ?_
    exact ⟨rfl, hb0⟩
end Go.Proofs.YtnkikhnllnbhfaaDoor
