/-
  Package curve's Public and Shared; the law's func1.
-/
import Derived.Test.YtnkikhnllnbhfaaDoorCsm
import Derived.Test.YtnkikhnllnbhfaaDoorCMn
namespace Go.Proofs.YtnkikhnllnbhfaaDoor
open Go.RowKit
open CurveMath

theorem results_tt {fn : Func} {p q : Tmp} (h : fn.results = #[.tmp p, .tmp q]) (tmps : Array Value) (w : World) (x y : Value) (hp : tmps.getD p undef = x) (hq : tmps.getD q undef = y) : (results fn tmps).run Tryd.prog w = .ok (.tuple #[x, y]) w := by
  have hp' : tmps[p]?.getD undef = x := by simpa using hp
  have hq' : tmps[q]?.getD undef = y := by simpa using hq
  simp [results, h, hp', hq']
theorem results_bt {fn : Func} {p q : Tmp} (h : fn.results = #[.cell p 22, .tmp q]) (tmps : Array Value) (w : World) (g : Nat) (cs : List Value) (hl : cs.length = 32) (e : Value)
    (hp : tmps.getD p undef = .pointer (some ⟨g, 0, none⟩)) (hq : tmps.getD q undef = e) (hg : Blk w g 22 cs) : (results fn tmps).run Tryd.prog w = .ok (.tuple #[.agg cs.toArray, e]) w := by
  have hp' : tmps[p]?.getD undef = .pointer (some ⟨g, 0, none⟩) := by simpa using hp
  have hq' : tmps[q]?.getD undef = e := by simpa using hq
  have h1 := run_loadVar_row (P := Tryd.prog) w g 22 22 cs.toArray (0, 0) _ hg Tryd.underlying22 rfl (info40.trans (by rw [List.size_toArray, hl]))
  simp [results, h, hp', hq', asAddr, h1]
theorem WriteP {P : Pt} {bs : List UInt8} {w : World} (hT : TabsC w) (h : Hid (wrB (xB P) (yB P) = bs)) : Calls Tryd.prog 28 #[.agg (ptV P).toArray] w fun e w' => ∃ A c, e = .returned (.slice A bs.length c) ∧ Buf w' w.heap.size A bs.length c bs ∧ Below w.heap.size w w' := by
  rw [ptV_eq]
  exact WriteC hT (Lib.hid (xB_length P)) (Lib.hid (yB_length P)) h
theorem IsSecE {B : List UInt8} {b : Bool} {w : World} (hT : TabsC w) (hB : Hid (B.length = 32)) (h : Hid (secretB B = b)) : Calls Tryd.prog 49 #[.agg (B.map B8).toArray] w fun e w' => e = .returned (.bool b) ∧ Below w.heap.size w w' := by
  rw [← h.out]
  exact isSecret_k B w hT hB
theorem run_fieldX {X Y : List UInt8} (hX : X.length = 32) (w : World) : (Instr.field 24 (.agg (ptC X Y).toArray) 0).run Tryd.prog w = .ok (.agg (X.map B8).toArray) w := by
  have hd : ((ptC X Y).drop 0).take 32 = X.map B8 := by
    unfold ptC
    rw [List.drop_zero, List.take_append_of_le_length (by rw [List.length_map, hX]; exact Nat.le_refl _), List.take_of_length_le (by rw [List.length_map, hX]; exact Nat.le_refl _)]
  simp only [Instr.field, Sem.run_bind, run_underlying Tryd.underlying24, Result.andThen_ok]
  exact part_at hd w
theorem wp_fieldX {o : Oper} {a : Act} {w : World} {K : Act → World → Prop} {Q : Exit → Act → World → Prop} {x : Operand} (ho : o.op = .field 24 x 0) {P : Pt} (hx : a.eval x = .agg (ptV P).toArray) (hk : K (a.put o.dst (.agg ((xB P).map B8).toArray)) w) : o.wp Tryd.prog a w K Q := by
  rw [ptV_eq] at hx
  unfold Oper.wp execOp
  simp only [ho, hx, Sem.run_bind, run_fieldX (xB_length P), Result.andThen_ok]
  exact hk
/-- What is read of what was written. -/
theorem rd_wr {P : Pt} {x y : K} (hP : onPt P) (e : P = some (x, y)) : okR (wrB (xB P) (yB P)) = true ∧ rdX (wrB (xB P) (yB P)) = xB P ∧ rdY (wrB (xB P) (yB P)) = yB P := by
  have hh : holdsB (xB P) (yB P) = true := by
    subst e
    show holdsB (kB x) (kB y) = true
    rw [holds_kB, decide_eq_true (p := y * y = x * x * x - 3 * x + bK) hP]
  have hx := xB_length P
  have hy := yB_length P
  have ew : wrB (xB P) (yB P) = 4 :: (xB P ++ yB P) := by unfold wrB; rw [if_pos hh]
  have e1 : ((wrB (xB P) (yB P)).drop 1).take 32 = xB P := by
    rw [ew, List.drop_one, List.tail_cons, List.take_append_of_le_length (by omega), List.take_of_length_le (by omega)]
  have e2 : ((wrB (xB P) (yB P)).drop 33).take 32 = yB P := by
    rw [ew, List.drop_succ_cons, List.drop_append_of_le_length (by omega), List.drop_eq_nil_of_le (by omega), List.nil_append, List.take_of_length_le (by omega)]
  have e0 : okR (wrB (xB P) (yB P)) = true := by
    unfold okR
    rw [e1, e2, hh, ew, List.length_cons, List.length_append, hx, hy]
    rfl
  unfold rdX rdY
  rw [e0, if_pos rfl, if_pos rfl, e1, e2]
  exact ⟨rfl, rfl, rfl⟩
theorem secret_of {B : List UInt8} (h : secretB B = true) : 0 < (ofTo B 32).val ∧ (ofTo B 32).val < nN := by
  unfold secretB at h
  rw [Bool.and_eq_true] at h
  have h2 := h.2
  rw [lessP_eq (ofTo_ok _ _) orderP_ok, decide_eq_true_iff, orderP_val] at h2
  refine ⟨?_, h2⟩
  rcases Nat.eq_zero_or_pos (ofTo B 32).val with h0 | h0
  · exfalso
    have e : ofTo B 32 = zeroP := P4.ext_val (ofTo_ok _ _) zeroP_ok h0
    rw [e] at h
    exact absurd h.1 (by decide)
  · exact h0
set_option maxRecDepth 100000 in
set_option maxHeartbeats 400000 in
theorem curvePublic_0 (B : List UInt8) (w : World) (hT : TabsC w) (hB : Hid (B.length = 32)) (hS : Hid (secretB B = false)) : Calls Tryd.prog 30 #[.agg (B.map B8).toArray] w fun e w' => e = .returned (.tuple #[.slice none 0 0, .int .i64 1]) ∧ Below w.heap.size w w' := by
  go_enter Tryd.func30, Tryd.ntmps30
  have hb0 : Below w.heap.size w w := Below.refl _ _
  go_upto_region 0 with (fail)
  refine wp_region_lit ?_
  refine wpList_box_blk rfl 22 (.tmp 0) rfl (B.map B8) rfl ?_
  intro g1 w1 hg bg1 hb
  have og1 := Lib.hid (show w.heap.size ≤ g1 from Nat.le_trans hb0.size (Nat.le_of_eq hg.symm))
  clear hg
  replace hb0 := hb0.trans (hb.mono hb0.size)
  clear hb
  have lg1 := bg1.lt
  try simp only [Act.put, List.setIfInBounds_toArray, List.set_cons_zero, List.set_cons_succ]
  go_upto_region 1 with (fail)
  apply wp_plain_once (m := 3) (J := [[], [0], [1]]) (Je := [2]) (Rs := [Is _, Is _, Is _])
  · kernel_rfl
  · kernel_rfl
  · intro u
    simp only [List.take_succ_cons, List.take_zero, List.map_cons, List.map_nil, fillU, List.setIfInBounds_toArray, List.set_cons_zero, List.set_cons_succ, Nat.reduceAdd]
    exact rfl
  · simp only [List.take_succ_cons, List.take_zero]
    refine ⟨fun u W hb hd K hK => ?_, ?_⟩
    · clear hd
      rw [if_pos (by rfl)]
      refine wp_load_mid 22 (.tmp 1) rfl g1 0 rfl (B.map B8) _ (rangeAt_of_blk (bg1.below hb lg1)) Tryd.underlying22 rfl (info40.trans (by rw [List.length_map, (hB).out])) ?_
      exact hK _ _ _ rfl (Below.refl _ _) IsOut
    refine ⟨fun u W hb hd K hK => ?_, ?_⟩
    · simp only [Facts, nthR, Is, and_true] at hd
      simp only [hd] at hK ⊢
      clear hd
      go_simp
      refine (IsSecE (hT.up hb0 hb) (hB) hS).mono ?_
      rintro e wy ⟨rfl, hby⟩
      exact hK _ _ _ rfl hby IsOut
    refine ⟨fun u W hb hd K hK => ?_, ?_⟩
    · simp only [Facts, nthR, Is, and_true] at hd
      simp only [hd] at hK ⊢
      clear hd
      go_simp
      apply hK
      · simp only [Act.put, List.setIfInBounds_toArray, List.set_cons_zero, List.set_cons_succ]
        exact rfl
      · exact Below.refl _ _
      · exact IsOut
    exact trivial
  · exact (.is (.is (.is .nil)))
  intro u w2 hb hd
  simp only [List.drop_succ_cons, List.drop_zero]
  simp only [Facts, nthR, Is, and_true] at hd
  have h2 := hd
  clear hd
  simp only [h2]
  clear h2
  replace bg1 := bg1.below hb lg1
  replace hb0 := hb0.trans (hb.mono hb0.size)
  replace lg1 := bg1.lt
  clear hb
  go_upto_region 2 with (fail)
  refine wp_region_lit ?_
  go_wp2_with (fail)
  refine bodyPost_ret (v := .tuple _) (results_tt rfl _ _ _ _ rfl rfl) rfl ?_
  exact ⟨rfl, hb0⟩
set_option maxRecDepth 100000 in
set_option maxHeartbeats 400000 in
theorem curvePublic_1 (B bs : List UInt8) (n : Nat) (w : World) (hT : TabsC w) (hB : Hid (B.length = 32)) (hn : Hid ((ofTo B 32).val = n)) (hS : Hid (secretB B = true)) (hR : Hid (bs = wrB (xB (mulG n)) (yB (mulG n)))) : Calls Tryd.prog 30 #[.agg (B.map B8).toArray] w fun e w' => ∃ A c, e = .returned (.tuple #[.slice A bs.length c, .int .i64 0]) ∧ Buf w' w.heap.size A bs.length c bs ∧ Below w.heap.size w w' := by
  go_enter Tryd.func30, Tryd.ntmps30
  have hb0 : Below w.heap.size w w := Below.refl _ _
  go_upto_region 0 with (fail)
  refine wp_region_lit ?_
  refine wpList_box_blk rfl 22 (.tmp 0) rfl (B.map B8) rfl ?_
  intro g1 w1 hg bg1 hb
  have og1 := Lib.hid (show w.heap.size ≤ g1 from Nat.le_trans hb0.size (Nat.le_of_eq hg.symm))
  clear hg
  replace hb0 := hb0.trans (hb.mono hb0.size)
  clear hb
  have lg1 := bg1.lt
  try simp only [Act.put, List.setIfInBounds_toArray, List.set_cons_zero, List.set_cons_succ]
  go_upto_region 1 with (fail)
  apply wp_plain_once (m := 3) (J := [[], [0], [1]]) (Je := [2]) (Rs := [Is _, Is _, Is _])
  · kernel_rfl
  · kernel_rfl
  · intro u
    simp only [List.take_succ_cons, List.take_zero, List.map_cons, List.map_nil, fillU, List.setIfInBounds_toArray, List.set_cons_zero, List.set_cons_succ, Nat.reduceAdd]
    exact rfl
  · simp only [List.take_succ_cons, List.take_zero]
    refine ⟨fun u W hb hd K hK => ?_, ?_⟩
    · clear hd
      rw [if_pos (by rfl)]
      refine wp_load_mid 22 (.tmp 1) rfl g1 0 rfl (B.map B8) _ (rangeAt_of_blk (bg1.below hb lg1)) Tryd.underlying22 rfl (info40.trans (by rw [List.length_map, (hB).out])) ?_
      exact hK _ _ _ rfl (Below.refl _ _) IsOut
    refine ⟨fun u W hb hd K hK => ?_, ?_⟩
    · simp only [Facts, nthR, Is, and_true] at hd
      simp only [hd] at hK ⊢
      clear hd
      go_simp
      refine (IsSecE (hT.up hb0 hb) (hB) hS).mono ?_
      rintro e wy ⟨rfl, hby⟩
      exact hK _ _ _ rfl hby IsOut
    refine ⟨fun u W hb hd K hK => ?_, ?_⟩
    · simp only [Facts, nthR, Is, and_true] at hd
      simp only [hd] at hK ⊢
      clear hd
      go_simp
      apply hK
      · simp only [Act.put, List.setIfInBounds_toArray, List.set_cons_zero, List.set_cons_succ]
        exact rfl
      · exact Below.refl _ _
      · exact IsOut
    exact trivial
  · exact (.is (.is (.is .nil)))
  intro u w2 hb hd
  simp only [List.drop_succ_cons, List.drop_zero]
  simp only [Facts, nthR, Is, and_true] at hd
  have h2 := hd
  clear hd
  simp only [h2]
  clear h2
  replace bg1 := bg1.below hb lg1
  replace hb0 := hb0.trans (hb.mono hb0.size)
  replace lg1 := bg1.lt
  clear hb
  go_upto_region 3 with (fail)
  obtain ⟨p8, hp8⟩ : ∃ s : Pt, Hid (s = mulG (1)) := ⟨_, Lib.hid rfl⟩
  obtain ⟨p9, hp9⟩ : ∃ s : Pt, Hid (s = mulG (n * 1)) := ⟨_, Lib.hid rfl⟩
  obtain ⟨b10, hb10⟩ : ∃ s, Hid (wrB (xB p9) (yB p9) = s) := ⟨_, Lib.hid rfl⟩
  have hbw := hb0.size
  apply wp_region_once_tail (m := 4) (Z := []) (D := [[], [], [0, 1], [0, 1, 2], [0, 1, 2, 3], [0, 1, 2, 3, 4]]) (J := [[], [], [0, 1], [2]]) (Je := [3]) (Rs := [Is _, Is _, Is _, fun v V => ∃ A c, v = .slice A b10.length c ∧ Buf V w2.heap.size A b10.length c b10])
  · kernel_rfl
  · kernel_rfl
  · kernel_rfl
  · kernel_rfl
  · kernel_rfl
  · kernel_rfl
  · kernel_rfl
  · exact fun h => absurd rfl h
  · intro u
    simp only [List.take_succ_cons, List.take_zero, List.map_cons, List.map_nil, fillU, List.setIfInBounds_toArray, List.set_cons_zero, List.set_cons_succ, Nat.reduceAdd]
    exact rfl
  · simp only [List.take_succ_cons, List.take_zero]
    refine ⟨fun u W hb hd K hK => ?_, ?_⟩
    · clear hd
      rw [if_pos (by rfl)]
      refine wp_load_mid 22 (.tmp 1) rfl g1 0 rfl (B.map B8) _ (rangeAt_of_blk (bg1.below hb lg1)) Tryd.underlying22 rfl (info40.trans (by rw [List.length_map, (hB).out])) ?_
      exact hK _ _ _ rfl (Below.refl _ _) IsOut
    refine ⟨fun u W hb hd K hK => ?_, ?_⟩
    · clear hd
      go_simp
      refine (BaseP (hT.up hb0 hb) hp8).mono ?_
      rintro e wy ⟨rfl, hby⟩
      exact hK _ _ _ rfl hby IsOut
    refine ⟨fun u W hb hd K hK => ?_, ?_⟩
    · simp only [Facts, nthR, Is, and_true] at hd
      simp only [hd] at hK ⊢
      clear hd
      go_simp
      refine (TimesP (hT.up hb0 hb) (hB) (hn) (hp8) hp9).mono ?_
      rintro e wy ⟨rfl, hby⟩
      exact hK _ _ _ rfl hby IsOut
    refine ⟨fun u W hb hd K hK => ?_, ?_⟩
    · simp only [Facts, nthR, Is, and_true] at hd
      simp only [hd] at hK ⊢
      clear hd
      go_simp
      refine (WriteP (hT.up hb0 hb) hb10).mono ?_
      rintro e wy ⟨A, c, rfl, hF, hby⟩
      exact hK _ _ _ rfl hby ⟨A, c, rfl, hF.base hb.size⟩
    exact trivial
  · skip
    exact trivial
  · exact (.is (.is (.is (.cons (fun v V V' ⟨A, c, h1, h2⟩ hb => ⟨A, c, h1, h2.below hb⟩) .nil))))
  intro u w3 hb hd
  simp only [List.drop_succ_cons, List.drop_zero]
  simp only [Facts, nthR, and_true] at hd
  obtain ⟨Ao10, co10, h3, fo10⟩ := hd
  simp only [h3]
  clear h3
  replace bg1 := bg1.below hb lg1
  replace hb0 := hb0.trans (hb.mono hb0.size)
  replace lg1 := bg1.lt
  clear hb
  go_wp2_with (fail)
  refine bodyPost_ret (v := .tuple _) (results_tt rfl _ _ _ _ rfl rfl) rfl ?_
  have e : bs = b10 := by rw [hR.out, ← hb10.out, hp9.out, Nat.mul_one]
  subst e
  exact ⟨_, _, rfl, fo10.base hbw, hb0⟩
theorem ReadH {A : Option Addr} {n c : Nat} {xs X Y : List UInt8} {er : Int} {w : World} (hX : Hid (rdX xs = X)) (hY : Hid (rdY xs = Y)) (hE : Hid (rdE xs = er)) (hn : xs.length = n) (hI : In w w.heap.size A c xs) (hT : TabsC w) : Calls Tryd.prog 29 #[.slice A n c] w fun e w' => e = .returned (.tuple #[.agg (ptC X Y).toArray, .int .i64 er]) ∧ Below w.heap.size w w' := by
  rw [← hX.out, ← hY.out, ← hE.out]
  exact ReadE hT hn hI
theorem rdX_length (xs : List UInt8) : (rdX xs).length = 32 := by
  unfold rdX
  split
  · rename_i h
    unfold okR at h
    simp only [Bool.and_eq_true, decide_eq_true_eq] at h
    rw [List.length_take, List.length_drop]
    omega
  · exact zero32_length
theorem rdY_length (xs : List UInt8) : (rdY xs).length = 32 := by
  unfold rdY
  split
  · rename_i h
    unfold okR at h
    simp only [Bool.and_eq_true, decide_eq_true_eq] at h
    rw [List.length_take, List.length_drop]
    omega
  · exact zero32_length
set_option maxRecDepth 100000 in
set_option maxHeartbeats 400000 in
theorem curveShared_0 (B : List UInt8) (A : Option Addr) (nn c : Nat) (xs : List UInt8) (w : World) (hT : TabsC w) (hB : Hid (B.length = 32)) (_hN : xs.length = nn) (_hI : In w w.heap.size A c xs) (hS : Hid (secretB B = false)) : Calls Tryd.prog 32 #[.agg (B.map B8).toArray, .slice A nn c] w fun e w' => e = .returned (.tuple #[.agg (zero32.map B8).toArray, .int .i64 1]) ∧ Below w.heap.size w w' := by
  go_enter Tryd.func32, Tryd.ntmps32
  have hb0 : Below w.heap.size w w := Below.refl _ _
  go_upto_region 0 with (fail)
  refine wp_region_lit ?_
  refine wpList_box_blk rfl 22 (.tmp 0) rfl (B.map B8) rfl ?_
  intro g2 w1 hg bg2 hb
  have og2 := Lib.hid (show w.heap.size ≤ g2 from Nat.le_trans hb0.size (Nat.le_of_eq hg.symm))
  clear hg
  replace hb0 := hb0.trans (hb.mono hb0.size)
  clear hb
  have lg2 := bg2.lt
  try simp only [Act.put, List.setIfInBounds_toArray, List.set_cons_zero, List.set_cons_succ]
  refine wpList_new_blk rfl 22 rfl (zero32.map B8) zeroB32 ?_
  intro g4 w2 hg bg4 hb
  have og4 := Lib.hid (show w.heap.size ≤ g4 ∧ g2 < g4 from ⟨Nat.le_trans hb0.size (Nat.le_of_eq hg.symm), Nat.lt_of_lt_of_le lg2 (Nat.le_of_eq hg.symm)⟩)
  clear hg
  replace bg2 := bg2.below hb lg2
  replace hb0 := hb0.trans (hb.mono hb0.size)
  replace lg2 := bg2.lt
  clear hb
  have lg4 := bg4.lt
  try simp only [Act.put, List.setIfInBounds_toArray, List.set_cons_zero, List.set_cons_succ]
  go_upto_region 1 with (fail)
  apply wp_plain_once (m := 3) (J := [[], [0], [1]]) (Je := [2]) (Rs := [Is _, Is _, Is _])
  · kernel_rfl
  · kernel_rfl
  · intro u
    simp only [List.take_succ_cons, List.take_zero, List.map_cons, List.map_nil, fillU, List.setIfInBounds_toArray, List.set_cons_zero, List.set_cons_succ, Nat.reduceAdd]
    exact rfl
  · simp only [List.take_succ_cons, List.take_zero]
    refine ⟨fun u W hb hd K hK => ?_, ?_⟩
    · clear hd
      rw [if_pos (by rfl)]
      refine wp_load_mid 22 (.tmp 2) rfl g2 0 rfl (B.map B8) _ (rangeAt_of_blk (bg2.below hb lg2)) Tryd.underlying22 rfl (info40.trans (by rw [List.length_map, (hB).out])) ?_
      exact hK _ _ _ rfl (Below.refl _ _) IsOut
    refine ⟨fun u W hb hd K hK => ?_, ?_⟩
    · simp only [Facts, nthR, Is, and_true] at hd
      simp only [hd] at hK ⊢
      clear hd
      go_simp
      refine (IsSecE (hT.up hb0 hb) (hB) hS).mono ?_
      rintro e wy ⟨rfl, hby⟩
      exact hK _ _ _ rfl hby IsOut
    refine ⟨fun u W hb hd K hK => ?_, ?_⟩
    · simp only [Facts, nthR, Is, and_true] at hd
      simp only [hd] at hK ⊢
      clear hd
      go_simp
      apply hK
      · simp only [Act.put, List.setIfInBounds_toArray, List.set_cons_zero, List.set_cons_succ]
        exact rfl
      · exact Below.refl _ _
      · exact IsOut
    exact trivial
  · exact (.is (.is (.is .nil)))
  intro u w3 hb hd
  simp only [List.drop_succ_cons, List.drop_zero]
  simp only [Facts, nthR, Is, and_true] at hd
  have h2 := hd
  clear hd
  simp only [h2]
  clear h2
  replace bg2 := bg2.below hb lg2
  replace bg4 := bg4.below hb lg4
  replace hb0 := hb0.trans (hb.mono hb0.size)
  replace lg2 := bg2.lt
  replace lg4 := bg4.lt
  clear hb
  go_upto_region 2 with (fail)
  apply wp_plain_once (m := 1) (J := [[]]) (Je := [0]) (Rs := [Is _])
  · kernel_rfl
  · kernel_rfl
  · intro u
    simp only [List.take_succ_cons, List.take_zero, List.map_cons, List.map_nil, fillU, List.setIfInBounds_toArray, List.set_cons_zero, List.set_cons_succ]
    exact rfl
  · simp only [List.take_succ_cons, List.take_zero]
    refine ⟨fun u W hb hd K hK => ?_, ?_⟩
    · clear hd
      rw [if_pos (by rfl)]
      refine wp_builtV 22 _ rfl [] rfl (zero32.map B8).toArray built32_0 ?_
      exact hK _ _ _ rfl (Below.refl _ _) IsOut
    exact trivial
  · exact (.is .nil)
  intro u w4 hb hd
  simp only [List.drop_succ_cons, List.drop_zero]
  simp only [Facts, nthR, Is, and_true] at hd
  have h0 := hd
  clear hd
  simp only [h0]
  clear h0
  replace bg2 := bg2.below hb lg2
  replace bg4 := bg4.below hb lg4
  replace hb0 := hb0.trans (hb.mono hb0.size)
  replace lg2 := bg2.lt
  replace lg4 := bg4.lt
  clear hb
  refine wpList_store_blk rfl 22 (.tmp 4) (.tmp 11) rfl rfl g4 (zero32.map B8) rfl rfl _ _ bg4 (info40.trans (by rw [List.length_map, ((Lib.hid (by decide) : Hid (zero32.length = 32))).out])) (by first | with_reducible rfl | rw [List.length_map, ((Lib.hid (by decide) : Hid (zero32.length = 32))).out, List.length_map, ((Lib.hid (by decide) : Hid (zero32.length = 32))).out] | rw [List.length_map, ((Lib.hid (by decide) : Hid (zero32.length = 32))).out]) (one8 _) ?_
  intro w5 bn hgs
  replace bg2 := bg2.grown hgs (fun e => Nat.ne_of_lt og4.out.2 (Option.some.inj e))
  replace hb0 := below_new hb0 hgs og4.out.1 hb0.size
  clear hgs bg4
  have bg4 := bn
  clear bn
  replace lg2 := bg2.lt
  replace lg4 := bg4.lt
  try simp only [Act.put]
  go_wp2_with (fail)
  refine bodyPost_ret (v := .tuple _) (results_bt rfl _ _ g4 (zero32.map B8) (by rw [List.length_map]; decide) (.int .i64 1) rfl rfl bg4) rfl ?_
  exact ⟨rfl, hb0⟩
set_option maxRecDepth 100000 in
set_option maxHeartbeats 400000 in
theorem curveShared_1 (B : List UInt8) (A : Option Addr) (nn c : Nat) (xs : List UInt8) (w : World) (hT : TabsC w) (hB : Hid (B.length = 32)) (hN : xs.length = nn) (hI : In w w.heap.size A c xs) (X Y : List UInt8) (hX : Hid (X.length = 32)) (hY : Hid (Y.length = 32)) (hS : Hid (secretB B = true)) (hXr : Hid (rdX xs = X)) (hYr : Hid (rdY xs = Y)) (hEr : Hid (rdE xs = 15)) : Calls Tryd.prog 32 #[.agg (B.map B8).toArray, .slice A nn c] w fun e w' => e = .returned (.tuple #[.agg (zero32.map B8).toArray, .int .i64 15]) ∧ Below w.heap.size w w' := by
  go_enter Tryd.func32, Tryd.ntmps32
  have hb0 : Below w.heap.size w w := Below.refl _ _
  go_upto_region 0 with (fail)
  refine wp_region_lit ?_
  refine wpList_box_blk rfl 22 (.tmp 0) rfl (B.map B8) rfl ?_
  intro g2 w1 hg bg2 hb
  have og2 := Lib.hid (show w.heap.size ≤ g2 from Nat.le_trans hb0.size (Nat.le_of_eq hg.symm))
  clear hg
  replace hb0 := hb0.trans (hb.mono hb0.size)
  clear hb
  have lg2 := bg2.lt
  try simp only [Act.put, List.setIfInBounds_toArray, List.set_cons_zero, List.set_cons_succ]
  refine wpList_new_blk rfl 22 rfl (zero32.map B8) zeroB32 ?_
  intro g4 w2 hg bg4 hb
  have og4 := Lib.hid (show w.heap.size ≤ g4 ∧ g2 < g4 from ⟨Nat.le_trans hb0.size (Nat.le_of_eq hg.symm), Nat.lt_of_lt_of_le lg2 (Nat.le_of_eq hg.symm)⟩)
  clear hg
  replace bg2 := bg2.below hb lg2
  replace hb0 := hb0.trans (hb.mono hb0.size)
  replace lg2 := bg2.lt
  clear hb
  have lg4 := bg4.lt
  try simp only [Act.put, List.setIfInBounds_toArray, List.set_cons_zero, List.set_cons_succ]
  go_upto_region 1 with (fail)
  apply wp_plain_once (m := 3) (J := [[], [0], [1]]) (Je := [2]) (Rs := [Is _, Is _, Is _])
  · kernel_rfl
  · kernel_rfl
  · intro u
    simp only [List.take_succ_cons, List.take_zero, List.map_cons, List.map_nil, fillU, List.setIfInBounds_toArray, List.set_cons_zero, List.set_cons_succ, Nat.reduceAdd]
    exact rfl
  · simp only [List.take_succ_cons, List.take_zero]
    refine ⟨fun u W hb hd K hK => ?_, ?_⟩
    · clear hd
      rw [if_pos (by rfl)]
      refine wp_load_mid 22 (.tmp 2) rfl g2 0 rfl (B.map B8) _ (rangeAt_of_blk (bg2.below hb lg2)) Tryd.underlying22 rfl (info40.trans (by rw [List.length_map, (hB).out])) ?_
      exact hK _ _ _ rfl (Below.refl _ _) IsOut
    refine ⟨fun u W hb hd K hK => ?_, ?_⟩
    · simp only [Facts, nthR, Is, and_true] at hd
      simp only [hd] at hK ⊢
      clear hd
      go_simp
      refine (IsSecE (hT.up hb0 hb) (hB) hS).mono ?_
      rintro e wy ⟨rfl, hby⟩
      exact hK _ _ _ rfl hby IsOut
    refine ⟨fun u W hb hd K hK => ?_, ?_⟩
    · simp only [Facts, nthR, Is, and_true] at hd
      simp only [hd] at hK ⊢
      clear hd
      go_simp
      apply hK
      · simp only [Act.put, List.setIfInBounds_toArray, List.set_cons_zero, List.set_cons_succ]
        exact rfl
      · exact Below.refl _ _
      · exact IsOut
    exact trivial
  · exact (.is (.is (.is .nil)))
  intro u w3 hb hd
  simp only [List.drop_succ_cons, List.drop_zero]
  simp only [Facts, nthR, Is, and_true] at hd
  have h2 := hd
  clear hd
  simp only [h2]
  clear h2
  replace bg2 := bg2.below hb lg2
  replace bg4 := bg4.below hb lg4
  replace hb0 := hb0.trans (hb.mono hb0.size)
  replace lg2 := bg2.lt
  replace lg4 := bg4.lt
  clear hb
  go_upto_region 3 with (fail)
  apply wp_plain_once (m := 5) (J := [[], [0], [1], [2], [2]]) (Je := [3, 4]) (Rs := [Is _, Is _, Is _, Is _, Is _])
  · kernel_rfl
  · kernel_rfl
  · intro u
    simp only [List.take_succ_cons, List.take_zero, List.map_cons, List.map_nil, fillU, List.setIfInBounds_toArray, List.set_cons_zero, List.set_cons_succ, Nat.reduceAdd]
    exact rfl
  · simp only [List.take_succ_cons, List.take_zero]
    refine ⟨fun u W hb hd K hK => ?_, ?_⟩
    · clear hd
      go_simp
      apply hK
      · simp only [Act.put, List.setIfInBounds_toArray, List.set_cons_zero, List.set_cons_succ]
        exact rfl
      · exact Below.refl _ _
      · exact IsOut
    refine ⟨fun u W hb hd K hK => ?_, ?_⟩
    · simp only [Facts, nthR, Is, and_true] at hd
      simp only [hd] at hK ⊢
      clear hd
      go_simp
      refine (ReadH hXr hYr hEr hN (hI.up (hb0.trans (hb.mono hb0.size))) (hT.up hb0 hb)).mono ?_
      rintro e wy ⟨rfl, hby⟩
      exact hK _ _ _ rfl hby IsOut
    refine ⟨fun u W hb hd K hK => ?_, ?_⟩
    · simp only [Facts, nthR, Is, and_true] at hd
      simp only [hd] at hK ⊢
      clear hd
      go_simp
      apply hK
      · simp only [Act.put, List.setIfInBounds_toArray, List.set_cons_zero, List.set_cons_succ]
        exact rfl
      · exact Below.refl _ _
      · exact IsOut
    refine ⟨fun u W hb hd K hK => ?_, ?_⟩
    · simp only [Facts, nthR, Is, and_true] at hd
      simp only [hd] at hK ⊢
      clear hd
      go_simp
      apply hK
      · simp only [Act.put, List.setIfInBounds_toArray, List.set_cons_zero, List.set_cons_succ]
        exact rfl
      · exact Below.refl _ _
      · exact IsOut
    refine ⟨fun u W hb hd K hK => ?_, ?_⟩
    · simp only [Facts, nthR, Is, and_true] at hd
      simp only [hd] at hK ⊢
      clear hd
      go_simp
      apply hK
      · simp only [Act.put, List.setIfInBounds_toArray, List.set_cons_zero, List.set_cons_succ]
        exact rfl
      · exact Below.refl _ _
      · exact IsOut
    exact trivial
  · exact (.is (.is (.is (.is (.is .nil)))))
  intro u w4 hb hd
  simp only [List.drop_succ_cons, List.drop_zero]
  simp only [Facts, nthR, Is, and_true] at hd
  obtain ⟨h3, h4⟩ := hd
  simp only [h3, h4]
  clear h3 h4
  replace bg2 := bg2.below hb lg2
  replace bg4 := bg4.below hb lg4
  replace hb0 := hb0.trans (hb.mono hb0.size)
  replace lg2 := bg2.lt
  replace lg4 := bg4.lt
  clear hb
  refine wpList_new_store rfl 24 rfl rfl (ptV none) zeroPt rfl rfl rfl (ptC X Y) (fun _ => rfl) (fun _ => rfl) (infoPt.trans (by rw [ptC_length (hX).out (hY).out])) (by first | with_reducible rfl | rw [ptV_length, ptC_length (hX).out (hY).out] | rw [ptV_length]) (onePt _ _) ?_
  intro g6 w5 hg bg6 hb
  have og6 := Lib.hid (show w.heap.size ≤ g6 ∧ g2 < g6 ∧ g4 < g6 from ⟨Nat.le_trans hb0.size (Nat.le_of_eq hg.symm), Nat.lt_of_lt_of_le lg2 (Nat.le_of_eq hg.symm), Nat.lt_of_lt_of_le lg4 (Nat.le_of_eq hg.symm)⟩)
  clear hg
  replace bg2 := bg2.below hb lg2
  replace bg4 := bg4.below hb lg4
  replace hb0 := hb0.trans (hb.mono hb0.size)
  replace lg2 := bg2.lt
  replace lg4 := bg4.lt
  clear hb
  have lg6 := bg6.lt
  try simp only [Act.put, List.setIfInBounds_toArray, List.set_cons_zero, List.set_cons_succ]
  go_upto_region 4 with (fail)
  apply wp_plain_once (m := 2) (J := [[], [0]]) (Je := [1]) (Rs := [Is _, Is _])
  · kernel_rfl
  · kernel_rfl
  · intro u
    simp only [List.take_succ_cons, List.take_zero, List.map_cons, List.map_nil, fillU, List.setIfInBounds_toArray, List.set_cons_zero, List.set_cons_succ, Nat.reduceAdd]
    exact rfl
  · simp only [List.take_succ_cons, List.take_zero]
    refine ⟨fun u W hb hd K hK => ?_, ?_⟩
    · clear hd
      go_simp
      apply hK
      · simp only [Act.put, List.setIfInBounds_toArray, List.set_cons_zero, List.set_cons_succ]
        exact rfl
      · exact Below.refl _ _
      · exact IsOut
    refine ⟨fun u W hb hd K hK => ?_, ?_⟩
    · simp only [Facts, nthR, Is, and_true] at hd
      simp only [hd] at hK ⊢
      clear hd
      go_simp
      apply hK
      · simp only [Act.put, List.setIfInBounds_toArray, List.set_cons_zero, List.set_cons_succ]
        exact rfl
      · exact Below.refl _ _
      · exact IsOut
    exact trivial
  · exact (.is (.is .nil))
  intro u w6 hb hd
  simp only [List.drop_succ_cons, List.drop_zero]
  simp only [Facts, nthR, Is, and_true] at hd
  have h1 := hd
  clear hd
  simp only [h1]
  clear h1
  replace bg2 := bg2.below hb lg2
  replace bg4 := bg4.below hb lg4
  replace bg6 := bg6.below hb lg6
  replace hb0 := hb0.trans (hb.mono hb0.size)
  replace lg2 := bg2.lt
  replace lg4 := bg4.lt
  replace lg6 := bg6.lt
  clear hb
  go_upto_region 5 with (fail)
  apply wp_plain_once (m := 2) (J := [[], []]) (Je := [0, 1]) (Rs := [Is _, Is _])
  · kernel_rfl
  · kernel_rfl
  · intro u
    simp only [List.take_succ_cons, List.take_zero, List.map_cons, List.map_nil, fillU, List.setIfInBounds_toArray, List.set_cons_zero, List.set_cons_succ, Nat.reduceAdd]
    exact rfl
  · simp only [List.take_succ_cons, List.take_zero]
    refine ⟨fun u W hb hd K hK => ?_, ?_⟩
    · clear hd
      rw [if_pos (by rfl)]
      refine wp_builtV 22 _ rfl [] rfl (zero32.map B8).toArray built32_0 ?_
      exact hK _ _ _ rfl (Below.refl _ _) IsOut
    refine ⟨fun u W hb hd K hK => ?_, ?_⟩
    · clear hd
      go_simp
      apply hK
      · simp only [Act.put, List.setIfInBounds_toArray, List.set_cons_zero, List.set_cons_succ]
        exact rfl
      · exact Below.refl _ _
      · exact IsOut
    exact trivial
  · exact (.is (.is .nil))
  intro u w7 hb hd
  simp only [List.drop_succ_cons, List.drop_zero]
  simp only [Facts, nthR, Is, and_true] at hd
  obtain ⟨h0, h1⟩ := hd
  simp only [h0, h1]
  clear h0 h1
  replace bg2 := bg2.below hb lg2
  replace bg4 := bg4.below hb lg4
  replace bg6 := bg6.below hb lg6
  replace hb0 := hb0.trans (hb.mono hb0.size)
  replace lg2 := bg2.lt
  replace lg4 := bg4.lt
  replace lg6 := bg6.lt
  clear hb
  refine wpList_store_blk rfl 22 (.tmp 4) (.tmp 19) rfl rfl g4 (zero32.map B8) rfl rfl _ _ bg4 (info40.trans (by rw [List.length_map, ((Lib.hid (by decide) : Hid (zero32.length = 32))).out])) (by first | with_reducible rfl | rw [List.length_map, ((Lib.hid (by decide) : Hid (zero32.length = 32))).out, List.length_map, ((Lib.hid (by decide) : Hid (zero32.length = 32))).out] | rw [List.length_map, ((Lib.hid (by decide) : Hid (zero32.length = 32))).out]) (one8 _) ?_
  intro w8 bn hgs
  replace bg2 := bg2.grown hgs (fun e => Nat.ne_of_lt og4.out.2 (Option.some.inj e))
  replace bg6 := bg6.grown hgs (fun e => Nat.ne_of_gt og6.out.2.2 (Option.some.inj e))
  replace hb0 := below_new hb0 hgs og4.out.1 hb0.size
  clear hgs bg4
  have bg4 := bn
  clear bn
  replace lg2 := bg2.lt
  replace lg4 := bg4.lt
  replace lg6 := bg6.lt
  try simp only [Act.put]
  go_wp2_with (fail)
  refine bodyPost_ret (v := .tuple _) (results_bt rfl _ _ g4 (zero32.map B8) (by rw [List.length_map]; decide) (.int .i64 15) rfl rfl bg4) rfl ?_
  exact ⟨rfl, hb0⟩
set_option maxRecDepth 100000 in
set_option maxHeartbeats 400000 in
theorem curveShared_2 (B : List UInt8) (A : Option Addr) (nn c : Nat) (xs : List UInt8) (w : World) (hT : TabsC w) (hB : Hid (B.length = 32)) (hN : xs.length = nn) (hI : In w w.heap.size A c xs) (X Y : List UInt8) (hX : Hid (X.length = 32)) (hY : Hid (Y.length = 32)) (hS : Hid (secretB B = true)) (hXr : Hid (rdX xs = X)) (hYr : Hid (rdY xs = Y)) (hEr : Hid (rdE xs = 0)) (m k : Nat) (hn : Hid ((ofTo B 32).val = k)) (hSp : Hid (Spots X Y m)) (R : Pt) (hR : Hid (R = mulG (k * m))) : Calls Tryd.prog 32 #[.agg (B.map B8).toArray, .slice A nn c] w fun e w' => e = .returned (.tuple #[.agg ((xB R).map B8).toArray, .int .i64 0]) ∧ Below w.heap.size w w' := by
  go_enter Tryd.func32, Tryd.ntmps32
  have hb0 : Below w.heap.size w w := Below.refl _ _
  go_upto_region 0 with (fail)
  refine wp_region_lit ?_
  refine wpList_box_blk rfl 22 (.tmp 0) rfl (B.map B8) rfl ?_
  intro g2 w1 hg bg2 hb
  have og2 := Lib.hid (show w.heap.size ≤ g2 from Nat.le_trans hb0.size (Nat.le_of_eq hg.symm))
  clear hg
  replace hb0 := hb0.trans (hb.mono hb0.size)
  clear hb
  have lg2 := bg2.lt
  try simp only [Act.put, List.setIfInBounds_toArray, List.set_cons_zero, List.set_cons_succ]
  refine wpList_new_blk rfl 22 rfl (zero32.map B8) zeroB32 ?_
  intro g4 w2 hg bg4 hb
  have og4 := Lib.hid (show w.heap.size ≤ g4 ∧ g2 < g4 from ⟨Nat.le_trans hb0.size (Nat.le_of_eq hg.symm), Nat.lt_of_lt_of_le lg2 (Nat.le_of_eq hg.symm)⟩)
  clear hg
  replace bg2 := bg2.below hb lg2
  replace hb0 := hb0.trans (hb.mono hb0.size)
  replace lg2 := bg2.lt
  clear hb
  have lg4 := bg4.lt
  try simp only [Act.put, List.setIfInBounds_toArray, List.set_cons_zero, List.set_cons_succ]
  go_upto_region 1 with (fail)
  apply wp_plain_once (m := 3) (J := [[], [0], [1]]) (Je := [2]) (Rs := [Is _, Is _, Is _])
  · kernel_rfl
  · kernel_rfl
  · intro u
    simp only [List.take_succ_cons, List.take_zero, List.map_cons, List.map_nil, fillU, List.setIfInBounds_toArray, List.set_cons_zero, List.set_cons_succ, Nat.reduceAdd]
    exact rfl
  · simp only [List.take_succ_cons, List.take_zero]
    refine ⟨fun u W hb hd K hK => ?_, ?_⟩
    · clear hd
      rw [if_pos (by rfl)]
      refine wp_load_mid 22 (.tmp 2) rfl g2 0 rfl (B.map B8) _ (rangeAt_of_blk (bg2.below hb lg2)) Tryd.underlying22 rfl (info40.trans (by rw [List.length_map, (hB).out])) ?_
      exact hK _ _ _ rfl (Below.refl _ _) IsOut
    refine ⟨fun u W hb hd K hK => ?_, ?_⟩
    · simp only [Facts, nthR, Is, and_true] at hd
      simp only [hd] at hK ⊢
      clear hd
      go_simp
      refine (IsSecE (hT.up hb0 hb) (hB) hS).mono ?_
      rintro e wy ⟨rfl, hby⟩
      exact hK _ _ _ rfl hby IsOut
    refine ⟨fun u W hb hd K hK => ?_, ?_⟩
    · simp only [Facts, nthR, Is, and_true] at hd
      simp only [hd] at hK ⊢
      clear hd
      go_simp
      apply hK
      · simp only [Act.put, List.setIfInBounds_toArray, List.set_cons_zero, List.set_cons_succ]
        exact rfl
      · exact Below.refl _ _
      · exact IsOut
    exact trivial
  · exact (.is (.is (.is .nil)))
  intro u w3 hb hd
  simp only [List.drop_succ_cons, List.drop_zero]
  simp only [Facts, nthR, Is, and_true] at hd
  have h2 := hd
  clear hd
  simp only [h2]
  clear h2
  replace bg2 := bg2.below hb lg2
  replace bg4 := bg4.below hb lg4
  replace hb0 := hb0.trans (hb.mono hb0.size)
  replace lg2 := bg2.lt
  replace lg4 := bg4.lt
  clear hb
  go_upto_region 3 with (fail)
  apply wp_plain_once (m := 5) (J := [[], [0], [1], [2], [2]]) (Je := [3, 4]) (Rs := [Is _, Is _, Is _, Is _, Is _])
  · kernel_rfl
  · kernel_rfl
  · intro u
    simp only [List.take_succ_cons, List.take_zero, List.map_cons, List.map_nil, fillU, List.setIfInBounds_toArray, List.set_cons_zero, List.set_cons_succ, Nat.reduceAdd]
    exact rfl
  · simp only [List.take_succ_cons, List.take_zero]
    refine ⟨fun u W hb hd K hK => ?_, ?_⟩
    · clear hd
      go_simp
      apply hK
      · simp only [Act.put, List.setIfInBounds_toArray, List.set_cons_zero, List.set_cons_succ]
        exact rfl
      · exact Below.refl _ _
      · exact IsOut
    refine ⟨fun u W hb hd K hK => ?_, ?_⟩
    · simp only [Facts, nthR, Is, and_true] at hd
      simp only [hd] at hK ⊢
      clear hd
      go_simp
      refine (ReadH hXr hYr hEr hN (hI.up (hb0.trans (hb.mono hb0.size))) (hT.up hb0 hb)).mono ?_
      rintro e wy ⟨rfl, hby⟩
      exact hK _ _ _ rfl hby IsOut
    refine ⟨fun u W hb hd K hK => ?_, ?_⟩
    · simp only [Facts, nthR, Is, and_true] at hd
      simp only [hd] at hK ⊢
      clear hd
      go_simp
      apply hK
      · simp only [Act.put, List.setIfInBounds_toArray, List.set_cons_zero, List.set_cons_succ]
        exact rfl
      · exact Below.refl _ _
      · exact IsOut
    refine ⟨fun u W hb hd K hK => ?_, ?_⟩
    · simp only [Facts, nthR, Is, and_true] at hd
      simp only [hd] at hK ⊢
      clear hd
      go_simp
      apply hK
      · simp only [Act.put, List.setIfInBounds_toArray, List.set_cons_zero, List.set_cons_succ]
        exact rfl
      · exact Below.refl _ _
      · exact IsOut
    refine ⟨fun u W hb hd K hK => ?_, ?_⟩
    · simp only [Facts, nthR, Is, and_true] at hd
      simp only [hd] at hK ⊢
      clear hd
      go_simp
      apply hK
      · simp only [Act.put, List.setIfInBounds_toArray, List.set_cons_zero, List.set_cons_succ]
        exact rfl
      · exact Below.refl _ _
      · exact IsOut
    exact trivial
  · exact (.is (.is (.is (.is (.is .nil)))))
  intro u w4 hb hd
  simp only [List.drop_succ_cons, List.drop_zero]
  simp only [Facts, nthR, Is, and_true] at hd
  obtain ⟨h3, h4⟩ := hd
  simp only [h3, h4]
  clear h3 h4
  replace bg2 := bg2.below hb lg2
  replace bg4 := bg4.below hb lg4
  replace hb0 := hb0.trans (hb.mono hb0.size)
  replace lg2 := bg2.lt
  replace lg4 := bg4.lt
  clear hb
  refine wpList_new_store rfl 24 rfl rfl (ptV none) zeroPt rfl rfl rfl (ptC X Y) (fun _ => rfl) (fun _ => rfl) (infoPt.trans (by rw [ptC_length (hX).out (hY).out])) (by first | with_reducible rfl | rw [ptV_length, ptC_length (hX).out (hY).out] | rw [ptV_length]) (onePt _ _) ?_
  intro g6 w5 hg bg6 hb
  have og6 := Lib.hid (show w.heap.size ≤ g6 ∧ g2 < g6 ∧ g4 < g6 from ⟨Nat.le_trans hb0.size (Nat.le_of_eq hg.symm), Nat.lt_of_lt_of_le lg2 (Nat.le_of_eq hg.symm), Nat.lt_of_lt_of_le lg4 (Nat.le_of_eq hg.symm)⟩)
  clear hg
  replace bg2 := bg2.below hb lg2
  replace bg4 := bg4.below hb lg4
  replace hb0 := hb0.trans (hb.mono hb0.size)
  replace lg2 := bg2.lt
  replace lg4 := bg4.lt
  clear hb
  have lg6 := bg6.lt
  try simp only [Act.put, List.setIfInBounds_toArray, List.set_cons_zero, List.set_cons_succ]
  go_upto_region 4 with (fail)
  apply wp_plain_once (m := 2) (J := [[], [0]]) (Je := [1]) (Rs := [Is _, Is _])
  · kernel_rfl
  · kernel_rfl
  · intro u
    simp only [List.take_succ_cons, List.take_zero, List.map_cons, List.map_nil, fillU, List.setIfInBounds_toArray, List.set_cons_zero, List.set_cons_succ, Nat.reduceAdd]
    exact rfl
  · simp only [List.take_succ_cons, List.take_zero]
    refine ⟨fun u W hb hd K hK => ?_, ?_⟩
    · clear hd
      go_simp
      apply hK
      · simp only [Act.put, List.setIfInBounds_toArray, List.set_cons_zero, List.set_cons_succ]
        exact rfl
      · exact Below.refl _ _
      · exact IsOut
    refine ⟨fun u W hb hd K hK => ?_, ?_⟩
    · simp only [Facts, nthR, Is, and_true] at hd
      simp only [hd] at hK ⊢
      clear hd
      go_simp
      apply hK
      · simp only [Act.put, List.setIfInBounds_toArray, List.set_cons_zero, List.set_cons_succ]
        exact rfl
      · exact Below.refl _ _
      · exact IsOut
    exact trivial
  · exact (.is (.is .nil))
  intro u w6 hb hd
  simp only [List.drop_succ_cons, List.drop_zero]
  simp only [Facts, nthR, Is, and_true] at hd
  have h1 := hd
  clear hd
  simp only [h1]
  clear h1
  replace bg2 := bg2.below hb lg2
  replace bg4 := bg4.below hb lg4
  replace bg6 := bg6.below hb lg6
  replace hb0 := hb0.trans (hb.mono hb0.size)
  replace lg2 := bg2.lt
  replace lg4 := bg4.lt
  replace lg6 := bg6.lt
  clear hb
  go_upto_region 6 with (fail)
  obtain ⟨p23, hp23⟩ : ∃ s : Pt, Hid (s = mulG (k * m)) := ⟨_, Lib.hid rfl⟩
  apply wp_plain_once (m := 4) (J := [[], [], [0, 1], [2]]) (Je := [3]) (Rs := [Is _, Is _, Is _, Is _])
  · kernel_rfl
  · kernel_rfl
  · intro u
    simp only [List.take_succ_cons, List.take_zero, List.map_cons, List.map_nil, fillU, List.setIfInBounds_toArray, List.set_cons_zero, List.set_cons_succ, Nat.reduceAdd]
    exact rfl
  · simp only [List.take_succ_cons, List.take_zero]
    refine ⟨fun u W hb hd K hK => ?_, ?_⟩
    · clear hd
      rw [if_pos (by rfl)]
      refine wp_load_mid 22 (.tmp 2) rfl g2 0 rfl (B.map B8) _ (rangeAt_of_blk (bg2.below hb lg2)) Tryd.underlying22 rfl (info40.trans (by rw [List.length_map, (hB).out])) ?_
      exact hK _ _ _ rfl (Below.refl _ _) IsOut
    refine ⟨fun u W hb hd K hK => ?_, ?_⟩
    · clear hd
      rw [if_pos (by rfl)]
      refine wp_load_mid 24 (.tmp 6) rfl g6 0 rfl (ptC X Y) _ (rangeAt_of_blk (bg6.below hb lg6)) Tryd.underlying24 rfl (infoPt.trans (by rw [ptC_length (hX).out (hY).out])) ?_
      exact hK _ _ _ rfl (Below.refl _ _) IsOut
    refine ⟨fun u W hb hd K hK => ?_, ?_⟩
    · simp only [Facts, nthR, Is, and_true] at hd
      simp only [hd] at hK ⊢
      clear hd
      go_simp
      refine (TimesS (hT.up hb0 hb) (hB) (hX) (hY) (hn) (hSp) hp23).mono ?_
      rintro e wy ⟨rfl, hby⟩
      exact hK _ _ _ rfl hby IsOut
    refine ⟨fun u W hb hd K hK => ?_, ?_⟩
    · simp only [Facts, nthR, Is, and_true] at hd
      simp only [hd] at hK ⊢
      clear hd
      rw [if_pos (by rfl)]
      refine wp_fieldX rfl rfl ?_
      exact hK _ _ _ rfl (Below.refl _ _) IsOut
    exact trivial
  · exact (.is (.is (.is (.is .nil))))
  intro u w7 hb hd
  simp only [List.drop_succ_cons, List.drop_zero]
  simp only [Facts, nthR, Is, and_true] at hd
  have h3 := hd
  clear hd
  simp only [h3]
  clear h3
  replace bg2 := bg2.below hb lg2
  replace bg4 := bg4.below hb lg4
  replace bg6 := bg6.below hb lg6
  replace hb0 := hb0.trans (hb.mono hb0.size)
  replace lg2 := bg2.lt
  replace lg4 := bg4.lt
  replace lg6 := bg6.lt
  clear hb
  refine wpList_store_blk rfl 22 (.tmp 4) (.tmp 24) rfl rfl g4 ((xB p23).map B8) rfl rfl _ _ bg4 (info40.trans (by rw [List.length_map, (Lib.hid (xB_length p23)).out])) (by first | with_reducible rfl | rw [List.length_map, ((Lib.hid (by decide) : Hid (zero32.length = 32))).out, List.length_map, (Lib.hid (xB_length p23)).out] | rw [List.length_map, ((Lib.hid (by decide) : Hid (zero32.length = 32))).out]) (one8 _) ?_
  intro w8 bn hgs
  replace bg2 := bg2.grown hgs (fun e => Nat.ne_of_lt og4.out.2 (Option.some.inj e))
  replace bg6 := bg6.grown hgs (fun e => Nat.ne_of_gt og6.out.2.2 (Option.some.inj e))
  replace hb0 := below_new hb0 hgs og4.out.1 hb0.size
  clear hgs bg4
  have bg4 := bn
  clear bn
  replace lg2 := bg2.lt
  replace lg4 := bg4.lt
  replace lg6 := bg6.lt
  try simp only [Act.put]
  go_wp2_with (fail)
  refine bodyPost_ret (v := .tuple _) (results_bt rfl _ _ g4 ((xB p23).map B8) (by rw [List.length_map]; exact xB_length _) (.int .i64 0) rfl rfl bg4) rfl ?_
  exact ⟨by rw [hR.out, hp23.out], hb0⟩
theorem fine_sec {B : List UInt8} (hB : B.length = 32) : secretB B = (!(B == zero32) && lessP (ofTo B 32) orderP) := by
  unfold secretB
  congr 2
  rw [Bool.eq_iff_iff, eqP_eq, beq_iff_eq]
  refine ⟨fun h => ?_, fun h => by rw [h]; exact of_zero32⟩
  rw [← bytes_of B hB, h, bs_zero]
set_option maxRecDepth 100000 in
set_option maxHeartbeats 400000 in
theorem Func1E {B : List UInt8} {bf : Bool} (hB : Hid (B.length = 32)) (hQ : Hid (secretB B = bf)) (w : World) : Calls Tryd.prog 31 #[.agg (B.map B8).toArray] w fun e w' => e = .returned (.bool bf) ∧ Below w.heap.size w w' := by
  go_enter Tryd.func31, Tryd.ntmps31
  have hb0 : Below w.heap.size w w := Below.refl _ _
  obtain ⟨bn, hbn⟩ : ∃ s, Hid ((B == zero32) = !s) := ⟨!(B == zero32), Lib.hid (by rw [Bool.not_not])⟩
  go_upto_region 0 with (fail)
  refine wp_region_lit ?_
  refine wpList_box_blk rfl 22 (.tmp 0) rfl (B.map B8) rfl ?_
  intro g1 w1 hg bg1 hb
  have og1 := Lib.hid (show w.heap.size ≤ g1 from Nat.le_trans hb0.size (Nat.le_of_eq hg.symm))
  clear hg
  replace hb0 := hb0.trans (hb.mono hb0.size)
  clear hb
  have lg1 := bg1.lt
  try simp only [Act.put, List.setIfInBounds_toArray, List.set_cons_zero, List.set_cons_succ]
  go_upto_region 1 with (fail)
  obtain ⟨n8, hn8⟩ : ∃ s : P4, Hid (ofTo B 32 = s) := ⟨_, Lib.hid rfl⟩
  obtain ⟨bl, hbl⟩ : ∃ s, Hid (lessP n8 orderP = s) := ⟨_, Lib.hid rfl⟩
  have hbf : Hid ((bn && bl) = bf) := Lib.hid (by rw [← hQ.out, fine_sec hB.out, hbn.out, ← hbl.out, ← hn8.out, Bool.not_not])
  apply wp_plain_once (m := 9) (J := [[], [], [0, 1], [2], [3], [3, 4], [3], [3, 5, 6], [3, 7]]) (Je := [8]) (Rs := [Is _, Is _, Is _, Is _, Maybe bn true _, Maybe bn true _, Maybe bn true _, Maybe bn true _, Is (.bool bf)])
  · kernel_rfl
  · kernel_rfl
  · intro u
    simp only [List.take_succ_cons, List.take_zero, List.map_cons, List.map_nil, fillU, List.setIfInBounds_toArray, List.set_cons_zero, List.set_cons_succ, Nat.reduceAdd]
    exact rfl
  · simp only [List.take_succ_cons, List.take_zero]
    refine ⟨fun u W hb hd K hK => ?_, ?_⟩
    · clear hd
      rw [if_pos (by rfl)]
      refine wp_load_mid 22 (.tmp 1) rfl g1 0 rfl (B.map B8) _ (rangeAt_of_blk (bg1.below hb lg1)) Tryd.underlying22 rfl (info40.trans (by rw [List.length_map, (hB).out])) ?_
      exact hK _ _ _ rfl (Below.refl _ _) IsOut
    refine ⟨fun u W hb hd K hK => ?_, ?_⟩
    · clear hd
      rw [if_pos (by rfl)]
      refine wp_builtV 22 _ rfl [] rfl (zero32.map B8).toArray built32_0 ?_
      exact hK _ _ _ rfl (Below.refl _ _) IsOut
    refine ⟨fun u W hb hd K hK => ?_, ?_⟩
    · simp only [Facts, nthR, Is, and_true] at hd
      simp only [hd] at hK ⊢
      clear hd
      rw [if_pos (by rfl)]
      refine wp_neqR rfl rfl rfl guardB32 (show (Op.equalIn 10000 22 (.agg (B.map B8).toArray) (.agg (zero32.map B8).toArray)).run Tryd.prog W = .ok (!bn) W from EqB hB (Lib.hid zero32_length) hbn W) ?_
      exact hK _ _ (.bool bn) rfl (Below.refl _ _) IsOut
    refine ⟨fun u W hb hd K hK => ?_, ?_⟩
    · simp only [Facts, nthR, Is, and_true] at hd
      simp only [hd] at hK ⊢
      clear hd
      go_simp
      apply hK
      · simp only [Act.put, List.setIfInBounds_toArray, List.set_cons_zero, List.set_cons_succ]
        exact rfl
      · exact Below.refl _ _
      · exact IsOut
    refine ⟨fun u W hb hd K hK => ?_, ?_⟩
    · simp only [Facts, nthR, Is, and_true] at hd
      have h3 := hd
      by_cases hc : bn = true
      · simp only [h3, hc] at hK ⊢
        rw [if_pos (by rfl)]
        refine wp_load_mid 22 (.tmp 1) rfl g1 0 rfl (B.map B8) _ (rangeAt_of_blk (bg1.below hb lg1)) Tryd.underlying22 rfl (info40.trans (by rw [List.length_map, (hB).out])) ?_
        exact hK _ _ _ rfl (Below.refl _ _) fun _ => IsOut (w := W)
      · have hc' : bn = false := by cases bn <;> simp_all
        simp only [h3, hc'] at hK ⊢
        go_simp
        apply hK
        · simp only [Act.put, List.setIfInBounds_toArray, List.set_cons_zero, List.set_cons_succ]
          exact rfl
        · exact Below.refl _ _
        · exact fun h => by cases h
    refine ⟨fun u W hb hd K hK => ?_, ?_⟩
    · simp only [Facts, nthR, Is, and_true] at hd
      obtain ⟨h3, h4⟩ := hd
      by_cases hc : bn = true
      · replace h4 := h4 hc
        simp only [h3, h4, hc] at hK ⊢
        go_simp
        refine (ROf hn8 (hB) _).mono ?_
        rintro e wy ⟨rfl, hby⟩
        exact hK _ _ _ rfl hby fun _ => IsOut (w := W)
      · have hc' : bn = false := by cases bn <;> simp_all
        simp only [h3, hc'] at hK ⊢
        go_simp
        apply hK
        · simp only [Act.put, List.setIfInBounds_toArray, List.set_cons_zero, List.set_cons_succ]
          exact rfl
        · exact Below.refl _ _
        · exact fun h => by cases h
    refine ⟨fun u W hb hd K hK => ?_, ?_⟩
    · simp only [Facts, nthR, Is, and_true] at hd
      have h3 := hd
      by_cases hc : bn = true
      · simp only [h3, hc] at hK ⊢
        go_simp
        refine (rN _).mono ?_
        rintro e wy ⟨rfl, hby⟩
        exact hK _ _ _ rfl hby fun _ => IsOut (w := W)
      · have hc' : bn = false := by cases bn <;> simp_all
        simp only [h3, hc'] at hK ⊢
        go_simp
        apply hK
        · simp only [Act.put, List.setIfInBounds_toArray, List.set_cons_zero, List.set_cons_succ]
          exact rfl
        · exact Below.refl _ _
        · exact fun h => by cases h
    refine ⟨fun u W hb hd K hK => ?_, ?_⟩
    · simp only [Facts, nthR, Is, and_true] at hd
      obtain ⟨h3, h5, h6⟩ := hd
      by_cases hc : bn = true
      · replace h5 := h5 hc
        replace h6 := h6 hc
        simp only [h3, h5, h6, hc] at hK ⊢
        go_simp
        refine (RLess (ok_of hn8) (Lib.hid orderP_ok) hbl _).mono ?_
        rintro e wy ⟨rfl, hby⟩
        exact hK _ _ _ rfl hby fun _ => IsOut (w := W)
      · have hc' : bn = false := by cases bn <;> simp_all
        simp only [h3, hc'] at hK ⊢
        go_simp
        apply hK
        · simp only [Act.put, List.setIfInBounds_toArray, List.set_cons_zero, List.set_cons_succ]
          exact rfl
        · exact Below.refl _ _
        · exact fun h => by cases h
    refine ⟨fun u W hb hd K hK => ?_, ?_⟩
    · simp only [Facts, nthR, Is, and_true] at hd
      obtain ⟨h3, h7⟩ := hd
      by_cases hc : bn = true
      · replace h7 := h7 hc
        simp only [h3, h7, hc] at hK ⊢
        go_simp
        apply hK
        · simp only [Act.put, List.setIfInBounds_toArray, List.set_cons_zero, List.set_cons_succ]
          exact rfl
        · exact Below.refl _ _
        · exact (by have hz := hbf.out; rw [hc, Bool.true_and] at hz; rw [← hz]; exact IsOut)
      · have hc' : bn = false := by cases bn <;> simp_all
        simp only [h3, hc'] at hK ⊢
        go_simp
        apply hK
        · simp only [Act.put, List.setIfInBounds_toArray, List.set_cons_zero, List.set_cons_succ]
          exact rfl
        · exact Below.refl _ _
        · exact (by have hz := hbf.out; rw [hc', Bool.false_and] at hz; rw [← hz]; exact IsOut)
    exact trivial
  · exact (.is (.is (.is (.is (.cons (fun _ _ _ h _ => h) (.cons (fun _ _ _ h _ => h) (.cons (fun _ _ _ h _ => h) (.cons (fun _ _ _ h _ => h) (.cons (fun _ _ _ h _ => h) .nil)))))))))
  intro u w2 hb hd
  simp only [List.drop_succ_cons, List.drop_zero]
  simp only [Facts, nthR, Is, and_true] at hd
  have h8 := hd
  clear hd
  simp only [h8]
  clear h8
  replace bg1 := bg1.below hb lg1
  replace hb0 := hb0.trans (hb.mono hb0.size)
  replace lg1 := bg1.lt
  clear hb
  go_wp2_with (fail)
  refine bodyPost_ret (results_tmp Tryd.results31 _ _ _) rfl ?_
  exact ⟨rfl, hb0⟩
end Go.Proofs.YtnkikhnllnbhfaaDoor
