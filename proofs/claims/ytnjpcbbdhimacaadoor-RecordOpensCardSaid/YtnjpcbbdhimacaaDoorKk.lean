/-
 Joined: Rw2.
-/
import Derived.Test.YtnjpcbbdhimacaaDoorKj
namespace Go.Proofs.YtnjpcbbdhimacaaDoor
section
open Go.RowKit
set_option maxRecDepth 100000 in
set_option maxHeartbeats 4000000 in
theorem keysR_any (n : Nat) (hn : n = 4 ∨ n = 8) (key : List UInt8) (hl : key.length = 4 * n) (w : World) :
  Calls Tryd.prog 88 #[.string ⟨key.toArray⟩, BV tabR] w fun e w' => ∃ v, e = .returned v ∧ w'.ownsRow w.heap.size 56 16 v (n + 7) ((flatK (kWords n key)).map B8) ∧ Below w.heap.size w w' := by
 obtain ⟨X, hX⟩ : ∃ X, X = tabR := ⟨_, rfl⟩
 obtain ⟨FF, hF⟩ : ∃ FF, FF = flatK (kWords n key) := ⟨_, rfl⟩
 obtain ⟨T, hT⟩ : ∃ T, T = 4 * (n + 7) := ⟨_, rfl⟩
 obtain ⟨Z, hZ⟩ : ∃ Z : List UInt8, Z = List.replicate (4 * T) 0 := ⟨_, rfl⟩
 have HXL := Lib.hid (show X.length = 256 by rw [hX]; exact tabR_length)
 have HXG := Lib.hid (show ∀ x : UInt8, X.getD x.toNat 0 = boxR x by rw [hX]; exact tab_of)
 have HFL := Lib.hid (show FF.length = 4 * T by rw [hF, flatK_length, kWords_len, hT])
 have HZL := Lib.hid (show Z.length = 4 * T by rw [hZ, List.length_replicate])
 have HF1 := Lib.hid (show ∀ i, i < n → wordB FF i = wordB key i by rw [hF]; exact flat_first n key)
 have HF2 := Lib.hid (show ∀ j k, j < 3 * n + 28 → k < 4 → FF.getD (4 * (n + j) + k) 0 = FF.getD (4 * j + k) 0 ^^^ (newB n (n + j) (cK n key j) (wordB FF (n + j - 1))).getD k 0 by rw [hF]; exact fun j k => flat_next n hn key j k)
 have hmk : (Instr.makeSlice 152 (.int .i64 (4 * ((n : Int) + 7))) (.int .i64 (4 * ((n : Int) + 7)))).run Tryd.prog (w.alloc (.cells (X.map B8).toArray 137)) = .ok (.slice (some ⟨w.heap.size + 1, 0, none⟩) T T) ((w.alloc (.cells (X.map B8).toArray 137)).alloc (.cells (Z.map B8).toArray 153)) := by
  have := run_make_w4 T (by omega) Z hZ (w.alloc (.cells (X.map B8).toArray 137))
  rw [show (w.alloc (.cells (X.map B8).toArray 137)).heap.size = w.heap.size + 1 by simp, show (T : Int) = 4 * ((n : Int) + 7) by omega] at this
  exact this
 have hq : (key.length : Int) / 4 = (n : Int) := by omega
 have hq' : (key.length : Int).tdiv 4 = (n : Int) := by rw [Int.tdiv_eq_ediv_of_nonneg (by omega)]; omega
 have HL := Lib.hid hl
 have HN := Lib.hid hn
 have HT := Lib.hid hT
 have hn0 : (0 : Int) ≤ (n : Int) := by omega
 have hn8 : (n : Int) ≤ 8 := by omega
 obtain ⟨iR, hiR, hzR, hsR, hbR⟩ := info_parts infoW16
 obtain ⟨zR, hzRe⟩ : ∃ zR, zR = BV zero16 := ⟨_, rfl⟩
 have hzsR : zR.cells.size = 16 := by rw [hzRe]; rfl
 rw [← hzRe] at hzR
 clear hzRe
 rw [← hX, ← hF]
 clear hX hF hZ hl hn hT
 go_enter Tryd.func88, Tryd.ntmps88
 go_wp2
 clear hmk hq hq'
 have hT0 := (Blk.new_of w 137 (X.map B8).toArray (X.map B8) rfl).alloc (.cells (Z.map B8).toArray 153)
 have hW0 := Blk.new2_of w (.cells (X.map B8).toArray 137) 153 (Z.map B8).toArray (Z.map B8) rfl
 have hb0 := ((Below.refl w.heap.size w).alloc (Nat.le_refl _) (.cells (X.map B8).toArray 137)).alloc (by simp) (.cells (Z.map B8).toArray 153)
 have hne := (show w.heap.size ≠ w.heap.size + 1 ∧ w.heap.size ≤ w.heap.size + 1 from ⟨by omega, by omega⟩)
 generalize w.heap.size + 1 = gw at *
 go_loopw [8, 9] (fun c i wr => ∃ (m : Nat) (cc : UInt8), m ≤ T ∧ i = .int .i64 (m : Int) ∧ c = .int .u8 (cc.toNat : Int) ∧ Hid (cc = if m < n then 1 else cK n key (m - n)) ∧ Blk wr gw 153 ((FF.take (4 * m) ++ Z.drop (4 * m)).map B8) ∧ Blk wr w.heap.size 137 (X.map B8) ∧ Below w.heap.size w wr) (fun _ i _ => T - (intOf i).toNat)
 case atStart => exact ⟨0, 1, by omega, rfl, rfl, Lib.hid (by rw [if_pos (by have := HN.out; omega)]), by simpa using hW0, hT0, hb0⟩
 case round =>
  clear hT0 hW0 hb0
  obtain ⟨m, cc, hm, rfl, rfl, HC, hW, hT, hbw⟩ := hrel
  by_cases hlt : m < T
  ·
   have hd : decide (m < T) = true := by simp; omega
   by_cases hfirst : m < n
   ·
    have hdf : decide (m < n) = true := by simp; omega
    have hi0 := index_str key (4 * m) (by rw [HL.out]; omega)
    have hi1 := index_str key (4 * m + 1) (by rw [HL.out]; omega)
    have hi2 := index_str key (4 * m + 2) (by rw [HL.out]; omega)
    have hi3 := index_str key (4 * m + 3) (by rw [HL.out]; omega)
    have hwb := HF1.out m hfirst
    unfold wordB at hwb
    have HS := Lib.hid (show (FF.take (4 * m) ++ Z.drop (4 * m)).length = 4 * T ∧ _ from ⟨by rw [List.length_append, List.length_take, List.length_drop, HFL.out, HZL.out]; omega, words_set FF Z m _ _ _ _ (by rw [HFL.out]; omega) (by rw [HFL.out, HZL.out]) hwb⟩)
    clear hwb
    generalize key.getD (4 * m) 0 = k0 at *
    generalize key.getD (4 * m + 1) 0 = k1 at *
    generalize key.getD (4 * m + 2) 0 = k2 at *
    generalize key.getD (4 * m + 3) 0 = k3 at *
    have e0 : ((4 * m : Nat) : Int) = 4 * (m : Int) := by omega
    have e1 : ((4 * m + 1 : Nat) : Int) = 4 * (m : Int) + 1 := by omega
    have e2 : ((4 * m + 2 : Nat) : Int) = 4 * (m : Int) + 2 := by omega
    have e3 : ((4 * m + 3 : Nat) : Int) = 4 * (m : Int) + 3 := by omega
    rw [e0] at hi0
    rw [e1] at hi1
    rw [e2] at hi2
    rw [e3] at hi3
    have HI0 := Lib.hid hi0
    have HI1 := Lib.hid hi1
    have HI2 := Lib.hid hi2
    have HI3 := Lib.hid hi3
    have hm0 : (0 : Int) ≤ (m : Int) := by omega
    have hm1 : (m : Int) < (T : Int) := by omega
    have hm2 : (m : Int) < 8 := by omega
    have w0 : IntKind.i64.wrap (4 * (m : Int)) = 4 * (m : Int) := by rw [IntKind.wrap_i64]; omega
    have w1 : IntKind.i64.wrap (4 * (m : Int) + 1) = 4 * (m : Int) + 1 := by rw [IntKind.wrap_i64]; omega
    have w2 : IntKind.i64.wrap (4 * (m : Int) + 2) = 4 * (m : Int) + 2 := by rw [IntKind.wrap_i64]; omega
    have w3 : IntKind.i64.wrap (4 * (m : Int) + 3) = 4 * (m : Int) + 3 := by rw [IntKind.wrap_i64]; omega
    clear hi0 hi1 hi2 hi3 e0 e1 e2 e3
    go_wp2
    refine wp_region_noPanic ?_
    apply wp_region_once_tail (m := 23) (Z := []) (D := [[], [], [], [], [3], [2, 3, 4], [], [], [7], [7, 8], [6, 7, 8, 9], [], [], [12], [12, 13], [11, 12, 13, 14], [], [], [17], [17, 18], [16, 17, 18, 19], [2, 3, 4, 5, 6, 7, 8, 9, 10, 11, 12, 13, 14, 15, 16, 17, 18, 19, 20], [0, 1, 2, 3, 4, 5, 6, 7, 8, 9, 10, 11, 12, 13, 14, 15, 16, 17, 18, 19, 20, 21], [0, 1, 2, 3, 4, 5, 6, 7, 8, 9, 10, 11, 12, 13, 14, 15, 16, 17, 18, 19, 20, 21, 22]]) (J := [[], [], [], [], [3], [2, 4], [], [], [7], [8], [6, 9], [], [], [12], [13], [11, 14], [], [], [17], [18], [16, 19], [5, 10, 15, 20], [0, 1]]) (Je := [21, 22]) (Rs := [Is _, Is _, Is _, Is _, Is _, Is _, Is _, Is _, Is _, Is _, Is _, Is _, Is _, Is _, Is _, Is _, Is _, Is _, Is _, Is _, Is _, Is _, Is _])
    ·
     kernel_rfl
    ·
     kernel_rfl
    ·
     kernel_rfl
    ·
     kernel_rfl
    ·
     kernel_rfl
    ·
     kernel_rfl
    ·
     kernel_rfl
    ·
     exact fun h => absurd rfl h
    ·
     intro u
     simp only [List.take_succ_cons, List.take_zero, List.map_cons, List.map_nil, fillU, List.setIfInBounds_toArray, List.set_cons_zero, List.set_cons_succ, Nat.zero_add, Nat.reduceAdd]
     exact rfl
    ·
     simp only [List.take_succ_cons, List.take_zero]
     refine ⟨fun u W hb hd K hK => ?_, ?_⟩
     ·
      clear hd
      go_simp
      apply hK
      ·
       simp only [Act.put, List.setIfInBounds_toArray, List.set_cons_zero, List.set_cons_succ]
       exact rfl
      ·
       exact Below.refl _ _
      ·
       exact IsOut
     refine ⟨fun u W hb hd K hK => ?_, ?_⟩
     ·
      clear hd
      go_simp
      apply hK
      ·
       simp only [Act.put, List.setIfInBounds_toArray, List.set_cons_zero, List.set_cons_succ]
       exact rfl
      ·
       exact Below.refl _ _
      ·
       exact IsOut
     refine ⟨fun u W hb hd K hK => ?_, ?_⟩
     ·
      clear hd
      go_simp
      apply hK
      ·
       simp only [Act.put, List.setIfInBounds_toArray, List.set_cons_zero, List.set_cons_succ]
       exact rfl
      ·
       exact Below.refl _ _
      ·
       exact IsOut
     refine ⟨fun u W hb hd K hK => ?_, ?_⟩
     ·
      clear hd
      go_simp
      apply hK
      ·
       simp only [Act.put, List.setIfInBounds_toArray, List.set_cons_zero, List.set_cons_succ]
       exact rfl
      ·
       exact Below.refl _ _
      ·
       exact IsOut
     refine ⟨fun u W hb hd K hK => ?_, ?_⟩
     ·
      simp only [Facts, nthR, Is, and_true] at hd
      simp only [hd] at hK ⊢
      clear hd
      go_simp
      apply hK
      ·
       simp only [Act.put, List.setIfInBounds_toArray, List.set_cons_zero, List.set_cons_succ]
       exact rfl
      ·
       exact Below.refl _ _
      ·
       exact IsOut
     refine ⟨fun u W hb hd K hK => ?_, ?_⟩
     ·
      simp only [Facts, nthR, Is, and_true] at hd
      simp only [hd] at hK ⊢
      clear hd
      have hi := HI0.out W
      go_simp
      apply hK
      ·
       simp only [Act.put, List.setIfInBounds_toArray, List.set_cons_zero, List.set_cons_succ]
       exact rfl
      ·
       exact Below.refl _ _
      ·
       exact IsOut
     refine ⟨fun u W hb hd K hK => ?_, ?_⟩
     ·
      clear hd
      go_simp
      apply hK
      ·
       simp only [Act.put, List.setIfInBounds_toArray, List.set_cons_zero, List.set_cons_succ]
       exact rfl
      ·
       exact Below.refl _ _
      ·
       exact IsOut
     refine ⟨fun u W hb hd K hK => ?_, ?_⟩
     ·
      clear hd
      go_simp
      apply hK
      ·
       simp only [Act.put, List.setIfInBounds_toArray, List.set_cons_zero, List.set_cons_succ]
       exact rfl
      ·
       exact Below.refl _ _
      ·
       exact IsOut
     refine ⟨fun u W hb hd K hK => ?_, ?_⟩
     ·
      simp only [Facts, nthR, Is, and_true] at hd
      simp only [hd] at hK ⊢
      clear hd
      go_simp
      apply hK
      ·
       simp only [Act.put, List.setIfInBounds_toArray, List.set_cons_zero, List.set_cons_succ]
       exact rfl
      ·
       exact Below.refl _ _
      ·
       exact IsOut
     refine ⟨fun u W hb hd K hK => ?_, ?_⟩
     ·
      simp only [Facts, nthR, Is, and_true] at hd
      simp only [hd] at hK ⊢
      clear hd
      go_simp
      apply hK
      ·
       simp only [Act.put, List.setIfInBounds_toArray, List.set_cons_zero, List.set_cons_succ]
       exact rfl
      ·
       exact Below.refl _ _
      ·
       exact IsOut
     refine ⟨fun u W hb hd K hK => ?_, ?_⟩
     ·
      simp only [Facts, nthR, Is, and_true] at hd
      simp only [hd] at hK ⊢
      clear hd
      have hi := HI1.out W
      go_simp
      apply hK
      ·
       simp only [Act.put, List.setIfInBounds_toArray, List.set_cons_zero, List.set_cons_succ]
       exact rfl
      ·
       exact Below.refl _ _
      ·
       exact IsOut
     refine ⟨fun u W hb hd K hK => ?_, ?_⟩
     ·
      clear hd
      go_simp
      apply hK
      ·
       simp only [Act.put, List.setIfInBounds_toArray, List.set_cons_zero, List.set_cons_succ]
       exact rfl
      ·
       exact Below.refl _ _
      ·
       exact IsOut
     refine ⟨fun u W hb hd K hK => ?_, ?_⟩
     ·
      clear hd
      go_simp
      apply hK
      ·
       simp only [Act.put, List.setIfInBounds_toArray, List.set_cons_zero, List.set_cons_succ]
       exact rfl
      ·
       exact Below.refl _ _
      ·
       exact IsOut
     refine ⟨fun u W hb hd K hK => ?_, ?_⟩
     ·
      simp only [Facts, nthR, Is, and_true] at hd
      simp only [hd] at hK ⊢
      clear hd
      go_simp
      apply hK
      ·
       simp only [Act.put, List.setIfInBounds_toArray, List.set_cons_zero, List.set_cons_succ]
       exact rfl
      ·
       exact Below.refl _ _
      ·
       exact IsOut
     refine ⟨fun u W hb hd K hK => ?_, ?_⟩
     ·
      simp only [Facts, nthR, Is, and_true] at hd
      simp only [hd] at hK ⊢
      clear hd
      go_simp
      apply hK
      ·
       simp only [Act.put, List.setIfInBounds_toArray, List.set_cons_zero, List.set_cons_succ]
       exact rfl
      ·
       exact Below.refl _ _
      ·
       exact IsOut
     refine ⟨fun u W hb hd K hK => ?_, ?_⟩
     ·
      simp only [Facts, nthR, Is, and_true] at hd
      simp only [hd] at hK ⊢
      clear hd
      have hi := HI2.out W
      go_simp
      apply hK
      ·
       simp only [Act.put, List.setIfInBounds_toArray, List.set_cons_zero, List.set_cons_succ]
       exact rfl
      ·
       exact Below.refl _ _
      ·
       exact IsOut
     refine ⟨fun u W hb hd K hK => ?_, ?_⟩
     ·
      clear hd
      go_simp
      apply hK
      ·
       simp only [Act.put, List.setIfInBounds_toArray, List.set_cons_zero, List.set_cons_succ]
       exact rfl
      ·
       exact Below.refl _ _
      ·
       exact IsOut
     refine ⟨fun u W hb hd K hK => ?_, ?_⟩
     ·
      clear hd
      go_simp
      apply hK
      ·
       simp only [Act.put, List.setIfInBounds_toArray, List.set_cons_zero, List.set_cons_succ]
       exact rfl
      ·
       exact Below.refl _ _
      ·
       exact IsOut
     refine ⟨fun u W hb hd K hK => ?_, ?_⟩
     ·
      simp only [Facts, nthR, Is, and_true] at hd
      simp only [hd] at hK ⊢
      clear hd
      go_simp
      apply hK
      ·
       simp only [Act.put, List.setIfInBounds_toArray, List.set_cons_zero, List.set_cons_succ]
       exact rfl
      ·
       exact Below.refl _ _
      ·
       exact IsOut
     refine ⟨fun u W hb hd K hK => ?_, ?_⟩
     ·
      simp only [Facts, nthR, Is, and_true] at hd
      simp only [hd] at hK ⊢
      clear hd
      go_simp
      apply hK
      ·
       simp only [Act.put, List.setIfInBounds_toArray, List.set_cons_zero, List.set_cons_succ]
       exact rfl
      ·
       exact Below.refl _ _
      ·
       exact IsOut
     refine ⟨fun u W hb hd K hK => ?_, ?_⟩
     ·
      simp only [Facts, nthR, Is, and_true] at hd
      simp only [hd] at hK ⊢
      clear hd
      have hi := HI3.out W
      go_simp
      apply hK
      ·
       simp only [Act.put, List.setIfInBounds_toArray, List.set_cons_zero, List.set_cons_succ]
       exact rfl
      ·
       exact Below.refl _ _
      ·
       exact IsOut
     refine ⟨fun u W hb hd K hK => ?_, ?_⟩
     ·
      simp only [Facts, nthR, Is, and_true] at hd
      simp only [hd] at hK ⊢
      clear hd
      go_simp
      apply hK
      ·
       simp only [Act.put, List.setIfInBounds_toArray, List.set_cons_zero, List.set_cons_succ]
       exact rfl
      ·
       exact Below.refl _ _
      ·
       exact IsOut
     refine ⟨fun u W hb hd K hK => ?_, ?_⟩
     ·
      simp only [Facts, nthR, Is, and_true] at hd
      simp only [hd] at hK ⊢
      clear hd
      go_simp
      apply hK
      ·
       simp only [Act.put, List.setIfInBounds_toArray, List.set_cons_zero, List.set_cons_succ]
       exact rfl
      ·
       exact Below.refl _ _
      ·
       exact IsOut
     exact trivial
    ·
     skip
     exact trivial
    ·
     exact (.is (.is (.is (.is (.is (.is (.is (.is (.is (.is (.is (.is (.is (.is (.is (.is (.is (.is (.is (.is (.is (.is (.is .nil)))))))))))))))))))))))
    ·
     intro u W hb hd
     simp only [List.drop_succ_cons, List.drop_zero]
     simp only [Facts, nthR, Is, and_true] at hd
     simp only [hd]
     clear hd
     replace hW := hW.below hb hW.lt
     replace hT := hT.below hb hT.lt
     replace hbw := hbw.trans (hb.mono hbw.size)
     clear hb
     refine wpList_store_mid rfl 153 (.tmp 55) (.tmp 54) rfl gw (m * 4) _ rfl rfl (hW.there _ _ (by rw [List.length_map, HS.out.1]; show m * 4 + 4 ≤ 4 * T; omega)) infoW4s (one8 [k0, k1, k2, k3]) ?_
     have hW2 := hW.mid [B8 k0, B8 k1, B8 k2, B8 k3] (m * 4) _ W (by rw [List.length_map, HS.out.1]; show m * 4 + 4 ≤ 4 * T; omega)
     rw [show m * 4 + [B8 k0, B8 k1, B8 k2, B8 k3].length = m * 4 + 4 from rfl, HS.out.2] at hW2
     have hT2 := hT.grown (grown_setCells W gw (m * 4) [B8 k0, B8 k1, B8 k2, B8 k3]) (by simp; exact hne.1)
     have hb2 := below_new hbw (grown_setCells W gw (m * 4) [B8 k0, B8 k1, B8 k2, B8 k3]) hne.2 hbw.size
     clear hW hT hbw
     generalize W.setCells gw (m * 4) [B8 k0, B8 k1, B8 k2, B8 k3] = W2 at *
     go_wp2
     refine NoPanic.normal ?_
     go_wp2
     go_roundw
     case rel => exact ⟨m + 1, cc, by omega, by go_num, rfl, Lib.hid (by rw [HC.out, if_pos hfirst]; by_cases h : m + 1 < n; (rw [if_pos h]); (rw [if_neg h, show m + 1 - n = 0 by omega, cK_zero])), hW2, hT2, hb2⟩
     case measure => simp [intOf]; omega
   ·
    have hdf : decide (m < n) = false := by simp; omega
    have hn4 : (4 : Int) ≤ (n : Int) := by have := HN.out; omega
    obtain ⟨j, hj⟩ : ∃ j, m = n + j := ⟨m - n, by omega⟩
    obtain ⟨p, hp⟩ : ∃ p, m = p + 1 := ⟨m - 1, by omega⟩
    have HJ := Lib.hid (show m = n + j ∧ m = p + 1 ∧ j < 3 * n + 28 by have := HT.out; omega)
    have hz : ∀ W : World, (zeroValue 153).run Tryd.prog W = .ok (.agg ([(0 : UInt8), 0, 0, 0].map B8).toArray) W := fun W => by kernel_rfl
    have hp1 : (m : Int) - 1 = (p : Int) := by omega
    have hT60 : (T : Int) ≤ 60 := by have := HT.out; omega
    have hpw : wrap64 ((m : Int) - 1) = (p : Int) := by unfold wrap64; omega
    have hp0 : (0 : Int) ≤ (p : Int) := by omega
    have hpT : (p : Int) < (T : Int) := by omega
    have hlm := (show p < m by omega)
    have hwb : wordB FF p = [FF.getD (4 * p) 0, FF.getD (4 * p + 1) 0, FF.getD (4 * p + 2) 0, FF.getD (4 * p + 3) 0] := rfl
    have hrg := rangeAt_word (o := p * 4) hW hlm (by rw [HFL.out]; omega) rfl
    rw [hwb] at hrg
    generalize FF.getD (4 * p) 0 = x0 at *
    generalize FF.getD (4 * p + 1) 0 = x1 at *
    generalize FF.getD (4 * p + 2) 0 = x2 at *
    generalize FF.getD (4 * p + 3) 0 = x3 at *
    have HWB := Lib.hid hwb
    clear hwb hj hp
    go_upto_if 64 with (first
     | (refine wpList_load_mid rfl 153 (.tmp 59) rfl gw (p * 4) rfl ([x0, x1, x2, x3].map B8) _ hrg Tryd.underlying153 rfl infoW4s ?_)
     | (refine wpList_store_blk rfl 153 (.tmp 10) (.tmp 60) rfl rfl wr.heap.size _ rfl rfl 153 _ (Blk.new_of wr 153 _ ([(0 : UInt8), 0, 0, 0].map B8) rfl) infoW4s rfl (one8 [x0, x1, x2, x3]) ?_; intro w3 hX3 hg3))
    have hlw := hbw.size
    have hgwl := hW.lt
    have hW3 := (hW.alloc (.cells ([(0 : UInt8), 0, 0, 0].map B8).toArray 153)).grown hg3 (by simp; omega)
    have hT3 := (hT.alloc (.cells ([(0 : UInt8), 0, 0, 0].map B8).toArray 153)).grown hg3 (by simp; omega)
    have hb3 := below_new (hbw.alloc hlw (.cells ([(0 : UInt8), 0, 0, 0].map B8).toArray 153)) hg3 hlw (by simp; omega)
    have hnx := (show gw ≠ wr.heap.size ∧ w.heap.size ≠ wr.heap.size ∧ w.heap.size ≤ wr.heap.size by omega)
    clear hW hT hbw hg3 hrg hgwl hlw
    generalize wr.heap.size = gx at *
    obtain ⟨y, hy⟩ : ∃ y, y = newB n m cc [x0, x1, x2, x3] := ⟨_, rfl⟩
    have HY := Lib.hid hy
    clear hy
    go_cut [8] from 24 to 131 (fun c wx => ∃ c' : UInt8, c = .int .u8 (c'.toNat : Int) ∧ Hid (c' = if m % n = 0 then mulR cc 2 else cc) ∧ Blk wx gx 153 (y.map B8) ∧ Blk wx gw 153 ((FF.take (4 * m) ++ Z.drop (4 * m)).map B8) ∧ Blk wx w.heap.size 137 (X.map B8) ∧ Below w.heap.size w wx)
    case first =>
     have HX0 := Lib.hid (fun (W : World) (hb : Below w3.heap.size w3 W) => (show W.cell? ⟨gx, 0, none⟩ = some (.int .u8 (x0.toNat : Int)) from (hX3.below hb hX3.lt).cell 0))
     have HX1 := Lib.hid (fun (W : World) (hb : Below w3.heap.size w3 W) => (show W.cell? ⟨gx, 1, none⟩ = some (.int .u8 (x1.toNat : Int)) from (hX3.below hb hX3.lt).cell 1))
     have HX2 := Lib.hid (fun (W : World) (hb : Below w3.heap.size w3 W) => (show W.cell? ⟨gx, 2, none⟩ = some (.int .u8 (x2.toNat : Int)) from (hX3.below hb hX3.lt).cell 2))
     have HX3 := Lib.hid (fun (W : World) (hb : Below w3.heap.size w3 W) => (show W.cell? ⟨gx, 3, none⟩ = some (.int .u8 (x3.toNat : Int)) from (hX3.below hb hX3.lt).cell 3))
     have HB := fun (x : UInt8) (W : World) (hb : Below w3.heap.size w3 W) => (show W.cell? ⟨w.heap.size, x.toNat, none⟩ = some (.int .u8 ((boxR x).toNat : Int)) by rw [← HXG.out x]; exact (hT3.below hb hT3.lt).at8 _ (by rw [HXL.out]; exact u8_lt x))
     have HB0 := HB x0
     have HB1 := HB x1
     have HB2 := HB x2
     have HB3 := HB x3
     have hy0 : (x0.toNat : Int) < 256 := by have := u8_lt x0; omega
     have hy1 : (x1.toNat : Int) < 256 := by have := u8_lt x1; omega
     have hy2 : (x2.toNat : Int) < 256 := by have := u8_lt x2; omega
     have hy3 : (x3.toNat : Int) < 256 := by have := u8_lt x3; omega
     have HN0 : Hid (m % n = 0 → y = [boxR x1 ^^^ cc, boxR x2, boxR x3, boxR x0]) := (fun h => by rw [HY.out]; unfold newB; rw [if_pos h]; rfl)
     have HN1 : Hid (¬ m % n = 0 → n = 8 ∧ m % n = 4 → y = [boxR x0, boxR x1, boxR x2, boxR x3]) := (fun h h' => by rw [HY.out]; unfold newB; rw [if_neg h, if_pos h']; rfl)
     have HN2 : Hid (¬ m % n = 0 → ¬ (n = 8 ∧ m % n = 4) → y = [x0, x1, x2, x3]) := (fun h h' => by rw [HY.out]; unfold newB; rw [if_neg h, if_neg h'])
     clear HB
     generalize boxR x0 = t0 at *
     generalize boxR x1 = t1 at *
     generalize boxR x2 = t2 at *
     generalize boxR x3 = t3 at *
     replace HB0 := Lib.hid HB0
     replace HB1 := Lib.hid HB1
     replace HB2 := Lib.hid HB2
     replace HB3 := Lib.hid HB3
     have hmn : (m : Int) % (n : Int) = ((m % n : Nat) : Int) := by omega
     by_cases h0 : m % n = 0
     ·
      have hmod : ((m : Int) % (n : Int) == 0) = true := by rw [beq_iff_eq]; omega
      have hyy := HN0.out h0
      obtain ⟨z, hz1⟩ : ∃ z, z = t1 ^^^ cc := ⟨_, rfl⟩
      have hxx : bits .xor .u8 (t1.toNat : Int) (cc.toNat : Int) = (z.toNat : Int) := by rw [hz1, r_xor]
      rw [← hz1] at hyy
      have HYY := Lib.hid hyy
      have h2 := mulR_any cc 2
      obtain ⟨c2, hc2⟩ : ∃ c2, c2 = mulR cc 2 := ⟨_, rfl⟩
      rw [← hc2] at h2
      have HC2 := Lib.hid hc2
      have H0 := Lib.hid h0
      have H2 : Hid (∀ W : World, Calls Tryd.prog 89 #[.int .u8 (cc.toNat : Int), .int .u8 2] W fun e w' => e = .returned (.int .u8 (c2.toNat : Int)) ∧ w' = W) := h2
      clear hz1 hyy hc2 hmn h0 h2
      simp only [hmod]
      clear hmod
      go_wp2
      refine wp_region_noPanic ?_
      apply wp_region_once_tail (m := 19) (Z := []) (D := [[], [0], [0, 1], [0, 1, 2], [], [0, 1, 2, 3, 4], [], [6], [6, 7], [6, 7, 8], [], [10], [10, 11], [10, 11, 12], [], [14], [14, 15], [14, 15, 16], [0, 1, 2, 3, 4, 5, 6, 7, 8, 9, 10, 11, 12, 13, 14, 15, 16, 17], [0, 1, 2, 3, 4, 5, 6, 7, 8, 9, 10, 11, 12, 13, 14, 15, 16, 17, 18]]) (J := [[], [0], [1], [2], [], [3, 4], [], [6], [7], [8], [], [10], [11], [12], [], [14], [15], [16], [5, 9, 13, 17]]) (Je := [18]) (Rs := [Is _, Is _, Is _, Is _, Is _, Is _, Is _, Is _, Is _, Is _, Is _, Is _, Is _, Is _, Is _, Is _, Is _, Is _, Is _])
      ·
       kernel_rfl
      ·
       kernel_rfl
      ·
       kernel_rfl
      ·
       kernel_rfl
      ·
       kernel_rfl
      ·
       kernel_rfl
      ·
       kernel_rfl
      ·
       exact fun h => absurd rfl h
      ·
       intro u
       simp only [List.take_succ_cons, List.take_zero, List.map_cons, List.map_nil, fillU, List.setIfInBounds_toArray, List.set_cons_zero, List.set_cons_succ, Nat.zero_add, Nat.reduceAdd]
       exact rfl
      ·
       simp only [List.take_succ_cons, List.take_zero]
       refine ⟨fun u W hb hd K hK => ?_, ?_⟩
       ·
        clear hd
        go_simp
        apply hK
        ·
         simp only [Act.put, List.setIfInBounds_toArray, List.set_cons_zero, List.set_cons_succ]
         exact rfl
        ·
         exact Below.refl _ _
        ·
         exact IsOut
       refine ⟨fun u W hb hd K hK => ?_, ?_⟩
       ·
        simp only [Facts, nthR, Is, and_true] at hd
        simp only [hd] at hK ⊢
        clear hd
        have hcc := HX1.out W hb
        go_simp
        apply hK
        ·
         simp only [Act.put, List.setIfInBounds_toArray, List.set_cons_zero, List.set_cons_succ]
         exact rfl
        ·
         exact Below.refl _ _
        ·
         exact IsOut
       refine ⟨fun u W hb hd K hK => ?_, ?_⟩
       ·
        simp only [Facts, nthR, Is, and_true] at hd
        simp only [hd] at hK ⊢
        clear hd
        go_simp
        apply hK
        ·
         simp only [Act.put, List.setIfInBounds_toArray, List.set_cons_zero, List.set_cons_succ]
         exact rfl
        ·
         exact Below.refl _ _
        ·
         exact IsOut
       refine ⟨fun u W hb hd K hK => ?_, ?_⟩
       ·
        simp only [Facts, nthR, Is, and_true] at hd
        simp only [hd] at hK ⊢
        clear hd
        have hcc := HB1.out W hb
        go_simp
        apply hK
        ·
         simp only [Act.put, List.setIfInBounds_toArray, List.set_cons_zero, List.set_cons_succ]
         exact rfl
        ·
         exact Below.refl _ _
        ·
         exact IsOut
       refine ⟨fun u W hb hd K hK => ?_, ?_⟩
       ·
        clear hd
        go_simp
        apply hK
        ·
         simp only [Act.put, List.setIfInBounds_toArray, List.set_cons_zero, List.set_cons_succ]
         exact rfl
        ·
         exact Below.refl _ _
        ·
         exact IsOut
       refine ⟨fun u W hb hd K hK => ?_, ?_⟩
       ·
        simp only [Facts, nthR, Is, and_true] at hd
        simp only [hd] at hK ⊢
        clear hd
        go_simp
        apply hK
        ·
         simp only [Act.put, List.setIfInBounds_toArray, List.set_cons_zero, List.set_cons_succ]
         exact rfl
        ·
         exact Below.refl _ _
        ·
         exact IsOut
       refine ⟨fun u W hb hd K hK => ?_, ?_⟩
       ·
        clear hd
        go_simp
        apply hK
        ·
         simp only [Act.put, List.setIfInBounds_toArray, List.set_cons_zero, List.set_cons_succ]
         exact rfl
        ·
         exact Below.refl _ _
        ·
         exact IsOut
       refine ⟨fun u W hb hd K hK => ?_, ?_⟩
       ·
        simp only [Facts, nthR, Is, and_true] at hd
        simp only [hd] at hK ⊢
        clear hd
        have hcc := HX2.out W hb
        go_simp
        apply hK
        ·
         simp only [Act.put, List.setIfInBounds_toArray, List.set_cons_zero, List.set_cons_succ]
         exact rfl
        ·
         exact Below.refl _ _
        ·
         exact IsOut
       refine ⟨fun u W hb hd K hK => ?_, ?_⟩
       ·
        simp only [Facts, nthR, Is, and_true] at hd
        simp only [hd] at hK ⊢
        clear hd
        go_simp
        apply hK
        ·
         simp only [Act.put, List.setIfInBounds_toArray, List.set_cons_zero, List.set_cons_succ]
         exact rfl
        ·
         exact Below.refl _ _
        ·
         exact IsOut
       refine ⟨fun u W hb hd K hK => ?_, ?_⟩
       ·
        simp only [Facts, nthR, Is, and_true] at hd
        simp only [hd] at hK ⊢
        clear hd
        have hcc := HB2.out W hb
        go_simp
        apply hK
        ·
         simp only [Act.put, List.setIfInBounds_toArray, List.set_cons_zero, List.set_cons_succ]
         exact rfl
        ·
         exact Below.refl _ _
        ·
         exact IsOut
       refine ⟨fun u W hb hd K hK => ?_, ?_⟩
       ·
        clear hd
        go_simp
        apply hK
        ·
         simp only [Act.put, List.setIfInBounds_toArray, List.set_cons_zero, List.set_cons_succ]
         exact rfl
        ·
         exact Below.refl _ _
        ·
         exact IsOut
       refine ⟨fun u W hb hd K hK => ?_, ?_⟩
       ·
        simp only [Facts, nthR, Is, and_true] at hd
        simp only [hd] at hK ⊢
        clear hd
        have hcc := HX3.out W hb
        go_simp
        apply hK
        ·
         simp only [Act.put, List.setIfInBounds_toArray, List.set_cons_zero, List.set_cons_succ]
         exact rfl
        ·
         exact Below.refl _ _
        ·
         exact IsOut
       refine ⟨fun u W hb hd K hK => ?_, ?_⟩
       ·
        simp only [Facts, nthR, Is, and_true] at hd
        simp only [hd] at hK ⊢
        clear hd
        go_simp
        apply hK
        ·
         simp only [Act.put, List.setIfInBounds_toArray, List.set_cons_zero, List.set_cons_succ]
         exact rfl
        ·
         exact Below.refl _ _
        ·
         exact IsOut
       refine ⟨fun u W hb hd K hK => ?_, ?_⟩
       ·
        simp only [Facts, nthR, Is, and_true] at hd
        simp only [hd] at hK ⊢
        clear hd
        have hcc := HB3.out W hb
        go_simp
        apply hK
        ·
         simp only [Act.put, List.setIfInBounds_toArray, List.set_cons_zero, List.set_cons_succ]
         exact rfl
        ·
         exact Below.refl _ _
        ·
         exact IsOut
       refine ⟨fun u W hb hd K hK => ?_, ?_⟩
       ·
        clear hd
        go_simp
        apply hK
        ·
         simp only [Act.put, List.setIfInBounds_toArray, List.set_cons_zero, List.set_cons_succ]
         exact rfl
        ·
         exact Below.refl _ _
        ·
         exact IsOut
       refine ⟨fun u W hb hd K hK => ?_, ?_⟩
       ·
        simp only [Facts, nthR, Is, and_true] at hd
        simp only [hd] at hK ⊢
        clear hd
        have hcc := HX0.out W hb
        go_simp
        apply hK
        ·
         simp only [Act.put, List.setIfInBounds_toArray, List.set_cons_zero, List.set_cons_succ]
         exact rfl
        ·
         exact Below.refl _ _
        ·
         exact IsOut
       refine ⟨fun u W hb hd K hK => ?_, ?_⟩
       ·
        simp only [Facts, nthR, Is, and_true] at hd
        simp only [hd] at hK ⊢
        clear hd
        go_simp
        apply hK
        ·
         simp only [Act.put, List.setIfInBounds_toArray, List.set_cons_zero, List.set_cons_succ]
         exact rfl
        ·
         exact Below.refl _ _
        ·
         exact IsOut
       refine ⟨fun u W hb hd K hK => ?_, ?_⟩
       ·
        simp only [Facts, nthR, Is, and_true] at hd
        simp only [hd] at hK ⊢
        clear hd
        have hcc := HB0.out W hb
        go_simp
        apply hK
        ·
         simp only [Act.put, List.setIfInBounds_toArray, List.set_cons_zero, List.set_cons_succ]
         exact rfl
        ·
         exact Below.refl _ _
        ·
         exact IsOut
       refine ⟨fun u W hb hd K hK => ?_, ?_⟩
       ·
        simp only [Facts, nthR, Is, and_true] at hd
        simp only [hd] at hK ⊢
        clear hd
        go_simp
        apply hK
        ·
         simp only [Act.put, List.setIfInBounds_toArray, List.set_cons_zero, List.set_cons_succ]
         exact rfl
        ·
         exact Below.refl _ _
        ·
         exact IsOut
       exact trivial
      ·
       skip
       exact trivial
      ·
       exact (.is (.is (.is (.is (.is (.is (.is (.is (.is (.is (.is (.is (.is (.is (.is (.is (.is (.is (.is .nil)))))))))))))))))))
      ·
       intro u W hb hd
       simp only [List.drop_succ_cons, List.drop_zero]
       simp only [Facts, nthR, Is, and_true] at hd
       simp only [hd]
       clear hd
       replace hW3 := hW3.below hb hW3.lt
       replace hT3 := hT3.below hb hT3.lt
       replace hX3 := hX3.below hb hX3.lt
       replace hb3 := hb3.trans (hb.mono hb3.size)
       clear hb HX0 HX1 HX2 HX3 HB0 HB1 HB2 HB3
       refine wpList_store_blk rfl 153 (.tmp 10) (.tmp 83) rfl rfl gx _ rfl rfl 153 _ hX3 infoW4s rfl (one8 [z, t2, t3, t0]) ?_
       intro w5 hX5 hg5
       have hW5 := hW3.grown hg5 (by simp; exact hnx.1)
       have hT5 := hT3.grown hg5 (by simp; exact hnx.2.1)
       have hb5 := below_new hb3 hg5 hnx.2.2 hb3.size
       clear hW3 hT3 hX3 hb3 hg5
       go_wp2
       refine NoPanic.normal ?_
       have h2 := H2.out
       go_wp2_with (refine (h2 _).mono ?_; rintro e wy ⟨rfl, hwy⟩; subst hwy)
       go_meet
       case rel => exact ⟨c2, rfl, Lib.hid (by rw [if_pos H0.out, HC2.out]), by rw [HYY.out]; exact hX5, hW5, hT5, hb5⟩
     ·
      have hmod : ((m : Int) % (n : Int) == 0) = false := by rw [beq_eq_false_iff_ne]; omega
      have H0 := Lib.hid h0
      by_cases h8 : n = 8
      ·
       have hn88 : ((n : Int) == 8) = true := by rw [beq_iff_eq]; omega
       by_cases h4 : m % n = 4
       ·
        have hm4 : ((m : Int) % (n : Int) == 4) = true := by rw [beq_iff_eq]; omega
        have HYY := Lib.hid (HN1.out h0 ⟨h8, h4⟩)
        clear hmn h0 h8 h4
        simp only [hmod]
        clear hmod
        go_wp2
        refine wp_region_noPanic ?_
        apply wp_region_once_tail (m := 17) (Z := []) (D := [[], [0], [0, 1], [0, 1, 2], [], [4], [4, 5], [4, 5, 6], [], [8], [8, 9], [8, 9, 10], [], [12], [12, 13], [12, 13, 14], [0, 1, 2, 3, 4, 5, 6, 7, 8, 9, 10, 11, 12, 13, 14, 15], [0, 1, 2, 3, 4, 5, 6, 7, 8, 9, 10, 11, 12, 13, 14, 15, 16]]) (J := [[], [0], [1], [2], [], [4], [5], [6], [], [8], [9], [10], [], [12], [13], [14], [3, 7, 11, 15]]) (Je := [16]) (Rs := [Is _, Is _, Is _, Is _, Is _, Is _, Is _, Is _, Is _, Is _, Is _, Is _, Is _, Is _, Is _, Is _, Is _])
        ·
         kernel_rfl
        ·
         kernel_rfl
        ·
         kernel_rfl
        ·
         kernel_rfl
        ·
         kernel_rfl
        ·
         kernel_rfl
        ·
         kernel_rfl
        ·
         exact fun h => absurd rfl h
        ·
         intro u
         simp only [List.take_succ_cons, List.take_zero, List.map_cons, List.map_nil, fillU, List.setIfInBounds_toArray, List.set_cons_zero, List.set_cons_succ, Nat.zero_add, Nat.reduceAdd]
         exact rfl
        ·
         simp only [List.take_succ_cons, List.take_zero]
         refine ⟨fun u W hb hd K hK => ?_, ?_⟩
         ·
          clear hd
          go_simp
          apply hK
          ·
           simp only [Act.put, List.setIfInBounds_toArray, List.set_cons_zero, List.set_cons_succ]
           exact rfl
          ·
           exact Below.refl _ _
          ·
           exact IsOut
         refine ⟨fun u W hb hd K hK => ?_, ?_⟩
         ·
          simp only [Facts, nthR, Is, and_true] at hd
          simp only [hd] at hK ⊢
          clear hd
          have hcc := HX0.out W hb
          go_simp
          apply hK
          ·
           simp only [Act.put, List.setIfInBounds_toArray, List.set_cons_zero, List.set_cons_succ]
           exact rfl
          ·
           exact Below.refl _ _
          ·
           exact IsOut
         refine ⟨fun u W hb hd K hK => ?_, ?_⟩
         ·
          simp only [Facts, nthR, Is, and_true] at hd
          simp only [hd] at hK ⊢
          clear hd
          go_simp
          apply hK
          ·
           simp only [Act.put, List.setIfInBounds_toArray, List.set_cons_zero, List.set_cons_succ]
           exact rfl
          ·
           exact Below.refl _ _
          ·
           exact IsOut
         refine ⟨fun u W hb hd K hK => ?_, ?_⟩
         ·
          simp only [Facts, nthR, Is, and_true] at hd
          simp only [hd] at hK ⊢
          clear hd
          have hcc := HB0.out W hb
          go_simp
          apply hK
          ·
           simp only [Act.put, List.setIfInBounds_toArray, List.set_cons_zero, List.set_cons_succ]
           exact rfl
          ·
           exact Below.refl _ _
          ·
           exact IsOut
         refine ⟨fun u W hb hd K hK => ?_, ?_⟩
         ·
          clear hd
          go_simp
          apply hK
          ·
           simp only [Act.put, List.setIfInBounds_toArray, List.set_cons_zero, List.set_cons_succ]
           exact rfl
          ·
           exact Below.refl _ _
          ·
           exact IsOut
         refine ⟨fun u W hb hd K hK => ?_, ?_⟩
         ·
          simp only [Facts, nthR, Is, and_true] at hd
          simp only [hd] at hK ⊢
          clear hd
          have hcc := HX1.out W hb
          go_simp
          apply hK
          ·
           simp only [Act.put, List.setIfInBounds_toArray, List.set_cons_zero, List.set_cons_succ]
           exact rfl
          ·
           exact Below.refl _ _
          ·
           exact IsOut
         refine ⟨fun u W hb hd K hK => ?_, ?_⟩
         ·
          simp only [Facts, nthR, Is, and_true] at hd
          simp only [hd] at hK ⊢
          clear hd
          go_simp
          apply hK
          ·
           simp only [Act.put, List.setIfInBounds_toArray, List.set_cons_zero, List.set_cons_succ]
           exact rfl
          ·
           exact Below.refl _ _
          ·
           exact IsOut
         refine ⟨fun u W hb hd K hK => ?_, ?_⟩
         ·
          simp only [Facts, nthR, Is, and_true] at hd
          simp only [hd] at hK ⊢
          clear hd
          have hcc := HB1.out W hb
          go_simp
          apply hK
          ·
           simp only [Act.put, List.setIfInBounds_toArray, List.set_cons_zero, List.set_cons_succ]
           exact rfl
          ·
           exact Below.refl _ _
          ·
           exact IsOut
         refine ⟨fun u W hb hd K hK => ?_, ?_⟩
         ·
          clear hd
          go_simp
          apply hK
          ·
           simp only [Act.put, List.setIfInBounds_toArray, List.set_cons_zero, List.set_cons_succ]
           exact rfl
          ·
           exact Below.refl _ _
          ·
           exact IsOut
         refine ⟨fun u W hb hd K hK => ?_, ?_⟩
         ·
          simp only [Facts, nthR, Is, and_true] at hd
          simp only [hd] at hK ⊢
          clear hd
          have hcc := HX2.out W hb
          go_simp
          apply hK
          ·
           simp only [Act.put, List.setIfInBounds_toArray, List.set_cons_zero, List.set_cons_succ]
           exact rfl
          ·
           exact Below.refl _ _
          ·
           exact IsOut
         refine ⟨fun u W hb hd K hK => ?_, ?_⟩
         ·
          simp only [Facts, nthR, Is, and_true] at hd
          simp only [hd] at hK ⊢
          clear hd
          go_simp
          apply hK
          ·
           simp only [Act.put, List.setIfInBounds_toArray, List.set_cons_zero, List.set_cons_succ]
           exact rfl
          ·
           exact Below.refl _ _
          ·
           exact IsOut
         refine ⟨fun u W hb hd K hK => ?_, ?_⟩
         ·
          simp only [Facts, nthR, Is, and_true] at hd
          simp only [hd] at hK ⊢
          clear hd
          have hcc := HB2.out W hb
          go_simp
          apply hK
          ·
           simp only [Act.put, List.setIfInBounds_toArray, List.set_cons_zero, List.set_cons_succ]
           exact rfl
          ·
           exact Below.refl _ _
          ·
           exact IsOut
         refine ⟨fun u W hb hd K hK => ?_, ?_⟩
         ·
          clear hd
          go_simp
          apply hK
          ·
           simp only [Act.put, List.setIfInBounds_toArray, List.set_cons_zero, List.set_cons_succ]
           exact rfl
          ·
           exact Below.refl _ _
          ·
           exact IsOut
         refine ⟨fun u W hb hd K hK => ?_, ?_⟩
         ·
          simp only [Facts, nthR, Is, and_true] at hd
          simp only [hd] at hK ⊢
          clear hd
          have hcc := HX3.out W hb
          go_simp
          apply hK
          ·
           simp only [Act.put, List.setIfInBounds_toArray, List.set_cons_zero, List.set_cons_succ]
           exact rfl
          ·
           exact Below.refl _ _
          ·
           exact IsOut
         refine ⟨fun u W hb hd K hK => ?_, ?_⟩
         ·
          simp only [Facts, nthR, Is, and_true] at hd
          simp only [hd] at hK ⊢
          clear hd
          go_simp
          apply hK
          ·
           simp only [Act.put, List.setIfInBounds_toArray, List.set_cons_zero, List.set_cons_succ]
           exact rfl
          ·
           exact Below.refl _ _
          ·
           exact IsOut
         refine ⟨fun u W hb hd K hK => ?_, ?_⟩
         ·
          simp only [Facts, nthR, Is, and_true] at hd
          simp only [hd] at hK ⊢
          clear hd
          have hcc := HB3.out W hb
          go_simp
          apply hK
          ·
           simp only [Act.put, List.setIfInBounds_toArray, List.set_cons_zero, List.set_cons_succ]
           exact rfl
          ·
           exact Below.refl _ _
          ·
           exact IsOut
         refine ⟨fun u W hb hd K hK => ?_, ?_⟩
         ·
          simp only [Facts, nthR, Is, and_true] at hd
          simp only [hd] at hK ⊢
          clear hd
          go_simp
          apply hK
          ·
           simp only [Act.put, List.setIfInBounds_toArray, List.set_cons_zero, List.set_cons_succ]
           exact rfl
          ·
           exact Below.refl _ _
          ·
           exact IsOut
         exact trivial
        ·
         skip
         exact trivial
        ·
         exact (.is (.is (.is (.is (.is (.is (.is (.is (.is (.is (.is (.is (.is (.is (.is (.is (.is .nil)))))))))))))))))
        ·
         intro u W hb hd
         simp only [List.drop_succ_cons, List.drop_zero]
         simp only [Facts, nthR, Is, and_true] at hd
         simp only [hd]
         clear hd
         replace hW3 := hW3.below hb hW3.lt
         replace hT3 := hT3.below hb hT3.lt
         replace hX3 := hX3.below hb hX3.lt
         replace hb3 := hb3.trans (hb.mono hb3.size)
         clear hb HX0 HX1 HX2 HX3 HB0 HB1 HB2 HB3
         refine wpList_store_blk rfl 153 (.tmp 10) (.tmp 110) rfl rfl gx _ rfl rfl 153 _ hX3 infoW4s rfl (one8 [t0, t1, t2, t3]) ?_
         intro w5 hX5 hg5
         have hW5 := hW3.grown hg5 (by simp; exact hnx.1)
         have hT5 := hT3.grown hg5 (by simp; exact hnx.2.1)
         have hb5 := below_new hb3 hg5 hnx.2.2 hb3.size
         clear hW3 hT3 hX3 hb3 hg5
         go_wp2
         refine NoPanic.normal ?_
         go_wp2
         go_meet
         case rel => exact ⟨cc, rfl, Lib.hid (by rw [if_neg H0.out]), by rw [HYY.out]; exact hX5, hW5, hT5, hb5⟩
       ·
        have hm4 : ((m : Int) % (n : Int) == 4) = false := by rw [beq_eq_false_iff_ne]; omega
        have HYY := Lib.hid (HN2.out h0 (fun h => h4 h.2))
        clear hmn h0 h8 h4
        simp only [hmod]
        clear hmod
        go_wp2
        go_meet
        case rel => exact ⟨cc, rfl, Lib.hid (by rw [if_neg H0.out]), by rw [HYY.out]; exact hX3, hW3, hT3, hb3⟩
      ·
       have hn88 : ((n : Int) == 8) = false := by rw [beq_eq_false_iff_ne]; omega
       have HYY := Lib.hid (HN2.out h0 (fun h => h8 h.1))
       clear hmn h0 h8
       simp only [hmod]
       clear hmod
       go_wp2
       go_meet
       case rel => exact ⟨cc, rfl, Lib.hid (by rw [if_neg H0.out]), by rw [HYY.out]; exact hX3, hW3, hT3, hb3⟩
    case rest =>
     clear hX3 hW3 hT3 hb3
     obtain ⟨c', rfl, HC', hX, hW, hT, hbw⟩ := hcut
     have HYL := Lib.hid (show y.length = 4 by rw [HY.out]; exact newB_length _ _ _ _ _ _ _)
     go_wp2
     go_loopw [11] (fun i wr => ∃ k : Nat, k ≤ 4 ∧ i = .int .i64 (k : Int) ∧ Blk wr gx 153 (y.map B8) ∧ Blk wr gw 153 ((FF.take (4 * m + k) ++ Z.drop (4 * m + k)).map B8) ∧ Blk wr w.heap.size 137 (X.map B8) ∧ Below w.heap.size w wr) (fun i _ => 4 - (intOf i).toNat)
     case atStart => exact ⟨0, by omega, rfl, hX, by simpa using hW, hT, hbw⟩
     case round =>
      clear hX hW hT hbw
      obtain ⟨k, hk, rfl, hX, hW, hT, hbw⟩ := hrel
      by_cases hlk : k < 4
      ·
       have hdk : decide ((k : Int) < 4) = true := by simp; omega
       have hlen := len_to FF Z (4 * m + k) (by rw [HFL.out]; omega) (by rw [HFL.out, HZL.out])
       obtain ⟨hj1, hj2, hj3⟩ := HJ.out
       obtain ⟨v, hv⟩ : ∃ v, v = FF.getD (4 * m + k) 0 := ⟨_, rfl⟩
       have HST := Lib.hid (show ((FF.take (4 * m + k) ++ Z.drop (4 * m + k)).set (4 * m + k) v) = FF.take (4 * m + (k + 1)) ++ Z.drop (4 * m + (k + 1)) by rw [hv]; exact set_to FF Z (4 * m + k) 0 (by rw [HFL.out]; omega) (by rw [HZL.out]; omega))
       obtain ⟨a, ha⟩ : ∃ a, a = FF.getD (4 * j + k) 0 := ⟨_, rfl⟩
       obtain ⟨b, hb2⟩ : ∃ b, b = y.getD k 0 := ⟨_, rfl⟩
       have hvx : v = a ^^^ b := by
        have h := HF2.out j k hj3 hlk
        have e1 : m - 1 = p := by omega
        have e2 : m - n = j := by omega
        rw [← hj1, e1, HWB.out] at h
        rw [hv, ha, hb2, h, HY.out, HC.out, if_neg hfirst, e2]
       have hxx : bits .xor .u8 (a.toNat : Int) (b.toNat : Int) = (v.toNat : Int) := by rw [hvx, r_xor]
       have HA := Lib.hid (fun (W : World) (hB : Below wr.heap.size wr W) => (show W.cell? ⟨gw, j * 4 + k, none⟩ = some (.int .u8 (a.toNat : Int)) by
        have h := (hW.below hB hW.lt).at8 (j * 4 + k) (by rw [hlen, HZL.out]; omega)
        rw [h, getD_into FF Z _ _ (by omega) (by rw [HFL.out]; omega), ha, Nat.mul_comm j 4]))
       have HB := Lib.hid (fun (W : World) (hB : Below wr.heap.size wr W) => (show W.cell? ⟨gx, k, none⟩ = some (.int .u8 (b.toNat : Int)) by
        rw [hb2]; exact (hX.below hB hX.lt).at8 k (by rw [HYL.out]; omega)))
       have HO := Lib.hid (fun (W : World) (hB : Below wr.heap.size wr W) => (hW.below hB hW.lt).at8 (m * 4 + k) (by rw [hlen, HZL.out]; omega))
       have hmN := (show (m : Int) - (n : Int) = (j : Int) by omega)
       have hjw : IntKind.i64.wrap ((m : Int) - (n : Int)) = (j : Int) := by rw [IntKind.wrap_i64]; omega
       have hjw' : wrap64 ((m : Int) - (n : Int)) = (j : Int) := by unfold wrap64; omega
       have hj0 : (0 : Int) ≤ (j : Int) := by omega
       have hjT : (j : Int) < (T : Int) := by omega
       have hm0 : (0 : Int) ≤ (m : Int) := by omega
       have hmT : (m : Int) < (T : Int) := by omega
       have hk0 : (0 : Int) ≤ (k : Int) := by omega
       have hk4 : (k : Int) < 4 := by omega
       generalize (FF.take (4 * m + k) ++ Z.drop (4 * m + k)) = L at *
       clear hlen hj1 hj2 hj3 hv ha hb2 hvx hmN
       go_wp2
       refine wp_region_noPanic ?_
       apply wp_region_once_tail (m := 17) (Z := []) (D := [[], [], [], [], [], [], [4, 5], [], [3, 4, 5, 6], [3, 4, 5, 6, 7, 8], [3, 4, 5, 6, 7, 8, 9], [], [11], [11, 12], [3, 4, 5, 6, 7, 8, 9, 10, 11, 12, 13], [0, 1], [0, 1, 2, 3, 4, 5, 6, 7, 8, 9, 10, 11, 12, 13, 14, 15], [0, 1, 2, 3, 4, 5, 6, 7, 8, 9, 10, 11, 12, 13, 14, 15, 16]]) (J := [[], [], [], [], [], [], [4, 5], [], [3, 6], [7, 8], [9], [], [11], [12], [10, 13], [0, 1], [2, 15]]) (Je := [14, 16]) (Rs := [Is _, Is _, Is _, Is _, Is _, Is _, Is _, Is _, Is _, Is _, Is _, Is _, Is _, Is _, Is _, Is _, Is _])
       ·
        kernel_rfl
       ·
        kernel_rfl
       ·
        kernel_rfl
       ·
        kernel_rfl
       ·
        kernel_rfl
       ·
        kernel_rfl
       ·
        kernel_rfl
       ·
        exact fun h => absurd rfl h
       ·
        intro u
        simp only [List.take_succ_cons, List.take_zero, List.map_cons, List.map_nil, fillU, List.setIfInBounds_toArray, List.set_cons_zero, List.set_cons_succ, Nat.zero_add, Nat.reduceAdd]
        exact rfl
       ·
        simp only [List.take_succ_cons, List.take_zero]
        refine ⟨fun u W hb hd K hK => ?_, ?_⟩
        ·
         clear hd
         go_simp
         apply hK
         ·
          simp only [Act.put, List.setIfInBounds_toArray, List.set_cons_zero, List.set_cons_succ]
          exact rfl
         ·
          exact Below.refl _ _
         ·
          exact IsOut
        refine ⟨fun u W hb hd K hK => ?_, ?_⟩
        ·
         clear hd
         go_simp
         apply hK
         ·
          simp only [Act.put, List.setIfInBounds_toArray, List.set_cons_zero, List.set_cons_succ]
          exact rfl
         ·
          exact Below.refl _ _
         ·
          exact IsOut
        refine ⟨fun u W hb hd K hK => ?_, ?_⟩
        ·
         clear hd
         go_simp
         apply hK
         ·
          simp only [Act.put, List.setIfInBounds_toArray, List.set_cons_zero, List.set_cons_succ]
          exact rfl
         ·
          exact Below.refl _ _
         ·
          exact IsOut
        refine ⟨fun u W hb hd K hK => ?_, ?_⟩
        ·
         clear hd
         go_simp
         apply hK
         ·
          simp only [Act.put, List.setIfInBounds_toArray, List.set_cons_zero, List.set_cons_succ]
          exact rfl
         ·
          exact Below.refl _ _
         ·
          exact IsOut
        refine ⟨fun u W hb hd K hK => ?_, ?_⟩
        ·
         clear hd
         go_simp
         apply hK
         ·
          simp only [Act.put, List.setIfInBounds_toArray, List.set_cons_zero, List.set_cons_succ]
          exact rfl
         ·
          exact Below.refl _ _
         ·
          exact IsOut
        refine ⟨fun u W hb hd K hK => ?_, ?_⟩
        ·
         clear hd
         go_simp
         apply hK
         ·
          simp only [Act.put, List.setIfInBounds_toArray, List.set_cons_zero, List.set_cons_succ]
          exact rfl
         ·
          exact Below.refl _ _
         ·
          exact IsOut
        refine ⟨fun u W hb hd K hK => ?_, ?_⟩
        ·
         simp only [Facts, nthR, Is, and_true] at hd
         simp only [hd] at hK ⊢
         clear hd
         go_simp
         apply hK
         ·
          simp only [Act.put, List.setIfInBounds_toArray, List.set_cons_zero, List.set_cons_succ]
          exact rfl
         ·
          exact Below.refl _ _
         ·
          exact IsOut
        refine ⟨fun u W hb hd K hK => ?_, ?_⟩
        ·
         clear hd
         go_simp
         apply hK
         ·
          simp only [Act.put, List.setIfInBounds_toArray, List.set_cons_zero, List.set_cons_succ]
          exact rfl
         ·
          exact Below.refl _ _
         ·
          exact IsOut
        refine ⟨fun u W hb hd K hK => ?_, ?_⟩
        ·
         simp only [Facts, nthR, Is, and_true] at hd
         simp only [hd] at hK ⊢
         clear hd
         go_simp
         apply hK
         ·
          simp only [Act.put, List.setIfInBounds_toArray, List.set_cons_zero, List.set_cons_succ]
          exact rfl
         ·
          exact Below.refl _ _
         ·
          exact IsOut
        refine ⟨fun u W hb hd K hK => ?_, ?_⟩
        ·
         simp only [Facts, nthR, Is, and_true] at hd
         simp only [hd] at hK ⊢
         clear hd
         go_simp
         apply hK
         ·
          simp only [Act.put, List.setIfInBounds_toArray, List.set_cons_zero, List.set_cons_succ]
          exact rfl
         ·
          exact Below.refl _ _
         ·
          exact IsOut
        refine ⟨fun u W hb hd K hK => ?_, ?_⟩
        ·
         simp only [Facts, nthR, Is, and_true] at hd
         simp only [hd] at hK ⊢
         clear hd
         have hcc := HA.out W hb
         go_simp
         apply hK
         ·
          simp only [Act.put, List.setIfInBounds_toArray, List.set_cons_zero, List.set_cons_succ]
          exact rfl
         ·
          exact Below.refl _ _
         ·
          exact IsOut
        refine ⟨fun u W hb hd K hK => ?_, ?_⟩
        ·
         clear hd
         go_simp
         apply hK
         ·
          simp only [Act.put, List.setIfInBounds_toArray, List.set_cons_zero, List.set_cons_succ]
          exact rfl
         ·
          exact Below.refl _ _
         ·
          exact IsOut
        refine ⟨fun u W hb hd K hK => ?_, ?_⟩
        ·
         simp only [Facts, nthR, Is, and_true] at hd
         simp only [hd] at hK ⊢
         clear hd
         go_simp
         apply hK
         ·
          simp only [Act.put, List.setIfInBounds_toArray, List.set_cons_zero, List.set_cons_succ]
          exact rfl
         ·
          exact Below.refl _ _
         ·
          exact IsOut
        refine ⟨fun u W hb hd K hK => ?_, ?_⟩
        ·
         simp only [Facts, nthR, Is, and_true] at hd
         simp only [hd] at hK ⊢
         clear hd
         have hcc := HB.out W hb
         go_simp
         apply hK
         ·
          simp only [Act.put, List.setIfInBounds_toArray, List.set_cons_zero, List.set_cons_succ]
          exact rfl
         ·
          exact Below.refl _ _
         ·
          exact IsOut
        refine ⟨fun u W hb hd K hK => ?_, ?_⟩
        ·
         simp only [Facts, nthR, Is, and_true] at hd
         simp only [hd] at hK ⊢
         clear hd
         go_simp
         apply hK
         ·
          simp only [Act.put, List.setIfInBounds_toArray, List.set_cons_zero, List.set_cons_succ]
          exact rfl
         ·
          exact Below.refl _ _
         ·
          exact IsOut
        refine ⟨fun u W hb hd K hK => ?_, ?_⟩
        ·
         simp only [Facts, nthR, Is, and_true] at hd
         simp only [hd] at hK ⊢
         clear hd
         go_simp
         apply hK
         ·
          simp only [Act.put, List.setIfInBounds_toArray, List.set_cons_zero, List.set_cons_succ]
          exact rfl
         ·
          exact Below.refl _ _
         ·
          exact IsOut
        refine ⟨fun u W hb hd K hK => ?_, ?_⟩
        ·
         simp only [Facts, nthR, Is, and_true] at hd
         simp only [hd] at hK ⊢
         clear hd
         go_simp
         apply hK
         ·
          simp only [Act.put, List.setIfInBounds_toArray, List.set_cons_zero, List.set_cons_succ]
          exact rfl
         ·
          exact Below.refl _ _
         ·
          exact IsOut
        exact trivial
       ·
        skip
        exact trivial
       ·
        exact (.is (.is (.is (.is (.is (.is (.is (.is (.is (.is (.is (.is (.is (.is (.is (.is (.is .nil)))))))))))))))))
       ·
        intro u W hb hd
        simp only [List.drop_succ_cons, List.drop_zero]
        simp only [Facts, nthR, Is, and_true] at hd
        simp only [hd]
        clear hd
        have hcc := HO.out W hb
        have hfr := (hW.below hb hW.lt).frozen (m * 4 + k)
        replace hW := hW.below hb hW.lt
        replace hT := hT.below hb hT.lt
        replace hX := hX.below hb hX.lt
        replace hbw := hbw.trans (hb.mono hbw.size)
        clear hb HA HB HO
        go_wp2
        refine NoPanic.normal ?_
        go_wp2
        go_roundw
        case rel =>
         refine ⟨k + 1, by omega, by go_num, hX.far (by simp; exact Ne.symm hnx.1) _, ?_, hT.far (by simp; exact hne.1) _, hbw.setCell (by simp; exact hne.2) _⟩
         rw [← HST.out, ← map_set8, show 4 * m + k = m * 4 + k by omega]
         exact hW.set_ _ _
        case measure => simp [intOf]; omega
      ·
       have hdk : decide ((k : Int) < 4) = false := by simp; omega
       obtain rfl : k = 4 := by omega
       go_wp2
       go_roundw
       case rel =>
        obtain ⟨hj1, hj2, hj3⟩ := HJ.out
        exact ⟨m + 1, c', by omega, by go_num, rfl, Lib.hid (by rw [HC'.out, if_neg (show ¬ m + 1 < n by omega), show m + 1 - n = j + 1 by omega, cK_step n key j, ← hj1, HC.out, if_neg hfirst, show m - n = j by omega]), hW, hT, hbw⟩
       case measure => simp [intOf]; omega
  ·
   have hd : decide (m < T) = false := by simp; omega
   obtain rfl : T = m := by omega
   rw [List.take_of_length_le (by rw [HFL.out]; omega), List.drop_eq_nil_of_le (by rw [HZL.out]; omega), List.append_nil] at hW
   clear hT
   go_wp2
   go_loopw [12, 13] (fun o i wx => ∃ r : Nat, r ≤ n + 7 ∧ i = .int .i64 (r : Int) ∧ wx.ownsRow (gw + 1) 56 16 o r ((FF.take (16 * r)).map B8) ∧ Blk wx gw 153 (FF.map B8) ∧ Below w.heap.size w wx) (fun _ i _ => n + 7 - (intOf i).toNat)
   case atStart => exact ⟨0, by omega, rfl, World.ownsRow_nil _ _ _ _, hW, hbw⟩
   case round =>
    clear hW hbw
    obtain ⟨r, hr, rfl, hO, hW, hbw⟩ := hrel
    by_cases hlr : r < n + 7
    ·
     have hdr : decide ((r : Int) < (n : Int) + 7) = true := by simp; omega
     have hz : ∀ W : World, (zeroValue 56).run Tryd.prog W = .ok (BV zero16) W := fun W => by kernel_rfl
     go_wp2
     clear hz
     have hon : u12.ownBlock ≠ some wr.heap.size := fun h => absurd ((hO.lt _ h).2) (Nat.lt_irrefl _)
     have hO1 := hO.alloc (.cells (zero16.map B8).toArray 56)
     have hW1 := hW.alloc (.cells (zero16.map B8).toArray 56)
     have hB1 := Blk.new_of wr 56 (zero16.map B8).toArray (zero16.map B8) rfl
     have hb1 := hbw.alloc hbw.size (.cells (zero16.map B8).toArray 56)
     have hgb := (show gw < wr.heap.size ∧ w.heap.size ≤ wr.heap.size from ⟨hW.lt, hbw.size⟩)
     clear hO hW hbw
     generalize wr.heap.size = gb at *
     obtain ⟨R, hR⟩ : ∃ R, R = (FF.drop (16 * r)).take 16 := ⟨_, rfl⟩
     have HRL := Lib.hid (show R.length = 16 by rw [hR, List.length_take, List.length_drop, HFL.out, HT.out]; omega)
     have HRG := Lib.hid (show ∀ i, i < 16 → FF.getD (16 * r + i) 0 = R.getD i 0 by
      intro i hi; rw [hR, List.getD_eq_getElem?_getD, List.getD_eq_getElem?_getD, List.getElem?_take, if_pos hi, List.getElem?_drop])
     have HRA := Lib.hid (show FF.take (16 * r) ++ R = FF.take (16 * (r + 1)) by rw [hR, show 16 * (r + 1) = 16 * r + 16 by omega, List.take_add])
     obtain ⟨Z6, hZ6⟩ : ∃ Z6, Z6 = zero16 := ⟨_, rfl⟩
     have HZ6 := Lib.hid (show Z6.length = 16 by rw [hZ6]; rfl)
     rw [← hZ6] at hO1 hW1 hB1 hb1 ⊢
     clear hR hZ6
     go_loopw [15] (fun i wy => ∃ k : Nat, k ≤ 16 ∧ i = .int .i64 (k : Int) ∧ Blk wy gb 56 ((R.take k ++ Z6.drop k).map B8) ∧ wy.ownsRow (gw + 1) 56 16 u12 r ((FF.take (16 * r)).map B8) ∧ Blk wy gw 153 (FF.map B8) ∧ Below w.heap.size w wy) (fun i _ => 16 - (intOf i).toNat)
     case atStart => exact ⟨0, by omega, rfl, hB1, hO1, hW1, hb1⟩
     case round =>
      clear hO1 hW1 hB1 hb1
      obtain ⟨k, hk, rfl, hB, hO, hW, hbw⟩ := hrel
      by_cases hlk : k < 16
      ·
       have hdk : decide ((k : Int) < 16) = true := by simp; omega
       obtain ⟨q, s, hkq, hs4, hq4⟩ : ∃ q s, k = 4 * q + s ∧ s < 4 ∧ q < 4 := ⟨k / 4, k % 4, by omega, by omega, by omega⟩
       obtain ⟨p, hp⟩ : ∃ p, p = 4 * r + q := ⟨_, rfl⟩
       have hlen := len_to R Z6 k (by rw [HRL.out]; omega) (by rw [HRL.out, HZ6.out])
       have HST := Lib.hid (set_to R Z6 k 0 (by rw [HRL.out]; omega) (by rw [HZ6.out]; omega))
       have hx := HRG.out k hlk
       have hTn := HT.out
       have hcc := hW.at8 (p * 4 + s) (by rw [HFL.out]; omega)
       rw [show p * 4 + s = 16 * r + k by omega, hx, show 16 * r + k = p * 4 + s by omega] at hcc
       have hc0 := hB.at8 k (by rw [hlen, HZ6.out]; exact hlk)
       have hf := hB.frozen k
       generalize (R.take k ++ Z6.drop k).getD k 0 = x0 at *
       generalize R.getD k 0 = x1 at *
       generalize R.take k ++ Z6.drop k = L at *
       obtain ⟨e1, e2, e1', e2', e3, e4, e5, hk0, hk1, hp0, hp1, hs0, hs1⟩ := keys_ix k q s r p T hkq hs4 hq4 hp (by omega) (by omega)
       clear hkq hs4 hq4 hp hlen hx hTn
       go_wp2
       go_roundw
       case rel =>
        refine ⟨k + 1, by omega, by go_num, ?_, hO.kept (grown_setCell (grown_refl _ _) (.inl rfl) _) (.inr hon), hW.far (by simp; omega) _, hbw.setCell (by simp; exact hgb.2) _⟩
        rw [← HST.out, ← map_set8]
        exact hB.set_ k _
       case measure => simp [intOf]; omega
      ·
       have hdk : decide ((k : Int) < 16) = false := by simp; omega
       obtain rfl : k = 16 := by omega
       rw [List.take_of_length_le (by rw [HRL.out]; omega), List.drop_eq_nil_of_le (by rw [HZ6.out]; omega), List.append_nil] at hB
       have hO2 := hO.alloc (.cells (R.map B8).toArray 56)
       have hW2 := hW.alloc (.cells (R.map B8).toArray 56)
       have hB2 := Blk.new_of wr 56 (R.map B8).toArray (R.map B8) rfl
       have hb2 := hbw.alloc hbw.size (.cells (R.map B8).toArray 56)
       have hlw := (show gw + 1 ≤ (wr.alloc (.cells (R.map B8).toArray 56)).heap.size from Nat.le_trans hW.lt (by simp))
       have hcs : ∀ j u, (R.map B8)[j]? = some u → (wr.alloc (.cells (R.map B8).toArray 56)).cell? ((⟨wr.heap.size, 0, none⟩ : Addr).add j) = some u := fun j u hu => by rw [add_row, Nat.zero_add, hB2.cell]; exact hu
       have hbnd := (show r + 1 ≤ maxLen ∧ (r + 1) * 16 ≤ 140737488355328 by simp only [maxLen]; omega)
       go_wp2_with (first
        | (refine wpList_load_blk rfl 56 (.tmp 14) rfl gb rfl 56 _ _ hB Tryd.underlying56 rfl (infoBk.trans (by rw [List.length_map, HRL.out])) ?_)
        | (refine wpList_build16 rfl (.tmp 155) rfl R HRL.out rfl ?_)
        | (refine wpList_append_own _ rfl (.tmp 154) (.tmp 156) 139 rfl (gw + 1) 56 iR zR 16 16 Tryd.underlying139 hiR hzR hsR hbR hzsR (by omega) u12 r ((FF.take (16 * r)).map B8) rfl hO2 ⟨wr.heap.size, 0, none⟩ 1 1 (R.map B8) rfl (by rw [List.length_map, HRL.out]) hcs (oneB8 _) hbnd.1 hbnd.2 hlw ?_; intro v6 w6 hO6 hg6 hn6))
       have hown := (show ∀ k, k ≤ gw → some k ≠ u12.ownBlock from fun k hk h => by have := (hO.lt k h.symm).1; omega)
       have hW6 := hW2.grown hg6 (hown gw (Nat.le_refl _))
       have hb6 : Below w.heap.size w w6 := hb2.trans ⟨hg6.os, hg6.tape, hg6.output, hg6.size, fun k hk => hg6.block k (Nat.lt_of_lt_of_le hk hb2.size) (hown k (by omega))⟩
       clear hO2 hW2 hB2 hb2 hlw hcs hbnd hO hW hbw hB hown hg6 hn6
       go_roundw
       case rel =>
        refine ⟨r + 1, by omega, by go_num, ?_, hW6, hb6⟩
        rw [← HRA.out, List.map_append]
        exact hO6
       case measure => simp [intOf]; omega
    ·
     have hdr : decide ((r : Int) < (n : Int) + 7) = false := by simp; omega
     obtain rfl : r = n + 7 := by omega
     go_wp2
     go_ret
     refine ⟨_, rfl, ?_, hbw⟩
     rw [List.take_of_length_le (by rw [HFL.out, HT.out]; omega)] at hO
     exact owns_base hO (by omega)

end
end Go.Proofs.YtnjpcbbdhimacaaDoor
