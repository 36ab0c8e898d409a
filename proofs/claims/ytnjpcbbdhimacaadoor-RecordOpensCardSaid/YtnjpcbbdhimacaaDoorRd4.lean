/-
 Rd4.
-/
import Derived.Test.YtnjpcbbdhimacaaDoorRh5
import Derived.Test.YtnjpcbbdhimacaaDoorRd1
namespace Go.Proofs.YtnjpcbbdhimacaaDoor
open Go.RowKit
theorem nonceTo_get (iv : List UInt8) (u : Nat) (hl : iv.length = 12) (k : Nat) (hk : k ≤ 12) (i : Nat) (hi : i < 12) : (nonceTo iv u k).getD i 0 = if 11 - i < k then iv.getD i 0 ^^^ UInt8.ofNat (u / 2 ^ (8 * (11 - i))) else iv.getD i 0 := by
 induction k with
 | zero => rw [if_neg (by omega)]; rfl
 | succ k ih =>
  have hl2 := nonceTo_length iv u k
  rw [nonceTo, List.getD_eq_getElem?_getD, List.getElem?_set]
  by_cases e : 11 - k = i
  ·
   rw [if_pos e, if_pos (by omega), Option.getD_some, e, ih (by omega), if_neg (by omega), if_pos (by omega), show 11 - i = k by omega]
  ·
   rw [if_neg e, ← List.getD_eq_getElem?_getD, ih (by omega)]
   by_cases h : 11 - i < k
   ·
    rw [if_pos h, if_pos (by omega)]
   ·
    rw [if_neg h, if_neg (by omega)]
theorem nonceH_get (iv : List UInt8) (u : Nat) (hl : iv.length = 12) (i : Nat) (hi : i < 12) : (nonceH iv u).getD i 0 = if i < 4 then iv.getD i 0 else iv.getD i 0 ^^^ UInt8.ofNat (u / 2 ^ (8 * (11 - i))) := by
 rw [nonceH, nonceTo_get iv u hl 8 (by omega) i hi]
 by_cases h : i < 4
 ·
  rw [if_pos h, if_neg (by omega)]
 ·
  rw [if_neg h, if_pos (by omega)]
/-- A half of the reference's: its secret, how many were used. -/
structure RHalf (w : World) (gm u : Nat) (S : List UInt8) : Prop where
 half : Blk w gm 37 [.string ⟨S.toArray⟩, .int .i64 (u : Int)]
theorem RHalf.below {w w' : World} {gm u : Nat} {S : List UInt8} (h : RHalf w gm u S) (hb : Below w.heap.size w w') : RHalf w' gm u S := ⟨h.half.below hb h.half.lt⟩
theorem ix_rn (k c p : Nat) (hk : k < 12) (hp : p = 11 - k) (hc : c = 8 * p) : wrap64 (c : Int) = (c : Int) ∧ IntKind.i64.wrap (c : Int) = (c : Int) ∧ wrap64 (p : Int) = (p : Int) ∧ IntKind.i64.wrap (p : Int) = (p : Int) ∧ (11 : Int) - (k : Int) = (p : Int) ∧ (8 : Int) * (p : Int) = (c : Int) ∧ (0 : Int) ≤ (c : Int) ∧ (k : Int) < 12 ∧ (0 : Int) ≤ (k : Int) := by
 subst hc hp
 rw [IntKind.wrap_i64, IntKind.wrap_i64]
 unfold wrap64
 omega
theorem ix_four (k : Nat) (h : ¬ k < 4) : (4 : Int) ≤ (k : Int) := by omega
theorem ix_four' (k : Nat) (h : k < 4) : ¬ (4 : Int) ≤ (k : Int) := by omega

set_option maxRecDepth 100000 in
set_option maxHeartbeats 1000000 in
theorem rnonce_e {w : World} {gm u0 : Nat} {S : List UInt8} (h : RHalf w gm u0 S) (hS : S.length = 32) (_hu : u0 < 1000000) :
  Calls Tryd.prog 40 #[.pointer (some ⟨gm, 0, none⟩)] w fun e w' => e = .returned (BV (nonceH (ivH S) u0)) ∧ Below w.heap.size w w' := by
 have hz : ∀ W : World, (zeroValue 48).run Tryd.prog W = .ok (BV zero12h) W := fun W => by kernel_rfl
 obtain ⟨Z, hZ⟩ : ∃ Z, Z = zero12h := ⟨_, rfl⟩
 have HZL := Lib.hid (show Z.length = 12 by rw [hZ]; rfl)
 rw [← hZ] at hz
 have klb : ∀ W : World, Calls Tryd.prog 17 #[.string ⟨S.toArray⟩, .string ⟨#[105, 118]⟩, .string ⟨#[]⟩, .int .i64 12] W fun e w' => e = .returned (.tuple #[.string ⟨(ivH S).toArray⟩, .int .i64 0]) ∧ Below W.heap.size W w' := fun W => refLabel_any 12 S ivN [] W (by omega) (by decide) (by decide) (by decide)
 have hvl : (ivH S).length = 12 := expand_length _ _ _
 have hxg := fun i (hi : i < 12) => nonceH_get (ivH S) u0 hvl i hi
 have hxl := nonceH_length (ivH S) u0 hvl
 generalize nonceH (ivH S) u0 = X at *
 generalize ivH S = V at *
 have HLB := Lib.hid klb
 have HVL := Lib.hid hvl
 have HXG := Lib.hid hxg
 have HXL := Lib.hid hxl
 have HH := Lib.hid h
 clear hZ klb hvl hxg hxl hS
 have hH0 : RHalf (w.alloc (.cells (Z.map B8).toArray 48)) gm u0 S := h.below ((Below.refl w.heap.size w).alloc (Nat.le_refl _) _)
 have hs0 : (w.alloc (.cells (Z.map B8).toArray 48)).cell? ⟨gm, 0, none⟩ = some (.string ⟨S.toArray⟩) := hH0.half.cell 0
 have hO := Blk.new_of w 48 (Z.map B8).toArray (Z.map B8) rfl
 have hbw : Below w.heap.size w (w.alloc (.cells (Z.map B8).toArray 48)) := (Below.refl _ _).alloc (Nat.le_refl _) _
 clear h hH0
 go_enter Tryd.func40, Tryd.ntmps40
 go_upto_region 2 with (go_at_call 17; refine (HLB.out _).mono ?_; rintro e w2 ⟨rfl, hb2⟩; replace hO := hO.below hb2 hO.lt; replace hbw := hbw.trans (hb2.mono hbw.size); clear hb2)
 have hlt2 := hO.lt
 go_upto_region 4 with (fail)
 have hN := Blk.new_of w2 48 (Z.map B8).toArray (Z.map B8) rfl
 replace hO := hO.alloc (.cells (Z.map B8).toArray 48)
 have hge : w.heap.size ≤ w2.heap.size := hbw.size
 have hne : w.heap.size ≠ w2.heap.size := Nat.ne_of_lt hlt2
 replace hbw := hbw.alloc hbw.size (.cells (Z.map B8).toArray 48)
 generalize w2.alloc (.cells (Z.map B8).toArray 48) = w3 at *
 generalize w2.heap.size = g3 at *
 clear hz hs0 hlt2
 rw [show Z = X.take 0 ++ Z.drop 0 from rfl] at hN
 go_loopw [6] (fun i wr => ∃ k : Nat, k ≤ 12 ∧ i = .int .i64 (k : Int) ∧ Blk wr g3 48 ((X.take k ++ Z.drop k).map B8) ∧ Blk wr w.heap.size 48 (Z.map B8) ∧ Below w.heap.size w wr) (fun i _ => 12 - (intOf i).toNat)
 case atStart => exact ⟨0, by omega, rfl, hN, hO, hbw⟩
 case round =>
  clear hN hO hbw
  obtain ⟨k, hk, rfl, hN, hO, hbw⟩ := hrel
  by_cases hlt : k < 12
  ·
   have hd : (k : Int) < 12 := by omega
   obtain ⟨p, hp⟩ : ∃ p, p = 11 - k := ⟨_, rfl⟩
   obtain ⟨c, hc⟩ : ∃ c, c = 8 * p := ⟨_, rfl⟩
   obtain ⟨z1, z2, z3, z4, z5, z6, z7, z8, z9⟩ := ix_rn k c p hlt hp hc
   obtain ⟨x, hx⟩ : ∃ x, x = V.getD k 0 := ⟨_, rfl⟩
   have s0 := str_get V k (by rw [HVL.out]; exact hlt)
   rw [← hx] at s0
   have hsz : (V.length : Int) = 12 := by rw [HVL.out]; rfl
   have hff := hN.frozen k
   have hcc := hN.at8 k (by rw [List.length_append, List.length_take, List.length_drop, HXL.out, HZL.out]; omega)
   obtain ⟨y0, hy0⟩ : ∃ y0, y0 = (X.take k ++ Z.drop k).getD k 0 := ⟨_, rfl⟩
   rw [← hy0] at hcc
   have HS1 := Lib.hid (set_up X Z k (by rw [HXL.out]; exact hlt) (by rw [HZL.out]; exact hlt))
   have HXK := Lib.hid (HXG.out k hlt)
   rw [← hx] at HXK
   have HK1 := Lib.hid (show k + 1 ≤ 12 by omega)
   have HMS := Lib.hid (show 12 - (intOf (.int .i64 ((k + 1 : Nat) : Int))).toNat < 12 - (intOf (.int .i64 (k : Int))).toNat by simp [intOf]; omega)
   have HXY := Lib.hid (And.intro hp hc)
   clear hx hy0 hp hc
   by_cases h4 : k < 4
   ·
    have hd4 := ix_four' k h4
    rw [if_pos h4] at HXK
    clear h4
    go_upto_region 7 with (fail)
    have hN2 := hN.set_ k (B8 x)
    have hse := HS1.out
    rw [HXK.out] at hse
    rw [map_set8, hse] at hN2
    have hO2 := hO.far (p := ⟨g3, k, none⟩) (by simpa using hne) (B8 x)
    have hb2 := hbw.setCell (p := ⟨g3, k, none⟩) (by simpa using hge) (B8 x)
    have HN2 := Lib.hid hN2
    have HO2 := Lib.hid hO2
    have HB2 := Lib.hid hb2
    clear hN2 hO2 hb2 hN hO hbw hcc hff
    go_wp2
    go_roundw
    case rel => exact ⟨k + 1, HK1.out, by go_num, HN2.out, HO2.out, HB2.out⟩
    case measure => exact HMS.out
   ·
    have hd4 := ix_four k h4
    rw [if_neg h4] at HXK
    clear h4
    obtain ⟨y, hy⟩ : ∃ y, y = UInt8.ofNat (u0 / 2 ^ c) := ⟨_, rfl⟩
    obtain ⟨x1, hx1⟩ : ∃ x1, x1 = x ^^^ y := ⟨_, rfl⟩
    have hly := low_u u0 c
    rw [← hy] at hly
    have hxx : bits .xor .u8 (x.toNat : Int) (y.toNat : Int) = (x1.toNat : Int) := by rw [hx1, b_xor]
    have HS2 := Lib.hid (show ((X.take k ++ Z.drop k).set k x).set k x1 = X.take (k + 1) ++ Z.drop (k + 1) by
     rw [List.set_set, ← HS1.out, HXK.out, hx1, hy, HXY.out.2, HXY.out.1])
    clear hy hx1
    go_upto_region 7 with (fail)
    replace hN := hN.set_ k (B8 x)
    rw [map_set8] at hN
    have hcx := hN.at8 k (by rw [List.length_set, List.length_append, List.length_take, List.length_drop, HXL.out, HZL.out]; omega)
    rw [show ((X.take k ++ Z.drop k).set k x).getD k 0 = x by rw [List.getD_eq_getElem?_getD, List.getElem?_set_self (by rw [List.length_append, List.length_take, List.length_drop, HXL.out, HZL.out]; omega)]; rfl] at hcx
    replace hO := hO.far (p := ⟨g3, k, none⟩) (by simpa using hne) (B8 x)
    replace hbw := hbw.setCell (p := ⟨g3, k, none⟩) (by simpa using hge) (B8 x)
    clear hcc hff
    generalize wr.setCell ⟨g3, k, none⟩ (B8 x) = w4 at *
    have hg3 := hN.lt
    have HC1 := Lib.hid (fun (W : World) (hb : Below w4.heap.size w4 W) => (World.cell?_of_block (w := w4) (w' := W) (a := ⟨g3, k, none⟩) (hb.block g3 hg3)).trans hcx)
    have HC2 := Lib.hid (fun (W : World) (hb : Below w4.heap.size w4 W) => show W.cell? ⟨gm, 1, none⟩ = some (.int .i64 (u0 : Int)) from ((HH.out.below hbw).below hb).half.cell 1)
    clear hcx hg3
    go_upto_region 8 with (fail)
    apply wp_region_once_tail (m := 15) (Z := []) (D := [[], [], [1], [1, 2], [], [4], [4, 5], [4, 5, 6], [], [8], [8, 9], [4, 5, 6, 7, 8, 9, 10], [4, 5, 6, 7, 8, 9, 10, 11], [1, 2, 3, 4, 5, 6, 7, 8, 9, 10, 11, 12], [0, 1, 2, 3, 4, 5, 6, 7, 8, 9, 10, 11, 12, 13], [0, 1, 2, 3, 4, 5, 6, 7, 8, 9, 10, 11, 12, 13, 14]]) (J := [[], [], [1], [2], [], [4], [5], [6], [], [8], [9], [7, 10], [11], [3, 12], [0]]) (Je := [13, 14]) (Rs := [Is _, Is _, Is _, Is _, Is _, Is _, Is _, Is _, Is _, Is _, Is _, Is _, Is _, Is _, Is _])
    ·
     kernel_rfl
    ·
     kernel_rfl
    ·
     kernel_rfl
    ·
     kernel_rfl
    ·
     kernel_rfl
    ·
     kernel_rfl
    ·
     kernel_rfl
    ·
     exact fun h => absurd rfl h
    ·
     intro u
     simp only [List.take_succ_cons, List.take_zero, List.map_cons, List.map_nil, fillU, List.setIfInBounds_toArray, List.set_cons_zero, List.set_cons_succ, Nat.zero_add, Nat.reduceAdd]
     exact rfl
    ·
     simp only [List.take_succ_cons, List.take_zero]
     refine ⟨fun u W hb hd K hK => ?_, ?_⟩
     ·
      clear hd
      go_simp
      apply hK
      ·
       simp only [Act.put, List.setIfInBounds_toArray, List.set_cons_zero, List.set_cons_succ]
       exact rfl
      ·
       exact Below.refl _ _
      ·
       exact IsOut
     refine ⟨fun u W hb hd K hK => ?_, ?_⟩
     ·
      clear hd
      go_simp
      apply hK
      ·
       simp only [Act.put, List.setIfInBounds_toArray, List.set_cons_zero, List.set_cons_succ]
       exact rfl
      ·
       exact Below.refl _ _
      ·
       exact IsOut
     refine ⟨fun u W hb hd K hK => ?_, ?_⟩
     ·
      simp only [Facts, nthR, Is, and_true] at hd
      simp only [hd] at hK ⊢
      clear hd
      go_simp
      apply hK
      ·
       simp only [Act.put, List.setIfInBounds_toArray, List.set_cons_zero, List.set_cons_succ]
       exact rfl
      ·
       exact Below.refl _ _
      ·
       exact IsOut
     refine ⟨fun u W hb hd K hK => ?_, ?_⟩
     ·
      simp only [Facts, nthR, Is, and_true] at hd
      simp only [hd] at hK ⊢
      clear hd
      have hcc := HC1.out W hb
      go_simp
      apply hK
      ·
       simp only [Act.put, List.setIfInBounds_toArray, List.set_cons_zero, List.set_cons_succ]
       exact rfl
      ·
       exact Below.refl _ _
      ·
       exact IsOut
     refine ⟨fun u W hb hd K hK => ?_, ?_⟩
     ·
      clear hd
      go_simp
      apply hK
      ·
       simp only [Act.put, List.setIfInBounds_toArray, List.set_cons_zero, List.set_cons_succ]
       exact rfl
      ·
       exact Below.refl _ _
      ·
       exact IsOut
     refine ⟨fun u W hb hd K hK => ?_, ?_⟩
     ·
      simp only [Facts, nthR, Is, and_true] at hd
      simp only [hd] at hK ⊢
      clear hd
      go_simp
      apply hK
      ·
       simp only [Act.put, List.setIfInBounds_toArray, List.set_cons_zero, List.set_cons_succ]
       exact rfl
      ·
       exact Below.refl _ _
      ·
       exact IsOut
     refine ⟨fun u W hb hd K hK => ?_, ?_⟩
     ·
      simp only [Facts, nthR, Is, and_true] at hd
      simp only [hd] at hK ⊢
      clear hd
      go_simp
      apply hK
      ·
       simp only [Act.put, List.setIfInBounds_toArray, List.set_cons_zero, List.set_cons_succ]
       exact rfl
      ·
       exact Below.refl _ _
      ·
       exact IsOut
     refine ⟨fun u W hb hd K hK => ?_, ?_⟩
     ·
      simp only [Facts, nthR, Is, and_true] at hd
      simp only [hd] at hK ⊢
      clear hd
      have hcc := HC2.out W hb
      go_simp
      apply hK
      ·
       simp only [Act.put, List.setIfInBounds_toArray, List.set_cons_zero, List.set_cons_succ]
       exact rfl
      ·
       exact Below.refl _ _
      ·
       exact IsOut
     refine ⟨fun u W hb hd K hK => ?_, ?_⟩
     ·
      clear hd
      go_simp
      apply hK
      ·
       simp only [Act.put, List.setIfInBounds_toArray, List.set_cons_zero, List.set_cons_succ]
       exact rfl
      ·
       exact Below.refl _ _
      ·
       exact IsOut
     refine ⟨fun u W hb hd K hK => ?_, ?_⟩
     ·
      simp only [Facts, nthR, Is, and_true] at hd
      simp only [hd] at hK ⊢
      clear hd
      go_simp
      apply hK
      ·
       simp only [Act.put, List.setIfInBounds_toArray, List.set_cons_zero, List.set_cons_succ]
       exact rfl
      ·
       exact Below.refl _ _
      ·
       exact IsOut
     refine ⟨fun u W hb hd K hK => ?_, ?_⟩
     ·
      simp only [Facts, nthR, Is, and_true] at hd
      simp only [hd] at hK ⊢
      clear hd
      go_simp
      apply hK
      ·
       simp only [Act.put, List.setIfInBounds_toArray, List.set_cons_zero, List.set_cons_succ]
       exact rfl
      ·
       exact Below.refl _ _
      ·
       exact IsOut
     refine ⟨fun u W hb hd K hK => ?_, ?_⟩
     ·
      simp only [Facts, nthR, Is, and_true] at hd
      simp only [hd] at hK ⊢
      clear hd
      go_simp
      apply hK
      ·
       simp only [Act.put, List.setIfInBounds_toArray, List.set_cons_zero, List.set_cons_succ]
       exact rfl
      ·
       exact Below.refl _ _
      ·
       exact IsOut
     refine ⟨fun u W hb hd K hK => ?_, ?_⟩
     ·
      simp only [Facts, nthR, Is, and_true] at hd
      simp only [hd] at hK ⊢
      clear hd
      go_simp
      apply hK
      ·
       simp only [Act.put, List.setIfInBounds_toArray, List.set_cons_zero, List.set_cons_succ]
       exact rfl
      ·
       exact Below.refl _ _
      ·
       exact IsOut
     refine ⟨fun u W hb hd K hK => ?_, ?_⟩
     ·
      simp only [Facts, nthR, Is, and_true] at hd
      simp only [hd] at hK ⊢
      clear hd
      go_simp
      apply hK
      ·
       simp only [Act.put, List.setIfInBounds_toArray, List.set_cons_zero, List.set_cons_succ]
       exact rfl
      ·
       exact Below.refl _ _
      ·
       exact IsOut
     refine ⟨fun u W hb hd K hK => ?_, ?_⟩
     ·
      simp only [Facts, nthR, Is, and_true] at hd
      simp only [hd] at hK ⊢
      clear hd
      go_simp
      apply hK
      ·
       simp only [Act.put, List.setIfInBounds_toArray, List.set_cons_zero, List.set_cons_succ]
       exact rfl
      ·
       exact Below.refl _ _
      ·
       exact IsOut
     exact trivial
    ·
     skip
     exact trivial
    ·
     exact (.is (.is (.is (.is (.is (.is (.is (.is (.is (.is (.is (.is (.is (.is (.is .nil)))))))))))))))
    ·
     intro u W hb hd
     simp only [List.drop_succ_cons, List.drop_zero]
     simp only [Facts, nthR, Is, and_true] at hd
     simp only [hd]
     replace hN := hN.below hb hN.lt
     replace hO := hO.below hb hO.lt
     replace hbw := hbw.trans (hb.mono hbw.size)
     have hff := hN.frozen k
     have hcc := HC1.out W hb
     have hN2 := hN.set_ k (B8 x1)
     rw [map_set8, HS2.out] at hN2
     have hO2 := hO.far (p := ⟨g3, k, none⟩) (by simpa using hne) (B8 x1)
     have hb2 := hbw.setCell (p := ⟨g3, k, none⟩) (by simpa using hge) (B8 x1)
     have HN2 := Lib.hid hN2
     have HO2 := Lib.hid hO2
     have HB2 := Lib.hid hb2
     clear hb hN2 hO2 hb2 hN hO hbw
     go_wp2
     go_roundw
     case rel => exact ⟨k + 1, HK1.out, by go_num, HN2.out, HO2.out, HB2.out⟩
     case measure => exact HMS.out
  ·
   have hd : ¬ (k : Int) < 12 := by omega
   rw [show k = 12 by omega, List.take_of_length_le (by rw [HXL.out]; omega), List.drop_eq_nil_of_le (by rw [HZL.out]; omega), List.append_nil] at hN
   go_wp2_with (first
    | ((with_reducible refine (?_ : wpList _ _ _ (Oper.mk (some 41) _ _ _ _ _ :: _) _ _)); go_loud (refine wpList_load_blk rfl 48 (.tmp 5) rfl g3 rfl 48 _ _ hN Tryd.underlying48 rfl (info12.trans (by rw [List.length_map, HXL.out])) ?_))
    | ((with_reducible refine (?_ : wpList _ _ _ (Oper.mk none (.store 48 (.tmp 2) _) _ _ _ _ :: _) _ _)); go_loud (refine wpList_store_blk rfl 48 (.tmp 2) (.tmp 41) rfl rfl (w.heap.size) _ rfl rfl 48 _ hO (info12.trans (by rw [List.length_map, HXL.out])) (by rw [List.length_map, List.length_map, HXL.out, HZL.out]) (one8 _) ?_); intro w7 hR7 hg7))
   refine bodyPost_ret (v := .agg _) (results_cell_row rfl _ _ (w.heap.size) 48 _ (0, 0) _ rfl hR7.raw Tryd.underlying48 rfl (info12.trans (by rw [List.size_toArray, List.length_map, HXL.out]))) rfl ⟨rfl, below_new hbw hg7 (Nat.le_refl _) hbw.size⟩

end Go.Proofs.YtnjpcbbdhimacaaDoor
