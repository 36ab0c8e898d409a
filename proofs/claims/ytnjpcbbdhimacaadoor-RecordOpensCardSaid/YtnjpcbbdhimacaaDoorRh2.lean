/-
 Rh2.
-/
import Derived.Test.YtnjpcbbdhimacaaDoorRh1
namespace Go.Proofs.YtnjpcbbdhimacaaDoor
open Go.RowKit
/-- The next record's nonce, k of its last eight bytes turned. -/
def nonceTo (iv : List UInt8) (u : Nat) : Nat → List UInt8
 | 0 => iv
 | k + 1 => (nonceTo iv u k).set (11 - k) ((nonceTo iv u k).getD (11 - k) 0 ^^^ UInt8.ofNat (u / 2 ^ (8 * k)))
def nonceH (iv : List UInt8) (u : Nat) : List UInt8 := nonceTo iv u 8
theorem nonceTo_length (iv : List UInt8) (u k : Nat) : (nonceTo iv u k).length = iv.length := by
 induction k with
 | zero => rfl
 | succ k ih => rw [nonceTo, List.length_set, ih]
theorem ix_n (k c p : Nat) (hk : k < 8) (hc : c = 8 * k) (hp : p = 11 - k) : wrap64 (c : Int) = (c : Int) ∧ IntKind.i64.wrap (c : Int) = (c : Int) ∧ wrap64 (p : Int) = (p : Int) ∧ IntKind.i64.wrap (p : Int) = (p : Int) ∧ (11 : Int) - (k : Int) = (p : Int) ∧ (8 : Int) * (k : Int) = (c : Int) ∧ (0 : Int) ≤ (c : Int) ∧ (c : Int) < 64 ∧ (0 : Int) ≤ (p : Int) ∧ (p : Int) < 12 ∧ p < 12 := by
 subst hc hp
 rw [IntKind.wrap_i64, IntKind.wrap_i64]
 unfold wrap64
 omega
theorem low_u (u c : Nat) : IntKind.u8.wrap ((u : Int) / 2 ^ c) = ((UInt8.ofNat (u / 2 ^ c)).toNat : Int) := by
 rw [← wrap_ofNat]
 congr 1

def zero12h : List UInt8 := [0, 0, 0, 0, 0, 0, 0, 0, 0, 0, 0, 0]
set_option maxRecDepth 100000 in
set_option maxHeartbeats 1000000 in
theorem nonce_e {w : World} {gh gx gk gr R u : Nat} {L : List UInt32} {iv : List UInt8} (h : HalfAt w gh gx gk gr R L iv u) (hu : u < 1000000) :
  Calls Tryd.prog 33 #[.pointer (some ⟨gh, 0, none⟩)] w fun e w' => e = .returned (BV (nonceH iv u)) ∧ Below w.heap.size w w' := by
 have hz : ∀ W : World, (zeroValue 48).run Tryd.prog W = .ok (BV zero12h) W := fun W => by kernel_rfl
 obtain ⟨Z, hZ⟩ : ∃ Z, Z = zero12h := ⟨_, rfl⟩
 have HZL := Lib.hid (show Z.length = 12 by rw [hZ]; rfl)
 rw [← hZ] at hz
 have HIV := Lib.hid h.len
 have hl := h.half.lt
 have HNL := Lib.hid (fun k => nonceTo_length iv u k)
 clear hZ
 go_enter Tryd.func33, Tryd.ntmps33
 have hH1 : HalfAt ((w.alloc (.cells (Z.map B8).toArray 48)).alloc (.cells (Z.map B8).toArray 48)) gh gx gk gr R L iv u := h.below (((Below.refl w.heap.size w).alloc (Nat.le_refl _) _).alloc (by simp) _)
 have hH0 : HalfAt (w.alloc (.cells (Z.map B8).toArray 48)) gh gx gk gr R L iv u := h.below ((Below.refl w.heap.size w).alloc (Nat.le_refl _) _)
 have hO1 : Blk ((w.alloc (.cells (Z.map B8).toArray 48)).alloc (.cells (Z.map B8).toArray 48)) w.heap.size 48 (Z.map B8) := (Blk.new_of w 48 _ (Z.map B8) rfl).alloc _
 have hN1 := Blk.new2_of w (.cells (Z.map B8).toArray 48) 48 (Z.map B8).toArray (Z.map B8) rfl
 have hb1 := ((Below.refl w.heap.size w).alloc (Nat.le_refl _) (.cells (Z.map B8).toArray 48)).alloc (by simp) (.cells (Z.map B8).toArray 48)
 have hcg := h.iv
 go_upto_region 2 with (first
  | ((with_reducible refine (?_ : wpList _ _ _ (Oper.mk (some 8) _ _ _ _ _ :: _) _ _)); go_loud (refine wpList_load_mid rfl 48 (.tmp 7) rfl gh 1 rfl (iv.map B8) _ hH0.iv Tryd.underlying48 rfl (info12.trans (by rw [List.length_map, HIV.out])) ?_))
  | ((with_reducible refine (?_ : wpList _ _ _ (Oper.mk none (.store 48 (.tmp 3) _) _ _ _ _ :: _) _ _)); go_loud (refine wpList_store_blk rfl 48 (.tmp 3) (.tmp 8) rfl rfl (w.heap.size + 1) _ rfl rfl 48 _ hN1 (info12.trans (by rw [List.length_map, HIV.out])) (by rw [List.length_map, List.length_map, HIV.out, HZL.out]) (one8 _) ?_); intro w6 hN hg6))
 have hbw := below_new hb1 hg6 (Nat.le_succ _) hb1.size
 have hO := hO1.grown hg6 (by simp)
 have hge : w.heap.size ≤ w.heap.size + 1 := Nat.le_succ _
 have hne : w.heap.size ≠ w.heap.size + 1 := by omega
 clear hb1 hg6 hH1 hH0 hO1 hN1 hcg hz
 generalize w.heap.size + 1 = g3 at *
 have HH := Lib.hid h
 have HU := Lib.hid hu
 clear h hu
 rw [show iv = nonceTo iv u 0 from rfl] at hN
 go_upto_region 3 with (fail)
 go_loopw [9] (fun i wr => ∃ k : Nat, k ≤ 8 ∧ i = .int .i64 (k : Int) ∧ Blk wr g3 48 ((nonceTo iv u k).map B8) ∧ Blk wr w.heap.size 48 (Z.map B8) ∧ Below w.heap.size w wr) (fun i _ => 8 - (intOf i).toNat)
 case atStart => exact ⟨0, by omega, rfl, hN, hO, hbw⟩
 case round =>
  clear hN hO hbw
  obtain ⟨k, hk, rfl, hN, hO, hbw⟩ := hrel
  by_cases hlt : k < 8
  ·
   have hd : (k : Int) < 8 := by omega
   obtain ⟨c, hc⟩ : ∃ c, c = 8 * k := ⟨_, rfl⟩
   obtain ⟨p, hp⟩ : ∃ p, p = 11 - k := ⟨_, rfl⟩
   obtain ⟨z1, z2, z3, z4, z5, z6, z7, z8, z9, z10, z11⟩ := ix_n k c p hlt hc hp
   obtain ⟨x, hx⟩ : ∃ x, x = (nonceTo iv u k).getD p 0 := ⟨_, rfl⟩
   obtain ⟨y, hy⟩ : ∃ y, y = UInt8.ofNat (u / 2 ^ c) := ⟨_, rfl⟩
   obtain ⟨x1, hx1⟩ : ∃ x1, x1 = x ^^^ y := ⟨_, rfl⟩
   have hly := low_u u c
   rw [← hy] at hly
   have hxx : bits .xor .u8 (x.toNat : Int) (y.toNat : Int) = (x1.toNat : Int) := by rw [hx1, b_xor]
   have HSE := Lib.hid (show (nonceTo iv u k).set p x1 = nonceTo iv u (k + 1) by rw [nonceTo, hx1, hx, hy, hp, hc])
   have c1 := fun (W : World) (hb : Below wr.heap.size wr W) => (hN.below hb hN.lt).at8 p (by rw [HNL.out, HIV.out]; exact z11)
   have c2 := fun (W : World) (hb : Below wr.heap.size wr W) => ((HH.out.below hbw).below hb).used
   rw [← hx] at c1
   have HC1 := Lib.hid c1
   have HC2 := Lib.hid c2
   have HK1 := Lib.hid (show k + 1 ≤ 8 by omega)
   have HMS := Lib.hid (show 8 - (intOf (.int .i64 ((k + 1 : Nat) : Int))).toNat < 8 - (intOf (.int .i64 (k : Int))).toNat by simp [intOf]; omega)
   clear hx hy hx1 hc hp c1 c2 z11
   go_upto_region 5 with (fail)
   apply wp_region_once_tail (m := 14) (Z := []) (D := [[], [0], [0, 1], [0, 1, 2], [], [4], [4, 5], [4, 5, 6], [], [8], [4, 5, 6, 7, 8, 9], [4, 5, 6, 7, 8, 9, 10], [0, 1, 2, 3, 4, 5, 6, 7, 8, 9, 10, 11], [0, 1, 2, 3, 4, 5, 6, 7, 8, 9, 10, 11, 12], [0, 1, 2, 3, 4, 5, 6, 7, 8, 9, 10, 11, 12, 13]]) (J := [[], [0], [1], [2], [], [4], [5], [6], [], [8], [7, 9], [10], [3, 11], [1]]) (Je := [12, 13]) (Rs := [Is _, Is _, Is _, Is _, Is _, Is _, Is _, Is _, Is _, Is _, Is _, Is _, Is _, Is _])
   ·
    kernel_rfl
   ·
    kernel_rfl
   ·
    kernel_rfl
   ·
    kernel_rfl
   ·
    kernel_rfl
   ·
    kernel_rfl
   ·
    kernel_rfl
   ·
    exact fun h => absurd rfl h
   ·
    intro u
    simp only [List.take_succ_cons, List.take_zero, List.map_cons, List.map_nil, fillU, List.setIfInBounds_toArray, List.set_cons_zero, List.set_cons_succ, Nat.zero_add, Nat.reduceAdd]
    exact rfl
   ·
    simp only [List.take_succ_cons, List.take_zero]
    refine ⟨fun u W hb hd K hK => ?_, ?_⟩
    ·
     clear hd
     go_simp
     apply hK
     ·
      simp only [Act.put, List.setIfInBounds_toArray, List.set_cons_zero, List.set_cons_succ]
      exact rfl
     ·
      exact Below.refl _ _
     ·
      exact IsOut
    refine ⟨fun u W hb hd K hK => ?_, ?_⟩
    ·
     simp only [Facts, nthR, Is, and_true] at hd
     simp only [hd] at hK ⊢
     clear hd
     go_simp
     apply hK
     ·
      simp only [Act.put, List.setIfInBounds_toArray, List.set_cons_zero, List.set_cons_succ]
      exact rfl
     ·
      exact Below.refl _ _
     ·
      exact IsOut
    refine ⟨fun u W hb hd K hK => ?_, ?_⟩
    ·
     simp only [Facts, nthR, Is, and_true] at hd
     simp only [hd] at hK ⊢
     clear hd
     go_simp
     apply hK
     ·
      simp only [Act.put, List.setIfInBounds_toArray, List.set_cons_zero, List.set_cons_succ]
      exact rfl
     ·
      exact Below.refl _ _
     ·
      exact IsOut
    refine ⟨fun u W hb hd K hK => ?_, ?_⟩
    ·
     simp only [Facts, nthR, Is, and_true] at hd
     simp only [hd] at hK ⊢
     clear hd
     have hcc := HC1.out W hb
     go_simp
     apply hK
     ·
      simp only [Act.put, List.setIfInBounds_toArray, List.set_cons_zero, List.set_cons_succ]
      exact rfl
     ·
      exact Below.refl _ _
     ·
      exact IsOut
    refine ⟨fun u W hb hd K hK => ?_, ?_⟩
    ·
     clear hd
     go_simp
     apply hK
     ·
      simp only [Act.put, List.setIfInBounds_toArray, List.set_cons_zero, List.set_cons_succ]
      exact rfl
     ·
      exact Below.refl _ _
     ·
      exact IsOut
    refine ⟨fun u W hb hd K hK => ?_, ?_⟩
    ·
     simp only [Facts, nthR, Is, and_true] at hd
     simp only [hd] at hK ⊢
     clear hd
     go_simp
     apply hK
     ·
      simp only [Act.put, List.setIfInBounds_toArray, List.set_cons_zero, List.set_cons_succ]
      exact rfl
     ·
      exact Below.refl _ _
     ·
      exact IsOut
    refine ⟨fun u W hb hd K hK => ?_, ?_⟩
    ·
     simp only [Facts, nthR, Is, and_true] at hd
     simp only [hd] at hK ⊢
     clear hd
     go_simp
     apply hK
     ·
      simp only [Act.put, List.setIfInBounds_toArray, List.set_cons_zero, List.set_cons_succ]
      exact rfl
     ·
      exact Below.refl _ _
     ·
      exact IsOut
    refine ⟨fun u W hb hd K hK => ?_, ?_⟩
    ·
     simp only [Facts, nthR, Is, and_true] at hd
     simp only [hd] at hK ⊢
     clear hd
     have hcc := HC2.out W hb
     go_simp
     apply hK
     ·
      simp only [Act.put, List.setIfInBounds_toArray, List.set_cons_zero, List.set_cons_succ]
      exact rfl
     ·
      exact Below.refl _ _
     ·
      exact IsOut
    refine ⟨fun u W hb hd K hK => ?_, ?_⟩
    ·
     clear hd
     go_simp
     apply hK
     ·
      simp only [Act.put, List.setIfInBounds_toArray, List.set_cons_zero, List.set_cons_succ]
      exact rfl
     ·
      exact Below.refl _ _
     ·
      exact IsOut
    refine ⟨fun u W hb hd K hK => ?_, ?_⟩
    ·
     simp only [Facts, nthR, Is, and_true] at hd
     simp only [hd] at hK ⊢
     clear hd
     go_simp
     apply hK
     ·
      simp only [Act.put, List.setIfInBounds_toArray, List.set_cons_zero, List.set_cons_succ]
      exact rfl
     ·
      exact Below.refl _ _
     ·
      exact IsOut
    refine ⟨fun u W hb hd K hK => ?_, ?_⟩
    ·
     simp only [Facts, nthR, Is, and_true] at hd
     simp only [hd] at hK ⊢
     clear hd
     go_simp
     apply hK
     ·
      simp only [Act.put, List.setIfInBounds_toArray, List.set_cons_zero, List.set_cons_succ]
      exact rfl
     ·
      exact Below.refl _ _
     ·
      exact IsOut
    refine ⟨fun u W hb hd K hK => ?_, ?_⟩
    ·
     simp only [Facts, nthR, Is, and_true] at hd
     simp only [hd] at hK ⊢
     clear hd
     go_simp
     apply hK
     ·
      simp only [Act.put, List.setIfInBounds_toArray, List.set_cons_zero, List.set_cons_succ]
      exact rfl
     ·
      exact Below.refl _ _
     ·
      exact IsOut
    refine ⟨fun u W hb hd K hK => ?_, ?_⟩
    ·
     simp only [Facts, nthR, Is, and_true] at hd
     simp only [hd] at hK ⊢
     clear hd
     go_simp
     apply hK
     ·
      simp only [Act.put, List.setIfInBounds_toArray, List.set_cons_zero, List.set_cons_succ]
      exact rfl
     ·
      exact Below.refl _ _
     ·
      exact IsOut
    refine ⟨fun u W hb hd K hK => ?_, ?_⟩
    ·
     simp only [Facts, nthR, Is, and_true] at hd
     simp only [hd] at hK ⊢
     clear hd
     go_simp
     apply hK
     ·
      simp only [Act.put, List.setIfInBounds_toArray, List.set_cons_zero, List.set_cons_succ]
      exact rfl
     ·
      exact Below.refl _ _
     ·
      exact IsOut
    exact trivial
   ·
    skip
    exact trivial
   ·
    exact (.is (.is (.is (.is (.is (.is (.is (.is (.is (.is (.is (.is (.is (.is .nil))))))))))))))
   ·
    intro u W hb hd
    simp only [List.drop_succ_cons, List.drop_zero]
    simp only [Facts, nthR, Is, and_true] at hd
    simp only [hd]
    replace hN := hN.below hb hN.lt
    replace hO := hO.below hb hO.lt
    replace hbw := hbw.trans (hb.mono hbw.size)
    have hff := hN.frozen p
    have hcc := HC1.out W hb
    have hN2 := hN.set_ p (B8 x1)
    rw [map_set8, HSE.out] at hN2
    have hO2 := hO.far (p := ⟨g3, p, none⟩) (by simpa using hne) (B8 x1)
    have hb2 := hbw.setCell (p := ⟨g3, p, none⟩) (by simpa using hge) (B8 x1)
    have HN2 := Lib.hid hN2
    have HO2 := Lib.hid hO2
    have HB2 := Lib.hid hb2
    clear hb hN2 hO2 hb2 hN hO hbw
    go_wp2
    go_roundw
    case rel => exact ⟨k + 1, HK1.out, by go_num, HN2.out, HO2.out, HB2.out⟩
    case measure => exact HMS.out
  ·
   have hd : ¬ (k : Int) < 8 := by omega
   rw [show k = 8 by omega, show nonceTo iv u 8 = nonceH iv u from rfl] at hN
   have HVL := Lib.hid (show (nonceH iv u).length = 12 by rw [nonceH, HNL.out, HIV.out])
   go_wp2_with (first
    | ((with_reducible refine (?_ : wpList _ _ _ (Oper.mk (some 27) _ _ _ _ _ :: _) _ _)); go_loud (refine wpList_load_blk rfl 48 (.tmp 3) rfl g3 rfl 48 _ _ hN Tryd.underlying48 rfl (info12.trans (by rw [List.length_map, HVL.out])) ?_))
    | ((with_reducible refine (?_ : wpList _ _ _ (Oper.mk none (.store 48 (.tmp 2) _) _ _ _ _ :: _) _ _)); go_loud (refine wpList_store_blk rfl 48 (.tmp 2) (.tmp 27) rfl rfl (w.heap.size) _ rfl rfl 48 _ hO (info12.trans (by rw [List.length_map, HVL.out])) (by rw [List.length_map, List.length_map, HVL.out, HZL.out]) (one8 _) ?_); intro w7 hR7 hg7))
   refine bodyPost_ret (v := .agg _) (results_cell_row rfl _ _ (w.heap.size) 48 _ (0, 0) _ rfl hR7.raw Tryd.underlying48 rfl (info12.trans (by rw [List.size_toArray, List.length_map, HVL.out]))) rfl ⟨rfl, below_new hbw hg7 (Nat.le_refl _) hbw.size⟩

end Go.Proofs.YtnjpcbbdhimacaaDoor
