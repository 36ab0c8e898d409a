/-
  The walk of the statement MacDerives, where the key has at most 64 bytes.
-/
import Derived.Test.YtddfboomjcnpcaaDoorDerives0
import Derived.Test.YtddfboomjcnpcaaDoorFree
namespace Go.Proofs.YtddfboomjcnpcaaDoor
open Go.RowKit

set_option maxRecDepth 100000 in
set_option maxHeartbeats 4000000 in
theorem macDerives_short (A : Option Addr) (ca : Nat) (key xl lab : List UInt8) (w : World) (hk : key.length = 32) (ia : In w w.heap.size A ca xl) (ht : Tabs w) (h64 : ¬ 64 < (xl.take 200).length) :
    Calls Tryd.prog 10 #[.agg (key.map B8).toArray, .slice A xl.length ca, .string ⟨lab.toArray⟩] w fun e w' => e = .returned (.bool true) ∧ Below w.heap.size w w' := by
  have ml : min (xl.length : Int) 200 = ((xl.take 200).length : Int) := by rw [List.length_take]; omega
  have ms : min (lab.length : Int) 100 = ((lab.take 100).length : Int) := by rw [List.length_take]; omega
  have ja := ia.take 200
  have la2 : (xl.take 200).length ≤ 200 := by rw [List.length_take]; omega
  have la3 : (xl.take 200).length ≤ xl.length := by rw [List.length_take]; omega
  have ls2 : (lab.take 100).length ≤ 100 := by rw [List.length_take]; omega
  have ls3 : (lab.take 100).length ≤ lab.length := by rw [List.length_take]; omega
  obtain ⟨ha, hca, _⟩ := ia
  have ka := ja.1
  generalize xl.take 200 = long at *
  obtain ⟨lb, hlb⟩ : ∃ lb, lb = lab.take 100 := ⟨_, rfl⟩
  have hex : (⟨lab.toArray⟩ : ByteArray).extract 0 lb.length = ⟨lb.toArray⟩ := by
    have e : ((⟨lab.toArray⟩ : ByteArray).extract 0 lb.length).data = lb.toArray := by
      rw [ByteArray.data_extract, hlb]
      simp [List.take_eq_take_iff]
    exact ByteArray.ext e
  rw [← hlb] at ms ls2 ls3
  clear hlb
  have HK := Lib.hid hk
  clear hk
  go_enter Tryd.func10, Tryd.ntmps10
  go_wp2
  go_quiet (fail)
  clear ml la3 ha
  have hK1 : Blk ((w.alloc (.cells (key.map B8).toArray 29)).drewN nq) w.heap.size 29 (key.map B8) := (Blk.new_of w _ _ _ rfl).drewN nq
  have hb1 : Below w.heap.size w ((w.alloc (.cells (key.map B8).toArray 29)).drewN nq) := below_drewN ((Below.refl _ _).alloc (Nat.le_refl _) _) nq
  generalize (w.alloc (.cells (key.map B8).toArray 29)).drewN nq = w1 at *
  have j1 := ja.up hb1
  have hO := Lib.hid (fun (W : World) (hb : Below w1.heap.size w1 W) (gp : Nat) (hc : W.cell? ⟨gp, 0, none⟩ = some (.slice A long.length ca)) => of_one rfl (by omega) ((ht.below hb1).below hb) hc (j1.up hb) (Nat.le_refl _))
  go_wp2_with fail
  with_reducible refine (hO.out _ ((Below.refl _ _).alloc (Nat.le_refl _) _) _ (new_cell _ _ _)).mono ?_
  rintro e w2 ⟨rfl, hb2⟩
  clear hO
  have hb12 : Below w1.heap.size w1 w2 := ((Below.refl _ _).alloc (Nat.le_refl _) _).trans (hb2.mono (by simp))
  have hK2 := hK1.below hb12 hK1.lt
  have j2 := j1.up hb12
  have hb2' := hb1.trans (hb12.mono hb1.size)
  clear hb2 hb12 hK1 j1 hb1
  obtain ⟨y, hy⟩ : ∃ y, y = sha long := ⟨_, rfl⟩
  have hyl : y.length = 32 := by rw [hy]; exact sha_length _
  rw [← hy]
  have HY := Lib.hid hy
  have HYL := Lib.hid hyl
  clear hy hyl
  go_wp2_with (first
    | ((with_reducible refine (?_ : wpList _ _ _ (Oper.mk none (.store 29 (.tmp 7) _) _ _ _ _ :: _) _ _)); go_loud (refine wpList_store_blk rfl 29 (.tmp 7) (.tmp 24) rfl rfl w2.heap.size _ rfl rfl 29 _ (Blk.new_of w2 29 _ ((List.replicate 32 (0 : UInt8)).map B8) (by rfl)) (info32.trans (by rw [List.length_map, HYL.out])) (by rw [List.length_map, List.length_map, HYL.out]; rfl) (one8 _) ?_); intro w3 hY3 hg3;
       have hb23 : Below w2.heap.size w2 w3 := below_new ((Below.refl _ _).alloc (Nat.le_refl _) _) hg3 (Nat.le_refl _) (by simp); have hK3 := hK2.below hb23 hK2.lt; have j3 := j2.up hb23; have hb3 := hb2'.trans (hb23.mono hb2'.size); clear hg3 hb23 hK2 j2)
    | ((with_reducible refine (?_ : wpList _ _ _ (Oper.mk (some 25) _ _ _ _ _ :: _) _ _)); go_loud (refine wpList_load_blk rfl 29 (.tmp 3) rfl w.heap.size rfl 29 _ _ hK3 Tryd.underlying29 rfl (info32.trans (by rw [List.length_map, HK.out])) ?_))
    | ((with_reducible refine (?_ : wpList _ _ _ (Oper.mk (some 27) _ _ _ _ _ :: _) _ _)); go_loud (refine wpList_load_blk rfl 29 (.tmp 7) rfl w2.heap.size rfl 29 _ _ hY3 Tryd.underlying29 rfl (info32.trans (by rw [List.length_map, HYL.out])) ?_)))
  with_reducible refine (derive_any key lb y w3 HK.out HYL.out (by omega) (ht.below hb3)).mono ?_
  rintro e w4 ⟨rfl, hb34⟩
  have hK4 := hK3.below hb34 hK3.lt
  have hY4 := hY3.below hb34 hY3.lt
  have j4 := j3.up hb34
  have hb4 := hb3.trans (hb34.mono hb3.size)
  clear hb34 hK3 hY3 j3 hb3 hb2'
  have hxl := expand_length key (labelInfo lb y 32) 32
  obtain ⟨x, hx⟩ : ∃ x, x = expand key (labelInfo lb y 32) 32 := ⟨_, rfl⟩
  rw [← hx] at hxl ⊢
  have HXL := Lib.hid hxl
  have HX := Lib.hid hx
  clear hx hxl
  go_wp2_with (refine wpList_store_blk rfl 29 (.tmp 8) (.tmp 28) rfl rfl w4.heap.size _ rfl rfl 29 _ (Blk.new_of w4 29 _ ((List.replicate 32 (0 : UInt8)).map B8) (by rfl)) (info32.trans (by rw [List.length_map, HXL.out])) (by rw [List.length_map, List.length_map, HXL.out]; rfl) (one8 _) ?_; intro w5 hX5 hg5)
  have hb45 : Below w4.heap.size w4 w5 := below_new ((Below.refl _ _).alloc (Nat.le_refl _) _) hg5 (Nat.le_refl _) (by simp)
  have hK5 := hK4.below hb45 hK4.lt
  have hY5 := hY4.below hb45 hY4.lt
  have j5 := j4.up hb45
  have hb5 := hb4.trans (hb45.mono hb4.size)
  clear hg5 hb45 hK4 hY4 j4 hb4
  clear hex ms ls3 hca ka ja
  have hlK := hK5.lt
  have HS0 := Lib.hid (show w5.drew.rangeAt w.heap.size 0 (key.map B8) ∧ Below w5.heap.size w5 w5.drew from ⟨rangeAt_of_blk hK5.drew, below_drewN (Below.refl _ _) 1⟩)
  have hin := in_blk hY5 HYL.out (by omega)
  have HL := Lib.hid (fun (W : World) (h : W.rangeAt w.heap.size 0 (key.map B8) ∧ Below w5.heap.size w5 W) => label_32 (some ⟨w2.heap.size, 0, none⟩) key lb y x W HK.out (hin.up h.2) (by omega) HYL.out HX.out ((ht.below hb5).below h.2))
  have hu := Tryd.underlying29
  have hi32 : (Tryd.prog.info? 29).map (·.size) = some (key.map B8).length := info32.trans (by rw [List.length_map, HK.out])
  go_region_held3 (fun W => W.rangeAt w.heap.size 0 (key.map B8) ∧ Below w5.heap.size w5 W)
    (first
      | exact HS0.out
      | assumption
      | exact held_step hlK (by assumption) (by assumption))
    (first
      | (go_at_call 34; ((with_reducible refine (HL.out _ (by assumption)).mono ?_); rintro e w6 ⟨g, rfl, hg, hG, hb56⟩)))
  have hS := (by assumption : World.rangeAt w6 w.heap.size 0 (key.map B8) ∧ Below w5.heap.size w5 w6)
  have hK6 := hK5.below hS.2 hK5.lt
  have hY6 := hY5.below hS.2 hY5.lt
  have hX6 := hX5.below hS.2 hX5.lt
  have j6 := j5.up hS.2
  have hb6 := hb5.trans (hS.2.mono hb5.size)
  clear hS hb56 hg HL hin HS0 hK5 hY5 hX5 j5 hb5 hu hi32
  obtain ⟨z, hz⟩ : ∃ z, z = hmac long key := ⟨_, rfl⟩
  have hzl : z.length = 32 := by rw [hz]; exact hmac_length _ _
  have HZ := Lib.hid hz
  have hq := eq32 z hzl
  have iK := in_blk hK6 HK.out (by omega)
  have iY := in_blk hY6 HYL.out (by omega)
  have iX := in_blk hX6 HXL.out (by omega)
  have iG := in_blk hG HXL.out (by omega)
  have hcv1 := fun (W : World) (h : Below w6.heap.size w6 W) => conv_in HXL.out (iX.up h)
  have hcv2 := fun (W : World) (h : Below w6.heap.size w6 W) => conv_in HXL.out (iG.up h)
  have HT := Lib.hid (fun (W : World) (h : Below w6.heap.size w6 W) => (ht.below hb6).below h)
  have HE := Lib.hid (fun (W : World) (h : Below w6.heap.size w6 W) => extract_here (j6.up h) rfl (iK.up h) HK.out (by omega) (by omega) HZ.out (HT.out W h))
  have HM := Lib.hid (fun (W : World) (h : Below w6.heap.size w6 W) (gp : Nat) (hc : W.cell? ⟨gp, 0, none⟩ = some (.slice (some ⟨w.heap.size, 0, none⟩) 32 32)) => mac_one (j6.up h) rfl (iK.up h) HK.out hc (by omega) (by omega) HZ.out (HT.out W h))
  have HS0 := Lib.hid (show Below w6.heap.size w6 w6.drew from below_drewN (Below.refl _ _) 1)
  have HB := Lib.hid hb6
  clear hz hzl hK6 hY6 hX6 hG hb6
  · have hd : decide ((64 : Int) < (long.length : Int)) = false := by simp; omega
    clear iK iY iX iG j6 ht
    go_wp2_with fail
    apply wp_region_once (D := [[], [0], [0, 1], [0, 1, 2], [0, 1, 2, 3], [0, 1, 2, 3, 4], [0, 1, 2, 3, 4, 5], [0, 1, 2, 3, 4, 5, 6], [0, 1, 2, 3, 4, 5], [0, 1, 2, 3, 4, 5, 8], [0, 1, 2, 3, 4, 5, 6, 7, 8, 9], [0, 1, 2, 3, 4, 5, 6, 7, 8, 9, 10], [0, 1, 2, 3, 4, 5, 6, 7, 8, 9, 10, 11], [0, 1, 2, 3, 4, 5, 6, 7, 8, 9, 10, 11, 12], [0, 1, 2, 3, 4, 5, 6, 7, 8, 9, 10, 11, 12], [0, 1, 2, 3, 4, 5, 6, 7, 8, 9, 10, 11, 12, 13, 14], [0, 1, 2, 3, 4, 5, 6, 7, 8, 9, 10, 11, 12], [0, 1, 2, 3, 4, 5, 6, 7, 8, 9, 10, 11, 12], [0, 1, 2, 3, 4, 5, 6, 7, 8, 9, 10, 11, 12, 17], [0, 1, 2, 3, 4, 5, 6, 7, 8, 9, 10, 11, 12, 13, 14, 15, 16, 17, 18], [0, 1, 2, 3, 4, 5, 6, 7, 8, 9, 10, 11, 12, 13, 14, 15, 16, 17, 18, 19], [0, 1, 2, 3, 4, 5, 6, 7, 8, 9, 10, 11, 12, 13, 14, 15, 16, 17, 18, 19, 20], [0, 1, 2, 3, 4, 5, 6, 7, 8, 9, 10, 11, 12, 13, 14, 15, 16, 17, 18, 19, 20, 21], [0, 1, 2, 3, 4, 5, 6, 7, 8, 9, 10, 11, 12, 13, 14, 15, 16, 17, 18, 19, 20, 21, 22], [0, 1, 2, 3, 4, 5, 6, 7, 8, 9, 10, 11, 12, 13, 14, 15, 16, 17, 18, 19, 20, 21, 22], [0, 1, 2, 3, 4, 5, 6, 7, 8, 9, 10, 11, 12, 13, 14, 15, 16, 17, 18, 19, 20, 21, 22, 24], [0, 1, 2, 3, 4, 5, 6, 7, 8, 9, 10, 11, 12, 13, 14, 15, 16, 17, 18, 19, 20, 21, 22, 23, 24, 25], [0, 1, 2, 3, 4, 5, 6, 7, 8, 9, 10, 11, 12, 13, 14, 15, 16, 17, 18, 19, 20, 21, 22], [0, 1, 2, 3, 4, 5, 6, 7, 8, 9, 10, 11, 12, 13, 14, 15, 16, 17, 18, 19, 20, 21, 22], [0, 1, 2, 3, 4, 5, 6, 7, 8, 9, 10, 11, 12, 13, 14, 15, 16, 17, 18, 19, 20, 21, 22, 28], [0, 1, 2, 3, 4, 5, 6, 7, 8, 9, 10, 11, 12, 13, 14, 15, 16, 17, 18, 19, 20, 21, 22, 23, 24, 25, 26, 27, 28, 29], [0, 1, 2, 3, 4, 5, 6, 7, 8, 9, 10, 11, 12, 13, 14, 15, 16, 17, 18, 19, 20, 21, 22, 23, 24, 25, 26, 27, 28, 29, 30], [0, 1, 2, 3, 4, 5, 6, 7, 8, 9, 10, 11, 12, 13, 14, 15, 16, 17, 18, 19, 20, 21, 22, 23, 24, 25, 26, 27, 28, 29, 30, 31], [0, 1, 2, 3, 4, 5, 6, 7, 8, 9, 10, 11, 12, 13, 14, 15, 16, 17, 18, 19, 20, 21, 22, 23, 24, 25, 26, 27, 28, 29, 30, 31, 32]]) (J := [[], [0], [1], [1, 2], [1, 3], [4], [5], [5, 6], [5], [5, 8], [5, 7, 9], [5, 10], [11], [12], [12], [12, 13, 14], [12], [12], [12, 17], [12, 16, 18], [12, 15, 19], [12, 20], [21], [22], [22], [22, 24], [22, 23, 25], [22], [22], [22, 28], [22, 27, 29], [22, 26, 30], [22, 31], [32]]) (Je := [33]) (Rs := [Is _, Is _, Is _, Is _, Is _, Is _, Is _, Is _, Is _, Is _, Is _, Is _, Is _, Is _, Is _, Is _, Is _, Is _, fun v W => ∃ g, v = .slice (some ⟨g, 0, none⟩) 1 1 ∧ W.cell? ⟨g, 0, none⟩ = some (.slice (some ⟨w.heap.size, 0, none⟩) 32 32), Is _, Is _, Is _, Is _, Is _, Is _, fun v W => ∃ g, v = .slice (some ⟨g, 0, none⟩) 1 1 ∧ W.cell? ⟨g, 0, none⟩ = some (.slice (some ⟨w.heap.size, 0, none⟩) 32 32), Is _, Is _, Is _, fun v W => ∃ g, v = .slice (some ⟨g, 0, none⟩) 1 1 ∧ W.cell? ⟨g, 0, none⟩ = some (.slice (some ⟨w.heap.size, 0, none⟩) 32 32), Is _, Is _, Is _, Is _])
    · kernel_rfl
    · kernel_rfl
    · kernel_rfl
    · kernel_rfl
    · kernel_rfl
    · intro u
      simp only [List.map_cons, List.map_nil, fillU, List.setIfInBounds_toArray, List.set_cons_zero, List.set_cons_succ, Nat.zero_add, Nat.reduceAdd]
      exact rfl
    · skip
      refine ⟨fun u W hb hd K hK => ?_, ?_⟩
      · clear hd
        go_simp
        refine (macs_any _ (HT.out _ hb)).mono ?_
        rintro e wy ⟨rfl, hby⟩
        exact hK _ _ _ rfl hby IsOut
      refine ⟨fun u W hb hd K hK => ?_, ?_⟩
      · simp only [Facts, nthR, Is, and_true] at hd
        simp only [hd] at hK ⊢
        clear hd
        go_simp
        apply hK
        · simp only [Act.put, List.setIfInBounds_toArray, List.set_cons_zero, List.set_cons_succ]
          exact rfl
        · exact Below.refl _ _
        · exact IsOut
      refine ⟨fun u W hb hd K hK => ?_, ?_⟩
      · simp only [Facts, nthR, Is, and_true] at hd
        simp only [hd] at hK ⊢
        clear hd
        go_simp
        apply hK
        · simp only [Act.put, List.setIfInBounds_toArray, List.set_cons_zero, List.set_cons_succ]
          exact rfl
        · exact Below.refl _ _
        · exact IsOut
      refine ⟨fun u W hb hd K hK => ?_, ?_⟩
      · simp only [Facts, nthR, Is, and_true] at hd
        simp only [hd] at hK ⊢
        clear hd
        go_simp
        apply hK
        · simp only [Act.put, List.setIfInBounds_toArray, List.set_cons_zero, List.set_cons_succ]
          exact rfl
        · exact Below.refl _ _
        · exact IsOut
      refine ⟨fun u W hb hd K hK => ?_, ?_⟩
      · simp only [Facts, nthR, Is, and_true] at hd
        simp only [hd] at hK ⊢
        clear hd
        go_simp
        apply hK
        · simp only [Act.put, List.setIfInBounds_toArray, List.set_cons_zero, List.set_cons_succ]
          exact rfl
        · exact Below.refl _ _
        · exact IsOut
      refine ⟨fun u W hb hd K hK => ?_, ?_⟩
      · simp only [Facts, nthR, Is, and_true] at hd
        simp only [hd] at hK ⊢
        clear hd
        go_simp
        apply hK
        · simp only [Act.put, List.setIfInBounds_toArray, List.set_cons_zero, List.set_cons_succ]
          exact rfl
        · exact Below.refl _ _
        · exact IsOut
      refine ⟨fun u W hb hd K hK => ?_, ?_⟩
      · simp only [Facts, nthR, Is, and_true] at hd
        simp only [hd] at hK ⊢
        clear hd
        go_simp
        apply hK
        · simp only [Act.put, List.setIfInBounds_toArray, List.set_cons_zero, List.set_cons_succ]
          exact rfl
        · exact Below.refl _ _
        · exact IsOut
      refine ⟨fun u W hb hd K hK => ?_, ?_⟩
      · simp only [Facts, nthR, Is, and_true] at hd
        simp only [hd] at hK ⊢
        clear hd
        go_simp
        apply hK
        · simp only [Act.put, List.setIfInBounds_toArray, List.set_cons_zero, List.set_cons_succ]
          exact rfl
        · exact Below.refl _ _
        · exact IsOut
      refine ⟨fun u W hb hd K hK => ?_, ?_⟩
      · simp only [Facts, nthR, Is, and_true] at hd
        simp only [hd] at hK ⊢
        clear hd
        go_simp
        apply hK
        · simp only [Act.put, List.setIfInBounds_toArray, List.set_cons_zero, List.set_cons_succ]
          exact rfl
        · exact Below.refl _ _
        · exact IsOut
      refine ⟨fun u W hb hd K hK => ?_, ?_⟩
      · simp only [Facts, nthR, Is, and_true] at hd
        simp only [hd] at hK ⊢
        clear hd
        go_simp
        apply hK
        · simp only [Act.put, List.setIfInBounds_toArray, List.set_cons_zero, List.set_cons_succ]
          exact rfl
        · exact Below.refl _ _
        · exact IsOut
      refine ⟨fun u W hb hd K hK => ?_, ?_⟩
      · simp only [Facts, nthR, Is, and_true] at hd
        simp only [hd] at hK ⊢
        clear hd
        go_simp
        apply hK
        · simp only [Act.put, List.setIfInBounds_toArray, List.set_cons_zero, List.set_cons_succ]
          exact rfl
        · exact Below.refl _ _
        · exact IsOut
      refine ⟨fun u W hb hd K hK => ?_, ?_⟩
      · simp only [Facts, nthR, Is, and_true] at hd
        simp only [hd] at hK ⊢
        clear hd
        go_simp
        apply hK
        · simp only [Act.put, List.setIfInBounds_toArray, List.set_cons_zero, List.set_cons_succ]
          exact rfl
        · exact Below.refl _ _
        · exact IsOut
      refine ⟨fun u W hb hd K hK => ?_, ?_⟩
      · simp only [Facts, nthR, Is, and_true] at hd
        simp only [hd] at hK ⊢
        clear hd
        go_simp
        apply hK
        · simp only [Act.put, List.setIfInBounds_toArray, List.set_cons_zero, List.set_cons_succ]
          exact rfl
        · exact Below.refl _ _
        · exact IsOut
      refine ⟨fun u W hb hd K hK => ?_, ?_⟩
      · simp only [Facts, nthR, Is, and_true] at hd
        simp only [hd] at hK ⊢
        clear hd
        go_simp
        apply hK
        · simp only [Act.put, List.setIfInBounds_toArray, List.set_cons_zero, List.set_cons_succ]
          exact rfl
        · exact Below.refl _ _
        · exact IsOut
      refine ⟨fun u W hb hd K hK => ?_, ?_⟩
      · simp only [Facts, nthR, Is, and_true] at hd
        simp only [hd] at hK ⊢
        clear hd
        go_simp
        apply hK
        · simp only [Act.put, List.setIfInBounds_toArray, List.set_cons_zero, List.set_cons_succ]
          exact rfl
        · exact Below.refl _ _
        · exact IsOut
      refine ⟨fun u W hb hd K hK => ?_, ?_⟩
      · simp only [Facts, nthR, Is, and_true] at hd
        simp only [hd] at hK ⊢
        clear hd
        go_simp
        refine (HE.out _ hb).mono ?_
        rintro e wy ⟨rfl, hby⟩
        exact hK _ _ _ rfl hby IsOut
      refine ⟨fun u W hb hd K hK => ?_, ?_⟩
      · simp only [Facts, nthR, Is, and_true] at hd
        simp only [hd] at hK ⊢
        clear hd
        go_simp
        apply hK
        · simp only [Act.put, List.setIfInBounds_toArray, List.set_cons_zero, List.set_cons_succ]
          exact rfl
        · exact Below.refl _ _
        · exact IsOut
      refine ⟨fun u W hb hd K hK => ?_, ?_⟩
      · simp only [Facts, nthR, Is, and_true] at hd
        simp only [hd] at hK ⊢
        clear hd
        go_simp
        apply hK
        · simp only [Act.put, List.setIfInBounds_toArray, List.set_cons_zero, List.set_cons_succ]
          exact rfl
        · exact Below.refl _ _
        · exact IsOut
      refine ⟨fun u W hb hd K hK => ?_, ?_⟩
      · simp only [Facts, nthR, Is, and_true] at hd
        simp only [hd] at hK ⊢
        clear hd
        go_simp
        apply hK
        · simp only [Act.put, List.setIfInBounds_toArray, List.set_cons_zero, List.set_cons_succ]
          exact rfl
        · exact (Below.refl _ _).alloc (Nat.le_refl _) _
        · exact ⟨_, rfl, new_cell _ _ _⟩
      refine ⟨fun u W hb hd K hK => ?_, ?_⟩
      · simp only [Facts, nthR, Is, and_true] at hd
        obtain ⟨h1, h2, g, h3, hc⟩ := hd
        simp only [h1, h2, h3] at hK ⊢
        clear h1 h2 h3
        go_simp
        refine (HM.out _ hb _ hc).mono ?_
        rintro e wy ⟨rfl, hby⟩
        exact hK _ _ _ rfl hby IsOut
      refine ⟨fun u W hb hd K hK => ?_, ?_⟩
      · simp only [Facts, nthR, Is, and_true] at hd
        simp only [hd] at hK ⊢
        clear hd
        go_simp
        apply hK
        · simp only [Act.put, List.setIfInBounds_toArray, List.set_cons_zero, List.set_cons_succ]
          exact rfl
        · exact Below.refl _ _
        · exact IsOut
      refine ⟨fun u W hb hd K hK => ?_, ?_⟩
      · simp only [Facts, nthR, Is, and_true] at hd
        simp only [hd] at hK ⊢
        clear hd
        go_simp
        apply hK
        · simp only [Act.put, List.setIfInBounds_toArray, List.set_cons_zero, List.set_cons_succ]
          exact rfl
        · exact Below.refl _ _
        · exact IsOut
      refine ⟨fun u W hb hd K hK => ?_, ?_⟩
      · simp only [Facts, nthR, Is, and_true] at hd
        simp only [hd] at hK ⊢
        clear hd
        go_simp
        apply hK
        · simp only [Act.put, List.setIfInBounds_toArray, List.set_cons_zero, List.set_cons_succ]
          exact rfl
        · exact Below.refl _ _
        · exact IsOut
      refine ⟨fun u W hb hd K hK => ?_, ?_⟩
      · simp only [Facts, nthR, Is, and_true] at hd
        simp only [hd] at hK ⊢
        clear hd
        go_simp
        apply hK
        · simp only [Act.put, List.setIfInBounds_toArray, List.set_cons_zero, List.set_cons_succ]
          exact rfl
        · exact Below.refl _ _
        · exact IsOut
      refine ⟨fun u W hb hd K hK => ?_, ?_⟩
      · simp only [Facts, nthR, Is, and_true] at hd
        simp only [hd] at hK ⊢
        clear hd
        go_simp
        apply hK
        · simp only [Act.put, List.setIfInBounds_toArray, List.set_cons_zero, List.set_cons_succ]
          exact rfl
        · exact Below.refl _ _
        · exact IsOut
      refine ⟨fun u W hb hd K hK => ?_, ?_⟩
      · simp only [Facts, nthR, Is, and_true] at hd
        simp only [hd] at hK ⊢
        clear hd
        go_simp
        apply hK
        · simp only [Act.put, List.setIfInBounds_toArray, List.set_cons_zero, List.set_cons_succ]
          exact rfl
        · exact (Below.refl _ _).alloc (Nat.le_refl _) _
        · exact ⟨_, rfl, new_cell _ _ _⟩
      refine ⟨fun u W hb hd K hK => ?_, ?_⟩
      · simp only [Facts, nthR, Is, and_true] at hd
        obtain ⟨h1, h2, g, h3, hc⟩ := hd
        simp only [h1, h2, h3] at hK ⊢
        clear h1 h2 h3
        go_simp
        refine (HM.out _ hb _ hc).mono ?_
        rintro e wy ⟨rfl, hby⟩
        exact hK _ _ _ rfl hby IsOut
      refine ⟨fun u W hb hd K hK => ?_, ?_⟩
      · simp only [Facts, nthR, Is, and_true] at hd
        simp only [hd] at hK ⊢
        clear hd
        go_simp
        apply hK
        · simp only [Act.put, List.setIfInBounds_toArray, List.set_cons_zero, List.set_cons_succ]
          exact rfl
        · exact Below.refl _ _
        · exact IsOut
      refine ⟨fun u W hb hd K hK => ?_, ?_⟩
      · simp only [Facts, nthR, Is, and_true] at hd
        simp only [hd] at hK ⊢
        clear hd
        go_simp
        apply hK
        · simp only [Act.put, List.setIfInBounds_toArray, List.set_cons_zero, List.set_cons_succ]
          exact rfl
        · exact Below.refl _ _
        · exact IsOut
      refine ⟨fun u W hb hd K hK => ?_, ?_⟩
      · simp only [Facts, nthR, Is, and_true] at hd
        simp only [hd] at hK ⊢
        clear hd
        go_simp
        apply hK
        · simp only [Act.put, List.setIfInBounds_toArray, List.set_cons_zero, List.set_cons_succ]
          exact rfl
        · exact (Below.refl _ _).alloc (Nat.le_refl _) _
        · exact ⟨_, rfl, new_cell _ _ _⟩
      refine ⟨fun u W hb hd K hK => ?_, ?_⟩
      · simp only [Facts, nthR, Is, and_true] at hd
        obtain ⟨h1, h2, g, h3, hc⟩ := hd
        simp only [h1, h2, h3] at hK ⊢
        clear h1 h2 h3
        go_simp
        refine (HM.out _ hb _ hc).mono ?_
        rintro e wy ⟨rfl, hby⟩
        exact hK _ _ _ rfl hby IsOut
      refine ⟨fun u W hb hd K hK => ?_, ?_⟩
      · simp only [Facts, nthR, Is, and_true] at hd
        simp only [hd] at hK ⊢
        clear hd
        go_simp
        apply hK
        · simp only [Act.put, List.setIfInBounds_toArray, List.set_cons_zero, List.set_cons_succ]
          exact rfl
        · exact Below.refl _ _
        · exact IsOut
      refine ⟨fun u W hb hd K hK => ?_, ?_⟩
      · simp only [Facts, nthR, Is, and_true] at hd
        simp only [hd] at hK ⊢
        clear hd
        go_simp
        apply hK
        · simp only [Act.put, List.setIfInBounds_toArray, List.set_cons_zero, List.set_cons_succ]
          exact rfl
        · exact Below.refl _ _
        · exact IsOut
      refine ⟨fun u W hb hd K hK => ?_, ?_⟩
      · simp only [Facts, nthR, Is, and_true] at hd
        simp only [hd] at hK ⊢
        clear hd
        go_simp
        apply hK
        · simp only [Act.put, List.setIfInBounds_toArray, List.set_cons_zero, List.set_cons_succ]
          exact rfl
        · exact Below.refl _ _
        · exact IsOut
      exact trivial
    · exact (.is (.is (.is (.is (.is (.is (.is (.is (.is (.is (.is (.is (.is (.is (.is (.is (.is (.is (.cons (fun v W W' ⟨g, h1, h2⟩ hb => ⟨g, h1, cell_through h2 hb⟩) (.is (.is (.is (.is (.is (.is (.cons (fun v W W' ⟨g, h1, h2⟩ hb => ⟨g, h1, cell_through h2 hb⟩) (.is (.is (.is (.cons (fun v W W' ⟨g, h1, h2⟩ hb => ⟨g, h1, cell_through h2 hb⟩) (.is (.is (.is (.is .nil))))))))))))))))))))))))))))))))))
    · intro u W hb hd
      simp only [Facts, nthR, Is, and_true] at hd
      simp only [hd]
      have hfin := HB.out.trans (hb.mono HB.out.size)
      go_wp2
      go_ret
      exact ⟨rfl, hfin⟩
end Go.Proofs.YtddfboomjcnpcaaDoor
