/-
  The walk of the statement MacExpands.
-/
import Derived.Test.YtddfboomjcnpcaaDoorRefExp
import Derived.Test.YtddfboomjcnpcaaDoorFree
import Derived.IntWalk
namespace Go.Proofs.YtddfboomjcnpcaaDoor
open Go.RowKit

theorem tTo_prefix (key info : List UInt8) (k d : Nat) : (tTo key info (k + d)).take (32 * k) = tTo key info k := by
  induction d with
  | zero => rw [Nat.add_zero, List.take_of_length_le (by rw [tTo_length]; omega)]
  | succ d ih => rw [← Nat.add_assoc, tTo, List.take_append_of_le_length (by rw [tTo_length]; omega), ih]
theorem expand_take (key info : List UInt8) (n m : Nat) (h : m ≤ n) : (expand key info n).take m = expand key info m := by
  unfold expand
  have e := tTo_prefix key info ((m + 31) / 32) ((n + 31) / 32 - (m + 31) / 32)
  rw [show (m + 31) / 32 + ((n + 31) / 32 - (m + 31) / 32) = (n + 31) / 32 by omega] at e
  rw [List.take_take, Nat.min_eq_left h, ← e, List.take_take, Nat.min_eq_left (by omega)]
theorem blk_in {w : World} {g n : Nat} {t : TypeId} {xs : List UInt8} (h : Blk w g t (xs.map B8)) (hn : xs.length = n) (hm : n < 100000) : In w w.heap.size (some ⟨g, 0, none⟩) n xs :=
  ⟨by omega, by omega, fun _ => ⟨g, 0, rfl, h.lt, fun j hj => by rw [Nat.zero_add]; exact h.at8 j hj⟩⟩

set_option maxRecDepth 100000 in
set_option maxHeartbeats 4000000 in
theorem macExpands_walk (A : Option Addr) (ca : Nat) (key xi : List UInt8) (n : Int) (w : World) (hk : key.length = 32) (ia : In w w.heap.size A ca xi) (ht : Tabs w) :
    Calls Tryd.prog 8 #[.agg (key.map B8).toArray, .slice A xi.length ca, .int .i64 n] w fun e w' => e = .returned (.bool true) ∧ Below w.heap.size w w' := by
  have ml : min (xi.length : Int) 150 = ((xi.take 150).length : Int) := by rw [List.length_take]; omega
  have ja := ia.take 150
  have la2 : (xi.take 150).length ≤ 150 := by rw [List.length_take]; omega
  have la3 : (xi.take 150).length ≤ xi.length := by rw [List.length_take]; omega
  obtain ⟨ha, hca, _⟩ := ia
  have ka := ja.1
  generalize xi.take 150 = info at *
  have HK := Lib.hid hk
  have HKe : Hid (key.length < 100000) := (show key.length < 100000 by omega)
  clear hk
  have hK1 : Blk (w.alloc (.cells (key.map B8).toArray 29)) w.heap.size 29 (key.map B8) := Blk.new_of w _ _ _ rfl
  have hb1 : Below w.heap.size w (w.alloc (.cells (key.map B8).toArray 29)) := (Below.refl _ _).alloc (Nat.le_refl _) _
  have HK1 := Lib.hid hK1
  have HB1 := Lib.hid hb1
  clear hK1 hb1
  by_cases hbad : n < 0 ∨ 8160 < n
  · -- a count outside
    have hp : decide ((700 : Int) < n) = false ∨ (decide ((700 : Int) < n) = true ∧ decide (n ≤ 8160) = false) := by
      rcases hbad with h | h
      · left; simp; omega
      · right; constructor <;> (simp; omega)
    go_enter Tryd.func8, Tryd.ntmps8
    rcases hp with hp | ⟨hp, hp2⟩
    case' inl => skip
    case' inr => skip
    all_goals
      go_wp2_with ((with_reducible refine (?_ : wpList _ _ _ (Oper.mk (some 28) _ _ _ _ _ :: _) _ _)); go_loud (refine wpList_load_blk rfl 29 (.tmp 3) rfl w.heap.size rfl 29 _ _ HK1.out Tryd.underlying29 rfl (info32.trans (by rw [List.length_map, HK.out])) ?_))
      refine (expand_bad (key.map B8) A ca info n _ hbad).mono ?_
      rintro e w1 ⟨rfl, hb2⟩
      have hK2 := HK1.out.below hb2 HK1.out.lt
      have hb3 := HB1.out.trans (hb2.mono HB1.out.size)
      have iK := blk_in hK2 HK.out (by omega)
      have jA := ja.up hb3
      have hcv1 := fun (W : World) (h : Below w1.heap.size w1 W) => conv_in HK.out (iK.up h)
      have hcv2 := fun (W : World) (h : Below w1.heap.size w1 W) => conv_in rfl (jA.up h)
      have hcv3 : ∀ W : World, (convert 27 9 (.slice none 0 0)).run Tryd.prog W = .ok (.string ⟨#[]⟩) W := fun W => conv_in (A := none) (c := 0) (B := 0) (y := []) rfl ⟨Nat.le_refl _, by omega, fun h => absurd h (by simp)⟩
      have HT := Lib.hid (fun (W : World) (h : Below w1.heap.size w1 W) => (ht.below hb3).below h)
      have HB := Lib.hid hb3
      clear hK2 hb2 hb3 iK jA ml ja ht
      go_wp2_with fail
      apply wp_region_once (D := [[], [0], [], [2], [], [0, 1, 2, 3, 4], [0, 1, 2, 3, 4, 5], [0, 1, 2, 3, 4, 5, 6], [0, 1, 2, 3, 4, 5, 6], [0, 1, 2, 3, 4, 5, 6, 7], [0, 1, 2, 3, 4, 5, 6, 7, 8, 9]]) (J := [[], [0], [], [2], [], [1, 3, 4], [5], [6], [6], [7], [8]]) (Je := [9, 10]) (Rs := [Is _, Is _, Is _, Is _, Is _, Is _, Is _, Is _, Is _, Is _, Is _])
      · kernel_rfl
      · kernel_rfl
      · kernel_rfl
      · kernel_rfl
      · kernel_rfl
      · kernel_rfl
      · intro u
        simp only [List.map_cons, List.map_nil, fillU, List.setIfInBounds_toArray, List.set_cons_zero, List.set_cons_succ, Nat.zero_add, Nat.reduceAdd]
        exact rfl
      · skip
        refine ⟨fun u W hb hd K hK => ?_, ?_⟩
        · clear hd
          go_simp
          apply hK
          · simp only [Act.put, List.setIfInBounds_toArray, List.set_cons_zero, List.set_cons_succ]
            exact rfl
          · exact Below.refl _ _
          · exact IsOut
        refine ⟨fun u W hb hd K hK => ?_, ?_⟩
        · simp only [Facts, nthR, Is, and_true] at hd
          simp only [hd] at hK ⊢
          clear hd
          go_simp
          apply hK
          · simp only [Act.put, List.setIfInBounds_toArray, List.set_cons_zero, List.set_cons_succ]
            exact rfl
          · exact Below.refl _ _
          · exact IsOut
        refine ⟨fun u W hb hd K hK => ?_, ?_⟩
        · clear hd
          go_simp
          apply hK
          · simp only [Act.put, List.setIfInBounds_toArray, List.set_cons_zero, List.set_cons_succ]
            exact rfl
          · exact Below.refl _ _
          · exact IsOut
        refine ⟨fun u W hb hd K hK => ?_, ?_⟩
        · simp only [Facts, nthR, Is, and_true] at hd
          simp only [hd] at hK ⊢
          clear hd
          go_simp
          apply hK
          · simp only [Act.put, List.setIfInBounds_toArray, List.set_cons_zero, List.set_cons_succ]
            exact rfl
          · exact Below.refl _ _
          · exact IsOut
        refine ⟨fun u W hb hd K hK => ?_, ?_⟩
        · clear hd
          go_simp
          apply hK
          · simp only [Act.put, List.setIfInBounds_toArray, List.set_cons_zero, List.set_cons_succ]
            exact rfl
          · exact Below.refl _ _
          · exact IsOut
        refine ⟨fun u W hb hd K hK => ?_, ?_⟩
        · simp only [Facts, nthR, Is, and_true] at hd
          simp only [hd] at hK ⊢
          clear hd
          go_simp
          refine (refExpand_bad key info n W hbad).mono ?_
          rintro e wy ⟨rfl, hby⟩
          exact hK _ _ _ rfl hby IsOut
        refine ⟨fun u W hb hd K hK => ?_, ?_⟩
        · simp only [Facts, nthR, Is, and_true] at hd
          simp only [hd] at hK ⊢
          clear hd
          go_simp
          apply hK
          · simp only [Act.put, List.setIfInBounds_toArray, List.set_cons_zero, List.set_cons_succ]
            exact rfl
          · exact Below.refl _ _
          · exact IsOut
        refine ⟨fun u W hb hd K hK => ?_, ?_⟩
        · simp only [Facts, nthR, Is, and_true] at hd
          simp only [hd] at hK ⊢
          clear hd
          go_simp
          apply hK
          · simp only [Act.put, List.setIfInBounds_toArray, List.set_cons_zero, List.set_cons_succ]
            exact rfl
          · exact Below.refl _ _
          · exact IsOut
        refine ⟨fun u W hb hd K hK => ?_, ?_⟩
        · simp only [Facts, nthR, Is, and_true] at hd
          simp only [hd] at hK ⊢
          clear hd
          go_simp
          apply hK
          · simp only [Act.put, List.setIfInBounds_toArray, List.set_cons_zero, List.set_cons_succ]
            exact rfl
          · exact Below.refl _ _
          · exact IsOut
        refine ⟨fun u W hb hd K hK => ?_, ?_⟩
        · simp only [Facts, nthR, Is, and_true] at hd
          simp only [hd] at hK ⊢
          clear hd
          go_simp
          apply hK
          · simp only [Act.put, List.setIfInBounds_toArray, List.set_cons_zero, List.set_cons_succ]
            exact rfl
          · exact Below.refl _ _
          · exact IsOut
        refine ⟨fun u W hb hd K hK => ?_, ?_⟩
        · simp only [Facts, nthR, Is, and_true] at hd
          simp only [hd] at hK ⊢
          clear hd
          go_simp
          apply hK
          · simp only [Act.put, List.setIfInBounds_toArray, List.set_cons_zero, List.set_cons_succ]
            exact rfl
          · exact Below.refl _ _
          · exact IsOut
        exact trivial
      · exact (.is (.is (.is (.is (.is (.is (.is (.is (.is (.is (.is .nil)))))))))))
      · intro u W hb hd
        simp only [Facts, nthR, Is, and_true] at hd
        simp only [hd]
        go_wp2_with fail
        refine (macs_any _ (HT.out _ hb)).mono ?_
        rintro e w3 ⟨rfl, hb3⟩
        have hfin := HB.out.trans ((hb.trans (hb3.mono hb.size)).mono HB.out.size)
        clear hcv1 hcv2 hb hb3
        go_wp2
        go_ret
        exact ⟨rfl, hfin⟩
  · -- a count within
    have hm : ∃ m : Nat, m ≤ 8160 ∧ ((decide ((700 : Int) < n) = false ∧ n = (m : Int)) ∨ (decide ((700 : Int) < n) = true ∧ decide (n ≤ 8160) = true ∧ 8160 - n % 40 = (m : Int))) := by
      by_cases h : 700 < n
      · exact ⟨(8160 - n % 40).toNat, by omega, .inr ⟨by simp; omega, by simp; omega, by omega⟩⟩
      · exact ⟨n.toNat, by omega, .inl ⟨by simp; omega, by omega⟩⟩
    obtain ⟨m, hm8, hp⟩ := hm
    have hn0 : 0 ≤ n := by omega
    have hn1 : n ≤ 8160 := by omega
    clear hbad
    have hxl := expand_length key info m
    have hyl := expand_length key info (m / 2)
    have hxy := expand_take key info m (m / 2) (by omega)
    have he1 := fun (W : World) (h : In W W.heap.size A ca info) (ht : Tabs W) => expand_any A ca m key info W HK.out h (by omega) hm8 ht
    have he2 := fun (W : World) (h : In W W.heap.size A ca info) (ht : Tabs W) => expand_any A ca (m / 2) key info W HK.out h (by omega) (by omega) ht
    have hr1 := fun (W : World) => refExpand_any m key info W HKe.out (by omega) hm8
    rw [show ((m / 2 : Nat) : Int) = (m : Int) / 2 by omega] at he2
    obtain ⟨x, hx⟩ : ∃ x, x = expand key info m := ⟨_, rfl⟩
    obtain ⟨y, hy⟩ : ∃ y, y = expand key info (m / 2) := ⟨_, rfl⟩
    rw [← hx] at hxl hxy he1 hr1
    rw [← hy] at hyl hxy he2
    have HXL := Lib.hid hxl
    have HYL := Lib.hid hyl
    have HXY := Lib.hid hxy
    have HE1 := Lib.hid he1
    have HE2 := Lib.hid he2
    have HR1 := Lib.hid hr1
    clear hx hy hxl hyl hxy he1 he2 hr1
    go_enter Tryd.func8, Tryd.ntmps8
    rcases hp with ⟨hp, rfl⟩ | ⟨hp, hp2, hp3⟩
    all_goals
      go_wp2_with ((with_reducible refine (?_ : wpList _ _ _ (Oper.mk (some 28) _ _ _ _ _ :: _) _ _)); go_loud (refine wpList_load_blk rfl 29 (.tmp 3) rfl w.heap.size rfl 29 _ _ HK1.out Tryd.underlying29 rfl (info32.trans (by rw [List.length_map, HK.out])) ?_))
      refine (HE1.out _ (ja.up HB1.out) (ht.below HB1.out)).mono ?_
      rintro e w1 ⟨g, rfl, hg, hX, hb2⟩
      try clear hp3
      have hK2 := HK1.out.below hb2 HK1.out.lt
      have hb3 := HB1.out.trans (hb2.mono HB1.out.size)
      have iK := blk_in hK2 HK.out (by omega)
      have jA := ja.up hb3
      have hcv1 := fun (W : World) (h : Below w1.heap.size w1 W) => conv_in HK.out (iK.up h)
      have hcv2 := fun (W : World) (h : Below w1.heap.size w1 W) => conv_in rfl (jA.up h)
      have HX := Lib.hid hX
      have HK2 := Lib.hid hK2
      have JA := Lib.hid jA
      have HT := Lib.hid (fun (W : World) (h : Below w1.heap.size w1 W) => (ht.below hb3).below h)
      have HB := Lib.hid hb3
      clear hX hK2 hb2 hb3 iK jA ml ja ht hg
      go_wp2_with fail
      apply wp_region_once (D := [[], [0], [], [2], [], [0, 1, 2, 3, 4], [0, 1, 2, 3, 4, 5], [0, 1, 2, 3, 4, 5, 6], [0, 1, 2, 3, 4, 5, 6], [0, 1, 2, 3, 4, 5, 6, 7], [0, 1, 2, 3, 4, 5, 6, 7, 8, 9]]) (J := [[], [0], [], [2], [], [1, 3, 4], [5], [6], [6], [7], [8]]) (Je := [9, 10]) (Rs := [Is _, Is _, Is _, Is _, Is _, Is _, Is _, Is _, Is _, Is _, Is _])
      · kernel_rfl
      · kernel_rfl
      · kernel_rfl
      · kernel_rfl
      · kernel_rfl
      · kernel_rfl
      · intro u
        simp only [List.map_cons, List.map_nil, fillU, List.setIfInBounds_toArray, List.set_cons_zero, List.set_cons_succ, Nat.zero_add, Nat.reduceAdd]
        exact rfl
      · skip
        refine ⟨fun u W hb hd K hK => ?_, ?_⟩
        · clear hd
          go_simp
          apply hK
          · simp only [Act.put, List.setIfInBounds_toArray, List.set_cons_zero, List.set_cons_succ]
            exact rfl
          · exact Below.refl _ _
          · exact IsOut
        refine ⟨fun u W hb hd K hK => ?_, ?_⟩
        · simp only [Facts, nthR, Is, and_true] at hd
          simp only [hd] at hK ⊢
          clear hd
          go_simp
          apply hK
          · simp only [Act.put, List.setIfInBounds_toArray, List.set_cons_zero, List.set_cons_succ]
            exact rfl
          · exact Below.refl _ _
          · exact IsOut
        refine ⟨fun u W hb hd K hK => ?_, ?_⟩
        · clear hd
          go_simp
          apply hK
          · simp only [Act.put, List.setIfInBounds_toArray, List.set_cons_zero, List.set_cons_succ]
            exact rfl
          · exact Below.refl _ _
          · exact IsOut
        refine ⟨fun u W hb hd K hK => ?_, ?_⟩
        · simp only [Facts, nthR, Is, and_true] at hd
          simp only [hd] at hK ⊢
          clear hd
          go_simp
          apply hK
          · simp only [Act.put, List.setIfInBounds_toArray, List.set_cons_zero, List.set_cons_succ]
            exact rfl
          · exact Below.refl _ _
          · exact IsOut
        refine ⟨fun u W hb hd K hK => ?_, ?_⟩
        · clear hd
          go_simp
          apply hK
          · simp only [Act.put, List.setIfInBounds_toArray, List.set_cons_zero, List.set_cons_succ]
            exact rfl
          · exact Below.refl _ _
          · exact IsOut
        refine ⟨fun u W hb hd K hK => ?_, ?_⟩
        · simp only [Facts, nthR, Is, and_true] at hd
          simp only [hd] at hK ⊢
          clear hd
          go_simp
          refine (HR1.out W).mono ?_
          rintro e wy ⟨rfl, hby⟩
          exact hK _ _ _ rfl hby IsOut
        refine ⟨fun u W hb hd K hK => ?_, ?_⟩
        · simp only [Facts, nthR, Is, and_true] at hd
          simp only [hd] at hK ⊢
          clear hd
          go_simp
          apply hK
          · simp only [Act.put, List.setIfInBounds_toArray, List.set_cons_zero, List.set_cons_succ]
            exact rfl
          · exact Below.refl _ _
          · exact IsOut
        refine ⟨fun u W hb hd K hK => ?_, ?_⟩
        · simp only [Facts, nthR, Is, and_true] at hd
          simp only [hd] at hK ⊢
          clear hd
          go_simp
          apply hK
          · simp only [Act.put, List.setIfInBounds_toArray, List.set_cons_zero, List.set_cons_succ]
            exact rfl
          · exact Below.refl _ _
          · exact IsOut
        refine ⟨fun u W hb hd K hK => ?_, ?_⟩
        · simp only [Facts, nthR, Is, and_true] at hd
          simp only [hd] at hK ⊢
          clear hd
          go_simp
          apply hK
          · simp only [Act.put, List.setIfInBounds_toArray, List.set_cons_zero, List.set_cons_succ]
            exact rfl
          · exact Below.refl _ _
          · exact IsOut
        refine ⟨fun u W hb hd K hK => ?_, ?_⟩
        · simp only [Facts, nthR, Is, and_true] at hd
          simp only [hd] at hK ⊢
          clear hd
          go_simp
          apply hK
          · simp only [Act.put, List.setIfInBounds_toArray, List.set_cons_zero, List.set_cons_succ]
            exact rfl
          · exact Below.refl _ _
          · exact IsOut
        refine ⟨fun u W hb hd K hK => ?_, ?_⟩
        · simp only [Facts, nthR, Is, and_true] at hd
          simp only [hd] at hK ⊢
          clear hd
          go_simp
          apply hK
          · simp only [Act.put, List.setIfInBounds_toArray, List.set_cons_zero, List.set_cons_succ]
            exact rfl
          · exact Below.refl _ _
          · exact IsOut
        exact trivial
      · exact (.is (.is (.is (.is (.is (.is (.is (.is (.is (.is (.is .nil)))))))))))
      · intro u W hb hd
        simp only [Facts, nthR, Is, and_true] at hd
        simp only [hd]
        go_wp2_with fail
        refine (macs_any _ (HT.out _ hb)).mono ?_
        rintro e w3 ⟨rfl, hb3⟩
        have hb4 := hb.trans (hb3.mono hb.size)
        have hX4 := HX.out.below hb4 HX.out.lt
        have iX := blk_in hX4 HXL.out (by omega)
        have hcv3 := conv_in HXL.out iX
        clear hcv1 hcv2 hb hb3
        go_wp2_with ((with_reducible refine (?_ : wpList _ _ _ (Oper.mk (some 62) _ _ _ _ _ :: _) _ _)); go_loud (refine wpList_load_blk rfl 29 (.tmp 3) rfl w.heap.size rfl 29 _ _ (HK2.out.below hb4 HK2.out.lt) Tryd.underlying29 rfl (info32.trans (by rw [List.length_map, HK.out])) ?_))
        clear hcv3
        refine (HE2.out _ (JA.out.up hb4) (HT.out _ hb4)).mono ?_
        rintro e w5 ⟨g2, rfl, hg2, hY, hb5⟩
        have iX5 := iX.up hb5
        have jX5 := iX5.take (m / 2)
        rw [HXY.out] at jX5
        have iY5 := blk_in hY HYL.out (by omega)
        have hcv4 := fun (W : World) (h : Below w5.heap.size w5 W) => conv_in HYL.out (iY5.up h)
        have hcv5 := fun (W : World) (h : Below w5.heap.size w5 W) => conv_in HYL.out (jX5.up h)
        have HF := Lib.hid (HB.out.trans ((hb4.trans (hb5.mono hb4.size)).mono HB.out.size))
        have hwr : IntKind.i64.wrap ((m : Int) / 2) = (m : Int) / 2 := IntWalk.i64_in _ (by omega)
        have hm0 : (0 : Int) ≤ (m : Int) / 2 := by omega
        have hm1 : (m : Int) / 2 ≤ (m : Int) := by omega
        have hm2 : ((m : Int) / 2).toNat = m / 2 := by omega
        clear hX4 hY iX iX5 jX5 iY5 hb4 hb5 hg2
        go_wp2_with fail
        apply wp_region_once (D := [[], [0], [0, 1], [0, 1, 2], [0, 1, 2, 3], [0, 1, 2], [0, 1, 2], [0, 1, 2, 6], [0, 1, 2, 5, 6, 7], [0, 1, 2, 5, 6, 7, 8], [0, 1, 2, 3, 4, 5, 6, 7, 8, 9], [0, 1, 2, 3, 4, 5, 6, 7, 8, 9, 10], [0, 1, 2, 3, 4, 5, 6, 7, 8, 9, 10, 11]]) (J := [[], [0], [1], [2], [2, 3], [2], [2], [2, 6], [2, 5, 7], [2, 8], [2, 4, 9], [2, 10], [11]]) (Je := [12]) (Rs := [Is _, Is _, Is _, Is _, Is _, Is _, Is _, Is _, Is _, Is _, Is _, Is _, Is _])
        · kernel_rfl
        · kernel_rfl
        · kernel_rfl
        · kernel_rfl
        · kernel_rfl
        · kernel_rfl
        · intro u
          simp only [List.map_cons, List.map_nil, fillU, List.setIfInBounds_toArray, List.set_cons_zero, List.set_cons_succ, Nat.zero_add, Nat.reduceAdd]
          exact rfl
        · skip
          refine ⟨fun u W hb hd K hK => ?_, ?_⟩
          · clear hd
            go_simp
            apply hK
            · simp only [Act.put, List.setIfInBounds_toArray, List.set_cons_zero, List.set_cons_succ]
              exact rfl
            · exact Below.refl _ _
            · exact IsOut
          refine ⟨fun u W hb hd K hK => ?_, ?_⟩
          · simp only [Facts, nthR, Is, and_true] at hd
            simp only [hd] at hK ⊢
            clear hd
            go_simp
            apply hK
            · simp only [Act.put, List.setIfInBounds_toArray, List.set_cons_zero, List.set_cons_succ]
              exact rfl
            · exact Below.refl _ _
            · exact IsOut
          refine ⟨fun u W hb hd K hK => ?_, ?_⟩
          · simp only [Facts, nthR, Is, and_true] at hd
            simp only [hd] at hK ⊢
            clear hd
            go_simp
            apply hK
            · simp only [Act.put, List.setIfInBounds_toArray, List.set_cons_zero, List.set_cons_succ]
              exact rfl
            · exact Below.refl _ _
            · exact IsOut
          refine ⟨fun u W hb hd K hK => ?_, ?_⟩
          · simp only [Facts, nthR, Is, and_true] at hd
            simp only [hd] at hK ⊢
            clear hd
            go_simp
            apply hK
            · simp only [Act.put, List.setIfInBounds_toArray, List.set_cons_zero, List.set_cons_succ]
              exact rfl
            · exact Below.refl _ _
            · exact IsOut
          refine ⟨fun u W hb hd K hK => ?_, ?_⟩
          · simp only [Facts, nthR, Is, and_true] at hd
            simp only [hd] at hK ⊢
            clear hd
            go_simp
            apply hK
            · simp only [Act.put, List.setIfInBounds_toArray, List.set_cons_zero, List.set_cons_succ]
              exact rfl
            · exact Below.refl _ _
            · exact IsOut
          refine ⟨fun u W hb hd K hK => ?_, ?_⟩
          · simp only [Facts, nthR, Is, and_true] at hd
            simp only [hd] at hK ⊢
            clear hd
            go_simp
            apply hK
            · simp only [Act.put, List.setIfInBounds_toArray, List.set_cons_zero, List.set_cons_succ]
              exact rfl
            · exact Below.refl _ _
            · exact IsOut
          refine ⟨fun u W hb hd K hK => ?_, ?_⟩
          · simp only [Facts, nthR, Is, and_true] at hd
            simp only [hd] at hK ⊢
            clear hd
            go_simp
            apply hK
            · simp only [Act.put, List.setIfInBounds_toArray, List.set_cons_zero, List.set_cons_succ]
              exact rfl
            · exact Below.refl _ _
            · exact IsOut
          refine ⟨fun u W hb hd K hK => ?_, ?_⟩
          · simp only [Facts, nthR, Is, and_true] at hd
            simp only [hd] at hK ⊢
            clear hd
            go_simp
            apply hK
            · simp only [Act.put, List.setIfInBounds_toArray, List.set_cons_zero, List.set_cons_succ]
              exact rfl
            · exact Below.refl _ _
            · exact IsOut
          refine ⟨fun u W hb hd K hK => ?_, ?_⟩
          · simp only [Facts, nthR, Is, and_true] at hd
            simp only [hd] at hK ⊢
            clear hd
            go_simp
            apply hK
            · simp only [Act.put, List.setIfInBounds_toArray, List.set_cons_zero, List.set_cons_succ]
              exact rfl
            · exact Below.refl _ _
            · exact IsOut
          refine ⟨fun u W hb hd K hK => ?_, ?_⟩
          · simp only [Facts, nthR, Is, and_true] at hd
            simp only [hd] at hK ⊢
            clear hd
            go_simp
            apply hK
            · simp only [Act.put, List.setIfInBounds_toArray, List.set_cons_zero, List.set_cons_succ]
              exact rfl
            · exact Below.refl _ _
            · exact IsOut
          refine ⟨fun u W hb hd K hK => ?_, ?_⟩
          · simp only [Facts, nthR, Is, and_true] at hd
            simp only [hd] at hK ⊢
            clear hd
            go_simp
            apply hK
            · simp only [Act.put, List.setIfInBounds_toArray, List.set_cons_zero, List.set_cons_succ]
              exact rfl
            · exact Below.refl _ _
            · exact IsOut
          refine ⟨fun u W hb hd K hK => ?_, ?_⟩
          · simp only [Facts, nthR, Is, and_true] at hd
            simp only [hd] at hK ⊢
            clear hd
            go_simp
            apply hK
            · simp only [Act.put, List.setIfInBounds_toArray, List.set_cons_zero, List.set_cons_succ]
              exact rfl
            · exact Below.refl _ _
            · exact IsOut
          refine ⟨fun u W hb hd K hK => ?_, ?_⟩
          · simp only [Facts, nthR, Is, and_true] at hd
            simp only [hd] at hK ⊢
            clear hd
            go_simp
            apply hK
            · simp only [Act.put, List.setIfInBounds_toArray, List.set_cons_zero, List.set_cons_succ]
              exact rfl
            · exact Below.refl _ _
            · exact IsOut
          exact trivial
        · exact (.is (.is (.is (.is (.is (.is (.is (.is (.is (.is (.is (.is (.is .nil)))))))))))))
        · intro u W hb hd
          simp only [Facts, nthR, Is, and_true] at hd
          simp only [hd]
          have hfin := HF.out.trans (hb.mono HF.out.size)
          go_wp2
          go_ret
          exact ⟨rfl, hfin⟩
end Go.Proofs.YtddfboomjcnpcaaDoor
