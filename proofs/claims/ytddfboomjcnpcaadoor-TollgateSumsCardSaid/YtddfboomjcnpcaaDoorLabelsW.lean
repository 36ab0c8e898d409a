/-
  The walk of the statement MacLabels.
-/
import Derived.Test.YtddfboomjcnpcaaDoorLabelAll
import Derived.Test.YtddfboomjcnpcaaDoorExpandsW
namespace Go.Proofs.YtddfboomjcnpcaaDoor
open Go.RowKit

theorem In.copySrc {w : World} {B c : Nat} {A : Option Addr} {xs : List UInt8} (h : In w B A c xs) (k : Nat) (h0 : 0 < ((xs.take k).map B8).length) :
    ∃ gb ob, A = some ⟨gb, ob, none⟩ ∧ ∀ j v, ((xs.take k).map B8)[j]? = some v → w.cell? ⟨gb, ob + j, none⟩ = some v := by
  have hx : 0 < xs.length := by rw [List.length_map, List.length_take] at h0; omega
  obtain ⟨gb, ob, e, _, hby⟩ := h.2.2 hx
  refine ⟨gb, ob, e, fun j v hv => ?_⟩
  have hj : j < (xs.take k).length := by have := (List.getElem?_eq_some_iff.1 hv).1; simpa using this
  rw [getD_map8 _ j hj] at hv
  have hj2 : j < k ∧ j < xs.length := by rw [List.length_take] at hj; omega
  rw [← Option.some.inj hv]
  refine (hby j hj2.2).trans ?_
  simp [List.getD_eq_getElem?_getD, hj2.1, hj2.2]

theorem src_blk {w : World} {g B : Nat} {t : TypeId} {xs : List UInt8} (h : Blk w g t (xs.map B8)) (hB : g < B) : Src w B (some ⟨g, 0, none⟩) xs :=
  fun _ => ⟨g, 0, rfl, Nat.ne_of_lt hB, fun j hj => by rw [Nat.zero_add]; exact h.at8 j hj⟩

set_option maxRecDepth 100000 in
set_option maxHeartbeats 4000000 in
theorem macLabels_far (A : Option Addr) (ca : Nat) (key lab ctx : List UInt8) (w : World) (ht : Tabs w) (hfar : 400 < lab.length ∨ 400 < ctx.length) :
    Calls Tryd.prog 9 #[.agg (key.map B8).toArray, .string ⟨lab.toArray⟩, .slice A ctx.length ca] w fun e w' => e = .returned (.bool true) ∧ Below w.heap.size w w' := by
  have hp : decide ((400 : Int) < (lab.length : Int)) = true ∨ (decide ((400 : Int) < (lab.length : Int)) = false ∧ decide ((400 : Int) < (ctx.length : Int)) = true) := by
    by_cases h : 400 < lab.length
    · left; simp; omega
    · right; constructor <;> (simp; omega)
  have hb1 : ∀ X, Below w.heap.size w (w.alloc X) := fun X => (Below.refl _ _).alloc (Nat.le_refl _) _
  clear hfar
  go_enter Tryd.func9, Tryd.ntmps9
  rcases hp with hp | ⟨hp, hp2⟩
  all_goals
    go_wp2_with fail
    refine (macs_any _ (ht.below (hb1 _))).mono ?_
    rintro e w1 ⟨rfl, hb2⟩
    have hfin := (hb1 _).trans (hb2.mono (hb1 _).size)
    clear hb1 hb2
    go_wp2
    go_ret
    exact ⟨rfl, hfin⟩

set_option maxRecDepth 100000 in
set_option maxHeartbeats 4000000 in
theorem macLabels_near (A : Option Addr) (ca : Nat) (key lab ctx : List UInt8) (w : World) (hk : key.length = 32) (ia : In w w.heap.size A ca ctx) (ht : Tabs w) (hl : lab.length ≤ 400) (hc : ctx.length ≤ 400) :
    Calls Tryd.prog 9 #[.agg (key.map B8).toArray, .string ⟨lab.toArray⟩, .slice A ctx.length ca] w fun e w' => e = .returned (.bool true) ∧ Below w.heap.size w w' := by
  have hp : decide ((400 : Int) < (lab.length : Int)) = false := by simp; omega
  have hp2 : decide ((400 : Int) < (ctx.length : Int)) = false := by simp; omega
  obtain ⟨N, hN⟩ : ∃ N : Nat, (16 : Int) + (lab.length : Int) % 40 = (N : Int) := ⟨16 + lab.length % 40, by omega⟩
  have hN2 : N ≤ 8160 := by omega
  obtain ⟨hia, hib, _⟩ := id ia
  have HK := Lib.hid hk
  have HKe : Hid (key.length < 100000) := (show key.length < 100000 by omega)
  clear hk
  have hK1 : Blk (w.alloc (.cells (key.map B8).toArray 29)) w.heap.size 29 (key.map B8) := Blk.new_of w _ _ _ rfl
  have hb1 : Below w.heap.size w (w.alloc (.cells (key.map B8).toArray 29)) := (Below.refl _ _).alloc (Nat.le_refl _) _
  have HK1 := Lib.hid hK1
  have HB1 := Lib.hid hb1
  clear hK1 hb1
  have he1 := fun (W : World) (h : In W W.heap.size A ca ctx) (ht : Tabs W) => label_all A ca N key lab ctx W HK.out h hN2 ht
  have hr1 := fun (W : World) => refLabel_all N key lab ctx W HKe.out hN2 (by omega)
  have hr2 := fun (W : World) => refLabel_all 32 key lab (sumOf ctx) W HKe.out (by decide) (by omega)
  obtain ⟨xs, hxs⟩ : ∃ xs, xs = labelOut key lab ctx N := ⟨_, rfl⟩
  obtain ⟨er, her⟩ : ∃ er, er = labelErr lab ctx := ⟨_, rfl⟩
  rw [← hxs, ← her] at hr1
  simp only [← hxs, ← her] at he1
  have hxl : xs.length ≤ N := by rw [hxs]; exact labelOut_length _ _ _ _
  clear hxs her
  have HE1 := Lib.hid he1
  have HR1 := Lib.hid hr1
  have HR2 := Lib.hid hr2
  clear he1 hr1 hr2
  go_enter Tryd.func9, Tryd.ntmps9
  go_wp2_with ((with_reducible refine (?_ : wpList _ _ _ (Oper.mk (some 34) _ _ _ _ _ :: _) _ _)); go_loud (refine wpList_load_blk rfl 29 (.tmp 3) rfl w.heap.size rfl 29 _ _ HK1.out Tryd.underlying29 rfl (info32.trans (by rw [List.length_map, HK.out])) ?_))
  refine (HE1.out _ (ia.up HB1.out) (ht.below HB1.out)).mono ?_
  rintro e w1 ⟨A1, n1, c1, rfl, hxn, hI1, hb2⟩
  have HN := Lib.hid hN
  have hK2 := HK1.out.below hb2 HK1.out.lt
  have hb3 := HB1.out.trans (hb2.mono HB1.out.size)
  have iK := blk_in hK2 HK.out (by omega)
  have jA := ia.up hb3
  have hcv1 := fun (W : World) (h : Below w1.heap.size w1 W) => conv_in HK.out (iK.up h)
  have hcv2 := fun (W : World) (h : Below w1.heap.size w1 W) => conv_in rfl (jA.up h)
  have HXN := Lib.hid hxn
  have HI1 := Lib.hid hI1
  have HK2 := Lib.hid hK2
  have JA := Lib.hid jA
  have HT := Lib.hid (fun (W : World) (h : Below w1.heap.size w1 W) => (ht.below hb3).below h)
  have HB := Lib.hid hb3
  clear hxn hI1 hK2 hb2 hb3 iK jA ht hN
  go_wp2_with fail
  apply wp_region_once (D := [[], [0], [], [], [3], [], [0, 1, 2, 3, 4, 5], [0, 1, 2, 3, 4, 5, 6], [0, 1, 2, 3, 4, 5, 6, 7], [0, 1, 2, 3, 4, 5, 6, 7], [0, 1, 2, 3, 4, 5, 6, 7, 8], [0, 1, 2, 3, 4, 5, 6, 7, 8, 9, 10]]) (J := [[], [0], [], [], [3], [], [1, 2, 4, 5], [6], [7], [7], [8], [9]]) (Je := [10, 11]) (Rs := [Is _, Is _, Is _, Is _, Is _, Is _, Is _, Is _, Is _, Is _, Is _, Is _])
  · kernel_rfl
  · kernel_rfl
  · kernel_rfl
  · kernel_rfl
  · kernel_rfl
  · kernel_rfl
  · intro u
    simp only [List.map_cons, List.map_nil, fillU, List.setIfInBounds_toArray, List.set_cons_zero, List.set_cons_succ, Nat.zero_add, Nat.reduceAdd]
    exact rfl
  · skip
    refine ⟨fun u W hb hd K hK => ?_, ?_⟩
    · clear hd
      go_simp
      apply hK
      · simp only [Act.put, List.setIfInBounds_toArray, List.set_cons_zero, List.set_cons_succ]
        exact rfl
      · exact Below.refl _ _
      · exact IsOut
    refine ⟨fun u W hb hd K hK => ?_, ?_⟩
    · simp only [Facts, nthR, Is, and_true] at hd
      simp only [hd] at hK ⊢
      clear hd
      go_simp
      apply hK
      · simp only [Act.put, List.setIfInBounds_toArray, List.set_cons_zero, List.set_cons_succ]
        exact rfl
      · exact Below.refl _ _
      · exact IsOut
    refine ⟨fun u W hb hd K hK => ?_, ?_⟩
    · clear hd
      go_simp
      apply hK
      · simp only [Act.put, List.setIfInBounds_toArray, List.set_cons_zero, List.set_cons_succ]
        exact rfl
      · exact Below.refl _ _
      · exact IsOut
    refine ⟨fun u W hb hd K hK => ?_, ?_⟩
    · clear hd
      go_simp
      apply hK
      · simp only [Act.put, List.setIfInBounds_toArray, List.set_cons_zero, List.set_cons_succ]
        exact rfl
      · exact Below.refl _ _
      · exact IsOut
    refine ⟨fun u W hb hd K hK => ?_, ?_⟩
    · simp only [Facts, nthR, Is, and_true] at hd
      simp only [hd] at hK ⊢
      clear hd
      go_simp
      apply hK
      · simp only [Act.put, List.setIfInBounds_toArray, List.set_cons_zero, List.set_cons_succ]
        exact rfl
      · exact Below.refl _ _
      · exact IsOut
    refine ⟨fun u W hb hd K hK => ?_, ?_⟩
    · clear hd
      go_simp
      apply hK
      · simp only [Act.put, List.setIfInBounds_toArray, List.set_cons_zero, List.set_cons_succ]
        exact rfl
      · exact Below.refl _ _
      · exact IsOut
    refine ⟨fun u W hb hd K hK => ?_, ?_⟩
    · simp only [Facts, nthR, Is, and_true] at hd
      simp only [hd] at hK ⊢
      clear hd
      go_simp
      refine (HR1.out W).mono ?_
      rintro e wy ⟨rfl, hby⟩
      exact hK _ _ _ rfl hby IsOut
    refine ⟨fun u W hb hd K hK => ?_, ?_⟩
    · simp only [Facts, nthR, Is, and_true] at hd
      simp only [hd] at hK ⊢
      clear hd
      go_simp
      apply hK
      · simp only [Act.put, List.setIfInBounds_toArray, List.set_cons_zero, List.set_cons_succ]
        exact rfl
      · exact Below.refl _ _
      · exact IsOut
    refine ⟨fun u W hb hd K hK => ?_, ?_⟩
    · simp only [Facts, nthR, Is, and_true] at hd
      simp only [hd] at hK ⊢
      clear hd
      go_simp
      apply hK
      · simp only [Act.put, List.setIfInBounds_toArray, List.set_cons_zero, List.set_cons_succ]
        exact rfl
      · exact Below.refl _ _
      · exact IsOut
    refine ⟨fun u W hb hd K hK => ?_, ?_⟩
    · simp only [Facts, nthR, Is, and_true] at hd
      simp only [hd] at hK ⊢
      clear hd
      go_simp
      apply hK
      · simp only [Act.put, List.setIfInBounds_toArray, List.set_cons_zero, List.set_cons_succ]
        exact rfl
      · exact Below.refl _ _
      · exact IsOut
    refine ⟨fun u W hb hd K hK => ?_, ?_⟩
    · simp only [Facts, nthR, Is, and_true] at hd
      simp only [hd] at hK ⊢
      clear hd
      go_simp
      apply hK
      · simp only [Act.put, List.setIfInBounds_toArray, List.set_cons_zero, List.set_cons_succ]
        exact rfl
      · exact Below.refl _ _
      · exact IsOut
    refine ⟨fun u W hb hd K hK => ?_, ?_⟩
    · simp only [Facts, nthR, Is, and_true] at hd
      simp only [hd] at hK ⊢
      clear hd
      go_simp
      apply hK
      · simp only [Act.put, List.setIfInBounds_toArray, List.set_cons_zero, List.set_cons_succ]
        exact rfl
      · exact Below.refl _ _
      · exact IsOut
    exact trivial
  · exact (.is (.is (.is (.is (.is (.is (.is (.is (.is (.is (.is (.is .nil))))))))))))
  · intro u W hb hd
    simp only [Facts, nthR, Is, and_true] at hd
    simp only [hd]
    have hA12 : Blk (W.alloc (.cells #[Value.int .u8 0, Value.int .u8 0, Value.int .u8 0, Value.int .u8 0, Value.int .u8 0, Value.int .u8 0, Value.int .u8 0, Value.int .u8 0, Value.int .u8 0, Value.int .u8 0, Value.int .u8 0, Value.int .u8 0, Value.int .u8 0, Value.int .u8 0, Value.int .u8 0, Value.int .u8 0, Value.int .u8 0, Value.int .u8 0, Value.int .u8 0, Value.int .u8 0, Value.int .u8 0, Value.int .u8 0, Value.int .u8 0, Value.int .u8 0, Value.int .u8 0, Value.int .u8 0, Value.int .u8 0, Value.int .u8 0, Value.int .u8 0, Value.int .u8 0, Value.int .u8 0, Value.int .u8 0] 29)) W.heap.size 29 ((List.replicate 32 (0 : UInt8)).map B8) := Blk.new_of W _ _ _ (by rfl)
    have hb4 : Below w1.heap.size w1 (W.alloc (.cells #[Value.int .u8 0, Value.int .u8 0, Value.int .u8 0, Value.int .u8 0, Value.int .u8 0, Value.int .u8 0, Value.int .u8 0, Value.int .u8 0, Value.int .u8 0, Value.int .u8 0, Value.int .u8 0, Value.int .u8 0, Value.int .u8 0, Value.int .u8 0, Value.int .u8 0, Value.int .u8 0, Value.int .u8 0, Value.int .u8 0, Value.int .u8 0, Value.int .u8 0, Value.int .u8 0, Value.int .u8 0, Value.int .u8 0, Value.int .u8 0, Value.int .u8 0, Value.int .u8 0, Value.int .u8 0, Value.int .u8 0, Value.int .u8 0, Value.int .u8 0, Value.int .u8 0, Value.int .u8 0] 29)) := hb.alloc hb.size _
    have jA4 := JA.out.up hb4
    have hlt4 := hb4.size
    have hbs := hb.size
    have HJ4 := Lib.hid jA4
    clear hcv1 hcv2 hb jA4
    go_wp2_with (first
      | ((with_reducible refine (?_ : wpList _ _ _ (Oper.mk (some 53) _ _ _ _ _ :: _) _ _)); go_loud (refine wpList_copy_blk rfl (.tmp 51) (.tmp 52) 27 27 rfl 5 Tryd.underlying27 info8 _ _ _ _ _ _ (by rfl) (by rfl) W.heap.size 0 _ 29 hA12 ((ctx.take 32).map B8) (by rw [List.length_map, List.length_take]; exact Nat.min_comm _ _) (fun h0 => ⟨rfl, HJ4.out.copySrc 32 h0⟩) (by simp; omega) (oneB8 _) ?_); intro w5 hM5 hg5;
         rw [sumOf_splice] at hM5; have hb5 := below_new hb4 hg5 hbs hb4.size; have hK5 := HK2.out.below hb5 HK2.out.lt; clear hg5 hA12 hb4)
      | ((with_reducible refine (?_ : wpList _ _ _ (Oper.mk (some 54) _ _ _ _ _ :: _) _ _)); go_loud (refine wpList_load_blk rfl 29 (.tmp 3) rfl w.heap.size rfl 29 _ _ hK5 Tryd.underlying29 rfl (info32.trans (by rw [List.length_map, HK.out])) ?_))
      | ((with_reducible refine (?_ : wpList _ _ _ (Oper.mk (some 56) _ _ _ _ _ :: _) _ _)); go_loud (refine wpList_load_blk rfl 29 (.tmp 12) rfl W.heap.size rfl 29 _ _ hM5 Tryd.underlying29 rfl (info32.trans (by rw [List.length_map, sumOf_length])) ?_)))
    refine (derive_all key lab (sumOf ctx) w5 HK.out (sumOf_length _) (HT.out _ hb5)).mono ?_
    rintro e w6 ⟨rfl, hb56⟩
    obtain ⟨y, hy⟩ : ∃ y, y = deriveOut key lab (sumOf ctx) := ⟨_, rfl⟩
    obtain ⟨z, hz⟩ : ∃ z, z = labelOut key lab (sumOf ctx) 32 := ⟨_, rfl⟩
    obtain ⟨gz, hgz⟩ : ∃ gz : Int, gz = (labelErr lab (sumOf ctx) : Nat) := ⟨_, rfl⟩
    have hyl : y.length = 32 := by rw [hy]; exact deriveOut_length _ _ _
    have hcase : (gz = 0 ∧ z = y) ∨ (gz = 1 ∧ y = List.replicate 32 0) := by
      rw [hgz, hz, hy]
      unfold labelErr labelOut deriveOut
      have := sumOf_length ctx
      by_cases h : lab.length ≤ 249
      · left; rw [if_pos ⟨h, by omega⟩, if_pos ⟨h, by omega⟩, if_pos h]; exact ⟨rfl, rfl⟩
      · right; rw [if_neg (by omega), if_neg h]; exact ⟨rfl, rfl⟩
    replace HR2 := HR2.out
    simp only [← hz, ← hgz] at HR2
    replace HR2 := Lib.hid HR2
    rw [← hy]
    clear hy hz hgz
    have HYL := Lib.hid hyl
    have HC := Lib.hid hcase
    clear hyl hcase
    go_wp2_with ((with_reducible refine (?_ : wpList _ _ _ (Oper.mk none (.store 29 (.tmp 13) _) _ _ _ _ :: _) _ _)); go_loud (refine wpList_store_blk rfl 29 (.tmp 13) (.tmp 57) rfl rfl w6.heap.size _ rfl rfl 29 _ (Blk.new_of w6 29 _ ((List.replicate 32 (0 : UInt8)).map B8) (by rfl)) (info32.trans (by rw [List.length_map, HYL.out])) (by rw [List.length_map, List.length_map, HYL.out]; rfl) (one8 _) ?_); intro w7 hY7 hg7)
    have hb67 : Below w6.heap.size w6 w7 := below_new ((Below.refl _ _).alloc (Nat.le_refl _) _) hg7 (Nat.le_refl _) (by simp)
    have hK7 := (hK5.below hb56 hK5.lt).below hb67 (hK5.below hb56 hK5.lt).lt
    have hM7 := (hM5.below hb56 hM5.lt).below hb67 (hM5.below hb56 hM5.lt).lt
    have hb7 := (hb5.trans (hb56.mono hb5.size)).trans (hb67.mono (hb5.trans (hb56.mono hb5.size)).size)
    have iK7 := blk_in hK7 HK.out (by omega)
    have iM7 := blk_in hM7 (sumOf_length ctx) (by omega)
    have hcv3 := fun (V : World) (h : Below w7.heap.size w7 V) => conv_in HK.out (iK7.up h)
    have hcv4 := fun (V : World) (h : Below w7.heap.size w7 V) => conv_in (sumOf_length ctx) (iM7.up h)
    have HK7 := Lib.hid hK7
    have HY7 := Lib.hid hY7
    have HB7 := Lib.hid hb7
    clear hg7 hb67 hK5 hM5 hb56 hb5 hK7 hM7 hY7 hb7 iK7 iM7
    go_wp2_with fail
    have hcase := HC.out
    clear HC
    apply wp_region_once (D := [[], [0], [], [], [3], [0, 1, 2, 3, 4], [0, 1, 2, 3, 4, 5], [0, 1, 2, 3, 4, 5, 6], [0, 1, 2, 3, 4, 5, 6], [0, 1, 2, 3, 4, 5, 6, 7], [0, 1, 2, 3, 4, 5, 6, 7, 8, 9]]) (J := [[], [0], [], [], [3], [1, 2, 4], [5], [6], [6], [7], [8]]) (Je := [9, 10]) (Rs := [Is _, Is _, Is _, Is _, Is _, Is _, Is _, Is _, Is _, Is _, Is _])
    · kernel_rfl
    · kernel_rfl
    · kernel_rfl
    · kernel_rfl
    · kernel_rfl
    · kernel_rfl
    · intro u
      simp only [List.map_cons, List.map_nil, fillU, List.setIfInBounds_toArray, List.set_cons_zero, List.set_cons_succ, Nat.zero_add, Nat.reduceAdd]
      exact rfl
    · skip
      refine ⟨fun u V hb hd K hK => ?_, ?_⟩
      · clear hd
        go_simp
        apply hK
        · simp only [Act.put, List.setIfInBounds_toArray, List.set_cons_zero, List.set_cons_succ]
          exact rfl
        · exact Below.refl _ _
        · exact IsOut
      refine ⟨fun u V hb hd K hK => ?_, ?_⟩
      · simp only [Facts, nthR, Is, and_true] at hd
        simp only [hd] at hK ⊢
        clear hd
        go_simp
        apply hK
        · simp only [Act.put, List.setIfInBounds_toArray, List.set_cons_zero, List.set_cons_succ]
          exact rfl
        · exact Below.refl _ _
        · exact IsOut
      refine ⟨fun u V hb hd K hK => ?_, ?_⟩
      · clear hd
        go_simp
        apply hK
        · simp only [Act.put, List.setIfInBounds_toArray, List.set_cons_zero, List.set_cons_succ]
          exact rfl
        · exact Below.refl _ _
        · exact IsOut
      refine ⟨fun u V hb hd K hK => ?_, ?_⟩
      · clear hd
        go_simp
        apply hK
        · simp only [Act.put, List.setIfInBounds_toArray, List.set_cons_zero, List.set_cons_succ]
          exact rfl
        · exact Below.refl _ _
        · exact IsOut
      refine ⟨fun u V hb hd K hK => ?_, ?_⟩
      · simp only [Facts, nthR, Is, and_true] at hd
        simp only [hd] at hK ⊢
        clear hd
        go_simp
        apply hK
        · simp only [Act.put, List.setIfInBounds_toArray, List.set_cons_zero, List.set_cons_succ]
          exact rfl
        · exact Below.refl _ _
        · exact IsOut
      refine ⟨fun u V hb hd K hK => ?_, ?_⟩
      · simp only [Facts, nthR, Is, and_true] at hd
        simp only [hd] at hK ⊢
        clear hd
        go_simp
        refine (HR2.out V).mono ?_
        rintro e wy ⟨rfl, hby⟩
        exact hK _ _ _ rfl hby IsOut
      refine ⟨fun u V hb hd K hK => ?_, ?_⟩
      · simp only [Facts, nthR, Is, and_true] at hd
        simp only [hd] at hK ⊢
        clear hd
        go_simp
        apply hK
        · simp only [Act.put, List.setIfInBounds_toArray, List.set_cons_zero, List.set_cons_succ]
          exact rfl
        · exact Below.refl _ _
        · exact IsOut
      refine ⟨fun u V hb hd K hK => ?_, ?_⟩
      · simp only [Facts, nthR, Is, and_true] at hd
        simp only [hd] at hK ⊢
        clear hd
        go_simp
        apply hK
        · simp only [Act.put, List.setIfInBounds_toArray, List.set_cons_zero, List.set_cons_succ]
          exact rfl
        · exact Below.refl _ _
        · exact IsOut
      refine ⟨fun u V hb hd K hK => ?_, ?_⟩
      · simp only [Facts, nthR, Is, and_true] at hd
        simp only [hd] at hK ⊢
        clear hd
        go_simp
        apply hK
        · simp only [Act.put, List.setIfInBounds_toArray, List.set_cons_zero, List.set_cons_succ]
          exact rfl
        · exact Below.refl _ _
        · exact IsOut
      refine ⟨fun u V hb hd K hK => ?_, ?_⟩
      · simp only [Facts, nthR, Is, and_true] at hd
        simp only [hd] at hK ⊢
        clear hd
        go_simp
        apply hK
        · simp only [Act.put, List.setIfInBounds_toArray, List.set_cons_zero, List.set_cons_succ]
          exact rfl
        · exact Below.refl _ _
        · exact IsOut
      refine ⟨fun u V hb hd K hK => ?_, ?_⟩
      · simp only [Facts, nthR, Is, and_true] at hd
        simp only [hd] at hK ⊢
        clear hd
        go_simp
        apply hK
        · simp only [Act.put, List.setIfInBounds_toArray, List.set_cons_zero, List.set_cons_succ]
          exact rfl
        · exact Below.refl _ _
        · exact IsOut
      exact trivial
    · exact (.is (.is (.is (.is (.is (.is (.is (.is (.is (.is (.is .nil)))))))))))
    · intro u V hb hd
      simp only [Facts, nthR, Is, and_true] at hd
      simp only [hd]
      rcases hcase with ⟨rfl, rfl⟩ | ⟨rfl, rfl⟩
      case' inl => skip
      case' inr => skip
      all_goals
        clear hcv3 hcv4
        have hmk : ∀ W : World, (Instr.makeSlice 27 (.int .i64 32) (.int .i64 32)).run Tryd.prog W = .ok (.slice (some ⟨W.heap.size, 0, none⟩) 32 32) (W.alloc (.cells ((List.replicate 32 (0 : UInt8)).map B8).toArray 5)) := fun W => run_make_bytes .i64 .i64 32 32 (Nat.le_refl _) (by omega) W
        go_wp2_with (first
          | ((with_reducible refine (?_ : wpList _ _ _ (Oper.mk (some 70) _ _ _ _ _ :: _) _ _)); go_loud (refine wpList_string_of rfl (.tmp 69) rfl (List.replicate 32 (0 : UInt8)) (some ⟨V.heap.size, 0, none⟩) 32 (V.heap.size + 1) rfl (src_blk (Blk.new_of V 5 _ _ (by rfl)) (Nat.lt_succ_self _)) ?_))
          | ((with_reducible refine (?_ : wpList _ _ _ (Oper.mk (some 72) _ _ _ _ _ :: _) _ _)); go_loud (refine wpList_load_blk rfl 29 (.tmp 3) rfl w.heap.size rfl 29 _ _ (HK7.out.below (by first | exact hb | exact hb.alloc hb.size _) HK7.out.lt) Tryd.underlying29 rfl (info32.trans (by rw [List.length_map, HK.out])) ?_)))
        have HQ := Lib.hid (fun (X : World) (ht : Tabs X) => (show Calls Tryd.prog 34 #[.agg (key.map B8).toArray, .string ⟨#[]⟩, .slice none 0 0, .int .i64 8161] X fun e w' => e = .returned (.tuple #[.slice none 0 0, .int .i64 1]) ∧ Below X.heap.size X w' from label_out none 0 8161 key [] [] X HK.out ⟨Nat.le_refl _, by omega, fun h => absurd h (by simp)⟩ (.inr (by decide)) (by decide) (by decide)))
        have HQ2 := Lib.hid (fun (X : World) (ht : Tabs X) => (show Calls Tryd.prog 34 #[.agg (key.map B8).toArray, .string ⟨#[]⟩, .slice none 0 0, .int .i64 (-1)] X fun e w' => e = .returned (.tuple #[.slice none 0 0, .int .i64 1]) ∧ Below X.heap.size X w' from label_out none 0 (-1) key [] [] X HK.out ⟨Nat.le_refl _, by omega, fun h => absurd h (by simp)⟩ (.inl (by decide)) (by decide) (by decide)))
        have HT7 := Lib.hid (fun (X : World) (h : Below w7.heap.size w7 X) => HT.out X (HB7.out.trans (h.mono HB7.out.size)))
        clear hmk
        refine (HQ.out _ ?hT).mono ?_
        case hT => first | exact HT7.out _ hb | exact HT7.out _ (hb.alloc hb.size _)
        rintro e wa ⟨rfl, hba⟩
        have hbA : Below w7.heap.size w7 wa := by first | exact hb.trans (hba.mono hb.size) | exact (hb.alloc hb.size _).trans (hba.mono (hb.alloc hb.size _).size)
        clear hb hba
        go_wp2_with ((with_reducible refine (?_ : wpList _ _ _ (Oper.mk (some 77) _ _ _ _ _ :: _) _ _)); go_loud (refine wpList_load_blk rfl 29 (.tmp 3) rfl w.heap.size rfl 29 _ _ (HK7.out.below hbA HK7.out.lt) Tryd.underlying29 rfl (info32.trans (by rw [List.length_map, HK.out])) ?_))
        refine (HQ2.out _ (HT7.out _ hbA)).mono ?_
        rintro e wb ⟨rfl, hbb⟩
        have hbB := hbA.trans (hbb.mono hbA.size)
        clear hbb hbA
        go_wp2_with fail
        refine (macs_any _ (HT7.out _ hbB)).mono ?_
        rintro e wc ⟨rfl, hbc⟩
        have hbC := hbB.trans (hbc.mono hbB.size)
        have hY8 := HY7.out.below hbC HY7.out.lt
        have iY8 := blk_in hY8 HYL.out (by omega)
        have iX8 := HI1.out.up (HB7.out.trans (hbC.mono HB7.out.size))
        have hcv7 := conv_in HXN.out iX8
        have hcv8 := conv_in HYL.out iY8
        have HFIN := Lib.hid (HB.out.trans ((HB7.out.trans (hbC.mono HB7.out.size)).mono HB.out.size))
        clear hbB hbc hbC hY8 iY8 iX8
        go_wp2
        go_ret
        exact ⟨rfl, HFIN.out⟩

theorem macLabels_walk (A : Option Addr) (ca : Nat) (key lab ctx : List UInt8) (w : World) (hk : key.length = 32) (ia : In w w.heap.size A ca ctx) (ht : Tabs w) :
    Calls Tryd.prog 9 #[.agg (key.map B8).toArray, .string ⟨lab.toArray⟩, .slice A ctx.length ca] w fun e w' => e = .returned (.bool true) ∧ Below w.heap.size w w' := by
  by_cases h : 400 < lab.length ∨ 400 < ctx.length
  · exact macLabels_far A ca key lab ctx w ht h
  · exact macLabels_near A ca key lab ctx w hk ia ht (by omega) (by omega)
end Go.Proofs.YtddfboomjcnpcaaDoor
