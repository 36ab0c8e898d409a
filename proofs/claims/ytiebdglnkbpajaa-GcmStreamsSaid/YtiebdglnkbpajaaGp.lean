/-
  The contract of package gcm's Product.
-/
import Derived.Test.YtiebdglnkbpajaaGb
namespace Go.Proofs.Ytiebdglnkbpajaa
open Go.RowKit

/-- What sixteen bytes are as an element. -/
def elE (b : List UInt8) : BitVec 128 := cat (wordTo b 0 8) (wordTo b 8 8)
def prodG (a b : List UInt8) : G6 := gN (wordTo a 0 8) (wordTo a 8 8) (wordTo b 0 8) (wordTo b 8 8) 128
def prodE (a b : List UInt8) : List UInt8 := bytesE (prodG a b).s0 (prodG a b).s1
theorem prodE_length (a b : List UInt8) : (prodE a b).length = 16 := bytesE_length _ _
theorem prodG_el (a b : List UInt8) : cat (prodG a b).s0 (prodG a b).s1 = gmul (elE a) (elE b) := gN_mul _ _ _ _
set_option maxRecDepth 100000 in
set_option maxHeartbeats 1000000 in
theorem product_e (a b : List UInt8) (ha : a.length = 16) (hb : b.length = 16) (w : World) : Calls Try.prog 8 #[BV a, BV b] w fun e w' => e = .returned (BV (prodE a b)) ∧ Below w.heap.size w w' := by
  have hz : ∀ W : World, (zeroValue 22).run Try.prog W = .ok (BV zero16) W := fun W => by kernel_rfl
  obtain ⟨Z6, hZ6⟩ : ∃ Z6, Z6 = zero16 := ⟨_, rfl⟩
  have HZL := Lib.hid (show Z6.length = 16 by rw [hZ6]; rfl)
  rw [← hZ6] at hz
  have HAL := Lib.hid ha
  have HBL := Lib.hid hb
  clear hZ6 ha hb
  unfold prodE prodG
  go_enter Try.func8, Try.ntmps8
  go_wp2
  clear hz
  have hA : Blk (((w.alloc (.cells (a.map B8).toArray 22)).alloc (.cells (b.map B8).toArray 22)).alloc (.cells (Z6.map B8).toArray 22)) w.heap.size 22 (a.map B8) := ((Blk.new_of w 22 _ (a.map B8) rfl).alloc _).alloc _
  have hB := (Blk.new2_of w (.cells (a.map B8).toArray 22) 22 (b.map B8).toArray (b.map B8) rfl).alloc (.cells (Z6.map B8).toArray 22)
  have hR := Blk.new3_of w (.cells (a.map B8).toArray 22) (.cells (b.map B8).toArray 22) 22 (Z6.map B8).toArray (Z6.map B8) rfl
  have hbw := (((Below.refl w.heap.size w).alloc (Nat.le_refl _) (.cells (a.map B8).toArray 22)).alloc (by simp) (.cells (b.map B8).toArray 22)).alloc (by simp; omega) (.cells (Z6.map B8).toArray 22)
  have hle := (show w.heap.size ≤ w.heap.size + 1 + 1 by omega)
  generalize w.heap.size + 1 + 1 = gr at *
  generalize w.heap.size + 1 = gb at *
  generalize ((w.alloc (.cells (a.map B8).toArray 22)).alloc (.cells (b.map B8).toArray 22)).alloc (.cells (Z6.map B8).toArray 22) = w1 at *
  refine wp_region_noPanic ?_
  apply wp_region_once_tail (m := 6) (Z := []) (D := [[], [0], [], [0, 1, 2], [0, 1, 2, 3], [0, 1, 2, 3, 4], [0, 1, 2, 3, 4, 5]]) (J := [[], [0], [], [2], [1, 3], [4]]) (Je := [5]) (Rs := [Is _, Is _, Is _, Is _, Is _, Is _])
  · kernel_rfl
  · kernel_rfl
  · kernel_rfl
  · kernel_rfl
  · kernel_rfl
  · kernel_rfl
  · kernel_rfl
  · exact fun h => absurd rfl h
  · intro u
    simp only [List.take_succ_cons, List.take_zero, List.map_cons, List.map_nil, fillU, List.setIfInBounds_toArray, List.set_cons_zero, List.set_cons_succ, Nat.zero_add, Nat.reduceAdd]
    exact rfl
  · simp only [List.take_succ_cons, List.take_zero]
    refine ⟨fun u W hb hd K hK => ?_, ?_⟩
    · clear hd
      rw [if_pos (by rfl)]
      refine wp_load_mid 22 (.tmp 2) rfl (w.heap.size) (0) rfl (a.map B8) _ (rangeAt_blk (hA.below hb hA.lt)) Try.underlying22 rfl (infoBk.trans (by rw [List.length_map, HAL.out])) ?_
      exact hK _ _ _ rfl (Below.refl _ _) IsOut
    refine ⟨fun u W hb hd K hK => ?_, ?_⟩
    · simp only [Facts, nthR, Is, and_true] at hd
      simp only [hd] at hK ⊢
      clear hd
      go_simp
      with_reducible refine (elementOf_e a HAL.out W).mono ?_
      rintro e wy ⟨rfl, hby⟩
      exact hK _ _ _ rfl hby IsOut
    refine ⟨fun u W hb hd K hK => ?_, ?_⟩
    · clear hd
      rw [if_pos (by rfl)]
      refine wp_load_mid 22 (.tmp 3) rfl (gb) (0) rfl (b.map B8) _ (rangeAt_blk (hB.below hb hB.lt)) Try.underlying22 rfl (infoBk.trans (by rw [List.length_map, HBL.out])) ?_
      exact hK _ _ _ rfl (Below.refl _ _) IsOut
    refine ⟨fun u W hb hd K hK => ?_, ?_⟩
    · simp only [Facts, nthR, Is, and_true] at hd
      simp only [hd] at hK ⊢
      clear hd
      go_simp
      with_reducible refine (elementOf_e b HBL.out W).mono ?_
      rintro e wy ⟨rfl, hby⟩
      exact hK _ _ _ rfl hby IsOut
    refine ⟨fun u W hb hd K hK => ?_, ?_⟩
    · simp only [Facts, nthR, Is, and_true] at hd
      simp only [hd] at hK ⊢
      clear hd
      go_simp
      with_reducible refine (times_e _ _ _ _ W).mono ?_
      rintro e wy ⟨rfl, hby⟩
      exact hK _ _ _ rfl hby IsOut
    refine ⟨fun u W hb hd K hK => ?_, ?_⟩
    · simp only [Facts, nthR, Is, and_true] at hd
      simp only [hd] at hK ⊢
      clear hd
      go_simp
      with_reducible refine (bytes_e _ _ W).mono ?_
      rintro e wy ⟨rfl, hby⟩
      exact hK _ _ _ rfl hby IsOut
    exact trivial
  · skip
    exact trivial
  · exact (.is (.is (.is (.is (.is (.is .nil))))))
  · intro u W hb hd
    simp only [List.drop_succ_cons, List.drop_zero]
    simp only [Facts, nthR, Is, and_true] at hd
    simp only [hd]
    clear hd
    replace hR := hR.below hb hR.lt
    replace hbw := hbw.trans (hb.mono hbw.size)
    clear hb hA hB
    go_wp2_with (refine wpList_store_blk rfl 22 (.tmp 4) (.tmp 10) rfl rfl gr _ rfl rfl 22 _ hR (infoBk.trans (by rw [List.length_map, bytesE_length])) (by rw [List.length_map, List.length_map, bytesE_length, HZL.out]) (one8 _) ?_; intro w7 hA7 hg7)
    refine NoPanic.normal ?_
    go_wp2
    refine bodyPost_ret (v := .agg _) (results_cell_row rfl _ _ gr 22 _ (0, 0) _ rfl hA7.raw Try.underlying22 rfl (infoBk.trans (by rw [List.size_toArray, List.length_map, bytesE_length]))) rfl ⟨rfl, below_new hbw hg7 hle hbw.size⟩
end Go.Proofs.Ytiebdglnkbpajaa
