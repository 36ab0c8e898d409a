/-
  The contract of the standard's block, turned and turned back.
-/
import Derived.Test.YtpieepaggfiajaaBCount
namespace Go.Proofs.Ytpieepaggfiajaa
open Go.RowKit

def blkTo (k : Nat) : List UInt8 := blk16.take k ++ List.replicate (16 - k) 0
theorem blkTo_set : ∀ k : Fin 16, (blkTo k.val).set k.val (blk16.getD k.val 0) = blkTo (k.val + 1) ∧ (blkTo k.val).length = 16 ∧ (blk16.getD k.val 0).toNat = 17 * k.val := by decide
theorem count17 {k : Nat} (h : k < 16) : IntKind.u8.wrap (17 * (k : Int)) = ((blk16.getD k 0).toNat : Int) := by
  have h1 : (blk16.getD k 0).toNat = 17 * k := (blkTo_set ⟨k, h⟩).2.2
  rw [IntKind.wrap_u8, h1]
  show 17 * (k : Int) % 256 = ((17 * k : Nat) : Int)
  omega
theorem new16 {w : World} {base c : Nat} {A : Option Addr} {key : List UInt8} (h : Buf w base A 16 c key) :
    Calls Try.prog 7 #[.slice A 16 c] w fun e w' => ∃ gk gr, e = .returned (.tuple #[.pointer (some ⟨gk, 0, none⟩), .int .i64 0]) ∧ w.heap.size ≤ gk ∧ KeyAt w' gk gr 11 (keyL 4 key) ∧ Below w.heap.size w w' := by
  have hle := h.le
  obtain ⟨g, e, _, hg, hby⟩ := h.at (by omega)
  have hl := h.len
  have := new_any A c w.heap.size 4 key w (Nat.le_refl _) ⟨by omega, hle.2, fun _ => ⟨g, 0, e, hg, hby⟩⟩ hl (.inl rfl)
  rw [hl] at this
  exact this
set_option maxRecDepth 100000 in
set_option maxHeartbeats 4000000 in
theorem blocks_any (w : World) : Calls Try.prog 8 #[] w fun e w' => e = .returned (.bool true) ∧ Below w.heap.size w w' := by
  have hz : ∀ W : World, (zeroValue 23).run Try.prog W = .ok (BV zero16) W := fun W => by kernel_rfl
  obtain ⟨c, hc⟩ : ∃ c, c = sealS (keyL 4 key16) 11 blk16 := ⟨_, rfl⟩
  have HCL := Lib.hid (show c.length = 16 by rw [hc]; exact sealS_length _ _ _)
  have HC0 := Lib.hid (show c.getD 0 0 = 0x69 ∧ c.getD 15 0 = 0x5a by rw [hc]; exact known_get)
  have HOS := Lib.hid (show openS (keyL 4 key16) 11 c = blk16 by rw [hc]; exact open_seal _ 11 (keyL_four 4 key16) (by omega) blk16 (by rfl))
  have hEq : ∀ W : World, (Op.equalIn 10000 23 (BV blk16) (BV blk16)).run Try.prog W = .ok true W := fun W => by rw [equal_blocks _ _ (by rfl) (by rfl), beq_self_eq_true]
  have HCC := Lib.hid hc
  have HEQ := Lib.hid hEq
  clear hc hEq
  go_enter Try.func8, Try.ntmps8
  go_wp2_with (first
    | (go_at_call 15; go_loud (refine (count_any _).mono ?_; rintro e w1 ⟨A1, c1, rfl, hB1, hb1⟩; have hN := new16 hB1))
    | (go_at_call 7; go_loud (refine hN.mono ?_; rintro e w2 ⟨gk, gr, rfl, hgk, hk, hb2⟩)))
  clear hB1 hN
  have hb0 := hb1.trans (hb2.mono hb1.size)
  have hbA := hb0.alloc hb0.size (.cells (zero16.map B8).toArray 23)
  have hA0 := Blk.new_of w2 23 (zero16.map B8).toArray (zero16.map B8) rfl
  have hk0 : KeyAt (w2.alloc (.cells (zero16.map B8).toArray 23)) gk gr 11 (keyL 4 key16) := ⟨hk.key.alloc _, hk.rounds.alloc _, hk.len⟩
  have hne := (show gk < w2.heap.size ∧ gr < w2.heap.size from ⟨hk.key.lt, hk.rounds.lt⟩)
  have hgw := hb0.size
  generalize w2.heap.size = gb at *
  go_loopw [4] (fun i wr => ∃ k : Nat, k ≤ 16 ∧ i = .int .i64 (k : Int) ∧ Blk wr gb 23 ((blkTo k).map B8) ∧ KeyAt wr gk gr 11 (keyL 4 key16) ∧ Below w.heap.size w wr) (fun i _ => 16 - (intOf i).toNat)
  case atStart => exact ⟨0, Nat.zero_le _, rfl, hA0, hk0, hbA⟩
  case round =>
    clear hk0 hA0 hbA hk hb0 hb1 hb2
    obtain ⟨k, hk16, rfl, hS, hk, hbw⟩ := hrel
    by_cases hlt : k < 16
    · have hd : decide ((k : Int) < 16) = true := by simp; omega
      have HT := blkTo_set ⟨k, hlt⟩
      have h17 := count17 hlt
      dsimp only at HT
      obtain ⟨h1, h2, h3⟩ := HT
      have hcell := hS.at8 k (by omega)
      have hfro := hS.frozen k
      have hwm : wrap64 (17 * (k : Int)) = 17 * (k : Int) := by unfold wrap64; omega
      have hwm' : IntKind.i64.wrap (17 * (k : Int)) = 17 * (k : Int) := by rw [IntKind.wrap_i64]; omega
      have hk0 : (0 : Int) ≤ (k : Int) := by omega
      have hk1 : (k : Int) < 16 := by omega
      generalize blk16.getD k 0 = y at *
      have HE := Lib.hid h1
      have HY := Lib.hid h3
      clear h1 h2 h3
      generalize blkTo k = L at *
      go_wp2
      go_roundw
      case rel =>
        refine ⟨k + 1, by omega, by go_num, ?_, ⟨hk.key.far (by simp; omega) _, hk.rounds.far (by simp; omega) _, hk.len⟩, hbw.setCell (by simp; omega) _⟩
        rw [← HE.out, ← map_set8]
        exact hS.set_ k _
      case measure => simp [intOf]; omega
    · have hd : decide ((k : Int) < 16) = false := by simp; omega
      obtain rfl : k = 16 := by omega
      rw [show blkTo 16 = blk16 by rfl] at hS
      have hseal := seal_any gk gr 11 (keyL 4 key16) blk16 wr hk (by omega) (by omega) (by rfl)
      rw [← HCC.out] at hseal
      have hgbw := hS.lt
      go_wp2_with (first
        | (refine wpList_load_blk rfl 23 (.tmp 3) rfl gb rfl 23 _ _ hS Try.underlying23 rfl (infoBk.trans (by rfl)) ?_)
        | (go_at_call 9; with_reducible refine hseal.mono ?_; rintro e w3 ⟨rfl, hb3⟩)
        | (refine wpList_store_blk rfl 23 (.tmp 5) (.tmp 28) rfl rfl w3.heap.size _ rfl rfl 23 _ (Blk.new_of w3 23 _ (zero16.map B8) (by rfl)) (infoBk.trans (by rw [List.length_map, HCL.out])) (by rw [List.length_map, List.length_map, HCL.out]; rfl) (one8 _) ?_; intro w4 hC hg4))
      have hS4 := ((hS.below hb3 hS.lt).alloc _).grown hg4 (by have := hb3.size; simp; omega)
      have hk4 := hk.below hb3
      have hk5 : KeyAt w4 gk gr 11 (keyL 4 key16) := ⟨(hk4.key.alloc _).grown hg4 (by have := hk4.key.lt; simp; omega), (hk4.rounds.alloc _).grown hg4 (by have := hk4.rounds.lt; simp; omega), hk4.len⟩
      have hb3' := hbw.trans (hb3.mono hbw.size)
      have hb5 := below_new (hb3'.alloc hb3'.size _) hg4 hb3'.size (by have := hb3'.size; simp; omega)
      generalize w3.heap.size = gc at *
      clear hS hk hbw hk4 hb3' hseal hg4
      have hS := hS4
      have hk := hk5
      have hbw := hb5
      clear hS4 hk5 hb5
      have hC0 := Lib.hid (fun (W : World) (hb : Below w4.heap.size w4 W) => ((hC.below hb hC.lt).at8 0 (by rw [HCL.out]; omega)).trans (congrArg (fun z : UInt8 => some (Value.int .u8 (z.toNat : Int))) HC0.out.1))
      have hC15 := Lib.hid (fun (W : World) (hb : Below w4.heap.size w4 W) => ((hC.below hb hC.lt).at8 15 (by rw [HCL.out]; omega)).trans (congrArg (fun z : UInt8 => some (Value.int .u8 (z.toNat : Int))) HC0.out.2))
      have HO := Lib.hid (fun (W : World) (hb : Below w4.heap.size w4 W) => open_any gk gr 11 (keyL 4 key16) c W (hk.below hb) (by omega) (by omega) HCL.out)
      rw [HOS.out] at HO
      have hEq := HEQ.out
      go_wp2
      apply wp_region_once (D := [[], [0], [0, 1], [0, 1, 2], [0, 1, 2, 3], [0, 1, 2, 3, 4], [0, 1, 2, 3, 4, 5], [0, 1, 2, 3, 4, 5, 6], [0, 1, 2, 3, 4, 5, 6, 7], [0, 1, 2, 3, 4, 5, 6, 7, 8], [0, 1, 2, 3, 4, 5, 6, 7, 8], [0, 1, 2, 3, 4, 5, 6, 7, 8, 9, 10], [0, 1, 2, 3, 4, 5, 6, 7, 8], [0, 1, 2, 3, 4, 5, 6, 7, 8, 9, 10, 11, 12], [0, 1, 2, 3, 4, 5, 6, 7, 8, 9, 10, 11, 12, 13], [0, 1, 2, 3, 4, 5, 6, 7, 8, 9, 10, 11, 12, 13, 14]]) (J := [[], [0], [1], [2], [3], [3, 4], [3, 5], [3, 6], [7], [8], [8], [8, 9, 10], [8], [8, 11, 12], [8, 13], [14]]) (Je := [15]) (Rs := [Is _, Is _, Is _, Is _, Is _, Is _, Is _, Is _, Is _, Is _, Is _, Is _, Is _, Is _, Is _, Is _])
      · kernel_rfl
      · kernel_rfl
      · kernel_rfl
      · kernel_rfl
      · kernel_rfl
      · kernel_rfl
      · intro u
        simp only [List.map_cons, List.map_nil, fillU, List.setIfInBounds_toArray, List.set_cons_zero, List.set_cons_succ, Nat.zero_add, Nat.reduceAdd]
        exact rfl
      · skip
        refine ⟨fun u W hb hd K hK => ?_, ?_⟩
        · clear hd
          go_simp
          apply hK
          · simp only [Act.put, List.setIfInBounds_toArray, List.set_cons_zero, List.set_cons_succ]
            exact rfl
          · exact Below.refl _ _
          · exact IsOut
        refine ⟨fun u W hb hd K hK => ?_, ?_⟩
        · simp only [Facts, nthR, Is, and_true] at hd
          simp only [hd] at hK ⊢
          clear hd
          have hcc := hC0.out W hb
          go_simp
          apply hK
          · simp only [Act.put, List.setIfInBounds_toArray, List.set_cons_zero, List.set_cons_succ]
            exact rfl
          · exact Below.refl _ _
          · exact IsOut
        refine ⟨fun u W hb hd K hK => ?_, ?_⟩
        · simp only [Facts, nthR, Is, and_true] at hd
          simp only [hd] at hK ⊢
          clear hd
          go_simp
          apply hK
          · simp only [Act.put, List.setIfInBounds_toArray, List.set_cons_zero, List.set_cons_succ]
            exact rfl
          · exact Below.refl _ _
          · exact IsOut
        refine ⟨fun u W hb hd K hK => ?_, ?_⟩
        · simp only [Facts, nthR, Is, and_true] at hd
          simp only [hd] at hK ⊢
          clear hd
          go_simp
          apply hK
          · simp only [Act.put, List.setIfInBounds_toArray, List.set_cons_zero, List.set_cons_succ]
            exact rfl
          · exact Below.refl _ _
          · exact IsOut
        refine ⟨fun u W hb hd K hK => ?_, ?_⟩
        · simp only [Facts, nthR, Is, and_true] at hd
          simp only [hd] at hK ⊢
          clear hd
          go_simp
          apply hK
          · simp only [Act.put, List.setIfInBounds_toArray, List.set_cons_zero, List.set_cons_succ]
            exact rfl
          · exact Below.refl _ _
          · exact IsOut
        refine ⟨fun u W hb hd K hK => ?_, ?_⟩
        · simp only [Facts, nthR, Is, and_true] at hd
          simp only [hd] at hK ⊢
          clear hd
          have hcc := hC15.out W hb
          go_simp
          apply hK
          · simp only [Act.put, List.setIfInBounds_toArray, List.set_cons_zero, List.set_cons_succ]
            exact rfl
          · exact Below.refl _ _
          · exact IsOut
        refine ⟨fun u W hb hd K hK => ?_, ?_⟩
        · simp only [Facts, nthR, Is, and_true] at hd
          simp only [hd] at hK ⊢
          clear hd
          go_simp
          apply hK
          · simp only [Act.put, List.setIfInBounds_toArray, List.set_cons_zero, List.set_cons_succ]
            exact rfl
          · exact Below.refl _ _
          · exact IsOut
        refine ⟨fun u W hb hd K hK => ?_, ?_⟩
        · simp only [Facts, nthR, Is, and_true] at hd
          simp only [hd] at hK ⊢
          clear hd
          go_simp
          apply hK
          · simp only [Act.put, List.setIfInBounds_toArray, List.set_cons_zero, List.set_cons_succ]
            exact rfl
          · exact Below.refl _ _
          · exact IsOut
        refine ⟨fun u W hb hd K hK => ?_, ?_⟩
        · simp only [Facts, nthR, Is, and_true] at hd
          simp only [hd] at hK ⊢
          clear hd
          go_simp
          apply hK
          · simp only [Act.put, List.setIfInBounds_toArray, List.set_cons_zero, List.set_cons_succ]
            exact rfl
          · exact Below.refl _ _
          · exact IsOut
        refine ⟨fun u W hb hd K hK => ?_, ?_⟩
        · simp only [Facts, nthR, Is, and_true] at hd
          simp only [hd] at hK ⊢
          clear hd
          go_simp
          apply hK
          · simp only [Act.put, List.setIfInBounds_toArray, List.set_cons_zero, List.set_cons_succ]
            exact rfl
          · exact Below.refl _ _
          · exact IsOut
        refine ⟨fun u W hb hd K hK => ?_, ?_⟩
        · simp only [Facts, nthR, Is, and_true] at hd
          simp only [hd] at hK ⊢
          clear hd
          rw [if_pos (by rfl)]
          refine wp_load_mid 23 (.tmp 5) rfl (gc) (0) rfl (c.map B8) _ (rangeAt_blk (hC.below hb hC.lt)) Try.underlying23 rfl (infoBk.trans (by rw [List.length_map, HCL.out])) ?_
          exact hK _ _ _ rfl (Below.refl _ _) IsOut
        refine ⟨fun u W hb hd K hK => ?_, ?_⟩
        · simp only [Facts, nthR, Is, and_true] at hd
          simp only [hd] at hK ⊢
          clear hd
          go_simp
          with_reducible refine (HO.out W hb).mono ?_
          rintro e wy ⟨rfl, hby⟩
          exact hK _ _ _ rfl hby IsOut
        refine ⟨fun u W hb hd K hK => ?_, ?_⟩
        · simp only [Facts, nthR, Is, and_true] at hd
          simp only [hd] at hK ⊢
          clear hd
          rw [if_pos (by rfl)]
          refine wp_load_mid 23 (.tmp 3) rfl (gb) (0) rfl (blk16.map B8) _ (rangeAt_blk (hS.below hb hS.lt)) Try.underlying23 rfl (infoBk.trans (by rfl)) ?_
          exact hK _ _ _ rfl (Below.refl _ _) IsOut
        refine ⟨fun u W hb hd K hK => ?_, ?_⟩
        · simp only [Facts, nthR, Is, and_true] at hd
          simp only [hd] at hK ⊢
          clear hd
          go_simp
          apply hK
          · simp only [Act.put, List.setIfInBounds_toArray, List.set_cons_zero, List.set_cons_succ]
            exact rfl
          · exact Below.refl _ _
          · exact IsOut
        refine ⟨fun u W hb hd K hK => ?_, ?_⟩
        · simp only [Facts, nthR, Is, and_true] at hd
          simp only [hd] at hK ⊢
          clear hd
          go_simp
          apply hK
          · simp only [Act.put, List.setIfInBounds_toArray, List.set_cons_zero, List.set_cons_succ]
            exact rfl
          · exact Below.refl _ _
          · exact IsOut
        refine ⟨fun u W hb hd K hK => ?_, ?_⟩
        · simp only [Facts, nthR, Is, and_true] at hd
          simp only [hd] at hK ⊢
          clear hd
          go_simp
          apply hK
          · simp only [Act.put, List.setIfInBounds_toArray, List.set_cons_zero]
            exact rfl
          · exact Below.refl _ _
          · exact IsOut
        exact trivial
      · exact (.is (.is (.is (.is (.is (.is (.is (.is (.is (.is (.is (.is (.is (.is (.is (.is .nil))))))))))))))))
      · intro u W hb hd
        simp only [Facts, nthR, Is, and_true] at hd
        simp only [hd]
        have hbF := hbw.trans (hb.mono hbw.size)
        go_wp2
        go_ret
        exact ⟨rfl, hbF⟩
end Go.Proofs.Ytpieepaggfiajaa
