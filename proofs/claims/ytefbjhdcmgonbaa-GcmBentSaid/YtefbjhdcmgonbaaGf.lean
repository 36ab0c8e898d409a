/-
  The contracts of package gcm's elements: out of bytes.
-/
import Derived.Test.YtefbjhdcmgonbaaGe
import Derived.Test.YtefbjhdcmgonbaaBufB
namespace Go.Proofs.Ytefbjhdcmgonbaa
open Go.RowKit

/-- The word of the first k bytes behind o. -/
def wordTo (b : List UInt8) (o : Nat) : Nat → BitVec 64
  | 0 => 0#64
  | k + 1 => (wordTo b o k <<< 8) ||| (b.getD (o + k) 0).toBitVec.setWidth 64
theorem q_shl8 (a : BitVec 64) : IntKind.u64.wrap ((a.toNat : Int) * (256 : Int)) = ((a <<< 8).toNat : Int) := q_shl a 8
theorem q_or8 (a : BitVec 64) (x : UInt8) : bits .or .u64 (a.toNat : Int) (x.toNat : Int) = ((a ||| x.toBitVec.setWidth 64).toNat : Int) := by
  have h : (x.toBitVec.setWidth 64).toNat = x.toNat := by
    rw [BitVec.toNat_setWidth]
    have := u8_lt x
    exact Nat.mod_eq_of_lt (by show x.toNat < 2 ^ 64; omega)
  have := q_or a (x.toBitVec.setWidth 64)
  rw [h] at this
  exact this
theorem q_wrap8 (x : UInt8) : IntKind.u64.wrap (x.toNat : Int) = (x.toNat : Int) := by
  rw [IntKind.wrap_u64]; have := u8_lt x; omega
set_option maxRecDepth 100000 in
set_option maxHeartbeats 1000000 in
theorem elementOf_e (b : List UInt8) (hb : b.length = 16) (w : World) : Calls Try.prog 57 #[BV b] w fun e w' => e = .returned (.agg #[.int .u64 ((wordTo b 0 8).toNat : Int), .int .u64 ((wordTo b 8 8).toNat : Int)]) ∧ Below w.heap.size w w' := by
  have hz : ∀ W : World, (zeroValue 94).run Try.prog W = .ok (.agg #[.int .u64 0, .int .u64 0]) W := fun W => by kernel_rfl
  have HBL := Lib.hid hb
  clear hb
  go_enter Try.func57, Try.ntmps57
  go_wp2
  clear hz
  have hB : Blk (((w.alloc (.cells (b.map B8).toArray 42)).alloc (.cells #[.int .u64 0, .int .u64 0] 94)).alloc (.cells #[.int .u64 0, .int .u64 0] 94)) w.heap.size 42 (b.map B8) := ((Blk.new_of w 42 _ (b.map B8) rfl).alloc _).alloc _
  have hR := (Blk.new2_of w (.cells (b.map B8).toArray 42) 94 #[.int .u64 0, .int .u64 0] [.int .u64 0, .int .u64 0] rfl).alloc (.cells #[.int .u64 0, .int .u64 0] 94)
  have hE := Blk.new3_of w (.cells (b.map B8).toArray 42) (.cells #[.int .u64 0, .int .u64 0] 94) 94 #[.int .u64 0, .int .u64 0] [.int .u64 0, .int .u64 0] rfl
  have hbw := (((Below.refl w.heap.size w).alloc (Nat.le_refl _) (.cells (b.map B8).toArray 42)).alloc (by simp) (.cells #[.int .u64 0, .int .u64 0] 94)).alloc (by simp; omega) (.cells #[.int .u64 0, .int .u64 0] 94)
  have hne := (show w.heap.size ≠ w.heap.size + 1 + 1 ∧ w.heap.size + 1 ≠ w.heap.size + 1 + 1 ∧ w.heap.size ≤ w.heap.size + 1 + 1 by omega)
  have hle := (show w.heap.size ≤ w.heap.size + 1 by omega)
  generalize w.heap.size + 1 + 1 = ge at *
  generalize w.heap.size + 1 = gr at *
  go_loopw [4, 5] (fun _ i wr => ∃ k : Nat, k ≤ 8 ∧ i = .int .i64 (k : Int) ∧ Blk wr w.heap.size 42 (b.map B8) ∧ Blk wr ge 94 [.int .u64 ((wordTo b 0 k).toNat : Int), .int .u64 ((wordTo b 8 k).toNat : Int)] ∧ Blk wr gr 94 [.int .u64 0, .int .u64 0] ∧ Below w.heap.size w wr) (fun _ i _ => 8 - (intOf i).toNat)
  case atStart => exact ⟨0, by omega, rfl, hB, hE, hR, hbw⟩
  case round =>
    clear hB hE hR hbw
    obtain ⟨k, hk, rfl, hB, hE, hR, hbw⟩ := hrel
    by_cases hlt : k < 8
    · have hd : decide ((k : Int) < 8) = true := by simp; omega
      obtain ⟨x, hx⟩ : ∃ x, b.getD k 0 = x := ⟨_, rfl⟩
      obtain ⟨y, hy⟩ : ∃ y, b.getD (8 + k) 0 = y := ⟨_, rfl⟩
      obtain ⟨H0, hH0⟩ : ∃ H, H = wordTo b 0 k := ⟨_, rfl⟩
      obtain ⟨L0, hL0⟩ : ∃ H, H = wordTo b 8 k := ⟨_, rfl⟩
      obtain ⟨Hs, hHs⟩ : ∃ H, H = H0 <<< 8 := ⟨_, rfl⟩
      obtain ⟨Ls, hLs⟩ : ∃ H, H = L0 <<< 8 := ⟨_, rfl⟩
      obtain ⟨H1, hH1⟩ : ∃ H, H = Hs ||| x.toBitVec.setWidth 64 := ⟨_, rfl⟩
      obtain ⟨L1, hL1⟩ : ∃ H, H = Ls ||| y.toBitVec.setWidth 64 := ⟨_, rfl⟩
      have H1E := Lib.hid (show wordTo b 0 (k + 1) = H1 by rw [hH1, hHs, hH0, wordTo, Nat.zero_add, hx])
      have L1E := Lib.hid (show wordTo b 8 (k + 1) = L1 by rw [hL1, hLs, hL0, wordTo, hy])
      have e1 := q_shl8 H0
      rw [← hHs] at e1
      have e2 := q_or8 Hs x
      rw [← hH1] at e2
      have e3 := q_shl8 L0
      rw [← hLs] at e3
      have e4 := q_or8 Ls y
      rw [← hL1] at e4
      have e5 := q_wrap8 x
      have e6 := q_wrap8 y
      have e7 : IntKind.i64.wrap (8 + (k : Int)) = 8 + (k : Int) := by rw [IntKind.wrap_i64]; omega
      have e8 : (8 + (k : Int)).toNat = 8 + k := by omega
      have e9 : (0 : Int) ≤ 8 + (k : Int) := by omega
      have e10 : 8 + (k : Int) < 16 := by omega
      have hk0 : (0 : Int) ≤ (k : Int) := by omega
      have hk1 : (k : Int) < 16 := by omega
      rw [← hH0, ← hL0] at hE
      obtain ⟨gb, hgb⟩ : ∃ gb, gb = w.heap.size := ⟨_, rfl⟩
      have HH := Lib.hid (fun (W : World) (hb : Below wr.heap.size wr W) => (show W.cell? ⟨ge, 0, none⟩ = some (.int .u64 (H0.toNat : Int)) from (hE.below hb hE.lt).cell 0))
      have HX := Lib.hid (fun (W : World) (hb : Below wr.heap.size wr W) => (show W.cell? ⟨w.heap.size, k, none⟩ = some (.int .u8 (x.toNat : Int)) from hx ▸ (hB.below hb hB.lt).at8 k (by rw [HBL.out]; omega)))
      clear hH0 hL0 hHs hLs hH1 hL1
      go_wp2
      refine wp_region_noPanic ?_
      apply wp_region_once_tail (m := 9) (Z := []) (D := [[], [0], [0, 1], [], [3], [3, 4], [3, 4, 5], [0, 1, 2, 3, 4, 5, 6], [0, 1, 2, 3, 4, 5, 6, 7], [0, 1, 2, 3, 4, 5, 6, 7, 8]]) (J := [[], [0], [1], [], [3], [4], [5], [2, 6], []]) (Je := [7, 8]) (Rs := [Is _, Is _, Is _, Is _, Is _, Is _, Is _, Is _, Is _])
      · kernel_rfl
      · kernel_rfl
      · kernel_rfl
      · kernel_rfl
      · kernel_rfl
      · kernel_rfl
      · kernel_rfl
      · exact fun h => absurd rfl h
      · intro u
        simp only [List.take_succ_cons, List.take_zero, List.map_cons, List.map_nil, fillU, List.setIfInBounds_toArray, List.set_cons_zero, List.set_cons_succ, Nat.zero_add, Nat.reduceAdd]
        exact rfl
      · simp only [List.take_succ_cons, List.take_zero]
        refine ⟨fun u W hb hd K hK => ?_, ?_⟩
        · clear hd
          go_simp
          apply hK
          · simp only [Act.put, List.setIfInBounds_toArray, List.set_cons_zero, List.set_cons_succ]
            exact rfl
          · exact Below.refl _ _
          · exact IsOut
        refine ⟨fun u W hb hd K hK => ?_, ?_⟩
        · simp only [Facts, nthR, Is, and_true] at hd
          simp only [hd] at hK ⊢
          clear hd
          have hcc := HH.out W hb
          go_simp
          apply hK
          · simp only [Act.put, List.setIfInBounds_toArray, List.set_cons_zero, List.set_cons_succ]
            exact rfl
          · exact Below.refl _ _
          · exact IsOut
        refine ⟨fun u W hb hd K hK => ?_, ?_⟩
        · simp only [Facts, nthR, Is, and_true] at hd
          simp only [hd] at hK ⊢
          clear hd
          go_simp
          apply hK
          · simp only [Act.put, List.setIfInBounds_toArray, List.set_cons_zero, List.set_cons_succ]
            exact rfl
          · exact Below.refl _ _
          · exact IsOut
        refine ⟨fun u W hb hd K hK => ?_, ?_⟩
        · clear hd
          go_simp
          apply hK
          · simp only [Act.put, List.setIfInBounds_toArray, List.set_cons_zero, List.set_cons_succ]
            exact rfl
          · exact Below.refl _ _
          · exact IsOut
        refine ⟨fun u W hb hd K hK => ?_, ?_⟩
        · simp only [Facts, nthR, Is, and_true] at hd
          simp only [hd] at hK ⊢
          clear hd
          go_simp
          apply hK
          · simp only [Act.put, List.setIfInBounds_toArray, List.set_cons_zero, List.set_cons_succ]
            exact rfl
          · exact Below.refl _ _
          · exact IsOut
        refine ⟨fun u W hb hd K hK => ?_, ?_⟩
        · simp only [Facts, nthR, Is, and_true] at hd
          simp only [hd] at hK ⊢
          clear hd
          have hcc := HX.out W hb
          go_simp
          apply hK
          · simp only [Act.put, List.setIfInBounds_toArray, List.set_cons_zero, List.set_cons_succ]
            exact rfl
          · exact Below.refl _ _
          · exact IsOut
        refine ⟨fun u W hb hd K hK => ?_, ?_⟩
        · simp only [Facts, nthR, Is, and_true] at hd
          simp only [hd] at hK ⊢
          clear hd
          go_simp
          apply hK
          · simp only [Act.put, List.setIfInBounds_toArray, List.set_cons_zero, List.set_cons_succ]
            exact rfl
          · exact Below.refl _ _
          · exact IsOut
        refine ⟨fun u W hb hd K hK => ?_, ?_⟩
        · simp only [Facts, nthR, Is, and_true] at hd
          simp only [hd] at hK ⊢
          clear hd
          go_simp
          apply hK
          · simp only [Act.put, List.setIfInBounds_toArray, List.set_cons_zero, List.set_cons_succ]
            exact rfl
          · exact Below.refl _ _
          · exact IsOut
        refine ⟨fun u W hb hd K hK => ?_, ?_⟩
        · clear hd
          go_simp
          apply hK
          · simp only [Act.put, List.setIfInBounds_toArray, List.set_cons_zero, List.set_cons_succ]
            exact rfl
          · exact Below.refl _ _
          · exact IsOut
        exact trivial
      · skip
        exact trivial
      · exact (.is (.is (.is (.is (.is (.is (.is (.is (.is .nil)))))))))
      · intro u W hb hd
        simp only [List.drop_succ_cons, List.drop_zero]
        simp only [Facts, nthR, Is, and_true] at hd
        simp only [hd]
        clear hd
        replace hE := hE.below hb hE.lt
        replace hB := hB.below hb hB.lt
        replace hR := hR.below hb hR.lt
        replace hbw := hbw.trans (hb.mono hbw.size)
        have hcc := (show Blk _ _ _ [.int .u64 (H0.toNat : Int), .int .u64 (L0.toNat : Int)] from hE).cell 0
        simp only [List.getElem?_cons_zero] at hcc
        have hfr := hE.frozen 0
        clear hb HH HX
        go_wp2
        refine NoPanic.normal ?_
        have hE2 := hE.set_ 0 (.int .u64 (H1.toNat : Int))
        simp only [List.set_cons_zero] at hE2
        have hB2 := hB.far (p := ⟨ge, 0, none⟩) (by simp; exact hne.1) (.int .u64 (H1.toNat : Int))
        have hR2 := hR.far (p := ⟨ge, 0, none⟩) (by simp; exact hne.2.1) (.int .u64 (H1.toNat : Int))
        have hb2 := hbw.setCell (p := ⟨ge, 0, none⟩) (by simp; exact hne.2.2) (.int .u64 (H1.toNat : Int))
        clear hcc hfr hE hB hR hbw
        generalize W.setCell ⟨ge, 0, none⟩ (.int .u64 (H1.toNat : Int)) = w6 at *
        have HH := Lib.hid (fun (W : World) (hb : Below w6.heap.size w6 W) => (show W.cell? ⟨ge, 1, none⟩ = some (.int .u64 (L0.toNat : Int)) from (hE2.below hb hE2.lt).cell 1))
        have HX := Lib.hid (fun (W : World) (hb : Below w6.heap.size w6 W) => (show W.cell? ⟨w.heap.size, 8 + k, none⟩ = some (.int .u8 (y.toNat : Int)) from hy ▸ (hB2.below hb hB2.lt).at8 (8 + k) (by rw [HBL.out]; omega)))
        go_wp2
        refine wp_region_noPanic ?_
        apply wp_region_once_tail (m := 10) (Z := []) (D := [[], [0], [0, 1], [], [3], [3, 4], [3, 4, 5], [3, 4, 5, 6], [0, 1, 2, 3, 4, 5, 6, 7], [0, 1, 2, 3, 4, 5, 6, 7, 8], [0, 1, 2, 3, 4, 5, 6, 7, 8, 9]]) (J := [[], [0], [1], [], [3], [4], [5], [6], [2, 7], []]) (Je := [8, 9]) (Rs := [Is _, Is _, Is _, Is _, Is _, Is _, Is _, Is _, Is _, Is _])
        · kernel_rfl
        · kernel_rfl
        · kernel_rfl
        · kernel_rfl
        · kernel_rfl
        · kernel_rfl
        · kernel_rfl
        · exact fun h => absurd rfl h
        · intro u
          simp only [List.take_succ_cons, List.take_zero, List.map_cons, List.map_nil, fillU, List.setIfInBounds_toArray, List.set_cons_zero, List.set_cons_succ, Nat.zero_add, Nat.reduceAdd]
          exact rfl
        · simp only [List.take_succ_cons, List.take_zero]
          refine ⟨fun u W hb hd K hK => ?_, ?_⟩
          · clear hd
            go_simp
            apply hK
            · simp only [Act.put, List.setIfInBounds_toArray, List.set_cons_zero, List.set_cons_succ]
              exact rfl
            · exact Below.refl _ _
            · exact IsOut
          refine ⟨fun u W hb hd K hK => ?_, ?_⟩
          · simp only [Facts, nthR, Is, and_true] at hd
            simp only [hd] at hK ⊢
            clear hd
            have hcc := HH.out W hb
            go_simp
            apply hK
            · simp only [Act.put, List.setIfInBounds_toArray, List.set_cons_zero, List.set_cons_succ]
              exact rfl
            · exact Below.refl _ _
            · exact IsOut
          refine ⟨fun u W hb hd K hK => ?_, ?_⟩
          · simp only [Facts, nthR, Is, and_true] at hd
            simp only [hd] at hK ⊢
            clear hd
            go_simp
            apply hK
            · simp only [Act.put, List.setIfInBounds_toArray, List.set_cons_zero, List.set_cons_succ]
              exact rfl
            · exact Below.refl _ _
            · exact IsOut
          refine ⟨fun u W hb hd K hK => ?_, ?_⟩
          · clear hd
            go_simp
            apply hK
            · simp only [Act.put, List.setIfInBounds_toArray, List.set_cons_zero, List.set_cons_succ]
              exact rfl
            · exact Below.refl _ _
            · exact IsOut
          refine ⟨fun u W hb hd K hK => ?_, ?_⟩
          · simp only [Facts, nthR, Is, and_true] at hd
            simp only [hd] at hK ⊢
            clear hd
            go_simp
            apply hK
            · simp only [Act.put, List.setIfInBounds_toArray, List.set_cons_zero, List.set_cons_succ]
              exact rfl
            · exact Below.refl _ _
            · exact IsOut
          refine ⟨fun u W hb hd K hK => ?_, ?_⟩
          · simp only [Facts, nthR, Is, and_true] at hd
            simp only [hd] at hK ⊢
            clear hd
            go_simp
            apply hK
            · simp only [Act.put, List.setIfInBounds_toArray, List.set_cons_zero, List.set_cons_succ]
              exact rfl
            · exact Below.refl _ _
            · exact IsOut
          refine ⟨fun u W hb hd K hK => ?_, ?_⟩
          · simp only [Facts, nthR, Is, and_true] at hd
            simp only [hd] at hK ⊢
            clear hd
            have hcc := HX.out W hb
            go_simp
            apply hK
            · simp only [Act.put, List.setIfInBounds_toArray, List.set_cons_zero, List.set_cons_succ]
              exact rfl
            · exact Below.refl _ _
            · exact IsOut
          refine ⟨fun u W hb hd K hK => ?_, ?_⟩
          · simp only [Facts, nthR, Is, and_true] at hd
            simp only [hd] at hK ⊢
            clear hd
            go_simp
            apply hK
            · simp only [Act.put, List.setIfInBounds_toArray, List.set_cons_zero, List.set_cons_succ]
              exact rfl
            · exact Below.refl _ _
            · exact IsOut
          refine ⟨fun u W hb hd K hK => ?_, ?_⟩
          · simp only [Facts, nthR, Is, and_true] at hd
            simp only [hd] at hK ⊢
            clear hd
            go_simp
            apply hK
            · simp only [Act.put, List.setIfInBounds_toArray, List.set_cons_zero, List.set_cons_succ]
              exact rfl
            · exact Below.refl _ _
            · exact IsOut
          refine ⟨fun u W hb hd K hK => ?_, ?_⟩
          · clear hd
            go_simp
            apply hK
            · simp only [Act.put, List.setIfInBounds_toArray, List.set_cons_zero, List.set_cons_succ]
              exact rfl
            · exact Below.refl _ _
            · exact IsOut
          exact trivial
        · skip
          exact trivial
        · exact (.is (.is (.is (.is (.is (.is (.is (.is (.is (.is .nil))))))))))
        · intro u W hb hd
          simp only [List.drop_succ_cons, List.drop_zero]
          simp only [Facts, nthR, Is, and_true] at hd
          simp only [hd]
          clear hd
          replace hE2 := hE2.below hb hE2.lt
          replace hB2 := hB2.below hb hB2.lt
          replace hR2 := hR2.below hb hR2.lt
          replace hb2 := hb2.trans (hb.mono hb2.size)
          have hcc := (show Blk _ _ _ [.int .u64 (H1.toNat : Int), .int .u64 (L0.toNat : Int)] from hE2).cell 1
          simp only [List.getElem?_cons_succ, List.getElem?_cons_zero] at hcc
          have hfr := hE2.frozen 1
          clear hb HH HX
          go_wp2
          refine NoPanic.normal ?_
          go_wp2
          go_roundw
          case rel =>
            refine ⟨k + 1, by omega, by go_num, hB2.far (by simp; exact hne.1) _, ?_, hR2.far (by simp; exact hne.2.1) _, hb2.setCell (by simp; exact hne.2.2) _⟩
            rw [H1E.out, L1E.out]
            exact hE2.set_ 1 _
          case measure => simp [intOf]; omega
    · have hd : decide ((k : Int) < 8) = false := by simp; omega
      obtain rfl : k = 8 := by omega
      obtain ⟨s0, hs0⟩ : ∃ s, s = wordTo b 0 8 := ⟨_, rfl⟩
      obtain ⟨s1, hs1⟩ : ∃ s, s = wordTo b 8 8 := ⟨_, rfl⟩
      rw [← hs0, ← hs1] at hE
      have HS0 := Lib.hid hs0
      have HS1 := Lib.hid hs1
      clear hs0 hs1 hB
      go_wp2_with (first
        | ((with_reducible refine (?_ : wpList _ _ _ (Oper.mk (some 28) _ _ _ _ _ :: _) _ _)); go_loud (refine wpList_load_blk rfl 94 (.tmp 3) rfl ge rfl 94 _ _ hE Try.underlying94 rfl infoEl ?_))
        | ((with_reducible refine (?_ : wpList _ _ _ (Oper.mk none (.store 94 (.tmp 2) _) _ _ _ _ :: _) _ _)); go_loud (refine wpList_store_blk rfl 94 (.tmp 2) (.tmp 28) rfl rfl gr [.int .u64 (s0.toNat : Int), .int .u64 (s1.toNat : Int)] rfl rfl 94 _ hR infoEl rfl (by simp [Value.oneCell']) ?_); intro w7 hA7 hg7))
      refine bodyPost_ret (v := .agg _) (results_cell_row rfl _ _ gr 94 _ (0, 0) _ rfl hA7.raw Try.underlying94 rfl infoEl) rfl ⟨by rw [HS0.out, HS1.out], below_new hbw hg7 hle hbw.size⟩
end Go.Proofs.Ytefbjhdcmgonbaa
