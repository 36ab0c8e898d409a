/-
  The contracts of package gcm's tag and Seal.
-/
import Derived.Test.YtefbjhdcmgonbaaGx
namespace Go.Proofs.Ytefbjhdcmgonbaa
open Go.RowKit

theorem pin2 {w : World} {A0 A1 : Option Addr} {c0 c1 n0 n1 : Nat} {b0 b1 : List UInt8} (t : TypeId) (h0 : In w w.heap.size A0 c0 b0) (h1 : In w w.heap.size A1 c1 b1) (e0 : b0.length = n0) (e1 : b1.length = n1) :
    PIn (w.alloc (.cells #[.slice A0 n0 c0, .slice A1 n1 c1] t)) (w.alloc (.cells #[.slice A0 n0 c0, .slice A1 n1 c1] t)).heap.size (some ⟨w.heap.size, 0, none⟩) 2 [b0, b1] := by
  subst e0 e1
  have hC := Blk.new_of w t #[.slice A0 b0.length c0, .slice A1 b1.length c1] _ rfl
  have up : Below w.heap.size w (w.alloc (.cells #[.slice A0 b0.length c0, .slice A1 b1.length c1] t)) := (Below.refl _ _).alloc (Nat.le_refl _) _
  refine ⟨by simp, by omega, fun _ => ⟨w.heap.size, 0, rfl, by simp, fun j hj => ?_⟩⟩
  obtain rfl | rfl : j = 0 ∨ j = 1 := by have : j < 2 := hj; omega
  · exact ⟨A0, c0, hC.cell 0, in_up h0 up⟩
  · exact ⟨A1, c1, hC.cell 1, in_up h1 up⟩
theorem pin3 {w : World} {A0 A1 A2 : Option Addr} {c0 c1 c2 n0 n1 n2 : Nat} {b0 b1 b2 : List UInt8} (t : TypeId) (h0 : In w w.heap.size A0 c0 b0) (h1 : In w w.heap.size A1 c1 b1) (h2 : In w w.heap.size A2 c2 b2) (e0 : b0.length = n0) (e1 : b1.length = n1) (e2 : b2.length = n2) :
    PIn (w.alloc (.cells #[.slice A0 n0 c0, .slice A1 n1 c1, .slice A2 n2 c2] t)) (w.alloc (.cells #[.slice A0 n0 c0, .slice A1 n1 c1, .slice A2 n2 c2] t)).heap.size (some ⟨w.heap.size, 0, none⟩) 3 [b0, b1, b2] := by
  subst e0 e1 e2
  have hC := Blk.new_of w t #[.slice A0 b0.length c0, .slice A1 b1.length c1, .slice A2 b2.length c2] _ rfl
  have up : Below w.heap.size w (w.alloc (.cells #[.slice A0 b0.length c0, .slice A1 b1.length c1, .slice A2 b2.length c2] t)) := (Below.refl _ _).alloc (Nat.le_refl _) _
  refine ⟨by simp, by omega, fun _ => ⟨w.heap.size, 0, rfl, by simp, fun j hj => ?_⟩⟩
  obtain rfl | rfl | rfl : j = 0 ∨ j = 1 ∨ j = 2 := by have : j < 3 := hj; omega
  · exact ⟨A0, c0, hC.cell 0, in_up h0 up⟩
  · exact ⟨A1, c1, hC.cell 1, in_up h1 up⟩
  · exact ⟨A2, c2, hC.cell 2, in_up h2 up⟩
theorem mid_get (X S : List UInt8) (k : Nat) (hX : k ≤ X.length) : (X.take k ++ S.drop k).getD k 0 = S.getD k 0 := by
  have hl : (X.take k).length = k := by rw [List.length_take]; omega
  rw [List.getD_eq_getElem?_getD, List.getElem?_append_right (by omega), hl, Nat.sub_self, List.getElem?_drop, List.getD_eq_getElem?_getD]
  rfl
def sumE (L : List UInt32) (R : Nat) (hid bes : List UInt8) : List UInt8 := gFold (sealS L R zero16) [bes, hid, cntE [bes, hid]]
def tagE (L : List UInt32) (R : Nat) (N hid bes : List UInt8) : List UInt8 := putE (sumE L R hid bes) (sealS L R (ctrE N 1))
theorem sumE_length (L : List UInt32) (R : Nat) (hid bes : List UInt8) : (sumE L R hid bes).length = 16 := gFold_length _ _
theorem tagE_length (L : List UInt32) (R : Nat) (N hid bes : List UInt8) : (tagE L R N hid bes).length = 16 := putE_length (sumE_length _ _ _ _) (sealS_length _ _ _)

set_option maxRecDepth 100000 in
set_option maxHeartbeats 1000000 in
theorem tag_e (gx gk gr R nh nb ch cb : Nat) (Ah Ab : Option Addr) (L : List UInt32) (N hid bes : List UInt8) (w : World) (hx : BoxAt w gx gk gr R L) (hN : N.length = 12)
    (ih : In w w.heap.size Ah ch hid) (ib : In w w.heap.size Ab cb bes) (lh : hid.length = nh) (lb : bes.length = nb) (hh : nh < 549755813888) (hb : nb < 549755813888) :
    Calls Try.prog 25 #[.pointer (some ⟨gx, 0, none⟩), BV N, .slice Ah nh ch, .slice Ab nb cb] w fun e w' => e = .returned (BV (tagE L R N hid bes)) ∧ Below w.heap.size w w' := by
  have hse := fun (W : World) (h : BoxAt W gx gk gr R L) => seal_any gk gr R L zero16 W h.key h.lo h.hi rfl
  have hci := fun (W : World) (h : BoxAt W gx gk gr R L) => cipher_e gx gk gr R 1 L N W h hN (by decide)
  have hcl := sealS_length L R (ctrE N 1)
  have hkl := sealS_length L R zero16
  have hxg := fun i (hi : i < 16) => putE_get (sumE_length L R hid bes) hcl i hi
  have hxl := tagE_length L R N hid bes
  have hsl := sumE_length L R hid bes
  obtain ⟨X, hX⟩ : ∃ X, X = tagE L R N hid bes := ⟨_, rfl⟩
  rw [← hX] at hxl ⊢
  rw [show putE (sumE L R hid bes) (sealS L R (ctrE N 1)) = X from hX.symm] at hxg
  obtain ⟨K, hK⟩ : ∃ K, K = sealS L R zero16 := ⟨_, rfl⟩
  have hfo := fun (W : World) (A : Option Addr) (h : PIn W W.heap.size A 3 [bes, hid, cntE [bes, hid]]) => fold_e (sealS L R zero16) A 3 [bes, hid, cntE [bes, hid]] W hkl h
  rw [show gFold (sealS L R zero16) [bes, hid, cntE [bes, hid]] = sumE L R hid bes from rfl] at hfo
  rw [← hK] at hse hkl hfo
  have hco := fun (W : World) (A : Option Addr) (h : PIn W W.heap.size A 2 [bes, hid]) => counts_e A 2 [bes, hid] W h (fun k hk => by
    obtain rfl | rfl : k = 0 ∨ k = 1 := by have : k < 2 := hk; omega
    · show bes.length < _; omega
    · show hid.length < _; omega) (show 2 ≤ 9 by decide)
  have hctl := cntE_length [bes, hid]
  generalize sealS L R (ctrE N 1) = C at *
  generalize sumE L R hid bes = S at *
  generalize cntE [bes, hid] = T at *
  have hz : ∀ W : World, (zeroValue 42).run Try.prog W = .ok (BV zero16) W := fun W => by kernel_rfl
  obtain ⟨Z, hZ⟩ : ∃ Z, Z = zero16 := ⟨_, rfl⟩
  have HZL := Lib.hid (show Z.length = 16 by rw [hZ]; rfl)
  rw [← hZ] at hz
  rw [← hZ] at hse
  have HSE := Lib.hid hse
  have HCI := Lib.hid hci
  have HFO := Lib.hid hfo
  have HCO := Lib.hid hco
  have HCL := Lib.hid hcl
  have HKL := Lib.hid hkl
  have HXL := Lib.hid hxl
  have HXG := Lib.hid hxg
  have HSL := Lib.hid hsl
  have HTL := Lib.hid hctl
  have HLH := Lib.hid lh
  have HLB := Lib.hid lb
  have HN := Lib.hid hN
  have HBX := Lib.hid hx
  clear hse hci hfo hco hcl hkl hxl hxg hsl hctl lh lb hN hx hX hK hZ hh hb
  go_enter Try.func25, Try.ntmps25
  have hA := (Blk.new_of w 23 _ (N.map B8) rfl).alloc (.cells (Z.map B8).toArray 42)
  have hR := Blk.new2_of w (.cells (N.map B8).toArray 23) 42 (Z.map B8).toArray (Z.map B8) rfl
  have hbw := ((Below.refl w.heap.size w).alloc (Nat.le_refl _) (.cells (N.map B8).toArray 23)).alloc (by simp) (.cells (Z.map B8).toArray 42)
  have hk0 : ((w.alloc (.cells (N.map B8).toArray 23)).alloc (.cells (Z.map B8).toArray 42)).cell? ⟨gx, 0, none⟩ = some (.pointer (some ⟨gk, 0, none⟩)) := (HBX.out.below hbw).box.cell 0
  have hzz := HZL.out
  go_wp2_with (first
    | (go_at_call 21; go_loud (refine (HSE.out _ (HBX.out.below hbw)).mono ?_); rintro e w2 ⟨rfl, hb2⟩; have hA2 := hA.below hb2 hA.lt; have hR2 := hR.below hb2 hR.lt; have hbw2 := hbw.trans (hb2.mono hbw.size); have ih2 := in_up ih hbw2; have ib2 := in_up ib hbw2; clear hb2 hA hR hbw hk0)
    | (go_at_call 49; go_loud (refine (HCO.out _ _ (pin2 24 ib2 ih2 HLB.out HLH.out)).mono ?_); rintro e w3 ⟨Ac, nc, cc, rfl, hnc, hIc, hb3⟩; have hal2 := (Below.refl w2.heap.size w2).alloc (Nat.le_refl _) (.cells #[.slice Ab nb cb, .slice Ah nh ch] 24); have hb23 := hal2.trans (hb3.mono hal2.size); have hA3 := hA2.below hb23 hA2.lt; have hR3 := hR2.below hb23 hR2.lt; have hbw3 := hbw2.trans (hb23.mono hbw2.size); have ih3 := in_up ih2 hb23; have ib3 := in_up ib2 hb23; have HNC := Lib.hid (show T.length = nc by rw [HTL.out, hnc]); clear hb3 hb23 hal2 hA2 hR2 hbw2 ih2 ib2 hnc)
    | (go_at_call 48; go_loud (refine (HFO.out _ _ (pin3 24 ib3 ih3 hIc HLB.out HLH.out HNC.out)).mono ?_); rintro e w4 ⟨rfl, hb4⟩; have hal3 := (Below.refl w3.heap.size w3).alloc (Nat.le_refl _) (.cells #[.slice Ab nb cb, .slice Ah nh ch, .slice Ac nc cc] 24); have hb34 := hal3.trans (hb4.mono hal3.size); have hA4 := hA3.below hb34 hA3.lt; have hR4 := hR3.below hb34 hR3.lt; have hbw4 := hbw3.trans (hb34.mono hbw3.size); clear hb4 hb34 hal3 hA3 hR3 hbw3 ih3 ib3 hIc HNC)
    | ((with_reducible refine (?_ : wpList _ _ _ (Oper.mk none (.store 42 (.tmp 9) _) _ _ _ _ :: _) _ _)); go_loud (refine wpList_store_blk rfl 42 (.tmp 9) (.tmp 26) rfl rfl (w4.heap.size) _ rfl rfl 42 _ (Blk.new_of w4 42 _ _ rfl) (infoBk.trans (by rw [List.length_map, HSL.out])) (by rw [List.length_map, List.length_map, HSL.out, HZL.out]) (one8 _) ?_); intro w5 hS5 hg5; have hb5 := below_new ((Below.refl w4.heap.size w4).alloc (Nat.le_refl _) _) hg5 (Nat.le_refl _) (by simp); have hA5 := hA4.below hb5 hA4.lt; have hR5 := hR4.below hb5 hR4.lt; have hbw5 := hbw4.trans (hb5.mono hbw4.size); have hsr := hR4.lt; clear hb5 hg5 hA4 hR4 hbw4)
    | ((with_reducible refine (?_ : wpList _ _ _ (Oper.mk (some 28) _ _ _ _ _ :: _) _ _)); go_loud (refine wpList_load_blk rfl 23 (.tmp 5) rfl (w.heap.size) rfl 23 _ _ hA5 Try.underlying23 rfl (info12.trans (by rw [List.length_map, HN.out])) ?_))
    | (go_at_call 47; go_loud (refine (HCI.out _ (HBX.out.below hbw5)).mono ?_); rintro e w6 ⟨rfl, hb6⟩; have hS6 := hS5.below hb6 hS5.lt; have hR6 := hR5.below hb6 hR5.lt; have hbw6 := hbw5.trans (hb6.mono hbw5.size); clear hb6 hA5 hS5 hR5 hbw5)
    | ((with_reducible refine (?_ : wpList _ _ _ (Oper.mk none (.store 42 (.tmp 10) _) _ _ _ _ :: _) _ _)); go_loud (refine wpList_store_blk rfl 42 (.tmp 10) (.tmp 29) rfl rfl (w6.heap.size) _ rfl rfl 42 _ (Blk.new_of w6 42 _ _ rfl) (infoBk.trans (by rw [List.length_map, HCL.out])) (by rw [List.length_map, List.length_map, HCL.out, HZL.out]) (one8 _) ?_); intro w7 hC7 hg7; have hb7 := below_new ((Below.refl w6.heap.size w6).alloc (Nat.le_refl _) _) hg7 (Nat.le_refl _) (by simp); have hS7 := hS6.below hb7 hS6.lt; have hR7 := hR6.below hb7 hR6.lt; have hbw7 := hbw6.trans (hb7.mono hbw6.size); clear hb7 hg7 hS6 hR6 hbw6)
    | ((with_reducible refine (?_ : wpList _ _ _ (Oper.mk (some 30) _ _ _ _ _ :: _) _ _)); go_loud (refine wpList_load_blk rfl 42 (.tmp 10) rfl (w6.heap.size) rfl 42 _ _ hC7 Try.underlying42 rfl (infoBk.trans (by rw [List.length_map, HCL.out])) ?_)))
  have hne : w.heap.size + 1 ≠ w4.heap.size ∧ w.heap.size ≤ w4.heap.size := by omega
  have hT0 : Blk w7 w4.heap.size 42 ((X.take 0 ++ S.drop 0).map B8) := hS7
  have hle : w.heap.size ≤ w.heap.size + 1 := by omega
  clear hS7 hC7 hsr hz hzz ih ib
  generalize w4.heap.size = gs at *
  generalize w.heap.size + 1 = go at *
  go_loopw [11, 12, 31] (fun _ _ i wr => ∃ k : Nat, k ≤ 16 ∧ i = .int .i64 (k : Int) ∧ Blk wr gs 42 ((X.take k ++ S.drop k).map B8) ∧ Blk wr go 42 (Z.map B8) ∧ Below w.heap.size w wr) (fun _ _ i _ => 16 - (intOf i).toNat)
  case atStart => exact ⟨0, by omega, rfl, hT0, hR7, hbw7⟩
  case round =>
    clear hT0 hR7 hbw7
    obtain ⟨k, hk, rfl, hT, hR, hbw⟩ := hrel
    by_cases hlt : k < 16
    · have hd1 : decide ((k : Int) < 16) = true := by simp; omega
      have hix := fun (W : World) => index_bytes 16 42 C HCL.out Try.underlying42 k hlt W
      have hlen := mid_len X S k (by rw [HXL.out]; omega) (by rw [HSL.out]; omega)
      have hst := set_up X S k (by rw [HXL.out]; omega) (by rw [HSL.out]; omega)
      have hgt := mid_get X S k (by rw [HXL.out]; omega)
      have hct := hT.at8 k (by rw [hlen, HSL.out]; omega)
      rw [hgt] at hct
      have hf := hT.frozen k
      have hT2 := hT.set_ k (B8 (X.getD k 0))
      rw [map_set8, hst] at hT2
      have hR2 := hR.far (p := ⟨gs, k, none⟩) (by simp; exact hne.1) (B8 (X.getD k 0))
      have hb2 := hbw.setCell (p := ⟨gs, k, none⟩) (by simp; exact hne.2) (B8 (X.getD k 0))
      have hxx := b_xor (S.getD k 0) (C.getD k 0)
      rw [← HXG.out k hlt] at hxx
      have hk0 : (0 : Int) ≤ (k : Int) := by omega
      have hk1 : (k : Int) < 16 := by omega
      have HT2 := Lib.hid hT2
      have HR2 := Lib.hid hR2
      have HB2 := Lib.hid hb2
      generalize S.getD k 0 = y1 at *
      generalize C.getD k 0 = y2 at *
      generalize X.getD k 0 = y3 at *
      clear hT2 hR2 hb2 hlen hst hgt hT hR hbw
      go_wp2
      go_roundw
      case rel => exact ⟨k + 1, by omega, by go_num, HT2.out, HR2.out, HB2.out⟩
      case measure => simp [intOf]; omega
    · have hd1 : decide ((k : Int) < 16) = false := by simp; omega
      rw [show k = 16 by omega, List.take_of_length_le (by rw [HXL.out]; omega), List.drop_eq_nil_of_le (by rw [HSL.out]; omega), List.append_nil] at hT
      go_wp2_with (first
        | ((with_reducible refine (?_ : wpList _ _ _ (Oper.mk (some 42) _ _ _ _ _ :: _) _ _)); go_loud (refine wpList_load_blk rfl 42 (.tmp 9) rfl (gs) rfl 42 _ _ hT Try.underlying42 rfl (infoBk.trans (by rw [List.length_map, HXL.out])) ?_))
        | ((with_reducible refine (?_ : wpList _ _ _ (Oper.mk none (.store 42 (.tmp 8) _) _ _ _ _ :: _) _ _)); go_loud (refine wpList_store_blk rfl 42 (.tmp 8) (.tmp 42) rfl rfl (go) _ rfl rfl 42 _ hR (infoBk.trans (by rw [List.length_map, HXL.out])) (by rw [List.length_map, List.length_map, HXL.out, HZL.out]) (one8 _) ?_); intro w9 hR9 hg9))
      refine bodyPost_ret (v := .agg _) (results_cell_row rfl _ _ (go) 42 _ (0, 0) _ rfl hR9.raw Try.underlying42 rfl (infoBk.trans (by rw [List.size_toArray, List.length_map, HXL.out]))) rfl ⟨rfl, below_new hbw hg9 hle hbw.size⟩
end Go.Proofs.Ytefbjhdcmgonbaa
