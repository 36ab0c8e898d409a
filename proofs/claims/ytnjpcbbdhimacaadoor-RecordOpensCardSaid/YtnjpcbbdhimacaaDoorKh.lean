/-
 Joined: Gz, Gseal, SameB, Gopen.
-/
import Derived.Test.YtnjpcbbdhimacaaDoorKg
import Derived.BigQuiet
import Derived.Test.YtnjpcbbdhimacaaDoorJd
namespace Go.Proofs.YtnjpcbbdhimacaaDoor
section
open Go.RowKit
theorem pin2 {w : World} {A0 A1 : Option Addr} {c0 c1 n0 n1 : Nat} {b0 b1 : List UInt8} (t : TypeId) (h0 : In w w.heap.size A0 c0 b0) (h1 : In w w.heap.size A1 c1 b1) (e0 : b0.length = n0) (e1 : b1.length = n1) :
  PIn (w.alloc (.cells #[.slice A0 n0 c0, .slice A1 n1 c1] t)) (w.alloc (.cells #[.slice A0 n0 c0, .slice A1 n1 c1] t)).heap.size (some ⟨w.heap.size, 0, none⟩) 2 [b0, b1] := by
 subst e0 e1
 have hC := Blk.new_of w t #[.slice A0 b0.length c0, .slice A1 b1.length c1] _ rfl
 have up : Below w.heap.size w (w.alloc (.cells #[.slice A0 b0.length c0, .slice A1 b1.length c1] t)) := (Below.refl _ _).alloc (Nat.le_refl _) _
 refine ⟨by simp, by omega, fun _ => ⟨w.heap.size, 0, rfl, by simp, fun j hj => ?_⟩⟩
 obtain rfl | rfl : j = 0 ∨ j = 1 := by have : j < 2 := hj; omega
 ·
  exact ⟨A0, c0, hC.cell 0, in_up h0 up⟩
 ·
  exact ⟨A1, c1, hC.cell 1, in_up h1 up⟩
theorem pin3 {w : World} {A0 A1 A2 : Option Addr} {c0 c1 c2 n0 n1 n2 : Nat} {b0 b1 b2 : List UInt8} (t : TypeId) (h0 : In w w.heap.size A0 c0 b0) (h1 : In w w.heap.size A1 c1 b1) (h2 : In w w.heap.size A2 c2 b2) (e0 : b0.length = n0) (e1 : b1.length = n1) (e2 : b2.length = n2) :
  PIn (w.alloc (.cells #[.slice A0 n0 c0, .slice A1 n1 c1, .slice A2 n2 c2] t)) (w.alloc (.cells #[.slice A0 n0 c0, .slice A1 n1 c1, .slice A2 n2 c2] t)).heap.size (some ⟨w.heap.size, 0, none⟩) 3 [b0, b1, b2] := by
 subst e0 e1 e2
 have hC := Blk.new_of w t #[.slice A0 b0.length c0, .slice A1 b1.length c1, .slice A2 b2.length c2] _ rfl
 have up : Below w.heap.size w (w.alloc (.cells #[.slice A0 b0.length c0, .slice A1 b1.length c1, .slice A2 b2.length c2] t)) := (Below.refl _ _).alloc (Nat.le_refl _) _
 refine ⟨by simp, by omega, fun _ => ⟨w.heap.size, 0, rfl, by simp, fun j hj => ?_⟩⟩
 obtain rfl | rfl | rfl : j = 0 ∨ j = 1 ∨ j = 2 := by have : j < 3 := hj; omega
 ·
  exact ⟨A0, c0, hC.cell 0, in_up h0 up⟩
 ·
  exact ⟨A1, c1, hC.cell 1, in_up h1 up⟩
 ·
  exact ⟨A2, c2, hC.cell 2, in_up h2 up⟩
theorem mid_get (X S : List UInt8) (k : Nat) (hX : k ≤ X.length) : (X.take k ++ S.drop k).getD k 0 = S.getD k 0 := by
 have hl : (X.take k).length = k := by rw [List.length_take]; omega
 rw [List.getD_eq_getElem?_getD, List.getElem?_append_right (by omega), hl, Nat.sub_self, List.getElem?_drop, List.getD_eq_getElem?_getD]
 rfl
def sumE (L : List UInt32) (R : Nat) (hid bes : List UInt8) : List UInt8 := gFold (sealS L R zero16) [bes, hid, cntE [bes, hid]]
def tagE (L : List UInt32) (R : Nat) (N hid bes : List UInt8) : List UInt8 := putE (sumE L R hid bes) (sealS L R (ctrE N 1))
theorem sumE_length (L : List UInt32) (R : Nat) (hid bes : List UInt8) : (sumE L R hid bes).length = 16 := gFold_length _ _
theorem tagE_length (L : List UInt32) (R : Nat) (N hid bes : List UInt8) : (tagE L R N hid bes).length = 16 := putE_length (sumE_length _ _ _ _) (sealS_length _ _ _)

set_option maxRecDepth 100000 in
set_option maxHeartbeats 1000000 in
theorem tag_e (gx gk gr R nh nb ch cb : Nat) (Ah Ab : Option Addr) (L : List UInt32) (N hid bes : List UInt8) (w : World) (hx : BoxAt w gx gk gr R L) (hN : N.length = 12)
  (ih : In w w.heap.size Ah ch hid) (ib : In w w.heap.size Ab cb bes) (lh : hid.length = nh) (lb : bes.length = nb) (hh : nh < 549755813888) (hb : nb < 549755813888) :
  Calls Tryd.prog 61 #[.pointer (some ⟨gx, 0, none⟩), BV N, .slice Ah nh ch, .slice Ab nb cb] w fun e w' => e = .returned (BV (tagE L R N hid bes)) ∧ Below w.heap.size w w' := by
 have hse := fun (W : World) (h : BoxAt W gx gk gr R L) => seal_any gk gr R L zero16 W h.key h.lo h.hi rfl
 have hci := fun (W : World) (h : BoxAt W gx gk gr R L) => cipher_e gx gk gr R 1 L N W h hN (by decide)
 have hcl := sealS_length L R (ctrE N 1)
 have hkl := sealS_length L R zero16
 have hxg := fun i (hi : i < 16) => putE_get (sumE_length L R hid bes) hcl i hi
 have hxl := tagE_length L R N hid bes
 have hsl := sumE_length L R hid bes
 obtain ⟨X, hX⟩ : ∃ X, X = tagE L R N hid bes := ⟨_, rfl⟩
 rw [← hX] at hxl ⊢
 rw [show putE (sumE L R hid bes) (sealS L R (ctrE N 1)) = X from hX.symm] at hxg
 obtain ⟨K, hK⟩ : ∃ K, K = sealS L R zero16 := ⟨_, rfl⟩
 have hfo := fun (W : World) (A : Option Addr) (h : PIn W W.heap.size A 3 [bes, hid, cntE [bes, hid]]) => fold_e (sealS L R zero16) A 3 [bes, hid, cntE [bes, hid]] W hkl h
 rw [show gFold (sealS L R zero16) [bes, hid, cntE [bes, hid]] = sumE L R hid bes from rfl] at hfo
 rw [← hK] at hse hkl hfo
 have hco := fun (W : World) (A : Option Addr) (h : PIn W W.heap.size A 2 [bes, hid]) => counts_e A 2 [bes, hid] W h (fun k hk => by
  obtain rfl | rfl : k = 0 ∨ k = 1 := by have : k < 2 := hk; omega
  ·
   show bes.length < _; omega
  ·
   show hid.length < _; omega) (show 2 ≤ 9 by decide)
 have hctl := cntE_length [bes, hid]
 generalize sealS L R (ctrE N 1) = C at *
 generalize sumE L R hid bes = S at *
 generalize cntE [bes, hid] = T at *
 have hz : ∀ W : World, (zeroValue 56).run Tryd.prog W = .ok (BV zero16) W := fun W => by kernel_rfl
 obtain ⟨Z, hZ⟩ : ∃ Z, Z = zero16 := ⟨_, rfl⟩
 have HZL := Lib.hid (show Z.length = 16 by rw [hZ]; rfl)
 rw [← hZ] at hz
 rw [← hZ] at hse
 have HSE := Lib.hid hse
 have HCI := Lib.hid hci
 have HFO := Lib.hid hfo
 have HCO := Lib.hid hco
 have HCL := Lib.hid hcl
 have HKL := Lib.hid hkl
 have HXL := Lib.hid hxl
 have HXG := Lib.hid hxg
 have HSL := Lib.hid hsl
 have HTL := Lib.hid hctl
 have HLH := Lib.hid lh
 have HLB := Lib.hid lb
 have HN := Lib.hid hN
 have HBX := Lib.hid hx
 clear hse hci hfo hco hcl hkl hxl hxg hsl hctl lh lb hN hx hX hK hZ hh hb
 go_enter Tryd.func61, Tryd.ntmps61
 have hA := (Blk.new_of w 48 _ (N.map B8) rfl).alloc (.cells (Z.map B8).toArray 56)
 have hR := Blk.new2_of w (.cells (N.map B8).toArray 48) 56 (Z.map B8).toArray (Z.map B8) rfl
 have hbw := ((Below.refl w.heap.size w).alloc (Nat.le_refl _) (.cells (N.map B8).toArray 48)).alloc (by simp) (.cells (Z.map B8).toArray 56)
 have hk0 : ((w.alloc (.cells (N.map B8).toArray 48)).alloc (.cells (Z.map B8).toArray 56)).cell? ⟨gx, 0, none⟩ = some (.pointer (some ⟨gk, 0, none⟩)) := (HBX.out.below hbw).box.cell 0
 have hzz := HZL.out
 go_wp2_with (first
  | (go_at_call 25; go_loud (refine (HSE.out _ (HBX.out.below hbw)).mono ?_); rintro e w2 ⟨rfl, hb2⟩; have hA2 := hA.below hb2 hA.lt; have hR2 := hR.below hb2 hR.lt; have hbw2 := hbw.trans (hb2.mono hbw.size); have ih2 := in_up ih hbw2; have ib2 := in_up ib hbw2; clear hb2 hA hR hbw hk0)
  | (go_at_call 80; go_loud (refine (HCO.out _ _ (pin2 24 ib2 ih2 HLB.out HLH.out)).mono ?_); rintro e w3 ⟨Ac, nc, cc, rfl, hnc, hIc, hb3⟩; have hal2 := (Below.refl w2.heap.size w2).alloc (Nat.le_refl _) (.cells #[.slice Ab nb cb, .slice Ah nh ch] 24); have hb23 := hal2.trans (hb3.mono hal2.size); have hA3 := hA2.below hb23 hA2.lt; have hR3 := hR2.below hb23 hR2.lt; have hbw3 := hbw2.trans (hb23.mono hbw2.size); have ih3 := in_up ih2 hb23; have ib3 := in_up ib2 hb23; have HNC := Lib.hid (show T.length = nc by rw [HTL.out, hnc]); clear hb3 hb23 hal2 hA2 hR2 hbw2 ih2 ib2 hnc)
  | (go_at_call 26; go_loud (refine (HFO.out _ _ (pin3 24 ib3 ih3 hIc HLB.out HLH.out HNC.out)).mono ?_); rintro e w4 ⟨rfl, hb4⟩; have hal3 := (Below.refl w3.heap.size w3).alloc (Nat.le_refl _) (.cells #[.slice Ab nb cb, .slice Ah nh ch, .slice Ac nc cc] 24); have hb34 := hal3.trans (hb4.mono hal3.size); have hA4 := hA3.below hb34 hA3.lt; have hR4 := hR3.below hb34 hR3.lt; have hbw4 := hbw3.trans (hb34.mono hbw3.size); clear hb4 hb34 hal3 hA3 hR3 hbw3 ih3 ib3 hIc HNC)
  | ((with_reducible refine (?_ : wpList _ _ _ (Oper.mk none (.store 56 (.tmp 9) _) _ _ _ _ :: _) _ _)); go_loud (refine wpList_store_blk rfl 56 (.tmp 9) (.tmp 26) rfl rfl (w4.heap.size) _ rfl rfl 56 _ (Blk.new_of w4 56 _ _ rfl) (infoBk.trans (by rw [List.length_map, HSL.out])) (by rw [List.length_map, List.length_map, HSL.out, HZL.out]) (one8 _) ?_); intro w5 hS5 hg5; have hb5 := below_new ((Below.refl w4.heap.size w4).alloc (Nat.le_refl _) _) hg5 (Nat.le_refl _) (by simp); have hA5 := hA4.below hb5 hA4.lt; have hR5 := hR4.below hb5 hR4.lt; have hbw5 := hbw4.trans (hb5.mono hbw4.size); have hsr := hR4.lt; clear hb5 hg5 hA4 hR4 hbw4)
  | ((with_reducible refine (?_ : wpList _ _ _ (Oper.mk (some 28) _ _ _ _ _ :: _) _ _)); go_loud (refine wpList_load_blk rfl 48 (.tmp 5) rfl (w.heap.size) rfl 48 _ _ hA5 Tryd.underlying48 rfl (info12.trans (by rw [List.length_map, HN.out])) ?_))
  | (go_at_call 79; go_loud (refine (HCI.out _ (HBX.out.below hbw5)).mono ?_); rintro e w6 ⟨rfl, hb6⟩; have hS6 := hS5.below hb6 hS5.lt; have hR6 := hR5.below hb6 hR5.lt; have hbw6 := hbw5.trans (hb6.mono hbw5.size); clear hb6 hA5 hS5 hR5 hbw5)
  | ((with_reducible refine (?_ : wpList _ _ _ (Oper.mk none (.store 56 (.tmp 10) _) _ _ _ _ :: _) _ _)); go_loud (refine wpList_store_blk rfl 56 (.tmp 10) (.tmp 29) rfl rfl (w6.heap.size) _ rfl rfl 56 _ (Blk.new_of w6 56 _ _ rfl) (infoBk.trans (by rw [List.length_map, HCL.out])) (by rw [List.length_map, List.length_map, HCL.out, HZL.out]) (one8 _) ?_); intro w7 hC7 hg7; have hb7 := below_new ((Below.refl w6.heap.size w6).alloc (Nat.le_refl _) _) hg7 (Nat.le_refl _) (by simp); have hS7 := hS6.below hb7 hS6.lt; have hR7 := hR6.below hb7 hR6.lt; have hbw7 := hbw6.trans (hb7.mono hbw6.size); clear hb7 hg7 hS6 hR6 hbw6)
  | ((with_reducible refine (?_ : wpList _ _ _ (Oper.mk (some 30) _ _ _ _ _ :: _) _ _)); go_loud (refine wpList_load_blk rfl 56 (.tmp 10) rfl (w6.heap.size) rfl 56 _ _ hC7 Tryd.underlying56 rfl (infoBk.trans (by rw [List.length_map, HCL.out])) ?_)))
 have hne : w.heap.size + 1 ≠ w4.heap.size ∧ w.heap.size ≤ w4.heap.size := by omega
 have hT0 : Blk w7 w4.heap.size 56 ((X.take 0 ++ S.drop 0).map B8) := hS7
 have hle : w.heap.size ≤ w.heap.size + 1 := by omega
 clear hS7 hC7 hsr hz hzz ih ib
 generalize w4.heap.size = gs at *
 generalize w.heap.size + 1 = go at *
 go_loopw [11, 12, 31] (fun _ _ i wr => ∃ k : Nat, k ≤ 16 ∧ i = .int .i64 (k : Int) ∧ Blk wr gs 56 ((X.take k ++ S.drop k).map B8) ∧ Blk wr go 56 (Z.map B8) ∧ Below w.heap.size w wr) (fun _ _ i _ => 16 - (intOf i).toNat)
 case atStart => exact ⟨0, by omega, rfl, hT0, hR7, hbw7⟩
 case round =>
  clear hT0 hR7 hbw7
  obtain ⟨k, hk, rfl, hT, hR, hbw⟩ := hrel
  by_cases hlt : k < 16
  ·
   have hd1 : decide ((k : Int) < 16) = true := by simp; omega
   have hix := fun (W : World) => index_bytes 16 56 C HCL.out Tryd.underlying56 k hlt W
   have hlen := mid_len X S k (by rw [HXL.out]; omega) (by rw [HSL.out]; omega)
   have hst := set_up X S k (by rw [HXL.out]; omega) (by rw [HSL.out]; omega)
   have hgt := mid_get X S k (by rw [HXL.out]; omega)
   have hct := hT.at8 k (by rw [hlen, HSL.out]; omega)
   rw [hgt] at hct
   have hf := hT.frozen k
   have hT2 := hT.set_ k (B8 (X.getD k 0))
   rw [map_set8, hst] at hT2
   have hR2 := hR.far (p := ⟨gs, k, none⟩) (by simp; exact hne.1) (B8 (X.getD k 0))
   have hb2 := hbw.setCell (p := ⟨gs, k, none⟩) (by simp; exact hne.2) (B8 (X.getD k 0))
   have hxx := b_xor (S.getD k 0) (C.getD k 0)
   rw [← HXG.out k hlt] at hxx
   have hk0 : (0 : Int) ≤ (k : Int) := by omega
   have hk1 : (k : Int) < 16 := by omega
   have HT2 := Lib.hid hT2
   have HR2 := Lib.hid hR2
   have HB2 := Lib.hid hb2
   generalize S.getD k 0 = y1 at *
   generalize C.getD k 0 = y2 at *
   generalize X.getD k 0 = y3 at *
   clear hT2 hR2 hb2 hlen hst hgt hT hR hbw
   go_wp2
   go_roundw
   case rel => exact ⟨k + 1, by omega, by go_num, HT2.out, HR2.out, HB2.out⟩
   case measure => simp [intOf]; omega
  ·
   have hd1 : decide ((k : Int) < 16) = false := by simp; omega
   rw [show k = 16 by omega, List.take_of_length_le (by rw [HXL.out]; omega), List.drop_eq_nil_of_le (by rw [HSL.out]; omega), List.append_nil] at hT
   go_wp2_with (first
    | ((with_reducible refine (?_ : wpList _ _ _ (Oper.mk (some 42) _ _ _ _ _ :: _) _ _)); go_loud (refine wpList_load_blk rfl 56 (.tmp 9) rfl (gs) rfl 56 _ _ hT Tryd.underlying56 rfl (infoBk.trans (by rw [List.length_map, HXL.out])) ?_))
    | ((with_reducible refine (?_ : wpList _ _ _ (Oper.mk none (.store 56 (.tmp 8) _) _ _ _ _ :: _) _ _)); go_loud (refine wpList_store_blk rfl 56 (.tmp 8) (.tmp 42) rfl rfl (go) _ rfl rfl 56 _ hR (infoBk.trans (by rw [List.length_map, HXL.out])) (by rw [List.length_map, List.length_map, HXL.out, HZL.out]) (one8 _) ?_); intro w9 hR9 hg9))
   refine bodyPost_ret (v := .agg _) (results_cell_row rfl _ _ (go) 56 _ (0, 0) _ rfl hR9.raw Tryd.underlying56 rfl (infoBk.trans (by rw [List.size_toArray, List.length_map, HXL.out]))) rfl ⟨rfl, below_new hbw hg9 hle hbw.size⟩

end
section
open Go.RowKit
theorem in_prefix {w : World} {g n c : Nat} {t : TypeId} {M R : List UInt8} (h : Blk w g t ((M ++ R).map B8)) (hn : n ≤ c) (hl : M.length = n) (hc : c ≤ 9223372036854775807) : In w w.heap.size (some ⟨g, 0, none⟩) c M :=
 ⟨by omega, hc, fun _ => ⟨g, 0, rfl, h.lt, fun j hj => by
  rw [Nat.zero_add, h.at8 j (by rw [List.length_append]; omega), List.getD_eq_getElem?_getD, List.getElem?_append_left hj, ← List.getD_eq_getElem?_getD]⟩⟩
theorem buf_prefix {w : World} {base g n c : Nat} {t : TypeId} {M R : List UInt8} (h : Blk w g t ((M ++ R).map B8)) (hb : base ≤ g) (hl : M.length = n) (hc : (M ++ R).length = c) (hm : c ≤ 1099511627776) : Buf w base (some ⟨g, 0, none⟩) n c M := by
 refine ⟨hl, .inr ⟨g, rfl, hb, h.lt, by rw [← hc, List.length_append]; omega, by unfold maxLen; omega, fun j hj => ?_, fun j hj => ⟨?_, h.frozen j⟩⟩⟩
 ·
  rw [Nat.zero_add, h.at8 j (by rw [List.length_append]; omega), List.getD_eq_getElem?_getD, List.getElem?_append_left hj, ← List.getD_eq_getElem?_getD]
 ·
  rw [h.at8 j (by omega)]; rfl
theorem src_16 {w : World} {A : Option Addr} {g : Nat} {s : List UInt8} (h : Src w g A s) (hs : s.length = 16) : _root_.Go.Src Tryd.prog 1 24 (.slice A 16 16) s.length (s.map B8) w := by
 have := src_in' (c := 16) h
 rw [hs] at this ⊢
 exact this
theorem ink {w : World} {B c : Nat} {A : Option Addr} {xs : List UInt8} (h : In w B A c xs) : InK w B A c xs := h
/-- What is sealed: hidden bytes, and their tag. -/
def boxE (L : List UInt32) (R : Nat) (N P bes : List UInt8) : List UInt8 := maskE L R N P ++ tagE L R N (maskE L R N P) bes
theorem boxE_length (L : List UInt32) (R : Nat) (N P bes : List UInt8) : (boxE L R N P bes).length = P.length + 16 := by
 unfold boxE; rw [List.length_append, maskE_length, tagE_length]

set_option maxRecDepth 100000 in
set_option maxHeartbeats 1000000 in
theorem seal_e (gx gk gr R n nb cp cb : Nat) (Ap Ab : Option Addr) (L : List UInt32) (N P bes : List UInt8) (w : World) (hx : BoxAt w gx gk gr R L) (hN : N.length = 12)
  (ip : In w w.heap.size Ap cp P) (ib : In w w.heap.size Ab cb bes) (lp : P.length = n) (lb : bes.length = nb) (hn : n < 1000000) (hb : nb < 549755813888) :
  Calls Tryd.prog 27 #[.pointer (some ⟨gx, 0, none⟩), BV N, .slice Ap n cp, .slice Ab nb cb] w fun e w' => ∃ A' n' c', e = .returned (.slice A' n' c') ∧ n' = n + 16 ∧ Buf w' w.heap.size A' n' c' (boxE L R N P bes) ∧ Below w.heap.size w w' := by
 obtain ⟨nc, hnc⟩ : ∃ nc, nc = n + 16 := ⟨_, rfl⟩
 have hmk := fun (W : World) => run_make_bytes .i64 .i64 n nc (by omega) (by omega) W
 have hql : (List.replicate nc (0 : UInt8)).length = nc := List.length_replicate
 obtain ⟨Q, hQ⟩ : ∃ Q, Q = List.replicate nc (0 : UInt8) := ⟨_, rfl⟩
 rw [← hQ] at hql
 simp only [← hQ] at hmk
 have hni : (n : Int) + 16 = (nc : Int) := by omega
 have hbw : ∀ Y : Obj, Below w.heap.size w ((w.alloc (.cells (N.map B8).toArray 48)).alloc Y) := fun Y => ((Below.refl w.heap.size w).alloc (Nat.le_refl _) _).alloc (by simp) _
 have l1 := hx.box.lt
 have l2 := hx.key.key.lt
 have l3 := hx.key.rounds.lt
 have hma := mask_e gx gk gr R (w.heap.size + 1) nc n w.heap.size cp Ap L N P Q ((w.alloc (.cells (N.map B8).toArray 48)).alloc (.cells (Q.map B8).toArray 5)) (hx.below (hbw _)) (by omega) (by omega) (by omega) hN lp (ip.below (hbw _)) (by omega) (by simp; omega) (Blk.new2_of w (.cells (N.map B8).toArray 48) 5 _ (Q.map B8) rfl) (by omega) (by omega) (by omega)
 have hta := fun (W : World) (h : BoxAt W gx gk gr R L) (A : Option Addr) (c : Nat) (i : In W W.heap.size A c (maskE L R N P)) (i2 : In W W.heap.size Ab cb bes) => tag_e gx gk gr R n nb c cb A Ab L N (maskE L R N P) bes W h hN i i2 (by rw [maskE_length, lp]) lb (by omega) hb
 have hml : (maskE L R N P).length = n := by rw [maskE_length, lp]
 have htl := tagE_length L R N (maskE L R N P) bes
 have hxe : boxE L R N P bes = maskE L R N P ++ tagE L R N (maskE L R N P) bes := rfl
 generalize boxE L R N P bes = X at *
 generalize tagE L R N (maskE L R N P) bes = T at *
 generalize maskE L R N P = M at *
 have hz : ∀ W : World, (zeroValue 56).run Tryd.prog W = .ok (BV zero16) W := fun W => by kernel_rfl
 obtain ⟨Z, hZ⟩ : ∃ Z, Z = zero16 := ⟨_, rfl⟩
 have HZL := Lib.hid (show Z.length = 16 by rw [hZ]; rfl)
 rw [← hZ] at hz
 have HMA := Lib.hid hma
 have HTA := Lib.hid hta
 have HML := Lib.hid hml
 have HTL := Lib.hid htl
 have HXE := Lib.hid hxe
 have HBX := Lib.hid hx
 have HN := Lib.hid hN
 have HNC := Lib.hid hnc
 have HQL := Lib.hid hql
 have HB := Lib.hid hbw
 have HIB := Lib.hid ib
 have HE : Hid (∀ W, BoxAt W gx gk gr R L → Calls Tryd.prog 59 #[.pointer (some ⟨gx, 0, none⟩)] W fun e w' => e = .returned (.bool false) ∧ w' = W) := (fun W h => bempty_no h)
 clear hma hta hml htl hxe hx hN hnc hql hbw l1 l2 l3 lp lb hQ hb ip ib hZ
 go_enter Tryd.func27, Tryd.ntmps27
 have hA := Blk.new_of w 48 _ (N.map B8) rfl
 have hA1 := hA.alloc (.cells (Q.map B8).toArray 5)
 go_upto_region 6 with (first
  | (go_at_call 59; go_loud (refine (HE.out _ (HBX.out.below ((Below.refl w.heap.size w).alloc (Nat.le_refl _) _))).mono ?_); rintro e w' ⟨rfl, rfl⟩)
  | ((with_reducible refine (?_ : wpList _ _ _ (Oper.mk (some 22) _ _ _ _ _ :: _) _ _)); go_loud (refine wpList_load_blk rfl 48 (.tmp 5) rfl (w.heap.size) rfl 48 _ _ hA1 Tryd.underlying48 rfl (info12.trans (by rw [List.length_map, HN.out])) ?_))
  | (go_at_call 60; go_loud (refine HMA.out.mono ?_); rintro e w2 ⟨rfl, hT2, hg2⟩; have hA2 := hA1.grown hg2 (by simp); have hbw2 := below_new (HB.out _) hg2 (Nat.le_succ _) (by simp; omega); clear hA hA1 hg2)
  | ((with_reducible refine (?_ : wpList _ _ _ (Oper.mk (some 25) _ _ _ _ _ :: _) _ _)); go_loud (refine wpList_load_blk rfl 48 (.tmp 5) rfl (w.heap.size) rfl 48 _ _ hA2 Tryd.underlying48 rfl (info12.trans (by rw [List.length_map, HN.out])) ?_))
  | (go_at_call 61; go_loud (refine (HTA.out _ (HBX.out.below hbw2) _ _ (in_prefix hT2 (by have := HNC.out; omega) HML.out (by have := HNC.out; omega)) (in_up HIB.out hbw2)).mono ?_); rintro e w3 ⟨rfl, hb3⟩; have hT3 := hT2.below hb3 hT2.lt; have hbw3 := hbw2.trans (hb3.mono hbw2.size); clear hb3 hA2 hT2 hbw2)
  | ((with_reducible refine (?_ : wpList _ _ _ (Oper.mk none (.store 56 (.tmp 10) _) _ _ _ _ :: _) _ _)); go_loud (refine wpList_store_blk rfl 56 (.tmp 10) (.tmp 28) rfl rfl (w3.heap.size) _ rfl rfl 56 _ (Blk.new_of w3 56 _ _ rfl) (infoBk.trans (by rw [List.length_map, HTL.out])) (by rw [List.length_map, List.length_map, HTL.out, HZL.out]) (one8 _) ?_); intro w4 hS4 hg4))
 have hb4 := below_new ((Below.refl w3.heap.size w3).alloc (Nat.le_refl _) _) hg4 (Nat.le_refl _) (by simp)
 have hT4 := hT3.below hb4 hT3.lt
 have hbw4 := hbw3.trans (hb4.mono hbw3.size)
 have hB4 := buf_prefix (c := nc) hT4 (Nat.le_succ w.heap.size) HML.out (by rw [List.length_append, List.length_drop, HML.out, HQL.out]; have := HNC.out; omega) (by have := HNC.out; omega)
 clear hb4 hg4 hT3 hT4 hbw3
 go_wp2_with (first
  | ((with_reducible refine (?_ : wpList _ _ _ (Oper.mk (some 31) _ _ _ _ _ :: _) _ _)); go_loud (refine wpList_append_far rfl (.tmp 29) (.tmp 30) 24 rfl w.heap.size _ n nc M T _ rfl hB4 rfl (src_16 ((in_of_blk hS4 HTL.out (by decide) (Below.refl _ _)).src (Nat.le_refl _)) HTL.out) (by rw [HTL.out]; omega) hbw4.size nc (by rw [HTL.out]; exact HNC.out) ?_); intro A5 c5 w5 hB5 hg5 _; have hbw5 := below_own hbw4 hB4 hg5 (Nat.le_refl _) hbw4.size))
 go_ret
 exact ⟨A5, nc, c5, rfl, HNC.out, by rw [HXE.out]; exact hB5, hbw5⟩

set_option maxRecDepth 100000 in
set_option maxHeartbeats 1000000 in
theorem seal_none (N : List UInt8) (p q : Value) (w : World) : Calls Tryd.prog 27 #[.pointer none, BV N, p, q] w fun e w' => e = .returned (.slice none 0 0) ∧ Below w.heap.size w w' := by
 go_enter Tryd.func27, Tryd.ntmps27
 go_wp2_with (go_at_call 59; refine (bempty_nil _).mono ?_; rintro e w' ⟨rfl, rfl⟩)
 go_ret
 exact ⟨rfl, (Below.refl _ _).alloc (Nat.le_refl _) _⟩

def zero12 : List UInt8 := [0, 0, 0, 0, 0, 0, 0, 0, 0, 0, 0, 0]
theorem box_known : ((boxE (keyL 4 zero16) 11 zero12 [] []).getD 0 0, (boxE (keyL 4 zero16) 11 zero12 [] []).getD 15 0) = (0x58, 0x5A) := by decide +kernel

end
section
open Go.RowKit
end
section
open Go.RowKit
theorem int_toNat (n : Nat) : ((n : Int)).toNat = n := Int.toNat_natCast n

set_option maxRecDepth 100000 in
set_option maxHeartbeats 1000000 in
theorem open_none (N : List UInt8) (p q : Value) (w : World) : Calls Tryd.prog 35 #[.pointer none, BV N, p, q] w fun e w' => e = .returned (.tuple #[.slice none 0 0, .int .i64 1]) ∧ Below w.heap.size w w' := by
 go_enter Tryd.func35, Tryd.ntmps35
 go_wp2_with (go_at_call 59; refine (bempty_nil _).mono ?_; rintro e w' ⟨rfl, rfl⟩)
 go_ret2
 exact ⟨rfl, (Below.refl _ _).alloc (Nat.le_refl _) _⟩

set_option maxRecDepth 100000 in
set_option maxHeartbeats 1000000 in
theorem open_few (gx gk gr R n cs : Nat) (L : List UInt32) (As : Option Addr) (N : List UInt8) (q : Value) (w : World) (hx : BoxAt w gx gk gr R L) (hn : n < 16) :
  Calls Tryd.prog 35 #[.pointer (some ⟨gx, 0, none⟩), BV N, .slice As n cs, q] w fun e w' => e = .returned (.tuple #[.slice none 0 0, .int .i64 5]) ∧ Below w.heap.size w w' := by
 have HE : Hid (∀ W, BoxAt W gx gk gr R L → Calls Tryd.prog 59 #[.pointer (some ⟨gx, 0, none⟩)] W fun e w' => e = .returned (.bool false) ∧ w' = W) := (fun W h => bempty_no h)
 go_enter Tryd.func35, Tryd.ntmps35
 go_wp2_with (go_at_call 59; go_loud (refine (HE.out _ (hx.below ((Below.refl w.heap.size w).alloc (Nat.le_refl _) _))).mono ?_); rintro e w' ⟨rfl, rfl⟩)
 go_ret2
 exact ⟨rfl, (Below.refl _ _).alloc (Nat.le_refl _) _⟩

set_option maxRecDepth 100000 in
set_option maxHeartbeats 1000000 in
theorem open_e (gx gk gr R n m nb cs cb : Nat) (As Ab : Option Addr) (L : List UInt32) (N C T bes : List UInt8) (w : World) (hx : BoxAt w gx gk gr R L) (hN : N.length = 12)
  (is : In w w.heap.size As cs (C ++ T)) (ib : In w w.heap.size Ab cb bes) (lc : C.length = m) (lt : T.length = 16) (hn : n = m + 16) (lb : bes.length = nb) (hm : m < 1000000) (hb : nb < 549755813888) :
  Calls Tryd.prog 35 #[.pointer (some ⟨gx, 0, none⟩), BV N, .slice As n cs, .slice Ab nb cb] w fun e w' => Below w.heap.size w w' ∧
   ((tagE L R N C bes = T ∧ ∃ A' c', e = .returned (.tuple #[.slice A' m c', .int .i64 0]) ∧ Buf w' w.heap.size A' m c' (maskE L R N C)) ∨ (¬ tagE L R N C bes = T ∧ e = .returned (.tuple #[.slice none 0 0, .int .i64 5]))) := by
 obtain ⟨gs, os, rfl, _, _⟩ := is.2.2 (by rw [List.length_append]; omega)
 have iC : In w w.heap.size (some ⟨gs, os, none⟩) cs C := by
  have := is.take m
  rwa [List.take_append_of_le_length (by omega), List.take_of_length_le (by omega)] at this
 have iT : In w w.heap.size (some ⟨gs, os + m, none⟩) (cs - m) T := by
  have := in_drop is m (by rw [List.length_append]; omega)
  rwa [if_neg (by have := is.1; rw [List.length_append] at this; omega), List.drop_append_of_le_length (by omega), List.drop_of_length_le (by omega), List.nil_append] at this
 have hcs : n ≤ cs := by have := is.1; rw [List.length_append] at this; omega
 have hmk := fun (W : World) => run_make_bytes .i64 .i64 m m (Nat.le_refl _) (by omega) W
 have hql : (List.replicate m (0 : UInt8)).length = m := List.length_replicate
 obtain ⟨Q, hQ⟩ : ∃ Q, Q = List.replicate m (0 : UInt8) := ⟨_, rfl⟩
 rw [← hQ] at hql
 simp only [← hQ] at hmk
 have hma := fun (gt : Nat) (W : World) (h : BoxAt W gx gk gr R L) (n1 : gx ≠ gt) (n2 : gk ≠ gt) (n3 : gr ≠ gt) (B : Nat) (i : In W B (some ⟨gs, os, none⟩) cs C) (h1 : B ≤ gt) (h2 : B ≤ W.heap.size) (hT : Blk W gt 5 (Q.map B8)) => mask_e gx gk gr R gt m m B cs (some ⟨gs, os, none⟩) L N C Q W h n1 n2 n3 hN lc i h1 h2 hT (by omega) (by omega) (by omega)
 have hta := fun (W : World) (h : BoxAt W gx gk gr R L) (i : In W W.heap.size (some ⟨gs, os, none⟩) cs C) (i2 : In W W.heap.size Ab cb bes) => tag_e gx gk gr R m nb cs cb (some ⟨gs, os, none⟩) Ab L N C bes W h hN i i2 lc lb (by omega) hb
 have hml : (maskE L R N C).length = m := by rw [maskE_length, lc]
 have htl := tagE_length L R N C bes
 rw [show Q.drop m = [] from List.drop_of_length_le (by omega)] at hma
 simp only [List.append_nil] at hma
 generalize tagE L R N C bes = U at *
 generalize maskE L R N C = M at *
 have hsm := fun (W : World) (A : Option Addr) (c : Nat) (i : In W W.heap.size A c U) (i2 : In W W.heap.size (some ⟨gs, os + m, none⟩) (cs - m) T) => same_any A (some ⟨gs, os + m, none⟩) c (cs - m) W.heap.size U T W i i2
 rw [htl, lt] at hsm
 have hz : ∀ W : World, (zeroValue 56).run Tryd.prog W = .ok (BV zero16) W := fun W => by kernel_rfl
 obtain ⟨Z, hZ⟩ : ∃ Z, Z = zero16 := ⟨_, rfl⟩
 have HZL := Lib.hid (show Z.length = 16 by rw [hZ]; rfl)
 rw [← hZ] at hz
 have HMA := Lib.hid hma
 have HTA := Lib.hid hta
 have HSM := Lib.hid hsm
 have HML := Lib.hid hml
 have HTL := Lib.hid htl
 have HBX := Lib.hid hx
 have HN := Lib.hid hN
 have HQL := Lib.hid hql
 have HIB := Lib.hid ib
 have HIC := Lib.hid iC
 have HIT := Lib.hid iT
 have HLT := Lib.hid lt
 have HMK := Lib.hid hmk
 have HM := Lib.hid hm
 have HE : Hid (∀ W, BoxAt W gx gk gr R L → Calls Tryd.prog 59 #[.pointer (some ⟨gx, 0, none⟩)] W fun e w' => e = .returned (.bool false) ∧ w' = W) := (fun W h => bempty_no h)
 have q1 := Lib.hid (show wrap64 ((n : Int) - 16) = (m : Int) by unfold wrap64; omega)
 have q3 := Lib.hid (show (m : Int) ≤ (cs : Int) by omega)
 have Q9 := Lib.hid (And.intro hcs hn)
 clear hma hta hsm hml htl hx hN hql ib iC iT lt hmk is hn hcs lc lb hQ hb hZ hm
 go_enter Tryd.func35, Tryd.ntmps35
 have hA := Blk.new_of w 48 _ (N.map B8) rfl
 have hbw : Below w.heap.size w (w.alloc (.cells (N.map B8).toArray 48)) := (Below.refl _ _).alloc (Nat.le_refl _) _
 go_upto_region 4 with (go_at_call 59; go_loud (refine (HE.out _ (HBX.out.below hbw)).mono ?_); rintro e w' ⟨rfl, rfl⟩)
 rw [q1.out]
 have q2 : (0 : Int) ≤ (m : Int) := by omega
 have q4 := q3.out
 go_upto_region 8 with (first
  | ((with_reducible refine (?_ : wpList _ _ _ (Oper.mk (some 25) _ _ _ _ _ :: _) _ _)); go_loud (refine wpList_load_blk rfl 48 (.tmp 5) rfl (w.heap.size) rfl 48 _ _ hA Tryd.underlying48 rfl (info12.trans (by rw [List.length_map, HN.out])) ?_))
  | (go_at_call 61; go_loud (refine (HTA.out _ (HBX.out.below hbw) (in_up HIC.out hbw) (in_up HIB.out hbw)).mono ?_); rintro e w3 ⟨rfl, hb3⟩; replace hA := hA.below hb3 hA.lt; replace hbw := hbw.trans (hb3.mono hbw.size); clear hb3)
  | ((with_reducible refine (?_ : wpList _ _ _ (Oper.mk none (.store 56 (.tmp 12) _) _ _ _ _ :: _) _ _)); go_loud (refine wpList_store_blk rfl 56 (.tmp 12) (.tmp 28) rfl rfl (w3.heap.size) _ rfl rfl 56 _ (Blk.new_of w3 56 _ _ rfl) (infoBk.trans (by rw [List.length_map, HTL.out])) (by rw [List.length_map, List.length_map, HTL.out, HZL.out]) (one8 _) ?_); intro w4 hS4 hg4))
 have hb4 := below_new ((Below.refl w3.heap.size w3).alloc (Nat.le_refl _) _) hg4 (Nat.le_refl _) (by simp)
 replace hA := hA.below hb4 hA.lt
 replace hbw := hbw.trans (hb4.mono hbw.size)
 clear hb4 hg4
 generalize w3.heap.size = g3 at *
 have HA := Lib.hid hA
 have HB := Lib.hid hbw
 have HS := Lib.hid (in_of_blk hS4 HTL.out (by decide) (Below.refl _ _))
 clear hA hbw hS4 q2 q4
 have f0 : (0 : Int) ≤ (m : Int) := by omega
 have f1 : ¬ cs = m := by have := Q9.out; omega
 have f2 : n - m = 16 := by have := Q9.out; omega
 have f3 : (m : Int) ≤ (n : Int) := by have := Q9.out; omega
 have f4 : n ≤ cs := Q9.out.1
 have f5 : (n : Int) ≤ (cs : Int) := by omega
 apply wp_region_once (D := [[], [], [], [1, 2], [0, 1, 2, 3], [0, 1, 2, 3, 4]]) (J := [[], [], [], [1, 2], [0, 3], [4]]) (Je := [5]) (Rs := [Is _, Is _, Is _, Is _, Is _, Is _])
 ·
  kernel_rfl
 ·
  kernel_rfl
 ·
  kernel_rfl
 ·
  kernel_rfl
 ·
  kernel_rfl
 ·
  kernel_rfl
 ·
  intro u
  simp only [List.map_cons, List.map_nil, fillU, List.setIfInBounds_toArray, List.set_cons_zero, List.set_cons_succ, Nat.zero_add, Nat.reduceAdd]
  exact rfl
 ·
  skip
  refine ⟨fun u W hb hd K hK => ?_, ?_⟩
  ·
   clear hd
   go_simp
   apply hK
   ·
    simp only [Act.put, List.setIfInBounds_toArray, List.set_cons_zero, List.set_cons_succ]
    exact rfl
   ·
    exact Below.refl _ _
   ·
    exact IsOut
  refine ⟨fun u W hb hd K hK => ?_, ?_⟩
  ·
   clear hd
   go_simp
   apply hK
   ·
    simp only [Act.put, List.setIfInBounds_toArray, List.set_cons_zero, List.set_cons_succ]
    exact rfl
   ·
    exact Below.refl _ _
   ·
    exact IsOut
  refine ⟨fun u W hb hd K hK => ?_, ?_⟩
  ·
   clear hd
   go_simp
   apply hK
   ·
    simp only [Act.put, List.setIfInBounds_toArray, List.set_cons_zero, List.set_cons_succ]
    exact rfl
   ·
    exact Below.refl _ _
   ·
    exact IsOut
  refine ⟨fun u W hb hd K hK => ?_, ?_⟩
  ·
   simp only [Facts, nthR, Is, and_true] at hd
   simp only [hd] at hK ⊢
   clear hd
   go_simp
   apply hK
   ·
    simp only [Act.put, List.setIfInBounds_toArray, List.set_cons_zero, List.set_cons_succ]
    exact rfl
   ·
    exact Below.refl _ _
   ·
    exact IsOut
  refine ⟨fun u W hb hd K hK => ?_, ?_⟩
  ·
   simp only [Facts, nthR, Is, and_true] at hd
   simp only [hd] at hK ⊢
   clear hd
   go_simp
   refine (HSM.out W _ _ (in_up HS.out hb) (in_up HIT.out (HB.out.trans (hb.mono HB.out.size)))).mono ?_
   rintro e wy ⟨rfl, kk, rfl⟩
   exact hK _ _ _ rfl (below_drewN (Below.refl _ _) _) IsOut
  refine ⟨fun u W hb hd K hK => ?_, ?_⟩
  ·
   simp only [Facts, nthR, Is, and_true] at hd
   simp only [hd] at hK ⊢
   clear hd
   go_simp
   apply hK
   ·
    simp only [Act.put, List.setIfInBounds_toArray, List.set_cons_zero, List.set_cons_succ]
    exact rfl
   ·
    exact Below.refl _ _
   ·
    exact IsOut
  exact trivial
 ·
  exact (.is (.is (.is (.is (.is (.is .nil))))))
 ·
  intro u W hb hd
  simp only [Facts, nthR, Is, and_true] at hd
  simp only [hd]
  clear f0 f1 f2 f3 f4 f5
  have hbw := HB.out.trans (hb.mono HB.out.size)
  have hA := HA.out.below hb HA.out.lt
  clear hb
  by_cases hUT : U = T
  ·
   have hd : decide (U = T) = true := decide_eq_true hUT
   rw [hd]
   have HUT := Lib.hid hUT
   clear hd hUT
   have l1 := HBX.out.box.lt
   have l2 := HBX.out.key.key.lt
   have l3 := HBX.out.key.rounds.lt
   have hz1 := hbw.size
   have hbz := hbw.trans (((Below.refl W.heap.size W).alloc (Nat.le_refl _) (.cells (Q.map B8).toArray 5)).mono hbw.size)
   have hA1 := hA.alloc (.cells (Q.map B8).toArray 5)
   have hmq := HMA.out W.heap.size (W.alloc (.cells (Q.map B8).toArray 5)) (HBX.out.below hbz) (by omega) (by omega) (by omega) w.heap.size (HIC.out.below hbz) hz1 (by simp; omega) (Blk.new_of W 5 _ (Q.map B8) rfl)
   have HMQ := Lib.hid hmq
   have HBZ := Lib.hid hbz
   have hmk := HMK.out
   clear l1 l2 l3 hmq hbz
   go_wp2_with (first
    | ((with_reducible refine (?_ : wpList _ _ _ (Oper.mk (some 40) _ _ _ _ _ :: _) _ _)); go_loud (refine wpList_load_blk rfl 48 (.tmp 5) rfl (w.heap.size) rfl 48 _ _ hA1 Tryd.underlying48 rfl (info12.trans (by rw [List.length_map, HN.out])) ?_))
    | (go_at_call 60; go_loud (refine HMQ.out.mono ?_); rintro e w5 ⟨rfl, hT5, hg5⟩))
   have hb5 := below_new HBZ.out hg5 (by omega) (by simp; omega)
   go_ret2
   exact ⟨hb5, .inl ⟨HUT.out, _, _, rfl, buf_prefix (R := []) (by rw [List.append_nil]; exact hT5) (by omega) HML.out (by rw [List.append_nil, HML.out]) (by have := HM.out; omega)⟩⟩
  ·
   have hd : decide (U = T) = false := decide_eq_false hUT
   rw [hd]
   have HUT := Lib.hid hUT
   clear hd hUT
   go_wp2
   go_ret2
   exact ⟨hbw, .inr ⟨HUT.out, rfl⟩⟩

end
end Go.Proofs.YtnjpcbbdhimacaaDoor
