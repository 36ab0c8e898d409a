/-
  The contracts of package wrap's whole and Wrap.
-/
import Derived.Test.YtbomckbekcaemaaDoorVb
namespace Go.Proofs.YtbomckbekcaemaaDoor
open Go.RowKit

set_option maxRecDepth 100000 in
set_option maxHeartbeats 1000000 in
theorem whole_e (k s0 s1 : UInt8) (Q key sec : List UInt8) (A As : Option Addr) (c cs n ls N : Nat) (w : World) (hQ : Q.length = 16) (hn : key.length = n) (hls : sec.length = ls) (i0 : In w w.heap.size A c key) (is : In w w.heap.size As cs sec) (ht : TabsQ w)
    (h1 : n ≤ 200) (h2 : ls ≤ 1000000) (hN : N = 16 * ((n + 16) / 16)) :
    Calls Tryd.prog 58 #[.int .u8 (k.toNat : Int), .slice A n c, .agg #[.int .u8 (s0.toNat : Int), .int .u8 (s1.toNat : Int)], .agg (Q.map B8).toArray, .slice As ls cs] w fun e w' => ∃ A' c', e = .returned (.slice A' (8 + N) c') ∧ Buf w' w.heap.size A' (8 + N) c' (wrapB k s0 s1 key Q sec) ∧ Below w.heap.size w w' := by
  obtain ⟨z, hz⟩ : ∃ z, z = UInt8.ofNat n := ⟨_, rfl⟩
  obtain ⟨y, hy⟩ : ∃ y, y = UInt8.ofNat (4 + N) := ⟨_, rfl⟩
  have hzn : IntKind.u8.wrap (n : Int) = (z.toNat : Int) := by rw [hz, ofNat_toNat _ (by omega), IntKind.wrap_u8]; omega
  have hyn : IntKind.u8.wrap (4 + (N : Int)) = (y.toNat : Int) := by rw [hy, ofNat_toNat _ (by omega), IntKind.wrap_u8]; omega
  have hyw : wrap64 (4 + (N : Int)) = 4 + (N : Int) := by unfold wrap64; omega
  have hhl := hideE_length sec (Q ++ [s0, s1]) (z :: key)
  have HWB := Lib.hid (show wrapB k s0 s1 key Q sec = [0, 0, 1, 55, k, y, s0, s1] ++ hideE sec (Q ++ [s0, s1]) (z :: key) by
    unfold wrapB; rw [hn, ← hz, hhl, hy, List.length_cons, hn, show n + 1 + 15 = n + 16 from rfl, ← hN])
  have HHL := Lib.hid (show (hideE sec (Q ++ [s0, s1]) (z :: key)).length = N by rw [hhl, List.length_cons, hn, hN])
  have HHE := Lib.hid (fun (W : World) (As2 Ab A2 : Option Addr) (cs2 cb c2 : Nat) (is2 : In W W.heap.size As2 cs2 sec) (ib2 : In W W.heap.size Ab cb (Q ++ [s0, s1])) (i2 : In W W.heap.size A2 c2 (z :: key)) (ht2 : TabsQ W) =>
    hide_e As2 Ab A2 cs2 cb c2 ls 18 (1 + n) N sec (Q ++ [s0, s1]) (z :: key) W is2 ib2 i2 ht2 hls (by rw [List.length_append, hQ]; rfl) (by rw [List.length_cons, hn]; omega) h2 (by omega) (by omega) (by rw [hN, show 1 + n + 15 = n + 16 by omega]))
  have HBG := Lib.hid (fun (W : World) => begin_e Q s0 s1 W hQ)
  generalize hideE sec (Q ++ [s0, s1]) (z :: key) = hd at *
  have hm1 : n ≤ 200 := h1
  have hm2 : N ≤ 300 := by omega
  have HN := Lib.hid hn
  have HQ := Lib.hid hQ
  have HI0 := Lib.hid i0
  have HIS := Lib.hid is
  have HT := Lib.hid ht
  have HLS := Lib.hid hls
  clear hz hy hhl hn hQ hls i0 is ht hN h1 h2
  go_enter Tryd.func58, Tryd.ntmps58
  go_upto_region 1 with (fail)
  have hS := (Blk.new_of w 71 #[.int .u8 (s0.toNat : Int), .int .u8 (s1.toNat : Int)] ([s0, s1].map B8) rfl).alloc (.cells (Q.map B8).toArray 22)
  have hQb := Blk.new2_of w (.cells #[.int .u8 (s0.toNat : Int), .int .u8 (s1.toNat : Int)] 71) 22 _ (Q.map B8) rfl
  have hb0 : Below w.heap.size w (w.alloc (.cells #[.int .u8 (s0.toNat : Int), .int .u8 (s1.toNat : Int)] 71)) := (Below.refl _ _).alloc (Nat.le_refl _) _
  have hbw := hb0.alloc hb0.size (.cells (Q.map B8).toArray 22)
  have hgs := hS.lt
  have hgq := hQb.lt
  obtain ⟨gs, hgs'⟩ : ∃ gs, gs = w.heap.size := ⟨_, rfl⟩
  obtain ⟨gq, hgq'⟩ : ∃ gq, gq = w.heap.size + 1 := ⟨_, rfl⟩
  rw [← hgq'] at hQb hgq ⊢
  have HW := Lib.hid (show w.heap.size ≤ gs from Nat.le_of_eq hgs'.symm)
  rw [← hgs'] at hS hgs
  replace hS : Blk ((w.alloc (.cells #[.int .u8 (s0.toNat : Int), .int .u8 (s1.toNat : Int)] 71)).alloc (.cells (Q.map B8).toArray 22)) gs 71 ([s0, s1].map B8) := hS
  simp only [← hgs']
  have HBW := Lib.hid hbw
  have HS := Lib.hid hS
  clear hb0 hbw hgs' hgq'
  generalize (w.alloc (.cells #[.int .u8 (s0.toNat : Int), .int .u8 (s1.toNat : Int)] 71)).alloc (.cells (Q.map B8).toArray 22) = w1 at *
  have HTW := Lib.hid (HT.out.below (HBW.out.mono (Nat.le_refl _)))
  go_upto_region 2 with (first
    | ((with_reducible refine (?_ : wpList _ _ _ (Oper.mk (some 14) _ _ _ _ _ :: _) _ _)); go_loud (refine wpList_load_blk rfl 22 (.tmp 8) rfl gq rfl 22 _ _ hQb Tryd.underlying22 rfl (inf16.trans (by rw [List.length_map, HQ.out])) ?_))
    | ((with_reducible refine (?_ : wpList _ _ _ (Oper.mk (some 15) _ _ _ _ _ :: _) _ _)); go_loud (refine wpList_load_blk rfl 71 (.tmp 7) rfl gs rfl 71 _ _ hS Tryd.underlying71 rfl inf2 ?_))
    | (go_at_call 79; refine (HBG.out _).mono ?_; rintro e w2 ⟨A2, c2, rfl, hI2, hb2⟩)
    | (((with_reducible refine (?_ : wpList _ _ _ (Oper.mk (some 22) _ _ _ _ _ :: _) _ _)); go_loud (refine wpList_append_far rfl (.tmp 20) (.tmp 21) 26 rfl w2.heap.size _ 1 1 [z] key _ rfl (buf_lit w2 [z] 1 5 rfl (by decide)) rfl (src_at (((HI0.out.up (HBW.out.trans (hb2.mono HBW.out.size))).up ((Below.refl _ _).alloc (Nat.le_refl _) _)).src (Nat.le_refl _)) HN.out) (by rw [HN.out]; omega) (by simp) (1 + n) (by rw [HN.out]) ?_); intro A3 c3 w3 hB3 hg3 _); have hb3 : Below w2.heap.size w2 w3 := below_own ((Below.refl _ _).alloc (Nat.le_refl _) _) (buf_lit w2 [z] 1 5 rfl (by decide)) hg3 (Nat.le_refl _) (by simp))
    | (go_at_call 78; refine (HHE.out _ _ _ _ _ _ _ (HIS.out.up (HBW.out.trans ((hb2.trans (hb3.mono hb2.size)).mono HBW.out.size))) (hI2.up hb3) (hB3.toIn (Nat.le_refl _)) (HTW.out.below (hb2.trans (hb3.mono hb2.size)))).mono ?_; rintro e w4 ⟨A4, c4, rfl, hI4, hb4⟩))
  have hb14 : Below w1.heap.size w1 w4 := hb2.trans ((hb3.trans (hb4.mono hb3.size)).mono hb2.size)
  have hS4 := HS.out.below hb14 hgs
  have cc0 : w4.cell? ⟨gs, 0, none⟩ = some (.int .u8 (s0.toNat : Int)) := hS4.cell 0
  have cc1 : w4.cell? ⟨gs, 1, none⟩ = some (.int .u8 (s1.toNat : Int)) := hS4.cell 1
  have HI4 := Lib.hid hI4
  have HBW4 := Lib.hid (HBW.out.trans (hb14.mono HBW.out.size))
  clear hS hQb hgs hgq hb2 hb3 hb4 hb14 hS4 hI4 hB3 hg3 hI2 hzn
  go_upto_region 3 with (fail)
  go_wp2_with (((with_reducible refine (?_ : wpList _ _ _ (Oper.mk (some 36) _ _ _ _ _ :: _) _ _)); go_loud (refine wpList_append_far rfl (.tmp 34) (.tmp 35) 26 rfl w4.heap.size _ 8 8 [0, 0, 1, 55, k, y, s0, s1] hd _ rfl (buf_lit w4 [0, 0, 1, 55, k, y, s0, s1] 8 5 rfl (by decide)) rfl (src_at ((HI4.out.up ((Below.refl _ _).alloc (Nat.le_refl _) _)).src (Nat.le_refl _)) HHL.out) (by rw [HHL.out]; omega) (by simp) (8 + N) (by rw [HHL.out]) ?_); intro A5 c5 w5 hB5 hg5 _))
  have hb5 : Below w4.heap.size w4 w5 := below_own ((Below.refl _ _).alloc (Nat.le_refl _) _) (buf_lit w4 [0, 0, 1, 55, k, y, s0, s1] 8 5 rfl (by decide)) hg5 (Nat.le_refl _) (by simp)
  go_ret
  exact ⟨A5, c5, rfl, by rw [HWB.out]; exact hB5.base HBW4.out.size, HBW4.out.trans (hb5.mono HBW4.out.size)⟩
set_option maxRecDepth 100000 in
set_option maxHeartbeats 1000000 in
theorem wrap_b0 (kind : Int) (s0 s1 : UInt8) (Q key sec : List UInt8) (A As : Option Addr) (c cs n ls : Nat) (w : World) (_hQ : Q.length = 16) (_hn : key.length = n) (_hls : sec.length = ls) (_i0 : In w w.heap.size A c key) (_is : In w w.heap.size As cs sec) (_ht : TabsQ w) (_hn9 : n ≤ 1000000) (_h2 : ls ≤ 1000000) (hk : kind ≠ 16) (hk2 : kind ≠ 17) :
    Calls Tryd.prog 38 #[.int .i64 kind, .slice A n c, .agg #[.int .u8 (s0.toNat : Int), .int .u8 (s1.toNat : Int)], .agg (Q.map B8).toArray, .slice As ls cs] w (WrapPost (wrapE kind s0 s1 key Q sec) w) := by
  have HZ := Lib.hid (show wrapE kind s0 s1 key Q sec = ([], 1) by unfold wrapE; rw [if_neg]; unfold mayW; simp [hk, hk2])
  have hd1 : ¬ kind = 16 := hk
  have hd2 : ¬ kind = 17 := hk2
  clear hk hk2
  generalize wrapE _ s0 s1 key Q sec = E at *
  clear _hn _hls _i0 _is _ht _hn9 _h2 _hQ
  go_enter Tryd.func38, Tryd.ntmps38
  go_upto_region 1 with (fail)
  have hS := (Blk.new_of w 71 #[.int .u8 (s0.toNat : Int), .int .u8 (s1.toNat : Int)] ([s0, s1].map B8) rfl).alloc (.cells (Q.map B8).toArray 22)
  have hQb := Blk.new2_of w (.cells #[.int .u8 (s0.toNat : Int), .int .u8 (s1.toNat : Int)] 71) 22 _ (Q.map B8) rfl
  have hb0 : Below w.heap.size w (w.alloc (.cells #[.int .u8 (s0.toNat : Int), .int .u8 (s1.toNat : Int)] 71)) := (Below.refl _ _).alloc (Nat.le_refl _) _
  have hbw := hb0.alloc hb0.size (.cells (Q.map B8).toArray 22)
  have hgs := hS.lt
  obtain ⟨gs, hgs'⟩ : ∃ gs, gs = w.heap.size := ⟨_, rfl⟩
  obtain ⟨gq, hgq'⟩ : ∃ gq, gq = w.heap.size + 1 := ⟨_, rfl⟩
  rw [← hgq'] at hQb ⊢
  rw [← hgs'] at hS hgs
  replace hS : Blk ((w.alloc (.cells #[.int .u8 (s0.toNat : Int), .int .u8 (s1.toNat : Int)] 71)).alloc (.cells (Q.map B8).toArray 22)) gs 71 ([s0, s1].map B8) := hS
  simp only [← hgs']
  have cc0 : ((w.alloc (.cells #[.int .u8 (s0.toNat : Int), .int .u8 (s1.toNat : Int)] 71)).alloc (.cells (Q.map B8).toArray 22)).cell? ⟨gs, 0, none⟩ = some (.int .u8 (s0.toNat : Int)) := hS.cell 0
  have HBW := Lib.hid hbw
  clear hb0 hbw hgs' hgq' hgs
  generalize (w.alloc (.cells #[.int .u8 (s0.toNat : Int), .int .u8 (s1.toNat : Int)] 71)).alloc (.cells (Q.map B8).toArray 22) = w1 at *
  clear hS hQb
  go_wp2
  go_ret2
  exact ⟨none, 0, 0, by rw [HZ.out] <;> rfl, by rw [HZ.out]; exact Buf.nil _ _, HBW.out⟩
set_option maxRecDepth 100000 in
set_option maxHeartbeats 1000000 in
theorem wrap_b1_16 (kind : Int) (s0 s1 : UInt8) (Q key sec : List UInt8) (A As : Option Addr) (c cs n ls : Nat) (w : World) (_hQ : Q.length = 16) (hn : key.length = n) (_hls : sec.length = ls) (_i0 : In w w.heap.size A c key) (_is : In w w.heap.size As cs sec) (_ht : TabsQ w) (hn9 : n ≤ 1000000) (_h2 : ls ≤ 1000000) (hk : kind = 16) (h0 : n = 0) :
    Calls Tryd.prog 38 #[.int .i64 kind, .slice A n c, .agg #[.int .u8 (s0.toNat : Int), .int .u8 (s1.toNat : Int)], .agg (Q.map B8).toArray, .slice As ls cs] w (WrapPost (wrapE kind s0 s1 key Q sec) w) := by
  have HZ := Lib.hid (show wrapE kind s0 s1 key Q sec = ([], 1) by unfold wrapE; rw [if_neg]; unfold mayW; simp [hn, h0])
  subst hk h0
  generalize wrapE _ s0 s1 key Q sec = E at *
  clear hn _hls _i0 _is _ht hn9 _h2 _hQ
  go_enter Tryd.func38, Tryd.ntmps38
  go_upto_region 1 with (fail)
  have hS := (Blk.new_of w 71 #[.int .u8 (s0.toNat : Int), .int .u8 (s1.toNat : Int)] ([s0, s1].map B8) rfl).alloc (.cells (Q.map B8).toArray 22)
  have hQb := Blk.new2_of w (.cells #[.int .u8 (s0.toNat : Int), .int .u8 (s1.toNat : Int)] 71) 22 _ (Q.map B8) rfl
  have hb0 : Below w.heap.size w (w.alloc (.cells #[.int .u8 (s0.toNat : Int), .int .u8 (s1.toNat : Int)] 71)) := (Below.refl _ _).alloc (Nat.le_refl _) _
  have hbw := hb0.alloc hb0.size (.cells (Q.map B8).toArray 22)
  have hgs := hS.lt
  obtain ⟨gs, hgs'⟩ : ∃ gs, gs = w.heap.size := ⟨_, rfl⟩
  obtain ⟨gq, hgq'⟩ : ∃ gq, gq = w.heap.size + 1 := ⟨_, rfl⟩
  rw [← hgq'] at hQb ⊢
  rw [← hgs'] at hS hgs
  replace hS : Blk ((w.alloc (.cells #[.int .u8 (s0.toNat : Int), .int .u8 (s1.toNat : Int)] 71)).alloc (.cells (Q.map B8).toArray 22)) gs 71 ([s0, s1].map B8) := hS
  simp only [← hgs']
  have cc0 : ((w.alloc (.cells #[.int .u8 (s0.toNat : Int), .int .u8 (s1.toNat : Int)] 71)).alloc (.cells (Q.map B8).toArray 22)).cell? ⟨gs, 0, none⟩ = some (.int .u8 (s0.toNat : Int)) := hS.cell 0
  have HBW := Lib.hid hbw
  clear hb0 hbw hgs' hgq' hgs
  generalize (w.alloc (.cells #[.int .u8 (s0.toNat : Int), .int .u8 (s1.toNat : Int)] 71)).alloc (.cells (Q.map B8).toArray 22) = w1 at *
  clear hS hQb
  go_wp2
  go_ret2
  exact ⟨none, 0, 0, by rw [HZ.out] <;> rfl, by rw [HZ.out]; exact Buf.nil _ _, HBW.out⟩
set_option maxRecDepth 100000 in
set_option maxHeartbeats 1000000 in
theorem wrap_b2_16 (kind : Int) (s0 s1 : UInt8) (Q key sec : List UInt8) (A As : Option Addr) (c cs n ls : Nat) (w : World) (_hQ : Q.length = 16) (hn : key.length = n) (_hls : sec.length = ls) (_i0 : In w w.heap.size A c key) (_is : In w w.heap.size As cs sec) (_ht : TabsQ w) (hn9 : n ≤ 1000000) (_h2 : ls ≤ 1000000) (hk : kind = 16) (h0 : n ≠ 0) (h200 : 200 < n) :
    Calls Tryd.prog 38 #[.int .i64 kind, .slice A n c, .agg #[.int .u8 (s0.toNat : Int), .int .u8 (s1.toNat : Int)], .agg (Q.map B8).toArray, .slice As ls cs] w (WrapPost (wrapE kind s0 s1 key Q sec) w) := by
  have HZ := Lib.hid (show wrapE kind s0 s1 key Q sec = ([], 1) by unfold wrapE; rw [if_neg]; unfold mayW; simp [hn]; omega)
  subst hk
  have hd0 : ((n : Int) == 0) = false := by simpa using h0
  have hd3 : (200 : Int) < (n : Int) := by omega
  clear h0 h200
  generalize wrapE _ s0 s1 key Q sec = E at *
  clear hn _hls _i0 _is _ht hn9 _h2 _hQ
  go_enter Tryd.func38, Tryd.ntmps38
  go_upto_region 1 with (fail)
  have hS := (Blk.new_of w 71 #[.int .u8 (s0.toNat : Int), .int .u8 (s1.toNat : Int)] ([s0, s1].map B8) rfl).alloc (.cells (Q.map B8).toArray 22)
  have hQb := Blk.new2_of w (.cells #[.int .u8 (s0.toNat : Int), .int .u8 (s1.toNat : Int)] 71) 22 _ (Q.map B8) rfl
  have hb0 : Below w.heap.size w (w.alloc (.cells #[.int .u8 (s0.toNat : Int), .int .u8 (s1.toNat : Int)] 71)) := (Below.refl _ _).alloc (Nat.le_refl _) _
  have hbw := hb0.alloc hb0.size (.cells (Q.map B8).toArray 22)
  have hgs := hS.lt
  obtain ⟨gs, hgs'⟩ : ∃ gs, gs = w.heap.size := ⟨_, rfl⟩
  obtain ⟨gq, hgq'⟩ : ∃ gq, gq = w.heap.size + 1 := ⟨_, rfl⟩
  rw [← hgq'] at hQb ⊢
  rw [← hgs'] at hS hgs
  replace hS : Blk ((w.alloc (.cells #[.int .u8 (s0.toNat : Int), .int .u8 (s1.toNat : Int)] 71)).alloc (.cells (Q.map B8).toArray 22)) gs 71 ([s0, s1].map B8) := hS
  simp only [← hgs']
  have cc0 : ((w.alloc (.cells #[.int .u8 (s0.toNat : Int), .int .u8 (s1.toNat : Int)] 71)).alloc (.cells (Q.map B8).toArray 22)).cell? ⟨gs, 0, none⟩ = some (.int .u8 (s0.toNat : Int)) := hS.cell 0
  have HBW := Lib.hid hbw
  clear hb0 hbw hgs' hgq' hgs
  generalize (w.alloc (.cells #[.int .u8 (s0.toNat : Int), .int .u8 (s1.toNat : Int)] 71)).alloc (.cells (Q.map B8).toArray 22) = w1 at *
  clear hS hQb
  go_wp2
  go_ret2
  exact ⟨none, 0, 0, by rw [HZ.out] <;> rfl, by rw [HZ.out]; exact Buf.nil _ _, HBW.out⟩
set_option maxRecDepth 100000 in
set_option maxHeartbeats 1000000 in
theorem wrap_b3_16 (kind : Int) (s0 s1 : UInt8) (Q key sec : List UInt8) (A As : Option Addr) (c cs n ls : Nat) (w : World) (_hQ : Q.length = 16) (hn : key.length = n) (_hls : sec.length = ls) (_i0 : In w w.heap.size A c key) (_is : In w w.heap.size As cs sec) (_ht : TabsQ w) (hn9 : n ≤ 1000000) (_h2 : ls ≤ 1000000) (hk : kind = 16) (h0 : n ≠ 0) (h200 : ¬ 200 < n) (hs : s0.toNat < 128) :
    Calls Tryd.prog 38 #[.int .i64 kind, .slice A n c, .agg #[.int .u8 (s0.toNat : Int), .int .u8 (s1.toNat : Int)], .agg (Q.map B8).toArray, .slice As ls cs] w (WrapPost (wrapE kind s0 s1 key Q sec) w) := by
  have HZ := Lib.hid (show wrapE kind s0 s1 key Q sec = ([], 1) by unfold wrapE; rw [if_neg]; unfold mayW; simp [hn]; omega)
  subst hk
  have hd0 : ((n : Int) == 0) = false := by simpa using h0
  have hd3 : ¬ (200 : Int) < (n : Int) := by omega
  have hd4 : (s0.toNat : Int) < 128 := by omega
  clear h0 h200 hs
  generalize wrapE _ s0 s1 key Q sec = E at *
  clear hn _hls _i0 _is _ht hn9 _h2 _hQ
  go_enter Tryd.func38, Tryd.ntmps38
  go_upto_region 1 with (fail)
  have hS := (Blk.new_of w 71 #[.int .u8 (s0.toNat : Int), .int .u8 (s1.toNat : Int)] ([s0, s1].map B8) rfl).alloc (.cells (Q.map B8).toArray 22)
  have hQb := Blk.new2_of w (.cells #[.int .u8 (s0.toNat : Int), .int .u8 (s1.toNat : Int)] 71) 22 _ (Q.map B8) rfl
  have hb0 : Below w.heap.size w (w.alloc (.cells #[.int .u8 (s0.toNat : Int), .int .u8 (s1.toNat : Int)] 71)) := (Below.refl _ _).alloc (Nat.le_refl _) _
  have hbw := hb0.alloc hb0.size (.cells (Q.map B8).toArray 22)
  have hgs := hS.lt
  obtain ⟨gs, hgs'⟩ : ∃ gs, gs = w.heap.size := ⟨_, rfl⟩
  obtain ⟨gq, hgq'⟩ : ∃ gq, gq = w.heap.size + 1 := ⟨_, rfl⟩
  rw [← hgq'] at hQb ⊢
  rw [← hgs'] at hS hgs
  replace hS : Blk ((w.alloc (.cells #[.int .u8 (s0.toNat : Int), .int .u8 (s1.toNat : Int)] 71)).alloc (.cells (Q.map B8).toArray 22)) gs 71 ([s0, s1].map B8) := hS
  simp only [← hgs']
  have cc0 : ((w.alloc (.cells #[.int .u8 (s0.toNat : Int), .int .u8 (s1.toNat : Int)] 71)).alloc (.cells (Q.map B8).toArray 22)).cell? ⟨gs, 0, none⟩ = some (.int .u8 (s0.toNat : Int)) := hS.cell 0
  have HBW := Lib.hid hbw
  clear hb0 hbw hgs' hgq' hgs
  generalize (w.alloc (.cells #[.int .u8 (s0.toNat : Int), .int .u8 (s1.toNat : Int)] 71)).alloc (.cells (Q.map B8).toArray 22) = w1 at *
  clear hS hQb
  go_wp2
  go_ret2
  exact ⟨none, 0, 0, by rw [HZ.out] <;> rfl, by rw [HZ.out]; exact Buf.nil _ _, HBW.out⟩
set_option maxRecDepth 100000 in
set_option maxHeartbeats 1000000 in
theorem wrap_b1_17 (kind : Int) (s0 s1 : UInt8) (Q key sec : List UInt8) (A As : Option Addr) (c cs n ls : Nat) (w : World) (_hQ : Q.length = 16) (hn : key.length = n) (_hls : sec.length = ls) (_i0 : In w w.heap.size A c key) (_is : In w w.heap.size As cs sec) (_ht : TabsQ w) (hn9 : n ≤ 1000000) (_h2 : ls ≤ 1000000) (hk : kind = 17) (h0 : n = 0) :
    Calls Tryd.prog 38 #[.int .i64 kind, .slice A n c, .agg #[.int .u8 (s0.toNat : Int), .int .u8 (s1.toNat : Int)], .agg (Q.map B8).toArray, .slice As ls cs] w (WrapPost (wrapE kind s0 s1 key Q sec) w) := by
  have HZ := Lib.hid (show wrapE kind s0 s1 key Q sec = ([], 1) by unfold wrapE; rw [if_neg]; unfold mayW; simp [hn, h0])
  subst hk h0
  generalize wrapE _ s0 s1 key Q sec = E at *
  clear hn _hls _i0 _is _ht hn9 _h2 _hQ
  go_enter Tryd.func38, Tryd.ntmps38
  go_upto_region 1 with (fail)
  have hS := (Blk.new_of w 71 #[.int .u8 (s0.toNat : Int), .int .u8 (s1.toNat : Int)] ([s0, s1].map B8) rfl).alloc (.cells (Q.map B8).toArray 22)
  have hQb := Blk.new2_of w (.cells #[.int .u8 (s0.toNat : Int), .int .u8 (s1.toNat : Int)] 71) 22 _ (Q.map B8) rfl
  have hb0 : Below w.heap.size w (w.alloc (.cells #[.int .u8 (s0.toNat : Int), .int .u8 (s1.toNat : Int)] 71)) := (Below.refl _ _).alloc (Nat.le_refl _) _
  have hbw := hb0.alloc hb0.size (.cells (Q.map B8).toArray 22)
  have hgs := hS.lt
  obtain ⟨gs, hgs'⟩ : ∃ gs, gs = w.heap.size := ⟨_, rfl⟩
  obtain ⟨gq, hgq'⟩ : ∃ gq, gq = w.heap.size + 1 := ⟨_, rfl⟩
  rw [← hgq'] at hQb ⊢
  rw [← hgs'] at hS hgs
  replace hS : Blk ((w.alloc (.cells #[.int .u8 (s0.toNat : Int), .int .u8 (s1.toNat : Int)] 71)).alloc (.cells (Q.map B8).toArray 22)) gs 71 ([s0, s1].map B8) := hS
  simp only [← hgs']
  have cc0 : ((w.alloc (.cells #[.int .u8 (s0.toNat : Int), .int .u8 (s1.toNat : Int)] 71)).alloc (.cells (Q.map B8).toArray 22)).cell? ⟨gs, 0, none⟩ = some (.int .u8 (s0.toNat : Int)) := hS.cell 0
  have HBW := Lib.hid hbw
  clear hb0 hbw hgs' hgq' hgs
  generalize (w.alloc (.cells #[.int .u8 (s0.toNat : Int), .int .u8 (s1.toNat : Int)] 71)).alloc (.cells (Q.map B8).toArray 22) = w1 at *
  clear hS hQb
  go_wp2
  go_ret2
  exact ⟨none, 0, 0, by rw [HZ.out] <;> rfl, by rw [HZ.out]; exact Buf.nil _ _, HBW.out⟩
set_option maxRecDepth 100000 in
set_option maxHeartbeats 1000000 in
theorem wrap_b2_17 (kind : Int) (s0 s1 : UInt8) (Q key sec : List UInt8) (A As : Option Addr) (c cs n ls : Nat) (w : World) (_hQ : Q.length = 16) (hn : key.length = n) (_hls : sec.length = ls) (_i0 : In w w.heap.size A c key) (_is : In w w.heap.size As cs sec) (_ht : TabsQ w) (hn9 : n ≤ 1000000) (_h2 : ls ≤ 1000000) (hk : kind = 17) (h0 : n ≠ 0) (h200 : 200 < n) :
    Calls Tryd.prog 38 #[.int .i64 kind, .slice A n c, .agg #[.int .u8 (s0.toNat : Int), .int .u8 (s1.toNat : Int)], .agg (Q.map B8).toArray, .slice As ls cs] w (WrapPost (wrapE kind s0 s1 key Q sec) w) := by
  have HZ := Lib.hid (show wrapE kind s0 s1 key Q sec = ([], 1) by unfold wrapE; rw [if_neg]; unfold mayW; simp [hn]; omega)
  subst hk
  have hd0 : ((n : Int) == 0) = false := by simpa using h0
  have hd3 : (200 : Int) < (n : Int) := by omega
  clear h0 h200
  generalize wrapE _ s0 s1 key Q sec = E at *
  clear hn _hls _i0 _is _ht hn9 _h2 _hQ
  go_enter Tryd.func38, Tryd.ntmps38
  go_upto_region 1 with (fail)
  have hS := (Blk.new_of w 71 #[.int .u8 (s0.toNat : Int), .int .u8 (s1.toNat : Int)] ([s0, s1].map B8) rfl).alloc (.cells (Q.map B8).toArray 22)
  have hQb := Blk.new2_of w (.cells #[.int .u8 (s0.toNat : Int), .int .u8 (s1.toNat : Int)] 71) 22 _ (Q.map B8) rfl
  have hb0 : Below w.heap.size w (w.alloc (.cells #[.int .u8 (s0.toNat : Int), .int .u8 (s1.toNat : Int)] 71)) := (Below.refl _ _).alloc (Nat.le_refl _) _
  have hbw := hb0.alloc hb0.size (.cells (Q.map B8).toArray 22)
  have hgs := hS.lt
  obtain ⟨gs, hgs'⟩ : ∃ gs, gs = w.heap.size := ⟨_, rfl⟩
  obtain ⟨gq, hgq'⟩ : ∃ gq, gq = w.heap.size + 1 := ⟨_, rfl⟩
  rw [← hgq'] at hQb ⊢
  rw [← hgs'] at hS hgs
  replace hS : Blk ((w.alloc (.cells #[.int .u8 (s0.toNat : Int), .int .u8 (s1.toNat : Int)] 71)).alloc (.cells (Q.map B8).toArray 22)) gs 71 ([s0, s1].map B8) := hS
  simp only [← hgs']
  have cc0 : ((w.alloc (.cells #[.int .u8 (s0.toNat : Int), .int .u8 (s1.toNat : Int)] 71)).alloc (.cells (Q.map B8).toArray 22)).cell? ⟨gs, 0, none⟩ = some (.int .u8 (s0.toNat : Int)) := hS.cell 0
  have HBW := Lib.hid hbw
  clear hb0 hbw hgs' hgq' hgs
  generalize (w.alloc (.cells #[.int .u8 (s0.toNat : Int), .int .u8 (s1.toNat : Int)] 71)).alloc (.cells (Q.map B8).toArray 22) = w1 at *
  clear hS hQb
  go_wp2
  go_ret2
  exact ⟨none, 0, 0, by rw [HZ.out] <;> rfl, by rw [HZ.out]; exact Buf.nil _ _, HBW.out⟩
set_option maxRecDepth 100000 in
set_option maxHeartbeats 1000000 in
theorem wrap_b3_17 (kind : Int) (s0 s1 : UInt8) (Q key sec : List UInt8) (A As : Option Addr) (c cs n ls : Nat) (w : World) (_hQ : Q.length = 16) (hn : key.length = n) (_hls : sec.length = ls) (_i0 : In w w.heap.size A c key) (_is : In w w.heap.size As cs sec) (_ht : TabsQ w) (hn9 : n ≤ 1000000) (_h2 : ls ≤ 1000000) (hk : kind = 17) (h0 : n ≠ 0) (h200 : ¬ 200 < n) (hs : s0.toNat < 128) :
    Calls Tryd.prog 38 #[.int .i64 kind, .slice A n c, .agg #[.int .u8 (s0.toNat : Int), .int .u8 (s1.toNat : Int)], .agg (Q.map B8).toArray, .slice As ls cs] w (WrapPost (wrapE kind s0 s1 key Q sec) w) := by
  have HZ := Lib.hid (show wrapE kind s0 s1 key Q sec = ([], 1) by unfold wrapE; rw [if_neg]; unfold mayW; simp [hn]; omega)
  subst hk
  have hd0 : ((n : Int) == 0) = false := by simpa using h0
  have hd3 : ¬ (200 : Int) < (n : Int) := by omega
  have hd4 : (s0.toNat : Int) < 128 := by omega
  clear h0 h200 hs
  generalize wrapE _ s0 s1 key Q sec = E at *
  clear hn _hls _i0 _is _ht hn9 _h2 _hQ
  go_enter Tryd.func38, Tryd.ntmps38
  go_upto_region 1 with (fail)
  have hS := (Blk.new_of w 71 #[.int .u8 (s0.toNat : Int), .int .u8 (s1.toNat : Int)] ([s0, s1].map B8) rfl).alloc (.cells (Q.map B8).toArray 22)
  have hQb := Blk.new2_of w (.cells #[.int .u8 (s0.toNat : Int), .int .u8 (s1.toNat : Int)] 71) 22 _ (Q.map B8) rfl
  have hb0 : Below w.heap.size w (w.alloc (.cells #[.int .u8 (s0.toNat : Int), .int .u8 (s1.toNat : Int)] 71)) := (Below.refl _ _).alloc (Nat.le_refl _) _
  have hbw := hb0.alloc hb0.size (.cells (Q.map B8).toArray 22)
  have hgs := hS.lt
  obtain ⟨gs, hgs'⟩ : ∃ gs, gs = w.heap.size := ⟨_, rfl⟩
  obtain ⟨gq, hgq'⟩ : ∃ gq, gq = w.heap.size + 1 := ⟨_, rfl⟩
  rw [← hgq'] at hQb ⊢
  rw [← hgs'] at hS hgs
  replace hS : Blk ((w.alloc (.cells #[.int .u8 (s0.toNat : Int), .int .u8 (s1.toNat : Int)] 71)).alloc (.cells (Q.map B8).toArray 22)) gs 71 ([s0, s1].map B8) := hS
  simp only [← hgs']
  have cc0 : ((w.alloc (.cells #[.int .u8 (s0.toNat : Int), .int .u8 (s1.toNat : Int)] 71)).alloc (.cells (Q.map B8).toArray 22)).cell? ⟨gs, 0, none⟩ = some (.int .u8 (s0.toNat : Int)) := hS.cell 0
  have HBW := Lib.hid hbw
  clear hb0 hbw hgs' hgq' hgs
  generalize (w.alloc (.cells #[.int .u8 (s0.toNat : Int), .int .u8 (s1.toNat : Int)] 71)).alloc (.cells (Q.map B8).toArray 22) = w1 at *
  clear hS hQb
  go_wp2
  go_ret2
  exact ⟨none, 0, 0, by rw [HZ.out] <;> rfl, by rw [HZ.out]; exact Buf.nil _ _, HBW.out⟩
set_option maxRecDepth 100000 in
set_option maxHeartbeats 1000000 in
theorem wrap_ok_16 (kind : Int) (s0 s1 : UInt8) (Q key sec : List UInt8) (A As : Option Addr) (c cs n ls : Nat) (w : World) (hQ : Q.length = 16) (hn : key.length = n) (hls : sec.length = ls) (i0 : In w w.heap.size A c key) (is : In w w.heap.size As cs sec) (ht : TabsQ w) (hn9 : n ≤ 1000000) (h2 : ls ≤ 1000000) (hk : kind = 16) (h0 : n ≠ 0) (h200 : ¬ 200 < n) (hs : ¬ s0.toNat < 128) :
    Calls Tryd.prog 38 #[.int .i64 kind, .slice A n c, .agg #[.int .u8 (s0.toNat : Int), .int .u8 (s1.toNat : Int)], .agg (Q.map B8).toArray, .slice As ls cs] w (WrapPost (wrapE kind s0 s1 key Q sec) w) := by
  subst hk
  obtain ⟨N, hN⟩ : ∃ N, N = 16 * ((n + 16) / 16) := ⟨_, rfl⟩
  have HZ := Lib.hid (show wrapE 16 s0 s1 key Q sec = (wrapB 16 s0 s1 key Q sec, 0) by unfold wrapE; rw [if_pos]; · rfl
                                                                                       unfold mayW; simp [hn]; omega)
  generalize wrapE 16 s0 s1 key Q sec = E at *
  have HWH := Lib.hid (fun (W : World) (h : Below w.heap.size w W) => whole_e 16 s0 s1 Q key sec A As c cs n ls N W hQ hn hls (i0.up h) (is.up h) (ht.below h) (by omega) h2 hN)
  have hd0 : ((n : Int) == 0) = false := by simpa using h0
  have hd3 : ¬ (200 : Int) < (n : Int) := by omega
  have hd4 : ¬ (s0.toNat : Int) < 128 := by omega
  have hkd : IntKind.u8.wrap 16 = ((16 : UInt8).toNat : Int) := by decide
  have HQ := Lib.hid hQ
  generalize wrapB 16 s0 s1 key Q sec = WB at *
  clear h0 h200 hs hn hls i0 is ht hn9 h2 hQ hN
  go_enter Tryd.func38, Tryd.ntmps38
  go_upto_region 1 with (fail)
  have hS := (Blk.new_of w 71 #[.int .u8 (s0.toNat : Int), .int .u8 (s1.toNat : Int)] ([s0, s1].map B8) rfl).alloc (.cells (Q.map B8).toArray 22)
  have hQb := Blk.new2_of w (.cells #[.int .u8 (s0.toNat : Int), .int .u8 (s1.toNat : Int)] 71) 22 _ (Q.map B8) rfl
  have hb0 : Below w.heap.size w (w.alloc (.cells #[.int .u8 (s0.toNat : Int), .int .u8 (s1.toNat : Int)] 71)) := (Below.refl _ _).alloc (Nat.le_refl _) _
  have hbw := hb0.alloc hb0.size (.cells (Q.map B8).toArray 22)
  have hgs := hS.lt
  obtain ⟨gs, hgs'⟩ : ∃ gs, gs = w.heap.size := ⟨_, rfl⟩
  obtain ⟨gq, hgq'⟩ : ∃ gq, gq = w.heap.size + 1 := ⟨_, rfl⟩
  rw [← hgq'] at hQb ⊢
  rw [← hgs'] at hS hgs
  replace hS : Blk ((w.alloc (.cells #[.int .u8 (s0.toNat : Int), .int .u8 (s1.toNat : Int)] 71)).alloc (.cells (Q.map B8).toArray 22)) gs 71 ([s0, s1].map B8) := hS
  simp only [← hgs']
  have cc0 : ((w.alloc (.cells #[.int .u8 (s0.toNat : Int), .int .u8 (s1.toNat : Int)] 71)).alloc (.cells (Q.map B8).toArray 22)).cell? ⟨gs, 0, none⟩ = some (.int .u8 (s0.toNat : Int)) := hS.cell 0
  have HBW := Lib.hid hbw
  clear hb0 hbw hgs' hgq' hgs
  generalize (w.alloc (.cells #[.int .u8 (s0.toNat : Int), .int .u8 (s1.toNat : Int)] 71)).alloc (.cells (Q.map B8).toArray 22) = w1 at *
  go_wp2_with (first
    | ((with_reducible refine (?_ : wpList _ _ _ (Oper.mk (some 36) _ _ _ _ _ :: _) _ _)); go_loud (refine wpList_load_blk rfl 71 (.tmp 7) rfl gs rfl 71 _ _ hS Tryd.underlying71 rfl inf2 ?_))
    | ((with_reducible refine (?_ : wpList _ _ _ (Oper.mk (some 37) _ _ _ _ _ :: _) _ _)); go_loud (refine wpList_load_blk rfl 22 (.tmp 8) rfl gq rfl 22 _ _ hQb Tryd.underlying22 rfl (inf16.trans (by rw [List.length_map, HQ.out])) ?_))
    | (go_at_call 58; refine (HWH.out _ HBW.out).mono ?_; rintro e w2 ⟨A2, c2, rfl, hB2, hb2⟩))
  go_ret2
  exact ⟨A2, 8 + N, c2, by rw [HZ.out] <;> rfl, by rw [HZ.out]; exact hB2.base HBW.out.size, HBW.out.trans (hb2.mono HBW.out.size)⟩
set_option maxRecDepth 100000 in
set_option maxHeartbeats 1000000 in
theorem wrap_ok_17 (kind : Int) (s0 s1 : UInt8) (Q key sec : List UInt8) (A As : Option Addr) (c cs n ls : Nat) (w : World) (hQ : Q.length = 16) (hn : key.length = n) (hls : sec.length = ls) (i0 : In w w.heap.size A c key) (is : In w w.heap.size As cs sec) (ht : TabsQ w) (hn9 : n ≤ 1000000) (h2 : ls ≤ 1000000) (hk : kind = 17) (h0 : n ≠ 0) (h200 : ¬ 200 < n) (hs : ¬ s0.toNat < 128) :
    Calls Tryd.prog 38 #[.int .i64 kind, .slice A n c, .agg #[.int .u8 (s0.toNat : Int), .int .u8 (s1.toNat : Int)], .agg (Q.map B8).toArray, .slice As ls cs] w (WrapPost (wrapE kind s0 s1 key Q sec) w) := by
  subst hk
  obtain ⟨N, hN⟩ : ∃ N, N = 16 * ((n + 16) / 16) := ⟨_, rfl⟩
  have HZ := Lib.hid (show wrapE 17 s0 s1 key Q sec = (wrapB 17 s0 s1 key Q sec, 0) by unfold wrapE; rw [if_pos]; · rfl
                                                                                       unfold mayW; simp [hn]; omega)
  generalize wrapE 17 s0 s1 key Q sec = E at *
  have HWH := Lib.hid (fun (W : World) (h : Below w.heap.size w W) => whole_e 17 s0 s1 Q key sec A As c cs n ls N W hQ hn hls (i0.up h) (is.up h) (ht.below h) (by omega) h2 hN)
  have hd0 : ((n : Int) == 0) = false := by simpa using h0
  have hd3 : ¬ (200 : Int) < (n : Int) := by omega
  have hd4 : ¬ (s0.toNat : Int) < 128 := by omega
  have hkd : IntKind.u8.wrap 17 = ((17 : UInt8).toNat : Int) := by decide
  have HQ := Lib.hid hQ
  generalize wrapB 17 s0 s1 key Q sec = WB at *
  clear h0 h200 hs hn hls i0 is ht hn9 h2 hQ hN
  go_enter Tryd.func38, Tryd.ntmps38
  go_upto_region 1 with (fail)
  have hS := (Blk.new_of w 71 #[.int .u8 (s0.toNat : Int), .int .u8 (s1.toNat : Int)] ([s0, s1].map B8) rfl).alloc (.cells (Q.map B8).toArray 22)
  have hQb := Blk.new2_of w (.cells #[.int .u8 (s0.toNat : Int), .int .u8 (s1.toNat : Int)] 71) 22 _ (Q.map B8) rfl
  have hb0 : Below w.heap.size w (w.alloc (.cells #[.int .u8 (s0.toNat : Int), .int .u8 (s1.toNat : Int)] 71)) := (Below.refl _ _).alloc (Nat.le_refl _) _
  have hbw := hb0.alloc hb0.size (.cells (Q.map B8).toArray 22)
  have hgs := hS.lt
  obtain ⟨gs, hgs'⟩ : ∃ gs, gs = w.heap.size := ⟨_, rfl⟩
  obtain ⟨gq, hgq'⟩ : ∃ gq, gq = w.heap.size + 1 := ⟨_, rfl⟩
  rw [← hgq'] at hQb ⊢
  rw [← hgs'] at hS hgs
  replace hS : Blk ((w.alloc (.cells #[.int .u8 (s0.toNat : Int), .int .u8 (s1.toNat : Int)] 71)).alloc (.cells (Q.map B8).toArray 22)) gs 71 ([s0, s1].map B8) := hS
  simp only [← hgs']
  have cc0 : ((w.alloc (.cells #[.int .u8 (s0.toNat : Int), .int .u8 (s1.toNat : Int)] 71)).alloc (.cells (Q.map B8).toArray 22)).cell? ⟨gs, 0, none⟩ = some (.int .u8 (s0.toNat : Int)) := hS.cell 0
  have HBW := Lib.hid hbw
  clear hb0 hbw hgs' hgq' hgs
  generalize (w.alloc (.cells #[.int .u8 (s0.toNat : Int), .int .u8 (s1.toNat : Int)] 71)).alloc (.cells (Q.map B8).toArray 22) = w1 at *
  go_wp2_with (first
    | ((with_reducible refine (?_ : wpList _ _ _ (Oper.mk (some 36) _ _ _ _ _ :: _) _ _)); go_loud (refine wpList_load_blk rfl 71 (.tmp 7) rfl gs rfl 71 _ _ hS Tryd.underlying71 rfl inf2 ?_))
    | ((with_reducible refine (?_ : wpList _ _ _ (Oper.mk (some 37) _ _ _ _ _ :: _) _ _)); go_loud (refine wpList_load_blk rfl 22 (.tmp 8) rfl gq rfl 22 _ _ hQb Tryd.underlying22 rfl (inf16.trans (by rw [List.length_map, HQ.out])) ?_))
    | (go_at_call 58; refine (HWH.out _ HBW.out).mono ?_; rintro e w2 ⟨A2, c2, rfl, hB2, hb2⟩))
  go_ret2
  exact ⟨A2, 8 + N, c2, by rw [HZ.out] <;> rfl, by rw [HZ.out]; exact hB2.base HBW.out.size, HBW.out.trans (hb2.mono HBW.out.size)⟩
set_option maxRecDepth 100000 in
set_option maxHeartbeats 1000000 in
theorem wrap_e (kind : Int) (s0 s1 : UInt8) (Q key sec : List UInt8) (A As : Option Addr) (c cs n ls : Nat) (w : World) (hQ : Q.length = 16) (hn : key.length = n) (hls : sec.length = ls) (i0 : In w w.heap.size A c key) (is : In w w.heap.size As cs sec) (ht : TabsQ w) (hn9 : n ≤ 1000000) (h2 : ls ≤ 1000000) :
    Calls Tryd.prog 38 #[.int .i64 kind, .slice A n c, .agg #[.int .u8 (s0.toNat : Int), .int .u8 (s1.toNat : Int)], .agg (Q.map B8).toArray, .slice As ls cs] w (WrapPost (wrapE kind s0 s1 key Q sec) w) := by
  by_cases k16 : kind = 16
  · by_cases h0 : n = 0
    · exact wrap_b1_16 kind s0 s1 Q key sec A As c cs n ls w hQ hn hls i0 is ht hn9 h2 k16 h0
    by_cases h200 : 200 < n
    · exact wrap_b2_16 kind s0 s1 Q key sec A As c cs n ls w hQ hn hls i0 is ht hn9 h2 k16 h0 h200
    by_cases hs : s0.toNat < 128
    · exact wrap_b3_16 kind s0 s1 Q key sec A As c cs n ls w hQ hn hls i0 is ht hn9 h2 k16 h0 h200 hs
    · exact wrap_ok_16 kind s0 s1 Q key sec A As c cs n ls w hQ hn hls i0 is ht hn9 h2 k16 h0 h200 hs
  by_cases k17 : kind = 17
  · by_cases h0 : n = 0
    · exact wrap_b1_17 kind s0 s1 Q key sec A As c cs n ls w hQ hn hls i0 is ht hn9 h2 k17 h0
    by_cases h200 : 200 < n
    · exact wrap_b2_17 kind s0 s1 Q key sec A As c cs n ls w hQ hn hls i0 is ht hn9 h2 k17 h0 h200
    by_cases hs : s0.toNat < 128
    · exact wrap_b3_17 kind s0 s1 Q key sec A As c cs n ls w hQ hn hls i0 is ht hn9 h2 k17 h0 h200 hs
    · exact wrap_ok_17 kind s0 s1 Q key sec A As c cs n ls w hQ hn hls i0 is ht hn9 h2 k17 h0 h200 hs
  exact wrap_b0 kind s0 s1 Q key sec A As c cs n ls w hQ hn hls i0 is ht hn9 h2 k16 k17
end Go.Proofs.YtbomckbekcaemaaDoor
