/-
  The walk of the statement HelloBack.
-/
import Derived.Test.YtagblbfbjemfhaaDoorJh
namespace Go.Proofs.YtagblbfbjemfhaaDoor
open Go.RowKit
open HelloMath (Msg zeroM wholeM formM readBy saidM)

set_option maxRecDepth 100000 in
set_option maxHeartbeats 1000000 in
theorem back_0 (m : Msg) (cs : List Value) (A : Option Addr) (n c : Nat) (Y : List UInt8) (cut : Int) (w : World) (hT : TabH w) (h : RIn w m cs) (hn : Y.length = n) (hY : In w w.heap.size A c Y) (hf : formM (tameM m) = false) : Calls Tryd.prog 5 #[.agg cs.toArray, .slice A n c, .int .i64 cut] w fun e w' => e = .returned (.bool true) ∧ Below w.heap.size w w' := by
  have HT := Lib.hid hT
  have HF := Lib.hid hf
  have HYY := Lib.hid hY
  have HN := Lib.hid hn
  clear hT hf hY hn
  go_enter Tryd.func5, Tryd.ntmps5
  go_upto_region 0 with (fail)
  refine wp_region_lit ?_
  refine wpList_plain rfl (fun K hK => ?_)
  go_simp
  refine hK _ _ ?_
  clear hK K
  have b1 := Blk.new w 25 cs
  have hb1 : Below w.heap.size w (w.alloc (.cells cs.toArray 25)) := (Below.refl _ _).alloc (Nat.le_refl _) _
  have h1 := h.below hb1
  obtain ⟨g, hg1⟩ : ∃ g, g = w.heap.size := ⟨_, rfl⟩
  rw [← hg1] at b1
  simp only [← hg1]
  have HG := Lib.hid (Nat.le_of_eq hg1.symm)
  clear h hg1
  generalize w.alloc (.cells cs.toArray 25) = w1 at *
  try simp only [Act.put, List.setIfInBounds_toArray, List.set_cons_zero, List.set_cons_succ]
  go_upto_region 1 with (fail)
  refine wp_region_lit ?_
  refine wpList_load_mid rfl 25 (.tmp 3) rfl g 0 rfl cs _ (rangeAt_of_blk b1) Tryd.underlying25 rfl (infoR.trans (by rw [h1.len])) ?_
  try simp only [Act.put, List.setIfInBounds_toArray, List.set_cons_zero, List.set_cons_succ]
  refine wpList_plain rfl (fun K hK0 => ?_)
  have hK := Lib.hid hK0
  clear hK0
  go_simp
  go_at_call 9
  refine (tame_e m cs _ h1).mono ?_
  rintro e w2 ⟨cs2, rfl, hm2, hb2⟩
  try go_wp2_with fail
  refine hK.out _ _ ?_
  clear hK K
  try simp only [Act.put, List.setIfInBounds_toArray, List.set_cons_zero, List.set_cons_succ]
  have b2 := b1.below hb2 b1.lt
  obtain ⟨M, hM⟩ : ∃ M, tameM m = M := ⟨_, rfl⟩
  have HSM := Lib.hid (show Small M by rw [← hM]; exact small_tame m)
  rw [hM] at hm2 HF
  refine wpList_store_blk rfl 25 (.tmp 3) (.tmp 16) rfl rfl g cs2 rfl rfl _ _ b2 (infoR.trans (by rw [hm2.rin.len])) (by rw [hm2.rin.len, h1.len]) hm2.rin.one ?_
  intro w3 b3 hg3
  try simp only [Act.put, List.setIfInBounds_toArray, List.set_cons_zero, List.set_cons_succ]
  replace hm2 := (hm2.kept hg3 b1.lt).rin
  have hb13 := hb1.trans ((hb2.mono hb1.size).trans (grown_below hg3 HG.out (Nat.le_trans hb1.size hb2.size)))
  clear hb2 hb1 hg3 b1 b2 h1 hM
  go_upto_region 2 with (fail)
  refine wp_region_lit ?_
  refine wpList_load_mid rfl 25 (.tmp 3) rfl g 0 rfl cs2 _ (rangeAt_of_blk b3) Tryd.underlying25 rfl (infoR.trans (by rw [hm2.len])) ?_
  try simp only [Act.put, List.setIfInBounds_toArray, List.set_cons_zero, List.set_cons_succ]
  refine wpList_plain rfl (fun K hK0 => ?_)
  have hK := Lib.hid hK0
  clear hK0
  go_simp
  go_at_call 10
  refine (to_e M cs2 _ hm2 HSM).mono ?_
  rintro e w4 ⟨cs4, rfl, hm4, hb4⟩
  try go_wp2_with fail
  refine hK.out _ _ ?_
  clear hK K
  try simp only [Act.put, List.setIfInBounds_toArray, List.set_cons_zero, List.set_cons_succ]
  have b4 := b3.below hb4 b3.lt
  replace hm2 := hm2.below hb4
  have hb14 := hb13.trans (hb4.mono hb13.size)
  clear hb4 hb13 b3
  refine wpList_plain rfl (fun K hK0 => ?_)
  have hK := Lib.hid hK0
  clear hK0
  go_simp
  go_at_call 11
  refine (write_0 M cs4 _ (HT.out.below hb14) hm4 HF.out).mono ?_
  rintro e w5 ⟨rfl, hb5⟩
  try go_wp2_with fail
  refine hK.out _ _ ?_
  clear hK K
  try simp only [Act.put, List.setIfInBounds_toArray, List.set_cons_zero, List.set_cons_succ]
  have b5 := b4.below hb5 b4.lt
  replace hm2 := hm2.below hb5
  have hb15 := hb14.trans (hb5.mono hb14.size)
  have HG4 := Lib.hid (show g < w4.heap.size from b4.lt)
  clear hb5 b4 hm4 hb14
  refine wpList_plain rfl (fun K hK => ?_)
  go_simp
  refine hK _ _ ?_
  clear hK K
  try simp only [Act.put, List.setIfInBounds_toArray, List.set_cons_zero, List.set_cons_succ]
  refine wpList_plain rfl (fun K hK => ?_)
  go_simp
  refine hK _ _ ?_
  clear hK K
  try simp only [Act.put, List.setIfInBounds_toArray, List.set_cons_zero, List.set_cons_succ]
  refine wpList_plain rfl (fun K hK => ?_)
  go_simp
  refine hK _ _ ?_
  clear hK K
  try simp only [Act.put, List.setIfInBounds_toArray, List.set_cons_zero, List.set_cons_succ]
  refine wpList_plain rfl (fun K hK => ?_)
  go_simp
  refine hK _ _ ?_
  clear hK K
  try simp only [Act.put, List.setIfInBounds_toArray, List.set_cons_zero, List.set_cons_succ]
  refine wpList_plain rfl (fun K hK => ?_)
  go_simp
  refine hK _ _ ?_
  clear hK K
  try simp only [Act.put, List.setIfInBounds_toArray, List.set_cons_zero, List.set_cons_succ]
  go_upto_region 4 with (go_at_call 13; refine (hellos_e _ (HT.out.below hb15)).mono ?_; rintro e w6 ⟨rfl, hb6⟩)
  have hb16 := hb15.trans (hb6.mono hb15.size)
  go_wp2_with (go_at_call 13; refine (hellos_e _ (HT.out.below hb16)).mono ?_; rintro e w7 ⟨rfl, hb7⟩)
  go_ret
  exact ⟨rfl, hb16.trans (hb7.mono hb16.size)⟩
theorem in_takeq {w : World} {B c : Nat} {A : Option Addr} {xs : List UInt8} (h : In w B A c xs) (k : Nat) : In w B A c (xs.take k) := by
  refine ⟨Nat.le_trans (by rw [List.length_take]; exact Nat.min_le_right _ _) h.1, h.2.1, fun h0 => ?_⟩
  obtain ⟨g, o, e, hg, hb⟩ := h.2.2 (Nat.lt_of_lt_of_le h0 (by rw [List.length_take]; exact Nat.min_le_right _ _))
  exact ⟨g, o, e, hg, fun j hj => by
    have hj' : j < xs.length := Nat.lt_of_lt_of_le hj (by rw [List.length_take]; exact Nat.min_le_right _ _)
    rw [hb j hj', List.getD_eq_getElem?_getD, List.getD_eq_getElem?_getD, List.getElem?_take, if_pos (by rw [List.length_take] at hj; omega)]⟩
theorem ix_min50 {n c : Nat} (hc : n ≤ c) (hm : c ≤ 9223372036854775807) : ∃ q : Nat, q = min n 50 ∧ q ≤ n ∧ (if (n : Int) ≤ 50 then (n : Int) else 50) = (q : Int) ∧ min (n : Int) 50 = (q : Int) ∧ (0 : Int) ≤ (q : Int) ∧ (q : Int) ≤ (n : Int) ∧ (q : Int) ≤ (c : Int) ∧ (n : Int) ≤ (c : Int) := by
  refine ⟨min n 50, rfl, by omega, ?_, by omega, by omega, by omega, by omega, by omega⟩
  split <;> omega
theorem ix_cutn (a : Int) (l : Nat) (h0 : 0 < l) (hl : l ≤ 40000) : ∃ q : Nat, (IntKind.u64.wrap a).tmod (l : Int) = (q : Int) ∧ IntKind.u64.wrap (l : Int) = (l : Int) ∧ wrap64 (q : Int) = (q : Int) ∧ IntKind.i64.wrap (q : Int) = (q : Int) ∧ q < l ∧ (0 : Int) ≤ (q : Int) ∧ (q : Int) ≤ (l : Int) ∧ ¬ (l : Int) = 0 ∧ IntKind.u64.wrap (q : Int) = (q : Int) := by
  have hu0 : (0 : Int) ≤ IntKind.u64.wrap a := by rw [IntKind.wrap_u64]; omega
  have h1 := Int.emod_nonneg (IntKind.u64.wrap a) (b := (l : Int)) (by omega)
  have h2 := Int.emod_lt_of_pos (IntKind.u64.wrap a) (b := (l : Int)) (by omega)
  obtain ⟨q, hq⟩ : ∃ q : Nat, IntKind.u64.wrap a % (l : Int) = (q : Int) := ⟨(IntKind.u64.wrap a % (l : Int)).toNat, by omega⟩
  rw [hq] at h2
  refine ⟨q, by rw [Int.tmod_eq_emod_of_nonneg hu0, hq], by rw [IntKind.wrap_u64]; omega, by unfold wrap64; omega, by rw [IntKind.wrap_i64]; omega, by omega, by omega, by omega, by omega, by rw [IntKind.wrap_u64]; omega⟩
set_option maxRecDepth 100000 in
set_option maxHeartbeats 8000000 in
theorem back_1 (m : Msg) (cs : List Value) (A : Option Addr) (n c : Nat) (Y : List UInt8) (cut : Int) (w : World) (hT : TabH w) (h : RIn w m cs) (hn : Y.length = n) (hY : In w w.heap.size A c Y) (hf : formM (tameM m) = true) : Calls Tryd.prog 5 #[.agg cs.toArray, .slice A n c, .int .i64 cut] w fun e w' => e = .returned (.bool true) ∧ Below w.heap.size w w' := by
  have HT := Lib.hid hT
  have HF := Lib.hid hf
  have HYY := Lib.hid hY
  have HN := Lib.hid hn
  clear hT hf hY hn
  go_enter Tryd.func5, Tryd.ntmps5
  go_upto_region 0 with (fail)
  refine wp_region_lit ?_
  refine wpList_plain rfl (fun K hK => ?_)
  go_simp
  refine hK _ _ ?_
  clear hK K
  have b1 := Blk.new w 25 cs
  have hb1 : Below w.heap.size w (w.alloc (.cells cs.toArray 25)) := (Below.refl _ _).alloc (Nat.le_refl _) _
  have h1 := h.below hb1
  obtain ⟨g, hg1⟩ : ∃ g, g = w.heap.size := ⟨_, rfl⟩
  rw [← hg1] at b1
  simp only [← hg1]
  have HG := Lib.hid (Nat.le_of_eq hg1.symm)
  clear h hg1
  generalize w.alloc (.cells cs.toArray 25) = w1 at *
  try simp only [Act.put, List.setIfInBounds_toArray, List.set_cons_zero, List.set_cons_succ]
  go_upto_region 1 with (fail)
  refine wp_region_lit ?_
  refine wpList_load_mid rfl 25 (.tmp 3) rfl g 0 rfl cs _ (rangeAt_of_blk b1) Tryd.underlying25 rfl (infoR.trans (by rw [h1.len])) ?_
  try simp only [Act.put, List.setIfInBounds_toArray, List.set_cons_zero, List.set_cons_succ]
  refine wpList_plain rfl (fun K hK0 => ?_)
  have hK := Lib.hid hK0
  clear hK0
  go_simp
  go_at_call 9
  refine (tame_e m cs _ h1).mono ?_
  rintro e w2 ⟨cs2, rfl, hm2, hb2⟩
  try go_wp2_with fail
  refine hK.out _ _ ?_
  clear hK K
  try simp only [Act.put, List.setIfInBounds_toArray, List.set_cons_zero, List.set_cons_succ]
  have b2 := b1.below hb2 b1.lt
  obtain ⟨M, hM⟩ : ∃ M, tameM m = M := ⟨_, rfl⟩
  have HSM := Lib.hid (show Small M by rw [← hM]; exact small_tame m)
  rw [hM] at hm2 HF
  refine wpList_store_blk rfl 25 (.tmp 3) (.tmp 16) rfl rfl g cs2 rfl rfl _ _ b2 (infoR.trans (by rw [hm2.rin.len])) (by rw [hm2.rin.len, h1.len]) hm2.rin.one ?_
  intro w3 b3 hg3
  try simp only [Act.put, List.setIfInBounds_toArray, List.set_cons_zero, List.set_cons_succ]
  replace hm2 := (hm2.kept hg3 b1.lt).rin
  have hb13 := hb1.trans ((hb2.mono hb1.size).trans (grown_below hg3 HG.out (Nat.le_trans hb1.size hb2.size)))
  clear hb2 hb1 hg3 b1 b2 h1 hM
  go_upto_region 2 with (fail)
  refine wp_region_lit ?_
  refine wpList_load_mid rfl 25 (.tmp 3) rfl g 0 rfl cs2 _ (rangeAt_of_blk b3) Tryd.underlying25 rfl (infoR.trans (by rw [hm2.len])) ?_
  try simp only [Act.put, List.setIfInBounds_toArray, List.set_cons_zero, List.set_cons_succ]
  refine wpList_plain rfl (fun K hK0 => ?_)
  have hK := Lib.hid hK0
  clear hK0
  go_simp
  go_at_call 10
  refine (to_e M cs2 _ hm2 HSM).mono ?_
  rintro e w4 ⟨cs4, rfl, hm4, hb4⟩
  try go_wp2_with fail
  refine hK.out _ _ ?_
  clear hK K
  try simp only [Act.put, List.setIfInBounds_toArray, List.set_cons_zero, List.set_cons_succ]
  have b4 := b3.below hb4 b3.lt
  replace hm2 := hm2.below hb4
  have hb14 := hb13.trans (hb4.mono hb13.size)
  clear hb4 hb13 b3
  refine wpList_plain rfl (fun K hK0 => ?_)
  have hK := Lib.hid hK0
  clear hK0
  go_simp
  go_at_call 11
  refine (write_1 M cs4 _ (HT.out.below hb14) hm4 HF.out).mono ?_
  rintro e w5 ⟨r, rfl, hB5, hb5⟩
  try go_wp2_with fail
  refine hK.out _ _ ?_
  clear hK K
  try simp only [Act.put, List.setIfInBounds_toArray, List.set_cons_zero, List.set_cons_succ]
  have b5 := b4.below hb5 b4.lt
  replace hm2 := hm2.below hb5
  have hb15 := hb14.trans (hb5.mono hb14.size)
  have HG4 := Lib.hid (show g < w4.heap.size from b4.lt)
  clear hb5 b4 hm4 hb14
  refine wpList_plain rfl (fun K hK => ?_)
  go_simp
  refine hK _ _ ?_
  clear hK K
  try simp only [Act.put, List.setIfInBounds_toArray, List.set_cons_zero, List.set_cons_succ]
  refine wpList_plain rfl (fun K hK => ?_)
  go_simp
  refine hK _ _ ?_
  clear hK K
  try simp only [Act.put, List.setIfInBounds_toArray, List.set_cons_zero, List.set_cons_succ]
  refine wpList_plain rfl (fun K hK => ?_)
  go_simp
  refine hK _ _ ?_
  clear hK K
  try simp only [Act.put, List.setIfInBounds_toArray, List.set_cons_zero, List.set_cons_succ]
  refine wpList_plain rfl (fun K hK => ?_)
  go_simp
  refine hK _ _ ?_
  clear hK K
  try simp only [Act.put, List.setIfInBounds_toArray, List.set_cons_zero, List.set_cons_succ]
  refine wpList_plain rfl (fun K hK => ?_)
  go_simp
  refine hK _ _ ?_
  clear hK K
  try simp only [Act.put, List.setIfInBounds_toArray, List.set_cons_zero, List.set_cons_succ]
  go_upto_region 5 with (go_at_call 13; refine (hellos_e _ (HT.out.below hb15)).mono ?_; rintro e w6 ⟨rfl, hb6⟩)
  have b6 := b5.below hb6 b5.lt
  have hm6 := hm2.below hb6
  have hb16 := hb15.trans (hb6.mono hb15.size)
  have hB6 := hB5.below hb6
  obtain ⟨WB, hW⟩ : ∃ W, wholeM M = W := ⟨_, rfl⟩
  rw [hW] at hB6
  have HW := Lib.hid hW
  obtain ⟨A7, c7, hr7, hB7⟩ := hB6
  have HSR := Lib.hid (show SlB w6 w6.heap.size r WB from ⟨A7, c7, hr7, hB7.toIn (Nat.le_refl _)⟩)
  have hYw := HYY.out.below hb16
  obtain ⟨q, hq, hqn, hrest⟩ := ix_min50 (n := n) (c := c) (by rw [← HN.out]; exact HYY.out.1) HYY.out.2.1
  have HQ := Lib.hid hrest
  have hql : (Y.take q).length = q := by rw [List.length_take, HN.out]; omega
  have HSY := Lib.hid (show SlB w6 w6.heap.size (.slice A q c) (Y.take q) from ⟨A, c, by rw [hql], in_weak (in_takeq hYw q) hb16.size⟩)
  have hlen := hm6.1
  have hwl := HelloMath.whole_length M
  have hbl := HelloMath.body_le HF.out hlen.1 hlen.2
  rw [hW] at hwl
  have HWL := Lib.hid (show 0 < WB.length ∧ WB.length ≤ 33000 by omega)
  have HLN2 := Lib.hid (show ([] : List UInt8).length + WB.length ≤ 1099511627776 by rw [List.length_nil]; omega)
  have HLN8 := Lib.hid (show ([] ++ WB).length + (Y.take q).length ≤ 1099511627776 by rw [List.nil_append, hql]; omega)
  obtain ⟨bz, hbz⟩ : ∃ bz, ([] ++ WB) ++ Y.take q = bz := ⟨_, rfl⟩
  have HBZ := Lib.hid hbz
  have HR := Lib.hid (show readBy saidM bz = (M, WB.length, 0) by rw [← hbz, List.nil_append, ← hW]; exact HelloMath.read_whole HelloMath.said_finds HF.out hlen.1 hlen.2 _)
  have H40 := Lib.hid (show bz.length ≤ 40000 by rw [← hbz, List.nil_append, List.length_append, hql]; omega)
  have HM6 := Lib.hid hm6
  have HB6 := Lib.hid b6
  clear b5 hm2 hb15 hb6 hB5 hW hr7 hB7 hYw hq hqn hrest hql hlen hwl hbl hbz hm6 b6 HYY
  refine wp_region_noPanic ?_
  refine wp_region_held_drew (S := fun V => Below w6.heap.size w6 V) (by kernel_rfl) (by exact below_drewN (Below.refl _ _) 1) (fun hHeld => ?_)
  refine wpAnyH_take (i := 1) (oi := ⟨_, _, _, _, _, _⟩) (v := ?_) rfl (by kernel_rfl) (by kernel_rfl) (by kernel_rfl) (fun _ _ _ h => h) (Or.inl ⟨by rfl, ?_⟩) hHeld ?_
  rotate_left 1
  · (intro W hSw; (try dsimp only at hSw); go_simp; try with_reducible rfl)
  try simp only [Act.put, List.setIfInBounds_toArray, List.set_cons_zero, List.set_cons_succ]
  refine wpAnyH_take (i := 3) (oi := ⟨_, _, _, _, _, _⟩) (v := ?_) rfl (by kernel_rfl) (by kernel_rfl) (by kernel_rfl) (fun _ _ _ h => h) (Or.inl ⟨by rfl, ?_⟩) hHeld ?_
  rotate_left 1
  · (intro W hSw; (try dsimp only at hSw); go_simp; try with_reducible rfl)
  try simp only [Act.put, List.setIfInBounds_toArray, List.set_cons_zero, List.set_cons_succ]
  refine wpAnyH_take (i := 4) (oi := ⟨_, _, _, _, _, _⟩) (v := ?_) rfl (by kernel_rfl) (by kernel_rfl) (by kernel_rfl) (fun _ _ _ h => h) (Or.inl ⟨by rfl, ?_⟩) hHeld ?_
  rotate_left 1
  · (intro W hSw; (try dsimp only at hSw); go_simp; try with_reducible rfl)
  try simp only [Act.put, List.setIfInBounds_toArray, List.set_cons_zero, List.set_cons_succ]
  refine wpAnyH_take (i := 5) (oi := ⟨_, _, _, _, _, _⟩) (v := ?_) rfl (by kernel_rfl) (by kernel_rfl) (by kernel_rfl) (fun _ _ _ h => h) (Or.inl ⟨by rfl, ?_⟩) hHeld ?_
  rotate_left 1
  · (intro W hSw; (try dsimp only at hSw); go_simp; try with_reducible rfl)
  try simp only [Act.put, List.setIfInBounds_toArray, List.set_cons_zero, List.set_cons_succ]
  refine wpAnyH_take (i := 6) (oi := ⟨_, _, _, _, _, _⟩) (v := ?_) rfl (by kernel_rfl) (by kernel_rfl) (by kernel_rfl) (fun _ _ _ h => h) (Or.inl ⟨by rfl, ?_⟩) hHeld ?_
  rotate_left 1
  · (intro W hSw; (try dsimp only at hSw); obtain ⟨q1, q2, q3, q4, q5, q6⟩ := HQ.out; go_simp; try with_reducible rfl)
  try simp only [Act.put, List.setIfInBounds_toArray, List.set_cons_zero, List.set_cons_succ]
  refine wpAnyH_take (i := 7) (oi := ⟨_, _, _, _, _, _⟩) (v := ?_) rfl (by kernel_rfl) (by kernel_rfl) (by kernel_rfl) (fun _ _ _ h => h) (Or.inl ⟨by rfl, ?_⟩) hHeld ?_
  rotate_left 1
  · (intro W hSw; (try dsimp only at hSw); obtain ⟨q1, q2, q3, q4, q5, q6⟩ := HQ.out; go_simp; try with_reducible rfl)
  try simp only [Act.put, List.setIfInBounds_toArray, List.set_cons_zero, List.set_cons_succ]
  refine wpAnyH_ready (rs := [0, 14]) (by kernel_rfl) (by simp) ?_
  refine AllReadyH.cons (o := ⟨_, _, _, _, _, _⟩) rfl (fun K hK => ?_) (AllReadyH.cons (o := ⟨_, _, _, _, _, _⟩) rfl (fun K hK => ?_) AllReadyH.nil)
  · skip
    rw [if_pos (by rfl)]
    refine wp_emptyV rfl w6.heap.size hHeld.size ?_
    intro v31 W7 hB31 hbn hoff
    refine hK.out _ _ (hHeld.trans (hbn.mono hHeld.size)) (fun hHeld => ?_)
    clear hK K hoff hbn
    try simp only [Act.put, List.setIfInBounds_toArray, List.set_cons_zero, List.set_cons_succ]
    refine wpAnyH_ready (rs := [2, 14]) (by kernel_rfl) (by simp) ?_
    refine AllReadyH.cons (o := ⟨_, _, _, _, _, _⟩) rfl (fun K hK => ?_) (AllReadyH.cons (o := ⟨_, _, _, _, _, _⟩) rfl (fun K hK => ?_) AllReadyH.nil)
    · skip
      rw [if_pos (by rfl)]
      refine wp_appF (.tmp 31) (.tmp 32) rfl w6.heap.size v31 _ [] WB rfl hB31 rfl ((HSR.out.below hHeld).sl hHeld.size) HLN2.out hHeld.size ?_
      intro v33 W8 hB33 hbn hoff
      refine hK.out _ _ (hHeld.trans hbn) (fun hHeld => ?_)
      clear hK K hoff hbn hB31
      try simp only [Act.put, List.setIfInBounds_toArray, List.set_cons_zero, List.set_cons_succ]
      refine wpAnyH_ready (rs := [8, 14]) (by kernel_rfl) (by simp) ?_
      refine AllReadyH.cons (o := ⟨_, _, _, _, _, _⟩) rfl (fun K hK => ?_) (AllReadyH.cons (o := ⟨_, _, _, _, _, _⟩) rfl (fun K hK => ?_) AllReadyH.nil)
      · skip
        rw [if_pos (by rfl)]
        refine wp_appF (.tmp 33) (.tmp 38) rfl w6.heap.size v33 _ ([] ++ WB) (Y.take q) rfl hB33 rfl ((HSY.out.below hHeld).sl hHeld.size) HLN8.out hHeld.size ?_
        intro v39 W9 hB39 hbn hoff
        refine hK.out _ _ (hHeld.trans hbn) (fun hHeld => ?_)
        clear hK K hoff hbn hB33
        rw [HBZ.out] at hB39
        try simp only [Act.put, List.setIfInBounds_toArray, List.set_cons_zero, List.set_cons_succ]
        refine wpAnyH_ready (rs := [9, 14]) (by kernel_rfl) (by simp) ?_
        refine AllReadyH.cons (o := ⟨_, _, _, _, _, _⟩) rfl (fun K hK => ?_) (AllReadyH.cons (o := ⟨_, _, _, _, _, _⟩) rfl (fun K hK => ?_) AllReadyH.nil)
        · skip
          go_simp
          go_at_call 16
          refine (read_e bz v39 _ (HT.out.below (hb16.trans (hHeld.mono hb16.size))) hB39.sl H40).mono ?_
          rintro e W10 ⟨cs9, rfl, hm9, hbn⟩
          try go_wp2_with fail
          rw [HR.out] at hm9
          have hz0 : ((0 : Nat) : Int) = 0 := rfl
          simp only [HR.out, hz0]
          clear hz0
          refine hK.out _ _ (hHeld.trans (hbn.mono hHeld.size)) (fun hHeld => ?_)
          clear hK K hbn hB39
          try simp only [Act.put, List.setIfInBounds_toArray, List.set_cons_zero, List.set_cons_succ]
          refine wpAnyH_take (i := 10) (oi := ⟨_, _, _, _, _, _⟩) (v := ?_) rfl (by kernel_rfl) (by kernel_rfl) (by kernel_rfl) (fun _ _ _ h => h) (Or.inl ⟨by rfl, ?_⟩) hHeld ?_
          rotate_left 1
          · (intro W hSw; (try dsimp only at hSw); go_simp; try with_reducible rfl)
          try simp only [Act.put, List.setIfInBounds_toArray, List.set_cons_zero, List.set_cons_succ]
          refine wpAnyH_take (i := 11) (oi := ⟨_, _, _, _, _, _⟩) (v := ?_) rfl (by kernel_rfl) (by kernel_rfl) (by kernel_rfl) (fun _ _ _ h => h) (Or.inl ⟨by rfl, ?_⟩) hHeld ?_
          rotate_left 1
          · (intro W hSw; (try dsimp only at hSw); go_simp; try with_reducible rfl)
          try simp only [Act.put, List.setIfInBounds_toArray, List.set_cons_zero, List.set_cons_succ]
          refine wpAnyH_take (i := 12) (oi := ⟨_, _, _, _, _, _⟩) (v := ?_) rfl (by kernel_rfl) (by kernel_rfl) (by kernel_rfl) (fun _ _ _ h => h) (Or.inl ⟨by rfl, ?_⟩) hHeld ?_
          rotate_left 1
          · (intro W hSw; (try dsimp only at hSw); go_simp; try with_reducible rfl)
          try simp only [Act.put, List.setIfInBounds_toArray, List.set_cons_zero, List.set_cons_succ]
          refine wpAnyH_take (i := 13) (oi := ⟨_, _, _, _, _, _⟩) (v := ?_) rfl (by kernel_rfl) (by kernel_rfl) (by kernel_rfl) (fun _ _ _ h => h) (Or.inl ⟨by rfl, ?_⟩) hHeld ?_
          rotate_left 1
          · (intro W hSw; (try dsimp only at hSw); go_simp; try with_reducible rfl)
          try simp only [Act.put, List.setIfInBounds_toArray, List.set_cons_zero, List.set_cons_succ]
          refine wpAnyH_ready (rs := [14]) (by kernel_rfl) (by simp) ?_
          refine AllReadyH.cons (o := ⟨_, _, _, _, _, _⟩) rfl (fun K hK => ?_) AllReadyH.nil
          rw [if_pos (by rfl)]
          refine wp_new_blk 30 rfl _ zeroMsg ?_
          intro g9 W11 hg9 b9 hbn
          have HG9 := Lib.hid (show w6.heap.size ≤ g9 by rw [hg9]; exact hHeld.size)
          have hmE := hm9.mvs
          have HML := Lib.hid hm9.len
          have HMO := Lib.hid hm9.one
          have hbE := hbn
          have hgE := Nat.le_of_eq hg9.symm
          clear hm9
          refine hK.out _ _ (hHeld.trans (hbn.mono hHeld.size)) (fun hHeld => ?_)
          clear hK K hbn hg9
          try simp only [Act.put, List.setIfInBounds_toArray, List.set_cons_zero, List.set_cons_succ]
          refine wpAnyH_ready (rs := [15]) (by kernel_rfl) (by simp) ?_
          refine AllReadyH.cons (o := ⟨_, _, _, _, _, _⟩) rfl (fun K hK => ?_) AllReadyH.nil
          rw [if_pos (by rfl)]
          refine wp_store_blk 30 (.tmp 9) (.tmp 41) rfl rfl g9 cs9 rfl rfl _ _ b9 (infoMsg.trans (by rw [HML.out])) (by rw [HML.out, mC_length rfl rfl]) HMO.out ?_
          intro wE b9 hgs
          have HME := Lib.hid (show MVs wE M cs9 from hmE.below (hbE.trans (grown_below hgs hgE hbE.size)))
          clear hmE hbE hgE
          refine hK.out _ _ (hHeld.trans (grown_below hgs HG9.out hHeld.size)) (fun hHeld => ?_)
          clear hK K hgs
          try simp only [Act.put, List.setIfInBounds_toArray, List.set_cons_zero, List.set_cons_succ]
          refine wpAnyH_take (i := 16) (oi := ⟨_, _, _, _, _, _⟩) (v := ?_) rfl (by kernel_rfl) (by kernel_rfl) (by kernel_rfl) (fun _ _ _ h => h) (Or.inl ⟨by rfl, ?_⟩) hHeld ?_
          rotate_left 1
          · (intro W hSw; (try dsimp only at hSw); go_simp; try with_reducible rfl)
          try simp only [Act.put, List.setIfInBounds_toArray, List.set_cons_zero, List.set_cons_succ]
          refine wpAnyH_take (i := 17) (oi := ⟨_, _, _, _, _, _⟩) (v := ?_) rfl (by kernel_rfl) (by kernel_rfl) (by kernel_rfl) (fun _ _ _ h => h) (Or.inl ⟨by rfl, ?_⟩) hHeld ?_
          rotate_left 1
          · (intro W hSw; (try dsimp only at hSw); go_simp; try with_reducible rfl)
          try simp only [Act.put, List.setIfInBounds_toArray, List.set_cons_zero, List.set_cons_succ]
          refine wpAnyH_done (by kernel_rfl) ?_ _
          refine NoPanic.normal ?_
          have HEE := Lib.hid (hb16.trans (hHeld.mono hb16.size))
          have HSRE := Lib.hid (HSR.out.below (show Below w6.heap.size w6 wE from hHeld))
          have HE6 := Lib.hid (show Below w6.heap.size w6 wE from hHeld)
          have HB9 := Lib.hid b9
          obtain ⟨l, hl⟩ : ∃ l, WB.length = l := ⟨_, rfl⟩
          obtain ⟨k, k1, k2, k3, k4, k5, k6, k7, k8, k9⟩ := ix_cutn cut l (by rw [← hl]; exact HWL.out.1) (by rw [← hl]; have := HWL.out.2; omega)
          obtain ⟨A7, c7, hr7, -⟩ := HSR.out
          subst hr7
          simp only [hl] at HSRE ⊢
          have HK := Lib.hid (show k < WB.length by rw [hl]; exact k5)
          have HLL := Lib.hid hl
          have hl0 : ¬ l = 0 := by omega
          clear hHeld b9 hl k5 HSR
          go_upto_region 6 with (fail)
          refine wp_region_lit ?_
          refine wpList_plain rfl (fun K hK => ?_)
          go_simp
          refine hK _ _ ?_
          clear hK K
          try simp only [Act.put, List.setIfInBounds_toArray, List.set_cons_zero, List.set_cons_succ]
          refine wpList_plain rfl (fun K hK => ?_)
          go_simp
          refine hK _ _ ?_
          clear hK K
          try simp only [Act.put, List.setIfInBounds_toArray, List.set_cons_zero, List.set_cons_succ]
          refine wpList_plain rfl (fun K hK => ?_)
          go_simp
          refine hK _ _ ?_
          clear hK K
          try simp only [Act.put, List.setIfInBounds_toArray, List.set_cons_zero, List.set_cons_succ]
          refine wpList_plain rfl (fun K hK => ?_)
          go_simp
          refine hK _ _ ?_
          clear hK K
          try simp only [Act.put, List.setIfInBounds_toArray, List.set_cons_zero, List.set_cons_succ]
          refine wpList_plain rfl (fun K hK => ?_)
          go_simp
          refine hK _ _ ?_
          clear hK K
          try simp only [Act.put, List.setIfInBounds_toArray, List.set_cons_zero, List.set_cons_succ]
          refine wpList_plain rfl (fun K hK => ?_)
          go_simp
          refine hK _ _ ?_
          clear hK K
          try simp only [Act.put, List.setIfInBounds_toArray, List.set_cons_zero, List.set_cons_succ]
          refine wpList_plain rfl (fun K hK => ?_)
          go_simp
          refine hK _ _ ?_
          clear hK K
          try simp only [Act.put, List.setIfInBounds_toArray, List.set_cons_zero, List.set_cons_succ]
          refine wpList_plain rfl (fun K hK => ?_)
          go_simp
          refine hK _ _ ?_
          clear hK K
          try simp only [Act.put, List.setIfInBounds_toArray, List.set_cons_zero, List.set_cons_succ]
          clear k1 k2 k3 k4 k6 k7 k8 k9 hl0
          refine wpList_sliceH rfl rfl rfl HSRE.out k rfl (Nat.le_of_lt HK.out) ?_
          intro v53 hv53
          try simp only [Act.put, List.setIfInBounds_toArray, List.set_cons_zero, List.set_cons_succ]
          obtain ⟨bt, hbt⟩ : ∃ b, WB.take k = b := ⟨_, rfl⟩
          rw [hbt] at hv53
          have HRT := Lib.hid (show readBy saidM bt = (zeroM 0, 0, 3) by rw [← hbt, ← HW.out]; exact HelloMath.read_cut HF.out HM6.out.1.1 HM6.out.1.2 (by rw [HW.out]; exact HK.out))
          have H40T := Lib.hid (show bt.length ≤ 40000 by rw [← hbt, List.length_take]; have := HWL.out; omega)
          clear hbt
          refine wpList_plain rfl (fun K hK0 => ?_)
          have hK := Lib.hid hK0
          clear hK0
          go_simp
          go_at_call 16
          refine (read_e bt v53 _ (HT.out.below HEE.out) (hv53.sl HE6.out.size) H40T).mono ?_
          rintro e w10 ⟨cs10, rfl, hm10, hb10⟩
          try go_wp2_with fail
          refine hK.out _ _ ?_
          clear hK K
          try simp only [Act.put, List.setIfInBounds_toArray, List.set_cons_zero, List.set_cons_succ]
          rw [HRT.out] at hm10
          have hz0 : ((0 : Nat) : Int) = 0 := rfl
          simp only [HRT.out, hz0]
          clear hz0 hv53
          refine wpList_plain rfl (fun K hK => ?_)
          go_simp
          refine hK _ _ ?_
          clear hK K
          try simp only [Act.put, List.setIfInBounds_toArray, List.set_cons_zero, List.set_cons_succ]
          refine wpList_plain rfl (fun K hK => ?_)
          go_simp
          refine hK _ _ ?_
          clear hK K
          try simp only [Act.put, List.setIfInBounds_toArray, List.set_cons_zero, List.set_cons_succ]
          refine wpList_plain rfl (fun K hK => ?_)
          go_simp
          refine hK _ _ ?_
          clear hK K
          try simp only [Act.put, List.setIfInBounds_toArray, List.set_cons_zero, List.set_cons_succ]
          refine wpList_plain rfl (fun K hK => ?_)
          go_simp
          refine hK _ _ ?_
          clear hK K
          try simp only [Act.put, List.setIfInBounds_toArray, List.set_cons_zero, List.set_cons_succ]
          refine wpList_new_blk rfl 30 rfl _ zeroMsg ?_
          intro g12 w12 hg12 b12 hb12
          try simp only [Act.put, List.setIfInBounds_toArray, List.set_cons_zero, List.set_cons_succ]
          have HG12 := Lib.hid (show wE.heap.size ≤ g12 by rw [hg12]; exact hb10.size)
          have hbx := hb10.trans (hb12.mono hb10.size)
          refine wpList_store_blk rfl 30 (.tmp 12) (.tmp 55) rfl rfl g12 cs10 rfl rfl _ _ b12 (infoMsg.trans (by rw [hm10.len])) (by rw [hm10.len, mC_length rfl rfl]) hm10.one ?_
          intro w13 b13 hg13
          try simp only [Act.put, List.setIfInBounds_toArray, List.set_cons_zero, List.set_cons_succ]
          have hby := hbx.trans (grown_below hg13 HG12.out hbx.size)
          have HB13 := Lib.hid (HEE.out.trans (hby.mono HEE.out.size))
          have HME13 := Lib.hid (HME.out.below hby)
          have HM13 := Lib.hid ((HM6.out.below HE6.out).below hby)
          have HL9 := Lib.hid (fun (V : World) (hV : Below w13.heap.size w13 V) => rangeAt_of_blk ((HB9.out.below hby HB9.out.lt).below hV (HB9.out.below hby HB9.out.lt).lt))
          have HL3 := Lib.hid (fun (V : World) (hV : Below w13.heap.size w13 V) => rangeAt_of_blk (((HB6.out.below HE6.out HB6.out.lt).below hby (HB6.out.below HE6.out HB6.out.lt).lt).below hV ((HB6.out.below HE6.out HB6.out.lt).below hby (HB6.out.below HE6.out HB6.out.lt).lt).lt))
          have HNC := Lib.hid (show M.certs.length ≤ 1000 by have := HSM.out.2.2.2.2.2.1; omega)
          have HIL := Lib.hid HM6.out.len
          clear hm10 hb10 hg12 b12 hb12 hbx b13 hg13 hby
          refine wpList_plain rfl (fun K hK => ?_)
          go_simp
          refine hK _ _ ?_
          clear hK K
          try simp only [Act.put, List.setIfInBounds_toArray, List.set_cons_zero, List.set_cons_succ]
          refine wpList_plain rfl (fun K hK => ?_)
          go_simp
          refine hK _ _ ?_
          clear hK K
          try simp only [Act.put, List.setIfInBounds_toArray, List.set_cons_zero, List.set_cons_succ]
          go_upto_region 7 with (fail)
          refine wp_region_noPanic ?_
          refine wp_region_held_drew (S := fun V => Below w13.heap.size w13 V) (by kernel_rfl) (by exact below_drewN (Below.refl _ _) 1) (fun hHeld => ?_)
          refine wpAnyH_take (i := 0) (oi := ⟨_, _, _, _, _, _⟩) (v := ?_) rfl (by kernel_rfl) (by kernel_rfl) (by kernel_rfl) (fun _ _ _ h => h) (Or.inl ⟨by rfl, ?_⟩) hHeld ?_
          rotate_left 1
          · (intro W hSw; (try dsimp only at hSw); go_simp; try with_reducible rfl)
          try simp only [Act.put, List.setIfInBounds_toArray, List.set_cons_zero, List.set_cons_succ]
          refine wpAnyH_take (i := 1) (oi := ⟨_, _, _, _, _, _⟩) (v := ?_) rfl (by kernel_rfl) (by kernel_rfl) (by kernel_rfl) (fun _ _ _ h => h) (Or.inl ⟨by rfl, ?_⟩) hHeld ?_
          rotate_left 1
          · (intro W hSw; (try dsimp only at hSw); go_simp; try with_reducible rfl)
          try simp only [Act.put, List.setIfInBounds_toArray, List.set_cons_zero, List.set_cons_succ]
          refine wpAnyH_take (i := 2) (oi := ⟨_, _, _, _, _, _⟩) (v := ?_) rfl (by kernel_rfl) (by kernel_rfl) (by kernel_rfl) (fun _ _ _ h => h) (Or.inl ⟨by rfl, ?_⟩) hHeld ?_
          rotate_left 1
          · (intro W hSw; (try dsimp only at hSw); go_simp; try with_reducible rfl)
          try simp only [Act.put, List.setIfInBounds_toArray, List.set_cons_zero, List.set_cons_succ]
          refine wpAnyH_take (i := 3) (oi := ⟨_, _, _, _, _, _⟩) (v := ?_) rfl (by kernel_rfl) (by kernel_rfl) (by kernel_rfl) (fun _ _ _ h => h) (Or.inl ⟨by rfl, ?_⟩) hHeld ?_
          rotate_left 1
          · (intro W hSw; (try dsimp only at hSw); go_simp; try with_reducible rfl)
          try simp only [Act.put, List.setIfInBounds_toArray, List.set_cons_zero, List.set_cons_succ]
          refine wpAnyH_take (i := 4) (oi := ⟨_, _, _, _, _, _⟩) (v := ?_) rfl (by kernel_rfl) (by kernel_rfl) (by kernel_rfl) (fun _ _ _ h => h) (Or.inl ⟨by rfl, ?_⟩) hHeld ?_
          rotate_left 1
          · (intro W hSw; (try dsimp only at hSw); go_simp; try with_reducible rfl)
          try simp only [Act.put, List.setIfInBounds_toArray, List.set_cons_zero, List.set_cons_succ]
          refine wpAnyH_take (i := 5) (oi := ⟨_, _, _, _, _, _⟩) (v := ?_) rfl (by kernel_rfl) (by kernel_rfl) (by kernel_rfl) (fun _ _ _ h => h) (Or.inl ⟨by rfl, ?_⟩) hHeld ?_
          rotate_left 1
          · (intro W hSw; (try dsimp only at hSw); go_simp; try with_reducible rfl)
          try simp only [Act.put, List.setIfInBounds_toArray, List.set_cons_zero, List.set_cons_succ]
          refine wpAnyH_take (i := 6) (oi := ⟨_, _, _, _, _, _⟩) (v := ?_) rfl (by kernel_rfl) (by kernel_rfl) (by kernel_rfl) (fun _ _ _ h => h) (Or.inl ⟨by rfl, ?_⟩) hHeld ?_
          rotate_left 1
          · (intro W hSw; (try dsimp only at hSw); go_simp; try with_reducible rfl)
          try simp only [Act.put, List.setIfInBounds_toArray, List.set_cons_zero, List.set_cons_succ]
          refine wpAnyH_take (i := 7) (oi := ⟨_, _, _, _, _, _⟩) (v := ?_) rfl (by kernel_rfl) (by kernel_rfl) (by kernel_rfl) (fun _ _ _ h => h) (Or.inl ⟨by rfl, ?_⟩) hHeld ?_
          rotate_left 1
          · (intro W hSw; (try dsimp only at hSw); go_simp; try with_reducible rfl)
          try simp only [Act.put, List.setIfInBounds_toArray, List.set_cons_zero, List.set_cons_succ]
          refine wpAnyH_take (i := 8) (oi := ⟨_, _, _, _, _, _⟩) (v := ?_) rfl (by kernel_rfl) (by kernel_rfl) (by kernel_rfl) (fun _ _ _ h => h) (Or.inl ⟨by rfl, ?_⟩) hHeld ?_
          rotate_left 1
          · (intro W hSw; (try dsimp only at hSw); go_simp; try with_reducible rfl)
          try simp only [Act.put, List.setIfInBounds_toArray, List.set_cons_zero, List.set_cons_succ]
          refine wpAnyH_take (i := 9) (oi := ⟨_, _, _, _, _, _⟩) (v := ?_) rfl (by kernel_rfl) (by kernel_rfl) (by kernel_rfl) (fun _ _ _ h => h) (Or.inl ⟨by rfl, ?_⟩) hHeld ?_
          rotate_left 1
          · (intro W hSw; (try dsimp only at hSw); refine exec_load_mid 30 (.tmp 9) ?_ g9 0 ?_ cs9 _ (HL9.out W hSw) Tryd.underlying30 rfl (infoMsg.trans (by rw [HML.out])) <;> rfl)
          try simp only [Act.put, List.setIfInBounds_toArray, List.set_cons_zero, List.set_cons_succ]
          refine wpAnyH_take (i := 11) (oi := ⟨_, _, _, _, _, _⟩) (v := ?_) rfl (by kernel_rfl) (by kernel_rfl) (by kernel_rfl) (fun _ _ _ h => h) (Or.inl ⟨by rfl, ?_⟩) hHeld ?_
          rotate_left 1
          · (intro W hSw; (try dsimp only at hSw); refine exec_load_mid 25 (.tmp 3) ?_ g 0 ?_ cs2 _ (HL3.out W hSw) Tryd.underlying25 rfl (infoR.trans (by rw [HIL.out])) <;> rfl)
          try simp only [Act.put, List.setIfInBounds_toArray, List.set_cons_zero, List.set_cons_succ]
          refine wpAnyH_ready (rs := [10]) (by kernel_rfl) (by simp) ?_
          refine AllReadyH.cons (o := ⟨_, _, _, _, _, _⟩) rfl (fun K hK => ?_) AllReadyH.nil
          go_simp
          go_at_call 15
          refine (from_e M cs9 _ (HME13.out.below hHeld) HNC).mono ?_
          rintro e w14 ⟨cs14, rfl, hm14, hbn⟩
          try go_wp2_with fail
          refine hK.out _ _ (hHeld.trans (hbn.mono hHeld.size)) (fun hHeld => ?_)
          clear hK K hbn
          try simp only [Act.put, List.setIfInBounds_toArray, List.set_cons_zero, List.set_cons_succ]
          refine wpAnyH_ready (rs := [12]) (by kernel_rfl) (by simp) ?_
          refine AllReadyH.cons (o := ⟨_, _, _, _, _, _⟩) rfl (fun K hK => ?_) AllReadyH.nil
          go_simp
          go_at_call 14
          refine (same_e M cs14 cs2 _ hm14 (HM13.out.below hHeld)).mono ?_
          rintro e w15 ⟨rfl, hbn⟩
          try go_wp2_with fail
          refine hK.out _ _ (hHeld.trans (hbn.mono hHeld.size)) (fun hHeld => ?_)
          clear hK K hbn hm14
          try simp only [Act.put, List.setIfInBounds_toArray, List.set_cons_zero, List.set_cons_succ]
          refine wpAnyH_take (i := 13) (oi := ⟨_, _, _, _, _, _⟩) (v := ?_) rfl (by kernel_rfl) (by kernel_rfl) (by kernel_rfl) (fun _ _ _ h => h) (Or.inl ⟨by rfl, ?_⟩) hHeld ?_
          rotate_left 1
          · (intro W hSw; (try dsimp only at hSw); go_simp; try with_reducible rfl)
          try simp only [Act.put, List.setIfInBounds_toArray, List.set_cons_zero, List.set_cons_succ]
          refine wpAnyH_take (i := 14) (oi := ⟨_, _, _, _, _, _⟩) (v := ?_) rfl (by kernel_rfl) (by kernel_rfl) (by kernel_rfl) (fun _ _ _ h => h) (Or.inl ⟨by rfl, ?_⟩) hHeld ?_
          rotate_left 1
          · (intro W hSw; (try dsimp only at hSw); go_simp; try with_reducible rfl)
          try simp only [Act.put, List.setIfInBounds_toArray, List.set_cons_zero, List.set_cons_succ]
          refine wpAnyH_take (i := 15) (oi := ⟨_, _, _, _, _, _⟩) (v := ?_) rfl (by kernel_rfl) (by kernel_rfl) (by kernel_rfl) (fun _ _ _ h => h) (Or.inl ⟨by rfl, ?_⟩) hHeld ?_
          rotate_left 1
          · (intro W hSw; (try dsimp only at hSw); go_simp; try with_reducible rfl)
          try simp only [Act.put, List.setIfInBounds_toArray, List.set_cons_zero, List.set_cons_succ]
          refine wpAnyH_take (i := 16) (oi := ⟨_, _, _, _, _, _⟩) (v := ?_) rfl (by kernel_rfl) (by kernel_rfl) (by kernel_rfl) (fun _ _ _ h => h) (Or.inl ⟨by rfl, ?_⟩) hHeld ?_
          rotate_left 1
          · (intro W hSw; (try dsimp only at hSw); go_simp; try with_reducible rfl)
          try simp only [Act.put, List.setIfInBounds_toArray, List.set_cons_zero, List.set_cons_succ]
          refine wpAnyH_take (i := 17) (oi := ⟨_, _, _, _, _, _⟩) (v := ?_) rfl (by kernel_rfl) (by kernel_rfl) (by kernel_rfl) (fun _ _ _ h => h) (Or.inl ⟨by rfl, ?_⟩) hHeld ?_
          rotate_left 1
          · (intro W hSw; (try dsimp only at hSw); go_simp; try with_reducible rfl)
          try simp only [Act.put, List.setIfInBounds_toArray, List.set_cons_zero, List.set_cons_succ]
          refine wpAnyH_take (i := 18) (oi := ⟨_, _, _, _, _, _⟩) (v := ?_) rfl (by kernel_rfl) (by kernel_rfl) (by kernel_rfl) (fun _ _ _ h => h) (Or.inl ⟨by rfl, ?_⟩) hHeld ?_
          rotate_left 1
          · (intro W hSw; (try dsimp only at hSw); go_simp; try with_reducible rfl)
          try simp only [Act.put, List.setIfInBounds_toArray, List.set_cons_zero, List.set_cons_succ]
          refine wpAnyH_done (by kernel_rfl) ?_ _
          refine NoPanic.normal ?_
          go_wp2
          go_ret
          exact ⟨rfl, HB13.out.trans (hHeld.mono HB13.out.size)⟩
        · skip
          rw [if_pos (by rfl)]
          refine wp_new_blk 30 rfl _ zeroMsg ?_
          intro g9 W10 hg9 b9 hbn
          have HG9 := Lib.hid (show w6.heap.size ≤ g9 by rw [hg9]; exact hHeld.size)
          have ho39 := off_new hB39
          rw [← hg9] at ho39
          replace hB39 := hB39.below hbn
          refine hK.out _ _ (hHeld.trans (hbn.mono hHeld.size)) (fun hHeld => ?_)
          clear hK K hbn hg9
          try simp only [Act.put, List.setIfInBounds_toArray, List.set_cons_zero, List.set_cons_succ]
          refine wpAnyH_ready (rs := [9]) (by kernel_rfl) (by simp) ?_
          refine AllReadyH.cons (o := ⟨_, _, _, _, _, _⟩) rfl (fun K hK => ?_) AllReadyH.nil
          go_simp
          go_at_call 16
          refine (read_e bz v39 _ (HT.out.below (hb16.trans (hHeld.mono hb16.size))) hB39.sl H40).mono ?_
          rintro e W11 ⟨cs9, rfl, hm9, hbn⟩
          try go_wp2_with fail
          rw [HR.out] at hm9
          have hz0 : ((0 : Nat) : Int) = 0 := rfl
          simp only [HR.out, hz0]
          clear hz0
          have h9D := b9.lt
          replace b9 := b9.below hbn b9.lt
          clear ho39
          refine hK.out _ _ (hHeld.trans (hbn.mono hHeld.size)) (fun hHeld => ?_)
          clear hK K hbn hB39
          try simp only [Act.put, List.setIfInBounds_toArray, List.set_cons_zero, List.set_cons_succ]
          refine wpAnyH_take (i := 10) (oi := ⟨_, _, _, _, _, _⟩) (v := ?_) rfl (by kernel_rfl) (by kernel_rfl) (by kernel_rfl) (fun _ _ _ h => h) (Or.inl ⟨by rfl, ?_⟩) hHeld ?_
          rotate_left 1
          · (intro W hSw; (try dsimp only at hSw); go_simp; try with_reducible rfl)
          try simp only [Act.put, List.setIfInBounds_toArray, List.set_cons_zero, List.set_cons_succ]
          refine wpAnyH_take (i := 11) (oi := ⟨_, _, _, _, _, _⟩) (v := ?_) rfl (by kernel_rfl) (by kernel_rfl) (by kernel_rfl) (fun _ _ _ h => h) (Or.inl ⟨by rfl, ?_⟩) hHeld ?_
          rotate_left 1
          · (intro W hSw; (try dsimp only at hSw); go_simp; try with_reducible rfl)
          try simp only [Act.put, List.setIfInBounds_toArray, List.set_cons_zero, List.set_cons_succ]
          refine wpAnyH_take (i := 12) (oi := ⟨_, _, _, _, _, _⟩) (v := ?_) rfl (by kernel_rfl) (by kernel_rfl) (by kernel_rfl) (fun _ _ _ h => h) (Or.inl ⟨by rfl, ?_⟩) hHeld ?_
          rotate_left 1
          · (intro W hSw; (try dsimp only at hSw); go_simp; try with_reducible rfl)
          try simp only [Act.put, List.setIfInBounds_toArray, List.set_cons_zero, List.set_cons_succ]
          refine wpAnyH_take (i := 13) (oi := ⟨_, _, _, _, _, _⟩) (v := ?_) rfl (by kernel_rfl) (by kernel_rfl) (by kernel_rfl) (fun _ _ _ h => h) (Or.inl ⟨by rfl, ?_⟩) hHeld ?_
          rotate_left 1
          · (intro W hSw; (try dsimp only at hSw); go_simp; try with_reducible rfl)
          try simp only [Act.put, List.setIfInBounds_toArray, List.set_cons_zero, List.set_cons_succ]
          refine wpAnyH_ready (rs := [15]) (by kernel_rfl) (by simp) ?_
          refine AllReadyH.cons (o := ⟨_, _, _, _, _, _⟩) rfl (fun K hK => ?_) AllReadyH.nil
          rw [if_pos (by rfl)]
          refine wp_store_blk 30 (.tmp 9) (.tmp 41) rfl rfl g9 cs9 rfl rfl _ _ b9 (infoMsg.trans (by rw [hm9.len])) (by rw [hm9.len, mC_length rfl rfl]) hm9.one ?_
          intro wE b9 hgs
          have HML := Lib.hid hm9.len
          have HMO := Lib.hid hm9.one
          have HME := Lib.hid (show MVs wE M cs9 from (hm9.kept hgs h9D).mvs)
          clear hm9 h9D
          refine hK.out _ _ (hHeld.trans (grown_below hgs HG9.out hHeld.size)) (fun hHeld => ?_)
          clear hK K hgs
          try simp only [Act.put, List.setIfInBounds_toArray, List.set_cons_zero, List.set_cons_succ]
          refine wpAnyH_take (i := 16) (oi := ⟨_, _, _, _, _, _⟩) (v := ?_) rfl (by kernel_rfl) (by kernel_rfl) (by kernel_rfl) (fun _ _ _ h => h) (Or.inl ⟨by rfl, ?_⟩) hHeld ?_
          rotate_left 1
          · (intro W hSw; (try dsimp only at hSw); go_simp; try with_reducible rfl)
          try simp only [Act.put, List.setIfInBounds_toArray, List.set_cons_zero, List.set_cons_succ]
          refine wpAnyH_take (i := 17) (oi := ⟨_, _, _, _, _, _⟩) (v := ?_) rfl (by kernel_rfl) (by kernel_rfl) (by kernel_rfl) (fun _ _ _ h => h) (Or.inl ⟨by rfl, ?_⟩) hHeld ?_
          rotate_left 1
          · (intro W hSw; (try dsimp only at hSw); go_simp; try with_reducible rfl)
          try simp only [Act.put, List.setIfInBounds_toArray, List.set_cons_zero, List.set_cons_succ]
          refine wpAnyH_done (by kernel_rfl) ?_ _
          refine NoPanic.normal ?_
          have HEE := Lib.hid (hb16.trans (hHeld.mono hb16.size))
          have HSRE := Lib.hid (HSR.out.below (show Below w6.heap.size w6 wE from hHeld))
          have HE6 := Lib.hid (show Below w6.heap.size w6 wE from hHeld)
          have HB9 := Lib.hid b9
          obtain ⟨l, hl⟩ : ∃ l, WB.length = l := ⟨_, rfl⟩
          obtain ⟨k, k1, k2, k3, k4, k5, k6, k7, k8, k9⟩ := ix_cutn cut l (by rw [← hl]; exact HWL.out.1) (by rw [← hl]; have := HWL.out.2; omega)
          obtain ⟨A7, c7, hr7, -⟩ := HSR.out
          subst hr7
          simp only [hl] at HSRE ⊢
          have HK := Lib.hid (show k < WB.length by rw [hl]; exact k5)
          have HLL := Lib.hid hl
          have hl0 : ¬ l = 0 := by omega
          clear hHeld b9 hl k5 HSR
          go_upto_region 6 with (fail)
          refine wp_region_lit ?_
          refine wpList_plain rfl (fun K hK => ?_)
          go_simp
          refine hK _ _ ?_
          clear hK K
          try simp only [Act.put, List.setIfInBounds_toArray, List.set_cons_zero, List.set_cons_succ]
          refine wpList_plain rfl (fun K hK => ?_)
          go_simp
          refine hK _ _ ?_
          clear hK K
          try simp only [Act.put, List.setIfInBounds_toArray, List.set_cons_zero, List.set_cons_succ]
          refine wpList_plain rfl (fun K hK => ?_)
          go_simp
          refine hK _ _ ?_
          clear hK K
          try simp only [Act.put, List.setIfInBounds_toArray, List.set_cons_zero, List.set_cons_succ]
          refine wpList_plain rfl (fun K hK => ?_)
          go_simp
          refine hK _ _ ?_
          clear hK K
          try simp only [Act.put, List.setIfInBounds_toArray, List.set_cons_zero, List.set_cons_succ]
          refine wpList_plain rfl (fun K hK => ?_)
          go_simp
          refine hK _ _ ?_
          clear hK K
          try simp only [Act.put, List.setIfInBounds_toArray, List.set_cons_zero, List.set_cons_succ]
          refine wpList_plain rfl (fun K hK => ?_)
          go_simp
          refine hK _ _ ?_
          clear hK K
          try simp only [Act.put, List.setIfInBounds_toArray, List.set_cons_zero, List.set_cons_succ]
          refine wpList_plain rfl (fun K hK => ?_)
          go_simp
          refine hK _ _ ?_
          clear hK K
          try simp only [Act.put, List.setIfInBounds_toArray, List.set_cons_zero, List.set_cons_succ]
          refine wpList_plain rfl (fun K hK => ?_)
          go_simp
          refine hK _ _ ?_
          clear hK K
          try simp only [Act.put, List.setIfInBounds_toArray, List.set_cons_zero, List.set_cons_succ]
          clear k1 k2 k3 k4 k6 k7 k8 k9 hl0
          refine wpList_sliceH rfl rfl rfl HSRE.out k rfl (Nat.le_of_lt HK.out) ?_
          intro v53 hv53
          try simp only [Act.put, List.setIfInBounds_toArray, List.set_cons_zero, List.set_cons_succ]
          obtain ⟨bt, hbt⟩ : ∃ b, WB.take k = b := ⟨_, rfl⟩
          rw [hbt] at hv53
          have HRT := Lib.hid (show readBy saidM bt = (zeroM 0, 0, 3) by rw [← hbt, ← HW.out]; exact HelloMath.read_cut HF.out HM6.out.1.1 HM6.out.1.2 (by rw [HW.out]; exact HK.out))
          have H40T := Lib.hid (show bt.length ≤ 40000 by rw [← hbt, List.length_take]; have := HWL.out; omega)
          clear hbt
          refine wpList_plain rfl (fun K hK0 => ?_)
          have hK := Lib.hid hK0
          clear hK0
          go_simp
          go_at_call 16
          refine (read_e bt v53 _ (HT.out.below HEE.out) (hv53.sl HE6.out.size) H40T).mono ?_
          rintro e w10 ⟨cs10, rfl, hm10, hb10⟩
          try go_wp2_with fail
          refine hK.out _ _ ?_
          clear hK K
          try simp only [Act.put, List.setIfInBounds_toArray, List.set_cons_zero, List.set_cons_succ]
          rw [HRT.out] at hm10
          have hz0 : ((0 : Nat) : Int) = 0 := rfl
          simp only [HRT.out, hz0]
          clear hz0 hv53
          refine wpList_plain rfl (fun K hK => ?_)
          go_simp
          refine hK _ _ ?_
          clear hK K
          try simp only [Act.put, List.setIfInBounds_toArray, List.set_cons_zero, List.set_cons_succ]
          refine wpList_plain rfl (fun K hK => ?_)
          go_simp
          refine hK _ _ ?_
          clear hK K
          try simp only [Act.put, List.setIfInBounds_toArray, List.set_cons_zero, List.set_cons_succ]
          refine wpList_plain rfl (fun K hK => ?_)
          go_simp
          refine hK _ _ ?_
          clear hK K
          try simp only [Act.put, List.setIfInBounds_toArray, List.set_cons_zero, List.set_cons_succ]
          refine wpList_plain rfl (fun K hK => ?_)
          go_simp
          refine hK _ _ ?_
          clear hK K
          try simp only [Act.put, List.setIfInBounds_toArray, List.set_cons_zero, List.set_cons_succ]
          refine wpList_new_blk rfl 30 rfl _ zeroMsg ?_
          intro g12 w12 hg12 b12 hb12
          try simp only [Act.put, List.setIfInBounds_toArray, List.set_cons_zero, List.set_cons_succ]
          have HG12 := Lib.hid (show wE.heap.size ≤ g12 by rw [hg12]; exact hb10.size)
          have hbx := hb10.trans (hb12.mono hb10.size)
          refine wpList_store_blk rfl 30 (.tmp 12) (.tmp 55) rfl rfl g12 cs10 rfl rfl _ _ b12 (infoMsg.trans (by rw [hm10.len])) (by rw [hm10.len, mC_length rfl rfl]) hm10.one ?_
          intro w13 b13 hg13
          try simp only [Act.put, List.setIfInBounds_toArray, List.set_cons_zero, List.set_cons_succ]
          have hby := hbx.trans (grown_below hg13 HG12.out hbx.size)
          have HB13 := Lib.hid (HEE.out.trans (hby.mono HEE.out.size))
          have HME13 := Lib.hid (HME.out.below hby)
          have HM13 := Lib.hid ((HM6.out.below HE6.out).below hby)
          have HL9 := Lib.hid (fun (V : World) (hV : Below w13.heap.size w13 V) => rangeAt_of_blk ((HB9.out.below hby HB9.out.lt).below hV (HB9.out.below hby HB9.out.lt).lt))
          have HL3 := Lib.hid (fun (V : World) (hV : Below w13.heap.size w13 V) => rangeAt_of_blk (((HB6.out.below HE6.out HB6.out.lt).below hby (HB6.out.below HE6.out HB6.out.lt).lt).below hV ((HB6.out.below HE6.out HB6.out.lt).below hby (HB6.out.below HE6.out HB6.out.lt).lt).lt))
          have HNC := Lib.hid (show M.certs.length ≤ 1000 by have := HSM.out.2.2.2.2.2.1; omega)
          have HIL := Lib.hid HM6.out.len
          clear hm10 hb10 hg12 b12 hb12 hbx b13 hg13 hby
          refine wpList_plain rfl (fun K hK => ?_)
          go_simp
          refine hK _ _ ?_
          clear hK K
          try simp only [Act.put, List.setIfInBounds_toArray, List.set_cons_zero, List.set_cons_succ]
          refine wpList_plain rfl (fun K hK => ?_)
          go_simp
          refine hK _ _ ?_
          clear hK K
          try simp only [Act.put, List.setIfInBounds_toArray, List.set_cons_zero, List.set_cons_succ]
          go_upto_region 7 with (fail)
          refine wp_region_noPanic ?_
          refine wp_region_held_drew (S := fun V => Below w13.heap.size w13 V) (by kernel_rfl) (by exact below_drewN (Below.refl _ _) 1) (fun hHeld => ?_)
          refine wpAnyH_take (i := 0) (oi := ⟨_, _, _, _, _, _⟩) (v := ?_) rfl (by kernel_rfl) (by kernel_rfl) (by kernel_rfl) (fun _ _ _ h => h) (Or.inl ⟨by rfl, ?_⟩) hHeld ?_
          rotate_left 1
          · (intro W hSw; (try dsimp only at hSw); go_simp; try with_reducible rfl)
          try simp only [Act.put, List.setIfInBounds_toArray, List.set_cons_zero, List.set_cons_succ]
          refine wpAnyH_take (i := 1) (oi := ⟨_, _, _, _, _, _⟩) (v := ?_) rfl (by kernel_rfl) (by kernel_rfl) (by kernel_rfl) (fun _ _ _ h => h) (Or.inl ⟨by rfl, ?_⟩) hHeld ?_
          rotate_left 1
          · (intro W hSw; (try dsimp only at hSw); go_simp; try with_reducible rfl)
          try simp only [Act.put, List.setIfInBounds_toArray, List.set_cons_zero, List.set_cons_succ]
          refine wpAnyH_take (i := 2) (oi := ⟨_, _, _, _, _, _⟩) (v := ?_) rfl (by kernel_rfl) (by kernel_rfl) (by kernel_rfl) (fun _ _ _ h => h) (Or.inl ⟨by rfl, ?_⟩) hHeld ?_
          rotate_left 1
          · (intro W hSw; (try dsimp only at hSw); go_simp; try with_reducible rfl)
          try simp only [Act.put, List.setIfInBounds_toArray, List.set_cons_zero, List.set_cons_succ]
          refine wpAnyH_take (i := 3) (oi := ⟨_, _, _, _, _, _⟩) (v := ?_) rfl (by kernel_rfl) (by kernel_rfl) (by kernel_rfl) (fun _ _ _ h => h) (Or.inl ⟨by rfl, ?_⟩) hHeld ?_
          rotate_left 1
          · (intro W hSw; (try dsimp only at hSw); go_simp; try with_reducible rfl)
          try simp only [Act.put, List.setIfInBounds_toArray, List.set_cons_zero, List.set_cons_succ]
          refine wpAnyH_take (i := 4) (oi := ⟨_, _, _, _, _, _⟩) (v := ?_) rfl (by kernel_rfl) (by kernel_rfl) (by kernel_rfl) (fun _ _ _ h => h) (Or.inl ⟨by rfl, ?_⟩) hHeld ?_
          rotate_left 1
          · (intro W hSw; (try dsimp only at hSw); go_simp; try with_reducible rfl)
          try simp only [Act.put, List.setIfInBounds_toArray, List.set_cons_zero, List.set_cons_succ]
          refine wpAnyH_take (i := 5) (oi := ⟨_, _, _, _, _, _⟩) (v := ?_) rfl (by kernel_rfl) (by kernel_rfl) (by kernel_rfl) (fun _ _ _ h => h) (Or.inl ⟨by rfl, ?_⟩) hHeld ?_
          rotate_left 1
          · (intro W hSw; (try dsimp only at hSw); go_simp; try with_reducible rfl)
          try simp only [Act.put, List.setIfInBounds_toArray, List.set_cons_zero, List.set_cons_succ]
          refine wpAnyH_take (i := 6) (oi := ⟨_, _, _, _, _, _⟩) (v := ?_) rfl (by kernel_rfl) (by kernel_rfl) (by kernel_rfl) (fun _ _ _ h => h) (Or.inl ⟨by rfl, ?_⟩) hHeld ?_
          rotate_left 1
          · (intro W hSw; (try dsimp only at hSw); go_simp; try with_reducible rfl)
          try simp only [Act.put, List.setIfInBounds_toArray, List.set_cons_zero, List.set_cons_succ]
          refine wpAnyH_take (i := 7) (oi := ⟨_, _, _, _, _, _⟩) (v := ?_) rfl (by kernel_rfl) (by kernel_rfl) (by kernel_rfl) (fun _ _ _ h => h) (Or.inl ⟨by rfl, ?_⟩) hHeld ?_
          rotate_left 1
          · (intro W hSw; (try dsimp only at hSw); go_simp; try with_reducible rfl)
          try simp only [Act.put, List.setIfInBounds_toArray, List.set_cons_zero, List.set_cons_succ]
          refine wpAnyH_take (i := 8) (oi := ⟨_, _, _, _, _, _⟩) (v := ?_) rfl (by kernel_rfl) (by kernel_rfl) (by kernel_rfl) (fun _ _ _ h => h) (Or.inl ⟨by rfl, ?_⟩) hHeld ?_
          rotate_left 1
          · (intro W hSw; (try dsimp only at hSw); go_simp; try with_reducible rfl)
          try simp only [Act.put, List.setIfInBounds_toArray, List.set_cons_zero, List.set_cons_succ]
          refine wpAnyH_take (i := 9) (oi := ⟨_, _, _, _, _, _⟩) (v := ?_) rfl (by kernel_rfl) (by kernel_rfl) (by kernel_rfl) (fun _ _ _ h => h) (Or.inl ⟨by rfl, ?_⟩) hHeld ?_
          rotate_left 1
          · (intro W hSw; (try dsimp only at hSw); refine exec_load_mid 30 (.tmp 9) ?_ g9 0 ?_ cs9 _ (HL9.out W hSw) Tryd.underlying30 rfl (infoMsg.trans (by rw [HML.out])) <;> rfl)
          try simp only [Act.put, List.setIfInBounds_toArray, List.set_cons_zero, List.set_cons_succ]
          refine wpAnyH_take (i := 11) (oi := ⟨_, _, _, _, _, _⟩) (v := ?_) rfl (by kernel_rfl) (by kernel_rfl) (by kernel_rfl) (fun _ _ _ h => h) (Or.inl ⟨by rfl, ?_⟩) hHeld ?_
          rotate_left 1
          · (intro W hSw; (try dsimp only at hSw); refine exec_load_mid 25 (.tmp 3) ?_ g 0 ?_ cs2 _ (HL3.out W hSw) Tryd.underlying25 rfl (infoR.trans (by rw [HIL.out])) <;> rfl)
          try simp only [Act.put, List.setIfInBounds_toArray, List.set_cons_zero, List.set_cons_succ]
          refine wpAnyH_ready (rs := [10]) (by kernel_rfl) (by simp) ?_
          refine AllReadyH.cons (o := ⟨_, _, _, _, _, _⟩) rfl (fun K hK => ?_) AllReadyH.nil
          go_simp
          go_at_call 15
          refine (from_e M cs9 _ (HME13.out.below hHeld) HNC).mono ?_
          rintro e w14 ⟨cs14, rfl, hm14, hbn⟩
          try go_wp2_with fail
          refine hK.out _ _ (hHeld.trans (hbn.mono hHeld.size)) (fun hHeld => ?_)
          clear hK K hbn
          try simp only [Act.put, List.setIfInBounds_toArray, List.set_cons_zero, List.set_cons_succ]
          refine wpAnyH_ready (rs := [12]) (by kernel_rfl) (by simp) ?_
          refine AllReadyH.cons (o := ⟨_, _, _, _, _, _⟩) rfl (fun K hK => ?_) AllReadyH.nil
          go_simp
          go_at_call 14
          refine (same_e M cs14 cs2 _ hm14 (HM13.out.below hHeld)).mono ?_
          rintro e w15 ⟨rfl, hbn⟩
          try go_wp2_with fail
          refine hK.out _ _ (hHeld.trans (hbn.mono hHeld.size)) (fun hHeld => ?_)
          clear hK K hbn hm14
          try simp only [Act.put, List.setIfInBounds_toArray, List.set_cons_zero, List.set_cons_succ]
          refine wpAnyH_take (i := 13) (oi := ⟨_, _, _, _, _, _⟩) (v := ?_) rfl (by kernel_rfl) (by kernel_rfl) (by kernel_rfl) (fun _ _ _ h => h) (Or.inl ⟨by rfl, ?_⟩) hHeld ?_
          rotate_left 1
          · (intro W hSw; (try dsimp only at hSw); go_simp; try with_reducible rfl)
          try simp only [Act.put, List.setIfInBounds_toArray, List.set_cons_zero, List.set_cons_succ]
          refine wpAnyH_take (i := 14) (oi := ⟨_, _, _, _, _, _⟩) (v := ?_) rfl (by kernel_rfl) (by kernel_rfl) (by kernel_rfl) (fun _ _ _ h => h) (Or.inl ⟨by rfl, ?_⟩) hHeld ?_
          rotate_left 1
          · (intro W hSw; (try dsimp only at hSw); go_simp; try with_reducible rfl)
          try simp only [Act.put, List.setIfInBounds_toArray, List.set_cons_zero, List.set_cons_succ]
          refine wpAnyH_take (i := 15) (oi := ⟨_, _, _, _, _, _⟩) (v := ?_) rfl (by kernel_rfl) (by kernel_rfl) (by kernel_rfl) (fun _ _ _ h => h) (Or.inl ⟨by rfl, ?_⟩) hHeld ?_
          rotate_left 1
          · (intro W hSw; (try dsimp only at hSw); go_simp; try with_reducible rfl)
          try simp only [Act.put, List.setIfInBounds_toArray, List.set_cons_zero, List.set_cons_succ]
          refine wpAnyH_take (i := 16) (oi := ⟨_, _, _, _, _, _⟩) (v := ?_) rfl (by kernel_rfl) (by kernel_rfl) (by kernel_rfl) (fun _ _ _ h => h) (Or.inl ⟨by rfl, ?_⟩) hHeld ?_
          rotate_left 1
          · (intro W hSw; (try dsimp only at hSw); go_simp; try with_reducible rfl)
          try simp only [Act.put, List.setIfInBounds_toArray, List.set_cons_zero, List.set_cons_succ]
          refine wpAnyH_take (i := 17) (oi := ⟨_, _, _, _, _, _⟩) (v := ?_) rfl (by kernel_rfl) (by kernel_rfl) (by kernel_rfl) (fun _ _ _ h => h) (Or.inl ⟨by rfl, ?_⟩) hHeld ?_
          rotate_left 1
          · (intro W hSw; (try dsimp only at hSw); go_simp; try with_reducible rfl)
          try simp only [Act.put, List.setIfInBounds_toArray, List.set_cons_zero, List.set_cons_succ]
          refine wpAnyH_take (i := 18) (oi := ⟨_, _, _, _, _, _⟩) (v := ?_) rfl (by kernel_rfl) (by kernel_rfl) (by kernel_rfl) (fun _ _ _ h => h) (Or.inl ⟨by rfl, ?_⟩) hHeld ?_
          rotate_left 1
          · (intro W hSw; (try dsimp only at hSw); go_simp; try with_reducible rfl)
          try simp only [Act.put, List.setIfInBounds_toArray, List.set_cons_zero, List.set_cons_succ]
          refine wpAnyH_done (by kernel_rfl) ?_ _
          refine NoPanic.normal ?_
          go_wp2
          go_ret
          exact ⟨rfl, HB13.out.trans (hHeld.mono HB13.out.size)⟩
      · skip
        rw [if_pos (by rfl)]
        refine wp_new_blk 30 rfl _ zeroMsg ?_
        intro g9 W9 hg9 b9 hbn
        have HG9 := Lib.hid (show w6.heap.size ≤ g9 by rw [hg9]; exact hHeld.size)
        have ho33 := off_new hB33
        rw [← hg9] at ho33
        replace hB33 := hB33.below hbn
        refine hK.out _ _ (hHeld.trans (hbn.mono hHeld.size)) (fun hHeld => ?_)
        clear hK K hbn hg9
        try simp only [Act.put, List.setIfInBounds_toArray, List.set_cons_zero, List.set_cons_succ]
        refine wpAnyH_ready (rs := [8]) (by kernel_rfl) (by simp) ?_
        refine AllReadyH.cons (o := ⟨_, _, _, _, _, _⟩) rfl (fun K hK => ?_) AllReadyH.nil
        rw [if_pos (by rfl)]
        refine wp_appF (.tmp 33) (.tmp 38) rfl w6.heap.size v33 _ ([] ++ WB) (Y.take q) rfl hB33 rfl ((HSY.out.below hHeld).sl hHeld.size) HLN8.out hHeld.size ?_
        intro v39 W10 hB39 hbn hoff
        obtain ⟨e9, ho39⟩ := hoff g9 b9.lt ho33
        replace b9 := (show Blk W10 g9 30 _ from e9.trans b9)
        clear e9 ho33
        refine hK.out _ _ (hHeld.trans hbn) (fun hHeld => ?_)
        clear hK K hoff hbn hB33
        rw [HBZ.out] at hB39
        try simp only [Act.put, List.setIfInBounds_toArray, List.set_cons_zero, List.set_cons_succ]
        refine wpAnyH_ready (rs := [9]) (by kernel_rfl) (by simp) ?_
        refine AllReadyH.cons (o := ⟨_, _, _, _, _, _⟩) rfl (fun K hK => ?_) AllReadyH.nil
        go_simp
        go_at_call 16
        refine (read_e bz v39 _ (HT.out.below (hb16.trans (hHeld.mono hb16.size))) hB39.sl H40).mono ?_
        rintro e W11 ⟨cs9, rfl, hm9, hbn⟩
        try go_wp2_with fail
        rw [HR.out] at hm9
        have hz0 : ((0 : Nat) : Int) = 0 := rfl
        simp only [HR.out, hz0]
        clear hz0
        have h9D := b9.lt
        replace b9 := b9.below hbn b9.lt
        clear ho39
        refine hK.out _ _ (hHeld.trans (hbn.mono hHeld.size)) (fun hHeld => ?_)
        clear hK K hbn hB39
        try simp only [Act.put, List.setIfInBounds_toArray, List.set_cons_zero, List.set_cons_succ]
        refine wpAnyH_take (i := 10) (oi := ⟨_, _, _, _, _, _⟩) (v := ?_) rfl (by kernel_rfl) (by kernel_rfl) (by kernel_rfl) (fun _ _ _ h => h) (Or.inl ⟨by rfl, ?_⟩) hHeld ?_
        rotate_left 1
        · (intro W hSw; (try dsimp only at hSw); go_simp; try with_reducible rfl)
        try simp only [Act.put, List.setIfInBounds_toArray, List.set_cons_zero, List.set_cons_succ]
        refine wpAnyH_take (i := 11) (oi := ⟨_, _, _, _, _, _⟩) (v := ?_) rfl (by kernel_rfl) (by kernel_rfl) (by kernel_rfl) (fun _ _ _ h => h) (Or.inl ⟨by rfl, ?_⟩) hHeld ?_
        rotate_left 1
        · (intro W hSw; (try dsimp only at hSw); go_simp; try with_reducible rfl)
        try simp only [Act.put, List.setIfInBounds_toArray, List.set_cons_zero, List.set_cons_succ]
        refine wpAnyH_take (i := 12) (oi := ⟨_, _, _, _, _, _⟩) (v := ?_) rfl (by kernel_rfl) (by kernel_rfl) (by kernel_rfl) (fun _ _ _ h => h) (Or.inl ⟨by rfl, ?_⟩) hHeld ?_
        rotate_left 1
        · (intro W hSw; (try dsimp only at hSw); go_simp; try with_reducible rfl)
        try simp only [Act.put, List.setIfInBounds_toArray, List.set_cons_zero, List.set_cons_succ]
        refine wpAnyH_take (i := 13) (oi := ⟨_, _, _, _, _, _⟩) (v := ?_) rfl (by kernel_rfl) (by kernel_rfl) (by kernel_rfl) (fun _ _ _ h => h) (Or.inl ⟨by rfl, ?_⟩) hHeld ?_
        rotate_left 1
        · (intro W hSw; (try dsimp only at hSw); go_simp; try with_reducible rfl)
        try simp only [Act.put, List.setIfInBounds_toArray, List.set_cons_zero, List.set_cons_succ]
        refine wpAnyH_ready (rs := [15]) (by kernel_rfl) (by simp) ?_
        refine AllReadyH.cons (o := ⟨_, _, _, _, _, _⟩) rfl (fun K hK => ?_) AllReadyH.nil
        rw [if_pos (by rfl)]
        refine wp_store_blk 30 (.tmp 9) (.tmp 41) rfl rfl g9 cs9 rfl rfl _ _ b9 (infoMsg.trans (by rw [hm9.len])) (by rw [hm9.len, mC_length rfl rfl]) hm9.one ?_
        intro wE b9 hgs
        have HML := Lib.hid hm9.len
        have HMO := Lib.hid hm9.one
        have HME := Lib.hid (show MVs wE M cs9 from (hm9.kept hgs h9D).mvs)
        clear hm9 h9D
        refine hK.out _ _ (hHeld.trans (grown_below hgs HG9.out hHeld.size)) (fun hHeld => ?_)
        clear hK K hgs
        try simp only [Act.put, List.setIfInBounds_toArray, List.set_cons_zero, List.set_cons_succ]
        refine wpAnyH_take (i := 16) (oi := ⟨_, _, _, _, _, _⟩) (v := ?_) rfl (by kernel_rfl) (by kernel_rfl) (by kernel_rfl) (fun _ _ _ h => h) (Or.inl ⟨by rfl, ?_⟩) hHeld ?_
        rotate_left 1
        · (intro W hSw; (try dsimp only at hSw); go_simp; try with_reducible rfl)
        try simp only [Act.put, List.setIfInBounds_toArray, List.set_cons_zero, List.set_cons_succ]
        refine wpAnyH_take (i := 17) (oi := ⟨_, _, _, _, _, _⟩) (v := ?_) rfl (by kernel_rfl) (by kernel_rfl) (by kernel_rfl) (fun _ _ _ h => h) (Or.inl ⟨by rfl, ?_⟩) hHeld ?_
        rotate_left 1
        · (intro W hSw; (try dsimp only at hSw); go_simp; try with_reducible rfl)
        try simp only [Act.put, List.setIfInBounds_toArray, List.set_cons_zero, List.set_cons_succ]
        refine wpAnyH_done (by kernel_rfl) ?_ _
        refine NoPanic.normal ?_
        have HEE := Lib.hid (hb16.trans (hHeld.mono hb16.size))
        have HSRE := Lib.hid (HSR.out.below (show Below w6.heap.size w6 wE from hHeld))
        have HE6 := Lib.hid (show Below w6.heap.size w6 wE from hHeld)
        have HB9 := Lib.hid b9
        obtain ⟨l, hl⟩ : ∃ l, WB.length = l := ⟨_, rfl⟩
        obtain ⟨k, k1, k2, k3, k4, k5, k6, k7, k8, k9⟩ := ix_cutn cut l (by rw [← hl]; exact HWL.out.1) (by rw [← hl]; have := HWL.out.2; omega)
        obtain ⟨A7, c7, hr7, -⟩ := HSR.out
        subst hr7
        simp only [hl] at HSRE ⊢
        have HK := Lib.hid (show k < WB.length by rw [hl]; exact k5)
        have HLL := Lib.hid hl
        have hl0 : ¬ l = 0 := by omega
        clear hHeld b9 hl k5 HSR
        go_upto_region 6 with (fail)
        refine wp_region_lit ?_
        refine wpList_plain rfl (fun K hK => ?_)
        go_simp
        refine hK _ _ ?_
        clear hK K
        try simp only [Act.put, List.setIfInBounds_toArray, List.set_cons_zero, List.set_cons_succ]
        refine wpList_plain rfl (fun K hK => ?_)
        go_simp
        refine hK _ _ ?_
        clear hK K
        try simp only [Act.put, List.setIfInBounds_toArray, List.set_cons_zero, List.set_cons_succ]
        refine wpList_plain rfl (fun K hK => ?_)
        go_simp
        refine hK _ _ ?_
        clear hK K
        try simp only [Act.put, List.setIfInBounds_toArray, List.set_cons_zero, List.set_cons_succ]
        refine wpList_plain rfl (fun K hK => ?_)
        go_simp
        refine hK _ _ ?_
        clear hK K
        try simp only [Act.put, List.setIfInBounds_toArray, List.set_cons_zero, List.set_cons_succ]
        refine wpList_plain rfl (fun K hK => ?_)
        go_simp
        refine hK _ _ ?_
        clear hK K
        try simp only [Act.put, List.setIfInBounds_toArray, List.set_cons_zero, List.set_cons_succ]
        refine wpList_plain rfl (fun K hK => ?_)
        go_simp
        refine hK _ _ ?_
        clear hK K
        try simp only [Act.put, List.setIfInBounds_toArray, List.set_cons_zero, List.set_cons_succ]
        refine wpList_plain rfl (fun K hK => ?_)
        go_simp
        refine hK _ _ ?_
        clear hK K
        try simp only [Act.put, List.setIfInBounds_toArray, List.set_cons_zero, List.set_cons_succ]
        refine wpList_plain rfl (fun K hK => ?_)
        go_simp
        refine hK _ _ ?_
        clear hK K
        try simp only [Act.put, List.setIfInBounds_toArray, List.set_cons_zero, List.set_cons_succ]
        clear k1 k2 k3 k4 k6 k7 k8 k9 hl0
        refine wpList_sliceH rfl rfl rfl HSRE.out k rfl (Nat.le_of_lt HK.out) ?_
        intro v53 hv53
        try simp only [Act.put, List.setIfInBounds_toArray, List.set_cons_zero, List.set_cons_succ]
        obtain ⟨bt, hbt⟩ : ∃ b, WB.take k = b := ⟨_, rfl⟩
        rw [hbt] at hv53
        have HRT := Lib.hid (show readBy saidM bt = (zeroM 0, 0, 3) by rw [← hbt, ← HW.out]; exact HelloMath.read_cut HF.out HM6.out.1.1 HM6.out.1.2 (by rw [HW.out]; exact HK.out))
        have H40T := Lib.hid (show bt.length ≤ 40000 by rw [← hbt, List.length_take]; have := HWL.out; omega)
        clear hbt
        refine wpList_plain rfl (fun K hK0 => ?_)
        have hK := Lib.hid hK0
        clear hK0
        go_simp
        go_at_call 16
        refine (read_e bt v53 _ (HT.out.below HEE.out) (hv53.sl HE6.out.size) H40T).mono ?_
        rintro e w10 ⟨cs10, rfl, hm10, hb10⟩
        try go_wp2_with fail
        refine hK.out _ _ ?_
        clear hK K
        try simp only [Act.put, List.setIfInBounds_toArray, List.set_cons_zero, List.set_cons_succ]
        rw [HRT.out] at hm10
        have hz0 : ((0 : Nat) : Int) = 0 := rfl
        simp only [HRT.out, hz0]
        clear hz0 hv53
        refine wpList_plain rfl (fun K hK => ?_)
        go_simp
        refine hK _ _ ?_
        clear hK K
        try simp only [Act.put, List.setIfInBounds_toArray, List.set_cons_zero, List.set_cons_succ]
        refine wpList_plain rfl (fun K hK => ?_)
        go_simp
        refine hK _ _ ?_
        clear hK K
        try simp only [Act.put, List.setIfInBounds_toArray, List.set_cons_zero, List.set_cons_succ]
        refine wpList_plain rfl (fun K hK => ?_)
        go_simp
        refine hK _ _ ?_
        clear hK K
        try simp only [Act.put, List.setIfInBounds_toArray, List.set_cons_zero, List.set_cons_succ]
        refine wpList_plain rfl (fun K hK => ?_)
        go_simp
        refine hK _ _ ?_
        clear hK K
        try simp only [Act.put, List.setIfInBounds_toArray, List.set_cons_zero, List.set_cons_succ]
        refine wpList_new_blk rfl 30 rfl _ zeroMsg ?_
        intro g12 w12 hg12 b12 hb12
        try simp only [Act.put, List.setIfInBounds_toArray, List.set_cons_zero, List.set_cons_succ]
        have HG12 := Lib.hid (show wE.heap.size ≤ g12 by rw [hg12]; exact hb10.size)
        have hbx := hb10.trans (hb12.mono hb10.size)
        refine wpList_store_blk rfl 30 (.tmp 12) (.tmp 55) rfl rfl g12 cs10 rfl rfl _ _ b12 (infoMsg.trans (by rw [hm10.len])) (by rw [hm10.len, mC_length rfl rfl]) hm10.one ?_
        intro w13 b13 hg13
        try simp only [Act.put, List.setIfInBounds_toArray, List.set_cons_zero, List.set_cons_succ]
        have hby := hbx.trans (grown_below hg13 HG12.out hbx.size)
        have HB13 := Lib.hid (HEE.out.trans (hby.mono HEE.out.size))
        have HME13 := Lib.hid (HME.out.below hby)
        have HM13 := Lib.hid ((HM6.out.below HE6.out).below hby)
        have HL9 := Lib.hid (fun (V : World) (hV : Below w13.heap.size w13 V) => rangeAt_of_blk ((HB9.out.below hby HB9.out.lt).below hV (HB9.out.below hby HB9.out.lt).lt))
        have HL3 := Lib.hid (fun (V : World) (hV : Below w13.heap.size w13 V) => rangeAt_of_blk (((HB6.out.below HE6.out HB6.out.lt).below hby (HB6.out.below HE6.out HB6.out.lt).lt).below hV ((HB6.out.below HE6.out HB6.out.lt).below hby (HB6.out.below HE6.out HB6.out.lt).lt).lt))
        have HNC := Lib.hid (show M.certs.length ≤ 1000 by have := HSM.out.2.2.2.2.2.1; omega)
        have HIL := Lib.hid HM6.out.len
        clear hm10 hb10 hg12 b12 hb12 hbx b13 hg13 hby
        refine wpList_plain rfl (fun K hK => ?_)
        go_simp
        refine hK _ _ ?_
        clear hK K
        try simp only [Act.put, List.setIfInBounds_toArray, List.set_cons_zero, List.set_cons_succ]
        refine wpList_plain rfl (fun K hK => ?_)
        go_simp
        refine hK _ _ ?_
        clear hK K
        try simp only [Act.put, List.setIfInBounds_toArray, List.set_cons_zero, List.set_cons_succ]
        go_upto_region 7 with (fail)
        refine wp_region_noPanic ?_
        refine wp_region_held_drew (S := fun V => Below w13.heap.size w13 V) (by kernel_rfl) (by exact below_drewN (Below.refl _ _) 1) (fun hHeld => ?_)
        refine wpAnyH_take (i := 0) (oi := ⟨_, _, _, _, _, _⟩) (v := ?_) rfl (by kernel_rfl) (by kernel_rfl) (by kernel_rfl) (fun _ _ _ h => h) (Or.inl ⟨by rfl, ?_⟩) hHeld ?_
        rotate_left 1
        · (intro W hSw; (try dsimp only at hSw); go_simp; try with_reducible rfl)
        try simp only [Act.put, List.setIfInBounds_toArray, List.set_cons_zero, List.set_cons_succ]
        refine wpAnyH_take (i := 1) (oi := ⟨_, _, _, _, _, _⟩) (v := ?_) rfl (by kernel_rfl) (by kernel_rfl) (by kernel_rfl) (fun _ _ _ h => h) (Or.inl ⟨by rfl, ?_⟩) hHeld ?_
        rotate_left 1
        · (intro W hSw; (try dsimp only at hSw); go_simp; try with_reducible rfl)
        try simp only [Act.put, List.setIfInBounds_toArray, List.set_cons_zero, List.set_cons_succ]
        refine wpAnyH_take (i := 2) (oi := ⟨_, _, _, _, _, _⟩) (v := ?_) rfl (by kernel_rfl) (by kernel_rfl) (by kernel_rfl) (fun _ _ _ h => h) (Or.inl ⟨by rfl, ?_⟩) hHeld ?_
        rotate_left 1
        · (intro W hSw; (try dsimp only at hSw); go_simp; try with_reducible rfl)
        try simp only [Act.put, List.setIfInBounds_toArray, List.set_cons_zero, List.set_cons_succ]
        refine wpAnyH_take (i := 3) (oi := ⟨_, _, _, _, _, _⟩) (v := ?_) rfl (by kernel_rfl) (by kernel_rfl) (by kernel_rfl) (fun _ _ _ h => h) (Or.inl ⟨by rfl, ?_⟩) hHeld ?_
        rotate_left 1
        · (intro W hSw; (try dsimp only at hSw); go_simp; try with_reducible rfl)
        try simp only [Act.put, List.setIfInBounds_toArray, List.set_cons_zero, List.set_cons_succ]
        refine wpAnyH_take (i := 4) (oi := ⟨_, _, _, _, _, _⟩) (v := ?_) rfl (by kernel_rfl) (by kernel_rfl) (by kernel_rfl) (fun _ _ _ h => h) (Or.inl ⟨by rfl, ?_⟩) hHeld ?_
        rotate_left 1
        · (intro W hSw; (try dsimp only at hSw); go_simp; try with_reducible rfl)
        try simp only [Act.put, List.setIfInBounds_toArray, List.set_cons_zero, List.set_cons_succ]
        refine wpAnyH_take (i := 5) (oi := ⟨_, _, _, _, _, _⟩) (v := ?_) rfl (by kernel_rfl) (by kernel_rfl) (by kernel_rfl) (fun _ _ _ h => h) (Or.inl ⟨by rfl, ?_⟩) hHeld ?_
        rotate_left 1
        · (intro W hSw; (try dsimp only at hSw); go_simp; try with_reducible rfl)
        try simp only [Act.put, List.setIfInBounds_toArray, List.set_cons_zero, List.set_cons_succ]
        refine wpAnyH_take (i := 6) (oi := ⟨_, _, _, _, _, _⟩) (v := ?_) rfl (by kernel_rfl) (by kernel_rfl) (by kernel_rfl) (fun _ _ _ h => h) (Or.inl ⟨by rfl, ?_⟩) hHeld ?_
        rotate_left 1
        · (intro W hSw; (try dsimp only at hSw); go_simp; try with_reducible rfl)
        try simp only [Act.put, List.setIfInBounds_toArray, List.set_cons_zero, List.set_cons_succ]
        refine wpAnyH_take (i := 7) (oi := ⟨_, _, _, _, _, _⟩) (v := ?_) rfl (by kernel_rfl) (by kernel_rfl) (by kernel_rfl) (fun _ _ _ h => h) (Or.inl ⟨by rfl, ?_⟩) hHeld ?_
        rotate_left 1
        · (intro W hSw; (try dsimp only at hSw); go_simp; try with_reducible rfl)
        try simp only [Act.put, List.setIfInBounds_toArray, List.set_cons_zero, List.set_cons_succ]
        refine wpAnyH_take (i := 8) (oi := ⟨_, _, _, _, _, _⟩) (v := ?_) rfl (by kernel_rfl) (by kernel_rfl) (by kernel_rfl) (fun _ _ _ h => h) (Or.inl ⟨by rfl, ?_⟩) hHeld ?_
        rotate_left 1
        · (intro W hSw; (try dsimp only at hSw); go_simp; try with_reducible rfl)
        try simp only [Act.put, List.setIfInBounds_toArray, List.set_cons_zero, List.set_cons_succ]
        refine wpAnyH_take (i := 9) (oi := ⟨_, _, _, _, _, _⟩) (v := ?_) rfl (by kernel_rfl) (by kernel_rfl) (by kernel_rfl) (fun _ _ _ h => h) (Or.inl ⟨by rfl, ?_⟩) hHeld ?_
        rotate_left 1
        · (intro W hSw; (try dsimp only at hSw); refine exec_load_mid 30 (.tmp 9) ?_ g9 0 ?_ cs9 _ (HL9.out W hSw) Tryd.underlying30 rfl (infoMsg.trans (by rw [HML.out])) <;> rfl)
        try simp only [Act.put, List.setIfInBounds_toArray, List.set_cons_zero, List.set_cons_succ]
        refine wpAnyH_take (i := 11) (oi := ⟨_, _, _, _, _, _⟩) (v := ?_) rfl (by kernel_rfl) (by kernel_rfl) (by kernel_rfl) (fun _ _ _ h => h) (Or.inl ⟨by rfl, ?_⟩) hHeld ?_
        rotate_left 1
        · (intro W hSw; (try dsimp only at hSw); refine exec_load_mid 25 (.tmp 3) ?_ g 0 ?_ cs2 _ (HL3.out W hSw) Tryd.underlying25 rfl (infoR.trans (by rw [HIL.out])) <;> rfl)
        try simp only [Act.put, List.setIfInBounds_toArray, List.set_cons_zero, List.set_cons_succ]
        refine wpAnyH_ready (rs := [10]) (by kernel_rfl) (by simp) ?_
        refine AllReadyH.cons (o := ⟨_, _, _, _, _, _⟩) rfl (fun K hK => ?_) AllReadyH.nil
        go_simp
        go_at_call 15
        refine (from_e M cs9 _ (HME13.out.below hHeld) HNC).mono ?_
        rintro e w14 ⟨cs14, rfl, hm14, hbn⟩
        try go_wp2_with fail
        refine hK.out _ _ (hHeld.trans (hbn.mono hHeld.size)) (fun hHeld => ?_)
        clear hK K hbn
        try simp only [Act.put, List.setIfInBounds_toArray, List.set_cons_zero, List.set_cons_succ]
        refine wpAnyH_ready (rs := [12]) (by kernel_rfl) (by simp) ?_
        refine AllReadyH.cons (o := ⟨_, _, _, _, _, _⟩) rfl (fun K hK => ?_) AllReadyH.nil
        go_simp
        go_at_call 14
        refine (same_e M cs14 cs2 _ hm14 (HM13.out.below hHeld)).mono ?_
        rintro e w15 ⟨rfl, hbn⟩
        try go_wp2_with fail
        refine hK.out _ _ (hHeld.trans (hbn.mono hHeld.size)) (fun hHeld => ?_)
        clear hK K hbn hm14
        try simp only [Act.put, List.setIfInBounds_toArray, List.set_cons_zero, List.set_cons_succ]
        refine wpAnyH_take (i := 13) (oi := ⟨_, _, _, _, _, _⟩) (v := ?_) rfl (by kernel_rfl) (by kernel_rfl) (by kernel_rfl) (fun _ _ _ h => h) (Or.inl ⟨by rfl, ?_⟩) hHeld ?_
        rotate_left 1
        · (intro W hSw; (try dsimp only at hSw); go_simp; try with_reducible rfl)
        try simp only [Act.put, List.setIfInBounds_toArray, List.set_cons_zero, List.set_cons_succ]
        refine wpAnyH_take (i := 14) (oi := ⟨_, _, _, _, _, _⟩) (v := ?_) rfl (by kernel_rfl) (by kernel_rfl) (by kernel_rfl) (fun _ _ _ h => h) (Or.inl ⟨by rfl, ?_⟩) hHeld ?_
        rotate_left 1
        · (intro W hSw; (try dsimp only at hSw); go_simp; try with_reducible rfl)
        try simp only [Act.put, List.setIfInBounds_toArray, List.set_cons_zero, List.set_cons_succ]
        refine wpAnyH_take (i := 15) (oi := ⟨_, _, _, _, _, _⟩) (v := ?_) rfl (by kernel_rfl) (by kernel_rfl) (by kernel_rfl) (fun _ _ _ h => h) (Or.inl ⟨by rfl, ?_⟩) hHeld ?_
        rotate_left 1
        · (intro W hSw; (try dsimp only at hSw); go_simp; try with_reducible rfl)
        try simp only [Act.put, List.setIfInBounds_toArray, List.set_cons_zero, List.set_cons_succ]
        refine wpAnyH_take (i := 16) (oi := ⟨_, _, _, _, _, _⟩) (v := ?_) rfl (by kernel_rfl) (by kernel_rfl) (by kernel_rfl) (fun _ _ _ h => h) (Or.inl ⟨by rfl, ?_⟩) hHeld ?_
        rotate_left 1
        · (intro W hSw; (try dsimp only at hSw); go_simp; try with_reducible rfl)
        try simp only [Act.put, List.setIfInBounds_toArray, List.set_cons_zero, List.set_cons_succ]
        refine wpAnyH_take (i := 17) (oi := ⟨_, _, _, _, _, _⟩) (v := ?_) rfl (by kernel_rfl) (by kernel_rfl) (by kernel_rfl) (fun _ _ _ h => h) (Or.inl ⟨by rfl, ?_⟩) hHeld ?_
        rotate_left 1
        · (intro W hSw; (try dsimp only at hSw); go_simp; try with_reducible rfl)
        try simp only [Act.put, List.setIfInBounds_toArray, List.set_cons_zero, List.set_cons_succ]
        refine wpAnyH_take (i := 18) (oi := ⟨_, _, _, _, _, _⟩) (v := ?_) rfl (by kernel_rfl) (by kernel_rfl) (by kernel_rfl) (fun _ _ _ h => h) (Or.inl ⟨by rfl, ?_⟩) hHeld ?_
        rotate_left 1
        · (intro W hSw; (try dsimp only at hSw); go_simp; try with_reducible rfl)
        try simp only [Act.put, List.setIfInBounds_toArray, List.set_cons_zero, List.set_cons_succ]
        refine wpAnyH_done (by kernel_rfl) ?_ _
        refine NoPanic.normal ?_
        go_wp2
        go_ret
        exact ⟨rfl, HB13.out.trans (hHeld.mono HB13.out.size)⟩
    · skip
      rw [if_pos (by rfl)]
      refine wp_new_blk 30 rfl _ zeroMsg ?_
      intro g9 W8 hg9 b9 hbn
      have HG9 := Lib.hid (show w6.heap.size ≤ g9 by rw [hg9]; exact hHeld.size)
      have ho31 := off_new hB31
      rw [← hg9] at ho31
      replace hB31 := hB31.below hbn
      refine hK.out _ _ (hHeld.trans (hbn.mono hHeld.size)) (fun hHeld => ?_)
      clear hK K hbn hg9
      try simp only [Act.put, List.setIfInBounds_toArray, List.set_cons_zero, List.set_cons_succ]
      refine wpAnyH_ready (rs := [2]) (by kernel_rfl) (by simp) ?_
      refine AllReadyH.cons (o := ⟨_, _, _, _, _, _⟩) rfl (fun K hK => ?_) AllReadyH.nil
      rw [if_pos (by rfl)]
      refine wp_appF (.tmp 31) (.tmp 32) rfl w6.heap.size v31 _ [] WB rfl hB31 rfl ((HSR.out.below hHeld).sl hHeld.size) HLN2.out hHeld.size ?_
      intro v33 W9 hB33 hbn hoff
      obtain ⟨e9, ho33⟩ := hoff g9 b9.lt ho31
      replace b9 := (show Blk W9 g9 30 _ from e9.trans b9)
      clear e9 ho31
      refine hK.out _ _ (hHeld.trans hbn) (fun hHeld => ?_)
      clear hK K hoff hbn hB31
      try simp only [Act.put, List.setIfInBounds_toArray, List.set_cons_zero, List.set_cons_succ]
      refine wpAnyH_ready (rs := [8]) (by kernel_rfl) (by simp) ?_
      refine AllReadyH.cons (o := ⟨_, _, _, _, _, _⟩) rfl (fun K hK => ?_) AllReadyH.nil
      rw [if_pos (by rfl)]
      refine wp_appF (.tmp 33) (.tmp 38) rfl w6.heap.size v33 _ ([] ++ WB) (Y.take q) rfl hB33 rfl ((HSY.out.below hHeld).sl hHeld.size) HLN8.out hHeld.size ?_
      intro v39 W10 hB39 hbn hoff
      obtain ⟨e9, ho39⟩ := hoff g9 b9.lt ho33
      replace b9 := (show Blk W10 g9 30 _ from e9.trans b9)
      clear e9 ho33
      refine hK.out _ _ (hHeld.trans hbn) (fun hHeld => ?_)
      clear hK K hoff hbn hB33
      rw [HBZ.out] at hB39
      try simp only [Act.put, List.setIfInBounds_toArray, List.set_cons_zero, List.set_cons_succ]
      refine wpAnyH_ready (rs := [9]) (by kernel_rfl) (by simp) ?_
      refine AllReadyH.cons (o := ⟨_, _, _, _, _, _⟩) rfl (fun K hK => ?_) AllReadyH.nil
      go_simp
      go_at_call 16
      refine (read_e bz v39 _ (HT.out.below (hb16.trans (hHeld.mono hb16.size))) hB39.sl H40).mono ?_
      rintro e W11 ⟨cs9, rfl, hm9, hbn⟩
      try go_wp2_with fail
      rw [HR.out] at hm9
      have hz0 : ((0 : Nat) : Int) = 0 := rfl
      simp only [HR.out, hz0]
      clear hz0
      have h9D := b9.lt
      replace b9 := b9.below hbn b9.lt
      clear ho39
      refine hK.out _ _ (hHeld.trans (hbn.mono hHeld.size)) (fun hHeld => ?_)
      clear hK K hbn hB39
      try simp only [Act.put, List.setIfInBounds_toArray, List.set_cons_zero, List.set_cons_succ]
      refine wpAnyH_take (i := 10) (oi := ⟨_, _, _, _, _, _⟩) (v := ?_) rfl (by kernel_rfl) (by kernel_rfl) (by kernel_rfl) (fun _ _ _ h => h) (Or.inl ⟨by rfl, ?_⟩) hHeld ?_
      rotate_left 1
      · (intro W hSw; (try dsimp only at hSw); go_simp; try with_reducible rfl)
      try simp only [Act.put, List.setIfInBounds_toArray, List.set_cons_zero, List.set_cons_succ]
      refine wpAnyH_take (i := 11) (oi := ⟨_, _, _, _, _, _⟩) (v := ?_) rfl (by kernel_rfl) (by kernel_rfl) (by kernel_rfl) (fun _ _ _ h => h) (Or.inl ⟨by rfl, ?_⟩) hHeld ?_
      rotate_left 1
      · (intro W hSw; (try dsimp only at hSw); go_simp; try with_reducible rfl)
      try simp only [Act.put, List.setIfInBounds_toArray, List.set_cons_zero, List.set_cons_succ]
      refine wpAnyH_take (i := 12) (oi := ⟨_, _, _, _, _, _⟩) (v := ?_) rfl (by kernel_rfl) (by kernel_rfl) (by kernel_rfl) (fun _ _ _ h => h) (Or.inl ⟨by rfl, ?_⟩) hHeld ?_
      rotate_left 1
      · (intro W hSw; (try dsimp only at hSw); go_simp; try with_reducible rfl)
      try simp only [Act.put, List.setIfInBounds_toArray, List.set_cons_zero, List.set_cons_succ]
      refine wpAnyH_take (i := 13) (oi := ⟨_, _, _, _, _, _⟩) (v := ?_) rfl (by kernel_rfl) (by kernel_rfl) (by kernel_rfl) (fun _ _ _ h => h) (Or.inl ⟨by rfl, ?_⟩) hHeld ?_
      rotate_left 1
      · (intro W hSw; (try dsimp only at hSw); go_simp; try with_reducible rfl)
      try simp only [Act.put, List.setIfInBounds_toArray, List.set_cons_zero, List.set_cons_succ]
      refine wpAnyH_ready (rs := [15]) (by kernel_rfl) (by simp) ?_
      refine AllReadyH.cons (o := ⟨_, _, _, _, _, _⟩) rfl (fun K hK => ?_) AllReadyH.nil
      rw [if_pos (by rfl)]
      refine wp_store_blk 30 (.tmp 9) (.tmp 41) rfl rfl g9 cs9 rfl rfl _ _ b9 (infoMsg.trans (by rw [hm9.len])) (by rw [hm9.len, mC_length rfl rfl]) hm9.one ?_
      intro wE b9 hgs
      have HML := Lib.hid hm9.len
      have HMO := Lib.hid hm9.one
      have HME := Lib.hid (show MVs wE M cs9 from (hm9.kept hgs h9D).mvs)
      clear hm9 h9D
      refine hK.out _ _ (hHeld.trans (grown_below hgs HG9.out hHeld.size)) (fun hHeld => ?_)
      clear hK K hgs
      try simp only [Act.put, List.setIfInBounds_toArray, List.set_cons_zero, List.set_cons_succ]
      refine wpAnyH_take (i := 16) (oi := ⟨_, _, _, _, _, _⟩) (v := ?_) rfl (by kernel_rfl) (by kernel_rfl) (by kernel_rfl) (fun _ _ _ h => h) (Or.inl ⟨by rfl, ?_⟩) hHeld ?_
      rotate_left 1
      · (intro W hSw; (try dsimp only at hSw); go_simp; try with_reducible rfl)
      try simp only [Act.put, List.setIfInBounds_toArray, List.set_cons_zero, List.set_cons_succ]
      refine wpAnyH_take (i := 17) (oi := ⟨_, _, _, _, _, _⟩) (v := ?_) rfl (by kernel_rfl) (by kernel_rfl) (by kernel_rfl) (fun _ _ _ h => h) (Or.inl ⟨by rfl, ?_⟩) hHeld ?_
      rotate_left 1
      · (intro W hSw; (try dsimp only at hSw); go_simp; try with_reducible rfl)
      try simp only [Act.put, List.setIfInBounds_toArray, List.set_cons_zero, List.set_cons_succ]
      refine wpAnyH_done (by kernel_rfl) ?_ _
      refine NoPanic.normal ?_
      have HEE := Lib.hid (hb16.trans (hHeld.mono hb16.size))
      have HSRE := Lib.hid (HSR.out.below (show Below w6.heap.size w6 wE from hHeld))
      have HE6 := Lib.hid (show Below w6.heap.size w6 wE from hHeld)
      have HB9 := Lib.hid b9
      obtain ⟨l, hl⟩ : ∃ l, WB.length = l := ⟨_, rfl⟩
      obtain ⟨k, k1, k2, k3, k4, k5, k6, k7, k8, k9⟩ := ix_cutn cut l (by rw [← hl]; exact HWL.out.1) (by rw [← hl]; have := HWL.out.2; omega)
      obtain ⟨A7, c7, hr7, -⟩ := HSR.out
      subst hr7
      simp only [hl] at HSRE ⊢
      have HK := Lib.hid (show k < WB.length by rw [hl]; exact k5)
      have HLL := Lib.hid hl
      have hl0 : ¬ l = 0 := by omega
      clear hHeld b9 hl k5 HSR
      go_upto_region 6 with (fail)
      refine wp_region_lit ?_
      refine wpList_plain rfl (fun K hK => ?_)
      go_simp
      refine hK _ _ ?_
      clear hK K
      try simp only [Act.put, List.setIfInBounds_toArray, List.set_cons_zero, List.set_cons_succ]
      refine wpList_plain rfl (fun K hK => ?_)
      go_simp
      refine hK _ _ ?_
      clear hK K
      try simp only [Act.put, List.setIfInBounds_toArray, List.set_cons_zero, List.set_cons_succ]
      refine wpList_plain rfl (fun K hK => ?_)
      go_simp
      refine hK _ _ ?_
      clear hK K
      try simp only [Act.put, List.setIfInBounds_toArray, List.set_cons_zero, List.set_cons_succ]
      refine wpList_plain rfl (fun K hK => ?_)
      go_simp
      refine hK _ _ ?_
      clear hK K
      try simp only [Act.put, List.setIfInBounds_toArray, List.set_cons_zero, List.set_cons_succ]
      refine wpList_plain rfl (fun K hK => ?_)
      go_simp
      refine hK _ _ ?_
      clear hK K
      try simp only [Act.put, List.setIfInBounds_toArray, List.set_cons_zero, List.set_cons_succ]
      refine wpList_plain rfl (fun K hK => ?_)
      go_simp
      refine hK _ _ ?_
      clear hK K
      try simp only [Act.put, List.setIfInBounds_toArray, List.set_cons_zero, List.set_cons_succ]
      refine wpList_plain rfl (fun K hK => ?_)
      go_simp
      refine hK _ _ ?_
      clear hK K
      try simp only [Act.put, List.setIfInBounds_toArray, List.set_cons_zero, List.set_cons_succ]
      refine wpList_plain rfl (fun K hK => ?_)
      go_simp
      refine hK _ _ ?_
      clear hK K
      try simp only [Act.put, List.setIfInBounds_toArray, List.set_cons_zero, List.set_cons_succ]
      clear k1 k2 k3 k4 k6 k7 k8 k9 hl0
      refine wpList_sliceH rfl rfl rfl HSRE.out k rfl (Nat.le_of_lt HK.out) ?_
      intro v53 hv53
      try simp only [Act.put, List.setIfInBounds_toArray, List.set_cons_zero, List.set_cons_succ]
      obtain ⟨bt, hbt⟩ : ∃ b, WB.take k = b := ⟨_, rfl⟩
      rw [hbt] at hv53
      have HRT := Lib.hid (show readBy saidM bt = (zeroM 0, 0, 3) by rw [← hbt, ← HW.out]; exact HelloMath.read_cut HF.out HM6.out.1.1 HM6.out.1.2 (by rw [HW.out]; exact HK.out))
      have H40T := Lib.hid (show bt.length ≤ 40000 by rw [← hbt, List.length_take]; have := HWL.out; omega)
      clear hbt
      refine wpList_plain rfl (fun K hK0 => ?_)
      have hK := Lib.hid hK0
      clear hK0
      go_simp
      go_at_call 16
      refine (read_e bt v53 _ (HT.out.below HEE.out) (hv53.sl HE6.out.size) H40T).mono ?_
      rintro e w10 ⟨cs10, rfl, hm10, hb10⟩
      try go_wp2_with fail
      refine hK.out _ _ ?_
      clear hK K
      try simp only [Act.put, List.setIfInBounds_toArray, List.set_cons_zero, List.set_cons_succ]
      rw [HRT.out] at hm10
      have hz0 : ((0 : Nat) : Int) = 0 := rfl
      simp only [HRT.out, hz0]
      clear hz0 hv53
      refine wpList_plain rfl (fun K hK => ?_)
      go_simp
      refine hK _ _ ?_
      clear hK K
      try simp only [Act.put, List.setIfInBounds_toArray, List.set_cons_zero, List.set_cons_succ]
      refine wpList_plain rfl (fun K hK => ?_)
      go_simp
      refine hK _ _ ?_
      clear hK K
      try simp only [Act.put, List.setIfInBounds_toArray, List.set_cons_zero, List.set_cons_succ]
      refine wpList_plain rfl (fun K hK => ?_)
      go_simp
      refine hK _ _ ?_
      clear hK K
      try simp only [Act.put, List.setIfInBounds_toArray, List.set_cons_zero, List.set_cons_succ]
      refine wpList_plain rfl (fun K hK => ?_)
      go_simp
      refine hK _ _ ?_
      clear hK K
      try simp only [Act.put, List.setIfInBounds_toArray, List.set_cons_zero, List.set_cons_succ]
      refine wpList_new_blk rfl 30 rfl _ zeroMsg ?_
      intro g12 w12 hg12 b12 hb12
      try simp only [Act.put, List.setIfInBounds_toArray, List.set_cons_zero, List.set_cons_succ]
      have HG12 := Lib.hid (show wE.heap.size ≤ g12 by rw [hg12]; exact hb10.size)
      have hbx := hb10.trans (hb12.mono hb10.size)
      refine wpList_store_blk rfl 30 (.tmp 12) (.tmp 55) rfl rfl g12 cs10 rfl rfl _ _ b12 (infoMsg.trans (by rw [hm10.len])) (by rw [hm10.len, mC_length rfl rfl]) hm10.one ?_
      intro w13 b13 hg13
      try simp only [Act.put, List.setIfInBounds_toArray, List.set_cons_zero, List.set_cons_succ]
      have hby := hbx.trans (grown_below hg13 HG12.out hbx.size)
      have HB13 := Lib.hid (HEE.out.trans (hby.mono HEE.out.size))
      have HME13 := Lib.hid (HME.out.below hby)
      have HM13 := Lib.hid ((HM6.out.below HE6.out).below hby)
      have HL9 := Lib.hid (fun (V : World) (hV : Below w13.heap.size w13 V) => rangeAt_of_blk ((HB9.out.below hby HB9.out.lt).below hV (HB9.out.below hby HB9.out.lt).lt))
      have HL3 := Lib.hid (fun (V : World) (hV : Below w13.heap.size w13 V) => rangeAt_of_blk (((HB6.out.below HE6.out HB6.out.lt).below hby (HB6.out.below HE6.out HB6.out.lt).lt).below hV ((HB6.out.below HE6.out HB6.out.lt).below hby (HB6.out.below HE6.out HB6.out.lt).lt).lt))
      have HNC := Lib.hid (show M.certs.length ≤ 1000 by have := HSM.out.2.2.2.2.2.1; omega)
      have HIL := Lib.hid HM6.out.len
      clear hm10 hb10 hg12 b12 hb12 hbx b13 hg13 hby
      refine wpList_plain rfl (fun K hK => ?_)
      go_simp
      refine hK _ _ ?_
      clear hK K
      try simp only [Act.put, List.setIfInBounds_toArray, List.set_cons_zero, List.set_cons_succ]
      refine wpList_plain rfl (fun K hK => ?_)
      go_simp
      refine hK _ _ ?_
      clear hK K
      try simp only [Act.put, List.setIfInBounds_toArray, List.set_cons_zero, List.set_cons_succ]
      go_upto_region 7 with (fail)
      refine wp_region_noPanic ?_
      refine wp_region_held_drew (S := fun V => Below w13.heap.size w13 V) (by kernel_rfl) (by exact below_drewN (Below.refl _ _) 1) (fun hHeld => ?_)
      refine wpAnyH_take (i := 0) (oi := ⟨_, _, _, _, _, _⟩) (v := ?_) rfl (by kernel_rfl) (by kernel_rfl) (by kernel_rfl) (fun _ _ _ h => h) (Or.inl ⟨by rfl, ?_⟩) hHeld ?_
      rotate_left 1
      · (intro W hSw; (try dsimp only at hSw); go_simp; try with_reducible rfl)
      try simp only [Act.put, List.setIfInBounds_toArray, List.set_cons_zero, List.set_cons_succ]
      refine wpAnyH_take (i := 1) (oi := ⟨_, _, _, _, _, _⟩) (v := ?_) rfl (by kernel_rfl) (by kernel_rfl) (by kernel_rfl) (fun _ _ _ h => h) (Or.inl ⟨by rfl, ?_⟩) hHeld ?_
      rotate_left 1
      · (intro W hSw; (try dsimp only at hSw); go_simp; try with_reducible rfl)
      try simp only [Act.put, List.setIfInBounds_toArray, List.set_cons_zero, List.set_cons_succ]
      refine wpAnyH_take (i := 2) (oi := ⟨_, _, _, _, _, _⟩) (v := ?_) rfl (by kernel_rfl) (by kernel_rfl) (by kernel_rfl) (fun _ _ _ h => h) (Or.inl ⟨by rfl, ?_⟩) hHeld ?_
      rotate_left 1
      · (intro W hSw; (try dsimp only at hSw); go_simp; try with_reducible rfl)
      try simp only [Act.put, List.setIfInBounds_toArray, List.set_cons_zero, List.set_cons_succ]
      refine wpAnyH_take (i := 3) (oi := ⟨_, _, _, _, _, _⟩) (v := ?_) rfl (by kernel_rfl) (by kernel_rfl) (by kernel_rfl) (fun _ _ _ h => h) (Or.inl ⟨by rfl, ?_⟩) hHeld ?_
      rotate_left 1
      · (intro W hSw; (try dsimp only at hSw); go_simp; try with_reducible rfl)
      try simp only [Act.put, List.setIfInBounds_toArray, List.set_cons_zero, List.set_cons_succ]
      refine wpAnyH_take (i := 4) (oi := ⟨_, _, _, _, _, _⟩) (v := ?_) rfl (by kernel_rfl) (by kernel_rfl) (by kernel_rfl) (fun _ _ _ h => h) (Or.inl ⟨by rfl, ?_⟩) hHeld ?_
      rotate_left 1
      · (intro W hSw; (try dsimp only at hSw); go_simp; try with_reducible rfl)
      try simp only [Act.put, List.setIfInBounds_toArray, List.set_cons_zero, List.set_cons_succ]
      refine wpAnyH_take (i := 5) (oi := ⟨_, _, _, _, _, _⟩) (v := ?_) rfl (by kernel_rfl) (by kernel_rfl) (by kernel_rfl) (fun _ _ _ h => h) (Or.inl ⟨by rfl, ?_⟩) hHeld ?_
      rotate_left 1
      · (intro W hSw; (try dsimp only at hSw); go_simp; try with_reducible rfl)
      try simp only [Act.put, List.setIfInBounds_toArray, List.set_cons_zero, List.set_cons_succ]
      refine wpAnyH_take (i := 6) (oi := ⟨_, _, _, _, _, _⟩) (v := ?_) rfl (by kernel_rfl) (by kernel_rfl) (by kernel_rfl) (fun _ _ _ h => h) (Or.inl ⟨by rfl, ?_⟩) hHeld ?_
      rotate_left 1
      · (intro W hSw; (try dsimp only at hSw); go_simp; try with_reducible rfl)
      try simp only [Act.put, List.setIfInBounds_toArray, List.set_cons_zero, List.set_cons_succ]
      refine wpAnyH_take (i := 7) (oi := ⟨_, _, _, _, _, _⟩) (v := ?_) rfl (by kernel_rfl) (by kernel_rfl) (by kernel_rfl) (fun _ _ _ h => h) (Or.inl ⟨by rfl, ?_⟩) hHeld ?_
      rotate_left 1
      · (intro W hSw; (try dsimp only at hSw); go_simp; try with_reducible rfl)
      try simp only [Act.put, List.setIfInBounds_toArray, List.set_cons_zero, List.set_cons_succ]
      refine wpAnyH_take (i := 8) (oi := ⟨_, _, _, _, _, _⟩) (v := ?_) rfl (by kernel_rfl) (by kernel_rfl) (by kernel_rfl) (fun _ _ _ h => h) (Or.inl ⟨by rfl, ?_⟩) hHeld ?_
      rotate_left 1
      · (intro W hSw; (try dsimp only at hSw); go_simp; try with_reducible rfl)
      try simp only [Act.put, List.setIfInBounds_toArray, List.set_cons_zero, List.set_cons_succ]
      refine wpAnyH_take (i := 9) (oi := ⟨_, _, _, _, _, _⟩) (v := ?_) rfl (by kernel_rfl) (by kernel_rfl) (by kernel_rfl) (fun _ _ _ h => h) (Or.inl ⟨by rfl, ?_⟩) hHeld ?_
      rotate_left 1
      · (intro W hSw; (try dsimp only at hSw); refine exec_load_mid 30 (.tmp 9) ?_ g9 0 ?_ cs9 _ (HL9.out W hSw) Tryd.underlying30 rfl (infoMsg.trans (by rw [HML.out])) <;> rfl)
      try simp only [Act.put, List.setIfInBounds_toArray, List.set_cons_zero, List.set_cons_succ]
      refine wpAnyH_take (i := 11) (oi := ⟨_, _, _, _, _, _⟩) (v := ?_) rfl (by kernel_rfl) (by kernel_rfl) (by kernel_rfl) (fun _ _ _ h => h) (Or.inl ⟨by rfl, ?_⟩) hHeld ?_
      rotate_left 1
      · (intro W hSw; (try dsimp only at hSw); refine exec_load_mid 25 (.tmp 3) ?_ g 0 ?_ cs2 _ (HL3.out W hSw) Tryd.underlying25 rfl (infoR.trans (by rw [HIL.out])) <;> rfl)
      try simp only [Act.put, List.setIfInBounds_toArray, List.set_cons_zero, List.set_cons_succ]
      refine wpAnyH_ready (rs := [10]) (by kernel_rfl) (by simp) ?_
      refine AllReadyH.cons (o := ⟨_, _, _, _, _, _⟩) rfl (fun K hK => ?_) AllReadyH.nil
      go_simp
      go_at_call 15
      refine (from_e M cs9 _ (HME13.out.below hHeld) HNC).mono ?_
      rintro e w14 ⟨cs14, rfl, hm14, hbn⟩
      try go_wp2_with fail
      refine hK.out _ _ (hHeld.trans (hbn.mono hHeld.size)) (fun hHeld => ?_)
      clear hK K hbn
      try simp only [Act.put, List.setIfInBounds_toArray, List.set_cons_zero, List.set_cons_succ]
      refine wpAnyH_ready (rs := [12]) (by kernel_rfl) (by simp) ?_
      refine AllReadyH.cons (o := ⟨_, _, _, _, _, _⟩) rfl (fun K hK => ?_) AllReadyH.nil
      go_simp
      go_at_call 14
      refine (same_e M cs14 cs2 _ hm14 (HM13.out.below hHeld)).mono ?_
      rintro e w15 ⟨rfl, hbn⟩
      try go_wp2_with fail
      refine hK.out _ _ (hHeld.trans (hbn.mono hHeld.size)) (fun hHeld => ?_)
      clear hK K hbn hm14
      try simp only [Act.put, List.setIfInBounds_toArray, List.set_cons_zero, List.set_cons_succ]
      refine wpAnyH_take (i := 13) (oi := ⟨_, _, _, _, _, _⟩) (v := ?_) rfl (by kernel_rfl) (by kernel_rfl) (by kernel_rfl) (fun _ _ _ h => h) (Or.inl ⟨by rfl, ?_⟩) hHeld ?_
      rotate_left 1
      · (intro W hSw; (try dsimp only at hSw); go_simp; try with_reducible rfl)
      try simp only [Act.put, List.setIfInBounds_toArray, List.set_cons_zero, List.set_cons_succ]
      refine wpAnyH_take (i := 14) (oi := ⟨_, _, _, _, _, _⟩) (v := ?_) rfl (by kernel_rfl) (by kernel_rfl) (by kernel_rfl) (fun _ _ _ h => h) (Or.inl ⟨by rfl, ?_⟩) hHeld ?_
      rotate_left 1
      · (intro W hSw; (try dsimp only at hSw); go_simp; try with_reducible rfl)
      try simp only [Act.put, List.setIfInBounds_toArray, List.set_cons_zero, List.set_cons_succ]
      refine wpAnyH_take (i := 15) (oi := ⟨_, _, _, _, _, _⟩) (v := ?_) rfl (by kernel_rfl) (by kernel_rfl) (by kernel_rfl) (fun _ _ _ h => h) (Or.inl ⟨by rfl, ?_⟩) hHeld ?_
      rotate_left 1
      · (intro W hSw; (try dsimp only at hSw); go_simp; try with_reducible rfl)
      try simp only [Act.put, List.setIfInBounds_toArray, List.set_cons_zero, List.set_cons_succ]
      refine wpAnyH_take (i := 16) (oi := ⟨_, _, _, _, _, _⟩) (v := ?_) rfl (by kernel_rfl) (by kernel_rfl) (by kernel_rfl) (fun _ _ _ h => h) (Or.inl ⟨by rfl, ?_⟩) hHeld ?_
      rotate_left 1
      · (intro W hSw; (try dsimp only at hSw); go_simp; try with_reducible rfl)
      try simp only [Act.put, List.setIfInBounds_toArray, List.set_cons_zero, List.set_cons_succ]
      refine wpAnyH_take (i := 17) (oi := ⟨_, _, _, _, _, _⟩) (v := ?_) rfl (by kernel_rfl) (by kernel_rfl) (by kernel_rfl) (fun _ _ _ h => h) (Or.inl ⟨by rfl, ?_⟩) hHeld ?_
      rotate_left 1
      · (intro W hSw; (try dsimp only at hSw); go_simp; try with_reducible rfl)
      try simp only [Act.put, List.setIfInBounds_toArray, List.set_cons_zero, List.set_cons_succ]
      refine wpAnyH_take (i := 18) (oi := ⟨_, _, _, _, _, _⟩) (v := ?_) rfl (by kernel_rfl) (by kernel_rfl) (by kernel_rfl) (fun _ _ _ h => h) (Or.inl ⟨by rfl, ?_⟩) hHeld ?_
      rotate_left 1
      · (intro W hSw; (try dsimp only at hSw); go_simp; try with_reducible rfl)
      try simp only [Act.put, List.setIfInBounds_toArray, List.set_cons_zero, List.set_cons_succ]
      refine wpAnyH_done (by kernel_rfl) ?_ _
      refine NoPanic.normal ?_
      go_wp2
      go_ret
      exact ⟨rfl, HB13.out.trans (hHeld.mono HB13.out.size)⟩
  · skip
    rw [if_pos (by rfl)]
    refine wp_new_blk 30 rfl _ zeroMsg ?_
    intro g9 W7 hg9 b9 hbn
    have HG9 := Lib.hid (show w6.heap.size ≤ g9 by rw [hg9]; exact hHeld.size)
    refine hK.out _ _ (hHeld.trans (hbn.mono hHeld.size)) (fun hHeld => ?_)
    clear hK K hbn hg9
    try simp only [Act.put, List.setIfInBounds_toArray, List.set_cons_zero, List.set_cons_succ]
    refine wpAnyH_ready (rs := [0]) (by kernel_rfl) (by simp) ?_
    refine AllReadyH.cons (o := ⟨_, _, _, _, _, _⟩) rfl (fun K hK => ?_) AllReadyH.nil
    rw [if_pos (by rfl)]
    refine wp_emptyV rfl w6.heap.size hHeld.size ?_
    intro v31 W8 hB31 hbn hoff
    have ho31 := hoff g9 b9.lt
    replace b9 := b9.below hbn b9.lt
    refine hK.out _ _ (hHeld.trans (hbn.mono hHeld.size)) (fun hHeld => ?_)
    clear hK K hoff hbn
    try simp only [Act.put, List.setIfInBounds_toArray, List.set_cons_zero, List.set_cons_succ]
    refine wpAnyH_ready (rs := [2]) (by kernel_rfl) (by simp) ?_
    refine AllReadyH.cons (o := ⟨_, _, _, _, _, _⟩) rfl (fun K hK => ?_) AllReadyH.nil
    rw [if_pos (by rfl)]
    refine wp_appF (.tmp 31) (.tmp 32) rfl w6.heap.size v31 _ [] WB rfl hB31 rfl ((HSR.out.below hHeld).sl hHeld.size) HLN2.out hHeld.size ?_
    intro v33 W9 hB33 hbn hoff
    obtain ⟨e9, ho33⟩ := hoff g9 b9.lt ho31
    replace b9 := (show Blk W9 g9 30 _ from e9.trans b9)
    clear e9 ho31
    refine hK.out _ _ (hHeld.trans hbn) (fun hHeld => ?_)
    clear hK K hoff hbn hB31
    try simp only [Act.put, List.setIfInBounds_toArray, List.set_cons_zero, List.set_cons_succ]
    refine wpAnyH_ready (rs := [8]) (by kernel_rfl) (by simp) ?_
    refine AllReadyH.cons (o := ⟨_, _, _, _, _, _⟩) rfl (fun K hK => ?_) AllReadyH.nil
    rw [if_pos (by rfl)]
    refine wp_appF (.tmp 33) (.tmp 38) rfl w6.heap.size v33 _ ([] ++ WB) (Y.take q) rfl hB33 rfl ((HSY.out.below hHeld).sl hHeld.size) HLN8.out hHeld.size ?_
    intro v39 W10 hB39 hbn hoff
    obtain ⟨e9, ho39⟩ := hoff g9 b9.lt ho33
    replace b9 := (show Blk W10 g9 30 _ from e9.trans b9)
    clear e9 ho33
    refine hK.out _ _ (hHeld.trans hbn) (fun hHeld => ?_)
    clear hK K hoff hbn hB33
    rw [HBZ.out] at hB39
    try simp only [Act.put, List.setIfInBounds_toArray, List.set_cons_zero, List.set_cons_succ]
    refine wpAnyH_ready (rs := [9]) (by kernel_rfl) (by simp) ?_
    refine AllReadyH.cons (o := ⟨_, _, _, _, _, _⟩) rfl (fun K hK => ?_) AllReadyH.nil
    go_simp
    go_at_call 16
    refine (read_e bz v39 _ (HT.out.below (hb16.trans (hHeld.mono hb16.size))) hB39.sl H40).mono ?_
    rintro e W11 ⟨cs9, rfl, hm9, hbn⟩
    try go_wp2_with fail
    rw [HR.out] at hm9
    have hz0 : ((0 : Nat) : Int) = 0 := rfl
    simp only [HR.out, hz0]
    clear hz0
    have h9D := b9.lt
    replace b9 := b9.below hbn b9.lt
    clear ho39
    refine hK.out _ _ (hHeld.trans (hbn.mono hHeld.size)) (fun hHeld => ?_)
    clear hK K hbn hB39
    try simp only [Act.put, List.setIfInBounds_toArray, List.set_cons_zero, List.set_cons_succ]
    refine wpAnyH_take (i := 10) (oi := ⟨_, _, _, _, _, _⟩) (v := ?_) rfl (by kernel_rfl) (by kernel_rfl) (by kernel_rfl) (fun _ _ _ h => h) (Or.inl ⟨by rfl, ?_⟩) hHeld ?_
    rotate_left 1
    · (intro W hSw; (try dsimp only at hSw); go_simp; try with_reducible rfl)
    try simp only [Act.put, List.setIfInBounds_toArray, List.set_cons_zero, List.set_cons_succ]
    refine wpAnyH_take (i := 11) (oi := ⟨_, _, _, _, _, _⟩) (v := ?_) rfl (by kernel_rfl) (by kernel_rfl) (by kernel_rfl) (fun _ _ _ h => h) (Or.inl ⟨by rfl, ?_⟩) hHeld ?_
    rotate_left 1
    · (intro W hSw; (try dsimp only at hSw); go_simp; try with_reducible rfl)
    try simp only [Act.put, List.setIfInBounds_toArray, List.set_cons_zero, List.set_cons_succ]
    refine wpAnyH_take (i := 12) (oi := ⟨_, _, _, _, _, _⟩) (v := ?_) rfl (by kernel_rfl) (by kernel_rfl) (by kernel_rfl) (fun _ _ _ h => h) (Or.inl ⟨by rfl, ?_⟩) hHeld ?_
    rotate_left 1
    · (intro W hSw; (try dsimp only at hSw); go_simp; try with_reducible rfl)
    try simp only [Act.put, List.setIfInBounds_toArray, List.set_cons_zero, List.set_cons_succ]
    refine wpAnyH_take (i := 13) (oi := ⟨_, _, _, _, _, _⟩) (v := ?_) rfl (by kernel_rfl) (by kernel_rfl) (by kernel_rfl) (fun _ _ _ h => h) (Or.inl ⟨by rfl, ?_⟩) hHeld ?_
    rotate_left 1
    · (intro W hSw; (try dsimp only at hSw); go_simp; try with_reducible rfl)
    try simp only [Act.put, List.setIfInBounds_toArray, List.set_cons_zero, List.set_cons_succ]
    refine wpAnyH_ready (rs := [15]) (by kernel_rfl) (by simp) ?_
    refine AllReadyH.cons (o := ⟨_, _, _, _, _, _⟩) rfl (fun K hK => ?_) AllReadyH.nil
    rw [if_pos (by rfl)]
    refine wp_store_blk 30 (.tmp 9) (.tmp 41) rfl rfl g9 cs9 rfl rfl _ _ b9 (infoMsg.trans (by rw [hm9.len])) (by rw [hm9.len, mC_length rfl rfl]) hm9.one ?_
    intro wE b9 hgs
    have HML := Lib.hid hm9.len
    have HMO := Lib.hid hm9.one
    have HME := Lib.hid (show MVs wE M cs9 from (hm9.kept hgs h9D).mvs)
    clear hm9 h9D
    refine hK.out _ _ (hHeld.trans (grown_below hgs HG9.out hHeld.size)) (fun hHeld => ?_)
    clear hK K hgs
    try simp only [Act.put, List.setIfInBounds_toArray, List.set_cons_zero, List.set_cons_succ]
    refine wpAnyH_take (i := 16) (oi := ⟨_, _, _, _, _, _⟩) (v := ?_) rfl (by kernel_rfl) (by kernel_rfl) (by kernel_rfl) (fun _ _ _ h => h) (Or.inl ⟨by rfl, ?_⟩) hHeld ?_
    rotate_left 1
    · (intro W hSw; (try dsimp only at hSw); go_simp; try with_reducible rfl)
    try simp only [Act.put, List.setIfInBounds_toArray, List.set_cons_zero, List.set_cons_succ]
    refine wpAnyH_take (i := 17) (oi := ⟨_, _, _, _, _, _⟩) (v := ?_) rfl (by kernel_rfl) (by kernel_rfl) (by kernel_rfl) (fun _ _ _ h => h) (Or.inl ⟨by rfl, ?_⟩) hHeld ?_
    rotate_left 1
    · (intro W hSw; (try dsimp only at hSw); go_simp; try with_reducible rfl)
    try simp only [Act.put, List.setIfInBounds_toArray, List.set_cons_zero, List.set_cons_succ]
    refine wpAnyH_done (by kernel_rfl) ?_ _
    refine NoPanic.normal ?_
    have HEE := Lib.hid (hb16.trans (hHeld.mono hb16.size))
    have HSRE := Lib.hid (HSR.out.below (show Below w6.heap.size w6 wE from hHeld))
    have HE6 := Lib.hid (show Below w6.heap.size w6 wE from hHeld)
    have HB9 := Lib.hid b9
    obtain ⟨l, hl⟩ : ∃ l, WB.length = l := ⟨_, rfl⟩
    obtain ⟨k, k1, k2, k3, k4, k5, k6, k7, k8, k9⟩ := ix_cutn cut l (by rw [← hl]; exact HWL.out.1) (by rw [← hl]; have := HWL.out.2; omega)
    obtain ⟨A7, c7, hr7, -⟩ := HSR.out
    subst hr7
    simp only [hl] at HSRE ⊢
    have HK := Lib.hid (show k < WB.length by rw [hl]; exact k5)
    have HLL := Lib.hid hl
    have hl0 : ¬ l = 0 := by omega
    clear hHeld b9 hl k5 HSR
    go_upto_region 6 with (fail)
    refine wp_region_lit ?_
    refine wpList_plain rfl (fun K hK => ?_)
    go_simp
    refine hK _ _ ?_
    clear hK K
    try simp only [Act.put, List.setIfInBounds_toArray, List.set_cons_zero, List.set_cons_succ]
    refine wpList_plain rfl (fun K hK => ?_)
    go_simp
    refine hK _ _ ?_
    clear hK K
    try simp only [Act.put, List.setIfInBounds_toArray, List.set_cons_zero, List.set_cons_succ]
    refine wpList_plain rfl (fun K hK => ?_)
    go_simp
    refine hK _ _ ?_
    clear hK K
    try simp only [Act.put, List.setIfInBounds_toArray, List.set_cons_zero, List.set_cons_succ]
    refine wpList_plain rfl (fun K hK => ?_)
    go_simp
    refine hK _ _ ?_
    clear hK K
    try simp only [Act.put, List.setIfInBounds_toArray, List.set_cons_zero, List.set_cons_succ]
    refine wpList_plain rfl (fun K hK => ?_)
    go_simp
    refine hK _ _ ?_
    clear hK K
    try simp only [Act.put, List.setIfInBounds_toArray, List.set_cons_zero, List.set_cons_succ]
    refine wpList_plain rfl (fun K hK => ?_)
    go_simp
    refine hK _ _ ?_
    clear hK K
    try simp only [Act.put, List.setIfInBounds_toArray, List.set_cons_zero, List.set_cons_succ]
    refine wpList_plain rfl (fun K hK => ?_)
    go_simp
    refine hK _ _ ?_
    clear hK K
    try simp only [Act.put, List.setIfInBounds_toArray, List.set_cons_zero, List.set_cons_succ]
    refine wpList_plain rfl (fun K hK => ?_)
    go_simp
    refine hK _ _ ?_
    clear hK K
    try simp only [Act.put, List.setIfInBounds_toArray, List.set_cons_zero, List.set_cons_succ]
    clear k1 k2 k3 k4 k6 k7 k8 k9 hl0
    refine wpList_sliceH rfl rfl rfl HSRE.out k rfl (Nat.le_of_lt HK.out) ?_
    intro v53 hv53
    try simp only [Act.put, List.setIfInBounds_toArray, List.set_cons_zero, List.set_cons_succ]
    obtain ⟨bt, hbt⟩ : ∃ b, WB.take k = b := ⟨_, rfl⟩
    rw [hbt] at hv53
    have HRT := Lib.hid (show readBy saidM bt = (zeroM 0, 0, 3) by rw [← hbt, ← HW.out]; exact HelloMath.read_cut HF.out HM6.out.1.1 HM6.out.1.2 (by rw [HW.out]; exact HK.out))
    have H40T := Lib.hid (show bt.length ≤ 40000 by rw [← hbt, List.length_take]; have := HWL.out; omega)
    clear hbt
    refine wpList_plain rfl (fun K hK0 => ?_)
    have hK := Lib.hid hK0
    clear hK0
    go_simp
    go_at_call 16
    refine (read_e bt v53 _ (HT.out.below HEE.out) (hv53.sl HE6.out.size) H40T).mono ?_
    rintro e w10 ⟨cs10, rfl, hm10, hb10⟩
    try go_wp2_with fail
    refine hK.out _ _ ?_
    clear hK K
    try simp only [Act.put, List.setIfInBounds_toArray, List.set_cons_zero, List.set_cons_succ]
    rw [HRT.out] at hm10
    have hz0 : ((0 : Nat) : Int) = 0 := rfl
    simp only [HRT.out, hz0]
    clear hz0 hv53
    refine wpList_plain rfl (fun K hK => ?_)
    go_simp
    refine hK _ _ ?_
    clear hK K
    try simp only [Act.put, List.setIfInBounds_toArray, List.set_cons_zero, List.set_cons_succ]
    refine wpList_plain rfl (fun K hK => ?_)
    go_simp
    refine hK _ _ ?_
    clear hK K
    try simp only [Act.put, List.setIfInBounds_toArray, List.set_cons_zero, List.set_cons_succ]
    refine wpList_plain rfl (fun K hK => ?_)
    go_simp
    refine hK _ _ ?_
    clear hK K
    try simp only [Act.put, List.setIfInBounds_toArray, List.set_cons_zero, List.set_cons_succ]
    refine wpList_plain rfl (fun K hK => ?_)
    go_simp
    refine hK _ _ ?_
    clear hK K
    try simp only [Act.put, List.setIfInBounds_toArray, List.set_cons_zero, List.set_cons_succ]
    refine wpList_new_blk rfl 30 rfl _ zeroMsg ?_
    intro g12 w12 hg12 b12 hb12
    try simp only [Act.put, List.setIfInBounds_toArray, List.set_cons_zero, List.set_cons_succ]
    have HG12 := Lib.hid (show wE.heap.size ≤ g12 by rw [hg12]; exact hb10.size)
    have hbx := hb10.trans (hb12.mono hb10.size)
    refine wpList_store_blk rfl 30 (.tmp 12) (.tmp 55) rfl rfl g12 cs10 rfl rfl _ _ b12 (infoMsg.trans (by rw [hm10.len])) (by rw [hm10.len, mC_length rfl rfl]) hm10.one ?_
    intro w13 b13 hg13
    try simp only [Act.put, List.setIfInBounds_toArray, List.set_cons_zero, List.set_cons_succ]
    have hby := hbx.trans (grown_below hg13 HG12.out hbx.size)
    have HB13 := Lib.hid (HEE.out.trans (hby.mono HEE.out.size))
    have HME13 := Lib.hid (HME.out.below hby)
    have HM13 := Lib.hid ((HM6.out.below HE6.out).below hby)
    have HL9 := Lib.hid (fun (V : World) (hV : Below w13.heap.size w13 V) => rangeAt_of_blk ((HB9.out.below hby HB9.out.lt).below hV (HB9.out.below hby HB9.out.lt).lt))
    have HL3 := Lib.hid (fun (V : World) (hV : Below w13.heap.size w13 V) => rangeAt_of_blk (((HB6.out.below HE6.out HB6.out.lt).below hby (HB6.out.below HE6.out HB6.out.lt).lt).below hV ((HB6.out.below HE6.out HB6.out.lt).below hby (HB6.out.below HE6.out HB6.out.lt).lt).lt))
    have HNC := Lib.hid (show M.certs.length ≤ 1000 by have := HSM.out.2.2.2.2.2.1; omega)
    have HIL := Lib.hid HM6.out.len
    clear hm10 hb10 hg12 b12 hb12 hbx b13 hg13 hby
    refine wpList_plain rfl (fun K hK => ?_)
    go_simp
    refine hK _ _ ?_
    clear hK K
    try simp only [Act.put, List.setIfInBounds_toArray, List.set_cons_zero, List.set_cons_succ]
    refine wpList_plain rfl (fun K hK => ?_)
    go_simp
    refine hK _ _ ?_
    clear hK K
    try simp only [Act.put, List.setIfInBounds_toArray, List.set_cons_zero, List.set_cons_succ]
    go_upto_region 7 with (fail)
    refine wp_region_noPanic ?_
    refine wp_region_held_drew (S := fun V => Below w13.heap.size w13 V) (by kernel_rfl) (by exact below_drewN (Below.refl _ _) 1) (fun hHeld => ?_)
    refine wpAnyH_take (i := 0) (oi := ⟨_, _, _, _, _, _⟩) (v := ?_) rfl (by kernel_rfl) (by kernel_rfl) (by kernel_rfl) (fun _ _ _ h => h) (Or.inl ⟨by rfl, ?_⟩) hHeld ?_
    rotate_left 1
    · (intro W hSw; (try dsimp only at hSw); go_simp; try with_reducible rfl)
    try simp only [Act.put, List.setIfInBounds_toArray, List.set_cons_zero, List.set_cons_succ]
    refine wpAnyH_take (i := 1) (oi := ⟨_, _, _, _, _, _⟩) (v := ?_) rfl (by kernel_rfl) (by kernel_rfl) (by kernel_rfl) (fun _ _ _ h => h) (Or.inl ⟨by rfl, ?_⟩) hHeld ?_
    rotate_left 1
    · (intro W hSw; (try dsimp only at hSw); go_simp; try with_reducible rfl)
    try simp only [Act.put, List.setIfInBounds_toArray, List.set_cons_zero, List.set_cons_succ]
    refine wpAnyH_take (i := 2) (oi := ⟨_, _, _, _, _, _⟩) (v := ?_) rfl (by kernel_rfl) (by kernel_rfl) (by kernel_rfl) (fun _ _ _ h => h) (Or.inl ⟨by rfl, ?_⟩) hHeld ?_
    rotate_left 1
    · (intro W hSw; (try dsimp only at hSw); go_simp; try with_reducible rfl)
    try simp only [Act.put, List.setIfInBounds_toArray, List.set_cons_zero, List.set_cons_succ]
    refine wpAnyH_take (i := 3) (oi := ⟨_, _, _, _, _, _⟩) (v := ?_) rfl (by kernel_rfl) (by kernel_rfl) (by kernel_rfl) (fun _ _ _ h => h) (Or.inl ⟨by rfl, ?_⟩) hHeld ?_
    rotate_left 1
    · (intro W hSw; (try dsimp only at hSw); go_simp; try with_reducible rfl)
    try simp only [Act.put, List.setIfInBounds_toArray, List.set_cons_zero, List.set_cons_succ]
    refine wpAnyH_take (i := 4) (oi := ⟨_, _, _, _, _, _⟩) (v := ?_) rfl (by kernel_rfl) (by kernel_rfl) (by kernel_rfl) (fun _ _ _ h => h) (Or.inl ⟨by rfl, ?_⟩) hHeld ?_
    rotate_left 1
    · (intro W hSw; (try dsimp only at hSw); go_simp; try with_reducible rfl)
    try simp only [Act.put, List.setIfInBounds_toArray, List.set_cons_zero, List.set_cons_succ]
    refine wpAnyH_take (i := 5) (oi := ⟨_, _, _, _, _, _⟩) (v := ?_) rfl (by kernel_rfl) (by kernel_rfl) (by kernel_rfl) (fun _ _ _ h => h) (Or.inl ⟨by rfl, ?_⟩) hHeld ?_
    rotate_left 1
    · (intro W hSw; (try dsimp only at hSw); go_simp; try with_reducible rfl)
    try simp only [Act.put, List.setIfInBounds_toArray, List.set_cons_zero, List.set_cons_succ]
    refine wpAnyH_take (i := 6) (oi := ⟨_, _, _, _, _, _⟩) (v := ?_) rfl (by kernel_rfl) (by kernel_rfl) (by kernel_rfl) (fun _ _ _ h => h) (Or.inl ⟨by rfl, ?_⟩) hHeld ?_
    rotate_left 1
    · (intro W hSw; (try dsimp only at hSw); go_simp; try with_reducible rfl)
    try simp only [Act.put, List.setIfInBounds_toArray, List.set_cons_zero, List.set_cons_succ]
    refine wpAnyH_take (i := 7) (oi := ⟨_, _, _, _, _, _⟩) (v := ?_) rfl (by kernel_rfl) (by kernel_rfl) (by kernel_rfl) (fun _ _ _ h => h) (Or.inl ⟨by rfl, ?_⟩) hHeld ?_
    rotate_left 1
    · (intro W hSw; (try dsimp only at hSw); go_simp; try with_reducible rfl)
    try simp only [Act.put, List.setIfInBounds_toArray, List.set_cons_zero, List.set_cons_succ]
    refine wpAnyH_take (i := 8) (oi := ⟨_, _, _, _, _, _⟩) (v := ?_) rfl (by kernel_rfl) (by kernel_rfl) (by kernel_rfl) (fun _ _ _ h => h) (Or.inl ⟨by rfl, ?_⟩) hHeld ?_
    rotate_left 1
    · (intro W hSw; (try dsimp only at hSw); go_simp; try with_reducible rfl)
    try simp only [Act.put, List.setIfInBounds_toArray, List.set_cons_zero, List.set_cons_succ]
    refine wpAnyH_take (i := 9) (oi := ⟨_, _, _, _, _, _⟩) (v := ?_) rfl (by kernel_rfl) (by kernel_rfl) (by kernel_rfl) (fun _ _ _ h => h) (Or.inl ⟨by rfl, ?_⟩) hHeld ?_
    rotate_left 1
    · (intro W hSw; (try dsimp only at hSw); refine exec_load_mid 30 (.tmp 9) ?_ g9 0 ?_ cs9 _ (HL9.out W hSw) Tryd.underlying30 rfl (infoMsg.trans (by rw [HML.out])) <;> rfl)
    try simp only [Act.put, List.setIfInBounds_toArray, List.set_cons_zero, List.set_cons_succ]
    refine wpAnyH_take (i := 11) (oi := ⟨_, _, _, _, _, _⟩) (v := ?_) rfl (by kernel_rfl) (by kernel_rfl) (by kernel_rfl) (fun _ _ _ h => h) (Or.inl ⟨by rfl, ?_⟩) hHeld ?_
    rotate_left 1
    · (intro W hSw; (try dsimp only at hSw); refine exec_load_mid 25 (.tmp 3) ?_ g 0 ?_ cs2 _ (HL3.out W hSw) Tryd.underlying25 rfl (infoR.trans (by rw [HIL.out])) <;> rfl)
    try simp only [Act.put, List.setIfInBounds_toArray, List.set_cons_zero, List.set_cons_succ]
    refine wpAnyH_ready (rs := [10]) (by kernel_rfl) (by simp) ?_
    refine AllReadyH.cons (o := ⟨_, _, _, _, _, _⟩) rfl (fun K hK => ?_) AllReadyH.nil
    go_simp
    go_at_call 15
    refine (from_e M cs9 _ (HME13.out.below hHeld) HNC).mono ?_
    rintro e w14 ⟨cs14, rfl, hm14, hbn⟩
    try go_wp2_with fail
    refine hK.out _ _ (hHeld.trans (hbn.mono hHeld.size)) (fun hHeld => ?_)
    clear hK K hbn
    try simp only [Act.put, List.setIfInBounds_toArray, List.set_cons_zero, List.set_cons_succ]
    refine wpAnyH_ready (rs := [12]) (by kernel_rfl) (by simp) ?_
    refine AllReadyH.cons (o := ⟨_, _, _, _, _, _⟩) rfl (fun K hK => ?_) AllReadyH.nil
    go_simp
    go_at_call 14
    refine (same_e M cs14 cs2 _ hm14 (HM13.out.below hHeld)).mono ?_
    rintro e w15 ⟨rfl, hbn⟩
    try go_wp2_with fail
    refine hK.out _ _ (hHeld.trans (hbn.mono hHeld.size)) (fun hHeld => ?_)
    clear hK K hbn hm14
    try simp only [Act.put, List.setIfInBounds_toArray, List.set_cons_zero, List.set_cons_succ]
    refine wpAnyH_take (i := 13) (oi := ⟨_, _, _, _, _, _⟩) (v := ?_) rfl (by kernel_rfl) (by kernel_rfl) (by kernel_rfl) (fun _ _ _ h => h) (Or.inl ⟨by rfl, ?_⟩) hHeld ?_
    rotate_left 1
    · (intro W hSw; (try dsimp only at hSw); go_simp; try with_reducible rfl)
    try simp only [Act.put, List.setIfInBounds_toArray, List.set_cons_zero, List.set_cons_succ]
    refine wpAnyH_take (i := 14) (oi := ⟨_, _, _, _, _, _⟩) (v := ?_) rfl (by kernel_rfl) (by kernel_rfl) (by kernel_rfl) (fun _ _ _ h => h) (Or.inl ⟨by rfl, ?_⟩) hHeld ?_
    rotate_left 1
    · (intro W hSw; (try dsimp only at hSw); go_simp; try with_reducible rfl)
    try simp only [Act.put, List.setIfInBounds_toArray, List.set_cons_zero, List.set_cons_succ]
    refine wpAnyH_take (i := 15) (oi := ⟨_, _, _, _, _, _⟩) (v := ?_) rfl (by kernel_rfl) (by kernel_rfl) (by kernel_rfl) (fun _ _ _ h => h) (Or.inl ⟨by rfl, ?_⟩) hHeld ?_
    rotate_left 1
    · (intro W hSw; (try dsimp only at hSw); go_simp; try with_reducible rfl)
    try simp only [Act.put, List.setIfInBounds_toArray, List.set_cons_zero, List.set_cons_succ]
    refine wpAnyH_take (i := 16) (oi := ⟨_, _, _, _, _, _⟩) (v := ?_) rfl (by kernel_rfl) (by kernel_rfl) (by kernel_rfl) (fun _ _ _ h => h) (Or.inl ⟨by rfl, ?_⟩) hHeld ?_
    rotate_left 1
    · (intro W hSw; (try dsimp only at hSw); go_simp; try with_reducible rfl)
    try simp only [Act.put, List.setIfInBounds_toArray, List.set_cons_zero, List.set_cons_succ]
    refine wpAnyH_take (i := 17) (oi := ⟨_, _, _, _, _, _⟩) (v := ?_) rfl (by kernel_rfl) (by kernel_rfl) (by kernel_rfl) (fun _ _ _ h => h) (Or.inl ⟨by rfl, ?_⟩) hHeld ?_
    rotate_left 1
    · (intro W hSw; (try dsimp only at hSw); go_simp; try with_reducible rfl)
    try simp only [Act.put, List.setIfInBounds_toArray, List.set_cons_zero, List.set_cons_succ]
    refine wpAnyH_take (i := 18) (oi := ⟨_, _, _, _, _, _⟩) (v := ?_) rfl (by kernel_rfl) (by kernel_rfl) (by kernel_rfl) (fun _ _ _ h => h) (Or.inl ⟨by rfl, ?_⟩) hHeld ?_
    rotate_left 1
    · (intro W hSw; (try dsimp only at hSw); go_simp; try with_reducible rfl)
    try simp only [Act.put, List.setIfInBounds_toArray, List.set_cons_zero, List.set_cons_succ]
    refine wpAnyH_done (by kernel_rfl) ?_ _
    refine NoPanic.normal ?_
    go_wp2
    go_ret
    exact ⟨rfl, HB13.out.trans (hHeld.mono HB13.out.size)⟩
theorem helloBack_walk (m : Msg) (cs : List Value) (A : Option Addr) (n c : Nat) (Y : List UInt8) (cut : Int) (w : World) (hT : TabH w) (h : RIn w m cs) (hn : Y.length = n) (hY : In w w.heap.size A c Y) : Calls Tryd.prog 5 #[.agg cs.toArray, .slice A n c, .int .i64 cut] w fun e w' => e = .returned (.bool true) ∧ Below w.heap.size w w' := by
  cases hf : formM (tameM m) with
  | false => exact back_0 m cs A n c Y cut w hT h hn hY hf
  | true => exact back_1 m cs A n c Y cut w hT h hn hY hf
end Go.Proofs.YtagblbfbjemfhaaDoor
