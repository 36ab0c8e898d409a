/-
  The walk of the statement HelloWrites.
-/
import Derived.Test.YtagblbfbjemfhaaDoorKc
namespace Go.Proofs.YtagblbfbjemfhaaDoor
open Go.RowKit
open HelloMath (Msg zeroM wholeM formM)

theorem MVs.len {w : World} {m : Msg} {cs : List Value} (h : MVs w m cs) : cs.length = 75 := by
  obtain ⟨v1, v2, v3, v4, v5, vc, rfl, hl, _⟩ := h
  exact mC_length hl.1 hl.2
theorem MVs.one {w : World} {m : Msg} {cs : List Value} (h : MVs w m cs) : cs.toArray.all (·.oneCell') = true := by
  obtain ⟨v1, v2, v3, v4, v5, vc, rfl, hl, ⟨_, _, rfl, _⟩, ⟨_, _, rfl, _⟩, ⟨_, _, rfl, _⟩, ⟨_, _, rfl, _⟩, ⟨_, _, rfl, _⟩, ⟨_, _, rfl, _⟩⟩ := h
  exact one_mC rfl rfl rfl rfl rfl rfl
set_option maxRecDepth 100000 in
set_option maxHeartbeats 40000000 in
theorem writes_0 (m : Msg) (cs : List Value) (w : World) (hT : TabH w) (h : RIn w m cs) (hf : formM (tameM m) = false) : Calls Tryd.prog 3 #[.agg cs.toArray] w fun e w' => e = .returned (.bool true) ∧ Below w.heap.size w w' := by
  have HT := Lib.hid hT
  clear hT
  go_enter Tryd.func3, Tryd.ntmps3
  go_upto_region 0 with (fail)
  refine wp_region_lit ?_
  refine wpList_plain rfl (fun K hK => ?_)
  go_simp
  refine hK _ _ ?_
  clear hK K
  have b1 := Blk.new w 25 cs
  have hb1 : Below w.heap.size w (w.alloc (.cells cs.toArray 25)) := (Below.refl _ _).alloc (Nat.le_refl _) _
  have h1 := h.below hb1
  obtain ⟨g, hg1⟩ : ∃ g, g = w.heap.size := ⟨_, rfl⟩
  rw [← hg1] at b1
  simp only [← hg1]
  have HG := Lib.hid (Nat.le_of_eq hg1.symm)
  clear h hg1
  generalize w.alloc (.cells cs.toArray 25) = w1 at *
  try simp only [Act.put, zSa, zSz, zSs]
  go_upto_region 1 with (fail)
  refine wp_region_lit ?_
  refine wpList_load_mid rfl 25 (.tmp 1) rfl g 0 rfl cs _ (rangeAt_of_blk b1) Tryd.underlying25 rfl (infoR.trans (by rw [h1.len])) ?_
  try simp only [Act.put, zSa, zSz, zSs]
  refine wpList_plain rfl (fun K hK0 => ?_)
  have hK := Lib.hid hK0
  clear hK0
  go_simp
  go_at_call 9
  refine (tame_e m cs _ h1).mono ?_
  rintro e w2 ⟨cs2, rfl, hm2, hb2⟩
  try go_wp2_with fail
  refine hK.out _ _ ?_
  clear hK K
  try simp only [Act.put, zSa, zSz, zSs]
  have b2 := b1.below hb2 b1.lt
  obtain ⟨M, hM⟩ : ∃ M, tameM m = M := ⟨_, rfl⟩
  have HSM := Lib.hid (show Small M by rw [← hM]; exact small_tame m)
  rw [hM] at hm2 hf
  have HF := Lib.hid hf
  clear hf
  refine wpList_store_blk rfl 25 (.tmp 1) (.tmp 9) rfl rfl g cs2 rfl rfl _ _ b2 (infoR.trans (by rw [hm2.rin.len])) (by rw [hm2.rin.len, h1.len]) hm2.rin.one ?_
  intro w3 b3 hg3
  try simp only [Act.put, zSa, zSz, zSs]
  replace hm2 := (hm2.kept hg3 b1.lt).rin
  have hb13 := hb1.trans ((hb2.mono hb1.size).trans (grown_below hg3 HG.out (Nat.le_trans hb1.size hb2.size)))
  clear hb2 hb1 hg3 b1 b2 h1 hM
  go_upto_region 2 with (fail)
  refine wp_region_lit ?_
  refine wpList_load_mid rfl 25 (.tmp 1) rfl g 0 rfl cs2 _ (rangeAt_of_blk b3) Tryd.underlying25 rfl (infoR.trans (by rw [hm2.len])) ?_
  try simp only [Act.put, zSa, zSz, zSs]
  refine wpList_plain rfl (fun K hK0 => ?_)
  have hK := Lib.hid hK0
  clear hK0
  go_simp
  go_at_call 10
  refine (to_e M cs2 _ hm2 HSM).mono ?_
  rintro e w4 ⟨cs4, rfl, hm4, hb4⟩
  try go_wp2_with fail
  refine hK.out _ _ ?_
  clear hK K
  try simp only [Act.put, zSa, zSz, zSs]
  have b4 := b3.below hb4 b3.lt
  replace hm2 := hm2.below hb4
  have hb14 := hb13.trans (hb4.mono hb13.size)
  clear hb4 hb13 b3
  refine wpList_new_blk rfl 30 rfl _ zeroMsg ?_
  intro g3 w5 hg5 b5 hb5
  try simp only [Act.put, zSa, zSz, zSs]
  have HG5 := Lib.hid (Nat.le_of_eq hg5.symm)
  refine wpList_store_blk rfl 30 (.tmp 3) (.tmp 11) rfl rfl g3 cs4 rfl rfl _ _ b5 (infoMsg.trans (by rw [hm4.len])) (by rw [hm4.len, mC_length rfl rfl]) hm4.one ?_
  intro w6 b6 hg6
  try simp only [Act.put, zSa, zSz, zSs]
  have hb46 := hb5.trans (grown_below hg6 HG5.out hb5.size)
  have hm6 : MVs w6 M cs4 := hm4.below hb46
  have hr6 := hm2.below hb46
  have b46 := b4.below hb46 b4.lt
  have hb16 := hb14.trans (hb46.mono hb14.size)
  have HML := Lib.hid hm4.len
  clear hm4 hm2 b4 b5 hb5 hg5 hg6 hb14 hb46
  go_upto_region 3 with (fail)
  refine wp_region_lit ?_
  refine wpList_load_mid rfl 30 (.tmp 3) rfl g3 0 rfl cs4 _ (rangeAt_of_blk b6) Tryd.underlying30 rfl (infoMsg.trans (by rw [HML.out])) ?_
  try simp only [Act.put, zSa, zSz, zSs]
  refine wpList_plain rfl (fun K hK0 => ?_)
  have hK := Lib.hid hK0
  clear hK0
  go_simp
  go_at_call 11
  refine (write_0 M cs4 _ (HT.out.below hb16) hm6 HF.out).mono ?_
  rintro e w7 ⟨rfl, hb7⟩
  try go_wp2_with fail
  refine hK.out _ _ ?_
  clear hK K
  try simp only [Act.put, zSa, zSz, zSs]
  have b7 := b6.below hb7 b6.lt
  have b47 := b46.below hb7 b46.lt
  have hm7 := hm6.below hb7
  have hr7 := hr6.below hb7
  have hb17 := hb16.trans (hb7.mono hb16.size)
  clear hb7 b6 b46 hm6 hr6 hb16
  refine wpList_plain rfl (fun K hK => ?_)
  go_simp
  refine hK _ _ ?_
  clear hK K
  try simp only [Act.put, zSa, zSz, zSs]
  refine wpList_plain rfl (fun K hK => ?_)
  go_simp
  refine hK _ _ ?_
  clear hK K
  try simp only [Act.put, zSa, zSz, zSs]
  refine wpList_plain rfl (fun K hK => ?_)
  go_simp
  refine hK _ _ ?_
  clear hK K
  try simp only [Act.put, zSa, zSz, zSs]
  refine wpList_plain rfl (fun K hK => ?_)
  go_simp
  refine hK _ _ ?_
  clear hK K
  try simp only [Act.put, zSa, zSz, zSs]
  refine wpList_plain rfl (fun K hK => ?_)
  go_simp
  refine hK _ _ ?_
  clear hK K
  try simp only [Act.put, zSa, zSz, zSs]
  go_upto_region 4 with (fail)
  refine wp_region_lit ?_
  refine wpList_load_mid rfl 25 (.tmp 1) rfl g 0 rfl cs2 _ (rangeAt_of_blk b47) Tryd.underlying25 rfl (infoR.trans (by rw [hr7.len])) ?_
  try simp only [Act.put, zSa, zSz, zSs]
  refine wpList_plain rfl (fun K hK0 => ?_)
  have hK := Lib.hid hK0
  clear hK0
  go_simp
  go_at_call 12
  refine (rwrite_0 M cs2 _ hr7 HSM.out HF.out).mono ?_
  rintro e w8 ⟨rfl, hb8⟩
  try go_wp2_with fail
  refine hK.out _ _ ?_
  clear hK K
  try simp only [Act.put, zSa, zSz, zSs]
  have HS8 := Lib.hid (nilSl w8)
  have HB8 := Lib.hid (hb17.trans (hb8.mono hb17.size))
  have HL3 := Lib.hid (fun (V : World) (hV : Below w8.heap.size w8 V) => rangeAt_of_blk ((b7.below hb8 b7.lt).below hV (b7.below hb8 b7.lt).lt))
  have HL1 := Lib.hid (fun (V : World) (hV : Below w8.heap.size w8 V) => rangeAt_of_blk ((b47.below hb8 b47.lt).below hV (b47.below hb8 b47.lt).lt))
  have HM8 := Lib.hid (hm7.below hb8)
  have HR8 := Lib.hid (hr7.below hb8)
  have HNC := Lib.hid (show M.certs.length ≤ 1000 by have := HSM.out.2.2.2.2.2.1; omega)
  clear b7 b47 hb8 hm7 hr7 hb17
  refine wpList_plain rfl (fun K hK => ?_)
  go_simp
  refine hK _ _ ?_
  clear hK K
  try simp only [Act.put, zSa, zSz, zSs]
  refine wpList_plain rfl (fun K hK => ?_)
  go_simp
  refine hK _ _ ?_
  clear hK K
  try simp only [Act.put, zSa, zSz, zSs]
  refine wpList_plain rfl (fun K hK => ?_)
  go_simp
  refine hK _ _ ?_
  clear hK K
  try simp only [Act.put, zSa, zSz, zSs]
  refine wpList_plain rfl (fun K hK => ?_)
  go_simp
  refine hK _ _ ?_
  clear hK K
  try simp only [Act.put, zSa, zSz, zSs]
  refine wpList_plain rfl (fun K hK => ?_)
  go_simp
  refine hK _ _ ?_
  clear hK K
  try simp only [Act.put, zSa, zSz, zSs]
  go_upto_region 5 with (fail)
  refine wp_region_noPanic ?_
  refine wp_region_held_drew (S := fun V => Below w8.heap.size w8 V) (by kernel_rfl) (by exact below_drewN (Below.refl _ _) 1) (fun hHeld => ?_)
  refine wpAnyH_ready (rs := [0]) (by kernel_rfl) (by simp) ?_
  refine AllReadyH.cons (o := ⟨_, _, _, _, _, _⟩) rfl (fun K hK => ?_) AllReadyH.nil
  go_simp
  go_at_call 13
  refine (hellos_e _ (HT.out.below (HB8.out.trans (hHeld.mono HB8.out.size)))).mono ?_
  rintro e w9 ⟨rfl, hbn⟩
  try go_wp2_with fail
  refine hK.out _ _ (hHeld.trans (hbn.mono hHeld.size)) (fun hHeld => ?_)
  clear hK K hbn
  try simp only [Act.put, zSa, zSz, zSs]
  refine wpT 1 ?_ rfl (by kernel_rfl) (by kernel_rfl) (by kernel_rfl) (fun _ _ _ h => h) (by rfl) ?_ hHeld ?_
  rotate_left 1
  · (intro W hSw; (try dsimp only at hSw); go_simp; try with_reducible rfl)
  try simp only [Act.put, zSa, zSz, zSs]
  refine wpT 2 ?_ rfl (by kernel_rfl) (by kernel_rfl) (by kernel_rfl) (fun _ _ _ h => h) (by rfl) ?_ hHeld ?_
  rotate_left 1
  · (intro W hSw; (try dsimp only at hSw); go_simp; try with_reducible rfl)
  try simp only [Act.put, zSa, zSz, zSs]
  refine wpT 4 ?_ rfl (by kernel_rfl) (by kernel_rfl) (by kernel_rfl) (fun _ _ _ h => h) (by rfl) ?_ hHeld ?_
  rotate_left 1
  · (intro W hSw; (try dsimp only at hSw); go_simp; try with_reducible rfl)
  try simp only [Act.put, zSa, zSz, zSs]
  refine wpT 3 ?_ rfl (by kernel_rfl) (by kernel_rfl) (by kernel_rfl) (fun _ _ _ h => h) (by rfl) ?_ hHeld ?_
  rotate_left 1
  · (intro W hSw; (try dsimp only at hSw); refine exec_strV (.tmp 24) ?_ [] _ ?_ (HS8.out.below hSw) <;> rfl)
  try simp only [Act.put, zSa, zSz, zSs]
  refine wpT 5 ?_ rfl (by kernel_rfl) (by kernel_rfl) (by kernel_rfl) (fun _ _ _ h => h) (by rfl) ?_ hHeld ?_
  rotate_left 1
  · (intro W hSw; (try dsimp only at hSw); go_simp; try with_reducible rfl)
  try simp only [Act.put, zSa, zSz, zSs]
  refine wpT 6 ?_ rfl (by kernel_rfl) (by kernel_rfl) (by kernel_rfl) (fun _ _ _ h => h) (by rfl) ?_ hHeld ?_
  rotate_left 1
  · (intro W hSw; (try dsimp only at hSw); go_simp; try with_reducible rfl)
  try simp only [Act.put, zSa, zSz, zSs]
  refine wpT 7 ?_ rfl (by kernel_rfl) (by kernel_rfl) (by kernel_rfl) (fun _ _ _ h => h) (by rfl) ?_ hHeld ?_
  rotate_left 1
  · (intro W hSw; (try dsimp only at hSw); go_simp; try with_reducible rfl)
  try simp only [Act.put, zSa, zSz, zSs]
  refine wpT 8 ?_ rfl (by kernel_rfl) (by kernel_rfl) (by kernel_rfl) (fun _ _ _ h => h) (by rfl) ?_ hHeld ?_
  rotate_left 1
  · (intro W hSw; (try dsimp only at hSw); go_simp; try with_reducible rfl)
  try simp only [Act.put, zSa, zSz, zSs]
  refine wpT 9 ?_ rfl (by kernel_rfl) (by kernel_rfl) (by kernel_rfl) (fun _ _ _ h => h) (by rfl) ?_ hHeld ?_
  rotate_left 1
  · (intro W hSw; (try dsimp only at hSw); go_simp; try with_reducible rfl)
  try simp only [Act.put, zSa, zSz, zSs]
  refine wpT 10 ?_ rfl (by kernel_rfl) (by kernel_rfl) (by kernel_rfl) (fun _ _ _ h => h) (by rfl) ?_ hHeld ?_
  rotate_left 1
  · (intro W hSw; (try dsimp only at hSw); go_simp; try with_reducible rfl)
  try simp only [Act.put, zSa, zSz, zSs]
  refine wpT 11 ?_ rfl (by kernel_rfl) (by kernel_rfl) (by kernel_rfl) (fun _ _ _ h => h) (by rfl) ?_ hHeld ?_
  rotate_left 1
  · (intro W hSw; (try dsimp only at hSw); go_simp; try with_reducible rfl)
  try simp only [Act.put, zSa, zSz, zSs]
  refine wpT 12 ?_ rfl (by kernel_rfl) (by kernel_rfl) (by kernel_rfl) (fun _ _ _ h => h) (by rfl) ?_ hHeld ?_
  rotate_left 1
  · (intro W hSw; (try dsimp only at hSw); go_simp; try with_reducible rfl)
  try simp only [Act.put, zSa, zSz, zSs]
  refine wpT 13 ?_ rfl (by kernel_rfl) (by kernel_rfl) (by kernel_rfl) (fun _ _ _ h => h) (by rfl) ?_ hHeld ?_
  rotate_left 1
  · (intro W hSw; (try dsimp only at hSw); refine exec_load_mid 30 (.tmp 3) ?_ g3 0 ?_ cs4 _ (HL3.out W hSw) Tryd.underlying30 rfl (infoMsg.trans (by rw [HML.out])) <;> rfl)
  try simp only [Act.put, zSa, zSz, zSs]
  refine wpT 15 ?_ rfl (by kernel_rfl) (by kernel_rfl) (by kernel_rfl) (fun _ _ _ h => h) (by rfl) ?_ hHeld ?_
  rotate_left 1
  · (intro W hSw; (try dsimp only at hSw); refine exec_load_mid 25 (.tmp 1) ?_ g 0 ?_ cs2 _ (HL1.out W hSw) Tryd.underlying25 rfl (infoR.trans (by rw [HR8.out.len])) <;> rfl)
  try simp only [Act.put, zSa, zSz, zSs]
  refine wpAnyH_ready (rs := [14]) (by kernel_rfl) (by simp) ?_
  refine AllReadyH.cons (o := ⟨_, _, _, _, _, _⟩) rfl (fun K hK => ?_) AllReadyH.nil
  go_simp
  go_at_call 15
  refine (from_e M cs4 _ (HM8.out.below hHeld) HNC).mono ?_
  rintro e w10 ⟨cs10, rfl, hm10, hbn⟩
  try go_wp2_with fail
  refine hK.out _ _ (hHeld.trans (hbn.mono hHeld.size)) (fun hHeld => ?_)
  clear hK K hbn
  try simp only [Act.put, zSa, zSz, zSs]
  refine wpAnyH_ready (rs := [16]) (by kernel_rfl) (by simp) ?_
  refine AllReadyH.cons (o := ⟨_, _, _, _, _, _⟩) rfl (fun K hK => ?_) AllReadyH.nil
  go_simp
  go_at_call 14
  refine (same_e M cs10 cs2 _ hm10 (HR8.out.below hHeld)).mono ?_
  rintro e w11 ⟨rfl, hbn⟩
  try go_wp2_with fail
  refine hK.out _ _ (hHeld.trans (hbn.mono hHeld.size)) (fun hHeld => ?_)
  clear hK K hbn hm10
  try simp only [Act.put, zSa, zSz, zSs]
  refine wpT 17 ?_ rfl (by kernel_rfl) (by kernel_rfl) (by kernel_rfl) (fun _ _ _ h => h) (by rfl) ?_ hHeld ?_
  rotate_left 1
  · (intro W hSw; (try dsimp only at hSw); go_simp; try with_reducible rfl)
  try simp only [Act.put, zSa, zSz, zSs]
  refine wpT 18 ?_ rfl (by kernel_rfl) (by kernel_rfl) (by kernel_rfl) (fun _ _ _ h => h) (by rfl) ?_ hHeld ?_
  rotate_left 1
  · (intro W hSw; (try dsimp only at hSw); go_simp; try with_reducible rfl)
  try simp only [Act.put, zSa, zSz, zSs]
  refine wpAnyH_done (by kernel_rfl) ?_ _
  refine NoPanic.normal ?_
  go_wp2
  go_ret
  exact ⟨rfl, HB8.out.trans (hHeld.mono HB8.out.size)⟩
set_option maxRecDepth 100000 in
set_option maxHeartbeats 40000000 in
theorem writes_1 (m : Msg) (cs : List Value) (w : World) (hT : TabH w) (h : RIn w m cs) (hf : formM (tameM m) = true) : Calls Tryd.prog 3 #[.agg cs.toArray] w fun e w' => e = .returned (.bool true) ∧ Below w.heap.size w w' := by
  have HT := Lib.hid hT
  clear hT
  go_enter Tryd.func3, Tryd.ntmps3
  go_upto_region 0 with (fail)
  refine wp_region_lit ?_
  refine wpList_plain rfl (fun K hK => ?_)
  go_simp
  refine hK _ _ ?_
  clear hK K
  have b1 := Blk.new w 25 cs
  have hb1 : Below w.heap.size w (w.alloc (.cells cs.toArray 25)) := (Below.refl _ _).alloc (Nat.le_refl _) _
  have h1 := h.below hb1
  obtain ⟨g, hg1⟩ : ∃ g, g = w.heap.size := ⟨_, rfl⟩
  rw [← hg1] at b1
  simp only [← hg1]
  have HG := Lib.hid (Nat.le_of_eq hg1.symm)
  clear h hg1
  generalize w.alloc (.cells cs.toArray 25) = w1 at *
  try simp only [Act.put, zSa, zSz, zSs]
  go_upto_region 1 with (fail)
  refine wp_region_lit ?_
  refine wpList_load_mid rfl 25 (.tmp 1) rfl g 0 rfl cs _ (rangeAt_of_blk b1) Tryd.underlying25 rfl (infoR.trans (by rw [h1.len])) ?_
  try simp only [Act.put, zSa, zSz, zSs]
  refine wpList_plain rfl (fun K hK0 => ?_)
  have hK := Lib.hid hK0
  clear hK0
  go_simp
  go_at_call 9
  refine (tame_e m cs _ h1).mono ?_
  rintro e w2 ⟨cs2, rfl, hm2, hb2⟩
  try go_wp2_with fail
  refine hK.out _ _ ?_
  clear hK K
  try simp only [Act.put, zSa, zSz, zSs]
  have b2 := b1.below hb2 b1.lt
  obtain ⟨M, hM⟩ : ∃ M, tameM m = M := ⟨_, rfl⟩
  have HSM := Lib.hid (show Small M by rw [← hM]; exact small_tame m)
  rw [hM] at hm2 hf
  have HF := Lib.hid hf
  clear hf
  refine wpList_store_blk rfl 25 (.tmp 1) (.tmp 9) rfl rfl g cs2 rfl rfl _ _ b2 (infoR.trans (by rw [hm2.rin.len])) (by rw [hm2.rin.len, h1.len]) hm2.rin.one ?_
  intro w3 b3 hg3
  try simp only [Act.put, zSa, zSz, zSs]
  replace hm2 := (hm2.kept hg3 b1.lt).rin
  have hb13 := hb1.trans ((hb2.mono hb1.size).trans (grown_below hg3 HG.out (Nat.le_trans hb1.size hb2.size)))
  clear hb2 hb1 hg3 b1 b2 h1 hM
  go_upto_region 2 with (fail)
  refine wp_region_lit ?_
  refine wpList_load_mid rfl 25 (.tmp 1) rfl g 0 rfl cs2 _ (rangeAt_of_blk b3) Tryd.underlying25 rfl (infoR.trans (by rw [hm2.len])) ?_
  try simp only [Act.put, zSa, zSz, zSs]
  refine wpList_plain rfl (fun K hK0 => ?_)
  have hK := Lib.hid hK0
  clear hK0
  go_simp
  go_at_call 10
  refine (to_e M cs2 _ hm2 HSM).mono ?_
  rintro e w4 ⟨cs4, rfl, hm4, hb4⟩
  try go_wp2_with fail
  refine hK.out _ _ ?_
  clear hK K
  try simp only [Act.put, zSa, zSz, zSs]
  have b4 := b3.below hb4 b3.lt
  replace hm2 := hm2.below hb4
  have hb14 := hb13.trans (hb4.mono hb13.size)
  clear hb4 hb13 b3
  refine wpList_new_blk rfl 30 rfl _ zeroMsg ?_
  intro g3 w5 hg5 b5 hb5
  try simp only [Act.put, zSa, zSz, zSs]
  have HG5 := Lib.hid (Nat.le_of_eq hg5.symm)
  refine wpList_store_blk rfl 30 (.tmp 3) (.tmp 11) rfl rfl g3 cs4 rfl rfl _ _ b5 (infoMsg.trans (by rw [hm4.len])) (by rw [hm4.len, mC_length rfl rfl]) hm4.one ?_
  intro w6 b6 hg6
  try simp only [Act.put, zSa, zSz, zSs]
  have hb46 := hb5.trans (grown_below hg6 HG5.out hb5.size)
  have hm6 : MVs w6 M cs4 := hm4.below hb46
  have hr6 := hm2.below hb46
  have b46 := b4.below hb46 b4.lt
  have hb16 := hb14.trans (hb46.mono hb14.size)
  have HML := Lib.hid hm4.len
  clear hm4 hm2 b4 b5 hb5 hg5 hg6 hb14 hb46
  go_upto_region 3 with (fail)
  refine wp_region_lit ?_
  refine wpList_load_mid rfl 30 (.tmp 3) rfl g3 0 rfl cs4 _ (rangeAt_of_blk b6) Tryd.underlying30 rfl (infoMsg.trans (by rw [HML.out])) ?_
  try simp only [Act.put, zSa, zSz, zSs]
  refine wpList_plain rfl (fun K hK0 => ?_)
  have hK := Lib.hid hK0
  clear hK0
  go_simp
  go_at_call 11
  refine (write_1 M cs4 _ (HT.out.below hb16) hm6 HF.out).mono ?_
  rintro e w7 ⟨r, rfl, hB7, hb7⟩
  try go_wp2_with fail
  refine hK.out _ _ ?_
  clear hK K
  try simp only [Act.put, zSa, zSz, zSs]
  have b7 := b6.below hb7 b6.lt
  have b47 := b46.below hb7 b46.lt
  have hm7 := hm6.below hb7
  have hr7 := hr6.below hb7
  have hb17 := hb16.trans (hb7.mono hb16.size)
  clear hb7 b6 b46 hm6 hr6 hb16
  refine wpList_plain rfl (fun K hK => ?_)
  go_simp
  refine hK _ _ ?_
  clear hK K
  try simp only [Act.put, zSa, zSz, zSs]
  refine wpList_plain rfl (fun K hK => ?_)
  go_simp
  refine hK _ _ ?_
  clear hK K
  try simp only [Act.put, zSa, zSz, zSs]
  refine wpList_plain rfl (fun K hK => ?_)
  go_simp
  refine hK _ _ ?_
  clear hK K
  try simp only [Act.put, zSa, zSz, zSs]
  refine wpList_plain rfl (fun K hK => ?_)
  go_simp
  refine hK _ _ ?_
  clear hK K
  try simp only [Act.put, zSa, zSz, zSs]
  refine wpList_plain rfl (fun K hK => ?_)
  go_simp
  refine hK _ _ ?_
  clear hK K
  try simp only [Act.put, zSa, zSz, zSs]
  go_upto_region 4 with (fail)
  refine wp_region_lit ?_
  refine wpList_load_mid rfl 25 (.tmp 1) rfl g 0 rfl cs2 _ (rangeAt_of_blk b47) Tryd.underlying25 rfl (infoR.trans (by rw [hr7.len])) ?_
  try simp only [Act.put, zSa, zSz, zSs]
  refine wpList_plain rfl (fun K hK0 => ?_)
  have hK := Lib.hid hK0
  clear hK0
  go_simp
  go_at_call 12
  refine (rwrite_1 M cs2 _ hr7 HSM.out HF.out).mono ?_
  rintro e w8 ⟨rfl, hb8⟩
  try go_wp2_with fail
  refine hK.out _ _ ?_
  clear hK K
  try simp only [Act.put, zSa, zSz, zSs]
  obtain ⟨WB, hW⟩ : ∃ W, wholeM M = W := ⟨_, rfl⟩
  rw [hW] at hB7
  simp only [hW]
  clear hW
  have HS8 := Lib.hid (hB7.sl.below hb8)
  clear hB7
  have HB8 := Lib.hid (hb17.trans (hb8.mono hb17.size))
  have HL3 := Lib.hid (fun (V : World) (hV : Below w8.heap.size w8 V) => rangeAt_of_blk ((b7.below hb8 b7.lt).below hV (b7.below hb8 b7.lt).lt))
  have HL1 := Lib.hid (fun (V : World) (hV : Below w8.heap.size w8 V) => rangeAt_of_blk ((b47.below hb8 b47.lt).below hV (b47.below hb8 b47.lt).lt))
  have HM8 := Lib.hid (hm7.below hb8)
  have HR8 := Lib.hid (hr7.below hb8)
  have HNC := Lib.hid (show M.certs.length ≤ 1000 by have := HSM.out.2.2.2.2.2.1; omega)
  clear b7 b47 hb8 hm7 hr7 hb17
  refine wpList_plain rfl (fun K hK => ?_)
  go_simp
  refine hK _ _ ?_
  clear hK K
  try simp only [Act.put, zSa, zSz, zSs]
  refine wpList_plain rfl (fun K hK => ?_)
  go_simp
  refine hK _ _ ?_
  clear hK K
  try simp only [Act.put, zSa, zSz, zSs]
  refine wpList_plain rfl (fun K hK => ?_)
  go_simp
  refine hK _ _ ?_
  clear hK K
  try simp only [Act.put, zSa, zSz, zSs]
  refine wpList_plain rfl (fun K hK => ?_)
  go_simp
  refine hK _ _ ?_
  clear hK K
  try simp only [Act.put, zSa, zSz, zSs]
  refine wpList_plain rfl (fun K hK => ?_)
  go_simp
  refine hK _ _ ?_
  clear hK K
  try simp only [Act.put, zSa, zSz, zSs]
  go_upto_region 5 with (fail)
  refine wp_region_noPanic ?_
  refine wp_region_held_drew (S := fun V => Below w8.heap.size w8 V) (by kernel_rfl) (by exact below_drewN (Below.refl _ _) 1) (fun hHeld => ?_)
  refine wpAnyH_ready (rs := [0]) (by kernel_rfl) (by simp) ?_
  refine AllReadyH.cons (o := ⟨_, _, _, _, _, _⟩) rfl (fun K hK => ?_) AllReadyH.nil
  go_simp
  go_at_call 13
  refine (hellos_e _ (HT.out.below (HB8.out.trans (hHeld.mono HB8.out.size)))).mono ?_
  rintro e w9 ⟨rfl, hbn⟩
  try go_wp2_with fail
  refine hK.out _ _ (hHeld.trans (hbn.mono hHeld.size)) (fun hHeld => ?_)
  clear hK K hbn
  try simp only [Act.put, zSa, zSz, zSs]
  refine wpT 1 ?_ rfl (by kernel_rfl) (by kernel_rfl) (by kernel_rfl) (fun _ _ _ h => h) (by rfl) ?_ hHeld ?_
  rotate_left 1
  · (intro W hSw; (try dsimp only at hSw); go_simp; try with_reducible rfl)
  try simp only [Act.put, zSa, zSz, zSs]
  refine wpT 2 ?_ rfl (by kernel_rfl) (by kernel_rfl) (by kernel_rfl) (fun _ _ _ h => h) (by rfl) ?_ hHeld ?_
  rotate_left 1
  · (intro W hSw; (try dsimp only at hSw); go_simp; try with_reducible rfl)
  try simp only [Act.put, zSa, zSz, zSs]
  refine wpT 4 ?_ rfl (by kernel_rfl) (by kernel_rfl) (by kernel_rfl) (fun _ _ _ h => h) (by rfl) ?_ hHeld ?_
  rotate_left 1
  · (intro W hSw; (try dsimp only at hSw); go_simp; try with_reducible rfl)
  try simp only [Act.put, zSa, zSz, zSs]
  refine wpT 3 ?_ rfl (by kernel_rfl) (by kernel_rfl) (by kernel_rfl) (fun _ _ _ h => h) (by rfl) ?_ hHeld ?_
  rotate_left 1
  · (intro W hSw; (try dsimp only at hSw); refine exec_strV (.tmp 24) ?_ WB _ ?_ (HS8.out.below hSw) <;> rfl)
  try simp only [Act.put, zSa, zSz, zSs]
  refine wpT 5 ?_ rfl (by kernel_rfl) (by kernel_rfl) (by kernel_rfl) (fun _ _ _ h => h) (by rfl) ?_ hHeld ?_
  rotate_left 1
  · (intro W hSw; (try dsimp only at hSw); go_simp; try with_reducible rfl)
  try simp only [Act.put, zSa, zSz, zSs]
  refine wpT 6 ?_ rfl (by kernel_rfl) (by kernel_rfl) (by kernel_rfl) (fun _ _ _ h => h) (by rfl) ?_ hHeld ?_
  rotate_left 1
  · (intro W hSw; (try dsimp only at hSw); go_simp; try with_reducible rfl)
  try simp only [Act.put, zSa, zSz, zSs]
  refine wpT 7 ?_ rfl (by kernel_rfl) (by kernel_rfl) (by kernel_rfl) (fun _ _ _ h => h) (by rfl) ?_ hHeld ?_
  rotate_left 1
  · (intro W hSw; (try dsimp only at hSw); go_simp; try with_reducible rfl)
  try simp only [Act.put, zSa, zSz, zSs]
  refine wpT 8 ?_ rfl (by kernel_rfl) (by kernel_rfl) (by kernel_rfl) (fun _ _ _ h => h) (by rfl) ?_ hHeld ?_
  rotate_left 1
  · (intro W hSw; (try dsimp only at hSw); go_simp; try with_reducible rfl)
  try simp only [Act.put, zSa, zSz, zSs]
  refine wpT 9 ?_ rfl (by kernel_rfl) (by kernel_rfl) (by kernel_rfl) (fun _ _ _ h => h) (by rfl) ?_ hHeld ?_
  rotate_left 1
  · (intro W hSw; (try dsimp only at hSw); go_simp; try with_reducible rfl)
  try simp only [Act.put, zSa, zSz, zSs]
  refine wpT 10 ?_ rfl (by kernel_rfl) (by kernel_rfl) (by kernel_rfl) (fun _ _ _ h => h) (by rfl) ?_ hHeld ?_
  rotate_left 1
  · (intro W hSw; (try dsimp only at hSw); go_simp; try with_reducible rfl)
  try simp only [Act.put, zSa, zSz, zSs]
  refine wpT 11 ?_ rfl (by kernel_rfl) (by kernel_rfl) (by kernel_rfl) (fun _ _ _ h => h) (by rfl) ?_ hHeld ?_
  rotate_left 1
  · (intro W hSw; (try dsimp only at hSw); go_simp; try with_reducible rfl)
  try simp only [Act.put, zSa, zSz, zSs]
  refine wpT 12 ?_ rfl (by kernel_rfl) (by kernel_rfl) (by kernel_rfl) (fun _ _ _ h => h) (by rfl) ?_ hHeld ?_
  rotate_left 1
  · (intro W hSw; (try dsimp only at hSw); go_simp; try with_reducible rfl)
  try simp only [Act.put, zSa, zSz, zSs]
  refine wpT 13 ?_ rfl (by kernel_rfl) (by kernel_rfl) (by kernel_rfl) (fun _ _ _ h => h) (by rfl) ?_ hHeld ?_
  rotate_left 1
  · (intro W hSw; (try dsimp only at hSw); refine exec_load_mid 30 (.tmp 3) ?_ g3 0 ?_ cs4 _ (HL3.out W hSw) Tryd.underlying30 rfl (infoMsg.trans (by rw [HML.out])) <;> rfl)
  try simp only [Act.put, zSa, zSz, zSs]
  refine wpT 15 ?_ rfl (by kernel_rfl) (by kernel_rfl) (by kernel_rfl) (fun _ _ _ h => h) (by rfl) ?_ hHeld ?_
  rotate_left 1
  · (intro W hSw; (try dsimp only at hSw); refine exec_load_mid 25 (.tmp 1) ?_ g 0 ?_ cs2 _ (HL1.out W hSw) Tryd.underlying25 rfl (infoR.trans (by rw [HR8.out.len])) <;> rfl)
  try simp only [Act.put, zSa, zSz, zSs]
  refine wpAnyH_ready (rs := [14]) (by kernel_rfl) (by simp) ?_
  refine AllReadyH.cons (o := ⟨_, _, _, _, _, _⟩) rfl (fun K hK => ?_) AllReadyH.nil
  go_simp
  go_at_call 15
  refine (from_e M cs4 _ (HM8.out.below hHeld) HNC).mono ?_
  rintro e w10 ⟨cs10, rfl, hm10, hbn⟩
  try go_wp2_with fail
  refine hK.out _ _ (hHeld.trans (hbn.mono hHeld.size)) (fun hHeld => ?_)
  clear hK K hbn
  try simp only [Act.put, zSa, zSz, zSs]
  refine wpAnyH_ready (rs := [16]) (by kernel_rfl) (by simp) ?_
  refine AllReadyH.cons (o := ⟨_, _, _, _, _, _⟩) rfl (fun K hK => ?_) AllReadyH.nil
  go_simp
  go_at_call 14
  refine (same_e M cs10 cs2 _ hm10 (HR8.out.below hHeld)).mono ?_
  rintro e w11 ⟨rfl, hbn⟩
  try go_wp2_with fail
  refine hK.out _ _ (hHeld.trans (hbn.mono hHeld.size)) (fun hHeld => ?_)
  clear hK K hbn hm10
  try simp only [Act.put, zSa, zSz, zSs]
  refine wpT 17 ?_ rfl (by kernel_rfl) (by kernel_rfl) (by kernel_rfl) (fun _ _ _ h => h) (by rfl) ?_ hHeld ?_
  rotate_left 1
  · (intro W hSw; (try dsimp only at hSw); go_simp; try with_reducible rfl)
  try simp only [Act.put, zSa, zSz, zSs]
  refine wpT 18 ?_ rfl (by kernel_rfl) (by kernel_rfl) (by kernel_rfl) (fun _ _ _ h => h) (by rfl) ?_ hHeld ?_
  rotate_left 1
  · (intro W hSw; (try dsimp only at hSw); go_simp; try with_reducible rfl)
  try simp only [Act.put, zSa, zSz, zSs]
  refine wpAnyH_done (by kernel_rfl) ?_ _
  refine NoPanic.normal ?_
  go_wp2
  go_ret
  exact ⟨rfl, HB8.out.trans (hHeld.mono HB8.out.size)⟩
theorem helloWrites_walk (m : Msg) (cs : List Value) (w : World) (hT : TabH w) (h : RIn w m cs) : Calls Tryd.prog 3 #[.agg cs.toArray] w fun e w' => e = .returned (.bool true) ∧ Below w.heap.size w w' := by
  cases hf : formM (tameM m) with
  | false => exact writes_0 m cs w hT h hf
  | true => exact writes_1 m cs w hT h hf
end Go.Proofs.YtagblbfbjemfhaaDoor
