/-
  The reference's Body, of all kinds; its Write.
-/
import Derived.Test.YtagblbfbjemfhaaDoorJx1
import Derived.Test.YtagblbfbjemfhaaDoorJy
import Derived.Test.YtagblbfbjemfhaaDoorJz
import Derived.Test.YtagblbfbjemfhaaDoorKa
import Derived.Test.YtagblbfbjemfhaaDoorKr3
namespace Go.Proofs.YtagblbfbjemfhaaDoor
open Go.RowKit
open HelloMath (Msg zero32 some8 special formM bodyM wholeM vecB vecB_length isKind)

theorem rbody_e (m : Msg) (cs : List Value) (w : World) (h : RIn w m cs) (hs : Small m) : Calls Tryd.prog 24 #[.agg cs.toArray] w (BodyP m w) := by
  by_cases k1 : m.kind = 1
  · cases hp : m.psk with
    | false => exact rbody_1 m cs w h hs k1 hp
    | true => exact rbody_1p m cs w h hs k1 hp
  by_cases k2 : m.kind = 2
  · cases hp : m.retry with
    | false => exact rbody_2 m cs w h hs k2 hp
    | true => exact rbody_2r m cs w h hs k2 hp
  by_cases k4 : m.kind = 4
  · exact rbody_4 m cs w h hs k4
  by_cases k8 : m.kind = 8
  · exact rbody_8 m cs w h hs k8
  by_cases k11 : m.kind = 11
  · exact rbody_11 m cs w h hs k11
  by_cases k13 : m.kind = 13
  · exact rbody_13 m cs w h hs k13
  by_cases k15 : m.kind = 15
  · exact rbody_15 m cs w h hs k15
  by_cases k20 : m.kind = 20
  · exact rbody_20 m cs w h hs k20
  exact rbody_0 m cs w h hs ⟨k1, k2, k4, k8, k11, k13, k15, k20⟩
theorem wp_byteOne {o : Oper} {a : Act} {w : World} {K : Act → World → Prop} {Q : Exit → Act → World → Prop} (x : Operand) (ho : o.op = .buildSlice 27 1 #[(0, x)]) (b : UInt8) (hx : a.eval x = .int .u8 (b.toNat : Int))
    (h : ∀ v w', SlV w' v [b] → Below w.heap.size w w' → K (a.put o.dst v) w') : o.wp Tryd.prog a w K Q :=
  wp_bytesc [b] ho rfl (by decide) (by simp only [List.map_toArray, List.map_cons, List.map_nil, hx]; exact byte1 _) h
set_option maxRecDepth 100000 in
set_option maxHeartbeats 40000000 in
theorem rwrite_0 (m : Msg) (cs : List Value) (w : World) (h : RIn w m cs) (hs : Small m) (hf : formM m = false) : Calls Tryd.prog 12 #[.agg cs.toArray] w fun e w' => e = .returned (.tuple #[TX [], .int .i64 2]) ∧ Below w.heap.size w w' := by
  have HS := Lib.hid hs
  have HL := Lib.hid h.1
  clear hs
  go_enter Tryd.func12, Tryd.ntmps12
  go_upto_region 0 with (fail)
  refine wp_region_lit ?_
  refine wpList_plain rfl (fun K hK => ?_)
  go_simp
  refine hK _ _ ?_
  clear hK K
  have hb1 : Below w.heap.size w (w.alloc (.cells cs.toArray 25)) := (Below.refl _ _).alloc (Nat.le_refl _) _
  have b1 := Blk.new w 25 cs
  have hr1 := h.below hb1
  clear h
  obtain ⟨g1, hg1⟩ : ∃ g, g = w.heap.size := ⟨_, rfl⟩
  rw [← hg1] at b1
  simp only [← hg1]
  clear hg1
  generalize w.alloc (.cells cs.toArray 25) = w1 at *
  try simp only [Act.put, zSa, zSz, zSs]
  refine wpList_plain rfl (fun K hK => ?_)
  go_simp
  refine hK _ _ ?_
  clear hK K
  try simp only [Act.put, zSa, zSz, zSs]
  refine wpList_plain rfl (fun K hK => ?_)
  go_simp
  refine hK _ _ ?_
  clear hK K
  try simp only [Act.put, zSa, zSz, zSs]
  go_upto_region 1 with (fail)
  refine wp_region_lit ?_
  refine wpList_load_mid rfl 25 (.tmp 1) rfl g1 0 rfl cs _ (rangeAt_of_blk b1) Tryd.underlying25 rfl (infoR.trans (by rw [hr1.len])) ?_
  try simp only [Act.put, zSa, zSz, zSs]
  refine wpList_plain rfl (fun K hK0 => ?_)
  have hK := Lib.hid hK0
  clear hK0
  go_simp
  go_at_call 24
  refine (rbody_e m cs _ hr1 HS.out).mono ?_
  rintro e w2 ⟨s, rfl, hs, hb2⟩
  try go_wp2_with fail
  refine hK.out _ _ ?_
  clear hK K
  try simp only [Act.put, zSa, zSz, zSs]
  have b2 := b1.below hb2 b1.lt
  have hr2 := hr1.below hb2
  have HBB := Lib.hid (hb1.trans (hb2.mono hb1.size))
  clear hb1 hb2 b1 hr1
  clear hs
  go_wp2
  go_ret2
  exact ⟨rfl, HBB.out⟩
set_option maxRecDepth 100000 in
set_option maxHeartbeats 40000000 in
theorem rwrite_1 (m : Msg) (cs : List Value) (w : World) (h : RIn w m cs) (hs : Small m) (hf : formM m = true) : Calls Tryd.prog 12 #[.agg cs.toArray] w fun e w' => e = .returned (.tuple #[TX (wholeM m), .int .i64 0]) ∧ Below w.heap.size w w' := by
  have HS := Lib.hid hs
  have HL := Lib.hid h.1
  clear hs
  go_enter Tryd.func12, Tryd.ntmps12
  go_upto_region 0 with (fail)
  refine wp_region_lit ?_
  refine wpList_plain rfl (fun K hK => ?_)
  go_simp
  refine hK _ _ ?_
  clear hK K
  have hb1 : Below w.heap.size w (w.alloc (.cells cs.toArray 25)) := (Below.refl _ _).alloc (Nat.le_refl _) _
  have b1 := Blk.new w 25 cs
  have hr1 := h.below hb1
  clear h
  obtain ⟨g1, hg1⟩ : ∃ g, g = w.heap.size := ⟨_, rfl⟩
  rw [← hg1] at b1
  simp only [← hg1]
  clear hg1
  generalize w.alloc (.cells cs.toArray 25) = w1 at *
  try simp only [Act.put, zSa, zSz, zSs]
  refine wpList_plain rfl (fun K hK => ?_)
  go_simp
  refine hK _ _ ?_
  clear hK K
  try simp only [Act.put, zSa, zSz, zSs]
  refine wpList_plain rfl (fun K hK => ?_)
  go_simp
  refine hK _ _ ?_
  clear hK K
  try simp only [Act.put, zSa, zSz, zSs]
  go_upto_region 1 with (fail)
  refine wp_region_lit ?_
  refine wpList_load_mid rfl 25 (.tmp 1) rfl g1 0 rfl cs _ (rangeAt_of_blk b1) Tryd.underlying25 rfl (infoR.trans (by rw [hr1.len])) ?_
  try simp only [Act.put, zSa, zSz, zSs]
  refine wpList_plain rfl (fun K hK0 => ?_)
  have hK := Lib.hid hK0
  clear hK0
  go_simp
  go_at_call 24
  refine (rbody_e m cs _ hr1 HS.out).mono ?_
  rintro e w2 ⟨s, rfl, hs, hb2⟩
  try go_wp2_with fail
  refine hK.out _ _ ?_
  clear hK K
  try simp only [Act.put, zSa, zSz, zSs]
  have b2 := b1.below hb2 b1.lt
  have hr2 := hr1.below hb2
  have HBB := Lib.hid (hb1.trans (hb2.mono hb1.size))
  clear hb1 hb2 b1 hr1
  obtain rfl := hs hf
  have hbl := HelloMath.body_le hf HL.out.1 HL.out.2
  have HBL := Lib.hid (show (bodyM m).length ≤ 1000000 by omega)
  have hku := kind_u8 (HelloMath.form_kind hf)
  obtain ⟨b, hbe⟩ : ∃ b, UInt8.ofNat m.kind.toNat = b := ⟨_, rfl⟩
  have HE := Lib.hid hbe
  rw [hbe] at hku
  have HKU := Lib.hid hku
  have hkd := (RAt.kind ⟨cs, b2, hr2⟩ : w2.cell? ⟨g1, 0, none⟩ = _)
  have HKD := Lib.hid (fun (V : World) (hV : Below w2.heap.size w2 V) => ((hV.cell (p := ⟨g1, 0, none⟩) b2.lt).trans hkd : V.cell? ⟨g1, 0, none⟩ = some (.int .i64 m.kind)))
  have HW := Lib.hid (show [b] ++ vecB 3 (bodyM m) = wholeM m by unfold wholeM; rw [hbe])
  clear hs hbl hku hbe hkd b2 hr2 hf
  go_upto_region 4 with (fail)
  refine wp_region_noPanic ?_
  refine wp_region_held_drew (S := fun V => Below w2.heap.size w2 V) (by kernel_rfl) (by exact below_drewN (Below.refl _ _) 1) (fun hHeld => ?_)
  refine wpT 0 ?_ rfl (by kernel_rfl) (by kernel_rfl) (by kernel_rfl) (fun _ _ _ h => h) (by rfl) ?_ hHeld ?_
  rotate_left 1
  · (intro W hSw; (try dsimp only at hSw); go_simp; try with_reducible rfl)
  try simp only [Act.put, zSa, zSz, zSs]
  refine wpT 1 ?_ rfl (by kernel_rfl) (by kernel_rfl) (by kernel_rfl) (fun _ _ _ h => h) (by rfl) ?_ hHeld ?_
  rotate_left 1
  · (intro W hSw; (try dsimp only at hSw); have hcc := HKD.out W hSw; go_simp; try with_reducible rfl)
  try simp only [Act.put, zSa, zSz, zSs]
  refine wpT 2 ?_ rfl (by kernel_rfl) (by kernel_rfl) (by kernel_rfl) (fun _ _ _ h => h) (by rfl) ?_ hHeld ?_
  rotate_left 1
  · (intro W hSw; (try dsimp only at hSw); have hku := HKU.out; go_simp; try with_reducible rfl)
  try simp only [Act.put, zSa, zSz, zSs]
  refine wpT 5 ?_ rfl (by kernel_rfl) (by kernel_rfl) (by kernel_rfl) (fun _ _ _ h => h) (by rfl) ?_ hHeld ?_
  rotate_left 1
  · (intro W hSw; (try dsimp only at hSw); go_simp; try with_reducible rfl)
  try simp only [Act.put, zSa, zSz, zSs]
  refine wpAnyH_ready (rs := [3, 6]) (by kernel_rfl) (by simp) ?_
  refine AllReadyH.cons (o := ⟨_, _, _, _, _, _⟩) rfl (fun K hK => ?_) (AllReadyH.cons (o := ⟨_, _, _, _, _, _⟩) rfl (fun K hK => ?_) AllReadyH.nil)
  · skip
    rw [if_pos (by rfl)]
    refine wp_byteOne (.tmp 15) rfl b rfl ?_
    intro v16 wr1 h16 hbn
    refine hK.out _ _ (hHeld.trans (hbn.mono hHeld.size)) (fun hHeld => ?_)
    clear hK K hbn
    try simp only [Act.put, zSa, zSz, zSs]
    refine wpAnyH_ready (rs := [4, 6]) (by kernel_rfl) (by simp) ?_
    refine AllReadyH.cons (o := ⟨_, _, _, _, _, _⟩) rfl (fun K hK => ?_) (AllReadyH.cons (o := ⟨_, _, _, _, _, _⟩) rfl (fun K hK => ?_) AllReadyH.nil)
    · skip
      rw [if_pos (by rfl)]
      refine wp_strV (.tmp 16) rfl [b] _ rfl h16 ?_
      refine hK.out _ _ hHeld (fun hHeld => ?_)
      clear hK K h16
      try simp only [Act.put, zSa, zSz, zSs]
      refine wpAnyH_ready (rs := [6]) (by kernel_rfl) (by simp) ?_
      refine AllReadyH.cons (o := ⟨_, _, _, _, _, _⟩) rfl (fun K hK => ?_) AllReadyH.nil
      go_simp
      go_at_call 25
      refine (vec_3 (bodyM m) _ (by have := HBL.out; omega)).mono ?_
      rintro e wr3 ⟨rfl, hbn⟩
      try go_wp2_with fail
      refine hK.out _ _ (hHeld.trans (hbn.mono hHeld.size)) (fun hHeld => ?_)
      clear hK K hbn
      try simp only [Act.put, zSa, zSz, zSs]
      refine wpT 7 ?_ rfl (by kernel_rfl) (by kernel_rfl) (by kernel_rfl) (fun _ _ _ h => h) (by rfl) ?_ hHeld ?_
      rotate_left 1
      · (intro W hSw; (try dsimp only at hSw); refine exec_catL (.tmp 17) (.tmp 19) ?_ [b] (vecB 3 (bodyM m)) (wholeM m) HW.out ?_ ?_ (by rw [vecB_length]; have := HBL.out; simp only [List.length_cons, List.length_nil]; omega) <;> rfl)
      try simp only [Act.put, zSa, zSz, zSs]
      refine wpT 8 ?_ rfl (by kernel_rfl) (by kernel_rfl) (by kernel_rfl) (fun _ _ _ h => h) (by rfl) ?_ hHeld ?_
      rotate_left 1
      · (intro W hSw; (try dsimp only at hSw); go_simp; try with_reducible rfl)
      try simp only [Act.put, zSa, zSz, zSs]
      refine wpT 9 ?_ rfl (by kernel_rfl) (by kernel_rfl) (by kernel_rfl) (fun _ _ _ h => h) (by rfl) ?_ hHeld ?_
      rotate_left 1
      · (intro W hSw; (try dsimp only at hSw); go_simp; try with_reducible rfl)
      try simp only [Act.put, zSa, zSz, zSs]
      refine wpAnyH_done (by kernel_rfl) ?_ _
      refine NoPanic.normal ?_
      go_wp2
      go_ret2
      exact ⟨rfl, HBB.out.trans (hHeld.mono HBB.out.size)⟩
    · skip
      go_simp
      go_at_call 25
      refine (vec_3 (bodyM m) _ (by have := HBL.out; omega)).mono ?_
      rintro e wr2 ⟨rfl, hbn⟩
      try go_wp2_with fail
      replace h16 := h16.below hbn
      refine hK.out _ _ (hHeld.trans (hbn.mono hHeld.size)) (fun hHeld => ?_)
      clear hK K hbn
      try simp only [Act.put, zSa, zSz, zSs]
      refine wpAnyH_ready (rs := [4]) (by kernel_rfl) (by simp) ?_
      refine AllReadyH.cons (o := ⟨_, _, _, _, _, _⟩) rfl (fun K hK => ?_) AllReadyH.nil
      rw [if_pos (by rfl)]
      refine wp_strV (.tmp 16) rfl [b] _ rfl h16 ?_
      refine hK.out _ _ hHeld (fun hHeld => ?_)
      clear hK K h16
      try simp only [Act.put, zSa, zSz, zSs]
      refine wpT 7 ?_ rfl (by kernel_rfl) (by kernel_rfl) (by kernel_rfl) (fun _ _ _ h => h) (by rfl) ?_ hHeld ?_
      rotate_left 1
      · (intro W hSw; (try dsimp only at hSw); refine exec_catL (.tmp 17) (.tmp 19) ?_ [b] (vecB 3 (bodyM m)) (wholeM m) HW.out ?_ ?_ (by rw [vecB_length]; have := HBL.out; simp only [List.length_cons, List.length_nil]; omega) <;> rfl)
      try simp only [Act.put, zSa, zSz, zSs]
      refine wpT 8 ?_ rfl (by kernel_rfl) (by kernel_rfl) (by kernel_rfl) (fun _ _ _ h => h) (by rfl) ?_ hHeld ?_
      rotate_left 1
      · (intro W hSw; (try dsimp only at hSw); go_simp; try with_reducible rfl)
      try simp only [Act.put, zSa, zSz, zSs]
      refine wpT 9 ?_ rfl (by kernel_rfl) (by kernel_rfl) (by kernel_rfl) (fun _ _ _ h => h) (by rfl) ?_ hHeld ?_
      rotate_left 1
      · (intro W hSw; (try dsimp only at hSw); go_simp; try with_reducible rfl)
      try simp only [Act.put, zSa, zSz, zSs]
      refine wpAnyH_done (by kernel_rfl) ?_ _
      refine NoPanic.normal ?_
      go_wp2
      go_ret2
      exact ⟨rfl, HBB.out.trans (hHeld.mono HBB.out.size)⟩
  · skip
    go_simp
    go_at_call 25
    refine (vec_3 (bodyM m) _ (by have := HBL.out; omega)).mono ?_
    rintro e wr1 ⟨rfl, hbn⟩
    try go_wp2_with fail
    refine hK.out _ _ (hHeld.trans (hbn.mono hHeld.size)) (fun hHeld => ?_)
    clear hK K hbn
    try simp only [Act.put, zSa, zSz, zSs]
    refine wpAnyH_ready (rs := [3]) (by kernel_rfl) (by simp) ?_
    refine AllReadyH.cons (o := ⟨_, _, _, _, _, _⟩) rfl (fun K hK => ?_) AllReadyH.nil
    rw [if_pos (by rfl)]
    refine wp_byteOne (.tmp 15) rfl b rfl ?_
    intro v16 wr2 h16 hbn
    refine hK.out _ _ (hHeld.trans (hbn.mono hHeld.size)) (fun hHeld => ?_)
    clear hK K hbn
    try simp only [Act.put, zSa, zSz, zSs]
    refine wpAnyH_ready (rs := [4]) (by kernel_rfl) (by simp) ?_
    refine AllReadyH.cons (o := ⟨_, _, _, _, _, _⟩) rfl (fun K hK => ?_) AllReadyH.nil
    rw [if_pos (by rfl)]
    refine wp_strV (.tmp 16) rfl [b] _ rfl h16 ?_
    refine hK.out _ _ hHeld (fun hHeld => ?_)
    clear hK K h16
    try simp only [Act.put, zSa, zSz, zSs]
    refine wpT 7 ?_ rfl (by kernel_rfl) (by kernel_rfl) (by kernel_rfl) (fun _ _ _ h => h) (by rfl) ?_ hHeld ?_
    rotate_left 1
    · (intro W hSw; (try dsimp only at hSw); refine exec_catL (.tmp 17) (.tmp 19) ?_ [b] (vecB 3 (bodyM m)) (wholeM m) HW.out ?_ ?_ (by rw [vecB_length]; have := HBL.out; simp only [List.length_cons, List.length_nil]; omega) <;> rfl)
    try simp only [Act.put, zSa, zSz, zSs]
    refine wpT 8 ?_ rfl (by kernel_rfl) (by kernel_rfl) (by kernel_rfl) (fun _ _ _ h => h) (by rfl) ?_ hHeld ?_
    rotate_left 1
    · (intro W hSw; (try dsimp only at hSw); go_simp; try with_reducible rfl)
    try simp only [Act.put, zSa, zSz, zSs]
    refine wpT 9 ?_ rfl (by kernel_rfl) (by kernel_rfl) (by kernel_rfl) (fun _ _ _ h => h) (by rfl) ?_ hHeld ?_
    rotate_left 1
    · (intro W hSw; (try dsimp only at hSw); go_simp; try with_reducible rfl)
    try simp only [Act.put, zSa, zSz, zSs]
    refine wpAnyH_done (by kernel_rfl) ?_ _
    refine NoPanic.normal ?_
    go_wp2
    go_ret2
    exact ⟨rfl, HBB.out.trans (hHeld.mono HBB.out.size)⟩
end Go.Proofs.YtagblbfbjemfhaaDoor
