/-
  The reference's Body: the kind 2, no Retry.
-/
import Derived.Test.YtagblbfbjemfhaaDoorJw
namespace Go.Proofs.YtagblbfbjemfhaaDoor
open Go.RowKit
open HelloMath (Msg zero32 some8 special formM bodyM okM fitM okF sized wide numB numB_length vecB vecB_length ticketB clientB serverB sharesB offeredB abil chainB)

theorem rform_2 {m : Msg} (hk : m.kind = 2) (hr : m.retry = false) : formM m = (bareM ({ m with rnd := zero32, ses := [], sha := [], psk := false, retry := false }) && (decide (m.ses.length ≤ 32) && (decide (m.sha.length = 65) && !(m.rnd == special)))) := by
  unfold formM okM fitM okF bareM sized
  rw [hk, hr]
  simp [some8, bne, Bool.and_assoc]
set_option maxRecDepth 100000 in
set_option maxHeartbeats 40000000 in
theorem rbody_2 (m : Msg) (cs : List Value) (w : World) (h : RIn w m cs) (hs : Small m) (hk : m.kind = 2) (hr : m.retry = false) : Calls Tryd.prog 24 #[.agg cs.toArray] w (BodyP m w) := by
  have HL := Lib.hid h.1
  have HS := Lib.hid hs
  have HK := Lib.hid hk
  have HB_retry := Lib.hid hr
  clear hr
  clear hs hk
  go_enter Tryd.func24, Tryd.ntmps24
  go_upto_region 0 with (fail)
  refine wp_region_lit ?_
  refine wpList_plain rfl (fun K hK => ?_)
  go_simp
  refine hK _ _ ?_
  clear hK K
  have hb1 : Below w.heap.size w (w.alloc (.cells cs.toArray 25)) := (Below.refl _ _).alloc (Nat.le_refl _) _
  have b1 := Blk.new w 25 cs
  have hr1 := h.below hb1
  clear h
  obtain ⟨g1, hg1⟩ : ∃ g, g = w.heap.size := ⟨_, rfl⟩
  rw [← hg1] at b1
  simp only [← hg1]
  clear hg1
  generalize w.alloc (.cells cs.toArray 25) = w1 at *
  try simp only [Act.put, zSa, zSz, zSs]
  refine wpList_plain rfl (fun K hK => ?_)
  go_simp
  refine hK _ _ ?_
  clear hK K
  try simp only [Act.put, zSa, zSz, zSs]
  refine wpList_plain rfl (fun K hK => ?_)
  go_simp
  refine hK _ _ ?_
  clear hK K
  try simp only [Act.put, zSa, zSz, zSs]
  go_upto_region 1 with (fail)
  refine wp_region_lit ?_
  refine wpList_load_mid rfl 25 (.tmp 1) rfl g1 0 rfl cs _ (rangeAt_of_blk b1) Tryd.underlying25 rfl (infoR.trans (by rw [hr1.len])) ?_
  try simp only [Act.put, zSa, zSz, zSs]
  refine wpList_new_blk rfl 25 rfl _ zeroR ?_
  intro g4 w2 hg4 b4 hb2
  try simp only [Act.put, zSa, zSz, zSs]
  refine wpList_store_blk rfl 25 (.tmp 4) (.tmp 11) rfl rfl g4 cs rfl rfl _ _ b4 (infoR.trans (by rw [hr1.len])) (by rw [hr1.len]; rfl) hr1.one ?_
  intro w3 b43 hg3
  try simp only [Act.put, zSa, zSz, zSs]
  have HG4 := Lib.hid (Nat.le_of_eq hg4.symm)
  have hbx : Below w1.heap.size w1 w3 := hb2.trans (grown_below hg3 HG4.out hb2.size)
  have HM := Lib.hid (show RAt w1 g1 m from ⟨cs, b1, hr1⟩)
  have HB1 := Lib.hid hb1
  obtain ⟨-, vc, hcs, hsr⟩ := hr1
  have HSR := Lib.hid hsr
  simp only [hcs] at b43 ⊢
  clear hb1 b1 hg4 b4 hb2 hg3 hsr hcs
  have hcc := (HM.out.below hbx).kind
  rw [HK.out] at hcc
  go_upto_region 3 with (fail)
  clear hcc
  go_upto_region 17 with (fail)
  refine wp_region_lit ?_
  refine wpList_plain rfl (fun K hK => wp_builtV 22 _ rfl [] rfl (zero32.map B8).toArray built32_0 (hK _ _ ?_))
  clear hK K
  try simp only [Act.put, zSa, zSz, zSs]
  refine wpList_plain rfl (fun K hK => ?_)
  go_simp
  refine hK _ _ ?_
  clear hK K
  try simp only [Act.put, zSa, zSz, zSs]
  refine wpList_store_part rfl 22 (.tmp 115) (.tmp 114) rfl rfl g4 1 (zero32.map B8) rfl rfl _ _ b43 (info40.trans rfl) (by rw [len_rC (m := m) HL.out]; decide) (fun v hv => by obtain ⟨x, _, rfl⟩ := List.mem_map.1 hv; rfl) ?_
  intro wx1 bx1 hgs
  rw [rC_splR (m := m) HL.out rfl] at bx1
  obtain ⟨mx1, hmx1⟩ : ∃ y, y = { m with rnd := zero32 } := ⟨_, rfl⟩
  rw [← hmx1] at bx1
  have hlmx1 : mx1.rnd.length = 32 ∧ mx1.mark.length = 32 := by rw [hmx1]; exact ⟨rfl, (HL.out).2⟩
  try simp only [Act.put, zSa, zSz, zSs]
  replace hbx := hbx.trans (grown_below hgs HG4.out hbx.size)
  clear hgs b43
  refine wpList_plain rfl (fun K hK => ?_)
  go_simp
  refine hK _ _ ?_
  clear hK K
  try simp only [Act.put, zSa, zSz, zSs]
  refine wpList_store_one rfl 9 (.tmp 116) _ rfl rfl g4 65 (TX []) rfl rfl rfl _ _ bx1 (by kernel_rfl) (by rw [len_rC (m := mx1) hlmx1]; decide) rfl ?_
  intro wx2 bx2 hgs
  rw [rC_ses (m := mx1) hlmx1] at bx2
  obtain ⟨mx2, hmx2⟩ : ∃ y, y = { mx1 with ses := [] } := ⟨_, rfl⟩
  rw [← hmx2] at bx2
  have hlmx2 : mx2.rnd.length = 32 ∧ mx2.mark.length = 32 := by rw [hmx2]; exact hlmx1
  try simp only [Act.put, zSa, zSz, zSs]
  replace hbx := hbx.trans (grown_below hgs HG4.out hbx.size)
  clear hgs bx1
  refine wpList_plain rfl (fun K hK => ?_)
  go_simp
  refine hK _ _ ?_
  clear hK K
  try simp only [Act.put, zSa, zSz, zSs]
  refine wpList_store_one rfl 9 (.tmp 117) _ rfl rfl g4 66 (TX []) rfl rfl rfl _ _ bx2 (by kernel_rfl) (by rw [len_rC (m := mx2) hlmx2]; decide) rfl ?_
  intro wx3 bx3 hgs
  rw [rC_sha (m := mx2) hlmx2] at bx3
  obtain ⟨mx3, hmx3⟩ : ∃ y, y = { mx2 with sha := [] } := ⟨_, rfl⟩
  rw [← hmx3] at bx3
  have hlmx3 : mx3.rnd.length = 32 ∧ mx3.mark.length = 32 := by rw [hmx3]; exact hlmx2
  try simp only [Act.put, zSa, zSz, zSs]
  replace hbx := hbx.trans (grown_below hgs HG4.out hbx.size)
  clear hgs bx2
  refine wpList_plain rfl (fun K hK => ?_)
  go_simp
  refine hK _ _ ?_
  clear hK K
  try simp only [Act.put, zSa, zSz, zSs]
  refine wpList_store_one rfl 4 (.tmp 118) _ rfl rfl g4 73 (.bool false) rfl rfl rfl _ _ bx3 (by kernel_rfl) (by rw [len_rC (m := mx3) hlmx3]; decide) rfl ?_
  intro wx4 bx4 hgs
  rw [rC_psk (m := mx3) hlmx3] at bx4
  obtain ⟨mx4, hmx4⟩ : ∃ y, y = { mx3 with psk := false } := ⟨_, rfl⟩
  rw [← hmx4] at bx4
  have hlmx4 : mx4.rnd.length = 32 ∧ mx4.mark.length = 32 := by rw [hmx4]; exact hlmx3
  try simp only [Act.put, zSa, zSz, zSs]
  replace hbx := hbx.trans (grown_below hgs HG4.out hbx.size)
  clear hgs bx3
  refine wpList_plain rfl (fun K hK => ?_)
  go_simp
  refine hK _ _ ?_
  clear hK K
  try simp only [Act.put, zSa, zSz, zSs]
  refine wpList_store_one rfl 4 (.tmp 119) _ rfl rfl g4 74 (.bool false) rfl rfl rfl _ _ bx4 (by kernel_rfl) (by rw [len_rC (m := mx4) hlmx4]; decide) rfl ?_
  intro wx5 bx5 hgs
  rw [rC_retry (m := mx4) hlmx4] at bx5
  obtain ⟨mx5, hmx5⟩ : ∃ y, y = { mx4 with retry := false } := ⟨_, rfl⟩
  rw [← hmx5] at bx5
  have hlmx5 : mx5.rnd.length = 32 ∧ mx5.mark.length = 32 := by rw [hmx5]; exact hlmx4
  try simp only [Act.put, zSa, zSz, zSs]
  replace hbx := hbx.trans (grown_below hgs HG4.out hbx.size)
  clear hgs bx4
  have hxm : mx5 = { m with rnd := zero32, ses := [], sha := [], psk := false, retry := false } := by subst hmx1 hmx2 hmx3 hmx4 hmx5; rfl
  have HXM5 := Lib.hid hxm
  have HXL5 := Lib.hid hlmx5
  have HXC5 := Lib.hid (show mx5.certs = m.certs by rw [hxm])
  clear hxm hmx1 hmx2 hmx3 hmx4 hmx5 hlmx1 hlmx2 hlmx3 hlmx4 hlmx5
  obtain ⟨n_ses, hn_ses⟩ : ∃ n, m.ses.length = n := ⟨_, rfl⟩
  have HZ_ses := Lib.hid (show (⟨m.ses.toArray⟩ : ByteArray).size = n_ses from hn_ses)
  have HN_ses := Lib.hid hn_ses
  clear hn_ses
  obtain ⟨n_sha, hn_sha⟩ : ∃ n, m.sha.length = n := ⟨_, rfl⟩
  have HZ_sha := Lib.hid (show (⟨m.sha.toArray⟩ : ByteArray).size = n_sha from hn_sha)
  have HN_sha := Lib.hid hn_sha
  clear hn_sha
  go_upto_region 18 with (fail)
  cases hbv : bareM ({ m with rnd := zero32, ses := [], sha := [], psk := false, retry := false }) with
  | false =>
    have HBF := Lib.hid hbv
    have HBARE := Lib.hid (show bareM mx5 = false by rw [HXM5.out]; exact hbv)
    clear hbv
    as_aux_lemma =>
      have HRB := Lib.hid (HM.out.below hbx)
      have HXB := Lib.hid bx5
      have HSB := Lib.hid (HSR.out.below hbx)
      have HBB := Lib.hid hbx
      clear hbx bx5
      generalize hwB : wx5 = wB at *
      clear hwB
      refine wp_region_noPanic ?_
      refine wp_region_held_drew (S := fun V => Below wB.heap.size wB V) (by kernel_rfl) (by exact below_drewN (Below.refl _ _) 1) (fun hHeld => ?_)
      refine wpT 0 ?_ rfl (by kernel_rfl) (by kernel_rfl) (by kernel_rfl) (fun _ _ _ h => h) (by rfl) ?_ hHeld ?_
      rotate_left 1
      · (intro W hSw; (try dsimp only at hSw); refine exec_load_mid 25 (.tmp 4) ?_ g4 0 ?_ (rC mx5 vc) _ (rangeAt_of_blk (HXB.out.below hSw HXB.out.lt)) Tryd.underlying25 rfl (infoR.trans (by rw [len_rC (m := mx5) HXL5.out])) <;> rfl)
      try simp only [Act.put, zSa, zSz, zSs]
      refine wpAnyH_ready (rs := [1]) (by kernel_rfl) (by simp) ?_
      refine AllReadyH.cons (o := ⟨_, _, _, _, _, _⟩) rfl (fun K hK => ?_) AllReadyH.nil
      go_simp
      go_at_call 39
      refine (bare_e mx5 (rC mx5 vc) _ ⟨HXL5.out, vc, rfl, by rw [HXC5.out]; exact HSB.out.below hHeld⟩).mono ?_
      rintro e wq1 ⟨rfl, hbn⟩
      rw [HBARE.out]
      try go_wp2_with fail
      refine hK.out _ _ (hHeld.trans (hbn.mono hHeld.size)) (fun hHeld => ?_)
      clear hK K hbn
      try simp only [Act.put, zSa, zSz, zSs]
      refine wpT 2 ?_ rfl (by kernel_rfl) (by kernel_rfl) (by kernel_rfl) (fun _ _ _ h => h) (by rfl) ?_ hHeld ?_
      rotate_left 1
      · (intro W hSw; (try dsimp only at hSw); go_simp; try with_reducible rfl)
      try simp only [Act.put, zSa, zSz, zSs]
      refine wpT 3 ?_ rfl (by kernel_rfl) (by kernel_rfl) (by kernel_rfl) (fun _ _ _ h => h) (by rfl) ?_ hHeld ?_
      rotate_left 1
      · (intro W hSw; (try dsimp only at hSw); go_simp; try with_reducible rfl)
      try simp only [Act.put, zSa, zSz, zSs]
      refine wpU 4 rfl (by kernel_rfl) (by kernel_rfl) (by kernel_rfl) (fun _ _ _ h => h) (by rfl) hHeld ?_
      try simp only [Act.put, zSa, zSz, zSs]
      refine wpU 5 rfl (by kernel_rfl) (by kernel_rfl) (by kernel_rfl) (fun _ _ _ h => h) (by rfl) hHeld ?_
      try simp only [Act.put, zSa, zSz, zSs]
      refine wpU 6 rfl (by kernel_rfl) (by kernel_rfl) (by kernel_rfl) (fun _ _ _ h => h) (by rfl) hHeld ?_
      try simp only [Act.put, zSa, zSz, zSs]
      refine wpU 7 rfl (by kernel_rfl) (by kernel_rfl) (by kernel_rfl) (fun _ _ _ h => h) (by rfl) hHeld ?_
      try simp only [Act.put, zSa, zSz, zSs]
      refine wpT 8 ?_ rfl (by kernel_rfl) (by kernel_rfl) (by kernel_rfl) (fun _ _ _ h => h) (by rfl) ?_ hHeld ?_
      rotate_left 1
      · (intro W hSw; (try dsimp only at hSw); go_simp; try with_reducible rfl)
      try simp only [Act.put, zSa, zSz, zSs]
      refine wpT 9 ?_ rfl (by kernel_rfl) (by kernel_rfl) (by kernel_rfl) (fun _ _ _ h => h) (by rfl) ?_ hHeld ?_
      rotate_left 1
      · (intro W hSw; (try dsimp only at hSw); go_simp; try with_reducible rfl)
      try simp only [Act.put, zSa, zSz, zSs]
      refine wpU 10 rfl (by kernel_rfl) (by kernel_rfl) (by kernel_rfl) (fun _ _ _ h => h) (by rfl) hHeld ?_
      try simp only [Act.put, zSa, zSz, zSs]
      refine wpU 11 rfl (by kernel_rfl) (by kernel_rfl) (by kernel_rfl) (fun _ _ _ h => h) (by rfl) hHeld ?_
      try simp only [Act.put, zSa, zSz, zSs]
      refine wpU 12 rfl (by kernel_rfl) (by kernel_rfl) (by kernel_rfl) (fun _ _ _ h => h) (by rfl) hHeld ?_
      try simp only [Act.put, zSa, zSz, zSs]
      refine wpU 13 rfl (by kernel_rfl) (by kernel_rfl) (by kernel_rfl) (fun _ _ _ h => h) (by rfl) hHeld ?_
      try simp only [Act.put, zSa, zSz, zSs]
      refine wpU 14 rfl (by kernel_rfl) (by kernel_rfl) (by kernel_rfl) (fun _ _ _ h => h) (by rfl) hHeld ?_
      try simp only [Act.put, zSa, zSz, zSs]
      refine wpU 15 rfl (by kernel_rfl) (by kernel_rfl) (by kernel_rfl) (fun _ _ _ h => h) (by rfl) hHeld ?_
      try simp only [Act.put, zSa, zSz, zSs]
      refine wpU 16 rfl (by kernel_rfl) (by kernel_rfl) (by kernel_rfl) (fun _ _ _ h => h) (by rfl) hHeld ?_
      try simp only [Act.put, zSa, zSz, zSs]
      refine wpU 17 rfl (by kernel_rfl) (by kernel_rfl) (by kernel_rfl) (fun _ _ _ h => h) (by rfl) hHeld ?_
      try simp only [Act.put, zSa, zSz, zSs]
      refine wpU 18 rfl (by kernel_rfl) (by kernel_rfl) (by kernel_rfl) (fun _ _ _ h => h) (by rfl) hHeld ?_
      try simp only [Act.put, zSa, zSz, zSs]
      refine wpU 19 rfl (by kernel_rfl) (by kernel_rfl) (by kernel_rfl) (fun _ _ _ h => h) (by rfl) hHeld ?_
      try simp only [Act.put, zSa, zSz, zSs]
      refine wpU 20 rfl (by kernel_rfl) (by kernel_rfl) (by kernel_rfl) (fun _ _ _ h => h) (by rfl) hHeld ?_
      try simp only [Act.put, zSa, zSz, zSs]
      refine wpU 21 rfl (by kernel_rfl) (by kernel_rfl) (by kernel_rfl) (fun _ _ _ h => h) (by rfl) hHeld ?_
      try simp only [Act.put, zSa, zSz, zSs]
      refine wpU 22 rfl (by kernel_rfl) (by kernel_rfl) (by kernel_rfl) (fun _ _ _ h => h) (by rfl) hHeld ?_
      try simp only [Act.put, zSa, zSz, zSs]
      refine wpU 23 rfl (by kernel_rfl) (by kernel_rfl) (by kernel_rfl) (fun _ _ _ h => h) (by rfl) hHeld ?_
      try simp only [Act.put, zSa, zSz, zSs]
      refine wpU 24 rfl (by kernel_rfl) (by kernel_rfl) (by kernel_rfl) (fun _ _ _ h => h) (by rfl) hHeld ?_
      try simp only [Act.put, zSa, zSz, zSs]
      refine wpU 25 rfl (by kernel_rfl) (by kernel_rfl) (by kernel_rfl) (fun _ _ _ h => h) (by rfl) hHeld ?_
      try simp only [Act.put, zSa, zSz, zSs]
      refine wpU 26 rfl (by kernel_rfl) (by kernel_rfl) (by kernel_rfl) (fun _ _ _ h => h) (by rfl) hHeld ?_
      try simp only [Act.put, zSa, zSz, zSs]
      refine wpT 27 ?_ rfl (by kernel_rfl) (by kernel_rfl) (by kernel_rfl) (fun _ _ _ h => h) (by rfl) ?_ hHeld ?_
      rotate_left 1
      · (intro W hSw; (try dsimp only at hSw); go_simp; try with_reducible rfl)
      try simp only [Act.put, zSa, zSz, zSs]
      refine wpT 28 ?_ rfl (by kernel_rfl) (by kernel_rfl) (by kernel_rfl) (fun _ _ _ h => h) (by rfl) ?_ hHeld ?_
      rotate_left 1
      · (intro W hSw; (try dsimp only at hSw); go_simp; try with_reducible rfl)
      try simp only [Act.put, zSa, zSz, zSs]
      refine wpU 29 rfl (by kernel_rfl) (by kernel_rfl) (by kernel_rfl) (fun _ _ _ h => h) (by rfl) hHeld ?_
      try simp only [Act.put, zSa, zSz, zSs]
      refine wpU 30 rfl (by kernel_rfl) (by kernel_rfl) (by kernel_rfl) (fun _ _ _ h => h) (by rfl) hHeld ?_
      try simp only [Act.put, zSa, zSz, zSs]
      refine wpU 31 rfl (by kernel_rfl) (by kernel_rfl) (by kernel_rfl) (fun _ _ _ h => h) (by rfl) hHeld ?_
      try simp only [Act.put, zSa, zSz, zSs]
      refine wpU 32 rfl (by kernel_rfl) (by kernel_rfl) (by kernel_rfl) (fun _ _ _ h => h) (by rfl) hHeld ?_
      try simp only [Act.put, zSa, zSz, zSs]
      refine wpU 33 rfl (by kernel_rfl) (by kernel_rfl) (by kernel_rfl) (fun _ _ _ h => h) (by rfl) hHeld ?_
      try simp only [Act.put, zSa, zSz, zSs]
      refine wpU 34 rfl (by kernel_rfl) (by kernel_rfl) (by kernel_rfl) (fun _ _ _ h => h) (by rfl) hHeld ?_
      try simp only [Act.put, zSa, zSz, zSs]
      refine wpU 35 rfl (by kernel_rfl) (by kernel_rfl) (by kernel_rfl) (fun _ _ _ h => h) (by rfl) hHeld ?_
      try simp only [Act.put, zSa, zSz, zSs]
      refine wpU 36 rfl (by kernel_rfl) (by kernel_rfl) (by kernel_rfl) (fun _ _ _ h => h) (by rfl) hHeld ?_
      try simp only [Act.put, zSa, zSz, zSs]
      refine wpU 37 rfl (by kernel_rfl) (by kernel_rfl) (by kernel_rfl) (fun _ _ _ h => h) (by rfl) hHeld ?_
      try simp only [Act.put, zSa, zSz, zSs]
      refine wpU 38 rfl (by kernel_rfl) (by kernel_rfl) (by kernel_rfl) (fun _ _ _ h => h) (by rfl) hHeld ?_
      try simp only [Act.put, zSa, zSz, zSs]
      refine wpU 39 rfl (by kernel_rfl) (by kernel_rfl) (by kernel_rfl) (fun _ _ _ h => h) (by rfl) hHeld ?_
      try simp only [Act.put, zSa, zSz, zSs]
      refine wpU 40 rfl (by kernel_rfl) (by kernel_rfl) (by kernel_rfl) (fun _ _ _ h => h) (by rfl) hHeld ?_
      try simp only [Act.put, zSa, zSz, zSs]
      refine wpU 41 rfl (by kernel_rfl) (by kernel_rfl) (by kernel_rfl) (fun _ _ _ h => h) (by rfl) hHeld ?_
      try simp only [Act.put, zSa, zSz, zSs]
      refine wpU 42 rfl (by kernel_rfl) (by kernel_rfl) (by kernel_rfl) (fun _ _ _ h => h) (by rfl) hHeld ?_
      try simp only [Act.put, zSa, zSz, zSs]
      refine wpU 43 rfl (by kernel_rfl) (by kernel_rfl) (by kernel_rfl) (fun _ _ _ h => h) (by rfl) hHeld ?_
      try simp only [Act.put, zSa, zSz, zSs]
      refine wpT 44 ?_ rfl (by kernel_rfl) (by kernel_rfl) (by kernel_rfl) (fun _ _ _ h => h) (by rfl) ?_ hHeld ?_
      rotate_left 1
      · (intro W hSw; (try dsimp only at hSw); go_simp; try with_reducible rfl)
      try simp only [Act.put, zSa, zSz, zSs]
      refine wpAnyH_done (by kernel_rfl) ?_ _
      refine NoPanic.normal ?_
      have hbe := HB1.out.trans ((HBB.out.trans (hHeld.mono HBB.out.size)).mono HB1.out.size)
      go_wp2
      go_ret2
      have hF : formM m = false := by rw [rform_2 HK.out HB_retry.out, HBF.out]; rfl
      exact ⟨[], by rw [hF]; rfl, fun hf => absurd hf (by rw [hF]; decide), hbe⟩
  | true =>
    have HBF := Lib.hid hbv
    have HBARE := Lib.hid (show bareM mx5 = true by rw [HXM5.out]; exact hbv)
    clear hbv
    by_cases hc : 32 < m.ses.length
    · have HC_sesgt32 := Lib.hid hc
      have HV_sesgt32 := Lib.hid (show decide ((32 : Int) < (n_ses : Int)) = true ∧ decide (32 < n_ses) = true from ⟨decide_eq_true (by have h1 := HN_ses.out; have h2 := HC_sesgt32.out; omega), decide_eq_true (by have h1 := HN_ses.out; have h2 := HC_sesgt32.out; omega)⟩)
      clear hc
      as_aux_lemma =>
        have HRB := Lib.hid (HM.out.below hbx)
        have HXB := Lib.hid bx5
        have HSB := Lib.hid (HSR.out.below hbx)
        have HBB := Lib.hid hbx
        clear hbx bx5
        generalize hwB : wx5 = wB at *
        clear hwB
        refine wp_region_noPanic ?_
        refine wp_region_held_drew (S := fun V => Below wB.heap.size wB V) (by kernel_rfl) (by exact below_drewN (Below.refl _ _) 1) (fun hHeld => ?_)
        refine wpT 0 ?_ rfl (by kernel_rfl) (by kernel_rfl) (by kernel_rfl) (fun _ _ _ h => h) (by rfl) ?_ hHeld ?_
        rotate_left 1
        · (intro W hSw; (try dsimp only at hSw); refine exec_load_mid 25 (.tmp 4) ?_ g4 0 ?_ (rC mx5 vc) _ (rangeAt_of_blk (HXB.out.below hSw HXB.out.lt)) Tryd.underlying25 rfl (infoR.trans (by rw [len_rC (m := mx5) HXL5.out])) <;> rfl)
        try simp only [Act.put, zSa, zSz, zSs]
        refine wpAnyH_ready (rs := [1]) (by kernel_rfl) (by simp) ?_
        refine AllReadyH.cons (o := ⟨_, _, _, _, _, _⟩) rfl (fun K hK => ?_) AllReadyH.nil
        go_simp
        go_at_call 39
        refine (bare_e mx5 (rC mx5 vc) _ ⟨HXL5.out, vc, rfl, by rw [HXC5.out]; exact HSB.out.below hHeld⟩).mono ?_
        rintro e wq1 ⟨rfl, hbn⟩
        rw [HBARE.out]
        try go_wp2_with fail
        refine hK.out _ _ (hHeld.trans (hbn.mono hHeld.size)) (fun hHeld => ?_)
        clear hK K hbn
        try simp only [Act.put, zSa, zSz, zSs]
        refine wpT 2 ?_ rfl (by kernel_rfl) (by kernel_rfl) (by kernel_rfl) (fun _ _ _ h => h) (by rfl) ?_ hHeld ?_
        rotate_left 1
        · (intro W hSw; (try dsimp only at hSw); go_simp; try with_reducible rfl)
        try simp only [Act.put, zSa, zSz, zSs]
        refine wpT 3 ?_ rfl (by kernel_rfl) (by kernel_rfl) (by kernel_rfl) (fun _ _ _ h => h) (by rfl) ?_ hHeld ?_
        rotate_left 1
        · (intro W hSw; (try dsimp only at hSw); go_simp; try with_reducible rfl)
        try simp only [Act.put, zSa, zSz, zSs]
        refine wpT 4 ?_ rfl (by kernel_rfl) (by kernel_rfl) (by kernel_rfl) (fun _ _ _ h => h) (by rfl) ?_ hHeld ?_
        rotate_left 1
        · (intro W hSw; (try dsimp only at hSw); go_simp; try with_reducible rfl)
        try simp only [Act.put, zSa, zSz, zSs]
        refine wpT 5 ?_ rfl (by kernel_rfl) (by kernel_rfl) (by kernel_rfl) (fun _ _ _ h => h) (by rfl) ?_ hHeld ?_
        rotate_left 1
        · (intro W hSw; (try dsimp only at hSw); have hcc := (HRB.out.below hSw).ses; go_simp; try with_reducible rfl)
        try simp only [Act.put, zSa, zSz, zSs]
        refine wpT 6 ?_ rfl (by kernel_rfl) (by kernel_rfl) (by kernel_rfl) (fun _ _ _ h => h) (by rfl) ?_ hHeld ?_
        rotate_left 1
        · (intro W hSw; (try dsimp only at hSw); have hsz := HZ_ses.out; go_simp; try with_reducible rfl)
        try simp only [Act.put, zSa, zSz, zSs]
        refine wpT 7 ?_ rfl (by kernel_rfl) (by kernel_rfl) (by kernel_rfl) (fun _ _ _ h => h) (by rfl) ?_ hHeld ?_
        rotate_left 1
        · (intro W hSw; (try dsimp only at hSw); have hd := HV_sesgt32.out.1; have hdn := HV_sesgt32.out.2; go_simp; try with_reducible rfl)
        try simp only [Act.put, zSa, zSz, zSs]
        refine wpT 8 ?_ rfl (by kernel_rfl) (by kernel_rfl) (by kernel_rfl) (fun _ _ _ h => h) (by rfl) ?_ hHeld ?_
        rotate_left 1
        · (intro W hSw; (try dsimp only at hSw); go_simp; try with_reducible rfl)
        try simp only [Act.put, zSa, zSz, zSs]
        refine wpT 9 ?_ rfl (by kernel_rfl) (by kernel_rfl) (by kernel_rfl) (fun _ _ _ h => h) (by rfl) ?_ hHeld ?_
        rotate_left 1
        · (intro W hSw; (try dsimp only at hSw); go_simp; try with_reducible rfl)
        try simp only [Act.put, zSa, zSz, zSs]
        refine wpU 10 rfl (by kernel_rfl) (by kernel_rfl) (by kernel_rfl) (fun _ _ _ h => h) (by rfl) hHeld ?_
        try simp only [Act.put, zSa, zSz, zSs]
        refine wpU 11 rfl (by kernel_rfl) (by kernel_rfl) (by kernel_rfl) (fun _ _ _ h => h) (by rfl) hHeld ?_
        try simp only [Act.put, zSa, zSz, zSs]
        refine wpU 12 rfl (by kernel_rfl) (by kernel_rfl) (by kernel_rfl) (fun _ _ _ h => h) (by rfl) hHeld ?_
        try simp only [Act.put, zSa, zSz, zSs]
        refine wpU 13 rfl (by kernel_rfl) (by kernel_rfl) (by kernel_rfl) (fun _ _ _ h => h) (by rfl) hHeld ?_
        try simp only [Act.put, zSa, zSz, zSs]
        refine wpU 14 rfl (by kernel_rfl) (by kernel_rfl) (by kernel_rfl) (fun _ _ _ h => h) (by rfl) hHeld ?_
        try simp only [Act.put, zSa, zSz, zSs]
        refine wpU 15 rfl (by kernel_rfl) (by kernel_rfl) (by kernel_rfl) (fun _ _ _ h => h) (by rfl) hHeld ?_
        try simp only [Act.put, zSa, zSz, zSs]
        refine wpU 16 rfl (by kernel_rfl) (by kernel_rfl) (by kernel_rfl) (fun _ _ _ h => h) (by rfl) hHeld ?_
        try simp only [Act.put, zSa, zSz, zSs]
        refine wpU 17 rfl (by kernel_rfl) (by kernel_rfl) (by kernel_rfl) (fun _ _ _ h => h) (by rfl) hHeld ?_
        try simp only [Act.put, zSa, zSz, zSs]
        refine wpU 18 rfl (by kernel_rfl) (by kernel_rfl) (by kernel_rfl) (fun _ _ _ h => h) (by rfl) hHeld ?_
        try simp only [Act.put, zSa, zSz, zSs]
        refine wpU 19 rfl (by kernel_rfl) (by kernel_rfl) (by kernel_rfl) (fun _ _ _ h => h) (by rfl) hHeld ?_
        try simp only [Act.put, zSa, zSz, zSs]
        refine wpU 20 rfl (by kernel_rfl) (by kernel_rfl) (by kernel_rfl) (fun _ _ _ h => h) (by rfl) hHeld ?_
        try simp only [Act.put, zSa, zSz, zSs]
        refine wpU 21 rfl (by kernel_rfl) (by kernel_rfl) (by kernel_rfl) (fun _ _ _ h => h) (by rfl) hHeld ?_
        try simp only [Act.put, zSa, zSz, zSs]
        refine wpU 22 rfl (by kernel_rfl) (by kernel_rfl) (by kernel_rfl) (fun _ _ _ h => h) (by rfl) hHeld ?_
        try simp only [Act.put, zSa, zSz, zSs]
        refine wpU 23 rfl (by kernel_rfl) (by kernel_rfl) (by kernel_rfl) (fun _ _ _ h => h) (by rfl) hHeld ?_
        try simp only [Act.put, zSa, zSz, zSs]
        refine wpU 24 rfl (by kernel_rfl) (by kernel_rfl) (by kernel_rfl) (fun _ _ _ h => h) (by rfl) hHeld ?_
        try simp only [Act.put, zSa, zSz, zSs]
        refine wpU 25 rfl (by kernel_rfl) (by kernel_rfl) (by kernel_rfl) (fun _ _ _ h => h) (by rfl) hHeld ?_
        try simp only [Act.put, zSa, zSz, zSs]
        refine wpU 26 rfl (by kernel_rfl) (by kernel_rfl) (by kernel_rfl) (fun _ _ _ h => h) (by rfl) hHeld ?_
        try simp only [Act.put, zSa, zSz, zSs]
        refine wpT 27 ?_ rfl (by kernel_rfl) (by kernel_rfl) (by kernel_rfl) (fun _ _ _ h => h) (by rfl) ?_ hHeld ?_
        rotate_left 1
        · (intro W hSw; (try dsimp only at hSw); go_simp; try with_reducible rfl)
        try simp only [Act.put, zSa, zSz, zSs]
        refine wpT 28 ?_ rfl (by kernel_rfl) (by kernel_rfl) (by kernel_rfl) (fun _ _ _ h => h) (by rfl) ?_ hHeld ?_
        rotate_left 1
        · (intro W hSw; (try dsimp only at hSw); go_simp; try with_reducible rfl)
        try simp only [Act.put, zSa, zSz, zSs]
        refine wpU 29 rfl (by kernel_rfl) (by kernel_rfl) (by kernel_rfl) (fun _ _ _ h => h) (by rfl) hHeld ?_
        try simp only [Act.put, zSa, zSz, zSs]
        refine wpU 30 rfl (by kernel_rfl) (by kernel_rfl) (by kernel_rfl) (fun _ _ _ h => h) (by rfl) hHeld ?_
        try simp only [Act.put, zSa, zSz, zSs]
        refine wpU 31 rfl (by kernel_rfl) (by kernel_rfl) (by kernel_rfl) (fun _ _ _ h => h) (by rfl) hHeld ?_
        try simp only [Act.put, zSa, zSz, zSs]
        refine wpU 32 rfl (by kernel_rfl) (by kernel_rfl) (by kernel_rfl) (fun _ _ _ h => h) (by rfl) hHeld ?_
        try simp only [Act.put, zSa, zSz, zSs]
        refine wpU 33 rfl (by kernel_rfl) (by kernel_rfl) (by kernel_rfl) (fun _ _ _ h => h) (by rfl) hHeld ?_
        try simp only [Act.put, zSa, zSz, zSs]
        refine wpU 34 rfl (by kernel_rfl) (by kernel_rfl) (by kernel_rfl) (fun _ _ _ h => h) (by rfl) hHeld ?_
        try simp only [Act.put, zSa, zSz, zSs]
        refine wpU 35 rfl (by kernel_rfl) (by kernel_rfl) (by kernel_rfl) (fun _ _ _ h => h) (by rfl) hHeld ?_
        try simp only [Act.put, zSa, zSz, zSs]
        refine wpU 36 rfl (by kernel_rfl) (by kernel_rfl) (by kernel_rfl) (fun _ _ _ h => h) (by rfl) hHeld ?_
        try simp only [Act.put, zSa, zSz, zSs]
        refine wpU 37 rfl (by kernel_rfl) (by kernel_rfl) (by kernel_rfl) (fun _ _ _ h => h) (by rfl) hHeld ?_
        try simp only [Act.put, zSa, zSz, zSs]
        refine wpU 38 rfl (by kernel_rfl) (by kernel_rfl) (by kernel_rfl) (fun _ _ _ h => h) (by rfl) hHeld ?_
        try simp only [Act.put, zSa, zSz, zSs]
        refine wpU 39 rfl (by kernel_rfl) (by kernel_rfl) (by kernel_rfl) (fun _ _ _ h => h) (by rfl) hHeld ?_
        try simp only [Act.put, zSa, zSz, zSs]
        refine wpU 40 rfl (by kernel_rfl) (by kernel_rfl) (by kernel_rfl) (fun _ _ _ h => h) (by rfl) hHeld ?_
        try simp only [Act.put, zSa, zSz, zSs]
        refine wpU 41 rfl (by kernel_rfl) (by kernel_rfl) (by kernel_rfl) (fun _ _ _ h => h) (by rfl) hHeld ?_
        try simp only [Act.put, zSa, zSz, zSs]
        refine wpU 42 rfl (by kernel_rfl) (by kernel_rfl) (by kernel_rfl) (fun _ _ _ h => h) (by rfl) hHeld ?_
        try simp only [Act.put, zSa, zSz, zSs]
        refine wpU 43 rfl (by kernel_rfl) (by kernel_rfl) (by kernel_rfl) (fun _ _ _ h => h) (by rfl) hHeld ?_
        try simp only [Act.put, zSa, zSz, zSs]
        refine wpT 44 ?_ rfl (by kernel_rfl) (by kernel_rfl) (by kernel_rfl) (fun _ _ _ h => h) (by rfl) ?_ hHeld ?_
        rotate_left 1
        · (intro W hSw; (try dsimp only at hSw); go_simp; try with_reducible rfl)
        try simp only [Act.put, zSa, zSz, zSs]
        refine wpAnyH_done (by kernel_rfl) ?_ _
        refine NoPanic.normal ?_
        have hbe := HB1.out.trans ((HBB.out.trans (hHeld.mono HBB.out.size)).mono HB1.out.size)
        go_wp2
        go_ret2
        have hF : formM m = false := by rw [rform_2 HK.out HB_retry.out, HBF.out, decide_eq_false (show ¬ (m.ses.length ≤ 32) by have := HC_sesgt32.out; omega)]; rfl
        exact ⟨[], by rw [hF]; rfl, fun hf => absurd hf (by rw [hF]; decide), hbe⟩
    · have HC_sesgt32 := Lib.hid hc
      have HV_sesgt32 := Lib.hid (show decide ((32 : Int) < (n_ses : Int)) = false ∧ decide (32 < n_ses) = false from ⟨decide_eq_false (by have h1 := HN_ses.out; have h2 := HC_sesgt32.out; omega), decide_eq_false (by have h1 := HN_ses.out; have h2 := HC_sesgt32.out; omega)⟩)
      clear hc
      by_cases hc : m.sha.length = 65
      · have HC_shane65 := Lib.hid hc
        have HV_shane65 := Lib.hid (show decide ((n_sha : Int) = (65 : Int)) = true ∧ decide (n_sha = 65) = true ∧ (((n_sha : Int) != (65 : Int)) = false ∧ (n_sha != 65) = false) from ⟨decide_eq_true (by have h1 := HN_sha.out; have h2 := HC_shane65.out; omega), decide_eq_true (by have h1 := HN_sha.out; have h2 := HC_shane65.out; omega), bne_eq_false_iff_eq.2 (by have h1 := HN_sha.out; have h2 := HC_shane65.out; omega), bne_eq_false_iff_eq.2 (by have h1 := HN_sha.out; have h2 := HC_shane65.out; omega)⟩)
        clear hc
        cases hq : (m.rnd == special) with
        | true =>
          have HQ_special := Lib.hid hq
          clear hq
          as_aux_lemma =>
            have HRB := Lib.hid (HM.out.below hbx)
            have HXB := Lib.hid bx5
            have HSB := Lib.hid (HSR.out.below hbx)
            have HBB := Lib.hid hbx
            clear hbx bx5
            generalize hwB : wx5 = wB at *
            clear hwB
            refine wp_region_noPanic ?_
            refine wp_region_held_drew (S := fun V => Below wB.heap.size wB V) (by kernel_rfl) (by exact below_drewN (Below.refl _ _) 1) (fun hHeld => ?_)
            refine wpT 0 ?_ rfl (by kernel_rfl) (by kernel_rfl) (by kernel_rfl) (fun _ _ _ h => h) (by rfl) ?_ hHeld ?_
            rotate_left 1
            · (intro W hSw; (try dsimp only at hSw); refine exec_load_mid 25 (.tmp 4) ?_ g4 0 ?_ (rC mx5 vc) _ (rangeAt_of_blk (HXB.out.below hSw HXB.out.lt)) Tryd.underlying25 rfl (infoR.trans (by rw [len_rC (m := mx5) HXL5.out])) <;> rfl)
            try simp only [Act.put, zSa, zSz, zSs]
            refine wpAnyH_ready (rs := [1]) (by kernel_rfl) (by simp) ?_
            refine AllReadyH.cons (o := ⟨_, _, _, _, _, _⟩) rfl (fun K hK => ?_) AllReadyH.nil
            go_simp
            go_at_call 39
            refine (bare_e mx5 (rC mx5 vc) _ ⟨HXL5.out, vc, rfl, by rw [HXC5.out]; exact HSB.out.below hHeld⟩).mono ?_
            rintro e wq1 ⟨rfl, hbn⟩
            rw [HBARE.out]
            try go_wp2_with fail
            refine hK.out _ _ (hHeld.trans (hbn.mono hHeld.size)) (fun hHeld => ?_)
            clear hK K hbn
            try simp only [Act.put, zSa, zSz, zSs]
            refine wpT 2 ?_ rfl (by kernel_rfl) (by kernel_rfl) (by kernel_rfl) (fun _ _ _ h => h) (by rfl) ?_ hHeld ?_
            rotate_left 1
            · (intro W hSw; (try dsimp only at hSw); go_simp; try with_reducible rfl)
            try simp only [Act.put, zSa, zSz, zSs]
            refine wpT 3 ?_ rfl (by kernel_rfl) (by kernel_rfl) (by kernel_rfl) (fun _ _ _ h => h) (by rfl) ?_ hHeld ?_
            rotate_left 1
            · (intro W hSw; (try dsimp only at hSw); go_simp; try with_reducible rfl)
            try simp only [Act.put, zSa, zSz, zSs]
            refine wpT 4 ?_ rfl (by kernel_rfl) (by kernel_rfl) (by kernel_rfl) (fun _ _ _ h => h) (by rfl) ?_ hHeld ?_
            rotate_left 1
            · (intro W hSw; (try dsimp only at hSw); go_simp; try with_reducible rfl)
            try simp only [Act.put, zSa, zSz, zSs]
            refine wpT 5 ?_ rfl (by kernel_rfl) (by kernel_rfl) (by kernel_rfl) (fun _ _ _ h => h) (by rfl) ?_ hHeld ?_
            rotate_left 1
            · (intro W hSw; (try dsimp only at hSw); have hcc := (HRB.out.below hSw).ses; go_simp; try with_reducible rfl)
            try simp only [Act.put, zSa, zSz, zSs]
            refine wpT 6 ?_ rfl (by kernel_rfl) (by kernel_rfl) (by kernel_rfl) (fun _ _ _ h => h) (by rfl) ?_ hHeld ?_
            rotate_left 1
            · (intro W hSw; (try dsimp only at hSw); have hsz := HZ_ses.out; go_simp; try with_reducible rfl)
            try simp only [Act.put, zSa, zSz, zSs]
            refine wpT 7 ?_ rfl (by kernel_rfl) (by kernel_rfl) (by kernel_rfl) (fun _ _ _ h => h) (by rfl) ?_ hHeld ?_
            rotate_left 1
            · (intro W hSw; (try dsimp only at hSw); have hd := HV_sesgt32.out.1; have hdn := HV_sesgt32.out.2; go_simp; try with_reducible rfl)
            try simp only [Act.put, zSa, zSz, zSs]
            refine wpT 8 ?_ rfl (by kernel_rfl) (by kernel_rfl) (by kernel_rfl) (fun _ _ _ h => h) (by rfl) ?_ hHeld ?_
            rotate_left 1
            · (intro W hSw; (try dsimp only at hSw); go_simp; try with_reducible rfl)
            try simp only [Act.put, zSa, zSz, zSs]
            refine wpT 9 ?_ rfl (by kernel_rfl) (by kernel_rfl) (by kernel_rfl) (fun _ _ _ h => h) (by rfl) ?_ hHeld ?_
            rotate_left 1
            · (intro W hSw; (try dsimp only at hSw); go_simp; try with_reducible rfl)
            try simp only [Act.put, zSa, zSz, zSs]
            refine wpT 10 ?_ rfl (by kernel_rfl) (by kernel_rfl) (by kernel_rfl) (fun _ _ _ h => h) (by rfl) ?_ hHeld ?_
            rotate_left 1
            · (intro W hSw; (try dsimp only at hSw); go_simp; try with_reducible rfl)
            try simp only [Act.put, zSa, zSz, zSs]
            refine wpT 11 ?_ rfl (by kernel_rfl) (by kernel_rfl) (by kernel_rfl) (fun _ _ _ h => h) (by rfl) ?_ hHeld ?_
            rotate_left 1
            · (intro W hSw; (try dsimp only at hSw); have hcc := ((HRB.out.below hSw).retry).trans (by rw [HB_retry.out]); go_simp; try with_reducible rfl)
            try simp only [Act.put, zSa, zSz, zSs]
            refine wpT 12 ?_ rfl (by kernel_rfl) (by kernel_rfl) (by kernel_rfl) (fun _ _ _ h => h) (by rfl) ?_ hHeld ?_
            rotate_left 1
            · (intro W hSw; (try dsimp only at hSw); go_simp; try with_reducible rfl)
            try simp only [Act.put, zSa, zSz, zSs]
            refine wpU 13 rfl (by kernel_rfl) (by kernel_rfl) (by kernel_rfl) (fun _ _ _ h => h) (by rfl) hHeld ?_
            try simp only [Act.put, zSa, zSz, zSs]
            refine wpU 14 rfl (by kernel_rfl) (by kernel_rfl) (by kernel_rfl) (fun _ _ _ h => h) (by rfl) hHeld ?_
            try simp only [Act.put, zSa, zSz, zSs]
            refine wpU 15 rfl (by kernel_rfl) (by kernel_rfl) (by kernel_rfl) (fun _ _ _ h => h) (by rfl) hHeld ?_
            try simp only [Act.put, zSa, zSz, zSs]
            refine wpU 16 rfl (by kernel_rfl) (by kernel_rfl) (by kernel_rfl) (fun _ _ _ h => h) (by rfl) hHeld ?_
            try simp only [Act.put, zSa, zSz, zSs]
            refine wpU 17 rfl (by kernel_rfl) (by kernel_rfl) (by kernel_rfl) (fun _ _ _ h => h) (by rfl) hHeld ?_
            try simp only [Act.put, zSa, zSz, zSs]
            refine wpU 18 rfl (by kernel_rfl) (by kernel_rfl) (by kernel_rfl) (fun _ _ _ h => h) (by rfl) hHeld ?_
            try simp only [Act.put, zSa, zSz, zSs]
            refine wpU 19 rfl (by kernel_rfl) (by kernel_rfl) (by kernel_rfl) (fun _ _ _ h => h) (by rfl) hHeld ?_
            try simp only [Act.put, zSa, zSz, zSs]
            refine wpU 20 rfl (by kernel_rfl) (by kernel_rfl) (by kernel_rfl) (fun _ _ _ h => h) (by rfl) hHeld ?_
            try simp only [Act.put, zSa, zSz, zSs]
            refine wpU 21 rfl (by kernel_rfl) (by kernel_rfl) (by kernel_rfl) (fun _ _ _ h => h) (by rfl) hHeld ?_
            try simp only [Act.put, zSa, zSz, zSs]
            refine wpU 22 rfl (by kernel_rfl) (by kernel_rfl) (by kernel_rfl) (fun _ _ _ h => h) (by rfl) hHeld ?_
            try simp only [Act.put, zSa, zSz, zSs]
            refine wpU 23 rfl (by kernel_rfl) (by kernel_rfl) (by kernel_rfl) (fun _ _ _ h => h) (by rfl) hHeld ?_
            try simp only [Act.put, zSa, zSz, zSs]
            refine wpU 24 rfl (by kernel_rfl) (by kernel_rfl) (by kernel_rfl) (fun _ _ _ h => h) (by rfl) hHeld ?_
            try simp only [Act.put, zSa, zSz, zSs]
            refine wpU 25 rfl (by kernel_rfl) (by kernel_rfl) (by kernel_rfl) (fun _ _ _ h => h) (by rfl) hHeld ?_
            try simp only [Act.put, zSa, zSz, zSs]
            refine wpT 26 ?_ rfl (by kernel_rfl) (by kernel_rfl) (by kernel_rfl) (fun _ _ _ h => h) (by rfl) ?_ hHeld ?_
            rotate_left 1
            · (intro W hSw; (try dsimp only at hSw); go_simp; try with_reducible rfl)
            try simp only [Act.put, zSa, zSz, zSs]
            refine wpT 27 ?_ rfl (by kernel_rfl) (by kernel_rfl) (by kernel_rfl) (fun _ _ _ h => h) (by rfl) ?_ hHeld ?_
            rotate_left 1
            · (intro W hSw; (try dsimp only at hSw); go_simp; try with_reducible rfl)
            try simp only [Act.put, zSa, zSz, zSs]
            refine wpT 28 ?_ rfl (by kernel_rfl) (by kernel_rfl) (by kernel_rfl) (fun _ _ _ h => h) (by rfl) ?_ hHeld ?_
            rotate_left 1
            · (intro W hSw; (try dsimp only at hSw); go_simp; try with_reducible rfl)
            try simp only [Act.put, zSa, zSz, zSs]
            refine wpT 29 ?_ rfl (by kernel_rfl) (by kernel_rfl) (by kernel_rfl) (fun _ _ _ h => h) (by rfl) ?_ hHeld ?_
            rotate_left 1
            · (intro W hSw; (try dsimp only at hSw); go_simp; try with_reducible rfl)
            try simp only [Act.put, zSa, zSz, zSs]
            refine wpT 30 ?_ rfl (by kernel_rfl) (by kernel_rfl) (by kernel_rfl) (fun _ _ _ h => h) (by rfl) ?_ hHeld ?_
            rotate_left 1
            · (intro W hSw; (try dsimp only at hSw); have hcc := ((HRB.out.below hSw).retry).trans (by rw [HB_retry.out]); go_simp; try with_reducible rfl)
            try simp only [Act.put, zSa, zSz, zSs]
            refine wpT 31 ?_ rfl (by kernel_rfl) (by kernel_rfl) (by kernel_rfl) (fun _ _ _ h => h) (by rfl) ?_ hHeld ?_
            rotate_left 1
            · (intro W hSw; (try dsimp only at hSw); go_simp; try with_reducible rfl)
            try simp only [Act.put, zSa, zSz, zSs]
            refine wpT 32 ?_ rfl (by kernel_rfl) (by kernel_rfl) (by kernel_rfl) (fun _ _ _ h => h) (by rfl) ?_ hHeld ?_
            rotate_left 1
            · (intro W hSw; (try dsimp only at hSw); go_simp; try with_reducible rfl)
            try simp only [Act.put, zSa, zSz, zSs]
            refine wpT 33 ?_ rfl (by kernel_rfl) (by kernel_rfl) (by kernel_rfl) (fun _ _ _ h => h) (by rfl) ?_ hHeld ?_
            rotate_left 1
            · (intro W hSw; (try dsimp only at hSw); go_simp; try with_reducible rfl)
            try simp only [Act.put, zSa, zSz, zSs]
            refine wpT 34 ?_ rfl (by kernel_rfl) (by kernel_rfl) (by kernel_rfl) (fun _ _ _ h => h) (by rfl) ?_ hHeld ?_
            rotate_left 1
            · (intro W hSw; (try dsimp only at hSw); have hcc := (HRB.out.below hSw).sha; go_simp; try with_reducible rfl)
            try simp only [Act.put, zSa, zSz, zSs]
            refine wpT 35 ?_ rfl (by kernel_rfl) (by kernel_rfl) (by kernel_rfl) (fun _ _ _ h => h) (by rfl) ?_ hHeld ?_
            rotate_left 1
            · (intro W hSw; (try dsimp only at hSw); have hsz := HZ_sha.out; go_simp; try with_reducible rfl)
            try simp only [Act.put, zSa, zSz, zSs]
            refine wpT 36 ?_ rfl (by kernel_rfl) (by kernel_rfl) (by kernel_rfl) (fun _ _ _ h => h) (by rfl) ?_ hHeld ?_
            rotate_left 1
            · (intro W hSw; (try dsimp only at hSw); have hd := HV_shane65.out.1; have hdn := HV_shane65.out.2.1; have hq := HV_shane65.out.2.2.1; have hqn := HV_shane65.out.2.2.2; go_simp; try with_reducible rfl)
            try simp only [Act.put, zSa, zSz, zSs]
            refine wpT 37 ?_ rfl (by kernel_rfl) (by kernel_rfl) (by kernel_rfl) (fun _ _ _ h => h) (by rfl) ?_ hHeld ?_
            rotate_left 1
            · (intro W hSw; (try dsimp only at hSw); go_simp; try with_reducible rfl)
            try simp only [Act.put, zSa, zSz, zSs]
            refine wpT 38 ?_ rfl (by kernel_rfl) (by kernel_rfl) (by kernel_rfl) (fun _ _ _ h => h) (by rfl) ?_ hHeld ?_
            rotate_left 1
            · (intro W hSw; (try dsimp only at hSw); go_simp; try with_reducible rfl)
            try simp only [Act.put, zSa, zSz, zSs]
            refine wpT 39 ?_ rfl (by kernel_rfl) (by kernel_rfl) (by kernel_rfl) (fun _ _ _ h => h) (by rfl) ?_ hHeld ?_
            rotate_left 1
            · (intro W hSw; (try dsimp only at hSw); refine exec_load_mid 22 (.tmp 158) ?_ g1 1 ?_ (m.rnd.map B8) _ ((HRB.out.below hSw).rnd) Tryd.underlying22 rfl (info40.trans (by rw [List.length_map, HL.out.1])) <;> rfl)
            try simp only [Act.put, zSa, zSz, zSs]
            refine wpAnyH_ready (rs := [40]) (by kernel_rfl) (by simp) ?_
            refine AllReadyH.cons (o := ⟨_, _, _, _, _, _⟩) rfl (fun K hK => ?_) AllReadyH.nil
            go_simp
            go_at_call 19
            refine (special_e _).mono ?_
            rintro e wq2 ⟨rfl, hbn⟩
            try go_wp2_with fail
            refine hK.out _ _ (hHeld.trans (hbn.mono hHeld.size)) (fun hHeld => ?_)
            clear hK K hbn
            try simp only [Act.put, zSa, zSz, zSs]
            refine wpAnyH_ready (rs := [41]) (by kernel_rfl) (by simp) ?_
            refine AllReadyH.cons (o := ⟨_, _, _, _, _, _⟩) rfl (fun K hK => ?_) AllReadyH.nil
            rw [if_pos (by rfl)]
            refine wp_eqlA rfl rfl rfl guardB32 (EqB (Lib.hid HL.out.1) (Lib.hid special_len) (Lib.hid HQ_special.out) _) ?_
            refine hK.out _ _ hHeld (fun hHeld => ?_)
            clear hK K
            try simp only [Act.put, zSa, zSz, zSs]
            refine wpT 42 ?_ rfl (by kernel_rfl) (by kernel_rfl) (by kernel_rfl) (fun _ _ _ h => h) (by rfl) ?_ hHeld ?_
            rotate_left 1
            · (intro W hSw; (try dsimp only at hSw); go_simp; try with_reducible rfl)
            try simp only [Act.put, zSa, zSz, zSs]
            refine wpT 43 ?_ rfl (by kernel_rfl) (by kernel_rfl) (by kernel_rfl) (fun _ _ _ h => h) (by rfl) ?_ hHeld ?_
            rotate_left 1
            · (intro W hSw; (try dsimp only at hSw); go_simp; try with_reducible rfl)
            try simp only [Act.put, zSa, zSz, zSs]
            refine wpT 44 ?_ rfl (by kernel_rfl) (by kernel_rfl) (by kernel_rfl) (fun _ _ _ h => h) (by rfl) ?_ hHeld ?_
            rotate_left 1
            · (intro W hSw; (try dsimp only at hSw); go_simp; try with_reducible rfl)
            try simp only [Act.put, zSa, zSz, zSs]
            refine wpAnyH_done (by kernel_rfl) ?_ _
            refine NoPanic.normal ?_
            have hbe := HB1.out.trans ((HBB.out.trans (hHeld.mono HBB.out.size)).mono HB1.out.size)
            go_wp2
            go_ret2
            have hF : formM m = false := by rw [rform_2 HK.out HB_retry.out, HBF.out, decide_eq_true (show m.ses.length ≤ 32 by have := HC_sesgt32.out; omega), decide_eq_true (show m.sha.length = 65 by have := HC_shane65.out; omega), HQ_special.out]; rfl
            exact ⟨[], by rw [hF]; rfl, fun hf => absurd hf (by rw [hF]; decide), hbe⟩
        | false =>
          have HQ_special := Lib.hid hq
          clear hq
          cases hq : m.psk with
          | true =>
            have HB_psk := Lib.hid hq
            clear hq
            as_aux_lemma =>
              have HRB := Lib.hid (HM.out.below hbx)
              have HXB := Lib.hid bx5
              have HSB := Lib.hid (HSR.out.below hbx)
              have HBB := Lib.hid hbx
              clear hbx bx5
              generalize hwB : wx5 = wB at *
              clear hwB
              refine wp_region_noPanic ?_
              refine wp_region_held_drew (S := fun V => Below wB.heap.size wB V) (by kernel_rfl) (by exact below_drewN (Below.refl _ _) 1) (fun hHeld => ?_)
              refine wpT 0 ?_ rfl (by kernel_rfl) (by kernel_rfl) (by kernel_rfl) (fun _ _ _ h => h) (by rfl) ?_ hHeld ?_
              rotate_left 1
              · (intro W hSw; (try dsimp only at hSw); refine exec_load_mid 25 (.tmp 4) ?_ g4 0 ?_ (rC mx5 vc) _ (rangeAt_of_blk (HXB.out.below hSw HXB.out.lt)) Tryd.underlying25 rfl (infoR.trans (by rw [len_rC (m := mx5) HXL5.out])) <;> rfl)
              try simp only [Act.put, zSa, zSz, zSs]
              refine wpAnyH_ready (rs := [1]) (by kernel_rfl) (by simp) ?_
              refine AllReadyH.cons (o := ⟨_, _, _, _, _, _⟩) rfl (fun K hK => ?_) AllReadyH.nil
              go_simp
              go_at_call 39
              refine (bare_e mx5 (rC mx5 vc) _ ⟨HXL5.out, vc, rfl, by rw [HXC5.out]; exact HSB.out.below hHeld⟩).mono ?_
              rintro e wq1 ⟨rfl, hbn⟩
              rw [HBARE.out]
              try go_wp2_with fail
              refine hK.out _ _ (hHeld.trans (hbn.mono hHeld.size)) (fun hHeld => ?_)
              clear hK K hbn
              try simp only [Act.put, zSa, zSz, zSs]
              refine wpT 2 ?_ rfl (by kernel_rfl) (by kernel_rfl) (by kernel_rfl) (fun _ _ _ h => h) (by rfl) ?_ hHeld ?_
              rotate_left 1
              · (intro W hSw; (try dsimp only at hSw); go_simp; try with_reducible rfl)
              try simp only [Act.put, zSa, zSz, zSs]
              refine wpT 3 ?_ rfl (by kernel_rfl) (by kernel_rfl) (by kernel_rfl) (fun _ _ _ h => h) (by rfl) ?_ hHeld ?_
              rotate_left 1
              · (intro W hSw; (try dsimp only at hSw); go_simp; try with_reducible rfl)
              try simp only [Act.put, zSa, zSz, zSs]
              refine wpT 4 ?_ rfl (by kernel_rfl) (by kernel_rfl) (by kernel_rfl) (fun _ _ _ h => h) (by rfl) ?_ hHeld ?_
              rotate_left 1
              · (intro W hSw; (try dsimp only at hSw); go_simp; try with_reducible rfl)
              try simp only [Act.put, zSa, zSz, zSs]
              refine wpT 5 ?_ rfl (by kernel_rfl) (by kernel_rfl) (by kernel_rfl) (fun _ _ _ h => h) (by rfl) ?_ hHeld ?_
              rotate_left 1
              · (intro W hSw; (try dsimp only at hSw); have hcc := (HRB.out.below hSw).ses; go_simp; try with_reducible rfl)
              try simp only [Act.put, zSa, zSz, zSs]
              refine wpT 6 ?_ rfl (by kernel_rfl) (by kernel_rfl) (by kernel_rfl) (fun _ _ _ h => h) (by rfl) ?_ hHeld ?_
              rotate_left 1
              · (intro W hSw; (try dsimp only at hSw); have hsz := HZ_ses.out; go_simp; try with_reducible rfl)
              try simp only [Act.put, zSa, zSz, zSs]
              refine wpT 7 ?_ rfl (by kernel_rfl) (by kernel_rfl) (by kernel_rfl) (fun _ _ _ h => h) (by rfl) ?_ hHeld ?_
              rotate_left 1
              · (intro W hSw; (try dsimp only at hSw); have hd := HV_sesgt32.out.1; have hdn := HV_sesgt32.out.2; go_simp; try with_reducible rfl)
              try simp only [Act.put, zSa, zSz, zSs]
              refine wpT 8 ?_ rfl (by kernel_rfl) (by kernel_rfl) (by kernel_rfl) (fun _ _ _ h => h) (by rfl) ?_ hHeld ?_
              rotate_left 1
              · (intro W hSw; (try dsimp only at hSw); go_simp; try with_reducible rfl)
              try simp only [Act.put, zSa, zSz, zSs]
              refine wpT 9 ?_ rfl (by kernel_rfl) (by kernel_rfl) (by kernel_rfl) (fun _ _ _ h => h) (by rfl) ?_ hHeld ?_
              rotate_left 1
              · (intro W hSw; (try dsimp only at hSw); go_simp; try with_reducible rfl)
              try simp only [Act.put, zSa, zSz, zSs]
              refine wpT 10 ?_ rfl (by kernel_rfl) (by kernel_rfl) (by kernel_rfl) (fun _ _ _ h => h) (by rfl) ?_ hHeld ?_
              rotate_left 1
              · (intro W hSw; (try dsimp only at hSw); go_simp; try with_reducible rfl)
              try simp only [Act.put, zSa, zSz, zSs]
              refine wpT 11 ?_ rfl (by kernel_rfl) (by kernel_rfl) (by kernel_rfl) (fun _ _ _ h => h) (by rfl) ?_ hHeld ?_
              rotate_left 1
              · (intro W hSw; (try dsimp only at hSw); have hcc := ((HRB.out.below hSw).retry).trans (by rw [HB_retry.out]); go_simp; try with_reducible rfl)
              try simp only [Act.put, zSa, zSz, zSs]
              refine wpT 12 ?_ rfl (by kernel_rfl) (by kernel_rfl) (by kernel_rfl) (fun _ _ _ h => h) (by rfl) ?_ hHeld ?_
              rotate_left 1
              · (intro W hSw; (try dsimp only at hSw); go_simp; try with_reducible rfl)
              try simp only [Act.put, zSa, zSz, zSs]
              refine wpU 13 rfl (by kernel_rfl) (by kernel_rfl) (by kernel_rfl) (fun _ _ _ h => h) (by rfl) hHeld ?_
              try simp only [Act.put, zSa, zSz, zSs]
              refine wpU 14 rfl (by kernel_rfl) (by kernel_rfl) (by kernel_rfl) (fun _ _ _ h => h) (by rfl) hHeld ?_
              try simp only [Act.put, zSa, zSz, zSs]
              refine wpU 15 rfl (by kernel_rfl) (by kernel_rfl) (by kernel_rfl) (fun _ _ _ h => h) (by rfl) hHeld ?_
              try simp only [Act.put, zSa, zSz, zSs]
              refine wpU 16 rfl (by kernel_rfl) (by kernel_rfl) (by kernel_rfl) (fun _ _ _ h => h) (by rfl) hHeld ?_
              try simp only [Act.put, zSa, zSz, zSs]
              refine wpU 17 rfl (by kernel_rfl) (by kernel_rfl) (by kernel_rfl) (fun _ _ _ h => h) (by rfl) hHeld ?_
              try simp only [Act.put, zSa, zSz, zSs]
              refine wpU 18 rfl (by kernel_rfl) (by kernel_rfl) (by kernel_rfl) (fun _ _ _ h => h) (by rfl) hHeld ?_
              try simp only [Act.put, zSa, zSz, zSs]
              refine wpU 19 rfl (by kernel_rfl) (by kernel_rfl) (by kernel_rfl) (fun _ _ _ h => h) (by rfl) hHeld ?_
              try simp only [Act.put, zSa, zSz, zSs]
              refine wpU 20 rfl (by kernel_rfl) (by kernel_rfl) (by kernel_rfl) (fun _ _ _ h => h) (by rfl) hHeld ?_
              try simp only [Act.put, zSa, zSz, zSs]
              refine wpU 21 rfl (by kernel_rfl) (by kernel_rfl) (by kernel_rfl) (fun _ _ _ h => h) (by rfl) hHeld ?_
              try simp only [Act.put, zSa, zSz, zSs]
              refine wpU 22 rfl (by kernel_rfl) (by kernel_rfl) (by kernel_rfl) (fun _ _ _ h => h) (by rfl) hHeld ?_
              try simp only [Act.put, zSa, zSz, zSs]
              refine wpU 23 rfl (by kernel_rfl) (by kernel_rfl) (by kernel_rfl) (fun _ _ _ h => h) (by rfl) hHeld ?_
              try simp only [Act.put, zSa, zSz, zSs]
              refine wpU 24 rfl (by kernel_rfl) (by kernel_rfl) (by kernel_rfl) (fun _ _ _ h => h) (by rfl) hHeld ?_
              try simp only [Act.put, zSa, zSz, zSs]
              refine wpU 25 rfl (by kernel_rfl) (by kernel_rfl) (by kernel_rfl) (fun _ _ _ h => h) (by rfl) hHeld ?_
              try simp only [Act.put, zSa, zSz, zSs]
              refine wpT 26 ?_ rfl (by kernel_rfl) (by kernel_rfl) (by kernel_rfl) (fun _ _ _ h => h) (by rfl) ?_ hHeld ?_
              rotate_left 1
              · (intro W hSw; (try dsimp only at hSw); go_simp; try with_reducible rfl)
              try simp only [Act.put, zSa, zSz, zSs]
              refine wpT 27 ?_ rfl (by kernel_rfl) (by kernel_rfl) (by kernel_rfl) (fun _ _ _ h => h) (by rfl) ?_ hHeld ?_
              rotate_left 1
              · (intro W hSw; (try dsimp only at hSw); go_simp; try with_reducible rfl)
              try simp only [Act.put, zSa, zSz, zSs]
              refine wpT 28 ?_ rfl (by kernel_rfl) (by kernel_rfl) (by kernel_rfl) (fun _ _ _ h => h) (by rfl) ?_ hHeld ?_
              rotate_left 1
              · (intro W hSw; (try dsimp only at hSw); go_simp; try with_reducible rfl)
              try simp only [Act.put, zSa, zSz, zSs]
              refine wpT 29 ?_ rfl (by kernel_rfl) (by kernel_rfl) (by kernel_rfl) (fun _ _ _ h => h) (by rfl) ?_ hHeld ?_
              rotate_left 1
              · (intro W hSw; (try dsimp only at hSw); go_simp; try with_reducible rfl)
              try simp only [Act.put, zSa, zSz, zSs]
              refine wpT 30 ?_ rfl (by kernel_rfl) (by kernel_rfl) (by kernel_rfl) (fun _ _ _ h => h) (by rfl) ?_ hHeld ?_
              rotate_left 1
              · (intro W hSw; (try dsimp only at hSw); have hcc := ((HRB.out.below hSw).retry).trans (by rw [HB_retry.out]); go_simp; try with_reducible rfl)
              try simp only [Act.put, zSa, zSz, zSs]
              refine wpT 31 ?_ rfl (by kernel_rfl) (by kernel_rfl) (by kernel_rfl) (fun _ _ _ h => h) (by rfl) ?_ hHeld ?_
              rotate_left 1
              · (intro W hSw; (try dsimp only at hSw); go_simp; try with_reducible rfl)
              try simp only [Act.put, zSa, zSz, zSs]
              refine wpT 32 ?_ rfl (by kernel_rfl) (by kernel_rfl) (by kernel_rfl) (fun _ _ _ h => h) (by rfl) ?_ hHeld ?_
              rotate_left 1
              · (intro W hSw; (try dsimp only at hSw); go_simp; try with_reducible rfl)
              try simp only [Act.put, zSa, zSz, zSs]
              refine wpT 33 ?_ rfl (by kernel_rfl) (by kernel_rfl) (by kernel_rfl) (fun _ _ _ h => h) (by rfl) ?_ hHeld ?_
              rotate_left 1
              · (intro W hSw; (try dsimp only at hSw); go_simp; try with_reducible rfl)
              try simp only [Act.put, zSa, zSz, zSs]
              refine wpT 34 ?_ rfl (by kernel_rfl) (by kernel_rfl) (by kernel_rfl) (fun _ _ _ h => h) (by rfl) ?_ hHeld ?_
              rotate_left 1
              · (intro W hSw; (try dsimp only at hSw); have hcc := (HRB.out.below hSw).sha; go_simp; try with_reducible rfl)
              try simp only [Act.put, zSa, zSz, zSs]
              refine wpT 35 ?_ rfl (by kernel_rfl) (by kernel_rfl) (by kernel_rfl) (fun _ _ _ h => h) (by rfl) ?_ hHeld ?_
              rotate_left 1
              · (intro W hSw; (try dsimp only at hSw); have hsz := HZ_sha.out; go_simp; try with_reducible rfl)
              try simp only [Act.put, zSa, zSz, zSs]
              refine wpT 36 ?_ rfl (by kernel_rfl) (by kernel_rfl) (by kernel_rfl) (fun _ _ _ h => h) (by rfl) ?_ hHeld ?_
              rotate_left 1
              · (intro W hSw; (try dsimp only at hSw); have hd := HV_shane65.out.1; have hdn := HV_shane65.out.2.1; have hq := HV_shane65.out.2.2.1; have hqn := HV_shane65.out.2.2.2; go_simp; try with_reducible rfl)
              try simp only [Act.put, zSa, zSz, zSs]
              refine wpT 37 ?_ rfl (by kernel_rfl) (by kernel_rfl) (by kernel_rfl) (fun _ _ _ h => h) (by rfl) ?_ hHeld ?_
              rotate_left 1
              · (intro W hSw; (try dsimp only at hSw); go_simp; try with_reducible rfl)
              try simp only [Act.put, zSa, zSz, zSs]
              refine wpT 38 ?_ rfl (by kernel_rfl) (by kernel_rfl) (by kernel_rfl) (fun _ _ _ h => h) (by rfl) ?_ hHeld ?_
              rotate_left 1
              · (intro W hSw; (try dsimp only at hSw); go_simp; try with_reducible rfl)
              try simp only [Act.put, zSa, zSz, zSs]
              refine wpT 39 ?_ rfl (by kernel_rfl) (by kernel_rfl) (by kernel_rfl) (fun _ _ _ h => h) (by rfl) ?_ hHeld ?_
              rotate_left 1
              · (intro W hSw; (try dsimp only at hSw); refine exec_load_mid 22 (.tmp 158) ?_ g1 1 ?_ (m.rnd.map B8) _ ((HRB.out.below hSw).rnd) Tryd.underlying22 rfl (info40.trans (by rw [List.length_map, HL.out.1])) <;> rfl)
              try simp only [Act.put, zSa, zSz, zSs]
              refine wpAnyH_ready (rs := [40]) (by kernel_rfl) (by simp) ?_
              refine AllReadyH.cons (o := ⟨_, _, _, _, _, _⟩) rfl (fun K hK => ?_) AllReadyH.nil
              go_simp
              go_at_call 19
              refine (special_e _).mono ?_
              rintro e wq2 ⟨rfl, hbn⟩
              try go_wp2_with fail
              refine hK.out _ _ (hHeld.trans (hbn.mono hHeld.size)) (fun hHeld => ?_)
              clear hK K hbn
              try simp only [Act.put, zSa, zSz, zSs]
              refine wpAnyH_ready (rs := [41]) (by kernel_rfl) (by simp) ?_
              refine AllReadyH.cons (o := ⟨_, _, _, _, _, _⟩) rfl (fun K hK => ?_) AllReadyH.nil
              rw [if_pos (by rfl)]
              refine wp_eqlA rfl rfl rfl guardB32 (EqB (Lib.hid HL.out.1) (Lib.hid special_len) (Lib.hid HQ_special.out) _) ?_
              refine hK.out _ _ hHeld (fun hHeld => ?_)
              clear hK K
              try simp only [Act.put, zSa, zSz, zSs]
              refine wpT 42 ?_ rfl (by kernel_rfl) (by kernel_rfl) (by kernel_rfl) (fun _ _ _ h => h) (by rfl) ?_ hHeld ?_
              rotate_left 1
              · (intro W hSw; (try dsimp only at hSw); go_simp; try with_reducible rfl)
              try simp only [Act.put, zSa, zSz, zSs]
              refine wpT 43 ?_ rfl (by kernel_rfl) (by kernel_rfl) (by kernel_rfl) (fun _ _ _ h => h) (by rfl) ?_ hHeld ?_
              rotate_left 1
              · (intro W hSw; (try dsimp only at hSw); go_simp; try with_reducible rfl)
              try simp only [Act.put, zSa, zSz, zSs]
              refine wpT 44 ?_ rfl (by kernel_rfl) (by kernel_rfl) (by kernel_rfl) (fun _ _ _ h => h) (by rfl) ?_ hHeld ?_
              rotate_left 1
              · (intro W hSw; (try dsimp only at hSw); go_simp; try with_reducible rfl)
              try simp only [Act.put, zSa, zSz, zSs]
              refine wpAnyH_done (by kernel_rfl) ?_ _
              refine NoPanic.normal ?_
              have hbx := HBB.out.trans (hHeld.mono HBB.out.size)
              have bx9 := HXB.out.below hHeld HXB.out.lt
              clear hHeld
              go_upto_region 20 with (fail)
              refine wp_region_lit ?_
              refine wpList_plain rfl (fun K hK => ?_)
              go_simp
              refine hK _ _ ?_
              clear hK K
              try simp only [Act.put, zSa, zSz, zSs]
              refine wpList_load_mid rfl 22 (.tmp 165) rfl g1 1 rfl (m.rnd.map B8) _ ((HM.out.below hbx).rnd) Tryd.underlying22 rfl (info40.trans (by rw [List.length_map, HL.out.1])) ?_
              try simp only [Act.put, zSa, zSz, zSs]
              refine wpList_new_blk rfl 22 rfl _ zeroB32 ?_
              intro g7 w7 hg7 b7 hb7
              try simp only [Act.put, zSa, zSz, zSs]
              have HG7 := Lib.hid (show w1.heap.size ≤ g7 by rw [hg7]; exact hbx.size)
              replace hbx := hbx.trans (hb7.mono hbx.size)
              refine wpList_store_blk rfl 22 (.tmp 7) (.tmp 166) rfl rfl g7 (m.rnd.map B8) rfl rfl _ _ b7 (info40.trans (by rw [List.length_map, HL.out.1])) (by rw [List.length_map, List.length_map, HL.out.1]; rfl) (one8 _) ?_
              intro w8 b8 hgs
              try simp only [Act.put, zSa, zSz, zSs]
              replace hbx := hbx.trans (grown_below hgs HG7.out hbx.size)
              clear hgs hg7 hb7 b7 bx9
              refine wpList_plain rfl (fun K hK => ?_)
              go_simp
              refine hK _ _ ?_
              clear hK K
              try simp only [Act.put, zSa, zSz, zSs]
              have hcr := ((HM.out.below hbx).retry).trans (by rw [HB_retry.out])
              have hcp := ((HM.out.below hbx).psk).trans (by rw [HB_psk.out])
              have hcs := (HM.out.below hbx).sha
              go_upto_region 24 with (fail)
              refine wp_region_lit ?_
              refine wpList_plain rfl (fun K hK => ?_)
              go_simp
              refine hK _ _ ?_
              clear hK K
              try simp only [Act.put, zSa, zSz, zSs]
              refine wpList_plain rfl (fun K hK => ?_)
              go_simp
              refine hK _ _ ?_
              clear hK K
              try simp only [Act.put, zSa, zSz, zSs]
              refine wpList_plain rfl (fun K hK => ?_)
              go_simp
              refine hK _ _ ?_
              clear hK K
              try simp only [Act.put, zSa, zSz, zSs]
              clear hcs hcr hcp
              refine wpList_plain rfl (fun K hK0 => ?_)
              have hK := Lib.hid hK0
              clear hK0
              go_simp
              go_at_call 25
              refine (vec_2 m.sha _ (by have h1 := HS.out.2.1; omega)).mono ?_
              rintro e w10 ⟨rfl, hb9⟩
              try go_wp2_with fail
              refine hK.out _ _ ?_
              clear hK K
              try simp only [Act.put, zSa, zSz, zSs]
              replace hbx := hbx.trans (hb9.mono hbx.size)
              replace b8 := b8.below hb9 b8.lt
              clear hb9
              obtain ⟨s176, hs176⟩ : ∃ s : List UInt8, [0, 23] ++ (vecB 2 m.sha) = s := ⟨_, rfl⟩
              have HTL176 := Lib.hid (show s176.length ≤ 2104 by rw [← hs176, List.length_append]; have h1 := (show ([0, 23] : List UInt8).length ≤ 2 by decide); have h2 := (show (vecB 2 m.sha).length ≤ 2102 by rw [vecB_length]; have h0 := HS.out.2.1; omega); omega)
              refine wpList_plain rfl (fun K hK => wp_catS (.const (.string { data := #[0, 23] })) (.tmp 175) rfl ([0, 23]) ((vecB 2 m.sha)) rfl rfl (by have h1 := (show ([0, 23] : List UInt8).length ≤ 2 by decide); have h2 := (show (vecB 2 m.sha).length ≤ 2102 by rw [vecB_length]; have h0 := HS.out.2.1; omega); omega) (hK _ _ ?_))
              clear hK K
              rw [hs176]
              have HT176 := Lib.hid hs176
              clear hs176
              try simp only [Act.put, zSa, zSz, zSs]
              refine wpList_plain rfl (fun K hK0 => ?_)
              have hK := Lib.hid hK0
              clear hK0
              go_simp
              go_at_call 25
              refine (vec_2 s176 _ (by have h1 := HTL176.out; omega)).mono ?_
              rintro e w11 ⟨rfl, hb9⟩
              try go_wp2_with fail
              refine hK.out _ _ ?_
              clear hK K
              try simp only [Act.put, zSa, zSz, zSs]
              replace hbx := hbx.trans (hb9.mono hbx.size)
              replace b8 := b8.below hb9 b8.lt
              clear hb9
              obtain ⟨s178, hs178⟩ : ∃ s : List UInt8, [0, 43, 0, 2, 3, 4, 0, 51] ++ (vecB 2 s176) = s := ⟨_, rfl⟩
              have HTL178 := Lib.hid (show s178.length ≤ 2114 by rw [← hs178, List.length_append]; have h1 := (show ([0, 43, 0, 2, 3, 4, 0, 51] : List UInt8).length ≤ 8 by decide); have h2 := (show (vecB 2 s176).length ≤ 2106 by rw [vecB_length]; have h0 := HTL176.out; omega); omega)
              refine wpList_plain rfl (fun K hK => wp_catS (.tmp 172) (.tmp 177) rfl ([0, 43, 0, 2, 3, 4, 0, 51]) ((vecB 2 s176)) rfl rfl (by have h1 := (show ([0, 43, 0, 2, 3, 4, 0, 51] : List UInt8).length ≤ 8 by decide); have h2 := (show (vecB 2 s176).length ≤ 2106 by rw [vecB_length]; have h0 := HTL176.out; omega); omega) (hK _ _ ?_))
              clear hK K
              rw [hs178]
              have HT178 := Lib.hid hs178
              clear hs178
              try simp only [Act.put, zSa, zSz, zSs]
              refine wpList_plain rfl (fun K hK => ?_)
              go_simp
              refine hK _ _ ?_
              clear hK K
              try simp only [Act.put, zSa, zSz, zSs]
              have hcp := ((HM.out.below hbx).psk).trans (by rw [HB_psk.out])
              go_upto_region 26 with (fail)
              clear hcp
              refine wp_region_lit ?_
              refine wpList_plain rfl (fun K hK => ?_)
              go_simp
              refine hK _ _ ?_
              clear hK K
              try simp only [Act.put, zSa, zSz, zSs]
              obtain ⟨s182, hs182⟩ : ∃ s : List UInt8, s178 ++ [0, 41, 0, 2, 0, 0] = s := ⟨_, rfl⟩
              have HTL182 := Lib.hid (show s182.length ≤ 2120 by rw [← hs182, List.length_append]; have h1 := HTL178.out; have h2 := (show ([0, 41, 0, 2, 0, 0] : List UInt8).length ≤ 6 by decide); omega)
              refine wpList_plain rfl (fun K hK => wp_catS (.tmp 181) (.const (.string { data := #[0, 41, 0, 2, 0, 0] })) rfl (s178) ([0, 41, 0, 2, 0, 0]) rfl rfl (by have h1 := HTL178.out; have h2 := (show ([0, 41, 0, 2, 0, 0] : List UInt8).length ≤ 6 by decide); omega) (hK _ _ ?_))
              clear hK K
              rw [hs182]
              have HT182 := Lib.hid hs182
              clear hs182
              try simp only [Act.put, zSa, zSz, zSs]
              refine wpList_plain rfl (fun K hK => ?_)
              go_simp
              refine hK _ _ ?_
              clear hK K
              try simp only [Act.put, zSa, zSz, zSs]
              go_upto_region 27 with (fail)
              have HRB := Lib.hid (HM.out.below hbx)
              have HXB := Lib.hid b8
              have HSB := Lib.hid (HSR.out.below hbx)
              have HBB := Lib.hid hbx
              clear hbx b8
              generalize hwB : w11 = wB at *
              clear hwB
              obtain ⟨s185, hs185⟩ : ∃ s : List UInt8, [3, 3] ++ m.rnd = s := ⟨_, rfl⟩
              have HTL185 := Lib.hid (show s185.length ≤ 34 by rw [← hs185, List.length_append]; have h1 := (show ([3, 3] : List UInt8).length ≤ 2 by decide); have h2 := Nat.le_of_eq HL.out.1; omega)
              have HT185 := Lib.hid hs185
              clear hs185
              obtain ⟨s189, hs189⟩ : ∃ s : List UInt8, s185 ++ (vecB 1 m.ses) = s := ⟨_, rfl⟩
              have HTL189 := Lib.hid (show s189.length ≤ 2135 by rw [← hs189, List.length_append]; have h1 := HTL185.out; have h2 := (show (vecB 1 m.ses).length ≤ 2101 by rw [vecB_length]; have h0 := HS.out.1; omega); omega)
              have HT189 := Lib.hid hs189
              clear hs189
              obtain ⟨s190, hs190⟩ : ∃ s : List UInt8, s189 ++ [19, 1, 0] = s := ⟨_, rfl⟩
              have HTL190 := Lib.hid (show s190.length ≤ 2138 by rw [← hs190, List.length_append]; have h1 := HTL189.out; have h2 := (show ([19, 1, 0] : List UInt8).length ≤ 3 by decide); omega)
              have HT190 := Lib.hid hs190
              clear hs190
              obtain ⟨s193, hs193⟩ : ∃ s : List UInt8, s190 ++ (vecB 2 s182) = s := ⟨_, rfl⟩
              have HTL193 := Lib.hid (show s193.length ≤ 4260 by rw [← hs193, List.length_append]; have h1 := HTL190.out; have h2 := (show (vecB 2 s182).length ≤ 2122 by rw [vecB_length]; have h0 := HTL182.out; omega); omega)
              have HT193 := Lib.hid hs193
              clear hs193
              refine wp_region_noPanic ?_
              refine wp_region_held_drew (S := fun V => Below wB.heap.size wB V) (by kernel_rfl) (by exact below_drewN (Below.refl _ _) 1) (fun hHeld => ?_)
              refine wpT 0 ?_ rfl (by kernel_rfl) (by kernel_rfl) (by kernel_rfl) (fun _ _ _ h => h) (by rfl) ?_ hHeld ?_
              rotate_left 1
              · (intro W hSw; (try dsimp only at hSw); refine exec_rowOf (x := .tmp 7) (g := g7) (ob := 0) ?_ Tryd.underlying22 (fun w => size8 w) ?_ <;> rfl)
              try simp only [Act.put, zSa, zSz, zSs]
              refine wpT 1 ?_ rfl (by kernel_rfl) (by kernel_rfl) (by kernel_rfl) (fun _ _ _ h => h) (by rfl) ?_ hHeld ?_
              rotate_left 1
              · (intro W hSw; (try dsimp only at hSw); refine exec_strV (.tmp 183) ?_ m.rnd _ ?_ (slV_range (rangeAt_of_blk (HXB.out.below hSw HXB.out.lt)) (HXB.out.below hSw HXB.out.lt).lt HL.out.1) <;> rfl)
              try simp only [Act.put, zSa, zSz, zSs]
              refine wpT 2 ?_ rfl (by kernel_rfl) (by kernel_rfl) (by kernel_rfl) (fun _ _ _ h => h) (by rfl) ?_ hHeld ?_
              rotate_left 1
              · (intro W hSw; (try dsimp only at hSw); refine exec_catL (.const (.string { data := #[3, 3] })) (.tmp 184) ?_ ([3, 3]) (m.rnd) s185 HT185.out ?_ ?_ (by have h1 := (show ([3, 3] : List UInt8).length ≤ 2 by decide); have h2 := Nat.le_of_eq HL.out.1; omega) <;> rfl)
              try simp only [Act.put, zSa, zSz, zSs]
              refine wpT 3 ?_ rfl (by kernel_rfl) (by kernel_rfl) (by kernel_rfl) (fun _ _ _ h => h) (by rfl) ?_ hHeld ?_
              rotate_left 1
              · (intro W hSw; (try dsimp only at hSw); go_simp; try with_reducible rfl)
              try simp only [Act.put, zSa, zSz, zSs]
              refine wpT 4 ?_ rfl (by kernel_rfl) (by kernel_rfl) (by kernel_rfl) (fun _ _ _ h => h) (by rfl) ?_ hHeld ?_
              rotate_left 1
              · (intro W hSw; (try dsimp only at hSw); have hcc := (HRB.out.below hSw).ses; go_simp; try with_reducible rfl)
              try simp only [Act.put, zSa, zSz, zSs]
              refine wpT 8 ?_ rfl (by kernel_rfl) (by kernel_rfl) (by kernel_rfl) (fun _ _ _ h => h) (by rfl) ?_ hHeld ?_
              rotate_left 1
              · (intro W hSw; (try dsimp only at hSw); go_simp; try with_reducible rfl)
              try simp only [Act.put, zSa, zSz, zSs]
              refine wpAnyH_ready (rs := [5]) (by kernel_rfl) (by simp) ?_
              refine AllReadyH.cons (o := ⟨_, _, _, _, _, _⟩) rfl (fun K hK => ?_) AllReadyH.nil
              go_simp
              go_at_call 25
              refine (vec_1 (m.ses) _ (by have h1 := HS.out.1; omega)).mono ?_
              rintro e wq1 ⟨rfl, hbn⟩
              try go_wp2_with fail
              refine hK.out _ _ (hHeld.trans (hbn.mono hHeld.size)) (fun hHeld => ?_)
              clear hK K hbn
              try simp only [Act.put, zSa, zSz, zSs]
              refine wpT 6 ?_ rfl (by kernel_rfl) (by kernel_rfl) (by kernel_rfl) (fun _ _ _ h => h) (by rfl) ?_ hHeld ?_
              rotate_left 1
              · (intro W hSw; (try dsimp only at hSw); refine exec_catL (.tmp 185) (.tmp 188) ?_ (s185) ((vecB 1 m.ses)) s189 HT189.out ?_ ?_ (by have h1 := HTL185.out; have h2 := (show (vecB 1 m.ses).length ≤ 2101 by rw [vecB_length]; have h0 := HS.out.1; omega); omega) <;> rfl)
              try simp only [Act.put, zSa, zSz, zSs]
              refine wpT 7 ?_ rfl (by kernel_rfl) (by kernel_rfl) (by kernel_rfl) (fun _ _ _ h => h) (by rfl) ?_ hHeld ?_
              rotate_left 1
              · (intro W hSw; (try dsimp only at hSw); refine exec_catL (.tmp 189) (.const (.string { data := #[19, 1, 0] })) ?_ (s189) ([19, 1, 0]) s190 HT190.out ?_ ?_ (by have h1 := HTL189.out; have h2 := (show ([19, 1, 0] : List UInt8).length ≤ 3 by decide); omega) <;> rfl)
              try simp only [Act.put, zSa, zSz, zSs]
              refine wpAnyH_ready (rs := [9]) (by kernel_rfl) (by simp) ?_
              refine AllReadyH.cons (o := ⟨_, _, _, _, _, _⟩) rfl (fun K hK => ?_) AllReadyH.nil
              go_simp
              go_at_call 25
              refine (vec_2 (s182) _ (by have h1 := HTL182.out; omega)).mono ?_
              rintro e wq2 ⟨rfl, hbn⟩
              try go_wp2_with fail
              refine hK.out _ _ (hHeld.trans (hbn.mono hHeld.size)) (fun hHeld => ?_)
              clear hK K hbn
              try simp only [Act.put, zSa, zSz, zSs]
              refine wpT 10 ?_ rfl (by kernel_rfl) (by kernel_rfl) (by kernel_rfl) (fun _ _ _ h => h) (by rfl) ?_ hHeld ?_
              rotate_left 1
              · (intro W hSw; (try dsimp only at hSw); refine exec_catL (.tmp 190) (.tmp 192) ?_ (s190) ((vecB 2 s182)) s193 HT193.out ?_ ?_ (by have h1 := HTL190.out; have h2 := (show (vecB 2 s182).length ≤ 2122 by rw [vecB_length]; have h0 := HTL182.out; omega); omega) <;> rfl)
              try simp only [Act.put, zSa, zSz, zSs]
              refine wpT 11 ?_ rfl (by kernel_rfl) (by kernel_rfl) (by kernel_rfl) (fun _ _ _ h => h) (by rfl) ?_ hHeld ?_
              rotate_left 1
              · (intro W hSw; (try dsimp only at hSw); go_simp; try with_reducible rfl)
              try simp only [Act.put, zSa, zSz, zSs]
              refine wpT 12 ?_ rfl (by kernel_rfl) (by kernel_rfl) (by kernel_rfl) (fun _ _ _ h => h) (by rfl) ?_ hHeld ?_
              rotate_left 1
              · (intro W hSw; (try dsimp only at hSw); go_simp; try with_reducible rfl)
              try simp only [Act.put, zSa, zSz, zSs]
              refine wpAnyH_done (by kernel_rfl) ?_ _
              refine NoPanic.normal ?_
              have hbe := HB1.out.trans ((HBB.out.trans (hHeld.mono HBB.out.size)).mono HB1.out.size)
              go_wp2
              go_ret2
              have hF : formM m = true := by rw [rform_2 HK.out HB_retry.out, HBF.out, decide_eq_true (show m.ses.length ≤ 32 by have := HC_sesgt32.out; omega), decide_eq_true (show m.sha.length = 65 by have := HC_shane65.out; omega), HQ_special.out]; rfl
              refine ⟨_, by rw [hF]; rfl, fun _ => ?_, hbe⟩
              rw [← HT193.out, ← HT190.out, ← HT189.out, ← HT185.out, ← HT182.out, ← HT178.out, ← HT176.out, bodyM, HK.out]
              have hv2 : vecB 2 [0, 23] = [0, 2, 0, 23] := rfl
              simp [serverB, HB_psk.out, HB_retry.out, List.append_assoc]
          | false =>
            have HB_psk := Lib.hid hq
            clear hq
            as_aux_lemma =>
              have HRB := Lib.hid (HM.out.below hbx)
              have HXB := Lib.hid bx5
              have HSB := Lib.hid (HSR.out.below hbx)
              have HBB := Lib.hid hbx
              clear hbx bx5
              generalize hwB : wx5 = wB at *
              clear hwB
              refine wp_region_noPanic ?_
              refine wp_region_held_drew (S := fun V => Below wB.heap.size wB V) (by kernel_rfl) (by exact below_drewN (Below.refl _ _) 1) (fun hHeld => ?_)
              refine wpT 0 ?_ rfl (by kernel_rfl) (by kernel_rfl) (by kernel_rfl) (fun _ _ _ h => h) (by rfl) ?_ hHeld ?_
              rotate_left 1
              · (intro W hSw; (try dsimp only at hSw); refine exec_load_mid 25 (.tmp 4) ?_ g4 0 ?_ (rC mx5 vc) _ (rangeAt_of_blk (HXB.out.below hSw HXB.out.lt)) Tryd.underlying25 rfl (infoR.trans (by rw [len_rC (m := mx5) HXL5.out])) <;> rfl)
              try simp only [Act.put, zSa, zSz, zSs]
              refine wpAnyH_ready (rs := [1]) (by kernel_rfl) (by simp) ?_
              refine AllReadyH.cons (o := ⟨_, _, _, _, _, _⟩) rfl (fun K hK => ?_) AllReadyH.nil
              go_simp
              go_at_call 39
              refine (bare_e mx5 (rC mx5 vc) _ ⟨HXL5.out, vc, rfl, by rw [HXC5.out]; exact HSB.out.below hHeld⟩).mono ?_
              rintro e wq1 ⟨rfl, hbn⟩
              rw [HBARE.out]
              try go_wp2_with fail
              refine hK.out _ _ (hHeld.trans (hbn.mono hHeld.size)) (fun hHeld => ?_)
              clear hK K hbn
              try simp only [Act.put, zSa, zSz, zSs]
              refine wpT 2 ?_ rfl (by kernel_rfl) (by kernel_rfl) (by kernel_rfl) (fun _ _ _ h => h) (by rfl) ?_ hHeld ?_
              rotate_left 1
              · (intro W hSw; (try dsimp only at hSw); go_simp; try with_reducible rfl)
              try simp only [Act.put, zSa, zSz, zSs]
              refine wpT 3 ?_ rfl (by kernel_rfl) (by kernel_rfl) (by kernel_rfl) (fun _ _ _ h => h) (by rfl) ?_ hHeld ?_
              rotate_left 1
              · (intro W hSw; (try dsimp only at hSw); go_simp; try with_reducible rfl)
              try simp only [Act.put, zSa, zSz, zSs]
              refine wpT 4 ?_ rfl (by kernel_rfl) (by kernel_rfl) (by kernel_rfl) (fun _ _ _ h => h) (by rfl) ?_ hHeld ?_
              rotate_left 1
              · (intro W hSw; (try dsimp only at hSw); go_simp; try with_reducible rfl)
              try simp only [Act.put, zSa, zSz, zSs]
              refine wpT 5 ?_ rfl (by kernel_rfl) (by kernel_rfl) (by kernel_rfl) (fun _ _ _ h => h) (by rfl) ?_ hHeld ?_
              rotate_left 1
              · (intro W hSw; (try dsimp only at hSw); have hcc := (HRB.out.below hSw).ses; go_simp; try with_reducible rfl)
              try simp only [Act.put, zSa, zSz, zSs]
              refine wpT 6 ?_ rfl (by kernel_rfl) (by kernel_rfl) (by kernel_rfl) (fun _ _ _ h => h) (by rfl) ?_ hHeld ?_
              rotate_left 1
              · (intro W hSw; (try dsimp only at hSw); have hsz := HZ_ses.out; go_simp; try with_reducible rfl)
              try simp only [Act.put, zSa, zSz, zSs]
              refine wpT 7 ?_ rfl (by kernel_rfl) (by kernel_rfl) (by kernel_rfl) (fun _ _ _ h => h) (by rfl) ?_ hHeld ?_
              rotate_left 1
              · (intro W hSw; (try dsimp only at hSw); have hd := HV_sesgt32.out.1; have hdn := HV_sesgt32.out.2; go_simp; try with_reducible rfl)
              try simp only [Act.put, zSa, zSz, zSs]
              refine wpT 8 ?_ rfl (by kernel_rfl) (by kernel_rfl) (by kernel_rfl) (fun _ _ _ h => h) (by rfl) ?_ hHeld ?_
              rotate_left 1
              · (intro W hSw; (try dsimp only at hSw); go_simp; try with_reducible rfl)
              try simp only [Act.put, zSa, zSz, zSs]
              refine wpT 9 ?_ rfl (by kernel_rfl) (by kernel_rfl) (by kernel_rfl) (fun _ _ _ h => h) (by rfl) ?_ hHeld ?_
              rotate_left 1
              · (intro W hSw; (try dsimp only at hSw); go_simp; try with_reducible rfl)
              try simp only [Act.put, zSa, zSz, zSs]
              refine wpT 10 ?_ rfl (by kernel_rfl) (by kernel_rfl) (by kernel_rfl) (fun _ _ _ h => h) (by rfl) ?_ hHeld ?_
              rotate_left 1
              · (intro W hSw; (try dsimp only at hSw); go_simp; try with_reducible rfl)
              try simp only [Act.put, zSa, zSz, zSs]
              refine wpT 11 ?_ rfl (by kernel_rfl) (by kernel_rfl) (by kernel_rfl) (fun _ _ _ h => h) (by rfl) ?_ hHeld ?_
              rotate_left 1
              · (intro W hSw; (try dsimp only at hSw); have hcc := ((HRB.out.below hSw).retry).trans (by rw [HB_retry.out]); go_simp; try with_reducible rfl)
              try simp only [Act.put, zSa, zSz, zSs]
              refine wpT 12 ?_ rfl (by kernel_rfl) (by kernel_rfl) (by kernel_rfl) (fun _ _ _ h => h) (by rfl) ?_ hHeld ?_
              rotate_left 1
              · (intro W hSw; (try dsimp only at hSw); go_simp; try with_reducible rfl)
              try simp only [Act.put, zSa, zSz, zSs]
              refine wpU 13 rfl (by kernel_rfl) (by kernel_rfl) (by kernel_rfl) (fun _ _ _ h => h) (by rfl) hHeld ?_
              try simp only [Act.put, zSa, zSz, zSs]
              refine wpU 14 rfl (by kernel_rfl) (by kernel_rfl) (by kernel_rfl) (fun _ _ _ h => h) (by rfl) hHeld ?_
              try simp only [Act.put, zSa, zSz, zSs]
              refine wpU 15 rfl (by kernel_rfl) (by kernel_rfl) (by kernel_rfl) (fun _ _ _ h => h) (by rfl) hHeld ?_
              try simp only [Act.put, zSa, zSz, zSs]
              refine wpU 16 rfl (by kernel_rfl) (by kernel_rfl) (by kernel_rfl) (fun _ _ _ h => h) (by rfl) hHeld ?_
              try simp only [Act.put, zSa, zSz, zSs]
              refine wpU 17 rfl (by kernel_rfl) (by kernel_rfl) (by kernel_rfl) (fun _ _ _ h => h) (by rfl) hHeld ?_
              try simp only [Act.put, zSa, zSz, zSs]
              refine wpU 18 rfl (by kernel_rfl) (by kernel_rfl) (by kernel_rfl) (fun _ _ _ h => h) (by rfl) hHeld ?_
              try simp only [Act.put, zSa, zSz, zSs]
              refine wpU 19 rfl (by kernel_rfl) (by kernel_rfl) (by kernel_rfl) (fun _ _ _ h => h) (by rfl) hHeld ?_
              try simp only [Act.put, zSa, zSz, zSs]
              refine wpU 20 rfl (by kernel_rfl) (by kernel_rfl) (by kernel_rfl) (fun _ _ _ h => h) (by rfl) hHeld ?_
              try simp only [Act.put, zSa, zSz, zSs]
              refine wpU 21 rfl (by kernel_rfl) (by kernel_rfl) (by kernel_rfl) (fun _ _ _ h => h) (by rfl) hHeld ?_
              try simp only [Act.put, zSa, zSz, zSs]
              refine wpU 22 rfl (by kernel_rfl) (by kernel_rfl) (by kernel_rfl) (fun _ _ _ h => h) (by rfl) hHeld ?_
              try simp only [Act.put, zSa, zSz, zSs]
              refine wpU 23 rfl (by kernel_rfl) (by kernel_rfl) (by kernel_rfl) (fun _ _ _ h => h) (by rfl) hHeld ?_
              try simp only [Act.put, zSa, zSz, zSs]
              refine wpU 24 rfl (by kernel_rfl) (by kernel_rfl) (by kernel_rfl) (fun _ _ _ h => h) (by rfl) hHeld ?_
              try simp only [Act.put, zSa, zSz, zSs]
              refine wpU 25 rfl (by kernel_rfl) (by kernel_rfl) (by kernel_rfl) (fun _ _ _ h => h) (by rfl) hHeld ?_
              try simp only [Act.put, zSa, zSz, zSs]
              refine wpT 26 ?_ rfl (by kernel_rfl) (by kernel_rfl) (by kernel_rfl) (fun _ _ _ h => h) (by rfl) ?_ hHeld ?_
              rotate_left 1
              · (intro W hSw; (try dsimp only at hSw); go_simp; try with_reducible rfl)
              try simp only [Act.put, zSa, zSz, zSs]
              refine wpT 27 ?_ rfl (by kernel_rfl) (by kernel_rfl) (by kernel_rfl) (fun _ _ _ h => h) (by rfl) ?_ hHeld ?_
              rotate_left 1
              · (intro W hSw; (try dsimp only at hSw); go_simp; try with_reducible rfl)
              try simp only [Act.put, zSa, zSz, zSs]
              refine wpT 28 ?_ rfl (by kernel_rfl) (by kernel_rfl) (by kernel_rfl) (fun _ _ _ h => h) (by rfl) ?_ hHeld ?_
              rotate_left 1
              · (intro W hSw; (try dsimp only at hSw); go_simp; try with_reducible rfl)
              try simp only [Act.put, zSa, zSz, zSs]
              refine wpT 29 ?_ rfl (by kernel_rfl) (by kernel_rfl) (by kernel_rfl) (fun _ _ _ h => h) (by rfl) ?_ hHeld ?_
              rotate_left 1
              · (intro W hSw; (try dsimp only at hSw); go_simp; try with_reducible rfl)
              try simp only [Act.put, zSa, zSz, zSs]
              refine wpT 30 ?_ rfl (by kernel_rfl) (by kernel_rfl) (by kernel_rfl) (fun _ _ _ h => h) (by rfl) ?_ hHeld ?_
              rotate_left 1
              · (intro W hSw; (try dsimp only at hSw); have hcc := ((HRB.out.below hSw).retry).trans (by rw [HB_retry.out]); go_simp; try with_reducible rfl)
              try simp only [Act.put, zSa, zSz, zSs]
              refine wpT 31 ?_ rfl (by kernel_rfl) (by kernel_rfl) (by kernel_rfl) (fun _ _ _ h => h) (by rfl) ?_ hHeld ?_
              rotate_left 1
              · (intro W hSw; (try dsimp only at hSw); go_simp; try with_reducible rfl)
              try simp only [Act.put, zSa, zSz, zSs]
              refine wpT 32 ?_ rfl (by kernel_rfl) (by kernel_rfl) (by kernel_rfl) (fun _ _ _ h => h) (by rfl) ?_ hHeld ?_
              rotate_left 1
              · (intro W hSw; (try dsimp only at hSw); go_simp; try with_reducible rfl)
              try simp only [Act.put, zSa, zSz, zSs]
              refine wpT 33 ?_ rfl (by kernel_rfl) (by kernel_rfl) (by kernel_rfl) (fun _ _ _ h => h) (by rfl) ?_ hHeld ?_
              rotate_left 1
              · (intro W hSw; (try dsimp only at hSw); go_simp; try with_reducible rfl)
              try simp only [Act.put, zSa, zSz, zSs]
              refine wpT 34 ?_ rfl (by kernel_rfl) (by kernel_rfl) (by kernel_rfl) (fun _ _ _ h => h) (by rfl) ?_ hHeld ?_
              rotate_left 1
              · (intro W hSw; (try dsimp only at hSw); have hcc := (HRB.out.below hSw).sha; go_simp; try with_reducible rfl)
              try simp only [Act.put, zSa, zSz, zSs]
              refine wpT 35 ?_ rfl (by kernel_rfl) (by kernel_rfl) (by kernel_rfl) (fun _ _ _ h => h) (by rfl) ?_ hHeld ?_
              rotate_left 1
              · (intro W hSw; (try dsimp only at hSw); have hsz := HZ_sha.out; go_simp; try with_reducible rfl)
              try simp only [Act.put, zSa, zSz, zSs]
              refine wpT 36 ?_ rfl (by kernel_rfl) (by kernel_rfl) (by kernel_rfl) (fun _ _ _ h => h) (by rfl) ?_ hHeld ?_
              rotate_left 1
              · (intro W hSw; (try dsimp only at hSw); have hd := HV_shane65.out.1; have hdn := HV_shane65.out.2.1; have hq := HV_shane65.out.2.2.1; have hqn := HV_shane65.out.2.2.2; go_simp; try with_reducible rfl)
              try simp only [Act.put, zSa, zSz, zSs]
              refine wpT 37 ?_ rfl (by kernel_rfl) (by kernel_rfl) (by kernel_rfl) (fun _ _ _ h => h) (by rfl) ?_ hHeld ?_
              rotate_left 1
              · (intro W hSw; (try dsimp only at hSw); go_simp; try with_reducible rfl)
              try simp only [Act.put, zSa, zSz, zSs]
              refine wpT 38 ?_ rfl (by kernel_rfl) (by kernel_rfl) (by kernel_rfl) (fun _ _ _ h => h) (by rfl) ?_ hHeld ?_
              rotate_left 1
              · (intro W hSw; (try dsimp only at hSw); go_simp; try with_reducible rfl)
              try simp only [Act.put, zSa, zSz, zSs]
              refine wpT 39 ?_ rfl (by kernel_rfl) (by kernel_rfl) (by kernel_rfl) (fun _ _ _ h => h) (by rfl) ?_ hHeld ?_
              rotate_left 1
              · (intro W hSw; (try dsimp only at hSw); refine exec_load_mid 22 (.tmp 158) ?_ g1 1 ?_ (m.rnd.map B8) _ ((HRB.out.below hSw).rnd) Tryd.underlying22 rfl (info40.trans (by rw [List.length_map, HL.out.1])) <;> rfl)
              try simp only [Act.put, zSa, zSz, zSs]
              refine wpAnyH_ready (rs := [40]) (by kernel_rfl) (by simp) ?_
              refine AllReadyH.cons (o := ⟨_, _, _, _, _, _⟩) rfl (fun K hK => ?_) AllReadyH.nil
              go_simp
              go_at_call 19
              refine (special_e _).mono ?_
              rintro e wq2 ⟨rfl, hbn⟩
              try go_wp2_with fail
              refine hK.out _ _ (hHeld.trans (hbn.mono hHeld.size)) (fun hHeld => ?_)
              clear hK K hbn
              try simp only [Act.put, zSa, zSz, zSs]
              refine wpAnyH_ready (rs := [41]) (by kernel_rfl) (by simp) ?_
              refine AllReadyH.cons (o := ⟨_, _, _, _, _, _⟩) rfl (fun K hK => ?_) AllReadyH.nil
              rw [if_pos (by rfl)]
              refine wp_eqlA rfl rfl rfl guardB32 (EqB (Lib.hid HL.out.1) (Lib.hid special_len) (Lib.hid HQ_special.out) _) ?_
              refine hK.out _ _ hHeld (fun hHeld => ?_)
              clear hK K
              try simp only [Act.put, zSa, zSz, zSs]
              refine wpT 42 ?_ rfl (by kernel_rfl) (by kernel_rfl) (by kernel_rfl) (fun _ _ _ h => h) (by rfl) ?_ hHeld ?_
              rotate_left 1
              · (intro W hSw; (try dsimp only at hSw); go_simp; try with_reducible rfl)
              try simp only [Act.put, zSa, zSz, zSs]
              refine wpT 43 ?_ rfl (by kernel_rfl) (by kernel_rfl) (by kernel_rfl) (fun _ _ _ h => h) (by rfl) ?_ hHeld ?_
              rotate_left 1
              · (intro W hSw; (try dsimp only at hSw); go_simp; try with_reducible rfl)
              try simp only [Act.put, zSa, zSz, zSs]
              refine wpT 44 ?_ rfl (by kernel_rfl) (by kernel_rfl) (by kernel_rfl) (fun _ _ _ h => h) (by rfl) ?_ hHeld ?_
              rotate_left 1
              · (intro W hSw; (try dsimp only at hSw); go_simp; try with_reducible rfl)
              try simp only [Act.put, zSa, zSz, zSs]
              refine wpAnyH_done (by kernel_rfl) ?_ _
              refine NoPanic.normal ?_
              have hbx := HBB.out.trans (hHeld.mono HBB.out.size)
              have bx9 := HXB.out.below hHeld HXB.out.lt
              clear hHeld
              go_upto_region 20 with (fail)
              refine wp_region_lit ?_
              refine wpList_plain rfl (fun K hK => ?_)
              go_simp
              refine hK _ _ ?_
              clear hK K
              try simp only [Act.put, zSa, zSz, zSs]
              refine wpList_load_mid rfl 22 (.tmp 165) rfl g1 1 rfl (m.rnd.map B8) _ ((HM.out.below hbx).rnd) Tryd.underlying22 rfl (info40.trans (by rw [List.length_map, HL.out.1])) ?_
              try simp only [Act.put, zSa, zSz, zSs]
              refine wpList_new_blk rfl 22 rfl _ zeroB32 ?_
              intro g7 w7 hg7 b7 hb7
              try simp only [Act.put, zSa, zSz, zSs]
              have HG7 := Lib.hid (show w1.heap.size ≤ g7 by rw [hg7]; exact hbx.size)
              replace hbx := hbx.trans (hb7.mono hbx.size)
              refine wpList_store_blk rfl 22 (.tmp 7) (.tmp 166) rfl rfl g7 (m.rnd.map B8) rfl rfl _ _ b7 (info40.trans (by rw [List.length_map, HL.out.1])) (by rw [List.length_map, List.length_map, HL.out.1]; rfl) (one8 _) ?_
              intro w8 b8 hgs
              try simp only [Act.put, zSa, zSz, zSs]
              replace hbx := hbx.trans (grown_below hgs HG7.out hbx.size)
              clear hgs hg7 hb7 b7 bx9
              refine wpList_plain rfl (fun K hK => ?_)
              go_simp
              refine hK _ _ ?_
              clear hK K
              try simp only [Act.put, zSa, zSz, zSs]
              have hcr := ((HM.out.below hbx).retry).trans (by rw [HB_retry.out])
              have hcp := ((HM.out.below hbx).psk).trans (by rw [HB_psk.out])
              have hcs := (HM.out.below hbx).sha
              go_upto_region 24 with (fail)
              refine wp_region_lit ?_
              refine wpList_plain rfl (fun K hK => ?_)
              go_simp
              refine hK _ _ ?_
              clear hK K
              try simp only [Act.put, zSa, zSz, zSs]
              refine wpList_plain rfl (fun K hK => ?_)
              go_simp
              refine hK _ _ ?_
              clear hK K
              try simp only [Act.put, zSa, zSz, zSs]
              refine wpList_plain rfl (fun K hK => ?_)
              go_simp
              refine hK _ _ ?_
              clear hK K
              try simp only [Act.put, zSa, zSz, zSs]
              clear hcs hcr hcp
              refine wpList_plain rfl (fun K hK0 => ?_)
              have hK := Lib.hid hK0
              clear hK0
              go_simp
              go_at_call 25
              refine (vec_2 m.sha _ (by have h1 := HS.out.2.1; omega)).mono ?_
              rintro e w10 ⟨rfl, hb9⟩
              try go_wp2_with fail
              refine hK.out _ _ ?_
              clear hK K
              try simp only [Act.put, zSa, zSz, zSs]
              replace hbx := hbx.trans (hb9.mono hbx.size)
              replace b8 := b8.below hb9 b8.lt
              clear hb9
              obtain ⟨s176, hs176⟩ : ∃ s : List UInt8, [0, 23] ++ (vecB 2 m.sha) = s := ⟨_, rfl⟩
              have HTL176 := Lib.hid (show s176.length ≤ 2104 by rw [← hs176, List.length_append]; have h1 := (show ([0, 23] : List UInt8).length ≤ 2 by decide); have h2 := (show (vecB 2 m.sha).length ≤ 2102 by rw [vecB_length]; have h0 := HS.out.2.1; omega); omega)
              refine wpList_plain rfl (fun K hK => wp_catS (.const (.string { data := #[0, 23] })) (.tmp 175) rfl ([0, 23]) ((vecB 2 m.sha)) rfl rfl (by have h1 := (show ([0, 23] : List UInt8).length ≤ 2 by decide); have h2 := (show (vecB 2 m.sha).length ≤ 2102 by rw [vecB_length]; have h0 := HS.out.2.1; omega); omega) (hK _ _ ?_))
              clear hK K
              rw [hs176]
              have HT176 := Lib.hid hs176
              clear hs176
              try simp only [Act.put, zSa, zSz, zSs]
              refine wpList_plain rfl (fun K hK0 => ?_)
              have hK := Lib.hid hK0
              clear hK0
              go_simp
              go_at_call 25
              refine (vec_2 s176 _ (by have h1 := HTL176.out; omega)).mono ?_
              rintro e w11 ⟨rfl, hb9⟩
              try go_wp2_with fail
              refine hK.out _ _ ?_
              clear hK K
              try simp only [Act.put, zSa, zSz, zSs]
              replace hbx := hbx.trans (hb9.mono hbx.size)
              replace b8 := b8.below hb9 b8.lt
              clear hb9
              obtain ⟨s178, hs178⟩ : ∃ s : List UInt8, [0, 43, 0, 2, 3, 4, 0, 51] ++ (vecB 2 s176) = s := ⟨_, rfl⟩
              have HTL178 := Lib.hid (show s178.length ≤ 2114 by rw [← hs178, List.length_append]; have h1 := (show ([0, 43, 0, 2, 3, 4, 0, 51] : List UInt8).length ≤ 8 by decide); have h2 := (show (vecB 2 s176).length ≤ 2106 by rw [vecB_length]; have h0 := HTL176.out; omega); omega)
              refine wpList_plain rfl (fun K hK => wp_catS (.tmp 172) (.tmp 177) rfl ([0, 43, 0, 2, 3, 4, 0, 51]) ((vecB 2 s176)) rfl rfl (by have h1 := (show ([0, 43, 0, 2, 3, 4, 0, 51] : List UInt8).length ≤ 8 by decide); have h2 := (show (vecB 2 s176).length ≤ 2106 by rw [vecB_length]; have h0 := HTL176.out; omega); omega) (hK _ _ ?_))
              clear hK K
              rw [hs178]
              have HT178 := Lib.hid hs178
              clear hs178
              try simp only [Act.put, zSa, zSz, zSs]
              refine wpList_plain rfl (fun K hK => ?_)
              go_simp
              refine hK _ _ ?_
              clear hK K
              try simp only [Act.put, zSa, zSz, zSs]
              have hcp := ((HM.out.below hbx).psk).trans (by rw [HB_psk.out])
              go_upto_region 27 with (fail)
              clear hcp
              have HRB := Lib.hid (HM.out.below hbx)
              have HXB := Lib.hid b8
              have HSB := Lib.hid (HSR.out.below hbx)
              have HBB := Lib.hid hbx
              clear hbx b8
              generalize hwB : w11 = wB at *
              clear hwB
              obtain ⟨s185, hs185⟩ : ∃ s : List UInt8, [3, 3] ++ m.rnd = s := ⟨_, rfl⟩
              have HTL185 := Lib.hid (show s185.length ≤ 34 by rw [← hs185, List.length_append]; have h1 := (show ([3, 3] : List UInt8).length ≤ 2 by decide); have h2 := Nat.le_of_eq HL.out.1; omega)
              have HT185 := Lib.hid hs185
              clear hs185
              obtain ⟨s189, hs189⟩ : ∃ s : List UInt8, s185 ++ (vecB 1 m.ses) = s := ⟨_, rfl⟩
              have HTL189 := Lib.hid (show s189.length ≤ 2135 by rw [← hs189, List.length_append]; have h1 := HTL185.out; have h2 := (show (vecB 1 m.ses).length ≤ 2101 by rw [vecB_length]; have h0 := HS.out.1; omega); omega)
              have HT189 := Lib.hid hs189
              clear hs189
              obtain ⟨s190, hs190⟩ : ∃ s : List UInt8, s189 ++ [19, 1, 0] = s := ⟨_, rfl⟩
              have HTL190 := Lib.hid (show s190.length ≤ 2138 by rw [← hs190, List.length_append]; have h1 := HTL189.out; have h2 := (show ([19, 1, 0] : List UInt8).length ≤ 3 by decide); omega)
              have HT190 := Lib.hid hs190
              clear hs190
              obtain ⟨s193, hs193⟩ : ∃ s : List UInt8, s190 ++ (vecB 2 s178) = s := ⟨_, rfl⟩
              have HTL193 := Lib.hid (show s193.length ≤ 4254 by rw [← hs193, List.length_append]; have h1 := HTL190.out; have h2 := (show (vecB 2 s178).length ≤ 2116 by rw [vecB_length]; have h0 := HTL178.out; omega); omega)
              have HT193 := Lib.hid hs193
              clear hs193
              refine wp_region_noPanic ?_
              refine wp_region_held_drew (S := fun V => Below wB.heap.size wB V) (by kernel_rfl) (by exact below_drewN (Below.refl _ _) 1) (fun hHeld => ?_)
              refine wpT 0 ?_ rfl (by kernel_rfl) (by kernel_rfl) (by kernel_rfl) (fun _ _ _ h => h) (by rfl) ?_ hHeld ?_
              rotate_left 1
              · (intro W hSw; (try dsimp only at hSw); refine exec_rowOf (x := .tmp 7) (g := g7) (ob := 0) ?_ Tryd.underlying22 (fun w => size8 w) ?_ <;> rfl)
              try simp only [Act.put, zSa, zSz, zSs]
              refine wpT 1 ?_ rfl (by kernel_rfl) (by kernel_rfl) (by kernel_rfl) (fun _ _ _ h => h) (by rfl) ?_ hHeld ?_
              rotate_left 1
              · (intro W hSw; (try dsimp only at hSw); refine exec_strV (.tmp 183) ?_ m.rnd _ ?_ (slV_range (rangeAt_of_blk (HXB.out.below hSw HXB.out.lt)) (HXB.out.below hSw HXB.out.lt).lt HL.out.1) <;> rfl)
              try simp only [Act.put, zSa, zSz, zSs]
              refine wpT 2 ?_ rfl (by kernel_rfl) (by kernel_rfl) (by kernel_rfl) (fun _ _ _ h => h) (by rfl) ?_ hHeld ?_
              rotate_left 1
              · (intro W hSw; (try dsimp only at hSw); refine exec_catL (.const (.string { data := #[3, 3] })) (.tmp 184) ?_ ([3, 3]) (m.rnd) s185 HT185.out ?_ ?_ (by have h1 := (show ([3, 3] : List UInt8).length ≤ 2 by decide); have h2 := Nat.le_of_eq HL.out.1; omega) <;> rfl)
              try simp only [Act.put, zSa, zSz, zSs]
              refine wpT 3 ?_ rfl (by kernel_rfl) (by kernel_rfl) (by kernel_rfl) (fun _ _ _ h => h) (by rfl) ?_ hHeld ?_
              rotate_left 1
              · (intro W hSw; (try dsimp only at hSw); go_simp; try with_reducible rfl)
              try simp only [Act.put, zSa, zSz, zSs]
              refine wpT 4 ?_ rfl (by kernel_rfl) (by kernel_rfl) (by kernel_rfl) (fun _ _ _ h => h) (by rfl) ?_ hHeld ?_
              rotate_left 1
              · (intro W hSw; (try dsimp only at hSw); have hcc := (HRB.out.below hSw).ses; go_simp; try with_reducible rfl)
              try simp only [Act.put, zSa, zSz, zSs]
              refine wpT 8 ?_ rfl (by kernel_rfl) (by kernel_rfl) (by kernel_rfl) (fun _ _ _ h => h) (by rfl) ?_ hHeld ?_
              rotate_left 1
              · (intro W hSw; (try dsimp only at hSw); go_simp; try with_reducible rfl)
              try simp only [Act.put, zSa, zSz, zSs]
              refine wpAnyH_ready (rs := [5]) (by kernel_rfl) (by simp) ?_
              refine AllReadyH.cons (o := ⟨_, _, _, _, _, _⟩) rfl (fun K hK => ?_) AllReadyH.nil
              go_simp
              go_at_call 25
              refine (vec_1 (m.ses) _ (by have h1 := HS.out.1; omega)).mono ?_
              rintro e wq1 ⟨rfl, hbn⟩
              try go_wp2_with fail
              refine hK.out _ _ (hHeld.trans (hbn.mono hHeld.size)) (fun hHeld => ?_)
              clear hK K hbn
              try simp only [Act.put, zSa, zSz, zSs]
              refine wpT 6 ?_ rfl (by kernel_rfl) (by kernel_rfl) (by kernel_rfl) (fun _ _ _ h => h) (by rfl) ?_ hHeld ?_
              rotate_left 1
              · (intro W hSw; (try dsimp only at hSw); refine exec_catL (.tmp 185) (.tmp 188) ?_ (s185) ((vecB 1 m.ses)) s189 HT189.out ?_ ?_ (by have h1 := HTL185.out; have h2 := (show (vecB 1 m.ses).length ≤ 2101 by rw [vecB_length]; have h0 := HS.out.1; omega); omega) <;> rfl)
              try simp only [Act.put, zSa, zSz, zSs]
              refine wpT 7 ?_ rfl (by kernel_rfl) (by kernel_rfl) (by kernel_rfl) (fun _ _ _ h => h) (by rfl) ?_ hHeld ?_
              rotate_left 1
              · (intro W hSw; (try dsimp only at hSw); refine exec_catL (.tmp 189) (.const (.string { data := #[19, 1, 0] })) ?_ (s189) ([19, 1, 0]) s190 HT190.out ?_ ?_ (by have h1 := HTL189.out; have h2 := (show ([19, 1, 0] : List UInt8).length ≤ 3 by decide); omega) <;> rfl)
              try simp only [Act.put, zSa, zSz, zSs]
              refine wpAnyH_ready (rs := [9]) (by kernel_rfl) (by simp) ?_
              refine AllReadyH.cons (o := ⟨_, _, _, _, _, _⟩) rfl (fun K hK => ?_) AllReadyH.nil
              go_simp
              go_at_call 25
              refine (vec_2 (s178) _ (by have h1 := HTL178.out; omega)).mono ?_
              rintro e wq2 ⟨rfl, hbn⟩
              try go_wp2_with fail
              refine hK.out _ _ (hHeld.trans (hbn.mono hHeld.size)) (fun hHeld => ?_)
              clear hK K hbn
              try simp only [Act.put, zSa, zSz, zSs]
              refine wpT 10 ?_ rfl (by kernel_rfl) (by kernel_rfl) (by kernel_rfl) (fun _ _ _ h => h) (by rfl) ?_ hHeld ?_
              rotate_left 1
              · (intro W hSw; (try dsimp only at hSw); refine exec_catL (.tmp 190) (.tmp 192) ?_ (s190) ((vecB 2 s178)) s193 HT193.out ?_ ?_ (by have h1 := HTL190.out; have h2 := (show (vecB 2 s178).length ≤ 2116 by rw [vecB_length]; have h0 := HTL178.out; omega); omega) <;> rfl)
              try simp only [Act.put, zSa, zSz, zSs]
              refine wpT 11 ?_ rfl (by kernel_rfl) (by kernel_rfl) (by kernel_rfl) (fun _ _ _ h => h) (by rfl) ?_ hHeld ?_
              rotate_left 1
              · (intro W hSw; (try dsimp only at hSw); go_simp; try with_reducible rfl)
              try simp only [Act.put, zSa, zSz, zSs]
              refine wpT 12 ?_ rfl (by kernel_rfl) (by kernel_rfl) (by kernel_rfl) (fun _ _ _ h => h) (by rfl) ?_ hHeld ?_
              rotate_left 1
              · (intro W hSw; (try dsimp only at hSw); go_simp; try with_reducible rfl)
              try simp only [Act.put, zSa, zSz, zSs]
              refine wpAnyH_done (by kernel_rfl) ?_ _
              refine NoPanic.normal ?_
              have hbe := HB1.out.trans ((HBB.out.trans (hHeld.mono HBB.out.size)).mono HB1.out.size)
              go_wp2
              go_ret2
              have hF : formM m = true := by rw [rform_2 HK.out HB_retry.out, HBF.out, decide_eq_true (show m.ses.length ≤ 32 by have := HC_sesgt32.out; omega), decide_eq_true (show m.sha.length = 65 by have := HC_shane65.out; omega), HQ_special.out]; rfl
              refine ⟨_, by rw [hF]; rfl, fun _ => ?_, hbe⟩
              rw [← HT193.out, ← HT190.out, ← HT189.out, ← HT185.out, ← HT178.out, ← HT176.out, bodyM, HK.out]
              have hv2 : vecB 2 [0, 23] = [0, 2, 0, 23] := rfl
              simp [serverB, HB_psk.out, HB_retry.out, List.append_assoc]
      · have HC_shane65 := Lib.hid hc
        have HV_shane65 := Lib.hid (show decide ((n_sha : Int) = (65 : Int)) = false ∧ decide (n_sha = 65) = false ∧ (((n_sha : Int) != (65 : Int)) = true ∧ (n_sha != 65) = true) from ⟨decide_eq_false (by have h1 := HN_sha.out; have h2 := HC_shane65.out; omega), decide_eq_false (by have h1 := HN_sha.out; have h2 := HC_shane65.out; omega), bne_iff_ne.2 (by have h1 := HN_sha.out; have h2 := HC_shane65.out; omega), bne_iff_ne.2 (by have h1 := HN_sha.out; have h2 := HC_shane65.out; omega)⟩)
        clear hc
        as_aux_lemma =>
          have HRB := Lib.hid (HM.out.below hbx)
          have HXB := Lib.hid bx5
          have HSB := Lib.hid (HSR.out.below hbx)
          have HBB := Lib.hid hbx
          clear hbx bx5
          generalize hwB : wx5 = wB at *
          clear hwB
          refine wp_region_noPanic ?_
          refine wp_region_held_drew (S := fun V => Below wB.heap.size wB V) (by kernel_rfl) (by exact below_drewN (Below.refl _ _) 1) (fun hHeld => ?_)
          refine wpT 0 ?_ rfl (by kernel_rfl) (by kernel_rfl) (by kernel_rfl) (fun _ _ _ h => h) (by rfl) ?_ hHeld ?_
          rotate_left 1
          · (intro W hSw; (try dsimp only at hSw); refine exec_load_mid 25 (.tmp 4) ?_ g4 0 ?_ (rC mx5 vc) _ (rangeAt_of_blk (HXB.out.below hSw HXB.out.lt)) Tryd.underlying25 rfl (infoR.trans (by rw [len_rC (m := mx5) HXL5.out])) <;> rfl)
          try simp only [Act.put, zSa, zSz, zSs]
          refine wpAnyH_ready (rs := [1]) (by kernel_rfl) (by simp) ?_
          refine AllReadyH.cons (o := ⟨_, _, _, _, _, _⟩) rfl (fun K hK => ?_) AllReadyH.nil
          go_simp
          go_at_call 39
          refine (bare_e mx5 (rC mx5 vc) _ ⟨HXL5.out, vc, rfl, by rw [HXC5.out]; exact HSB.out.below hHeld⟩).mono ?_
          rintro e wq1 ⟨rfl, hbn⟩
          rw [HBARE.out]
          try go_wp2_with fail
          refine hK.out _ _ (hHeld.trans (hbn.mono hHeld.size)) (fun hHeld => ?_)
          clear hK K hbn
          try simp only [Act.put, zSa, zSz, zSs]
          refine wpT 2 ?_ rfl (by kernel_rfl) (by kernel_rfl) (by kernel_rfl) (fun _ _ _ h => h) (by rfl) ?_ hHeld ?_
          rotate_left 1
          · (intro W hSw; (try dsimp only at hSw); go_simp; try with_reducible rfl)
          try simp only [Act.put, zSa, zSz, zSs]
          refine wpT 3 ?_ rfl (by kernel_rfl) (by kernel_rfl) (by kernel_rfl) (fun _ _ _ h => h) (by rfl) ?_ hHeld ?_
          rotate_left 1
          · (intro W hSw; (try dsimp only at hSw); go_simp; try with_reducible rfl)
          try simp only [Act.put, zSa, zSz, zSs]
          refine wpT 4 ?_ rfl (by kernel_rfl) (by kernel_rfl) (by kernel_rfl) (fun _ _ _ h => h) (by rfl) ?_ hHeld ?_
          rotate_left 1
          · (intro W hSw; (try dsimp only at hSw); go_simp; try with_reducible rfl)
          try simp only [Act.put, zSa, zSz, zSs]
          refine wpT 5 ?_ rfl (by kernel_rfl) (by kernel_rfl) (by kernel_rfl) (fun _ _ _ h => h) (by rfl) ?_ hHeld ?_
          rotate_left 1
          · (intro W hSw; (try dsimp only at hSw); have hcc := (HRB.out.below hSw).ses; go_simp; try with_reducible rfl)
          try simp only [Act.put, zSa, zSz, zSs]
          refine wpT 6 ?_ rfl (by kernel_rfl) (by kernel_rfl) (by kernel_rfl) (fun _ _ _ h => h) (by rfl) ?_ hHeld ?_
          rotate_left 1
          · (intro W hSw; (try dsimp only at hSw); have hsz := HZ_ses.out; go_simp; try with_reducible rfl)
          try simp only [Act.put, zSa, zSz, zSs]
          refine wpT 7 ?_ rfl (by kernel_rfl) (by kernel_rfl) (by kernel_rfl) (fun _ _ _ h => h) (by rfl) ?_ hHeld ?_
          rotate_left 1
          · (intro W hSw; (try dsimp only at hSw); have hd := HV_sesgt32.out.1; have hdn := HV_sesgt32.out.2; go_simp; try with_reducible rfl)
          try simp only [Act.put, zSa, zSz, zSs]
          refine wpT 8 ?_ rfl (by kernel_rfl) (by kernel_rfl) (by kernel_rfl) (fun _ _ _ h => h) (by rfl) ?_ hHeld ?_
          rotate_left 1
          · (intro W hSw; (try dsimp only at hSw); go_simp; try with_reducible rfl)
          try simp only [Act.put, zSa, zSz, zSs]
          refine wpT 9 ?_ rfl (by kernel_rfl) (by kernel_rfl) (by kernel_rfl) (fun _ _ _ h => h) (by rfl) ?_ hHeld ?_
          rotate_left 1
          · (intro W hSw; (try dsimp only at hSw); go_simp; try with_reducible rfl)
          try simp only [Act.put, zSa, zSz, zSs]
          refine wpT 10 ?_ rfl (by kernel_rfl) (by kernel_rfl) (by kernel_rfl) (fun _ _ _ h => h) (by rfl) ?_ hHeld ?_
          rotate_left 1
          · (intro W hSw; (try dsimp only at hSw); go_simp; try with_reducible rfl)
          try simp only [Act.put, zSa, zSz, zSs]
          refine wpT 11 ?_ rfl (by kernel_rfl) (by kernel_rfl) (by kernel_rfl) (fun _ _ _ h => h) (by rfl) ?_ hHeld ?_
          rotate_left 1
          · (intro W hSw; (try dsimp only at hSw); have hcc := ((HRB.out.below hSw).retry).trans (by rw [HB_retry.out]); go_simp; try with_reducible rfl)
          try simp only [Act.put, zSa, zSz, zSs]
          refine wpT 12 ?_ rfl (by kernel_rfl) (by kernel_rfl) (by kernel_rfl) (fun _ _ _ h => h) (by rfl) ?_ hHeld ?_
          rotate_left 1
          · (intro W hSw; (try dsimp only at hSw); go_simp; try with_reducible rfl)
          try simp only [Act.put, zSa, zSz, zSs]
          refine wpU 13 rfl (by kernel_rfl) (by kernel_rfl) (by kernel_rfl) (fun _ _ _ h => h) (by rfl) hHeld ?_
          try simp only [Act.put, zSa, zSz, zSs]
          refine wpU 14 rfl (by kernel_rfl) (by kernel_rfl) (by kernel_rfl) (fun _ _ _ h => h) (by rfl) hHeld ?_
          try simp only [Act.put, zSa, zSz, zSs]
          refine wpU 15 rfl (by kernel_rfl) (by kernel_rfl) (by kernel_rfl) (fun _ _ _ h => h) (by rfl) hHeld ?_
          try simp only [Act.put, zSa, zSz, zSs]
          refine wpU 16 rfl (by kernel_rfl) (by kernel_rfl) (by kernel_rfl) (fun _ _ _ h => h) (by rfl) hHeld ?_
          try simp only [Act.put, zSa, zSz, zSs]
          refine wpU 17 rfl (by kernel_rfl) (by kernel_rfl) (by kernel_rfl) (fun _ _ _ h => h) (by rfl) hHeld ?_
          try simp only [Act.put, zSa, zSz, zSs]
          refine wpU 18 rfl (by kernel_rfl) (by kernel_rfl) (by kernel_rfl) (fun _ _ _ h => h) (by rfl) hHeld ?_
          try simp only [Act.put, zSa, zSz, zSs]
          refine wpU 19 rfl (by kernel_rfl) (by kernel_rfl) (by kernel_rfl) (fun _ _ _ h => h) (by rfl) hHeld ?_
          try simp only [Act.put, zSa, zSz, zSs]
          refine wpU 20 rfl (by kernel_rfl) (by kernel_rfl) (by kernel_rfl) (fun _ _ _ h => h) (by rfl) hHeld ?_
          try simp only [Act.put, zSa, zSz, zSs]
          refine wpU 21 rfl (by kernel_rfl) (by kernel_rfl) (by kernel_rfl) (fun _ _ _ h => h) (by rfl) hHeld ?_
          try simp only [Act.put, zSa, zSz, zSs]
          refine wpU 22 rfl (by kernel_rfl) (by kernel_rfl) (by kernel_rfl) (fun _ _ _ h => h) (by rfl) hHeld ?_
          try simp only [Act.put, zSa, zSz, zSs]
          refine wpU 23 rfl (by kernel_rfl) (by kernel_rfl) (by kernel_rfl) (fun _ _ _ h => h) (by rfl) hHeld ?_
          try simp only [Act.put, zSa, zSz, zSs]
          refine wpU 24 rfl (by kernel_rfl) (by kernel_rfl) (by kernel_rfl) (fun _ _ _ h => h) (by rfl) hHeld ?_
          try simp only [Act.put, zSa, zSz, zSs]
          refine wpU 25 rfl (by kernel_rfl) (by kernel_rfl) (by kernel_rfl) (fun _ _ _ h => h) (by rfl) hHeld ?_
          try simp only [Act.put, zSa, zSz, zSs]
          refine wpT 26 ?_ rfl (by kernel_rfl) (by kernel_rfl) (by kernel_rfl) (fun _ _ _ h => h) (by rfl) ?_ hHeld ?_
          rotate_left 1
          · (intro W hSw; (try dsimp only at hSw); go_simp; try with_reducible rfl)
          try simp only [Act.put, zSa, zSz, zSs]
          refine wpT 27 ?_ rfl (by kernel_rfl) (by kernel_rfl) (by kernel_rfl) (fun _ _ _ h => h) (by rfl) ?_ hHeld ?_
          rotate_left 1
          · (intro W hSw; (try dsimp only at hSw); go_simp; try with_reducible rfl)
          try simp only [Act.put, zSa, zSz, zSs]
          refine wpT 28 ?_ rfl (by kernel_rfl) (by kernel_rfl) (by kernel_rfl) (fun _ _ _ h => h) (by rfl) ?_ hHeld ?_
          rotate_left 1
          · (intro W hSw; (try dsimp only at hSw); go_simp; try with_reducible rfl)
          try simp only [Act.put, zSa, zSz, zSs]
          refine wpT 29 ?_ rfl (by kernel_rfl) (by kernel_rfl) (by kernel_rfl) (fun _ _ _ h => h) (by rfl) ?_ hHeld ?_
          rotate_left 1
          · (intro W hSw; (try dsimp only at hSw); go_simp; try with_reducible rfl)
          try simp only [Act.put, zSa, zSz, zSs]
          refine wpT 30 ?_ rfl (by kernel_rfl) (by kernel_rfl) (by kernel_rfl) (fun _ _ _ h => h) (by rfl) ?_ hHeld ?_
          rotate_left 1
          · (intro W hSw; (try dsimp only at hSw); have hcc := ((HRB.out.below hSw).retry).trans (by rw [HB_retry.out]); go_simp; try with_reducible rfl)
          try simp only [Act.put, zSa, zSz, zSs]
          refine wpT 31 ?_ rfl (by kernel_rfl) (by kernel_rfl) (by kernel_rfl) (fun _ _ _ h => h) (by rfl) ?_ hHeld ?_
          rotate_left 1
          · (intro W hSw; (try dsimp only at hSw); go_simp; try with_reducible rfl)
          try simp only [Act.put, zSa, zSz, zSs]
          refine wpT 32 ?_ rfl (by kernel_rfl) (by kernel_rfl) (by kernel_rfl) (fun _ _ _ h => h) (by rfl) ?_ hHeld ?_
          rotate_left 1
          · (intro W hSw; (try dsimp only at hSw); go_simp; try with_reducible rfl)
          try simp only [Act.put, zSa, zSz, zSs]
          refine wpT 33 ?_ rfl (by kernel_rfl) (by kernel_rfl) (by kernel_rfl) (fun _ _ _ h => h) (by rfl) ?_ hHeld ?_
          rotate_left 1
          · (intro W hSw; (try dsimp only at hSw); go_simp; try with_reducible rfl)
          try simp only [Act.put, zSa, zSz, zSs]
          refine wpT 34 ?_ rfl (by kernel_rfl) (by kernel_rfl) (by kernel_rfl) (fun _ _ _ h => h) (by rfl) ?_ hHeld ?_
          rotate_left 1
          · (intro W hSw; (try dsimp only at hSw); have hcc := (HRB.out.below hSw).sha; go_simp; try with_reducible rfl)
          try simp only [Act.put, zSa, zSz, zSs]
          refine wpT 35 ?_ rfl (by kernel_rfl) (by kernel_rfl) (by kernel_rfl) (fun _ _ _ h => h) (by rfl) ?_ hHeld ?_
          rotate_left 1
          · (intro W hSw; (try dsimp only at hSw); have hsz := HZ_sha.out; go_simp; try with_reducible rfl)
          try simp only [Act.put, zSa, zSz, zSs]
          refine wpT 36 ?_ rfl (by kernel_rfl) (by kernel_rfl) (by kernel_rfl) (fun _ _ _ h => h) (by rfl) ?_ hHeld ?_
          rotate_left 1
          · (intro W hSw; (try dsimp only at hSw); have hd := HV_shane65.out.1; have hdn := HV_shane65.out.2.1; have hq := HV_shane65.out.2.2.1; have hqn := HV_shane65.out.2.2.2; go_simp; try with_reducible rfl)
          try simp only [Act.put, zSa, zSz, zSs]
          refine wpT 37 ?_ rfl (by kernel_rfl) (by kernel_rfl) (by kernel_rfl) (fun _ _ _ h => h) (by rfl) ?_ hHeld ?_
          rotate_left 1
          · (intro W hSw; (try dsimp only at hSw); go_simp; try with_reducible rfl)
          try simp only [Act.put, zSa, zSz, zSs]
          refine wpU 38 rfl (by kernel_rfl) (by kernel_rfl) (by kernel_rfl) (fun _ _ _ h => h) (by rfl) hHeld ?_
          try simp only [Act.put, zSa, zSz, zSs]
          refine wpU 39 rfl (by kernel_rfl) (by kernel_rfl) (by kernel_rfl) (fun _ _ _ h => h) (by rfl) hHeld ?_
          try simp only [Act.put, zSa, zSz, zSs]
          refine wpU 40 rfl (by kernel_rfl) (by kernel_rfl) (by kernel_rfl) (fun _ _ _ h => h) (by rfl) hHeld ?_
          try simp only [Act.put, zSa, zSz, zSs]
          refine wpU 41 rfl (by kernel_rfl) (by kernel_rfl) (by kernel_rfl) (fun _ _ _ h => h) (by rfl) hHeld ?_
          try simp only [Act.put, zSa, zSz, zSs]
          refine wpT 42 ?_ rfl (by kernel_rfl) (by kernel_rfl) (by kernel_rfl) (fun _ _ _ h => h) (by rfl) ?_ hHeld ?_
          rotate_left 1
          · (intro W hSw; (try dsimp only at hSw); go_simp; try with_reducible rfl)
          try simp only [Act.put, zSa, zSz, zSs]
          refine wpT 43 ?_ rfl (by kernel_rfl) (by kernel_rfl) (by kernel_rfl) (fun _ _ _ h => h) (by rfl) ?_ hHeld ?_
          rotate_left 1
          · (intro W hSw; (try dsimp only at hSw); go_simp; try with_reducible rfl)
          try simp only [Act.put, zSa, zSz, zSs]
          refine wpT 44 ?_ rfl (by kernel_rfl) (by kernel_rfl) (by kernel_rfl) (fun _ _ _ h => h) (by rfl) ?_ hHeld ?_
          rotate_left 1
          · (intro W hSw; (try dsimp only at hSw); go_simp; try with_reducible rfl)
          try simp only [Act.put, zSa, zSz, zSs]
          refine wpAnyH_done (by kernel_rfl) ?_ _
          refine NoPanic.normal ?_
          have hbe := HB1.out.trans ((HBB.out.trans (hHeld.mono HBB.out.size)).mono HB1.out.size)
          go_wp2
          go_ret2
          have hF : formM m = false := by rw [rform_2 HK.out HB_retry.out, HBF.out, decide_eq_true (show m.ses.length ≤ 32 by have := HC_sesgt32.out; omega), decide_eq_false (show ¬ (m.sha.length = 65) by have := HC_shane65.out; omega)]; rfl
          exact ⟨[], by rw [hF]; rfl, fun hf => absurd hf (by rw [hF]; decide), hbe⟩
end Go.Proofs.YtagblbfbjemfhaaDoor
