/-
  The reference's Body: the kind 1, with a ticket.
-/
import Derived.Test.YtagblbfbjemfhaaDoorJw
namespace Go.Proofs.YtagblbfbjemfhaaDoor
open Go.RowKit
open HelloMath (Msg zero32 some8 special formM bodyM okM fitM okF sized wide numB numB_length vecB vecB_length ticketB clientB serverB sharesB offeredB abil chainB)

theorem rform_1p {m : Msg} (hk : m.kind = 1) (hp : m.psk = true) : formM m = (bareM ({ m with rnd := zero32, ses := [], sha := [], psk := false, tic := [], age := 0, mark := zero32 }) && (decide (m.ses.length ≤ 32) && ((decide (m.sha.length = 0) || decide (m.sha.length = 65)) && (((decide (1 ≤ m.tic.length) && decide (m.tic.length ≤ 1000))) && wide m.age)))) := by
  unfold formM okM fitM okF bareM sized
  rw [hk, hp]
  simp [some8, bne, Bool.and_assoc, Bool.and_comm, Bool.and_left_comm]
set_option maxRecDepth 100000 in
set_option maxHeartbeats 40000000 in
theorem rbody_1p (m : Msg) (cs : List Value) (w : World) (h : RIn w m cs) (hs : Small m) (hk : m.kind = 1) (hp : m.psk = true) : Calls Tryd.prog 24 #[.agg cs.toArray] w (BodyP m w) := by
  have HL := Lib.hid h.1
  have HS := Lib.hid hs
  have HK := Lib.hid hk
  have HB_psk := Lib.hid hp
  clear hp
  clear hs hk
  go_enter Tryd.func24, Tryd.ntmps24
  go_upto_region 0 with (fail)
  refine wp_region_lit ?_
  refine wpList_plain rfl (fun K hK => ?_)
  go_simp
  refine hK _ _ ?_
  clear hK K
  have hb1 : Below w.heap.size w (w.alloc (.cells cs.toArray 25)) := (Below.refl _ _).alloc (Nat.le_refl _) _
  have b1 := Blk.new w 25 cs
  have hr1 := h.below hb1
  clear h
  obtain ⟨g1, hg1⟩ : ∃ g, g = w.heap.size := ⟨_, rfl⟩
  rw [← hg1] at b1
  simp only [← hg1]
  clear hg1
  generalize w.alloc (.cells cs.toArray 25) = w1 at *
  try simp only [Act.put, zSa, zSz, zSs]
  refine wpList_plain rfl (fun K hK => ?_)
  go_simp
  refine hK _ _ ?_
  clear hK K
  try simp only [Act.put, zSa, zSz, zSs]
  refine wpList_plain rfl (fun K hK => ?_)
  go_simp
  refine hK _ _ ?_
  clear hK K
  try simp only [Act.put, zSa, zSz, zSs]
  go_upto_region 1 with (fail)
  refine wp_region_lit ?_
  refine wpList_load_mid rfl 25 (.tmp 1) rfl g1 0 rfl cs _ (rangeAt_of_blk b1) Tryd.underlying25 rfl (infoR.trans (by rw [hr1.len])) ?_
  try simp only [Act.put, zSa, zSz, zSs]
  refine wpList_new_blk rfl 25 rfl _ zeroR ?_
  intro g4 w2 hg4 b4 hb2
  try simp only [Act.put, zSa, zSz, zSs]
  refine wpList_store_blk rfl 25 (.tmp 4) (.tmp 11) rfl rfl g4 cs rfl rfl _ _ b4 (infoR.trans (by rw [hr1.len])) (by rw [hr1.len]; rfl) hr1.one ?_
  intro w3 b43 hg3
  try simp only [Act.put, zSa, zSz, zSs]
  have HG4 := Lib.hid (Nat.le_of_eq hg4.symm)
  have hbx : Below w1.heap.size w1 w3 := hb2.trans (grown_below hg3 HG4.out hb2.size)
  have HM := Lib.hid (show RAt w1 g1 m from ⟨cs, b1, hr1⟩)
  have HB1 := Lib.hid hb1
  obtain ⟨-, vc, hcs, hsr⟩ := hr1
  have HSR := Lib.hid hsr
  simp only [hcs] at b43 ⊢
  clear hb1 b1 hg4 b4 hb2 hg3 hsr hcs
  have hcc := (HM.out.below hbx).kind
  rw [HK.out] at hcc
  go_upto_region 3 with (fail)
  clear hcc
  go_upto_region 4 with (fail)
  refine wp_region_lit ?_
  refine wpList_plain rfl (fun K hK => wp_builtV 22 _ rfl [] rfl (zero32.map B8).toArray built32_0 (hK _ _ ?_))
  clear hK K
  try simp only [Act.put, zSa, zSz, zSs]
  refine wpList_plain rfl (fun K hK => ?_)
  go_simp
  refine hK _ _ ?_
  clear hK K
  try simp only [Act.put, zSa, zSz, zSs]
  refine wpList_store_part rfl 22 (.tmp 17) (.tmp 16) rfl rfl g4 1 (zero32.map B8) rfl rfl _ _ b43 (info40.trans rfl) (by rw [len_rC (m := m) HL.out]; decide) (fun v hv => by obtain ⟨x, _, rfl⟩ := List.mem_map.1 hv; rfl) ?_
  intro wx1 bx1 hgs
  rw [rC_splR (m := m) HL.out rfl] at bx1
  obtain ⟨mx1, hmx1⟩ : ∃ y, y = { m with rnd := zero32 } := ⟨_, rfl⟩
  rw [← hmx1] at bx1
  have hlmx1 : mx1.rnd.length = 32 ∧ mx1.mark.length = 32 := by rw [hmx1]; exact ⟨rfl, (HL.out).2⟩
  try simp only [Act.put, zSa, zSz, zSs]
  replace hbx := hbx.trans (grown_below hgs HG4.out hbx.size)
  clear hgs b43
  refine wpList_plain rfl (fun K hK => ?_)
  go_simp
  refine hK _ _ ?_
  clear hK K
  try simp only [Act.put, zSa, zSz, zSs]
  refine wpList_store_one rfl 9 (.tmp 18) _ rfl rfl g4 65 (TX []) rfl rfl rfl _ _ bx1 (by kernel_rfl) (by rw [len_rC (m := mx1) hlmx1]; decide) rfl ?_
  intro wx2 bx2 hgs
  rw [rC_ses (m := mx1) hlmx1] at bx2
  obtain ⟨mx2, hmx2⟩ : ∃ y, y = { mx1 with ses := [] } := ⟨_, rfl⟩
  rw [← hmx2] at bx2
  have hlmx2 : mx2.rnd.length = 32 ∧ mx2.mark.length = 32 := by rw [hmx2]; exact hlmx1
  try simp only [Act.put, zSa, zSz, zSs]
  replace hbx := hbx.trans (grown_below hgs HG4.out hbx.size)
  clear hgs bx1
  refine wpList_plain rfl (fun K hK => ?_)
  go_simp
  refine hK _ _ ?_
  clear hK K
  try simp only [Act.put, zSa, zSz, zSs]
  refine wpList_store_one rfl 9 (.tmp 19) _ rfl rfl g4 66 (TX []) rfl rfl rfl _ _ bx2 (by kernel_rfl) (by rw [len_rC (m := mx2) hlmx2]; decide) rfl ?_
  intro wx3 bx3 hgs
  rw [rC_sha (m := mx2) hlmx2] at bx3
  obtain ⟨mx3, hmx3⟩ : ∃ y, y = { mx2 with sha := [] } := ⟨_, rfl⟩
  rw [← hmx3] at bx3
  have hlmx3 : mx3.rnd.length = 32 ∧ mx3.mark.length = 32 := by rw [hmx3]; exact hlmx2
  try simp only [Act.put, zSa, zSz, zSs]
  replace hbx := hbx.trans (grown_below hgs HG4.out hbx.size)
  clear hgs bx2
  refine wpList_plain rfl (fun K hK => ?_)
  go_simp
  refine hK _ _ ?_
  clear hK K
  try simp only [Act.put, zSa, zSz, zSs]
  refine wpList_store_one rfl 4 (.tmp 20) _ rfl rfl g4 73 (.bool false) rfl rfl rfl _ _ bx3 (by kernel_rfl) (by rw [len_rC (m := mx3) hlmx3]; decide) rfl ?_
  intro wx4 bx4 hgs
  rw [rC_psk (m := mx3) hlmx3] at bx4
  obtain ⟨mx4, hmx4⟩ : ∃ y, y = { mx3 with psk := false } := ⟨_, rfl⟩
  rw [← hmx4] at bx4
  have hlmx4 : mx4.rnd.length = 32 ∧ mx4.mark.length = 32 := by rw [hmx4]; exact hlmx3
  try simp only [Act.put, zSa, zSz, zSs]
  replace hbx := hbx.trans (grown_below hgs HG4.out hbx.size)
  clear hgs bx3
  have hxm : mx4 = { m with rnd := zero32, ses := [], sha := [], psk := false } := by subst hmx1 hmx2 hmx3 hmx4; rfl
  have HXM4 := Lib.hid hxm
  have HXL4 := Lib.hid hlmx4
  have HXC4 := Lib.hid (show mx4.certs = m.certs by rw [hxm])
  clear hxm hmx1 hmx2 hmx3 hmx4 hlmx1 hlmx2 hlmx3 hlmx4
  have hcp := ((HM.out.below hbx).psk).trans (by rw [HB_psk.out])
  go_upto_region 6 with (fail)
  clear hcp
  refine wp_region_lit ?_
  refine wpList_plain rfl (fun K hK => wp_builtV 22 _ rfl [] rfl (zero32.map B8).toArray built32_0 (hK _ _ ?_))
  clear hK K
  try simp only [Act.put, zSa, zSz, zSs]
  refine wpList_plain rfl (fun K hK => ?_)
  go_simp
  refine hK _ _ ?_
  clear hK K
  try simp only [Act.put, zSa, zSz, zSs]
  refine wpList_store_one rfl 9 (.tmp 24) _ rfl rfl g4 67 (TX []) rfl rfl rfl _ _ bx4 (by kernel_rfl) (by rw [len_rC (m := mx4) HXL4.out]; decide) rfl ?_
  intro wx5 bx5 hgs
  rw [rC_tic (m := mx4) HXL4.out] at bx5
  obtain ⟨mx5, hmx5⟩ : ∃ y, y = { mx4 with tic := [] } := ⟨_, rfl⟩
  rw [← hmx5] at bx5
  have hlmx5 : mx5.rnd.length = 32 ∧ mx5.mark.length = 32 := by rw [hmx5]; exact HXL4.out
  try simp only [Act.put, zSa, zSz, zSs]
  replace hbx := hbx.trans (grown_below hgs HG4.out hbx.size)
  clear hgs bx4
  refine wpList_plain rfl (fun K hK => ?_)
  go_simp
  refine hK _ _ ?_
  clear hK K
  try simp only [Act.put, zSa, zSz, zSs]
  refine wpList_store_one rfl 3 (.tmp 25) _ rfl rfl g4 72 (.int .i64 0) rfl rfl rfl _ _ bx5 (by kernel_rfl) (by rw [len_rC (m := mx5) hlmx5]; decide) rfl ?_
  intro wx6 bx6 hgs
  rw [rC_age (m := mx5) hlmx5] at bx6
  obtain ⟨mx6, hmx6⟩ : ∃ y, y = { mx5 with age := 0 } := ⟨_, rfl⟩
  rw [← hmx6] at bx6
  have hlmx6 : mx6.rnd.length = 32 ∧ mx6.mark.length = 32 := by rw [hmx6]; exact hlmx5
  try simp only [Act.put, zSa, zSz, zSs]
  replace hbx := hbx.trans (grown_below hgs HG4.out hbx.size)
  clear hgs bx5
  refine wpList_plain rfl (fun K hK => ?_)
  go_simp
  refine hK _ _ ?_
  clear hK K
  try simp only [Act.put, zSa, zSz, zSs]
  refine wpList_store_part rfl 22 (.tmp 26) (.tmp 23) rfl rfl g4 33 (zero32.map B8) rfl rfl _ _ bx6 (info40.trans rfl) (by rw [len_rC (m := mx6) hlmx6]; decide) (fun v hv => by obtain ⟨x, _, rfl⟩ := List.mem_map.1 hv; rfl) ?_
  intro wx7 bx7 hgs
  rw [rC_splK (m := mx6) hlmx6 rfl] at bx7
  obtain ⟨mx7, hmx7⟩ : ∃ y, y = { mx6 with mark := zero32 } := ⟨_, rfl⟩
  rw [← hmx7] at bx7
  have hlmx7 : mx7.rnd.length = 32 ∧ mx7.mark.length = 32 := by rw [hmx7]; exact ⟨(hlmx6).1, rfl⟩
  try simp only [Act.put, zSa, zSz, zSs]
  replace hbx := hbx.trans (grown_below hgs HG4.out hbx.size)
  clear hgs bx6
  have hxm : mx7 = { m with rnd := zero32, ses := [], sha := [], psk := false, tic := [], age := 0, mark := zero32 } := by have h0 := HXM4.out; subst h0; subst hmx5 hmx6 hmx7; rfl
  have HXM7 := Lib.hid hxm
  have HXL7 := Lib.hid hlmx7
  have HXC7 := Lib.hid (show mx7.certs = m.certs by rw [hxm])
  clear hxm hmx5 hmx6 hmx7 hlmx5 hlmx6 hlmx7
  obtain ⟨n_ses, hn_ses⟩ : ∃ n, m.ses.length = n := ⟨_, rfl⟩
  have HZ_ses := Lib.hid (show (⟨m.ses.toArray⟩ : ByteArray).size = n_ses from hn_ses)
  have HN_ses := Lib.hid hn_ses
  clear hn_ses
  obtain ⟨n_sha, hn_sha⟩ : ∃ n, m.sha.length = n := ⟨_, rfl⟩
  have HZ_sha := Lib.hid (show (⟨m.sha.toArray⟩ : ByteArray).size = n_sha from hn_sha)
  have HN_sha := Lib.hid hn_sha
  clear hn_sha
  obtain ⟨n_tic, hn_tic⟩ : ∃ n, m.tic.length = n := ⟨_, rfl⟩
  have HZ_tic := Lib.hid (show (⟨m.tic.toArray⟩ : ByteArray).size = n_tic from hn_tic)
  have HN_tic := Lib.hid hn_tic
  clear hn_tic
  have hcp := ((HM.out.below hbx).psk).trans (by rw [HB_psk.out])
  go_upto_region 7 with (fail)
  clear hcp
  cases hbv : bareM ({ m with rnd := zero32, ses := [], sha := [], psk := false, tic := [], age := 0, mark := zero32 }) with
  | false =>
    have HBF := Lib.hid hbv
    have HBARE := Lib.hid (show bareM mx7 = false by rw [HXM7.out]; exact hbv)
    clear hbv
    as_aux_lemma =>
      refine wp_region_lit ?_
      refine wpList_load_mid rfl 25 (.tmp 4) rfl g4 0 rfl (rC mx7 vc) _ (rangeAt_of_blk bx7) Tryd.underlying25 rfl (infoR.trans (by rw [len_rC (m := mx7) HXL7.out])) ?_
      try simp only [Act.put, zSa, zSz, zSs]
      refine wpList_plain rfl (fun K hK0 => ?_)
      have hK := Lib.hid hK0
      clear hK0
      go_simp
      go_at_call 39
      refine (bare_e mx7 (rC mx7 vc) _ ⟨HXL7.out, vc, rfl, by rw [HXC7.out]; exact HSR.out.below hbx⟩).mono ?_
      rintro e w9 ⟨rfl, hb9⟩
      try go_wp2_with fail
      refine hK.out _ _ ?_
      clear hK K
      try simp only [Act.put, zSa, zSz, zSs]
      replace hbx := hbx.trans (hb9.mono hbx.size)
      have bx9 := bx7.below hb9 bx7.lt
      clear hb9 bx7
      rw [HBARE.out]
      have c_psk := ((HM.out.below hbx).psk).trans (by rw [HB_psk.out])
      have c_ses := (HM.out.below hbx).ses
      have c_sha := (HM.out.below hbx).sha
      have c_tic := (HM.out.below hbx).tic
      have c_age := (HM.out.below hbx).age
      have hz_ses := HZ_ses.out
      have hz_sha := HZ_sha.out
      have hz_tic := HZ_tic.out
      go_wp2_with (first
          | (go_at_call 40; refine (rwide_e m.age _).mono ?_; rintro e wz ⟨rfl, hww⟩; have hw2 := hww.symm; subst hw2; rw [HW_age.out]))
      go_ret2
      have hF : formM m = false := by rw [rform_1p HK.out HB_psk.out, HBF.out]; rfl
      exact ⟨[], by rw [hF]; rfl, fun hf => absurd hf (by rw [hF]; decide), HB1.out.trans (hbx.mono HB1.out.size)⟩
  | true =>
    have HBF := Lib.hid hbv
    have HBARE := Lib.hid (show bareM mx7 = true by rw [HXM7.out]; exact hbv)
    clear hbv
    by_cases hc : 32 < m.ses.length
    · have HC_sesgt32 := Lib.hid hc
      have HV_sesgt32 := Lib.hid (show decide ((32 : Int) < (n_ses : Int)) = true ∧ decide (32 < n_ses) = true from ⟨decide_eq_true (by have h1 := HN_ses.out; have h2 := HC_sesgt32.out; omega), decide_eq_true (by have h1 := HN_ses.out; have h2 := HC_sesgt32.out; omega)⟩)
      clear hc
      as_aux_lemma =>
        refine wp_region_lit ?_
        refine wpList_load_mid rfl 25 (.tmp 4) rfl g4 0 rfl (rC mx7 vc) _ (rangeAt_of_blk bx7) Tryd.underlying25 rfl (infoR.trans (by rw [len_rC (m := mx7) HXL7.out])) ?_
        try simp only [Act.put, zSa, zSz, zSs]
        refine wpList_plain rfl (fun K hK0 => ?_)
        have hK := Lib.hid hK0
        clear hK0
        go_simp
        go_at_call 39
        refine (bare_e mx7 (rC mx7 vc) _ ⟨HXL7.out, vc, rfl, by rw [HXC7.out]; exact HSR.out.below hbx⟩).mono ?_
        rintro e w9 ⟨rfl, hb9⟩
        try go_wp2_with fail
        refine hK.out _ _ ?_
        clear hK K
        try simp only [Act.put, zSa, zSz, zSs]
        replace hbx := hbx.trans (hb9.mono hbx.size)
        have bx9 := bx7.below hb9 bx7.lt
        clear hb9 bx7
        rw [HBARE.out]
        have c_psk := ((HM.out.below hbx).psk).trans (by rw [HB_psk.out])
        have c_ses := (HM.out.below hbx).ses
        have c_sha := (HM.out.below hbx).sha
        have c_tic := (HM.out.below hbx).tic
        have c_age := (HM.out.below hbx).age
        have hz_ses := HZ_ses.out
        have hz_sha := HZ_sha.out
        have hz_tic := HZ_tic.out
        have hv_sesgt32 := HV_sesgt32.out.1
        have hw_sesgt32 := HV_sesgt32.out.2
        go_wp2_with (first
            | (go_at_call 40; refine (rwide_e m.age _).mono ?_; rintro e wz ⟨rfl, hww⟩; have hw2 := hww.symm; subst hw2; rw [HW_age.out]))
        go_ret2
        have hF : formM m = false := by rw [rform_1p HK.out HB_psk.out, HBF.out, decide_eq_false (show ¬ (m.ses.length ≤ 32) by have := HC_sesgt32.out; omega)]; rfl
        exact ⟨[], by rw [hF]; rfl, fun hf => absurd hf (by rw [hF]; decide), HB1.out.trans (hbx.mono HB1.out.size)⟩
    · have HC_sesgt32 := Lib.hid hc
      have HV_sesgt32 := Lib.hid (show decide ((32 : Int) < (n_ses : Int)) = false ∧ decide (32 < n_ses) = false from ⟨decide_eq_false (by have h1 := HN_ses.out; have h2 := HC_sesgt32.out; omega), decide_eq_false (by have h1 := HN_ses.out; have h2 := HC_sesgt32.out; omega)⟩)
      clear hc
      by_cases hc : m.sha.length = 0
      · have HC_shane0 := Lib.hid hc
        have HV_shane0 := Lib.hid (show decide ((n_sha : Int) = (0 : Int)) = true ∧ decide (n_sha = 0) = true ∧ (((n_sha : Int) != (0 : Int)) = false ∧ (n_sha != 0) = false) from ⟨decide_eq_true (by have h1 := HN_sha.out; have h2 := HC_shane0.out; omega), decide_eq_true (by have h1 := HN_sha.out; have h2 := HC_shane0.out; omega), bne_eq_false_iff_eq.2 (by have h1 := HN_sha.out; have h2 := HC_shane0.out; omega), bne_eq_false_iff_eq.2 (by have h1 := HN_sha.out; have h2 := HC_shane0.out; omega)⟩)
        clear hc
        by_cases hc : m.tic.length < 1
        · have HC_ticlt1 := Lib.hid hc
          have HV_ticlt1 := Lib.hid (show decide ((n_tic : Int) < (1 : Int)) = true ∧ decide (n_tic < 1) = true from ⟨decide_eq_true (by have h1 := HN_tic.out; have h2 := HC_ticlt1.out; omega), decide_eq_true (by have h1 := HN_tic.out; have h2 := HC_ticlt1.out; omega)⟩)
          clear hc
          as_aux_lemma =>
            refine wp_region_lit ?_
            refine wpList_load_mid rfl 25 (.tmp 4) rfl g4 0 rfl (rC mx7 vc) _ (rangeAt_of_blk bx7) Tryd.underlying25 rfl (infoR.trans (by rw [len_rC (m := mx7) HXL7.out])) ?_
            try simp only [Act.put, zSa, zSz, zSs]
            refine wpList_plain rfl (fun K hK0 => ?_)
            have hK := Lib.hid hK0
            clear hK0
            go_simp
            go_at_call 39
            refine (bare_e mx7 (rC mx7 vc) _ ⟨HXL7.out, vc, rfl, by rw [HXC7.out]; exact HSR.out.below hbx⟩).mono ?_
            rintro e w9 ⟨rfl, hb9⟩
            try go_wp2_with fail
            refine hK.out _ _ ?_
            clear hK K
            try simp only [Act.put, zSa, zSz, zSs]
            replace hbx := hbx.trans (hb9.mono hbx.size)
            have bx9 := bx7.below hb9 bx7.lt
            clear hb9 bx7
            rw [HBARE.out]
            have c_psk := ((HM.out.below hbx).psk).trans (by rw [HB_psk.out])
            have c_ses := (HM.out.below hbx).ses
            have c_sha := (HM.out.below hbx).sha
            have c_tic := (HM.out.below hbx).tic
            have c_age := (HM.out.below hbx).age
            have hz_ses := HZ_ses.out
            have hz_sha := HZ_sha.out
            have hz_tic := HZ_tic.out
            have hv_sesgt32 := HV_sesgt32.out.1
            have hw_sesgt32 := HV_sesgt32.out.2
            have hv_shane0 := HV_shane0.out.1
            have hw_shane0 := HV_shane0.out.2.1
            have hx_shane0 := HV_shane0.out.2.2.1
            have hy_shane0 := HV_shane0.out.2.2.2
            have hv_ticlt1 := HV_ticlt1.out.1
            have hw_ticlt1 := HV_ticlt1.out.2
            go_wp2_with (first
                | (go_at_call 40; refine (rwide_e m.age _).mono ?_; rintro e wz ⟨rfl, hww⟩; have hw2 := hww.symm; subst hw2; rw [HW_age.out]))
            go_ret2
            have hF : formM m = false := by rw [rform_1p HK.out HB_psk.out, HBF.out, decide_eq_true (show m.ses.length ≤ 32 by have := HC_sesgt32.out; omega), decide_eq_true (show m.sha.length = 0 by have := HC_shane0.out; omega), decide_eq_false (show ¬ (1 ≤ m.tic.length) by have := HC_ticlt1.out; omega)]; rfl
            exact ⟨[], by rw [hF]; rfl, fun hf => absurd hf (by rw [hF]; decide), HB1.out.trans (hbx.mono HB1.out.size)⟩
        · have HC_ticlt1 := Lib.hid hc
          have HV_ticlt1 := Lib.hid (show decide ((n_tic : Int) < (1 : Int)) = false ∧ decide (n_tic < 1) = false from ⟨decide_eq_false (by have h1 := HN_tic.out; have h2 := HC_ticlt1.out; omega), decide_eq_false (by have h1 := HN_tic.out; have h2 := HC_ticlt1.out; omega)⟩)
          clear hc
          by_cases hc : 1000 < m.tic.length
          · have HC_ticgt1000 := Lib.hid hc
            have HV_ticgt1000 := Lib.hid (show decide ((1000 : Int) < (n_tic : Int)) = true ∧ decide (1000 < n_tic) = true from ⟨decide_eq_true (by have h1 := HN_tic.out; have h2 := HC_ticgt1000.out; omega), decide_eq_true (by have h1 := HN_tic.out; have h2 := HC_ticgt1000.out; omega)⟩)
            clear hc
            as_aux_lemma =>
              refine wp_region_lit ?_
              refine wpList_load_mid rfl 25 (.tmp 4) rfl g4 0 rfl (rC mx7 vc) _ (rangeAt_of_blk bx7) Tryd.underlying25 rfl (infoR.trans (by rw [len_rC (m := mx7) HXL7.out])) ?_
              try simp only [Act.put, zSa, zSz, zSs]
              refine wpList_plain rfl (fun K hK0 => ?_)
              have hK := Lib.hid hK0
              clear hK0
              go_simp
              go_at_call 39
              refine (bare_e mx7 (rC mx7 vc) _ ⟨HXL7.out, vc, rfl, by rw [HXC7.out]; exact HSR.out.below hbx⟩).mono ?_
              rintro e w9 ⟨rfl, hb9⟩
              try go_wp2_with fail
              refine hK.out _ _ ?_
              clear hK K
              try simp only [Act.put, zSa, zSz, zSs]
              replace hbx := hbx.trans (hb9.mono hbx.size)
              have bx9 := bx7.below hb9 bx7.lt
              clear hb9 bx7
              rw [HBARE.out]
              have c_psk := ((HM.out.below hbx).psk).trans (by rw [HB_psk.out])
              have c_ses := (HM.out.below hbx).ses
              have c_sha := (HM.out.below hbx).sha
              have c_tic := (HM.out.below hbx).tic
              have c_age := (HM.out.below hbx).age
              have hz_ses := HZ_ses.out
              have hz_sha := HZ_sha.out
              have hz_tic := HZ_tic.out
              have hv_sesgt32 := HV_sesgt32.out.1
              have hw_sesgt32 := HV_sesgt32.out.2
              have hv_shane0 := HV_shane0.out.1
              have hw_shane0 := HV_shane0.out.2.1
              have hx_shane0 := HV_shane0.out.2.2.1
              have hy_shane0 := HV_shane0.out.2.2.2
              have hv_ticlt1 := HV_ticlt1.out.1
              have hw_ticlt1 := HV_ticlt1.out.2
              have hv_ticgt1000 := HV_ticgt1000.out.1
              have hw_ticgt1000 := HV_ticgt1000.out.2
              go_wp2_with (first
                  | (go_at_call 40; refine (rwide_e m.age _).mono ?_; rintro e wz ⟨rfl, hww⟩; have hw2 := hww.symm; subst hw2; rw [HW_age.out]))
              go_ret2
              have hF : formM m = false := by rw [rform_1p HK.out HB_psk.out, HBF.out, decide_eq_true (show m.ses.length ≤ 32 by have := HC_sesgt32.out; omega), decide_eq_true (show m.sha.length = 0 by have := HC_shane0.out; omega), decide_eq_true (show 1 ≤ m.tic.length by have := HC_ticlt1.out; omega), decide_eq_false (show ¬ (m.tic.length ≤ 1000) by have := HC_ticgt1000.out; omega)]; rfl
              exact ⟨[], by rw [hF]; rfl, fun hf => absurd hf (by rw [hF]; decide), HB1.out.trans (hbx.mono HB1.out.size)⟩
          · have HC_ticgt1000 := Lib.hid hc
            have HV_ticgt1000 := Lib.hid (show decide ((1000 : Int) < (n_tic : Int)) = false ∧ decide (1000 < n_tic) = false from ⟨decide_eq_false (by have h1 := HN_tic.out; have h2 := HC_ticgt1000.out; omega), decide_eq_false (by have h1 := HN_tic.out; have h2 := HC_ticgt1000.out; omega)⟩)
            clear hc
            cases hw : HelloMath.wide m.age with
            | true =>
              have HW_age := Lib.hid hw
              clear hw
              as_aux_lemma =>
                have HE0 := Lib.hid (show m.sha = [] from List.eq_nil_of_length_eq_zero (by have := HC_shane0.out; omega))
                refine wp_region_lit ?_
                refine wpList_load_mid rfl 25 (.tmp 4) rfl g4 0 rfl (rC mx7 vc) _ (rangeAt_of_blk bx7) Tryd.underlying25 rfl (infoR.trans (by rw [len_rC (m := mx7) HXL7.out])) ?_
                try simp only [Act.put, zSa, zSz, zSs]
                refine wpList_plain rfl (fun K hK0 => ?_)
                have hK := Lib.hid hK0
                clear hK0
                go_simp
                go_at_call 39
                refine (bare_e mx7 (rC mx7 vc) _ ⟨HXL7.out, vc, rfl, by rw [HXC7.out]; exact HSR.out.below hbx⟩).mono ?_
                rintro e w9 ⟨rfl, hb9⟩
                try go_wp2_with fail
                refine hK.out _ _ ?_
                clear hK K
                try simp only [Act.put, zSa, zSz, zSs]
                replace hbx := hbx.trans (hb9.mono hbx.size)
                have bx9 := bx7.below hb9 bx7.lt
                clear hb9 bx7
                rw [HBARE.out]
                have c_psk := ((HM.out.below hbx).psk).trans (by rw [HB_psk.out])
                have c_ses := (HM.out.below hbx).ses
                have c_sha := (HM.out.below hbx).sha
                have c_tic := (HM.out.below hbx).tic
                have c_age := (HM.out.below hbx).age
                have hz_ses := HZ_ses.out
                have hz_sha := HZ_sha.out
                have hz_tic := HZ_tic.out
                have hv_sesgt32 := HV_sesgt32.out.1
                have hw_sesgt32 := HV_sesgt32.out.2
                have hv_shane0 := HV_shane0.out.1
                have hw_shane0 := HV_shane0.out.2.1
                have hx_shane0 := HV_shane0.out.2.2.1
                have hy_shane0 := HV_shane0.out.2.2.2
                have hv_ticlt1 := HV_ticlt1.out.1
                have hw_ticlt1 := HV_ticlt1.out.2
                have hv_ticgt1000 := HV_ticgt1000.out.1
                have hw_ticgt1000 := HV_ticgt1000.out.2
                go_upto_region 9 with (first
                    | (go_at_call 40; refine (rwide_e m.age _).mono ?_; rintro e wz ⟨rfl, hww⟩; have hw2 := hww.symm; subst hw2; rw [HW_age.out]))
                clear c_psk c_ses c_sha c_tic c_age hz_ses hz_sha hz_tic hv_sesgt32 hw_sesgt32 hv_shane0 hw_shane0 hx_shane0 hy_shane0 hv_ticlt1 hw_ticlt1 hv_ticgt1000 hw_ticgt1000
                have hcc : w9.cell? ⟨g1, 66, none⟩ = some (.string ⟨#[]⟩) := ((HM.out.below hbx).sha).trans (by rw [HE0.out])
                go_upto_region 12 with (fail)
                clear hcc
                refine wp_region_lit ?_
                refine wpList_plain rfl (fun K hK => ?_)
                go_simp
                refine hK _ _ ?_
                clear hK K
                try simp only [Act.put, zSa, zSz, zSs]
                refine wpList_plain rfl (fun K hK0 => ?_)
                have hK := Lib.hid hK0
                clear hK0
                go_simp
                go_at_call 25
                refine (vec_2 [] _ (by have h1 := (show ([] : List UInt8).length ≤ 0 by decide); omega)).mono ?_
                rintro e wv1 ⟨rfl, hb9⟩
                try go_wp2_with fail
                refine hK.out _ _ ?_
                clear hK K
                try simp only [Act.put, zSa, zSz, zSs]
                replace hbx := hbx.trans (hb9.mono hbx.size)
                replace bx9 := bx9.below hb9 bx9.lt
                clear hb9
                refine wpList_plain rfl (fun K hK0 => ?_)
                have hK := Lib.hid hK0
                clear hK0
                go_simp
                go_at_call 25
                refine (vec_2 (vecB 2 []) _ (by have h1 := (show (vecB 2 []).length ≤ 2 by rw [vecB_length]; have h0 := (show ([] : List UInt8).length ≤ 0 by decide); omega); omega)).mono ?_
                rintro e wv2 ⟨rfl, hb9⟩
                try go_wp2_with fail
                refine hK.out _ _ ?_
                clear hK K
                try simp only [Act.put, zSa, zSz, zSs]
                replace hbx := hbx.trans (hb9.mono hbx.size)
                replace bx9 := bx9.below hb9 bx9.lt
                clear hb9
                obtain ⟨s80, hs80⟩ : ∃ s : List UInt8, [0, 43, 0, 3, 2, 3, 4, 0, 10, 0, 4, 0, 2, 0, 23, 0, 13, 0, 4, 0, 2, 4, 3, 0, 51] ++ (vecB 2 (vecB 2 [])) = s := ⟨_, rfl⟩
                have HTL80 := Lib.hid (show s80.length ≤ 29 by rw [← hs80, List.length_append]; have h1 := (show ([0, 43, 0, 3, 2, 3, 4, 0, 10, 0, 4, 0, 2, 0, 23, 0, 13, 0, 4, 0, 2, 4, 3, 0, 51] : List UInt8).length ≤ 25 by decide); have h2 := (show (vecB 2 (vecB 2 [])).length ≤ 4 by rw [vecB_length]; have h0 := (show (vecB 2 []).length ≤ 2 by rw [vecB_length]; have h0 := (show ([] : List UInt8).length ≤ 0 by decide); omega); omega); omega)
                refine wpList_plain rfl (fun K hK => wp_catS (.const (.string { data := #[0, 43, 0, 3, 2, 3, 4, 0, 10, 0, 4, 0, 2, 0, 23, 0, 13, 0, 4, 0, 2, 4, 3, 0, 51] })) (.tmp 79) rfl ([0, 43, 0, 3, 2, 3, 4, 0, 10, 0, 4, 0, 2, 0, 23, 0, 13, 0, 4, 0, 2, 4, 3, 0, 51]) ((vecB 2 (vecB 2 []))) rfl rfl (by have h1 := (show ([0, 43, 0, 3, 2, 3, 4, 0, 10, 0, 4, 0, 2, 0, 23, 0, 13, 0, 4, 0, 2, 4, 3, 0, 51] : List UInt8).length ≤ 25 by decide); have h2 := (show (vecB 2 (vecB 2 [])).length ≤ 4 by rw [vecB_length]; have h0 := (show (vecB 2 []).length ≤ 2 by rw [vecB_length]; have h0 := (show ([] : List UInt8).length ≤ 0 by decide); omega); omega); omega) (hK _ _ ?_))
                clear hK K
                rw [hs80]
                have HT80 := Lib.hid hs80
                clear hs80
                try simp only [Act.put, zSa, zSz, zSs]
                refine wpList_plain rfl (fun K hK => ?_)
                go_simp
                refine hK _ _ ?_
                clear hK K
                try simp only [Act.put, zSa, zSz, zSs]
                have hcp := ((HM.out.below hbx).psk).trans (by rw [HB_psk.out])
                go_upto_region 14 with (fail)
                clear hcp
                have HRB := Lib.hid (HM.out.below hbx)
                have HXB := Lib.hid bx9
                have HSB := Lib.hid (HSR.out.below hbx)
                have HBB := Lib.hid hbx
                clear hbx bx9
                generalize hwB : wv2 = wB at *
                clear hwB
                obtain ⟨s84, hs84⟩ : ∃ s : List UInt8, s80 ++ [0, 45, 0, 2, 1, 1, 0, 41] = s := ⟨_, rfl⟩
                have HTL84 := Lib.hid (show s84.length ≤ 37 by rw [← hs84, List.length_append]; have h1 := HTL80.out; have h2 := (show ([0, 45, 0, 2, 1, 1, 0, 41] : List UInt8).length ≤ 8 by decide); omega)
                have HT84 := Lib.hid hs84
                clear hs84
                obtain ⟨s91, hs91⟩ : ∃ s : List UInt8, (vecB 2 m.tic) ++ (numB 4 m.age.toNat) = s := ⟨_, rfl⟩
                have HTL91 := Lib.hid (show s91.length ≤ 2106 by rw [← hs91, List.length_append]; have h1 := (show (vecB 2 m.tic).length ≤ 2102 by rw [vecB_length]; have h0 := HS.out.2.2.1; omega); have h2 := (show (numB 4 m.age.toNat).length ≤ 4 from Nat.le_of_eq (numB_length 4 _)); omega)
                have HT91 := Lib.hid hs91
                clear hs91
                obtain ⟨s93, hs93⟩ : ∃ s : List UInt8, (vecB 2 s91) ++ [0, 33, 32] = s := ⟨_, rfl⟩
                have HTL93 := Lib.hid (show s93.length ≤ 2111 by rw [← hs93, List.length_append]; have h1 := (show (vecB 2 s91).length ≤ 2108 by rw [vecB_length]; have h0 := HTL91.out; omega); have h2 := (show ([0, 33, 32] : List UInt8).length ≤ 3 by decide); omega)
                have HT93 := Lib.hid hs93
                clear hs93
                obtain ⟨s97, hs97⟩ : ∃ s : List UInt8, s93 ++ m.mark = s := ⟨_, rfl⟩
                have HTL97 := Lib.hid (show s97.length ≤ 2143 by rw [← hs97, List.length_append]; have h1 := HTL93.out; have h2 := Nat.le_of_eq HL.out.2; omega)
                have HT97 := Lib.hid hs97
                clear hs97
                obtain ⟨s99, hs99⟩ : ∃ s : List UInt8, s84 ++ (vecB 2 s97) = s := ⟨_, rfl⟩
                have HTL99 := Lib.hid (show s99.length ≤ 2182 by rw [← hs99, List.length_append]; have h1 := HTL84.out; have h2 := (show (vecB 2 s97).length ≤ 2145 by rw [vecB_length]; have h0 := HTL97.out; omega); omega)
                have HT99 := Lib.hid hs99
                clear hs99
                refine wp_region_noPanic ?_
                refine wp_region_held_drew (S := fun V => Below wB.heap.size wB V) (by kernel_rfl) (by exact below_drewN (Below.refl _ _) 1) (fun hHeld => ?_)
                refine wpT 0 ?_ rfl (by kernel_rfl) (by kernel_rfl) (by kernel_rfl) (fun _ _ _ h => h) (by rfl) ?_ hHeld ?_
                rotate_left 1
                · (intro W hSw; (try dsimp only at hSw); go_simp; try with_reducible rfl)
                try simp only [Act.put, zSa, zSz, zSs]
                refine wpT 1 ?_ rfl (by kernel_rfl) (by kernel_rfl) (by kernel_rfl) (fun _ _ _ h => h) (by rfl) ?_ hHeld ?_
                rotate_left 1
                · (intro W hSw; (try dsimp only at hSw); refine exec_catL (.tmp 83) (.const (.string { data := #[0, 45, 0, 2, 1, 1, 0, 41] })) ?_ (s80) ([0, 45, 0, 2, 1, 1, 0, 41]) s84 HT84.out ?_ ?_ (by have h1 := HTL80.out; have h2 := (show ([0, 45, 0, 2, 1, 1, 0, 41] : List UInt8).length ≤ 8 by decide); omega) <;> rfl)
                try simp only [Act.put, zSa, zSz, zSs]
                refine wpT 2 ?_ rfl (by kernel_rfl) (by kernel_rfl) (by kernel_rfl) (fun _ _ _ h => h) (by rfl) ?_ hHeld ?_
                rotate_left 1
                · (intro W hSw; (try dsimp only at hSw); go_simp; try with_reducible rfl)
                try simp only [Act.put, zSa, zSz, zSs]
                refine wpT 3 ?_ rfl (by kernel_rfl) (by kernel_rfl) (by kernel_rfl) (fun _ _ _ h => h) (by rfl) ?_ hHeld ?_
                rotate_left 1
                · (intro W hSw; (try dsimp only at hSw); have hcc := (HRB.out.below hSw).tic; go_simp; try with_reducible rfl)
                try simp only [Act.put, zSa, zSz, zSs]
                refine wpT 5 ?_ rfl (by kernel_rfl) (by kernel_rfl) (by kernel_rfl) (fun _ _ _ h => h) (by rfl) ?_ hHeld ?_
                rotate_left 1
                · (intro W hSw; (try dsimp only at hSw); go_simp; try with_reducible rfl)
                try simp only [Act.put, zSa, zSz, zSs]
                refine wpT 6 ?_ rfl (by kernel_rfl) (by kernel_rfl) (by kernel_rfl) (fun _ _ _ h => h) (by rfl) ?_ hHeld ?_
                rotate_left 1
                · (intro W hSw; (try dsimp only at hSw); have hcc := (HRB.out.below hSw).age; go_simp; try with_reducible rfl)
                try simp only [Act.put, zSa, zSz, zSs]
                refine wpT 11 ?_ rfl (by kernel_rfl) (by kernel_rfl) (by kernel_rfl) (fun _ _ _ h => h) (by rfl) ?_ hHeld ?_
                rotate_left 1
                · (intro W hSw; (try dsimp only at hSw); go_simp; try with_reducible rfl)
                try simp only [Act.put, zSa, zSz, zSs]
                refine wpT 12 ?_ rfl (by kernel_rfl) (by kernel_rfl) (by kernel_rfl) (fun _ _ _ h => h) (by rfl) ?_ hHeld ?_
                rotate_left 1
                · (intro W hSw; (try dsimp only at hSw); refine exec_rowOf (x := .tmp 94) (g := g1) (ob := 33) ?_ Tryd.underlying22 (fun w => size8 w) ?_ <;> rfl)
                try simp only [Act.put, zSa, zSz, zSs]
                refine wpT 13 ?_ rfl (by kernel_rfl) (by kernel_rfl) (by kernel_rfl) (fun _ _ _ h => h) (by rfl) ?_ hHeld ?_
                rotate_left 1
                · (intro W hSw; (try dsimp only at hSw); refine exec_strV (.tmp 95) ?_ m.mark _ ?_ (slV_range ((HRB.out.below hSw).mark) ((HRB.out.below hSw).lt) HL.out.2) <;> rfl)
                try simp only [Act.put, zSa, zSz, zSs]
                refine wpAnyH_ready (rs := [4]) (by kernel_rfl) (by simp) ?_
                refine AllReadyH.cons (o := ⟨_, _, _, _, _, _⟩) rfl (fun K hK => ?_) AllReadyH.nil
                go_simp
                go_at_call 25
                refine (vec_2 (m.tic) _ (by have h1 := HS.out.2.2.1; omega)).mono ?_
                rintro e wq1 ⟨rfl, hbn⟩
                try go_wp2_with fail
                refine hK.out _ _ (hHeld.trans (hbn.mono hHeld.size)) (fun hHeld => ?_)
                clear hK K hbn
                try simp only [Act.put, zSa, zSz, zSs]
                refine wpAnyH_ready (rs := [7]) (by kernel_rfl) (by simp) ?_
                refine AllReadyH.cons (o := ⟨_, _, _, _, _, _⟩) rfl (fun K hK => ?_) AllReadyH.nil
                go_simp
                go_at_call 41
                refine (numI_4 m.age _ HW_age.out).mono ?_
                rintro e wq2 ⟨rfl, hbn⟩
                try go_wp2_with fail
                refine hK.out _ _ (hHeld.trans (hbn.mono hHeld.size)) (fun hHeld => ?_)
                clear hK K hbn
                try simp only [Act.put, zSa, zSz, zSs]
                refine wpT 8 ?_ rfl (by kernel_rfl) (by kernel_rfl) (by kernel_rfl) (fun _ _ _ h => h) (by rfl) ?_ hHeld ?_
                rotate_left 1
                · (intro W hSw; (try dsimp only at hSw); refine exec_catL (.tmp 87) (.tmp 90) ?_ ((vecB 2 m.tic)) ((numB 4 m.age.toNat)) s91 HT91.out ?_ ?_ (by have h1 := (show (vecB 2 m.tic).length ≤ 2102 by rw [vecB_length]; have h0 := HS.out.2.2.1; omega); have h2 := (show (numB 4 m.age.toNat).length ≤ 4 from Nat.le_of_eq (numB_length 4 _)); omega) <;> rfl)
                try simp only [Act.put, zSa, zSz, zSs]
                refine wpAnyH_ready (rs := [9]) (by kernel_rfl) (by simp) ?_
                refine AllReadyH.cons (o := ⟨_, _, _, _, _, _⟩) rfl (fun K hK => ?_) AllReadyH.nil
                go_simp
                go_at_call 25
                refine (vec_2 (s91) _ (by have h1 := HTL91.out; omega)).mono ?_
                rintro e wq3 ⟨rfl, hbn⟩
                try go_wp2_with fail
                refine hK.out _ _ (hHeld.trans (hbn.mono hHeld.size)) (fun hHeld => ?_)
                clear hK K hbn
                try simp only [Act.put, zSa, zSz, zSs]
                refine wpT 10 ?_ rfl (by kernel_rfl) (by kernel_rfl) (by kernel_rfl) (fun _ _ _ h => h) (by rfl) ?_ hHeld ?_
                rotate_left 1
                · (intro W hSw; (try dsimp only at hSw); refine exec_catL (.tmp 92) (.const (.string { data := #[0, 33, 32] })) ?_ ((vecB 2 s91)) ([0, 33, 32]) s93 HT93.out ?_ ?_ (by have h1 := (show (vecB 2 s91).length ≤ 2108 by rw [vecB_length]; have h0 := HTL91.out; omega); have h2 := (show ([0, 33, 32] : List UInt8).length ≤ 3 by decide); omega) <;> rfl)
                try simp only [Act.put, zSa, zSz, zSs]
                refine wpT 14 ?_ rfl (by kernel_rfl) (by kernel_rfl) (by kernel_rfl) (fun _ _ _ h => h) (by rfl) ?_ hHeld ?_
                rotate_left 1
                · (intro W hSw; (try dsimp only at hSw); refine exec_catL (.tmp 93) (.tmp 96) ?_ (s93) (m.mark) s97 HT97.out ?_ ?_ (by have h1 := HTL93.out; have h2 := Nat.le_of_eq HL.out.2; omega) <;> rfl)
                try simp only [Act.put, zSa, zSz, zSs]
                refine wpAnyH_ready (rs := [15]) (by kernel_rfl) (by simp) ?_
                refine AllReadyH.cons (o := ⟨_, _, _, _, _, _⟩) rfl (fun K hK => ?_) AllReadyH.nil
                go_simp
                go_at_call 25
                refine (vec_2 (s97) _ (by have h1 := HTL97.out; omega)).mono ?_
                rintro e wq4 ⟨rfl, hbn⟩
                try go_wp2_with fail
                refine hK.out _ _ (hHeld.trans (hbn.mono hHeld.size)) (fun hHeld => ?_)
                clear hK K hbn
                try simp only [Act.put, zSa, zSz, zSs]
                refine wpT 16 ?_ rfl (by kernel_rfl) (by kernel_rfl) (by kernel_rfl) (fun _ _ _ h => h) (by rfl) ?_ hHeld ?_
                rotate_left 1
                · (intro W hSw; (try dsimp only at hSw); refine exec_catL (.tmp 84) (.tmp 98) ?_ (s84) ((vecB 2 s97)) s99 HT99.out ?_ ?_ (by have h1 := HTL84.out; have h2 := (show (vecB 2 s97).length ≤ 2145 by rw [vecB_length]; have h0 := HTL97.out; omega); omega) <;> rfl)
                try simp only [Act.put, zSa, zSz, zSs]
                refine wpT 17 ?_ rfl (by kernel_rfl) (by kernel_rfl) (by kernel_rfl) (fun _ _ _ h => h) (by rfl) ?_ hHeld ?_
                rotate_left 1
                · (intro W hSw; (try dsimp only at hSw); go_simp; try with_reducible rfl)
                try simp only [Act.put, zSa, zSz, zSs]
                refine wpAnyH_done (by kernel_rfl) ?_ _
                refine NoPanic.normal ?_
                have hbx := HBB.out.trans (hHeld.mono HBB.out.size)
                have bx9 := HXB.out.below hHeld HXB.out.lt
                clear hHeld
                go_upto_region 15 with (fail)
                have HRB := Lib.hid (HM.out.below hbx)
                have HXB := Lib.hid bx9
                have HSB := Lib.hid (HSR.out.below hbx)
                have HBB := Lib.hid hbx
                clear hbx bx9
                generalize hwB : wq4 = wB at *
                clear hwB
                obtain ⟨s103, hs103⟩ : ∃ s : List UInt8, [3, 3] ++ m.rnd = s := ⟨_, rfl⟩
                have HTL103 := Lib.hid (show s103.length ≤ 34 by rw [← hs103, List.length_append]; have h1 := (show ([3, 3] : List UInt8).length ≤ 2 by decide); have h2 := Nat.le_of_eq HL.out.1; omega)
                have HT103 := Lib.hid hs103
                clear hs103
                obtain ⟨s107, hs107⟩ : ∃ s : List UInt8, s103 ++ (vecB 1 m.ses) = s := ⟨_, rfl⟩
                have HTL107 := Lib.hid (show s107.length ≤ 2135 by rw [← hs107, List.length_append]; have h1 := HTL103.out; have h2 := (show (vecB 1 m.ses).length ≤ 2101 by rw [vecB_length]; have h0 := HS.out.1; omega); omega)
                have HT107 := Lib.hid hs107
                clear hs107
                obtain ⟨s108, hs108⟩ : ∃ s : List UInt8, s107 ++ [0, 2, 19, 1, 1, 0] = s := ⟨_, rfl⟩
                have HTL108 := Lib.hid (show s108.length ≤ 2141 by rw [← hs108, List.length_append]; have h1 := HTL107.out; have h2 := (show ([0, 2, 19, 1, 1, 0] : List UInt8).length ≤ 6 by decide); omega)
                have HT108 := Lib.hid hs108
                clear hs108
                obtain ⟨s111, hs111⟩ : ∃ s : List UInt8, s108 ++ (vecB 2 s99) = s := ⟨_, rfl⟩
                have HTL111 := Lib.hid (show s111.length ≤ 4325 by rw [← hs111, List.length_append]; have h1 := HTL108.out; have h2 := (show (vecB 2 s99).length ≤ 2184 by rw [vecB_length]; have h0 := HTL99.out; omega); omega)
                have HT111 := Lib.hid hs111
                clear hs111
                refine wp_region_noPanic ?_
                refine wp_region_held_drew (S := fun V => Below wB.heap.size wB V) (by kernel_rfl) (by exact below_drewN (Below.refl _ _) 1) (fun hHeld => ?_)
                refine wpT 0 ?_ rfl (by kernel_rfl) (by kernel_rfl) (by kernel_rfl) (fun _ _ _ h => h) (by rfl) ?_ hHeld ?_
                rotate_left 1
                · (intro W hSw; (try dsimp only at hSw); go_simp; try with_reducible rfl)
                try simp only [Act.put, zSa, zSz, zSs]
                refine wpT 1 ?_ rfl (by kernel_rfl) (by kernel_rfl) (by kernel_rfl) (fun _ _ _ h => h) (by rfl) ?_ hHeld ?_
                rotate_left 1
                · (intro W hSw; (try dsimp only at hSw); refine exec_rowOf (x := .tmp 100) (g := g1) (ob := 1) ?_ Tryd.underlying22 (fun w => size8 w) ?_ <;> rfl)
                try simp only [Act.put, zSa, zSz, zSs]
                refine wpT 2 ?_ rfl (by kernel_rfl) (by kernel_rfl) (by kernel_rfl) (fun _ _ _ h => h) (by rfl) ?_ hHeld ?_
                rotate_left 1
                · (intro W hSw; (try dsimp only at hSw); refine exec_strV (.tmp 101) ?_ m.rnd _ ?_ (slV_range ((HRB.out.below hSw).rnd) ((HRB.out.below hSw).lt) HL.out.1) <;> rfl)
                try simp only [Act.put, zSa, zSz, zSs]
                refine wpT 3 ?_ rfl (by kernel_rfl) (by kernel_rfl) (by kernel_rfl) (fun _ _ _ h => h) (by rfl) ?_ hHeld ?_
                rotate_left 1
                · (intro W hSw; (try dsimp only at hSw); refine exec_catL (.const (.string { data := #[3, 3] })) (.tmp 102) ?_ ([3, 3]) (m.rnd) s103 HT103.out ?_ ?_ (by have h1 := (show ([3, 3] : List UInt8).length ≤ 2 by decide); have h2 := Nat.le_of_eq HL.out.1; omega) <;> rfl)
                try simp only [Act.put, zSa, zSz, zSs]
                refine wpT 4 ?_ rfl (by kernel_rfl) (by kernel_rfl) (by kernel_rfl) (fun _ _ _ h => h) (by rfl) ?_ hHeld ?_
                rotate_left 1
                · (intro W hSw; (try dsimp only at hSw); go_simp; try with_reducible rfl)
                try simp only [Act.put, zSa, zSz, zSs]
                refine wpT 5 ?_ rfl (by kernel_rfl) (by kernel_rfl) (by kernel_rfl) (fun _ _ _ h => h) (by rfl) ?_ hHeld ?_
                rotate_left 1
                · (intro W hSw; (try dsimp only at hSw); have hcc := (HRB.out.below hSw).ses; go_simp; try with_reducible rfl)
                try simp only [Act.put, zSa, zSz, zSs]
                refine wpT 9 ?_ rfl (by kernel_rfl) (by kernel_rfl) (by kernel_rfl) (fun _ _ _ h => h) (by rfl) ?_ hHeld ?_
                rotate_left 1
                · (intro W hSw; (try dsimp only at hSw); go_simp; try with_reducible rfl)
                try simp only [Act.put, zSa, zSz, zSs]
                refine wpAnyH_ready (rs := [6]) (by kernel_rfl) (by simp) ?_
                refine AllReadyH.cons (o := ⟨_, _, _, _, _, _⟩) rfl (fun K hK => ?_) AllReadyH.nil
                go_simp
                go_at_call 25
                refine (vec_1 (m.ses) _ (by have h1 := HS.out.1; omega)).mono ?_
                rintro e wq1 ⟨rfl, hbn⟩
                try go_wp2_with fail
                refine hK.out _ _ (hHeld.trans (hbn.mono hHeld.size)) (fun hHeld => ?_)
                clear hK K hbn
                try simp only [Act.put, zSa, zSz, zSs]
                refine wpT 7 ?_ rfl (by kernel_rfl) (by kernel_rfl) (by kernel_rfl) (fun _ _ _ h => h) (by rfl) ?_ hHeld ?_
                rotate_left 1
                · (intro W hSw; (try dsimp only at hSw); refine exec_catL (.tmp 103) (.tmp 106) ?_ (s103) ((vecB 1 m.ses)) s107 HT107.out ?_ ?_ (by have h1 := HTL103.out; have h2 := (show (vecB 1 m.ses).length ≤ 2101 by rw [vecB_length]; have h0 := HS.out.1; omega); omega) <;> rfl)
                try simp only [Act.put, zSa, zSz, zSs]
                refine wpT 8 ?_ rfl (by kernel_rfl) (by kernel_rfl) (by kernel_rfl) (fun _ _ _ h => h) (by rfl) ?_ hHeld ?_
                rotate_left 1
                · (intro W hSw; (try dsimp only at hSw); refine exec_catL (.tmp 107) (.const (.string { data := #[0, 2, 19, 1, 1, 0] })) ?_ (s107) ([0, 2, 19, 1, 1, 0]) s108 HT108.out ?_ ?_ (by have h1 := HTL107.out; have h2 := (show ([0, 2, 19, 1, 1, 0] : List UInt8).length ≤ 6 by decide); omega) <;> rfl)
                try simp only [Act.put, zSa, zSz, zSs]
                refine wpAnyH_ready (rs := [10]) (by kernel_rfl) (by simp) ?_
                refine AllReadyH.cons (o := ⟨_, _, _, _, _, _⟩) rfl (fun K hK => ?_) AllReadyH.nil
                go_simp
                go_at_call 25
                refine (vec_2 (s99) _ (by have h1 := HTL99.out; omega)).mono ?_
                rintro e wq2 ⟨rfl, hbn⟩
                try go_wp2_with fail
                refine hK.out _ _ (hHeld.trans (hbn.mono hHeld.size)) (fun hHeld => ?_)
                clear hK K hbn
                try simp only [Act.put, zSa, zSz, zSs]
                refine wpT 11 ?_ rfl (by kernel_rfl) (by kernel_rfl) (by kernel_rfl) (fun _ _ _ h => h) (by rfl) ?_ hHeld ?_
                rotate_left 1
                · (intro W hSw; (try dsimp only at hSw); refine exec_catL (.tmp 108) (.tmp 110) ?_ (s108) ((vecB 2 s99)) s111 HT111.out ?_ ?_ (by have h1 := HTL108.out; have h2 := (show (vecB 2 s99).length ≤ 2184 by rw [vecB_length]; have h0 := HTL99.out; omega); omega) <;> rfl)
                try simp only [Act.put, zSa, zSz, zSs]
                refine wpT 12 ?_ rfl (by kernel_rfl) (by kernel_rfl) (by kernel_rfl) (fun _ _ _ h => h) (by rfl) ?_ hHeld ?_
                rotate_left 1
                · (intro W hSw; (try dsimp only at hSw); go_simp; try with_reducible rfl)
                try simp only [Act.put, zSa, zSz, zSs]
                refine wpT 13 ?_ rfl (by kernel_rfl) (by kernel_rfl) (by kernel_rfl) (fun _ _ _ h => h) (by rfl) ?_ hHeld ?_
                rotate_left 1
                · (intro W hSw; (try dsimp only at hSw); go_simp; try with_reducible rfl)
                try simp only [Act.put, zSa, zSz, zSs]
                refine wpAnyH_done (by kernel_rfl) ?_ _
                refine NoPanic.normal ?_
                have hbe := HB1.out.trans ((HBB.out.trans (hHeld.mono HBB.out.size)).mono HB1.out.size)
                go_wp2
                go_ret2
                have hF : formM m = true := by rw [rform_1p HK.out HB_psk.out, HBF.out, decide_eq_true (show m.ses.length ≤ 32 by have := HC_sesgt32.out; omega), decide_eq_true (show m.sha.length = 0 by have := HC_shane0.out; omega), decide_eq_true (show 1 ≤ m.tic.length by have := HC_ticlt1.out; omega), decide_eq_true (show m.tic.length ≤ 1000 by have := HC_ticgt1000.out; omega), HW_age.out]; rfl
                refine ⟨_, by rw [hF]; rfl, fun _ => ?_, hbe⟩
                rw [← HT111.out, ← HT108.out, ← HT107.out, ← HT103.out, ← HT99.out, ← HT97.out, ← HT93.out, ← HT91.out, ← HT84.out, ← HT80.out, bodyM, HK.out]
                simp [clientB, offeredB, sharesB, abil, HB_psk.out, HE0.out, List.append_assoc]
            | false =>
              have HW_age := Lib.hid hw
              clear hw
              as_aux_lemma =>
                refine wp_region_lit ?_
                refine wpList_load_mid rfl 25 (.tmp 4) rfl g4 0 rfl (rC mx7 vc) _ (rangeAt_of_blk bx7) Tryd.underlying25 rfl (infoR.trans (by rw [len_rC (m := mx7) HXL7.out])) ?_
                try simp only [Act.put, zSa, zSz, zSs]
                refine wpList_plain rfl (fun K hK0 => ?_)
                have hK := Lib.hid hK0
                clear hK0
                go_simp
                go_at_call 39
                refine (bare_e mx7 (rC mx7 vc) _ ⟨HXL7.out, vc, rfl, by rw [HXC7.out]; exact HSR.out.below hbx⟩).mono ?_
                rintro e w9 ⟨rfl, hb9⟩
                try go_wp2_with fail
                refine hK.out _ _ ?_
                clear hK K
                try simp only [Act.put, zSa, zSz, zSs]
                replace hbx := hbx.trans (hb9.mono hbx.size)
                have bx9 := bx7.below hb9 bx7.lt
                clear hb9 bx7
                rw [HBARE.out]
                have c_psk := ((HM.out.below hbx).psk).trans (by rw [HB_psk.out])
                have c_ses := (HM.out.below hbx).ses
                have c_sha := (HM.out.below hbx).sha
                have c_tic := (HM.out.below hbx).tic
                have c_age := (HM.out.below hbx).age
                have hz_ses := HZ_ses.out
                have hz_sha := HZ_sha.out
                have hz_tic := HZ_tic.out
                have hv_sesgt32 := HV_sesgt32.out.1
                have hw_sesgt32 := HV_sesgt32.out.2
                have hv_shane0 := HV_shane0.out.1
                have hw_shane0 := HV_shane0.out.2.1
                have hx_shane0 := HV_shane0.out.2.2.1
                have hy_shane0 := HV_shane0.out.2.2.2
                have hv_ticlt1 := HV_ticlt1.out.1
                have hw_ticlt1 := HV_ticlt1.out.2
                have hv_ticgt1000 := HV_ticgt1000.out.1
                have hw_ticgt1000 := HV_ticgt1000.out.2
                go_wp2_with (first
                    | (go_at_call 40; refine (rwide_e m.age _).mono ?_; rintro e wz ⟨rfl, hww⟩; have hw2 := hww.symm; subst hw2; rw [HW_age.out]))
                go_ret2
                have hF : formM m = false := by rw [rform_1p HK.out HB_psk.out, HBF.out, decide_eq_true (show m.ses.length ≤ 32 by have := HC_sesgt32.out; omega), decide_eq_true (show m.sha.length = 0 by have := HC_shane0.out; omega), decide_eq_true (show 1 ≤ m.tic.length by have := HC_ticlt1.out; omega), decide_eq_true (show m.tic.length ≤ 1000 by have := HC_ticgt1000.out; omega), HW_age.out]; rfl
                exact ⟨[], by rw [hF]; rfl, fun hf => absurd hf (by rw [hF]; decide), HB1.out.trans (hbx.mono HB1.out.size)⟩
      · have HC_shane0 := Lib.hid hc
        have HV_shane0 := Lib.hid (show decide ((n_sha : Int) = (0 : Int)) = false ∧ decide (n_sha = 0) = false ∧ (((n_sha : Int) != (0 : Int)) = true ∧ (n_sha != 0) = true) from ⟨decide_eq_false (by have h1 := HN_sha.out; have h2 := HC_shane0.out; omega), decide_eq_false (by have h1 := HN_sha.out; have h2 := HC_shane0.out; omega), bne_iff_ne.2 (by have h1 := HN_sha.out; have h2 := HC_shane0.out; omega), bne_iff_ne.2 (by have h1 := HN_sha.out; have h2 := HC_shane0.out; omega)⟩)
        clear hc
        by_cases hc : m.sha.length = 65
        · have HC_shane65 := Lib.hid hc
          have HV_shane65 := Lib.hid (show decide ((n_sha : Int) = (65 : Int)) = true ∧ decide (n_sha = 65) = true ∧ (((n_sha : Int) != (65 : Int)) = false ∧ (n_sha != 65) = false) from ⟨decide_eq_true (by have h1 := HN_sha.out; have h2 := HC_shane65.out; omega), decide_eq_true (by have h1 := HN_sha.out; have h2 := HC_shane65.out; omega), bne_eq_false_iff_eq.2 (by have h1 := HN_sha.out; have h2 := HC_shane65.out; omega), bne_eq_false_iff_eq.2 (by have h1 := HN_sha.out; have h2 := HC_shane65.out; omega)⟩)
          clear hc
          by_cases hc : m.tic.length < 1
          · have HC_ticlt1 := Lib.hid hc
            have HV_ticlt1 := Lib.hid (show decide ((n_tic : Int) < (1 : Int)) = true ∧ decide (n_tic < 1) = true from ⟨decide_eq_true (by have h1 := HN_tic.out; have h2 := HC_ticlt1.out; omega), decide_eq_true (by have h1 := HN_tic.out; have h2 := HC_ticlt1.out; omega)⟩)
            clear hc
            as_aux_lemma =>
              refine wp_region_lit ?_
              refine wpList_load_mid rfl 25 (.tmp 4) rfl g4 0 rfl (rC mx7 vc) _ (rangeAt_of_blk bx7) Tryd.underlying25 rfl (infoR.trans (by rw [len_rC (m := mx7) HXL7.out])) ?_
              try simp only [Act.put, zSa, zSz, zSs]
              refine wpList_plain rfl (fun K hK0 => ?_)
              have hK := Lib.hid hK0
              clear hK0
              go_simp
              go_at_call 39
              refine (bare_e mx7 (rC mx7 vc) _ ⟨HXL7.out, vc, rfl, by rw [HXC7.out]; exact HSR.out.below hbx⟩).mono ?_
              rintro e w9 ⟨rfl, hb9⟩
              try go_wp2_with fail
              refine hK.out _ _ ?_
              clear hK K
              try simp only [Act.put, zSa, zSz, zSs]
              replace hbx := hbx.trans (hb9.mono hbx.size)
              have bx9 := bx7.below hb9 bx7.lt
              clear hb9 bx7
              rw [HBARE.out]
              have c_psk := ((HM.out.below hbx).psk).trans (by rw [HB_psk.out])
              have c_ses := (HM.out.below hbx).ses
              have c_sha := (HM.out.below hbx).sha
              have c_tic := (HM.out.below hbx).tic
              have c_age := (HM.out.below hbx).age
              have hz_ses := HZ_ses.out
              have hz_sha := HZ_sha.out
              have hz_tic := HZ_tic.out
              have hv_sesgt32 := HV_sesgt32.out.1
              have hw_sesgt32 := HV_sesgt32.out.2
              have hv_shane0 := HV_shane0.out.1
              have hw_shane0 := HV_shane0.out.2.1
              have hx_shane0 := HV_shane0.out.2.2.1
              have hy_shane0 := HV_shane0.out.2.2.2
              have hv_shane65 := HV_shane65.out.1
              have hw_shane65 := HV_shane65.out.2.1
              have hx_shane65 := HV_shane65.out.2.2.1
              have hy_shane65 := HV_shane65.out.2.2.2
              have hv_ticlt1 := HV_ticlt1.out.1
              have hw_ticlt1 := HV_ticlt1.out.2
              go_wp2_with (first
                  | (go_at_call 40; refine (rwide_e m.age _).mono ?_; rintro e wz ⟨rfl, hww⟩; have hw2 := hww.symm; subst hw2; rw [HW_age.out]))
              go_ret2
              have hF : formM m = false := by rw [rform_1p HK.out HB_psk.out, HBF.out, decide_eq_true (show m.ses.length ≤ 32 by have := HC_sesgt32.out; omega), decide_eq_false (show ¬ (m.sha.length = 0) by have := HC_shane0.out; omega), decide_eq_true (show m.sha.length = 65 by have := HC_shane65.out; omega), decide_eq_false (show ¬ (1 ≤ m.tic.length) by have := HC_ticlt1.out; omega)]; rfl
              exact ⟨[], by rw [hF]; rfl, fun hf => absurd hf (by rw [hF]; decide), HB1.out.trans (hbx.mono HB1.out.size)⟩
          · have HC_ticlt1 := Lib.hid hc
            have HV_ticlt1 := Lib.hid (show decide ((n_tic : Int) < (1 : Int)) = false ∧ decide (n_tic < 1) = false from ⟨decide_eq_false (by have h1 := HN_tic.out; have h2 := HC_ticlt1.out; omega), decide_eq_false (by have h1 := HN_tic.out; have h2 := HC_ticlt1.out; omega)⟩)
            clear hc
            by_cases hc : 1000 < m.tic.length
            · have HC_ticgt1000 := Lib.hid hc
              have HV_ticgt1000 := Lib.hid (show decide ((1000 : Int) < (n_tic : Int)) = true ∧ decide (1000 < n_tic) = true from ⟨decide_eq_true (by have h1 := HN_tic.out; have h2 := HC_ticgt1000.out; omega), decide_eq_true (by have h1 := HN_tic.out; have h2 := HC_ticgt1000.out; omega)⟩)
              clear hc
              as_aux_lemma =>
                refine wp_region_lit ?_
                refine wpList_load_mid rfl 25 (.tmp 4) rfl g4 0 rfl (rC mx7 vc) _ (rangeAt_of_blk bx7) Tryd.underlying25 rfl (infoR.trans (by rw [len_rC (m := mx7) HXL7.out])) ?_
                try simp only [Act.put, zSa, zSz, zSs]
                refine wpList_plain rfl (fun K hK0 => ?_)
                have hK := Lib.hid hK0
                clear hK0
                go_simp
                go_at_call 39
                refine (bare_e mx7 (rC mx7 vc) _ ⟨HXL7.out, vc, rfl, by rw [HXC7.out]; exact HSR.out.below hbx⟩).mono ?_
                rintro e w9 ⟨rfl, hb9⟩
                try go_wp2_with fail
                refine hK.out _ _ ?_
                clear hK K
                try simp only [Act.put, zSa, zSz, zSs]
                replace hbx := hbx.trans (hb9.mono hbx.size)
                have bx9 := bx7.below hb9 bx7.lt
                clear hb9 bx7
                rw [HBARE.out]
                have c_psk := ((HM.out.below hbx).psk).trans (by rw [HB_psk.out])
                have c_ses := (HM.out.below hbx).ses
                have c_sha := (HM.out.below hbx).sha
                have c_tic := (HM.out.below hbx).tic
                have c_age := (HM.out.below hbx).age
                have hz_ses := HZ_ses.out
                have hz_sha := HZ_sha.out
                have hz_tic := HZ_tic.out
                have hv_sesgt32 := HV_sesgt32.out.1
                have hw_sesgt32 := HV_sesgt32.out.2
                have hv_shane0 := HV_shane0.out.1
                have hw_shane0 := HV_shane0.out.2.1
                have hx_shane0 := HV_shane0.out.2.2.1
                have hy_shane0 := HV_shane0.out.2.2.2
                have hv_shane65 := HV_shane65.out.1
                have hw_shane65 := HV_shane65.out.2.1
                have hx_shane65 := HV_shane65.out.2.2.1
                have hy_shane65 := HV_shane65.out.2.2.2
                have hv_ticlt1 := HV_ticlt1.out.1
                have hw_ticlt1 := HV_ticlt1.out.2
                have hv_ticgt1000 := HV_ticgt1000.out.1
                have hw_ticgt1000 := HV_ticgt1000.out.2
                go_wp2_with (first
                    | (go_at_call 40; refine (rwide_e m.age _).mono ?_; rintro e wz ⟨rfl, hww⟩; have hw2 := hww.symm; subst hw2; rw [HW_age.out]))
                go_ret2
                have hF : formM m = false := by rw [rform_1p HK.out HB_psk.out, HBF.out, decide_eq_true (show m.ses.length ≤ 32 by have := HC_sesgt32.out; omega), decide_eq_false (show ¬ (m.sha.length = 0) by have := HC_shane0.out; omega), decide_eq_true (show m.sha.length = 65 by have := HC_shane65.out; omega), decide_eq_true (show 1 ≤ m.tic.length by have := HC_ticlt1.out; omega), decide_eq_false (show ¬ (m.tic.length ≤ 1000) by have := HC_ticgt1000.out; omega)]; rfl
                exact ⟨[], by rw [hF]; rfl, fun hf => absurd hf (by rw [hF]; decide), HB1.out.trans (hbx.mono HB1.out.size)⟩
            · have HC_ticgt1000 := Lib.hid hc
              have HV_ticgt1000 := Lib.hid (show decide ((1000 : Int) < (n_tic : Int)) = false ∧ decide (1000 < n_tic) = false from ⟨decide_eq_false (by have h1 := HN_tic.out; have h2 := HC_ticgt1000.out; omega), decide_eq_false (by have h1 := HN_tic.out; have h2 := HC_ticgt1000.out; omega)⟩)
              clear hc
              cases hw : HelloMath.wide m.age with
              | true =>
                have HW_age := Lib.hid hw
                clear hw
                as_aux_lemma =>
                  have HE0 := Lib.hid (show m.sha ≠ [] from fun e => by have := HC_shane0.out; rw [e] at this; exact this rfl)
                  have HE_sha := Lib.hid (ne_empty HE0.out)
                  refine wp_region_lit ?_
                  refine wpList_load_mid rfl 25 (.tmp 4) rfl g4 0 rfl (rC mx7 vc) _ (rangeAt_of_blk bx7) Tryd.underlying25 rfl (infoR.trans (by rw [len_rC (m := mx7) HXL7.out])) ?_
                  try simp only [Act.put, zSa, zSz, zSs]
                  refine wpList_plain rfl (fun K hK0 => ?_)
                  have hK := Lib.hid hK0
                  clear hK0
                  go_simp
                  go_at_call 39
                  refine (bare_e mx7 (rC mx7 vc) _ ⟨HXL7.out, vc, rfl, by rw [HXC7.out]; exact HSR.out.below hbx⟩).mono ?_
                  rintro e w9 ⟨rfl, hb9⟩
                  try go_wp2_with fail
                  refine hK.out _ _ ?_
                  clear hK K
                  try simp only [Act.put, zSa, zSz, zSs]
                  replace hbx := hbx.trans (hb9.mono hbx.size)
                  have bx9 := bx7.below hb9 bx7.lt
                  clear hb9 bx7
                  rw [HBARE.out]
                  have c_psk := ((HM.out.below hbx).psk).trans (by rw [HB_psk.out])
                  have c_ses := (HM.out.below hbx).ses
                  have c_sha := (HM.out.below hbx).sha
                  have c_tic := (HM.out.below hbx).tic
                  have c_age := (HM.out.below hbx).age
                  have hz_ses := HZ_ses.out
                  have hz_sha := HZ_sha.out
                  have hz_tic := HZ_tic.out
                  have hv_sesgt32 := HV_sesgt32.out.1
                  have hw_sesgt32 := HV_sesgt32.out.2
                  have hv_shane0 := HV_shane0.out.1
                  have hw_shane0 := HV_shane0.out.2.1
                  have hx_shane0 := HV_shane0.out.2.2.1
                  have hy_shane0 := HV_shane0.out.2.2.2
                  have hv_shane65 := HV_shane65.out.1
                  have hw_shane65 := HV_shane65.out.2.1
                  have hx_shane65 := HV_shane65.out.2.2.1
                  have hy_shane65 := HV_shane65.out.2.2.2
                  have hv_ticlt1 := HV_ticlt1.out.1
                  have hw_ticlt1 := HV_ticlt1.out.2
                  have hv_ticgt1000 := HV_ticgt1000.out.1
                  have hw_ticgt1000 := HV_ticgt1000.out.2
                  go_upto_region 9 with (first
                      | (go_at_call 40; refine (rwide_e m.age _).mono ?_; rintro e wz ⟨rfl, hww⟩; have hw2 := hww.symm; subst hw2; rw [HW_age.out]))
                  clear c_psk c_ses c_sha c_tic c_age hz_ses hz_sha hz_tic hv_sesgt32 hw_sesgt32 hv_shane0 hw_shane0 hx_shane0 hy_shane0 hv_shane65 hw_shane65 hx_shane65 hy_shane65 hv_ticlt1 hw_ticlt1 hv_ticgt1000 hw_ticgt1000
                  have hcc := (HM.out.below hbx).sha
                  have he := HE_sha.out.1
                  have he2 := HE_sha.out.2.1
                  have he3 := HE_sha.out.2.2
                  go_upto_region 11 with (fail)
                  refine wp_region_lit ?_
                  refine wpList_plain rfl (fun K hK => ?_)
                  go_simp
                  refine hK _ _ ?_
                  clear hK K
                  try simp only [Act.put, zSa, zSz, zSs]
                  refine wpList_plain rfl (fun K hK => ?_)
                  go_simp
                  refine hK _ _ ?_
                  clear hK K
                  try simp only [Act.put, zSa, zSz, zSs]
                  clear hcc he he2 he3
                  refine wpList_plain rfl (fun K hK0 => ?_)
                  have hK := Lib.hid hK0
                  clear hK0
                  go_simp
                  go_at_call 25
                  refine (vec_2 m.sha _ (by have h1 := HS.out.2.1; omega)).mono ?_
                  rintro e wv ⟨rfl, hb9⟩
                  try go_wp2_with fail
                  refine hK.out _ _ ?_
                  clear hK K
                  try simp only [Act.put, zSa, zSz, zSs]
                  replace hbx := hbx.trans (hb9.mono hbx.size)
                  replace bx9 := bx9.below hb9 bx9.lt
                  clear hb9
                  obtain ⟨s76, hs76⟩ : ∃ s : List UInt8, [0, 23] ++ (vecB 2 m.sha) = s := ⟨_, rfl⟩
                  have HTL76 := Lib.hid (show s76.length ≤ 2104 by rw [← hs76, List.length_append]; have h1 := (show ([0, 23] : List UInt8).length ≤ 2 by decide); have h2 := (show (vecB 2 m.sha).length ≤ 2102 by rw [vecB_length]; have h0 := HS.out.2.1; omega); omega)
                  refine wpList_plain rfl (fun K hK => wp_catS (.const (.string { data := #[0, 23] })) (.tmp 75) rfl ([0, 23]) ((vecB 2 m.sha)) rfl rfl (by have h1 := (show ([0, 23] : List UInt8).length ≤ 2 by decide); have h2 := (show (vecB 2 m.sha).length ≤ 2102 by rw [vecB_length]; have h0 := HS.out.2.1; omega); omega) (hK _ _ ?_))
                  clear hK K
                  rw [hs76]
                  have HT76 := Lib.hid hs76
                  clear hs76
                  try simp only [Act.put, zSa, zSz, zSs]
                  refine wpList_plain rfl (fun K hK => ?_)
                  go_simp
                  refine hK _ _ ?_
                  clear hK K
                  try simp only [Act.put, zSa, zSz, zSs]
                  go_upto_region 12 with (fail)
                  refine wp_region_lit ?_
                  refine wpList_plain rfl (fun K hK => ?_)
                  go_simp
                  refine hK _ _ ?_
                  clear hK K
                  try simp only [Act.put, zSa, zSz, zSs]
                  refine wpList_plain rfl (fun K hK0 => ?_)
                  have hK := Lib.hid hK0
                  clear hK0
                  go_simp
                  go_at_call 25
                  refine (vec_2 s76 _ (by have h1 := HTL76.out; omega)).mono ?_
                  rintro e wv1 ⟨rfl, hb9⟩
                  try go_wp2_with fail
                  refine hK.out _ _ ?_
                  clear hK K
                  try simp only [Act.put, zSa, zSz, zSs]
                  replace hbx := hbx.trans (hb9.mono hbx.size)
                  replace bx9 := bx9.below hb9 bx9.lt
                  clear hb9
                  refine wpList_plain rfl (fun K hK0 => ?_)
                  have hK := Lib.hid hK0
                  clear hK0
                  go_simp
                  go_at_call 25
                  refine (vec_2 (vecB 2 s76) _ (by have h1 := (show (vecB 2 s76).length ≤ 2106 by rw [vecB_length]; have h0 := HTL76.out; omega); omega)).mono ?_
                  rintro e wv2 ⟨rfl, hb9⟩
                  try go_wp2_with fail
                  refine hK.out _ _ ?_
                  clear hK K
                  try simp only [Act.put, zSa, zSz, zSs]
                  replace hbx := hbx.trans (hb9.mono hbx.size)
                  replace bx9 := bx9.below hb9 bx9.lt
                  clear hb9
                  obtain ⟨s80, hs80⟩ : ∃ s : List UInt8, [0, 43, 0, 3, 2, 3, 4, 0, 10, 0, 4, 0, 2, 0, 23, 0, 13, 0, 4, 0, 2, 4, 3, 0, 51] ++ (vecB 2 (vecB 2 s76)) = s := ⟨_, rfl⟩
                  have HTL80 := Lib.hid (show s80.length ≤ 2133 by rw [← hs80, List.length_append]; have h1 := (show ([0, 43, 0, 3, 2, 3, 4, 0, 10, 0, 4, 0, 2, 0, 23, 0, 13, 0, 4, 0, 2, 4, 3, 0, 51] : List UInt8).length ≤ 25 by decide); have h2 := (show (vecB 2 (vecB 2 s76)).length ≤ 2108 by rw [vecB_length]; have h0 := (show (vecB 2 s76).length ≤ 2106 by rw [vecB_length]; have h0 := HTL76.out; omega); omega); omega)
                  refine wpList_plain rfl (fun K hK => wp_catS (.const (.string { data := #[0, 43, 0, 3, 2, 3, 4, 0, 10, 0, 4, 0, 2, 0, 23, 0, 13, 0, 4, 0, 2, 4, 3, 0, 51] })) (.tmp 79) rfl ([0, 43, 0, 3, 2, 3, 4, 0, 10, 0, 4, 0, 2, 0, 23, 0, 13, 0, 4, 0, 2, 4, 3, 0, 51]) ((vecB 2 (vecB 2 s76))) rfl rfl (by have h1 := (show ([0, 43, 0, 3, 2, 3, 4, 0, 10, 0, 4, 0, 2, 0, 23, 0, 13, 0, 4, 0, 2, 4, 3, 0, 51] : List UInt8).length ≤ 25 by decide); have h2 := (show (vecB 2 (vecB 2 s76)).length ≤ 2108 by rw [vecB_length]; have h0 := (show (vecB 2 s76).length ≤ 2106 by rw [vecB_length]; have h0 := HTL76.out; omega); omega); omega) (hK _ _ ?_))
                  clear hK K
                  rw [hs80]
                  have HT80 := Lib.hid hs80
                  clear hs80
                  try simp only [Act.put, zSa, zSz, zSs]
                  refine wpList_plain rfl (fun K hK => ?_)
                  go_simp
                  refine hK _ _ ?_
                  clear hK K
                  try simp only [Act.put, zSa, zSz, zSs]
                  have hcp := ((HM.out.below hbx).psk).trans (by rw [HB_psk.out])
                  go_upto_region 14 with (fail)
                  clear hcp
                  have HRB := Lib.hid (HM.out.below hbx)
                  have HXB := Lib.hid bx9
                  have HSB := Lib.hid (HSR.out.below hbx)
                  have HBB := Lib.hid hbx
                  clear hbx bx9
                  generalize hwB : wv2 = wB at *
                  clear hwB
                  obtain ⟨s84, hs84⟩ : ∃ s : List UInt8, s80 ++ [0, 45, 0, 2, 1, 1, 0, 41] = s := ⟨_, rfl⟩
                  have HTL84 := Lib.hid (show s84.length ≤ 2141 by rw [← hs84, List.length_append]; have h1 := HTL80.out; have h2 := (show ([0, 45, 0, 2, 1, 1, 0, 41] : List UInt8).length ≤ 8 by decide); omega)
                  have HT84 := Lib.hid hs84
                  clear hs84
                  obtain ⟨s91, hs91⟩ : ∃ s : List UInt8, (vecB 2 m.tic) ++ (numB 4 m.age.toNat) = s := ⟨_, rfl⟩
                  have HTL91 := Lib.hid (show s91.length ≤ 2106 by rw [← hs91, List.length_append]; have h1 := (show (vecB 2 m.tic).length ≤ 2102 by rw [vecB_length]; have h0 := HS.out.2.2.1; omega); have h2 := (show (numB 4 m.age.toNat).length ≤ 4 from Nat.le_of_eq (numB_length 4 _)); omega)
                  have HT91 := Lib.hid hs91
                  clear hs91
                  obtain ⟨s93, hs93⟩ : ∃ s : List UInt8, (vecB 2 s91) ++ [0, 33, 32] = s := ⟨_, rfl⟩
                  have HTL93 := Lib.hid (show s93.length ≤ 2111 by rw [← hs93, List.length_append]; have h1 := (show (vecB 2 s91).length ≤ 2108 by rw [vecB_length]; have h0 := HTL91.out; omega); have h2 := (show ([0, 33, 32] : List UInt8).length ≤ 3 by decide); omega)
                  have HT93 := Lib.hid hs93
                  clear hs93
                  obtain ⟨s97, hs97⟩ : ∃ s : List UInt8, s93 ++ m.mark = s := ⟨_, rfl⟩
                  have HTL97 := Lib.hid (show s97.length ≤ 2143 by rw [← hs97, List.length_append]; have h1 := HTL93.out; have h2 := Nat.le_of_eq HL.out.2; omega)
                  have HT97 := Lib.hid hs97
                  clear hs97
                  obtain ⟨s99, hs99⟩ : ∃ s : List UInt8, s84 ++ (vecB 2 s97) = s := ⟨_, rfl⟩
                  have HTL99 := Lib.hid (show s99.length ≤ 4286 by rw [← hs99, List.length_append]; have h1 := HTL84.out; have h2 := (show (vecB 2 s97).length ≤ 2145 by rw [vecB_length]; have h0 := HTL97.out; omega); omega)
                  have HT99 := Lib.hid hs99
                  clear hs99
                  refine wp_region_noPanic ?_
                  refine wp_region_held_drew (S := fun V => Below wB.heap.size wB V) (by kernel_rfl) (by exact below_drewN (Below.refl _ _) 1) (fun hHeld => ?_)
                  refine wpT 0 ?_ rfl (by kernel_rfl) (by kernel_rfl) (by kernel_rfl) (fun _ _ _ h => h) (by rfl) ?_ hHeld ?_
                  rotate_left 1
                  · (intro W hSw; (try dsimp only at hSw); go_simp; try with_reducible rfl)
                  try simp only [Act.put, zSa, zSz, zSs]
                  refine wpT 1 ?_ rfl (by kernel_rfl) (by kernel_rfl) (by kernel_rfl) (fun _ _ _ h => h) (by rfl) ?_ hHeld ?_
                  rotate_left 1
                  · (intro W hSw; (try dsimp only at hSw); refine exec_catL (.tmp 83) (.const (.string { data := #[0, 45, 0, 2, 1, 1, 0, 41] })) ?_ (s80) ([0, 45, 0, 2, 1, 1, 0, 41]) s84 HT84.out ?_ ?_ (by have h1 := HTL80.out; have h2 := (show ([0, 45, 0, 2, 1, 1, 0, 41] : List UInt8).length ≤ 8 by decide); omega) <;> rfl)
                  try simp only [Act.put, zSa, zSz, zSs]
                  refine wpT 2 ?_ rfl (by kernel_rfl) (by kernel_rfl) (by kernel_rfl) (fun _ _ _ h => h) (by rfl) ?_ hHeld ?_
                  rotate_left 1
                  · (intro W hSw; (try dsimp only at hSw); go_simp; try with_reducible rfl)
                  try simp only [Act.put, zSa, zSz, zSs]
                  refine wpT 3 ?_ rfl (by kernel_rfl) (by kernel_rfl) (by kernel_rfl) (fun _ _ _ h => h) (by rfl) ?_ hHeld ?_
                  rotate_left 1
                  · (intro W hSw; (try dsimp only at hSw); have hcc := (HRB.out.below hSw).tic; go_simp; try with_reducible rfl)
                  try simp only [Act.put, zSa, zSz, zSs]
                  refine wpT 5 ?_ rfl (by kernel_rfl) (by kernel_rfl) (by kernel_rfl) (fun _ _ _ h => h) (by rfl) ?_ hHeld ?_
                  rotate_left 1
                  · (intro W hSw; (try dsimp only at hSw); go_simp; try with_reducible rfl)
                  try simp only [Act.put, zSa, zSz, zSs]
                  refine wpT 6 ?_ rfl (by kernel_rfl) (by kernel_rfl) (by kernel_rfl) (fun _ _ _ h => h) (by rfl) ?_ hHeld ?_
                  rotate_left 1
                  · (intro W hSw; (try dsimp only at hSw); have hcc := (HRB.out.below hSw).age; go_simp; try with_reducible rfl)
                  try simp only [Act.put, zSa, zSz, zSs]
                  refine wpT 11 ?_ rfl (by kernel_rfl) (by kernel_rfl) (by kernel_rfl) (fun _ _ _ h => h) (by rfl) ?_ hHeld ?_
                  rotate_left 1
                  · (intro W hSw; (try dsimp only at hSw); go_simp; try with_reducible rfl)
                  try simp only [Act.put, zSa, zSz, zSs]
                  refine wpT 12 ?_ rfl (by kernel_rfl) (by kernel_rfl) (by kernel_rfl) (fun _ _ _ h => h) (by rfl) ?_ hHeld ?_
                  rotate_left 1
                  · (intro W hSw; (try dsimp only at hSw); refine exec_rowOf (x := .tmp 94) (g := g1) (ob := 33) ?_ Tryd.underlying22 (fun w => size8 w) ?_ <;> rfl)
                  try simp only [Act.put, zSa, zSz, zSs]
                  refine wpT 13 ?_ rfl (by kernel_rfl) (by kernel_rfl) (by kernel_rfl) (fun _ _ _ h => h) (by rfl) ?_ hHeld ?_
                  rotate_left 1
                  · (intro W hSw; (try dsimp only at hSw); refine exec_strV (.tmp 95) ?_ m.mark _ ?_ (slV_range ((HRB.out.below hSw).mark) ((HRB.out.below hSw).lt) HL.out.2) <;> rfl)
                  try simp only [Act.put, zSa, zSz, zSs]
                  refine wpAnyH_ready (rs := [4]) (by kernel_rfl) (by simp) ?_
                  refine AllReadyH.cons (o := ⟨_, _, _, _, _, _⟩) rfl (fun K hK => ?_) AllReadyH.nil
                  go_simp
                  go_at_call 25
                  refine (vec_2 (m.tic) _ (by have h1 := HS.out.2.2.1; omega)).mono ?_
                  rintro e wq1 ⟨rfl, hbn⟩
                  try go_wp2_with fail
                  refine hK.out _ _ (hHeld.trans (hbn.mono hHeld.size)) (fun hHeld => ?_)
                  clear hK K hbn
                  try simp only [Act.put, zSa, zSz, zSs]
                  refine wpAnyH_ready (rs := [7]) (by kernel_rfl) (by simp) ?_
                  refine AllReadyH.cons (o := ⟨_, _, _, _, _, _⟩) rfl (fun K hK => ?_) AllReadyH.nil
                  go_simp
                  go_at_call 41
                  refine (numI_4 m.age _ HW_age.out).mono ?_
                  rintro e wq2 ⟨rfl, hbn⟩
                  try go_wp2_with fail
                  refine hK.out _ _ (hHeld.trans (hbn.mono hHeld.size)) (fun hHeld => ?_)
                  clear hK K hbn
                  try simp only [Act.put, zSa, zSz, zSs]
                  refine wpT 8 ?_ rfl (by kernel_rfl) (by kernel_rfl) (by kernel_rfl) (fun _ _ _ h => h) (by rfl) ?_ hHeld ?_
                  rotate_left 1
                  · (intro W hSw; (try dsimp only at hSw); refine exec_catL (.tmp 87) (.tmp 90) ?_ ((vecB 2 m.tic)) ((numB 4 m.age.toNat)) s91 HT91.out ?_ ?_ (by have h1 := (show (vecB 2 m.tic).length ≤ 2102 by rw [vecB_length]; have h0 := HS.out.2.2.1; omega); have h2 := (show (numB 4 m.age.toNat).length ≤ 4 from Nat.le_of_eq (numB_length 4 _)); omega) <;> rfl)
                  try simp only [Act.put, zSa, zSz, zSs]
                  refine wpAnyH_ready (rs := [9]) (by kernel_rfl) (by simp) ?_
                  refine AllReadyH.cons (o := ⟨_, _, _, _, _, _⟩) rfl (fun K hK => ?_) AllReadyH.nil
                  go_simp
                  go_at_call 25
                  refine (vec_2 (s91) _ (by have h1 := HTL91.out; omega)).mono ?_
                  rintro e wq3 ⟨rfl, hbn⟩
                  try go_wp2_with fail
                  refine hK.out _ _ (hHeld.trans (hbn.mono hHeld.size)) (fun hHeld => ?_)
                  clear hK K hbn
                  try simp only [Act.put, zSa, zSz, zSs]
                  refine wpT 10 ?_ rfl (by kernel_rfl) (by kernel_rfl) (by kernel_rfl) (fun _ _ _ h => h) (by rfl) ?_ hHeld ?_
                  rotate_left 1
                  · (intro W hSw; (try dsimp only at hSw); refine exec_catL (.tmp 92) (.const (.string { data := #[0, 33, 32] })) ?_ ((vecB 2 s91)) ([0, 33, 32]) s93 HT93.out ?_ ?_ (by have h1 := (show (vecB 2 s91).length ≤ 2108 by rw [vecB_length]; have h0 := HTL91.out; omega); have h2 := (show ([0, 33, 32] : List UInt8).length ≤ 3 by decide); omega) <;> rfl)
                  try simp only [Act.put, zSa, zSz, zSs]
                  refine wpT 14 ?_ rfl (by kernel_rfl) (by kernel_rfl) (by kernel_rfl) (fun _ _ _ h => h) (by rfl) ?_ hHeld ?_
                  rotate_left 1
                  · (intro W hSw; (try dsimp only at hSw); refine exec_catL (.tmp 93) (.tmp 96) ?_ (s93) (m.mark) s97 HT97.out ?_ ?_ (by have h1 := HTL93.out; have h2 := Nat.le_of_eq HL.out.2; omega) <;> rfl)
                  try simp only [Act.put, zSa, zSz, zSs]
                  refine wpAnyH_ready (rs := [15]) (by kernel_rfl) (by simp) ?_
                  refine AllReadyH.cons (o := ⟨_, _, _, _, _, _⟩) rfl (fun K hK => ?_) AllReadyH.nil
                  go_simp
                  go_at_call 25
                  refine (vec_2 (s97) _ (by have h1 := HTL97.out; omega)).mono ?_
                  rintro e wq4 ⟨rfl, hbn⟩
                  try go_wp2_with fail
                  refine hK.out _ _ (hHeld.trans (hbn.mono hHeld.size)) (fun hHeld => ?_)
                  clear hK K hbn
                  try simp only [Act.put, zSa, zSz, zSs]
                  refine wpT 16 ?_ rfl (by kernel_rfl) (by kernel_rfl) (by kernel_rfl) (fun _ _ _ h => h) (by rfl) ?_ hHeld ?_
                  rotate_left 1
                  · (intro W hSw; (try dsimp only at hSw); refine exec_catL (.tmp 84) (.tmp 98) ?_ (s84) ((vecB 2 s97)) s99 HT99.out ?_ ?_ (by have h1 := HTL84.out; have h2 := (show (vecB 2 s97).length ≤ 2145 by rw [vecB_length]; have h0 := HTL97.out; omega); omega) <;> rfl)
                  try simp only [Act.put, zSa, zSz, zSs]
                  refine wpT 17 ?_ rfl (by kernel_rfl) (by kernel_rfl) (by kernel_rfl) (fun _ _ _ h => h) (by rfl) ?_ hHeld ?_
                  rotate_left 1
                  · (intro W hSw; (try dsimp only at hSw); go_simp; try with_reducible rfl)
                  try simp only [Act.put, zSa, zSz, zSs]
                  refine wpAnyH_done (by kernel_rfl) ?_ _
                  refine NoPanic.normal ?_
                  have hbx := HBB.out.trans (hHeld.mono HBB.out.size)
                  have bx9 := HXB.out.below hHeld HXB.out.lt
                  clear hHeld
                  go_upto_region 15 with (fail)
                  have HRB := Lib.hid (HM.out.below hbx)
                  have HXB := Lib.hid bx9
                  have HSB := Lib.hid (HSR.out.below hbx)
                  have HBB := Lib.hid hbx
                  clear hbx bx9
                  generalize hwB : wq4 = wB at *
                  clear hwB
                  obtain ⟨s103, hs103⟩ : ∃ s : List UInt8, [3, 3] ++ m.rnd = s := ⟨_, rfl⟩
                  have HTL103 := Lib.hid (show s103.length ≤ 34 by rw [← hs103, List.length_append]; have h1 := (show ([3, 3] : List UInt8).length ≤ 2 by decide); have h2 := Nat.le_of_eq HL.out.1; omega)
                  have HT103 := Lib.hid hs103
                  clear hs103
                  obtain ⟨s107, hs107⟩ : ∃ s : List UInt8, s103 ++ (vecB 1 m.ses) = s := ⟨_, rfl⟩
                  have HTL107 := Lib.hid (show s107.length ≤ 2135 by rw [← hs107, List.length_append]; have h1 := HTL103.out; have h2 := (show (vecB 1 m.ses).length ≤ 2101 by rw [vecB_length]; have h0 := HS.out.1; omega); omega)
                  have HT107 := Lib.hid hs107
                  clear hs107
                  obtain ⟨s108, hs108⟩ : ∃ s : List UInt8, s107 ++ [0, 2, 19, 1, 1, 0] = s := ⟨_, rfl⟩
                  have HTL108 := Lib.hid (show s108.length ≤ 2141 by rw [← hs108, List.length_append]; have h1 := HTL107.out; have h2 := (show ([0, 2, 19, 1, 1, 0] : List UInt8).length ≤ 6 by decide); omega)
                  have HT108 := Lib.hid hs108
                  clear hs108
                  obtain ⟨s111, hs111⟩ : ∃ s : List UInt8, s108 ++ (vecB 2 s99) = s := ⟨_, rfl⟩
                  have HTL111 := Lib.hid (show s111.length ≤ 6429 by rw [← hs111, List.length_append]; have h1 := HTL108.out; have h2 := (show (vecB 2 s99).length ≤ 4288 by rw [vecB_length]; have h0 := HTL99.out; omega); omega)
                  have HT111 := Lib.hid hs111
                  clear hs111
                  refine wp_region_noPanic ?_
                  refine wp_region_held_drew (S := fun V => Below wB.heap.size wB V) (by kernel_rfl) (by exact below_drewN (Below.refl _ _) 1) (fun hHeld => ?_)
                  refine wpT 0 ?_ rfl (by kernel_rfl) (by kernel_rfl) (by kernel_rfl) (fun _ _ _ h => h) (by rfl) ?_ hHeld ?_
                  rotate_left 1
                  · (intro W hSw; (try dsimp only at hSw); go_simp; try with_reducible rfl)
                  try simp only [Act.put, zSa, zSz, zSs]
                  refine wpT 1 ?_ rfl (by kernel_rfl) (by kernel_rfl) (by kernel_rfl) (fun _ _ _ h => h) (by rfl) ?_ hHeld ?_
                  rotate_left 1
                  · (intro W hSw; (try dsimp only at hSw); refine exec_rowOf (x := .tmp 100) (g := g1) (ob := 1) ?_ Tryd.underlying22 (fun w => size8 w) ?_ <;> rfl)
                  try simp only [Act.put, zSa, zSz, zSs]
                  refine wpT 2 ?_ rfl (by kernel_rfl) (by kernel_rfl) (by kernel_rfl) (fun _ _ _ h => h) (by rfl) ?_ hHeld ?_
                  rotate_left 1
                  · (intro W hSw; (try dsimp only at hSw); refine exec_strV (.tmp 101) ?_ m.rnd _ ?_ (slV_range ((HRB.out.below hSw).rnd) ((HRB.out.below hSw).lt) HL.out.1) <;> rfl)
                  try simp only [Act.put, zSa, zSz, zSs]
                  refine wpT 3 ?_ rfl (by kernel_rfl) (by kernel_rfl) (by kernel_rfl) (fun _ _ _ h => h) (by rfl) ?_ hHeld ?_
                  rotate_left 1
                  · (intro W hSw; (try dsimp only at hSw); refine exec_catL (.const (.string { data := #[3, 3] })) (.tmp 102) ?_ ([3, 3]) (m.rnd) s103 HT103.out ?_ ?_ (by have h1 := (show ([3, 3] : List UInt8).length ≤ 2 by decide); have h2 := Nat.le_of_eq HL.out.1; omega) <;> rfl)
                  try simp only [Act.put, zSa, zSz, zSs]
                  refine wpT 4 ?_ rfl (by kernel_rfl) (by kernel_rfl) (by kernel_rfl) (fun _ _ _ h => h) (by rfl) ?_ hHeld ?_
                  rotate_left 1
                  · (intro W hSw; (try dsimp only at hSw); go_simp; try with_reducible rfl)
                  try simp only [Act.put, zSa, zSz, zSs]
                  refine wpT 5 ?_ rfl (by kernel_rfl) (by kernel_rfl) (by kernel_rfl) (fun _ _ _ h => h) (by rfl) ?_ hHeld ?_
                  rotate_left 1
                  · (intro W hSw; (try dsimp only at hSw); have hcc := (HRB.out.below hSw).ses; go_simp; try with_reducible rfl)
                  try simp only [Act.put, zSa, zSz, zSs]
                  refine wpT 9 ?_ rfl (by kernel_rfl) (by kernel_rfl) (by kernel_rfl) (fun _ _ _ h => h) (by rfl) ?_ hHeld ?_
                  rotate_left 1
                  · (intro W hSw; (try dsimp only at hSw); go_simp; try with_reducible rfl)
                  try simp only [Act.put, zSa, zSz, zSs]
                  refine wpAnyH_ready (rs := [6]) (by kernel_rfl) (by simp) ?_
                  refine AllReadyH.cons (o := ⟨_, _, _, _, _, _⟩) rfl (fun K hK => ?_) AllReadyH.nil
                  go_simp
                  go_at_call 25
                  refine (vec_1 (m.ses) _ (by have h1 := HS.out.1; omega)).mono ?_
                  rintro e wq1 ⟨rfl, hbn⟩
                  try go_wp2_with fail
                  refine hK.out _ _ (hHeld.trans (hbn.mono hHeld.size)) (fun hHeld => ?_)
                  clear hK K hbn
                  try simp only [Act.put, zSa, zSz, zSs]
                  refine wpT 7 ?_ rfl (by kernel_rfl) (by kernel_rfl) (by kernel_rfl) (fun _ _ _ h => h) (by rfl) ?_ hHeld ?_
                  rotate_left 1
                  · (intro W hSw; (try dsimp only at hSw); refine exec_catL (.tmp 103) (.tmp 106) ?_ (s103) ((vecB 1 m.ses)) s107 HT107.out ?_ ?_ (by have h1 := HTL103.out; have h2 := (show (vecB 1 m.ses).length ≤ 2101 by rw [vecB_length]; have h0 := HS.out.1; omega); omega) <;> rfl)
                  try simp only [Act.put, zSa, zSz, zSs]
                  refine wpT 8 ?_ rfl (by kernel_rfl) (by kernel_rfl) (by kernel_rfl) (fun _ _ _ h => h) (by rfl) ?_ hHeld ?_
                  rotate_left 1
                  · (intro W hSw; (try dsimp only at hSw); refine exec_catL (.tmp 107) (.const (.string { data := #[0, 2, 19, 1, 1, 0] })) ?_ (s107) ([0, 2, 19, 1, 1, 0]) s108 HT108.out ?_ ?_ (by have h1 := HTL107.out; have h2 := (show ([0, 2, 19, 1, 1, 0] : List UInt8).length ≤ 6 by decide); omega) <;> rfl)
                  try simp only [Act.put, zSa, zSz, zSs]
                  refine wpAnyH_ready (rs := [10]) (by kernel_rfl) (by simp) ?_
                  refine AllReadyH.cons (o := ⟨_, _, _, _, _, _⟩) rfl (fun K hK => ?_) AllReadyH.nil
                  go_simp
                  go_at_call 25
                  refine (vec_2 (s99) _ (by have h1 := HTL99.out; omega)).mono ?_
                  rintro e wq2 ⟨rfl, hbn⟩
                  try go_wp2_with fail
                  refine hK.out _ _ (hHeld.trans (hbn.mono hHeld.size)) (fun hHeld => ?_)
                  clear hK K hbn
                  try simp only [Act.put, zSa, zSz, zSs]
                  refine wpT 11 ?_ rfl (by kernel_rfl) (by kernel_rfl) (by kernel_rfl) (fun _ _ _ h => h) (by rfl) ?_ hHeld ?_
                  rotate_left 1
                  · (intro W hSw; (try dsimp only at hSw); refine exec_catL (.tmp 108) (.tmp 110) ?_ (s108) ((vecB 2 s99)) s111 HT111.out ?_ ?_ (by have h1 := HTL108.out; have h2 := (show (vecB 2 s99).length ≤ 4288 by rw [vecB_length]; have h0 := HTL99.out; omega); omega) <;> rfl)
                  try simp only [Act.put, zSa, zSz, zSs]
                  refine wpT 12 ?_ rfl (by kernel_rfl) (by kernel_rfl) (by kernel_rfl) (fun _ _ _ h => h) (by rfl) ?_ hHeld ?_
                  rotate_left 1
                  · (intro W hSw; (try dsimp only at hSw); go_simp; try with_reducible rfl)
                  try simp only [Act.put, zSa, zSz, zSs]
                  refine wpT 13 ?_ rfl (by kernel_rfl) (by kernel_rfl) (by kernel_rfl) (fun _ _ _ h => h) (by rfl) ?_ hHeld ?_
                  rotate_left 1
                  · (intro W hSw; (try dsimp only at hSw); go_simp; try with_reducible rfl)
                  try simp only [Act.put, zSa, zSz, zSs]
                  refine wpAnyH_done (by kernel_rfl) ?_ _
                  refine NoPanic.normal ?_
                  have hbe := HB1.out.trans ((HBB.out.trans (hHeld.mono HBB.out.size)).mono HB1.out.size)
                  go_wp2
                  go_ret2
                  have hF : formM m = true := by rw [rform_1p HK.out HB_psk.out, HBF.out, decide_eq_true (show m.ses.length ≤ 32 by have := HC_sesgt32.out; omega), decide_eq_false (show ¬ (m.sha.length = 0) by have := HC_shane0.out; omega), decide_eq_true (show m.sha.length = 65 by have := HC_shane65.out; omega), decide_eq_true (show 1 ≤ m.tic.length by have := HC_ticlt1.out; omega), decide_eq_true (show m.tic.length ≤ 1000 by have := HC_ticgt1000.out; omega), HW_age.out]; rfl
                  refine ⟨_, by rw [hF]; rfl, fun _ => ?_, hbe⟩
                  rw [← HT111.out, ← HT108.out, ← HT107.out, ← HT103.out, ← HT99.out, ← HT97.out, ← HT93.out, ← HT91.out, ← HT84.out, ← HT80.out, ← HT76.out, bodyM, HK.out]
                  simp [clientB, offeredB, sharesB, abil, HB_psk.out, HE0.out, List.append_assoc]
              | false =>
                have HW_age := Lib.hid hw
                clear hw
                as_aux_lemma =>
                  refine wp_region_lit ?_
                  refine wpList_load_mid rfl 25 (.tmp 4) rfl g4 0 rfl (rC mx7 vc) _ (rangeAt_of_blk bx7) Tryd.underlying25 rfl (infoR.trans (by rw [len_rC (m := mx7) HXL7.out])) ?_
                  try simp only [Act.put, zSa, zSz, zSs]
                  refine wpList_plain rfl (fun K hK0 => ?_)
                  have hK := Lib.hid hK0
                  clear hK0
                  go_simp
                  go_at_call 39
                  refine (bare_e mx7 (rC mx7 vc) _ ⟨HXL7.out, vc, rfl, by rw [HXC7.out]; exact HSR.out.below hbx⟩).mono ?_
                  rintro e w9 ⟨rfl, hb9⟩
                  try go_wp2_with fail
                  refine hK.out _ _ ?_
                  clear hK K
                  try simp only [Act.put, zSa, zSz, zSs]
                  replace hbx := hbx.trans (hb9.mono hbx.size)
                  have bx9 := bx7.below hb9 bx7.lt
                  clear hb9 bx7
                  rw [HBARE.out]
                  have c_psk := ((HM.out.below hbx).psk).trans (by rw [HB_psk.out])
                  have c_ses := (HM.out.below hbx).ses
                  have c_sha := (HM.out.below hbx).sha
                  have c_tic := (HM.out.below hbx).tic
                  have c_age := (HM.out.below hbx).age
                  have hz_ses := HZ_ses.out
                  have hz_sha := HZ_sha.out
                  have hz_tic := HZ_tic.out
                  have hv_sesgt32 := HV_sesgt32.out.1
                  have hw_sesgt32 := HV_sesgt32.out.2
                  have hv_shane0 := HV_shane0.out.1
                  have hw_shane0 := HV_shane0.out.2.1
                  have hx_shane0 := HV_shane0.out.2.2.1
                  have hy_shane0 := HV_shane0.out.2.2.2
                  have hv_shane65 := HV_shane65.out.1
                  have hw_shane65 := HV_shane65.out.2.1
                  have hx_shane65 := HV_shane65.out.2.2.1
                  have hy_shane65 := HV_shane65.out.2.2.2
                  have hv_ticlt1 := HV_ticlt1.out.1
                  have hw_ticlt1 := HV_ticlt1.out.2
                  have hv_ticgt1000 := HV_ticgt1000.out.1
                  have hw_ticgt1000 := HV_ticgt1000.out.2
                  go_wp2_with (first
                      | (go_at_call 40; refine (rwide_e m.age _).mono ?_; rintro e wz ⟨rfl, hww⟩; have hw2 := hww.symm; subst hw2; rw [HW_age.out]))
                  go_ret2
                  have hF : formM m = false := by rw [rform_1p HK.out HB_psk.out, HBF.out, decide_eq_true (show m.ses.length ≤ 32 by have := HC_sesgt32.out; omega), decide_eq_false (show ¬ (m.sha.length = 0) by have := HC_shane0.out; omega), decide_eq_true (show m.sha.length = 65 by have := HC_shane65.out; omega), decide_eq_true (show 1 ≤ m.tic.length by have := HC_ticlt1.out; omega), decide_eq_true (show m.tic.length ≤ 1000 by have := HC_ticgt1000.out; omega), HW_age.out]; rfl
                  exact ⟨[], by rw [hF]; rfl, fun hf => absurd hf (by rw [hF]; decide), HB1.out.trans (hbx.mono HB1.out.size)⟩
        · have HC_shane65 := Lib.hid hc
          have HV_shane65 := Lib.hid (show decide ((n_sha : Int) = (65 : Int)) = false ∧ decide (n_sha = 65) = false ∧ (((n_sha : Int) != (65 : Int)) = true ∧ (n_sha != 65) = true) from ⟨decide_eq_false (by have h1 := HN_sha.out; have h2 := HC_shane65.out; omega), decide_eq_false (by have h1 := HN_sha.out; have h2 := HC_shane65.out; omega), bne_iff_ne.2 (by have h1 := HN_sha.out; have h2 := HC_shane65.out; omega), bne_iff_ne.2 (by have h1 := HN_sha.out; have h2 := HC_shane65.out; omega)⟩)
          clear hc
          as_aux_lemma =>
            refine wp_region_lit ?_
            refine wpList_load_mid rfl 25 (.tmp 4) rfl g4 0 rfl (rC mx7 vc) _ (rangeAt_of_blk bx7) Tryd.underlying25 rfl (infoR.trans (by rw [len_rC (m := mx7) HXL7.out])) ?_
            try simp only [Act.put, zSa, zSz, zSs]
            refine wpList_plain rfl (fun K hK0 => ?_)
            have hK := Lib.hid hK0
            clear hK0
            go_simp
            go_at_call 39
            refine (bare_e mx7 (rC mx7 vc) _ ⟨HXL7.out, vc, rfl, by rw [HXC7.out]; exact HSR.out.below hbx⟩).mono ?_
            rintro e w9 ⟨rfl, hb9⟩
            try go_wp2_with fail
            refine hK.out _ _ ?_
            clear hK K
            try simp only [Act.put, zSa, zSz, zSs]
            replace hbx := hbx.trans (hb9.mono hbx.size)
            have bx9 := bx7.below hb9 bx7.lt
            clear hb9 bx7
            rw [HBARE.out]
            have c_psk := ((HM.out.below hbx).psk).trans (by rw [HB_psk.out])
            have c_ses := (HM.out.below hbx).ses
            have c_sha := (HM.out.below hbx).sha
            have c_tic := (HM.out.below hbx).tic
            have c_age := (HM.out.below hbx).age
            have hz_ses := HZ_ses.out
            have hz_sha := HZ_sha.out
            have hz_tic := HZ_tic.out
            have hv_sesgt32 := HV_sesgt32.out.1
            have hw_sesgt32 := HV_sesgt32.out.2
            have hv_shane0 := HV_shane0.out.1
            have hw_shane0 := HV_shane0.out.2.1
            have hx_shane0 := HV_shane0.out.2.2.1
            have hy_shane0 := HV_shane0.out.2.2.2
            have hv_shane65 := HV_shane65.out.1
            have hw_shane65 := HV_shane65.out.2.1
            have hx_shane65 := HV_shane65.out.2.2.1
            have hy_shane65 := HV_shane65.out.2.2.2
            go_wp2_with (first
                | (go_at_call 40; refine (rwide_e m.age _).mono ?_; rintro e wz ⟨rfl, hww⟩; have hw2 := hww.symm; subst hw2; rw [HW_age.out]))
            go_ret2
            have hF : formM m = false := by rw [rform_1p HK.out HB_psk.out, HBF.out, decide_eq_true (show m.ses.length ≤ 32 by have := HC_sesgt32.out; omega), decide_eq_false (show ¬ (m.sha.length = 0) by have := HC_shane0.out; omega), decide_eq_false (show ¬ (m.sha.length = 65) by have := HC_shane65.out; omega)]; rfl
            exact ⟨[], by rw [hF]; rfl, fun hf => absurd hf (by rw [hF]; decide), HB1.out.trans (hbx.mono HB1.out.size)⟩
end Go.Proofs.YtagblbfbjemfhaaDoor
