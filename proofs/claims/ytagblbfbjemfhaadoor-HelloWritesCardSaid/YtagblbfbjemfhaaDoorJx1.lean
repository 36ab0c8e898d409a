/-
  The reference's Body, the kinds 4 and 11.
-/
import Derived.Test.YtagblbfbjemfhaaDoorJw
namespace Go.Proofs.YtagblbfbjemfhaaDoor
section
open Go.RowKit
open HelloMath (Msg zero32 some8 special formM bodyM okM fitM okF sized wide numB numB_length vecB vecB_length ticketB clientB sharesB offeredB abil)

theorem rform_4 {m : Msg} (hk : m.kind = 4) : formM m = (bareM ({ m with life := 0, age := 0, non := [], tic := [] }) && (wide m.life && (wide m.age && ((decide (1 ≤ m.non.length) && decide (m.non.length ≤ 8)) && (decide (1 ≤ m.tic.length) && decide (m.tic.length ≤ 1000)))))) := by
  unfold formM okM fitM okF bareM sized
  rw [hk]
  simp [some8, bne, Bool.and_assoc]
set_option maxRecDepth 100000 in
set_option maxHeartbeats 40000000 in
theorem rbody_4 (m : Msg) (cs : List Value) (w : World) (h : RIn w m cs) (hs : Small m) (hk : m.kind = 4) : Calls Tryd.prog 24 #[.agg cs.toArray] w (BodyP m w) := by
  have HL := Lib.hid h.1
  have HS := Lib.hid hs
  have HK := Lib.hid hk
  clear hs hk
  go_enter Tryd.func24, Tryd.ntmps24
  go_upto_region 0 with (fail)
  refine wp_region_lit ?_
  refine wpList_plain rfl (fun K hK => ?_)
  go_simp
  refine hK _ _ ?_
  clear hK K
  have hb1 : Below w.heap.size w (w.alloc (.cells cs.toArray 25)) := (Below.refl _ _).alloc (Nat.le_refl _) _
  have b1 := Blk.new w 25 cs
  have hr1 := h.below hb1
  clear h
  obtain ⟨g1, hg1⟩ : ∃ g, g = w.heap.size := ⟨_, rfl⟩
  rw [← hg1] at b1
  simp only [← hg1]
  clear hg1
  generalize w.alloc (.cells cs.toArray 25) = w1 at *
  try simp only [Act.put, zSa, zSz, zSs]
  refine wpList_plain rfl (fun K hK => ?_)
  go_simp
  refine hK _ _ ?_
  clear hK K
  try simp only [Act.put, zSa, zSz, zSs]
  refine wpList_plain rfl (fun K hK => ?_)
  go_simp
  refine hK _ _ ?_
  clear hK K
  try simp only [Act.put, zSa, zSz, zSs]
  go_upto_region 1 with (fail)
  refine wp_region_lit ?_
  refine wpList_load_mid rfl 25 (.tmp 1) rfl g1 0 rfl cs _ (rangeAt_of_blk b1) Tryd.underlying25 rfl (infoR.trans (by rw [hr1.len])) ?_
  try simp only [Act.put, zSa, zSz, zSs]
  refine wpList_new_blk rfl 25 rfl _ zeroR ?_
  intro g4 w2 hg4 b4 hb2
  try simp only [Act.put, zSa, zSz, zSs]
  refine wpList_store_blk rfl 25 (.tmp 4) (.tmp 11) rfl rfl g4 cs rfl rfl _ _ b4 (infoR.trans (by rw [hr1.len])) (by rw [hr1.len]; rfl) hr1.one ?_
  intro w3 b43 hg3
  try simp only [Act.put, zSa, zSz, zSs]
  have HG4 := Lib.hid (Nat.le_of_eq hg4.symm)
  have hbx : Below w1.heap.size w1 w3 := hb2.trans (grown_below hg3 HG4.out hb2.size)
  have HM := Lib.hid (show RAt w1 g1 m from ⟨cs, b1, hr1⟩)
  have HB1 := Lib.hid hb1
  obtain ⟨-, vc, hcs, hsr⟩ := hr1
  have HSR := Lib.hid hsr
  simp only [hcs] at b43 ⊢
  clear hb1 b1 hg4 b4 hb2 hg3 hsr hcs
  have hcc := (HM.out.below hbx).kind
  rw [HK.out] at hcc
  go_upto_region 3 with (fail)
  clear hcc
  go_upto_region 29 with (fail)
  refine wp_region_lit ?_
  refine wpList_plain rfl (fun K hK => ?_)
  go_simp
  refine hK _ _ ?_
  clear hK K
  try simp only [Act.put, zSa, zSz, zSs]
  refine wpList_store_one rfl 3 (.tmp 196) _ rfl rfl g4 71 (.int .i64 0) rfl rfl rfl _ _ b43 (by kernel_rfl) (by rw [len_rC (m := m) HL.out]; decide) rfl ?_
  intro wx1 bx1 hgs
  rw [rC_life (m := m) HL.out] at bx1
  obtain ⟨mx1, hmx1⟩ : ∃ y, y = { m with life := 0 } := ⟨_, rfl⟩
  rw [← hmx1] at bx1
  have hlmx1 : mx1.rnd.length = 32 ∧ mx1.mark.length = 32 := by rw [hmx1]; exact HL.out
  try simp only [Act.put, zSa, zSz, zSs]
  replace hbx := hbx.trans (grown_below hgs HG4.out hbx.size)
  clear hgs b43
  refine wpList_plain rfl (fun K hK => ?_)
  go_simp
  refine hK _ _ ?_
  clear hK K
  try simp only [Act.put, zSa, zSz, zSs]
  refine wpList_store_one rfl 3 (.tmp 197) _ rfl rfl g4 72 (.int .i64 0) rfl rfl rfl _ _ bx1 (by kernel_rfl) (by rw [len_rC (m := mx1) hlmx1]; decide) rfl ?_
  intro wx2 bx2 hgs
  rw [rC_age (m := mx1) hlmx1] at bx2
  obtain ⟨mx2, hmx2⟩ : ∃ y, y = { mx1 with age := 0 } := ⟨_, rfl⟩
  rw [← hmx2] at bx2
  have hlmx2 : mx2.rnd.length = 32 ∧ mx2.mark.length = 32 := by rw [hmx2]; exact hlmx1
  try simp only [Act.put, zSa, zSz, zSs]
  replace hbx := hbx.trans (grown_below hgs HG4.out hbx.size)
  clear hgs bx1
  refine wpList_plain rfl (fun K hK => ?_)
  go_simp
  refine hK _ _ ?_
  clear hK K
  try simp only [Act.put, zSa, zSz, zSs]
  refine wpList_store_one rfl 9 (.tmp 198) _ rfl rfl g4 68 (TX []) rfl rfl rfl _ _ bx2 (by kernel_rfl) (by rw [len_rC (m := mx2) hlmx2]; decide) rfl ?_
  intro wx3 bx3 hgs
  rw [rC_non (m := mx2) hlmx2] at bx3
  obtain ⟨mx3, hmx3⟩ : ∃ y, y = { mx2 with non := [] } := ⟨_, rfl⟩
  rw [← hmx3] at bx3
  have hlmx3 : mx3.rnd.length = 32 ∧ mx3.mark.length = 32 := by rw [hmx3]; exact hlmx2
  try simp only [Act.put, zSa, zSz, zSs]
  replace hbx := hbx.trans (grown_below hgs HG4.out hbx.size)
  clear hgs bx2
  refine wpList_plain rfl (fun K hK => ?_)
  go_simp
  refine hK _ _ ?_
  clear hK K
  try simp only [Act.put, zSa, zSz, zSs]
  refine wpList_store_one rfl 9 (.tmp 199) _ rfl rfl g4 67 (TX []) rfl rfl rfl _ _ bx3 (by kernel_rfl) (by rw [len_rC (m := mx3) hlmx3]; decide) rfl ?_
  intro wx4 bx4 hgs
  rw [rC_tic (m := mx3) hlmx3] at bx4
  obtain ⟨mx4, hmx4⟩ : ∃ y, y = { mx3 with tic := [] } := ⟨_, rfl⟩
  rw [← hmx4] at bx4
  have hlmx4 : mx4.rnd.length = 32 ∧ mx4.mark.length = 32 := by rw [hmx4]; exact hlmx3
  try simp only [Act.put, zSa, zSz, zSs]
  replace hbx := hbx.trans (grown_below hgs HG4.out hbx.size)
  clear hgs bx3
  have hxm : mx4 = { m with life := 0, age := 0, non := [], tic := [] } := by subst hmx1 hmx2 hmx3 hmx4; rfl
  have HXM4 := Lib.hid hxm
  have HXL4 := Lib.hid hlmx4
  have HXC4 := Lib.hid (show mx4.certs = m.certs by rw [hxm])
  clear hxm hmx1 hmx2 hmx3 hmx4 hlmx1 hlmx2 hlmx3 hlmx4
  obtain ⟨n_non, hn_non⟩ : ∃ n, m.non.length = n := ⟨_, rfl⟩
  have HZ_non := Lib.hid (show (⟨m.non.toArray⟩ : ByteArray).size = n_non from hn_non)
  have HN_non := Lib.hid hn_non
  clear hn_non
  obtain ⟨n_tic, hn_tic⟩ : ∃ n, m.tic.length = n := ⟨_, rfl⟩
  have HZ_tic := Lib.hid (show (⟨m.tic.toArray⟩ : ByteArray).size = n_tic from hn_tic)
  have HN_tic := Lib.hid hn_tic
  clear hn_tic
  go_upto_region 30 with (fail)
  cases hbv : bareM ({ m with life := 0, age := 0, non := [], tic := [] }) with
  | false =>
    have HBF := Lib.hid hbv
    have HBARE := Lib.hid (show bareM mx4 = false by rw [HXM4.out]; exact hbv)
    clear hbv
    as_aux_lemma =>
      refine wp_region_lit ?_
      refine wpList_load_mid rfl 25 (.tmp 4) rfl g4 0 rfl (rC mx4 vc) _ (rangeAt_of_blk bx4) Tryd.underlying25 rfl (infoR.trans (by rw [len_rC (m := mx4) HXL4.out])) ?_
      try simp only [Act.put, zSa, zSz, zSs]
      refine wpList_plain rfl (fun K hK0 => ?_)
      have hK := Lib.hid hK0
      clear hK0
      go_simp
      go_at_call 39
      refine (bare_e mx4 (rC mx4 vc) _ ⟨HXL4.out, vc, rfl, by rw [HXC4.out]; exact HSR.out.below hbx⟩).mono ?_
      rintro e w9 ⟨rfl, hb9⟩
      try go_wp2_with fail
      refine hK.out _ _ ?_
      clear hK K
      try simp only [Act.put, zSa, zSz, zSs]
      replace hbx := hbx.trans (hb9.mono hbx.size)
      have bx9 := bx4.below hb9 bx4.lt
      clear hb9 bx4
      rw [HBARE.out]
      have c_life := (HM.out.below hbx).life
      have c_age := (HM.out.below hbx).age
      have c_non := (HM.out.below hbx).non
      have c_tic := (HM.out.below hbx).tic
      have hz_non := HZ_non.out
      have hz_tic := HZ_tic.out
      go_wp2
      go_ret2
      have hF : formM m = false := by rw [rform_4 HK.out, HBF.out]; rfl
      exact ⟨[], by rw [hF]; rfl, fun hf => absurd hf (by rw [hF]; decide), HB1.out.trans (hbx.mono HB1.out.size)⟩
  | true =>
    have HBF := Lib.hid hbv
    have HBARE := Lib.hid (show bareM mx4 = true by rw [HXM4.out]; exact hbv)
    clear hbv
    cases hw : HelloMath.wide m.life with
    | true =>
      have HW_life := Lib.hid hw
      clear hw
      cases hw : HelloMath.wide m.age with
      | true =>
        have HW_age := Lib.hid hw
        clear hw
        by_cases hc : m.non.length < 1
        · have HC_nonlt1 := Lib.hid hc
          have HV_nonlt1 := Lib.hid (show decide ((n_non : Int) < (1 : Int)) = true ∧ decide (n_non < 1) = true from ⟨decide_eq_true (by have h1 := HN_non.out; have h2 := HC_nonlt1.out; omega), decide_eq_true (by have h1 := HN_non.out; have h2 := HC_nonlt1.out; omega)⟩)
          clear hc
          as_aux_lemma =>
            refine wp_region_lit ?_
            refine wpList_load_mid rfl 25 (.tmp 4) rfl g4 0 rfl (rC mx4 vc) _ (rangeAt_of_blk bx4) Tryd.underlying25 rfl (infoR.trans (by rw [len_rC (m := mx4) HXL4.out])) ?_
            try simp only [Act.put, zSa, zSz, zSs]
            refine wpList_plain rfl (fun K hK0 => ?_)
            have hK := Lib.hid hK0
            clear hK0
            go_simp
            go_at_call 39
            refine (bare_e mx4 (rC mx4 vc) _ ⟨HXL4.out, vc, rfl, by rw [HXC4.out]; exact HSR.out.below hbx⟩).mono ?_
            rintro e w9 ⟨rfl, hb9⟩
            try go_wp2_with fail
            refine hK.out _ _ ?_
            clear hK K
            try simp only [Act.put, zSa, zSz, zSs]
            replace hbx := hbx.trans (hb9.mono hbx.size)
            have bx9 := bx4.below hb9 bx4.lt
            clear hb9 bx4
            rw [HBARE.out]
            have c_life := (HM.out.below hbx).life
            have c_age := (HM.out.below hbx).age
            have c_non := (HM.out.below hbx).non
            have c_tic := (HM.out.below hbx).tic
            have hz_non := HZ_non.out
            have hz_tic := HZ_tic.out
            have hv_nonlt1 := HV_nonlt1.out.1
            have hw_nonlt1 := HV_nonlt1.out.2
            go_wp2_with (first
                | (go_at_call 40; refine (rwide_e m.life _).mono ?_; rintro e wz ⟨rfl, hww⟩; have hw2 := hww.symm; subst hw2; rw [HW_life.out])
                | (go_at_call 40; refine (rwide_e m.age _).mono ?_; rintro e wz ⟨rfl, hww⟩; have hw2 := hww.symm; subst hw2; rw [HW_age.out]))
            go_ret2
            have hF : formM m = false := by rw [rform_4 HK.out, HBF.out, HW_life.out, HW_age.out, decide_eq_false (show ¬ (1 ≤ m.non.length) by have := HC_nonlt1.out; omega)]; rfl
            exact ⟨[], by rw [hF]; rfl, fun hf => absurd hf (by rw [hF]; decide), HB1.out.trans (hbx.mono HB1.out.size)⟩
        · have HC_nonlt1 := Lib.hid hc
          have HV_nonlt1 := Lib.hid (show decide ((n_non : Int) < (1 : Int)) = false ∧ decide (n_non < 1) = false from ⟨decide_eq_false (by have h1 := HN_non.out; have h2 := HC_nonlt1.out; omega), decide_eq_false (by have h1 := HN_non.out; have h2 := HC_nonlt1.out; omega)⟩)
          clear hc
          by_cases hc : 8 < m.non.length
          · have HC_nongt8 := Lib.hid hc
            have HV_nongt8 := Lib.hid (show decide ((8 : Int) < (n_non : Int)) = true ∧ decide (8 < n_non) = true from ⟨decide_eq_true (by have h1 := HN_non.out; have h2 := HC_nongt8.out; omega), decide_eq_true (by have h1 := HN_non.out; have h2 := HC_nongt8.out; omega)⟩)
            clear hc
            as_aux_lemma =>
              refine wp_region_lit ?_
              refine wpList_load_mid rfl 25 (.tmp 4) rfl g4 0 rfl (rC mx4 vc) _ (rangeAt_of_blk bx4) Tryd.underlying25 rfl (infoR.trans (by rw [len_rC (m := mx4) HXL4.out])) ?_
              try simp only [Act.put, zSa, zSz, zSs]
              refine wpList_plain rfl (fun K hK0 => ?_)
              have hK := Lib.hid hK0
              clear hK0
              go_simp
              go_at_call 39
              refine (bare_e mx4 (rC mx4 vc) _ ⟨HXL4.out, vc, rfl, by rw [HXC4.out]; exact HSR.out.below hbx⟩).mono ?_
              rintro e w9 ⟨rfl, hb9⟩
              try go_wp2_with fail
              refine hK.out _ _ ?_
              clear hK K
              try simp only [Act.put, zSa, zSz, zSs]
              replace hbx := hbx.trans (hb9.mono hbx.size)
              have bx9 := bx4.below hb9 bx4.lt
              clear hb9 bx4
              rw [HBARE.out]
              have c_life := (HM.out.below hbx).life
              have c_age := (HM.out.below hbx).age
              have c_non := (HM.out.below hbx).non
              have c_tic := (HM.out.below hbx).tic
              have hz_non := HZ_non.out
              have hz_tic := HZ_tic.out
              have hv_nonlt1 := HV_nonlt1.out.1
              have hw_nonlt1 := HV_nonlt1.out.2
              have hv_nongt8 := HV_nongt8.out.1
              have hw_nongt8 := HV_nongt8.out.2
              go_wp2_with (first
                  | (go_at_call 40; refine (rwide_e m.life _).mono ?_; rintro e wz ⟨rfl, hww⟩; have hw2 := hww.symm; subst hw2; rw [HW_life.out])
                  | (go_at_call 40; refine (rwide_e m.age _).mono ?_; rintro e wz ⟨rfl, hww⟩; have hw2 := hww.symm; subst hw2; rw [HW_age.out]))
              go_ret2
              have hF : formM m = false := by rw [rform_4 HK.out, HBF.out, HW_life.out, HW_age.out, decide_eq_true (show 1 ≤ m.non.length by have := HC_nonlt1.out; omega), decide_eq_false (show ¬ (m.non.length ≤ 8) by have := HC_nongt8.out; omega)]; rfl
              exact ⟨[], by rw [hF]; rfl, fun hf => absurd hf (by rw [hF]; decide), HB1.out.trans (hbx.mono HB1.out.size)⟩
          · have HC_nongt8 := Lib.hid hc
            have HV_nongt8 := Lib.hid (show decide ((8 : Int) < (n_non : Int)) = false ∧ decide (8 < n_non) = false from ⟨decide_eq_false (by have h1 := HN_non.out; have h2 := HC_nongt8.out; omega), decide_eq_false (by have h1 := HN_non.out; have h2 := HC_nongt8.out; omega)⟩)
            clear hc
            by_cases hc : m.tic.length < 1
            · have HC_ticlt1 := Lib.hid hc
              have HV_ticlt1 := Lib.hid (show decide ((n_tic : Int) < (1 : Int)) = true ∧ decide (n_tic < 1) = true from ⟨decide_eq_true (by have h1 := HN_tic.out; have h2 := HC_ticlt1.out; omega), decide_eq_true (by have h1 := HN_tic.out; have h2 := HC_ticlt1.out; omega)⟩)
              clear hc
              as_aux_lemma =>
                refine wp_region_lit ?_
                refine wpList_load_mid rfl 25 (.tmp 4) rfl g4 0 rfl (rC mx4 vc) _ (rangeAt_of_blk bx4) Tryd.underlying25 rfl (infoR.trans (by rw [len_rC (m := mx4) HXL4.out])) ?_
                try simp only [Act.put, zSa, zSz, zSs]
                refine wpList_plain rfl (fun K hK0 => ?_)
                have hK := Lib.hid hK0
                clear hK0
                go_simp
                go_at_call 39
                refine (bare_e mx4 (rC mx4 vc) _ ⟨HXL4.out, vc, rfl, by rw [HXC4.out]; exact HSR.out.below hbx⟩).mono ?_
                rintro e w9 ⟨rfl, hb9⟩
                try go_wp2_with fail
                refine hK.out _ _ ?_
                clear hK K
                try simp only [Act.put, zSa, zSz, zSs]
                replace hbx := hbx.trans (hb9.mono hbx.size)
                have bx9 := bx4.below hb9 bx4.lt
                clear hb9 bx4
                rw [HBARE.out]
                have c_life := (HM.out.below hbx).life
                have c_age := (HM.out.below hbx).age
                have c_non := (HM.out.below hbx).non
                have c_tic := (HM.out.below hbx).tic
                have hz_non := HZ_non.out
                have hz_tic := HZ_tic.out
                have hv_nonlt1 := HV_nonlt1.out.1
                have hw_nonlt1 := HV_nonlt1.out.2
                have hv_nongt8 := HV_nongt8.out.1
                have hw_nongt8 := HV_nongt8.out.2
                have hv_ticlt1 := HV_ticlt1.out.1
                have hw_ticlt1 := HV_ticlt1.out.2
                go_wp2_with (first
                    | (go_at_call 40; refine (rwide_e m.life _).mono ?_; rintro e wz ⟨rfl, hww⟩; have hw2 := hww.symm; subst hw2; rw [HW_life.out])
                    | (go_at_call 40; refine (rwide_e m.age _).mono ?_; rintro e wz ⟨rfl, hww⟩; have hw2 := hww.symm; subst hw2; rw [HW_age.out]))
                go_ret2
                have hF : formM m = false := by rw [rform_4 HK.out, HBF.out, HW_life.out, HW_age.out, decide_eq_true (show 1 ≤ m.non.length by have := HC_nonlt1.out; omega), decide_eq_true (show m.non.length ≤ 8 by have := HC_nongt8.out; omega), decide_eq_false (show ¬ (1 ≤ m.tic.length) by have := HC_ticlt1.out; omega)]; rfl
                exact ⟨[], by rw [hF]; rfl, fun hf => absurd hf (by rw [hF]; decide), HB1.out.trans (hbx.mono HB1.out.size)⟩
            · have HC_ticlt1 := Lib.hid hc
              have HV_ticlt1 := Lib.hid (show decide ((n_tic : Int) < (1 : Int)) = false ∧ decide (n_tic < 1) = false from ⟨decide_eq_false (by have h1 := HN_tic.out; have h2 := HC_ticlt1.out; omega), decide_eq_false (by have h1 := HN_tic.out; have h2 := HC_ticlt1.out; omega)⟩)
              clear hc
              by_cases hc : 1000 < m.tic.length
              · have HC_ticgt1000 := Lib.hid hc
                have HV_ticgt1000 := Lib.hid (show decide ((1000 : Int) < (n_tic : Int)) = true ∧ decide (1000 < n_tic) = true from ⟨decide_eq_true (by have h1 := HN_tic.out; have h2 := HC_ticgt1000.out; omega), decide_eq_true (by have h1 := HN_tic.out; have h2 := HC_ticgt1000.out; omega)⟩)
                clear hc
                as_aux_lemma =>
                  refine wp_region_lit ?_
                  refine wpList_load_mid rfl 25 (.tmp 4) rfl g4 0 rfl (rC mx4 vc) _ (rangeAt_of_blk bx4) Tryd.underlying25 rfl (infoR.trans (by rw [len_rC (m := mx4) HXL4.out])) ?_
                  try simp only [Act.put, zSa, zSz, zSs]
                  refine wpList_plain rfl (fun K hK0 => ?_)
                  have hK := Lib.hid hK0
                  clear hK0
                  go_simp
                  go_at_call 39
                  refine (bare_e mx4 (rC mx4 vc) _ ⟨HXL4.out, vc, rfl, by rw [HXC4.out]; exact HSR.out.below hbx⟩).mono ?_
                  rintro e w9 ⟨rfl, hb9⟩
                  try go_wp2_with fail
                  refine hK.out _ _ ?_
                  clear hK K
                  try simp only [Act.put, zSa, zSz, zSs]
                  replace hbx := hbx.trans (hb9.mono hbx.size)
                  have bx9 := bx4.below hb9 bx4.lt
                  clear hb9 bx4
                  rw [HBARE.out]
                  have c_life := (HM.out.below hbx).life
                  have c_age := (HM.out.below hbx).age
                  have c_non := (HM.out.below hbx).non
                  have c_tic := (HM.out.below hbx).tic
                  have hz_non := HZ_non.out
                  have hz_tic := HZ_tic.out
                  have hv_nonlt1 := HV_nonlt1.out.1
                  have hw_nonlt1 := HV_nonlt1.out.2
                  have hv_nongt8 := HV_nongt8.out.1
                  have hw_nongt8 := HV_nongt8.out.2
                  have hv_ticlt1 := HV_ticlt1.out.1
                  have hw_ticlt1 := HV_ticlt1.out.2
                  have hv_ticgt1000 := HV_ticgt1000.out.1
                  have hw_ticgt1000 := HV_ticgt1000.out.2
                  go_wp2_with (first
                      | (go_at_call 40; refine (rwide_e m.life _).mono ?_; rintro e wz ⟨rfl, hww⟩; have hw2 := hww.symm; subst hw2; rw [HW_life.out])
                      | (go_at_call 40; refine (rwide_e m.age _).mono ?_; rintro e wz ⟨rfl, hww⟩; have hw2 := hww.symm; subst hw2; rw [HW_age.out]))
                  go_ret2
                  have hF : formM m = false := by rw [rform_4 HK.out, HBF.out, HW_life.out, HW_age.out, decide_eq_true (show 1 ≤ m.non.length by have := HC_nonlt1.out; omega), decide_eq_true (show m.non.length ≤ 8 by have := HC_nongt8.out; omega), decide_eq_true (show 1 ≤ m.tic.length by have := HC_ticlt1.out; omega), decide_eq_false (show ¬ (m.tic.length ≤ 1000) by have := HC_ticgt1000.out; omega)]; rfl
                  exact ⟨[], by rw [hF]; rfl, fun hf => absurd hf (by rw [hF]; decide), HB1.out.trans (hbx.mono HB1.out.size)⟩
              · have HC_ticgt1000 := Lib.hid hc
                have HV_ticgt1000 := Lib.hid (show decide ((1000 : Int) < (n_tic : Int)) = false ∧ decide (1000 < n_tic) = false from ⟨decide_eq_false (by have h1 := HN_tic.out; have h2 := HC_ticgt1000.out; omega), decide_eq_false (by have h1 := HN_tic.out; have h2 := HC_ticgt1000.out; omega)⟩)
                clear hc
                as_aux_lemma =>
                  refine wp_region_lit ?_
                  refine wpList_load_mid rfl 25 (.tmp 4) rfl g4 0 rfl (rC mx4 vc) _ (rangeAt_of_blk bx4) Tryd.underlying25 rfl (infoR.trans (by rw [len_rC (m := mx4) HXL4.out])) ?_
                  try simp only [Act.put, zSa, zSz, zSs]
                  refine wpList_plain rfl (fun K hK0 => ?_)
                  have hK := Lib.hid hK0
                  clear hK0
                  go_simp
                  go_at_call 39
                  refine (bare_e mx4 (rC mx4 vc) _ ⟨HXL4.out, vc, rfl, by rw [HXC4.out]; exact HSR.out.below hbx⟩).mono ?_
                  rintro e w9 ⟨rfl, hb9⟩
                  try go_wp2_with fail
                  refine hK.out _ _ ?_
                  clear hK K
                  try simp only [Act.put, zSa, zSz, zSs]
                  replace hbx := hbx.trans (hb9.mono hbx.size)
                  have bx9 := bx4.below hb9 bx4.lt
                  clear hb9 bx4
                  rw [HBARE.out]
                  have c_life := (HM.out.below hbx).life
                  have c_age := (HM.out.below hbx).age
                  have c_non := (HM.out.below hbx).non
                  have c_tic := (HM.out.below hbx).tic
                  have hz_non := HZ_non.out
                  have hz_tic := HZ_tic.out
                  have hv_nonlt1 := HV_nonlt1.out.1
                  have hw_nonlt1 := HV_nonlt1.out.2
                  have hv_nongt8 := HV_nongt8.out.1
                  have hw_nongt8 := HV_nongt8.out.2
                  have hv_ticlt1 := HV_ticlt1.out.1
                  have hw_ticlt1 := HV_ticlt1.out.2
                  have hv_ticgt1000 := HV_ticgt1000.out.1
                  have hw_ticgt1000 := HV_ticgt1000.out.2
                  go_upto_region 32 with (first
                      | (go_at_call 40; refine (rwide_e m.life _).mono ?_; rintro e wz ⟨rfl, hww⟩; have hw2 := hww.symm; subst hw2; rw [HW_life.out])
                      | (go_at_call 40; refine (rwide_e m.age _).mono ?_; rintro e wz ⟨rfl, hww⟩; have hw2 := hww.symm; subst hw2; rw [HW_age.out]))
                  clear c_life c_age c_non c_tic hz_non hz_tic hv_nonlt1 hw_nonlt1 hv_nongt8 hw_nongt8 hv_ticlt1 hw_ticlt1 hv_ticgt1000 hw_ticgt1000
                  have HRB := Lib.hid (HM.out.below hbx)
                  have HXB := Lib.hid bx9
                  have HSB := Lib.hid (HSR.out.below hbx)
                  have HBB := Lib.hid hbx
                  clear hbx bx9
                  generalize hwB : w9 = wB at *
                  clear hwB
                  obtain ⟨s245, hs245⟩ : ∃ s : List UInt8, (numB 4 m.life.toNat) ++ (numB 4 m.age.toNat) = s := ⟨_, rfl⟩
                  have HTL245 := Lib.hid (show s245.length ≤ 8 by rw [← hs245, List.length_append]; have h1 := (show (numB 4 m.life.toNat).length ≤ 4 from Nat.le_of_eq (numB_length 4 _)); have h2 := (show (numB 4 m.age.toNat).length ≤ 4 from Nat.le_of_eq (numB_length 4 _)); omega)
                  have HT245 := Lib.hid hs245
                  clear hs245
                  obtain ⟨s249, hs249⟩ : ∃ s : List UInt8, s245 ++ (vecB 1 m.non) = s := ⟨_, rfl⟩
                  have HTL249 := Lib.hid (show s249.length ≤ 2109 by rw [← hs249, List.length_append]; have h1 := HTL245.out; have h2 := (show (vecB 1 m.non).length ≤ 2101 by rw [vecB_length]; have h0 := HS.out.2.2.2.1; omega); omega)
                  have HT249 := Lib.hid hs249
                  clear hs249
                  obtain ⟨s253, hs253⟩ : ∃ s : List UInt8, s249 ++ (vecB 2 m.tic) = s := ⟨_, rfl⟩
                  have HTL253 := Lib.hid (show s253.length ≤ 4211 by rw [← hs253, List.length_append]; have h1 := HTL249.out; have h2 := (show (vecB 2 m.tic).length ≤ 2102 by rw [vecB_length]; have h0 := HS.out.2.2.1; omega); omega)
                  have HT253 := Lib.hid hs253
                  clear hs253
                  obtain ⟨s254, hs254⟩ : ∃ s : List UInt8, s253 ++ [0, 0] = s := ⟨_, rfl⟩
                  have HTL254 := Lib.hid (show s254.length ≤ 4213 by rw [← hs254, List.length_append]; have h1 := HTL253.out; have h2 := (show ([0, 0] : List UInt8).length ≤ 2 by decide); omega)
                  have HT254 := Lib.hid hs254
                  clear hs254
                  refine wp_region_noPanic ?_
                  refine wp_region_held_drew (S := fun V => Below wB.heap.size wB V) (by kernel_rfl) (by exact below_drewN (Below.refl _ _) 1) (fun hHeld => ?_)
                  refine wpT 0 ?_ rfl (by kernel_rfl) (by kernel_rfl) (by kernel_rfl) (fun _ _ _ h => h) (by rfl) ?_ hHeld ?_
                  rotate_left 1
                  · (intro W hSw; (try dsimp only at hSw); go_simp; try with_reducible rfl)
                  try simp only [Act.put, zSa, zSz, zSs]
                  refine wpT 1 ?_ rfl (by kernel_rfl) (by kernel_rfl) (by kernel_rfl) (fun _ _ _ h => h) (by rfl) ?_ hHeld ?_
                  rotate_left 1
                  · (intro W hSw; (try dsimp only at hSw); have hcc := (HRB.out.below hSw).life; go_simp; try with_reducible rfl)
                  try simp only [Act.put, zSa, zSz, zSs]
                  refine wpT 3 ?_ rfl (by kernel_rfl) (by kernel_rfl) (by kernel_rfl) (fun _ _ _ h => h) (by rfl) ?_ hHeld ?_
                  rotate_left 1
                  · (intro W hSw; (try dsimp only at hSw); go_simp; try with_reducible rfl)
                  try simp only [Act.put, zSa, zSz, zSs]
                  refine wpT 4 ?_ rfl (by kernel_rfl) (by kernel_rfl) (by kernel_rfl) (fun _ _ _ h => h) (by rfl) ?_ hHeld ?_
                  rotate_left 1
                  · (intro W hSw; (try dsimp only at hSw); have hcc := (HRB.out.below hSw).age; go_simp; try with_reducible rfl)
                  try simp only [Act.put, zSa, zSz, zSs]
                  refine wpT 7 ?_ rfl (by kernel_rfl) (by kernel_rfl) (by kernel_rfl) (fun _ _ _ h => h) (by rfl) ?_ hHeld ?_
                  rotate_left 1
                  · (intro W hSw; (try dsimp only at hSw); go_simp; try with_reducible rfl)
                  try simp only [Act.put, zSa, zSz, zSs]
                  refine wpT 8 ?_ rfl (by kernel_rfl) (by kernel_rfl) (by kernel_rfl) (fun _ _ _ h => h) (by rfl) ?_ hHeld ?_
                  rotate_left 1
                  · (intro W hSw; (try dsimp only at hSw); have hcc := (HRB.out.below hSw).non; go_simp; try with_reducible rfl)
                  try simp only [Act.put, zSa, zSz, zSs]
                  refine wpT 11 ?_ rfl (by kernel_rfl) (by kernel_rfl) (by kernel_rfl) (fun _ _ _ h => h) (by rfl) ?_ hHeld ?_
                  rotate_left 1
                  · (intro W hSw; (try dsimp only at hSw); go_simp; try with_reducible rfl)
                  try simp only [Act.put, zSa, zSz, zSs]
                  refine wpT 12 ?_ rfl (by kernel_rfl) (by kernel_rfl) (by kernel_rfl) (fun _ _ _ h => h) (by rfl) ?_ hHeld ?_
                  rotate_left 1
                  · (intro W hSw; (try dsimp only at hSw); have hcc := (HRB.out.below hSw).tic; go_simp; try with_reducible rfl)
                  try simp only [Act.put, zSa, zSz, zSs]
                  refine wpAnyH_ready (rs := [2]) (by kernel_rfl) (by simp) ?_
                  refine AllReadyH.cons (o := ⟨_, _, _, _, _, _⟩) rfl (fun K hK => ?_) AllReadyH.nil
                  go_simp
                  go_at_call 41
                  refine (numI_4 m.life _ HW_life.out).mono ?_
                  rintro e wq1 ⟨rfl, hbn⟩
                  try go_wp2_with fail
                  refine hK.out _ _ (hHeld.trans (hbn.mono hHeld.size)) (fun hHeld => ?_)
                  clear hK K hbn
                  try simp only [Act.put, zSa, zSz, zSs]
                  refine wpAnyH_ready (rs := [5]) (by kernel_rfl) (by simp) ?_
                  refine AllReadyH.cons (o := ⟨_, _, _, _, _, _⟩) rfl (fun K hK => ?_) AllReadyH.nil
                  go_simp
                  go_at_call 41
                  refine (numI_4 m.age _ HW_age.out).mono ?_
                  rintro e wq2 ⟨rfl, hbn⟩
                  try go_wp2_with fail
                  refine hK.out _ _ (hHeld.trans (hbn.mono hHeld.size)) (fun hHeld => ?_)
                  clear hK K hbn
                  try simp only [Act.put, zSa, zSz, zSs]
                  refine wpT 6 ?_ rfl (by kernel_rfl) (by kernel_rfl) (by kernel_rfl) (fun _ _ _ h => h) (by rfl) ?_ hHeld ?_
                  rotate_left 1
                  · (intro W hSw; (try dsimp only at hSw); refine exec_catL (.tmp 241) (.tmp 244) ?_ ((numB 4 m.life.toNat)) ((numB 4 m.age.toNat)) s245 HT245.out ?_ ?_ (by have h1 := (show (numB 4 m.life.toNat).length ≤ 4 from Nat.le_of_eq (numB_length 4 _)); have h2 := (show (numB 4 m.age.toNat).length ≤ 4 from Nat.le_of_eq (numB_length 4 _)); omega) <;> rfl)
                  try simp only [Act.put, zSa, zSz, zSs]
                  refine wpAnyH_ready (rs := [9]) (by kernel_rfl) (by simp) ?_
                  refine AllReadyH.cons (o := ⟨_, _, _, _, _, _⟩) rfl (fun K hK => ?_) AllReadyH.nil
                  go_simp
                  go_at_call 25
                  refine (vec_1 (m.non) _ (by have h1 := HS.out.2.2.2.1; omega)).mono ?_
                  rintro e wq3 ⟨rfl, hbn⟩
                  try go_wp2_with fail
                  refine hK.out _ _ (hHeld.trans (hbn.mono hHeld.size)) (fun hHeld => ?_)
                  clear hK K hbn
                  try simp only [Act.put, zSa, zSz, zSs]
                  refine wpT 10 ?_ rfl (by kernel_rfl) (by kernel_rfl) (by kernel_rfl) (fun _ _ _ h => h) (by rfl) ?_ hHeld ?_
                  rotate_left 1
                  · (intro W hSw; (try dsimp only at hSw); refine exec_catL (.tmp 245) (.tmp 248) ?_ (s245) ((vecB 1 m.non)) s249 HT249.out ?_ ?_ (by have h1 := HTL245.out; have h2 := (show (vecB 1 m.non).length ≤ 2101 by rw [vecB_length]; have h0 := HS.out.2.2.2.1; omega); omega) <;> rfl)
                  try simp only [Act.put, zSa, zSz, zSs]
                  refine wpAnyH_ready (rs := [13]) (by kernel_rfl) (by simp) ?_
                  refine AllReadyH.cons (o := ⟨_, _, _, _, _, _⟩) rfl (fun K hK => ?_) AllReadyH.nil
                  go_simp
                  go_at_call 25
                  refine (vec_2 (m.tic) _ (by have h1 := HS.out.2.2.1; omega)).mono ?_
                  rintro e wq4 ⟨rfl, hbn⟩
                  try go_wp2_with fail
                  refine hK.out _ _ (hHeld.trans (hbn.mono hHeld.size)) (fun hHeld => ?_)
                  clear hK K hbn
                  try simp only [Act.put, zSa, zSz, zSs]
                  refine wpT 14 ?_ rfl (by kernel_rfl) (by kernel_rfl) (by kernel_rfl) (fun _ _ _ h => h) (by rfl) ?_ hHeld ?_
                  rotate_left 1
                  · (intro W hSw; (try dsimp only at hSw); refine exec_catL (.tmp 249) (.tmp 252) ?_ (s249) ((vecB 2 m.tic)) s253 HT253.out ?_ ?_ (by have h1 := HTL249.out; have h2 := (show (vecB 2 m.tic).length ≤ 2102 by rw [vecB_length]; have h0 := HS.out.2.2.1; omega); omega) <;> rfl)
                  try simp only [Act.put, zSa, zSz, zSs]
                  refine wpT 15 ?_ rfl (by kernel_rfl) (by kernel_rfl) (by kernel_rfl) (fun _ _ _ h => h) (by rfl) ?_ hHeld ?_
                  rotate_left 1
                  · (intro W hSw; (try dsimp only at hSw); refine exec_catL (.tmp 253) (.const (.string { data := #[0, 0] })) ?_ (s253) ([0, 0]) s254 HT254.out ?_ ?_ (by have h1 := HTL253.out; have h2 := (show ([0, 0] : List UInt8).length ≤ 2 by decide); omega) <;> rfl)
                  try simp only [Act.put, zSa, zSz, zSs]
                  refine wpT 16 ?_ rfl (by kernel_rfl) (by kernel_rfl) (by kernel_rfl) (fun _ _ _ h => h) (by rfl) ?_ hHeld ?_
                  rotate_left 1
                  · (intro W hSw; (try dsimp only at hSw); go_simp; try with_reducible rfl)
                  try simp only [Act.put, zSa, zSz, zSs]
                  refine wpT 17 ?_ rfl (by kernel_rfl) (by kernel_rfl) (by kernel_rfl) (fun _ _ _ h => h) (by rfl) ?_ hHeld ?_
                  rotate_left 1
                  · (intro W hSw; (try dsimp only at hSw); go_simp; try with_reducible rfl)
                  try simp only [Act.put, zSa, zSz, zSs]
                  refine wpAnyH_done (by kernel_rfl) ?_ _
                  refine NoPanic.normal ?_
                  have hbe := HB1.out.trans ((HBB.out.trans (hHeld.mono HBB.out.size)).mono HB1.out.size)
                  go_wp2
                  go_ret2
                  have hF : formM m = true := by rw [rform_4 HK.out, HBF.out, HW_life.out, HW_age.out, decide_eq_true (show 1 ≤ m.non.length by have := HC_nonlt1.out; omega), decide_eq_true (show m.non.length ≤ 8 by have := HC_nongt8.out; omega), decide_eq_true (show 1 ≤ m.tic.length by have := HC_ticlt1.out; omega), decide_eq_true (show m.tic.length ≤ 1000 by have := HC_ticgt1000.out; omega)]; rfl
                  refine ⟨_, by rw [hF]; rfl, fun _ => ?_, hbe⟩
                  rw [← HT254.out, ← HT253.out, ← HT249.out, ← HT245.out]
                  rw [bodyM, HK.out]
                  simp [ticketB, List.append_assoc]
      | false =>
        have HW_age := Lib.hid hw
        clear hw
        as_aux_lemma =>
          refine wp_region_lit ?_
          refine wpList_load_mid rfl 25 (.tmp 4) rfl g4 0 rfl (rC mx4 vc) _ (rangeAt_of_blk bx4) Tryd.underlying25 rfl (infoR.trans (by rw [len_rC (m := mx4) HXL4.out])) ?_
          try simp only [Act.put, zSa, zSz, zSs]
          refine wpList_plain rfl (fun K hK0 => ?_)
          have hK := Lib.hid hK0
          clear hK0
          go_simp
          go_at_call 39
          refine (bare_e mx4 (rC mx4 vc) _ ⟨HXL4.out, vc, rfl, by rw [HXC4.out]; exact HSR.out.below hbx⟩).mono ?_
          rintro e w9 ⟨rfl, hb9⟩
          try go_wp2_with fail
          refine hK.out _ _ ?_
          clear hK K
          try simp only [Act.put, zSa, zSz, zSs]
          replace hbx := hbx.trans (hb9.mono hbx.size)
          have bx9 := bx4.below hb9 bx4.lt
          clear hb9 bx4
          rw [HBARE.out]
          have c_life := (HM.out.below hbx).life
          have c_age := (HM.out.below hbx).age
          have c_non := (HM.out.below hbx).non
          have c_tic := (HM.out.below hbx).tic
          have hz_non := HZ_non.out
          have hz_tic := HZ_tic.out
          go_wp2_with (first
              | (go_at_call 40; refine (rwide_e m.life _).mono ?_; rintro e wz ⟨rfl, hww⟩; have hw2 := hww.symm; subst hw2; rw [HW_life.out])
              | (go_at_call 40; refine (rwide_e m.age _).mono ?_; rintro e wz ⟨rfl, hww⟩; have hw2 := hww.symm; subst hw2; rw [HW_age.out]))
          go_ret2
          have hF : formM m = false := by rw [rform_4 HK.out, HBF.out, HW_life.out, HW_age.out]; rfl
          exact ⟨[], by rw [hF]; rfl, fun hf => absurd hf (by rw [hF]; decide), HB1.out.trans (hbx.mono HB1.out.size)⟩
    | false =>
      have HW_life := Lib.hid hw
      clear hw
      as_aux_lemma =>
        refine wp_region_lit ?_
        refine wpList_load_mid rfl 25 (.tmp 4) rfl g4 0 rfl (rC mx4 vc) _ (rangeAt_of_blk bx4) Tryd.underlying25 rfl (infoR.trans (by rw [len_rC (m := mx4) HXL4.out])) ?_
        try simp only [Act.put, zSa, zSz, zSs]
        refine wpList_plain rfl (fun K hK0 => ?_)
        have hK := Lib.hid hK0
        clear hK0
        go_simp
        go_at_call 39
        refine (bare_e mx4 (rC mx4 vc) _ ⟨HXL4.out, vc, rfl, by rw [HXC4.out]; exact HSR.out.below hbx⟩).mono ?_
        rintro e w9 ⟨rfl, hb9⟩
        try go_wp2_with fail
        refine hK.out _ _ ?_
        clear hK K
        try simp only [Act.put, zSa, zSz, zSs]
        replace hbx := hbx.trans (hb9.mono hbx.size)
        have bx9 := bx4.below hb9 bx4.lt
        clear hb9 bx4
        rw [HBARE.out]
        have c_life := (HM.out.below hbx).life
        have c_age := (HM.out.below hbx).age
        have c_non := (HM.out.below hbx).non
        have c_tic := (HM.out.below hbx).tic
        have hz_non := HZ_non.out
        have hz_tic := HZ_tic.out
        go_wp2_with (first
            | (go_at_call 40; refine (rwide_e m.life _).mono ?_; rintro e wz ⟨rfl, hww⟩; have hw2 := hww.symm; subst hw2; rw [HW_life.out]))
        go_ret2
        have hF : formM m = false := by rw [rform_4 HK.out, HBF.out, HW_life.out]; rfl
        exact ⟨[], by rw [hF]; rfl, fun hf => absurd hf (by rw [hF]; decide), HB1.out.trans (hbx.mono HB1.out.size)⟩
end

section
open Go.RowKit
open HelloMath (Msg zero32 some8 special formM bodyM okM fitM okF sized wide numB numB_length vecB vecB_length serverB chainB)

theorem chain_snoc : ∀ (l : List (List UInt8)) (p : List UInt8), chainB (l ++ [p]) = chainB l ++ vecB 3 p ++ [0, 0]
  | [], p => by simp [chainB]
  | c :: l, p => by rw [List.cons_append, chainB, chainB, chain_snoc l p]; simp [List.append_assoc]
theorem rform_11 {m : Msg} (hk : m.kind = 11) : formM m = (bareM ({ m with certs := [] }) && (decide (m.certs.length ≤ 5) && m.certs.all (fun c => decide (1 ≤ c.length) && decide (c.length ≤ 2048)))) := by
  unfold formM okM fitM okF bareM sized
  rw [hk]
  simp [some8, bne, Bool.and_assoc]
set_option maxRecDepth 100000 in
set_option maxHeartbeats 40000000 in
theorem rbody_11 (m : Msg) (cs : List Value) (w : World) (h : RIn w m cs) (hs : Small m) (hk : m.kind = 11) : Calls Tryd.prog 24 #[.agg cs.toArray] w (BodyP m w) := by
  have HL := Lib.hid h.1
  have HS := Lib.hid hs
  have HK := Lib.hid hk
  clear hs hk
  go_enter Tryd.func24, Tryd.ntmps24
  go_upto_region 0 with (fail)
  refine wp_region_lit ?_
  refine wpList_plain rfl (fun K hK => ?_)
  go_simp
  refine hK _ _ ?_
  clear hK K
  have hb1 : Below w.heap.size w (w.alloc (.cells cs.toArray 25)) := (Below.refl _ _).alloc (Nat.le_refl _) _
  have b1 := Blk.new w 25 cs
  have hr1 := h.below hb1
  clear h
  obtain ⟨g1, hg1⟩ : ∃ g, g = w.heap.size := ⟨_, rfl⟩
  rw [← hg1] at b1
  simp only [← hg1]
  clear hg1
  generalize w.alloc (.cells cs.toArray 25) = w1 at *
  try simp only [Act.put, zSa, zSz, zSs]
  refine wpList_plain rfl (fun K hK => ?_)
  go_simp
  refine hK _ _ ?_
  clear hK K
  try simp only [Act.put, zSa, zSz, zSs]
  refine wpList_plain rfl (fun K hK => ?_)
  go_simp
  refine hK _ _ ?_
  clear hK K
  try simp only [Act.put, zSa, zSz, zSs]
  go_upto_region 1 with (fail)
  refine wp_region_lit ?_
  refine wpList_load_mid rfl 25 (.tmp 1) rfl g1 0 rfl cs _ (rangeAt_of_blk b1) Tryd.underlying25 rfl (infoR.trans (by rw [hr1.len])) ?_
  try simp only [Act.put, zSa, zSz, zSs]
  refine wpList_new_blk rfl 25 rfl _ zeroR ?_
  intro g4 w2 hg4 b4 hb2
  try simp only [Act.put, zSa, zSz, zSs]
  refine wpList_store_blk rfl 25 (.tmp 4) (.tmp 11) rfl rfl g4 cs rfl rfl _ _ b4 (infoR.trans (by rw [hr1.len])) (by rw [hr1.len]; rfl) hr1.one ?_
  intro w3 b43 hg3
  try simp only [Act.put, zSa, zSz, zSs]
  have HG4 := Lib.hid (Nat.le_of_eq hg4.symm)
  have hbx : Below w1.heap.size w1 w3 := hb2.trans (grown_below hg3 HG4.out hb2.size)
  have HM := Lib.hid (show RAt w1 g1 m from ⟨cs, b1, hr1⟩)
  have HB1 := Lib.hid hb1
  obtain ⟨-, vc, hcs, hsr⟩ := hr1
  have HSR := Lib.hid hsr
  simp only [hcs] at b43 ⊢
  clear hb1 b1 hg4 b4 hb2 hg3 hsr hcs
  have hcc := (HM.out.below hbx).kind
  rw [HK.out] at hcc
  go_upto_region 3 with (fail)
  clear hcc
  go_upto_region 36 with (fail)
  refine wp_region_lit ?_
  refine wpList_plain rfl (fun K hK => ?_)
  go_simp
  refine hK _ _ ?_
  clear hK K
  try simp only [Act.put, zSa, zSz, zSs]
  refine wpList_store_one rfl 23 (.tmp 261) _ rfl rfl g4 70 (.slice none 0 0) rfl rfl rfl _ _ b43 (by kernel_rfl) (by rw [len_rC (m := m) HL.out]; decide) rfl ?_
  intro wx1 bx1 hgs
  rw [rC_certs0 (m := m) HL.out] at bx1
  obtain ⟨mx1, hmx1⟩ : ∃ y, y = { m with certs := [] } := ⟨_, rfl⟩
  rw [← hmx1] at bx1
  have hlmx1 : mx1.rnd.length = 32 ∧ mx1.mark.length = 32 := by rw [hmx1]; exact HL.out
  try simp only [Act.put, zSa, zSz, zSs]
  replace hbx := hbx.trans (grown_below hgs HG4.out hbx.size)
  clear hgs b43
  have hxm : mx1 = { m with certs := [] } := by subst hmx1; rfl
  have HXM1 := Lib.hid hxm
  have HXL1 := Lib.hid hlmx1
  have HXC1 := Lib.hid (show mx1.certs = [] by rw [hxm])
  clear hxm hmx1 hlmx1
  have HCT := Lib.hid (show ∀ V, Below w1.heap.size w1 V → ∃ v, V.cell? ⟨g1, 70, none⟩ = some v ∧ StrR V v m.certs from fun V hV => (HM.out.below hV).certs)
  obtain ⟨n_certs, hnc⟩ : ∃ n, m.certs.length = n := ⟨_, rfl⟩
  have HN_certs := Lib.hid hnc
  obtain ⟨vcr, hvr, Ac, cc, rfl, hlc, hrow⟩ := HM.out.certs
  rw [hnc] at hvr hlc hrow
  have HVR := Lib.hid hvr
  have HROW := Lib.hid hrow
  have HLC := Lib.hid hlc
  clear hnc hvr hlc hrow HCT
  go_upto_region 37 with (fail)
  cases hbv : bareM ({ m with certs := [] }) with
  | false =>
    have HBF := Lib.hid hbv
    have HBARE := Lib.hid (show bareM mx1 = false by rw [HXM1.out]; exact hbv)
    clear hbv
    as_aux_lemma =>
      refine wp_region_lit ?_
      refine wpList_load_mid rfl 25 (.tmp 4) rfl g4 0 rfl (rC mx1 (.slice none 0 0)) _ (rangeAt_of_blk bx1) Tryd.underlying25 rfl (infoR.trans (by rw [len_rC (m := mx1) HXL1.out])) ?_
      try simp only [Act.put, zSa, zSz, zSs]
      refine wpList_plain rfl (fun K hK0 => ?_)
      have hK := Lib.hid hK0
      clear hK0
      go_simp
      go_at_call 39
      refine (bare_e mx1 (rC mx1 (.slice none 0 0)) _ ⟨HXL1.out, _, rfl, by rw [HXC1.out]; exact ⟨none, 0, rfl, ⟨Nat.zero_le _, by decide⟩, fun h => absurd h (Nat.lt_irrefl _)⟩⟩).mono ?_
      rintro e w9 ⟨rfl, hb9⟩
      try go_wp2_with fail
      refine hK.out _ _ ?_
      clear hK K
      try simp only [Act.put, zSa, zSz, zSs]
      replace hbx := hbx.trans (hb9.mono hbx.size)
      have bx9 := bx1.below hb9 bx1.lt
      clear hb9 bx1
      rw [HBARE.out]
      have c_certs : w9.cell? ⟨g1, 70, none⟩ = some (.slice Ac n_certs cc) := (hbx.cell (p := ⟨g1, 70, none⟩) HM.out.lt).trans HVR.out
      go_wp2
      go_ret2
      have hF : formM m = false := by rw [rform_11 HK.out, HBF.out]; rfl
      exact ⟨[], by rw [hF]; rfl, fun hf => absurd hf (by rw [hF]; decide), HB1.out.trans (hbx.mono HB1.out.size)⟩
  | true =>
    have HBF := Lib.hid hbv
    have HBARE := Lib.hid (show bareM mx1 = true by rw [HXM1.out]; exact hbv)
    clear hbv
    by_cases hc : 5 < m.certs.length
    · have HC_certsgt5 := Lib.hid hc
      have HV_certsgt5 := Lib.hid (show decide ((5 : Int) < (n_certs : Int)) = true ∧ decide (5 < n_certs) = true from ⟨decide_eq_true (by have h1 := HN_certs.out; have h2 := HC_certsgt5.out; omega), decide_eq_true (by have h1 := HN_certs.out; have h2 := HC_certsgt5.out; omega)⟩)
      clear hc
      as_aux_lemma =>
        refine wp_region_lit ?_
        refine wpList_load_mid rfl 25 (.tmp 4) rfl g4 0 rfl (rC mx1 (.slice none 0 0)) _ (rangeAt_of_blk bx1) Tryd.underlying25 rfl (infoR.trans (by rw [len_rC (m := mx1) HXL1.out])) ?_
        try simp only [Act.put, zSa, zSz, zSs]
        refine wpList_plain rfl (fun K hK0 => ?_)
        have hK := Lib.hid hK0
        clear hK0
        go_simp
        go_at_call 39
        refine (bare_e mx1 (rC mx1 (.slice none 0 0)) _ ⟨HXL1.out, _, rfl, by rw [HXC1.out]; exact ⟨none, 0, rfl, ⟨Nat.zero_le _, by decide⟩, fun h => absurd h (Nat.lt_irrefl _)⟩⟩).mono ?_
        rintro e w9 ⟨rfl, hb9⟩
        try go_wp2_with fail
        refine hK.out _ _ ?_
        clear hK K
        try simp only [Act.put, zSa, zSz, zSs]
        replace hbx := hbx.trans (hb9.mono hbx.size)
        have bx9 := bx1.below hb9 bx1.lt
        clear hb9 bx1
        rw [HBARE.out]
        have c_certs : w9.cell? ⟨g1, 70, none⟩ = some (.slice Ac n_certs cc) := (hbx.cell (p := ⟨g1, 70, none⟩) HM.out.lt).trans HVR.out
        have hv_certsgt5 := HV_certsgt5.out.1
        have hw_certsgt5 := HV_certsgt5.out.2
        go_wp2
        go_ret2
        have hF : formM m = false := by rw [rform_11 HK.out, HBF.out, decide_eq_false (show ¬ (m.certs.length ≤ 5) by have := HC_certsgt5.out; omega)]; rfl
        exact ⟨[], by rw [hF]; rfl, fun hf => absurd hf (by rw [hF]; decide), HB1.out.trans (hbx.mono HB1.out.size)⟩
    · have HC_certsgt5 := Lib.hid hc
      have HV_certsgt5 := Lib.hid (show decide ((5 : Int) < (n_certs : Int)) = false ∧ decide (5 < n_certs) = false from ⟨decide_eq_false (by have h1 := HN_certs.out; have h2 := HC_certsgt5.out; omega), decide_eq_false (by have h1 := HN_certs.out; have h2 := HC_certsgt5.out; omega)⟩)
      clear hc
      as_aux_lemma =>
        refine wp_region_lit ?_
        refine wpList_load_mid rfl 25 (.tmp 4) rfl g4 0 rfl (rC mx1 (.slice none 0 0)) _ (rangeAt_of_blk bx1) Tryd.underlying25 rfl (infoR.trans (by rw [len_rC (m := mx1) HXL1.out])) ?_
        try simp only [Act.put, zSa, zSz, zSs]
        refine wpList_plain rfl (fun K hK0 => ?_)
        have hK := Lib.hid hK0
        clear hK0
        go_simp
        go_at_call 39
        refine (bare_e mx1 (rC mx1 (.slice none 0 0)) _ ⟨HXL1.out, _, rfl, by rw [HXC1.out]; exact ⟨none, 0, rfl, ⟨Nat.zero_le _, by decide⟩, fun h => absurd h (Nat.lt_irrefl _)⟩⟩).mono ?_
        rintro e w9 ⟨rfl, hb9⟩
        try go_wp2_with fail
        refine hK.out _ _ ?_
        clear hK K
        try simp only [Act.put, zSa, zSz, zSs]
        replace hbx := hbx.trans (hb9.mono hbx.size)
        have bx9 := bx1.below hb9 bx1.lt
        clear hb9 bx1
        rw [HBARE.out]
        have c_certs : w9.cell? ⟨g1, 70, none⟩ = some (.slice Ac n_certs cc) := (hbx.cell (p := ⟨g1, 70, none⟩) HM.out.lt).trans HVR.out
        have hv_certsgt5 := HV_certsgt5.out.1
        have hw_certsgt5 := HV_certsgt5.out.2
        go_upto_region 39 with (fail)
        clear c_certs hv_certsgt5 hw_certsgt5
        have HBX := Lib.hid hbx
        clear bx9
        go_upto_region 40 with (fail)
        go_wp2
        go_loopw [10, 9] (fun i s wl => ∃ k : Nat, k ≤ n_certs ∧ i = .int .i64 (k : Int) ∧ s = TX (chainB (m.certs.take k)) ∧ (m.certs.take k).all (fun c => decide (1 ≤ c.length) && decide (c.length ≤ 2048)) = true ∧ Below w1.heap.size w1 wl) (fun i _ _ => n_certs - (intOf i).toNat)
        case atStart => exact ⟨0, Nat.zero_le _, rfl, rfl, rfl, HBX.out⟩
        case round =>
          clear hbx
          obtain ⟨k, hk, rfl, rfl, hall, hbl⟩ := hrel
          have hcr : wr.cell? ⟨g1, 70, none⟩ = some (.slice Ac n_certs cc) := (hbl.cell (p := ⟨g1, 70, none⟩) HM.out.lt).trans HVR.out
          have HBL := Lib.hid hbl
          by_cases hlt : k < n_certs
          · have hd : (k : Int) < (n_certs : Int) := by omega
            have hkr : k < m.certs.length := by rw [HN_certs.out]; exact hlt
            obtain ⟨gp, op, hAe, hgp, hcs⟩ := HROW.out (Nat.lt_of_le_of_lt (Nat.zero_le _) hlt)
            obtain ⟨p, hp⟩ : ∃ p, m.certs.getD k [] = p := ⟨_, rfl⟩
            have hc1 : wr.cell? ⟨gp, op + k, none⟩ = some (TX p) := by rw [← hp]; exact (hbl.cell (p := ⟨gp, op + k, none⟩) hgp).trans (hcs k hlt)
            obtain ⟨pl, hpl⟩ : ∃ q, p.length = q := ⟨_, rfl⟩
            have hsz : (⟨p.toArray⟩ : ByteArray).size = pl := hpl
            have HMEM := Lib.hid (show p ∈ m.certs by rw [← hp, List.getD_eq_getElem?_getD, List.getElem?_eq_getElem hkr]; exact List.getElem_mem hkr)
            have HTK := Lib.hid (show m.certs.take (k + 1) = m.certs.take k ++ [p] by rw [take_snocP hkr, hp])
            obtain ⟨hk0, hkn, hkw⟩ := ix_cut hlt (by have := HLC.out; omega)
            have HKW := Lib.hid hkw
            have HKK := Lib.hid (show k + 1 ≤ n_certs ∧ n_certs - (k + 1) < n_certs - k by omega)
            have HPL := Lib.hid hpl
            have HALL := Lib.hid hall
            subst hAe
            clear hcs hbl hgp hk hkr hp hkw hpl hall hlt
            by_cases q1 : pl < 1
            · have hq : decide ((pl : Int) < 1) = true := decide_eq_true (by omega)
              have hF : formM m = false := by
                rw [rform_11 HK.out, HBF.out, List.all_eq_false.2 ⟨p, HMEM.out, by rw [HPL.out]; simp; omega⟩]
                simp
              clear q1
              go_wp2
              go_ret2
              exact ⟨[], by rw [hF]; rfl, fun hf => absurd hf (by rw [hF]; decide), HB1.out.trans (HBL.out.mono HB1.out.size)⟩
            · have hq : decide ((pl : Int) < 1) = false := decide_eq_false (by omega)
              by_cases q2 : 2048 < pl
              · have hq2 : decide ((2048 : Int) < (pl : Int)) = true := decide_eq_true (by omega)
                have hF : formM m = false := by
                  rw [rform_11 HK.out, HBF.out, List.all_eq_false.2 ⟨p, HMEM.out, by rw [HPL.out]; simp; omega⟩]
                  simp
                clear q1 q2
                go_wp2
                go_ret2
                exact ⟨[], by rw [hF]; rfl, fun hf => absurd hf (by rw [hF]; decide), HB1.out.trans (HBL.out.mono HB1.out.size)⟩
              · have hq2 : decide ((2048 : Int) < (pl : Int)) = false := decide_eq_false (by omega)
                have HOK := Lib.hid (show (decide (1 ≤ p.length) && decide (p.length ≤ 2048)) = true by rw [HPL.out]; simp; omega)
                obtain ⟨S, hS⟩ : ∃ s, chainB (m.certs.take k) = s := ⟨_, rfl⟩
                have HS0 := Lib.hid hS
                have HSL := Lib.hid (show S.length + pl ≤ 100000 by
                  rw [← hS]
                  have h1 := HelloMath.chain_le (m.certs.take k) (fun c hc => by have := List.all_eq_true.1 HALL.out c hc; simp at this; exact this.2)
                  have h2 : (m.certs.take k).length ≤ 5 := by rw [List.length_take]; have := HC_certsgt5.out; omega
                  have := Nat.mul_le_mul_left 2053 h2
                  omega)
                rw [hS]
                clear q1 q2 hS
                go_upto_region 45 with (fail)
                refine wp_region_lit ?_
                refine wpList_plain rfl (fun K hK => ?_)
                go_simp
                refine hK _ _ ?_
                clear hK K
                try simp only [Act.put, zSa, zSz, zSs]
                refine wpList_plain rfl (fun K hK => ?_)
                go_simp
                refine hK _ _ ?_
                clear hK K
                try simp only [Act.put, zSa, zSz, zSs]
                refine wpList_plain rfl (fun K hK => ?_)
                go_simp
                refine hK _ _ ?_
                clear hK K
                try simp only [Act.put, zSa, zSz, zSs]
                refine wpList_plain rfl (fun K hK => ?_)
                go_simp
                refine hK _ _ ?_
                clear hK K
                try simp only [Act.put, zSa, zSz, zSs]
                refine wpList_plain rfl (fun K hK => ?_)
                go_simp
                refine hK _ _ ?_
                clear hK K
                try simp only [Act.put, zSa, zSz, zSs]
                refine wpList_plain rfl (fun K hK => ?_)
                go_simp
                refine hK _ _ ?_
                clear hK K
                try simp only [Act.put, zSa, zSz, zSs]
                refine wpList_plain rfl (fun K hK0 => ?_)
                have hK := Lib.hid hK0
                clear hK0
                go_simp
                go_at_call 25
                refine (vec_3 p _ (by rw [HPL.out]; have := HSL.out; omega)).mono ?_
                rintro e wv ⟨rfl, hb9⟩
                try go_wp2_with fail
                refine hK.out _ _ ?_
                clear hK K
                try simp only [Act.put, zSa, zSz, zSs]
                refine wpList_plain rfl (fun K hK => wp_catS (.tmp 294) (.tmp 300) rfl (S) (vecB 3 p) rfl rfl (by rw [vecB_length, HPL.out]; have := HSL.out; omega) (hK _ _ ?_))
                clear hK K
                try simp only [Act.put, zSa, zSz, zSs]
                refine wpList_plain rfl (fun K hK => wp_catS (.tmp 301) (.const (.string { data := #[0, 0] })) rfl (S ++ vecB 3 p) ([0, 0]) rfl rfl (by rw [List.length_append, vecB_length, HPL.out]; have := HSL.out; simp only [List.length_cons, List.length_nil]; omega) (hK _ _ ?_))
                clear hK K
                try simp only [Act.put, zSa, zSz, zSs]
                have HBV := Lib.hid (HBL.out.trans (hb9.mono HBL.out.size))
                have HCH := Lib.hid (show chainB (m.certs.take (k + 1)) = S ++ vecB 3 p ++ [0, 0] by rw [HTK.out, chain_snoc, HS0.out])
                have HAL2 := Lib.hid (show (m.certs.take (k + 1)).all (fun c => decide (1 ≤ c.length) && decide (c.length ≤ 2048)) = true by rw [HTK.out, List.all_append, HALL.out]; simp only [List.all_cons, List.all_nil, Bool.and_true, Bool.true_and]; exact HOK.out)
                clear hb9 hcr hc1 hsz
                go_wp2
                go_roundw
                case rel => exact ⟨k + 1, HKK.out.1, by rw [HKW.out], by rw [HCH.out], HAL2.out, HBV.out⟩
                case measure => rw [HKW.out]; simpa [intOf] using HKK.out.2
          · have hd : ¬ (k : Int) < (n_certs : Int) := by omega
            have hkn : k = n_certs := by omega
            have hfull : m.certs.take k = m.certs := by rw [hkn, ← HN_certs.out, List.take_length]
            rw [hfull] at hall
            simp only [hfull]
            have hF : formM m = true := by rw [rform_11 HK.out, HBF.out, decide_eq_true (show m.certs.length ≤ 5 by have := HC_certsgt5.out; omega), hall]; rfl
            have HF := Lib.hid hF
            have HSL := Lib.hid (show (chainB m.certs).length ≤ 100000 by
              have h1 := HelloMath.chain_le m.certs (fun c hc => by have := List.all_eq_true.1 hall c hc; simp at this; exact this.2)
              have h2 := HC_certsgt5.out
              have := Nat.mul_le_mul_left 2053 (show m.certs.length ≤ 5 by omega)
              omega)
            clear hkn hk hlt hall hfull hbl hF
            go_upto_region 46 with (fail)
            refine wp_region_lit ?_
            refine wpList_plain rfl (fun K hK => ?_)
            go_simp
            refine hK _ _ ?_
            clear hK K
            try simp only [Act.put, zSa, zSz, zSs]
            refine wpList_plain rfl (fun K hK0 => ?_)
            have hK := Lib.hid hK0
            clear hK0
            go_simp
            go_at_call 25
            refine (vec_3 (chainB m.certs) _ (by have := HSL.out; omega)).mono ?_
            rintro e wv ⟨rfl, hb9⟩
            try go_wp2_with fail
            refine hK.out _ _ ?_
            clear hK K
            try simp only [Act.put, zSa, zSz, zSs]
            refine wpList_plain rfl (fun K hK => wp_catS (.const (.string { data := #[0] })) (.tmp 304) rfl ([0]) (vecB 3 (chainB m.certs)) rfl rfl (by rw [vecB_length]; have := HSL.out; simp only [List.length_cons, List.length_nil]; omega) (hK _ _ ?_))
            clear hK K
            try simp only [Act.put, zSa, zSz, zSs]
            have HBV := Lib.hid (HBL.out.trans (hb9.mono HBL.out.size))
            clear hb9 hcr
            go_wp2
            go_ret2
            refine ⟨_, by rw [HF.out]; rfl, fun _ => ?_, HB1.out.trans (HBV.out.mono HB1.out.size)⟩
            rw [bodyM, HK.out]
            simp
end
end Go.Proofs.YtagblbfbjemfhaaDoor
