/-
  Package hello's said, the other kinds.
-/
import Derived.Test.YtagblbfbjemfhaaDoorIb
namespace Go.Proofs.YtagblbfbjemfhaaDoor
open Go.RowKit
open HelloMath (numB numB_length vecB vecB_length Msg getN getN_snoc pad32 zero32 zeroM saidTicket saidClient saidServer saidCerts saidVerify saidFinished saidM special)

set_option maxRecDepth 100000 in
set_option maxHeartbeats 2000000 in
theorem said_15 (b : List UInt8) (v : Value) (w : World) (hT : TabH w) (hv : SlV w v b) (h4 : 4 ≤ b.length) (h40 : Hid (b.length ≤ 200000)) (hk : ((b.getD 0 0).toNat : Int) = 15) : Calls Tryd.prog 27 #[v] w fun e w' => ∃ cs, e = .returned (.agg cs.toArray) ∧ MVo w' w.heap.size (saidM 15 (b.drop 4)) cs ∧ Below w.heap.size w w' := by
  obtain ⟨A, c, hvv, hi⟩ := hv
  subst hvv
  obtain ⟨n, hn⟩ : ∃ n, b.length = n := ⟨_, rfl⟩
  rw [hn] at h4
  obtain ⟨gb, ob, rfl, hgb, hby⟩ := hi.2.2 (by omega)
  have hc0 := hby 0 (by omega)
  rw [Nat.add_zero] at hc0
  rw [hk] at hc0
  have HI := Lib.hid hi
  have HN := Lib.hid hn
  have H4 := Lib.hid h4
  have hn0 : 0 < n := by omega
  rw [hn]
  have HT := Lib.hid hT
  clear hi hn h4 hby hT hk
  go_enter Tryd.func27, Tryd.ntmps27
  go_upto_region 0 with (fail)
  refine wp_region_lit ?_
  refine wpList_new_blk rfl 30 rfl (mC (zeroM 0) (.slice none 0 0) (.slice none 0 0) (.slice none 0 0) (.slice none 0 0) (.slice none 0 0) (.slice none 0 0)) zeroMsg ?_
  intro gr w1 hgr br hb1
  have hc1 := (hb1.cell (p := ⟨gb, ob, none⟩) hgb).trans hc0
  have HGR := Lib.hid hgr
  clear hgr hc0
  try simp only [Act.put, List.setIfInBounds_toArray, List.set_cons_zero, List.set_cons_succ]
  go_upto_region 1 with (fail)
  refine wp_region_lit ?_
  refine wpList_plain rfl (fun K hK => ?_)
  go_simp
  refine hK _ _ ?_
  clear hK K
  try simp only [Act.put, List.setIfInBounds_toArray, List.set_cons_zero, List.set_cons_succ]
  refine wpList_plain rfl (fun K hK => ?_)
  go_simp
  refine hK _ _ ?_
  clear hK K
  try simp only [Act.put, List.setIfInBounds_toArray, List.set_cons_zero, List.set_cons_succ]
  refine wpList_plain rfl (fun K hK => ?_)
  go_simp
  refine hK _ _ ?_
  clear hK K
  try simp only [Act.put, List.setIfInBounds_toArray, List.set_cons_zero, List.set_cons_succ]
  refine wpList_plain rfl (fun K hK => ?_)
  go_simp
  refine hK _ _ ?_
  clear hK K
  try simp only [Act.put, List.setIfInBounds_toArray, List.set_cons_zero, List.set_cons_succ]
  refine wpList_plain rfl (fun K hK => wp_builtV 30 _ rfl [(0, .int .i64 15)] rfl (mC (zeroM 15) (.slice none 0 0) (.slice none 0 0) (.slice none 0 0) (.slice none 0 0) (.slice none 0 0) (.slice none 0 0)).toArray (builtMsg 15) (hK _ _ ?_))
  clear hK K
  try simp only [Act.put, List.setIfInBounds_toArray, List.set_cons_zero, List.set_cons_succ]
  refine wpList_new_blk rfl 30 rfl (mC (zeroM 0) (.slice none 0 0) (.slice none 0 0) (.slice none 0 0) (.slice none 0 0) (.slice none 0 0) (.slice none 0 0)) zeroMsg ?_
  intro gm w2 hgm bm hb2
  have HGM := Lib.hid hgm
  clear hgm hc1
  try simp only [Act.put, List.setIfInBounds_toArray, List.set_cons_zero, List.set_cons_succ]
  refine wpList_store_blk rfl 30 (.tmp 3) (.tmp 9) rfl rfl gm (mC (zeroM 15) (.slice none 0 0) (.slice none 0 0) (.slice none 0 0) (.slice none 0 0) (.slice none 0 0) (.slice none 0 0)) rfl rfl _ _ bm (infoMsg.trans (by rw [mC_length rfl rfl])) (by rw [mC_length rfl rfl, mC_length rfl rfl]) (one_mC rfl rfl rfl rfl rfl rfl) ?_
  intro w3 bm3 hg3
  try simp only [Act.put, List.setIfInBounds_toArray, List.set_cons_zero, List.set_cons_succ]
  have br2 := br.below hb2 br.lt
  have HO := Lib.hid (show w.heap.size ≤ gr ∧ gr < gm ∧ w.heap.size ≤ gm by have := HGR.out; have := HGM.out; have := hb1.size; have := br.lt; omega)
  have hb12 := hb1.trans (hb2.mono hb1.size)
  have br3 := br2.grown hg3 (fun e => by have := HO.out; injection e with e; omega)
  have hb13 : Below w.heap.size w w3 := hb12.trans (grown_below hg3 HO.out.2.2 hb12.size)
  have hS3 : SlB w3 w.heap.size (.slice (some ⟨gb, ob, none⟩) n c) b := ⟨some ⟨gb, ob, none⟩, c, by rw [HN.out], HI.out.below hb13⟩
  clear hg3 bm br br2 hb12 hb1 hb2 hgb hn0
  go_upto_region 2 with (fail)
  refine wp_region_lit ?_
  refine wpList_plain rfl (fun K hK => ?_)
  go_simp
  refine hK _ _ ?_
  clear hK K
  try simp only [Act.put, List.setIfInBounds_toArray, List.set_cons_zero, List.set_cons_succ]
  refine wpList_sliceL rfl rfl rfl hS3 4 rfl (by rw [HN.out]; exact H4.out) ?_
  intro v4 hv4
  obtain ⟨A4, c4, rfl, hi4⟩ := hv4
  obtain ⟨q4, hq4⟩ : ∃ q, (b.drop 4).length = q := ⟨_, rfl⟩
  rw [hq4]
  try simp only [Act.put, List.setIfInBounds_toArray, List.set_cons_zero, List.set_cons_succ]
  refine wpList_plain rfl (fun K hK => wp_builtV 77 _ rfl [(0, .slice A4 q4 c4)] rfl [.slice A4 q4 c4].toArray (builtCur _ _ _) (hK _ _ ?_))
  clear hK K hS3
  try simp only [Act.put, List.setIfInBounds_toArray, List.set_cons_zero, List.set_cons_succ]
  refine wpList_new_blk rfl 77 rfl [.slice none 0 0] zeroCur ?_
  intro gc w4 hgc bc hb4
  have HGC := Lib.hid hgc
  clear hgc
  try simp only [Act.put, List.setIfInBounds_toArray, List.set_cons_zero, List.set_cons_succ]
  refine wpList_store_blk rfl 77 (.tmp 4) (.tmp 12) rfl rfl gc [.slice A4 q4 c4] rfl rfl _ _ bc (infoCur.trans rfl) rfl (by simp [Value.oneCell']) ?_
  intro w5 bc5 hg5
  try simp only [Act.put, List.setIfInBounds_toArray, List.set_cons_zero, List.set_cons_succ]
  have HO2 := Lib.hid (show gm < gc by have := HGC.out; have := bm3.lt; omega)
  have bm5 := (bm3.below hb4 bm3.lt).grown hg5 (fun e => by have := HO2.out; injection e with e; omega)
  have br5 := (br3.below hb4 br3.lt).grown hg5 (fun e => by have := HO2.out; have := HO.out; injection e with e; omega)
  have hb14 := hb13.trans (hb4.mono hb13.size)
  have hb15 : Below w.heap.size w w5 := hb14.trans (grown_below hg5 (by have := HO2.out; have := HO.out; omega) hb14.size)
  have C : CAt w5 w.heap.size gc (b.drop 4) := ⟨by have := HO2.out; have := HO.out; omega, _, bc5, ⟨A4, c4, by rw [hq4], (hi4.below (hb4.mono hb13.size)).below (grown_below hg5 (by have := HO2.out; have := HO.out; omega) hb14.size)⟩⟩
  obtain ⟨D, hD⟩ : ∃ D, D = w5.heap.size := ⟨_, rfl⟩
  have HD := Lib.hid hD
  have hgcD : gm < gc ∧ gc < D ∧ w.heap.size ≤ gm ∧ D ≤ w5.heap.size := ⟨HO2.out, by rw [hD]; exact bc5.lt, HO.out.2.2, Nat.le_of_eq hD⟩
  have HGD := Lib.hid hgcD
  have hrD : gr < D := by have := HO.out; have := HO2.out; omega
  have HRD := Lib.hid hrD
  have hr40 := Lib.hid (show (b.drop 4).length ≤ 200000 by rw [List.length_drop]; have := h40.out; omega)
  have MK5 : MK w5 D gm [] ∨ True := .inr trivial
  have hck : w5.cell? ⟨gm, 0, none⟩ = some (.int .i64 15) := bm5.cell 0
  have HB5 := Lib.hid hb15
  clear hi4 hq4 bm3 br3 bc bc5 hg5 hb13 hb14 hb4 hb15 hgcD hD hrD MK5
  have hn5 : ∀ W, BufV W D (.slice none 0 0) [] := fun W => ⟨none, 0, rfl, Buf.nil _ _⟩
  have M : MW w5 D gm (zeroM 15) := ⟨Nat.lt_trans HGD.out.1 HGD.out.2.1, ⟨rfl, rfl⟩, _, _, _, _, _, _, bm5, hn5 _, hn5 _, hn5 _, hn5 _, hn5 _, Rws.nil _ _⟩
  clear hn5
  obtain ⟨r, hr⟩ : ∃ r, Hid (b.drop 4 = r) := ⟨_, Lib.hid rfl⟩
  rw [hr.out] at C hr40
  have HL := Lib.hid (show gm ≤ gc ∧ gc < D ∧ gm ≠ gc from ⟨Nat.le_of_lt HGD.out.1, HGD.out.2.1, Nat.ne_of_lt HGD.out.1⟩)
  have HL2 := Lib.hid (show w.heap.size ≤ gm ∧ gc ≠ gm from ⟨HGD.out.2.2.1, (Nat.ne_of_lt HGD.out.1).symm⟩)
  have HL3 := Lib.hid HGD.out.2.2.2
  have HLS := Lib.hid (Nat.le_of_lt M.lt)
  have hb : Below gm w5 w5 := Below.refl _ _
  go_upto_region 13 with (fail)
  go_upto_region 14 with (go_at_call 47; refine (pass_e w.heap.size gc r [4, 3] 2 _ C (Lib.hid rfl) (Lib.hid (by decide))).mono ?_; rintro e w21 ⟨rfl, Cn, hg⟩)
  clear C
  have C := Cn
  clear Cn
  replace hb := hb.trans (grown_below hg HL.out.1 (Nat.le_trans HLS.out hb.size))
  replace M := M.kept hg HL.out.2.1 HL.out.2.2
  clear hg
  obtain ⟨r22, hr22⟩ : ∃ x, Hid (r.drop 2 = x) := ⟨_, Lib.hid rfl⟩
  rw [hr22.out] at C
  obtain ⟨Y, hY⟩ : ∃ Y, Hid ((HelloMath.cnt 2 r22).1 = Y) := ⟨_, Lib.hid rfl⟩
  have hrl := Lib.hid (show r22.length ≤ 200000 by simp only [← hr22.out]; simp only [List.length_drop]; have := hr40.out; omega)
  go_upto_region 17 with (go_at_call 48; refine (counted_c w.heap.size gc r22 2 _ C (Lib.hid (by decide)) hrl).mono ?_; rintro e w23 ⟨v, rfl, hv, Cn, hg⟩; rw [hY.out] at hv; have Mn := M.kept hg HL.out.2.1 HL.out.2.2; replace hv := hv.base (Nat.le_trans HL3.out hb.size); have HV := Lib.hid hv; obtain ⟨Av, cv, rfl, -⟩ := hv; obtain ⟨qv, hqv⟩ : ∃ q, Y.length = q := ⟨_, rfl⟩; rw [hqv] at HV ⊢; have hth := Mn.there 69 (by decide); obtain ⟨xo, hxo⟩ := Option.isSome_iff_exists.1 hth.1; have hfz := hth.2; clear hth)
  clear C
  have C := Cn
  clear Cn
  replace hb := hb.trans (grown_below hg HL.out.1 (Nat.le_trans HLS.out hb.size))
  clear hg M hxo hfz hqv hrl
  have hg := grown_cell w23 gm 69 (.slice Av qv cv)
  have M := Mn.set_sig HV.out
  clear Mn
  replace C := C.other hg HL2.out.1 HL2.out.2
  replace hb := hb.trans (grown_below hg (Nat.le_refl _) (Nat.le_trans HLS.out hb.size))
  clear hg
  generalize w23.setCell ⟨gm, 69, none⟩ (.slice Av qv cv) = w23s at *
  clear HV
  rw [← hY.out] at M
  clear hY Y
  obtain ⟨m24, hm24⟩ : ∃ x, Hid ({ (zeroM 15) with sig := (HelloMath.cnt 2 r22).1 } = x) := ⟨_, Lib.hid rfl⟩
  rw [hm24.out] at M
  obtain ⟨r25, hr25⟩ : ∃ x, Hid ((HelloMath.cnt 2 r22).2 = x) := ⟨_, Lib.hid rfl⟩
  rw [hr25.out] at C
  have M6 : MW w23s D gm (saidM 15 r) := by
    have e : m24 = saidM 15 r := by
      rw [← hm24.out]
      show _ = saidVerify r
      unfold saidVerify
      simp only [hr22.out]
    rw [← e]
    exact M
  have hb6 := hb
  clear hck C M hb
  obtain ⟨cs, B6, hmo⟩ := M6.mvo
  have br6 := br5.below hb6 HO.out.2.1
  refine wp_region_lit ?_
  refine wpList_load_mid rfl 30 (.tmp 3) rfl gm 0 rfl cs _ (rangeAt_of_blk B6) Tryd.underlying30 rfl (infoMsg.trans (by rw [hmo.len])) ?_
  try simp only [Act.put, List.setIfInBounds_toArray, List.set_cons_zero, List.set_cons_succ]
  refine wpList_store_blk rfl 30 (.tmp 2) (.tmp 36) rfl rfl gr cs rfl rfl _ _ br6 (infoMsg.trans (by rw [hmo.len])) (by rw [mC_length rfl rfl, hmo.len]) hmo.one ?_
  intro w7 B7 hg7
  go_wp2
  refine bodyPost_ret (results_row1 rfl _ _ gr 0 cs _ rfl (rangeAt_of_blk B7) Tryd.underlying30 rfl (infoMsg.trans (by rw [hmo.len]))) rfl ?_
  have hb56 := HB5.out.trans (hb6.mono HO.out.2.2)
  refine ⟨cs, rfl, ?_, hb56.trans (grown_below hg7 HO.out.1 hb56.size)⟩
  have h := (hmo.kept hg7 HRD.out).base (D' := w.heap.size) (by have := HGD.out; omega)
  rw [← hr.out] at h
  exact h
set_option maxRecDepth 100000 in
set_option maxHeartbeats 2000000 in
theorem said_20 (b : List UInt8) (v : Value) (w : World) (hT : TabH w) (hv : SlV w v b) (h4 : 4 ≤ b.length) (h40 : Hid (b.length ≤ 200000)) (hk : ((b.getD 0 0).toNat : Int) = 20) : Calls Tryd.prog 27 #[v] w fun e w' => ∃ cs, e = .returned (.agg cs.toArray) ∧ MVo w' w.heap.size (saidM 20 (b.drop 4)) cs ∧ Below w.heap.size w w' := by
  obtain ⟨A, c, hvv, hi⟩ := hv
  subst hvv
  obtain ⟨n, hn⟩ : ∃ n, b.length = n := ⟨_, rfl⟩
  rw [hn] at h4
  obtain ⟨gb, ob, rfl, hgb, hby⟩ := hi.2.2 (by omega)
  have hc0 := hby 0 (by omega)
  rw [Nat.add_zero] at hc0
  rw [hk] at hc0
  have HI := Lib.hid hi
  have HN := Lib.hid hn
  have H4 := Lib.hid h4
  have hn0 : 0 < n := by omega
  rw [hn]
  have HT := Lib.hid hT
  clear hi hn h4 hby hT hk
  go_enter Tryd.func27, Tryd.ntmps27
  go_upto_region 0 with (fail)
  refine wp_region_lit ?_
  refine wpList_new_blk rfl 30 rfl (mC (zeroM 0) (.slice none 0 0) (.slice none 0 0) (.slice none 0 0) (.slice none 0 0) (.slice none 0 0) (.slice none 0 0)) zeroMsg ?_
  intro gr w1 hgr br hb1
  have hc1 := (hb1.cell (p := ⟨gb, ob, none⟩) hgb).trans hc0
  have HGR := Lib.hid hgr
  clear hgr hc0
  try simp only [Act.put, List.setIfInBounds_toArray, List.set_cons_zero, List.set_cons_succ]
  go_upto_region 1 with (fail)
  refine wp_region_lit ?_
  refine wpList_plain rfl (fun K hK => ?_)
  go_simp
  refine hK _ _ ?_
  clear hK K
  try simp only [Act.put, List.setIfInBounds_toArray, List.set_cons_zero, List.set_cons_succ]
  refine wpList_plain rfl (fun K hK => ?_)
  go_simp
  refine hK _ _ ?_
  clear hK K
  try simp only [Act.put, List.setIfInBounds_toArray, List.set_cons_zero, List.set_cons_succ]
  refine wpList_plain rfl (fun K hK => ?_)
  go_simp
  refine hK _ _ ?_
  clear hK K
  try simp only [Act.put, List.setIfInBounds_toArray, List.set_cons_zero, List.set_cons_succ]
  refine wpList_plain rfl (fun K hK => ?_)
  go_simp
  refine hK _ _ ?_
  clear hK K
  try simp only [Act.put, List.setIfInBounds_toArray, List.set_cons_zero, List.set_cons_succ]
  refine wpList_plain rfl (fun K hK => wp_builtV 30 _ rfl [(0, .int .i64 20)] rfl (mC (zeroM 20) (.slice none 0 0) (.slice none 0 0) (.slice none 0 0) (.slice none 0 0) (.slice none 0 0) (.slice none 0 0)).toArray (builtMsg 20) (hK _ _ ?_))
  clear hK K
  try simp only [Act.put, List.setIfInBounds_toArray, List.set_cons_zero, List.set_cons_succ]
  refine wpList_new_blk rfl 30 rfl (mC (zeroM 0) (.slice none 0 0) (.slice none 0 0) (.slice none 0 0) (.slice none 0 0) (.slice none 0 0) (.slice none 0 0)) zeroMsg ?_
  intro gm w2 hgm bm hb2
  have HGM := Lib.hid hgm
  clear hgm hc1
  try simp only [Act.put, List.setIfInBounds_toArray, List.set_cons_zero, List.set_cons_succ]
  refine wpList_store_blk rfl 30 (.tmp 3) (.tmp 9) rfl rfl gm (mC (zeroM 20) (.slice none 0 0) (.slice none 0 0) (.slice none 0 0) (.slice none 0 0) (.slice none 0 0) (.slice none 0 0)) rfl rfl _ _ bm (infoMsg.trans (by rw [mC_length rfl rfl])) (by rw [mC_length rfl rfl, mC_length rfl rfl]) (one_mC rfl rfl rfl rfl rfl rfl) ?_
  intro w3 bm3 hg3
  try simp only [Act.put, List.setIfInBounds_toArray, List.set_cons_zero, List.set_cons_succ]
  have br2 := br.below hb2 br.lt
  have HO := Lib.hid (show w.heap.size ≤ gr ∧ gr < gm ∧ w.heap.size ≤ gm by have := HGR.out; have := HGM.out; have := hb1.size; have := br.lt; omega)
  have hb12 := hb1.trans (hb2.mono hb1.size)
  have br3 := br2.grown hg3 (fun e => by have := HO.out; injection e with e; omega)
  have hb13 : Below w.heap.size w w3 := hb12.trans (grown_below hg3 HO.out.2.2 hb12.size)
  have hS3 : SlB w3 w.heap.size (.slice (some ⟨gb, ob, none⟩) n c) b := ⟨some ⟨gb, ob, none⟩, c, by rw [HN.out], HI.out.below hb13⟩
  clear hg3 bm br br2 hb12 hb1 hb2 hgb hn0
  go_upto_region 2 with (fail)
  refine wp_region_lit ?_
  refine wpList_plain rfl (fun K hK => ?_)
  go_simp
  refine hK _ _ ?_
  clear hK K
  try simp only [Act.put, List.setIfInBounds_toArray, List.set_cons_zero, List.set_cons_succ]
  refine wpList_sliceL rfl rfl rfl hS3 4 rfl (by rw [HN.out]; exact H4.out) ?_
  intro v4 hv4
  obtain ⟨A4, c4, rfl, hi4⟩ := hv4
  obtain ⟨q4, hq4⟩ : ∃ q, (b.drop 4).length = q := ⟨_, rfl⟩
  rw [hq4]
  try simp only [Act.put, List.setIfInBounds_toArray, List.set_cons_zero, List.set_cons_succ]
  refine wpList_plain rfl (fun K hK => wp_builtV 77 _ rfl [(0, .slice A4 q4 c4)] rfl [.slice A4 q4 c4].toArray (builtCur _ _ _) (hK _ _ ?_))
  clear hK K hS3
  try simp only [Act.put, List.setIfInBounds_toArray, List.set_cons_zero, List.set_cons_succ]
  refine wpList_new_blk rfl 77 rfl [.slice none 0 0] zeroCur ?_
  intro gc w4 hgc bc hb4
  have HGC := Lib.hid hgc
  clear hgc
  try simp only [Act.put, List.setIfInBounds_toArray, List.set_cons_zero, List.set_cons_succ]
  refine wpList_store_blk rfl 77 (.tmp 4) (.tmp 12) rfl rfl gc [.slice A4 q4 c4] rfl rfl _ _ bc (infoCur.trans rfl) rfl (by simp [Value.oneCell']) ?_
  intro w5 bc5 hg5
  try simp only [Act.put, List.setIfInBounds_toArray, List.set_cons_zero, List.set_cons_succ]
  have HO2 := Lib.hid (show gm < gc by have := HGC.out; have := bm3.lt; omega)
  have bm5 := (bm3.below hb4 bm3.lt).grown hg5 (fun e => by have := HO2.out; injection e with e; omega)
  have br5 := (br3.below hb4 br3.lt).grown hg5 (fun e => by have := HO2.out; have := HO.out; injection e with e; omega)
  have hb14 := hb13.trans (hb4.mono hb13.size)
  have hb15 : Below w.heap.size w w5 := hb14.trans (grown_below hg5 (by have := HO2.out; have := HO.out; omega) hb14.size)
  have C : CAt w5 w.heap.size gc (b.drop 4) := ⟨by have := HO2.out; have := HO.out; omega, _, bc5, ⟨A4, c4, by rw [hq4], (hi4.below (hb4.mono hb13.size)).below (grown_below hg5 (by have := HO2.out; have := HO.out; omega) hb14.size)⟩⟩
  obtain ⟨D, hD⟩ : ∃ D, D = w5.heap.size := ⟨_, rfl⟩
  have HD := Lib.hid hD
  have hgcD : gm < gc ∧ gc < D ∧ w.heap.size ≤ gm ∧ D ≤ w5.heap.size := ⟨HO2.out, by rw [hD]; exact bc5.lt, HO.out.2.2, Nat.le_of_eq hD⟩
  have HGD := Lib.hid hgcD
  have hrD : gr < D := by have := HO.out; have := HO2.out; omega
  have HRD := Lib.hid hrD
  have hr40 := Lib.hid (show (b.drop 4).length ≤ 200000 by rw [List.length_drop]; have := h40.out; omega)
  have MK5 : MK w5 D gm [] ∨ True := .inr trivial
  have hck : w5.cell? ⟨gm, 0, none⟩ = some (.int .i64 20) := bm5.cell 0
  have HB5 := Lib.hid hb15
  clear hi4 hq4 bm3 br3 bc bc5 hg5 hb13 hb14 hb4 hb15 hgcD hD hrD MK5
  have hn5 : ∀ W, BufV W D (.slice none 0 0) [] := fun W => ⟨none, 0, rfl, Buf.nil _ _⟩
  have M : MW w5 D gm (zeroM 20) := ⟨Nat.lt_trans HGD.out.1 HGD.out.2.1, ⟨rfl, rfl⟩, _, _, _, _, _, _, bm5, hn5 _, hn5 _, hn5 _, hn5 _, hn5 _, Rws.nil _ _⟩
  clear hn5
  obtain ⟨r, hr⟩ : ∃ r, Hid (b.drop 4 = r) := ⟨_, Lib.hid rfl⟩
  rw [hr.out] at C hr40
  have HL := Lib.hid (show gm ≤ gc ∧ gc < D ∧ gm ≠ gc from ⟨Nat.le_of_lt HGD.out.1, HGD.out.2.1, Nat.ne_of_lt HGD.out.1⟩)
  have HL2 := Lib.hid (show w.heap.size ≤ gm ∧ gc ≠ gm from ⟨HGD.out.2.2.1, (Nat.ne_of_lt HGD.out.1).symm⟩)
  have HL3 := Lib.hid HGD.out.2.2.2
  have HLS := Lib.hid (Nat.le_of_lt M.lt)
  have hb : Below gm w5 w5 := Below.refl _ _
  go_upto_region 16 with (fail)
  have hpl : ((pad32 (r.take 32))).length = 32 := HelloMath.pad_32 r
  obtain ⟨X, hX⟩ : ∃ X, Hid ((pad32 (r.take 32)) = X) := ⟨_, Lib.hid rfl⟩
  rw [hX.out] at hpl
  go_upto_region 17 with (first
    | (go_at_call 49; refine (sum_c w.heap.size gc r _ C).mono ?_; rintro e w21 ⟨rfl, Cn, hg⟩; rw [hX.out]; have Mn := M.kept hg HL.out.2.1 HL.out.2.2)
    | ((with_reducible refine (?_ : wpList _ _ _ (Oper.mk none _ _ _ _ _ :: _) _ _)); go_loud (refine wpList_store_mid rfl 22 (.tmp 35) (.tmp 34) rfl gm 33 (X.map B8).toArray rfl rfl (fun j hj => by have hj' : j < 32 := (by simpa [hpl] using hj); exact Mn.there (33 + j) (by omega)) (info40.trans (by simp [hpl])) (one8 _) ?_)))
  clear C
  have C := Cn
  clear Cn
  replace hb := hb.trans (grown_below hg HL.out.1 (Nat.le_trans HLS.out hb.size))
  clear hg M
  have hg := grown_setCells w21 gm 33 (X.map B8)
  have M := Mn.set_mark hpl
  clear Mn
  replace C := C.other hg HL2.out.1 HL2.out.2
  replace hb := hb.trans (grown_below hg (Nat.le_refl _) (Nat.le_trans HLS.out hb.size))
  clear hg
  generalize w21.setCells gm 33 (X.map B8) = w21s at *
  rw [← hX.out] at M
  clear hX hpl
  obtain ⟨m22, hm22⟩ : ∃ x, Hid ({ (zeroM 20) with mark := pad32 (r.take 32) } = x) := ⟨_, Lib.hid rfl⟩
  rw [hm22.out] at M
  obtain ⟨r23, hr23⟩ : ∃ x, Hid (r.drop 32 = x) := ⟨_, Lib.hid rfl⟩
  rw [hr23.out] at C
  have M6 : MW w21s D gm (saidM 20 r) := by
    have e : m22 = saidM 20 r := by
      rw [← hm22.out]
      show _ = saidFinished r
      rfl
    rw [← e]
    exact M
  have hb6 := hb
  clear hck C M hb
  obtain ⟨cs, B6, hmo⟩ := M6.mvo
  have br6 := br5.below hb6 HO.out.2.1
  refine wp_region_lit ?_
  refine wpList_load_mid rfl 30 (.tmp 3) rfl gm 0 rfl cs _ (rangeAt_of_blk B6) Tryd.underlying30 rfl (infoMsg.trans (by rw [hmo.len])) ?_
  try simp only [Act.put, List.setIfInBounds_toArray, List.set_cons_zero, List.set_cons_succ]
  refine wpList_store_blk rfl 30 (.tmp 2) (.tmp 36) rfl rfl gr cs rfl rfl _ _ br6 (infoMsg.trans (by rw [hmo.len])) (by rw [mC_length rfl rfl, hmo.len]) hmo.one ?_
  intro w7 B7 hg7
  go_wp2
  refine bodyPost_ret (results_row1 rfl _ _ gr 0 cs _ rfl (rangeAt_of_blk B7) Tryd.underlying30 rfl (infoMsg.trans (by rw [hmo.len]))) rfl ?_
  have hb56 := HB5.out.trans (hb6.mono HO.out.2.2)
  refine ⟨cs, rfl, ?_, hb56.trans (grown_below hg7 HO.out.1 hb56.size)⟩
  have h := (hmo.kept hg7 HRD.out).base (D' := w.heap.size) (by have := HGD.out; omega)
  rw [← hr.out] at h
  exact h
set_option maxRecDepth 100000 in
set_option maxHeartbeats 2000000 in
theorem said_o (b : List UInt8) (v : Value) (w : World) (hT : TabH w) (hv : SlV w v b) (h4 : 4 ≤ b.length) (h40 : Hid (b.length ≤ 200000)) (k : Int) (hk : ((b.getD 0 0).toNat : Int) = k) (n1 : (k == 1) = false) (n2 : (k == 2) = false) (n4 : (k == 4) = false) (n11 : (k == 11) = false) (n15 : (k == 15) = false) (n20 : (k == 20) = false) : Calls Tryd.prog 27 #[v] w fun e w' => ∃ cs, e = .returned (.agg cs.toArray) ∧ MVo w' w.heap.size (saidM k (b.drop 4)) cs ∧ Below w.heap.size w w' := by
  have hwk : IntKind.i64.wrap k = k := by
    rw [← hk, IntKind.wrap_i64]
    have := (b.getD 0 0).toNat_lt
    omega
  obtain ⟨A, c, hvv, hi⟩ := hv
  subst hvv
  obtain ⟨n, hn⟩ : ∃ n, b.length = n := ⟨_, rfl⟩
  rw [hn] at h4
  obtain ⟨gb, ob, rfl, hgb, hby⟩ := hi.2.2 (by omega)
  have hc0 := hby 0 (by omega)
  rw [Nat.add_zero] at hc0
  rw [hk] at hc0
  have HI := Lib.hid hi
  have HN := Lib.hid hn
  have H4 := Lib.hid h4
  have hn0 : 0 < n := by omega
  rw [hn]
  have HT := Lib.hid hT
  clear hi hn h4 hby hT hk
  go_enter Tryd.func27, Tryd.ntmps27
  go_upto_region 0 with (fail)
  refine wp_region_lit ?_
  refine wpList_new_blk rfl 30 rfl (mC (zeroM 0) (.slice none 0 0) (.slice none 0 0) (.slice none 0 0) (.slice none 0 0) (.slice none 0 0) (.slice none 0 0)) zeroMsg ?_
  intro gr w1 hgr br hb1
  have hc1 := (hb1.cell (p := ⟨gb, ob, none⟩) hgb).trans hc0
  have HGR := Lib.hid hgr
  clear hgr hc0
  try simp only [Act.put, List.setIfInBounds_toArray, List.set_cons_zero, List.set_cons_succ]
  go_upto_region 1 with (fail)
  refine wp_region_lit ?_
  refine wpList_plain rfl (fun K hK => ?_)
  go_simp
  refine hK _ _ ?_
  clear hK K
  try simp only [Act.put, List.setIfInBounds_toArray, List.set_cons_zero, List.set_cons_succ]
  refine wpList_plain rfl (fun K hK => ?_)
  go_simp
  refine hK _ _ ?_
  clear hK K
  try simp only [Act.put, List.setIfInBounds_toArray, List.set_cons_zero, List.set_cons_succ]
  refine wpList_plain rfl (fun K hK => ?_)
  go_simp
  refine hK _ _ ?_
  clear hK K
  try simp only [Act.put, List.setIfInBounds_toArray, List.set_cons_zero, List.set_cons_succ]
  refine wpList_plain rfl (fun K hK => ?_)
  go_simp
  refine hK _ _ ?_
  clear hK K
  try simp only [Act.put, List.setIfInBounds_toArray, List.set_cons_zero, List.set_cons_succ]
  try rw [hwk]
  refine wpList_plain rfl (fun K hK => wp_builtV 30 _ rfl [(0, .int .i64 k)] rfl (mC (zeroM k) (.slice none 0 0) (.slice none 0 0) (.slice none 0 0) (.slice none 0 0) (.slice none 0 0) (.slice none 0 0)).toArray (builtMsg k) (hK _ _ ?_))
  clear hK K
  try simp only [Act.put, List.setIfInBounds_toArray, List.set_cons_zero, List.set_cons_succ]
  refine wpList_new_blk rfl 30 rfl (mC (zeroM 0) (.slice none 0 0) (.slice none 0 0) (.slice none 0 0) (.slice none 0 0) (.slice none 0 0) (.slice none 0 0)) zeroMsg ?_
  intro gm w2 hgm bm hb2
  have HGM := Lib.hid hgm
  clear hgm hc1
  try simp only [Act.put, List.setIfInBounds_toArray, List.set_cons_zero, List.set_cons_succ]
  refine wpList_store_blk rfl 30 (.tmp 3) (.tmp 9) rfl rfl gm (mC (zeroM k) (.slice none 0 0) (.slice none 0 0) (.slice none 0 0) (.slice none 0 0) (.slice none 0 0) (.slice none 0 0)) rfl rfl _ _ bm (infoMsg.trans (by rw [mC_length rfl rfl])) (by rw [mC_length rfl rfl, mC_length rfl rfl]) (one_mC rfl rfl rfl rfl rfl rfl) ?_
  intro w3 bm3 hg3
  try simp only [Act.put, List.setIfInBounds_toArray, List.set_cons_zero, List.set_cons_succ]
  have br2 := br.below hb2 br.lt
  have HO := Lib.hid (show w.heap.size ≤ gr ∧ gr < gm ∧ w.heap.size ≤ gm by have := HGR.out; have := HGM.out; have := hb1.size; have := br.lt; omega)
  have hb12 := hb1.trans (hb2.mono hb1.size)
  have br3 := br2.grown hg3 (fun e => by have := HO.out; injection e with e; omega)
  have hb13 : Below w.heap.size w w3 := hb12.trans (grown_below hg3 HO.out.2.2 hb12.size)
  have hS3 : SlB w3 w.heap.size (.slice (some ⟨gb, ob, none⟩) n c) b := ⟨some ⟨gb, ob, none⟩, c, by rw [HN.out], HI.out.below hb13⟩
  clear hg3 bm br br2 hb12 hb1 hb2 hgb hn0
  go_upto_region 2 with (fail)
  refine wp_region_lit ?_
  refine wpList_plain rfl (fun K hK => ?_)
  go_simp
  refine hK _ _ ?_
  clear hK K
  try simp only [Act.put, List.setIfInBounds_toArray, List.set_cons_zero, List.set_cons_succ]
  refine wpList_sliceL rfl rfl rfl hS3 4 rfl (by rw [HN.out]; exact H4.out) ?_
  intro v4 hv4
  obtain ⟨A4, c4, rfl, hi4⟩ := hv4
  obtain ⟨q4, hq4⟩ : ∃ q, (b.drop 4).length = q := ⟨_, rfl⟩
  rw [hq4]
  try simp only [Act.put, List.setIfInBounds_toArray, List.set_cons_zero, List.set_cons_succ]
  refine wpList_plain rfl (fun K hK => wp_builtV 77 _ rfl [(0, .slice A4 q4 c4)] rfl [.slice A4 q4 c4].toArray (builtCur _ _ _) (hK _ _ ?_))
  clear hK K hS3
  try simp only [Act.put, List.setIfInBounds_toArray, List.set_cons_zero, List.set_cons_succ]
  refine wpList_new_blk rfl 77 rfl [.slice none 0 0] zeroCur ?_
  intro gc w4 hgc bc hb4
  have HGC := Lib.hid hgc
  clear hgc
  try simp only [Act.put, List.setIfInBounds_toArray, List.set_cons_zero, List.set_cons_succ]
  refine wpList_store_blk rfl 77 (.tmp 4) (.tmp 12) rfl rfl gc [.slice A4 q4 c4] rfl rfl _ _ bc (infoCur.trans rfl) rfl (by simp [Value.oneCell']) ?_
  intro w5 bc5 hg5
  try simp only [Act.put, List.setIfInBounds_toArray, List.set_cons_zero, List.set_cons_succ]
  have HO2 := Lib.hid (show gm < gc by have := HGC.out; have := bm3.lt; omega)
  have bm5 := (bm3.below hb4 bm3.lt).grown hg5 (fun e => by have := HO2.out; injection e with e; omega)
  have br5 := (br3.below hb4 br3.lt).grown hg5 (fun e => by have := HO2.out; have := HO.out; injection e with e; omega)
  have hb14 := hb13.trans (hb4.mono hb13.size)
  have hb15 : Below w.heap.size w w5 := hb14.trans (grown_below hg5 (by have := HO2.out; have := HO.out; omega) hb14.size)
  have C : CAt w5 w.heap.size gc (b.drop 4) := ⟨by have := HO2.out; have := HO.out; omega, _, bc5, ⟨A4, c4, by rw [hq4], (hi4.below (hb4.mono hb13.size)).below (grown_below hg5 (by have := HO2.out; have := HO.out; omega) hb14.size)⟩⟩
  obtain ⟨D, hD⟩ : ∃ D, D = w5.heap.size := ⟨_, rfl⟩
  have HD := Lib.hid hD
  have hgcD : gm < gc ∧ gc < D ∧ w.heap.size ≤ gm ∧ D ≤ w5.heap.size := ⟨HO2.out, by rw [hD]; exact bc5.lt, HO.out.2.2, Nat.le_of_eq hD⟩
  have HGD := Lib.hid hgcD
  have hrD : gr < D := by have := HO.out; have := HO2.out; omega
  have HRD := Lib.hid hrD
  have hr40 := Lib.hid (show (b.drop 4).length ≤ 200000 by rw [List.length_drop]; have := h40.out; omega)
  have MK5 : MK w5 D gm [] ∨ True := .inr trivial
  have hck : w5.cell? ⟨gm, 0, none⟩ = some (.int .i64 k) := bm5.cell 0
  have HB5 := Lib.hid hb15
  clear hi4 hq4 bm3 br3 bc bc5 hg5 hb13 hb14 hb4 hb15 hgcD hD hrD MK5
  have hn5 : ∀ W, BufV W D (.slice none 0 0) [] := fun W => ⟨none, 0, rfl, Buf.nil _ _⟩
  have M : MW w5 D gm (zeroM k) := ⟨Nat.lt_trans HGD.out.1 HGD.out.2.1, ⟨rfl, rfl⟩, _, _, _, _, _, _, bm5, hn5 _, hn5 _, hn5 _, hn5 _, hn5 _, Rws.nil _ _⟩
  clear hn5
  go_upto_region 17 with (fail)
  have M6 : MW w5 D gm (saidM k (b.drop 4)) := by
    have e : saidM k (b.drop 4) = zeroM k := by
      unfold saidM
      rw [if_neg (by simpa using n1), if_neg (by simpa using n2), if_neg (by simpa using n4), if_neg (by simpa using n11), if_neg (by simpa using n15), if_neg (by simpa using n20)]
    rw [e]
    exact M
  have hb6 : Below gm w5 w5 := Below.refl _ _
  clear hck C M
  obtain ⟨cs, B6, hmo⟩ := M6.mvo
  have br6 := br5.below hb6 HO.out.2.1
  refine wp_region_lit ?_
  refine wpList_load_mid rfl 30 (.tmp 3) rfl gm 0 rfl cs _ (rangeAt_of_blk B6) Tryd.underlying30 rfl (infoMsg.trans (by rw [hmo.len])) ?_
  try simp only [Act.put, List.setIfInBounds_toArray, List.set_cons_zero, List.set_cons_succ]
  refine wpList_store_blk rfl 30 (.tmp 2) (.tmp 36) rfl rfl gr cs rfl rfl _ _ br6 (infoMsg.trans (by rw [hmo.len])) (by rw [mC_length rfl rfl, hmo.len]) hmo.one ?_
  intro w7 B7 hg7
  go_wp2
  refine bodyPost_ret (results_row1 rfl _ _ gr 0 cs _ rfl (rangeAt_of_blk B7) Tryd.underlying30 rfl (infoMsg.trans (by rw [hmo.len]))) rfl ?_
  have hb56 := HB5.out.trans (hb6.mono HO.out.2.2)
  refine ⟨cs, rfl, ?_, hb56.trans (grown_below hg7 HO.out.1 hb56.size)⟩
  have h := (hmo.kept hg7 HRD.out).base (D' := w.heap.size) (by have := HGD.out; omega)
  exact h
theorem said_e (b : List UInt8) (v : Value) (w : World) (hT : TabH w) (hv : SlV w v b) (h4 : 4 ≤ b.length) (h40 : Hid (b.length ≤ 200000)) : Calls Tryd.prog 27 #[v] w fun e w' => ∃ cs, e = .returned (.agg cs.toArray) ∧ MVo w' w.heap.size (saidM ((b.getD 0 0).toNat : Int) (b.drop 4)) cs ∧ Below w.heap.size w w' := by
  obtain ⟨k, hk⟩ : ∃ k, ((b.getD 0 0).toNat : Int) = k := ⟨_, rfl⟩
  rw [hk]
  by_cases h1 : k = 1
  · rw [h1]; exact said_1 b v w hT hv h4 h40 (by rw [hk, h1])
  by_cases h2 : k = 2
  · rw [h2]; exact said_2 b v w hT hv h4 h40 (by rw [hk, h2])
  by_cases h4' : k = 4
  · rw [h4']; exact said_4 b v w hT hv h4 h40 (by rw [hk, h4'])
  by_cases h11 : k = 11
  · rw [h11]; exact said_11 b v w hT hv h4 h40 (by rw [hk, h11])
  by_cases h15 : k = 15
  · rw [h15]; exact said_15 b v w hT hv h4 h40 (by rw [hk, h15])
  by_cases h20 : k = 20
  · rw [h20]; exact said_20 b v w hT hv h4 h40 (by rw [hk, h20])
  exact said_o b v w hT hv h4 h40 k hk (by simpa using h1) (by simpa using h2) (by simpa using h4') (by simpa using h11) (by simpa using h15) (by simpa using h20)
end Go.Proofs.YtagblbfbjemfhaaDoor
