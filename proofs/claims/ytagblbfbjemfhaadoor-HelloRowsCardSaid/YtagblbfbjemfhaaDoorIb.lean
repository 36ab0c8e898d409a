/-
  Package hello's said, kind by kind.
-/
import Derived.Test.YtagblbfbjemfhaaDoorIa
namespace Go.Proofs.YtagblbfbjemfhaaDoor
open Go.RowKit
open HelloMath (numB numB_length vecB vecB_length Msg getN getN_snoc pad32 zero32 zeroM saidTicket saidClient saidServer saidCerts saidVerify saidFinished saidM special)

theorem MVo.kept {w w' : World} {D g : Nat} {m : Msg} {cs : List Value} (h : MVo w D m cs) (hg : w.grownBy w' (some g)) (hD : g < D) : MVo w' D m cs := by
  obtain ⟨hl, v1, v2, v3, v4, v5, vc, e, h1, h2, h3, h4, h5, h6⟩ := h
  exact ⟨hl, v1, v2, v3, v4, v5, vc, e, h1.kept hg hD, h2.kept hg hD, h3.kept hg hD, h4.kept hg hD, h5.kept hg hD, h6.kept hg (fun j e => by injection e with e; omega)⟩
theorem client_c (B gc gm D : Nat) (r : List UInt8) (w : World) (C : CAt w B gc r) (M : MW w D gm (zeroM 1)) (hgc : gm < gc ∧ gc < D ∧ B ≤ gm ∧ D ≤ w.heap.size) (hr40 : Hid (r.length ≤ 200000)) : Calls Tryd.prog 43 #[.pointer (some ⟨gc, 0, none⟩), .pointer (some ⟨gm, 0, none⟩)] w fun e w' => e = .returned (.tuple #[]) ∧ MW w' D gm (saidClient r) ∧ Below gm w w' := by
  by_cases hq : getN (((((((HelloMath.cnt 1 ((r.drop 2).drop 32)).2.drop 6).drop 2).drop 25).drop 2)).take 2) = 0
  · cases hl : decide (afterShare r = []) with
    | true => exact client_00 B gc gm D r w C M hgc hr40 hq hl
    | false => exact client_01 B gc gm D r w C M hgc hr40 hq hl
  · cases hl : decide (afterShare r = []) with
    | true => exact client_10 B gc gm D r w C M hgc hr40 hq hl
    | false => exact client_11 B gc gm D r w C M hgc hr40 hq hl
theorem server_c (B gc gm D : Nat) (r : List UInt8) (w : World) (C : CAt w B gc r) (M : MW w D gm (zeroM 2)) (hgc : gm < gc ∧ gc < D ∧ B ≤ gm ∧ D ≤ w.heap.size) (hr40 : Hid (r.length ≤ 200000)) (HTT : Hid (∀ W, Below gm w W → TabH W)) : Calls Tryd.prog 44 #[.pointer (some ⟨gc, 0, none⟩), .pointer (some ⟨gm, 0, none⟩)] w fun e w' => e = .returned (.tuple #[]) ∧ MW w' D gm (saidServer r) ∧ Below gm w w' := by
  cases hq : pad32 ((r.drop 2).take 32) == special with
  | true => exact server_1 B gc gm D r w C M hgc hr40 HTT hq
  | false => exact server_0 B gc gm D r w C M hgc hr40 HTT hq
set_option maxRecDepth 100000 in
set_option maxHeartbeats 2000000 in
theorem said_1 (b : List UInt8) (v : Value) (w : World) (hT : TabH w) (hv : SlV w v b) (h4 : 4 ≤ b.length) (h40 : Hid (b.length ≤ 200000)) (hk : ((b.getD 0 0).toNat : Int) = 1) : Calls Tryd.prog 27 #[v] w fun e w' => ∃ cs, e = .returned (.agg cs.toArray) ∧ MVo w' w.heap.size (saidM 1 (b.drop 4)) cs ∧ Below w.heap.size w w' := by
  obtain ⟨A, c, hvv, hi⟩ := hv
  subst hvv
  obtain ⟨n, hn⟩ : ∃ n, b.length = n := ⟨_, rfl⟩
  rw [hn] at h4
  obtain ⟨gb, ob, rfl, hgb, hby⟩ := hi.2.2 (by omega)
  have hc0 := hby 0 (by omega)
  rw [Nat.add_zero] at hc0
  rw [hk] at hc0
  have HI := Lib.hid hi
  have HN := Lib.hid hn
  have H4 := Lib.hid h4
  have hn0 : 0 < n := by omega
  rw [hn]
  have HT := Lib.hid hT
  clear hi hn h4 hby hT hk
  go_enter Tryd.func27, Tryd.ntmps27
  go_upto_region 0 with (fail)
  refine wp_region_lit ?_
  refine wpList_new_blk rfl 30 rfl (mC (zeroM 0) (.slice none 0 0) (.slice none 0 0) (.slice none 0 0) (.slice none 0 0) (.slice none 0 0) (.slice none 0 0)) zeroMsg ?_
  intro gr w1 hgr br hb1
  have hc1 := (hb1.cell (p := ⟨gb, ob, none⟩) hgb).trans hc0
  have HGR := Lib.hid hgr
  clear hgr hc0
  try simp only [Act.put, List.setIfInBounds_toArray, List.set_cons_zero, List.set_cons_succ]
  go_upto_region 1 with (fail)
  refine wp_region_lit ?_
  refine wpList_plain rfl (fun K hK => ?_)
  go_simp
  refine hK _ _ ?_
  clear hK K
  try simp only [Act.put, List.setIfInBounds_toArray, List.set_cons_zero, List.set_cons_succ]
  refine wpList_plain rfl (fun K hK => ?_)
  go_simp
  refine hK _ _ ?_
  clear hK K
  try simp only [Act.put, List.setIfInBounds_toArray, List.set_cons_zero, List.set_cons_succ]
  refine wpList_plain rfl (fun K hK => ?_)
  go_simp
  refine hK _ _ ?_
  clear hK K
  try simp only [Act.put, List.setIfInBounds_toArray, List.set_cons_zero, List.set_cons_succ]
  refine wpList_plain rfl (fun K hK => ?_)
  go_simp
  refine hK _ _ ?_
  clear hK K
  try simp only [Act.put, List.setIfInBounds_toArray, List.set_cons_zero, List.set_cons_succ]
  refine wpList_plain rfl (fun K hK => wp_builtV 30 _ rfl [(0, .int .i64 1)] rfl (mC (zeroM 1) (.slice none 0 0) (.slice none 0 0) (.slice none 0 0) (.slice none 0 0) (.slice none 0 0) (.slice none 0 0)).toArray (builtMsg 1) (hK _ _ ?_))
  clear hK K
  try simp only [Act.put, List.setIfInBounds_toArray, List.set_cons_zero, List.set_cons_succ]
  refine wpList_new_blk rfl 30 rfl (mC (zeroM 0) (.slice none 0 0) (.slice none 0 0) (.slice none 0 0) (.slice none 0 0) (.slice none 0 0) (.slice none 0 0)) zeroMsg ?_
  intro gm w2 hgm bm hb2
  have HGM := Lib.hid hgm
  clear hgm hc1
  try simp only [Act.put, List.setIfInBounds_toArray, List.set_cons_zero, List.set_cons_succ]
  refine wpList_store_blk rfl 30 (.tmp 3) (.tmp 9) rfl rfl gm (mC (zeroM 1) (.slice none 0 0) (.slice none 0 0) (.slice none 0 0) (.slice none 0 0) (.slice none 0 0) (.slice none 0 0)) rfl rfl _ _ bm (infoMsg.trans (by rw [mC_length rfl rfl])) (by rw [mC_length rfl rfl, mC_length rfl rfl]) (one_mC rfl rfl rfl rfl rfl rfl) ?_
  intro w3 bm3 hg3
  try simp only [Act.put, List.setIfInBounds_toArray, List.set_cons_zero, List.set_cons_succ]
  have br2 := br.below hb2 br.lt
  have HO := Lib.hid (show w.heap.size ≤ gr ∧ gr < gm ∧ w.heap.size ≤ gm by have := HGR.out; have := HGM.out; have := hb1.size; have := br.lt; omega)
  have hb12 := hb1.trans (hb2.mono hb1.size)
  have br3 := br2.grown hg3 (fun e => by have := HO.out; injection e with e; omega)
  have hb13 : Below w.heap.size w w3 := hb12.trans (grown_below hg3 HO.out.2.2 hb12.size)
  have hS3 : SlB w3 w.heap.size (.slice (some ⟨gb, ob, none⟩) n c) b := ⟨some ⟨gb, ob, none⟩, c, by rw [HN.out], HI.out.below hb13⟩
  clear hg3 bm br br2 hb12 hb1 hb2 hgb hn0
  go_upto_region 2 with (fail)
  refine wp_region_lit ?_
  refine wpList_plain rfl (fun K hK => ?_)
  go_simp
  refine hK _ _ ?_
  clear hK K
  try simp only [Act.put, List.setIfInBounds_toArray, List.set_cons_zero, List.set_cons_succ]
  refine wpList_sliceL rfl rfl rfl hS3 4 rfl (by rw [HN.out]; exact H4.out) ?_
  intro v4 hv4
  obtain ⟨A4, c4, rfl, hi4⟩ := hv4
  obtain ⟨q4, hq4⟩ : ∃ q, (b.drop 4).length = q := ⟨_, rfl⟩
  rw [hq4]
  try simp only [Act.put, List.setIfInBounds_toArray, List.set_cons_zero, List.set_cons_succ]
  refine wpList_plain rfl (fun K hK => wp_builtV 77 _ rfl [(0, .slice A4 q4 c4)] rfl [.slice A4 q4 c4].toArray (builtCur _ _ _) (hK _ _ ?_))
  clear hK K hS3
  try simp only [Act.put, List.setIfInBounds_toArray, List.set_cons_zero, List.set_cons_succ]
  refine wpList_new_blk rfl 77 rfl [.slice none 0 0] zeroCur ?_
  intro gc w4 hgc bc hb4
  have HGC := Lib.hid hgc
  clear hgc
  try simp only [Act.put, List.setIfInBounds_toArray, List.set_cons_zero, List.set_cons_succ]
  refine wpList_store_blk rfl 77 (.tmp 4) (.tmp 12) rfl rfl gc [.slice A4 q4 c4] rfl rfl _ _ bc (infoCur.trans rfl) rfl (by simp [Value.oneCell']) ?_
  intro w5 bc5 hg5
  try simp only [Act.put, List.setIfInBounds_toArray, List.set_cons_zero, List.set_cons_succ]
  have HO2 := Lib.hid (show gm < gc by have := HGC.out; have := bm3.lt; omega)
  have bm5 := (bm3.below hb4 bm3.lt).grown hg5 (fun e => by have := HO2.out; injection e with e; omega)
  have br5 := (br3.below hb4 br3.lt).grown hg5 (fun e => by have := HO2.out; have := HO.out; injection e with e; omega)
  have hb14 := hb13.trans (hb4.mono hb13.size)
  have hb15 : Below w.heap.size w w5 := hb14.trans (grown_below hg5 (by have := HO2.out; have := HO.out; omega) hb14.size)
  have C : CAt w5 w.heap.size gc (b.drop 4) := ⟨by have := HO2.out; have := HO.out; omega, _, bc5, ⟨A4, c4, by rw [hq4], (hi4.below (hb4.mono hb13.size)).below (grown_below hg5 (by have := HO2.out; have := HO.out; omega) hb14.size)⟩⟩
  obtain ⟨D, hD⟩ : ∃ D, D = w5.heap.size := ⟨_, rfl⟩
  have HD := Lib.hid hD
  have hgcD : gm < gc ∧ gc < D ∧ w.heap.size ≤ gm ∧ D ≤ w5.heap.size := ⟨HO2.out, by rw [hD]; exact bc5.lt, HO.out.2.2, Nat.le_of_eq hD⟩
  have HGD := Lib.hid hgcD
  have hrD : gr < D := by have := HO.out; have := HO2.out; omega
  have HRD := Lib.hid hrD
  have hr40 := Lib.hid (show (b.drop 4).length ≤ 200000 by rw [List.length_drop]; have := h40.out; omega)
  have MK5 : MK w5 D gm [] ∨ True := .inr trivial
  have hck : w5.cell? ⟨gm, 0, none⟩ = some (.int .i64 1) := bm5.cell 0
  have HB5 := Lib.hid hb15
  clear hi4 hq4 bm3 br3 bc bc5 hg5 hb13 hb14 hb4 hb15 hgcD hD hrD MK5
  have hn5 : ∀ W, BufV W D (.slice none 0 0) [] := fun W => ⟨none, 0, rfl, Buf.nil _ _⟩
  have M : MW w5 D gm (zeroM 1) := ⟨Nat.lt_trans HGD.out.1 HGD.out.2.1, ⟨rfl, rfl⟩, _, _, _, _, _, _, bm5, hn5 _, hn5 _, hn5 _, hn5 _, hn5 _, Rws.nil _ _⟩
  clear hn5
  go_upto_region 5 with (fail)
  go_upto_region 17 with (go_at_call 43; refine (client_c w.heap.size gc gm D (b.drop 4) w5 C M HGD.out hr40).mono ?_; rintro e w6 ⟨rfl, M6, hb6⟩)
  have M6 : MW w6 D gm (saidM 1 (b.drop 4)) := M6
  clear hck C M
  obtain ⟨cs, B6, hmo⟩ := M6.mvo
  have br6 := br5.below hb6 HO.out.2.1
  refine wp_region_lit ?_
  refine wpList_load_mid rfl 30 (.tmp 3) rfl gm 0 rfl cs _ (rangeAt_of_blk B6) Tryd.underlying30 rfl (infoMsg.trans (by rw [hmo.len])) ?_
  try simp only [Act.put, List.setIfInBounds_toArray, List.set_cons_zero, List.set_cons_succ]
  refine wpList_store_blk rfl 30 (.tmp 2) (.tmp 36) rfl rfl gr cs rfl rfl _ _ br6 (infoMsg.trans (by rw [hmo.len])) (by rw [mC_length rfl rfl, hmo.len]) hmo.one ?_
  intro w7 B7 hg7
  go_wp2
  refine bodyPost_ret (results_row1 rfl _ _ gr 0 cs _ rfl (rangeAt_of_blk B7) Tryd.underlying30 rfl (infoMsg.trans (by rw [hmo.len]))) rfl ?_
  have hb56 := HB5.out.trans (hb6.mono HO.out.2.2)
  refine ⟨cs, rfl, ?_, hb56.trans (grown_below hg7 HO.out.1 hb56.size)⟩
  have h := (hmo.kept hg7 HRD.out).base (D' := w.heap.size) (by have := HGD.out; omega)
  exact h
set_option maxRecDepth 100000 in
set_option maxHeartbeats 2000000 in
theorem said_2 (b : List UInt8) (v : Value) (w : World) (hT : TabH w) (hv : SlV w v b) (h4 : 4 ≤ b.length) (h40 : Hid (b.length ≤ 200000)) (hk : ((b.getD 0 0).toNat : Int) = 2) : Calls Tryd.prog 27 #[v] w fun e w' => ∃ cs, e = .returned (.agg cs.toArray) ∧ MVo w' w.heap.size (saidM 2 (b.drop 4)) cs ∧ Below w.heap.size w w' := by
  obtain ⟨A, c, hvv, hi⟩ := hv
  subst hvv
  obtain ⟨n, hn⟩ : ∃ n, b.length = n := ⟨_, rfl⟩
  rw [hn] at h4
  obtain ⟨gb, ob, rfl, hgb, hby⟩ := hi.2.2 (by omega)
  have hc0 := hby 0 (by omega)
  rw [Nat.add_zero] at hc0
  rw [hk] at hc0
  have HI := Lib.hid hi
  have HN := Lib.hid hn
  have H4 := Lib.hid h4
  have hn0 : 0 < n := by omega
  rw [hn]
  have HT := Lib.hid hT
  clear hi hn h4 hby hT hk
  go_enter Tryd.func27, Tryd.ntmps27
  go_upto_region 0 with (fail)
  refine wp_region_lit ?_
  refine wpList_new_blk rfl 30 rfl (mC (zeroM 0) (.slice none 0 0) (.slice none 0 0) (.slice none 0 0) (.slice none 0 0) (.slice none 0 0) (.slice none 0 0)) zeroMsg ?_
  intro gr w1 hgr br hb1
  have hc1 := (hb1.cell (p := ⟨gb, ob, none⟩) hgb).trans hc0
  have HGR := Lib.hid hgr
  clear hgr hc0
  try simp only [Act.put, List.setIfInBounds_toArray, List.set_cons_zero, List.set_cons_succ]
  go_upto_region 1 with (fail)
  refine wp_region_lit ?_
  refine wpList_plain rfl (fun K hK => ?_)
  go_simp
  refine hK _ _ ?_
  clear hK K
  try simp only [Act.put, List.setIfInBounds_toArray, List.set_cons_zero, List.set_cons_succ]
  refine wpList_plain rfl (fun K hK => ?_)
  go_simp
  refine hK _ _ ?_
  clear hK K
  try simp only [Act.put, List.setIfInBounds_toArray, List.set_cons_zero, List.set_cons_succ]
  refine wpList_plain rfl (fun K hK => ?_)
  go_simp
  refine hK _ _ ?_
  clear hK K
  try simp only [Act.put, List.setIfInBounds_toArray, List.set_cons_zero, List.set_cons_succ]
  refine wpList_plain rfl (fun K hK => ?_)
  go_simp
  refine hK _ _ ?_
  clear hK K
  try simp only [Act.put, List.setIfInBounds_toArray, List.set_cons_zero, List.set_cons_succ]
  refine wpList_plain rfl (fun K hK => wp_builtV 30 _ rfl [(0, .int .i64 2)] rfl (mC (zeroM 2) (.slice none 0 0) (.slice none 0 0) (.slice none 0 0) (.slice none 0 0) (.slice none 0 0) (.slice none 0 0)).toArray (builtMsg 2) (hK _ _ ?_))
  clear hK K
  try simp only [Act.put, List.setIfInBounds_toArray, List.set_cons_zero, List.set_cons_succ]
  refine wpList_new_blk rfl 30 rfl (mC (zeroM 0) (.slice none 0 0) (.slice none 0 0) (.slice none 0 0) (.slice none 0 0) (.slice none 0 0) (.slice none 0 0)) zeroMsg ?_
  intro gm w2 hgm bm hb2
  have HGM := Lib.hid hgm
  clear hgm hc1
  try simp only [Act.put, List.setIfInBounds_toArray, List.set_cons_zero, List.set_cons_succ]
  refine wpList_store_blk rfl 30 (.tmp 3) (.tmp 9) rfl rfl gm (mC (zeroM 2) (.slice none 0 0) (.slice none 0 0) (.slice none 0 0) (.slice none 0 0) (.slice none 0 0) (.slice none 0 0)) rfl rfl _ _ bm (infoMsg.trans (by rw [mC_length rfl rfl])) (by rw [mC_length rfl rfl, mC_length rfl rfl]) (one_mC rfl rfl rfl rfl rfl rfl) ?_
  intro w3 bm3 hg3
  try simp only [Act.put, List.setIfInBounds_toArray, List.set_cons_zero, List.set_cons_succ]
  have br2 := br.below hb2 br.lt
  have HO := Lib.hid (show w.heap.size ≤ gr ∧ gr < gm ∧ w.heap.size ≤ gm by have := HGR.out; have := HGM.out; have := hb1.size; have := br.lt; omega)
  have hb12 := hb1.trans (hb2.mono hb1.size)
  have br3 := br2.grown hg3 (fun e => by have := HO.out; injection e with e; omega)
  have hb13 : Below w.heap.size w w3 := hb12.trans (grown_below hg3 HO.out.2.2 hb12.size)
  have hS3 : SlB w3 w.heap.size (.slice (some ⟨gb, ob, none⟩) n c) b := ⟨some ⟨gb, ob, none⟩, c, by rw [HN.out], HI.out.below hb13⟩
  clear hg3 bm br br2 hb12 hb1 hb2 hgb hn0
  go_upto_region 2 with (fail)
  refine wp_region_lit ?_
  refine wpList_plain rfl (fun K hK => ?_)
  go_simp
  refine hK _ _ ?_
  clear hK K
  try simp only [Act.put, List.setIfInBounds_toArray, List.set_cons_zero, List.set_cons_succ]
  refine wpList_sliceL rfl rfl rfl hS3 4 rfl (by rw [HN.out]; exact H4.out) ?_
  intro v4 hv4
  obtain ⟨A4, c4, rfl, hi4⟩ := hv4
  obtain ⟨q4, hq4⟩ : ∃ q, (b.drop 4).length = q := ⟨_, rfl⟩
  rw [hq4]
  try simp only [Act.put, List.setIfInBounds_toArray, List.set_cons_zero, List.set_cons_succ]
  refine wpList_plain rfl (fun K hK => wp_builtV 77 _ rfl [(0, .slice A4 q4 c4)] rfl [.slice A4 q4 c4].toArray (builtCur _ _ _) (hK _ _ ?_))
  clear hK K hS3
  try simp only [Act.put, List.setIfInBounds_toArray, List.set_cons_zero, List.set_cons_succ]
  refine wpList_new_blk rfl 77 rfl [.slice none 0 0] zeroCur ?_
  intro gc w4 hgc bc hb4
  have HGC := Lib.hid hgc
  clear hgc
  try simp only [Act.put, List.setIfInBounds_toArray, List.set_cons_zero, List.set_cons_succ]
  refine wpList_store_blk rfl 77 (.tmp 4) (.tmp 12) rfl rfl gc [.slice A4 q4 c4] rfl rfl _ _ bc (infoCur.trans rfl) rfl (by simp [Value.oneCell']) ?_
  intro w5 bc5 hg5
  try simp only [Act.put, List.setIfInBounds_toArray, List.set_cons_zero, List.set_cons_succ]
  have HO2 := Lib.hid (show gm < gc by have := HGC.out; have := bm3.lt; omega)
  have bm5 := (bm3.below hb4 bm3.lt).grown hg5 (fun e => by have := HO2.out; injection e with e; omega)
  have br5 := (br3.below hb4 br3.lt).grown hg5 (fun e => by have := HO2.out; have := HO.out; injection e with e; omega)
  have hb14 := hb13.trans (hb4.mono hb13.size)
  have hb15 : Below w.heap.size w w5 := hb14.trans (grown_below hg5 (by have := HO2.out; have := HO.out; omega) hb14.size)
  have C : CAt w5 w.heap.size gc (b.drop 4) := ⟨by have := HO2.out; have := HO.out; omega, _, bc5, ⟨A4, c4, by rw [hq4], (hi4.below (hb4.mono hb13.size)).below (grown_below hg5 (by have := HO2.out; have := HO.out; omega) hb14.size)⟩⟩
  obtain ⟨D, hD⟩ : ∃ D, D = w5.heap.size := ⟨_, rfl⟩
  have HD := Lib.hid hD
  have hgcD : gm < gc ∧ gc < D ∧ w.heap.size ≤ gm ∧ D ≤ w5.heap.size := ⟨HO2.out, by rw [hD]; exact bc5.lt, HO.out.2.2, Nat.le_of_eq hD⟩
  have HGD := Lib.hid hgcD
  have hrD : gr < D := by have := HO.out; have := HO2.out; omega
  have HRD := Lib.hid hrD
  have hr40 := Lib.hid (show (b.drop 4).length ≤ 200000 by rw [List.length_drop]; have := h40.out; omega)
  have MK5 : MK w5 D gm [] ∨ True := .inr trivial
  have hck : w5.cell? ⟨gm, 0, none⟩ = some (.int .i64 2) := bm5.cell 0
  have HB5 := Lib.hid hb15
  clear hi4 hq4 bm3 br3 bc bc5 hg5 hb13 hb14 hb4 hb15 hgcD hD hrD MK5
  have hn5 : ∀ W, BufV W D (.slice none 0 0) [] := fun W => ⟨none, 0, rfl, Buf.nil _ _⟩
  have M : MW w5 D gm (zeroM 2) := ⟨Nat.lt_trans HGD.out.1 HGD.out.2.1, ⟨rfl, rfl⟩, _, _, _, _, _, _, bm5, hn5 _, hn5 _, hn5 _, hn5 _, hn5 _, Rws.nil _ _⟩
  clear hn5
  go_upto_region 7 with (fail)
  go_upto_region 17 with (go_at_call 44; refine (server_c w.heap.size gc gm D (b.drop 4) w5 C M HGD.out hr40 (Lib.hid (fun W h => HT.out.below (HB5.out.trans (h.mono HO.out.2.2))))).mono ?_; rintro e w6 ⟨rfl, M6, hb6⟩)
  have M6 : MW w6 D gm (saidM 2 (b.drop 4)) := M6
  clear hck C M
  obtain ⟨cs, B6, hmo⟩ := M6.mvo
  have br6 := br5.below hb6 HO.out.2.1
  refine wp_region_lit ?_
  refine wpList_load_mid rfl 30 (.tmp 3) rfl gm 0 rfl cs _ (rangeAt_of_blk B6) Tryd.underlying30 rfl (infoMsg.trans (by rw [hmo.len])) ?_
  try simp only [Act.put, List.setIfInBounds_toArray, List.set_cons_zero, List.set_cons_succ]
  refine wpList_store_blk rfl 30 (.tmp 2) (.tmp 36) rfl rfl gr cs rfl rfl _ _ br6 (infoMsg.trans (by rw [hmo.len])) (by rw [mC_length rfl rfl, hmo.len]) hmo.one ?_
  intro w7 B7 hg7
  go_wp2
  refine bodyPost_ret (results_row1 rfl _ _ gr 0 cs _ rfl (rangeAt_of_blk B7) Tryd.underlying30 rfl (infoMsg.trans (by rw [hmo.len]))) rfl ?_
  have hb56 := HB5.out.trans (hb6.mono HO.out.2.2)
  refine ⟨cs, rfl, ?_, hb56.trans (grown_below hg7 HO.out.1 hb56.size)⟩
  have h := (hmo.kept hg7 HRD.out).base (D' := w.heap.size) (by have := HGD.out; omega)
  exact h
set_option maxRecDepth 100000 in
set_option maxHeartbeats 2000000 in
theorem said_4 (b : List UInt8) (v : Value) (w : World) (hT : TabH w) (hv : SlV w v b) (h4 : 4 ≤ b.length) (h40 : Hid (b.length ≤ 200000)) (hk : ((b.getD 0 0).toNat : Int) = 4) : Calls Tryd.prog 27 #[v] w fun e w' => ∃ cs, e = .returned (.agg cs.toArray) ∧ MVo w' w.heap.size (saidM 4 (b.drop 4)) cs ∧ Below w.heap.size w w' := by
  obtain ⟨A, c, hvv, hi⟩ := hv
  subst hvv
  obtain ⟨n, hn⟩ : ∃ n, b.length = n := ⟨_, rfl⟩
  rw [hn] at h4
  obtain ⟨gb, ob, rfl, hgb, hby⟩ := hi.2.2 (by omega)
  have hc0 := hby 0 (by omega)
  rw [Nat.add_zero] at hc0
  rw [hk] at hc0
  have HI := Lib.hid hi
  have HN := Lib.hid hn
  have H4 := Lib.hid h4
  have hn0 : 0 < n := by omega
  rw [hn]
  have HT := Lib.hid hT
  clear hi hn h4 hby hT hk
  go_enter Tryd.func27, Tryd.ntmps27
  go_upto_region 0 with (fail)
  refine wp_region_lit ?_
  refine wpList_new_blk rfl 30 rfl (mC (zeroM 0) (.slice none 0 0) (.slice none 0 0) (.slice none 0 0) (.slice none 0 0) (.slice none 0 0) (.slice none 0 0)) zeroMsg ?_
  intro gr w1 hgr br hb1
  have hc1 := (hb1.cell (p := ⟨gb, ob, none⟩) hgb).trans hc0
  have HGR := Lib.hid hgr
  clear hgr hc0
  try simp only [Act.put, List.setIfInBounds_toArray, List.set_cons_zero, List.set_cons_succ]
  go_upto_region 1 with (fail)
  refine wp_region_lit ?_
  refine wpList_plain rfl (fun K hK => ?_)
  go_simp
  refine hK _ _ ?_
  clear hK K
  try simp only [Act.put, List.setIfInBounds_toArray, List.set_cons_zero, List.set_cons_succ]
  refine wpList_plain rfl (fun K hK => ?_)
  go_simp
  refine hK _ _ ?_
  clear hK K
  try simp only [Act.put, List.setIfInBounds_toArray, List.set_cons_zero, List.set_cons_succ]
  refine wpList_plain rfl (fun K hK => ?_)
  go_simp
  refine hK _ _ ?_
  clear hK K
  try simp only [Act.put, List.setIfInBounds_toArray, List.set_cons_zero, List.set_cons_succ]
  refine wpList_plain rfl (fun K hK => ?_)
  go_simp
  refine hK _ _ ?_
  clear hK K
  try simp only [Act.put, List.setIfInBounds_toArray, List.set_cons_zero, List.set_cons_succ]
  refine wpList_plain rfl (fun K hK => wp_builtV 30 _ rfl [(0, .int .i64 4)] rfl (mC (zeroM 4) (.slice none 0 0) (.slice none 0 0) (.slice none 0 0) (.slice none 0 0) (.slice none 0 0) (.slice none 0 0)).toArray (builtMsg 4) (hK _ _ ?_))
  clear hK K
  try simp only [Act.put, List.setIfInBounds_toArray, List.set_cons_zero, List.set_cons_succ]
  refine wpList_new_blk rfl 30 rfl (mC (zeroM 0) (.slice none 0 0) (.slice none 0 0) (.slice none 0 0) (.slice none 0 0) (.slice none 0 0) (.slice none 0 0)) zeroMsg ?_
  intro gm w2 hgm bm hb2
  have HGM := Lib.hid hgm
  clear hgm hc1
  try simp only [Act.put, List.setIfInBounds_toArray, List.set_cons_zero, List.set_cons_succ]
  refine wpList_store_blk rfl 30 (.tmp 3) (.tmp 9) rfl rfl gm (mC (zeroM 4) (.slice none 0 0) (.slice none 0 0) (.slice none 0 0) (.slice none 0 0) (.slice none 0 0) (.slice none 0 0)) rfl rfl _ _ bm (infoMsg.trans (by rw [mC_length rfl rfl])) (by rw [mC_length rfl rfl, mC_length rfl rfl]) (one_mC rfl rfl rfl rfl rfl rfl) ?_
  intro w3 bm3 hg3
  try simp only [Act.put, List.setIfInBounds_toArray, List.set_cons_zero, List.set_cons_succ]
  have br2 := br.below hb2 br.lt
  have HO := Lib.hid (show w.heap.size ≤ gr ∧ gr < gm ∧ w.heap.size ≤ gm by have := HGR.out; have := HGM.out; have := hb1.size; have := br.lt; omega)
  have hb12 := hb1.trans (hb2.mono hb1.size)
  have br3 := br2.grown hg3 (fun e => by have := HO.out; injection e with e; omega)
  have hb13 : Below w.heap.size w w3 := hb12.trans (grown_below hg3 HO.out.2.2 hb12.size)
  have hS3 : SlB w3 w.heap.size (.slice (some ⟨gb, ob, none⟩) n c) b := ⟨some ⟨gb, ob, none⟩, c, by rw [HN.out], HI.out.below hb13⟩
  clear hg3 bm br br2 hb12 hb1 hb2 hgb hn0
  go_upto_region 2 with (fail)
  refine wp_region_lit ?_
  refine wpList_plain rfl (fun K hK => ?_)
  go_simp
  refine hK _ _ ?_
  clear hK K
  try simp only [Act.put, List.setIfInBounds_toArray, List.set_cons_zero, List.set_cons_succ]
  refine wpList_sliceL rfl rfl rfl hS3 4 rfl (by rw [HN.out]; exact H4.out) ?_
  intro v4 hv4
  obtain ⟨A4, c4, rfl, hi4⟩ := hv4
  obtain ⟨q4, hq4⟩ : ∃ q, (b.drop 4).length = q := ⟨_, rfl⟩
  rw [hq4]
  try simp only [Act.put, List.setIfInBounds_toArray, List.set_cons_zero, List.set_cons_succ]
  refine wpList_plain rfl (fun K hK => wp_builtV 77 _ rfl [(0, .slice A4 q4 c4)] rfl [.slice A4 q4 c4].toArray (builtCur _ _ _) (hK _ _ ?_))
  clear hK K hS3
  try simp only [Act.put, List.setIfInBounds_toArray, List.set_cons_zero, List.set_cons_succ]
  refine wpList_new_blk rfl 77 rfl [.slice none 0 0] zeroCur ?_
  intro gc w4 hgc bc hb4
  have HGC := Lib.hid hgc
  clear hgc
  try simp only [Act.put, List.setIfInBounds_toArray, List.set_cons_zero, List.set_cons_succ]
  refine wpList_store_blk rfl 77 (.tmp 4) (.tmp 12) rfl rfl gc [.slice A4 q4 c4] rfl rfl _ _ bc (infoCur.trans rfl) rfl (by simp [Value.oneCell']) ?_
  intro w5 bc5 hg5
  try simp only [Act.put, List.setIfInBounds_toArray, List.set_cons_zero, List.set_cons_succ]
  have HO2 := Lib.hid (show gm < gc by have := HGC.out; have := bm3.lt; omega)
  have bm5 := (bm3.below hb4 bm3.lt).grown hg5 (fun e => by have := HO2.out; injection e with e; omega)
  have br5 := (br3.below hb4 br3.lt).grown hg5 (fun e => by have := HO2.out; have := HO.out; injection e with e; omega)
  have hb14 := hb13.trans (hb4.mono hb13.size)
  have hb15 : Below w.heap.size w w5 := hb14.trans (grown_below hg5 (by have := HO2.out; have := HO.out; omega) hb14.size)
  have C : CAt w5 w.heap.size gc (b.drop 4) := ⟨by have := HO2.out; have := HO.out; omega, _, bc5, ⟨A4, c4, by rw [hq4], (hi4.below (hb4.mono hb13.size)).below (grown_below hg5 (by have := HO2.out; have := HO.out; omega) hb14.size)⟩⟩
  obtain ⟨D, hD⟩ : ∃ D, D = w5.heap.size := ⟨_, rfl⟩
  have HD := Lib.hid hD
  have hgcD : gm < gc ∧ gc < D ∧ w.heap.size ≤ gm ∧ D ≤ w5.heap.size := ⟨HO2.out, by rw [hD]; exact bc5.lt, HO.out.2.2, Nat.le_of_eq hD⟩
  have HGD := Lib.hid hgcD
  have hrD : gr < D := by have := HO.out; have := HO2.out; omega
  have HRD := Lib.hid hrD
  have hr40 := Lib.hid (show (b.drop 4).length ≤ 200000 by rw [List.length_drop]; have := h40.out; omega)
  have MK5 : MK w5 D gm [] ∨ True := .inr trivial
  have hck : w5.cell? ⟨gm, 0, none⟩ = some (.int .i64 4) := bm5.cell 0
  have HB5 := Lib.hid hb15
  clear hi4 hq4 bm3 br3 bc bc5 hg5 hb13 hb14 hb4 hb15 hgcD hD hrD MK5
  have hn5 : ∀ W, BufV W D (.slice none 0 0) [] := fun W => ⟨none, 0, rfl, Buf.nil _ _⟩
  have M : MW w5 D gm (zeroM 4) := ⟨Nat.lt_trans HGD.out.1 HGD.out.2.1, ⟨rfl, rfl⟩, _, _, _, _, _, _, bm5, hn5 _, hn5 _, hn5 _, hn5 _, hn5 _, Rws.nil _ _⟩
  clear hn5
  go_upto_region 9 with (fail)
  go_upto_region 17 with (go_at_call 45; refine (ticket_c w.heap.size gc gm D (b.drop 4) w5 C M HGD.out hr40).mono ?_; rintro e w6 ⟨rfl, M6, hb6⟩)
  have M6 : MW w6 D gm (saidM 4 (b.drop 4)) := M6
  clear hck C M
  obtain ⟨cs, B6, hmo⟩ := M6.mvo
  have br6 := br5.below hb6 HO.out.2.1
  refine wp_region_lit ?_
  refine wpList_load_mid rfl 30 (.tmp 3) rfl gm 0 rfl cs _ (rangeAt_of_blk B6) Tryd.underlying30 rfl (infoMsg.trans (by rw [hmo.len])) ?_
  try simp only [Act.put, List.setIfInBounds_toArray, List.set_cons_zero, List.set_cons_succ]
  refine wpList_store_blk rfl 30 (.tmp 2) (.tmp 36) rfl rfl gr cs rfl rfl _ _ br6 (infoMsg.trans (by rw [hmo.len])) (by rw [mC_length rfl rfl, hmo.len]) hmo.one ?_
  intro w7 B7 hg7
  go_wp2
  refine bodyPost_ret (results_row1 rfl _ _ gr 0 cs _ rfl (rangeAt_of_blk B7) Tryd.underlying30 rfl (infoMsg.trans (by rw [hmo.len]))) rfl ?_
  have hb56 := HB5.out.trans (hb6.mono HO.out.2.2)
  refine ⟨cs, rfl, ?_, hb56.trans (grown_below hg7 HO.out.1 hb56.size)⟩
  have h := (hmo.kept hg7 HRD.out).base (D' := w.heap.size) (by have := HGD.out; omega)
  exact h
set_option maxRecDepth 100000 in
set_option maxHeartbeats 2000000 in
theorem said_11 (b : List UInt8) (v : Value) (w : World) (hT : TabH w) (hv : SlV w v b) (h4 : 4 ≤ b.length) (h40 : Hid (b.length ≤ 200000)) (hk : ((b.getD 0 0).toNat : Int) = 11) : Calls Tryd.prog 27 #[v] w fun e w' => ∃ cs, e = .returned (.agg cs.toArray) ∧ MVo w' w.heap.size (saidM 11 (b.drop 4)) cs ∧ Below w.heap.size w w' := by
  obtain ⟨A, c, hvv, hi⟩ := hv
  subst hvv
  obtain ⟨n, hn⟩ : ∃ n, b.length = n := ⟨_, rfl⟩
  rw [hn] at h4
  obtain ⟨gb, ob, rfl, hgb, hby⟩ := hi.2.2 (by omega)
  have hc0 := hby 0 (by omega)
  rw [Nat.add_zero] at hc0
  rw [hk] at hc0
  have HI := Lib.hid hi
  have HN := Lib.hid hn
  have H4 := Lib.hid h4
  have hn0 : 0 < n := by omega
  rw [hn]
  have HT := Lib.hid hT
  clear hi hn h4 hby hT hk
  go_enter Tryd.func27, Tryd.ntmps27
  go_upto_region 0 with (fail)
  refine wp_region_lit ?_
  refine wpList_new_blk rfl 30 rfl (mC (zeroM 0) (.slice none 0 0) (.slice none 0 0) (.slice none 0 0) (.slice none 0 0) (.slice none 0 0) (.slice none 0 0)) zeroMsg ?_
  intro gr w1 hgr br hb1
  have hc1 := (hb1.cell (p := ⟨gb, ob, none⟩) hgb).trans hc0
  have HGR := Lib.hid hgr
  clear hgr hc0
  try simp only [Act.put, List.setIfInBounds_toArray, List.set_cons_zero, List.set_cons_succ]
  go_upto_region 1 with (fail)
  refine wp_region_lit ?_
  refine wpList_plain rfl (fun K hK => ?_)
  go_simp
  refine hK _ _ ?_
  clear hK K
  try simp only [Act.put, List.setIfInBounds_toArray, List.set_cons_zero, List.set_cons_succ]
  refine wpList_plain rfl (fun K hK => ?_)
  go_simp
  refine hK _ _ ?_
  clear hK K
  try simp only [Act.put, List.setIfInBounds_toArray, List.set_cons_zero, List.set_cons_succ]
  refine wpList_plain rfl (fun K hK => ?_)
  go_simp
  refine hK _ _ ?_
  clear hK K
  try simp only [Act.put, List.setIfInBounds_toArray, List.set_cons_zero, List.set_cons_succ]
  refine wpList_plain rfl (fun K hK => ?_)
  go_simp
  refine hK _ _ ?_
  clear hK K
  try simp only [Act.put, List.setIfInBounds_toArray, List.set_cons_zero, List.set_cons_succ]
  refine wpList_plain rfl (fun K hK => wp_builtV 30 _ rfl [(0, .int .i64 11)] rfl (mC (zeroM 11) (.slice none 0 0) (.slice none 0 0) (.slice none 0 0) (.slice none 0 0) (.slice none 0 0) (.slice none 0 0)).toArray (builtMsg 11) (hK _ _ ?_))
  clear hK K
  try simp only [Act.put, List.setIfInBounds_toArray, List.set_cons_zero, List.set_cons_succ]
  refine wpList_new_blk rfl 30 rfl (mC (zeroM 0) (.slice none 0 0) (.slice none 0 0) (.slice none 0 0) (.slice none 0 0) (.slice none 0 0) (.slice none 0 0)) zeroMsg ?_
  intro gm w2 hgm bm hb2
  have HGM := Lib.hid hgm
  clear hgm hc1
  try simp only [Act.put, List.setIfInBounds_toArray, List.set_cons_zero, List.set_cons_succ]
  refine wpList_store_blk rfl 30 (.tmp 3) (.tmp 9) rfl rfl gm (mC (zeroM 11) (.slice none 0 0) (.slice none 0 0) (.slice none 0 0) (.slice none 0 0) (.slice none 0 0) (.slice none 0 0)) rfl rfl _ _ bm (infoMsg.trans (by rw [mC_length rfl rfl])) (by rw [mC_length rfl rfl, mC_length rfl rfl]) (one_mC rfl rfl rfl rfl rfl rfl) ?_
  intro w3 bm3 hg3
  try simp only [Act.put, List.setIfInBounds_toArray, List.set_cons_zero, List.set_cons_succ]
  have br2 := br.below hb2 br.lt
  have HO := Lib.hid (show w.heap.size ≤ gr ∧ gr < gm ∧ w.heap.size ≤ gm by have := HGR.out; have := HGM.out; have := hb1.size; have := br.lt; omega)
  have hb12 := hb1.trans (hb2.mono hb1.size)
  have br3 := br2.grown hg3 (fun e => by have := HO.out; injection e with e; omega)
  have hb13 : Below w.heap.size w w3 := hb12.trans (grown_below hg3 HO.out.2.2 hb12.size)
  have hS3 : SlB w3 w.heap.size (.slice (some ⟨gb, ob, none⟩) n c) b := ⟨some ⟨gb, ob, none⟩, c, by rw [HN.out], HI.out.below hb13⟩
  clear hg3 bm br br2 hb12 hb1 hb2 hgb hn0
  go_upto_region 2 with (fail)
  refine wp_region_lit ?_
  refine wpList_plain rfl (fun K hK => ?_)
  go_simp
  refine hK _ _ ?_
  clear hK K
  try simp only [Act.put, List.setIfInBounds_toArray, List.set_cons_zero, List.set_cons_succ]
  refine wpList_sliceL rfl rfl rfl hS3 4 rfl (by rw [HN.out]; exact H4.out) ?_
  intro v4 hv4
  obtain ⟨A4, c4, rfl, hi4⟩ := hv4
  obtain ⟨q4, hq4⟩ : ∃ q, (b.drop 4).length = q := ⟨_, rfl⟩
  rw [hq4]
  try simp only [Act.put, List.setIfInBounds_toArray, List.set_cons_zero, List.set_cons_succ]
  refine wpList_plain rfl (fun K hK => wp_builtV 77 _ rfl [(0, .slice A4 q4 c4)] rfl [.slice A4 q4 c4].toArray (builtCur _ _ _) (hK _ _ ?_))
  clear hK K hS3
  try simp only [Act.put, List.setIfInBounds_toArray, List.set_cons_zero, List.set_cons_succ]
  refine wpList_new_blk rfl 77 rfl [.slice none 0 0] zeroCur ?_
  intro gc w4 hgc bc hb4
  have HGC := Lib.hid hgc
  clear hgc
  try simp only [Act.put, List.setIfInBounds_toArray, List.set_cons_zero, List.set_cons_succ]
  refine wpList_store_blk rfl 77 (.tmp 4) (.tmp 12) rfl rfl gc [.slice A4 q4 c4] rfl rfl _ _ bc (infoCur.trans rfl) rfl (by simp [Value.oneCell']) ?_
  intro w5 bc5 hg5
  try simp only [Act.put, List.setIfInBounds_toArray, List.set_cons_zero, List.set_cons_succ]
  have HO2 := Lib.hid (show gm < gc by have := HGC.out; have := bm3.lt; omega)
  have bm5 := (bm3.below hb4 bm3.lt).grown hg5 (fun e => by have := HO2.out; injection e with e; omega)
  have br5 := (br3.below hb4 br3.lt).grown hg5 (fun e => by have := HO2.out; have := HO.out; injection e with e; omega)
  have hb14 := hb13.trans (hb4.mono hb13.size)
  have hb15 : Below w.heap.size w w5 := hb14.trans (grown_below hg5 (by have := HO2.out; have := HO.out; omega) hb14.size)
  have C : CAt w5 w.heap.size gc (b.drop 4) := ⟨by have := HO2.out; have := HO.out; omega, _, bc5, ⟨A4, c4, by rw [hq4], (hi4.below (hb4.mono hb13.size)).below (grown_below hg5 (by have := HO2.out; have := HO.out; omega) hb14.size)⟩⟩
  obtain ⟨D, hD⟩ : ∃ D, D = w5.heap.size := ⟨_, rfl⟩
  have HD := Lib.hid hD
  have hgcD : gm < gc ∧ gc < D ∧ w.heap.size ≤ gm ∧ D ≤ w5.heap.size := ⟨HO2.out, by rw [hD]; exact bc5.lt, HO.out.2.2, Nat.le_of_eq hD⟩
  have HGD := Lib.hid hgcD
  have hrD : gr < D := by have := HO.out; have := HO2.out; omega
  have HRD := Lib.hid hrD
  have hr40 := Lib.hid (show (b.drop 4).length ≤ 200000 by rw [List.length_drop]; have := h40.out; omega)
  have MK5 : MK w5 D gm [] ∨ True := .inr trivial
  have hck : w5.cell? ⟨gm, 0, none⟩ = some (.int .i64 11) := bm5.cell 0
  have HB5 := Lib.hid hb15
  clear hi4 hq4 bm3 br3 bc bc5 hg5 hb13 hb14 hb4 hb15 hgcD hD hrD MK5
  have M : MK w5 D gm [] := ⟨Nat.lt_trans HGD.out.1 HGD.out.2.1, _, bm5, Rws.nil _ _⟩
  go_upto_region 11 with (fail)
  go_upto_region 17 with (go_at_call 46; refine (certs_c w.heap.size gc gm D (b.drop 4) w5 C M HGD.out hr40).mono ?_; rintro e w6 ⟨rfl, M6, hb6⟩)
  have M6 : MW w6 D gm (saidM 11 (b.drop 4)) := M6
  clear hck C M
  obtain ⟨cs, B6, hmo⟩ := M6.mvo
  have br6 := br5.below hb6 HO.out.2.1
  refine wp_region_lit ?_
  refine wpList_load_mid rfl 30 (.tmp 3) rfl gm 0 rfl cs _ (rangeAt_of_blk B6) Tryd.underlying30 rfl (infoMsg.trans (by rw [hmo.len])) ?_
  try simp only [Act.put, List.setIfInBounds_toArray, List.set_cons_zero, List.set_cons_succ]
  refine wpList_store_blk rfl 30 (.tmp 2) (.tmp 36) rfl rfl gr cs rfl rfl _ _ br6 (infoMsg.trans (by rw [hmo.len])) (by rw [mC_length rfl rfl, hmo.len]) hmo.one ?_
  intro w7 B7 hg7
  go_wp2
  refine bodyPost_ret (results_row1 rfl _ _ gr 0 cs _ rfl (rangeAt_of_blk B7) Tryd.underlying30 rfl (infoMsg.trans (by rw [hmo.len]))) rfl ?_
  have hb56 := HB5.out.trans (hb6.mono HO.out.2.2)
  refine ⟨cs, rfl, ?_, hb56.trans (grown_below hg7 HO.out.1 hb56.size)⟩
  have h := (hmo.kept hg7 HRD.out).base (D' := w.heap.size) (by have := HGD.out; omega)
  exact h
end Go.Proofs.YtagblbfbjemfhaaDoor
