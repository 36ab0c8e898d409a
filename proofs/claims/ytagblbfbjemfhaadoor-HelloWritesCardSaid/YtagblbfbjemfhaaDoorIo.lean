/-
  A message of another kind is told without parts; what it takes to tell a message.
-/
import Derived.Test.YtagblbfbjemfhaaDoorIa
namespace Go.Proofs.YtagblbfbjemfhaaDoor
open Go.RowKit
open HelloMath (numB numB_length vecB vecB_length Msg getN getN_snoc pad32 zero32 zeroM saidTicket saidClient saidServer saidCerts saidVerify saidFinished saidM special)

set_option maxRecDepth 100000 in
set_option maxHeartbeats 2000000 in
theorem said_o (b : List UInt8) (v : Value) (w : World) (hT : TabH w) (hv : SlV w v b) (h4 : 4 ≤ b.length) (h40 : Hid (b.length ≤ 200000)) (k : Int) (hk : ((b.getD 0 0).toNat : Int) = k) (n1 : (k == 1) = false) (n2 : (k == 2) = false) (n4 : (k == 4) = false) (n11 : (k == 11) = false) (n15 : (k == 15) = false) (n20 : (k == 20) = false) : Calls Tryd.prog 27 #[v] w fun e w' => ∃ cs, e = .returned (.agg cs.toArray) ∧ MVo w' w.heap.size (saidM k (b.drop 4)) cs ∧ Below w.heap.size w w' := by
  have hwk : IntKind.i64.wrap k = k := by
    rw [← hk, IntKind.wrap_i64]
    have := (b.getD 0 0).toNat_lt
    omega
  obtain ⟨A, c, hvv, hi⟩ := hv
  subst hvv
  obtain ⟨n, hn⟩ : ∃ n, b.length = n := ⟨_, rfl⟩
  rw [hn] at h4
  obtain ⟨gb, ob, rfl, hgb, hby⟩ := hi.2.2 (by omega)
  have hc0 := hby 0 (by omega)
  rw [Nat.add_zero] at hc0
  rw [hk] at hc0
  have HI := Lib.hid hi
  have HN := Lib.hid hn
  have H4 := Lib.hid h4
  have hn0 : 0 < n := by omega
  rw [hn]
  have HT := Lib.hid hT
  clear hi hn h4 hby hT hk
  go_enter Tryd.func27, Tryd.ntmps27
  go_upto_region 0 with (fail)
  refine wp_region_lit ?_
  refine wpList_new_blk rfl 30 rfl (mC (zeroM 0) (.slice none 0 0) (.slice none 0 0) (.slice none 0 0) (.slice none 0 0) (.slice none 0 0) (.slice none 0 0)) zeroMsg ?_
  intro gr w1 hgr br hb1
  have hc1 := (hb1.cell (p := ⟨gb, ob, none⟩) hgb).trans hc0
  have HGR := Lib.hid hgr
  clear hgr hc0
  try simp only [Act.put, zSa, zSz, zSs]
  go_upto_region 1 with (fail)
  refine wp_region_lit ?_
  refine wpList_plain rfl (fun K hK => ?_)
  go_simp
  refine hK _ _ ?_
  clear hK K
  try simp only [Act.put, zSa, zSz, zSs]
  refine wpList_plain rfl (fun K hK => ?_)
  go_simp
  refine hK _ _ ?_
  clear hK K
  try simp only [Act.put, zSa, zSz, zSs]
  refine wpList_plain rfl (fun K hK => ?_)
  go_simp
  refine hK _ _ ?_
  clear hK K
  try simp only [Act.put, zSa, zSz, zSs]
  refine wpList_plain rfl (fun K hK => ?_)
  go_simp
  refine hK _ _ ?_
  clear hK K
  try simp only [Act.put, zSa, zSz, zSs]
  try rw [hwk]
  refine wpList_plain rfl (fun K hK => wp_builtV 30 _ rfl [(0, .int .i64 k)] rfl (mC (zeroM k) (.slice none 0 0) (.slice none 0 0) (.slice none 0 0) (.slice none 0 0) (.slice none 0 0) (.slice none 0 0)).toArray (builtMsg k) (hK _ _ ?_))
  clear hK K
  try simp only [Act.put, zSa, zSz, zSs]
  refine wpList_new_blk rfl 30 rfl (mC (zeroM 0) (.slice none 0 0) (.slice none 0 0) (.slice none 0 0) (.slice none 0 0) (.slice none 0 0) (.slice none 0 0)) zeroMsg ?_
  intro gm w2 hgm bm hb2
  have HGM := Lib.hid hgm
  clear hgm hc1
  try simp only [Act.put, zSa, zSz, zSs]
  refine wpList_store_blk rfl 30 (.tmp 3) (.tmp 9) rfl rfl gm (mC (zeroM k) (.slice none 0 0) (.slice none 0 0) (.slice none 0 0) (.slice none 0 0) (.slice none 0 0) (.slice none 0 0)) rfl rfl _ _ bm (infoMsg.trans (by rw [mC_length rfl rfl])) (by rw [mC_length rfl rfl, mC_length rfl rfl]) (one_mC rfl rfl rfl rfl rfl rfl) ?_
  intro w3 bm3 hg3
  try simp only [Act.put, zSa, zSz, zSs]
  have br2 := br.below hb2 br.lt
  have HO := Lib.hid (show w.heap.size ≤ gr ∧ gr < gm ∧ w.heap.size ≤ gm by have := HGR.out; have := HGM.out; have := hb1.size; have := br.lt; omega)
  have hb12 := hb1.trans (hb2.mono hb1.size)
  have br3 := br2.grown hg3 (fun e => by have := HO.out; injection e with e; omega)
  have hb13 : Below w.heap.size w w3 := hb12.trans (grown_below hg3 HO.out.2.2 hb12.size)
  have hS3 : SlB w3 w.heap.size (.slice (some ⟨gb, ob, none⟩) n c) b := ⟨some ⟨gb, ob, none⟩, c, by rw [HN.out], HI.out.below hb13⟩
  clear hg3 bm br br2 hb12 hb1 hb2 hgb hn0
  go_upto_region 2 with (fail)
  refine wp_region_lit ?_
  refine wpList_plain rfl (fun K hK => ?_)
  go_simp
  refine hK _ _ ?_
  clear hK K
  try simp only [Act.put, zSa, zSz, zSs]
  refine wpList_sliceL rfl rfl rfl hS3 4 rfl (by rw [HN.out]; exact H4.out) ?_
  intro v4 hv4
  obtain ⟨A4, c4, rfl, hi4⟩ := hv4
  obtain ⟨q4, hq4⟩ : ∃ q, (b.drop 4).length = q := ⟨_, rfl⟩
  rw [hq4]
  try simp only [Act.put, zSa, zSz, zSs]
  refine wpList_plain rfl (fun K hK => wp_builtV 77 _ rfl [(0, .slice A4 q4 c4)] rfl [.slice A4 q4 c4].toArray (builtCur _ _ _) (hK _ _ ?_))
  clear hK K hS3
  try simp only [Act.put, zSa, zSz, zSs]
  refine wpList_new_blk rfl 77 rfl [.slice none 0 0] zeroCur ?_
  intro gc w4 hgc bc hb4
  have HGC := Lib.hid hgc
  clear hgc
  try simp only [Act.put, zSa, zSz, zSs]
  refine wpList_store_blk rfl 77 (.tmp 4) (.tmp 12) rfl rfl gc [.slice A4 q4 c4] rfl rfl _ _ bc (infoCur.trans rfl) rfl (by simp [Value.oneCell']) ?_
  intro w5 bc5 hg5
  try simp only [Act.put, zSa, zSz, zSs]
  have HO2 := Lib.hid (show gm < gc by have := HGC.out; have := bm3.lt; omega)
  have bm5 := (bm3.below hb4 bm3.lt).grown hg5 (fun e => by have := HO2.out; injection e with e; omega)
  have br5 := (br3.below hb4 br3.lt).grown hg5 (fun e => by have := HO2.out; have := HO.out; injection e with e; omega)
  have hb14 := hb13.trans (hb4.mono hb13.size)
  have hb15 : Below w.heap.size w w5 := hb14.trans (grown_below hg5 (by have := HO2.out; have := HO.out; omega) hb14.size)
  have C : CAt w5 w.heap.size gc (b.drop 4) := ⟨by have := HO2.out; have := HO.out; omega, _, bc5, ⟨A4, c4, by rw [hq4], (hi4.below (hb4.mono hb13.size)).below (grown_below hg5 (by have := HO2.out; have := HO.out; omega) hb14.size)⟩⟩
  obtain ⟨D, hD⟩ : ∃ D, D = w5.heap.size := ⟨_, rfl⟩
  have HD := Lib.hid hD
  have hgcD : gm < gc ∧ gc < D ∧ w.heap.size ≤ gm ∧ D ≤ w5.heap.size := ⟨HO2.out, by rw [hD]; exact bc5.lt, HO.out.2.2, Nat.le_of_eq hD⟩
  have HGD := Lib.hid hgcD
  have hrD : gr < D := by have := HO.out; have := HO2.out; omega
  have HRD := Lib.hid hrD
  have hr40 := Lib.hid (show (b.drop 4).length ≤ 200000 by rw [List.length_drop]; have := h40.out; omega)
  have hck : w5.cell? ⟨gm, 0, none⟩ = some (.int .i64 k) := bm5.cell 0
  have HB5 := Lib.hid hb15
  clear hi4 hq4 bm3 br3 bc bc5 hg5 hb13 hb14 hb4 hb15 hgcD hD hrD
  have hn5 : ∀ W, BufV W D (.slice none 0 0) [] := fun W => ⟨none, 0, rfl, Buf.nil _ _⟩
  have M : MW w5 D gm (zeroM k) := ⟨Nat.lt_trans HGD.out.1 HGD.out.2.1, ⟨rfl, rfl⟩, _, _, _, _, _, _, bm5, hn5 _, hn5 _, hn5 _, hn5 _, hn5 _, Rws.nil _ _⟩
  clear hn5
  go_upto_region 17 with (fail)
  have M6 : MW w5 D gm (saidM k (b.drop 4)) := by
    have e : saidM k (b.drop 4) = zeroM k := by
      unfold saidM
      rw [if_neg (by simpa using n1), if_neg (by simpa using n2), if_neg (by simpa using n4), if_neg (by simpa using n11), if_neg (by simpa using n15), if_neg (by simpa using n20)]
    rw [e]
    exact M
  have hb6 : Below gm w5 w5 := Below.refl _ _
  clear hck C M
  obtain ⟨cs, B6, hmo⟩ := M6.mvo
  have br6 := br5.below hb6 HO.out.2.1
  refine wp_region_lit ?_
  refine wpList_load_mid rfl 30 (.tmp 3) rfl gm 0 rfl cs _ (rangeAt_of_blk B6) Tryd.underlying30 rfl (infoMsg.trans (by rw [hmo.len])) ?_
  try simp only [Act.put, zSa, zSz, zSs]
  refine wpList_store_blk rfl 30 (.tmp 2) (.tmp 36) rfl rfl gr cs rfl rfl _ _ br6 (infoMsg.trans (by rw [hmo.len])) (by rw [mC_length rfl rfl, hmo.len]) hmo.one ?_
  intro w7 B7 hg7
  go_wp2
  refine bodyPost_ret (results_row1 rfl _ _ gr 0 cs _ rfl (rangeAt_of_blk B7) Tryd.underlying30 rfl (infoMsg.trans (by rw [hmo.len]))) rfl ?_
  have hb56 := HB5.out.trans (hb6.mono HO.out.2.2)
  refine ⟨cs, rfl, ?_, hb56.trans (grown_below hg7 HO.out.1 hb56.size)⟩
  have h := (hmo.kept hg7 HRD.out).base (D' := w.heap.size) (by have := HGD.out; omega)
  exact h
/-- these bytes are told as the document does -/
def SaidOk (b : List UInt8) : Prop := ∀ (v : Value) (w : World), TabH w → SlV w v b → Calls Tryd.prog 27 #[v] w fun e w' => ∃ cs, e = .returned (.agg cs.toArray) ∧ MVo w' w.heap.size (saidM ((b.getD 0 0).toNat : Int) (b.drop 4)) cs ∧ Below w.heap.size w w'
theorem saidOk_8 (b : List UInt8) (h4 : 4 ≤ b.length) (h40 : Hid (b.length ≤ 200000)) (hk : ((b.getD 0 0).toNat : Int) = 8) : SaidOk b := fun v w hT hv => by
  rw [hk]
  exact said_o b v w hT hv h4 h40 8 hk rfl rfl rfl rfl rfl rfl
end Go.Proofs.YtagblbfbjemfhaaDoor
