/-
  The reference's Same: a message is the same as itself.
-/
import Derived.Test.YtagblbfbjemfhaaDoorJe
namespace Go.Proofs.YtagblbfbjemfhaaDoor
open Go.RowKit
open HelloMath (Msg zeroM)

set_option maxRecDepth 100000 in
set_option maxHeartbeats 1000000 in
theorem same_e (m : Msg) (cs1 cs2 : List Value) (w : World) (h1 : RIn w m cs1) (h2 : RIn w m cs2) : Calls Tryd.prog 14 #[.agg cs1.toArray, .agg cs2.toArray] w fun e w' => e = .returned (.bool true) ∧ Below w.heap.size w w' := by
  have HLN := Lib.hid h1.1
  have hb1 : Below w.heap.size w (w.alloc (.cells cs1.toArray 25)) := (Below.refl _ _).alloc (Nat.le_refl _) _
  have hM1 : RAt (w.alloc (.cells cs1.toArray 25)) w.heap.size m := ⟨cs1, Blk.new w 25 cs1, h1.below hb1⟩
  have h2' := h2.below hb1
  go_enter Tryd.func14, Tryd.ntmps14
  go_upto_region 0 with (fail)
  refine wp_region_lit ?_
  refine wpList_plain rfl (fun K hK => ?_)
  go_simp
  refine hK _ _ ?_
  clear hK K h1 h2
  obtain ⟨g1, hg1⟩ : ∃ g, g = w.heap.size := ⟨_, rfl⟩
  rw [← hg1] at hM1
  simp only [← hg1]
  clear hg1
  generalize w.alloc (.cells cs1.toArray 25) = w1 at *
  try simp only [Act.put, zSa, zSz, zSs]
  refine wpList_plain rfl (fun K hK => ?_)
  go_simp
  refine hK _ _ ?_
  clear hK K
  have hb2 : Below w1.heap.size w1 (w1.alloc (.cells cs2.toArray 25)) := (Below.refl _ _).alloc (Nat.le_refl _) _
  have hM2 : RAt (w1.alloc (.cells cs2.toArray 25)) w1.heap.size m := ⟨cs2, Blk.new w1 25 cs2, h2'.below hb2⟩
  have hM3 := hM1.below hb2
  have hb3 := hb1.trans (hb2.mono hb1.size)
  obtain ⟨g2, hg2⟩ : ∃ g, g = w1.heap.size := ⟨_, rfl⟩
  rw [← hg2] at hM2
  simp only [← hg2]
  clear hg2 hb2 hb1 h2' hM1
  generalize w1.alloc (.cells cs2.toArray 25) = w2 at *
  try simp only [Act.put, zSa, zSz, zSs]
  obtain ⟨va, hca, Aa, ca, hea, hla, hra⟩ := hM3.certs
  obtain ⟨vb, hcb, Ab, cb, heb, hlb, hrb⟩ := hM2.certs
  subst hea heb
  obtain ⟨n, hn⟩ : ∃ n, m.certs.length = n := ⟨_, rfl⟩
  rw [hn] at hca hcb hla hlb hra hrb
  have HM1 := Lib.hid hM3
  have HM2 := Lib.hid hM2
  have HRA := Lib.hid hra
  have HRB := Lib.hid hrb
  have HL := Lib.hid (show n ≤ 9223372036854775807 by omega)
  have HB3 := Lib.hid hb3
  clear hM3 hM2 hra hrb hla hlb hn hb3
  go_wp2
  go_loopw [5] (fun i wl => ∃ k : Nat, k ≤ n ∧ i = .int .i64 (k : Int) ∧ Below w2.heap.size w2 wl) (fun i _ => n - (intOf i).toNat)
  case atStart => exact ⟨0, Nat.zero_le _, rfl, Below.refl _ _⟩
  case round =>
    obtain ⟨k, hk, rfl, hbr⟩ := hrel
    replace hca := (hbr.cell (p := ⟨g1, 70, none⟩) HM1.out.lt).trans hca
    replace hcb := (hbr.cell (p := ⟨g2, 70, none⟩) HM2.out.lt).trans hcb
    have HBR := Lib.hid hbr
    clear hbr
    by_cases hlt : k < n
    · have hd : (k : Int) < (n : Int) := by omega
      obtain ⟨ga, oa, hAa, hga, hra⟩ := HRA.out (Nat.lt_of_le_of_lt (Nat.zero_le _) hlt)
      obtain ⟨gb, ob, hAb, hgb, hrb⟩ := HRB.out (Nat.lt_of_le_of_lt (Nat.zero_le _) hlt)
      obtain ⟨p, hp⟩ : ∃ p, m.certs.getD k [] = p := ⟨_, rfl⟩
      have hc1 := (HBR.out.cell (p := ⟨ga, oa + k, none⟩) hga).trans (hra k hlt)
      have hc2 := (HBR.out.cell (p := ⟨gb, ob + k, none⟩) hgb).trans (hrb k hlt)
      rw [hp] at hc1 hc2
      have HLK := Lib.hid (show k + 1 ≤ n ∧ n - (k + 1) < n - k by omega)
      obtain ⟨hk0, hkn, hkw⟩ := ix_cut hlt HL.out
      have HKW := Lib.hid hkw
      subst hAa hAb
      have HC := Lib.hid (fun (W : World) (hW : Below wr.heap.size wr W) => (show W.cell? ⟨g1, 70, none⟩ = some (.slice (some ⟨ga, oa, none⟩) n ca) ∧ W.cell? ⟨g2, 70, none⟩ = some (.slice (some ⟨gb, ob, none⟩) n cb) ∧ W.cell? ⟨ga, oa + k, none⟩ = some (.string ⟨p.toArray⟩) ∧ W.cell? ⟨gb, ob + k, none⟩ = some (.string ⟨p.toArray⟩) from
        ⟨(hW.cell (p := ⟨g1, 70, none⟩) (Nat.lt_of_lt_of_le HM1.out.lt HBR.out.size)).trans hca, (hW.cell (p := ⟨g2, 70, none⟩) (Nat.lt_of_lt_of_le HM2.out.lt HBR.out.size)).trans hcb, (hW.cell (p := ⟨ga, oa + k, none⟩) (Nat.lt_of_lt_of_le hga HBR.out.size)).trans hc1, (hW.cell (p := ⟨gb, ob + k, none⟩) (Nat.lt_of_lt_of_le hgb HBR.out.size)).trans hc2⟩))
      clear hra hrb hga hgb hkw hk hlt hp hc1 hc2
      go_upto_region 6 with (fail)
      clear hca hcb hd
      refine wp_region_noPanic ?_
      refine wp_region_held_drew (S := fun W => Below wr.heap.size wr W) (by kernel_rfl) (by exact below_drewN (Below.refl _ _) 1) (fun hHeld => ?_)
      refine wpAnyH_take (i := 0) (oi := ⟨_, _, _, _, _, _⟩) (v := ?_) rfl (by kernel_rfl) (by kernel_rfl) (by kernel_rfl) (fun _ _ _ h => h) (Or.inl ⟨by rfl, ?_⟩) hHeld ?_
      rotate_left 1
      · (intro W hSw; (try dsimp only at hSw); obtain ⟨hs1, hs2, hs3, hs4⟩ := HC.out W hSw; go_simp; try with_reducible rfl)
      try simp only [Act.put, zSa, zSz, zSs]
      refine wpAnyH_take (i := 1) (oi := ⟨_, _, _, _, _, _⟩) (v := ?_) rfl (by kernel_rfl) (by kernel_rfl) (by kernel_rfl) (fun _ _ _ h => h) (Or.inl ⟨by rfl, ?_⟩) hHeld ?_
      rotate_left 1
      · (intro W hSw; (try dsimp only at hSw); obtain ⟨hs1, hs2, hs3, hs4⟩ := HC.out W hSw; go_simp; try with_reducible rfl)
      try simp only [Act.put, zSa, zSz, zSs]
      refine wpAnyH_take (i := 2) (oi := ⟨_, _, _, _, _, _⟩) (v := ?_) rfl (by kernel_rfl) (by kernel_rfl) (by kernel_rfl) (fun _ _ _ h => h) (Or.inl ⟨by rfl, ?_⟩) hHeld ?_
      rotate_left 1
      · (intro W hSw; (try dsimp only at hSw); obtain ⟨hs1, hs2, hs3, hs4⟩ := HC.out W hSw; go_simp; try with_reducible rfl)
      try simp only [Act.put, zSa, zSz, zSs]
      refine wpAnyH_take (i := 3) (oi := ⟨_, _, _, _, _, _⟩) (v := ?_) rfl (by kernel_rfl) (by kernel_rfl) (by kernel_rfl) (fun _ _ _ h => h) (Or.inl ⟨by rfl, ?_⟩) hHeld ?_
      rotate_left 1
      · (intro W hSw; (try dsimp only at hSw); obtain ⟨hs1, hs2, hs3, hs4⟩ := HC.out W hSw; go_simp; try with_reducible rfl)
      try simp only [Act.put, zSa, zSz, zSs]
      refine wpAnyH_take (i := 4) (oi := ⟨_, _, _, _, _, _⟩) (v := ?_) rfl (by kernel_rfl) (by kernel_rfl) (by kernel_rfl) (fun _ _ _ h => h) (Or.inl ⟨by rfl, ?_⟩) hHeld ?_
      rotate_left 1
      · (intro W hSw; (try dsimp only at hSw); obtain ⟨hs1, hs2, hs3, hs4⟩ := HC.out W hSw; go_simp; try with_reducible rfl)
      try simp only [Act.put, zSa, zSz, zSs]
      refine wpAnyH_take (i := 5) (oi := ⟨_, _, _, _, _, _⟩) (v := ?_) rfl (by kernel_rfl) (by kernel_rfl) (by kernel_rfl) (fun _ _ _ h => h) (Or.inl ⟨by rfl, ?_⟩) hHeld ?_
      rotate_left 1
      · (intro W hSw; (try dsimp only at hSw); obtain ⟨hs1, hs2, hs3, hs4⟩ := HC.out W hSw; go_simp; try with_reducible rfl)
      try simp only [Act.put, zSa, zSz, zSs]
      refine wpAnyH_take (i := 6) (oi := ⟨_, _, _, _, _, _⟩) (v := ?_) rfl (by kernel_rfl) (by kernel_rfl) (by kernel_rfl) (fun _ _ _ h => h) (Or.inl ⟨by rfl, ?_⟩) hHeld ?_
      rotate_left 1
      · (intro W hSw; (try dsimp only at hSw); obtain ⟨hs1, hs2, hs3, hs4⟩ := HC.out W hSw; go_simp; try with_reducible rfl)
      try simp only [Act.put, zSa, zSz, zSs]
      refine wpAnyH_take (i := 7) (oi := ⟨_, _, _, _, _, _⟩) (v := ?_) rfl (by kernel_rfl) (by kernel_rfl) (by kernel_rfl) (fun _ _ _ h => h) (Or.inl ⟨by rfl, ?_⟩) hHeld ?_
      rotate_left 1
      · (intro W hSw; (try dsimp only at hSw); obtain ⟨hs1, hs2, hs3, hs4⟩ := HC.out W hSw; go_simp; try with_reducible rfl)
      try simp only [Act.put, zSa, zSz, zSs]
      refine wpAnyH_take (i := 8) (oi := ⟨_, _, _, _, _, _⟩) (v := ?_) rfl (by kernel_rfl) (by kernel_rfl) (by kernel_rfl) (fun _ _ _ h => h) (Or.inl ⟨by rfl, ?_⟩) hHeld ?_
      rotate_left 1
      · (intro W hSw; (try dsimp only at hSw); obtain ⟨hs1, hs2, hs3, hs4⟩ := HC.out W hSw; go_simp; try with_reducible rfl)
      try simp only [Act.put, zSa, zSz, zSs]
      refine wpAnyH_take (i := 9) (oi := ⟨_, _, _, _, _, _⟩) (v := ?_) rfl (by kernel_rfl) (by kernel_rfl) (by kernel_rfl) (fun _ _ _ h => h) (Or.inl ⟨by rfl, ?_⟩) hHeld ?_
      rotate_left 1
      · (intro W hSw; (try dsimp only at hSw); obtain ⟨hs1, hs2, hs3, hs4⟩ := HC.out W hSw; go_simp; try with_reducible rfl)
      try simp only [Act.put, zSa, zSz, zSs]
      refine wpAnyH_take (i := 10) (oi := ⟨_, _, _, _, _, _⟩) (v := ?_) rfl (by kernel_rfl) (by kernel_rfl) (by kernel_rfl) (fun _ _ _ h => h) (Or.inl ⟨by rfl, ?_⟩) hHeld ?_
      rotate_left 1
      · (intro W hSw; (try dsimp only at hSw); obtain ⟨hs1, hs2, hs3, hs4⟩ := HC.out W hSw; go_simp; try with_reducible rfl)
      try simp only [Act.put, zSa, zSz, zSs]
      refine wpAnyH_done (by kernel_rfl) ?_ _
      refine NoPanic.normal ?_
      go_wp2
      go_roundw
      case rel => exact ⟨k + 1, HLK.out.1, by rw [HKW.out], below_drewN HBR.out 1⟩
      case measure => rw [HKW.out]; simpa [intOf] using HLK.out.2
    · have hd : ¬ (k : Int) < (n : Int) := by omega
      replace HM1 := Lib.hid (HM1.out.below HBR.out)
      replace HM2 := Lib.hid (HM2.out.below HBR.out)
      replace HB3 := Lib.hid (HB3.out.trans (HBR.out.mono HB3.out.size))
      clear hk hlt HRA HRB
      go_upto_region 8 with (fail)
      clear hca hcb hd
      refine wp_region_lit ?_
      have hcc := HM1.out.kind
      refine wpList_plain rfl (fun K hK => ?_)
      go_simp
      refine hK _ _ ?_
      clear hK K
      try simp only [Act.put, zSa, zSz, zSs]
      refine wpList_plain rfl (fun K hK => ?_)
      go_simp
      refine hK _ _ ?_
      clear hK K
      try simp only [Act.put, zSa, zSz, zSs]
      clear hcc
      have hcc := HM2.out.kind
      refine wpList_plain rfl (fun K hK => ?_)
      go_simp
      refine hK _ _ ?_
      clear hK K
      try simp only [Act.put, zSa, zSz, zSs]
      refine wpList_plain rfl (fun K hK => ?_)
      go_simp
      refine hK _ _ ?_
      clear hK K
      try simp only [Act.put, zSa, zSz, zSs]
      clear hcc
      refine wpList_plain rfl (fun K hK => ?_)
      go_simp
      refine hK _ _ ?_
      clear hK K
      try simp only [Act.put, zSa, zSz, zSs]
      refine wpList_plain rfl (fun K hK => ?_)
      go_simp
      refine hK _ _ ?_
      clear hK K
      try simp only [Act.put, zSa, zSz, zSs]
      refine BigFrame.wpList_want (by rfl) (fun K hK => ?_)
      go_simp
      refine hK _ _ ?_
      clear hK K
      try simp only [Act.put, zSa, zSz, zSs]
      refine BigFrame.wpList_want (by rfl) (fun K hK => wp_load_mid 22 (.tmp 37) rfl g1 1 rfl (m.rnd.map B8) _ HM1.out.rnd Tryd.underlying22 rfl (info40.trans (by rw [List.length_map, HLN.out.1])) (hK _ _ ?_))
      clear hK K
      try simp only [Act.put, zSa, zSz, zSs]
      refine BigFrame.wpList_want (by rfl) (fun K hK => ?_)
      go_simp
      refine hK _ _ ?_
      clear hK K
      try simp only [Act.put, zSa, zSz, zSs]
      refine BigFrame.wpList_want (by rfl) (fun K hK => wp_load_mid 22 (.tmp 39) rfl g2 1 rfl (m.rnd.map B8) _ HM2.out.rnd Tryd.underlying22 rfl (info40.trans (by rw [List.length_map, HLN.out.1])) (hK _ _ ?_))
      clear hK K
      try simp only [Act.put, zSa, zSz, zSs]
      refine BigFrame.wpList_want (by rfl) (fun K hK => wp_eqlA rfl rfl rfl guardB32 (EqB (Lib.hid HLN.out.1) (Lib.hid HLN.out.1) (Lib.hid (BEq.refl m.rnd)) _) (hK _ _ ?_))
      clear hK K
      try simp only [Act.put, zSa, zSz, zSs]
      refine wpList_plain rfl (fun K hK => ?_)
      go_simp
      refine hK _ _ ?_
      clear hK K
      try simp only [Act.put, zSa, zSz, zSs]
      refine wpList_plain rfl (fun K hK => ?_)
      go_simp
      refine hK _ _ ?_
      clear hK K
      try simp only [Act.put, zSa, zSz, zSs]
      refine BigFrame.wpList_want (by rfl) (fun K hK => ?_)
      go_simp
      refine hK _ _ ?_
      clear hK K
      try simp only [Act.put, zSa, zSz, zSs]
      refine BigFrame.wpList_want (by rfl) (fun K hK => wp_load_mid 22 (.tmp 44) rfl g1 33 rfl (m.mark.map B8) _ HM1.out.mark Tryd.underlying22 rfl (info40.trans (by rw [List.length_map, HLN.out.2])) (hK _ _ ?_))
      clear hK K
      try simp only [Act.put, zSa, zSz, zSs]
      refine BigFrame.wpList_want (by rfl) (fun K hK => ?_)
      go_simp
      refine hK _ _ ?_
      clear hK K
      try simp only [Act.put, zSa, zSz, zSs]
      refine BigFrame.wpList_want (by rfl) (fun K hK => wp_load_mid 22 (.tmp 46) rfl g2 33 rfl (m.mark.map B8) _ HM2.out.mark Tryd.underlying22 rfl (info40.trans (by rw [List.length_map, HLN.out.2])) (hK _ _ ?_))
      clear hK K
      try simp only [Act.put, zSa, zSz, zSs]
      refine BigFrame.wpList_want (by rfl) (fun K hK => wp_eqlA rfl rfl rfl guardB32 (EqB (Lib.hid HLN.out.2) (Lib.hid HLN.out.2) (Lib.hid (BEq.refl m.mark)) _) (hK _ _ ?_))
      clear hK K
      try simp only [Act.put, zSa, zSz, zSs]
      refine wpList_plain rfl (fun K hK => ?_)
      go_simp
      refine hK _ _ ?_
      clear hK K
      try simp only [Act.put, zSa, zSz, zSs]
      refine wpList_plain rfl (fun K hK => ?_)
      go_simp
      refine hK _ _ ?_
      clear hK K
      try simp only [Act.put, zSa, zSz, zSs]
      have hcc := HM1.out.ses
      refine BigFrame.wpList_want (by rfl) (fun K hK => ?_)
      go_simp
      refine hK _ _ ?_
      clear hK K
      try simp only [Act.put, zSa, zSz, zSs]
      refine BigFrame.wpList_want (by rfl) (fun K hK => ?_)
      go_simp
      refine hK _ _ ?_
      clear hK K
      try simp only [Act.put, zSa, zSz, zSs]
      clear hcc
      have hcc := HM2.out.ses
      refine BigFrame.wpList_want (by rfl) (fun K hK => ?_)
      go_simp
      refine hK _ _ ?_
      clear hK K
      try simp only [Act.put, zSa, zSz, zSs]
      refine BigFrame.wpList_want (by rfl) (fun K hK => ?_)
      go_simp
      refine hK _ _ ?_
      clear hK K
      try simp only [Act.put, zSa, zSz, zSs]
      clear hcc
      refine BigFrame.wpList_want (by rfl) (fun K hK => ?_)
      go_simp
      refine hK _ _ ?_
      clear hK K
      try simp only [Act.put, zSa, zSz, zSs]
      refine wpList_plain rfl (fun K hK => ?_)
      go_simp
      refine hK _ _ ?_
      clear hK K
      try simp only [Act.put, zSa, zSz, zSs]
      refine wpList_plain rfl (fun K hK => ?_)
      go_simp
      refine hK _ _ ?_
      clear hK K
      try simp only [Act.put, zSa, zSz, zSs]
      have hcc := HM1.out.sha
      refine BigFrame.wpList_want (by rfl) (fun K hK => ?_)
      go_simp
      refine hK _ _ ?_
      clear hK K
      try simp only [Act.put, zSa, zSz, zSs]
      refine BigFrame.wpList_want (by rfl) (fun K hK => ?_)
      go_simp
      refine hK _ _ ?_
      clear hK K
      try simp only [Act.put, zSa, zSz, zSs]
      clear hcc
      have hcc := HM2.out.sha
      refine BigFrame.wpList_want (by rfl) (fun K hK => ?_)
      go_simp
      refine hK _ _ ?_
      clear hK K
      try simp only [Act.put, zSa, zSz, zSs]
      refine BigFrame.wpList_want (by rfl) (fun K hK => ?_)
      go_simp
      refine hK _ _ ?_
      clear hK K
      try simp only [Act.put, zSa, zSz, zSs]
      clear hcc
      refine BigFrame.wpList_want (by rfl) (fun K hK => ?_)
      go_simp
      refine hK _ _ ?_
      clear hK K
      try simp only [Act.put, zSa, zSz, zSs]
      refine wpList_plain rfl (fun K hK => ?_)
      go_simp
      refine hK _ _ ?_
      clear hK K
      try simp only [Act.put, zSa, zSz, zSs]
      refine wpList_plain rfl (fun K hK => ?_)
      go_simp
      refine hK _ _ ?_
      clear hK K
      try simp only [Act.put, zSa, zSz, zSs]
      have hcc := HM1.out.tic
      refine BigFrame.wpList_want (by rfl) (fun K hK => ?_)
      go_simp
      refine hK _ _ ?_
      clear hK K
      try simp only [Act.put, zSa, zSz, zSs]
      refine BigFrame.wpList_want (by rfl) (fun K hK => ?_)
      go_simp
      refine hK _ _ ?_
      clear hK K
      try simp only [Act.put, zSa, zSz, zSs]
      clear hcc
      have hcc := HM2.out.tic
      refine BigFrame.wpList_want (by rfl) (fun K hK => ?_)
      go_simp
      refine hK _ _ ?_
      clear hK K
      try simp only [Act.put, zSa, zSz, zSs]
      refine BigFrame.wpList_want (by rfl) (fun K hK => ?_)
      go_simp
      refine hK _ _ ?_
      clear hK K
      try simp only [Act.put, zSa, zSz, zSs]
      clear hcc
      refine BigFrame.wpList_want (by rfl) (fun K hK => ?_)
      go_simp
      refine hK _ _ ?_
      clear hK K
      try simp only [Act.put, zSa, zSz, zSs]
      refine wpList_plain rfl (fun K hK => ?_)
      go_simp
      refine hK _ _ ?_
      clear hK K
      try simp only [Act.put, zSa, zSz, zSs]
      refine wpList_plain rfl (fun K hK => ?_)
      go_simp
      refine hK _ _ ?_
      clear hK K
      try simp only [Act.put, zSa, zSz, zSs]
      have hcc := HM1.out.non
      refine BigFrame.wpList_want (by rfl) (fun K hK => ?_)
      go_simp
      refine hK _ _ ?_
      clear hK K
      try simp only [Act.put, zSa, zSz, zSs]
      refine BigFrame.wpList_want (by rfl) (fun K hK => ?_)
      go_simp
      refine hK _ _ ?_
      clear hK K
      try simp only [Act.put, zSa, zSz, zSs]
      clear hcc
      have hcc := HM2.out.non
      refine BigFrame.wpList_want (by rfl) (fun K hK => ?_)
      go_simp
      refine hK _ _ ?_
      clear hK K
      try simp only [Act.put, zSa, zSz, zSs]
      refine BigFrame.wpList_want (by rfl) (fun K hK => ?_)
      go_simp
      refine hK _ _ ?_
      clear hK K
      try simp only [Act.put, zSa, zSz, zSs]
      clear hcc
      refine BigFrame.wpList_want (by rfl) (fun K hK => ?_)
      go_simp
      refine hK _ _ ?_
      clear hK K
      try simp only [Act.put, zSa, zSz, zSs]
      refine wpList_plain rfl (fun K hK => ?_)
      go_simp
      refine hK _ _ ?_
      clear hK K
      try simp only [Act.put, zSa, zSz, zSs]
      refine wpList_plain rfl (fun K hK => ?_)
      go_simp
      refine hK _ _ ?_
      clear hK K
      try simp only [Act.put, zSa, zSz, zSs]
      have hcc := HM1.out.sig
      refine BigFrame.wpList_want (by rfl) (fun K hK => ?_)
      go_simp
      refine hK _ _ ?_
      clear hK K
      try simp only [Act.put, zSa, zSz, zSs]
      refine BigFrame.wpList_want (by rfl) (fun K hK => ?_)
      go_simp
      refine hK _ _ ?_
      clear hK K
      try simp only [Act.put, zSa, zSz, zSs]
      clear hcc
      have hcc := HM2.out.sig
      refine BigFrame.wpList_want (by rfl) (fun K hK => ?_)
      go_simp
      refine hK _ _ ?_
      clear hK K
      try simp only [Act.put, zSa, zSz, zSs]
      refine BigFrame.wpList_want (by rfl) (fun K hK => ?_)
      go_simp
      refine hK _ _ ?_
      clear hK K
      try simp only [Act.put, zSa, zSz, zSs]
      clear hcc
      refine BigFrame.wpList_want (by rfl) (fun K hK => ?_)
      go_simp
      refine hK _ _ ?_
      clear hK K
      try simp only [Act.put, zSa, zSz, zSs]
      refine wpList_plain rfl (fun K hK => ?_)
      go_simp
      refine hK _ _ ?_
      clear hK K
      try simp only [Act.put, zSa, zSz, zSs]
      refine wpList_plain rfl (fun K hK => ?_)
      go_simp
      refine hK _ _ ?_
      clear hK K
      try simp only [Act.put, zSa, zSz, zSs]
      have hcc := HM1.out.life
      refine BigFrame.wpList_want (by rfl) (fun K hK => ?_)
      go_simp
      refine hK _ _ ?_
      clear hK K
      try simp only [Act.put, zSa, zSz, zSs]
      refine BigFrame.wpList_want (by rfl) (fun K hK => ?_)
      go_simp
      refine hK _ _ ?_
      clear hK K
      try simp only [Act.put, zSa, zSz, zSs]
      clear hcc
      have hcc := HM2.out.life
      refine BigFrame.wpList_want (by rfl) (fun K hK => ?_)
      go_simp
      refine hK _ _ ?_
      clear hK K
      try simp only [Act.put, zSa, zSz, zSs]
      refine BigFrame.wpList_want (by rfl) (fun K hK => ?_)
      go_simp
      refine hK _ _ ?_
      clear hK K
      try simp only [Act.put, zSa, zSz, zSs]
      clear hcc
      refine BigFrame.wpList_want (by rfl) (fun K hK => ?_)
      go_simp
      refine hK _ _ ?_
      clear hK K
      try simp only [Act.put, zSa, zSz, zSs]
      refine wpList_plain rfl (fun K hK => ?_)
      go_simp
      refine hK _ _ ?_
      clear hK K
      try simp only [Act.put, zSa, zSz, zSs]
      refine wpList_plain rfl (fun K hK => ?_)
      go_simp
      refine hK _ _ ?_
      clear hK K
      try simp only [Act.put, zSa, zSz, zSs]
      have hcc := HM1.out.age
      refine BigFrame.wpList_want (by rfl) (fun K hK => ?_)
      go_simp
      refine hK _ _ ?_
      clear hK K
      try simp only [Act.put, zSa, zSz, zSs]
      refine BigFrame.wpList_want (by rfl) (fun K hK => ?_)
      go_simp
      refine hK _ _ ?_
      clear hK K
      try simp only [Act.put, zSa, zSz, zSs]
      clear hcc
      have hcc := HM2.out.age
      refine BigFrame.wpList_want (by rfl) (fun K hK => ?_)
      go_simp
      refine hK _ _ ?_
      clear hK K
      try simp only [Act.put, zSa, zSz, zSs]
      refine BigFrame.wpList_want (by rfl) (fun K hK => ?_)
      go_simp
      refine hK _ _ ?_
      clear hK K
      try simp only [Act.put, zSa, zSz, zSs]
      clear hcc
      refine BigFrame.wpList_want (by rfl) (fun K hK => ?_)
      go_simp
      refine hK _ _ ?_
      clear hK K
      try simp only [Act.put, zSa, zSz, zSs]
      refine wpList_plain rfl (fun K hK => ?_)
      go_simp
      refine hK _ _ ?_
      clear hK K
      try simp only [Act.put, zSa, zSz, zSs]
      refine wpList_plain rfl (fun K hK => ?_)
      go_simp
      refine hK _ _ ?_
      clear hK K
      try simp only [Act.put, zSa, zSz, zSs]
      have hcc := HM1.out.psk
      refine BigFrame.wpList_want (by rfl) (fun K hK => ?_)
      go_simp
      refine hK _ _ ?_
      clear hK K
      try simp only [Act.put, zSa, zSz, zSs]
      refine BigFrame.wpList_want (by rfl) (fun K hK => ?_)
      go_simp
      refine hK _ _ ?_
      clear hK K
      try simp only [Act.put, zSa, zSz, zSs]
      clear hcc
      have hcc := HM2.out.psk
      refine BigFrame.wpList_want (by rfl) (fun K hK => ?_)
      go_simp
      refine hK _ _ ?_
      clear hK K
      try simp only [Act.put, zSa, zSz, zSs]
      refine BigFrame.wpList_want (by rfl) (fun K hK => ?_)
      go_simp
      refine hK _ _ ?_
      clear hK K
      try simp only [Act.put, zSa, zSz, zSs]
      clear hcc
      refine BigFrame.wpList_want (by rfl) (fun K hK => ?_)
      go_simp
      refine hK _ _ ?_
      clear hK K
      try simp only [Act.put, zSa, zSz, zSs]
      refine wpList_plain rfl (fun K hK => ?_)
      go_simp
      refine hK _ _ ?_
      clear hK K
      try simp only [Act.put, zSa, zSz, zSs]
      refine wpList_plain rfl (fun K hK => ?_)
      go_simp
      refine hK _ _ ?_
      clear hK K
      try simp only [Act.put, zSa, zSz, zSs]
      have hcc := HM1.out.retry
      refine BigFrame.wpList_want (by rfl) (fun K hK => ?_)
      go_simp
      refine hK _ _ ?_
      clear hK K
      try simp only [Act.put, zSa, zSz, zSs]
      refine BigFrame.wpList_want (by rfl) (fun K hK => ?_)
      go_simp
      refine hK _ _ ?_
      clear hK K
      try simp only [Act.put, zSa, zSz, zSs]
      clear hcc
      have hcc := HM2.out.retry
      refine BigFrame.wpList_want (by rfl) (fun K hK => ?_)
      go_simp
      refine hK _ _ ?_
      clear hK K
      try simp only [Act.put, zSa, zSz, zSs]
      refine BigFrame.wpList_want (by rfl) (fun K hK => ?_)
      go_simp
      refine hK _ _ ?_
      clear hK K
      try simp only [Act.put, zSa, zSz, zSs]
      clear hcc
      refine BigFrame.wpList_want (by rfl) (fun K hK => ?_)
      go_simp
      refine hK _ _ ?_
      clear hK K
      try simp only [Act.put, zSa, zSz, zSs]
      refine wpList_plain rfl (fun K hK => ?_)
      go_simp
      refine hK _ _ ?_
      clear hK K
      try simp only [Act.put, zSa, zSz, zSs]
      go_wp2
      go_ret
      exact ⟨rfl, HB3.out⟩
end Go.Proofs.YtagblbfbjemfhaaDoor
