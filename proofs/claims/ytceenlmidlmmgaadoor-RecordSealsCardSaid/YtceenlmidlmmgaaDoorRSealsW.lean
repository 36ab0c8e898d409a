/-
  The walk of the statement RecordSeals.
-/
import Derived.Test.YtceenlmidlmmgaaDoorRsl
import Derived.Test.YtceenlmidlmmgaaDoorTLinesW
namespace Go.Proofs.YtceenlmidlmmgaaDoor
open Go.RowKit

theorem infLn : (Tryd.prog.info? 39).map (·.size) = some 3 := by kernel_rfl
theorem HalfAt.grownR {w w' : World} {gh gx gk gr R u g : Nat} {L : List UInt32} {iv : List UInt8} {cs : List Value} (h : HalfAt w gh gx gk gr R L iv u) (hh : Blk w g 37 cs) (hg : w.grownBy w' (some g)) : HalfAt w' gh gx gk gr R L iv u :=
  ⟨h.half.grown hg (by simpa using blk_ne h.half hh (by decide)), h.box.grown hg (blk_ne h.box.box hh (by decide)) (blk_ne h.box.key.key hh (by decide)) (blk_ne h.box.key.rounds hh (by decide)), h.len, h.far⟩
theorem recE_len (L : List UInt32) (R : Nat) (iv : List UInt8) (u k : Nat) (b : List UInt8) (pad : Nat) : (recE L R iv u k b pad).length = 5 + (b.length + 1 + pad + 16) := by
  unfold recE
  rw [List.length_append, boxE_length, innerE_length]; rfl
theorem buf_none (w : World) : Buf (w.alloc (.cells #[] 5)) w.heap.size (some ⟨w.heap.size, 0, none⟩) 0 0 [] :=
  Buf.made _ _ _ _ (Nat.le_refl _) rfl (Nat.le_refl _) (by unfold maxLen; omega) rfl (.inr rfl) (fun j hj => absurd hj (Nat.not_lt_zero j))
def SealsAt (w wr : World) (gh gx gk gr gj gy gl gq gm : Nat) (L : List UInt32) (V S : List UInt8) (u : Nat) : Prop :=
  TwoAt w.heap.size wr gh gx gk gr gj gy gl gq L V u ∧ RHalf wr gm u S ∧ w.heap.size ≤ gm ∧ Below w.heap.size w wr
theorem SealsAt.below {w w1 w2 : World} {gh gx gk gr gj gy gl gq gm : Nat} {L : List UInt32} {V S : List UInt8} {u : Nat} (h : SealsAt w w1 gh gx gk gr gj gy gl gq gm L V S u) (hb : Below w1.heap.size w1 w2) : SealsAt w w2 gh gx gk gr gj gy gl gq gm L V S u :=
  ⟨h.1.below hb, h.2.1.below hb, h.2.2.1, h.2.2.2.trans (hb.mono h.2.2.2.size)⟩
theorem ix_min2 (lk ck : Nat) (h : lk ≤ ck) : ∃ n : Nat, min (lk : Int) 200 = (n : Int) ∧ (0 : Int) ≤ (n : Int) ∧ (n : Int) ≤ (ck : Int) ∧ n ≤ 200 ∧ n = min lk 200 := ⟨min lk 200, by omega, by omega, by omega, by omega, rfl⟩
set_option maxRecDepth 100000 in
set_option maxHeartbeats 2000000 in
theorem recordSeals_walk (S : List UInt8) (A : Option Addr) (c : Nat) (ls : List LineV) (w : World) (hS : S.length = 32) (hA : LIn w w.heap.size A c ls) (ht : Tabs w) :
    Calls Tryd.prog 3 #[BV S, .slice A ls.length c] w fun e w' => e = .returned (.bool true) ∧ Below w.heap.size w w' := by
  have HPI := Lib.hid hA
  obtain ⟨np, hnp⟩ : ∃ np, np = ls.length := ⟨_, rfl⟩
  rw [← hnp]
  have HNP := Lib.hid hnp
  have HSL := Lib.hid hS
  have HT := Lib.hid ht
  clear hA hnp hS ht
  go_enter Tryd.func3, Tryd.ntmps3
  go_upto_region 1 with (fail)
  have hA := Blk.new_of w 22 (S.map B8).toArray (S.map B8) rfl
  have hb0 : Below w.heap.size w (w.alloc (.cells (S.map B8).toArray 22)) := (Below.refl _ _).alloc (Nat.le_refl _) _
  obtain ⟨gS, hg⟩ : ∃ g, g = w.heap.size := ⟨_, rfl⟩
  rw [← hg] at hA
  simp only [← hg]
  have HBW := Lib.hid (show Below w.heap.size w (w.alloc (.cells (S.map B8).toArray 22)) from hb0)
  clear hg hb0
  generalize w.alloc (.cells (S.map B8).toArray 22) = w1 at *
  go_upto_region 5 with (first
    | (go_at_call 9; refine (rnone_e _).mono ?_; rintro e w' ⟨rfl, hww⟩; have hw2 := hww.symm; subst hw2)
    | (go_at_call 10; refine (hseal_nil 22 0 _ _).mono ?_; rintro e w' ⟨rfl, hww⟩; have hw2 := hww.symm; subst hw2)
    | (go_at_call 11; refine (hopen_nil _ _).mono ?_; rintro e w' ⟨rfl, hww⟩; have hw2 := hww.symm; subst hw2)
    | (go_at_call 13; refine (usedNil_e _).mono ?_; rintro e w' ⟨rfl, hww⟩; have hw2 := hww.symm; subst hw2)
    | (go_at_call 12; refine (records_e _ (HT.out.below HBW.out)).mono ?_; rintro e w2 ⟨rfl, hbe⟩))
  replace hA := hA.below hbe hA.lt
  replace HBW := Lib.hid (HBW.out.trans (hbe.mono HBW.out.size))
  clear hbe
  have HCA := Lib.hid (fun (W : World) (h : Below w2.heap.size w2 W) => rangeAt_of_blk (hA.below h hA.lt))
  refine wp_region_noPanic ?_
  refine wp_region_held_drew (S := fun W => Below w2.heap.size w2 W) (by kernel_rfl) (by exact below_drewN (Below.refl _ _) 1) (fun hHeld => ?_)
  refine' wpAnyH_take (i := 0) (oi := ⟨_, _, _, _, _, _⟩) rfl (by kernel_rfl) (by kernel_rfl) (by kernel_rfl) (fun _ _ _ h => h) (yieldsIf_load_mid (by rfl) 22 _ rfl gS 0 rfl (S.map B8) _ (fun W h => HCA.out W h) Tryd.underlying22 rfl (info32.trans (by rw [List.length_map, HSL.out]))) hHeld ?_
  try simp only [Act.put, List.setIfInBounds_toArray, List.set_cons_zero, List.set_cons_succ]
  refine' wpAnyH_take (i := 2) (oi := ⟨_, _, _, _, _, _⟩) rfl (by kernel_rfl) (by kernel_rfl) (by kernel_rfl) (fun _ _ _ h => h) (yieldsIf_load_mid (by rfl) 22 _ rfl gS 0 rfl (S.map B8) _ (fun W h => HCA.out W h) Tryd.underlying22 rfl (info32.trans (by rw [List.length_map, HSL.out]))) hHeld ?_
  try simp only [Act.put, List.setIfInBounds_toArray, List.set_cons_zero, List.set_cons_succ]
  replace hHeld : Below w2.heap.size w2 w2.drew := hHeld
  have HWD := Lib.hid (show w2.heap.size ≤ w2.drew.heap.size from hHeld.size)
  generalize w2.drew = wd at *
  refine wpAnyH_ready (rs := [1]) (by kernel_rfl) (by simp) ?_
  refine AllReadyH.cons (o := ⟨_, _, _, _, _, _⟩) rfl (fun K hK => ?_) AllReadyH.nil
  go_simp
  go_at_call 14
  refine (hnew_e S _ HSL.out (HT.out.below (HBW.out.trans (hHeld.mono HBW.out.size)))).mono ?_
  rintro e wa ⟨gh, gx, gk, gr, rfl, hgh, hgx, Hgh, hbgh⟩
  try go_wp2_with fail
  have hszx := hHeld.size
  refine hK.out _ _ (hHeld.trans (hbgh.mono hszx)) (fun hHeld => ?_)
  clear hK K hszx
  try simp only [Act.put, List.setIfInBounds_toArray, List.set_cons_zero, List.set_cons_succ]
  refine wpAnyH_ready (rs := [3]) (by kernel_rfl) (by simp) ?_
  refine AllReadyH.cons (o := ⟨_, _, _, _, _, _⟩) rfl (fun K hK => ?_) AllReadyH.nil
  go_simp
  go_at_call 14
  refine (hnew_e S _ HSL.out (HT.out.below (HBW.out.trans (hHeld.mono HBW.out.size)))).mono ?_
  rintro e wb ⟨gj, gy, gl2, gq, rfl, hgj, hgy, Hgj, hbgj⟩
  try go_wp2_with fail
  have hszx := hHeld.size
  refine hK.out _ _ (hHeld.trans (hbgj.mono hszx)) (fun hHeld => ?_)
  clear hK K hszx
  try simp only [Act.put, List.setIfInBounds_toArray, List.set_cons_zero, List.set_cons_succ]
  refine wpAnyH_take (i := 4) (oi := ⟨_, _, _, _, _, _⟩) (v := ?_) rfl (by kernel_rfl) (by kernel_rfl) (by kernel_rfl) (fun _ _ _ h => h) (Or.inl ⟨by rfl, ?_⟩) hHeld ?_
  rotate_left 1
  · (intro W hSw; (try dsimp only at hSw); go_simp; try with_reducible rfl)
  try simp only [Act.put, List.setIfInBounds_toArray, List.set_cons_zero, List.set_cons_succ]
  refine wpAnyH_take (i := 5) (oi := ⟨_, _, _, _, _, _⟩) (v := ?_) rfl (by kernel_rfl) (by kernel_rfl) (by kernel_rfl) (fun _ _ _ h => h) (Or.inl ⟨by rfl, ?_⟩) hHeld ?_
  rotate_left 1
  · (intro W hSw; (try dsimp only at hSw); go_simp; try with_reducible rfl)
  try simp only [Act.put, List.setIfInBounds_toArray, List.set_cons_zero, List.set_cons_succ]
  refine wpAnyH_done (by kernel_rfl) ?_ _
  refine NoPanic.normal ?_
  replace hHeld : Below w2.heap.size w2 wb := hHeld
  have HT1 := Lib.hid (show TwoAt w.heap.size wb gh gx gk gr gj gy gl2 gq (keyL 4 (keyH S)) (ivH S) 0 from ⟨Hgh.below hbgj, Hgj, Nat.le_trans HBW.out.size (Nat.le_trans HWD.out hgh), Nat.le_trans HBW.out.size (Nat.le_trans HWD.out (Nat.le_trans hbgh.size hgj)), fun e => absurd Hgh.below_size.1 (by rw [e]; exact Nat.not_lt_of_le hgj)⟩)
  replace HBW := Lib.hid (HBW.out.trans (hHeld.mono HBW.out.size))
  replace hA := hA.below hHeld hA.lt
  have hcv := conv_in HSL.out (in_blk hA HSL.out (by decide))
  clear HCA HWD Hgh Hgj hbgh hbgj hgh hgj hgx hgy hHeld hA
  go_upto_region 7 with (fail)
  clear hcv
  have hG : RHalf (wb.alloc (.cells #[.string ⟨S.toArray⟩, .int .i64 0] 37)) wb.heap.size 0 S := ⟨Blk.new_of _ _ _ _ rfl⟩
  have hb5 : Below wb.heap.size wb (wb.alloc (.cells #[.string ⟨S.toArray⟩, .int .i64 0] 37)) := (Below.refl _ _).alloc (Nat.le_refl _) _
  have HL0 := Lib.hid (show SealsAt w _ gh gx gk gr gj gy gl2 gq wb.heap.size (keyL 4 (keyH S)) (ivH S) S 0 from ⟨HT1.out.below hb5, hG, HBW.out.size, HBW.out.trans (hb5.mono HBW.out.size)⟩)
  clear hG hb5 HT1 HBW
  generalize wb.alloc (.cells #[.string ⟨S.toArray⟩, .int .i64 0] 37) = wc at *
  generalize wb.heap.size = gm at *
  have HRS := Lib.hid (fun (W : World) (u : Nat) (h : RHalf W gm u S) (k p : Int) (n : Nat) (b : List UInt8) (hn : b.length = n) (hm : n ≤ 200) (hu : u < 1000) => rhseal_all h HSL.out k p n b hn hm hu)
  generalize keyL 4 (keyH S) = L at *
  generalize ivH S = V at *
  go_wp2
  go_loopw [13] (fun i wr => ∃ k u : Nat, k ≤ np ∧ u ≤ k ∧ i = .int .i64 (k : Int) ∧ SealsAt w wr gh gx gk gr gj gy gl2 gq gm L V S u) (fun i _ => np - (intOf i).toNat)
  case atStart => exact ⟨0, 0, Nat.zero_le _, Nat.le_refl _, rfl, HL0.out⟩
  case round =>
    obtain ⟨k, u, hkn, hu, rfl, hp⟩ := hrel
    have HP := Lib.hid hp
    clear hp HL0
    by_cases hlt : k < np
    · have hd : decide (k < np) = true := by simpa using hlt
      by_cases h8 : k < 8
      · obtain ⟨gp, op, hAe, hgp, hrow⟩ := HPI.out.2.2 (by rw [← HNP.out]; omega)
        obtain ⟨Ak, ck, g0, g1, g2, hIk⟩ := hrow k (by rw [← HNP.out]; exact hlt)
        generalize ls.getD k (0, [], 0) = lv at *
        obtain ⟨kv, B0, pv⟩ := lv
        obtain ⟨lk, hlk⟩ : ∃ lk, lk = B0.length := ⟨_, rfl⟩
        have g1' : w.cell? ⟨gp, op + k * 3 + 1, none⟩ = some (.slice Ak lk ck) := by rw [hlk]; exact g1
        have hc0 : wr.cell? ⟨gp, op + k * 3, none⟩ = some (.int .i64 kv) := (HP.out.2.2.2.cell (p := ⟨gp, op + k * 3, none⟩) hgp).trans g0
        have hc1 : wr.cell? ⟨gp, op + k * 3 + 1, none⟩ = some (.slice Ak lk ck) := (HP.out.2.2.2.cell (p := ⟨gp, op + k * 3 + 1, none⟩) hgp).trans g1'
        have hc2 : wr.cell? ⟨gp, op + k * 3 + 2, none⟩ = some (.int .i64 pv) := (HP.out.2.2.2.cell (p := ⟨gp, op + k * 3 + 2, none⟩) hgp).trans g2
        have hlc := hIk.1
        simp only at hlc hIk
        rw [← hlk] at hlc
        obtain ⟨nb, ms, hnb0, hnbc, hnb1, hnb2⟩ := ix_min2 lk ck hlc
        have hB := hIk.take 200
        have hBL : (B0.take 200).length = nb := by rw [List.length_take, ← hlk, hnb2]; exact Nat.min_comm _ _
        obtain ⟨k1, hk1, hk2, hk3, hk4, hk0, hkI, hk8⟩ := ix_upL k np h8 hlt
        have HU := Lib.hid (show u < 1000 from Nat.lt_trans (Nat.lt_of_le_of_lt hu h8) (by decide))
        have HB := Lib.hid hB
        have HNB := Lib.hid hBL
        have HB3 := Lib.hid hnb1
        have HK1 := Lib.hid (And.intro hk4 (show u ≤ k1 ∧ u + 1 ≤ k1 by rw [hk1]; exact ⟨Nat.le_succ_of_le hu, Nat.succ_le_succ hu⟩))
        have HK2 := Lib.hid (And.intro hk2 hk3)
        clear hB hBL hnb2 hlc hIk hlk g0 g1 g1' g2 hgp hrow hkn hu hlt h8 hk1 hk2 hk3 hk4 hnb1
        generalize B0.take 200 = B at *
        subst hAe
        go_upto_region 11 with ((with_reducible refine (?_ : wpList _ _ _ (Oper.mk none _ _ _ _ _ :: _) _ _)); go_loud (refine wpList_store_blk rfl 39 (.tmp 14) (.tmp 70) rfl rfl wr.heap.size [.int .i64 kv, .slice Ak lk ck, .int .i64 pv] rfl rfl _ _ (Blk.new_of wr 39 #[.int .i64 0, .slice none 0 0, .int .i64 0] _ rfl) infLn rfl (by simp [Value.oneCell']) ?_); intro w5 hL5 hg5)
        have h4a : Below wr.heap.size wr (wr.alloc (.cells #[.int .i64 0, .slice none 0 0, .int .i64 0] 39)) := (Below.refl _ _).alloc (Nat.le_refl _) _
        have HB5 := Lib.hid (below_new h4a hg5 (Nat.le_refl _) h4a.size)
        have HP5 := Lib.hid (HP.out.below HB5.out)
        have HGL := Lib.hid (show gh < wr.heap.size ∧ gj < wr.heap.size ∧ gm < wr.heap.size ∧ w.heap.size ≤ wr.heap.size from ⟨HP.out.1.1.below_size.1, HP.out.1.2.1.below_size.1, HP.out.2.1.half.lt, HP.out.2.2.2.size⟩)
        clear HB5 HP h4a hg5 hc0 hc1 hc2 hd hk0 hkI hk8
        generalize wr.heap.size = gl at *
        have hbe : Below w5.heap.size w5 (w5.alloc (.cells #[] 5)) := (Below.refl _ _).alloc (Nat.le_refl _) _
        have f1 : (w5.alloc (.cells #[] 5)).cell? ⟨gl, 1, none⟩ = some (.slice Ak lk ck) := (hL5.below hbe hL5.lt).cell 1
        have hE : Buf (w5.alloc (.cells #[] 5)) w5.heap.size (some ⟨w5.heap.size, 0, none⟩) 0 0 [] := buf_none w5
        have hI := in_up HB.out (HP5.out.2.2.2.trans (hbe.mono HP5.out.2.2.2.size))
        go_upto_region 12 with ((with_reducible refine (?_ : wpList _ _ _ (Oper.mk (some 79) _ _ _ _ _ :: _) _ _)); go_loud (refine wpList_append_far rfl (.tmp 71) (.tmp 78) 24 rfl w5.heap.size _ 0 0 [] B _ rfl hE rfl (src_at (hI.src (Nat.le_refl _)) HNB.out) (by rw [HNB.out]; have := HB3.out; omega) hbe.size nb (by rw [HNB.out, Nat.zero_add]) ?_); intro A6 c6 w6 hB6 hg6 _)
        have hb56 := below_own hbe hE hg6 (Nat.le_refl _) hbe.size
        have hgl5 : gl ≤ w5.heap.size := Nat.le_of_lt hL5.lt
        have HP6 := Lib.hid (HP5.out.below hb56)
        have hL6 := hL5.below hb56 hL5.lt
        replace hB6 := hB6.base hgl5
        have HGN := Lib.hid (show gl ≠ gh ∧ gl ≠ gj ∧ gl ≠ gm by have := HGL.out; omega)
        clear hb56 hgl5 hg6 hE hI hbe f1 HP5 hL5 ms hnb0 hnbc HB
        refine wp_region_noPanic ?_
        refine wp_region_held_drew (S := fun W => Blk W gl 39 [.int .i64 kv, .slice Ak lk ck, .int .i64 pv] ∧ Below w.heap.size w W) (by kernel_rfl) (by exact ⟨hL6.drewN 1, below_drewN HP6.out.2.2.2 1⟩) (fun hHeld => ?_)
        refine wpAnyH_take (i := 0) (oi := ⟨_, _, _, _, _, _⟩) (v := ?_) rfl (by kernel_rfl) (by kernel_rfl) (by kernel_rfl) (fun _ _ _ h => h) (Or.inl ⟨by rfl, ?_⟩) hHeld ?_
        rotate_left 1
        · (intro W hSw; (try dsimp only at hSw); go_simp; try with_reducible rfl)
        try simp only [Act.put, List.setIfInBounds_toArray, List.set_cons_zero, List.set_cons_succ]
        refine wpAnyH_take (i := 1) (oi := ⟨_, _, _, _, _, _⟩) (v := ?_) rfl (by kernel_rfl) (by kernel_rfl) (by kernel_rfl) (fun _ _ _ h => h) (Or.inl ⟨by rfl, ?_⟩) hHeld ?_
        rotate_left 1
        · (intro W hSw; (try dsimp only at hSw); go_simp; try with_reducible rfl)
        try simp only [Act.put, List.setIfInBounds_toArray, List.set_cons_zero, List.set_cons_succ]
        refine wpAnyH_take (i := 2) (oi := ⟨_, _, _, _, _, _⟩) (v := ?_) rfl (by kernel_rfl) (by kernel_rfl) (by kernel_rfl) (fun _ _ _ h => h) (Or.inl ⟨by rfl, ?_⟩) hHeld ?_
        rotate_left 1
        · (intro W hSw; (try dsimp only at hSw); have hcc := hSw.1.cell 0; go_simp; try with_reducible rfl)
        try simp only [Act.put, List.setIfInBounds_toArray, List.set_cons_zero, List.set_cons_succ]
        refine wpAnyH_take (i := 3) (oi := ⟨_, _, _, _, _, _⟩) (v := ?_) rfl (by kernel_rfl) (by kernel_rfl) (by kernel_rfl) (fun _ _ _ h => h) (Or.inl ⟨by rfl, ?_⟩) hHeld ?_
        rotate_left 1
        · (intro W hSw; (try dsimp only at hSw); go_simp; try with_reducible rfl)
        try simp only [Act.put, List.setIfInBounds_toArray, List.set_cons_zero, List.set_cons_succ]
        refine' wpAnyH_take (i := 4) (oi := ⟨_, _, _, _, _, _⟩) rfl (by kernel_rfl) (by kernel_rfl) (by kernel_rfl) (fun _ _ _ h => h) (yieldsIf_load_mid (by rfl) 39 _ rfl gl 0 rfl ([.int .i64 kv, .slice Ak lk ck, .int .i64 pv]) _ (fun W hSw => rangeAt_of_blk hSw.1) Tryd.underlying39 rfl (infLn)) hHeld ?_
        try simp only [Act.put, List.setIfInBounds_toArray, List.set_cons_zero, List.set_cons_succ]
        have hHP : SealsAt w w6.drew gh gx gk gr gj gy gl2 gq gm L V S u := HP6.out.below (below_drewN (Below.refl _ _) 1)
        have hB : Buf w6.drew gl A6 nb c6 B := hB6.below (below_drewN (Below.refl _ _) 1)
        replace hHeld : Blk w6.drew gl 39 [.int .i64 kv, .slice Ak lk ck, .int .i64 pv] ∧ Below w.heap.size w w6.drew := hHeld
        clear hL6 hB6
        generalize w6.drew = wd at *
        refine wpAnyH_ready (rs := [5]) (by kernel_rfl) (by simp) ?_
        refine AllReadyH.cons (o := ⟨_, _, _, _, _, _⟩) rfl (fun K hK => ?_) AllReadyH.nil
        go_simp
        go_at_call 15
        refine (pad_e kv pv Ak lk ck _).mono ?_
        rintro e we ⟨rfl, hbp⟩
        try go_wp2_with fail
        refine hK.out _ _ (⟨hHeld.1.below hbp hHeld.1.lt, hHeld.2.trans (hbp.mono hHeld.2.size)⟩) (fun hHeld => ?_)
        clear hK K
        try simp only [Act.put, List.setIfInBounds_toArray, List.set_cons_zero, List.set_cons_succ]
        replace hHP := hHP.below hbp
        replace hB := hB.below hbp
        clear hbp
        have hgw := hHeld.1.lt
        have hse := hseal_all hHP.1.1 kv (padE' pv) nb c6 A6 B HNB.out (hB.toIn (Nat.le_refl _)) HB3.out HU.out
        refine wpAnyH_ready (rs := [6]) (by kernel_rfl) (by simp) ?_
        refine AllReadyH.cons (o := ⟨_, _, _, _, _, _⟩) rfl (fun K hK => ?_) AllReadyH.nil
        go_simp
        go_at_call 10
        refine (hse).mono ?_
        rintro e wf ⟨A7, n7, c7, rfl, hX, hH7, hg7⟩
        try go_wp2_with fail
        refine hK.out _ _ (⟨hHeld.1.grown hg7 (by simpa using HGN.out.1), below_new hHeld.2 hg7 hHP.1.2.2.1 hHeld.2.size⟩) (fun hHeld => ?_)
        clear hK K
        try simp only [Act.put, List.setIfInBounds_toArray, List.set_cons_zero, List.set_cons_succ]
        have hJ7 := hHP.1.2.1.grown hHP.1.1.half hg7 (Ne.symm hHP.1.2.2.2.2)
        have hR7 : RHalf wf gm u S := ⟨hHP.2.1.half.grown hg7 (by simpa using blk_ne hHP.2.1.half hHP.1.1.half (by decide))⟩
        replace hB := hB.kept hg7 (fun g e h => by have h1 := (hB.lt e).1; have h2 := HGL.out; injection h with h; omega)
        replace hX := hX.base (show gl ≤ _ from Nat.le_of_lt hgw)
        have HC := Lib.hid (And.intro hHP.1.2.2 hHP.2.2.1)
        clear hg7 hHP hse hgw
        refine wpAnyH_take (i := 7) (oi := ⟨_, _, _, _, _, _⟩) (v := ?_) rfl (by kernel_rfl) (by kernel_rfl) (by kernel_rfl) (fun _ _ _ h => h) (Or.inl ⟨by rfl, ?_⟩) hHeld ?_
        rotate_left 1
        · (intro W hSw; (try dsimp only at hSw); go_simp; try with_reducible rfl)
        try simp only [Act.put, List.setIfInBounds_toArray, List.set_cons_zero, List.set_cons_succ]
        refine wpAnyH_take (i := 8) (oi := ⟨_, _, _, _, _, _⟩) (v := ?_) rfl (by kernel_rfl) (by kernel_rfl) (by kernel_rfl) (fun _ _ _ h => h) (Or.inl ⟨by rfl, ?_⟩) hHeld ?_
        rotate_left 1
        · (intro W hSw; (try dsimp only at hSw); go_simp; try with_reducible rfl)
        try simp only [Act.put, List.setIfInBounds_toArray, List.set_cons_zero, List.set_cons_succ]
        refine wpAnyH_take (i := 9) (oi := ⟨_, _, _, _, _, _⟩) (v := ?_) rfl (by kernel_rfl) (by kernel_rfl) (by kernel_rfl) (fun _ _ _ h => h) (Or.inl ⟨by rfl, ?_⟩) hHeld ?_
        rotate_left 1
        · (intro W hSw; (try dsimp only at hSw); go_simp; try with_reducible rfl)
        try simp only [Act.put, List.setIfInBounds_toArray, List.set_cons_zero, List.set_cons_succ]
        refine wpAnyH_take (i := 10) (oi := ⟨_, _, _, _, _, _⟩) (v := ?_) rfl (by kernel_rfl) (by kernel_rfl) (by kernel_rfl) (fun _ _ _ h => h) (Or.inl ⟨by rfl, ?_⟩) hHeld ?_
        rotate_left 1
        · (intro W hSw; (try dsimp only at hSw); go_simp; try with_reducible rfl)
        try simp only [Act.put, List.setIfInBounds_toArray, List.set_cons_zero, List.set_cons_succ]
        refine wpAnyH_take (i := 11) (oi := ⟨_, _, _, _, _, _⟩) (v := ?_) rfl (by kernel_rfl) (by kernel_rfl) (by kernel_rfl) (fun _ _ _ h => h) (Or.inl ⟨by rfl, ?_⟩) hHeld ?_
        rotate_left 1
        · (intro W hSw; (try dsimp only at hSw); go_simp; try with_reducible rfl)
        try simp only [Act.put, List.setIfInBounds_toArray, List.set_cons_zero, List.set_cons_succ]
        refine wpAnyH_done (by kernel_rfl) ?_ _
        refine NoPanic.normal ?_
        replace hHeld : Blk wf gl 39 [.int .i64 kv, .slice Ak lk ck, .int .i64 pv] ∧ Below w.heap.size w wf := hHeld
        generalize hso : sealOut L V u kv B (padE' pv) = so at *
        obtain ⟨XB, er⟩ := so
        have HSO := Lib.hid hso
        clear hso
        simp only at hX
        go_upto_region 13 with (fail)
        refine wp_region_noPanic ?_
        refine wp_region_held_drew (S := fun W => Blk W gl 39 [.int .i64 kv, .slice Ak lk ck, .int .i64 pv] ∧ Buf W gl A6 nb c6 B ∧ Below w.heap.size w W) (by kernel_rfl) (by exact ⟨hHeld.1.drewN 1, hB.below (below_drewN (Below.refl _ _) 1), below_drewN hHeld.2 1⟩) (fun hHeld2 => ?_)
        clear hHeld
        have hHeld := hHeld2
        clear hHeld2
        refine wpAnyH_take (i := 0) (oi := ⟨_, _, _, _, _, _⟩) (v := ?_) rfl (by kernel_rfl) (by kernel_rfl) (by kernel_rfl) (fun _ _ _ h => h) (Or.inl ⟨by rfl, ?_⟩) hHeld ?_
        rotate_left 1
        · (intro W hSw; (try dsimp only at hSw); go_simp; try with_reducible rfl)
        try simp only [Act.put, List.setIfInBounds_toArray, List.set_cons_zero, List.set_cons_succ]
        refine wpAnyH_take (i := 1) (oi := ⟨_, _, _, _, _, _⟩) (v := ?_) rfl (by kernel_rfl) (by kernel_rfl) (by kernel_rfl) (fun _ _ _ h => h) (Or.inl ⟨by rfl, ?_⟩) hHeld ?_
        rotate_left 1
        · (intro W hSw; (try dsimp only at hSw); go_simp; try with_reducible rfl)
        try simp only [Act.put, List.setIfInBounds_toArray, List.set_cons_zero, List.set_cons_succ]
        refine wpAnyH_take (i := 2) (oi := ⟨_, _, _, _, _, _⟩) (v := ?_) rfl (by kernel_rfl) (by kernel_rfl) (by kernel_rfl) (fun _ _ _ h => h) (Or.inl ⟨by rfl, ?_⟩) hHeld ?_
        rotate_left 1
        · (intro W hSw; (try dsimp only at hSw); have hcc := hSw.1.cell 0; go_simp; try with_reducible rfl)
        try simp only [Act.put, List.setIfInBounds_toArray, List.set_cons_zero, List.set_cons_succ]
        refine wpAnyH_take (i := 3) (oi := ⟨_, _, _, _, _, _⟩) (v := ?_) rfl (by kernel_rfl) (by kernel_rfl) (by kernel_rfl) (fun _ _ _ h => h) (Or.inl ⟨by rfl, ?_⟩) hHeld ?_
        rotate_left 1
        · (intro W hSw; (try dsimp only at hSw); go_simp; try with_reducible rfl)
        try simp only [Act.put, List.setIfInBounds_toArray, List.set_cons_zero, List.set_cons_succ]
        refine wpAnyH_take (i := 4) (oi := ⟨_, _, _, _, _, _⟩) (v := ?_) rfl (by kernel_rfl) (by kernel_rfl) (by kernel_rfl) (fun _ _ _ h => h) (Or.inl ⟨by rfl, ?_⟩) hHeld ?_
        rotate_left 1
        · (intro W hSw; (try dsimp only at hSw); have hcv := conv_in HNB.out (hSw.2.1.toIn (Nat.le_refl _)); go_simp; try with_reducible rfl)
        try simp only [Act.put, List.setIfInBounds_toArray, List.set_cons_zero, List.set_cons_succ]
        refine' wpAnyH_take (i := 5) (oi := ⟨_, _, _, _, _, _⟩) rfl (by kernel_rfl) (by kernel_rfl) (by kernel_rfl) (fun _ _ _ h => h) (yieldsIf_load_mid (by rfl) 39 _ rfl gl 0 rfl ([.int .i64 kv, .slice Ak lk ck, .int .i64 pv]) _ (fun W hSw => rangeAt_of_blk hSw.1) Tryd.underlying39 rfl (infLn)) hHeld ?_
        try simp only [Act.put, List.setIfInBounds_toArray, List.set_cons_zero, List.set_cons_succ]
        have hbd : Below wf.heap.size wf wf.drew := below_drewN (Below.refl _ _) 1
        replace hX := hX.below hbd
        replace hH7 := hH7.below hbd
        replace hJ7 := hJ7.below hbd
        replace hR7 := hR7.below hbd
        replace hHeld : Blk wf.drew gl 39 [.int .i64 kv, .slice Ak lk ck, .int .i64 pv] ∧ Buf wf.drew gl A6 nb c6 B ∧ Below w.heap.size w wf.drew := hHeld
        clear hbd hB
        generalize wf.drew = wd at *
        refine wpAnyH_ready (rs := [6]) (by kernel_rfl) (by simp) ?_
        refine AllReadyH.cons (o := ⟨_, _, _, _, _, _⟩) rfl (fun K hK => ?_) AllReadyH.nil
        go_simp
        go_at_call 15
        refine (pad_e kv pv Ak lk ck _).mono ?_
        rintro e we ⟨rfl, hbp⟩
        try go_wp2_with fail
        refine hK.out _ _ (⟨hHeld.1.below hbp hHeld.1.lt, hHeld.2.1.below hbp, hHeld.2.2.trans (hbp.mono hHeld.2.2.size)⟩) (fun hHeld => ?_)
        clear hK K
        try simp only [Act.put, List.setIfInBounds_toArray, List.set_cons_zero, List.set_cons_succ]
        replace hX := hX.below hbp
        replace hH7 := hH7.below hbp
        replace hJ7 := hJ7.below hbp
        replace hR7 := hR7.below hbp
        clear hbp
        have hse := HRS.out _ u hR7 kv (padE' pv) nb B HNB.out HB3.out HU.out
        rw [HSO.out] at hse
        refine wpAnyH_ready (rs := [7]) (by kernel_rfl) (by simp) ?_
        refine AllReadyH.cons (o := ⟨_, _, _, _, _, _⟩) rfl (fun K hK => ?_) AllReadyH.nil
        go_simp
        go_at_call 16
        refine (hse).mono ?_
        rintro e wg ⟨rfl, hR8, hg8⟩
        try go_wp2_with fail
        refine hK.out _ _ (⟨hHeld.1.grown hg8 (by simpa using HGN.out.2.2), hHeld.2.1.kept hg8 (fun g e h => by have h1 := (hHeld.2.1.lt e).1; have h2 := HGL.out; injection h with h; omega), below_new hHeld.2.2 hg8 HC.out.2 hHeld.2.2.size⟩) (fun hHeld => ?_)
        clear hK K
        try simp only [Act.put, List.setIfInBounds_toArray, List.set_cons_zero, List.set_cons_succ]
        replace hX := hX.kept hg8 (fun g e h => by have h1 := (hX.lt e).1; have h2 := HGL.out; injection h with h; omega)
        replace hH7 := hH7.grownR hR7.half hg8
        replace hJ7 := hJ7.grownR hR7.half hg8
        clear hg8 hR7 hse
        refine wpAnyH_take (i := 8) (oi := ⟨_, _, _, _, _, _⟩) (v := ?_) rfl (by kernel_rfl) (by kernel_rfl) (by kernel_rfl) (fun _ _ _ h => h) (Or.inl ⟨by rfl, ?_⟩) hHeld ?_
        rotate_left 1
        · (intro W hSw; (try dsimp only at hSw); go_simp; try with_reducible rfl)
        try simp only [Act.put, List.setIfInBounds_toArray, List.set_cons_zero, List.set_cons_succ]
        refine wpAnyH_take (i := 9) (oi := ⟨_, _, _, _, _, _⟩) (v := ?_) rfl (by kernel_rfl) (by kernel_rfl) (by kernel_rfl) (fun _ _ _ h => h) (Or.inl ⟨by rfl, ?_⟩) hHeld ?_
        rotate_left 1
        · (intro W hSw; (try dsimp only at hSw); go_simp; try with_reducible rfl)
        try simp only [Act.put, List.setIfInBounds_toArray, List.set_cons_zero, List.set_cons_succ]
        refine wpAnyH_take (i := 10) (oi := ⟨_, _, _, _, _, _⟩) (v := ?_) rfl (by kernel_rfl) (by kernel_rfl) (by kernel_rfl) (fun _ _ _ h => h) (Or.inl ⟨by rfl, ?_⟩) hHeld ?_
        rotate_left 1
        · (intro W hSw; (try dsimp only at hSw); go_simp; try with_reducible rfl)
        try simp only [Act.put, List.setIfInBounds_toArray, List.set_cons_zero, List.set_cons_succ]
        refine wpAnyH_take (i := 11) (oi := ⟨_, _, _, _, _, _⟩) (v := ?_) rfl (by kernel_rfl) (by kernel_rfl) (by kernel_rfl) (fun _ _ _ h => h) (Or.inl ⟨by rfl, ?_⟩) hHeld ?_
        rotate_left 1
        · (intro W hSw; (try dsimp only at hSw); go_simp; try with_reducible rfl)
        try simp only [Act.put, List.setIfInBounds_toArray, List.set_cons_zero, List.set_cons_succ]
        refine wpAnyH_take (i := 12) (oi := ⟨_, _, _, _, _, _⟩) (v := ?_) rfl (by kernel_rfl) (by kernel_rfl) (by kernel_rfl) (fun _ _ _ h => h) (Or.inl ⟨by rfl, ?_⟩) hHeld ?_
        rotate_left 1
        · (intro W hSw; (try dsimp only at hSw); go_simp; try with_reducible rfl)
        try simp only [Act.put, List.setIfInBounds_toArray, List.set_cons_zero, List.set_cons_succ]
        refine wpAnyH_done (by kernel_rfl) ?_ _
        refine NoPanic.normal ?_
        replace hHeld : Blk wg gl 39 [.int .i64 kv, .slice Ak lk ck, .int .i64 pv] ∧ Buf wg gl A6 nb c6 B ∧ Below w.heap.size w wg := hHeld
        obtain ⟨U1, hU1⟩ : ∃ U1, U1 = usedOut (XB, er) u := ⟨_, rfl⟩
        rw [← hU1] at hH7 hR8
        go_upto_region 14 with (fail)
        have hHw := hHeld
        clear hHeld
        refine wp_region_noPanic ?_
        refine wp_region_held_drew (S := fun W => Below wg.heap.size wg W) (by kernel_rfl) (by exact below_drewN (Below.refl _ _) 1) (fun hHeld => ?_)
        refine wpAnyH_take (i := 0) (oi := ⟨_, _, _, _, _, _⟩) (v := ?_) rfl (by kernel_rfl) (by kernel_rfl) (by kernel_rfl) (fun _ _ _ h => h) (Or.inl ⟨by rfl, ?_⟩) hHeld ?_
        rotate_left 1
        · (intro W hSw; (try dsimp only at hSw); go_simp; try with_reducible rfl)
        try simp only [Act.put, List.setIfInBounds_toArray, List.set_cons_zero, List.set_cons_succ]
        refine wpAnyH_take (i := 1) (oi := ⟨_, _, _, _, _, _⟩) (v := ?_) rfl (by kernel_rfl) (by kernel_rfl) (by kernel_rfl) (fun _ _ _ h => h) (Or.inl ⟨by rfl, ?_⟩) hHeld ?_
        rotate_left 1
        · (intro W hSw; (try dsimp only at hSw); have hcv := conv_in hX.1 ((hX.below hSw).toIn (Nat.le_refl _)); go_simp; try with_reducible rfl)
        try simp only [Act.put, List.setIfInBounds_toArray, List.set_cons_zero, List.set_cons_succ]
        refine wpAnyH_take (i := 2) (oi := ⟨_, _, _, _, _, _⟩) (v := ?_) rfl (by kernel_rfl) (by kernel_rfl) (by kernel_rfl) (fun _ _ _ h => h) (Or.inl ⟨by rfl, ?_⟩) hHeld ?_
        rotate_left 1
        · (intro W hSw; (try dsimp only at hSw); go_simp; try with_reducible rfl)
        try simp only [Act.put, List.setIfInBounds_toArray, List.set_cons_zero, List.set_cons_succ]
        refine wpAnyH_take (i := 3) (oi := ⟨_, _, _, _, _, _⟩) (v := ?_) rfl (by kernel_rfl) (by kernel_rfl) (by kernel_rfl) (fun _ _ _ h => h) (Or.inl ⟨by rfl, ?_⟩) hHeld ?_
        rotate_left 1
        · (intro W hSw; (try dsimp only at hSw); go_simp; try with_reducible rfl)
        try simp only [Act.put, List.setIfInBounds_toArray, List.set_cons_zero, List.set_cons_succ]
        refine wpAnyH_take (i := 4) (oi := ⟨_, _, _, _, _, _⟩) (v := ?_) rfl (by kernel_rfl) (by kernel_rfl) (by kernel_rfl) (fun _ _ _ h => h) (Or.inl ⟨by rfl, ?_⟩) hHeld ?_
        rotate_left 1
        · (intro W hSw; (try dsimp only at hSw); go_simp; try with_reducible rfl)
        try simp only [Act.put, List.setIfInBounds_toArray, List.set_cons_zero, List.set_cons_succ]
        refine wpAnyH_take (i := 5) (oi := ⟨_, _, _, _, _, _⟩) (v := ?_) rfl (by kernel_rfl) (by kernel_rfl) (by kernel_rfl) (fun _ _ _ h => h) (Or.inl ⟨by rfl, ?_⟩) hHeld ?_
        rotate_left 1
        · (intro W hSw; (try dsimp only at hSw); go_simp; try with_reducible rfl)
        try simp only [Act.put, List.setIfInBounds_toArray, List.set_cons_zero, List.set_cons_succ]
        refine wpAnyH_take (i := 6) (oi := ⟨_, _, _, _, _, _⟩) (v := ?_) rfl (by kernel_rfl) (by kernel_rfl) (by kernel_rfl) (fun _ _ _ h => h) (Or.inl ⟨by rfl, ?_⟩) hHeld ?_
        rotate_left 1
        · (intro W hSw; (try dsimp only at hSw); go_simp; try with_reducible rfl)
        try simp only [Act.put, List.setIfInBounds_toArray, List.set_cons_zero, List.set_cons_succ]
        refine wpAnyH_take (i := 7) (oi := ⟨_, _, _, _, _, _⟩) (v := ?_) rfl (by kernel_rfl) (by kernel_rfl) (by kernel_rfl) (fun _ _ _ h => h) (Or.inl ⟨by rfl, ?_⟩) hHeld ?_
        rotate_left 1
        · (intro W hSw; (try dsimp only at hSw); go_simp; try with_reducible rfl)
        try simp only [Act.put, List.setIfInBounds_toArray, List.set_cons_zero, List.set_cons_succ]
        refine wpAnyH_take (i := 8) (oi := ⟨_, _, _, _, _, _⟩) (v := ?_) rfl (by kernel_rfl) (by kernel_rfl) (by kernel_rfl) (fun _ _ _ h => h) (Or.inl ⟨by rfl, ?_⟩) hHeld ?_
        rotate_left 1
        · (intro W hSw; (try dsimp only at hSw); go_simp; try with_reducible rfl)
        try simp only [Act.put, List.setIfInBounds_toArray, List.set_cons_zero, List.set_cons_succ]
        refine wpAnyH_take (i := 9) (oi := ⟨_, _, _, _, _, _⟩) (v := ?_) rfl (by kernel_rfl) (by kernel_rfl) (by kernel_rfl) (fun _ _ _ h => h) (Or.inl ⟨by rfl, ?_⟩) hHeld ?_
        rotate_left 1
        · (intro W hSw; (try dsimp only at hSw); go_simp; try with_reducible rfl)
        try simp only [Act.put, List.setIfInBounds_toArray, List.set_cons_zero, List.set_cons_succ]
        refine wpAnyH_take (i := 10) (oi := ⟨_, _, _, _, _, _⟩) (v := ?_) rfl (by kernel_rfl) (by kernel_rfl) (by kernel_rfl) (fun _ _ _ h => h) (Or.inl ⟨by rfl, ?_⟩) hHeld ?_
        rotate_left 1
        · (intro W hSw; (try dsimp only at hSw); go_simp; try with_reducible rfl)
        try simp only [Act.put, List.setIfInBounds_toArray, List.set_cons_zero, List.set_cons_succ]
        refine wpAnyH_take (i := 12) (oi := ⟨_, _, _, _, _, _⟩) (v := ?_) rfl (by kernel_rfl) (by kernel_rfl) (by kernel_rfl) (fun _ _ _ h => h) (Or.inl ⟨by rfl, ?_⟩) hHeld ?_
        rotate_left 1
        · (intro W hSw; (try dsimp only at hSw); go_simp; try with_reducible rfl)
        try simp only [Act.put, List.setIfInBounds_toArray, List.set_cons_zero, List.set_cons_succ]
        refine wpAnyH_take (i := 13) (oi := ⟨_, _, _, _, _, _⟩) (v := ?_) rfl (by kernel_rfl) (by kernel_rfl) (by kernel_rfl) (fun _ _ _ h => h) (Or.inl ⟨by rfl, ?_⟩) hHeld ?_
        rotate_left 1
        · (intro W hSw; (try dsimp only at hSw); go_simp; try with_reducible rfl)
        try simp only [Act.put, List.setIfInBounds_toArray, List.set_cons_zero, List.set_cons_succ]
        refine wpAnyH_take (i := 14) (oi := ⟨_, _, _, _, _, _⟩) (v := ?_) rfl (by kernel_rfl) (by kernel_rfl) (by kernel_rfl) (fun _ _ _ h => h) (Or.inl ⟨by rfl, ?_⟩) hHeld ?_
        rotate_left 1
        · (intro W hSw; (try dsimp only at hSw); go_simp; try with_reducible rfl)
        try simp only [Act.put, List.setIfInBounds_toArray, List.set_cons_zero, List.set_cons_succ]
        refine wpAnyH_take (i := 15) (oi := ⟨_, _, _, _, _, _⟩) (v := ?_) rfl (by kernel_rfl) (by kernel_rfl) (by kernel_rfl) (fun _ _ _ h => h) (Or.inl ⟨by rfl, ?_⟩) hHeld ?_
        rotate_left 1
        · (intro W hSw; (try dsimp only at hSw); have hcc := (hR8.below hSw).c1; go_simp; try with_reducible rfl)
        try simp only [Act.put, List.setIfInBounds_toArray, List.set_cons_zero, List.set_cons_succ]
        refine wpAnyH_ready (rs := [11]) (by kernel_rfl) (by simp) ?_
        refine AllReadyH.cons (o := ⟨_, _, _, _, _, _⟩) rfl (fun K hK => ?_) AllReadyH.nil
        go_simp
        go_at_call 13
        refine (used_e (hH7.below hHeld)).mono ?_
        rintro e w' ⟨rfl, hww⟩
        have hw2 := hww.symm
        subst hw2
        try go_wp2_with fail
        refine hK.out _ _ hHeld (fun hHeld => ?_)
        clear hK K
        try simp only [Act.put, List.setIfInBounds_toArray, List.set_cons_zero, List.set_cons_succ]
        refine wpAnyH_take (i := 16) (oi := ⟨_, _, _, _, _, _⟩) (v := ?_) rfl (by kernel_rfl) (by kernel_rfl) (by kernel_rfl) (fun _ _ _ h => h) (Or.inl ⟨by rfl, ?_⟩) hHeld ?_
        rotate_left 1
        · (intro W hSw; (try dsimp only at hSw); go_simp; try with_reducible rfl)
        try simp only [Act.put, List.setIfInBounds_toArray, List.set_cons_zero, List.set_cons_succ]
        refine wpAnyH_take (i := 17) (oi := ⟨_, _, _, _, _, _⟩) (v := ?_) rfl (by kernel_rfl) (by kernel_rfl) (by kernel_rfl) (fun _ _ _ h => h) (Or.inl ⟨by rfl, ?_⟩) hHeld ?_
        rotate_left 1
        · (intro W hSw; (try dsimp only at hSw); go_simp; try with_reducible rfl)
        try simp only [Act.put, List.setIfInBounds_toArray, List.set_cons_zero, List.set_cons_succ]
        refine wpAnyH_done (by kernel_rfl) ?_ _
        refine NoPanic.normal ?_
        replace hHeld : Below wg.heap.size wg wg.drew := hHeld
        have hL8 := hHw.1.below hHeld hHw.1.lt
        have hB8 := hHw.2.1.below hHeld
        have hb8 := hHw.2.2.trans (hHeld.mono hHw.2.2.size)
        replace hX := hX.below hHeld
        replace hH7 := hH7.below hHeld
        replace hJ7 := hJ7.below hHeld
        replace hR8 := hR8.below hHeld
        clear hHw hHeld
        generalize wg.drew = wj at *
        by_cases her : er = 0
        · have hu1 : U1 = u + 1 := by rw [hU1]; exact if_pos her
          obtain ⟨k', p', hkv, hpv, hkb, hle, heq⟩ := sealOut_ok (show (sealOut L V u kv B (padE' pv)).2 = 0 by rw [HSO.out]; exact her)
          have hxb : XB = recE L 11 V u k' B p' := by
            have := HSO.out
            rw [heq] at this
            exact (congrArg Prod.fst this).symm
          subst hkv her
          have hn7 : n7 = 5 + (nb + 1 + p' + 16) := by rw [← hX.1, hxb, recE_len, HNB.out]
          have hop := opened_e hJ7 k' nb p' c7 A7 B hkb HNB.out (by rw [← HNB.out]; exact hle) HU.out (by rw [← hxb]; exact hX.toIn (Nat.le_refl _))
          rw [← hn7, ← hu1] at hop
          have HF := Lib.hid (And.intro hu1 hb8)
          clear hxb hn7 hX heq hle hpv hkb hU1 hu1 hb8
          go_upto_region 18 with (go_at_call 11; refine hop.mono ?_; rintro e wk ⟨A9, c9, rfl, hi9, hJ9, hg9⟩)
          have hL9 := hL8.grown hg9 (by simpa using HGN.out.2.1)
          have hB9 := hB8.kept hg9 (fun g e h => by have h1 := (hB8.lt e).1; have h2 := HGL.out; injection h with h; omega)
          have hR9 : RHalf wk gm U1 S := ⟨hR8.half.grown hg9 (by simpa using blk_ne hR8.half hJ7.half (by decide))⟩
          have hH9 := hH7.grown hJ7.half hg9 HC.out.1.2.2
          have hb9 := below_new HF.out.2 hg9 HC.out.1.2.1 HF.out.2.size
          clear hg9 hop hL8 hB8 hR8 hH7 hJ7
          refine wp_region_noPanic ?_
          refine wp_region_held_drew (S := fun W => Below wk.heap.size wk W) (by kernel_rfl) (by exact below_drewN (Below.refl _ _) 1) (fun hHeld => ?_)
          refine wpAnyH_take (i := 0) (oi := ⟨_, _, _, _, _, _⟩) (v := ?_) rfl (by kernel_rfl) (by kernel_rfl) (by kernel_rfl) (fun _ _ _ h => h) (Or.inl ⟨by rfl, ?_⟩) hHeld ?_
          rotate_left 1
          · (intro W hSw; (try dsimp only at hSw); go_simp; try with_reducible rfl)
          try simp only [Act.put, List.setIfInBounds_toArray, List.set_cons_zero, List.set_cons_succ]
          refine wpAnyH_take (i := 1) (oi := ⟨_, _, _, _, _, _⟩) (v := ?_) rfl (by kernel_rfl) (by kernel_rfl) (by kernel_rfl) (fun _ _ _ h => h) (Or.inl ⟨by rfl, ?_⟩) hHeld ?_
          rotate_left 1
          · (intro W hSw; (try dsimp only at hSw); go_simp; try with_reducible rfl)
          try simp only [Act.put, List.setIfInBounds_toArray, List.set_cons_zero, List.set_cons_succ]
          refine wpAnyH_take (i := 2) (oi := ⟨_, _, _, _, _, _⟩) (v := ?_) rfl (by kernel_rfl) (by kernel_rfl) (by kernel_rfl) (fun _ _ _ h => h) (Or.inl ⟨by rfl, ?_⟩) hHeld ?_
          rotate_left 1
          · (intro W hSw; (try dsimp only at hSw); go_simp; try with_reducible rfl)
          try simp only [Act.put, List.setIfInBounds_toArray, List.set_cons_zero, List.set_cons_succ]
          refine wpAnyH_take (i := 3) (oi := ⟨_, _, _, _, _, _⟩) (v := ?_) rfl (by kernel_rfl) (by kernel_rfl) (by kernel_rfl) (fun _ _ _ h => h) (Or.inl ⟨by rfl, ?_⟩) hHeld ?_
          rotate_left 1
          · (intro W hSw; (try dsimp only at hSw); go_simp; try with_reducible rfl)
          try simp only [Act.put, List.setIfInBounds_toArray, List.set_cons_zero, List.set_cons_succ]
          refine wpAnyH_take (i := 4) (oi := ⟨_, _, _, _, _, _⟩) (v := ?_) rfl (by kernel_rfl) (by kernel_rfl) (by kernel_rfl) (fun _ _ _ h => h) (Or.inl ⟨by rfl, ?_⟩) hHeld ?_
          rotate_left 1
          · (intro W hSw; (try dsimp only at hSw); go_simp; try with_reducible rfl)
          try simp only [Act.put, List.setIfInBounds_toArray, List.set_cons_zero, List.set_cons_succ]
          refine wpAnyH_take (i := 5) (oi := ⟨_, _, _, _, _, _⟩) (v := ?_) rfl (by kernel_rfl) (by kernel_rfl) (by kernel_rfl) (fun _ _ _ h => h) (Or.inl ⟨by rfl, ?_⟩) hHeld ?_
          rotate_left 1
          · (intro W hSw; (try dsimp only at hSw); have hcc := (hL9.below hSw hL9.lt).cell 0; go_simp; try with_reducible rfl)
          try simp only [Act.put, List.setIfInBounds_toArray, List.set_cons_zero, List.set_cons_succ]
          refine wpAnyH_take (i := 6) (oi := ⟨_, _, _, _, _, _⟩) (v := ?_) rfl (by kernel_rfl) (by kernel_rfl) (by kernel_rfl) (fun _ _ _ h => h) (Or.inl ⟨by rfl, ?_⟩) hHeld ?_
          rotate_left 1
          · (intro W hSw; (try dsimp only at hSw); go_simp; try with_reducible rfl)
          try simp only [Act.put, List.setIfInBounds_toArray, List.set_cons_zero, List.set_cons_succ]
          refine wpAnyH_take (i := 7) (oi := ⟨_, _, _, _, _, _⟩) (v := ?_) rfl (by kernel_rfl) (by kernel_rfl) (by kernel_rfl) (fun _ _ _ h => h) (Or.inl ⟨by rfl, ?_⟩) hHeld ?_
          rotate_left 1
          · (intro W hSw; (try dsimp only at hSw); go_simp; try with_reducible rfl)
          try simp only [Act.put, List.setIfInBounds_toArray, List.set_cons_zero, List.set_cons_succ]
          refine wpAnyH_take (i := 8) (oi := ⟨_, _, _, _, _, _⟩) (v := ?_) rfl (by kernel_rfl) (by kernel_rfl) (by kernel_rfl) (fun _ _ _ h => h) (Or.inl ⟨by rfl, ?_⟩) hHeld ?_
          rotate_left 1
          · (intro W hSw; (try dsimp only at hSw); go_simp; try with_reducible rfl)
          try simp only [Act.put, List.setIfInBounds_toArray, List.set_cons_zero, List.set_cons_succ]
          refine wpAnyH_take (i := 9) (oi := ⟨_, _, _, _, _, _⟩) (v := ?_) rfl (by kernel_rfl) (by kernel_rfl) (by kernel_rfl) (fun _ _ _ h => h) (Or.inl ⟨by rfl, ?_⟩) hHeld ?_
          rotate_left 1
          · (intro W hSw; (try dsimp only at hSw); go_simp; try with_reducible rfl)
          try simp only [Act.put, List.setIfInBounds_toArray, List.set_cons_zero, List.set_cons_succ]
          refine wpAnyH_take (i := 10) (oi := ⟨_, _, _, _, _, _⟩) (v := ?_) rfl (by kernel_rfl) (by kernel_rfl) (by kernel_rfl) (fun _ _ _ h => h) (Or.inl ⟨by rfl, ?_⟩) hHeld ?_
          rotate_left 1
          · (intro W hSw; (try dsimp only at hSw); have hcv := conv_in HNB.out (hi9.up hSw); go_simp; try with_reducible rfl)
          try simp only [Act.put, List.setIfInBounds_toArray, List.set_cons_zero, List.set_cons_succ]
          refine wpAnyH_take (i := 11) (oi := ⟨_, _, _, _, _, _⟩) (v := ?_) rfl (by kernel_rfl) (by kernel_rfl) (by kernel_rfl) (fun _ _ _ h => h) (Or.inl ⟨by rfl, ?_⟩) hHeld ?_
          rotate_left 1
          · (intro W hSw; (try dsimp only at hSw); go_simp; try with_reducible rfl)
          try simp only [Act.put, List.setIfInBounds_toArray, List.set_cons_zero, List.set_cons_succ]
          refine wpAnyH_take (i := 12) (oi := ⟨_, _, _, _, _, _⟩) (v := ?_) rfl (by kernel_rfl) (by kernel_rfl) (by kernel_rfl) (fun _ _ _ h => h) (Or.inl ⟨by rfl, ?_⟩) hHeld ?_
          rotate_left 1
          · (intro W hSw; (try dsimp only at hSw); have hcv := conv_in HNB.out ((hB9.below hSw).toIn (Nat.le_refl _)); go_simp; try with_reducible rfl)
          try simp only [Act.put, List.setIfInBounds_toArray, List.set_cons_zero, List.set_cons_succ]
          refine wpAnyH_take (i := 13) (oi := ⟨_, _, _, _, _, _⟩) (v := ?_) rfl (by kernel_rfl) (by kernel_rfl) (by kernel_rfl) (fun _ _ _ h => h) (Or.inl ⟨by rfl, ?_⟩) hHeld ?_
          rotate_left 1
          · (intro W hSw; (try dsimp only at hSw); go_simp; try with_reducible rfl)
          try simp only [Act.put, List.setIfInBounds_toArray, List.set_cons_zero, List.set_cons_succ]
          refine wpAnyH_take (i := 14) (oi := ⟨_, _, _, _, _, _⟩) (v := ?_) rfl (by kernel_rfl) (by kernel_rfl) (by kernel_rfl) (fun _ _ _ h => h) (Or.inl ⟨by rfl, ?_⟩) hHeld ?_
          rotate_left 1
          · (intro W hSw; (try dsimp only at hSw); go_simp; try with_reducible rfl)
          try simp only [Act.put, List.setIfInBounds_toArray, List.set_cons_zero, List.set_cons_succ]
          refine wpAnyH_take (i := 15) (oi := ⟨_, _, _, _, _, _⟩) (v := ?_) rfl (by kernel_rfl) (by kernel_rfl) (by kernel_rfl) (fun _ _ _ h => h) (Or.inl ⟨by rfl, ?_⟩) hHeld ?_
          rotate_left 1
          · (intro W hSw; (try dsimp only at hSw); go_simp; try with_reducible rfl)
          try simp only [Act.put, List.setIfInBounds_toArray, List.set_cons_zero, List.set_cons_succ]
          refine wpAnyH_take (i := 16) (oi := ⟨_, _, _, _, _, _⟩) (v := ?_) rfl (by kernel_rfl) (by kernel_rfl) (by kernel_rfl) (fun _ _ _ h => h) (Or.inl ⟨by rfl, ?_⟩) hHeld ?_
          rotate_left 1
          · (intro W hSw; (try dsimp only at hSw); go_simp; try with_reducible rfl)
          try simp only [Act.put, List.setIfInBounds_toArray, List.set_cons_zero, List.set_cons_succ]
          refine wpAnyH_take (i := 18) (oi := ⟨_, _, _, _, _, _⟩) (v := ?_) rfl (by kernel_rfl) (by kernel_rfl) (by kernel_rfl) (fun _ _ _ h => h) (Or.inl ⟨by rfl, ?_⟩) hHeld ?_
          rotate_left 1
          · (intro W hSw; (try dsimp only at hSw); go_simp; try with_reducible rfl)
          try simp only [Act.put, List.setIfInBounds_toArray, List.set_cons_zero, List.set_cons_succ]
          refine wpAnyH_take (i := 19) (oi := ⟨_, _, _, _, _, _⟩) (v := ?_) rfl (by kernel_rfl) (by kernel_rfl) (by kernel_rfl) (fun _ _ _ h => h) (Or.inl ⟨by rfl, ?_⟩) hHeld ?_
          rotate_left 1
          · (intro W hSw; (try dsimp only at hSw); go_simp; try with_reducible rfl)
          try simp only [Act.put, List.setIfInBounds_toArray, List.set_cons_zero, List.set_cons_succ]
          refine wpAnyH_take (i := 20) (oi := ⟨_, _, _, _, _, _⟩) (v := ?_) rfl (by kernel_rfl) (by kernel_rfl) (by kernel_rfl) (fun _ _ _ h => h) (Or.inl ⟨by rfl, ?_⟩) hHeld ?_
          rotate_left 1
          · (intro W hSw; (try dsimp only at hSw); go_simp; try with_reducible rfl)
          try simp only [Act.put, List.setIfInBounds_toArray, List.set_cons_zero, List.set_cons_succ]
          refine wpAnyH_take (i := 21) (oi := ⟨_, _, _, _, _, _⟩) (v := ?_) rfl (by kernel_rfl) (by kernel_rfl) (by kernel_rfl) (fun _ _ _ h => h) (Or.inl ⟨by rfl, ?_⟩) hHeld ?_
          rotate_left 1
          · (intro W hSw; (try dsimp only at hSw); have hcc := (hR9.below hSw).c1; go_simp; try with_reducible rfl)
          try simp only [Act.put, List.setIfInBounds_toArray, List.set_cons_zero, List.set_cons_succ]
          refine wpAnyH_ready (rs := [17]) (by kernel_rfl) (by simp) ?_
          refine AllReadyH.cons (o := ⟨_, _, _, _, _, _⟩) rfl (fun K hK => ?_) AllReadyH.nil
          go_simp
          go_at_call 13
          refine (used_e (hJ9.below hHeld)).mono ?_
          rintro e w' ⟨rfl, hww⟩
          have hw2 := hww.symm
          subst hw2
          try go_wp2_with fail
          refine hK.out _ _ hHeld (fun hHeld => ?_)
          clear hK K
          try simp only [Act.put, List.setIfInBounds_toArray, List.set_cons_zero, List.set_cons_succ]
          refine wpAnyH_take (i := 22) (oi := ⟨_, _, _, _, _, _⟩) (v := ?_) rfl (by kernel_rfl) (by kernel_rfl) (by kernel_rfl) (fun _ _ _ h => h) (Or.inl ⟨by rfl, ?_⟩) hHeld ?_
          rotate_left 1
          · (intro W hSw; (try dsimp only at hSw); go_simp; try with_reducible rfl)
          try simp only [Act.put, List.setIfInBounds_toArray, List.set_cons_zero, List.set_cons_succ]
          refine wpAnyH_take (i := 23) (oi := ⟨_, _, _, _, _, _⟩) (v := ?_) rfl (by kernel_rfl) (by kernel_rfl) (by kernel_rfl) (fun _ _ _ h => h) (Or.inl ⟨by rfl, ?_⟩) hHeld ?_
          rotate_left 1
          · (intro W hSw; (try dsimp only at hSw); go_simp; try with_reducible rfl)
          try simp only [Act.put, List.setIfInBounds_toArray, List.set_cons_zero, List.set_cons_succ]
          refine wpAnyH_done (by kernel_rfl) ?_ _
          refine NoPanic.normal ?_
          replace hHeld : Below wk.heap.size wk wk.drew := hHeld
          have HZ := Lib.hid (show SealsAt w wk.drew gh gx gk gr gj gy gl2 gq gm L V S (u + 1) from HF.out.1 ▸ ⟨⟨hH9.below hHeld, hJ9.below hHeld, HC.out.1⟩, hR9.below hHeld, HC.out.2, hb9.trans (hHeld.mono hb9.size)⟩)
          clear hHeld hL9 hB9 hR9 hH9 hb9 hJ9 hi9
          go_wp2
          go_roundw
          case rel => exact ⟨k1, u + 1, HK1.out.1.1, HK1.out.2.2, by simp only [HK2.out.1, HK2.out.2], HZ.out⟩
          case measure => simp only [HK2.out.1, HK2.out.2]; exact HK1.out.1.2
        · have hd : ¬ (er : Int) = 0 := by omega
          have hu1 : U1 = u := by rw [hU1]; exact if_neg her
          have HZ := Lib.hid (show SealsAt w wj gh gx gk gr gj gy gl2 gq gm L V S u from ⟨⟨hu1 ▸ hH7, hJ7, HC.out.1⟩, hu1 ▸ hR8, HC.out.2, hb8⟩)
          clear hL8 hB8 hR8 hH7 hb8 hJ7 hX hU1 hu1 her
          go_wp2
          go_roundw
          case rel => exact ⟨k1, u, HK1.out.1.1, HK1.out.2.1, by simp only [HK2.out.1, HK2.out.2], HZ.out⟩
          case measure => simp only [HK2.out.1, HK2.out.2]; exact HK1.out.1.2
      · have hk8 : ¬ (k : Int) < 8 := by omega
        clear hlt h8 hkn hu
        go_wp2
        go_ret
        exact ⟨rfl, HP.out.2.2.2⟩
    · have hd : decide (k < np) = false := by simpa using hlt
      clear hlt hkn hu
      go_wp2
      go_ret
      exact ⟨rfl, HP.out.2.2.2⟩
end Go.Proofs.YtceenlmidlmmgaaDoor
