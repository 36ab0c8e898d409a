/-
  The contract of package radius's Opened.
-/
import Derived.Test.YtbomckbekcaemaaDoorRsw
namespace Go.Proofs.YtbomckbekcaemaaDoor
open Go.RowKit

theorem read_big (b : List UInt8) : (readE b).2 = 0 → 20 ≤ b.length ∧ b.length ≤ 4096 := by
  unfold readE
  split
  · next h => exact fun _ => ⟨h.1, h.2.1⟩
  · intro h; exact absurd h (by decide)
theorem in_b8 {w : World} {g : Nat} {t : TypeId} {M : List UInt8} (h : Blk w g t (M.map B8)) (hM : M.length = 16) : In w w.heap.size (some ⟨g, 0, none⟩) 16 M :=
  ⟨by omega, by decide, fun _ => ⟨g, 0, rfl, h.lt, fun j hj => by
    rw [h.cell, Nat.zero_add, List.getElem?_map, List.getElem?_eq_getElem hj, List.getD_eq_getElem?_getD, List.getElem?_eq_getElem hj]; rfl⟩⟩
theorem in_q {w : World} {g n c : Nat} {t : TypeId} {code id : Int} {Q : List UInt8} {A : Option Addr} (h : Blk w g t (pkC code id Q A n c)) (hQ : Q.length = 16) : In w w.heap.size (some ⟨g, 2, none⟩) 16 Q :=
  ⟨by omega, by decide, fun _ => ⟨g, 2, rfl, h.lt, fun j hj => pk_range h hQ j _ (by
    rw [List.getElem?_map, List.getElem?_eq_getElem hj, List.getD_eq_getElem?_getD, List.getElem?_eq_getElem hj]; rfl)⟩⟩
theorem same_16 {w : World} {ga oa gb ob : Nat} {a b : List UInt8} (ha : In w w.heap.size (some ⟨ga, oa, none⟩) 16 a) (hb : In w w.heap.size (some ⟨gb, ob, none⟩) 16 b) (hla : a.length = 16) (hlb : b.length = 16) (v : Bool) (hv : decide (a = b) = v) :
    Calls Tryd.prog 55 #[.slice (some ⟨ga, oa, none⟩) 16 16, .slice (some ⟨gb, ob, none⟩) 16 16] w fun e w' => e = .returned (.bool v) ∧ Below w.heap.size w w' := by
  obtain ⟨_, _, e1, _, h1⟩ := ha.2.2 (by omega)
  obtain ⟨_, _, e2, _, h2⟩ := hb.2.2 (by omega)
  cases e1
  cases e2
  refine (same_long ga oa gb ob 16 16 16 a b w hla hlb (by decide) h1 h2).mono ?_
  rintro e w' ⟨rfl, q, rfl⟩
  exact ⟨by rw [hv], below_drewN (Below.refl _ _) q⟩
set_option maxRecDepth 100000 in
set_option maxHeartbeats 4000000 in
theorem opened_e (A As : Option Addr) (c cs n ls : Nat) (b M sec : List UInt8) (w : World) (hM : M.length = 16) (hn : b.length = n) (i0 : In w w.heap.size A c b) (hls : sec.length = ls) (is : In w w.heap.size As cs sec) (ht : TabsQ w) (hm2 : ls ≤ 100000) :
    Calls Tryd.prog 25 #[.slice A n c, .agg (M.map B8).toArray, .slice As ls cs] w (UnPost (openedE b M sec) w.heap.size w) := by
  have HRD := Lib.hid (fun (W : World) (hb : Below w.heap.size w W) => read_e A c n b W hn (i0.up hb))
  unfold PkPost at HRD
  have hok := read_ok b
  have her := read_err b
  have hbig := read_big b
  obtain ⟨code, id, Q, la, er, hR⟩ : ∃ code id Q la er, readE b = ((code, id, Q, la), er) := ⟨_, _, _, _, _, rfl⟩
  obtain ⟨cu, iu, Qu, lu, eu, hU⟩ : ∃ cu iu Qu lu eu, unmarkE code id M la sec = ((cu, iu, Qu, lu), eu) := ⟨_, _, _, _, _, rfl⟩
  obtain ⟨D, hD⟩ : ∃ D, D = sumO b M sec := ⟨_, rfl⟩
  have hE : openedE b M sec = if er = 0 then (if code = 1 then (zeroPk, 10) else if Q = D then (if eu = 0 then ((cu, iu, D, lu), 0) else (zeroPk, eu)) else (zeroPk, 5)) else (zeroPk, 2) := by
    unfold openedE
    simp only [hR, hU, ← hD]
  rw [hR] at HRD hok her hbig
  simp only at hok her hbig
  have HE := Lib.hid hE
  have HU := Lib.hid hU
  have HM := Lib.hid hM
  have HDL := Lib.hid (show D.length = 16 by rw [hD]; exact md5_length _)
  have HDD := Lib.hid (show D = md5 (b.take 4 ++ M ++ b.drop 20 ++ sec) from hD)
  have HS := Lib.hid (And.intro hls (And.intro is (And.intro ht hm2)))
  have HN := Lib.hid (And.intro hn i0)
  clear hE hR hU hD hn i0 hls is ht hm2 hM
  go_enter Tryd.func25, Tryd.ntmps25
  go_upto_region 1 with (fail)
  have hK := (Blk.new_of w 22 (M.map B8).toArray (M.map B8) rfl).alloc (.cells #[.int .i64 0, .int .i64 0, .int .u8 0, .int .u8 0, .int .u8 0, .int .u8 0, .int .u8 0, .int .u8 0, .int .u8 0, .int .u8 0, .int .u8 0, .int .u8 0, .int .u8 0, .int .u8 0, .int .u8 0, .int .u8 0, .int .u8 0, .int .u8 0, .slice none 0 0] 30)
  have hR := Blk.new2_of w (.cells (M.map B8).toArray 22) 30 #[.int .i64 0, .int .i64 0, .int .u8 0, .int .u8 0, .int .u8 0, .int .u8 0, .int .u8 0, .int .u8 0, .int .u8 0, .int .u8 0, .int .u8 0, .int .u8 0, .int .u8 0, .int .u8 0, .int .u8 0, .int .u8 0, .int .u8 0, .int .u8 0, .slice none 0 0] (pkC 0 0 zQ none 0 0) rfl
  have hb0 : Below w.heap.size w ((w.alloc (.cells (M.map B8).toArray 22)).alloc (.cells #[.int .i64 0, .int .i64 0, .int .u8 0, .int .u8 0, .int .u8 0, .int .u8 0, .int .u8 0, .int .u8 0, .int .u8 0, .int .u8 0, .int .u8 0, .int .u8 0, .int .u8 0, .int .u8 0, .int .u8 0, .int .u8 0, .int .u8 0, .int .u8 0, .slice none 0 0] 30)) := ((Below.refl _ _).alloc (Nat.le_refl _) _).alloc (by simp) _
  obtain ⟨gr, hgr⟩ : ∃ gr, gr = w.heap.size + 1 := ⟨_, rfl⟩
  obtain ⟨gk, hgk⟩ : ∃ gk, gk = w.heap.size := ⟨_, rfl⟩
  have HG := Lib.hid (show w.heap.size ≤ gr by omega)
  rw [← hgr] at hR
  rw [← hgk] at hK
  simp only [← hgr]
  clear hgr
  simp only [← hgk]
  have HR := Lib.hid hR
  have HK := Lib.hid hK
  have HBW := Lib.hid hb0
  clear hgk hR hK hb0
  generalize (w.alloc (.cells (M.map B8).toArray 22)).alloc (.cells #[.int .i64 0, .int .i64 0, .int .u8 0, .int .u8 0, .int .u8 0, .int .u8 0, .int .u8 0, .int .u8 0, .int .u8 0, .int .u8 0, .int .u8 0, .int .u8 0, .int .u8 0, .int .u8 0, .int .u8 0, .int .u8 0, .int .u8 0, .int .u8 0, .slice none 0 0] 30) = w1 at *
  go_upto_region 2 with (first
    | (go_at_call 18; refine (HRD.out _ HBW.out).mono ?_; rintro e w2 ⟨A2, m2, c2, rfl, hAR2, hQ2, hb2⟩; have HQ := Lib.hid hQ2)
    | ((with_reducible refine (?_ : wpList _ _ _ (Oper.mk none _ _ _ _ _ :: _) _ _)); go_loud (refine wpList_store_blk rfl 30 (.tmp 8) (.tmp 14) rfl rfl w2.heap.size (pkC code id Q A2 m2 c2) rfl rfl _ _ (Blk.new_of w2 30 #[.int .i64 0, .int .i64 0, .int .u8 0, .int .u8 0, .int .u8 0, .int .u8 0, .int .u8 0, .int .u8 0, .int .u8 0, .int .u8 0, .int .u8 0, .int .u8 0, .int .u8 0, .int .u8 0, .int .u8 0, .int .u8 0, .int .u8 0, .int .u8 0, .slice none 0 0] (pkC 0 0 zQ none 0 0) rfl) (infPk.trans (by rw [pkC_length _ _ _ _ _ _ HQ.out])) (by rw [pkC_length _ _ _ _ _ _ HQ.out]; first | rfl | rw [pkC_length _ _ _ _ _ _ HM.out]) (pk_one _ _ _ _ _ _) ?_); intro w3 hS3 hg3))
  have h2a : Below w2.heap.size w2 (w2.alloc (.cells #[.int .i64 0, .int .i64 0, .int .u8 0, .int .u8 0, .int .u8 0, .int .u8 0, .int .u8 0, .int .u8 0, .int .u8 0, .int .u8 0, .int .u8 0, .int .u8 0, .int .u8 0, .int .u8 0, .int .u8 0, .int .u8 0, .int .u8 0, .int .u8 0, .slice none 0 0] 30)) := (Below.refl _ _).alloc (Nat.le_refl _) _
  have hb3 : Below w2.heap.size w2 w3 := below_new h2a hg3 (Nat.le_refl _) h2a.size
  have HY3 := Lib.hid hb3
  have HB2 := Lib.hid hb2
  have HB3 := Lib.hid (hb2.trans (hb3.mono hb2.size))
  have HR3 := Lib.hid (HR.out.below HB3.out HR.out.lt)
  have HAR2 := Lib.hid hAR2
  have HP3 := Lib.hid hS3
  obtain ⟨g, hg⟩ : ∃ g, g = w2.heap.size := ⟨_, rfl⟩
  have HGG := Lib.hid hg
  rw [← hg] at HP3
  simp only [← hg]
  clear h2a hb3 hAR2 hg3 hb2 hQ2 hS3 hg
  rcases her with rfl | rfl
  · by_cases h1 : code = 1
    · have HZ := Lib.hid (show openedE b M sec = (zeroPk, 10) by rw [HE.out, if_pos rfl, if_pos h1])
      have hc0 : w3.cell? ⟨g, 0, none⟩ = some (.int .i64 code) := HP3.out.cell 0
      subst h1
      go_wp2_with ((with_reducible refine (?_ : wpList _ _ _ (Oper.mk none _ _ _ _ _ :: _) _ _)); go_loud (refine wpList_store_blk rfl 30 (.tmp 6) (.tmp 23) rfl rfl gr (pkC 0 0 zQ none 0 0) rfl rfl _ _ (HR3.out) (infPk) (rfl) (pk_one _ _ _ _ _ _) ?_); intro wz hPz hgz)
      refine bodyPost_ret (v := .tuple #[.agg _, _]) (results_cs rfl _ _ gr 30 _ _ _ rfl rfl hPz Tryd.underlying30 rfl infPk) rfl ?_
      exact ⟨none, 0, 0, by rw [HZ.out] <;> rfl, by rw [HZ.out]; rfl, by rw [HZ.out]; exact aIn_nil _ _ _, by rw [HZ.out]; rfl, below_new (HBW.out.trans (HB3.out.mono HBW.out.size)) hgz HG.out (Nat.le_trans HBW.out.size (HB3.out).size), fun _ h => by cases h⟩
    · have hc0 : w3.cell? ⟨g, 0, none⟩ = some (.int .i64 code) := HP3.out.cell 0
      obtain ⟨hb20, hb40⟩ := hbig rfl
      have hbn := HN.out.1
      have hX3 : Below w.heap.size w w3 := HBW.out.trans (HB3.out.mono HBW.out.size)
      have hib := HN.out.2.up hX3
      have hnc : n ≤ c := by rw [← hbn]; exact hib.1
      obtain ⟨gb, ob, hAe, _, _⟩ := hib.2.2 (by omega)
      subst hAe
      obtain ⟨o2, HO2⟩ := ix_cut c 20 ob
      have HI1 := Lib.hid (And.intro (hib.take 4) (show (b.take 4).length = 4 by rw [List.length_take]; omega))
      obtain ⟨n20, hn20⟩ : ∃ n20, n20 = n - 20 := ⟨_, rfl⟩
      have HI3 := Lib.hid (And.intro (in_cut2 hib 20 hb20 HO2.out) (show (b.drop 20).length = n20 by rw [List.length_drop]; omega))
      have HI2 := Lib.hid (in_b8 (HK.out.below HB3.out HK.out.lt) HM.out)
      have HI4 := Lib.hid (HS.out.2.1.up hX3)
      have HT3 := Lib.hid (HS.out.2.2.1.below hX3)
      have HBIG := Lib.hid (show 4 + 16 + n20 + ls ≤ 1000000 by have := HS.out.2.2.2; omega)
      have hi1 : (4 : Int) ≤ (c : Int) := by omega
      have hi2 : (20 : Int) ≤ (n : Int) := by omega
      have hi3 : (n : Int) ≤ (c : Int) := by omega
      have hi4 : (20 : Int) ≤ (c : Int) := by omega
      have hi5 : n - 20 = n20 := hn20.symm
      have HOK := Lib.hid (hok rfl)
      have HNE := Lib.hid (fun (a : Addr) (e : A2 = some a) => (show a.block < w2.heap.size from (HAR2.out.lt a.block (by rw [e]; rfl)).2))
      have HUN := Lib.hid (fun (W : World) (hb : Below w2.heap.size w2 W) => (show Calls Tryd.prog 54 #[.agg (pkC code id M A2 m2 c2).toArray, .slice As ls cs] W (fun e w' => (∃ A m c, e = .returned (.tuple #[.agg (pkC cu iu Qu A m c).toArray, .int .i64 (eu : Int)]) ∧ lu.length = m ∧ AInK (fun b => w1.heap.size ≤ b ∧ b < w2.heap.size) w' w'.heap.size A c lu ∧ Qu.length = 16 ∧ Below w1.heap.size W w' ∧ ∀ a, A = some a → W.heap.size ≤ a.block) ∧ FarX A2 W w') by
        have hbs : w1.heap.size ≤ W.heap.size := Nat.le_trans HB2.out.size hb.size
        have h := unmarked_far w1.heap.size c2 m2 ls cs code id M A2 As la sec W hbs HM.out (HAR2.out.below hb) HS.out.1 ((HS.out.2.1.up HBW.out).below (HB2.out.trans (hb.mono HB2.out.size))) (TabsB.below ⟨HS.out.2.2.1.below HBW.out, Nat.lt_of_lt_of_le HS.out.2.2.1.lt0 HBW.out.size, Nat.lt_of_lt_of_le HS.out.2.2.1.lt1 HBW.out.size⟩ (HB2.out.trans (hb.mono HB2.out.size))) (by have h1 := HAR2.out.ain.1; have h2 := HOK.out.2; omega) (by have := HS.out.2.2.2; omega) HOK.out.1 w2 hb HAR2.out
        rw [HU.out] at h
        exact h))
      clear hbig hok hb20 hb40 hbn hX3 hib hnc hn20
      go_upto_region 6 with (fail)
      refine wp_region_noPanic ?_
      refine wp_region_held_drew (S := fun W => Below w3.heap.size w3 W) (by kernel_rfl) (by exact below_drewN (Below.refl _ _) 1) (fun hHeld => ?_)
      refine wpAnyH_take (i := 0) (oi := ⟨_, _, _, _, _, _⟩) (v := ?_) rfl (by kernel_rfl) (by kernel_rfl) (by kernel_rfl) (fun _ _ _ h => h) (Or.inl ⟨by rfl, ?_⟩) hHeld ?_
      rotate_left 1
      · (intro W hSw; (try dsimp only at hSw); go_simp; try with_reducible rfl)
      try simp only [Act.put, List.setIfInBounds_toArray, List.set_cons_zero, List.set_cons_succ]
      refine wpAnyH_take (i := 1) (oi := ⟨_, _, _, _, _, _⟩) (v := .slice (some ⟨gb, ob, none⟩) 4 c) rfl (by kernel_rfl) (by kernel_rfl) (by kernel_rfl) (fun _ _ _ h => h) (Or.inl ⟨by rfl, ?_⟩) hHeld ?_
      · (intro W hSw; go_simp)
      try simp only [Act.put, List.setIfInBounds_toArray, List.set_cons_zero, List.set_cons_succ]
      refine wpAnyH_take (i := 2) (oi := ⟨_, _, _, _, _, _⟩) (v := ?_) rfl (by kernel_rfl) (by kernel_rfl) (by kernel_rfl) (fun _ _ _ h => h) (Or.inl ⟨by rfl, ?_⟩) hHeld ?_
      rotate_left 1
      · (intro W hSw; (try dsimp only at hSw); go_simp; try with_reducible rfl)
      try simp only [Act.put, List.setIfInBounds_toArray, List.set_cons_zero, List.set_cons_succ]
      refine wpAnyH_take (i := 3) (oi := ⟨_, _, _, _, _, _⟩) (v := ?_) rfl (by kernel_rfl) (by kernel_rfl) (by kernel_rfl) (fun _ _ _ h => h) (Or.inl ⟨by rfl, ?_⟩) hHeld ?_
      rotate_left 1
      · (intro W hSw; (try dsimp only at hSw); go_simp; try with_reducible rfl)
      try simp only [Act.put, List.setIfInBounds_toArray, List.set_cons_zero, List.set_cons_succ]
      refine wpAnyH_take (i := 4) (oi := ⟨_, _, _, _, _, _⟩) (v := .slice (some ⟨gb, o2, none⟩) n20 (c - 20)) rfl (by kernel_rfl) (by kernel_rfl) (by kernel_rfl) (fun _ _ _ h => h) (Or.inl ⟨by rfl, ?_⟩) hHeld ?_
      · (intro W hSw; rcases HO2.out with ⟨hcx, hox⟩ | ⟨hcx, hox⟩ <;> subst hox <;> first | (subst hcx; go_simp; done) | go_simp)
      try simp only [Act.put, List.setIfInBounds_toArray, List.set_cons_zero, List.set_cons_succ]
      refine wpAnyH_take (i := 5) (oi := ⟨_, _, _, _, _, _⟩) (v := ?_) rfl (by kernel_rfl) (by kernel_rfl) (by kernel_rfl) (fun _ _ _ h => h) (Or.inl ⟨by rfl, ?_⟩) hHeld ?_
      rotate_left 1
      · (intro W hSw; (try dsimp only at hSw); go_simp; try with_reducible rfl)
      try simp only [Act.put, List.setIfInBounds_toArray, List.set_cons_zero, List.set_cons_succ]
      replace hHeld : Below w3.heap.size w3 w3.drew := hHeld
      generalize w3.drew = wd at *
      refine wpAnyH_ready (rs := [6, 8]) (by kernel_rfl) (by simp) ?_
      refine AllReadyH.cons (o := ⟨_, _, _, _, _, _⟩) rfl (fun K hK => ?_) (AllReadyH.cons (o := ⟨_, _, _, _, _, _⟩) rfl (fun K hK => ?_) AllReadyH.nil)
      go_simp
      have hla : Below wd.heap.size wd (wd.alloc (.cells #[.slice (some ⟨gb, ob, none⟩) 4 c, .slice (some ⟨gk, 0, none⟩) 16 16, .slice (some ⟨gb, o2, none⟩) n20 (c - 20), .slice As ls cs] 26)) := (Below.refl _ _).alloc (Nat.le_refl _) _
      have hnb := Blk.new_of wd 26 #[.slice (some ⟨gb, ob, none⟩) 4 c, .slice (some ⟨gk, 0, none⟩) 16 16, .slice (some ⟨gb, o2, none⟩) n20 (c - 20), .slice As ls cs] [.slice (some ⟨gb, ob, none⟩) 4 c, .slice (some ⟨gk, 0, none⟩) 16 16, .slice (some ⟨gb, o2, none⟩) n20 (c - 20), .slice As ls cs] rfl
      refine hK.out _ _ (hHeld.trans (hla.mono hHeld.size)) (fun hHeld => ?_)
      clear hK K
      replace hHeld : Below w3.heap.size w3 (wd.alloc (.cells #[.slice (some ⟨gb, ob, none⟩) 4 c, .slice (some ⟨gk, 0, none⟩) 16 16, .slice (some ⟨gb, o2, none⟩) n20 (c - 20), .slice As ls cs] 26)) := hHeld
      clear hla
      generalize wd.heap.size = gl at *
      generalize wd.alloc (.cells #[.slice (some ⟨gb, ob, none⟩) 4 c, .slice (some ⟨gk, 0, none⟩) 16 16, .slice (some ⟨gb, o2, none⟩) n20 (c - 20), .slice As ls cs] 26) = wa at *
      try simp only [Act.put, List.setIfInBounds_toArray, List.set_cons_zero, List.set_cons_succ]
      refine wpAnyH_ready (rs := [7, 8]) (by kernel_rfl) (by simp) ?_
      refine AllReadyH.cons (o := ⟨_, _, _, _, _, _⟩) rfl (fun K hK => ?_) (AllReadyH.cons (o := ⟨_, _, _, _, _, _⟩) rfl (fun K hK => ?_) AllReadyH.nil)
      go_simp
      go_at_call 52
      refine (qof_four (d := D) (HI1.out.1.up hHeld) HI1.out.2 (HI2.out.up hHeld) HM.out (HI3.out.1.up hHeld) HI3.out.2 (HI4.out.up hHeld) HS.out.1 (hnb.cell 0) (hnb.cell 1) (hnb.cell 2) (hnb.cell 3) HBIG.out HDD.out (HT3.out.below hHeld)).mono ?_
      rintro e w5 ⟨rfl, hb5⟩
      try go_wp2_with fail
      have hszx := hHeld.size
      refine hK.out _ _ (hHeld.trans (hb5.mono hszx)) (fun hHeld => ?_)
      clear hK K hszx hb5 hnb
      replace hHeld : Below w3.heap.size w3 w5 := hHeld
      try simp only [Act.put, List.setIfInBounds_toArray, List.set_cons_zero, List.set_cons_succ]
      refine wpAnyH_ready (rs := [8]) (by kernel_rfl) (by simp) ?_
      refine AllReadyH.cons (o := ⟨_, _, _, _, _, _⟩) rfl (fun K hK => ?_) AllReadyH.nil
      go_simp
      have hla : Below w5.heap.size w5 (w5.alloc (.cells #[.int .u8 0, .int .u8 0, .int .u8 0, .int .u8 0, .int .u8 0, .int .u8 0, .int .u8 0, .int .u8 0, .int .u8 0, .int .u8 0, .int .u8 0, .int .u8 0, .int .u8 0, .int .u8 0, .int .u8 0, .int .u8 0] 22)) := (Below.refl _ _).alloc (Nat.le_refl _) _
      have hbk := Blk.new_of w5 22 #[.int .u8 0, .int .u8 0, .int .u8 0, .int .u8 0, .int .u8 0, .int .u8 0, .int .u8 0, .int .u8 0, .int .u8 0, .int .u8 0, .int .u8 0, .int .u8 0, .int .u8 0, .int .u8 0, .int .u8 0, .int .u8 0] (zQ.map B8) rfl
      have hg10s : w3.heap.size ≤ w5.heap.size := hHeld.size
      refine hK.out _ _ (hHeld.trans (hla.mono hHeld.size)) (fun hHeld => ?_)
      clear hK K hla
      obtain ⟨g10, hg10⟩ : ∃ g10, g10 = w5.heap.size := ⟨_, rfl⟩
      rw [← hg10] at hbk hg10s
      have HG10 := Lib.hid hg10s
      clear hg10s
      try simp only [Act.put, List.setIfInBounds_toArray, List.set_cons_zero, List.set_cons_succ]
      simp only [← hg10]
      clear hg10
      replace hHeld : Below w3.heap.size w3 (w5.alloc (.cells #[.int .u8 0, .int .u8 0, .int .u8 0, .int .u8 0, .int .u8 0, .int .u8 0, .int .u8 0, .int .u8 0, .int .u8 0, .int .u8 0, .int .u8 0, .int .u8 0, .int .u8 0, .int .u8 0, .int .u8 0, .int .u8 0] 22)) := hHeld
      generalize w5.alloc (.cells #[.int .u8 0, .int .u8 0, .int .u8 0, .int .u8 0, .int .u8 0, .int .u8 0, .int .u8 0, .int .u8 0, .int .u8 0, .int .u8 0, .int .u8 0, .int .u8 0, .int .u8 0, .int .u8 0, .int .u8 0, .int .u8 0] 22) = w6 at *
      refine wpAnyH_ready (rs := [9]) (by kernel_rfl) (by simp) ?_
      refine AllReadyH.cons (o := ⟨_, _, _, _, _, _⟩) rfl (fun K hK => ?_) AllReadyH.nil
      refine step_store_blk rfl 22 (.tmp 10) (.tmp 31) rfl rfl g10 (D.map B8) rfl rfl 22 _ hbk (inf16.trans (by rw [List.length_map, HDL.out])) (by rw [List.length_map, List.length_map, HDL.out]; rfl) (one8 _) ?_
      intro w7 hS7 hg7
      have hX7 : Below w3.heap.size w3 w7 := below_new hHeld hg7 HG10.out hHeld.size
      have HX7 := Lib.hid hX7
      have HS7 := Lib.hid hS7
      refine hK.out _ _ hX7 (fun hHeld => ?_)
      clear hK K hbk hg7 hX7 hS7 hHeld
      try simp only [Act.put, List.setIfInBounds_toArray, List.set_cons_zero, List.set_cons_succ]
      refine wpAnyH_done (by kernel_rfl) ?_ _
      refine NoPanic.normal ?_
      rotate_left
      go_simp
      have hla : Below wa.heap.size wa (wa.alloc (.cells #[.int .u8 0, .int .u8 0, .int .u8 0, .int .u8 0, .int .u8 0, .int .u8 0, .int .u8 0, .int .u8 0, .int .u8 0, .int .u8 0, .int .u8 0, .int .u8 0, .int .u8 0, .int .u8 0, .int .u8 0, .int .u8 0] 22)) := (Below.refl _ _).alloc (Nat.le_refl _) _
      have hbk := Blk.new_of wa 22 #[.int .u8 0, .int .u8 0, .int .u8 0, .int .u8 0, .int .u8 0, .int .u8 0, .int .u8 0, .int .u8 0, .int .u8 0, .int .u8 0, .int .u8 0, .int .u8 0, .int .u8 0, .int .u8 0, .int .u8 0, .int .u8 0] (zQ.map B8) rfl
      replace hnb := hnb.below hla hnb.lt
      have hg10s : w3.heap.size ≤ wa.heap.size := hHeld.size
      refine hK.out _ _ (hHeld.trans (hla.mono hHeld.size)) (fun hHeld => ?_)
      clear hK K hla
      obtain ⟨g10, hg10⟩ : ∃ g10, g10 = wa.heap.size := ⟨_, rfl⟩
      rw [← hg10] at hbk hg10s
      have HG10 := Lib.hid hg10s
      clear hg10s
      try simp only [Act.put, List.setIfInBounds_toArray, List.set_cons_zero, List.set_cons_succ]
      simp only [← hg10]
      clear hg10
      replace hHeld : Below w3.heap.size w3 (wa.alloc (.cells #[.int .u8 0, .int .u8 0, .int .u8 0, .int .u8 0, .int .u8 0, .int .u8 0, .int .u8 0, .int .u8 0, .int .u8 0, .int .u8 0, .int .u8 0, .int .u8 0, .int .u8 0, .int .u8 0, .int .u8 0, .int .u8 0] 22)) := hHeld
      generalize wa.alloc (.cells #[.int .u8 0, .int .u8 0, .int .u8 0, .int .u8 0, .int .u8 0, .int .u8 0, .int .u8 0, .int .u8 0, .int .u8 0, .int .u8 0, .int .u8 0, .int .u8 0, .int .u8 0, .int .u8 0, .int .u8 0, .int .u8 0] 22) = wb at *
      refine wpAnyH_ready (rs := [7]) (by kernel_rfl) (by simp) ?_
      refine AllReadyH.cons (o := ⟨_, _, _, _, _, _⟩) rfl (fun K hK => ?_) AllReadyH.nil
      go_simp
      go_at_call 52
      refine (qof_four (d := D) (HI1.out.1.up hHeld) HI1.out.2 (HI2.out.up hHeld) HM.out (HI3.out.1.up hHeld) HI3.out.2 (HI4.out.up hHeld) HS.out.1 (hnb.cell 0) (hnb.cell 1) (hnb.cell 2) (hnb.cell 3) HBIG.out HDD.out (HT3.out.below hHeld)).mono ?_
      rintro e w6 ⟨rfl, hb5⟩
      try go_wp2_with fail
      have hszx := hHeld.size
      replace hbk := hbk.below hb5 hbk.lt
      refine hK.out _ _ (hHeld.trans (hb5.mono hszx)) (fun hHeld => ?_)
      clear hK K hszx hb5 hnb
      replace hHeld : Below w3.heap.size w3 w6 := hHeld
      try simp only [Act.put, List.setIfInBounds_toArray, List.set_cons_zero, List.set_cons_succ]
      refine wpAnyH_ready (rs := [9]) (by kernel_rfl) (by simp) ?_
      refine AllReadyH.cons (o := ⟨_, _, _, _, _, _⟩) rfl (fun K hK => ?_) AllReadyH.nil
      refine step_store_blk rfl 22 (.tmp 10) (.tmp 31) rfl rfl g10 (D.map B8) rfl rfl 22 _ hbk (inf16.trans (by rw [List.length_map, HDL.out])) (by rw [List.length_map, List.length_map, HDL.out]; rfl) (one8 _) ?_
      intro w7 hS7 hg7
      have hX7 : Below w3.heap.size w3 w7 := below_new hHeld hg7 HG10.out hHeld.size
      have HX7 := Lib.hid hX7
      have HS7 := Lib.hid hS7
      refine hK.out _ _ hX7 (fun hHeld => ?_)
      clear hK K hbk hg7 hX7 hS7 hHeld
      try simp only [Act.put, List.setIfInBounds_toArray, List.set_cons_zero, List.set_cons_succ]
      refine wpAnyH_done (by kernel_rfl) ?_ _
      refine NoPanic.normal ?_
      rotate_left
      go_simp
      have hla : Below wd.heap.size wd (wd.alloc (.cells #[.int .u8 0, .int .u8 0, .int .u8 0, .int .u8 0, .int .u8 0, .int .u8 0, .int .u8 0, .int .u8 0, .int .u8 0, .int .u8 0, .int .u8 0, .int .u8 0, .int .u8 0, .int .u8 0, .int .u8 0, .int .u8 0] 22)) := (Below.refl _ _).alloc (Nat.le_refl _) _
      have hbk := Blk.new_of wd 22 #[.int .u8 0, .int .u8 0, .int .u8 0, .int .u8 0, .int .u8 0, .int .u8 0, .int .u8 0, .int .u8 0, .int .u8 0, .int .u8 0, .int .u8 0, .int .u8 0, .int .u8 0, .int .u8 0, .int .u8 0, .int .u8 0] (zQ.map B8) rfl
      have hg10s : w3.heap.size ≤ wd.heap.size := hHeld.size
      refine hK.out _ _ (hHeld.trans (hla.mono hHeld.size)) (fun hHeld => ?_)
      clear hK K hla
      obtain ⟨g10, hg10⟩ : ∃ g10, g10 = wd.heap.size := ⟨_, rfl⟩
      rw [← hg10] at hbk hg10s
      have HG10 := Lib.hid hg10s
      clear hg10s
      try simp only [Act.put, List.setIfInBounds_toArray, List.set_cons_zero, List.set_cons_succ]
      simp only [← hg10]
      clear hg10
      replace hHeld : Below w3.heap.size w3 (wd.alloc (.cells #[.int .u8 0, .int .u8 0, .int .u8 0, .int .u8 0, .int .u8 0, .int .u8 0, .int .u8 0, .int .u8 0, .int .u8 0, .int .u8 0, .int .u8 0, .int .u8 0, .int .u8 0, .int .u8 0, .int .u8 0, .int .u8 0] 22)) := hHeld
      generalize wd.alloc (.cells #[.int .u8 0, .int .u8 0, .int .u8 0, .int .u8 0, .int .u8 0, .int .u8 0, .int .u8 0, .int .u8 0, .int .u8 0, .int .u8 0, .int .u8 0, .int .u8 0, .int .u8 0, .int .u8 0, .int .u8 0, .int .u8 0] 22) = wa at *
      refine wpAnyH_ready (rs := [6]) (by kernel_rfl) (by simp) ?_
      refine AllReadyH.cons (o := ⟨_, _, _, _, _, _⟩) rfl (fun K hK => ?_) AllReadyH.nil
      go_simp
      have hla : Below wa.heap.size wa (wa.alloc (.cells #[.slice (some ⟨gb, ob, none⟩) 4 c, .slice (some ⟨gk, 0, none⟩) 16 16, .slice (some ⟨gb, o2, none⟩) n20 (c - 20), .slice As ls cs] 26)) := (Below.refl _ _).alloc (Nat.le_refl _) _
      have hnb := Blk.new_of wa 26 #[.slice (some ⟨gb, ob, none⟩) 4 c, .slice (some ⟨gk, 0, none⟩) 16 16, .slice (some ⟨gb, o2, none⟩) n20 (c - 20), .slice As ls cs] [.slice (some ⟨gb, ob, none⟩) 4 c, .slice (some ⟨gk, 0, none⟩) 16 16, .slice (some ⟨gb, o2, none⟩) n20 (c - 20), .slice As ls cs] rfl
      replace hbk := hbk.below hla hbk.lt
      refine hK.out _ _ (hHeld.trans (hla.mono hHeld.size)) (fun hHeld => ?_)
      clear hK K
      replace hHeld : Below w3.heap.size w3 (wa.alloc (.cells #[.slice (some ⟨gb, ob, none⟩) 4 c, .slice (some ⟨gk, 0, none⟩) 16 16, .slice (some ⟨gb, o2, none⟩) n20 (c - 20), .slice As ls cs] 26)) := hHeld
      clear hla
      generalize wa.heap.size = gl at *
      generalize wa.alloc (.cells #[.slice (some ⟨gb, ob, none⟩) 4 c, .slice (some ⟨gk, 0, none⟩) 16 16, .slice (some ⟨gb, o2, none⟩) n20 (c - 20), .slice As ls cs] 26) = wb at *
      try simp only [Act.put, List.setIfInBounds_toArray, List.set_cons_zero, List.set_cons_succ]
      refine wpAnyH_ready (rs := [7]) (by kernel_rfl) (by simp) ?_
      refine AllReadyH.cons (o := ⟨_, _, _, _, _, _⟩) rfl (fun K hK => ?_) AllReadyH.nil
      go_simp
      go_at_call 52
      refine (qof_four (d := D) (HI1.out.1.up hHeld) HI1.out.2 (HI2.out.up hHeld) HM.out (HI3.out.1.up hHeld) HI3.out.2 (HI4.out.up hHeld) HS.out.1 (hnb.cell 0) (hnb.cell 1) (hnb.cell 2) (hnb.cell 3) HBIG.out HDD.out (HT3.out.below hHeld)).mono ?_
      rintro e w6 ⟨rfl, hb5⟩
      try go_wp2_with fail
      have hszx := hHeld.size
      replace hbk := hbk.below hb5 hbk.lt
      refine hK.out _ _ (hHeld.trans (hb5.mono hszx)) (fun hHeld => ?_)
      clear hK K hszx hb5 hnb
      replace hHeld : Below w3.heap.size w3 w6 := hHeld
      try simp only [Act.put, List.setIfInBounds_toArray, List.set_cons_zero, List.set_cons_succ]
      refine wpAnyH_ready (rs := [9]) (by kernel_rfl) (by simp) ?_
      refine AllReadyH.cons (o := ⟨_, _, _, _, _, _⟩) rfl (fun K hK => ?_) AllReadyH.nil
      refine step_store_blk rfl 22 (.tmp 10) (.tmp 31) rfl rfl g10 (D.map B8) rfl rfl 22 _ hbk (inf16.trans (by rw [List.length_map, HDL.out])) (by rw [List.length_map, List.length_map, HDL.out]; rfl) (one8 _) ?_
      intro w7 hS7 hg7
      have hX7 : Below w3.heap.size w3 w7 := below_new hHeld hg7 HG10.out hHeld.size
      have HX7 := Lib.hid hX7
      have HS7 := Lib.hid hS7
      refine hK.out _ _ hX7 (fun hHeld => ?_)
      clear hK K hbk hg7 hX7 hS7 hHeld
      try simp only [Act.put, List.setIfInBounds_toArray, List.set_cons_zero, List.set_cons_succ]
      refine wpAnyH_done (by kernel_rfl) ?_ _
      refine NoPanic.normal ?_
      all_goals
        go_upto_region 7 with (fail)
        have HSI := Lib.hid (in_q (HP3.out.below HX7.out HP3.out.lt) HQ.out)
        have HSD := Lib.hid (in_b8 HS7.out HDL.out)
        by_cases hq : Q = D
        · have HSM := Lib.hid (fun (W : World) (h : Below w7.heap.size w7 W) => same_16 (HSI.out.up h) (HSD.out.up h) HQ.out HDL.out true (by rw [hq]; exact decide_eq_true rfl))
          have HQD := Lib.hid hq
          clear hq
          refine wp_region_noPanic ?_
          refine wp_region_held_drew (S := fun W => Below w7.heap.size w7 W) (by kernel_rfl) (by exact below_drewN (Below.refl _ _) 1) (fun hHeld => ?_)
          refine wpAnyH_take (i := 0) (oi := ⟨_, _, _, _, _, _⟩) (v := ?_) rfl (by kernel_rfl) (by kernel_rfl) (by kernel_rfl) (fun _ _ _ h => h) (Or.inl ⟨by rfl, ?_⟩) hHeld ?_
          rotate_left 1
          · (intro W hSw; (try dsimp only at hSw); go_simp; try with_reducible rfl)
          try simp only [Act.put, List.setIfInBounds_toArray, List.set_cons_zero, List.set_cons_succ]
          refine wpAnyH_take (i := 1) (oi := ⟨_, _, _, _, _, _⟩) (v := .slice (some ⟨g, 2, none⟩) 16 16) rfl (by kernel_rfl) (by kernel_rfl) (by kernel_rfl) (fun _ _ _ h => h) (Or.inl ⟨by rfl, ?_⟩) hHeld ?_
          · (intro W hSw; go_simp)
          try simp only [Act.put, List.setIfInBounds_toArray, List.set_cons_zero, List.set_cons_succ]
          refine wpAnyH_take (i := 2) (oi := ⟨_, _, _, _, _, _⟩) (v := ?_) rfl (by kernel_rfl) (by kernel_rfl) (by kernel_rfl) (fun _ _ _ h => h) (Or.inl ⟨by rfl, ?_⟩) hHeld ?_
          rotate_left 1
          · (intro W hSw; (try dsimp only at hSw); go_simp; try with_reducible rfl)
          try simp only [Act.put, List.setIfInBounds_toArray, List.set_cons_zero, List.set_cons_succ]
          replace hHeld : Below w7.heap.size w7 w7.drew := hHeld
          generalize w7.drew = wd at *
          refine wpAnyH_ready (rs := [3]) (by kernel_rfl) (by simp) ?_
          refine AllReadyH.cons (o := ⟨_, _, _, _, _, _⟩) rfl (fun K hK => ?_) AllReadyH.nil
          go_simp
          go_at_call 55
          refine (HSM.out wd hHeld).mono ?_
          rintro e w8 ⟨rfl, hb8⟩
          try go_wp2_with fail
          refine hK.out _ _ (hHeld.trans (hb8.mono hHeld.size)) (fun hHeld => ?_)
          clear hK K hb8
          replace hHeld : Below w7.heap.size w7 w8 := hHeld
          try simp only [Act.put, List.setIfInBounds_toArray, List.set_cons_zero, List.set_cons_succ]
          refine wpAnyH_take (i := 4) (oi := ⟨_, _, _, _, _, _⟩) (v := ?_) rfl (by kernel_rfl) (by kernel_rfl) (by kernel_rfl) (fun _ _ _ h => h) (Or.inl ⟨by rfl, ?_⟩) hHeld ?_
          rotate_left 1
          · (intro W hSw; (try dsimp only at hSw); go_simp; try with_reducible rfl)
          try simp only [Act.put, List.setIfInBounds_toArray, List.set_cons_zero, List.set_cons_succ]
          refine wpAnyH_done (by kernel_rfl) ?_ _
          refine NoPanic.normal ?_
          have HX8 := Lib.hid (HX7.out.trans (hHeld.mono HX7.out.size))
          have HB8 := Lib.hid (HB3.out.trans (HX8.out.mono HB3.out.size))
          have HD8 := Lib.hid (HS7.out.below hHeld HS7.out.lt)
          have HR8 := Lib.hid (HR3.out.below HX8.out HR3.out.lt)
          have HP8 := Lib.hid (HP3.out.below HX8.out HP3.out.lt)
          have HK8 := Lib.hid (HK.out.below HB8.out HK.out.lt)
          have HY8 := Lib.hid (HY3.out.trans (HX8.out.mono HY3.out.size))
          clear hHeld
          have hk8 := HK8.out
          have hp8 := HP8.out
          go_upto_region 10 with (first
            | ((with_reducible refine (?_ : wpList _ _ _ (Oper.mk (some 38) _ _ _ _ _ :: _) _ _)); go_loud (refine wpList_load_blk rfl 22 (.tmp 4) rfl gk rfl _ _ _ (hk8) Tryd.underlying22 rfl (inf16.trans (by rw [List.length_map, HM.out])) ?_))
            | ((with_reducible refine (?_ : wpList _ _ _ (Oper.mk none _ _ _ _ _ :: _) _ _)); go_loud (refine wpList_store_mid rfl 22 (.tmp 39) (.tmp 38) rfl g 2 (M.map B8).toArray rfl rfl (by have := there_auth hp8 HQ.out; simpa [HM.out] using this) (inf16.trans (by simp [HM.out])) (by rw [List.all_toArray]; exact List.all_eq_true.2 (fun u hu => oneB8 M u hu)) ?_)))
          have hp9 := blk_auth hp8 HQ.out HM.out
          have hgs : w8.grownBy (w8.setCells g 2 (M.map B8)) (some g) := grown_setCells w8 g 2 (M.map B8)
          have HY9 := Lib.hid (below_new HY8.out hgs (by rw [HGG.out]; exact Nat.le_refl _) HY8.out.size)
          have HW9 := Lib.hid (HB2.out.trans (HY9.out.mono HB2.out.size))
          have HR9 := Lib.hid (HR.out.below HW9.out HR.out.lt)
          have HD9 := Lib.hid (HD8.out.grown hgs (fun e => by have := HG10.out; have := HP3.out.lt; injection e with e; omega))
          clear hk8 hp8 hgs
          generalize w8.setCells g 2 (M.map B8) = w9 at *
          have HP9 := Lib.hid hp9
          have HUN9 := Lib.hid (HUN.out w9 HY9.out)
          go_upto_region 11 with (first
            | ((with_reducible refine (?_ : wpList _ _ _ (Oper.mk (some 41) _ _ _ _ _ :: _) _ _)); go_loud (refine wpList_load_blk rfl 30 (.tmp 8) rfl g rfl _ _ _ (hp9) Tryd.underlying30 rfl (infPk.trans (by rw [pkC_length _ _ _ _ _ _ HM.out])) ?_))
            | (go_at_call 54; refine HUN9.out.mono ?_; rintro e w10 ⟨⟨A5, m5, c5, rfl, hm5, hA5, hQ5, hb10, hn5⟩, hf10⟩)
            | ((with_reducible refine (?_ : wpList _ _ _ (Oper.mk none _ _ _ _ _ :: _) _ _)); go_loud (refine wpList_store_blk rfl 30 (.tmp 8) (.tmp 44) rfl rfl g (pkC cu iu Qu A5 m5 c5) rfl rfl _ _ ((show Blk w10 g 30 (pkC code id M A2 m2 c2) from (hf10.2 g HP9.out.lt (fun a e => by have := HNE.out a e; have := HGG.out; omega)).trans HP9.out)) (infPk.trans (by rw [pkC_length _ _ _ _ _ _ hQ5])) (by rw [pkC_length _ _ _ _ _ _ hQ5]; first | rfl | rw [pkC_length _ _ _ _ _ _ HM.out]) (pk_one _ _ _ _ _ _) ?_); intro w11 hS11 hg11))
          have hgw : g < w9.heap.size := HP9.out.lt
          have HA11 := Lib.hid (hA5.grown hg11 (fun _ a e e2 => by have := hn5 a e; omega) (fun b hb e2 => by have := HGG.out; omega))
          have HR10 := Lib.hid ((HR9.out.below hb10 HR.out.lt).grown hg11 (fun e => by have := HR.out.lt; have := HB2.out.size; have := HGG.out; injection e with e; omega))
          have HD10 := Lib.hid ((show Blk w10 g10 22 (D.map B8) from (hf10.2 g10 HD9.out.lt (fun a e => by have := HNE.out a e; have := HGG.out; have := HP3.out.lt; have := HG10.out; omega)).trans HD9.out).grown hg11 (fun e => by have := HG10.out; have := HP3.out.lt; injection e with e; omega))
          have hw10 := HW9.out.trans (hb10.mono (Nat.le_refl _))
          have HW11 := Lib.hid (below_new hw10 hg11 (by have := HGG.out; have := HB2.out.size; omega) hw10.size)
          have HP11 := Lib.hid hS11
          have HN5 := Lib.hid (fun a e => (show g < a.block ∧ w1.heap.size ≤ a.block from ⟨Nat.lt_of_lt_of_le hgw (hn5 a e), Nat.le_trans HW9.out.size (hn5 a e)⟩))
          have HM5 := Lib.hid (And.intro hm5 hQ5)
          clear hA5 hg11 hb10 hn5 hf10 hw10 hS11 hm5 hQ5 hp9 hgw HUN9
          by_cases he0 : eu = 0
          · subst he0
            have HZ := Lib.hid (show openedE b M sec = ((cu, iu, D, lu), 0) by rw [HE.out]; simp [h1, HQD.out])
            have hd11 := HD10.out
            have hp11 := HP11.out
            go_upto_region 14 with (first
              | ((with_reducible refine (?_ : wpList _ _ _ (Oper.mk (some 50) _ _ _ _ _ :: _) _ _)); go_loud (refine wpList_load_blk rfl 22 (.tmp 10) rfl g10 rfl _ _ _ (hd11) Tryd.underlying22 rfl (inf16.trans (by rw [List.length_map, HDL.out])) ?_))
              | ((with_reducible refine (?_ : wpList _ _ _ (Oper.mk none _ _ _ _ _ :: _) _ _)); go_loud (refine wpList_store_mid rfl 22 (.tmp 51) (.tmp 50) rfl g 2 (D.map B8).toArray rfl rfl (by have := there_auth hp11 HM5.out.2; simpa [HDL.out] using this) (inf16.trans (by simp [HDL.out])) (by rw [List.all_toArray]; exact List.all_eq_true.2 (fun u hu => oneB8 D u hu)) ?_)))
            have hp12 := blk_auth hp11 HM5.out.2 HDL.out
            have hgs : w11.grownBy (w11.setCells g 2 (D.map B8)) (some g) := grown_setCells w11 g 2 (D.map B8)
            have HA12 := Lib.hid (HA11.out.grown hgs (fun _ a e e2 => by have := (HN5.out a e).1; omega) (fun b hb e2 => by have := HGG.out; omega))
            have HR12 := Lib.hid (HR10.out.grown hgs (fun e => by have := HR.out.lt; have := HB2.out.size; have := HGG.out; injection e with e; omega))
            have HW12 := Lib.hid (below_new HW11.out hgs (by have := HGG.out; have := HB2.out.size; omega) HW11.out.size)
            clear hd11 hp11 hgs
            generalize w11.setCells g 2 (D.map B8) = w12 at *
            go_wp2_with (first
              | ((with_reducible refine (?_ : wpList _ _ _ (Oper.mk (some 52) _ _ _ _ _ :: _) _ _)); go_loud (refine wpList_load_blk rfl 30 (.tmp 8) rfl g rfl _ _ _ (hp12) Tryd.underlying30 rfl (infPk.trans (by rw [pkC_length _ _ _ _ _ _ HDL.out])) ?_))
              | ((with_reducible refine (?_ : wpList _ _ _ (Oper.mk none _ _ _ _ _ :: _) _ _)); go_loud (refine wpList_store_blk rfl 30 (.tmp 6) (.tmp 52) rfl rfl gr (pkC cu iu D A5 m5 c5) rfl rfl _ _ (HR12.out) (infPk.trans (by rw [pkC_length _ _ _ _ _ _ HDL.out])) (by rw [pkC_length _ _ _ _ _ _ HDL.out]; first | rfl | rw [pkC_length _ _ _ _ _ _ HM.out]) (pk_one _ _ _ _ _ _) ?_); intro wz hPz hgz))
            refine bodyPost_ret (v := .tuple #[.agg _, _]) (results_cs rfl _ _ gr 30 _ _ _ rfl rfl hPz Tryd.underlying30 rfl (infPk.trans (by rw [pkC_length _ _ _ _ _ _ HDL.out]))) rfl ?_
            exact ⟨A5, m5, c5, by rw [HZ.out] <;> rfl, by rw [HZ.out]; exact HM5.out.1, by rw [HZ.out]; exact (HA12.out.grown hgz (fun _ a e e2 => by have := (HN5.out a e).2; have := HR.out.lt; omega) (fun b hb e2 => by have := HR.out.lt; omega)).weaken (Nat.le_refl _) (fun b hb => Nat.le_trans HBW.out.size hb.1), by rw [HZ.out]; exact HDL.out, below_new (HBW.out.trans (HW12.out.mono HBW.out.size)) hgz HG.out (Nat.le_trans HBW.out.size HW12.out.size), fun a e => Nat.le_trans HBW.out.size (HN5.out a e).2⟩
          · have HZ := Lib.hid (show openedE b M sec = (zeroPk, eu) by rw [HE.out]; simp [h1, HQD.out, he0])
            have hne : ¬ (eu : Int) = 0 := by omega
            go_wp2_with ((with_reducible refine (?_ : wpList _ _ _ (Oper.mk none _ _ _ _ _ :: _) _ _)); go_loud (refine wpList_store_blk rfl 30 (.tmp 6) (.tmp 48) rfl rfl gr (pkC 0 0 zQ none 0 0) rfl rfl _ _ (HR10.out) (infPk) (rfl) (pk_one _ _ _ _ _ _) ?_); intro wz hPz hgz)
            refine bodyPost_ret (v := .tuple #[.agg _, _]) (results_cs rfl _ _ gr 30 _ _ _ rfl rfl hPz Tryd.underlying30 rfl infPk) rfl ?_
            exact ⟨none, 0, 0, by rw [HZ.out] <;> rfl, by rw [HZ.out]; rfl, by rw [HZ.out]; exact aIn_nil _ _ _, by rw [HZ.out]; rfl, below_new (HBW.out.trans (HW11.out.mono HBW.out.size)) hgz HG.out (Nat.le_trans HBW.out.size (HW11.out).size), fun _ h => by cases h⟩
        · have HZ := Lib.hid (show openedE b M sec = (zeroPk, 5) by rw [HE.out]; simp [h1, hq])
          have HSM := Lib.hid (fun (W : World) (h : Below w7.heap.size w7 W) => same_16 (HSI.out.up h) (HSD.out.up h) HQ.out HDL.out false (decide_eq_false hq))
          clear hq
          refine wp_region_noPanic ?_
          refine wp_region_held_drew (S := fun W => Below w7.heap.size w7 W) (by kernel_rfl) (by exact below_drewN (Below.refl _ _) 1) (fun hHeld => ?_)
          refine wpAnyH_take (i := 0) (oi := ⟨_, _, _, _, _, _⟩) (v := ?_) rfl (by kernel_rfl) (by kernel_rfl) (by kernel_rfl) (fun _ _ _ h => h) (Or.inl ⟨by rfl, ?_⟩) hHeld ?_
          rotate_left 1
          · (intro W hSw; (try dsimp only at hSw); go_simp; try with_reducible rfl)
          try simp only [Act.put, List.setIfInBounds_toArray, List.set_cons_zero, List.set_cons_succ]
          refine wpAnyH_take (i := 1) (oi := ⟨_, _, _, _, _, _⟩) (v := .slice (some ⟨g, 2, none⟩) 16 16) rfl (by kernel_rfl) (by kernel_rfl) (by kernel_rfl) (fun _ _ _ h => h) (Or.inl ⟨by rfl, ?_⟩) hHeld ?_
          · (intro W hSw; go_simp)
          try simp only [Act.put, List.setIfInBounds_toArray, List.set_cons_zero, List.set_cons_succ]
          refine wpAnyH_take (i := 2) (oi := ⟨_, _, _, _, _, _⟩) (v := ?_) rfl (by kernel_rfl) (by kernel_rfl) (by kernel_rfl) (fun _ _ _ h => h) (Or.inl ⟨by rfl, ?_⟩) hHeld ?_
          rotate_left 1
          · (intro W hSw; (try dsimp only at hSw); go_simp; try with_reducible rfl)
          try simp only [Act.put, List.setIfInBounds_toArray, List.set_cons_zero, List.set_cons_succ]
          replace hHeld : Below w7.heap.size w7 w7.drew := hHeld
          generalize w7.drew = wd at *
          refine wpAnyH_ready (rs := [3]) (by kernel_rfl) (by simp) ?_
          refine AllReadyH.cons (o := ⟨_, _, _, _, _, _⟩) rfl (fun K hK => ?_) AllReadyH.nil
          go_simp
          go_at_call 55
          refine (HSM.out wd hHeld).mono ?_
          rintro e w8 ⟨rfl, hb8⟩
          try go_wp2_with fail
          refine hK.out _ _ (hHeld.trans (hb8.mono hHeld.size)) (fun hHeld => ?_)
          clear hK K hb8
          replace hHeld : Below w7.heap.size w7 w8 := hHeld
          try simp only [Act.put, List.setIfInBounds_toArray, List.set_cons_zero, List.set_cons_succ]
          refine wpAnyH_take (i := 4) (oi := ⟨_, _, _, _, _, _⟩) (v := ?_) rfl (by kernel_rfl) (by kernel_rfl) (by kernel_rfl) (fun _ _ _ h => h) (Or.inl ⟨by rfl, ?_⟩) hHeld ?_
          rotate_left 1
          · (intro W hSw; (try dsimp only at hSw); go_simp; try with_reducible rfl)
          try simp only [Act.put, List.setIfInBounds_toArray, List.set_cons_zero, List.set_cons_succ]
          refine wpAnyH_done (by kernel_rfl) ?_ _
          refine NoPanic.normal ?_
          have HX8 := Lib.hid (HX7.out.trans (hHeld.mono HX7.out.size))
          have HB8 := Lib.hid (HB3.out.trans (HX8.out.mono HB3.out.size))
          have HD8 := Lib.hid (HS7.out.below hHeld HS7.out.lt)
          have HR8 := Lib.hid (HR3.out.below HX8.out HR3.out.lt)
          have HP8 := Lib.hid (HP3.out.below HX8.out HP3.out.lt)
          have HK8 := Lib.hid (HK.out.below HB8.out HK.out.lt)
          have HY8 := Lib.hid (HY3.out.trans (HX8.out.mono HY3.out.size))
          clear hHeld
          go_wp2_with ((with_reducible refine (?_ : wpList _ _ _ (Oper.mk none _ _ _ _ _ :: _) _ _)); go_loud (refine wpList_store_blk rfl 30 (.tmp 6) (.tmp 37) rfl rfl gr (pkC 0 0 zQ none 0 0) rfl rfl _ _ (HR8.out) (infPk) (rfl) (pk_one _ _ _ _ _ _) ?_); intro wz hPz hgz)
          refine bodyPost_ret (v := .tuple #[.agg _, _]) (results_cs rfl _ _ gr 30 _ _ _ rfl rfl hPz Tryd.underlying30 rfl infPk) rfl ?_
          exact ⟨none, 0, 0, by rw [HZ.out] <;> rfl, by rw [HZ.out]; rfl, by rw [HZ.out]; exact aIn_nil _ _ _, by rw [HZ.out]; rfl, below_new (HBW.out.trans (HB8.out.mono HBW.out.size)) hgz HG.out (Nat.le_trans HBW.out.size (HB8.out).size), fun _ h => by cases h⟩
  · have HZ := Lib.hid (show openedE b M sec = (zeroPk, 2) by rw [HE.out, if_neg (by decide)])
    go_wp2_with ((with_reducible refine (?_ : wpList _ _ _ (Oper.mk none _ _ _ _ _ :: _) _ _)); go_loud (refine wpList_store_blk rfl 30 (.tmp 6) (.tmp 18) rfl rfl gr (pkC 0 0 zQ none 0 0) rfl rfl _ _ (HR3.out) (infPk) (rfl) (pk_one _ _ _ _ _ _) ?_); intro wz hPz hgz)
    refine bodyPost_ret (v := .tuple #[.agg _, _]) (results_cs rfl _ _ gr 30 _ _ _ rfl rfl hPz Tryd.underlying30 rfl infPk) rfl ?_
    exact ⟨none, 0, 0, by rw [HZ.out] <;> rfl, by rw [HZ.out]; rfl, by rw [HZ.out]; exact aIn_nil _ _ _, by rw [HZ.out]; rfl, below_new (HBW.out.trans (HB3.out.mono HBW.out.size)) hgz HG.out (Nat.le_trans HBW.out.size (HB3.out).size), fun _ h => by cases h⟩
end Go.Proofs.YtbomckbekcaemaaDoor
