/-
  The contract of package radius's Reply.
-/
import Derived.Test.YtbomckbekcaemaaDoorRu0
namespace Go.Proofs.YtbomckbekcaemaaDoor
open Go.RowKit

theorem qof_two {W : World} {A A' : Option Addr} {c c' n n' gp : Nat} {x y d : List UInt8} (ix : In W W.heap.size A c x) (hn : x.length = n) (iy : In W W.heap.size A' c' y) (hn' : y.length = n') (h0 : W.cell? ⟨gp, 0, none⟩ = some (.slice A n c)) (h1 : W.cell? ⟨gp, 1, none⟩ = some (.slice A' n' c')) (hx : n ≤ 1000000) (hy : n' ≤ 1000000) (hd : d = md5 (x ++ y)) (ht : TabsQ W) :
    Calls Tryd.prog 52 #[.slice (some ⟨gp, 0, none⟩) 2 2] W fun e w' => e = .returned (.agg (d.map B8).toArray) ∧ Below W.heap.size W w' := by
  subst hn hn' hd
  have hlt : gp < W.heap.size := by have := block_lt_of_cell h0; simpa using this
  have := qOf_any 2 (some ⟨gp, 0, none⟩) [x, y] W (by simp; omega) (by simp) (by decide) (fun g hg _ => ⟨gp, 0, rfl, by omega, fun j hj => by
    rcases Nat.lt_or_ge j 1 with h | h
    · obtain rfl : j = 0 := by omega
      exact ⟨A, c, h0, ix.1, ix.2.1, ix.src hg⟩
    · obtain rfl : j = 1 := by simp at hj; omega
      exact ⟨A', c', h1, iy.1, iy.2.1, iy.src hg⟩⟩) ht
  simpa using this
set_option maxRecDepth 100000 in
set_option maxHeartbeats 1000000 in
theorem reply_ask (c n ls cs : Nat) (code id : Int) (Q M : List UInt8) (A As : Option Addr) (la : Attrs) (sec : List UInt8) (w : World) (_hQ : Q.length = 16) (_hM : M.length = 16) (_hn : la.length = n) (_hA : AIn w w.heap.size A c la) (_hls : sec.length = ls) (_is : In w w.heap.size As cs sec) (_ht : TabsQ w) (_hm : n ≤ 400000) (_hm2 : ls ≤ 1000000) (hc : code = 1) :
    Calls Tryd.prog 22 #[.agg (pkC code id Q A n c).toArray, .agg (M.map B8).toArray, .slice As ls cs] w (WrapPost (replyE code id M la sec) w) := by
  have HZ := Lib.hid (show replyE code id M la sec = ([], 1) by unfold replyE; rw [if_pos hc])
  subst hc
  clear _hQ _hM _hn _hA
  go_enter Tryd.func22, Tryd.ntmps22
  go_upto_region 1 with (fail)
  have hP := (Blk.new_of w 30 (pkC 1 id Q A n c).toArray (pkC 1 id Q A n c) rfl).alloc (.cells (M.map B8).toArray 22)
  have hK := Blk.new2_of w (.cells (pkC 1 id Q A n c).toArray 30) 22 _ (M.map B8) rfl
  have hb0 : Below w.heap.size w (w.alloc (.cells (pkC 1 id Q A n c).toArray 30)) := (Below.refl _ _).alloc (Nat.le_refl _) _
  have hbw := hb0.alloc hb0.size (.cells (M.map B8).toArray 22)
  obtain ⟨gk, hgk⟩ : ∃ gk, gk = w.heap.size + 1 := ⟨_, rfl⟩
  obtain ⟨g, hg⟩ : ∃ g, g = w.heap.size := ⟨_, rfl⟩
  have HG := Lib.hid (show w.heap.size ≤ g ∧ g ≠ gk by omega)
  rw [← hgk] at hK
  rw [← hg] at hP
  simp only [← hgk]
  clear hgk
  simp only [← hg]
  have hp1 := hP
  have hk1 := hK
  have hc0 : ((w.alloc (.cells (pkC 1 id Q A n c).toArray 30)).alloc (.cells (M.map B8).toArray 22)).cell? ⟨g, 0, none⟩ = some (.int .i64 1) := hP.cell 0
  have HXw1 := Lib.hid hbw
  clear hg hP hK hb0 hbw
  generalize (w.alloc (.cells (pkC 1 id Q A n c).toArray 30)).alloc (.cells (M.map B8).toArray 22) = w1 at *
  go_wp2
  go_ret2
  exact ⟨none, 0, 0, by rw [HZ.out] <;> rfl, by rw [HZ.out]; exact Buf.nil _ _, HXw1.out⟩
set_option maxRecDepth 100000 in
set_option maxHeartbeats 1000000 in
theorem reply_go (c n ls cs : Nat) (code id : Int) (Q M : List UInt8) (A As : Option Addr) (la : Attrs) (sec : List UInt8) (w : World) (hQ : Q.length = 16) (hM : M.length = 16) (hn : la.length = n) (hA : AIn w w.heap.size A c la) (hls : sec.length = ls) (is : In w w.heap.size As cs sec) (ht : TabsQ w) (hm : n ≤ 400000) (hm2 : ls ≤ 1000000) (hc : ¬ code = 1) :
    Calls Tryd.prog 22 #[.agg (pkC code id Q A n c).toArray, .agg (M.map B8).toArray, .slice As ls cs] w (WrapPost (replyE code id M la sec) w) := by
  obtain ⟨S, er, hSE⟩ : ∃ S er, markE code id M la sec = (S, er) := ⟨_, _, rfl⟩
  have hcs : er = 0 → 20 ≤ S.length ∧ S.length ≤ 4096 := by
    intro he
    subst he
    unfold markE at hSE
    split at hSE
    · injection hSE with _ e2; exact absurd e2 (by decide)
    · split at hSE
      · next hp =>
        injection hSE with e1 e2
        have hl := pkB_length code id M (la ++ [(80, hmacQ sec (pkB code id M (la ++ [(80, zQ)])))]) hM
        have hf := whole_fit (pk_ranges (show pkOK code id (la ++ [(80, hmacQ sec (pkB code id M (la ++ [(80, zQ)])))]) = true by rw [pkOK_mac code id la _ zQ (hmacQ_len _ _) rfl]; exact hp)).2.2
        rw [e1] at hl
        omega
      · injection hSE with _ e2; exact absurd e2 (by decide)
  have HRP := Lib.hid (show replyE code id M la sec = if er = 0 then (S.take 4 ++ md5 (S ++ sec) ++ S.drop 20, 0) else ([], er) by unfold replyE; rw [if_neg hc, hSE])
  have HMKD := Lib.hid (fun (W : World) (h : Below w.heap.size w W) => (show Calls Tryd.prog 49 #[.agg (pkC code id M A n c).toArray, .slice As ls cs] W (WrapPost (S, er) W) by rw [← hSE]; exact marked_e c n ls cs code id M A As la sec W hM hn (hA.up h) hls (is.up h) (ht.below h) hm hm2))
  unfold WrapPost at HMKD
  have HQ := Lib.hid hQ
  have HM := Lib.hid hM
  have HS := Lib.hid (And.intro hls (And.intro is (And.intro ht hm2)))
  clear hQ hM hn hA hls is ht hm hm2 hSE
  go_enter Tryd.func22, Tryd.ntmps22
  go_upto_region 1 with (fail)
  have hP := (Blk.new_of w 30 (pkC code id Q A n c).toArray (pkC code id Q A n c) rfl).alloc (.cells (M.map B8).toArray 22)
  have hK := Blk.new2_of w (.cells (pkC code id Q A n c).toArray 30) 22 _ (M.map B8) rfl
  have hb0 : Below w.heap.size w (w.alloc (.cells (pkC code id Q A n c).toArray 30)) := (Below.refl _ _).alloc (Nat.le_refl _) _
  have hbw := hb0.alloc hb0.size (.cells (M.map B8).toArray 22)
  obtain ⟨gk, hgk⟩ : ∃ gk, gk = w.heap.size + 1 := ⟨_, rfl⟩
  obtain ⟨g, hg⟩ : ∃ g, g = w.heap.size := ⟨_, rfl⟩
  have HG := Lib.hid (show w.heap.size ≤ g ∧ g ≠ gk by omega)
  rw [← hgk] at hK
  rw [← hg] at hP
  simp only [← hgk]
  clear hgk
  simp only [← hg]
  have hp1 := hP
  have hk1 := hK
  have hc0 : ((w.alloc (.cells (pkC code id Q A n c).toArray 30)).alloc (.cells (M.map B8).toArray 22)).cell? ⟨g, 0, none⟩ = some (.int .i64 code) := hP.cell 0
  have HXw1 := Lib.hid hbw
  clear hg hP hK hb0 hbw
  generalize (w.alloc (.cells (pkC code id Q A n c).toArray 30)).alloc (.cells (M.map B8).toArray 22) = w1 at *
  go_upto_region 4 with (first
    | ((with_reducible refine (?_ : wpList _ _ _ (Oper.mk (some 14) _ _ _ _ _ :: _) _ _)); go_loud (refine wpList_load_blk rfl 22 (.tmp 4) rfl gk rfl _ _ _ (hk1) Tryd.underlying22 rfl (inf16.trans (by rw [List.length_map, HM.out])) ?_))
    | ((with_reducible refine (?_ : wpList _ _ _ (Oper.mk none _ _ _ _ _ :: _) _ _)); go_loud (refine wpList_store_mid rfl 22 (.tmp 15) (.tmp 14) rfl g 2 (M.map B8).toArray rfl rfl (by have := there_auth hp1 HQ.out; simpa [HM.out] using this) (inf16.trans (by simp [HM.out])) (by rw [List.all_toArray]; exact List.all_eq_true.2 (fun u hu => oneB8 M u hu)) ?_)))
  have hp2 := blk_auth hp1 HQ.out HM.out
  have HX2 := Lib.hid (below_new HXw1.out (grown_setCells w1 g 2 (M.map B8)) HG.out.1 HXw1.out.size)
  clear hk1 hp1 hc0
  replace HX2 : Hid (Below w.heap.size w (w1.setCells g 2 (M.map B8))) := HX2
  generalize w1.setCells g 2 (M.map B8) = w2 at *
  go_upto_region 5 with (first
    | ((with_reducible refine (?_ : wpList _ _ _ (Oper.mk (some 17) _ _ _ _ _ :: _) _ _)); go_loud (refine wpList_load_blk rfl 30 (.tmp 3) rfl g rfl _ _ _ (hp2) Tryd.underlying30 rfl (infPk.trans (by rw [pkC_length _ _ _ _ _ _ HM.out])) ?_))
    | (go_at_call 49; refine (HMKD.out _ HX2.out).mono ?_; rintro e w3 ⟨A3, n3, c3, rfl, hB3, hb3⟩))
  have HX3 := Lib.hid (HX2.out.trans (hb3.mono HX2.out.size))
  have HB3 := Lib.hid hB3
  have HX23 := Lib.hid hb3
  clear hp2 hB3 hb3
  by_cases he0 : er = 0
  · subst he0
    obtain ⟨hl1, hl2⟩ := hcs rfl
    have hn3 : S.length = n3 := HB3.out.1
    obtain ⟨gB, hgB, hgB1, hgB2, _⟩ := HB3.out.at (by omega)
    subst hgB
    have HGB := Lib.hid (And.intro hgB1 hgB2)
    have HL3 := Lib.hid (And.intro hn3 (And.intro hl1 hl2))
    obtain ⟨D, hD⟩ : ∃ D, D = md5 (S ++ sec) := ⟨_, rfl⟩
    have HDL := Lib.hid (show D.length = 16 by rw [hD]; exact md5_length _)
    have HDD := Lib.hid hD
    have HZ := Lib.hid (show replyE code id M la sec = (S.take 4 ++ D ++ S.drop 20, 0) by rw [HRP.out, if_pos rfl, hD])
    clear hgB1 hgB2 hn3 hl1 hl2 hD hcs
    have hal3 := (Below.refl w3.heap.size w3).alloc (Nat.le_refl _) (.cells #[.slice (some ⟨gB, 0, none⟩) n3 c3, .slice As ls cs] 26)
    have hnb := Blk.new_of w3 26 #[.slice (some ⟨gB, 0, none⟩) n3 c3, .slice As ls cs] [.slice (some ⟨gB, 0, none⟩) n3 c3, .slice As ls cs] rfl
    go_upto_region 8 with (first
      | (go_at_call 52; refine (qof_two (gp := w3.heap.size) (x := S) (y := sec) (d := D) ((HB3.out.toIn (Nat.le_refl _)).up hal3) HL3.out.1 ((HS.out.2.1.up HX3.out).up hal3) HS.out.1 (hnb.cell 0) (hnb.cell 1) (by have := HL3.out; omega) HS.out.2.2.2 HDD.out ((HS.out.2.2.1.below HX3.out).below hal3)).mono ?_; rintro e w4 ⟨rfl, hb4⟩)
      | ((with_reducible refine (?_ : wpList _ _ _ (Oper.mk none _ _ _ _ _ :: _) _ _)); go_loud (refine wpList_store_blk rfl 22 (.tmp 10) (.tmp 28) rfl rfl w4.heap.size (D.map B8) rfl rfl _ _ (Blk.new_of w4 22 #[.int .u8 0, .int .u8 0, .int .u8 0, .int .u8 0, .int .u8 0, .int .u8 0, .int .u8 0, .int .u8 0, .int .u8 0, .int .u8 0, .int .u8 0, .int .u8 0, .int .u8 0, .int .u8 0, .int .u8 0, .int .u8 0] (zQ.map B8) rfl) (inf16.trans (by rw [List.length_map, HDL.out])) (by rw [List.length_map, List.length_map, HDL.out]; rfl) (one8 _) ?_); intro w5 hS5 hg5))
    have h34 := hal3.trans (hb4.mono hal3.size)
    have h4a : Below w4.heap.size w4 (w4.alloc (.cells #[.int .u8 0, .int .u8 0, .int .u8 0, .int .u8 0, .int .u8 0, .int .u8 0, .int .u8 0, .int .u8 0, .int .u8 0, .int .u8 0, .int .u8 0, .int .u8 0, .int .u8 0, .int .u8 0, .int .u8 0, .int .u8 0] 22)) := (Below.refl _ _).alloc (Nat.le_refl _) _
    have hb5 : Below w3.heap.size w3 w5 := h34.trans ((below_new h4a hg5 (Nat.le_refl _) h4a.size).mono h34.size)
    have HB5 := Lib.hid (HB3.out.below hb5)
    have HM5 := Lib.hid hS5
    have HBT := Lib.hid (HX3.out.trans (hb5.mono HX3.out.size))
    have hcc : n3 ≤ c3 := HB3.out.le.1
    have HO := Lib.hid (show 4 + 16 ≤ n3 by have := HL3.out; omega)
    have e3 : (4 : Int) ≤ (n3 : Int) := by have := HL3.out; omega
    have e4 : (n3 : Int) ≤ (c3 : Int) := by omega
    have e4b : (4 : Int) ≤ (c3 : Int) := by omega
    have e5 : ¬ c3 = 4 := by have := HL3.out; omega
    generalize w4.heap.size = g9 at *
    clear h4a hb5 hS5 hg5 h34 hb4 hal3 hnb hcc
    refine wp_region_noPanic ?_
    refine wp_region_held_drew (S := fun _ => True) (by kernel_rfl) (trivial) (fun hHeld => ?_)
    refine wpAnyH_take (i := 0) (oi := ⟨_, _, _, _, _, _⟩) (v := ?_) rfl (by kernel_rfl) (by kernel_rfl) (by kernel_rfl) (fun _ _ _ h => h) (Or.inl ⟨by rfl, ?_⟩) hHeld ?_
    rotate_left 1
    · (intro W hSw; (try dsimp only at hSw); go_simp; try with_reducible rfl)
    try simp only [Act.put, List.setIfInBounds_toArray, List.set_cons_zero, List.set_cons_succ]
    refine wpAnyH_take (i := 1) (oi := ⟨_, _, _, _, _, _⟩) (v := .slice (some ⟨gB, 4, none⟩) (n3 - 4) (c3 - 4)) rfl (by kernel_rfl) (by kernel_rfl) (by kernel_rfl) (fun _ _ _ h => h) (Or.inl ⟨by rfl, ?_⟩) hHeld ?_
    · (intro W hSw; go_simp)
    try simp only [Act.put, List.setIfInBounds_toArray, List.set_cons_zero, List.set_cons_succ]
    refine wpAnyH_take (i := 2) (oi := ⟨_, _, _, _, _, _⟩) (v := ?_) rfl (by kernel_rfl) (by kernel_rfl) (by kernel_rfl) (fun _ _ _ h => h) (Or.inl ⟨by rfl, ?_⟩) hHeld ?_
    rotate_left 1
    · (intro W hSw; (try dsimp only at hSw); go_simp; try with_reducible rfl)
    try simp only [Act.put, List.setIfInBounds_toArray, List.set_cons_zero, List.set_cons_succ]
    have hHd : Below w5.heap.size w5 w5.drew := below_drewN (Below.refl _ _) 1
    have hBd := HB5.out.below hHd
    have hMd := HM5.out.below hHd HM5.out.lt
    have hHD := HBT.out.trans (hHd.mono HBT.out.size)
    have hgd := grown_setCells w5.drew gB 4 (D.map B8)
    clear hHd
    generalize w5.drew = wd at *
    refine wpAnyH_ready (rs := [3]) (by kernel_rfl) (by simp) ?_
    refine AllReadyH.cons (o := ⟨_, _, _, _, _, _⟩) rfl (fun K hK => ?_) AllReadyH.nil
    rw [if_pos (by simp [Region.wanted])]
    have hcp := fun ty => run_copy_buf (ty := ty) (dc := c3 - 4) (sc := 16) hBd (by rw [HDL.out]; exact HO.out) (n3 - 4) rfl hMd
    rw [HDL.out] at hcp
    refine wp_copyR wd (.tmp 30) (.tmp 31) 26 26 rfl _ _ rfl rfl (hcp _) ?_
    refine hK.out _ _ trivial (fun hHeld => ?_)
    clear hK K hcp
    try simp only [Act.put, List.setIfInBounds_toArray, List.set_cons_zero, List.set_cons_succ]
    refine wpAnyH_done (by kernel_rfl) ?_ _
    refine NoPanic.normal ?_
    go_wp2
    go_ret2
    have hfin := hBd.setCells (o := 4) (xs := D) (by rw [HDL.out]; exact HO.out)
    refine ⟨_, _, _, by rw [HZ.out] <;> rfl, ?_, below_new hHD hgd (Nat.le_trans HX2.out.size HGB.out.1) hHD.size⟩
    rw [HZ.out]
    have e8 : S.take 4 ++ D ++ S.drop 20 = S.take 4 ++ (D ++ S.drop (4 + D.length)) := by rw [HDL.out, List.append_assoc]
    rw [e8]
    exact hfin.base HX2.out.size
  · have HZ := Lib.hid (show replyE code id M la sec = ([], er) by rw [HRP.out, if_neg he0])
    have hne : ¬ (er : Int) = 0 := by omega
    clear hcs
    go_wp2
    go_ret2
    exact ⟨none, 0, 0, by rw [HZ.out] <;> rfl, by rw [HZ.out]; exact Buf.nil _ _, HX3.out⟩
theorem reply_e (c n ls cs : Nat) (code id : Int) (Q M : List UInt8) (A As : Option Addr) (la : Attrs) (sec : List UInt8) (w : World) (hQ : Q.length = 16) (hM : M.length = 16) (hn : la.length = n) (hA : AIn w w.heap.size A c la) (hls : sec.length = ls) (is : In w w.heap.size As cs sec) (ht : TabsQ w) (hm : n ≤ 400000) (hm2 : ls ≤ 1000000) :
    Calls Tryd.prog 22 #[.agg (pkC code id Q A n c).toArray, .agg (M.map B8).toArray, .slice As ls cs] w (WrapPost (replyE code id M la sec) w) := by
  by_cases hc : code = 1
  · exact reply_ask c n ls cs code id Q M A As la sec w hQ hM hn hA hls is ht hm hm2 hc
  · exact reply_go c n ls cs code id Q M A As la sec w hQ hM hn hA hls is ht hm hm2 hc
end Go.Proofs.YtbomckbekcaemaaDoor
