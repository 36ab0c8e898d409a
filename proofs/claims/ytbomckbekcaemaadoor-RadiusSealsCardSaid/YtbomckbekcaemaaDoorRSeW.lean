/-
  The walk of the statement RadiusSeals.
-/
import Derived.Test.YtbomckbekcaemaaDoorRsx
import Derived.Test.YtbomckbekcaemaaDoorRsf
import Derived.Test.YtbomckbekcaemaaDoorRt0
namespace Go.Proofs.YtbomckbekcaemaaDoor
open Go.RowKit

theorem unp_len {code id : Int} {Q : List UInt8} {la : Attrs} {m er base : Nat} {w w' : World} {e : Ending} (h : UnPost ((code, id, Q, la), er) base w e w') (hm : la.length = m) : ∃ A c, e = .returned (.tuple #[.agg (pkC code id Q A m c).toArray, .int .i64 (er : Int)]) ∧ AIn w' w'.heap.size A c la ∧ Below base w w' := by
  subst hm
  obtain ⟨A, m', c, rfl, hl, hA, _, hb, _⟩ := h
  simp only at hl hA
  subst hl
  exact ⟨A, c, rfl, hA.toIn, hb⟩
theorem told_len {la : Attrs} {m : Nat} {w w' : World} {e : Ending} (h : ∃ v, e = .returned v ∧ SRow w' w.heap.size v la ∧ Below w.heap.size w w') (hm : la.length = m) : ∃ A c, e = .returned (.slice A m c) ∧ SIn w' w'.heap.size A c la ∧ Below w.heap.size w w' := by
  subst hm
  obtain ⟨v, rfl, hS, hb⟩ := h
  obtain ⟨A, c, rfl, hI⟩ := hS.slice
  exact ⟨A, c, rfl, hI, hb⟩
theorem seals_ways (code id : Int) (Q M : List UInt8) (tl : Attrs) (sec : List UInt8) (hQ : Q.length = 16) (hM : M.length = 16) :
    ((sealE code id Q tl sec).2 = 0 ∧ openE (sealE code id Q tl sec).1 sec = ((code, id, Q, tl), 0) ∧ ¬ (replyE code id M tl sec).2 = 0) ∨ (¬ (sealE code id Q tl sec).2 = 0 ∧ (replyE code id M tl sec).2 = 0 ∧ ∃ D, D.length = 16 ∧ openedE (replyE code id M tl sec).1 M sec = ((code, id, D, tl), 0)) ∨ (¬ (sealE code id Q tl sec).2 = 0 ∧ ¬ (replyE code id M tl sec).2 = 0) := by
  by_cases hc : code = 1
  · subst hc
    have h2 : ¬ (replyE 1 id M tl sec).2 = 0 := by unfold replyE; rw [if_pos rfl]; decide
    have h1 : sealE 1 id Q tl sec = markE 1 id Q tl sec := by unfold sealE; rw [if_pos rfl]
    rw [h1]
    obtain ⟨S, er, hS⟩ : ∃ S er, markE 1 id Q tl sec = (S, er) := ⟨_, _, rfl⟩
    rw [hS]
    by_cases he : er = 0
    · subst he
      exact .inl ⟨rfl, open_mark hQ hS, h2⟩
    · exact .inr (.inr ⟨he, h2⟩)
  · have h1 : ¬ (sealE code id Q tl sec).2 = 0 := by unfold sealE; rw [if_neg hc]; decide
    obtain ⟨S, er, hS⟩ : ∃ S er, markE code id M tl sec = (S, er) := ⟨_, _, rfl⟩
    by_cases he : er = 0
    · subst he
      refine .inr (.inl ⟨h1, ?_, _, md5_length _, opened_reply hM hc hS⟩)
      unfold replyE
      rw [if_neg hc, hS]
      rfl
    · refine .inr (.inr ⟨h1, ?_⟩)
      unfold replyE
      rw [if_neg hc, hS, if_neg he]
      exact he
set_option maxRecDepth 100000 in
set_option maxHeartbeats 4000000 in
theorem radiusSeals_walk (code id : Int) (Q M : List UInt8) (Ap A0 : Option Addr) (np cp c0 n0 : Nat) (la : Attrs) (b0 : List UInt8) (w : World) (hQ : Q.length = 16) (hnp : la.length = np) (iP : SIn w w.heap.size Ap cp la) (hM : M.length = 16) (hn0 : b0.length = n0) (i0 : In w w.heap.size A0 c0 b0) (ht : TabsQ w) :
    Calls Tryd.prog 4 #[.agg (pkC code id Q Ap np cp).toArray, .agg (M.map B8).toArray, .slice A0 n0 c0] w fun e w' => e = .returned (.bool true) ∧ Below w.heap.size w w' := by
  obtain ⟨n1, hn1⟩ : ∃ n1, n1 = min n0 100 := ⟨_, rfl⟩
  obtain ⟨hm1, hm2, hm3⟩ := ix_cutW (most := 100) hn1 (show n0 ≤ c0 by rw [← hn0]; exact i0.1)
  replace hm1 : min (n0 : Int) 100 = (n1 : Int) := hm1
  have hb1 : (b0.take n1).length = n1 := by rw [List.length_take]; omega
  have i1 := i0.take n1
  generalize b0.take n1 = sec at *
  have hb9 : n1 ≤ 100 := by omega
  obtain ⟨htl, htv⟩ := tameA_bounds la
  have HTAM0 := fun (W : World) (m : Nat) (hm : (tameA la).length = m) (h : Below w.heap.size w W) => (show Calls Tryd.prog 11 #[.agg (pkC code id Q Ap np cp).toArray] W _ from (tame_e code id Q Ap cp np la W hQ hnp (iP.up h)).mono (fun e w' h => pks_row h hm))
  generalize tameA la = tl at *
  obtain ⟨m, hm⟩ : ∃ m, tl.length = m := ⟨_, rfl⟩
  have hm20 : m ≤ 20 := by omega
  have HTAM := Lib.hid (fun (W : World) (h : Below w.heap.size w W) => HTAM0 W m hm h)
  have HTO := Lib.hid (fun (W : World) (A : Option Addr) (c : Nat) (h : SIn W W.heap.size A c tl) => (show Calls Tryd.prog 12 #[.agg (pkC code id Q A m c).toArray] W _ from (to_e code id Q A c m tl W hQ hm h (by omega) (fun j hj => Nat.le_trans (htv j hj) (by decide))).mono (fun e w' h => pka_len h hm)))
  have hways := seals_ways code id Q M tl sec hQ hM
  have HSE0 := fun (W : World) (A : Option Addr) (c : Nat) (h : AIn W W.heap.size A c tl) (hb : Below w.heap.size w W) => seal_e c m n1 c0 code id Q A A0 tl sec W hQ hm h hb1 (i1.up hb) (ht.below hb) (by omega) (by omega)
  have HRS0 := fun (W : World) (A : Option Addr) (c : Nat) (h : SIn W W.heap.size A c tl) => rSeal_e c m code id Q A tl sec W hQ hm h (by omega) (by omega)
  have HRP0 := fun (W : World) (A : Option Addr) (c : Nat) (h : AIn W W.heap.size A c tl) (hb : Below w.heap.size w W) => reply_e c m n1 c0 code id Q M A A0 tl sec W hQ hM hm h hb1 (i1.up hb) (ht.below hb) (by omega) (by omega)
  have HRR0 := fun (W : World) (A : Option Addr) (c : Nat) (h : SIn W W.heap.size A c tl) => rreply_e c m code id Q M A tl sec W hQ hM hm h (by omega) (by omega)
  obtain ⟨S1, e1, hS1⟩ : ∃ S1 e1, sealE code id Q tl sec = (S1, e1) := ⟨_, _, rfl⟩
  obtain ⟨S2, e2, hS2⟩ : ∃ S2 e2, replyE code id M tl sec = (S2, e2) := ⟨_, _, rfl⟩
  rw [hS1, hS2] at hways
  rw [hS1] at HSE0 HRS0
  rw [hS2] at HRP0 HRR0
  simp only at hways HRS0 HRR0
  unfold WrapPost at HSE0 HRP0
  simp only at HSE0 HRP0
  have HSE := Lib.hid HSE0
  have HRS := Lib.hid HRS0
  have HRP := Lib.hid HRP0
  have HRR := Lib.hid HRR0
  have HWAY := Lib.hid hways
  have HOPN := Lib.hid (fun (hw : openE S1 sec = ((code, id, Q, tl), 0)) (W : World) (A : Option Addr) (c k : Nat) (hk : S1.length = k) (h : In W W.heap.size A c S1) (hb : Below w.heap.size w W) => (show Calls Tryd.prog 24 #[.slice A k c, .slice A0 n1 c0] W _ from (open_e A A0 c c0 k n1 S1 sec W hk h hb1 (i1.up hb) (ht.below hb) (by omega)).mono (fun e w' h => unp_len (by rw [hw] at h; exact h) hm)))
  have HOPD := Lib.hid (fun (D : List UInt8) (hw : openedE S2 M sec = ((code, id, D, tl), 0)) (W : World) (A : Option Addr) (c k : Nat) (hk : S2.length = k) (h : In W W.heap.size A c S2) (hb : Below w.heap.size w W) => (show Calls Tryd.prog 25 #[.slice A k c, .agg (M.map B8).toArray, .slice A0 n1 c0] W _ from (opened_e A A0 c c0 k n1 S2 M sec W hM hk h hb1 (i1.up hb) (ht.below hb) (by omega)).mono (fun e w' h => unp_len (by rw [hw] at h; exact h) hm)))
  have HSPK := Lib.hid (fun (W : World) (hb : Below w.heap.size w W) => speaks_e W (ht.below hb))
  have HFR := Lib.hid (fun (W : World) (A : Option Addr) (c : Nat) (h : AIn W W.heap.size A c tl) => (show Calls Tryd.prog 17 #[.agg (pkC code id Q A m c).toArray] W _ from (from_e code id Q A c m tl W hQ hm h (by omega)).mono (fun e w' h => pks_len h hm)))
  have HTL := Lib.hid (fun (W : World) (A : Option Addr) (c : Nat) (h : AIn W W.heap.size A c tl) => (show Calls Tryd.prog 27 #[.slice A m c] W _ from (told_e A c m tl W hm h (by omega)).mono (fun e w' h => told_len h hm)))
  have HSM := Lib.hid (fun (W : World) (A A' : Option Addr) (c c' : Nat) (h : SIn W W.heap.size A c tl) (h' : SIn W W.heap.size A' c' tl) => (show Calls Tryd.prog 16 #[.agg (pkC code id Q A m c).toArray, .agg (pkC code id Q A' m c').toArray] W (fun e w' => e = .returned (.bool true) ∧ Below W.heap.size W w') by have := same_e code code id id Q Q A A' c c' m m tl tl W hQ hQ hm h hm h'; simpa using this))
  have HAT := Lib.hid (fun (W : World) (A A' : Option Addr) (c c' : Nat) (h : SIn W W.heap.size A c tl) (h' : SIn W W.heap.size A' c' tl) => (show Calls Tryd.prog 26 #[.slice A m c, .slice A' m c'] W (fun e w' => e = .returned (.bool true) ∧ Below W.heap.size W w') by have := rattrs_e A A' c c' m m tl tl W hm h hm h'; simpa using this))
  have HQL := Lib.hid hQ
  have HML := Lib.hid hM
  have HI0 := Lib.hid (And.intro hb1 i1)
  clear hn1 hn0 i0 hb1 i1 hb9 htl htv HTAM0 hnp iP hm hm20 hQ hM ht hways HSE0 HRS0 HRP0 HRR0 hS1 hS2
  go_enter Tryd.func4, Tryd.ntmps4
  go_upto_region 1 with (fail)
  have hP := (Blk.new_of w 25 (pkC code id Q Ap np cp).toArray (pkC code id Q Ap np cp) rfl).alloc (.cells (M.map B8).toArray 22)
  have hK := Blk.new2_of w (.cells (pkC code id Q Ap np cp).toArray 25) 22 _ (M.map B8) rfl
  have hb0 : Below w.heap.size w (w.alloc (.cells (pkC code id Q Ap np cp).toArray 25)) := (Below.refl _ _).alloc (Nat.le_refl _) _
  have hbw := hb0.alloc hb0.size (.cells (M.map B8).toArray 22)
  obtain ⟨gk, hgk⟩ : ∃ gk, gk = w.heap.size + 1 := ⟨_, rfl⟩
  obtain ⟨g, hg⟩ : ∃ g, g = w.heap.size := ⟨_, rfl⟩
  have HG := Lib.hid (show w.heap.size ≤ g ∧ g ≠ gk by omega)
  rw [← hgk] at hK
  rw [← hg] at hP
  simp only [← hgk]
  clear hgk
  simp only [← hg]
  have HX1 := Lib.hid hbw
  clear hg hb0 hbw
  generalize (w.alloc (.cells (pkC code id Q Ap np cp).toArray 25)).alloc (.cells (M.map B8).toArray 22) = w1 at *
  go_upto_region 2 with (first
    | ((with_reducible refine (?_ : wpList _ _ _ (Oper.mk (some 20) _ _ _ _ _ :: _) _ _)); go_loud (refine wpList_load_blk rfl 25 (.tmp 3) rfl g rfl _ _ _ (hP) Tryd.underlying25 rfl (infRP.trans (by rw [pkC_length _ _ _ _ _ _ HQL.out])) ?_))
    | (go_at_call 11; refine (HTAM.out _ HX1.out).mono ?_; rintro e w2 ⟨A2, c2, rfl, hI2, hb2⟩)
    | ((with_reducible refine (?_ : wpList _ _ _ (Oper.mk none _ _ _ _ _ :: _) _ _)); go_loud (refine wpList_store_blk rfl 25 (.tmp 3) (.tmp 21) rfl rfl g (pkC code id Q A2 m c2) rfl rfl _ _ (hP.below hb2 hP.lt) (infRP.trans (by rw [pkC_length _ _ _ _ _ _ HQL.out])) (by rw [pkC_length _ _ _ _ _ _ HQL.out]; first | rfl | rw [pkC_length _ _ _ _ _ _ HQL.out]) (pk_one _ _ _ _ _ _) ?_); intro w3 hP3 hg3))
  have HX3 := Lib.hid (below_new (HX1.out.trans (hb2.mono HX1.out.size)) hg3 HG.out.1 (Nat.le_trans HX1.out.size hb2.size))
  have HP3 := Lib.hid hP3
  have HK3 := Lib.hid ((hK.below hb2 hK.lt).grown hg3 (fun e => by have := HG.out.2; injection e with e; omega))
  have HI3 := Lib.hid (hI2.grown hg3 (show g < w1.heap.size from hP.lt)).sin
  clear hP hK hb2 hI2 hg3 hP3
  go_upto_region 3 with (fail)
  clear hm1 hm2 hm3
  have hcv := conv_in HI0.out.1 (HI0.out.2.up HX3.out)
  go_upto_region 4 with (fail)
  clear hcv
  have hp3 := HP3.out
  go_upto_region 5 with (first
    | ((with_reducible refine (?_ : wpList _ _ _ (Oper.mk (some 30) _ _ _ _ _ :: _) _ _)); go_loud (refine wpList_load_blk rfl 25 (.tmp 3) rfl g rfl _ _ _ (hp3) Tryd.underlying25 rfl (infRP.trans (by rw [pkC_length _ _ _ _ _ _ HQL.out])) ?_))
    | (go_at_call 12; refine (HTO.out _ _ _ HI3.out).mono ?_; rintro e w4 ⟨A4, c4, rfl, hA4, hb4⟩)
    | (go_at_call 20; refine (HSE.out _ _ _ hA4 (HX3.out.trans (hb4.mono HX3.out.size))).mono ?_; rintro e w5 ⟨A5, n5, c5, rfl, hB5, hb5⟩))
  have hb35 := hb4.trans (hb5.mono hb4.size)
  have HX5 := Lib.hid (HX3.out.trans (hb35.mono HX3.out.size))
  have HP5 := Lib.hid (HP3.out.below hb35 HP3.out.lt)
  have HK5 := Lib.hid (HK3.out.below hb35 HK3.out.lt)
  have HI5 := Lib.hid (HI3.out.up hb35)
  have HB5 := Lib.hid (And.intro hB5.1 (hB5.toIn (Nat.le_refl _)))
  clear hp3 hb4 hA4 hb5 hB5 hb35
  have hp5 := HP5.out
  go_upto_region 6 with (first
    | ((with_reducible refine (?_ : wpList _ _ _ (Oper.mk (some 37) _ _ _ _ _ :: _) _ _)); go_loud (refine wpList_load_blk rfl 25 (.tmp 3) rfl g rfl _ _ _ (hp5) Tryd.underlying25 rfl (infRP.trans (by rw [pkC_length _ _ _ _ _ _ HQL.out])) ?_))
    | (go_at_call 21; refine (HRS.out _ _ _ HI5.out).mono ?_; rintro e w9 ⟨rfl, hb9⟩))
  have HXw9 := Lib.hid (HX5.out.trans (hb9.mono HX5.out.size))
  have HP9 := Lib.hid (HP5.out.below hb9 HP5.out.lt)
  have HK9 := Lib.hid (HK5.out.below hb9 HK5.out.lt)
  have HI9 := Lib.hid (HI5.out.up hb9)
  have HB9 := Lib.hid (And.intro HB5.out.1 (HB5.out.2.up hb9))
  clear hp5 hb9
  refine wp_region_noPanic ?_
  refine wp_region_held_drew (S := fun W => Below w9.heap.size w9 W) (by kernel_rfl) (by exact below_drewN (Below.refl _ _) 1) (fun hHeld => ?_)
  replace hHeld : Below w9.heap.size w9 w9.drew := hHeld
  have HXwd := Lib.hid (HXw9.out.trans (hHeld.mono HXw9.out.size))
  have HYwd := Lib.hid (show Below w9.heap.size w9 w9.drew from hHeld)
  generalize w9.drew = wd at *
  refine anyH_mono (S' := fun W => Below wd.heap.size wd W) (fun W h => hHeld.trans (h.mono hHeld.size)) _ _ _ _ ?_
  clear hHeld
  have hHeld : Below wd.heap.size wd wd := Below.refl _ _
  refine' wpAnyH_take (i := 0) (oi := ⟨_, _, _, _, _, _⟩) rfl (by kernel_rfl) (by kernel_rfl) (by kernel_rfl) (fun _ _ _ h => h) (yieldsIf_load_mid (by rfl) 25 _ rfl g 0 rfl (pkC code id Q A2 m c2) _ (fun W hSw => rangeAt_of_blk ((HP9.out).below (HYwd.out.trans (hSw.mono HYwd.out.size)) (HP9.out).lt)) Tryd.underlying25 rfl (infRP.trans (by rw [pkC_length _ _ _ _ _ _ HQL.out]))) hHeld ?_
  try simp only [Act.put, List.setIfInBounds_toArray, List.set_cons_zero, List.set_cons_succ]
  refine' wpAnyH_take (i := 2) (oi := ⟨_, _, _, _, _, _⟩) rfl (by kernel_rfl) (by kernel_rfl) (by kernel_rfl) (fun _ _ _ h => h) (yieldsIf_load_mid (by rfl) 22 _ rfl gk 0 rfl (M.map B8) _ (fun W hSw => rangeAt_of_blk ((HK9.out).below (HYwd.out.trans (hSw.mono HYwd.out.size)) (HK9.out).lt)) Tryd.underlying22 rfl (inf16.trans (by rw [List.length_map, HML.out]))) hHeld ?_
  try simp only [Act.put, List.setIfInBounds_toArray, List.set_cons_zero, List.set_cons_succ]
  refine wpAnyH_take (i := 3) (oi := ⟨_, _, _, _, _, _⟩) (v := ?_) rfl (by kernel_rfl) (by kernel_rfl) (by kernel_rfl) (fun _ _ _ h => h) (Or.inl ⟨by rfl, ?_⟩) hHeld ?_
  rotate_left 1
  · (intro W hSw; (try dsimp only at hSw); go_simp; try with_reducible rfl)
  try simp only [Act.put, List.setIfInBounds_toArray, List.set_cons_zero, List.set_cons_succ]
  refine wpAnyH_ready (rs := [1]) (by kernel_rfl) (by simp) ?_
  refine AllReadyH.cons (o := ⟨_, _, _, _, _, _⟩) rfl (fun K hK => ?_) AllReadyH.nil
  go_simp
  go_at_call 12
  refine (HTO.out _ _ _ (HI9.out.up HYwd.out)).mono ?_
  rintro e wa ⟨Aa, ca, rfl, hIa, hba⟩
  try go_wp2_with fail
  have hszx := hHeld.size
  refine hK.out _ _ (hHeld.trans (hba.mono hszx)) (fun hHeld => ?_)
  clear hK K hszx
  replace hHeld : Below wd.heap.size wd wa := hHeld
  have HXwa := Lib.hid (HXwd.out.trans (hHeld.mono HXwd.out.size))
  have HYwa := Lib.hid (HYwd.out.trans (hHeld.mono HYwd.out.size))
  have HIa := Lib.hid hIa
  clear hIa
  try simp only [Act.put, List.setIfInBounds_toArray, List.set_cons_zero, List.set_cons_succ]
  refine anyH_mono (S' := fun W => Below wa.heap.size wa W) (fun W h => hHeld.trans (h.mono hHeld.size)) _ _ _ _ ?_
  clear hHeld
  have hHeld : Below wa.heap.size wa wa := Below.refl _ _
  refine wpAnyH_ready (rs := [4]) (by kernel_rfl) (by simp) ?_
  refine AllReadyH.cons (o := ⟨_, _, _, _, _, _⟩) rfl (fun K hK => ?_) AllReadyH.nil
  go_simp
  go_at_call 22
  refine (HRP.out _ _ _ HIa.out HXwa.out).mono ?_
  rintro e wb ⟨A10, n10, c10, rfl, hB10, hbr⟩
  try go_wp2_with fail
  have hszx := hHeld.size
  refine hK.out _ _ (hHeld.trans (hbr.mono hszx)) (fun hHeld => ?_)
  clear hK K hszx
  replace hHeld : Below wa.heap.size wa wb := hHeld
  have HXwb := Lib.hid (HXwa.out.trans (hHeld.mono HXwa.out.size))
  have HYwb := Lib.hid (HYwa.out.trans (hHeld.mono HYwa.out.size))
  have HB10 := Lib.hid hB10
  clear hB10
  try simp only [Act.put, List.setIfInBounds_toArray, List.set_cons_zero, List.set_cons_succ]
  refine anyH_mono (S' := fun W => Below wb.heap.size wb W) (fun W h => hHeld.trans (h.mono hHeld.size)) _ _ _ _ ?_
  clear hHeld
  have hHeld : Below wb.heap.size wb wb := Below.refl _ _
  refine wpAnyH_take (i := 5) (oi := ⟨_, _, _, _, _, _⟩) (v := ?_) rfl (by kernel_rfl) (by kernel_rfl) (by kernel_rfl) (fun _ _ _ h => h) (Or.inl ⟨by rfl, ?_⟩) hHeld ?_
  rotate_left 1
  · (intro W hSw; (try dsimp only at hSw); go_simp; try with_reducible rfl)
  try simp only [Act.put, List.setIfInBounds_toArray, List.set_cons_zero, List.set_cons_succ]
  refine wpAnyH_take (i := 6) (oi := ⟨_, _, _, _, _, _⟩) (v := ?_) rfl (by kernel_rfl) (by kernel_rfl) (by kernel_rfl) (fun _ _ _ h => h) (Or.inl ⟨by rfl, ?_⟩) hHeld ?_
  rotate_left 1
  · (intro W hSw; (try dsimp only at hSw); go_simp; try with_reducible rfl)
  try simp only [Act.put, List.setIfInBounds_toArray, List.set_cons_zero, List.set_cons_succ]
  refine wpAnyH_take (i := 7) (oi := ⟨_, _, _, _, _, _⟩) (v := ?_) rfl (by kernel_rfl) (by kernel_rfl) (by kernel_rfl) (fun _ _ _ h => h) (Or.inl ⟨by rfl, ?_⟩) hHeld ?_
  rotate_left 1
  · (intro W hSw; (try dsimp only at hSw); go_simp; try with_reducible rfl)
  try simp only [Act.put, List.setIfInBounds_toArray, List.set_cons_zero, List.set_cons_succ]
  refine wpAnyH_take (i := 8) (oi := ⟨_, _, _, _, _, _⟩) (v := ?_) rfl (by kernel_rfl) (by kernel_rfl) (by kernel_rfl) (fun _ _ _ h => h) (Or.inl ⟨by rfl, ?_⟩) hHeld ?_
  rotate_left 1
  · (intro W hSw; (try dsimp only at hSw); go_simp; try with_reducible rfl)
  try simp only [Act.put, List.setIfInBounds_toArray, List.set_cons_zero, List.set_cons_succ]
  refine wpAnyH_take (i := 9) (oi := ⟨_, _, _, _, _, _⟩) (v := ?_) rfl (by kernel_rfl) (by kernel_rfl) (by kernel_rfl) (fun _ _ _ h => h) (Or.inl ⟨by rfl, ?_⟩) hHeld ?_
  rotate_left 1
  · (intro W hSw; (try dsimp only at hSw); go_simp; try with_reducible rfl)
  try simp only [Act.put, List.setIfInBounds_toArray, List.set_cons_zero, List.set_cons_succ]
  refine wpAnyH_done (by kernel_rfl) ?_ _
  refine NoPanic.normal ?_
  clear hHeld
  have HPb := Lib.hid (HP9.out.below HYwb.out HP9.out.lt)
  have HKb := Lib.hid (HK9.out.below HYwb.out HK9.out.lt)
  have HIb0 := Lib.hid (HI9.out.up HYwb.out)
  have HB9b := Lib.hid (And.intro HB9.out.1 (HB9.out.2.up HYwb.out))
  have HB10b := Lib.hid (And.intro HB10.out.1 (HB10.out.toIn (Nat.le_refl _)))
  have hpb := HPb.out
  have hkb := HKb.out
  go_upto_region 8 with (first
    | ((with_reducible refine (?_ : wpList _ _ _ (Oper.mk (some 51) _ _ _ _ _ :: _) _ _)); go_loud (refine wpList_load_blk rfl 25 (.tmp 3) rfl g rfl _ _ _ (hpb) Tryd.underlying25 rfl (infRP.trans (by rw [pkC_length _ _ _ _ _ _ HQL.out])) ?_))
    | ((with_reducible refine (?_ : wpList _ _ _ (Oper.mk (some 52) _ _ _ _ _ :: _) _ _)); go_loud (refine wpList_load_blk rfl 22 (.tmp 4) rfl gk rfl _ _ _ (hkb) Tryd.underlying22 rfl (inf16.trans (by rw [List.length_map, HML.out])) ?_))
    | (go_at_call 23; refine (HRR.out _ _ _ HIb0.out).mono ?_; rintro e wm ⟨rfl, hbm⟩))
  have HXm := Lib.hid (HXwb.out.trans (hbm.mono HXwb.out.size))
  have HPm := Lib.hid (HPb.out.below hbm HPb.out.lt)
  have HKm := Lib.hid (HKb.out.below hbm HKb.out.lt)
  have HIm := Lib.hid (HIb0.out.up hbm)
  have HS1 := Lib.hid (And.intro HB9b.out.1 (HB9b.out.2.up hbm))
  have HS2 := Lib.hid (And.intro HB10b.out.1 (HB10b.out.2.up hbm))
  clear hpb hkb hbm
  go_upto_region 10 with (go_at_call 15; refine (HSPK.out _ HXm.out).mono ?_; rintro e wn ⟨rfl, hbn⟩; have hc1 := conv_in HS1.out.1 (HS1.out.2.up hbn); have hc2 := conv_in HS2.out.1 (HS2.out.2.up hbn))
  clear hc1 hc2
  have HXn := Lib.hid (HXm.out.trans (hbn.mono HXm.out.size))
  have HPn := Lib.hid (HPm.out.below hbn HPm.out.lt)
  have HKn := Lib.hid (HKm.out.below hbn HKm.out.lt)
  have HIn := Lib.hid (HIm.out.up hbn)
  have HT1 := Lib.hid (And.intro HS1.out.1 (HS1.out.2.up hbn))
  have HT2 := Lib.hid (And.intro HS2.out.1 (HS2.out.2.up hbn))
  clear hbn
  rcases HWAY.out with ⟨h1, h2, h3⟩ | ⟨h1, h2, D, hD, h3⟩ | ⟨h1, h2⟩
  · subst h1
    have hne : ¬ (e2 : Int) = 0 := by omega
    have HO := Lib.hid (HOPN.out h2)
    clear h2 h3
    go_upto_region 12 with (first
      | (go_at_call 24; refine (HO.out _ _ _ _ HT1.out.1 HT1.out.2 HXn.out).mono ?_; rintro e wx ⟨A16, c16, rfl, hA16, hbx⟩)
      | ((with_reducible refine (?_ : wpList _ _ _ (Oper.mk none _ _ _ _ _ :: _) _ _)); go_loud (refine wpList_store_blk rfl 30 (.tmp 16) (.tmp 87) rfl rfl wx.heap.size (pkC code id Q A16 m c16) rfl rfl _ _ (Blk.new_of wx 30 #[.int .i64 0, .int .i64 0, .int .u8 0, .int .u8 0, .int .u8 0, .int .u8 0, .int .u8 0, .int .u8 0, .int .u8 0, .int .u8 0, .int .u8 0, .int .u8 0, .int .u8 0, .int .u8 0, .int .u8 0, .int .u8 0, .int .u8 0, .int .u8 0, .slice none 0 0] (pkC 0 0 zQ none 0 0) rfl) (infPk.trans (by rw [pkC_length _ _ _ _ _ _ HQL.out])) (by rw [pkC_length _ _ _ _ _ _ HQL.out]; first | rfl | rw [pkC_length _ _ _ _ _ _ HQL.out]) (pk_one _ _ _ _ _ _) ?_); intro wo hPo hgo))
    have hxa : Below wx.heap.size wx (wx.alloc (.cells #[.int .i64 0, .int .i64 0, .int .u8 0, .int .u8 0, .int .u8 0, .int .u8 0, .int .u8 0, .int .u8 0, .int .u8 0, .int .u8 0, .int .u8 0, .int .u8 0, .int .u8 0, .int .u8 0, .int .u8 0, .int .u8 0, .int .u8 0, .int .u8 0, .slice none 0 0] 30)) := (Below.refl _ _).alloc (Nat.le_refl _) _
    have hbo : Below wx.heap.size wx wo := below_new hxa hgo (Nat.le_refl _) hxa.size
    obtain ⟨g16, hg16⟩ : ∃ g16, g16 = wx.heap.size := ⟨_, rfl⟩
    have HAo := Lib.hid (hA16.up hbo)
    rw [← hg16] at hPo
    simp only [← hg16]
    have H16 := Lib.hid hPo
    have hYo : Below wn.heap.size wn wo := hbx.trans (hbo.mono hbx.size)
    have HXwo := Lib.hid (HXn.out.trans (hYo.mono HXn.out.size))
    have HPo := Lib.hid (HPn.out.below hYo HPn.out.lt)
    have HIo := Lib.hid (HIn.out.up hYo)
    clear hxa hbo hgo hbx hA16 hPo hg16 hYo
    refine wp_region_noPanic ?_
    refine wp_region_held_drew (S := fun W => Below wo.heap.size wo W) (by kernel_rfl) (by exact below_drewN (Below.refl _ _) 1) (fun hHeld => ?_)
    replace hHeld : Below wo.heap.size wo wo.drew := hHeld
    have HXwp := Lib.hid (HXwo.out.trans (hHeld.mono HXwo.out.size))
    have HYwp := Lib.hid (show Below wo.heap.size wo wo.drew from hHeld)
    generalize wo.drew = wp at *
    refine anyH_mono (S' := fun W => Below wp.heap.size wp W) (fun W h => hHeld.trans (h.mono hHeld.size)) _ _ _ _ ?_
    clear hHeld
    have hHeld : Below wp.heap.size wp wp := Below.refl _ _
    refine wpAnyH_take (i := 0) (oi := ⟨_, _, _, _, _, _⟩) (v := ?_) rfl (by kernel_rfl) (by kernel_rfl) (by kernel_rfl) (fun _ _ _ h => h) (Or.inl ⟨by rfl, ?_⟩) hHeld ?_
    rotate_left 1
    · (intro W hSw; (try dsimp only at hSw); go_simp; try with_reducible rfl)
    try simp only [Act.put, List.setIfInBounds_toArray, List.set_cons_zero, List.set_cons_succ]
    refine wpAnyH_take (i := 1) (oi := ⟨_, _, _, _, _, _⟩) (v := ?_) rfl (by kernel_rfl) (by kernel_rfl) (by kernel_rfl) (fun _ _ _ h => h) (Or.inl ⟨by rfl, ?_⟩) hHeld ?_
    rotate_left 1
    · (intro W hSw; (try dsimp only at hSw); go_simp; try with_reducible rfl)
    try simp only [Act.put, List.setIfInBounds_toArray, List.set_cons_zero, List.set_cons_succ]
    refine wpAnyH_take (i := 2) (oi := ⟨_, _, _, _, _, _⟩) (v := ?_) rfl (by kernel_rfl) (by kernel_rfl) (by kernel_rfl) (fun _ _ _ h => h) (Or.inl ⟨by rfl, ?_⟩) hHeld ?_
    rotate_left 1
    · (intro W hSw; (try dsimp only at hSw); go_simp; try with_reducible rfl)
    try simp only [Act.put, List.setIfInBounds_toArray, List.set_cons_zero, List.set_cons_succ]
    refine' wpAnyH_take (i := 3) (oi := ⟨_, _, _, _, _, _⟩) rfl (by kernel_rfl) (by kernel_rfl) (by kernel_rfl) (fun _ _ _ h => h) (yieldsIf_load_mid (by rfl) 30 _ rfl g16 0 rfl (pkC code id Q A16 m c16) _ (fun W hSw => rangeAt_of_blk ((H16.out).below (HYwp.out.trans (hSw.mono HYwp.out.size)) (H16.out).lt)) Tryd.underlying30 rfl (infPk.trans (by rw [pkC_length _ _ _ _ _ _ HQL.out]))) hHeld ?_
    try simp only [Act.put, List.setIfInBounds_toArray, List.set_cons_zero, List.set_cons_succ]
    refine' wpAnyH_take (i := 5) (oi := ⟨_, _, _, _, _, _⟩) rfl (by kernel_rfl) (by kernel_rfl) (by kernel_rfl) (fun _ _ _ h => h) (yieldsIf_load_mid (by rfl) 25 _ rfl g 0 rfl (pkC code id Q A2 m c2) _ (fun W hSw => rangeAt_of_blk ((HPo.out).below (HYwp.out.trans (hSw.mono HYwp.out.size)) (HPo.out).lt)) Tryd.underlying25 rfl (infRP.trans (by rw [pkC_length _ _ _ _ _ _ HQL.out]))) hHeld ?_
    try simp only [Act.put, List.setIfInBounds_toArray, List.set_cons_zero, List.set_cons_succ]
    refine wpAnyH_ready (rs := [4]) (by kernel_rfl) (by simp) ?_
    refine AllReadyH.cons (o := ⟨_, _, _, _, _, _⟩) rfl (fun K hK => ?_) AllReadyH.nil
    go_simp
    go_at_call 17
    refine (HFR.out _ _ _ (HAo.out.up HYwp.out)).mono ?_
    rintro e wq ⟨Ab, cb, rfl, hIb, hbb⟩
    try go_wp2_with fail
    have hszx := hHeld.size
    refine hK.out _ _ (hHeld.trans (hbb.mono hszx)) (fun hHeld => ?_)
    clear hK K hszx
    replace hHeld : Below wp.heap.size wp wq := hHeld
    have HXwq := Lib.hid (HXwp.out.trans (hHeld.mono HXwp.out.size))
    have HYwq := Lib.hid (HYwp.out.trans (hHeld.mono HYwp.out.size))
    have HIb := Lib.hid hIb
    clear hIb
    try simp only [Act.put, List.setIfInBounds_toArray, List.set_cons_zero, List.set_cons_succ]
    refine anyH_mono (S' := fun W => Below wq.heap.size wq W) (fun W h => hHeld.trans (h.mono hHeld.size)) _ _ _ _ ?_
    clear hHeld
    have hHeld : Below wq.heap.size wq wq := Below.refl _ _
    refine wpAnyH_ready (rs := [6]) (by kernel_rfl) (by simp) ?_
    refine AllReadyH.cons (o := ⟨_, _, _, _, _, _⟩) rfl (fun K hK => ?_) AllReadyH.nil
    go_simp
    go_at_call 16
    refine (HSM.out _ _ _ _ _ HIb.out (HIo.out.up HYwq.out)).mono ?_
    rintro e wr ⟨rfl, hbe⟩
    try go_wp2_with fail
    have hszx := hHeld.size
    refine hK.out _ _ (hHeld.trans (hbe.mono hszx)) (fun hHeld => ?_)
    clear hK K hszx
    replace hHeld : Below wq.heap.size wq wr := hHeld
    have HXwr := Lib.hid (HXwq.out.trans (hHeld.mono HXwq.out.size))
    have HYwr := Lib.hid (HYwq.out.trans (hHeld.mono HYwq.out.size))
    try simp only [Act.put, List.setIfInBounds_toArray, List.set_cons_zero, List.set_cons_succ]
    refine anyH_mono (S' := fun W => Below wr.heap.size wr W) (fun W h => hHeld.trans (h.mono hHeld.size)) _ _ _ _ ?_
    clear hHeld
    have hHeld : Below wr.heap.size wr wr := Below.refl _ _
    refine wpAnyH_take (i := 7) (oi := ⟨_, _, _, _, _, _⟩) (v := ?_) rfl (by kernel_rfl) (by kernel_rfl) (by kernel_rfl) (fun _ _ _ h => h) (Or.inl ⟨by rfl, ?_⟩) hHeld ?_
    rotate_left 1
    · (intro W hSw; (try dsimp only at hSw); go_simp; try with_reducible rfl)
    try simp only [Act.put, List.setIfInBounds_toArray, List.set_cons_zero, List.set_cons_succ]
    refine wpAnyH_take (i := 8) (oi := ⟨_, _, _, _, _, _⟩) (v := ?_) rfl (by kernel_rfl) (by kernel_rfl) (by kernel_rfl) (fun _ _ _ h => h) (Or.inl ⟨by rfl, ?_⟩) hHeld ?_
    rotate_left 1
    · (intro W hSw; (try dsimp only at hSw); go_simp; try with_reducible rfl)
    try simp only [Act.put, List.setIfInBounds_toArray, List.set_cons_zero, List.set_cons_succ]
    refine wpAnyH_done (by kernel_rfl) ?_ _
    refine NoPanic.normal ?_
    clear hHeld
    go_wp2
    go_ret
    exact ⟨rfl, HXwr.out⟩
  · subst h2
    have hne : ¬ (e1 : Int) = 0 := by omega
    have HDL := Lib.hid hD
    have HO := Lib.hid (HOPD.out D h3)
    have hkn := HKn.out
    clear h1 h3 hD
    go_upto_region 16 with (first
      | ((with_reducible refine (?_ : wpList _ _ _ (Oper.mk (some 102) _ _ _ _ _ :: _) _ _)); go_loud (refine wpList_load_blk rfl 22 (.tmp 4) rfl gk rfl _ _ _ (hkn) Tryd.underlying22 rfl (inf16.trans (by rw [List.length_map, HML.out])) ?_))
      | (go_at_call 25; refine (HO.out _ _ _ _ HT2.out.1 HT2.out.2 HXn.out).mono ?_; rintro e wx ⟨A18, c18, rfl, hA18, hbx⟩)
      | ((with_reducible refine (?_ : wpList _ _ _ (Oper.mk none _ _ _ _ _ :: _) _ _)); go_loud (refine wpList_store_blk rfl 30 (.tmp 18) (.tmp 105) rfl rfl wx.heap.size (pkC code id D A18 m c18) rfl rfl _ _ (Blk.new_of wx 30 #[.int .i64 0, .int .i64 0, .int .u8 0, .int .u8 0, .int .u8 0, .int .u8 0, .int .u8 0, .int .u8 0, .int .u8 0, .int .u8 0, .int .u8 0, .int .u8 0, .int .u8 0, .int .u8 0, .int .u8 0, .int .u8 0, .int .u8 0, .int .u8 0, .slice none 0 0] (pkC 0 0 zQ none 0 0) rfl) (infPk.trans (by rw [pkC_length _ _ _ _ _ _ HDL.out])) (by rw [pkC_length _ _ _ _ _ _ HDL.out]; first | rfl | rw [pkC_length _ _ _ _ _ _ HQL.out]) (pk_one _ _ _ _ _ _) ?_); intro wo hPo hgo))
    have hxa : Below wx.heap.size wx (wx.alloc (.cells #[.int .i64 0, .int .i64 0, .int .u8 0, .int .u8 0, .int .u8 0, .int .u8 0, .int .u8 0, .int .u8 0, .int .u8 0, .int .u8 0, .int .u8 0, .int .u8 0, .int .u8 0, .int .u8 0, .int .u8 0, .int .u8 0, .int .u8 0, .int .u8 0, .slice none 0 0] 30)) := (Below.refl _ _).alloc (Nat.le_refl _) _
    have hbo : Below wx.heap.size wx wo := below_new hxa hgo (Nat.le_refl _) hxa.size
    obtain ⟨g18, hg18⟩ : ∃ g18, g18 = wx.heap.size := ⟨_, rfl⟩
    have HAo := Lib.hid (hA18.up hbo)
    rw [← hg18] at hPo
    simp only [← hg18]
    have H18 := Lib.hid hPo
    have hYo : Below wn.heap.size wn wo := hbx.trans (hbo.mono hbx.size)
    have HXwo := Lib.hid (HXn.out.trans (hYo.mono HXn.out.size))
    have HPo := Lib.hid (HPn.out.below hYo HPn.out.lt)
    have HIo := Lib.hid (HIn.out.up hYo)
    clear hkn hxa hbo hgo hbx hA18 hPo hg18 hYo
    refine wp_region_noPanic ?_
    refine wp_region_held_drew (S := fun W => Below wo.heap.size wo W) (by kernel_rfl) (by exact below_drewN (Below.refl _ _) 1) (fun hHeld => ?_)
    replace hHeld : Below wo.heap.size wo wo.drew := hHeld
    have HXwp := Lib.hid (HXwo.out.trans (hHeld.mono HXwo.out.size))
    have HYwp := Lib.hid (show Below wo.heap.size wo wo.drew from hHeld)
    generalize wo.drew = wp at *
    refine anyH_mono (S' := fun W => Below wp.heap.size wp W) (fun W h => hHeld.trans (h.mono hHeld.size)) _ _ _ _ ?_
    clear hHeld
    have hHeld : Below wp.heap.size wp wp := Below.refl _ _
    refine wpAnyH_take (i := 0) (oi := ⟨_, _, _, _, _, _⟩) (v := ?_) rfl (by kernel_rfl) (by kernel_rfl) (by kernel_rfl) (fun _ _ _ h => h) (Or.inl ⟨by rfl, ?_⟩) hHeld ?_
    rotate_left 1
    · (intro W hSw; (try dsimp only at hSw); go_simp; try with_reducible rfl)
    try simp only [Act.put, List.setIfInBounds_toArray, List.set_cons_zero, List.set_cons_succ]
    refine wpAnyH_take (i := 1) (oi := ⟨_, _, _, _, _, _⟩) (v := ?_) rfl (by kernel_rfl) (by kernel_rfl) (by kernel_rfl) (fun _ _ _ h => h) (Or.inl ⟨by rfl, ?_⟩) hHeld ?_
    rotate_left 1
    · (intro W hSw; (try dsimp only at hSw); go_simp; try with_reducible rfl)
    try simp only [Act.put, List.setIfInBounds_toArray, List.set_cons_zero, List.set_cons_succ]
    refine wpAnyH_take (i := 2) (oi := ⟨_, _, _, _, _, _⟩) (v := ?_) rfl (by kernel_rfl) (by kernel_rfl) (by kernel_rfl) (fun _ _ _ h => h) (Or.inl ⟨by rfl, ?_⟩) hHeld ?_
    rotate_left 1
    · (intro W hSw; (try dsimp only at hSw); go_simp; try with_reducible rfl)
    try simp only [Act.put, List.setIfInBounds_toArray, List.set_cons_zero, List.set_cons_succ]
    refine wpAnyH_take (i := 3) (oi := ⟨_, _, _, _, _, _⟩) (v := ?_) rfl (by kernel_rfl) (by kernel_rfl) (by kernel_rfl) (fun _ _ _ h => h) (Or.inl ⟨by rfl, ?_⟩) hHeld ?_
    rotate_left 1
    · (intro W hSw; (try dsimp only at hSw); go_simp; try with_reducible rfl)
    try simp only [Act.put, List.setIfInBounds_toArray, List.set_cons_zero, List.set_cons_succ]
    refine wpAnyH_take (i := 4) (oi := ⟨_, _, _, _, _, _⟩) (v := ?_) rfl (by kernel_rfl) (by kernel_rfl) (by kernel_rfl) (fun _ _ _ h => h) (Or.inl ⟨by rfl, ?_⟩) hHeld ?_
    rotate_left 1
    · (intro W hSw; (try dsimp only at hSw); have hcc : W.cell? ⟨g18, 0, none⟩ = some (.int .i64 code) := ((H18.out).below (HYwp.out.trans (hSw.mono HYwp.out.size)) (H18.out).lt).cell 0; go_simp; try with_reducible rfl)
    try simp only [Act.put, List.setIfInBounds_toArray, List.set_cons_zero, List.set_cons_succ]
    refine wpAnyH_take (i := 5) (oi := ⟨_, _, _, _, _, _⟩) (v := ?_) rfl (by kernel_rfl) (by kernel_rfl) (by kernel_rfl) (fun _ _ _ h => h) (Or.inl ⟨by rfl, ?_⟩) hHeld ?_
    rotate_left 1
    · (intro W hSw; (try dsimp only at hSw); go_simp; try with_reducible rfl)
    try simp only [Act.put, List.setIfInBounds_toArray, List.set_cons_zero, List.set_cons_succ]
    refine wpAnyH_take (i := 6) (oi := ⟨_, _, _, _, _, _⟩) (v := ?_) rfl (by kernel_rfl) (by kernel_rfl) (by kernel_rfl) (fun _ _ _ h => h) (Or.inl ⟨by rfl, ?_⟩) hHeld ?_
    rotate_left 1
    · (intro W hSw; (try dsimp only at hSw); have hcc : W.cell? ⟨g, 0, none⟩ = some (.int .i64 code) := ((HPo.out).below (HYwp.out.trans (hSw.mono HYwp.out.size)) (HPo.out).lt).cell 0; go_simp; try with_reducible rfl)
    try simp only [Act.put, List.setIfInBounds_toArray, List.set_cons_zero, List.set_cons_succ]
    refine wpAnyH_take (i := 7) (oi := ⟨_, _, _, _, _, _⟩) (v := ?_) rfl (by kernel_rfl) (by kernel_rfl) (by kernel_rfl) (fun _ _ _ h => h) (Or.inl ⟨by rfl, ?_⟩) hHeld ?_
    rotate_left 1
    · (intro W hSw; (try dsimp only at hSw); go_simp; try with_reducible rfl)
    try simp only [Act.put, List.setIfInBounds_toArray, List.set_cons_zero, List.set_cons_succ]
    refine wpAnyH_take (i := 8) (oi := ⟨_, _, _, _, _, _⟩) (v := ?_) rfl (by kernel_rfl) (by kernel_rfl) (by kernel_rfl) (fun _ _ _ h => h) (Or.inl ⟨by rfl, ?_⟩) hHeld ?_
    rotate_left 1
    · (intro W hSw; (try dsimp only at hSw); go_simp; try with_reducible rfl)
    try simp only [Act.put, List.setIfInBounds_toArray, List.set_cons_zero, List.set_cons_succ]
    refine wpAnyH_take (i := 9) (oi := ⟨_, _, _, _, _, _⟩) (v := ?_) rfl (by kernel_rfl) (by kernel_rfl) (by kernel_rfl) (fun _ _ _ h => h) (Or.inl ⟨by rfl, ?_⟩) hHeld ?_
    rotate_left 1
    · (intro W hSw; (try dsimp only at hSw); go_simp; try with_reducible rfl)
    try simp only [Act.put, List.setIfInBounds_toArray, List.set_cons_zero, List.set_cons_succ]
    refine wpAnyH_take (i := 10) (oi := ⟨_, _, _, _, _, _⟩) (v := ?_) rfl (by kernel_rfl) (by kernel_rfl) (by kernel_rfl) (fun _ _ _ h => h) (Or.inl ⟨by rfl, ?_⟩) hHeld ?_
    rotate_left 1
    · (intro W hSw; (try dsimp only at hSw); go_simp; try with_reducible rfl)
    try simp only [Act.put, List.setIfInBounds_toArray, List.set_cons_zero, List.set_cons_succ]
    refine wpAnyH_take (i := 11) (oi := ⟨_, _, _, _, _, _⟩) (v := ?_) rfl (by kernel_rfl) (by kernel_rfl) (by kernel_rfl) (fun _ _ _ h => h) (Or.inl ⟨by rfl, ?_⟩) hHeld ?_
    rotate_left 1
    · (intro W hSw; (try dsimp only at hSw); have hcc : W.cell? ⟨g18, 1, none⟩ = some (.int .i64 id) := ((H18.out).below (HYwp.out.trans (hSw.mono HYwp.out.size)) (H18.out).lt).cell 1; go_simp; try with_reducible rfl)
    try simp only [Act.put, List.setIfInBounds_toArray, List.set_cons_zero, List.set_cons_succ]
    refine wpAnyH_take (i := 12) (oi := ⟨_, _, _, _, _, _⟩) (v := ?_) rfl (by kernel_rfl) (by kernel_rfl) (by kernel_rfl) (fun _ _ _ h => h) (Or.inl ⟨by rfl, ?_⟩) hHeld ?_
    rotate_left 1
    · (intro W hSw; (try dsimp only at hSw); go_simp; try with_reducible rfl)
    try simp only [Act.put, List.setIfInBounds_toArray, List.set_cons_zero, List.set_cons_succ]
    refine wpAnyH_take (i := 13) (oi := ⟨_, _, _, _, _, _⟩) (v := ?_) rfl (by kernel_rfl) (by kernel_rfl) (by kernel_rfl) (fun _ _ _ h => h) (Or.inl ⟨by rfl, ?_⟩) hHeld ?_
    rotate_left 1
    · (intro W hSw; (try dsimp only at hSw); have hcc : W.cell? ⟨g, 1, none⟩ = some (.int .i64 id) := ((HPo.out).below (HYwp.out.trans (hSw.mono HYwp.out.size)) (HPo.out).lt).cell 1; go_simp; try with_reducible rfl)
    try simp only [Act.put, List.setIfInBounds_toArray, List.set_cons_zero, List.set_cons_succ]
    refine wpAnyH_take (i := 14) (oi := ⟨_, _, _, _, _, _⟩) (v := ?_) rfl (by kernel_rfl) (by kernel_rfl) (by kernel_rfl) (fun _ _ _ h => h) (Or.inl ⟨by rfl, ?_⟩) hHeld ?_
    rotate_left 1
    · (intro W hSw; (try dsimp only at hSw); go_simp; try with_reducible rfl)
    try simp only [Act.put, List.setIfInBounds_toArray, List.set_cons_zero, List.set_cons_succ]
    refine wpAnyH_take (i := 15) (oi := ⟨_, _, _, _, _, _⟩) (v := ?_) rfl (by kernel_rfl) (by kernel_rfl) (by kernel_rfl) (fun _ _ _ h => h) (Or.inl ⟨by rfl, ?_⟩) hHeld ?_
    rotate_left 1
    · (intro W hSw; (try dsimp only at hSw); go_simp; try with_reducible rfl)
    try simp only [Act.put, List.setIfInBounds_toArray, List.set_cons_zero, List.set_cons_succ]
    refine wpAnyH_take (i := 16) (oi := ⟨_, _, _, _, _, _⟩) (v := ?_) rfl (by kernel_rfl) (by kernel_rfl) (by kernel_rfl) (fun _ _ _ h => h) (Or.inl ⟨by rfl, ?_⟩) hHeld ?_
    rotate_left 1
    · (intro W hSw; (try dsimp only at hSw); go_simp; try with_reducible rfl)
    try simp only [Act.put, List.setIfInBounds_toArray, List.set_cons_zero, List.set_cons_succ]
    refine wpAnyH_take (i := 17) (oi := ⟨_, _, _, _, _, _⟩) (v := ?_) rfl (by kernel_rfl) (by kernel_rfl) (by kernel_rfl) (fun _ _ _ h => h) (Or.inl ⟨by rfl, ?_⟩) hHeld ?_
    rotate_left 1
    · (intro W hSw; (try dsimp only at hSw); go_simp; try with_reducible rfl)
    try simp only [Act.put, List.setIfInBounds_toArray, List.set_cons_zero, List.set_cons_succ]
    refine wpAnyH_take (i := 18) (oi := ⟨_, _, _, _, _, _⟩) (v := ?_) rfl (by kernel_rfl) (by kernel_rfl) (by kernel_rfl) (fun _ _ _ h => h) (Or.inl ⟨by rfl, ?_⟩) hHeld ?_
    rotate_left 1
    · (intro W hSw; (try dsimp only at hSw); have hcc : W.cell? ⟨g18, 18, none⟩ = some (.slice A18 m c18) := (((H18.out).below (HYwp.out.trans (hSw.mono HYwp.out.size)) (H18.out).lt).cell 18).trans (pkC_last _ _ _ _ _ _ HDL.out); go_simp; try with_reducible rfl)
    try simp only [Act.put, List.setIfInBounds_toArray, List.set_cons_zero, List.set_cons_succ]
    refine wpAnyH_take (i := 20) (oi := ⟨_, _, _, _, _, _⟩) (v := ?_) rfl (by kernel_rfl) (by kernel_rfl) (by kernel_rfl) (fun _ _ _ h => h) (Or.inl ⟨by rfl, ?_⟩) hHeld ?_
    rotate_left 1
    · (intro W hSw; (try dsimp only at hSw); go_simp; try with_reducible rfl)
    try simp only [Act.put, List.setIfInBounds_toArray, List.set_cons_zero, List.set_cons_succ]
    refine wpAnyH_take (i := 21) (oi := ⟨_, _, _, _, _, _⟩) (v := ?_) rfl (by kernel_rfl) (by kernel_rfl) (by kernel_rfl) (fun _ _ _ h => h) (Or.inl ⟨by rfl, ?_⟩) hHeld ?_
    rotate_left 1
    · (intro W hSw; (try dsimp only at hSw); have hcc : W.cell? ⟨g, 18, none⟩ = some (.slice A2 m c2) := (((HPo.out).below (HYwp.out.trans (hSw.mono HYwp.out.size)) (HPo.out).lt).cell 18).trans (pkC_last _ _ _ _ _ _ HQL.out); go_simp; try with_reducible rfl)
    try simp only [Act.put, List.setIfInBounds_toArray, List.set_cons_zero, List.set_cons_succ]
    refine wpAnyH_ready (rs := [19]) (by kernel_rfl) (by simp) ?_
    refine AllReadyH.cons (o := ⟨_, _, _, _, _, _⟩) rfl (fun K hK => ?_) AllReadyH.nil
    go_simp
    go_at_call 27
    refine (HTL.out _ _ _ (HAo.out.up HYwp.out)).mono ?_
    rintro e wq ⟨Ab, cb, rfl, hIb, hbb⟩
    try go_wp2_with fail
    have hszx := hHeld.size
    refine hK.out _ _ (hHeld.trans (hbb.mono hszx)) (fun hHeld => ?_)
    clear hK K hszx
    replace hHeld : Below wp.heap.size wp wq := hHeld
    have HXwq := Lib.hid (HXwp.out.trans (hHeld.mono HXwp.out.size))
    have HYwq := Lib.hid (HYwp.out.trans (hHeld.mono HYwp.out.size))
    have HIb := Lib.hid hIb
    clear hIb
    try simp only [Act.put, List.setIfInBounds_toArray, List.set_cons_zero, List.set_cons_succ]
    refine anyH_mono (S' := fun W => Below wq.heap.size wq W) (fun W h => hHeld.trans (h.mono hHeld.size)) _ _ _ _ ?_
    clear hHeld
    have hHeld : Below wq.heap.size wq wq := Below.refl _ _
    refine wpAnyH_ready (rs := [22]) (by kernel_rfl) (by simp) ?_
    refine AllReadyH.cons (o := ⟨_, _, _, _, _, _⟩) rfl (fun K hK => ?_) AllReadyH.nil
    go_simp
    go_at_call 26
    refine (HAT.out _ _ _ _ _ HIb.out (HIo.out.up HYwq.out)).mono ?_
    rintro e wr ⟨rfl, hbe⟩
    try go_wp2_with fail
    have hszx := hHeld.size
    refine hK.out _ _ (hHeld.trans (hbe.mono hszx)) (fun hHeld => ?_)
    clear hK K hszx
    replace hHeld : Below wq.heap.size wq wr := hHeld
    have HXwr := Lib.hid (HXwq.out.trans (hHeld.mono HXwq.out.size))
    have HYwr := Lib.hid (HYwq.out.trans (hHeld.mono HYwq.out.size))
    try simp only [Act.put, List.setIfInBounds_toArray, List.set_cons_zero, List.set_cons_succ]
    refine anyH_mono (S' := fun W => Below wr.heap.size wr W) (fun W h => hHeld.trans (h.mono hHeld.size)) _ _ _ _ ?_
    clear hHeld
    have hHeld : Below wr.heap.size wr wr := Below.refl _ _
    refine wpAnyH_take (i := 23) (oi := ⟨_, _, _, _, _, _⟩) (v := ?_) rfl (by kernel_rfl) (by kernel_rfl) (by kernel_rfl) (fun _ _ _ h => h) (Or.inl ⟨by rfl, ?_⟩) hHeld ?_
    rotate_left 1
    · (intro W hSw; (try dsimp only at hSw); go_simp; try with_reducible rfl)
    try simp only [Act.put, List.setIfInBounds_toArray, List.set_cons_zero, List.set_cons_succ]
    refine wpAnyH_take (i := 24) (oi := ⟨_, _, _, _, _, _⟩) (v := ?_) rfl (by kernel_rfl) (by kernel_rfl) (by kernel_rfl) (fun _ _ _ h => h) (Or.inl ⟨by rfl, ?_⟩) hHeld ?_
    rotate_left 1
    · (intro W hSw; (try dsimp only at hSw); go_simp; try with_reducible rfl)
    try simp only [Act.put, List.setIfInBounds_toArray, List.set_cons_zero, List.set_cons_succ]
    refine wpAnyH_done (by kernel_rfl) ?_ _
    refine NoPanic.normal ?_
    clear hHeld
    go_wp2
    go_ret
    exact ⟨rfl, HXwr.out⟩
  · have hne1 : ¬ (e1 : Int) = 0 := by omega
    have hne2 : ¬ (e2 : Int) = 0 := by omega
    go_wp2
    go_ret
    exact ⟨rfl, HXn.out⟩
end Go.Proofs.YtbomckbekcaemaaDoor
