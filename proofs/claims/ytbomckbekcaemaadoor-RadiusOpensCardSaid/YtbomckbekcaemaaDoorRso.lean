/-
  The contracts of the document's seal and Seal.
-/
import Derived.Test.YtbomckbekcaemaaDoorRsk
import Derived.Test.YtbomckbekcaemaaDoorWl
namespace Go.Proofs.YtbomckbekcaemaaDoor
open Go.RowKit

theorem rwith_e (c n k : Nat) (code id : Int) (Q : List UInt8) (A : Option Addr) (la : Attrs) (vv : List UInt8) (w : World) (hQ : Q.length = 16) (hn : la.length = n) (hA : SIn w w.heap.size A c la) (hm : n ≤ 400000) (hk : k ≤ n) :
    Calls Tryd.prog 69 #[.agg (pkC code id Q A n c).toArray, .int .i64 (k : Int), .string ⟨vv.toArray⟩] w (fun e w' => ∃ A' c', e = .returned (.agg (pkC code id Q A' (withE la k vv).length c').toArray) ∧ SIn w' w'.heap.size A' c' (withE la k vv) ∧ Below w.heap.size w w') := by
  rcases Nat.lt_or_ge k n with h | h
  · exact rwith_mid c n k code id Q A la vv w hQ hn hA hm h
  · obtain rfl : k = n := by omega
    exact rwith_last c k code id Q A la vv w hQ hn hA hm
theorem withE_end (la : Attrs) (v : List UInt8) : withE la la.length v = la ++ [(80, v)] := by unfold withE; rw [if_pos rfl]
/-- What the document's seal tells. -/
def rsealE (code id : Int) (Q : List UInt8) (la : Attrs) (sec : List UInt8) : List UInt8 × Nat :=
  if (writeE code id Q (la ++ [(80, zQ)])).2 = 0 then writeE code id Q (la ++ [(80, hmacQ sec (writeE code id Q (la ++ [(80, zQ)])).1)]) else ([], 2)
theorem pkOK_mac (code id : Int) (la : Attrs) (x y : List UInt8) (hx : x.length = 16) (hy : y.length = 16) : pkOK code id (la ++ [(80, x)]) = pkOK code id (la ++ [(80, y)]) := by
  unfold pkOK attrsOK
  rw [List.all_append, List.all_append, sizeA_snoc, sizeA_snoc]
  simp only [List.all_cons, List.all_nil, attrOK, hx, hy]
theorem markE_seal (code id : Int) (Q : List UInt8) (la : Attrs) (sec : List UInt8) : markE code id Q la sec = if hasMark la = true then ([], 1) else rsealE code id Q la sec := by
  unfold markE rsealE
  by_cases hm : hasMark la = true
  · rw [if_pos hm, if_pos hm]
  · rw [if_neg hm, if_neg hm]
    by_cases hp : pkOK code id (la ++ [(80, zQ)]) = true
    · have hw : writeE code id Q (la ++ [(80, zQ)]) = (pkB code id Q (la ++ [(80, zQ)]), 0) := by unfold writeE; rw [if_pos hp]
      rw [if_pos hp, hw]
      simp only [if_true]
      unfold writeE
      rw [if_pos (by rw [pkOK_mac code id la _ zQ (hmacQ_len _ _) rfl]; exact hp)]
    · have hw : writeE code id Q (la ++ [(80, zQ)]) = ([], 2) := by unfold writeE; rw [if_neg hp]
      rw [if_neg hp, hw]
      simp
theorem writeE_small (code id : Int) (Q : List UInt8) (la : Attrs) (hQ : Q.length = 16) : (writeE code id Q la).1.length ≤ 4096 := by
  unfold writeE
  split
  · next h => have := whole_fit (pk_ranges h).2.2; have := pkB_length code id Q la hQ; show (pkB code id Q la).length ≤ 4096; omega
  · simp
set_option maxRecDepth 100000 in
set_option maxHeartbeats 2000000 in
theorem rseal_e (c n : Nat) (code id : Int) (Q : List UInt8) (A : Option Addr) (la : Attrs) (sec : List UInt8) (w : World) (hQ : Q.length = 16) (hn : la.length = n) (hA : SIn w w.heap.size A c la) (hm : n ≤ 400000) (hs : sec.length ≤ 1000000) :
    Calls Tryd.prog 51 #[.agg (pkC code id Q A n c).toArray, .string ⟨sec.toArray⟩] w fun e w' => e = .returned (.tuple #[.string ⟨(rsealE code id Q la sec).1.toArray⟩, .int .i64 ((rsealE code id Q la sec).2 : Int)]) ∧ Below w.heap.size w w' := by
  obtain ⟨S, er, hSE⟩ : ∃ S er, writeE code id Q (la ++ [(80, zQ)]) = (S, er) := ⟨_, _, rfl⟩
  obtain ⟨MM, hMM⟩ : ∃ MM, MM = hmacQ sec S := ⟨_, rfl⟩
  obtain ⟨T, fr, hTE⟩ : ∃ T fr, writeE code id Q (la ++ [(80, MM)]) = (T, fr) := ⟨_, _, rfl⟩
  have her := write_err code id Q (la ++ [(80, zQ)])
  have hsm := writeE_small code id Q (la ++ [(80, zQ)]) hQ
  rw [hSE] at her hsm
  simp only at her hsm
  have HRS := Lib.hid (show rsealE code id Q la sec = if er = 0 then (T, fr) else ([], 2) by unfold rsealE; rw [hSE]; simp only; rw [← hMM, hTE])
  have HWT := Lib.hid (fun (W : World) (h : Below w.heap.size w W) (vv : List UInt8) => (show Calls Tryd.prog 69 #[.agg (pkC code id Q A n c).toArray, .int .i64 (n : Int), .string ⟨vv.toArray⟩] W (fun e w' => ∃ A' c', e = .returned (.agg (pkC code id Q A' (n + 1) c').toArray) ∧ SIn w' w'.heap.size A' c' (la ++ [(80, vv)]) ∧ Below W.heap.size W w') by
    have := rwith_e c n n code id Q A la vv W hQ hn (hA.up h) hm (Nat.le_refl _)
    have he : withE la n vv = la ++ [(80, vv)] := by rw [← hn]; exact withE_end la vv
    rw [he, List.length_append, hn] at this
    exact this))
  have HRW0 := fun (W : World) (A : Option Addr) (c : Nat) (vv : List UInt8) (h : SIn W W.heap.size A c (la ++ [(80, vv)])) => (rwrite_e c (n + 1) code id Q A (la ++ [(80, vv)]) W hQ (by rw [List.length_append, hn]; rfl) h)
  have HRW1 := Lib.hid (fun (W : World) (A : Option Addr) (c : Nat) (h : SIn W W.heap.size A c (la ++ [(80, zQ)])) => (show Calls Tryd.prog 14 #[.agg (pkC code id Q A (n + 1) c).toArray] W (fun e w' => e = .returned (.tuple #[.string ⟨S.toArray⟩, .int .i64 (er : Int)]) ∧ Below W.heap.size W w') by have := HRW0 W A c zQ h; rwa [hSE] at this))
  have HRW2 := Lib.hid (fun (W : World) (A : Option Addr) (c : Nat) (h : SIn W W.heap.size A c (la ++ [(80, MM)])) => (show Calls Tryd.prog 14 #[.agg (pkC code id Q A (n + 1) c).toArray] W (fun e w' => e = .returned (.tuple #[.string ⟨T.toArray⟩, .int .i64 (fr : Int)]) ∧ Below W.heap.size W w') by have := HRW0 W A c MM h; rwa [hTE] at this))
  have HMC := Lib.hid (fun (W : World) => (show Calls Tryd.prog 71 #[.string ⟨sec.toArray⟩, .string ⟨S.toArray⟩] W (fun e w' => e = .returned (.string ⟨MM.toArray⟩) ∧ Below W.heap.size W w') by have := refMacQ_any sec S W (by omega) (by omega); rwa [← hMM] at this))
  have HQ := Lib.hid hQ
  obtain ⟨n2, hn2⟩ : ∃ n2, n2 = n + 1 := ⟨_, rfl⟩
  rw [← hn2] at HWT HRW1 HRW2
  clear hSE hTE hQ hn hA hm hs hsm hMM hn2 HRW0
  go_enter Tryd.func51, Tryd.ntmps51
  go_upto_region 1 with (fail)
  have hP := Blk.new_of w 25 (pkC code id Q A n c).toArray (pkC code id Q A n c) rfl
  have hb0 : Below w.heap.size w (w.alloc (.cells (pkC code id Q A n c).toArray 25)) := (Below.refl _ _).alloc (Nat.le_refl _) _
  obtain ⟨g, hg⟩ : ∃ g, g = w.heap.size := ⟨_, rfl⟩
  rw [← hg] at hP
  simp only [← hg]
  have HP1 := Lib.hid hP
  have HXw1 := Lib.hid hb0
  clear hg hP hb0
  generalize w.alloc (.cells (pkC code id Q A n c).toArray 25) = w1 at *
  refine wp_region_noPanic ?_
  refine wp_region_held_drew (S := fun W => Below w1.heap.size w1 W) (by kernel_rfl) (by exact below_drewN (Below.refl _ _) 1) (fun hHeld => ?_)
  replace hHeld : Below w1.heap.size w1 w1.drew := hHeld
  have HXwd := Lib.hid (HXw1.out.trans (hHeld.mono HXw1.out.size))
  have HYwd := Lib.hid (show Below w1.heap.size w1 w1.drew from hHeld)
  generalize w1.drew = wd at *
  refine anyH_mono (S' := fun W => Below wd.heap.size wd W) (fun W h => hHeld.trans (h.mono hHeld.size)) _ _ _ _ ?_
  clear hHeld
  have hHeld : Below wd.heap.size wd wd := Below.refl _ _
  refine' wpAnyH_take (i := 0) (oi := ⟨_, _, _, _, _, _⟩) rfl (by kernel_rfl) (by kernel_rfl) (by kernel_rfl) (fun _ _ _ h => h) (yieldsIf_load_mid (by rfl) 25 _ rfl g 0 rfl (pkC code id Q A n c) _ (fun W hSw => rangeAt_of_blk ((HP1.out).below (HYwd.out.trans (hSw.mono HYwd.out.size)) (HP1.out).lt)) Tryd.underlying25 rfl (infRP.trans (by rw [pkC_length _ _ _ _ _ _ HQ.out]))) hHeld ?_
  try simp only [Act.put, List.setIfInBounds_toArray, List.set_cons_zero, List.set_cons_succ]
  refine wpAnyH_take (i := 1) (oi := ⟨_, _, _, _, _, _⟩) (v := ?_) rfl (by kernel_rfl) (by kernel_rfl) (by kernel_rfl) (fun _ _ _ h => h) (Or.inl ⟨by rfl, ?_⟩) hHeld ?_
  rotate_left 1
  · (intro W hSw; (try dsimp only at hSw); go_simp; try with_reducible rfl)
  try simp only [Act.put, List.setIfInBounds_toArray, List.set_cons_zero, List.set_cons_succ]
  refine wpAnyH_take (i := 2) (oi := ⟨_, _, _, _, _, _⟩) (v := ?_) rfl (by kernel_rfl) (by kernel_rfl) (by kernel_rfl) (fun _ _ _ h => h) (Or.inl ⟨by rfl, ?_⟩) hHeld ?_
  rotate_left 1
  · (intro W hSw; (try dsimp only at hSw); have hcc := ((HP1.out.below (HYwd.out.trans (hSw.mono HYwd.out.size)) HP1.out.lt).cell 18).trans (pkC_last code id Q A n c HQ.out); go_simp; try with_reducible rfl)
  try simp only [Act.put, List.setIfInBounds_toArray, List.set_cons_zero, List.set_cons_succ]
  refine wpAnyH_take (i := 3) (oi := ⟨_, _, _, _, _, _⟩) (v := ?_) rfl (by kernel_rfl) (by kernel_rfl) (by kernel_rfl) (fun _ _ _ h => h) (Or.inl ⟨by rfl, ?_⟩) hHeld ?_
  rotate_left 1
  · (intro W hSw; (try dsimp only at hSw); go_simp; try with_reducible rfl)
  try simp only [Act.put, List.setIfInBounds_toArray, List.set_cons_zero, List.set_cons_succ]
  refine wpAnyH_ready (rs := [4]) (by kernel_rfl) (by simp) ?_
  refine AllReadyH.cons (o := ⟨_, _, _, _, _, _⟩) rfl (fun K hK => ?_) AllReadyH.nil
  go_simp
  go_at_call 70
  refine (rzero_e _).mono ?_
  rintro e wa ⟨rfl, hba⟩
  try go_wp2_with fail
  have hszx := hHeld.size
  refine hK.out _ _ (hHeld.trans (hba.mono hszx)) (fun hHeld => ?_)
  clear hK K hszx
  replace hHeld : Below wd.heap.size wd wa := hHeld
  have HXwa := Lib.hid (HXwd.out.trans (hHeld.mono HXwd.out.size))
  have HYwa := Lib.hid (HYwd.out.trans (hHeld.mono HYwd.out.size))
  try simp only [Act.put, List.setIfInBounds_toArray, List.set_cons_zero, List.set_cons_succ]
  refine anyH_mono (S' := fun W => Below wa.heap.size wa W) (fun W h => hHeld.trans (h.mono hHeld.size)) _ _ _ _ ?_
  clear hHeld
  have hHeld : Below wa.heap.size wa wa := Below.refl _ _
  refine wpAnyH_ready (rs := [5]) (by kernel_rfl) (by simp) ?_
  refine AllReadyH.cons (o := ⟨_, _, _, _, _, _⟩) rfl (fun K hK => ?_) AllReadyH.nil
  go_simp
  go_at_call 69
  refine (HWT.out _ (HXwa.out) zQ).mono ?_
  rintro e wb ⟨Ab, cb, rfl, hIb, hbb⟩
  try go_wp2_with fail
  have hszx := hHeld.size
  refine hK.out _ _ (hHeld.trans (hbb.mono hszx)) (fun hHeld => ?_)
  clear hK K hszx
  replace hHeld : Below wa.heap.size wa wb := hHeld
  have HXwb := Lib.hid (HXwa.out.trans (hHeld.mono HXwa.out.size))
  have HYwb := Lib.hid (HYwa.out.trans (hHeld.mono HYwa.out.size))
  have HIb := Lib.hid hIb
  clear hIb
  try simp only [Act.put, List.setIfInBounds_toArray, List.set_cons_zero, List.set_cons_succ]
  refine anyH_mono (S' := fun W => Below wb.heap.size wb W) (fun W h => hHeld.trans (h.mono hHeld.size)) _ _ _ _ ?_
  clear hHeld
  have hHeld : Below wb.heap.size wb wb := Below.refl _ _
  refine wpAnyH_ready (rs := [6]) (by kernel_rfl) (by simp) ?_
  refine AllReadyH.cons (o := ⟨_, _, _, _, _, _⟩) rfl (fun K hK => ?_) AllReadyH.nil
  go_simp
  go_at_call 14
  refine (HRW1.out _ _ _ HIb.out).mono ?_
  rintro e wc ⟨rfl, hbe⟩
  try go_wp2_with fail
  have hszx := hHeld.size
  refine hK.out _ _ (hHeld.trans (hbe.mono hszx)) (fun hHeld => ?_)
  clear hK K hszx
  replace hHeld : Below wb.heap.size wb wc := hHeld
  have HXwc := Lib.hid (HXwb.out.trans (hHeld.mono HXwb.out.size))
  have HYwc := Lib.hid (HYwb.out.trans (hHeld.mono HYwb.out.size))
  try simp only [Act.put, List.setIfInBounds_toArray, List.set_cons_zero, List.set_cons_succ]
  refine anyH_mono (S' := fun W => Below wc.heap.size wc W) (fun W h => hHeld.trans (h.mono hHeld.size)) _ _ _ _ ?_
  clear hHeld
  have hHeld : Below wc.heap.size wc wc := Below.refl _ _
  refine wpAnyH_take (i := 7) (oi := ⟨_, _, _, _, _, _⟩) (v := ?_) rfl (by kernel_rfl) (by kernel_rfl) (by kernel_rfl) (fun _ _ _ h => h) (Or.inl ⟨by rfl, ?_⟩) hHeld ?_
  rotate_left 1
  · (intro W hSw; (try dsimp only at hSw); go_simp; try with_reducible rfl)
  try simp only [Act.put, List.setIfInBounds_toArray, List.set_cons_zero, List.set_cons_succ]
  refine wpAnyH_take (i := 8) (oi := ⟨_, _, _, _, _, _⟩) (v := ?_) rfl (by kernel_rfl) (by kernel_rfl) (by kernel_rfl) (fun _ _ _ h => h) (Or.inl ⟨by rfl, ?_⟩) hHeld ?_
  rotate_left 1
  · (intro W hSw; (try dsimp only at hSw); go_simp; try with_reducible rfl)
  try simp only [Act.put, List.setIfInBounds_toArray, List.set_cons_zero, List.set_cons_succ]
  refine wpAnyH_take (i := 9) (oi := ⟨_, _, _, _, _, _⟩) (v := ?_) rfl (by kernel_rfl) (by kernel_rfl) (by kernel_rfl) (fun _ _ _ h => h) (Or.inl ⟨by rfl, ?_⟩) hHeld ?_
  rotate_left 1
  · (intro W hSw; (try dsimp only at hSw); go_simp; try with_reducible rfl)
  try simp only [Act.put, List.setIfInBounds_toArray, List.set_cons_zero, List.set_cons_succ]
  refine wpAnyH_take (i := 10) (oi := ⟨_, _, _, _, _, _⟩) (v := ?_) rfl (by kernel_rfl) (by kernel_rfl) (by kernel_rfl) (fun _ _ _ h => h) (Or.inl ⟨by rfl, ?_⟩) hHeld ?_
  rotate_left 1
  · (intro W hSw; (try dsimp only at hSw); go_simp; try with_reducible rfl)
  try simp only [Act.put, List.setIfInBounds_toArray, List.set_cons_zero, List.set_cons_succ]
  refine wpAnyH_take (i := 11) (oi := ⟨_, _, _, _, _, _⟩) (v := ?_) rfl (by kernel_rfl) (by kernel_rfl) (by kernel_rfl) (fun _ _ _ h => h) (Or.inl ⟨by rfl, ?_⟩) hHeld ?_
  rotate_left 1
  · (intro W hSw; (try dsimp only at hSw); go_simp; try with_reducible rfl)
  try simp only [Act.put, List.setIfInBounds_toArray, List.set_cons_zero, List.set_cons_succ]
  refine wpAnyH_done (by kernel_rfl) ?_ _
  refine NoPanic.normal ?_
  clear hHeld
  have HP4 := Lib.hid (HP1.out.below HYwc.out HP1.out.lt)
  clear HP1 HIb
  rcases her with rfl | rfl
  · have HZ := Lib.hid (show rsealE code id Q la sec = (T, fr) by rw [HRS.out, if_pos rfl])
    go_upto_region 4 with (fail)
    refine wp_region_noPanic ?_
    refine wp_region_held_drew (S := fun W => Below wc.heap.size wc W) (by kernel_rfl) (by exact below_drewN (Below.refl _ _) 1) (fun hHeld => ?_)
    replace hHeld : Below wc.heap.size wc wc.drew := hHeld
    have HXwh := Lib.hid (HXwc.out.trans (hHeld.mono HXwc.out.size))
    have HYwh := Lib.hid (show Below wc.heap.size wc wc.drew from hHeld)
    generalize wc.drew = wh at *
    refine anyH_mono (S' := fun W => Below wh.heap.size wh W) (fun W h => hHeld.trans (h.mono hHeld.size)) _ _ _ _ ?_
    clear hHeld
    have hHeld : Below wh.heap.size wh wh := Below.refl _ _
    refine' wpAnyH_take (i := 0) (oi := ⟨_, _, _, _, _, _⟩) rfl (by kernel_rfl) (by kernel_rfl) (by kernel_rfl) (fun _ _ _ h => h) (yieldsIf_load_mid (by rfl) 25 _ rfl g 0 rfl (pkC code id Q A n c) _ (fun W hSw => rangeAt_of_blk ((HP4.out).below (HYwh.out.trans (hSw.mono HYwh.out.size)) (HP4.out).lt)) Tryd.underlying25 rfl (infRP.trans (by rw [pkC_length _ _ _ _ _ _ HQ.out]))) hHeld ?_
    try simp only [Act.put, List.setIfInBounds_toArray, List.set_cons_zero, List.set_cons_succ]
    refine wpAnyH_take (i := 1) (oi := ⟨_, _, _, _, _, _⟩) (v := ?_) rfl (by kernel_rfl) (by kernel_rfl) (by kernel_rfl) (fun _ _ _ h => h) (Or.inl ⟨by rfl, ?_⟩) hHeld ?_
    rotate_left 1
    · (intro W hSw; (try dsimp only at hSw); go_simp; try with_reducible rfl)
    try simp only [Act.put, List.setIfInBounds_toArray, List.set_cons_zero, List.set_cons_succ]
    refine wpAnyH_take (i := 2) (oi := ⟨_, _, _, _, _, _⟩) (v := ?_) rfl (by kernel_rfl) (by kernel_rfl) (by kernel_rfl) (fun _ _ _ h => h) (Or.inl ⟨by rfl, ?_⟩) hHeld ?_
    rotate_left 1
    · (intro W hSw; (try dsimp only at hSw); have hcc := ((HP4.out.below (HYwh.out.trans (hSw.mono HYwh.out.size)) HP4.out.lt).cell 18).trans (pkC_last code id Q A n c HQ.out); go_simp; try with_reducible rfl)
    try simp only [Act.put, List.setIfInBounds_toArray, List.set_cons_zero, List.set_cons_succ]
    refine wpAnyH_take (i := 3) (oi := ⟨_, _, _, _, _, _⟩) (v := ?_) rfl (by kernel_rfl) (by kernel_rfl) (by kernel_rfl) (fun _ _ _ h => h) (Or.inl ⟨by rfl, ?_⟩) hHeld ?_
    rotate_left 1
    · (intro W hSw; (try dsimp only at hSw); go_simp; try with_reducible rfl)
    try simp only [Act.put, List.setIfInBounds_toArray, List.set_cons_zero, List.set_cons_succ]
    refine wpAnyH_take (i := 4) (oi := ⟨_, _, _, _, _, _⟩) (v := ?_) rfl (by kernel_rfl) (by kernel_rfl) (by kernel_rfl) (fun _ _ _ h => h) (Or.inl ⟨by rfl, ?_⟩) hHeld ?_
    rotate_left 1
    · (intro W hSw; (try dsimp only at hSw); go_simp; try with_reducible rfl)
    try simp only [Act.put, List.setIfInBounds_toArray, List.set_cons_zero, List.set_cons_succ]
    refine wpAnyH_take (i := 5) (oi := ⟨_, _, _, _, _, _⟩) (v := ?_) rfl (by kernel_rfl) (by kernel_rfl) (by kernel_rfl) (fun _ _ _ h => h) (Or.inl ⟨by rfl, ?_⟩) hHeld ?_
    rotate_left 1
    · (intro W hSw; (try dsimp only at hSw); go_simp; try with_reducible rfl)
    try simp only [Act.put, List.setIfInBounds_toArray, List.set_cons_zero, List.set_cons_succ]
    refine wpAnyH_ready (rs := [6]) (by kernel_rfl) (by simp) ?_
    refine AllReadyH.cons (o := ⟨_, _, _, _, _, _⟩) rfl (fun K hK => ?_) AllReadyH.nil
    go_simp
    go_at_call 71
    refine (HMC.out _).mono ?_
    rintro e wi ⟨rfl, hbm⟩
    try go_wp2_with fail
    have hszx := hHeld.size
    refine hK.out _ _ (hHeld.trans (hbm.mono hszx)) (fun hHeld => ?_)
    clear hK K hszx
    replace hHeld : Below wh.heap.size wh wi := hHeld
    have HXwi := Lib.hid (HXwh.out.trans (hHeld.mono HXwh.out.size))
    have HYwi := Lib.hid (HYwh.out.trans (hHeld.mono HYwh.out.size))
    try simp only [Act.put, List.setIfInBounds_toArray, List.set_cons_zero, List.set_cons_succ]
    refine anyH_mono (S' := fun W => Below wi.heap.size wi W) (fun W h => hHeld.trans (h.mono hHeld.size)) _ _ _ _ ?_
    clear hHeld
    have hHeld : Below wi.heap.size wi wi := Below.refl _ _
    refine wpAnyH_ready (rs := [7]) (by kernel_rfl) (by simp) ?_
    refine AllReadyH.cons (o := ⟨_, _, _, _, _, _⟩) rfl (fun K hK => ?_) AllReadyH.nil
    go_simp
    go_at_call 69
    refine (HWT.out _ (HXwi.out) MM).mono ?_
    rintro e wj ⟨Aj, cj, rfl, hIj, hbj⟩
    try go_wp2_with fail
    have hszx := hHeld.size
    refine hK.out _ _ (hHeld.trans (hbj.mono hszx)) (fun hHeld => ?_)
    clear hK K hszx
    replace hHeld : Below wi.heap.size wi wj := hHeld
    have HXwj := Lib.hid (HXwi.out.trans (hHeld.mono HXwi.out.size))
    have HYwj := Lib.hid (HYwi.out.trans (hHeld.mono HYwi.out.size))
    have HIj := Lib.hid hIj
    clear hIj
    try simp only [Act.put, List.setIfInBounds_toArray, List.set_cons_zero, List.set_cons_succ]
    refine anyH_mono (S' := fun W => Below wj.heap.size wj W) (fun W h => hHeld.trans (h.mono hHeld.size)) _ _ _ _ ?_
    clear hHeld
    have hHeld : Below wj.heap.size wj wj := Below.refl _ _
    refine wpAnyH_ready (rs := [8]) (by kernel_rfl) (by simp) ?_
    refine AllReadyH.cons (o := ⟨_, _, _, _, _, _⟩) rfl (fun K hK => ?_) AllReadyH.nil
    go_simp
    go_at_call 14
    refine (HRW2.out _ _ _ HIj.out).mono ?_
    rintro e wk ⟨rfl, hbk⟩
    try go_wp2_with fail
    have hszx := hHeld.size
    refine hK.out _ _ (hHeld.trans (hbk.mono hszx)) (fun hHeld => ?_)
    clear hK K hszx
    replace hHeld : Below wj.heap.size wj wk := hHeld
    have HXwk := Lib.hid (HXwj.out.trans (hHeld.mono HXwj.out.size))
    have HYwk := Lib.hid (HYwj.out.trans (hHeld.mono HYwj.out.size))
    try simp only [Act.put, List.setIfInBounds_toArray, List.set_cons_zero, List.set_cons_succ]
    refine anyH_mono (S' := fun W => Below wk.heap.size wk W) (fun W h => hHeld.trans (h.mono hHeld.size)) _ _ _ _ ?_
    clear hHeld
    have hHeld : Below wk.heap.size wk wk := Below.refl _ _
    refine wpAnyH_take (i := 9) (oi := ⟨_, _, _, _, _, _⟩) (v := ?_) rfl (by kernel_rfl) (by kernel_rfl) (by kernel_rfl) (fun _ _ _ h => h) (Or.inl ⟨by rfl, ?_⟩) hHeld ?_
    rotate_left 1
    · (intro W hSw; (try dsimp only at hSw); go_simp; try with_reducible rfl)
    try simp only [Act.put, List.setIfInBounds_toArray, List.set_cons_zero, List.set_cons_succ]
    refine wpAnyH_take (i := 10) (oi := ⟨_, _, _, _, _, _⟩) (v := ?_) rfl (by kernel_rfl) (by kernel_rfl) (by kernel_rfl) (fun _ _ _ h => h) (Or.inl ⟨by rfl, ?_⟩) hHeld ?_
    rotate_left 1
    · (intro W hSw; (try dsimp only at hSw); go_simp; try with_reducible rfl)
    try simp only [Act.put, List.setIfInBounds_toArray, List.set_cons_zero, List.set_cons_succ]
    refine wpAnyH_take (i := 11) (oi := ⟨_, _, _, _, _, _⟩) (v := ?_) rfl (by kernel_rfl) (by kernel_rfl) (by kernel_rfl) (fun _ _ _ h => h) (Or.inl ⟨by rfl, ?_⟩) hHeld ?_
    rotate_left 1
    · (intro W hSw; (try dsimp only at hSw); go_simp; try with_reducible rfl)
    try simp only [Act.put, List.setIfInBounds_toArray, List.set_cons_zero, List.set_cons_succ]
    refine wpAnyH_take (i := 12) (oi := ⟨_, _, _, _, _, _⟩) (v := ?_) rfl (by kernel_rfl) (by kernel_rfl) (by kernel_rfl) (fun _ _ _ h => h) (Or.inl ⟨by rfl, ?_⟩) hHeld ?_
    rotate_left 1
    · (intro W hSw; (try dsimp only at hSw); go_simp; try with_reducible rfl)
    try simp only [Act.put, List.setIfInBounds_toArray, List.set_cons_zero, List.set_cons_succ]
    refine wpAnyH_done (by kernel_rfl) ?_ _
    refine NoPanic.normal ?_
    clear hHeld
    go_wp2
    go_ret2
    exact ⟨by rw [HZ.out] <;> rfl, HXwk.out⟩
  · have HZ := Lib.hid (show rsealE code id Q la sec = ([], 2) by rw [HRS.out, if_neg (by decide)])
    go_wp2
    go_ret2
    exact ⟨by rw [HZ.out] <;> rfl, HXwc.out⟩
set_option maxRecDepth 100000 in
set_option maxHeartbeats 1000000 in
theorem rSeal_code (c n : Nat) (code id : Int) (Q : List UInt8) (A : Option Addr) (la : Attrs) (sec : List UInt8) (w : World) (hQ : Q.length = 16) (hn : la.length = n) (hA : SIn w w.heap.size A c la) (hm : n ≤ 400000) (hs : sec.length ≤ 1000000) (hc : ¬ code = 1) :
    Calls Tryd.prog 21 #[.agg (pkC code id Q A n c).toArray, .string ⟨sec.toArray⟩] w fun e w' => e = .returned (.tuple #[.string ⟨(sealE code id Q la sec).1.toArray⟩, .int .i64 ((sealE code id Q la sec).2 : Int)]) ∧ Below w.heap.size w w' := by
  have HQ := Lib.hid hQ
  have HMK := Lib.hid (fun (W : World) (h : Below w.heap.size w W) => rmarks_e c n code id Q A la W hQ hn (hA.up h))
  have HSL := Lib.hid (fun (W : World) (h : Below w.heap.size w W) => rseal_e c n code id Q A la sec W hQ hn (hA.up h) hm hs)
  have HZ := Lib.hid (show sealE code id Q la sec = ([], 1) by unfold sealE; rw [if_neg hc])
  clear hQ hn hA hm hs HSL
  go_enter Tryd.func21, Tryd.ntmps21
  go_upto_region 1 with (fail)
  have hP := Blk.new_of w 25 (pkC code id Q A n c).toArray (pkC code id Q A n c) rfl
  have hb0 : Below w.heap.size w (w.alloc (.cells (pkC code id Q A n c).toArray 25)) := (Below.refl _ _).alloc (Nat.le_refl _) _
  obtain ⟨g, hg⟩ : ∃ g, g = w.heap.size := ⟨_, rfl⟩
  rw [← hg] at hP
  simp only [← hg]
  have HP1 := Lib.hid hP
  have HXw1 := Lib.hid hb0
  clear hg hP hb0
  generalize w.alloc (.cells (pkC code id Q A n c).toArray 25) = w1 at *
  have hp1 := HP1.out
  have hc0 : w1.cell? ⟨g, 0, none⟩ = some (.int .i64 code) := HP1.out.cell 0
  go_upto_region 2 with (first
    | ((with_reducible refine (?_ : wpList _ _ _ (Oper.mk (some 9) _ _ _ _ _ :: _) _ _)); go_loud (refine wpList_load_blk rfl 25 (.tmp 2) rfl g rfl _ _ _ (hp1) Tryd.underlying25 rfl (infRP.trans (by rw [pkC_length _ _ _ _ _ _ HQ.out])) ?_))
    | (go_at_call 50; refine (HMK.out _ (HXw1.out)).mono ?_; rintro e w2 ⟨r, rfl, _, hb2⟩))
  have hp2 := HP1.out.below hb2 HP1.out.lt
  have hc02 : w2.cell? ⟨g, 0, none⟩ = some (.int .i64 code) := hp2.cell 0
  have HX2 := Lib.hid (HXw1.out.trans (hb2.mono HXw1.out.size))
  clear hp1 hc0 hb2
  go_wp2
  go_ret2
  exact ⟨by rw [HZ.out] <;> rfl, HX2.out⟩
set_option maxRecDepth 100000 in
set_option maxHeartbeats 1000000 in
theorem rSeal_marks (c n : Nat) (code id : Int) (Q : List UInt8) (A : Option Addr) (la : Attrs) (sec : List UInt8) (w : World) (hQ : Q.length = 16) (hn : la.length = n) (hA : SIn w w.heap.size A c la) (hm : n ≤ 400000) (hs : sec.length ≤ 1000000) (hc : code = 1) (hk : hasMark la = true) :
    Calls Tryd.prog 21 #[.agg (pkC code id Q A n c).toArray, .string ⟨sec.toArray⟩] w fun e w' => e = .returned (.tuple #[.string ⟨(sealE code id Q la sec).1.toArray⟩, .int .i64 ((sealE code id Q la sec).2 : Int)]) ∧ Below w.heap.size w w' := by
  have HQ := Lib.hid hQ
  have HMK := Lib.hid (fun (W : World) (h : Below w.heap.size w W) => rmarks_e c n code id Q A la W hQ hn (hA.up h))
  have HSL := Lib.hid (fun (W : World) (h : Below w.heap.size w W) => rseal_e c n code id Q A la sec W hQ hn (hA.up h) hm hs)
  have HZ := Lib.hid (show sealE code id Q la sec = ([], 1) by unfold sealE markE; rw [if_pos hc, if_pos hk])
  have hq : (0 : Int) < (cntM la : Int) := by have := cntM_has la; rw [hk] at this; have := of_decide_eq_true this; omega
  generalize cntM la = q at *
  subst hc
  clear hQ hn hA hm hs HSL hk
  go_enter Tryd.func21, Tryd.ntmps21
  go_upto_region 1 with (fail)
  have hP := Blk.new_of w 25 (pkC 1 id Q A n c).toArray (pkC 1 id Q A n c) rfl
  have hb0 : Below w.heap.size w (w.alloc (.cells (pkC 1 id Q A n c).toArray 25)) := (Below.refl _ _).alloc (Nat.le_refl _) _
  obtain ⟨g, hg⟩ : ∃ g, g = w.heap.size := ⟨_, rfl⟩
  rw [← hg] at hP
  simp only [← hg]
  have HP1 := Lib.hid hP
  have HXw1 := Lib.hid hb0
  clear hg hP hb0
  generalize w.alloc (.cells (pkC 1 id Q A n c).toArray 25) = w1 at *
  have hp1 := HP1.out
  have hc0 : w1.cell? ⟨g, 0, none⟩ = some (.int .i64 1) := HP1.out.cell 0
  go_upto_region 2 with (first
    | ((with_reducible refine (?_ : wpList _ _ _ (Oper.mk (some 9) _ _ _ _ _ :: _) _ _)); go_loud (refine wpList_load_blk rfl 25 (.tmp 2) rfl g rfl _ _ _ (hp1) Tryd.underlying25 rfl (infRP.trans (by rw [pkC_length _ _ _ _ _ _ HQ.out])) ?_))
    | (go_at_call 50; refine (HMK.out _ (HXw1.out)).mono ?_; rintro e w2 ⟨r, rfl, _, hb2⟩))
  have hp2 := HP1.out.below hb2 HP1.out.lt
  have hc02 : w2.cell? ⟨g, 0, none⟩ = some (.int .i64 1) := hp2.cell 0
  have HX2 := Lib.hid (HXw1.out.trans (hb2.mono HXw1.out.size))
  clear hp1 hc0 hb2
  go_wp2
  go_ret2
  exact ⟨by rw [HZ.out] <;> rfl, HX2.out⟩
set_option maxRecDepth 100000 in
set_option maxHeartbeats 1000000 in
theorem rSeal_go (c n : Nat) (code id : Int) (Q : List UInt8) (A : Option Addr) (la : Attrs) (sec : List UInt8) (w : World) (hQ : Q.length = 16) (hn : la.length = n) (hA : SIn w w.heap.size A c la) (hm : n ≤ 400000) (hs : sec.length ≤ 1000000) (hc : code = 1) (hk : hasMark la = false) :
    Calls Tryd.prog 21 #[.agg (pkC code id Q A n c).toArray, .string ⟨sec.toArray⟩] w fun e w' => e = .returned (.tuple #[.string ⟨(sealE code id Q la sec).1.toArray⟩, .int .i64 ((sealE code id Q la sec).2 : Int)]) ∧ Below w.heap.size w w' := by
  have HQ := Lib.hid hQ
  have HMK := Lib.hid (fun (W : World) (h : Below w.heap.size w W) => rmarks_e c n code id Q A la W hQ hn (hA.up h))
  have HSL := Lib.hid (fun (W : World) (h : Below w.heap.size w W) => rseal_e c n code id Q A la sec W hQ hn (hA.up h) hm hs)
  have HZ := Lib.hid (show sealE code id Q la sec = rsealE code id Q la sec by unfold sealE; rw [if_pos hc, markE_seal, if_neg (by rw [hk]; decide)])
  have hq0 : cntM la = 0 := by have := cntM_has la; rw [hk] at this; have := of_decide_eq_false this; omega
  rw [hq0] at HMK
  subst hc
  generalize rsealE 1 id Q la sec = E at *
  generalize sealE 1 id Q la sec = E2 at *
  clear hQ hn hA hm hs hk hq0
  go_enter Tryd.func21, Tryd.ntmps21
  go_upto_region 1 with (fail)
  have hP := Blk.new_of w 25 (pkC 1 id Q A n c).toArray (pkC 1 id Q A n c) rfl
  have hb0 : Below w.heap.size w (w.alloc (.cells (pkC 1 id Q A n c).toArray 25)) := (Below.refl _ _).alloc (Nat.le_refl _) _
  obtain ⟨g, hg⟩ : ∃ g, g = w.heap.size := ⟨_, rfl⟩
  rw [← hg] at hP
  simp only [← hg]
  have HP1 := Lib.hid hP
  have HXw1 := Lib.hid hb0
  clear hg hP hb0
  generalize w.alloc (.cells (pkC 1 id Q A n c).toArray 25) = w1 at *
  have hp1 := HP1.out
  have hc0 : w1.cell? ⟨g, 0, none⟩ = some (.int .i64 1) := HP1.out.cell 0
  go_upto_region 2 with (first
    | ((with_reducible refine (?_ : wpList _ _ _ (Oper.mk (some 9) _ _ _ _ _ :: _) _ _)); go_loud (refine wpList_load_blk rfl 25 (.tmp 2) rfl g rfl _ _ _ (hp1) Tryd.underlying25 rfl (infRP.trans (by rw [pkC_length _ _ _ _ _ _ HQ.out])) ?_))
    | (go_at_call 50; refine (HMK.out _ (HXw1.out)).mono ?_; rintro e w2 ⟨r, rfl, _, hb2⟩))
  have hp2 := HP1.out.below hb2 HP1.out.lt
  have hc02 : w2.cell? ⟨g, 0, none⟩ = some (.int .i64 1) := hp2.cell 0
  have HX2 := Lib.hid (HXw1.out.trans (hb2.mono HXw1.out.size))
  clear hp1 hc0 hb2
  go_wp2_with (first
    | ((with_reducible refine (?_ : wpList _ _ _ (Oper.mk (some 20) _ _ _ _ _ :: _) _ _)); go_loud (refine wpList_load_blk rfl 25 (.tmp 2) rfl g rfl _ _ _ (hp2) Tryd.underlying25 rfl (infRP.trans (by rw [pkC_length _ _ _ _ _ _ HQ.out])) ?_))
    | (go_at_call 51; refine (HSL.out _ (HX2.out)).mono ?_; rintro e w3 ⟨rfl, hb3⟩))
  go_ret2
  exact ⟨by rw [HZ.out] <;> rfl, HX2.out.trans (hb3.mono HX2.out.size)⟩
theorem rSeal_e (c n : Nat) (code id : Int) (Q : List UInt8) (A : Option Addr) (la : Attrs) (sec : List UInt8) (w : World) (hQ : Q.length = 16) (hn : la.length = n) (hA : SIn w w.heap.size A c la) (hm : n ≤ 400000) (hs : sec.length ≤ 1000000) :
    Calls Tryd.prog 21 #[.agg (pkC code id Q A n c).toArray, .string ⟨sec.toArray⟩] w fun e w' => e = .returned (.tuple #[.string ⟨(sealE code id Q la sec).1.toArray⟩, .int .i64 ((sealE code id Q la sec).2 : Int)]) ∧ Below w.heap.size w w' := by
  by_cases hc : code = 1
  · cases hk : hasMark la with
    | true => exact rSeal_marks c n code id Q A la sec w hQ hn hA hm hs hc hk
    | false => exact rSeal_go c n code id Q A la sec w hQ hn hA hm hs hc hk
  · exact rSeal_code c n code id Q A la sec w hQ hn hA hm hs hc
end Go.Proofs.YtbomckbekcaemaaDoor
