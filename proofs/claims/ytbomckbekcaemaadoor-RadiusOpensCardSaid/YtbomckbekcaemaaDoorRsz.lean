/-
  The contracts of the document's Open and Opened.
-/
import Derived.Test.YtbomckbekcaemaaDoorRsx
import Derived.Test.YtbomckbekcaemaaDoorRsy
namespace Go.Proofs.YtbomckbekcaemaaDoor
open Go.RowKit

theorem readE_q (b : List UInt8) : (readE b).2 = 0 → (readE b).1.2.2.1 = (b.drop 4).take 16 := by
  unfold readE
  split
  · intro _; rfl
  · intro h; exact absurd h (by decide)
theorem rpk_row {code id : Int} {Q : List UInt8} {la : Attrs} {er : Nat} {w w' : World} {e : Ending} (h : RPkPost ((code, id, Q, la), er) w e w') : ∃ A c, e = .returned (.tuple #[.agg (pkC code id Q A la.length c).toArray, .int .i64 (er : Int)]) ∧ SRow w' w.heap.size (.slice A la.length c) la ∧ Q.length = 16 ∧ Below w.heap.size w w' := by
  obtain ⟨A, m', c, rfl, hS, hQ, hb⟩ := h
  obtain ⟨A', c', hv, _⟩ := hS.slice
  cases hv
  exact ⟨A, c, rfl, hS, hQ, hb⟩
theorem unmark_bad {code id : Int} {Q : List UInt8} {la : Attrs} {sec : List UInt8} : (unmarkE code id Q la sec).2 = 0 ∨ unmarkE code id Q la sec = (zeroPk, 5) := by
  unfold unmarkE
  split
  · exact .inl rfl
  · exact .inr rfl
set_option maxRecDepth 100000 in
set_option maxHeartbeats 2000000 in
theorem rOpen_e (b sec : List UInt8) (w : World) (hs : sec.length ≤ 1000000) :
    Calls Tryd.prog 28 #[.string ⟨b.toArray⟩, .string ⟨sec.toArray⟩] w (RPkPost (openE b sec) w) := by
  have hok := read_ok b
  have her := read_err b
  have hE : openE b sec = if (readE b).2 = 0 then (if (readE b).1.1 = 1 then unmarkE (readE b).1.1 (readE b).1.2.1 (readE b).1.2.2.1 (readE b).1.2.2.2 sec else (zeroPk, 10)) else (zeroPk, 2) := rfl
  have hRD0 := fun (W : World) => rread_e b W
  obtain ⟨code, id, Q, la, er, hR⟩ : ∃ code id Q la er, readE b = ((code, id, Q, la), er) := ⟨_, _, _, _, _, rfl⟩
  rw [hR] at hE hok her hRD0
  simp only at hE hok her
  have HRD := Lib.hid (fun (W : World) => (hRD0 W).mono (fun e w' h => rpk_row h))
  have HROP := Lib.hid (fun (h0 : er = 0) (W : World) (A : Option Addr) (c : Nat) (hQ : Q.length = 16) (h : SIn W W.heap.size A c la) => ropen_e c la.length code id Q A la sec W hQ rfl h (by have := (hok h0).2; omega) hs (hok h0).1)
  have HE := Lib.hid hE
  clear hE hok hR hRD0 hs
  go_enter Tryd.func28, Tryd.ntmps28
  go_upto_region 1 with (fail)
  have hR := Blk.new_of w 25 #[.int .i64 0, .int .i64 0, .int .u8 0, .int .u8 0, .int .u8 0, .int .u8 0, .int .u8 0, .int .u8 0, .int .u8 0, .int .u8 0, .int .u8 0, .int .u8 0, .int .u8 0, .int .u8 0, .int .u8 0, .int .u8 0, .int .u8 0, .int .u8 0, .slice none 0 0] (pkC 0 0 zQ none 0 0) rfl
  have hb0 : Below w.heap.size w (w.alloc (.cells #[.int .i64 0, .int .i64 0, .int .u8 0, .int .u8 0, .int .u8 0, .int .u8 0, .int .u8 0, .int .u8 0, .int .u8 0, .int .u8 0, .int .u8 0, .int .u8 0, .int .u8 0, .int .u8 0, .int .u8 0, .int .u8 0, .int .u8 0, .int .u8 0, .slice none 0 0] 25)) := (Below.refl _ _).alloc (Nat.le_refl _) _
  obtain ⟨gr, hgr⟩ : ∃ gr, gr = w.heap.size := ⟨_, rfl⟩
  have HG := Lib.hid (show w.heap.size ≤ gr by omega)
  rw [← hgr] at hR
  simp only [← hgr]
  have HR := Lib.hid hR
  have HBW := Lib.hid hb0
  clear hgr hR hb0
  generalize w.alloc (.cells #[.int .i64 0, .int .i64 0, .int .u8 0, .int .u8 0, .int .u8 0, .int .u8 0, .int .u8 0, .int .u8 0, .int .u8 0, .int .u8 0, .int .u8 0, .int .u8 0, .int .u8 0, .int .u8 0, .int .u8 0, .int .u8 0, .int .u8 0, .int .u8 0, .slice none 0 0] 25) = w1 at *
  obtain ⟨m2, hm2⟩ : ∃ m2, la.length = m2 := ⟨_, rfl⟩
  rw [hm2] at HRD HROP
  clear hm2
  go_upto_region 2 with (first
    | (go_at_call 19; refine (HRD.out _).mono ?_; rintro e w2 ⟨A2, c2, rfl, hS2, hQ2, hb2⟩; have HQ := Lib.hid hQ2)
    | ((with_reducible refine (?_ : wpList _ _ _ (Oper.mk none _ _ _ _ _ :: _) _ _)); go_loud (refine wpList_store_blk rfl 25 (.tmp 6) (.tmp 11) rfl rfl w2.heap.size (pkC code id Q A2 m2 c2) rfl rfl _ _ (Blk.new_of w2 25 #[.int .i64 0, .int .i64 0, .int .u8 0, .int .u8 0, .int .u8 0, .int .u8 0, .int .u8 0, .int .u8 0, .int .u8 0, .int .u8 0, .int .u8 0, .int .u8 0, .int .u8 0, .int .u8 0, .int .u8 0, .int .u8 0, .int .u8 0, .int .u8 0, .slice none 0 0] (pkC 0 0 zQ none 0 0) rfl) (infRP.trans (by rw [pkC_length _ _ _ _ _ _ HQ.out])) (by rw [pkC_length _ _ _ _ _ _ HQ.out]; first | rfl | rw [pkC_length _ _ _ _ _ _ HQ.out]) (pk_one _ _ _ _ _ _) ?_); intro w3 hP3 hg3))
  have h2a : Below w2.heap.size w2 (w2.alloc (.cells #[.int .i64 0, .int .i64 0, .int .u8 0, .int .u8 0, .int .u8 0, .int .u8 0, .int .u8 0, .int .u8 0, .int .u8 0, .int .u8 0, .int .u8 0, .int .u8 0, .int .u8 0, .int .u8 0, .int .u8 0, .int .u8 0, .int .u8 0, .int .u8 0, .slice none 0 0] 25)) := (Below.refl _ _).alloc (Nat.le_refl _) _
  have hb3 : Below w2.heap.size w2 w3 := below_new h2a hg3 (Nat.le_refl _) h2a.size
  have HB3 := Lib.hid (HBW.out.trans ((hb2.trans (hb3.mono hb2.size)).mono HBW.out.size))
  have HR3 := Lib.hid (HR.out.below (hb2.trans (hb3.mono hb2.size)) HR.out.lt)
  have HI3 := Lib.hid ((srow_sinK hS2).up hb3)
  have HP3 := Lib.hid hP3
  generalize w2.heap.size = g at *
  clear h2a hb3 hS2 hg3 hb2 hQ2 hP3
  have hc0 : w3.cell? ⟨g, 0, none⟩ = some (.int .i64 code) := HP3.out.cell 0
  rcases her with rfl | rfl
  · by_cases h1 : code = 1
    · subst h1
      have HZ := Lib.hid (show openE b sec = unmarkE 1 id Q la sec by rw [HE.out, if_pos rfl, if_pos rfl])
      have hp3 := HP3.out
      have HO := Lib.hid (HROP.out rfl w3 A2 c2 HQ.out HI3.out)
      generalize unmarkE 1 id Q la sec = EU at *
      obtain ⟨⟨cu, iu, Qu, lu⟩, eu⟩ := EU
      have HO2 := Lib.hid (HO.out.mono (fun e w' h => rpk_row h))
      go_wp2_with (first
        | ((with_reducible refine (?_ : wpList _ _ _ (Oper.mk (some 21) _ _ _ _ _ :: _) _ _)); go_loud (refine wpList_load_blk rfl 25 (.tmp 6) rfl g rfl _ _ _ (hp3) Tryd.underlying25 rfl (infRP.trans (by rw [pkC_length _ _ _ _ _ _ HQ.out])) ?_))
        | (go_at_call 56; refine HO2.out.mono ?_; rintro e w4 ⟨A4, c4, rfl, hS4, hQ4, hb4⟩)
        | ((with_reducible refine (?_ : wpList _ _ _ (Oper.mk none _ _ _ _ _ :: _) _ _)); go_loud (refine wpList_store_blk rfl 25 (.tmp 4) (.tmp 24) rfl rfl gr (pkC cu iu Qu A4 lu.length c4) rfl rfl _ _ (HR3.out.below hb4 HR3.out.lt) (infRP.trans (by rw [pkC_length _ _ _ _ _ _ hQ4])) (by rw [pkC_length _ _ _ _ _ _ hQ4]; first | rfl | rw [pkC_length _ _ _ _ _ _ HQ.out]) (pk_one _ _ _ _ _ _) ?_); intro wz hPz hgz))
      refine bodyPost_ret (v := .tuple #[.agg _, _]) (results_cs rfl _ _ gr 25 _ _ _ rfl rfl hPz Tryd.underlying25 rfl (infRP.trans (by rw [pkC_length _ _ _ _ _ _ hQ4]))) rfl ?_
      exact ⟨A4, lu.length, c4, by rw [HZ.out] <;> rfl, by rw [HZ.out]; exact (hS4.grown hgz HR3.out.lt).base HB3.out.size, by rw [HZ.out]; exact hQ4, below_new (HB3.out.trans (hb4.mono HB3.out.size)) hgz HG.out (Nat.le_trans HB3.out.size hb4.size)⟩
    · have HZ := Lib.hid (show openE b sec = (zeroPk, 10) by rw [HE.out, if_pos rfl, if_neg h1])
      go_wp2_with ((with_reducible refine (?_ : wpList _ _ _ (Oper.mk none _ _ _ _ _ :: _) _ _)); go_loud (refine wpList_store_blk rfl 25 (.tmp 4) (.tmp 20) rfl rfl gr (pkC 0 0 zQ none 0 0) rfl rfl _ _ (HR3.out) (infRP) (rfl) (pk_one _ _ _ _ _ _) ?_); intro wz hPz hgz)
      refine bodyPost_ret (v := .tuple #[.agg _, _]) (results_cs rfl _ _ gr 25 _ _ _ rfl rfl hPz Tryd.underlying25 rfl (infRP)) rfl ?_
      exact ⟨none, 0, 0, by rw [HZ.out] <;> rfl, by rw [HZ.out]; exact SRow.nil _ _, by rw [HZ.out]; rfl, below_new HB3.out hgz HG.out (HB3.out).size⟩
  · have HZ := Lib.hid (show openE b sec = (zeroPk, 2) by rw [HE.out, if_neg (by decide)])
    go_wp2_with ((with_reducible refine (?_ : wpList _ _ _ (Oper.mk none _ _ _ _ _ :: _) _ _)); go_loud (refine wpList_store_blk rfl 25 (.tmp 4) (.tmp 15) rfl rfl gr (pkC 0 0 zQ none 0 0) rfl rfl _ _ (HR3.out) (infRP) (rfl) (pk_one _ _ _ _ _ _) ?_); intro wz hPz hgz)
    refine bodyPost_ret (v := .tuple #[.agg _, _]) (results_cs rfl _ _ gr 25 _ _ _ rfl rfl hPz Tryd.underlying25 rfl (infRP)) rfl ?_
    exact ⟨none, 0, 0, by rw [HZ.out] <;> rfl, by rw [HZ.out]; exact SRow.nil _ _, by rw [HZ.out]; rfl, below_new HB3.out hgz HG.out (HB3.out).size⟩
set_option maxRecDepth 100000 in
set_option maxHeartbeats 4000000 in
theorem rOpened_e (b M sec : List UInt8) (w : World) (hM : M.length = 16) (hs : sec.length ≤ 100000) :
    Calls Tryd.prog 29 #[.string ⟨b.toArray⟩, .agg (M.map B8).toArray, .string ⟨sec.toArray⟩] w (RPkPost (openedE b M sec) w) := by
  have hok := read_ok b
  have her := read_err b
  have hbig := read_big b
  have hq4 := readE_q b
  have hRD0 := fun (W : World) => rread_e b W
  obtain ⟨code, id, Q, la, er, hR⟩ : ∃ code id Q la er, readE b = ((code, id, Q, la), er) := ⟨_, _, _, _, _, rfl⟩
  have hub := unmark_bad (code := code) (id := id) (Q := M) (la := la) (sec := sec)
  have hRO0 := fun (h0 : pkOK code id la = true ∧ la.length ≤ 4076) (W : World) (A : Option Addr) (c : Nat) (h : SIn W W.heap.size A c la) => ropen_e c la.length code id M A la sec W hM rfl h (by omega) (by omega) h0.1
  obtain ⟨cu, iu, Qu, lu, eu, hU⟩ : ∃ cu iu Qu lu eu, unmarkE code id M la sec = ((cu, iu, Qu, lu), eu) := ⟨_, _, _, _, _, rfl⟩
  obtain ⟨D, hD⟩ : ∃ D, D = sumO b M sec := ⟨_, rfl⟩
  have hE : openedE b M sec = if er = 0 then (if code = 1 then (zeroPk, 10) else if Q = D then (if eu = 0 then ((cu, iu, D, lu), 0) else (zeroPk, eu)) else (zeroPk, 5)) else (zeroPk, 2) := by
    unfold openedE
    simp only [hR, hU, ← hD]
  rw [hU] at hub hRO0
  rw [hR] at hok her hbig hq4 hRD0
  simp only at hok her hbig hq4 hub
  have HRD := Lib.hid (fun (W : World) => (hRD0 W).mono (fun e w' h => rpk_row h))
  have HRO := Lib.hid (fun (h0 : pkOK code id la = true ∧ la.length ≤ 4076) (W : World) (A : Option Addr) (c : Nat) (h : SIn W W.heap.size A c la) => (hRO0 h0 W A c h).mono (fun e w' h => rpk_row h))
  have HE := Lib.hid hE
  have HM := Lib.hid hM
  have HDL := Lib.hid (show D.length = 16 by rw [hD]; exact md5_length _)
  have HDD := Lib.hid (show D = md5 (b.take 4 ++ M ++ b.drop 20 ++ sec) from hD)
  have HS := Lib.hid hs
  have HUB := Lib.hid hub
  have HOK := Lib.hid hok
  have HBG := Lib.hid hbig
  have HQ4 := Lib.hid hq4
  clear hE hok hR hRD0 hs hub hRO0 hU hD hM hbig hq4
  go_enter Tryd.func29, Tryd.ntmps29
  go_upto_region 1 with (fail)
  have hK := (Blk.new_of w 22 (M.map B8).toArray (M.map B8) rfl).alloc (.cells #[.int .i64 0, .int .i64 0, .int .u8 0, .int .u8 0, .int .u8 0, .int .u8 0, .int .u8 0, .int .u8 0, .int .u8 0, .int .u8 0, .int .u8 0, .int .u8 0, .int .u8 0, .int .u8 0, .int .u8 0, .int .u8 0, .int .u8 0, .int .u8 0, .slice none 0 0] 25)
  have hR := Blk.new2_of w (.cells (M.map B8).toArray 22) 25 #[.int .i64 0, .int .i64 0, .int .u8 0, .int .u8 0, .int .u8 0, .int .u8 0, .int .u8 0, .int .u8 0, .int .u8 0, .int .u8 0, .int .u8 0, .int .u8 0, .int .u8 0, .int .u8 0, .int .u8 0, .int .u8 0, .int .u8 0, .int .u8 0, .slice none 0 0] (pkC 0 0 zQ none 0 0) rfl
  have hb0 : Below w.heap.size w ((w.alloc (.cells (M.map B8).toArray 22)).alloc (.cells #[.int .i64 0, .int .i64 0, .int .u8 0, .int .u8 0, .int .u8 0, .int .u8 0, .int .u8 0, .int .u8 0, .int .u8 0, .int .u8 0, .int .u8 0, .int .u8 0, .int .u8 0, .int .u8 0, .int .u8 0, .int .u8 0, .int .u8 0, .int .u8 0, .slice none 0 0] 25)) := ((Below.refl _ _).alloc (Nat.le_refl _) _).alloc (by simp) _
  obtain ⟨gr, hgr⟩ : ∃ gr, gr = w.heap.size + 1 := ⟨_, rfl⟩
  obtain ⟨gk, hgk⟩ : ∃ gk, gk = w.heap.size := ⟨_, rfl⟩
  have HG := Lib.hid (show w.heap.size ≤ gr by omega)
  rw [← hgr] at hR
  rw [← hgk] at hK
  simp only [← hgr]
  clear hgr
  simp only [← hgk]
  have HR := Lib.hid hR
  have HK := Lib.hid hK
  have HBW := Lib.hid hb0
  clear hgk hR hK hb0
  generalize (w.alloc (.cells (M.map B8).toArray 22)).alloc (.cells #[.int .i64 0, .int .i64 0, .int .u8 0, .int .u8 0, .int .u8 0, .int .u8 0, .int .u8 0, .int .u8 0, .int .u8 0, .int .u8 0, .int .u8 0, .int .u8 0, .int .u8 0, .int .u8 0, .int .u8 0, .int .u8 0, .int .u8 0, .int .u8 0, .slice none 0 0] 25) = w1 at *
  obtain ⟨m2, hm2⟩ : ∃ m2, la.length = m2 := ⟨_, rfl⟩
  rw [hm2] at HRD HRO HOK
  clear hm2
  go_upto_region 2 with (first
    | (go_at_call 19; refine (HRD.out _).mono ?_; rintro e w2 ⟨A2, c2, rfl, hS2, hQ2, hb2⟩; have HQ := Lib.hid hQ2)
    | ((with_reducible refine (?_ : wpList _ _ _ (Oper.mk none _ _ _ _ _ :: _) _ _)); go_loud (refine wpList_store_blk rfl 25 (.tmp 8) (.tmp 15) rfl rfl w2.heap.size (pkC code id Q A2 m2 c2) rfl rfl _ _ (Blk.new_of w2 25 #[.int .i64 0, .int .i64 0, .int .u8 0, .int .u8 0, .int .u8 0, .int .u8 0, .int .u8 0, .int .u8 0, .int .u8 0, .int .u8 0, .int .u8 0, .int .u8 0, .int .u8 0, .int .u8 0, .int .u8 0, .int .u8 0, .int .u8 0, .int .u8 0, .slice none 0 0] (pkC 0 0 zQ none 0 0) rfl) (infRP.trans (by rw [pkC_length _ _ _ _ _ _ HQ.out])) (by rw [pkC_length _ _ _ _ _ _ HQ.out]; first | rfl | rw [pkC_length _ _ _ _ _ _ HQ.out]) (pk_one _ _ _ _ _ _) ?_); intro w3 hP3 hg3))
  have h2a : Below w2.heap.size w2 (w2.alloc (.cells #[.int .i64 0, .int .i64 0, .int .u8 0, .int .u8 0, .int .u8 0, .int .u8 0, .int .u8 0, .int .u8 0, .int .u8 0, .int .u8 0, .int .u8 0, .int .u8 0, .int .u8 0, .int .u8 0, .int .u8 0, .int .u8 0, .int .u8 0, .int .u8 0, .slice none 0 0] 25)) := (Below.refl _ _).alloc (Nat.le_refl _) _
  have hb3 : Below w2.heap.size w2 w3 := below_new h2a hg3 (Nat.le_refl _) h2a.size
  have HX12 := Lib.hid (hb2.trans (hb3.mono hb2.size))
  have HXw3 := Lib.hid (HBW.out.trans (HX12.out.mono HBW.out.size))
  have HR3 := Lib.hid (HR.out.below HX12.out HR.out.lt)
  have HK3 := Lib.hid (HK.out.below HX12.out HK.out.lt)
  have HI3 := Lib.hid ((srow_sinK hS2).up hb3)
  have HP3 := Lib.hid hP3
  have HGW := Lib.hid (show w.heap.size ≤ w2.heap.size from Nat.le_trans HBW.out.size hb2.size)
  have HGR := Lib.hid (show gr < w2.heap.size from Nat.lt_of_lt_of_le HR.out.lt hb2.size)
  have HAG := Lib.hid (fun (ad : Addr) (e : A2 = some ad) => (show ad.block < w2.heap.size from (hS2.lt ad.block (by rw [e]; rfl)).2))
  generalize w2.heap.size = g at *
  clear h2a hb3 hS2 hg3 hb2 hQ2 hP3
  have hc0 : w3.cell? ⟨g, 0, none⟩ = some (.int .i64 code) := HP3.out.cell 0
  rcases her with rfl | rfl
  · by_cases h1 : code = 1
    · subst h1
      have HZ := Lib.hid (show openedE b M sec = (zeroPk, 10) by rw [HE.out, if_pos rfl, if_pos rfl])
      go_wp2_with ((with_reducible refine (?_ : wpList _ _ _ (Oper.mk none _ _ _ _ _ :: _) _ _)); go_loud (refine wpList_store_blk rfl 25 (.tmp 6) (.tmp 24) rfl rfl gr (pkC 0 0 zQ none 0 0) rfl rfl _ _ (HR3.out) (infRP) (rfl) (pk_one _ _ _ _ _ _) ?_); intro wz hPz hgz)
      refine bodyPost_ret (v := .tuple #[.agg _, _]) (results_cs rfl _ _ gr 25 _ _ _ rfl rfl hPz Tryd.underlying25 rfl (infRP)) rfl ?_
      exact ⟨none, 0, 0, by rw [HZ.out] <;> rfl, by rw [HZ.out]; exact SRow.nil _ _, by rw [HZ.out]; rfl, below_new HXw3.out hgz HG.out (HXw3.out).size⟩
    · obtain ⟨hb20, hb40⟩ := HBG.out rfl
      have hq4 := HQ4.out rfl
      obtain ⟨H4, hH4⟩ : ∃ H4, H4 = b.take 4 := ⟨_, rfl⟩
      obtain ⟨T, hT⟩ : ∃ T, T = b.drop 20 := ⟨_, rfl⟩
      obtain ⟨B16, hB⟩ : ∃ B16, B16 = (b.drop 4).take 16 := ⟨_, rfl⟩
      obtain ⟨X1, hX1⟩ : ∃ X1, X1 = H4 ++ M := ⟨_, rfl⟩
      obtain ⟨X2, hX2⟩ : ∃ X2, X2 = X1 ++ T := ⟨_, rfl⟩
      obtain ⟨X3, hX3⟩ : ∃ X3, X3 = X2 ++ sec := ⟨_, rfl⟩
      have hs9 := HS.out
      have hml := HM.out
      have h4l : H4.length = 4 := by rw [hH4, List.length_take]; omega
      have htl : T.length ≤ 4096 := by rw [hT, List.length_drop]; omega
      have hl1 : X1.length = 20 := by rw [hX1, List.length_append, hml, h4l]
      have hl2 : X2.length ≤ 5000 := by rw [hX2, List.length_append]; omega
      have ho1 : ¬ 9223372036854775807 < H4.length + M.length := by omega
      have ha1 := bytes_append H4 M
      rw [← hX1] at ha1
      have ho2 : ¬ 9223372036854775807 < X1.length + T.length := by omega
      have ha2 := bytes_append X1 T
      rw [← hX2] at ha2
      have ho3 : ¬ 9223372036854775807 < X2.length + sec.length := by omega
      have ha3 := bytes_append X2 sec
      rw [← hX3] at ha3
      have hx4 := extract_toR b 4
      rw [← hH4] at hx4
      have hx20 := extract_fromR b 20 b.length (Nat.le_refl _)
      rw [← hT] at hx20
      have hx16 := extract_mid4 b 20 4 hb20
      rw [show 20 - 4 = 16 from rfl, ← hB] at hx16
      have hDX : D = md5 X3 := by rw [HDD.out, hX3, hX2, hX1, hH4, hT]
      have hX3l : X3.length ≤ 1000000 := by rw [hX3, List.length_append]; omega
      have HSU := Lib.hid (fun (W : World) => (show Calls Tryd.prog 53 #[.string ⟨X3.toArray⟩] W (fun e w' => e = .returned (.string ⟨D.toArray⟩) ∧ Below W.heap.size W w') by rw [hDX]; exact refSumQ_any X3 W (by omega)))
      have hl4 : (4 : Int) ≤ (b.length : Int) := by omega
      have hl20 : (20 : Int) ≤ (b.length : Int) := by omega
      have HQB := Lib.hid (show Q = B16 by rw [hq4, hB])
      clear hb20 hb40 hq4 hH4 hT hB hX1 hX2 hX3 hs9 hml h4l htl hl1 hl2 hDX hX3l
      go_upto_region 6 with (fail)
      clear hc0
      refine wp_region_noPanic ?_
      refine wp_region_held_drew (S := fun W => Below w3.heap.size w3 W) (by kernel_rfl) (by exact below_drewN (Below.refl _ _) 1) (fun hHeld => ?_)
      replace hHeld : Below w3.heap.size w3 w3.drew := hHeld
      have HXwd := Lib.hid (HXw3.out.trans (hHeld.mono HXw3.out.size))
      have HYwd := Lib.hid (show Below w3.heap.size w3 w3.drew from hHeld)
      generalize w3.drew = wd at *
      refine anyH_mono (S' := fun W => Below wd.heap.size wd W) (fun W h => hHeld.trans (h.mono hHeld.size)) _ _ _ _ ?_
      clear hHeld
      have hHeld : Below wd.heap.size wd wd := Below.refl _ _
      refine wpAnyH_take (i := 0) (oi := ⟨_, _, _, _, _, _⟩) (v := ?_) rfl (by kernel_rfl) (by kernel_rfl) (by kernel_rfl) (fun _ _ _ h => h) (Or.inl ⟨by rfl, ?_⟩) hHeld ?_
      rotate_left 1
      · (intro W hSw; (try dsimp only at hSw); go_simp; try with_reducible rfl)
      try simp only [Act.put, List.setIfInBounds_toArray, List.set_cons_zero, List.set_cons_succ]
      refine wpAnyH_take (i := 1) (oi := ⟨_, _, _, _, _, _⟩) (v := .string ⟨H4.toArray⟩) rfl (by kernel_rfl) (by kernel_rfl) (by kernel_rfl) (fun _ _ _ h => h) (Or.inl ⟨by rfl, ?_⟩) hHeld ?_
      · (intro W hSw; go_simp)
      try simp only [Act.put, List.setIfInBounds_toArray, List.set_cons_zero, List.set_cons_succ]
      refine wpAnyH_take (i := 2) (oi := ⟨_, _, _, _, _, _⟩) (v := ?_) rfl (by kernel_rfl) (by kernel_rfl) (by kernel_rfl) (fun _ _ _ h => h) (Or.inl ⟨by rfl, ?_⟩) hHeld ?_
      rotate_left 1
      · (intro W hSw; (try dsimp only at hSw); go_simp; try with_reducible rfl)
      try simp only [Act.put, List.setIfInBounds_toArray, List.set_cons_zero, List.set_cons_succ]
      refine wpAnyH_take (i := 3) (oi := ⟨_, _, _, _, _, _⟩) (v := .string ⟨M.toArray⟩) rfl (by kernel_rfl) (by kernel_rfl) (by kernel_rfl) (fun _ _ _ h => h) (Or.inl ⟨by rfl, ?_⟩) hHeld ?_
      · (intro W hSw; have hcv := conv_in HM.out ((in_b8 (HK3.out.below (HYwd.out.trans (hSw.mono HYwd.out.size)) HK3.out.lt) HM.out)); go_simp)
      try simp only [Act.put, List.setIfInBounds_toArray, List.set_cons_zero, List.set_cons_succ]
      refine wpAnyH_take (i := 4) (oi := ⟨_, _, _, _, _, _⟩) (v := ?_) rfl (by kernel_rfl) (by kernel_rfl) (by kernel_rfl) (fun _ _ _ h => h) (Or.inl ⟨by rfl, ?_⟩) hHeld ?_
      rotate_left 1
      · (intro W hSw; (try dsimp only at hSw); go_simp; try with_reducible rfl)
      try simp only [Act.put, List.setIfInBounds_toArray, List.set_cons_zero, List.set_cons_succ]
      refine wpAnyH_take (i := 5) (oi := ⟨_, _, _, _, _, _⟩) (v := ?_) rfl (by kernel_rfl) (by kernel_rfl) (by kernel_rfl) (fun _ _ _ h => h) (Or.inl ⟨by rfl, ?_⟩) hHeld ?_
      rotate_left 1
      · (intro W hSw; (try dsimp only at hSw); go_simp; try with_reducible rfl)
      try simp only [Act.put, List.setIfInBounds_toArray, List.set_cons_zero, List.set_cons_succ]
      refine wpAnyH_take (i := 6) (oi := ⟨_, _, _, _, _, _⟩) (v := .string ⟨T.toArray⟩) rfl (by kernel_rfl) (by kernel_rfl) (by kernel_rfl) (fun _ _ _ h => h) (Or.inl ⟨by rfl, ?_⟩) hHeld ?_
      · (intro W hSw; go_simp)
      try simp only [Act.put, List.setIfInBounds_toArray, List.set_cons_zero, List.set_cons_succ]
      refine wpAnyH_take (i := 7) (oi := ⟨_, _, _, _, _, _⟩) (v := ?_) rfl (by kernel_rfl) (by kernel_rfl) (by kernel_rfl) (fun _ _ _ h => h) (Or.inl ⟨by rfl, ?_⟩) hHeld ?_
      rotate_left 1
      · (intro W hSw; (try dsimp only at hSw); go_simp; try with_reducible rfl)
      try simp only [Act.put, List.setIfInBounds_toArray, List.set_cons_zero, List.set_cons_succ]
      refine wpAnyH_take (i := 8) (oi := ⟨_, _, _, _, _, _⟩) (v := ?_) rfl (by kernel_rfl) (by kernel_rfl) (by kernel_rfl) (fun _ _ _ h => h) (Or.inl ⟨by rfl, ?_⟩) hHeld ?_
      rotate_left 1
      · (intro W hSw; (try dsimp only at hSw); go_simp; try with_reducible rfl)
      try simp only [Act.put, List.setIfInBounds_toArray, List.set_cons_zero, List.set_cons_succ]
      refine wpAnyH_take (i := 9) (oi := ⟨_, _, _, _, _, _⟩) (v := ?_) rfl (by kernel_rfl) (by kernel_rfl) (by kernel_rfl) (fun _ _ _ h => h) (Or.inl ⟨by rfl, ?_⟩) hHeld ?_
      rotate_left 1
      · (intro W hSw; (try dsimp only at hSw); go_simp; try with_reducible rfl)
      try simp only [Act.put, List.setIfInBounds_toArray, List.set_cons_zero, List.set_cons_succ]
      refine wpAnyH_take (i := 11) (oi := ⟨_, _, _, _, _, _⟩) (v := ?_) rfl (by kernel_rfl) (by kernel_rfl) (by kernel_rfl) (fun _ _ _ h => h) (Or.inl ⟨by rfl, ?_⟩) hHeld ?_
      rotate_left 1
      · (intro W hSw; (try dsimp only at hSw); go_simp; try with_reducible rfl)
      try simp only [Act.put, List.setIfInBounds_toArray, List.set_cons_zero, List.set_cons_succ]
      refine wpAnyH_take (i := 12) (oi := ⟨_, _, _, _, _, _⟩) (v := .string ⟨B16.toArray⟩) rfl (by kernel_rfl) (by kernel_rfl) (by kernel_rfl) (fun _ _ _ h => h) (Or.inl ⟨by rfl, ?_⟩) hHeld ?_
      · (intro W hSw; go_simp)
      try simp only [Act.put, List.setIfInBounds_toArray, List.set_cons_zero, List.set_cons_succ]
      refine wpAnyH_ready (rs := [10]) (by kernel_rfl) (by simp) ?_
      refine AllReadyH.cons (o := ⟨_, _, _, _, _, _⟩) rfl (fun K hK => ?_) AllReadyH.nil
      go_simp
      go_at_call 53
      refine (HSU.out _).mono ?_
      rintro e wa ⟨rfl, hba⟩
      try go_wp2_with fail
      have hszx := hHeld.size
      refine hK.out _ _ (hHeld.trans (hba.mono hszx)) (fun hHeld => ?_)
      clear hK K hszx
      replace hHeld : Below wd.heap.size wd wa := hHeld
      have HXwa := Lib.hid (HXwd.out.trans (hHeld.mono HXwd.out.size))
      have HYwa := Lib.hid (HYwd.out.trans (hHeld.mono HYwd.out.size))
      try simp only [Act.put, List.setIfInBounds_toArray, List.set_cons_zero, List.set_cons_succ]
      refine anyH_mono (S' := fun W => Below wa.heap.size wa W) (fun W h => hHeld.trans (h.mono hHeld.size)) _ _ _ _ ?_
      clear hHeld
      have hHeld : Below wa.heap.size wa wa := Below.refl _ _
      refine wpAnyH_take (i := 13) (oi := ⟨_, _, _, _, _, _⟩) (v := ?_) rfl (by kernel_rfl) (by kernel_rfl) (by kernel_rfl) (fun _ _ _ h => h) (Or.inl ⟨by rfl, ?_⟩) hHeld ?_
      rotate_left 1
      · (intro W hSw; (try dsimp only at hSw); go_simp; try with_reducible rfl)
      try simp only [Act.put, List.setIfInBounds_toArray, List.set_cons_zero, List.set_cons_succ]
      refine wpAnyH_done (by kernel_rfl) ?_ _
      refine NoPanic.normal ?_
      clear hHeld
      have HPa := Lib.hid (HP3.out.below HYwa.out HP3.out.lt)
      have HRa := Lib.hid (HR3.out.below HYwa.out HR3.out.lt)
      by_cases hq : Q = D
      · have hbd : (D == B16) = true := by rw [← HQB.out, hq]; exact beq_self_eq_true D
        rw [hbd, Bool.not_true]
        have HKa := Lib.hid (HK3.out.below HYwa.out HK3.out.lt)
        have HIa := Lib.hid (HI3.out.up HYwa.out)
        have HQD := Lib.hid hq
        have HRQ := Lib.hid (pk_range HPa.out HQ.out)
        clear hbd hq
        obtain ⟨m7, hm7⟩ : ∃ m7, lu.length = m7 := ⟨_, rfl⟩
        rw [hm7] at HRO
        clear hm7
        go_upto_region 9 with (first
          | ((with_reducible refine (?_ : wpList _ _ _ (Oper.mk (some 41) _ _ _ _ _ :: _) _ _)); go_loud (refine wpList_load_mid rfl 22 (.tmp 40) rfl g 2 rfl (Q.map B8) _ HRQ.out Tryd.underlying22 rfl (inf16.trans (by rw [List.length_map, HQ.out])) ?_))
          | ((with_reducible refine (?_ : wpList _ _ _ (Oper.mk none _ _ _ _ _ :: _) _ _)); go_loud (refine wpList_store_blk rfl 22 (.tmp 10) (.tmp 41) rfl rfl wa.heap.size (Q.map B8) rfl rfl _ _ (Blk.new_of wa 22 #[.int .u8 0, .int .u8 0, .int .u8 0, .int .u8 0, .int .u8 0, .int .u8 0, .int .u8 0, .int .u8 0, .int .u8 0, .int .u8 0, .int .u8 0, .int .u8 0, .int .u8 0, .int .u8 0, .int .u8 0, .int .u8 0] (zQ.map B8) rfl) (inf16.trans (by rw [List.length_map, HQ.out])) (by rw [List.length_map, List.length_map, HQ.out]; rfl) (one8 _) ?_); intro w5 hS5 hg5))
        have h4a : Below wa.heap.size wa (wa.alloc (.cells #[.int .u8 0, .int .u8 0, .int .u8 0, .int .u8 0, .int .u8 0, .int .u8 0, .int .u8 0, .int .u8 0, .int .u8 0, .int .u8 0, .int .u8 0, .int .u8 0, .int .u8 0, .int .u8 0, .int .u8 0, .int .u8 0] 22)) := (Below.refl _ _).alloc (Nat.le_refl _) _
        have hb5 : Below wa.heap.size wa w5 := below_new h4a hg5 (Nat.le_refl _) h4a.size
        obtain ⟨g10, hg10⟩ : ∃ g10, g10 = wa.heap.size := ⟨_, rfl⟩
        have HG10 := Lib.hid (show g < g10 by rw [hg10]; exact HPa.out.lt)
        rw [← hg10] at hS5
        simp only [← hg10]
        have HQ5 := Lib.hid hS5
        have HP5 := Lib.hid (HPa.out.below hb5 HPa.out.lt)
        have HR5 := Lib.hid (HRa.out.below hb5 HRa.out.lt)
        have HI5 := Lib.hid (HIa.out.up hb5)
        have HX5 := Lib.hid (HXwa.out.trans (hb5.mono HXwa.out.size))
        have hk5 := HKa.out.below hb5 HKa.out.lt
        have hp5 := HP5.out
        clear h4a hb5 hg10 hS5 hg5
        go_upto_region 10 with (first
          | ((with_reducible refine (?_ : wpList _ _ _ (Oper.mk (some 42) _ _ _ _ _ :: _) _ _)); go_loud (refine wpList_load_blk rfl 22 (.tmp 4) rfl gk rfl _ _ _ (hk5) Tryd.underlying22 rfl (inf16.trans (by rw [List.length_map, HM.out])) ?_))
          | ((with_reducible refine (?_ : wpList _ _ _ (Oper.mk none _ _ _ _ _ :: _) _ _)); go_loud (refine wpList_store_mid rfl 22 (.tmp 43) (.tmp 42) rfl g 2 (M.map B8).toArray rfl rfl (by have := there_auth hp5 HQ.out; simpa [HM.out] using this) (inf16.trans (by simp [HM.out])) (by rw [List.all_toArray]; exact List.all_eq_true.2 (fun u hu => oneB8 M u hu)) ?_)))
        have hp6 := blk_auth hp5 HQ.out HM.out
        have hgs : w5.grownBy (w5.setCells g 2 (M.map B8)) (some g) := grown_setCells w5 g 2 (M.map B8)
        have HX6 := Lib.hid (below_new HX5.out hgs HGW.out HX5.out.size)
        have HR6 := Lib.hid (HR5.out.grown hgs (fun e => by have := HGR.out; injection e with e; omega))
        have HQ6 := Lib.hid (HQ5.out.grown hgs (fun e => by have := HG10.out; injection e with e; omega))
        have HI6 := Lib.hid (sin_grown HI5.out hgs (fun ad e => by have := HAG.out ad e; omega))
        clear hk5 hp5 hgs
        generalize w5.setCells g 2 (M.map B8) = w6 at *
        go_upto_region 11 with (first
          | ((with_reducible refine (?_ : wpList _ _ _ (Oper.mk (some 45) _ _ _ _ _ :: _) _ _)); go_loud (refine wpList_load_blk rfl 25 (.tmp 8) rfl g rfl _ _ _ (hp6) Tryd.underlying25 rfl (infRP.trans (by rw [pkC_length _ _ _ _ _ _ HM.out])) ?_))
          | (go_at_call 56; refine (HRO.out (HOK.out (by trivial)) _ _ _ HI6.out).mono ?_; rintro e w7 ⟨A7, c7, rfl, hS7, hQ7, hb7⟩; have HQ7 := Lib.hid hQ7)
          | ((with_reducible refine (?_ : wpList _ _ _ (Oper.mk none _ _ _ _ _ :: _) _ _)); go_loud (refine wpList_store_blk rfl 25 (.tmp 11) (.tmp 48) rfl rfl w7.heap.size (pkC cu iu Qu A7 m7 c7) rfl rfl _ _ (Blk.new_of w7 25 #[.int .i64 0, .int .i64 0, .int .u8 0, .int .u8 0, .int .u8 0, .int .u8 0, .int .u8 0, .int .u8 0, .int .u8 0, .int .u8 0, .int .u8 0, .int .u8 0, .int .u8 0, .int .u8 0, .int .u8 0, .int .u8 0, .int .u8 0, .int .u8 0, .slice none 0 0] (pkC 0 0 zQ none 0 0) rfl) (infRP.trans (by rw [pkC_length _ _ _ _ _ _ HQ7.out])) (by rw [pkC_length _ _ _ _ _ _ HQ7.out]; first | rfl | rw [pkC_length _ _ _ _ _ _ HQ.out]) (pk_one _ _ _ _ _ _) ?_); intro w8 hP8 hg8))
        have h7a : Below w7.heap.size w7 (w7.alloc (.cells #[.int .i64 0, .int .i64 0, .int .u8 0, .int .u8 0, .int .u8 0, .int .u8 0, .int .u8 0, .int .u8 0, .int .u8 0, .int .u8 0, .int .u8 0, .int .u8 0, .int .u8 0, .int .u8 0, .int .u8 0, .int .u8 0, .int .u8 0, .int .u8 0, .slice none 0 0] 25)) := (Below.refl _ _).alloc (Nat.le_refl _) _
        have hb8 : Below w7.heap.size w7 w8 := below_new h7a hg8 (Nat.le_refl _) h7a.size
        obtain ⟨g11, hg11⟩ : ∃ g11, g11 = w7.heap.size := ⟨_, rfl⟩
        have hb68 := hb7.trans (hb8.mono hb7.size)
        have HG11 := Lib.hid (show g10 < g11 ∧ w6.heap.size ≤ g11 by rw [hg11]; exact ⟨Nat.lt_of_lt_of_le HQ6.out.lt hb7.size, hb7.size⟩)
        have HS8 := Lib.hid (hS7.below hb8)
        have HQ8 := Lib.hid (HQ6.out.below hb68 HQ6.out.lt)
        have HR8 := Lib.hid (HR6.out.below hb68 HR6.out.lt)
        have HX8 := Lib.hid (HX6.out.trans (hb68.mono HX6.out.size))
        have HB78 := Lib.hid hb8
        have HG7 := Lib.hid (show w7.heap.size ≤ g11 by rw [hg11]; exact Nat.le_refl _)
        have HSg := Lib.hid hS7
        rw [← hg11] at hP8
        simp only [← hg11]
        have HP8 := Lib.hid hP8
        clear h7a hb8 hb68 hb7 hS7 hQ7 hg8 hP8 hg11 hp6
        by_cases he0 : eu = 0
        · subst he0
          have HZ := Lib.hid (show openedE b M sec = ((cu, iu, Q, lu), 0) by rw [HE.out]; simp [h1, HQD.out])
          have hq8 := HQ8.out
          have hp8 := HP8.out
          go_upto_region 13 with (first
            | ((with_reducible refine (?_ : wpList _ _ _ (Oper.mk (some 52) _ _ _ _ _ :: _) _ _)); go_loud (refine wpList_load_blk rfl 22 (.tmp 10) rfl g10 rfl _ _ _ (hq8) Tryd.underlying22 rfl (inf16.trans (by rw [List.length_map, HQ.out])) ?_))
            | ((with_reducible refine (?_ : wpList _ _ _ (Oper.mk none _ _ _ _ _ :: _) _ _)); go_loud (refine wpList_store_mid rfl 22 (.tmp 53) (.tmp 52) rfl g11 2 (Q.map B8).toArray rfl rfl (by have := there_auth hp8 HQ7.out; simpa [HQ.out] using this) (inf16.trans (by simp [HQ.out])) (by rw [List.all_toArray]; exact List.all_eq_true.2 (fun u hu => oneB8 Q u hu)) ?_)))
          have hp9 := blk_auth hp8 HQ7.out HQ.out
          have hgs : w8.grownBy (w8.setCells g11 2 (Q.map B8)) (some g11) := grown_setCells w8 g11 2 (Q.map B8)
          have HS9 := Lib.hid (HSg.out.below (below_new HB78.out hgs HG7.out HB78.out.size))
          have HR9 := Lib.hid (HR8.out.grown hgs (fun e => by have := HG11.out.2; have := HR6.out.lt; injection e with e; omega))
          have HX9 := Lib.hid (below_new HX8.out hgs (Nat.le_trans HX6.out.size HG11.out.2) HX8.out.size)
          clear hq8 hp8 hgs
          generalize w8.setCells g11 2 (Q.map B8) = w9 at *
          go_wp2_with (first
            | ((with_reducible refine (?_ : wpList _ _ _ (Oper.mk (some 54) _ _ _ _ _ :: _) _ _)); go_loud (refine wpList_load_blk rfl 25 (.tmp 11) rfl g11 rfl _ _ _ (hp9) Tryd.underlying25 rfl (infRP.trans (by rw [pkC_length _ _ _ _ _ _ HQ.out])) ?_))
            | ((with_reducible refine (?_ : wpList _ _ _ (Oper.mk none _ _ _ _ _ :: _) _ _)); go_loud (refine wpList_store_blk rfl 25 (.tmp 6) (.tmp 54) rfl rfl gr (pkC cu iu Q A7 m7 c7) rfl rfl _ _ (HR9.out) (infRP.trans (by rw [pkC_length _ _ _ _ _ _ HQ.out])) (by rw [pkC_length _ _ _ _ _ _ HQ.out]; first | rfl | rw [pkC_length _ _ _ _ _ _ HQ.out]) (pk_one _ _ _ _ _ _) ?_); intro wz hPz hgz))
          refine bodyPost_ret (v := .tuple #[.agg _, _]) (results_cs rfl _ _ gr 25 _ _ _ rfl rfl hPz Tryd.underlying25 rfl (infRP.trans (by rw [pkC_length _ _ _ _ _ _ HQ.out]))) rfl ?_
          exact ⟨A7, m7, c7, by rw [HZ.out] <;> rfl, by rw [HZ.out]; exact (HS9.out.grown hgz HR6.out.lt).base HX6.out.size, by rw [HZ.out]; exact HQ.out, below_new HX9.out hgz HG.out HX9.out.size⟩
        · have hz : ((cu, iu, Qu, lu), eu) = (zeroPk, 5) := HUB.out.resolve_left he0
          injection hz with hz1 hz2
          have HZ := Lib.hid (show openedE b M sec = ((cu, iu, Qu, lu), eu) by rw [HE.out]; simp [h1, HQD.out, he0, hz1])
          have hne : ¬ (eu : Int) = 0 := by omega
          have hp8 := HP8.out
          clear hz1 hz2
          go_wp2_with (first
            | ((with_reducible refine (?_ : wpList _ _ _ (Oper.mk (some 54) _ _ _ _ _ :: _) _ _)); go_loud (refine wpList_load_blk rfl 25 (.tmp 11) rfl g11 rfl _ _ _ (hp8) Tryd.underlying25 rfl (infRP.trans (by rw [pkC_length _ _ _ _ _ _ HQ7.out])) ?_))
            | ((with_reducible refine (?_ : wpList _ _ _ (Oper.mk none _ _ _ _ _ :: _) _ _)); go_loud (refine wpList_store_blk rfl 25 (.tmp 6) (.tmp 54) rfl rfl gr (pkC cu iu Qu A7 m7 c7) rfl rfl _ _ (HR8.out) (infRP.trans (by rw [pkC_length _ _ _ _ _ _ HQ7.out])) (by rw [pkC_length _ _ _ _ _ _ HQ7.out]; first | rfl | rw [pkC_length _ _ _ _ _ _ HQ.out]) (pk_one _ _ _ _ _ _) ?_); intro wz hPz hgz))
          refine bodyPost_ret (v := .tuple #[.agg _, _]) (results_cs rfl _ _ gr 25 _ _ _ rfl rfl hPz Tryd.underlying25 rfl (infRP.trans (by rw [pkC_length _ _ _ _ _ _ HQ7.out]))) rfl ?_
          exact ⟨A7, m7, c7, by rw [HZ.out] <;> rfl, by rw [HZ.out]; exact (HS8.out.grown hgz HR6.out.lt).base HX6.out.size, by rw [HZ.out]; exact HQ7.out, below_new HX8.out hgz HG.out HX8.out.size⟩
      · have HZ := Lib.hid (show openedE b M sec = (zeroPk, 5) by rw [HE.out]; simp [h1, hq])
        have hbd : (D == B16) = false := by rw [← HQB.out]; simpa using fun e => hq e.symm
        rw [hbd, Bool.not_false]
        clear hbd hq
        go_wp2_with ((with_reducible refine (?_ : wpList _ _ _ (Oper.mk none _ _ _ _ _ :: _) _ _)); go_loud (refine wpList_store_blk rfl 25 (.tmp 6) (.tmp 39) rfl rfl gr (pkC 0 0 zQ none 0 0) rfl rfl _ _ (HRa.out) (infRP) (rfl) (pk_one _ _ _ _ _ _) ?_); intro wz hPz hgz)
        refine bodyPost_ret (v := .tuple #[.agg _, _]) (results_cs rfl _ _ gr 25 _ _ _ rfl rfl hPz Tryd.underlying25 rfl (infRP)) rfl ?_
        exact ⟨none, 0, 0, by rw [HZ.out] <;> rfl, by rw [HZ.out]; exact SRow.nil _ _, by rw [HZ.out]; rfl, below_new HXwa.out hgz HG.out (HXwa.out).size⟩
  · have HZ := Lib.hid (show openedE b M sec = (zeroPk, 2) by rw [HE.out, if_neg (by decide)])
    go_wp2_with ((with_reducible refine (?_ : wpList _ _ _ (Oper.mk none _ _ _ _ _ :: _) _ _)); go_loud (refine wpList_store_blk rfl 25 (.tmp 6) (.tmp 19) rfl rfl gr (pkC 0 0 zQ none 0 0) rfl rfl _ _ (HR3.out) (infRP) (rfl) (pk_one _ _ _ _ _ _) ?_); intro wz hPz hgz)
    refine bodyPost_ret (v := .tuple #[.agg _, _]) (results_cs rfl _ _ gr 25 _ _ _ rfl rfl hPz Tryd.underlying25 rfl (infRP)) rfl ?_
    exact ⟨none, 0, 0, by rw [HZ.out] <;> rfl, by rw [HZ.out]; exact SRow.nil _ _, by rw [HZ.out]; rfl, below_new HXw3.out hgz HG.out (HXw3.out).size⟩
end Go.Proofs.YtbomckbekcaemaaDoor
