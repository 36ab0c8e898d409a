/-
  The contract of the document's Reply.
-/
import Derived.Test.YtbomckbekcaemaaDoorRso
namespace Go.Proofs.YtbomckbekcaemaaDoor
open Go.RowKit

theorem blk_setCells {g : Nat} {t : TypeId} : ∀ (us : List Value) (o : Nat) (cs : List Value) (w : World), Blk w g t cs → o + us.length ≤ cs.length → Blk (w.setCells g o us) g t (cs.take o ++ (us ++ cs.drop (o + us.length)))
  | [], o, cs, w, h, _ => by simpa [World.setCells] using h
  | u :: us, o, cs, w, h, hl => by
    have hl' : o + 1 + us.length ≤ cs.length := by simp only [List.length_cons] at hl; omega
    have h1 := blk_setCells us (o + 1) (cs.set o u) (w.setCell ⟨g, o, none⟩ u) (h.set_ o u) (by rw [List.length_set]; exact hl')
    have he : (cs.set o u).take (o + 1) ++ (us ++ (cs.set o u).drop (o + 1 + us.length)) = cs.take o ++ ((u :: us) ++ cs.drop (o + (u :: us).length)) := by
      rw [List.drop_set_of_lt (by omega), List.take_succ_eq_append_getElem (by rw [List.length_set]; omega), List.take_set_of_le (Nat.le_refl o), List.getElem_set_self, List.append_assoc]
      simp only [List.length_cons, List.cons_append, List.nil_append]
      rw [show o + 1 + us.length = o + (us.length + 1) by omega]
    rw [he] at h1
    exact h1
theorem blk_auth {w : World} {g n c : Nat} {t : TypeId} {code id : Int} {Q M : List UInt8} {A : Option Addr} (h : Blk w g t (pkC code id Q A n c)) (hQ : Q.length = 16) (hM : M.length = 16) : Blk (w.setCells g 2 (M.map B8)) g t (pkC code id M A n c) := by
  have h1 := blk_setCells (M.map B8) 2 (pkC code id Q A n c) w h (by rw [List.length_map, pkC_length _ _ _ _ _ _ hQ]; omega)
  have he : (pkC code id Q A n c).take 2 ++ (M.map B8 ++ (pkC code id Q A n c).drop (2 + (M.map B8).length)) = pkC code id M A n c := by
    rw [List.length_map, hM]
    unfold pkC
    show [Value.int .i64 code, .int .i64 id] ++ (M.map B8 ++ (Q.map B8 ++ [Value.slice A n c]).drop 16) = _
    rw [List.drop_left' (by rw [List.length_map, hQ])]
    rfl
  rwa [he] at h1
theorem there_auth {w : World} {g n c : Nat} {t : TypeId} {code id : Int} {Q : List UInt8} {A : Option Addr} (h : Blk w g t (pkC code id Q A n c)) (hQ : Q.length = 16) : w.there g 2 16 := fun j hj => by
  have hl := pkC_length code id Q A n c hQ
  refine ⟨by rw [h.cell, List.getElem?_eq_getElem (by omega)]; rfl, h.frozen _⟩
/-- What a reply is. -/
def replyE (code id : Int) (M : List UInt8) (la : Attrs) (sec : List UInt8) : List UInt8 × Nat :=
  if code = 1 then ([], 1) else if (markE code id M la sec).2 = 0 then ((markE code id M la sec).1.take 4 ++ md5 ((markE code id M la sec).1 ++ sec) ++ (markE code id M la sec).1.drop 20, 0) else ([], (markE code id M la sec).2)
set_option maxRecDepth 100000 in
set_option maxHeartbeats 1000000 in
theorem rreply_ask (c n : Nat) (code id : Int) (Q M : List UInt8) (A : Option Addr) (la : Attrs) (sec : List UInt8) (w : World) (hQ : Q.length = 16) (hM : M.length = 16) (hn : la.length = n) (hA : SIn w w.heap.size A c la) (_hm : n ≤ 400000) (_hs : sec.length ≤ 1000000) (hc : code = 1) :
    Calls Tryd.prog 23 #[.agg (pkC code id Q A n c).toArray, .agg (M.map B8).toArray, .string ⟨sec.toArray⟩] w fun e w' => e = .returned (.tuple #[.string ⟨(replyE code id M la sec).1.toArray⟩, .int .i64 ((replyE code id M la sec).2 : Int)]) ∧ Below w.heap.size w w' := by
  have HQ := Lib.hid hQ
  have HM := Lib.hid hM
  have HMK := Lib.hid (fun (W : World) (h : Below w.heap.size w W) => rmarks_e c n code id Q A la W hQ hn (hA.up h))
  have HZ := Lib.hid (show replyE code id M la sec = ([], 1) by unfold replyE; rw [if_pos hc])
  subst hc
  clear hQ hM hn hA
  go_enter Tryd.func23, Tryd.ntmps23
  go_upto_region 1 with (fail)
  have hP := (Blk.new_of w 25 (pkC 1 id Q A n c).toArray (pkC 1 id Q A n c) rfl).alloc (.cells (M.map B8).toArray 22)
  have hK := Blk.new2_of w (.cells (pkC 1 id Q A n c).toArray 25) 22 _ (M.map B8) rfl
  have hb0 : Below w.heap.size w (w.alloc (.cells (pkC 1 id Q A n c).toArray 25)) := (Below.refl _ _).alloc (Nat.le_refl _) _
  have hbw := hb0.alloc hb0.size (.cells (M.map B8).toArray 22)
  obtain ⟨gk, hgk⟩ : ∃ gk, gk = w.heap.size + 1 := ⟨_, rfl⟩
  obtain ⟨g, hg⟩ : ∃ g, g = w.heap.size := ⟨_, rfl⟩
  have HG := Lib.hid (show w.heap.size ≤ g ∧ g ≠ gk by omega)
  rw [← hgk] at hK
  rw [← hg] at hP
  simp only [← hgk]
  clear hgk
  simp only [← hg]
  have HP1 := Lib.hid hP
  have HK1 := Lib.hid hK
  have HXw1 := Lib.hid hbw
  clear hg hP hK hb0 hbw
  generalize (w.alloc (.cells (pkC 1 id Q A n c).toArray 25)).alloc (.cells (M.map B8).toArray 22) = w1 at *
  have hp1 := HP1.out
  have hc0 : w1.cell? ⟨g, 0, none⟩ = some (.int .i64 1) := HP1.out.cell 0
  go_upto_region 2 with (first
    | ((with_reducible refine (?_ : wpList _ _ _ (Oper.mk (some 13) _ _ _ _ _ :: _) _ _)); go_loud (refine wpList_load_blk rfl 25 (.tmp 3) rfl g rfl _ _ _ (hp1) Tryd.underlying25 rfl (infRP.trans (by rw [pkC_length _ _ _ _ _ _ HQ.out])) ?_))
    | (go_at_call 50; refine (HMK.out _ (HXw1.out)).mono ?_; rintro e w2 ⟨r, rfl, _, hb2⟩))
  have hp2 := HP1.out.below hb2 HP1.out.lt
  have hc02 : w2.cell? ⟨g, 0, none⟩ = some (.int .i64 1) := hp2.cell 0
  have hk2 := HK1.out.below hb2 HK1.out.lt
  have HX2 := Lib.hid (HXw1.out.trans (hb2.mono HXw1.out.size))
  clear hp1 hc0 hb2
  go_wp2
  go_ret2
  exact ⟨by rw [HZ.out] <;> rfl, HX2.out⟩
set_option maxRecDepth 100000 in
set_option maxHeartbeats 1000000 in
theorem rreply_marks (c n : Nat) (code id : Int) (Q M : List UInt8) (A : Option Addr) (la : Attrs) (sec : List UInt8) (w : World) (hQ : Q.length = 16) (hM : M.length = 16) (hn : la.length = n) (hA : SIn w w.heap.size A c la) (_hm : n ≤ 400000) (_hs : sec.length ≤ 1000000) (hc : ¬ code = 1) (hk : hasMark la = true) :
    Calls Tryd.prog 23 #[.agg (pkC code id Q A n c).toArray, .agg (M.map B8).toArray, .string ⟨sec.toArray⟩] w fun e w' => e = .returned (.tuple #[.string ⟨(replyE code id M la sec).1.toArray⟩, .int .i64 ((replyE code id M la sec).2 : Int)]) ∧ Below w.heap.size w w' := by
  have HQ := Lib.hid hQ
  have HM := Lib.hid hM
  have HMK := Lib.hid (fun (W : World) (h : Below w.heap.size w W) => rmarks_e c n code id Q A la W hQ hn (hA.up h))
  have HZ := Lib.hid (show replyE code id M la sec = ([], 1) by unfold replyE markE; rw [if_neg hc, if_pos hk, if_neg (by decide)])
  have hq : (0 : Int) < (cntM la : Int) := by have := cntM_has la; rw [hk] at this; have := of_decide_eq_true this; omega
  generalize cntM la = q at *
  clear hQ hM hn hA hk
  go_enter Tryd.func23, Tryd.ntmps23
  go_upto_region 1 with (fail)
  have hP := (Blk.new_of w 25 (pkC code id Q A n c).toArray (pkC code id Q A n c) rfl).alloc (.cells (M.map B8).toArray 22)
  have hK := Blk.new2_of w (.cells (pkC code id Q A n c).toArray 25) 22 _ (M.map B8) rfl
  have hb0 : Below w.heap.size w (w.alloc (.cells (pkC code id Q A n c).toArray 25)) := (Below.refl _ _).alloc (Nat.le_refl _) _
  have hbw := hb0.alloc hb0.size (.cells (M.map B8).toArray 22)
  obtain ⟨gk, hgk⟩ : ∃ gk, gk = w.heap.size + 1 := ⟨_, rfl⟩
  obtain ⟨g, hg⟩ : ∃ g, g = w.heap.size := ⟨_, rfl⟩
  have HG := Lib.hid (show w.heap.size ≤ g ∧ g ≠ gk by omega)
  rw [← hgk] at hK
  rw [← hg] at hP
  simp only [← hgk]
  clear hgk
  simp only [← hg]
  have HP1 := Lib.hid hP
  have HK1 := Lib.hid hK
  have HXw1 := Lib.hid hbw
  clear hg hP hK hb0 hbw
  generalize (w.alloc (.cells (pkC code id Q A n c).toArray 25)).alloc (.cells (M.map B8).toArray 22) = w1 at *
  have hp1 := HP1.out
  have hc0 : w1.cell? ⟨g, 0, none⟩ = some (.int .i64 code) := HP1.out.cell 0
  go_upto_region 2 with (first
    | ((with_reducible refine (?_ : wpList _ _ _ (Oper.mk (some 13) _ _ _ _ _ :: _) _ _)); go_loud (refine wpList_load_blk rfl 25 (.tmp 3) rfl g rfl _ _ _ (hp1) Tryd.underlying25 rfl (infRP.trans (by rw [pkC_length _ _ _ _ _ _ HQ.out])) ?_))
    | (go_at_call 50; refine (HMK.out _ (HXw1.out)).mono ?_; rintro e w2 ⟨r, rfl, _, hb2⟩))
  have hp2 := HP1.out.below hb2 HP1.out.lt
  have hc02 : w2.cell? ⟨g, 0, none⟩ = some (.int .i64 code) := hp2.cell 0
  have hk2 := HK1.out.below hb2 HK1.out.lt
  have HX2 := Lib.hid (HXw1.out.trans (hb2.mono HXw1.out.size))
  clear hp1 hc0 hb2
  go_wp2
  go_ret2
  exact ⟨by rw [HZ.out] <;> rfl, HX2.out⟩
set_option maxRecDepth 100000 in
set_option maxHeartbeats 1000000 in
theorem rreply_go (c n : Nat) (code id : Int) (Q M : List UInt8) (A : Option Addr) (la : Attrs) (sec : List UInt8) (w : World) (hQ : Q.length = 16) (hM : M.length = 16) (hn : la.length = n) (hA : SIn w w.heap.size A c la) (hm : n ≤ 400000) (hs : sec.length ≤ 1000000) (hc : ¬ code = 1) (hk : hasMark la = false) :
    Calls Tryd.prog 23 #[.agg (pkC code id Q A n c).toArray, .agg (M.map B8).toArray, .string ⟨sec.toArray⟩] w fun e w' => e = .returned (.tuple #[.string ⟨(replyE code id M la sec).1.toArray⟩, .int .i64 ((replyE code id M la sec).2 : Int)]) ∧ Below w.heap.size w w' := by
  have HQ := Lib.hid hQ
  have HM := Lib.hid hM
  have HMK := Lib.hid (fun (W : World) (h : Below w.heap.size w W) => rmarks_e c n code id Q A la W hQ hn (hA.up h))
  obtain ⟨S, er, hSE⟩ : ∃ S er, rsealE code id M la sec = (S, er) := ⟨_, _, rfl⟩
  have hmk : markE code id M la sec = (S, er) := by rw [markE_seal, if_neg (by rw [hk]; decide), hSE]
  have hcs : (er = 0 ∧ 20 ≤ S.length ∧ S.length ≤ 4096) ∨ er = 2 := by
    unfold markE at hmk
    rw [if_neg (by rw [hk]; decide)] at hmk
    by_cases hp : pkOK code id (la ++ [(80, zQ)]) = true
    · rw [if_pos hp] at hmk
      injection hmk with e1 e2
      have hl := pkB_length code id M (la ++ [(80, hmacQ sec (pkB code id M (la ++ [(80, zQ)])))]) hM
      have hf := whole_fit (pk_ranges (show pkOK code id (la ++ [(80, hmacQ sec (pkB code id M (la ++ [(80, zQ)])))]) = true by rw [pkOK_mac code id la _ zQ (hmacQ_len _ _) rfl]; exact hp)).2.2
      rw [e1] at hl
      exact .inl ⟨e2.symm, by omega, by omega⟩
    · rw [if_neg hp] at hmk
      injection hmk with e1 e2
      exact .inr e2.symm
  have HRP := Lib.hid (show replyE code id M la sec = if er = 0 then (S.take 4 ++ md5 (S ++ sec) ++ S.drop 20, 0) else ([], er) by unfold replyE; rw [if_neg hc, hmk])
  have HSL := Lib.hid (fun (W : World) (h : Below w.heap.size w W) => (show Calls Tryd.prog 51 #[.agg (pkC code id M A n c).toArray, .string ⟨sec.toArray⟩] W (fun e w' => e = .returned (.tuple #[.string ⟨S.toArray⟩, .int .i64 (er : Int)]) ∧ Below W.heap.size W w') by have := rseal_e c n code id M A la sec W hM hn (hA.up h) hm hs; rwa [hSE] at this))
  have hq0 : cntM la = 0 := by have := cntM_has la; rw [hk] at this; have := of_decide_eq_false this; omega
  rw [hq0] at HMK
  have HS := Lib.hid hs
  clear hQ hM hn hA hm hk hq0 hSE hmk hs
  go_enter Tryd.func23, Tryd.ntmps23
  go_upto_region 1 with (fail)
  have hP := (Blk.new_of w 25 (pkC code id Q A n c).toArray (pkC code id Q A n c) rfl).alloc (.cells (M.map B8).toArray 22)
  have hK := Blk.new2_of w (.cells (pkC code id Q A n c).toArray 25) 22 _ (M.map B8) rfl
  have hb0 : Below w.heap.size w (w.alloc (.cells (pkC code id Q A n c).toArray 25)) := (Below.refl _ _).alloc (Nat.le_refl _) _
  have hbw := hb0.alloc hb0.size (.cells (M.map B8).toArray 22)
  obtain ⟨gk, hgk⟩ : ∃ gk, gk = w.heap.size + 1 := ⟨_, rfl⟩
  obtain ⟨g, hg⟩ : ∃ g, g = w.heap.size := ⟨_, rfl⟩
  have HG := Lib.hid (show w.heap.size ≤ g ∧ g ≠ gk by omega)
  rw [← hgk] at hK
  rw [← hg] at hP
  simp only [← hgk]
  clear hgk
  simp only [← hg]
  have HP1 := Lib.hid hP
  have HK1 := Lib.hid hK
  have HXw1 := Lib.hid hbw
  clear hg hP hK hb0 hbw
  generalize (w.alloc (.cells (pkC code id Q A n c).toArray 25)).alloc (.cells (M.map B8).toArray 22) = w1 at *
  have hp1 := HP1.out
  have hc0 : w1.cell? ⟨g, 0, none⟩ = some (.int .i64 code) := HP1.out.cell 0
  go_upto_region 2 with (first
    | ((with_reducible refine (?_ : wpList _ _ _ (Oper.mk (some 13) _ _ _ _ _ :: _) _ _)); go_loud (refine wpList_load_blk rfl 25 (.tmp 3) rfl g rfl _ _ _ (hp1) Tryd.underlying25 rfl (infRP.trans (by rw [pkC_length _ _ _ _ _ _ HQ.out])) ?_))
    | (go_at_call 50; refine (HMK.out _ (HXw1.out)).mono ?_; rintro e w2 ⟨r, rfl, _, hb2⟩))
  have hp2 := HP1.out.below hb2 HP1.out.lt
  have hc02 : w2.cell? ⟨g, 0, none⟩ = some (.int .i64 code) := hp2.cell 0
  have hk2 := HK1.out.below hb2 HK1.out.lt
  have HX2 := Lib.hid (HXw1.out.trans (hb2.mono HXw1.out.size))
  clear hp1 hc0 hb2
  go_upto_region 5 with (first
    | ((with_reducible refine (?_ : wpList _ _ _ (Oper.mk (some 24) _ _ _ _ _ :: _) _ _)); go_loud (refine wpList_load_blk rfl 22 (.tmp 4) rfl gk rfl _ _ _ (hk2) Tryd.underlying22 rfl (inf16.trans (by rw [List.length_map, HM.out])) ?_))
    | ((with_reducible refine (?_ : wpList _ _ _ (Oper.mk none _ _ _ _ _ :: _) _ _)); go_loud (refine wpList_store_mid rfl 22 (.tmp 25) (.tmp 24) rfl g 2 (M.map B8).toArray rfl rfl (by have := there_auth hp2 HQ.out; simpa [HM.out] using this) (inf16.trans (by simp [HM.out])) (by rw [List.all_toArray]; exact List.all_eq_true.2 (fun u hu => oneB8 M u hu)) ?_)))
  have hp4 := blk_auth hp2 HQ.out HM.out
  have HX4 := Lib.hid (below_new HX2.out (grown_setCells w2 g 2 (M.map B8)) HG.out.1 HX2.out.size)
  clear hk2 hp2 hc02
  replace hp4 : Blk (w2.setCells g 2 (M.map B8)) g 25 (pkC code id M A n c) := hp4
  replace HX4 : Hid (Below w.heap.size w (w2.setCells g 2 (M.map B8))) := HX4
  try rw [show (M.map B8).toArray.toList = M.map B8 from rfl]
  generalize w2.setCells g 2 (M.map B8) = w4 at *
  go_upto_region 6 with (first
    | ((with_reducible refine (?_ : wpList _ _ _ (Oper.mk (some 27) _ _ _ _ _ :: _) _ _)); go_loud (refine wpList_load_blk rfl 25 (.tmp 3) rfl g rfl _ _ _ (hp4) Tryd.underlying25 rfl (infRP.trans (by rw [pkC_length _ _ _ _ _ _ HM.out])) ?_))
    | (go_at_call 51; refine (HSL.out _ HX4.out).mono ?_; rintro e w5 ⟨rfl, hb5⟩))
  have HXw5 := Lib.hid (HX4.out.trans (hb5.mono HX4.out.size))
  clear hb5 hp4
  rcases hcs with ⟨her, hl1, hl2⟩ | her
  · subst her
    obtain ⟨SS, hSS⟩ : ∃ SS, SS = S ++ sec := ⟨_, rfl⟩
    obtain ⟨D, hD⟩ : ∃ D, D = md5 SS := ⟨_, rfl⟩
    obtain ⟨H4, hH4⟩ : ∃ H4, H4 = S.take 4 := ⟨_, rfl⟩
    obtain ⟨T, hT⟩ : ∃ T, T = S.drop 20 := ⟨_, rfl⟩
    obtain ⟨R1, hR1⟩ : ∃ R1, R1 = H4 ++ D := ⟨_, rfl⟩
    have HZ := Lib.hid (show replyE code id M la sec = (R1 ++ T, 0) by rw [HRP.out, if_pos rfl, hR1, hH4, hT, hD, hSS])
    have hs9 := HS.out
    have hdl : D.length = 16 := by rw [hD]; exact md5_length _
    have h4l : H4.length = 4 := by rw [hH4, List.length_take]; omega
    have htl : T.length ≤ 4096 := by rw [hT, List.length_drop]; omega
    have hrl : R1.length = 20 := by rw [hR1, List.length_append, hdl, h4l]
    have hsl : SS.length ≤ 2000000 := by rw [hSS, List.length_append]; omega
    have ho1 : ¬ 9223372036854775807 < S.length + sec.length := by omega
    have ha1 := bytes_append S sec
    rw [← hSS] at ha1
    have ho2 : ¬ 9223372036854775807 < H4.length + D.length := by omega
    have ha2 := bytes_append H4 D
    rw [← hR1] at ha2
    have ho3 : ¬ 9223372036854775807 < R1.length + T.length := by omega
    have ha3 := bytes_append R1 T
    have hx4 := extract_toR S 4
    rw [← hH4] at hx4
    have hx20 := extract_fromR S 20 S.length (Nat.le_refl _)
    rw [← hT] at hx20
    have HSU := Lib.hid (fun (W : World) => (show Calls Tryd.prog 53 #[.string ⟨SS.toArray⟩] W (fun e w' => e = .returned (.string ⟨D.toArray⟩) ∧ Below W.heap.size W w') by rw [hD]; exact refSumQ_any SS W (by omega)))
    have hl4 : (4 : Int) ≤ (S.length : Int) := by omega
    have hl20 : (20 : Int) ≤ (S.length : Int) := by omega
    clear hSS hD hH4 hT hR1 hdl h4l htl hrl hsl hs9 hl1 hl2
    go_upto_region 8 with (fail)
    refine wp_region_noPanic ?_
    refine wp_region_held_drew (S := fun W => Below w5.heap.size w5 W) (by kernel_rfl) (by exact below_drewN (Below.refl _ _) 1) (fun hHeld => ?_)
    replace hHeld : Below w5.heap.size w5 w5.drew := hHeld
    have HXwd := Lib.hid (HXw5.out.trans (hHeld.mono HXw5.out.size))
    have HYwd := Lib.hid (show Below w5.heap.size w5 w5.drew from hHeld)
    generalize w5.drew = wd at *
    refine anyH_mono (S' := fun W => Below wd.heap.size wd W) (fun W h => hHeld.trans (h.mono hHeld.size)) _ _ _ _ ?_
    clear hHeld
    have hHeld : Below wd.heap.size wd wd := Below.refl _ _
    refine wpAnyH_take (i := 0) (oi := ⟨_, _, _, _, _, _⟩) (v := ?_) rfl (by kernel_rfl) (by kernel_rfl) (by kernel_rfl) (fun _ _ _ h => h) (Or.inl ⟨by rfl, ?_⟩) hHeld ?_
    rotate_left 1
    · (intro W hSw; (try dsimp only at hSw); go_simp; try with_reducible rfl)
    try simp only [Act.put, List.setIfInBounds_toArray, List.set_cons_zero, List.set_cons_succ]
    refine wpAnyH_take (i := 1) (oi := ⟨_, _, _, _, _, _⟩) (v := ?_) rfl (by kernel_rfl) (by kernel_rfl) (by kernel_rfl) (fun _ _ _ h => h) (Or.inl ⟨by rfl, ?_⟩) hHeld ?_
    rotate_left 1
    · (intro W hSw; (try dsimp only at hSw); go_simp; try with_reducible rfl)
    try simp only [Act.put, List.setIfInBounds_toArray, List.set_cons_zero, List.set_cons_succ]
    refine wpAnyH_take (i := 2) (oi := ⟨_, _, _, _, _, _⟩) (v := ?_) rfl (by kernel_rfl) (by kernel_rfl) (by kernel_rfl) (fun _ _ _ h => h) (Or.inl ⟨by rfl, ?_⟩) hHeld ?_
    rotate_left 1
    · (intro W hSw; (try dsimp only at hSw); go_simp; try with_reducible rfl)
    try simp only [Act.put, List.setIfInBounds_toArray, List.set_cons_zero, List.set_cons_succ]
    refine wpAnyH_take (i := 3) (oi := ⟨_, _, _, _, _, _⟩) (v := ?_) rfl (by kernel_rfl) (by kernel_rfl) (by kernel_rfl) (fun _ _ _ h => h) (Or.inl ⟨by rfl, ?_⟩) hHeld ?_
    rotate_left 1
    · (intro W hSw; (try dsimp only at hSw); go_simp; try with_reducible rfl)
    try simp only [Act.put, List.setIfInBounds_toArray, List.set_cons_zero, List.set_cons_succ]
    refine wpAnyH_take (i := 4) (oi := ⟨_, _, _, _, _, _⟩) (v := ?_) rfl (by kernel_rfl) (by kernel_rfl) (by kernel_rfl) (fun _ _ _ h => h) (Or.inl ⟨by rfl, ?_⟩) hHeld ?_
    rotate_left 1
    · (intro W hSw; (try dsimp only at hSw); go_simp; try with_reducible rfl)
    try simp only [Act.put, List.setIfInBounds_toArray, List.set_cons_zero, List.set_cons_succ]
    refine wpAnyH_take (i := 7) (oi := ⟨_, _, _, _, _, _⟩) (v := ?_) rfl (by kernel_rfl) (by kernel_rfl) (by kernel_rfl) (fun _ _ _ h => h) (Or.inl ⟨by rfl, ?_⟩) hHeld ?_
    rotate_left 1
    · (intro W hSw; (try dsimp only at hSw); go_simp; try with_reducible rfl)
    try simp only [Act.put, List.setIfInBounds_toArray, List.set_cons_zero, List.set_cons_succ]
    refine wpAnyH_take (i := 8) (oi := ⟨_, _, _, _, _, _⟩) (v := ?_) rfl (by kernel_rfl) (by kernel_rfl) (by kernel_rfl) (fun _ _ _ h => h) (Or.inl ⟨by rfl, ?_⟩) hHeld ?_
    rotate_left 1
    · (intro W hSw; (try dsimp only at hSw); go_simp; try with_reducible rfl)
    try simp only [Act.put, List.setIfInBounds_toArray, List.set_cons_zero, List.set_cons_succ]
    refine wpAnyH_ready (rs := [5]) (by kernel_rfl) (by simp) ?_
    refine AllReadyH.cons (o := ⟨_, _, _, _, _, _⟩) rfl (fun K hK => ?_) AllReadyH.nil
    go_simp
    go_at_call 53
    refine (HSU.out _).mono ?_
    rintro e wa ⟨rfl, hba⟩
    try go_wp2_with fail
    have hszx := hHeld.size
    refine hK.out _ _ (hHeld.trans (hba.mono hszx)) (fun hHeld => ?_)
    clear hK K hszx
    replace hHeld : Below wd.heap.size wd wa := hHeld
    have HXwa := Lib.hid (HXwd.out.trans (hHeld.mono HXwd.out.size))
    have HYwa := Lib.hid (HYwd.out.trans (hHeld.mono HYwd.out.size))
    try simp only [Act.put, List.setIfInBounds_toArray, List.set_cons_zero, List.set_cons_succ]
    refine anyH_mono (S' := fun W => Below wa.heap.size wa W) (fun W h => hHeld.trans (h.mono hHeld.size)) _ _ _ _ ?_
    clear hHeld
    have hHeld : Below wa.heap.size wa wa := Below.refl _ _
    refine wpAnyH_take (i := 6) (oi := ⟨_, _, _, _, _, _⟩) (v := ?_) rfl (by kernel_rfl) (by kernel_rfl) (by kernel_rfl) (fun _ _ _ h => h) (Or.inl ⟨by rfl, ?_⟩) hHeld ?_
    rotate_left 1
    · (intro W hSw; (try dsimp only at hSw); go_simp; try with_reducible rfl)
    try simp only [Act.put, List.setIfInBounds_toArray, List.set_cons_zero, List.set_cons_succ]
    refine wpAnyH_take (i := 9) (oi := ⟨_, _, _, _, _, _⟩) (v := ?_) rfl (by kernel_rfl) (by kernel_rfl) (by kernel_rfl) (fun _ _ _ h => h) (Or.inl ⟨by rfl, ?_⟩) hHeld ?_
    rotate_left 1
    · (intro W hSw; (try dsimp only at hSw); go_simp; try with_reducible rfl)
    try simp only [Act.put, List.setIfInBounds_toArray, List.set_cons_zero, List.set_cons_succ]
    refine wpAnyH_take (i := 10) (oi := ⟨_, _, _, _, _, _⟩) (v := ?_) rfl (by kernel_rfl) (by kernel_rfl) (by kernel_rfl) (fun _ _ _ h => h) (Or.inl ⟨by rfl, ?_⟩) hHeld ?_
    rotate_left 1
    · (intro W hSw; (try dsimp only at hSw); go_simp; try with_reducible rfl)
    try simp only [Act.put, List.setIfInBounds_toArray, List.set_cons_zero, List.set_cons_succ]
    refine wpAnyH_take (i := 11) (oi := ⟨_, _, _, _, _, _⟩) (v := ?_) rfl (by kernel_rfl) (by kernel_rfl) (by kernel_rfl) (fun _ _ _ h => h) (Or.inl ⟨by rfl, ?_⟩) hHeld ?_
    rotate_left 1
    · (intro W hSw; (try dsimp only at hSw); go_simp; try with_reducible rfl)
    try simp only [Act.put, List.setIfInBounds_toArray, List.set_cons_zero, List.set_cons_succ]
    refine wpAnyH_done (by kernel_rfl) ?_ _
    refine NoPanic.normal ?_
    clear hHeld
    go_wp2
    go_ret2
    exact ⟨by rw [HZ.out] <;> rfl, HXwa.out⟩
  · subst her
    have HZ := Lib.hid (show replyE code id M la sec = ([], 2) by rw [HRP.out, if_neg (by decide)])
    go_wp2
    go_ret2
    exact ⟨by rw [HZ.out] <;> rfl, HXw5.out⟩
theorem rreply_e (c n : Nat) (code id : Int) (Q M : List UInt8) (A : Option Addr) (la : Attrs) (sec : List UInt8) (w : World) (hQ : Q.length = 16) (hM : M.length = 16) (hn : la.length = n) (hA : SIn w w.heap.size A c la) (hm : n ≤ 400000) (hs : sec.length ≤ 1000000) :
    Calls Tryd.prog 23 #[.agg (pkC code id Q A n c).toArray, .agg (M.map B8).toArray, .string ⟨sec.toArray⟩] w fun e w' => e = .returned (.tuple #[.string ⟨(replyE code id M la sec).1.toArray⟩, .int .i64 ((replyE code id M la sec).2 : Int)]) ∧ Below w.heap.size w w' := by
  by_cases hc : code = 1
  · exact rreply_ask c n code id Q M A la sec w hQ hM hn hA hm hs hc
  · cases hk : hasMark la with
    | true => exact rreply_marks c n code id Q M A la sec w hQ hM hn hA hm hs hc hk
    | false => exact rreply_go c n code id Q M A la sec w hQ hM hn hA hm hs hc hk
end Go.Proofs.YtbomckbekcaemaaDoor
