/-
  Package hello's cursor: ticket and client: what they read.
-/
import Derived.Test.YtagblbfbjemfhaaDoorHu
namespace Go.Proofs.YtagblbfbjemfhaaDoor
open Go.RowKit
open HelloMath (numB numB_length vecB vecB_length Msg getN getN_snoc pad32 zero32 zeroM saidTicket saidClient saidServer cl3 cl4 cl5 cl7 sv3)

/-- what is left behind a Client's share -/
def afterShare (b : List UInt8) : List UInt8 := if getN (((((((HelloMath.cnt 1 ((b.drop 2).drop 32)).2.drop 6).drop 2).drop 25).drop 2)).take 2) = 0 then ((((((HelloMath.cnt 1 ((b.drop 2).drop 32)).2.drop 6).drop 2).drop 25).drop 2)).drop 2 else (HelloMath.cnt 2 ((((((((HelloMath.cnt 1 ((b.drop 2).drop 32)).2.drop 6).drop 2).drop 25).drop 2)).drop 2).drop 2)).2
set_option maxRecDepth 100000 in
set_option maxHeartbeats 4000000 in
theorem client_00 (B gc gm D : Nat) (r : List UInt8) (w : World) (C : CAt w B gc r) (M : MW w D gm (zeroM 1)) (hgc : gm < gc ∧ gc < D ∧ B ≤ gm ∧ D ≤ w.heap.size) (hr40 : Hid (r.length ≤ 200000)) (hq : getN (((((((HelloMath.cnt 1 ((r.drop 2).drop 32)).2.drop 6).drop 2).drop 25).drop 2)).take 2) = 0) (hl : decide (afterShare r = []) = true) : Calls Tryd.prog 43 #[.pointer (some ⟨gc, 0, none⟩), .pointer (some ⟨gm, 0, none⟩)] w fun e w' => e = .returned (.tuple #[]) ∧ MW w' D gm (saidClient r) ∧ Below gm w w' := by
  go_enter Tryd.func43, Tryd.ntmps43
  go_upto_region 0 with (fail)
  have HL := Lib.hid (show gm ≤ gc ∧ gc < D ∧ gm ≠ gc from ⟨Nat.le_of_lt hgc.1, hgc.2.1, Nat.ne_of_lt hgc.1⟩)
  have HL2 := Lib.hid (show B ≤ gm ∧ gc ≠ gm from ⟨hgc.2.2.1, (Nat.ne_of_lt hgc.1).symm⟩)
  have HL3 := Lib.hid hgc.2.2.2
  have HLS := Lib.hid (Nat.le_of_lt M.lt)
  clear hgc
  have hb : Below gm w w := Below.refl _ _
  go_upto_region 1 with (go_at_call 47; refine (pass_e B gc r [3, 3] 2 _ C (Lib.hid rfl) (Lib.hid (by decide))).mono ?_; rintro e w1 ⟨rfl, Cn, hg⟩)
  clear C
  have C := Cn
  clear Cn
  replace hb := hb.trans (grown_below hg HL.out.1 (Nat.le_trans HLS.out hb.size))
  replace M := M.kept hg HL.out.2.1 HL.out.2.2
  clear hg
  obtain ⟨r2, hr2⟩ : ∃ x, Hid (r.drop 2 = x) := ⟨_, Lib.hid rfl⟩
  rw [hr2.out] at C
  have hpl : ((pad32 (r2.take 32))).length = 32 := HelloMath.pad_32 r2
  obtain ⟨X, hX⟩ : ∃ X, Hid ((pad32 (r2.take 32)) = X) := ⟨_, Lib.hid rfl⟩
  rw [hX.out] at hpl
  go_upto_region 2 with (first
    | (go_at_call 49; refine (sum_c B gc r2 _ C).mono ?_; rintro e w3 ⟨rfl, Cn, hg⟩; rw [hX.out]; have Mn := M.kept hg HL.out.2.1 HL.out.2.2)
    | ((with_reducible refine (?_ : wpList _ _ _ (Oper.mk none _ _ _ _ _ :: _) _ _)); go_loud (refine wpList_store_mid rfl 22 (.tmp 10) (.tmp 8) rfl gm 1 (X.map B8).toArray rfl rfl (fun j hj => by have hj' : j < 32 := (by simpa [hpl] using hj); exact Mn.there (1 + j) (by omega)) (info40.trans (by simp [hpl])) (one8 _) ?_)))
  clear C
  have C := Cn
  clear Cn
  replace hb := hb.trans (grown_below hg HL.out.1 (Nat.le_trans HLS.out hb.size))
  clear hg M
  have hg := grown_setCells w3 gm 1 (X.map B8)
  have M := Mn.set_rnd hpl
  clear Mn
  replace C := C.other hg HL2.out.1 HL2.out.2
  replace hb := hb.trans (grown_below hg (Nat.le_refl _) (Nat.le_trans HLS.out hb.size))
  clear hg
  generalize w3.setCells gm 1 (X.map B8) = w3s at *
  rw [← hX.out] at M
  clear hX hpl
  obtain ⟨m4, hm4⟩ : ∃ x, Hid ({ (zeroM 1) with rnd := pad32 (r2.take 32) } = x) := ⟨_, Lib.hid rfl⟩
  rw [hm4.out] at M
  obtain ⟨r5, hr5⟩ : ∃ x, Hid (r2.drop 32 = x) := ⟨_, Lib.hid rfl⟩
  rw [hr5.out] at C
  obtain ⟨Y, hY⟩ : ∃ Y, Hid ((HelloMath.cnt 1 r5).1 = Y) := ⟨_, Lib.hid rfl⟩
  have hrl := Lib.hid (show r5.length ≤ 200000 by simp only [← hr5.out, ← hr2.out]; simp only [List.length_drop]; have := hr40.out; omega)
  go_upto_region 3 with (go_at_call 48; refine (counted_c B gc r5 1 _ C (Lib.hid (by decide)) hrl).mono ?_; rintro e w6 ⟨v, rfl, hv, Cn, hg⟩; rw [hY.out] at hv; have Mn := M.kept hg HL.out.2.1 HL.out.2.2; replace hv := hv.base (Nat.le_trans HL3.out hb.size); have HV := Lib.hid hv; obtain ⟨Av, cv, rfl, -⟩ := hv; obtain ⟨qv, hqv⟩ : ∃ q, Y.length = q := ⟨_, rfl⟩; rw [hqv] at HV ⊢; have hth := Mn.there 65 (by decide); obtain ⟨xo, hxo⟩ := Option.isSome_iff_exists.1 hth.1; have hfz := hth.2; clear hth)
  clear C
  have C := Cn
  clear Cn
  replace hb := hb.trans (grown_below hg HL.out.1 (Nat.le_trans HLS.out hb.size))
  clear hg M hxo hfz hqv hrl
  have hg := grown_cell w6 gm 65 (.slice Av qv cv)
  have M := Mn.set_ses HV.out
  clear Mn
  replace C := C.other hg HL2.out.1 HL2.out.2
  replace hb := hb.trans (grown_below hg (Nat.le_refl _) (Nat.le_trans HLS.out hb.size))
  clear hg
  generalize w6.setCell ⟨gm, 65, none⟩ (.slice Av qv cv) = w6s at *
  clear HV
  rw [← hY.out] at M
  clear hY Y
  obtain ⟨m7, hm7⟩ : ∃ x, Hid ({ m4 with ses := (HelloMath.cnt 1 r5).1 } = x) := ⟨_, Lib.hid rfl⟩
  rw [hm7.out] at M
  obtain ⟨r8, hr8⟩ : ∃ x, Hid ((HelloMath.cnt 1 r5).2 = x) := ⟨_, Lib.hid rfl⟩
  rw [hr8.out] at C
  go_upto_region 4 with (go_at_call 47; refine (pass_e B gc r8 [0, 2, 19, 1, 1, 0] 6 _ C (Lib.hid rfl) (Lib.hid (by decide))).mono ?_; rintro e w9 ⟨rfl, Cn, hg⟩)
  clear C
  have C := Cn
  clear Cn
  replace hb := hb.trans (grown_below hg HL.out.1 (Nat.le_trans HLS.out hb.size))
  replace M := M.kept hg HL.out.2.1 HL.out.2.2
  clear hg
  obtain ⟨r10, hr10⟩ : ∃ x, Hid (r8.drop 6 = x) := ⟨_, Lib.hid rfl⟩
  rw [hr10.out] at C
  go_upto_region 5 with (go_at_call 42; refine (number_c B gc r10 2 _ C (Lib.hid (by decide))).mono ?_; rintro e w11 ⟨rfl, Cn, hg⟩)
  clear C
  have C := Cn
  clear Cn
  replace hb := hb.trans (grown_below hg HL.out.1 (Nat.le_trans HLS.out hb.size))
  replace M := M.kept hg HL.out.2.1 HL.out.2.2
  clear hg
  obtain ⟨r12, hr12⟩ : ∃ x, Hid (r10.drop 2 = x) := ⟨_, Lib.hid rfl⟩
  rw [hr12.out] at C
  go_upto_region 6 with (go_at_call 47; refine (pass_e B gc r12 [0, 43, 0, 3, 2, 3, 4, 0, 10, 0, 4, 0, 2, 0, 23, 0, 13, 0, 4, 0, 2, 4, 3, 0, 51] 25 _ C (Lib.hid rfl) (Lib.hid (by decide))).mono ?_; rintro e w13 ⟨rfl, Cn, hg⟩)
  clear C
  have C := Cn
  clear Cn
  replace hb := hb.trans (grown_below hg HL.out.1 (Nat.le_trans HLS.out hb.size))
  replace M := M.kept hg HL.out.2.1 HL.out.2.2
  clear hg
  obtain ⟨r14, hr14⟩ : ∃ x, Hid (r12.drop 25 = x) := ⟨_, Lib.hid rfl⟩
  rw [hr14.out] at C
  go_upto_region 7 with (go_at_call 42; refine (number_c B gc r14 2 _ C (Lib.hid (by decide))).mono ?_; rintro e w15 ⟨rfl, Cn, hg⟩)
  clear C
  have C := Cn
  clear Cn
  replace hb := hb.trans (grown_below hg HL.out.1 (Nat.le_trans HLS.out hb.size))
  replace M := M.kept hg HL.out.2.1 HL.out.2.2
  clear hg
  obtain ⟨r16, hr16⟩ : ∃ x, Hid (r14.drop 2 = x) := ⟨_, Lib.hid rfl⟩
  rw [hr16.out] at C
  rw [show getN (((((((HelloMath.cnt 1 ((r.drop 2).drop 32)).2.drop 6).drop 2).drop 25).drop 2)).take 2) = getN (r16.take 2) by simp only [hr2.out, hr5.out, hr8.out, hr10.out, hr12.out, hr14.out, hr16.out]] at hq
  go_upto_region 10 with (go_at_call 42; refine (number_c B gc r16 2 _ C (Lib.hid (by decide))).mono ?_; rintro e w17 ⟨rfl, Cn, hg⟩; rw [hq])
  clear C
  have C := Cn
  clear Cn
  replace hb := hb.trans (grown_below hg HL.out.1 (Nat.le_trans HLS.out hb.size))
  replace M := M.kept hg HL.out.2.1 HL.out.2.2
  clear hg
  obtain ⟨r18, hr18⟩ : ∃ x, Hid (r16.drop 2 = x) := ⟨_, Lib.hid rfl⟩
  rw [hr18.out] at C
  have hl2 : (r18 = []) = (decide (afterShare r = []) = true) := by
    unfold afterShare
    rw [if_pos (by simp only [hr2.out, hr5.out, hr8.out, hr10.out, hr12.out, hr14.out, hr16.out]; exact hq)]
    simp only [hr2.out, hr5.out, hr8.out, hr10.out, hr12.out, hr14.out, hr16.out, hr18.out, decide_eq_true_eq]
  have hl3 : r18 = [] := by rw [hl2]; exact hl
  replace hl2 := Lib.hid hl2
  obtain ⟨vr, hcr, hsr⟩ := C.rest
  obtain ⟨Ar, cr, rfl, -⟩ := hsr
  obtain ⟨lr, hlr⟩ : ∃ l, r18.length = l := ⟨_, rfl⟩
  rw [hlr] at hcr
  obtain rfl : lr = 0 := by rw [← hlr, hl3]; rfl
  clear hlr
  replace hl3 := Lib.hid hl3
  go_wp2
  refine bodyPost_ret (results_none rfl _ _ _) rfl ?_
  have e : m7 = saidClient r := by
    unfold saidClient cl3 cl4 cl5 cl7
    rw [← hm7.out, ← hm4.out]
    dsimp only
    simp only [hr2.out, hr5.out, hr8.out, hr10.out, hr12.out, hr14.out, hr16.out, hr18.out, hq, if_true, if_pos hl3.out]
    try rfl
  rw [← e]
  exact ⟨rfl, M, hb⟩
set_option maxRecDepth 100000 in
set_option maxHeartbeats 4000000 in
theorem client_01 (B gc gm D : Nat) (r : List UInt8) (w : World) (C : CAt w B gc r) (M : MW w D gm (zeroM 1)) (hgc : gm < gc ∧ gc < D ∧ B ≤ gm ∧ D ≤ w.heap.size) (hr40 : Hid (r.length ≤ 200000)) (hq : getN (((((((HelloMath.cnt 1 ((r.drop 2).drop 32)).2.drop 6).drop 2).drop 25).drop 2)).take 2) = 0) (hl : decide (afterShare r = []) = false) : Calls Tryd.prog 43 #[.pointer (some ⟨gc, 0, none⟩), .pointer (some ⟨gm, 0, none⟩)] w fun e w' => e = .returned (.tuple #[]) ∧ MW w' D gm (saidClient r) ∧ Below gm w w' := by
  go_enter Tryd.func43, Tryd.ntmps43
  go_upto_region 0 with (fail)
  have HL := Lib.hid (show gm ≤ gc ∧ gc < D ∧ gm ≠ gc from ⟨Nat.le_of_lt hgc.1, hgc.2.1, Nat.ne_of_lt hgc.1⟩)
  have HL2 := Lib.hid (show B ≤ gm ∧ gc ≠ gm from ⟨hgc.2.2.1, (Nat.ne_of_lt hgc.1).symm⟩)
  have HL3 := Lib.hid hgc.2.2.2
  have HLS := Lib.hid (Nat.le_of_lt M.lt)
  clear hgc
  have hb : Below gm w w := Below.refl _ _
  go_upto_region 1 with (go_at_call 47; refine (pass_e B gc r [3, 3] 2 _ C (Lib.hid rfl) (Lib.hid (by decide))).mono ?_; rintro e w1 ⟨rfl, Cn, hg⟩)
  clear C
  have C := Cn
  clear Cn
  replace hb := hb.trans (grown_below hg HL.out.1 (Nat.le_trans HLS.out hb.size))
  replace M := M.kept hg HL.out.2.1 HL.out.2.2
  clear hg
  obtain ⟨r2, hr2⟩ : ∃ x, Hid (r.drop 2 = x) := ⟨_, Lib.hid rfl⟩
  rw [hr2.out] at C
  have hpl : ((pad32 (r2.take 32))).length = 32 := HelloMath.pad_32 r2
  obtain ⟨X, hX⟩ : ∃ X, Hid ((pad32 (r2.take 32)) = X) := ⟨_, Lib.hid rfl⟩
  rw [hX.out] at hpl
  go_upto_region 2 with (first
    | (go_at_call 49; refine (sum_c B gc r2 _ C).mono ?_; rintro e w3 ⟨rfl, Cn, hg⟩; rw [hX.out]; have Mn := M.kept hg HL.out.2.1 HL.out.2.2)
    | ((with_reducible refine (?_ : wpList _ _ _ (Oper.mk none _ _ _ _ _ :: _) _ _)); go_loud (refine wpList_store_mid rfl 22 (.tmp 10) (.tmp 8) rfl gm 1 (X.map B8).toArray rfl rfl (fun j hj => by have hj' : j < 32 := (by simpa [hpl] using hj); exact Mn.there (1 + j) (by omega)) (info40.trans (by simp [hpl])) (one8 _) ?_)))
  clear C
  have C := Cn
  clear Cn
  replace hb := hb.trans (grown_below hg HL.out.1 (Nat.le_trans HLS.out hb.size))
  clear hg M
  have hg := grown_setCells w3 gm 1 (X.map B8)
  have M := Mn.set_rnd hpl
  clear Mn
  replace C := C.other hg HL2.out.1 HL2.out.2
  replace hb := hb.trans (grown_below hg (Nat.le_refl _) (Nat.le_trans HLS.out hb.size))
  clear hg
  generalize w3.setCells gm 1 (X.map B8) = w3s at *
  rw [← hX.out] at M
  clear hX hpl
  obtain ⟨m4, hm4⟩ : ∃ x, Hid ({ (zeroM 1) with rnd := pad32 (r2.take 32) } = x) := ⟨_, Lib.hid rfl⟩
  rw [hm4.out] at M
  obtain ⟨r5, hr5⟩ : ∃ x, Hid (r2.drop 32 = x) := ⟨_, Lib.hid rfl⟩
  rw [hr5.out] at C
  obtain ⟨Y, hY⟩ : ∃ Y, Hid ((HelloMath.cnt 1 r5).1 = Y) := ⟨_, Lib.hid rfl⟩
  have hrl := Lib.hid (show r5.length ≤ 200000 by simp only [← hr5.out, ← hr2.out]; simp only [List.length_drop]; have := hr40.out; omega)
  go_upto_region 3 with (go_at_call 48; refine (counted_c B gc r5 1 _ C (Lib.hid (by decide)) hrl).mono ?_; rintro e w6 ⟨v, rfl, hv, Cn, hg⟩; rw [hY.out] at hv; have Mn := M.kept hg HL.out.2.1 HL.out.2.2; replace hv := hv.base (Nat.le_trans HL3.out hb.size); have HV := Lib.hid hv; obtain ⟨Av, cv, rfl, -⟩ := hv; obtain ⟨qv, hqv⟩ : ∃ q, Y.length = q := ⟨_, rfl⟩; rw [hqv] at HV ⊢; have hth := Mn.there 65 (by decide); obtain ⟨xo, hxo⟩ := Option.isSome_iff_exists.1 hth.1; have hfz := hth.2; clear hth)
  clear C
  have C := Cn
  clear Cn
  replace hb := hb.trans (grown_below hg HL.out.1 (Nat.le_trans HLS.out hb.size))
  clear hg M hxo hfz hqv hrl
  have hg := grown_cell w6 gm 65 (.slice Av qv cv)
  have M := Mn.set_ses HV.out
  clear Mn
  replace C := C.other hg HL2.out.1 HL2.out.2
  replace hb := hb.trans (grown_below hg (Nat.le_refl _) (Nat.le_trans HLS.out hb.size))
  clear hg
  generalize w6.setCell ⟨gm, 65, none⟩ (.slice Av qv cv) = w6s at *
  clear HV
  rw [← hY.out] at M
  clear hY Y
  obtain ⟨m7, hm7⟩ : ∃ x, Hid ({ m4 with ses := (HelloMath.cnt 1 r5).1 } = x) := ⟨_, Lib.hid rfl⟩
  rw [hm7.out] at M
  obtain ⟨r8, hr8⟩ : ∃ x, Hid ((HelloMath.cnt 1 r5).2 = x) := ⟨_, Lib.hid rfl⟩
  rw [hr8.out] at C
  go_upto_region 4 with (go_at_call 47; refine (pass_e B gc r8 [0, 2, 19, 1, 1, 0] 6 _ C (Lib.hid rfl) (Lib.hid (by decide))).mono ?_; rintro e w9 ⟨rfl, Cn, hg⟩)
  clear C
  have C := Cn
  clear Cn
  replace hb := hb.trans (grown_below hg HL.out.1 (Nat.le_trans HLS.out hb.size))
  replace M := M.kept hg HL.out.2.1 HL.out.2.2
  clear hg
  obtain ⟨r10, hr10⟩ : ∃ x, Hid (r8.drop 6 = x) := ⟨_, Lib.hid rfl⟩
  rw [hr10.out] at C
  go_upto_region 5 with (go_at_call 42; refine (number_c B gc r10 2 _ C (Lib.hid (by decide))).mono ?_; rintro e w11 ⟨rfl, Cn, hg⟩)
  clear C
  have C := Cn
  clear Cn
  replace hb := hb.trans (grown_below hg HL.out.1 (Nat.le_trans HLS.out hb.size))
  replace M := M.kept hg HL.out.2.1 HL.out.2.2
  clear hg
  obtain ⟨r12, hr12⟩ : ∃ x, Hid (r10.drop 2 = x) := ⟨_, Lib.hid rfl⟩
  rw [hr12.out] at C
  go_upto_region 6 with (go_at_call 47; refine (pass_e B gc r12 [0, 43, 0, 3, 2, 3, 4, 0, 10, 0, 4, 0, 2, 0, 23, 0, 13, 0, 4, 0, 2, 4, 3, 0, 51] 25 _ C (Lib.hid rfl) (Lib.hid (by decide))).mono ?_; rintro e w13 ⟨rfl, Cn, hg⟩)
  clear C
  have C := Cn
  clear Cn
  replace hb := hb.trans (grown_below hg HL.out.1 (Nat.le_trans HLS.out hb.size))
  replace M := M.kept hg HL.out.2.1 HL.out.2.2
  clear hg
  obtain ⟨r14, hr14⟩ : ∃ x, Hid (r12.drop 25 = x) := ⟨_, Lib.hid rfl⟩
  rw [hr14.out] at C
  go_upto_region 7 with (go_at_call 42; refine (number_c B gc r14 2 _ C (Lib.hid (by decide))).mono ?_; rintro e w15 ⟨rfl, Cn, hg⟩)
  clear C
  have C := Cn
  clear Cn
  replace hb := hb.trans (grown_below hg HL.out.1 (Nat.le_trans HLS.out hb.size))
  replace M := M.kept hg HL.out.2.1 HL.out.2.2
  clear hg
  obtain ⟨r16, hr16⟩ : ∃ x, Hid (r14.drop 2 = x) := ⟨_, Lib.hid rfl⟩
  rw [hr16.out] at C
  rw [show getN (((((((HelloMath.cnt 1 ((r.drop 2).drop 32)).2.drop 6).drop 2).drop 25).drop 2)).take 2) = getN (r16.take 2) by simp only [hr2.out, hr5.out, hr8.out, hr10.out, hr12.out, hr14.out, hr16.out]] at hq
  go_upto_region 10 with (go_at_call 42; refine (number_c B gc r16 2 _ C (Lib.hid (by decide))).mono ?_; rintro e w17 ⟨rfl, Cn, hg⟩; rw [hq])
  clear C
  have C := Cn
  clear Cn
  replace hb := hb.trans (grown_below hg HL.out.1 (Nat.le_trans HLS.out hb.size))
  replace M := M.kept hg HL.out.2.1 HL.out.2.2
  clear hg
  obtain ⟨r18, hr18⟩ : ∃ x, Hid (r16.drop 2 = x) := ⟨_, Lib.hid rfl⟩
  rw [hr18.out] at C
  have hl2 : (r18 = []) = (decide (afterShare r = []) = true) := by
    unfold afterShare
    rw [if_pos (by simp only [hr2.out, hr5.out, hr8.out, hr10.out, hr12.out, hr14.out, hr16.out]; exact hq)]
    simp only [hr2.out, hr5.out, hr8.out, hr10.out, hr12.out, hr14.out, hr16.out, hr18.out, decide_eq_true_eq]
  have hl3 : ¬ r18 = [] := by rw [hl2, hl]; simp
  replace hl2 := Lib.hid hl2
  obtain ⟨vr, hcr, hsr⟩ := C.rest
  obtain ⟨Ar, cr, rfl, -⟩ := hsr
  obtain ⟨lr, hlr⟩ : ∃ l, r18.length = l := ⟨_, rfl⟩
  rw [hlr] at hcr
  have hlr0 : ((lr : Int) == 0) = false := by rw [beq_eq_false_iff_ne]; intro e; exact hl3 (List.eq_nil_of_length_eq_zero (by omega))
  clear hlr
  replace hl3 := Lib.hid hl3
  have hth := M.there 73 (by decide)
  obtain ⟨xo, hxo⟩ := Option.isSome_iff_exists.1 hth.1
  have hfz := hth.2
  clear hth
  go_upto_region 12 with (fail)
  clear hxo hfz hcr hlr0
  have hg := grown_cell w17 gm 73 (.bool true)
  replace M := M.set_psk true
  replace C := C.other hg HL2.out.1 HL2.out.2
  replace hb := hb.trans (grown_below hg (Nat.le_refl _) (Nat.le_trans HLS.out hb.size))
  clear hg
  generalize w17.setCell ⟨gm, 73, none⟩ (.bool true) = wp at *
  obtain ⟨m19, hm19⟩ : ∃ x, Hid ({ m7 with psk := true } = x) := ⟨_, Lib.hid rfl⟩
  rw [hm19.out] at M
  go_upto_region 13 with (go_at_call 47; refine (pass_e B gc r18 [0, 45, 0, 2, 1, 1, 0, 41] 8 _ C (Lib.hid rfl) (Lib.hid (by decide))).mono ?_; rintro e w20 ⟨rfl, Cn, hg⟩)
  clear C
  have C := Cn
  clear Cn
  replace hb := hb.trans (grown_below hg HL.out.1 (Nat.le_trans HLS.out hb.size))
  replace M := M.kept hg HL.out.2.1 HL.out.2.2
  clear hg
  obtain ⟨r21, hr21⟩ : ∃ x, Hid (r18.drop 8 = x) := ⟨_, Lib.hid rfl⟩
  rw [hr21.out] at C
  go_upto_region 14 with (go_at_call 42; refine (number_c B gc r21 2 _ C (Lib.hid (by decide))).mono ?_; rintro e w22 ⟨rfl, Cn, hg⟩)
  clear C
  have C := Cn
  clear Cn
  replace hb := hb.trans (grown_below hg HL.out.1 (Nat.le_trans HLS.out hb.size))
  replace M := M.kept hg HL.out.2.1 HL.out.2.2
  clear hg
  obtain ⟨r23, hr23⟩ : ∃ x, Hid (r21.drop 2 = x) := ⟨_, Lib.hid rfl⟩
  rw [hr23.out] at C
  go_upto_region 15 with (go_at_call 42; refine (number_c B gc r23 2 _ C (Lib.hid (by decide))).mono ?_; rintro e w24 ⟨rfl, Cn, hg⟩)
  clear C
  have C := Cn
  clear Cn
  replace hb := hb.trans (grown_below hg HL.out.1 (Nat.le_trans HLS.out hb.size))
  replace M := M.kept hg HL.out.2.1 HL.out.2.2
  clear hg
  obtain ⟨r25, hr25⟩ : ∃ x, Hid (r23.drop 2 = x) := ⟨_, Lib.hid rfl⟩
  rw [hr25.out] at C
  obtain ⟨Y, hY⟩ : ∃ Y, Hid ((HelloMath.cnt 2 r25).1 = Y) := ⟨_, Lib.hid rfl⟩
  have hrl := Lib.hid (show r25.length ≤ 200000 by simp only [← hr25.out, ← hr23.out, ← hr21.out, ← hr18.out, ← hr16.out, ← hr14.out, ← hr12.out, ← hr10.out, ← hr8.out, ← hr5.out, ← hr2.out]; simp only [HelloMath.cnt, List.length_drop]; have := hr40.out; omega)
  go_upto_region 16 with (go_at_call 48; refine (counted_c B gc r25 2 _ C (Lib.hid (by decide)) hrl).mono ?_; rintro e w26 ⟨v, rfl, hv, Cn, hg⟩; rw [hY.out] at hv; have Mn := M.kept hg HL.out.2.1 HL.out.2.2; replace hv := hv.base (Nat.le_trans HL3.out hb.size); have HV := Lib.hid hv; obtain ⟨Av, cv, rfl, -⟩ := hv; obtain ⟨qv, hqv⟩ : ∃ q, Y.length = q := ⟨_, rfl⟩; rw [hqv] at HV ⊢; have hth := Mn.there 67 (by decide); obtain ⟨xo, hxo⟩ := Option.isSome_iff_exists.1 hth.1; have hfz := hth.2; clear hth)
  clear C
  have C := Cn
  clear Cn
  replace hb := hb.trans (grown_below hg HL.out.1 (Nat.le_trans HLS.out hb.size))
  clear hg M hxo hfz hqv hrl
  have hg := grown_cell w26 gm 67 (.slice Av qv cv)
  have M := Mn.set_tic HV.out
  clear Mn
  replace C := C.other hg HL2.out.1 HL2.out.2
  replace hb := hb.trans (grown_below hg (Nat.le_refl _) (Nat.le_trans HLS.out hb.size))
  clear hg
  generalize w26.setCell ⟨gm, 67, none⟩ (.slice Av qv cv) = w26s at *
  clear HV
  rw [← hY.out] at M
  clear hY Y
  obtain ⟨m27, hm27⟩ : ∃ x, Hid ({ m19 with tic := (HelloMath.cnt 2 r25).1 } = x) := ⟨_, Lib.hid rfl⟩
  rw [hm27.out] at M
  obtain ⟨r28, hr28⟩ : ∃ x, Hid ((HelloMath.cnt 2 r25).2 = x) := ⟨_, Lib.hid rfl⟩
  rw [hr28.out] at C
  obtain ⟨N, hN⟩ : ∃ N, Hid (getN (r28.take 4) = N) := ⟨_, Lib.hid rfl⟩
  go_upto_region 17 with (go_at_call 42; refine (number_c B gc r28 4 _ C (Lib.hid (by decide))).mono ?_; rintro e w29 ⟨rfl, Cn, hg⟩; rw [hN.out]; have Mn := M.kept hg HL.out.2.1 HL.out.2.2; have hth := Mn.there 72 (by decide); obtain ⟨xo, hxo⟩ := Option.isSome_iff_exists.1 hth.1; have hfz := hth.2; clear hth)
  clear C
  have C := Cn
  clear Cn
  replace hb := hb.trans (grown_below hg HL.out.1 (Nat.le_trans HLS.out hb.size))
  clear hg M hxo hfz
  have hg := grown_cell w29 gm 72 (.int .i64 (N : Int))
  have M := Mn.set_age (N : Int)
  clear Mn
  replace C := C.other hg HL2.out.1 HL2.out.2
  replace hb := hb.trans (grown_below hg (Nat.le_refl _) (Nat.le_trans HLS.out hb.size))
  clear hg
  generalize w29.setCell ⟨gm, 72, none⟩ (.int .i64 (N : Int)) = w29s at *
  rw [← hN.out] at M
  clear hN
  obtain ⟨m30, hm30⟩ : ∃ x, Hid ({ m27 with age := ((getN (r28.take 4) : Nat) : Int) } = x) := ⟨_, Lib.hid rfl⟩
  rw [hm30.out] at M
  obtain ⟨r31, hr31⟩ : ∃ x, Hid (r28.drop 4 = x) := ⟨_, Lib.hid rfl⟩
  rw [hr31.out] at C
  go_upto_region 18 with (go_at_call 47; refine (pass_e B gc r31 [0, 33, 32] 3 _ C (Lib.hid rfl) (Lib.hid (by decide))).mono ?_; rintro e w32 ⟨rfl, Cn, hg⟩)
  clear C
  have C := Cn
  clear Cn
  replace hb := hb.trans (grown_below hg HL.out.1 (Nat.le_trans HLS.out hb.size))
  replace M := M.kept hg HL.out.2.1 HL.out.2.2
  clear hg
  obtain ⟨r33, hr33⟩ : ∃ x, Hid (r31.drop 3 = x) := ⟨_, Lib.hid rfl⟩
  rw [hr33.out] at C
  have hpl : ((pad32 (r33.take 32))).length = 32 := HelloMath.pad_32 r33
  obtain ⟨X, hX⟩ : ∃ X, Hid ((pad32 (r33.take 32)) = X) := ⟨_, Lib.hid rfl⟩
  rw [hX.out] at hpl
  go_wp2_with (first
    | (go_at_call 49; refine (sum_c B gc r33 _ C).mono ?_; rintro e w34 ⟨rfl, Cn, hg⟩; rw [hX.out]; have Mn := M.kept hg HL.out.2.1 HL.out.2.2)
    | ((with_reducible refine (?_ : wpList _ _ _ (Oper.mk none _ _ _ _ _ :: _) _ _)); go_loud (refine wpList_store_mid rfl 22 (.tmp 65) (.tmp 63) rfl gm 33 (X.map B8).toArray rfl rfl (fun j hj => by have hj' : j < 32 := (by simpa [hpl] using hj); exact Mn.there (33 + j) (by omega)) (info40.trans (by simp [hpl])) (one8 _) ?_)))
  clear C
  have C := Cn
  clear Cn
  replace hb := hb.trans (grown_below hg HL.out.1 (Nat.le_trans HLS.out hb.size))
  clear hg M
  have hg := grown_setCells w34 gm 33 (X.map B8)
  have M := Mn.set_mark hpl
  clear Mn
  replace C := C.other hg HL2.out.1 HL2.out.2
  replace hb := hb.trans (grown_below hg (Nat.le_refl _) (Nat.le_trans HLS.out hb.size))
  clear hg
  generalize w34.setCells gm 33 (X.map B8) = w34s at *
  rw [← hX.out] at M
  clear hX hpl
  obtain ⟨m35, hm35⟩ : ∃ x, Hid ({ m30 with mark := pad32 (r33.take 32) } = x) := ⟨_, Lib.hid rfl⟩
  rw [hm35.out] at M
  obtain ⟨r36, hr36⟩ : ∃ x, Hid (r33.drop 32 = x) := ⟨_, Lib.hid rfl⟩
  rw [hr36.out] at C
  go_end0
  have e : m35 = saidClient r := by
    unfold saidClient cl3 cl4 cl5 cl7
    rw [← hm35.out, ← hm30.out, ← hm27.out, ← hm19.out, ← hm7.out, ← hm4.out]
    dsimp only
    simp only [hr2.out, hr5.out, hr8.out, hr10.out, hr12.out, hr14.out, hr16.out, hr18.out, hr21.out, hr23.out, hr25.out, hr28.out, hr31.out, hr33.out, hq, if_true, if_neg hl3.out]
    try rfl
  rw [← e]
  exact ⟨rfl, M, hb⟩
set_option maxRecDepth 100000 in
set_option maxHeartbeats 4000000 in
theorem client_10 (B gc gm D : Nat) (r : List UInt8) (w : World) (C : CAt w B gc r) (M : MW w D gm (zeroM 1)) (hgc : gm < gc ∧ gc < D ∧ B ≤ gm ∧ D ≤ w.heap.size) (hr40 : Hid (r.length ≤ 200000)) (hq : ¬ getN (((((((HelloMath.cnt 1 ((r.drop 2).drop 32)).2.drop 6).drop 2).drop 25).drop 2)).take 2) = 0) (hl : decide (afterShare r = []) = true) : Calls Tryd.prog 43 #[.pointer (some ⟨gc, 0, none⟩), .pointer (some ⟨gm, 0, none⟩)] w fun e w' => e = .returned (.tuple #[]) ∧ MW w' D gm (saidClient r) ∧ Below gm w w' := by
  go_enter Tryd.func43, Tryd.ntmps43
  go_upto_region 0 with (fail)
  have HL := Lib.hid (show gm ≤ gc ∧ gc < D ∧ gm ≠ gc from ⟨Nat.le_of_lt hgc.1, hgc.2.1, Nat.ne_of_lt hgc.1⟩)
  have HL2 := Lib.hid (show B ≤ gm ∧ gc ≠ gm from ⟨hgc.2.2.1, (Nat.ne_of_lt hgc.1).symm⟩)
  have HL3 := Lib.hid hgc.2.2.2
  have HLS := Lib.hid (Nat.le_of_lt M.lt)
  clear hgc
  have hb : Below gm w w := Below.refl _ _
  go_upto_region 1 with (go_at_call 47; refine (pass_e B gc r [3, 3] 2 _ C (Lib.hid rfl) (Lib.hid (by decide))).mono ?_; rintro e w1 ⟨rfl, Cn, hg⟩)
  clear C
  have C := Cn
  clear Cn
  replace hb := hb.trans (grown_below hg HL.out.1 (Nat.le_trans HLS.out hb.size))
  replace M := M.kept hg HL.out.2.1 HL.out.2.2
  clear hg
  obtain ⟨r2, hr2⟩ : ∃ x, Hid (r.drop 2 = x) := ⟨_, Lib.hid rfl⟩
  rw [hr2.out] at C
  have hpl : ((pad32 (r2.take 32))).length = 32 := HelloMath.pad_32 r2
  obtain ⟨X, hX⟩ : ∃ X, Hid ((pad32 (r2.take 32)) = X) := ⟨_, Lib.hid rfl⟩
  rw [hX.out] at hpl
  go_upto_region 2 with (first
    | (go_at_call 49; refine (sum_c B gc r2 _ C).mono ?_; rintro e w3 ⟨rfl, Cn, hg⟩; rw [hX.out]; have Mn := M.kept hg HL.out.2.1 HL.out.2.2)
    | ((with_reducible refine (?_ : wpList _ _ _ (Oper.mk none _ _ _ _ _ :: _) _ _)); go_loud (refine wpList_store_mid rfl 22 (.tmp 10) (.tmp 8) rfl gm 1 (X.map B8).toArray rfl rfl (fun j hj => by have hj' : j < 32 := (by simpa [hpl] using hj); exact Mn.there (1 + j) (by omega)) (info40.trans (by simp [hpl])) (one8 _) ?_)))
  clear C
  have C := Cn
  clear Cn
  replace hb := hb.trans (grown_below hg HL.out.1 (Nat.le_trans HLS.out hb.size))
  clear hg M
  have hg := grown_setCells w3 gm 1 (X.map B8)
  have M := Mn.set_rnd hpl
  clear Mn
  replace C := C.other hg HL2.out.1 HL2.out.2
  replace hb := hb.trans (grown_below hg (Nat.le_refl _) (Nat.le_trans HLS.out hb.size))
  clear hg
  generalize w3.setCells gm 1 (X.map B8) = w3s at *
  rw [← hX.out] at M
  clear hX hpl
  obtain ⟨m4, hm4⟩ : ∃ x, Hid ({ (zeroM 1) with rnd := pad32 (r2.take 32) } = x) := ⟨_, Lib.hid rfl⟩
  rw [hm4.out] at M
  obtain ⟨r5, hr5⟩ : ∃ x, Hid (r2.drop 32 = x) := ⟨_, Lib.hid rfl⟩
  rw [hr5.out] at C
  obtain ⟨Y, hY⟩ : ∃ Y, Hid ((HelloMath.cnt 1 r5).1 = Y) := ⟨_, Lib.hid rfl⟩
  have hrl := Lib.hid (show r5.length ≤ 200000 by simp only [← hr5.out, ← hr2.out]; simp only [List.length_drop]; have := hr40.out; omega)
  go_upto_region 3 with (go_at_call 48; refine (counted_c B gc r5 1 _ C (Lib.hid (by decide)) hrl).mono ?_; rintro e w6 ⟨v, rfl, hv, Cn, hg⟩; rw [hY.out] at hv; have Mn := M.kept hg HL.out.2.1 HL.out.2.2; replace hv := hv.base (Nat.le_trans HL3.out hb.size); have HV := Lib.hid hv; obtain ⟨Av, cv, rfl, -⟩ := hv; obtain ⟨qv, hqv⟩ : ∃ q, Y.length = q := ⟨_, rfl⟩; rw [hqv] at HV ⊢; have hth := Mn.there 65 (by decide); obtain ⟨xo, hxo⟩ := Option.isSome_iff_exists.1 hth.1; have hfz := hth.2; clear hth)
  clear C
  have C := Cn
  clear Cn
  replace hb := hb.trans (grown_below hg HL.out.1 (Nat.le_trans HLS.out hb.size))
  clear hg M hxo hfz hqv hrl
  have hg := grown_cell w6 gm 65 (.slice Av qv cv)
  have M := Mn.set_ses HV.out
  clear Mn
  replace C := C.other hg HL2.out.1 HL2.out.2
  replace hb := hb.trans (grown_below hg (Nat.le_refl _) (Nat.le_trans HLS.out hb.size))
  clear hg
  generalize w6.setCell ⟨gm, 65, none⟩ (.slice Av qv cv) = w6s at *
  clear HV
  rw [← hY.out] at M
  clear hY Y
  obtain ⟨m7, hm7⟩ : ∃ x, Hid ({ m4 with ses := (HelloMath.cnt 1 r5).1 } = x) := ⟨_, Lib.hid rfl⟩
  rw [hm7.out] at M
  obtain ⟨r8, hr8⟩ : ∃ x, Hid ((HelloMath.cnt 1 r5).2 = x) := ⟨_, Lib.hid rfl⟩
  rw [hr8.out] at C
  go_upto_region 4 with (go_at_call 47; refine (pass_e B gc r8 [0, 2, 19, 1, 1, 0] 6 _ C (Lib.hid rfl) (Lib.hid (by decide))).mono ?_; rintro e w9 ⟨rfl, Cn, hg⟩)
  clear C
  have C := Cn
  clear Cn
  replace hb := hb.trans (grown_below hg HL.out.1 (Nat.le_trans HLS.out hb.size))
  replace M := M.kept hg HL.out.2.1 HL.out.2.2
  clear hg
  obtain ⟨r10, hr10⟩ : ∃ x, Hid (r8.drop 6 = x) := ⟨_, Lib.hid rfl⟩
  rw [hr10.out] at C
  go_upto_region 5 with (go_at_call 42; refine (number_c B gc r10 2 _ C (Lib.hid (by decide))).mono ?_; rintro e w11 ⟨rfl, Cn, hg⟩)
  clear C
  have C := Cn
  clear Cn
  replace hb := hb.trans (grown_below hg HL.out.1 (Nat.le_trans HLS.out hb.size))
  replace M := M.kept hg HL.out.2.1 HL.out.2.2
  clear hg
  obtain ⟨r12, hr12⟩ : ∃ x, Hid (r10.drop 2 = x) := ⟨_, Lib.hid rfl⟩
  rw [hr12.out] at C
  go_upto_region 6 with (go_at_call 47; refine (pass_e B gc r12 [0, 43, 0, 3, 2, 3, 4, 0, 10, 0, 4, 0, 2, 0, 23, 0, 13, 0, 4, 0, 2, 4, 3, 0, 51] 25 _ C (Lib.hid rfl) (Lib.hid (by decide))).mono ?_; rintro e w13 ⟨rfl, Cn, hg⟩)
  clear C
  have C := Cn
  clear Cn
  replace hb := hb.trans (grown_below hg HL.out.1 (Nat.le_trans HLS.out hb.size))
  replace M := M.kept hg HL.out.2.1 HL.out.2.2
  clear hg
  obtain ⟨r14, hr14⟩ : ∃ x, Hid (r12.drop 25 = x) := ⟨_, Lib.hid rfl⟩
  rw [hr14.out] at C
  go_upto_region 7 with (go_at_call 42; refine (number_c B gc r14 2 _ C (Lib.hid (by decide))).mono ?_; rintro e w15 ⟨rfl, Cn, hg⟩)
  clear C
  have C := Cn
  clear Cn
  replace hb := hb.trans (grown_below hg HL.out.1 (Nat.le_trans HLS.out hb.size))
  replace M := M.kept hg HL.out.2.1 HL.out.2.2
  clear hg
  obtain ⟨r16, hr16⟩ : ∃ x, Hid (r14.drop 2 = x) := ⟨_, Lib.hid rfl⟩
  rw [hr16.out] at C
  rw [show getN (((((((HelloMath.cnt 1 ((r.drop 2).drop 32)).2.drop 6).drop 2).drop 25).drop 2)).take 2) = getN (r16.take 2) by simp only [hr2.out, hr5.out, hr8.out, hr10.out, hr12.out, hr14.out, hr16.out]] at hq
  obtain ⟨N, hN⟩ : ∃ N, Hid (getN (r16.take 2) = N) := ⟨_, Lib.hid rfl⟩
  have hN0 : ¬ N = 0 := by rw [← hN.out]; exact hq
  have hgt : (N : Int) > 0 := by omega
  replace hN0 := Lib.hid hN0
  go_upto_region 8 with (go_at_call 42; refine (number_c B gc r16 2 _ C (Lib.hid (by decide))).mono ?_; rintro e w17 ⟨rfl, Cn, hg⟩; rw [hN.out])
  clear C
  have C := Cn
  clear Cn
  replace hb := hb.trans (grown_below hg HL.out.1 (Nat.le_trans HLS.out hb.size))
  replace M := M.kept hg HL.out.2.1 HL.out.2.2
  clear hg
  obtain ⟨r18, hr18⟩ : ∃ x, Hid (r16.drop 2 = x) := ⟨_, Lib.hid rfl⟩
  rw [hr18.out] at C
  go_upto_region 9 with (go_at_call 47; refine (pass_e B gc r18 [0, 23] 2 _ C (Lib.hid rfl) (Lib.hid (by decide))).mono ?_; rintro e w19 ⟨rfl, Cn, hg⟩)
  clear C
  have C := Cn
  clear Cn
  replace hb := hb.trans (grown_below hg HL.out.1 (Nat.le_trans HLS.out hb.size))
  replace M := M.kept hg HL.out.2.1 HL.out.2.2
  clear hg
  obtain ⟨r20, hr20⟩ : ∃ x, Hid (r18.drop 2 = x) := ⟨_, Lib.hid rfl⟩
  rw [hr20.out] at C
  obtain ⟨Y, hY⟩ : ∃ Y, Hid ((HelloMath.cnt 2 r20).1 = Y) := ⟨_, Lib.hid rfl⟩
  have hrl := Lib.hid (show r20.length ≤ 200000 by simp only [← hr20.out, ← hr18.out, ← hr16.out, ← hr14.out, ← hr12.out, ← hr10.out, ← hr8.out, ← hr5.out, ← hr2.out]; simp only [HelloMath.cnt, List.length_drop]; have := hr40.out; omega)
  go_upto_region 10 with (go_at_call 48; refine (counted_c B gc r20 2 _ C (Lib.hid (by decide)) hrl).mono ?_; rintro e w21 ⟨v, rfl, hv, Cn, hg⟩; rw [hY.out] at hv; have Mn := M.kept hg HL.out.2.1 HL.out.2.2; replace hv := hv.base (Nat.le_trans HL3.out hb.size); have HV := Lib.hid hv; obtain ⟨Av, cv, rfl, -⟩ := hv; obtain ⟨qv, hqv⟩ : ∃ q, Y.length = q := ⟨_, rfl⟩; rw [hqv] at HV ⊢; have hth := Mn.there 66 (by decide); obtain ⟨xo, hxo⟩ := Option.isSome_iff_exists.1 hth.1; have hfz := hth.2; clear hth)
  clear C
  have C := Cn
  clear Cn
  replace hb := hb.trans (grown_below hg HL.out.1 (Nat.le_trans HLS.out hb.size))
  clear hg M hxo hfz hqv hrl
  have hg := grown_cell w21 gm 66 (.slice Av qv cv)
  have M := Mn.set_sha HV.out
  clear Mn
  replace C := C.other hg HL2.out.1 HL2.out.2
  replace hb := hb.trans (grown_below hg (Nat.le_refl _) (Nat.le_trans HLS.out hb.size))
  clear hg
  generalize w21.setCell ⟨gm, 66, none⟩ (.slice Av qv cv) = w21s at *
  clear HV
  rw [← hY.out] at M
  clear hY Y
  obtain ⟨m22, hm22⟩ : ∃ x, Hid ({ m7 with sha := (HelloMath.cnt 2 r20).1 } = x) := ⟨_, Lib.hid rfl⟩
  rw [hm22.out] at M
  obtain ⟨r23, hr23⟩ : ∃ x, Hid ((HelloMath.cnt 2 r20).2 = x) := ⟨_, Lib.hid rfl⟩
  rw [hr23.out] at C
  have hl2 : (r23 = []) = (decide (afterShare r = []) = true) := by
    unfold afterShare
    rw [if_neg (by simp only [hr2.out, hr5.out, hr8.out, hr10.out, hr12.out, hr14.out, hr16.out]; exact hq)]
    simp only [hr2.out, hr5.out, hr8.out, hr10.out, hr12.out, hr14.out, hr16.out, hr18.out, hr20.out, hr23.out, decide_eq_true_eq]
  have hl3 : r23 = [] := by rw [hl2]; exact hl
  replace hl2 := Lib.hid hl2
  obtain ⟨vr, hcr, hsr⟩ := C.rest
  obtain ⟨Ar, cr, rfl, -⟩ := hsr
  obtain ⟨lr, hlr⟩ : ∃ l, r23.length = l := ⟨_, rfl⟩
  rw [hlr] at hcr
  obtain rfl : lr = 0 := by rw [← hlr, hl3]; rfl
  clear hlr
  replace hl3 := Lib.hid hl3
  go_wp2
  refine bodyPost_ret (results_none rfl _ _ _) rfl ?_
  have e : m22 = saidClient r := by
    unfold saidClient cl3 cl4 cl5 cl7
    rw [← hm22.out, ← hm7.out, ← hm4.out]
    dsimp only
    simp only [hr2.out, hr5.out, hr8.out, hr10.out, hr12.out, hr14.out, hr16.out, hr18.out, hr20.out, hr23.out, hN.out, hN0.out, if_false, if_pos hl3.out]
    try rfl
  rw [← e]
  exact ⟨rfl, M, hb⟩
set_option maxRecDepth 100000 in
set_option maxHeartbeats 4000000 in
theorem client_11 (B gc gm D : Nat) (r : List UInt8) (w : World) (C : CAt w B gc r) (M : MW w D gm (zeroM 1)) (hgc : gm < gc ∧ gc < D ∧ B ≤ gm ∧ D ≤ w.heap.size) (hr40 : Hid (r.length ≤ 200000)) (hq : ¬ getN (((((((HelloMath.cnt 1 ((r.drop 2).drop 32)).2.drop 6).drop 2).drop 25).drop 2)).take 2) = 0) (hl : decide (afterShare r = []) = false) : Calls Tryd.prog 43 #[.pointer (some ⟨gc, 0, none⟩), .pointer (some ⟨gm, 0, none⟩)] w fun e w' => e = .returned (.tuple #[]) ∧ MW w' D gm (saidClient r) ∧ Below gm w w' := by
  go_enter Tryd.func43, Tryd.ntmps43
  go_upto_region 0 with (fail)
  have HL := Lib.hid (show gm ≤ gc ∧ gc < D ∧ gm ≠ gc from ⟨Nat.le_of_lt hgc.1, hgc.2.1, Nat.ne_of_lt hgc.1⟩)
  have HL2 := Lib.hid (show B ≤ gm ∧ gc ≠ gm from ⟨hgc.2.2.1, (Nat.ne_of_lt hgc.1).symm⟩)
  have HL3 := Lib.hid hgc.2.2.2
  have HLS := Lib.hid (Nat.le_of_lt M.lt)
  clear hgc
  have hb : Below gm w w := Below.refl _ _
  go_upto_region 1 with (go_at_call 47; refine (pass_e B gc r [3, 3] 2 _ C (Lib.hid rfl) (Lib.hid (by decide))).mono ?_; rintro e w1 ⟨rfl, Cn, hg⟩)
  clear C
  have C := Cn
  clear Cn
  replace hb := hb.trans (grown_below hg HL.out.1 (Nat.le_trans HLS.out hb.size))
  replace M := M.kept hg HL.out.2.1 HL.out.2.2
  clear hg
  obtain ⟨r2, hr2⟩ : ∃ x, Hid (r.drop 2 = x) := ⟨_, Lib.hid rfl⟩
  rw [hr2.out] at C
  have hpl : ((pad32 (r2.take 32))).length = 32 := HelloMath.pad_32 r2
  obtain ⟨X, hX⟩ : ∃ X, Hid ((pad32 (r2.take 32)) = X) := ⟨_, Lib.hid rfl⟩
  rw [hX.out] at hpl
  go_upto_region 2 with (first
    | (go_at_call 49; refine (sum_c B gc r2 _ C).mono ?_; rintro e w3 ⟨rfl, Cn, hg⟩; rw [hX.out]; have Mn := M.kept hg HL.out.2.1 HL.out.2.2)
    | ((with_reducible refine (?_ : wpList _ _ _ (Oper.mk none _ _ _ _ _ :: _) _ _)); go_loud (refine wpList_store_mid rfl 22 (.tmp 10) (.tmp 8) rfl gm 1 (X.map B8).toArray rfl rfl (fun j hj => by have hj' : j < 32 := (by simpa [hpl] using hj); exact Mn.there (1 + j) (by omega)) (info40.trans (by simp [hpl])) (one8 _) ?_)))
  clear C
  have C := Cn
  clear Cn
  replace hb := hb.trans (grown_below hg HL.out.1 (Nat.le_trans HLS.out hb.size))
  clear hg M
  have hg := grown_setCells w3 gm 1 (X.map B8)
  have M := Mn.set_rnd hpl
  clear Mn
  replace C := C.other hg HL2.out.1 HL2.out.2
  replace hb := hb.trans (grown_below hg (Nat.le_refl _) (Nat.le_trans HLS.out hb.size))
  clear hg
  generalize w3.setCells gm 1 (X.map B8) = w3s at *
  rw [← hX.out] at M
  clear hX hpl
  obtain ⟨m4, hm4⟩ : ∃ x, Hid ({ (zeroM 1) with rnd := pad32 (r2.take 32) } = x) := ⟨_, Lib.hid rfl⟩
  rw [hm4.out] at M
  obtain ⟨r5, hr5⟩ : ∃ x, Hid (r2.drop 32 = x) := ⟨_, Lib.hid rfl⟩
  rw [hr5.out] at C
  obtain ⟨Y, hY⟩ : ∃ Y, Hid ((HelloMath.cnt 1 r5).1 = Y) := ⟨_, Lib.hid rfl⟩
  have hrl := Lib.hid (show r5.length ≤ 200000 by simp only [← hr5.out, ← hr2.out]; simp only [List.length_drop]; have := hr40.out; omega)
  go_upto_region 3 with (go_at_call 48; refine (counted_c B gc r5 1 _ C (Lib.hid (by decide)) hrl).mono ?_; rintro e w6 ⟨v, rfl, hv, Cn, hg⟩; rw [hY.out] at hv; have Mn := M.kept hg HL.out.2.1 HL.out.2.2; replace hv := hv.base (Nat.le_trans HL3.out hb.size); have HV := Lib.hid hv; obtain ⟨Av, cv, rfl, -⟩ := hv; obtain ⟨qv, hqv⟩ : ∃ q, Y.length = q := ⟨_, rfl⟩; rw [hqv] at HV ⊢; have hth := Mn.there 65 (by decide); obtain ⟨xo, hxo⟩ := Option.isSome_iff_exists.1 hth.1; have hfz := hth.2; clear hth)
  clear C
  have C := Cn
  clear Cn
  replace hb := hb.trans (grown_below hg HL.out.1 (Nat.le_trans HLS.out hb.size))
  clear hg M hxo hfz hqv hrl
  have hg := grown_cell w6 gm 65 (.slice Av qv cv)
  have M := Mn.set_ses HV.out
  clear Mn
  replace C := C.other hg HL2.out.1 HL2.out.2
  replace hb := hb.trans (grown_below hg (Nat.le_refl _) (Nat.le_trans HLS.out hb.size))
  clear hg
  generalize w6.setCell ⟨gm, 65, none⟩ (.slice Av qv cv) = w6s at *
  clear HV
  rw [← hY.out] at M
  clear hY Y
  obtain ⟨m7, hm7⟩ : ∃ x, Hid ({ m4 with ses := (HelloMath.cnt 1 r5).1 } = x) := ⟨_, Lib.hid rfl⟩
  rw [hm7.out] at M
  obtain ⟨r8, hr8⟩ : ∃ x, Hid ((HelloMath.cnt 1 r5).2 = x) := ⟨_, Lib.hid rfl⟩
  rw [hr8.out] at C
  go_upto_region 4 with (go_at_call 47; refine (pass_e B gc r8 [0, 2, 19, 1, 1, 0] 6 _ C (Lib.hid rfl) (Lib.hid (by decide))).mono ?_; rintro e w9 ⟨rfl, Cn, hg⟩)
  clear C
  have C := Cn
  clear Cn
  replace hb := hb.trans (grown_below hg HL.out.1 (Nat.le_trans HLS.out hb.size))
  replace M := M.kept hg HL.out.2.1 HL.out.2.2
  clear hg
  obtain ⟨r10, hr10⟩ : ∃ x, Hid (r8.drop 6 = x) := ⟨_, Lib.hid rfl⟩
  rw [hr10.out] at C
  go_upto_region 5 with (go_at_call 42; refine (number_c B gc r10 2 _ C (Lib.hid (by decide))).mono ?_; rintro e w11 ⟨rfl, Cn, hg⟩)
  clear C
  have C := Cn
  clear Cn
  replace hb := hb.trans (grown_below hg HL.out.1 (Nat.le_trans HLS.out hb.size))
  replace M := M.kept hg HL.out.2.1 HL.out.2.2
  clear hg
  obtain ⟨r12, hr12⟩ : ∃ x, Hid (r10.drop 2 = x) := ⟨_, Lib.hid rfl⟩
  rw [hr12.out] at C
  go_upto_region 6 with (go_at_call 47; refine (pass_e B gc r12 [0, 43, 0, 3, 2, 3, 4, 0, 10, 0, 4, 0, 2, 0, 23, 0, 13, 0, 4, 0, 2, 4, 3, 0, 51] 25 _ C (Lib.hid rfl) (Lib.hid (by decide))).mono ?_; rintro e w13 ⟨rfl, Cn, hg⟩)
  clear C
  have C := Cn
  clear Cn
  replace hb := hb.trans (grown_below hg HL.out.1 (Nat.le_trans HLS.out hb.size))
  replace M := M.kept hg HL.out.2.1 HL.out.2.2
  clear hg
  obtain ⟨r14, hr14⟩ : ∃ x, Hid (r12.drop 25 = x) := ⟨_, Lib.hid rfl⟩
  rw [hr14.out] at C
  go_upto_region 7 with (go_at_call 42; refine (number_c B gc r14 2 _ C (Lib.hid (by decide))).mono ?_; rintro e w15 ⟨rfl, Cn, hg⟩)
  clear C
  have C := Cn
  clear Cn
  replace hb := hb.trans (grown_below hg HL.out.1 (Nat.le_trans HLS.out hb.size))
  replace M := M.kept hg HL.out.2.1 HL.out.2.2
  clear hg
  obtain ⟨r16, hr16⟩ : ∃ x, Hid (r14.drop 2 = x) := ⟨_, Lib.hid rfl⟩
  rw [hr16.out] at C
  rw [show getN (((((((HelloMath.cnt 1 ((r.drop 2).drop 32)).2.drop 6).drop 2).drop 25).drop 2)).take 2) = getN (r16.take 2) by simp only [hr2.out, hr5.out, hr8.out, hr10.out, hr12.out, hr14.out, hr16.out]] at hq
  obtain ⟨N, hN⟩ : ∃ N, Hid (getN (r16.take 2) = N) := ⟨_, Lib.hid rfl⟩
  have hN0 : ¬ N = 0 := by rw [← hN.out]; exact hq
  have hgt : (N : Int) > 0 := by omega
  replace hN0 := Lib.hid hN0
  go_upto_region 8 with (go_at_call 42; refine (number_c B gc r16 2 _ C (Lib.hid (by decide))).mono ?_; rintro e w17 ⟨rfl, Cn, hg⟩; rw [hN.out])
  clear C
  have C := Cn
  clear Cn
  replace hb := hb.trans (grown_below hg HL.out.1 (Nat.le_trans HLS.out hb.size))
  replace M := M.kept hg HL.out.2.1 HL.out.2.2
  clear hg
  obtain ⟨r18, hr18⟩ : ∃ x, Hid (r16.drop 2 = x) := ⟨_, Lib.hid rfl⟩
  rw [hr18.out] at C
  go_upto_region 9 with (go_at_call 47; refine (pass_e B gc r18 [0, 23] 2 _ C (Lib.hid rfl) (Lib.hid (by decide))).mono ?_; rintro e w19 ⟨rfl, Cn, hg⟩)
  clear C
  have C := Cn
  clear Cn
  replace hb := hb.trans (grown_below hg HL.out.1 (Nat.le_trans HLS.out hb.size))
  replace M := M.kept hg HL.out.2.1 HL.out.2.2
  clear hg
  obtain ⟨r20, hr20⟩ : ∃ x, Hid (r18.drop 2 = x) := ⟨_, Lib.hid rfl⟩
  rw [hr20.out] at C
  obtain ⟨Y, hY⟩ : ∃ Y, Hid ((HelloMath.cnt 2 r20).1 = Y) := ⟨_, Lib.hid rfl⟩
  have hrl := Lib.hid (show r20.length ≤ 200000 by simp only [← hr20.out, ← hr18.out, ← hr16.out, ← hr14.out, ← hr12.out, ← hr10.out, ← hr8.out, ← hr5.out, ← hr2.out]; simp only [HelloMath.cnt, List.length_drop]; have := hr40.out; omega)
  go_upto_region 10 with (go_at_call 48; refine (counted_c B gc r20 2 _ C (Lib.hid (by decide)) hrl).mono ?_; rintro e w21 ⟨v, rfl, hv, Cn, hg⟩; rw [hY.out] at hv; have Mn := M.kept hg HL.out.2.1 HL.out.2.2; replace hv := hv.base (Nat.le_trans HL3.out hb.size); have HV := Lib.hid hv; obtain ⟨Av, cv, rfl, -⟩ := hv; obtain ⟨qv, hqv⟩ : ∃ q, Y.length = q := ⟨_, rfl⟩; rw [hqv] at HV ⊢; have hth := Mn.there 66 (by decide); obtain ⟨xo, hxo⟩ := Option.isSome_iff_exists.1 hth.1; have hfz := hth.2; clear hth)
  clear C
  have C := Cn
  clear Cn
  replace hb := hb.trans (grown_below hg HL.out.1 (Nat.le_trans HLS.out hb.size))
  clear hg M hxo hfz hqv hrl
  have hg := grown_cell w21 gm 66 (.slice Av qv cv)
  have M := Mn.set_sha HV.out
  clear Mn
  replace C := C.other hg HL2.out.1 HL2.out.2
  replace hb := hb.trans (grown_below hg (Nat.le_refl _) (Nat.le_trans HLS.out hb.size))
  clear hg
  generalize w21.setCell ⟨gm, 66, none⟩ (.slice Av qv cv) = w21s at *
  clear HV
  rw [← hY.out] at M
  clear hY Y
  obtain ⟨m22, hm22⟩ : ∃ x, Hid ({ m7 with sha := (HelloMath.cnt 2 r20).1 } = x) := ⟨_, Lib.hid rfl⟩
  rw [hm22.out] at M
  obtain ⟨r23, hr23⟩ : ∃ x, Hid ((HelloMath.cnt 2 r20).2 = x) := ⟨_, Lib.hid rfl⟩
  rw [hr23.out] at C
  have hl2 : (r23 = []) = (decide (afterShare r = []) = true) := by
    unfold afterShare
    rw [if_neg (by simp only [hr2.out, hr5.out, hr8.out, hr10.out, hr12.out, hr14.out, hr16.out]; exact hq)]
    simp only [hr2.out, hr5.out, hr8.out, hr10.out, hr12.out, hr14.out, hr16.out, hr18.out, hr20.out, hr23.out, decide_eq_true_eq]
  have hl3 : ¬ r23 = [] := by rw [hl2, hl]; simp
  replace hl2 := Lib.hid hl2
  obtain ⟨vr, hcr, hsr⟩ := C.rest
  obtain ⟨Ar, cr, rfl, -⟩ := hsr
  obtain ⟨lr, hlr⟩ : ∃ l, r23.length = l := ⟨_, rfl⟩
  rw [hlr] at hcr
  have hlr0 : ((lr : Int) == 0) = false := by rw [beq_eq_false_iff_ne]; intro e; exact hl3 (List.eq_nil_of_length_eq_zero (by omega))
  clear hlr
  replace hl3 := Lib.hid hl3
  have hth := M.there 73 (by decide)
  obtain ⟨xo, hxo⟩ := Option.isSome_iff_exists.1 hth.1
  have hfz := hth.2
  clear hth
  go_upto_region 12 with (fail)
  clear hxo hfz hcr hlr0
  have hg := grown_cell w21s gm 73 (.bool true)
  replace M := M.set_psk true
  replace C := C.other hg HL2.out.1 HL2.out.2
  replace hb := hb.trans (grown_below hg (Nat.le_refl _) (Nat.le_trans HLS.out hb.size))
  clear hg
  generalize w21s.setCell ⟨gm, 73, none⟩ (.bool true) = wp at *
  obtain ⟨m24, hm24⟩ : ∃ x, Hid ({ m22 with psk := true } = x) := ⟨_, Lib.hid rfl⟩
  rw [hm24.out] at M
  go_upto_region 13 with (go_at_call 47; refine (pass_e B gc r23 [0, 45, 0, 2, 1, 1, 0, 41] 8 _ C (Lib.hid rfl) (Lib.hid (by decide))).mono ?_; rintro e w25 ⟨rfl, Cn, hg⟩)
  clear C
  have C := Cn
  clear Cn
  replace hb := hb.trans (grown_below hg HL.out.1 (Nat.le_trans HLS.out hb.size))
  replace M := M.kept hg HL.out.2.1 HL.out.2.2
  clear hg
  obtain ⟨r26, hr26⟩ : ∃ x, Hid (r23.drop 8 = x) := ⟨_, Lib.hid rfl⟩
  rw [hr26.out] at C
  go_upto_region 14 with (go_at_call 42; refine (number_c B gc r26 2 _ C (Lib.hid (by decide))).mono ?_; rintro e w27 ⟨rfl, Cn, hg⟩)
  clear C
  have C := Cn
  clear Cn
  replace hb := hb.trans (grown_below hg HL.out.1 (Nat.le_trans HLS.out hb.size))
  replace M := M.kept hg HL.out.2.1 HL.out.2.2
  clear hg
  obtain ⟨r28, hr28⟩ : ∃ x, Hid (r26.drop 2 = x) := ⟨_, Lib.hid rfl⟩
  rw [hr28.out] at C
  go_upto_region 15 with (go_at_call 42; refine (number_c B gc r28 2 _ C (Lib.hid (by decide))).mono ?_; rintro e w29 ⟨rfl, Cn, hg⟩)
  clear C
  have C := Cn
  clear Cn
  replace hb := hb.trans (grown_below hg HL.out.1 (Nat.le_trans HLS.out hb.size))
  replace M := M.kept hg HL.out.2.1 HL.out.2.2
  clear hg
  obtain ⟨r30, hr30⟩ : ∃ x, Hid (r28.drop 2 = x) := ⟨_, Lib.hid rfl⟩
  rw [hr30.out] at C
  obtain ⟨Y, hY⟩ : ∃ Y, Hid ((HelloMath.cnt 2 r30).1 = Y) := ⟨_, Lib.hid rfl⟩
  have hrl := Lib.hid (show r30.length ≤ 200000 by simp only [← hr30.out, ← hr28.out, ← hr26.out, ← hr23.out, ← hr20.out, ← hr18.out, ← hr16.out, ← hr14.out, ← hr12.out, ← hr10.out, ← hr8.out, ← hr5.out, ← hr2.out]; simp only [HelloMath.cnt, List.length_drop]; have := hr40.out; omega)
  go_upto_region 16 with (go_at_call 48; refine (counted_c B gc r30 2 _ C (Lib.hid (by decide)) hrl).mono ?_; rintro e w31 ⟨v, rfl, hv, Cn, hg⟩; rw [hY.out] at hv; have Mn := M.kept hg HL.out.2.1 HL.out.2.2; replace hv := hv.base (Nat.le_trans HL3.out hb.size); have HV := Lib.hid hv; obtain ⟨Av, cv, rfl, -⟩ := hv; obtain ⟨qv, hqv⟩ : ∃ q, Y.length = q := ⟨_, rfl⟩; rw [hqv] at HV ⊢; have hth := Mn.there 67 (by decide); obtain ⟨xo, hxo⟩ := Option.isSome_iff_exists.1 hth.1; have hfz := hth.2; clear hth)
  clear C
  have C := Cn
  clear Cn
  replace hb := hb.trans (grown_below hg HL.out.1 (Nat.le_trans HLS.out hb.size))
  clear hg M hxo hfz hqv hrl
  have hg := grown_cell w31 gm 67 (.slice Av qv cv)
  have M := Mn.set_tic HV.out
  clear Mn
  replace C := C.other hg HL2.out.1 HL2.out.2
  replace hb := hb.trans (grown_below hg (Nat.le_refl _) (Nat.le_trans HLS.out hb.size))
  clear hg
  generalize w31.setCell ⟨gm, 67, none⟩ (.slice Av qv cv) = w31s at *
  clear HV
  rw [← hY.out] at M
  clear hY Y
  obtain ⟨m32, hm32⟩ : ∃ x, Hid ({ m24 with tic := (HelloMath.cnt 2 r30).1 } = x) := ⟨_, Lib.hid rfl⟩
  rw [hm32.out] at M
  obtain ⟨r33, hr33⟩ : ∃ x, Hid ((HelloMath.cnt 2 r30).2 = x) := ⟨_, Lib.hid rfl⟩
  rw [hr33.out] at C
  obtain ⟨N, hN⟩ : ∃ N, Hid (getN (r33.take 4) = N) := ⟨_, Lib.hid rfl⟩
  go_upto_region 17 with (go_at_call 42; refine (number_c B gc r33 4 _ C (Lib.hid (by decide))).mono ?_; rintro e w34 ⟨rfl, Cn, hg⟩; rw [hN.out]; have Mn := M.kept hg HL.out.2.1 HL.out.2.2; have hth := Mn.there 72 (by decide); obtain ⟨xo, hxo⟩ := Option.isSome_iff_exists.1 hth.1; have hfz := hth.2; clear hth)
  clear C
  have C := Cn
  clear Cn
  replace hb := hb.trans (grown_below hg HL.out.1 (Nat.le_trans HLS.out hb.size))
  clear hg M hxo hfz
  have hg := grown_cell w34 gm 72 (.int .i64 (N : Int))
  have M := Mn.set_age (N : Int)
  clear Mn
  replace C := C.other hg HL2.out.1 HL2.out.2
  replace hb := hb.trans (grown_below hg (Nat.le_refl _) (Nat.le_trans HLS.out hb.size))
  clear hg
  generalize w34.setCell ⟨gm, 72, none⟩ (.int .i64 (N : Int)) = w34s at *
  rw [← hN.out] at M
  clear hN
  obtain ⟨m35, hm35⟩ : ∃ x, Hid ({ m32 with age := ((getN (r33.take 4) : Nat) : Int) } = x) := ⟨_, Lib.hid rfl⟩
  rw [hm35.out] at M
  obtain ⟨r36, hr36⟩ : ∃ x, Hid (r33.drop 4 = x) := ⟨_, Lib.hid rfl⟩
  rw [hr36.out] at C
  go_upto_region 18 with (go_at_call 47; refine (pass_e B gc r36 [0, 33, 32] 3 _ C (Lib.hid rfl) (Lib.hid (by decide))).mono ?_; rintro e w37 ⟨rfl, Cn, hg⟩)
  clear C
  have C := Cn
  clear Cn
  replace hb := hb.trans (grown_below hg HL.out.1 (Nat.le_trans HLS.out hb.size))
  replace M := M.kept hg HL.out.2.1 HL.out.2.2
  clear hg
  obtain ⟨r38, hr38⟩ : ∃ x, Hid (r36.drop 3 = x) := ⟨_, Lib.hid rfl⟩
  rw [hr38.out] at C
  have hpl : ((pad32 (r38.take 32))).length = 32 := HelloMath.pad_32 r38
  obtain ⟨X, hX⟩ : ∃ X, Hid ((pad32 (r38.take 32)) = X) := ⟨_, Lib.hid rfl⟩
  rw [hX.out] at hpl
  go_wp2_with (first
    | (go_at_call 49; refine (sum_c B gc r38 _ C).mono ?_; rintro e w39 ⟨rfl, Cn, hg⟩; rw [hX.out]; have Mn := M.kept hg HL.out.2.1 HL.out.2.2)
    | ((with_reducible refine (?_ : wpList _ _ _ (Oper.mk none _ _ _ _ _ :: _) _ _)); go_loud (refine wpList_store_mid rfl 22 (.tmp 65) (.tmp 63) rfl gm 33 (X.map B8).toArray rfl rfl (fun j hj => by have hj' : j < 32 := (by simpa [hpl] using hj); exact Mn.there (33 + j) (by omega)) (info40.trans (by simp [hpl])) (one8 _) ?_)))
  clear C
  have C := Cn
  clear Cn
  replace hb := hb.trans (grown_below hg HL.out.1 (Nat.le_trans HLS.out hb.size))
  clear hg M
  have hg := grown_setCells w39 gm 33 (X.map B8)
  have M := Mn.set_mark hpl
  clear Mn
  replace C := C.other hg HL2.out.1 HL2.out.2
  replace hb := hb.trans (grown_below hg (Nat.le_refl _) (Nat.le_trans HLS.out hb.size))
  clear hg
  generalize w39.setCells gm 33 (X.map B8) = w39s at *
  rw [← hX.out] at M
  clear hX hpl
  obtain ⟨m40, hm40⟩ : ∃ x, Hid ({ m35 with mark := pad32 (r38.take 32) } = x) := ⟨_, Lib.hid rfl⟩
  rw [hm40.out] at M
  obtain ⟨r41, hr41⟩ : ∃ x, Hid (r38.drop 32 = x) := ⟨_, Lib.hid rfl⟩
  rw [hr41.out] at C
  go_end0
  have e : m40 = saidClient r := by
    unfold saidClient cl3 cl4 cl5 cl7
    rw [← hm40.out, ← hm35.out, ← hm32.out, ← hm24.out, ← hm22.out, ← hm7.out, ← hm4.out]
    dsimp only
    simp only [hr2.out, hr5.out, hr8.out, hr10.out, hr12.out, hr14.out, hr16.out, hr18.out, hr20.out, hr23.out, hr26.out, hr28.out, hr30.out, hr33.out, hr36.out, hr38.out, hN.out, hN0.out, if_false, if_neg hl3.out]
    try rfl
  rw [← e]
  exact ⟨rfl, M, hb⟩
end Go.Proofs.YtagblbfbjemfhaaDoor
