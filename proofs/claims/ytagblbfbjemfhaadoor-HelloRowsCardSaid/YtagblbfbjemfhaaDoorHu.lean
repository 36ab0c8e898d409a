/-
  Package hello's cursor: ticket and client: what they read.
-/
import Derived.Test.YtagblbfbjemfhaaDoorHt
namespace Go.Proofs.YtagblbfbjemfhaaDoor
open Go.RowKit
open HelloMath (numB numB_length vecB vecB_length Msg getN getN_snoc pad32 zero32 zeroM saidTicket saidClient saidServer cl3 cl4 cl5 cl7 sv3)

set_option maxRecDepth 100000 in
set_option maxHeartbeats 2000000 in
theorem ticket_c (B gc gm D : Nat) (r : List UInt8) (w : World) (C : CAt w B gc r) (M : MW w D gm (zeroM 4)) (hgc : gm < gc ∧ gc < D ∧ B ≤ gm ∧ D ≤ w.heap.size) (hr40 : Hid (r.length ≤ 200000)) : Calls Tryd.prog 45 #[.pointer (some ⟨gc, 0, none⟩), .pointer (some ⟨gm, 0, none⟩)] w fun e w' => e = .returned (.tuple #[]) ∧ MW w' D gm (saidTicket r) ∧ Below gm w w' := by
  go_enter Tryd.func45, Tryd.ntmps45
  go_upto_region 0 with (fail)
  have HL := Lib.hid (show gm ≤ gc ∧ gc < D ∧ gm ≠ gc from ⟨Nat.le_of_lt hgc.1, hgc.2.1, Nat.ne_of_lt hgc.1⟩)
  have HL2 := Lib.hid (show B ≤ gm ∧ gc ≠ gm from ⟨hgc.2.2.1, (Nat.ne_of_lt hgc.1).symm⟩)
  have HL3 := Lib.hid hgc.2.2.2
  have HLS := Lib.hid (Nat.le_of_lt M.lt)
  clear hgc
  have hb : Below gm w w := Below.refl _ _
  obtain ⟨N, hN⟩ : ∃ N, Hid (getN (r.take 4) = N) := ⟨_, Lib.hid rfl⟩
  go_upto_region 1 with (go_at_call 42; refine (number_c B gc r 4 _ C (Lib.hid (by decide))).mono ?_; rintro e w1 ⟨rfl, Cn, hg⟩; rw [hN.out]; have Mn := M.kept hg HL.out.2.1 HL.out.2.2; have hth := Mn.there 71 (by decide); obtain ⟨xo, hxo⟩ := Option.isSome_iff_exists.1 hth.1; have hfz := hth.2; clear hth)
  clear C
  have C := Cn
  clear Cn
  replace hb := hb.trans (grown_below hg HL.out.1 (Nat.le_trans HLS.out hb.size))
  clear hg M hxo hfz
  have hg := grown_cell w1 gm 71 (.int .i64 (N : Int))
  have M := Mn.set_life (N : Int)
  clear Mn
  replace C := C.other hg HL2.out.1 HL2.out.2
  replace hb := hb.trans (grown_below hg (Nat.le_refl _) (Nat.le_trans HLS.out hb.size))
  clear hg
  generalize w1.setCell ⟨gm, 71, none⟩ (.int .i64 (N : Int)) = w1s at *
  rw [← hN.out] at M
  clear hN
  obtain ⟨m2, hm2⟩ : ∃ x, Hid ({ (zeroM 4) with life := ((getN (r.take 4) : Nat) : Int) } = x) := ⟨_, Lib.hid rfl⟩
  rw [hm2.out] at M
  obtain ⟨r3, hr3⟩ : ∃ x, Hid (r.drop 4 = x) := ⟨_, Lib.hid rfl⟩
  rw [hr3.out] at C
  obtain ⟨N, hN⟩ : ∃ N, Hid (getN (r3.take 4) = N) := ⟨_, Lib.hid rfl⟩
  go_upto_region 2 with (go_at_call 42; refine (number_c B gc r3 4 _ C (Lib.hid (by decide))).mono ?_; rintro e w4 ⟨rfl, Cn, hg⟩; rw [hN.out]; have Mn := M.kept hg HL.out.2.1 HL.out.2.2; have hth := Mn.there 72 (by decide); obtain ⟨xo, hxo⟩ := Option.isSome_iff_exists.1 hth.1; have hfz := hth.2; clear hth)
  clear C
  have C := Cn
  clear Cn
  replace hb := hb.trans (grown_below hg HL.out.1 (Nat.le_trans HLS.out hb.size))
  clear hg M hxo hfz
  have hg := grown_cell w4 gm 72 (.int .i64 (N : Int))
  have M := Mn.set_age (N : Int)
  clear Mn
  replace C := C.other hg HL2.out.1 HL2.out.2
  replace hb := hb.trans (grown_below hg (Nat.le_refl _) (Nat.le_trans HLS.out hb.size))
  clear hg
  generalize w4.setCell ⟨gm, 72, none⟩ (.int .i64 (N : Int)) = w4s at *
  rw [← hN.out] at M
  clear hN
  obtain ⟨m5, hm5⟩ : ∃ x, Hid ({ m2 with age := ((getN (r3.take 4) : Nat) : Int) } = x) := ⟨_, Lib.hid rfl⟩
  rw [hm5.out] at M
  obtain ⟨r6, hr6⟩ : ∃ x, Hid (r3.drop 4 = x) := ⟨_, Lib.hid rfl⟩
  rw [hr6.out] at C
  obtain ⟨Y, hY⟩ : ∃ Y, Hid ((HelloMath.cnt 1 r6).1 = Y) := ⟨_, Lib.hid rfl⟩
  have hrl := Lib.hid (show r6.length ≤ 200000 by simp only [← hr6.out, ← hr3.out]; simp only [List.length_drop]; have := hr40.out; omega)
  go_upto_region 3 with (go_at_call 48; refine (counted_c B gc r6 1 _ C (Lib.hid (by decide)) hrl).mono ?_; rintro e w7 ⟨v, rfl, hv, Cn, hg⟩; rw [hY.out] at hv; have Mn := M.kept hg HL.out.2.1 HL.out.2.2; replace hv := hv.base (Nat.le_trans HL3.out hb.size); have HV := Lib.hid hv; obtain ⟨Av, cv, rfl, -⟩ := hv; obtain ⟨qv, hqv⟩ : ∃ q, Y.length = q := ⟨_, rfl⟩; rw [hqv] at HV ⊢; have hth := Mn.there 68 (by decide); obtain ⟨xo, hxo⟩ := Option.isSome_iff_exists.1 hth.1; have hfz := hth.2; clear hth)
  clear C
  have C := Cn
  clear Cn
  replace hb := hb.trans (grown_below hg HL.out.1 (Nat.le_trans HLS.out hb.size))
  clear hg M hxo hfz hqv hrl
  have hg := grown_cell w7 gm 68 (.slice Av qv cv)
  have M := Mn.set_non HV.out
  clear Mn
  replace C := C.other hg HL2.out.1 HL2.out.2
  replace hb := hb.trans (grown_below hg (Nat.le_refl _) (Nat.le_trans HLS.out hb.size))
  clear hg
  generalize w7.setCell ⟨gm, 68, none⟩ (.slice Av qv cv) = w7s at *
  clear HV
  rw [← hY.out] at M
  clear hY Y
  obtain ⟨m8, hm8⟩ : ∃ x, Hid ({ m5 with non := (HelloMath.cnt 1 r6).1 } = x) := ⟨_, Lib.hid rfl⟩
  rw [hm8.out] at M
  obtain ⟨r9, hr9⟩ : ∃ x, Hid ((HelloMath.cnt 1 r6).2 = x) := ⟨_, Lib.hid rfl⟩
  rw [hr9.out] at C
  obtain ⟨Y, hY⟩ : ∃ Y, Hid ((HelloMath.cnt 2 r9).1 = Y) := ⟨_, Lib.hid rfl⟩
  have hrl := Lib.hid (show r9.length ≤ 200000 by simp only [← hr9.out, ← hr6.out, ← hr3.out]; simp only [HelloMath.cnt, List.length_drop]; have := hr40.out; omega)
  go_wp2_with (go_at_call 48; refine (counted_c B gc r9 2 _ C (Lib.hid (by decide)) hrl).mono ?_; rintro e w10 ⟨v, rfl, hv, Cn, hg⟩; rw [hY.out] at hv; have Mn := M.kept hg HL.out.2.1 HL.out.2.2; replace hv := hv.base (Nat.le_trans HL3.out hb.size); have HV := Lib.hid hv; obtain ⟨Av, cv, rfl, -⟩ := hv; obtain ⟨qv, hqv⟩ : ∃ q, Y.length = q := ⟨_, rfl⟩; rw [hqv] at HV ⊢; have hth := Mn.there 67 (by decide); obtain ⟨xo, hxo⟩ := Option.isSome_iff_exists.1 hth.1; have hfz := hth.2; clear hth)
  clear C
  have C := Cn
  clear Cn
  replace hb := hb.trans (grown_below hg HL.out.1 (Nat.le_trans HLS.out hb.size))
  clear hg M hxo hfz hqv hrl
  have hg := grown_cell w10 gm 67 (.slice Av qv cv)
  have M := Mn.set_tic HV.out
  clear Mn
  replace C := C.other hg HL2.out.1 HL2.out.2
  replace hb := hb.trans (grown_below hg (Nat.le_refl _) (Nat.le_trans HLS.out hb.size))
  clear hg
  generalize w10.setCell ⟨gm, 67, none⟩ (.slice Av qv cv) = w10s at *
  clear HV
  rw [← hY.out] at M
  clear hY Y
  obtain ⟨m11, hm11⟩ : ∃ x, Hid ({ m8 with tic := (HelloMath.cnt 2 r9).1 } = x) := ⟨_, Lib.hid rfl⟩
  rw [hm11.out] at M
  obtain ⟨r12, hr12⟩ : ∃ x, Hid ((HelloMath.cnt 2 r9).2 = x) := ⟨_, Lib.hid rfl⟩
  rw [hr12.out] at C
  go_end0
  have e : m11 = saidTicket r := by
    rw [← hm11.out, ← hm8.out, ← hm5.out, ← hm2.out]
    unfold saidTicket
    simp only [← hr9.out, ← hr6.out, ← hr3.out]
  rw [← e]
  exact ⟨rfl, M, hb⟩
end Go.Proofs.YtagblbfbjemfhaaDoor
