/-
  The contract of package radius's Read.
-/
import Derived.Test.YtbomckbekcaemaaDoorRdg
namespace Go.Proofs.YtbomckbekcaemaaDoor
open Go.RowKit

def zQ : List UInt8 := [0, 0, 0, 0, 0, 0, 0, 0, 0, 0, 0, 0, 0, 0, 0, 0]
theorem results_cs {P : Program} {fn : Func} {p q : Tmp} {ty : TypeId} (h : fn.results = #[.cell p ty, .tmp q]) (tmps : Array Value) (w : World) (g : Nat) (t : TypeId) (cs : List Value) (d : TypeDesc) (u : Value)
    (hp : tmps.getD p undef = .pointer (some ⟨g, 0, none⟩)) (hq : tmps.getD q undef = u) (hg : Blk w g t cs)
    (hu : P.underlying ty = some d) (hd : (match d with | .struct _ | .array _ _ => true | _ => false) = true) (hi : (P.info? ty).map (·.size) = some cs.length) :
    (results fn tmps).run P w = .ok (.tuple #[.agg cs.toArray, u]) w := by
  have hp' : tmps[p]?.getD undef = .pointer (some ⟨g, 0, none⟩) := by simpa using hp
  have hq' : tmps[q]?.getD undef = u := by simpa using hq
  simp [results, h, hp', hq', asAddr, run_loadVar_row w g t ty cs.toArray (0, 0) d hg.raw hu hd (by simpa using hi)]
abbrev Pk := Int × Int × List UInt8 × Attrs
theorem ARow.ain {w : World} {base n c : Nat} {A : Option Addr} {la : Attrs} (h : ARow w base (.slice A n c) la) : la.length = n ∧ AIn w w.heap.size A c la := by
  obtain ⟨A', c', e, hA⟩ := h.slice
  cases e
  exact ⟨rfl, hA⟩
/-- What Read tells. -/
def readE (b : List UInt8) : Pk × Nat :=
  if 20 ≤ b.length ∧ b.length ≤ 4096 ∧ writeE ((b.getD 0 0).toNat : Int) ((b.getD 1 0).toNat : Int) ((b.drop 4).take 16) (saidA (b.drop 20)) = (b, 0) then ((((b.getD 0 0).toNat : Int), ((b.getD 1 0).toNat : Int), (b.drop 4).take 16, saidA (b.drop 20)), 0) else ((0, 0, zQ, []), 2)
def PkPost (E : Pk × Nat) (w : World) (e : Ending) (w' : World) : Prop :=
  ∃ A m c, e = .returned (.tuple #[.agg (pkC E.1.1 E.1.2.1 E.1.2.2.1 A m c).toArray, .int .i64 (E.2 : Int)]) ∧ ARow w' w.heap.size (.slice A m c) E.1.2.2.2 ∧ E.1.2.2.1.length = 16 ∧ Below w.heap.size w w'
theorem write_err (code id : Int) (Q : List UInt8) (la : Attrs) : (writeE code id Q la).2 = 0 ∨ (writeE code id Q la).2 = 2 := by unfold writeE; split <;> simp
set_option maxRecDepth 100000 in
set_option maxHeartbeats 1000000 in
theorem read_size (A : Option Addr) (c n : Nat) (b : List UInt8) (w : World) (hn : b.length = n) (h : n < 20 ∨ 4096 < n) :
    Calls Tryd.prog 18 #[.slice A n c] w (PkPost (readE b) w) := by
  have HZ := Lib.hid (show readE b = ((0, 0, zQ, []), 2) by unfold readE; rw [if_neg]; omega)
  clear hn
  by_cases h1 : n < 20
  · have hd : (n : Int) < 20 := by omega
    clear h h1
    go_enter Tryd.func18, Tryd.ntmps18
    go_upto_region 1 with (fail)
    have hP := Blk.new_of w 30 #[.int .i64 0, .int .i64 0, .int .u8 0, .int .u8 0, .int .u8 0, .int .u8 0, .int .u8 0, .int .u8 0, .int .u8 0, .int .u8 0, .int .u8 0, .int .u8 0, .int .u8 0, .int .u8 0, .int .u8 0, .int .u8 0, .int .u8 0, .int .u8 0, .slice none 0 0] (pkC 0 0 zQ none 0 0) rfl
    have hb0 : Below w.heap.size w (w.alloc (.cells #[.int .i64 0, .int .i64 0, .int .u8 0, .int .u8 0, .int .u8 0, .int .u8 0, .int .u8 0, .int .u8 0, .int .u8 0, .int .u8 0, .int .u8 0, .int .u8 0, .int .u8 0, .int .u8 0, .int .u8 0, .int .u8 0, .int .u8 0, .int .u8 0, .slice none 0 0] 30)) := (Below.refl _ _).alloc (Nat.le_refl _) _
    obtain ⟨g, hg⟩ : ∃ g, g = w.heap.size := ⟨_, rfl⟩
    have HG := Lib.hid (show w.heap.size ≤ g by rw [hg]; exact Nat.le_refl _)
    rw [← hg] at hP
    simp only [← hg]
    have HP := Lib.hid hP
    have HB := Lib.hid hb0
    clear hg hP hb0
    generalize w.alloc (.cells #[.int .i64 0, .int .i64 0, .int .u8 0, .int .u8 0, .int .u8 0, .int .u8 0, .int .u8 0, .int .u8 0, .int .u8 0, .int .u8 0, .int .u8 0, .int .u8 0, .int .u8 0, .int .u8 0, .int .u8 0, .int .u8 0, .int .u8 0, .int .u8 0, .slice none 0 0] 30) = w1 at *
    go_wp2_with ((with_reducible refine (?_ : wpList _ _ _ (Oper.mk none _ _ _ _ _ :: _) _ _)); go_loud (refine wpList_store_blk rfl 30 (.tmp 2) (.tmp 15) rfl rfl g (pkC 0 0 zQ none 0 0) rfl rfl _ _ (HP.out) (infPk) (rfl) (pk_one _ _ _ _ _ _) ?_); intro w5 hP5 hg5)
    refine bodyPost_ret (v := .tuple #[.agg _, _]) (results_cs rfl _ _ g 30 _ _ _ rfl rfl hP5 Tryd.underlying30 rfl (infPk.trans (by rw [pkC_length _ _ _ _ _ _ (by first | rfl | exact HQL.out)]))) rfl ?_
    exact ⟨none, 0, 0, by rw [HZ.out] <;> rfl, by rw [HZ.out]; exact ARow.nil _ _, by rw [HZ.out]; rfl, below_new HB.out hg5 HG.out HB.out.size⟩
  · have hd : ¬ (n : Int) < 20 := by omega
    have hd2 : (4096 : Int) < (n : Int) := by omega
    clear h h1
    go_enter Tryd.func18, Tryd.ntmps18
    go_upto_region 1 with (fail)
    have hP := Blk.new_of w 30 #[.int .i64 0, .int .i64 0, .int .u8 0, .int .u8 0, .int .u8 0, .int .u8 0, .int .u8 0, .int .u8 0, .int .u8 0, .int .u8 0, .int .u8 0, .int .u8 0, .int .u8 0, .int .u8 0, .int .u8 0, .int .u8 0, .int .u8 0, .int .u8 0, .slice none 0 0] (pkC 0 0 zQ none 0 0) rfl
    have hb0 : Below w.heap.size w (w.alloc (.cells #[.int .i64 0, .int .i64 0, .int .u8 0, .int .u8 0, .int .u8 0, .int .u8 0, .int .u8 0, .int .u8 0, .int .u8 0, .int .u8 0, .int .u8 0, .int .u8 0, .int .u8 0, .int .u8 0, .int .u8 0, .int .u8 0, .int .u8 0, .int .u8 0, .slice none 0 0] 30)) := (Below.refl _ _).alloc (Nat.le_refl _) _
    obtain ⟨g, hg⟩ : ∃ g, g = w.heap.size := ⟨_, rfl⟩
    have HG := Lib.hid (show w.heap.size ≤ g by rw [hg]; exact Nat.le_refl _)
    rw [← hg] at hP
    simp only [← hg]
    have HP := Lib.hid hP
    have HB := Lib.hid hb0
    clear hg hP hb0
    generalize w.alloc (.cells #[.int .i64 0, .int .i64 0, .int .u8 0, .int .u8 0, .int .u8 0, .int .u8 0, .int .u8 0, .int .u8 0, .int .u8 0, .int .u8 0, .int .u8 0, .int .u8 0, .int .u8 0, .int .u8 0, .int .u8 0, .int .u8 0, .int .u8 0, .int .u8 0, .slice none 0 0] 30) = w1 at *
    go_wp2_with ((with_reducible refine (?_ : wpList _ _ _ (Oper.mk none _ _ _ _ _ :: _) _ _)); go_loud (refine wpList_store_blk rfl 30 (.tmp 2) (.tmp 15) rfl rfl g (pkC 0 0 zQ none 0 0) rfl rfl _ _ (HP.out) (infPk) (rfl) (pk_one _ _ _ _ _ _) ?_); intro w5 hP5 hg5)
    refine bodyPost_ret (v := .tuple #[.agg _, _]) (results_cs rfl _ _ g 30 _ _ _ rfl rfl hP5 Tryd.underlying30 rfl (infPk.trans (by rw [pkC_length _ _ _ _ _ _ (by first | rfl | exact HQL.out)]))) rfl ?_
    exact ⟨none, 0, 0, by rw [HZ.out] <;> rfl, by rw [HZ.out]; exact ARow.nil _ _, by rw [HZ.out]; rfl, below_new HB.out hg5 HG.out HB.out.size⟩
set_option maxRecDepth 100000 in
set_option maxHeartbeats 1000000 in
theorem read_fit (A : Option Addr) (c n : Nat) (b : List UInt8) (w : World) (hn : b.length = n) (h20 : 20 ≤ n) (hm : n ≤ 4096) (i0 : In w w.heap.size A c b) :
    Calls Tryd.prog 18 #[.slice A n c] w (PkPost (readE b) w) := by
  have HSD := Lib.hid (fun (W : World) (h : Below w.heap.size w W) => said_r A c n b W hn h20 (by omega) (i0.up h))
  have hQl : ((b.drop 4).take 16).length = 16 := by rw [List.length_take, List.length_drop]; omega
  unfold SaidPPost at HSD
  have hE : readE b = if writeE ((b.getD 0 0).toNat : Int) ((b.getD 1 0).toNat : Int) ((b.drop 4).take 16) (saidA (b.drop 20)) = (b, 0) then ((((b.getD 0 0).toNat : Int), ((b.getD 1 0).toNat : Int), (b.drop 4).take 16, saidA (b.drop 20)), 0) else ((0, 0, zQ, []), 2) := by
    unfold readE
    simp [show 20 ≤ b.length by omega, show b.length ≤ 4096 by omega]
  generalize ((b.getD 0 0).toNat : Int) = code at *
  generalize ((b.getD 1 0).toNat : Int) = id at *
  generalize (b.drop 4).take 16 = Q at *
  generalize saidA (b.drop 20) = la at *
  have her := write_err code id Q la
  obtain ⟨V, er, hW⟩ : ∃ V er, writeE code id Q la = (V, er) := ⟨_, _, rfl⟩
  rw [hW] at hE her
  have HWR := Lib.hid (fun (W : World) (A2 : Option Addr) (c2 m2 : Nat) (hl : la.length = m2) (h2 : AIn W W.heap.size A2 c2 la) => (show Calls Tryd.prog 13 #[.agg (pkC code id Q A2 m2 c2).toArray] W (WrapPost (V, er) W) by rw [← hW]; exact write_e c2 m2 code id Q A2 la W hQl hl h2))
  unfold WrapPost at HWR
  have HEQ := Lib.hid (fun (W : World) (A3 : Option Addr) (c3 n3 : Nat) (h : Below w.heap.size w W) (h3 : In W W.heap.size A3 c3 V) (hl : V.length = n3) (r : Bool) (hr : (V == b) = r) => equal_e A3 A c3 c n3 n V b W hl hn h3 (i0.up h) r hr)
  have HQL := Lib.hid hQl
  have HE := Lib.hid hE
  have hd : ¬ (n : Int) < 20 := by omega
  have hd2 : ¬ (4096 : Int) < (n : Int) := by omega
  clear hQl hE hW hn h20 hm i0
  go_enter Tryd.func18, Tryd.ntmps18
  go_upto_region 1 with (fail)
  have hP := Blk.new_of w 30 #[.int .i64 0, .int .i64 0, .int .u8 0, .int .u8 0, .int .u8 0, .int .u8 0, .int .u8 0, .int .u8 0, .int .u8 0, .int .u8 0, .int .u8 0, .int .u8 0, .int .u8 0, .int .u8 0, .int .u8 0, .int .u8 0, .int .u8 0, .int .u8 0, .slice none 0 0] (pkC 0 0 zQ none 0 0) rfl
  have hb0 : Below w.heap.size w (w.alloc (.cells #[.int .i64 0, .int .i64 0, .int .u8 0, .int .u8 0, .int .u8 0, .int .u8 0, .int .u8 0, .int .u8 0, .int .u8 0, .int .u8 0, .int .u8 0, .int .u8 0, .int .u8 0, .int .u8 0, .int .u8 0, .int .u8 0, .int .u8 0, .int .u8 0, .slice none 0 0] 30)) := (Below.refl _ _).alloc (Nat.le_refl _) _
  obtain ⟨g, hg⟩ : ∃ g, g = w.heap.size := ⟨_, rfl⟩
  have HG := Lib.hid (show w.heap.size ≤ g by rw [hg]; exact Nat.le_refl _)
  rw [← hg] at hP
  simp only [← hg]
  have HP := Lib.hid hP
  have HB := Lib.hid hb0
  clear hg hP hb0
  generalize w.alloc (.cells #[.int .i64 0, .int .i64 0, .int .u8 0, .int .u8 0, .int .u8 0, .int .u8 0, .int .u8 0, .int .u8 0, .int .u8 0, .int .u8 0, .int .u8 0, .int .u8 0, .int .u8 0, .int .u8 0, .int .u8 0, .int .u8 0, .int .u8 0, .int .u8 0, .slice none 0 0] 30) = w1 at *
  go_upto_region 4 with (first
    | (go_at_call 47; refine (HSD.out _ HB.out).mono ?_; rintro e w2 ⟨A2, m2, c2, rfl, hl2, hAR2, hb2⟩)
    | ((with_reducible refine (?_ : wpList _ _ _ (Oper.mk none _ _ _ _ _ :: _) _ _)); go_loud (refine wpList_store_blk rfl 30 (.tmp 4) (.tmp 17) rfl rfl w2.heap.size (pkC code id Q A2 m2 c2) rfl rfl _ _ (Blk.new_of w2 30 #[.int .i64 0, .int .i64 0, .int .u8 0, .int .u8 0, .int .u8 0, .int .u8 0, .int .u8 0, .int .u8 0, .int .u8 0, .int .u8 0, .int .u8 0, .int .u8 0, .int .u8 0, .int .u8 0, .int .u8 0, .int .u8 0, .int .u8 0, .int .u8 0, .slice none 0 0] (pkC 0 0 zQ none 0 0) rfl) (infPk.trans (by rw [pkC_length _ _ _ _ _ _ HQL.out])) (by rw [pkC_length _ _ _ _ _ _ HQL.out]; rfl) (pk_one _ _ _ _ _ _) ?_); intro w3 hS3 hg3))
  have h2a : Below w2.heap.size w2 (w2.alloc (.cells #[.int .i64 0, .int .i64 0, .int .u8 0, .int .u8 0, .int .u8 0, .int .u8 0, .int .u8 0, .int .u8 0, .int .u8 0, .int .u8 0, .int .u8 0, .int .u8 0, .int .u8 0, .int .u8 0, .int .u8 0, .int .u8 0, .int .u8 0, .int .u8 0, .slice none 0 0] 30)) := (Below.refl _ _).alloc (Nat.le_refl _) _
  have hb3 : Below w2.heap.size w2 w3 := below_new h2a hg3 (Nat.le_refl _) h2a.size
  have HBW := Lib.hid (HB.out.trans ((hb2.trans (hb3.mono hb2.size)).mono HB.out.size))
  have HP3 := Lib.hid ((HP.out.below hb2 HP.out.lt).below hb3 (Nat.lt_of_lt_of_le HP.out.lt hb2.size))
  have HAR := Lib.hid (hAR2.below hb3)
  have HL2 := Lib.hid hl2
  generalize w2.heap.size = g4 at *
  clear h2a hb3 hAR2 hg3 hb2 hl2
  go_upto_region 5 with (first
    | ((with_reducible refine (?_ : wpList _ _ _ (Oper.mk (some 19) _ _ _ _ _ :: _) _ _)); go_loud (refine wpList_load_blk rfl 30 (.tmp 4) rfl g4 rfl _ _ _ (hS3) Tryd.underlying30 rfl (infPk.trans (by rw [pkC_length _ _ _ _ _ _ HQL.out])) ?_))
    | (go_at_call 13; refine (HWR.out _ _ _ _ HAR.out.ain.1 HAR.out.ain.2).mono ?_; rintro e w4 ⟨A4, n4, c4, rfl, hB4, hb4⟩))
  have HB4 := Lib.hid (HBW.out.trans (hb4.mono HBW.out.size))
  have HP4 := Lib.hid (HP3.out.below hb4 HP3.out.lt)
  have HAR4 := Lib.hid (HAR.out.below hb4)
  have HS4 := Lib.hid (hS3.below hb4 hS3.lt)
  have HV := Lib.hid hB4
  clear hB4 hb4 hS3
  rcases her with rfl | rfl
  · obtain ⟨r, hr⟩ : ∃ r, (V == b) = r := ⟨_, rfl⟩
    have HE4 := Lib.hid (HEQ.out w4 A4 c4 n4 HB4.out (HV.out.toIn (Nat.le_refl _)) HV.out.1 r hr)
    cases r
    · have HZ := Lib.hid (show readE b = ((0, 0, zQ, []), 2) by rw [HE.out, if_neg]; intro h; injection h with h _; rw [h] at hr; simp at hr)
      clear hr
      go_wp2_with (first
        | (go_at_call 48; refine HE4.out.mono ?_; rintro e w5 ⟨rfl, hww⟩; have hw2 := hww.symm; subst hw2)
        | ((with_reducible refine (?_ : wpList _ _ _ (Oper.mk none _ _ _ _ _ :: _) _ _)); go_loud (refine wpList_store_blk rfl 30 (.tmp 2) (.tmp 31) rfl rfl g (pkC 0 0 zQ none 0 0) rfl rfl _ _ (HP4.out) (infPk) (rfl) (pk_one _ _ _ _ _ _) ?_); intro w6 hP6 hg6))
      refine bodyPost_ret (v := .tuple #[.agg _, _]) (results_cs rfl _ _ g 30 _ _ _ rfl rfl hP6 Tryd.underlying30 rfl (infPk.trans (by rw [pkC_length _ _ _ _ _ _ (by first | rfl | exact HQL.out)]))) rfl ?_
      exact ⟨none, 0, 0, by rw [HZ.out] <;> rfl, by rw [HZ.out]; exact ARow.nil _ _, by rw [HZ.out]; rfl, below_new HB4.out hg6 HG.out HB4.out.size⟩
    · have HZ := Lib.hid (show readE b = ((code, id, Q, la), 0) by rw [HE.out, if_pos]; rw [eq_of_beq hr])
      clear hr
      have hS4 := HS4.out
      go_wp2_with (first
        | (go_at_call 48; refine HE4.out.mono ?_; rintro e w5 ⟨rfl, hww⟩; have hw2 := hww.symm; subst hw2)
        | ((with_reducible refine (?_ : wpList _ _ _ (Oper.mk (some 32) _ _ _ _ _ :: _) _ _)); go_loud (refine wpList_load_blk rfl 30 (.tmp 4) rfl g4 rfl _ _ _ (hS4) Tryd.underlying30 rfl (infPk.trans (by rw [pkC_length _ _ _ _ _ _ HQL.out])) ?_))
        | ((with_reducible refine (?_ : wpList _ _ _ (Oper.mk none _ _ _ _ _ :: _) _ _)); go_loud (refine wpList_store_blk rfl 30 (.tmp 2) (.tmp 32) rfl rfl g (pkC code id Q A2 m2 c2) rfl rfl _ _ (HP4.out) (infPk.trans (by rw [pkC_length _ _ _ _ _ _ HQL.out])) (by rw [pkC_length _ _ _ _ _ _ HQL.out]; rfl) (pk_one _ _ _ _ _ _) ?_); intro w6 hP6 hg6))
      refine bodyPost_ret (v := .tuple #[.agg _, _]) (results_cs rfl _ _ g 30 _ _ _ rfl rfl hP6 Tryd.underlying30 rfl (infPk.trans (by rw [pkC_length _ _ _ _ _ _ (by first | rfl | exact HQL.out)]))) rfl ?_
      exact ⟨A2, m2, c2, by rw [HZ.out] <;> rfl, by rw [HZ.out]; exact (HAR4.out.grown hg6 HP.out.lt).base HB.out.size, by rw [HZ.out]; exact HQL.out, below_new HB4.out hg6 HG.out HB4.out.size⟩
  · have HZ := Lib.hid (show readE b = ((0, 0, zQ, []), 2) by rw [HE.out, if_neg]; simp)
    go_wp2_with ((with_reducible refine (?_ : wpList _ _ _ (Oper.mk none _ _ _ _ _ :: _) _ _)); go_loud (refine wpList_store_blk rfl 30 (.tmp 2) (.tmp 31) rfl rfl g (pkC 0 0 zQ none 0 0) rfl rfl _ _ (HP4.out) (infPk) (rfl) (pk_one _ _ _ _ _ _) ?_); intro w6 hP6 hg6)
    refine bodyPost_ret (v := .tuple #[.agg _, _]) (results_cs rfl _ _ g 30 _ _ _ rfl rfl hP6 Tryd.underlying30 rfl (infPk.trans (by rw [pkC_length _ _ _ _ _ _ (by first | rfl | exact HQL.out)]))) rfl ?_
    exact ⟨none, 0, 0, by rw [HZ.out] <;> rfl, by rw [HZ.out]; exact ARow.nil _ _, by rw [HZ.out]; rfl, below_new HB4.out hg6 HG.out HB4.out.size⟩
set_option maxRecDepth 100000 in
set_option maxHeartbeats 1000000 in
theorem read_e (A : Option Addr) (c n : Nat) (b : List UInt8) (w : World) (hn : b.length = n) (i0 : In w w.heap.size A c b) :
    Calls Tryd.prog 18 #[.slice A n c] w (PkPost (readE b) w) := by
  by_cases h1 : n < 20
  · exact read_size A c n b w hn (.inl h1)
  by_cases h2 : 4096 < n
  · exact read_size A c n b w hn (.inr h2)
  exact read_fit A c n b w hn (by omega) (by omega) i0
end Go.Proofs.YtbomckbekcaemaaDoor
