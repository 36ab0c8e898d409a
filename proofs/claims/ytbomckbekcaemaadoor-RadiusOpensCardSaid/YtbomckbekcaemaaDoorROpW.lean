/-
  The walk of the statement RadiusOpens.
-/
import Derived.Test.YtbomckbekcaemaaDoorRsz
import Derived.Test.YtbomckbekcaemaaDoorRsf
import Derived.Test.YtbomckbekcaemaaDoorRt0
namespace Go.Proofs.YtbomckbekcaemaaDoor
open Go.RowKit

theorem unp_any {E : Pk × Nat} {code id : Int} {Q : List UInt8} {la : Attrs} {m er base : Nat} {w w' : World} {e : Ending} (h : UnPost E base w e w') (hE : E = ((code, id, Q, la), er)) (hm : la.length = m) : ∃ A c, e = .returned (.tuple #[.agg (pkC code id Q A m c).toArray, .int .i64 (er : Int)]) ∧ AIn w' w'.heap.size A c la ∧ Q.length = 16 ∧ Below base w w' := by
  subst hE hm
  obtain ⟨A, m', c, rfl, hl, hA, hQ, hb, _⟩ := h
  simp only at hl hA hQ
  subst hl
  exact ⟨A, c, rfl, hA.toIn, hQ, hb⟩
theorem rpk_any {E : Pk × Nat} {code id : Int} {Q : List UInt8} {la : Attrs} {m er : Nat} {w w' : World} {e : Ending} (h : RPkPost E w e w') (hE : E = ((code, id, Q, la), er)) (hm : la.length = m) : ∃ A c, e = .returned (.tuple #[.agg (pkC code id Q A m c).toArray, .int .i64 (er : Int)]) ∧ SIn w' w'.heap.size A c la ∧ Below w.heap.size w w' := by
  subst hE hm
  obtain ⟨A, c, rfl, hS, _, hb⟩ := rpk_row h
  exact ⟨A, c, rfl, srow_sinK hS, hb⟩
theorem zQ_len : zQ.length = 16 := rfl
theorem unmarkE_few (code id : Int) (Q : List UInt8) (la : Attrs) (sec : List UInt8) (hQ : Q.length = 16) : (unmarkE code id Q la sec).1.2.2.1.length = 16 ∧ (unmarkE code id Q la sec).1.2.2.2.length ≤ la.length := by
  unfold unmarkE
  split
  · refine ⟨hQ, ?_⟩
    show (la.take _ ++ la.drop _).length ≤ _
    rw [List.length_append, List.length_take, List.length_drop]
    omega
  · exact ⟨rfl, Nat.zero_le _⟩
theorem openE_few (b sec : List UInt8) : (openE b sec).1.2.2.1.length = 16 ∧ (openE b sec).1.2.2.2.length ≤ b.length := by
  unfold openE
  have h1 := readE_len b
  have h2 := readE_few b
  split
  · split
    · have := unmarkE_few (readE b).1.1 (readE b).1.2.1 (readE b).1.2.2.1 (readE b).1.2.2.2 sec h1
      exact ⟨this.1, Nat.le_trans this.2 h2⟩
    · exact ⟨rfl, Nat.zero_le _⟩
  · exact ⟨rfl, Nat.zero_le _⟩
theorem openedE_few (b M sec : List UInt8) (hM : M.length = 16) : (openedE b M sec).1.2.2.1.length = 16 ∧ (openedE b M sec).1.2.2.2.length ≤ b.length := by
  unfold openedE
  have h2 := readE_few b
  split
  · split
    · exact ⟨rfl, Nat.zero_le _⟩
    · split
      · split
        · have := unmarkE_few (readE b).1.1 (readE b).1.2.1 M (readE b).1.2.2.2 sec hM
          exact ⟨md5_length _, Nat.le_trans this.2 h2⟩
        · exact ⟨rfl, Nat.zero_le _⟩
      · exact ⟨rfl, Nat.zero_le _⟩
  · exact ⟨rfl, Nat.zero_le _⟩
set_option maxRecDepth 100000 in
set_option maxHeartbeats 4000000 in
theorem radiusOpens_walk (M : List UInt8) (A0 A2 : Option Addr) (c0 n0 c2 m0 : Nat) (b0 s0 : List UInt8) (w : World) (hn0 : b0.length = n0) (i0 : In w w.heap.size A0 c0 b0) (hM : M.length = 16) (hs0 : s0.length = m0) (is : In w w.heap.size A2 c2 s0) (ht : TabsQ w) :
    Calls Tryd.prog 5 #[.slice A0 n0 c0, .agg (M.map B8).toArray, .slice A2 m0 c2] w fun e w' => e = .returned (.bool true) ∧ Below w.heap.size w w' := by
  obtain ⟨n1, hn1⟩ : ∃ n1, n1 = min n0 4200 := ⟨_, rfl⟩
  obtain ⟨hm1, hm2, hm3⟩ := ix_cutW (most := 4200) hn1 (show n0 ≤ c0 by rw [← hn0]; exact i0.1)
  replace hm1 : min (n0 : Int) 4200 = (n1 : Int) := hm1
  have hb1 : (b0.take n1).length = n1 := by rw [List.length_take]; omega
  have i1 := i0.take n1
  generalize b0.take n1 = b at *
  have hb9 : n1 ≤ 4200 := by omega
  obtain ⟨n2, hn2⟩ : ∃ n2, n2 = min m0 100 := ⟨_, rfl⟩
  obtain ⟨hp1, hp2, hp3⟩ := ix_cutW (most := 100) hn2 (show m0 ≤ c2 by rw [← hs0]; exact is.1)
  replace hp1 : min (m0 : Int) 100 = (n2 : Int) := hp1
  have hs1 : (s0.take n2).length = n2 := by rw [List.length_take]; omega
  have i2 := is.take n2
  generalize s0.take n2 = sec at *
  have hs9 : n2 ≤ 100 := by omega
  have hpf := openE_few b sec
  have hof := openedE_few b M sec hM
  obtain ⟨pc, pi, pQ, pl, pe, hPE⟩ : ∃ pc pi pQ pl pe, openE b sec = ((pc, pi, pQ, pl), pe) := ⟨_, _, _, _, _, rfl⟩
  obtain ⟨oc, oi, oQ, ol, oe, hOE⟩ : ∃ oc oi oQ ol oe, openedE b M sec = ((oc, oi, oQ, ol), oe) := ⟨_, _, _, _, _, rfl⟩
  rw [hPE] at hpf
  rw [hOE] at hof
  simp only at hpf hof
  obtain ⟨pm, hpm⟩ : ∃ pm, pl.length = pm := ⟨_, rfl⟩
  obtain ⟨om, hom⟩ : ∃ om, ol.length = om := ⟨_, rfl⟩
  have HOP := Lib.hid (fun (W : World) (hb : Below w.heap.size w W) => (show Calls Tryd.prog 24 #[.slice A0 n1 c0, .slice A2 n2 c2] W _ from (open_e A0 A2 c0 c2 n1 n2 b sec W hb1 (i1.up hb) hs1 (i2.up hb) (ht.below hb) (by omega)).mono (fun e w' h => unp_any h hPE hpm)))
  have HOD := Lib.hid (fun (W : World) (hb : Below w.heap.size w W) => (show Calls Tryd.prog 25 #[.slice A0 n1 c0, .agg (M.map B8).toArray, .slice A2 n2 c2] W _ from (opened_e A0 A2 c0 c2 n1 n2 b M sec W hM hb1 (i1.up hb) hs1 (i2.up hb) (ht.below hb) (by omega)).mono (fun e w' h => unp_any h hOE hom)))
  have HRP := Lib.hid (fun (W : World) => (show Calls Tryd.prog 28 #[.string ⟨b.toArray⟩, .string ⟨sec.toArray⟩] W _ from (rOpen_e b sec W (by omega)).mono (fun e w' h => rpk_any h hPE hpm)))
  have HRO := Lib.hid (fun (W : World) => (show Calls Tryd.prog 29 #[.string ⟨b.toArray⟩, .agg (M.map B8).toArray, .string ⟨sec.toArray⟩] W _ from (rOpened_e b M sec W hM (by omega)).mono (fun e w' h => rpk_any h hOE hom)))
  have HSPK := Lib.hid (fun (W : World) (hb : Below w.heap.size w W) => speaks_e W (ht.below hb))
  have HFR := Lib.hid (fun (W : World) (A : Option Addr) (c : Nat) (h : AIn W W.heap.size A c pl) => (show Calls Tryd.prog 17 #[.agg (pkC pc pi pQ A pm c).toArray] W _ from (from_e pc pi pQ A c pm pl W hpf.1 hpm h (by omega)).mono (fun e w' h => pks_len h hpm)))
  have HFRo := Lib.hid (fun (W : World) (A : Option Addr) (c : Nat) (h : AIn W W.heap.size A c ol) => (show Calls Tryd.prog 17 #[.agg (pkC oc oi oQ A om c).toArray] W _ from (from_e oc oi oQ A c om ol W hof.1 hom h (by omega)).mono (fun e w' h => pks_len h hom)))
  have HSM := Lib.hid (fun (W : World) (A A' : Option Addr) (c c' : Nat) (h : SIn W W.heap.size A c pl) (h' : SIn W W.heap.size A' c' pl) => (show Calls Tryd.prog 16 #[.agg (pkC pc pi pQ A pm c).toArray, .agg (pkC pc pi pQ A' pm c').toArray] W (fun e w' => e = .returned (.bool true) ∧ Below W.heap.size W w') by have := same_e pc pc pi pi pQ pQ A A' c c' pm pm pl pl W hpf.1 hpf.1 hpm h hpm h'; simpa using this))
  have HSMo := Lib.hid (fun (W : World) (A A' : Option Addr) (c c' : Nat) (h : SIn W W.heap.size A c ol) (h' : SIn W W.heap.size A' c' ol) => (show Calls Tryd.prog 16 #[.agg (pkC oc oi oQ A om c).toArray, .agg (pkC oc oi oQ A' om c').toArray] W (fun e w' => e = .returned (.bool true) ∧ Below W.heap.size W w') by have := same_e oc oc oi oi oQ oQ A A' c c' om om ol ol W hof.1 hof.1 hom h hom h'; simpa using this))
  have HPQ := Lib.hid hpf.1
  have HOQ := Lib.hid hof.1
  have HML := Lib.hid hM
  have HB0 := Lib.hid (And.intro hb1 i1)
  have HS0 := Lib.hid (And.intro hs1 i2)
  clear hn1 hn0 i0 hb1 i1 hb9 hn2 hs0 is hs1 i2 hs9 hpf hof hPE hOE hpm hom hM ht
  go_enter Tryd.func5, Tryd.ntmps5
  go_upto_region 1 with (fail)
  have hK := Blk.new_of w 22 (M.map B8).toArray (M.map B8) rfl
  have hb0 : Below w.heap.size w (w.alloc (.cells (M.map B8).toArray 22)) := (Below.refl _ _).alloc (Nat.le_refl _) _
  obtain ⟨gk, hgk⟩ : ∃ gk, gk = w.heap.size := ⟨_, rfl⟩
  rw [← hgk] at hK
  simp only [← hgk]
  have HXw1 := Lib.hid hb0
  have HK1 := Lib.hid hK
  clear hgk hK hb0
  generalize w.alloc (.cells (M.map B8).toArray 22) = w1 at *
  refine wp_region_noPanic ?_
  refine wp_region_held_drew (S := fun W => Below w1.heap.size w1 W) (by kernel_rfl) (by exact below_drewN (Below.refl _ _) 1) (fun hHeld => ?_)
  refine wpAnyH_take (i := 0) (oi := ⟨_, _, _, _, _, _⟩) (v := ?_) rfl (by kernel_rfl) (by kernel_rfl) (by kernel_rfl) (fun _ _ _ h => h) (Or.inl ⟨by rfl, ?_⟩) hHeld ?_
  rotate_left 1
  · (intro W hSw; (try dsimp only at hSw); go_simp; try with_reducible rfl)
  try simp only [Act.put, List.setIfInBounds_toArray, List.set_cons_zero, List.set_cons_succ]
  refine wpAnyH_take (i := 1) (oi := ⟨_, _, _, _, _, _⟩) (v := ?_) rfl (by kernel_rfl) (by kernel_rfl) (by kernel_rfl) (fun _ _ _ h => h) (Or.inl ⟨by rfl, ?_⟩) hHeld ?_
  rotate_left 1
  · (intro W hSw; (try dsimp only at hSw); go_simp; try with_reducible rfl)
  try simp only [Act.put, List.setIfInBounds_toArray, List.set_cons_zero, List.set_cons_succ]
  refine wpAnyH_take (i := 2) (oi := ⟨_, _, _, _, _, _⟩) (v := ?_) rfl (by kernel_rfl) (by kernel_rfl) (by kernel_rfl) (fun _ _ _ h => h) (Or.inl ⟨by rfl, ?_⟩) hHeld ?_
  rotate_left 1
  · (intro W hSw; (try dsimp only at hSw); go_simp; try with_reducible rfl)
  try simp only [Act.put, List.setIfInBounds_toArray, List.set_cons_zero, List.set_cons_succ]
  refine wpAnyH_take (i := 3) (oi := ⟨_, _, _, _, _, _⟩) (v := ?_) rfl (by kernel_rfl) (by kernel_rfl) (by kernel_rfl) (fun _ _ _ h => h) (Or.inl ⟨by rfl, ?_⟩) hHeld ?_
  rotate_left 1
  · (intro W hSw; (try dsimp only at hSw); go_simp; try with_reducible rfl)
  try simp only [Act.put, List.setIfInBounds_toArray, List.set_cons_zero, List.set_cons_succ]
  refine wpAnyH_take (i := 4) (oi := ⟨_, _, _, _, _, _⟩) (v := .slice A0 n1 c0) rfl (by kernel_rfl) (by kernel_rfl) (by kernel_rfl) (fun _ _ _ h => h) (Or.inl ⟨by rfl, ?_⟩) hHeld ?_
  · (intro W hSw; go_simp)
  try simp only [Act.put, List.setIfInBounds_toArray, List.set_cons_zero, List.set_cons_succ]
  refine wpAnyH_take (i := 5) (oi := ⟨_, _, _, _, _, _⟩) (v := ?_) rfl (by kernel_rfl) (by kernel_rfl) (by kernel_rfl) (fun _ _ _ h => h) (Or.inl ⟨by rfl, ?_⟩) hHeld ?_
  rotate_left 1
  · (intro W hSw; (try dsimp only at hSw); go_simp; try with_reducible rfl)
  try simp only [Act.put, List.setIfInBounds_toArray, List.set_cons_zero, List.set_cons_succ]
  refine wpAnyH_take (i := 6) (oi := ⟨_, _, _, _, _, _⟩) (v := ?_) rfl (by kernel_rfl) (by kernel_rfl) (by kernel_rfl) (fun _ _ _ h => h) (Or.inl ⟨by rfl, ?_⟩) hHeld ?_
  rotate_left 1
  · (intro W hSw; (try dsimp only at hSw); go_simp; try with_reducible rfl)
  try simp only [Act.put, List.setIfInBounds_toArray, List.set_cons_zero, List.set_cons_succ]
  refine wpAnyH_take (i := 7) (oi := ⟨_, _, _, _, _, _⟩) (v := ?_) rfl (by kernel_rfl) (by kernel_rfl) (by kernel_rfl) (fun _ _ _ h => h) (Or.inl ⟨by rfl, ?_⟩) hHeld ?_
  rotate_left 1
  · (intro W hSw; (try dsimp only at hSw); go_simp; try with_reducible rfl)
  try simp only [Act.put, List.setIfInBounds_toArray, List.set_cons_zero, List.set_cons_succ]
  refine wpAnyH_take (i := 8) (oi := ⟨_, _, _, _, _, _⟩) (v := ?_) rfl (by kernel_rfl) (by kernel_rfl) (by kernel_rfl) (fun _ _ _ h => h) (Or.inl ⟨by rfl, ?_⟩) hHeld ?_
  rotate_left 1
  · (intro W hSw; (try dsimp only at hSw); go_simp; try with_reducible rfl)
  try simp only [Act.put, List.setIfInBounds_toArray, List.set_cons_zero, List.set_cons_succ]
  refine wpAnyH_take (i := 9) (oi := ⟨_, _, _, _, _, _⟩) (v := .slice A2 n2 c2) rfl (by kernel_rfl) (by kernel_rfl) (by kernel_rfl) (fun _ _ _ h => h) (Or.inl ⟨by rfl, ?_⟩) hHeld ?_
  · (intro W hSw; go_simp)
  try simp only [Act.put, List.setIfInBounds_toArray, List.set_cons_zero, List.set_cons_succ]
  refine wpAnyH_take (i := 10) (oi := ⟨_, _, _, _, _, _⟩) (v := ?_) rfl (by kernel_rfl) (by kernel_rfl) (by kernel_rfl) (fun _ _ _ h => h) (Or.inl ⟨by rfl, ?_⟩) hHeld ?_
  rotate_left 1
  · (intro W hSw; (try dsimp only at hSw); go_simp; try with_reducible rfl)
  try simp only [Act.put, List.setIfInBounds_toArray, List.set_cons_zero]
  refine wpAnyH_take (i := 11) (oi := ⟨_, _, _, _, _, _⟩) (v := ?_) rfl (by kernel_rfl) (by kernel_rfl) (by kernel_rfl) (fun _ _ _ h => h) (Or.inl ⟨by rfl, ?_⟩) hHeld ?_
  rotate_left 1
  · (intro W hSw; (try dsimp only at hSw); go_simp; try with_reducible rfl)
  try simp only [Act.put, List.setIfInBounds_toArray, List.set_cons_zero, List.set_cons_succ]
  replace hHeld : Below w1.heap.size w1 w1.drew := hHeld
  have HY2 := Lib.hid hHeld
  generalize w1.drew = w2 at *
  refine wpAnyH_done (by kernel_rfl) ?_ _
  refine NoPanic.normal ?_
  clear hHeld
  clear hm1 hm2 hm3 hp1 hp2 hp3
  have HXw2 := Lib.hid (HXw1.out.trans (HY2.out.mono HXw1.out.size))
  have HK2 := Lib.hid (HK1.out.below HY2.out HK1.out.lt)
  go_upto_region 3 with (first
    | (go_at_call 24; refine (HOP.out _ HXw2.out).mono ?_; rintro e w3 ⟨A7, c7, rfl, hI, _, hbq⟩)
    | ((with_reducible refine (?_ : wpList _ _ _ (Oper.mk none _ _ _ _ _ :: _) _ _)); go_loud (refine wpList_store_blk rfl 30 (.tmp 7) (.tmp 29) rfl rfl w3.heap.size (pkC pc pi pQ A7 pm c7) rfl rfl _ _ (Blk.new_of w3 30 #[.int .i64 0, .int .i64 0, .int .u8 0, .int .u8 0, .int .u8 0, .int .u8 0, .int .u8 0, .int .u8 0, .int .u8 0, .int .u8 0, .int .u8 0, .int .u8 0, .int .u8 0, .int .u8 0, .int .u8 0, .int .u8 0, .int .u8 0, .int .u8 0, .slice none 0 0] (pkC 0 0 zQ none 0 0) rfl) (infPk.trans (by rw [pkC_length _ _ _ _ _ _ HPQ.out])) (by rw [pkC_length _ _ _ _ _ _ HPQ.out]; rfl) (pk_one _ _ _ _ _ _) ?_); intro w4 hPn hgn))
  have hqa : Below w3.heap.size w3 (w3.alloc (.cells #[.int .i64 0, .int .i64 0, .int .u8 0, .int .u8 0, .int .u8 0, .int .u8 0, .int .u8 0, .int .u8 0, .int .u8 0, .int .u8 0, .int .u8 0, .int .u8 0, .int .u8 0, .int .u8 0, .int .u8 0, .int .u8 0, .int .u8 0, .int .u8 0, .slice none 0 0] 30)) := (Below.refl _ _).alloc (Nat.le_refl _) _
  have hqn : Below w3.heap.size w3 w4 := below_new hqa hgn (Nat.le_refl _) hqa.size
  obtain ⟨g7, hgg⟩ : ∃ g7, g7 = w3.heap.size := ⟨_, rfl⟩
  have HI7 := Lib.hid (hI.up hqn)
  rw [← hgg] at hPn
  simp only [← hgg]
  have H7 := Lib.hid hPn
  have hY : Below w2.heap.size w2 w4 := hbq.trans (hqn.mono hbq.size)
  have HXw4 := Lib.hid (HXw2.out.trans (hY.mono HXw2.out.size))
  have HK4 := Lib.hid (HK2.out.below hY HK2.out.lt)
  clear hqa hqn hgn hI hPn hgg hY hbq
  have hc1 := conv_in HB0.out.1 (HB0.out.2.up HXw4.out)
  have hc2 := conv_in HS0.out.1 (HS0.out.2.up HXw4.out)
  go_upto_region 4 with (first
    | (go_at_call 28; refine (HRP.out _).mono ?_; rintro e w5 ⟨A9, c9, rfl, hI, hbq⟩)
    | ((with_reducible refine (?_ : wpList _ _ _ (Oper.mk none _ _ _ _ _ :: _) _ _)); go_loud (refine wpList_store_blk rfl 25 (.tmp 9) (.tmp 37) rfl rfl w5.heap.size (pkC pc pi pQ A9 pm c9) rfl rfl _ _ (Blk.new_of w5 25 #[.int .i64 0, .int .i64 0, .int .u8 0, .int .u8 0, .int .u8 0, .int .u8 0, .int .u8 0, .int .u8 0, .int .u8 0, .int .u8 0, .int .u8 0, .int .u8 0, .int .u8 0, .int .u8 0, .int .u8 0, .int .u8 0, .int .u8 0, .int .u8 0, .slice none 0 0] (pkC 0 0 zQ none 0 0) rfl) (infRP.trans (by rw [pkC_length _ _ _ _ _ _ HPQ.out])) (by rw [pkC_length _ _ _ _ _ _ HPQ.out]; rfl) (pk_one _ _ _ _ _ _) ?_); intro w6 hPn hgn))
  clear hc1 hc2
  have hqa : Below w5.heap.size w5 (w5.alloc (.cells #[.int .i64 0, .int .i64 0, .int .u8 0, .int .u8 0, .int .u8 0, .int .u8 0, .int .u8 0, .int .u8 0, .int .u8 0, .int .u8 0, .int .u8 0, .int .u8 0, .int .u8 0, .int .u8 0, .int .u8 0, .int .u8 0, .int .u8 0, .int .u8 0, .slice none 0 0] 25)) := (Below.refl _ _).alloc (Nat.le_refl _) _
  have hqn : Below w5.heap.size w5 w6 := below_new hqa hgn (Nat.le_refl _) hqa.size
  obtain ⟨g9, hgg⟩ : ∃ g9, g9 = w5.heap.size := ⟨_, rfl⟩
  have HI9 := Lib.hid (hI.up hqn)
  rw [← hgg] at hPn
  simp only [← hgg]
  have H9 := Lib.hid hPn
  have hY : Below w4.heap.size w4 w6 := hbq.trans (hqn.mono hbq.size)
  have HXw6 := Lib.hid (HXw4.out.trans (hY.mono HXw4.out.size))
  have HK6 := Lib.hid (HK4.out.below hY HK4.out.lt)
  have H7b := Lib.hid (H7.out.below hY H7.out.lt)
  have HI7b := Lib.hid (HI7.out.up hY)
  clear H7 HI7
  clear hqa hqn hgn hI hPn hgg hY hbq
  have hk6 := HK6.out
  go_upto_region 5 with (first
    | ((with_reducible refine (?_ : wpList _ _ _ (Oper.mk (some 41) _ _ _ _ _ :: _) _ _)); go_loud (refine wpList_load_blk rfl 22 (.tmp 4) rfl gk rfl _ _ _ (hk6) Tryd.underlying22 rfl (inf16.trans (by rw [List.length_map, HML.out])) ?_))
    | (go_at_call 25; refine (HOD.out _ HXw6.out).mono ?_; rintro e w7 ⟨A11, c11, rfl, hI, _, hbq⟩)
    | ((with_reducible refine (?_ : wpList _ _ _ (Oper.mk none _ _ _ _ _ :: _) _ _)); go_loud (refine wpList_store_blk rfl 30 (.tmp 11) (.tmp 44) rfl rfl w7.heap.size (pkC oc oi oQ A11 om c11) rfl rfl _ _ (Blk.new_of w7 30 #[.int .i64 0, .int .i64 0, .int .u8 0, .int .u8 0, .int .u8 0, .int .u8 0, .int .u8 0, .int .u8 0, .int .u8 0, .int .u8 0, .int .u8 0, .int .u8 0, .int .u8 0, .int .u8 0, .int .u8 0, .int .u8 0, .int .u8 0, .int .u8 0, .slice none 0 0] (pkC 0 0 zQ none 0 0) rfl) (infPk.trans (by rw [pkC_length _ _ _ _ _ _ HOQ.out])) (by rw [pkC_length _ _ _ _ _ _ HOQ.out]; rfl) (pk_one _ _ _ _ _ _) ?_); intro w8 hPn hgn))
  clear hk6
  have hqa : Below w7.heap.size w7 (w7.alloc (.cells #[.int .i64 0, .int .i64 0, .int .u8 0, .int .u8 0, .int .u8 0, .int .u8 0, .int .u8 0, .int .u8 0, .int .u8 0, .int .u8 0, .int .u8 0, .int .u8 0, .int .u8 0, .int .u8 0, .int .u8 0, .int .u8 0, .int .u8 0, .int .u8 0, .slice none 0 0] 30)) := (Below.refl _ _).alloc (Nat.le_refl _) _
  have hqn : Below w7.heap.size w7 w8 := below_new hqa hgn (Nat.le_refl _) hqa.size
  obtain ⟨g11, hgg⟩ : ∃ g11, g11 = w7.heap.size := ⟨_, rfl⟩
  have HI11 := Lib.hid (hI.up hqn)
  rw [← hgg] at hPn
  simp only [← hgg]
  have H11 := Lib.hid hPn
  have hY : Below w6.heap.size w6 w8 := hbq.trans (hqn.mono hbq.size)
  have HXw8 := Lib.hid (HXw6.out.trans (hY.mono HXw6.out.size))
  have HK8 := Lib.hid (HK6.out.below hY HK6.out.lt)
  have H7c := Lib.hid (H7b.out.below hY H7b.out.lt)
  have HI7c := Lib.hid (HI7b.out.up hY)
  have H9b := Lib.hid (H9.out.below hY H9.out.lt)
  have HI9b := Lib.hid (HI9.out.up hY)
  clear H7b HI7b H9 HI9
  clear hqa hqn hgn hI hPn hgg hY hbq
  have hc1 := conv_in HB0.out.1 (HB0.out.2.up HXw8.out)
  have hc2 := conv_in HS0.out.1 (HS0.out.2.up HXw8.out)
  have hk8 := HK8.out
  go_upto_region 6 with (first
    | ((with_reducible refine (?_ : wpList _ _ _ (Oper.mk (some 49) _ _ _ _ _ :: _) _ _)); go_loud (refine wpList_load_blk rfl 22 (.tmp 4) rfl gk rfl _ _ _ (hk8) Tryd.underlying22 rfl (inf16.trans (by rw [List.length_map, HML.out])) ?_))
    | (go_at_call 29; refine (HRO.out _).mono ?_; rintro e w9 ⟨A13, c13, rfl, hI, hbq⟩)
    | ((with_reducible refine (?_ : wpList _ _ _ (Oper.mk none _ _ _ _ _ :: _) _ _)); go_loud (refine wpList_store_blk rfl 25 (.tmp 13) (.tmp 53) rfl rfl w9.heap.size (pkC oc oi oQ A13 om c13) rfl rfl _ _ (Blk.new_of w9 25 #[.int .i64 0, .int .i64 0, .int .u8 0, .int .u8 0, .int .u8 0, .int .u8 0, .int .u8 0, .int .u8 0, .int .u8 0, .int .u8 0, .int .u8 0, .int .u8 0, .int .u8 0, .int .u8 0, .int .u8 0, .int .u8 0, .int .u8 0, .int .u8 0, .slice none 0 0] (pkC 0 0 zQ none 0 0) rfl) (infRP.trans (by rw [pkC_length _ _ _ _ _ _ HOQ.out])) (by rw [pkC_length _ _ _ _ _ _ HOQ.out]; rfl) (pk_one _ _ _ _ _ _) ?_); intro wk hPn hgn))
  clear hc1 hc2 hk8
  have hqa : Below w9.heap.size w9 (w9.alloc (.cells #[.int .i64 0, .int .i64 0, .int .u8 0, .int .u8 0, .int .u8 0, .int .u8 0, .int .u8 0, .int .u8 0, .int .u8 0, .int .u8 0, .int .u8 0, .int .u8 0, .int .u8 0, .int .u8 0, .int .u8 0, .int .u8 0, .int .u8 0, .int .u8 0, .slice none 0 0] 25)) := (Below.refl _ _).alloc (Nat.le_refl _) _
  have hqn : Below w9.heap.size w9 wk := below_new hqa hgn (Nat.le_refl _) hqa.size
  obtain ⟨g13, hgg⟩ : ∃ g13, g13 = w9.heap.size := ⟨_, rfl⟩
  have HI13 := Lib.hid (hI.up hqn)
  rw [← hgg] at hPn
  simp only [← hgg]
  have H13 := Lib.hid hPn
  have hY : Below w8.heap.size w8 wk := hbq.trans (hqn.mono hbq.size)
  have HXwk := Lib.hid (HXw8.out.trans (hY.mono HXw8.out.size))
  have H7 := Lib.hid (H7c.out.below hY H7c.out.lt)
  have HI7 := Lib.hid (HI7c.out.up hY)
  have H9 := Lib.hid (H9b.out.below hY H9b.out.lt)
  have HI9 := Lib.hid (HI9b.out.up hY)
  have H11k := Lib.hid (H11.out.below hY H11.out.lt)
  have HI11k := Lib.hid (HI11.out.up hY)
  clear H11 HI11
  have H11 := H11k
  have HI11 := HI11k
  clear hqa hqn hgn hI hPn hgg hY hbq
  refine wp_region_noPanic ?_
  refine wp_region_held_drew (S := fun W => Below wk.heap.size wk W) (by kernel_rfl) (by exact below_drewN (Below.refl _ _) 1) (fun hHeld => ?_)
  replace hHeld : Below wk.heap.size wk wk.drew := hHeld
  have HXwd := Lib.hid (HXwk.out.trans (hHeld.mono HXwk.out.size))
  have HYwd := Lib.hid (show Below wk.heap.size wk wk.drew from hHeld)
  generalize wk.drew = wd at *
  refine anyH_mono (S' := fun W => Below wd.heap.size wd W) (fun W h => hHeld.trans (h.mono hHeld.size)) _ _ _ _ ?_
  clear hHeld
  have hHeld : Below wd.heap.size wd wd := Below.refl _ _
  refine wpAnyH_ready (rs := [0]) (by kernel_rfl) (by simp) ?_
  refine AllReadyH.cons (o := ⟨_, _, _, _, _, _⟩) rfl (fun K hK => ?_) AllReadyH.nil
  go_simp
  go_at_call 15
  refine (HSPK.out _ HXwd.out).mono ?_
  rintro e wa ⟨rfl, hba⟩
  try go_wp2_with fail
  have hszx := hHeld.size
  refine hK.out _ _ (hHeld.trans (hba.mono hszx)) (fun hHeld => ?_)
  clear hK K hszx
  replace hHeld : Below wd.heap.size wd wa := hHeld
  have HXwa := Lib.hid (HXwd.out.trans (hHeld.mono HXwd.out.size))
  have HYwa := Lib.hid (HYwd.out.trans (hHeld.mono HYwd.out.size))
  try simp only [Act.put, List.setIfInBounds_toArray, List.set_cons_zero, List.set_cons_succ]
  refine anyH_mono (S' := fun W => Below wa.heap.size wa W) (fun W h => hHeld.trans (h.mono hHeld.size)) _ _ _ _ ?_
  clear hHeld
  have hHeld : Below wa.heap.size wa wa := Below.refl _ _
  refine wpAnyH_take (i := 1) (oi := ⟨_, _, _, _, _, _⟩) (v := ?_) rfl (by kernel_rfl) (by kernel_rfl) (by kernel_rfl) (fun _ _ _ h => h) (Or.inl ⟨by rfl, ?_⟩) hHeld ?_
  rotate_left 1
  · (intro W hSw; (try dsimp only at hSw); go_simp; try with_reducible rfl)
  try simp only [Act.put, List.setIfInBounds_toArray, List.set_cons_zero, List.set_cons_succ]
  refine wpAnyH_take (i := 2) (oi := ⟨_, _, _, _, _, _⟩) (v := ?_) rfl (by kernel_rfl) (by kernel_rfl) (by kernel_rfl) (fun _ _ _ h => h) (Or.inl ⟨by rfl, ?_⟩) hHeld ?_
  rotate_left 1
  · (intro W hSw; (try dsimp only at hSw); go_simp; try with_reducible rfl)
  try simp only [Act.put, List.setIfInBounds_toArray, List.set_cons_zero, List.set_cons_succ]
  refine wpAnyH_take (i := 3) (oi := ⟨_, _, _, _, _, _⟩) (v := ?_) rfl (by kernel_rfl) (by kernel_rfl) (by kernel_rfl) (fun _ _ _ h => h) (Or.inl ⟨by rfl, ?_⟩) hHeld ?_
  rotate_left 1
  · (intro W hSw; (try dsimp only at hSw); go_simp; try with_reducible rfl)
  try simp only [Act.put, List.setIfInBounds_toArray, List.set_cons_zero, List.set_cons_succ]
  refine wpAnyH_take (i := 4) (oi := ⟨_, _, _, _, _, _⟩) (v := ?_) rfl (by kernel_rfl) (by kernel_rfl) (by kernel_rfl) (fun _ _ _ h => h) (Or.inl ⟨by rfl, ?_⟩) hHeld ?_
  rotate_left 1
  · (intro W hSw; (try dsimp only at hSw); go_simp; try with_reducible rfl)
  try simp only [Act.put, List.setIfInBounds_toArray, List.set_cons_zero, List.set_cons_succ]
  refine wpAnyH_take (i := 5) (oi := ⟨_, _, _, _, _, _⟩) (v := ?_) rfl (by kernel_rfl) (by kernel_rfl) (by kernel_rfl) (fun _ _ _ h => h) (Or.inl ⟨by rfl, ?_⟩) hHeld ?_
  rotate_left 1
  · (intro W hSw; (try dsimp only at hSw); go_simp; try with_reducible rfl)
  try simp only [Act.put, List.setIfInBounds_toArray, List.set_cons_zero, List.set_cons_succ]
  refine wpAnyH_take (i := 6) (oi := ⟨_, _, _, _, _, _⟩) (v := ?_) rfl (by kernel_rfl) (by kernel_rfl) (by kernel_rfl) (fun _ _ _ h => h) (Or.inl ⟨by rfl, ?_⟩) hHeld ?_
  rotate_left 1
  · (intro W hSw; (try dsimp only at hSw); go_simp; try with_reducible rfl)
  try simp only [Act.put, List.setIfInBounds_toArray, List.set_cons_zero, List.set_cons_succ]
  refine' wpAnyH_take (i := 7) (oi := ⟨_, _, _, _, _, _⟩) rfl (by kernel_rfl) (by kernel_rfl) (by kernel_rfl) (fun _ _ _ h => h) (yieldsIf_load_mid (by rfl) 30 _ rfl g7 0 rfl (pkC pc pi pQ A7 pm c7) _ (fun W hSw => rangeAt_of_blk ((H7.out).below (HYwa.out.trans (hSw.mono HYwa.out.size)) (H7.out).lt)) Tryd.underlying30 rfl (infPk.trans (by rw [pkC_length _ _ _ _ _ _ HPQ.out]))) hHeld ?_
  try simp only [Act.put, List.setIfInBounds_toArray, List.set_cons_zero, List.set_cons_succ]
  refine' wpAnyH_take (i := 9) (oi := ⟨_, _, _, _, _, _⟩) rfl (by kernel_rfl) (by kernel_rfl) (by kernel_rfl) (fun _ _ _ h => h) (yieldsIf_load_mid (by rfl) 25 _ rfl g9 0 rfl (pkC pc pi pQ A9 pm c9) _ (fun W hSw => rangeAt_of_blk ((H9.out).below (HYwa.out.trans (hSw.mono HYwa.out.size)) (H9.out).lt)) Tryd.underlying25 rfl (infRP.trans (by rw [pkC_length _ _ _ _ _ _ HPQ.out]))) hHeld ?_
  try simp only [Act.put, List.setIfInBounds_toArray, List.set_cons_zero, List.set_cons_succ]
  refine wpAnyH_ready (rs := [8]) (by kernel_rfl) (by simp) ?_
  refine AllReadyH.cons (o := ⟨_, _, _, _, _, _⟩) rfl (fun K hK => ?_) AllReadyH.nil
  go_simp
  go_at_call 17
  refine (HFR.out _ _ _ (HI7.out.up HYwa.out)).mono ?_
  rintro e wb ⟨Ab, cb, rfl, hIb, hbb⟩
  try go_wp2_with fail
  have hszx := hHeld.size
  refine hK.out _ _ (hHeld.trans (hbb.mono hszx)) (fun hHeld => ?_)
  clear hK K hszx
  replace hHeld : Below wa.heap.size wa wb := hHeld
  have HXwb := Lib.hid (HXwa.out.trans (hHeld.mono HXwa.out.size))
  have HYwb := Lib.hid (HYwa.out.trans (hHeld.mono HYwa.out.size))
  have HIb := Lib.hid hIb
  clear hIb
  try simp only [Act.put, List.setIfInBounds_toArray, List.set_cons_zero, List.set_cons_succ]
  refine anyH_mono (S' := fun W => Below wb.heap.size wb W) (fun W h => hHeld.trans (h.mono hHeld.size)) _ _ _ _ ?_
  clear hHeld
  have hHeld : Below wb.heap.size wb wb := Below.refl _ _
  refine wpAnyH_ready (rs := [10]) (by kernel_rfl) (by simp) ?_
  refine AllReadyH.cons (o := ⟨_, _, _, _, _, _⟩) rfl (fun K hK => ?_) AllReadyH.nil
  go_simp
  go_at_call 16
  refine (HSM.out _ _ _ _ _ HIb.out (HI9.out.up HYwb.out)).mono ?_
  rintro e wc ⟨rfl, hbe⟩
  try go_wp2_with fail
  have hszx := hHeld.size
  refine hK.out _ _ (hHeld.trans (hbe.mono hszx)) (fun hHeld => ?_)
  clear hK K hszx
  replace hHeld : Below wb.heap.size wb wc := hHeld
  have HXwc := Lib.hid (HXwb.out.trans (hHeld.mono HXwb.out.size))
  have HYwc := Lib.hid (HYwb.out.trans (hHeld.mono HYwb.out.size))
  try simp only [Act.put, List.setIfInBounds_toArray, List.set_cons_zero, List.set_cons_succ]
  refine anyH_mono (S' := fun W => Below wc.heap.size wc W) (fun W h => hHeld.trans (h.mono hHeld.size)) _ _ _ _ ?_
  clear hHeld
  have hHeld : Below wc.heap.size wc wc := Below.refl _ _
  refine wpAnyH_take (i := 11) (oi := ⟨_, _, _, _, _, _⟩) (v := ?_) rfl (by kernel_rfl) (by kernel_rfl) (by kernel_rfl) (fun _ _ _ h => h) (Or.inl ⟨by rfl, ?_⟩) hHeld ?_
  rotate_left 1
  · (intro W hSw; (try dsimp only at hSw); go_simp; try with_reducible rfl)
  try simp only [Act.put, List.setIfInBounds_toArray, List.set_cons_zero, List.set_cons_succ]
  refine wpAnyH_take (i := 12) (oi := ⟨_, _, _, _, _, _⟩) (v := ?_) rfl (by kernel_rfl) (by kernel_rfl) (by kernel_rfl) (fun _ _ _ h => h) (Or.inl ⟨by rfl, ?_⟩) hHeld ?_
  rotate_left 1
  · (intro W hSw; (try dsimp only at hSw); go_simp; try with_reducible rfl)
  try simp only [Act.put, List.setIfInBounds_toArray, List.set_cons_zero, List.set_cons_succ]
  refine wpAnyH_take (i := 13) (oi := ⟨_, _, _, _, _, _⟩) (v := ?_) rfl (by kernel_rfl) (by kernel_rfl) (by kernel_rfl) (fun _ _ _ h => h) (Or.inl ⟨by rfl, ?_⟩) hHeld ?_
  rotate_left 1
  · (intro W hSw; (try dsimp only at hSw); go_simp; try with_reducible rfl)
  try simp only [Act.put, List.setIfInBounds_toArray, List.set_cons_zero, List.set_cons_succ]
  refine wpAnyH_take (i := 14) (oi := ⟨_, _, _, _, _, _⟩) (v := ?_) rfl (by kernel_rfl) (by kernel_rfl) (by kernel_rfl) (fun _ _ _ h => h) (Or.inl ⟨by rfl, ?_⟩) hHeld ?_
  rotate_left 1
  · (intro W hSw; (try dsimp only at hSw); go_simp; try with_reducible rfl)
  try simp only [Act.put, List.setIfInBounds_toArray, List.set_cons_zero, List.set_cons_succ]
  refine wpAnyH_take (i := 15) (oi := ⟨_, _, _, _, _, _⟩) (v := ?_) rfl (by kernel_rfl) (by kernel_rfl) (by kernel_rfl) (fun _ _ _ h => h) (Or.inl ⟨by rfl, ?_⟩) hHeld ?_
  rotate_left 1
  · (intro W hSw; (try dsimp only at hSw); go_simp; try with_reducible rfl)
  try simp only [Act.put, List.setIfInBounds_toArray, List.set_cons_zero, List.set_cons_succ]
  refine wpAnyH_take (i := 16) (oi := ⟨_, _, _, _, _, _⟩) (v := ?_) rfl (by kernel_rfl) (by kernel_rfl) (by kernel_rfl) (fun _ _ _ h => h) (Or.inl ⟨by rfl, ?_⟩) hHeld ?_
  rotate_left 1
  · (intro W hSw; (try dsimp only at hSw); go_simp; try with_reducible rfl)
  try simp only [Act.put, List.setIfInBounds_toArray, List.set_cons_zero, List.set_cons_succ]
  refine wpAnyH_take (i := 17) (oi := ⟨_, _, _, _, _, _⟩) (v := ?_) rfl (by kernel_rfl) (by kernel_rfl) (by kernel_rfl) (fun _ _ _ h => h) (Or.inl ⟨by rfl, ?_⟩) hHeld ?_
  rotate_left 1
  · (intro W hSw; (try dsimp only at hSw); go_simp; try with_reducible rfl)
  try simp only [Act.put, List.setIfInBounds_toArray, List.set_cons_zero, List.set_cons_succ]
  refine' wpAnyH_take (i := 18) (oi := ⟨_, _, _, _, _, _⟩) rfl (by kernel_rfl) (by kernel_rfl) (by kernel_rfl) (fun _ _ _ h => h) (yieldsIf_load_mid (by rfl) 30 _ rfl g11 0 rfl (pkC oc oi oQ A11 om c11) _ (fun W hSw => rangeAt_of_blk ((H11.out).below (HYwc.out.trans (hSw.mono HYwc.out.size)) (H11.out).lt)) Tryd.underlying30 rfl (infPk.trans (by rw [pkC_length _ _ _ _ _ _ HOQ.out]))) hHeld ?_
  try simp only [Act.put, List.setIfInBounds_toArray, List.set_cons_zero, List.set_cons_succ]
  refine' wpAnyH_take (i := 20) (oi := ⟨_, _, _, _, _, _⟩) rfl (by kernel_rfl) (by kernel_rfl) (by kernel_rfl) (fun _ _ _ h => h) (yieldsIf_load_mid (by rfl) 25 _ rfl g13 0 rfl (pkC oc oi oQ A13 om c13) _ (fun W hSw => rangeAt_of_blk ((H13.out).below (HYwc.out.trans (hSw.mono HYwc.out.size)) (H13.out).lt)) Tryd.underlying25 rfl (infRP.trans (by rw [pkC_length _ _ _ _ _ _ HOQ.out]))) hHeld ?_
  try simp only [Act.put, List.setIfInBounds_toArray, List.set_cons_zero, List.set_cons_succ]
  refine wpAnyH_ready (rs := [19]) (by kernel_rfl) (by simp) ?_
  refine AllReadyH.cons (o := ⟨_, _, _, _, _, _⟩) rfl (fun K hK => ?_) AllReadyH.nil
  go_simp
  go_at_call 17
  refine (HFRo.out _ _ _ (HI11.out.up HYwc.out)).mono ?_
  rintro e wf ⟨Ac, cc, rfl, hIc, hbf⟩
  try go_wp2_with fail
  have hszx := hHeld.size
  refine hK.out _ _ (hHeld.trans (hbf.mono hszx)) (fun hHeld => ?_)
  clear hK K hszx
  replace hHeld : Below wc.heap.size wc wf := hHeld
  have HXwf := Lib.hid (HXwc.out.trans (hHeld.mono HXwc.out.size))
  have HYwf := Lib.hid (HYwc.out.trans (hHeld.mono HYwc.out.size))
  have HIc := Lib.hid hIc
  clear hIc
  try simp only [Act.put, List.setIfInBounds_toArray, List.set_cons_zero, List.set_cons_succ]
  refine anyH_mono (S' := fun W => Below wf.heap.size wf W) (fun W h => hHeld.trans (h.mono hHeld.size)) _ _ _ _ ?_
  clear hHeld
  have hHeld : Below wf.heap.size wf wf := Below.refl _ _
  refine wpAnyH_ready (rs := [21]) (by kernel_rfl) (by simp) ?_
  refine AllReadyH.cons (o := ⟨_, _, _, _, _, _⟩) rfl (fun K hK => ?_) AllReadyH.nil
  go_simp
  go_at_call 16
  refine (HSMo.out _ _ _ _ _ HIc.out (HI13.out.up HYwf.out)).mono ?_
  rintro e wh ⟨rfl, hbh⟩
  try go_wp2_with fail
  have hszx := hHeld.size
  refine hK.out _ _ (hHeld.trans (hbh.mono hszx)) (fun hHeld => ?_)
  clear hK K hszx
  replace hHeld : Below wf.heap.size wf wh := hHeld
  have HXwh := Lib.hid (HXwf.out.trans (hHeld.mono HXwf.out.size))
  have HYwh := Lib.hid (HYwf.out.trans (hHeld.mono HYwf.out.size))
  try simp only [Act.put, List.setIfInBounds_toArray, List.set_cons_zero, List.set_cons_succ]
  refine anyH_mono (S' := fun W => Below wh.heap.size wh W) (fun W h => hHeld.trans (h.mono hHeld.size)) _ _ _ _ ?_
  clear hHeld
  have hHeld : Below wh.heap.size wh wh := Below.refl _ _
  refine wpAnyH_take (i := 22) (oi := ⟨_, _, _, _, _, _⟩) (v := ?_) rfl (by kernel_rfl) (by kernel_rfl) (by kernel_rfl) (fun _ _ _ h => h) (Or.inl ⟨by rfl, ?_⟩) hHeld ?_
  rotate_left 1
  · (intro W hSw; (try dsimp only at hSw); go_simp; try with_reducible rfl)
  try simp only [Act.put, List.setIfInBounds_toArray, List.set_cons_zero, List.set_cons_succ]
  refine wpAnyH_take (i := 23) (oi := ⟨_, _, _, _, _, _⟩) (v := ?_) rfl (by kernel_rfl) (by kernel_rfl) (by kernel_rfl) (fun _ _ _ h => h) (Or.inl ⟨by rfl, ?_⟩) hHeld ?_
  rotate_left 1
  · (intro W hSw; (try dsimp only at hSw); go_simp; try with_reducible rfl)
  try simp only [Act.put, List.setIfInBounds_toArray, List.set_cons_zero, List.set_cons_succ]
  refine wpAnyH_done (by kernel_rfl) ?_ _
  refine NoPanic.normal ?_
  clear hHeld
  go_wp2
  go_ret
  exact ⟨rfl, HXwh.out⟩
end Go.Proofs.YtbomckbekcaemaaDoor
