/-
  The walk of the statement RadiusWrites.
-/
import Derived.Test.YtbomckbekcaemaaDoorRsi
import Derived.Test.YtbomckbekcaemaaDoorRse
namespace Go.Proofs.YtbomckbekcaemaaDoor
open Go.RowKit

theorem pks_len {code id : Int} {Q : List UInt8} {la : Attrs} {m : Nat} {w w' : World} {e : Ending} (h : PkS code id Q la w e w') (hm : la.length = m) : ∃ A c, e = .returned (.agg (pkC code id Q A m c).toArray) ∧ SIn w' w'.heap.size A c la ∧ Below w.heap.size w w' := by
  subst hm
  obtain ⟨A, m', c, rfl, hS, hb⟩ := h
  obtain ⟨A', c', hv, hI⟩ := hS.slice
  cases hv
  exact ⟨A, c, rfl, hI, hb⟩
theorem pks_row {code id : Int} {Q : List UInt8} {la : Attrs} {m : Nat} {w w' : World} {e : Ending} (h : PkS code id Q la w e w') (hm : la.length = m) : ∃ A c, e = .returned (.agg (pkC code id Q A m c).toArray) ∧ SRow w' w.heap.size (.slice A m c) la ∧ Below w.heap.size w w' := by
  subst hm
  obtain ⟨A, m', c, rfl, hS, hb⟩ := h
  obtain ⟨A', c', hv, hI⟩ := hS.slice
  cases hv
  exact ⟨A, c, rfl, hS, hb⟩
theorem pka_len {code id : Int} {Q : List UInt8} {la : Attrs} {m : Nat} {w w' : World} {e : Ending} (h : PkA code id Q la w e w') (hm : la.length = m) : ∃ A c, e = .returned (.agg (pkC code id Q A m c).toArray) ∧ AIn w' w'.heap.size A c la ∧ Below w.heap.size w w' := by
  subst hm
  obtain ⟨A, m', c, rfl, hS, hb⟩ := h
  obtain ⟨h1, h2⟩ := hS.ain
  subst h1
  exact ⟨A, c, rfl, h2, hb⟩
theorem pkp_len {code id : Int} {Q : List UInt8} {la : Attrs} {m er : Nat} {w w' : World} {e : Ending} (h : PkPost ((code, id, Q, la), er) w e w') (hm : la.length = m) : ∃ A c, e = .returned (.tuple #[.agg (pkC code id Q A m c).toArray, .int .i64 (er : Int)]) ∧ ARow w' w.heap.size (.slice A m c) la ∧ Below w.heap.size w w' := by
  subst hm
  obtain ⟨A, m', c, rfl, hS, _, hb⟩ := h
  obtain ⟨h1, _⟩ := hS.ain
  simp only at h1
  subst h1
  exact ⟨A, c, rfl, hS, hb⟩
theorem rpkp_len {code id : Int} {Q : List UInt8} {la : Attrs} {m er : Nat} {w w' : World} {e : Ending} (h : RPkPost ((code, id, Q, la), er) w e w') (hm : la.length = m) : ∃ A c, e = .returned (.tuple #[.agg (pkC code id Q A m c).toArray, .int .i64 (er : Int)]) ∧ SRow w' w.heap.size (.slice A m c) la ∧ Below w.heap.size w w' := by
  subst hm
  obtain ⟨A, m', c, rfl, hS, _, hb⟩ := h
  obtain ⟨A', c', hv, _⟩ := hS.slice
  cases hv
  exact ⟨A, c, rfl, hS, hb⟩
theorem SRow.sin {w : World} {base m c : Nat} {A : Option Addr} {la : Attrs} (h : SRow w base (.slice A m c) la) : SIn w w.heap.size A c la := by
  obtain ⟨A', c', hv, hI⟩ := h.slice
  cases hv
  exact hI
theorem readE_len (b : List UInt8) : (readE b).1.2.2.1.length = 16 := by
  unfold readE
  split
  · next h => rw [List.length_take, List.length_drop]; omega
  · rfl
theorem saidA_len (b : List UInt8) : (saidA b).length ≤ b.length := by
  generalize hn : b.length = n
  induction n using Nat.strongRecOn generalizing b with
  | _ n ih =>
    by_cases h : 2 ≤ b.length ∧ 2 ≤ (b.getD 1 0).toNat ∧ (b.getD 1 0).toNat ≤ b.length
    · rw [saidA_more h, List.length_cons]
      have := ih (b.drop (b.getD 1 0).toNat).length (by rw [List.length_drop]; omega) (b.drop (b.getD 1 0).toNat) rfl
      rw [List.length_drop] at this
      omega
    · rw [saidA_none h]; simp
theorem readE_few (b : List UInt8) : (readE b).1.2.2.2.length ≤ b.length := by
  unfold readE
  split
  · have := saidA_len (b.drop 20); rw [List.length_drop] at this; show (saidA (b.drop 20)).length ≤ _; omega
  · simp
theorem own_pick {w : World} {base n c : Nat} {A : Option Addr} {bs : List UInt8} (h : Buf w base A n c bs) (hlt : base < w.heap.size) : ∃ gb, base ≤ gb ∧ gb < w.heap.size ∧ (∀ k, A = some ⟨k, 0, none⟩ → k = gb) := by
  rcases h.2 with ⟨rfl, _⟩ | ⟨q, rfl, h1, h2, _⟩
  · exact ⟨base, Nat.le_refl _, hlt, fun k e => by cases e⟩
  · exact ⟨q, h1, h2, fun k e => by cases e; rfl⟩
theorem ix_cutW {n c most q : Nat} (hq : q = min n most) (hc : n ≤ c) : min (n : Int) (most : Int) = (q : Int) ∧ (q : Int) ≤ (c : Int) ∧ (0 : Int) ≤ (q : Int) := by omega
theorem ix_measW {k n : Nat} (h : k < n) (hm : n ≤ 5000) : n - (intOf (.int .i64 (wrap64 ((k : Int) + 1)))).toNat < n - (intOf (.int .i64 (k : Int))).toNat := by
  have : wrap64 ((k : Int) + 1) = ((k + 1 : Nat) : Int) := by unfold wrap64; omega
  rw [this]; simp only [intOf]; omega
set_option maxRecDepth 100000 in
set_option maxHeartbeats 4000000 in
theorem radiusWrites_walk (code id : Int) (Q : List UInt8) (Ap A0 : Option Addr) (np cp c0 n0 : Nat) (la : Attrs) (b0 : List UInt8) (w : World) (hQ : Q.length = 16) (hnp : la.length = np) (iP : SIn w w.heap.size Ap cp la) (hn0 : b0.length = n0) (i0 : In w w.heap.size A0 c0 b0) (ht : TabsQ w) :
    Calls Tryd.prog 3 #[.agg (pkC code id Q Ap np cp).toArray, .slice A0 n0 c0] w fun e w' => e = .returned (.bool true) ∧ Below w.heap.size w w' := by
  obtain ⟨n1, hn1⟩ : ∃ n1, n1 = min n0 4200 := ⟨_, rfl⟩
  obtain ⟨hm1, hm2, hm3⟩ := ix_cutW (most := 4200) hn1 (show n0 ≤ c0 by rw [← hn0]; exact i0.1)
  replace hm1 : min (n0 : Int) 4200 = (n1 : Int) := hm1
  have hb1 : (b0.take n1).length = n1 := by rw [List.length_take]; omega
  have i1 := i0.take n1
  generalize b0.take n1 = b at *
  have hb9 : n1 ≤ 4200 := by omega
  obtain ⟨htl, htv⟩ := tameA_bounds la
  have HTAM0 := fun (W : World) (m : Nat) (hm : (tameA la).length = m) (h : Below w.heap.size w W) => (show Calls Tryd.prog 11 #[.agg (pkC code id Q Ap np cp).toArray] W _ from (tame_e code id Q Ap cp np la W hQ hnp (iP.up h)).mono (fun e w' h => pks_row h hm))
  generalize tameA la = tl at *
  obtain ⟨m, hm⟩ : ∃ m, tl.length = m := ⟨_, rfl⟩
  have hm20 : m ≤ 20 := by omega
  have HTAM := Lib.hid (fun (W : World) (h : Below w.heap.size w W) => HTAM0 W m hm h)
  have HTO := Lib.hid (fun (W : World) (A : Option Addr) (c : Nat) (h : SIn W W.heap.size A c tl) => (show Calls Tryd.prog 12 #[.agg (pkC code id Q A m c).toArray] W _ from (to_e code id Q A c m tl W hQ hm h (by omega) (fun j hj => Nat.le_trans (htv j hj) (by decide))).mono (fun e w' h => pka_len h hm)))
  obtain ⟨S, er, hSE⟩ : ∃ S er, writeE code id Q tl = (S, er) := ⟨_, _, rfl⟩
  have HSE := Lib.hid (show (er = 0 ∧ readE S = ((code, id, Q, tl), 0) ∧ 0 < S.length) ∨ (er = 2 ∧ S = []) by
    by_cases hk : pkOK code id tl = true
    · have : writeE code id Q tl = (pkB code id Q tl, 0) := by unfold writeE; rw [if_pos hk]
      rw [hSE] at this
      injection this with e1 e2
      subst e1 e2
      exact .inl ⟨rfl, read_write hQ hk, by rw [pkB_length _ _ _ _ hQ]; omega⟩
    · have : writeE code id Q tl = ([], 2) := by unfold writeE; rw [if_neg hk]
      rw [hSE] at this
      injection this with e1 e2
      exact .inr ⟨e2, e1⟩)
  have HWR := Lib.hid (fun (W : World) (A : Option Addr) (c : Nat) (h : AIn W W.heap.size A c tl) => (show Calls Tryd.prog 13 #[.agg (pkC code id Q A m c).toArray] W (WrapPost (S, er) W) by rw [← hSE]; exact write_e c m code id Q A tl W hQ hm h))
  unfold WrapPost at HWR
  have HRW := Lib.hid (fun (W : World) (A : Option Addr) (c : Nat) (h : SIn W W.heap.size A c tl) => (show Calls Tryd.prog 14 #[.agg (pkC code id Q A m c).toArray] W (fun e w' => e = .returned (.tuple #[.string ⟨S.toArray⟩, .int .i64 (er : Int)]) ∧ Below W.heap.size W w') by
    have := rwrite_e c m code id Q A tl W hQ hm h
    rwa [hSE] at this))
  have HSPK := Lib.hid (fun (W : World) (hb : Below w.heap.size w W) => speaks_e W (ht.below hb))
  have HFR := Lib.hid (fun (W : World) (A : Option Addr) (c : Nat) (h : AIn W W.heap.size A c tl) => (show Calls Tryd.prog 17 #[.agg (pkC code id Q A m c).toArray] W _ from (from_e code id Q A c m tl W hQ hm h (by omega)).mono (fun e w' h => pks_len h hm)))
  have HSM := Lib.hid (fun (W : World) (A A' : Option Addr) (c c' : Nat) (h : SIn W W.heap.size A c tl) (h' : SIn W W.heap.size A' c' tl) => (show Calls Tryd.prog 16 #[.agg (pkC code id Q A m c).toArray, .agg (pkC code id Q A' m c').toArray] W (fun e w' => e = .returned (.bool true) ∧ Below W.heap.size W w') by have := same_e code code id id Q Q A A' c c' m m tl tl W hQ hQ hm h hm h'; simpa using this))
  have hqL := readE_len b
  have hqF := readE_few b
  obtain ⟨qc, qi, qQ, ql, qe, hE⟩ : ∃ qc qi qQ ql qe, readE b = ((qc, qi, qQ, ql), qe) := ⟨_, _, _, _, _, rfl⟩
  rw [hE] at hqL hqF
  simp only at hqL hqF
  obtain ⟨mq, hmq⟩ : ∃ mq, ql.length = mq := ⟨_, rfl⟩
  have HRD := Lib.hid (fun (W : World) (A : Option Addr) (c : Nat) (h : In W W.heap.size A c b) => (show Calls Tryd.prog 18 #[.slice A n1 c] W _ from (read_e A c n1 b W hb1 h).mono (fun e w' h => pkp_len (by rw [hE] at h; exact h) hmq)))
  have HRRD := Lib.hid (fun (W : World) => (show Calls Tryd.prog 19 #[.string ⟨b.toArray⟩] W _ from (rread_e b W).mono (fun e w' h => rpkp_len (by rw [hE] at h; exact h) hmq)))
  have HFRq := Lib.hid (fun (W : World) (A : Option Addr) (c : Nat) (h : AIn W W.heap.size A c ql) => (show Calls Tryd.prog 17 #[.agg (pkC qc qi qQ A mq c).toArray] W _ from (from_e qc qi qQ A c mq ql W hqL hmq h (by omega)).mono (fun e w' h => pks_len h hmq)))
  have HSMq := Lib.hid (fun (W : World) (A A' : Option Addr) (c c' : Nat) (h : SIn W W.heap.size A c ql) (h' : SIn W W.heap.size A' c' ql) => (show Calls Tryd.prog 16 #[.agg (pkC qc qi qQ A mq c).toArray, .agg (pkC qc qi qQ A' mq c').toArray] W (fun e w' => e = .returned (.bool true) ∧ Below W.heap.size W w') by have := same_e qc qc qi qi qQ qQ A A' c c' mq mq ql ql W hqL hqL hmq h hmq h'; simpa using this))
  have HRX := Lib.hid (fun (hr : readE S = ((code, id, Q, tl), 0)) (W : World) (A : Option Addr) (c M : Nat) (hM : S.length = M) (h : In W W.heap.size A c S) => (show Calls Tryd.prog 18 #[.slice A M c] W _ from (read_e A c M S W hM h).mono (fun e w' h => pkp_len (by rw [hr] at h; exact h) hm)))
  have HQL := Lib.hid hQ
  have HQQ := Lib.hid hqL
  have HN1 := Lib.hid hb1
  have HN9 := Lib.hid hb9
  have HI0 := Lib.hid i1
  clear hn1 hn0 i0 hb1 i1 hb9 htl htv HTAM0 hnp iP hm hm20 hSE hqL hqF hE hmq hQ ht
  go_enter Tryd.func3, Tryd.ntmps3
  go_upto_region 1 with (fail)
  have hP := Blk.new_of w 25 (pkC code id Q Ap np cp).toArray (pkC code id Q Ap np cp) rfl
  have hb0 : Below w.heap.size w (w.alloc (.cells (pkC code id Q Ap np cp).toArray 25)) := (Below.refl _ _).alloc (Nat.le_refl _) _
  obtain ⟨g, hg⟩ : ∃ g, g = w.heap.size := ⟨_, rfl⟩
  have HG := Lib.hid (show w.heap.size ≤ g by rw [hg]; exact Nat.le_refl _)
  rw [← hg] at hP
  simp only [← hg]
  have HX1 := Lib.hid hb0
  clear hg hb0
  generalize w.alloc (.cells (pkC code id Q Ap np cp).toArray 25) = w1 at *
  go_upto_region 2 with (first
    | ((with_reducible refine (?_ : wpList _ _ _ (Oper.mk (some 14) _ _ _ _ _ :: _) _ _)); go_loud (refine wpList_load_blk rfl 25 (.tmp 2) rfl g rfl _ _ _ (hP) Tryd.underlying25 rfl (infRP.trans (by rw [pkC_length _ _ _ _ _ _ HQL.out])) ?_))
    | (go_at_call 11; refine (HTAM.out _ HX1.out).mono ?_; rintro e w2 ⟨A2, c2, rfl, hI2, hb2⟩)
    | ((with_reducible refine (?_ : wpList _ _ _ (Oper.mk none _ _ _ _ _ :: _) _ _)); go_loud (refine wpList_store_blk rfl 25 (.tmp 2) (.tmp 15) rfl rfl g (pkC code id Q A2 m c2) rfl rfl _ _ (hP.below hb2 hP.lt) (infRP.trans (by rw [pkC_length _ _ _ _ _ _ HQL.out])) (by rw [pkC_length _ _ _ _ _ _ HQL.out]; first | rfl | rw [pkC_length _ _ _ _ _ _ HQL.out]) (pk_one _ _ _ _ _ _) ?_); intro w3 hP3 hg3))
  have HX3 := Lib.hid (below_new (HX1.out.trans (hb2.mono HX1.out.size)) hg3 HG.out (Nat.le_trans HX1.out.size hb2.size))
  have HP3 := Lib.hid hP3
  have HI3 := Lib.hid (hI2.grown hg3 (show g < w1.heap.size from hP.lt)).sin
  clear hP hb2 hI2 hg3 hP3
  have hB0 := buf_empty w3
  have hal : Below w3.heap.size w3 (w3.alloc (.cells #[] 5)) := (Below.refl _ _).alloc (Nat.le_refl _) _
  have HSRC := Lib.hid (show _root_.Go.Src Tryd.prog 1 26 (.slice A0 n1 c0) b.length (b.map B8) (w3.alloc (.cells #[] 5)) from src_at (((HI0.out.up HX3.out).up hal).src (Nat.le_refl _)) HN1.out)
  have hnn : 0 + b.length ≤ 1099511627776 := by have := HN1.out; have := HN9.out; omega
  go_upto_region 3 with ((with_reducible refine (?_ : wpList _ _ _ (Oper.mk (some 22) _ _ _ _ _ :: _) _ _)); go_loud (refine wpList_append_far rfl (.tmp 16) (.tmp 21) 26 rfl w3.heap.size _ 0 0 [] b _ rfl hB0 rfl HSRC.out hnn hal.size n1 (by rw [HN1.out, Nat.zero_add]) ?_); intro A4 c4 w4 hB4 hg4 _)
  have HY4 := Lib.hid (below_own hal hB0 hg4 (Nat.le_refl _) hal.size)
  replace hB4 : Buf w4 w3.heap.size A4 n1 c4 b := hB4
  have hlt4 : w3.heap.size < w4.heap.size := Nat.lt_of_lt_of_le (by simp) hg4.size
  obtain ⟨gb, hgb1, hgb2, hgb3⟩ := own_pick hB4 hlt4
  have HGB := Lib.hid (And.intro hgb1 (And.intro hgb2 hgb3))
  have HB4 := Lib.hid hB4
  have HX4 := Lib.hid (HX3.out.trans (HY4.out.mono HX3.out.size))
  have HI4 := Lib.hid (HI3.out.up HY4.out)
  have hP4 := HP3.out.below HY4.out HP3.out.lt
  clear hB0 hal hnn hg4 hB4 hlt4 hgb1 hgb2 hgb3 hm1 hm2 hm3
  go_upto_region 4 with (first
    | ((with_reducible refine (?_ : wpList _ _ _ (Oper.mk (some 23) _ _ _ _ _ :: _) _ _)); go_loud (refine wpList_load_blk rfl 25 (.tmp 2) rfl g rfl _ _ _ (hP4) Tryd.underlying25 rfl (infRP.trans (by rw [pkC_length _ _ _ _ _ _ HQL.out])) ?_))
    | (go_at_call 12; refine (HTO.out _ _ _ HI4.out).mono ?_; rintro e w5 ⟨A5, c5, rfl, hA5, hb5⟩)
    | ((with_reducible refine (?_ : wpList _ _ _ (Oper.mk none _ _ _ _ _ :: _) _ _)); go_loud (refine wpList_store_blk rfl 30 (.tmp 5) (.tmp 24) rfl rfl w5.heap.size (pkC code id Q A5 m c5) rfl rfl _ _ (Blk.new_of w5 30 #[.int .i64 0, .int .i64 0, .int .u8 0, .int .u8 0, .int .u8 0, .int .u8 0, .int .u8 0, .int .u8 0, .int .u8 0, .int .u8 0, .int .u8 0, .int .u8 0, .int .u8 0, .int .u8 0, .int .u8 0, .int .u8 0, .int .u8 0, .int .u8 0, .slice none 0 0] (pkC 0 0 zQ none 0 0) rfl) (infPk.trans (by rw [pkC_length _ _ _ _ _ _ HQL.out])) (by rw [pkC_length _ _ _ _ _ _ HQL.out]; first | rfl | rw [pkC_length _ _ _ _ _ _ HQL.out]) (pk_one _ _ _ _ _ _) ?_); intro w6 hP6 hg6))
  have h5a : Below w5.heap.size w5 (w5.alloc (.cells #[.int .i64 0, .int .i64 0, .int .u8 0, .int .u8 0, .int .u8 0, .int .u8 0, .int .u8 0, .int .u8 0, .int .u8 0, .int .u8 0, .int .u8 0, .int .u8 0, .int .u8 0, .int .u8 0, .int .u8 0, .int .u8 0, .int .u8 0, .int .u8 0, .slice none 0 0] 30)) := (Below.refl _ _).alloc (Nat.le_refl _) _
  have hb56 : Below w5.heap.size w5 w6 := below_new h5a hg6 (Nat.le_refl _) h5a.size
  have hb46 := hb5.trans (hb56.mono hb5.size)
  have HA6 := Lib.hid (hA5.up hb56)
  have HG5 := Lib.hid (show w4.heap.size ≤ w5.heap.size from hb5.size)
  obtain ⟨g5, hg5⟩ : ∃ g5, g5 = w5.heap.size := ⟨_, rfl⟩
  rw [← hg5] at hP6 HG5
  simp only [← hg5]
  have HY6 := Lib.hid hb46
  have HX6 := Lib.hid (HX4.out.trans (hb46.mono HX4.out.size))
  clear h5a hb56 hb5 hA5 hg6 hg5 hb46 hP4
  go_upto_region 5 with (first
    | ((with_reducible refine (?_ : wpList _ _ _ (Oper.mk (some 26) _ _ _ _ _ :: _) _ _)); go_loud (refine wpList_load_blk rfl 30 (.tmp 5) rfl g5 rfl _ _ _ (hP6) Tryd.underlying30 rfl (infPk.trans (by rw [pkC_length _ _ _ _ _ _ HQL.out])) ?_))
    | (go_at_call 13; refine (HWR.out _ _ _ HA6.out).mono ?_; rintro e w7 ⟨A7, M7, c7, rfl, hB7, hb7⟩))
  have HP7 := Lib.hid (HP3.out.below (HY4.out.trans ((HY6.out.trans (hb7.mono HY6.out.size)).mono HY4.out.size)) HP3.out.lt)
  have HI7 := Lib.hid (HI4.out.up (HY6.out.trans (hb7.mono HY6.out.size)))
  have H57 := Lib.hid (hP6.below hb7 hP6.lt)
  have HA7 := Lib.hid (HA6.out.up hb7)
  have HBb7 := Lib.hid (HB4.out.below (HY6.out.trans (hb7.mono HY6.out.size)))
  have HBx7 := Lib.hid hB7
  have HX7 := Lib.hid (HX6.out.trans (hb7.mono HX6.out.size))
  have HY7 := Lib.hid (HY6.out.trans (hb7.mono HY6.out.size))
  have HG6 := Lib.hid (show gb < w6.heap.size from Nat.lt_of_lt_of_le HGB.out.2.1 HY6.out.size)
  have hP7 := HP7.out
  clear hP6 hB7 hb7
  go_upto_region 6 with (first
    | ((with_reducible refine (?_ : wpList _ _ _ (Oper.mk (some 31) _ _ _ _ _ :: _) _ _)); go_loud (refine wpList_load_blk rfl 25 (.tmp 2) rfl g rfl _ _ _ (hP7) Tryd.underlying25 rfl (infRP.trans (by rw [pkC_length _ _ _ _ _ _ HQL.out])) ?_))
    | (go_at_call 14; refine (HRW.out _ _ _ HI7.out).mono ?_; rintro e w8 ⟨rfl, hb8⟩))
  have HP8 := Lib.hid (HP7.out.below hb8 HP7.out.lt)
  have HI8 := Lib.hid (HI7.out.up hb8)
  have H5 := Lib.hid (H57.out.below hb8 H57.out.lt)
  have HA8 := Lib.hid (HA7.out.up hb8)
  have HBb := Lib.hid (HBb7.out.below hb8)
  have HBx := Lib.hid (HBx7.out.below hb8)
  have HY8 := Lib.hid (HY7.out.trans (hb8.mono HY7.out.size))
  have HXw8 := Lib.hid (HX7.out.trans (hb8.mono HX7.out.size))
  clear hb8 hP7 HP7 HI7 H57 HA7 HBb7 HBx7 HX7 HA6
  refine wp_region_noPanic ?_
  refine wp_region_held_drew (S := fun W => Below w8.heap.size w8 W) (by kernel_rfl) (by exact below_drewN (Below.refl _ _) 1) (fun hHeld => ?_)
  replace hHeld : Below w8.heap.size w8 w8.drew := hHeld
  have HXwd := Lib.hid (HXw8.out.trans (hHeld.mono HXw8.out.size))
  have HYwd := Lib.hid (show Below w8.heap.size w8 w8.drew from hHeld)
  generalize w8.drew = wd at *
  refine anyH_mono (S' := fun W => Below wd.heap.size wd W) (fun W h => hHeld.trans (h.mono hHeld.size)) _ _ _ _ ?_
  clear hHeld
  have hHeld : Below wd.heap.size wd wd := Below.refl _ _
  refine wpAnyH_ready (rs := [0]) (by kernel_rfl) (by simp) ?_
  refine AllReadyH.cons (o := ⟨_, _, _, _, _, _⟩) rfl (fun K hK => ?_) AllReadyH.nil
  go_simp
  go_at_call 15
  refine (HSPK.out _ HXwd.out).mono ?_
  rintro e wa ⟨rfl, hba⟩
  try go_wp2_with fail
  have hszx := hHeld.size
  refine hK.out _ _ (hHeld.trans (hba.mono hszx)) (fun hHeld => ?_)
  clear hK K hszx
  replace hHeld : Below wd.heap.size wd wa := hHeld
  have HXwa := Lib.hid (HXwd.out.trans (hHeld.mono HXwd.out.size))
  have HYwa := Lib.hid (HYwd.out.trans (hHeld.mono HYwd.out.size))
  try simp only [Act.put, List.setIfInBounds_toArray, List.set_cons_zero, List.set_cons_succ]
  refine anyH_mono (S' := fun W => Below wa.heap.size wa W) (fun W h => hHeld.trans (h.mono hHeld.size)) _ _ _ _ ?_
  clear hHeld
  have hHeld : Below wa.heap.size wa wa := Below.refl _ _
  refine wpAnyH_take (i := 1) (oi := ⟨_, _, _, _, _, _⟩) (v := ?_) rfl (by kernel_rfl) (by kernel_rfl) (by kernel_rfl) (fun _ _ _ h => h) (Or.inl ⟨by rfl, ?_⟩) hHeld ?_
  rotate_left 1
  · (intro W hSw; (try dsimp only at hSw); go_simp; try with_reducible rfl)
  try simp only [Act.put, List.setIfInBounds_toArray, List.set_cons_zero, List.set_cons_succ]
  refine wpAnyH_take (i := 2) (oi := ⟨_, _, _, _, _, _⟩) (v := ?_) rfl (by kernel_rfl) (by kernel_rfl) (by kernel_rfl) (fun _ _ _ h => h) (Or.inl ⟨by rfl, ?_⟩) hHeld ?_
  rotate_left 1
  · (intro W hSw; (try dsimp only at hSw); go_simp; try with_reducible rfl)
  try simp only [Act.put, List.setIfInBounds_toArray, List.set_cons_zero, List.set_cons_succ]
  refine wpAnyH_take (i := 3) (oi := ⟨_, _, _, _, _, _⟩) (v := ?_) rfl (by kernel_rfl) (by kernel_rfl) (by kernel_rfl) (fun _ _ _ h => h) (Or.inl ⟨by rfl, ?_⟩) hHeld ?_
  rotate_left 1
  · (intro W hSw; (try dsimp only at hSw); go_simp; try with_reducible rfl)
  try simp only [Act.put, List.setIfInBounds_toArray, List.set_cons_zero, List.set_cons_succ]
  refine wpAnyH_take (i := 4) (oi := ⟨_, _, _, _, _, _⟩) (v := ?_) rfl (by kernel_rfl) (by kernel_rfl) (by kernel_rfl) (fun _ _ _ h => h) (Or.inl ⟨by rfl, ?_⟩) hHeld ?_
  rotate_left 1
  · (intro W hSw; (try dsimp only at hSw); have hcv := conv_in HBx.out.1 ((HBx.out.toIn (Nat.le_refl _)).up (HYwa.out.trans (hSw.mono HYwa.out.size))); go_simp; try with_reducible rfl)
  try simp only [Act.put, List.setIfInBounds_toArray, List.set_cons_zero, List.set_cons_succ]
  refine wpAnyH_take (i := 5) (oi := ⟨_, _, _, _, _, _⟩) (v := ?_) rfl (by kernel_rfl) (by kernel_rfl) (by kernel_rfl) (fun _ _ _ h => h) (Or.inl ⟨by rfl, ?_⟩) hHeld ?_
  rotate_left 1
  · (intro W hSw; (try dsimp only at hSw); go_simp; try with_reducible rfl)
  try simp only [Act.put, List.setIfInBounds_toArray, List.set_cons_zero, List.set_cons_succ]
  refine wpAnyH_take (i := 6) (oi := ⟨_, _, _, _, _, _⟩) (v := ?_) rfl (by kernel_rfl) (by kernel_rfl) (by kernel_rfl) (fun _ _ _ h => h) (Or.inl ⟨by rfl, ?_⟩) hHeld ?_
  rotate_left 1
  · (intro W hSw; (try dsimp only at hSw); go_simp; try with_reducible rfl)
  try simp only [Act.put, List.setIfInBounds_toArray, List.set_cons_zero, List.set_cons_succ]
  refine wpAnyH_take (i := 7) (oi := ⟨_, _, _, _, _, _⟩) (v := ?_) rfl (by kernel_rfl) (by kernel_rfl) (by kernel_rfl) (fun _ _ _ h => h) (Or.inl ⟨by rfl, ?_⟩) hHeld ?_
  rotate_left 1
  · (intro W hSw; (try dsimp only at hSw); go_simp; try with_reducible rfl)
  try simp only [Act.put, List.setIfInBounds_toArray, List.set_cons_zero, List.set_cons_succ]
  refine wpAnyH_take (i := 8) (oi := ⟨_, _, _, _, _, _⟩) (v := ?_) rfl (by kernel_rfl) (by kernel_rfl) (by kernel_rfl) (fun _ _ _ h => h) (Or.inl ⟨by rfl, ?_⟩) hHeld ?_
  rotate_left 1
  · (intro W hSw; (try dsimp only at hSw); go_simp; try with_reducible rfl)
  try simp only [Act.put, List.setIfInBounds_toArray, List.set_cons_zero, List.set_cons_succ]
  refine wpAnyH_take (i := 9) (oi := ⟨_, _, _, _, _, _⟩) (v := ?_) rfl (by kernel_rfl) (by kernel_rfl) (by kernel_rfl) (fun _ _ _ h => h) (Or.inl ⟨by rfl, ?_⟩) hHeld ?_
  rotate_left 1
  · (intro W hSw; (try dsimp only at hSw); go_simp; try with_reducible rfl)
  try simp only [Act.put, List.setIfInBounds_toArray, List.set_cons_zero, List.set_cons_succ]
  refine wpAnyH_take (i := 10) (oi := ⟨_, _, _, _, _, _⟩) (v := ?_) rfl (by kernel_rfl) (by kernel_rfl) (by kernel_rfl) (fun _ _ _ h => h) (Or.inl ⟨by rfl, ?_⟩) hHeld ?_
  rotate_left 1
  · (intro W hSw; (try dsimp only at hSw); go_simp; try with_reducible rfl)
  try simp only [Act.put, List.setIfInBounds_toArray, List.set_cons_zero, List.set_cons_succ]
  refine wpAnyH_take (i := 11) (oi := ⟨_, _, _, _, _, _⟩) (v := ?_) rfl (by kernel_rfl) (by kernel_rfl) (by kernel_rfl) (fun _ _ _ h => h) (Or.inl ⟨by rfl, ?_⟩) hHeld ?_
  rotate_left 1
  · (intro W hSw; (try dsimp only at hSw); go_simp; try with_reducible rfl)
  try simp only [Act.put, List.setIfInBounds_toArray, List.set_cons_zero, List.set_cons_succ]
  refine wpAnyH_take (i := 12) (oi := ⟨_, _, _, _, _, _⟩) (v := ?_) rfl (by kernel_rfl) (by kernel_rfl) (by kernel_rfl) (fun _ _ _ h => h) (Or.inl ⟨by rfl, ?_⟩) hHeld ?_
  rotate_left 1
  · (intro W hSw; (try dsimp only at hSw); go_simp; try with_reducible rfl)
  try simp only [Act.put, List.setIfInBounds_toArray, List.set_cons_zero, List.set_cons_succ]
  refine wpAnyH_take (i := 13) (oi := ⟨_, _, _, _, _, _⟩) (v := ?_) rfl (by kernel_rfl) (by kernel_rfl) (by kernel_rfl) (fun _ _ _ h => h) (Or.inl ⟨by rfl, ?_⟩) hHeld ?_
  rotate_left 1
  · (intro W hSw; (try dsimp only at hSw); go_simp; try with_reducible rfl)
  try simp only [Act.put, List.setIfInBounds_toArray, List.set_cons_zero, List.set_cons_succ]
  refine' wpAnyH_take (i := 14) (oi := ⟨_, _, _, _, _, _⟩) rfl (by kernel_rfl) (by kernel_rfl) (by kernel_rfl) (fun _ _ _ h => h) (yieldsIf_load_mid (by rfl) 30 _ rfl g5 0 rfl (pkC code id Q A5 m c5) _ (fun W hSw => rangeAt_of_blk ((H5.out).below (HYwa.out.trans (hSw.mono HYwa.out.size)) (H5.out).lt)) Tryd.underlying30 rfl (infPk.trans (by rw [pkC_length _ _ _ _ _ _ HQL.out]))) hHeld ?_
  try simp only [Act.put, List.setIfInBounds_toArray, List.set_cons_zero, List.set_cons_succ]
  refine' wpAnyH_take (i := 16) (oi := ⟨_, _, _, _, _, _⟩) rfl (by kernel_rfl) (by kernel_rfl) (by kernel_rfl) (fun _ _ _ h => h) (yieldsIf_load_mid (by rfl) 25 _ rfl g 0 rfl (pkC code id Q A2 m c2) _ (fun W hSw => rangeAt_of_blk ((HP8.out).below (HYwa.out.trans (hSw.mono HYwa.out.size)) (HP8.out).lt)) Tryd.underlying25 rfl (infRP.trans (by rw [pkC_length _ _ _ _ _ _ HQL.out]))) hHeld ?_
  try simp only [Act.put, List.setIfInBounds_toArray, List.set_cons_zero, List.set_cons_succ]
  refine wpAnyH_ready (rs := [15]) (by kernel_rfl) (by simp) ?_
  refine AllReadyH.cons (o := ⟨_, _, _, _, _, _⟩) rfl (fun K hK => ?_) AllReadyH.nil
  go_simp
  go_at_call 17
  refine (HFR.out _ _ _ (HA8.out.up HYwa.out)).mono ?_
  rintro e wb ⟨Ab, cb, rfl, hIb, hbb⟩
  try go_wp2_with fail
  have hszx := hHeld.size
  refine hK.out _ _ (hHeld.trans (hbb.mono hszx)) (fun hHeld => ?_)
  clear hK K hszx
  replace hHeld : Below wa.heap.size wa wb := hHeld
  have HXwb := Lib.hid (HXwa.out.trans (hHeld.mono HXwa.out.size))
  have HYwb := Lib.hid (HYwa.out.trans (hHeld.mono HYwa.out.size))
  have HIb := Lib.hid hIb
  clear hIb
  try simp only [Act.put, List.setIfInBounds_toArray, List.set_cons_zero, List.set_cons_succ]
  refine anyH_mono (S' := fun W => Below wb.heap.size wb W) (fun W h => hHeld.trans (h.mono hHeld.size)) _ _ _ _ ?_
  clear hHeld
  have hHeld : Below wb.heap.size wb wb := Below.refl _ _
  refine wpAnyH_ready (rs := [17]) (by kernel_rfl) (by simp) ?_
  refine AllReadyH.cons (o := ⟨_, _, _, _, _, _⟩) rfl (fun K hK => ?_) AllReadyH.nil
  go_simp
  go_at_call 16
  refine (HSM.out _ _ _ _ _ HIb.out (HI8.out.up HYwb.out)).mono ?_
  rintro e wc ⟨rfl, hbe⟩
  try go_wp2_with fail
  have hszx := hHeld.size
  refine hK.out _ _ (hHeld.trans (hbe.mono hszx)) (fun hHeld => ?_)
  clear hK K hszx
  replace hHeld : Below wb.heap.size wb wc := hHeld
  have HXwc := Lib.hid (HXwb.out.trans (hHeld.mono HXwb.out.size))
  have HYwc := Lib.hid (HYwb.out.trans (hHeld.mono HYwb.out.size))
  try simp only [Act.put, List.setIfInBounds_toArray, List.set_cons_zero, List.set_cons_succ]
  refine anyH_mono (S' := fun W => Below wc.heap.size wc W) (fun W h => hHeld.trans (h.mono hHeld.size)) _ _ _ _ ?_
  clear hHeld
  have hHeld : Below wc.heap.size wc wc := Below.refl _ _
  refine wpAnyH_take (i := 18) (oi := ⟨_, _, _, _, _, _⟩) (v := ?_) rfl (by kernel_rfl) (by kernel_rfl) (by kernel_rfl) (fun _ _ _ h => h) (Or.inl ⟨by rfl, ?_⟩) hHeld ?_
  rotate_left 1
  · (intro W hSw; (try dsimp only at hSw); go_simp; try with_reducible rfl)
  try simp only [Act.put, List.setIfInBounds_toArray, List.set_cons_zero, List.set_cons_succ]
  refine wpAnyH_take (i := 19) (oi := ⟨_, _, _, _, _, _⟩) (v := ?_) rfl (by kernel_rfl) (by kernel_rfl) (by kernel_rfl) (fun _ _ _ h => h) (Or.inl ⟨by rfl, ?_⟩) hHeld ?_
  rotate_left 1
  · (intro W hSw; (try dsimp only at hSw); go_simp; try with_reducible rfl)
  try simp only [Act.put, List.setIfInBounds_toArray, List.set_cons_zero, List.set_cons_succ]
  refine wpAnyH_done (by kernel_rfl) ?_ _
  refine NoPanic.normal ?_
  clear hHeld
  have HYc := Lib.hid (HY8.out.trans (HYwc.out.mono HY8.out.size))
  have HBxc := Lib.hid (HBx.out.below HYwc.out)
  have HBbc := Lib.hid (HBb.out.below HYwc.out)
  have HGC := Lib.hid (show gb < wc.heap.size from Nat.lt_of_lt_of_le HGB.out.2.1 HYc.out.size)
  clear HA8 H5 HP8 HBx HBb HIb
  go_upto_region 9 with (first
    | (go_at_call 18; refine (HRD.out _ _ _ (HBbc.out.toIn (Nat.le_refl _))).mono ?_; rintro e w10 ⟨A10, c10, rfl, hA10, hb10⟩)
    | ((with_reducible refine (?_ : wpList _ _ _ (Oper.mk none _ _ _ _ _ :: _) _ _)); go_loud (refine wpList_store_blk rfl 30 (.tmp 10) (.tmp 58) rfl rfl w10.heap.size (pkC qc qi qQ A10 mq c10) rfl rfl _ _ (Blk.new_of w10 30 #[.int .i64 0, .int .i64 0, .int .u8 0, .int .u8 0, .int .u8 0, .int .u8 0, .int .u8 0, .int .u8 0, .int .u8 0, .int .u8 0, .int .u8 0, .int .u8 0, .int .u8 0, .int .u8 0, .int .u8 0, .int .u8 0, .int .u8 0, .int .u8 0, .slice none 0 0] (pkC 0 0 zQ none 0 0) rfl) (infPk.trans (by rw [pkC_length _ _ _ _ _ _ HQQ.out])) (by rw [pkC_length _ _ _ _ _ _ HQQ.out]; first | rfl | rw [pkC_length _ _ _ _ _ _ HQL.out]) (pk_one _ _ _ _ _ _) ?_); intro w11 hP11 hg11))
  have h10a : Below w10.heap.size w10 (w10.alloc (.cells #[.int .i64 0, .int .i64 0, .int .u8 0, .int .u8 0, .int .u8 0, .int .u8 0, .int .u8 0, .int .u8 0, .int .u8 0, .int .u8 0, .int .u8 0, .int .u8 0, .int .u8 0, .int .u8 0, .int .u8 0, .int .u8 0, .int .u8 0, .int .u8 0, .slice none 0 0] 30)) := (Below.refl _ _).alloc (Nat.le_refl _) _
  have hb11 : Below w10.heap.size w10 w11 := below_new h10a hg11 (Nat.le_refl _) h10a.size
  have HA11 := Lib.hid (hA10.below hb11)
  have HYc11 := Lib.hid (hb10.trans (hb11.mono hb10.size))
  have HGD := Lib.hid (show gb < w10.heap.size from Nat.lt_of_lt_of_le HGC.out hb10.size)
  have HGE := Lib.hid (show gb < w11.heap.size from Nat.lt_of_lt_of_le HGC.out HYc11.out.size)
  obtain ⟨g10, hg10⟩ : ∃ g10, g10 = w10.heap.size := ⟨_, rfl⟩
  rw [← hg10] at hP11 HGD
  simp only [← hg10]
  have H10b := Lib.hid hP11
  have HX11 := Lib.hid (HXwc.out.trans (HYc11.out.mono HXwc.out.size))
  have hcv := conv_in HN1.out ((HBbc.out.toIn (Nat.le_refl _)).up HYc11.out)
  clear h10a hb11 hA10 hb10 hg11 hP11 hg10
  go_upto_region 10 with (first
    | (go_at_call 19; refine (HRRD.out _).mono ?_; rintro e w12 ⟨A11, c11, rfl, hS11, hb12⟩)
    | ((with_reducible refine (?_ : wpList _ _ _ (Oper.mk none _ _ _ _ _ :: _) _ _)); go_loud (refine wpList_store_blk rfl 25 (.tmp 11) (.tmp 64) rfl rfl w12.heap.size (pkC qc qi qQ A11 mq c11) rfl rfl _ _ (Blk.new_of w12 25 #[.int .i64 0, .int .i64 0, .int .u8 0, .int .u8 0, .int .u8 0, .int .u8 0, .int .u8 0, .int .u8 0, .int .u8 0, .int .u8 0, .int .u8 0, .int .u8 0, .int .u8 0, .int .u8 0, .int .u8 0, .int .u8 0, .int .u8 0, .int .u8 0, .slice none 0 0] (pkC 0 0 zQ none 0 0) rfl) (infRP.trans (by rw [pkC_length _ _ _ _ _ _ HQQ.out])) (by rw [pkC_length _ _ _ _ _ _ HQQ.out]; first | rfl | rw [pkC_length _ _ _ _ _ _ HQL.out]) (pk_one _ _ _ _ _ _) ?_); intro w13 hP13 hg13))
  clear hcv
  have h12a : Below w12.heap.size w12 (w12.alloc (.cells #[.int .i64 0, .int .i64 0, .int .u8 0, .int .u8 0, .int .u8 0, .int .u8 0, .int .u8 0, .int .u8 0, .int .u8 0, .int .u8 0, .int .u8 0, .int .u8 0, .int .u8 0, .int .u8 0, .int .u8 0, .int .u8 0, .int .u8 0, .int .u8 0, .slice none 0 0] 25)) := (Below.refl _ _).alloc (Nat.le_refl _) _
  have hb13 : Below w12.heap.size w12 w13 := below_new h12a hg13 (Nat.le_refl _) h12a.size
  have HSq := Lib.hid (hS11.below hb13)
  have hY13 := hb12.trans (hb13.mono hb12.size)
  have HGF := Lib.hid (show gb < w12.heap.size from Nat.lt_of_lt_of_le HGE.out hb12.size)
  obtain ⟨g11, hg11⟩ : ∃ g11, g11 = w12.heap.size := ⟨_, rfl⟩
  rw [← hg11] at hP13 HGF
  simp only [← hg11]
  have H11 := Lib.hid hP13
  have H10 := Lib.hid (H10b.out.below hY13 H10b.out.lt)
  have HAq := Lib.hid (HA11.out.below hY13)
  have HYc13 := Lib.hid (HYc11.out.trans (hY13.mono HYc11.out.size))
  have HXw13 := Lib.hid (HX11.out.trans (hY13.mono HX11.out.size))
  clear h12a hb13 hS11 hb12 hg13 hP13 hg11 hY13 H10b HA11 HX11 HYc11
  refine wp_region_noPanic ?_
  refine wp_region_held_drew (S := fun W => Below w13.heap.size w13 W) (by kernel_rfl) (by exact below_drewN (Below.refl _ _) 1) (fun hHeld => ?_)
  replace hHeld : Below w13.heap.size w13 w13.drew := hHeld
  have HXwh := Lib.hid (HXw13.out.trans (hHeld.mono HXw13.out.size))
  have HYwh := Lib.hid (show Below w13.heap.size w13 w13.drew from hHeld)
  generalize w13.drew = wh at *
  refine anyH_mono (S' := fun W => Below wh.heap.size wh W) (fun W h => hHeld.trans (h.mono hHeld.size)) _ _ _ _ ?_
  clear hHeld
  have hHeld : Below wh.heap.size wh wh := Below.refl _ _
  refine wpAnyH_take (i := 0) (oi := ⟨_, _, _, _, _, _⟩) (v := ?_) rfl (by kernel_rfl) (by kernel_rfl) (by kernel_rfl) (fun _ _ _ h => h) (Or.inl ⟨by rfl, ?_⟩) hHeld ?_
  rotate_left 1
  · (intro W hSw; (try dsimp only at hSw); go_simp; try with_reducible rfl)
  try simp only [Act.put, List.setIfInBounds_toArray, List.set_cons_zero, List.set_cons_succ]
  refine wpAnyH_take (i := 1) (oi := ⟨_, _, _, _, _, _⟩) (v := ?_) rfl (by kernel_rfl) (by kernel_rfl) (by kernel_rfl) (fun _ _ _ h => h) (Or.inl ⟨by rfl, ?_⟩) hHeld ?_
  rotate_left 1
  · (intro W hSw; (try dsimp only at hSw); go_simp; try with_reducible rfl)
  try simp only [Act.put, List.setIfInBounds_toArray, List.set_cons_zero, List.set_cons_succ]
  refine wpAnyH_take (i := 2) (oi := ⟨_, _, _, _, _, _⟩) (v := ?_) rfl (by kernel_rfl) (by kernel_rfl) (by kernel_rfl) (fun _ _ _ h => h) (Or.inl ⟨by rfl, ?_⟩) hHeld ?_
  rotate_left 1
  · (intro W hSw; (try dsimp only at hSw); go_simp; try with_reducible rfl)
  try simp only [Act.put, List.setIfInBounds_toArray, List.set_cons_zero, List.set_cons_succ]
  refine wpAnyH_take (i := 3) (oi := ⟨_, _, _, _, _, _⟩) (v := ?_) rfl (by kernel_rfl) (by kernel_rfl) (by kernel_rfl) (fun _ _ _ h => h) (Or.inl ⟨by rfl, ?_⟩) hHeld ?_
  rotate_left 1
  · (intro W hSw; (try dsimp only at hSw); go_simp; try with_reducible rfl)
  try simp only [Act.put, List.setIfInBounds_toArray, List.set_cons_zero, List.set_cons_succ]
  refine' wpAnyH_take (i := 4) (oi := ⟨_, _, _, _, _, _⟩) rfl (by kernel_rfl) (by kernel_rfl) (by kernel_rfl) (fun _ _ _ h => h) (yieldsIf_load_mid (by rfl) 30 _ rfl g10 0 rfl (pkC qc qi qQ A10 mq c10) _ (fun W hSw => rangeAt_of_blk ((H10.out).below (HYwh.out.trans (hSw.mono HYwh.out.size)) (H10.out).lt)) Tryd.underlying30 rfl (infPk.trans (by rw [pkC_length _ _ _ _ _ _ HQQ.out]))) hHeld ?_
  try simp only [Act.put, List.setIfInBounds_toArray, List.set_cons_zero, List.set_cons_succ]
  refine' wpAnyH_take (i := 6) (oi := ⟨_, _, _, _, _, _⟩) rfl (by kernel_rfl) (by kernel_rfl) (by kernel_rfl) (fun _ _ _ h => h) (yieldsIf_load_mid (by rfl) 25 _ rfl g11 0 rfl (pkC qc qi qQ A11 mq c11) _ (fun W hSw => rangeAt_of_blk ((H11.out).below (HYwh.out.trans (hSw.mono HYwh.out.size)) (H11.out).lt)) Tryd.underlying25 rfl (infRP.trans (by rw [pkC_length _ _ _ _ _ _ HQQ.out]))) hHeld ?_
  try simp only [Act.put, List.setIfInBounds_toArray, List.set_cons_zero, List.set_cons_succ]
  refine wpAnyH_ready (rs := [5]) (by kernel_rfl) (by simp) ?_
  refine AllReadyH.cons (o := ⟨_, _, _, _, _, _⟩) rfl (fun K hK => ?_) AllReadyH.nil
  go_simp
  go_at_call 17
  refine (HFRq.out _ _ _ ((HAq.out.ain.2).up HYwh.out)).mono ?_
  rintro e wi ⟨Ab2, cb2, rfl, hIb, hbb⟩
  try go_wp2_with fail
  have hszx := hHeld.size
  refine hK.out _ _ (hHeld.trans (hbb.mono hszx)) (fun hHeld => ?_)
  clear hK K hszx
  replace hHeld : Below wh.heap.size wh wi := hHeld
  have HXwi := Lib.hid (HXwh.out.trans (hHeld.mono HXwh.out.size))
  have HYwi := Lib.hid (HYwh.out.trans (hHeld.mono HYwh.out.size))
  have HIb2 := Lib.hid hIb
  clear hIb
  try simp only [Act.put, List.setIfInBounds_toArray, List.set_cons_zero, List.set_cons_succ]
  refine anyH_mono (S' := fun W => Below wi.heap.size wi W) (fun W h => hHeld.trans (h.mono hHeld.size)) _ _ _ _ ?_
  clear hHeld
  have hHeld : Below wi.heap.size wi wi := Below.refl _ _
  refine wpAnyH_ready (rs := [7]) (by kernel_rfl) (by simp) ?_
  refine AllReadyH.cons (o := ⟨_, _, _, _, _, _⟩) rfl (fun K hK => ?_) AllReadyH.nil
  go_simp
  go_at_call 16
  refine (HSMq.out _ _ _ _ _ HIb2.out ((HSq.out.sin).up HYwi.out)).mono ?_
  rintro e wj ⟨rfl, hbe⟩
  try go_wp2_with fail
  have hszx := hHeld.size
  refine hK.out _ _ (hHeld.trans (hbe.mono hszx)) (fun hHeld => ?_)
  clear hK K hszx
  replace hHeld : Below wi.heap.size wi wj := hHeld
  have HXwj := Lib.hid (HXwi.out.trans (hHeld.mono HXwi.out.size))
  have HYwj := Lib.hid (HYwi.out.trans (hHeld.mono HYwi.out.size))
  try simp only [Act.put, List.setIfInBounds_toArray, List.set_cons_zero, List.set_cons_succ]
  refine anyH_mono (S' := fun W => Below wj.heap.size wj W) (fun W h => hHeld.trans (h.mono hHeld.size)) _ _ _ _ ?_
  clear hHeld
  have hHeld : Below wj.heap.size wj wj := Below.refl _ _
  refine wpAnyH_take (i := 8) (oi := ⟨_, _, _, _, _, _⟩) (v := ?_) rfl (by kernel_rfl) (by kernel_rfl) (by kernel_rfl) (fun _ _ _ h => h) (Or.inl ⟨by rfl, ?_⟩) hHeld ?_
  rotate_left 1
  · (intro W hSw; (try dsimp only at hSw); go_simp; try with_reducible rfl)
  try simp only [Act.put, List.setIfInBounds_toArray, List.set_cons_zero, List.set_cons_succ]
  refine wpAnyH_take (i := 9) (oi := ⟨_, _, _, _, _, _⟩) (v := ?_) rfl (by kernel_rfl) (by kernel_rfl) (by kernel_rfl) (fun _ _ _ h => h) (Or.inl ⟨by rfl, ?_⟩) hHeld ?_
  rotate_left 1
  · (intro W hSw; (try dsimp only at hSw); go_simp; try with_reducible rfl)
  try simp only [Act.put, List.setIfInBounds_toArray, List.set_cons_zero, List.set_cons_succ]
  refine wpAnyH_done (by kernel_rfl) ?_ _
  refine NoPanic.normal ?_
  clear hHeld
  have HYcj := Lib.hid (HYc13.out.trans (HYwj.out.mono HYc13.out.size))
  have H10j := Lib.hid (H10.out.below HYwj.out H10.out.lt)
  have H11j := Lib.hid (H11.out.below HYwj.out H11.out.lt)
  have HAqj := Lib.hid (HAq.out.below HYwj.out)
  have HSqj := Lib.hid (HSq.out.below HYwj.out)
  have HBbj := Lib.hid (HBbc.out.below HYcj.out)
  have HBxj := Lib.hid (HBxc.out.below HYcj.out)
  have hW4 := HYc.out.trans (HYcj.out.mono HYc.out.size)
  have HZj := Lib.hid (HY4.out.trans (hW4.mono HY4.out.size))
  clear H10 H11 HAq HSq HIb2 hW4
  go_wp2
  go_loopw [12] (fun i wr => ∃ (k : Nat) (bs : List UInt8), k ≤ n1 ∧ i = .int .i64 (k : Int) ∧ Buf wr w3.heap.size A4 n1 c4 bs ∧ wj.grownBy wr (some gb)) (fun i _ => n1 - (intOf i).toNat)
  case atStart => exact ⟨0, b, Nat.zero_le _, rfl, HBbj.out, grown_refl _ _⟩
  case round =>
    obtain ⟨k, bs, hk, rfl, hB, hg⟩ := hrel
    by_cases hlt : k < n1
    · have hd : (k : Int) < (n1 : Int) := by omega
      obtain ⟨g', hA4, _, _, _⟩ := hB.at (by omega)
      have hgg := HGB.out.2.2 g' hA4
      subst hgg
      rw [hA4] at hB
      obtain ⟨hcl, hfz⟩ := buf_at hB hlt
      obtain ⟨x, hx⟩ : ∃ x, x = bs.getD k 0 := ⟨_, rfl⟩
      rw [← hx] at hcl
      obtain ⟨z, hz⟩ : ∃ z, z = x ^^^ 33 := ⟨_, rfl⟩
      have hxo : bits .xor .u8 (x.toNat : Int) 33 = (z.toNat : Int) := by
        rw [hz, show (33 : Int) = ((33 : UInt8).toNat : Int) from rfl, u8_xor_nat _ _ (u8_lt x) (u8_lt 33), UInt8.toNat_xor]
      obtain ⟨hk0, hkn, hkw⟩ := ix_at hlt (show n1 ≤ 9223372036854775807 by have := HN9.out; omega)
      have HB := Lib.hid (hB.set hlt z)
      have HGR := Lib.hid (grown_setCell hg (p := ⟨g', k, none⟩) (.inl rfl) (B8 z))
      have HK := Lib.hid (And.intro hlt hkw)
      have HA4 := Lib.hid hA4
      subst hA4
      clear hx hz hB hg hkw hk hlt
      go_wp2
      go_roundw
      case rel => exact ⟨k + 1, bs.set k z, (by have := HK.out.1; omega), by rw [HK.out.2], HB.out, HGR.out⟩
      case measure => exact ix_measW HK.out.1 (by have := HN9.out; omega)
    · have hd : ¬ (k : Int) < (n1 : Int) := by omega
      have H10r := Lib.hid (H10j.out.grown hg (fun e => by have := HGD.out; cases e; omega))
      have H11r := Lib.hid (H11j.out.grown hg (fun e => by have := HGF.out; cases e; omega))
      have HAr := Lib.hid (HAqj.out.grown hg HGC.out).ain.2
      have HSr := Lib.hid (HSqj.out.grown hg HGE.out).sin
      have HBr := Lib.hid (HBxj.out.kept hg (fun q e e2 => by have h1 := buf_base HBxj.out e; have := HG6.out; cases e2; exact absurd h1 (by simp only; omega)))
      have HXwr := Lib.hid (Below.grown HXwj.out hg HXwj.out.size (fun q e => by cases e; exact Nat.le_trans HX3.out.size HGB.out.1))
      have HZr := Lib.hid (Below.grown HZj.out hg HZj.out.size (fun q e => by cases e; exact HGB.out.1))
      clear hk hlt hB hg
      go_upto_region 16 with (fail)
      rcases HSE.out with ⟨her, hrx, hS0⟩ | ⟨her, hSn⟩
      · subst her
        have HRXS := Lib.hid (HRX.out hrx)
        have hMne : ¬ (M7 : Int) = 0 := by have := HBr.out.1; omega
        clear hrx hS0 hd
        refine wp_region_noPanic ?_
        refine wp_region_held_drew (S := fun W => Below wr.heap.size wr W) (by kernel_rfl) (by exact below_drewN (Below.refl _ _) 1) (fun hHeld => ?_)
        replace hHeld : Below wr.heap.size wr wr.drew := hHeld
        have HXwk := Lib.hid (HXwr.out.trans (hHeld.mono HXwr.out.size))
        have HYwk := Lib.hid (show Below wr.heap.size wr wr.drew from hHeld)
        generalize wr.drew = wk at *
        refine anyH_mono (S' := fun W => Below wk.heap.size wk W) (fun W h => hHeld.trans (h.mono hHeld.size)) _ _ _ _ ?_
        clear hHeld
        have hHeld : Below wk.heap.size wk wk := Below.refl _ _
        refine' wpAnyH_take (i := 0) (oi := ⟨_, _, _, _, _, _⟩) rfl (by kernel_rfl) (by kernel_rfl) (by kernel_rfl) (fun _ _ _ h => h) (yieldsIf_load_mid (by rfl) 30 _ rfl g10 0 rfl (pkC qc qi qQ A10 mq c10) _ (fun W hSw => rangeAt_of_blk ((H10r.out).below (HYwk.out.trans (hSw.mono HYwk.out.size)) (H10r.out).lt)) Tryd.underlying30 rfl (infPk.trans (by rw [pkC_length _ _ _ _ _ _ HQQ.out]))) hHeld ?_
        try simp only [Act.put, List.setIfInBounds_toArray, List.set_cons_zero, List.set_cons_succ]
        refine' wpAnyH_take (i := 2) (oi := ⟨_, _, _, _, _, _⟩) rfl (by kernel_rfl) (by kernel_rfl) (by kernel_rfl) (fun _ _ _ h => h) (yieldsIf_load_mid (by rfl) 25 _ rfl g11 0 rfl (pkC qc qi qQ A11 mq c11) _ (fun W hSw => rangeAt_of_blk ((H11r.out).below (HYwk.out.trans (hSw.mono HYwk.out.size)) (H11r.out).lt)) Tryd.underlying25 rfl (infRP.trans (by rw [pkC_length _ _ _ _ _ _ HQQ.out]))) hHeld ?_
        try simp only [Act.put, List.setIfInBounds_toArray, List.set_cons_zero, List.set_cons_succ]
        refine wpAnyH_ready (rs := [1]) (by kernel_rfl) (by simp) ?_
        refine AllReadyH.cons (o := ⟨_, _, _, _, _, _⟩) rfl (fun K hK => ?_) AllReadyH.nil
        go_simp
        go_at_call 17
        refine (HFRq.out _ _ _ (HAr.out.up HYwk.out)).mono ?_
        rintro e wl ⟨Abr, cbr, rfl, hIb, hbb⟩
        try go_wp2_with fail
        have hszx := hHeld.size
        refine hK.out _ _ (hHeld.trans (hbb.mono hszx)) (fun hHeld => ?_)
        clear hK K hszx
        replace hHeld : Below wk.heap.size wk wl := hHeld
        have HXwl := Lib.hid (HXwk.out.trans (hHeld.mono HXwk.out.size))
        have HYwl := Lib.hid (HYwk.out.trans (hHeld.mono HYwk.out.size))
        have HIbr := Lib.hid hIb
        clear hIb
        try simp only [Act.put, List.setIfInBounds_toArray, List.set_cons_zero, List.set_cons_succ]
        refine anyH_mono (S' := fun W => Below wl.heap.size wl W) (fun W h => hHeld.trans (h.mono hHeld.size)) _ _ _ _ ?_
        clear hHeld
        have hHeld : Below wl.heap.size wl wl := Below.refl _ _
        refine wpAnyH_ready (rs := [3]) (by kernel_rfl) (by simp) ?_
        refine AllReadyH.cons (o := ⟨_, _, _, _, _, _⟩) rfl (fun K hK => ?_) AllReadyH.nil
        go_simp
        go_at_call 16
        refine (HSMq.out _ _ _ _ _ HIbr.out (HSr.out.up HYwl.out)).mono ?_
        rintro e wm ⟨rfl, hbe⟩
        try go_wp2_with fail
        have hszx := hHeld.size
        refine hK.out _ _ (hHeld.trans (hbe.mono hszx)) (fun hHeld => ?_)
        clear hK K hszx
        replace hHeld : Below wl.heap.size wl wm := hHeld
        have HXwm := Lib.hid (HXwl.out.trans (hHeld.mono HXwl.out.size))
        have HYwm := Lib.hid (HYwl.out.trans (hHeld.mono HYwl.out.size))
        try simp only [Act.put, List.setIfInBounds_toArray, List.set_cons_zero, List.set_cons_succ]
        refine anyH_mono (S' := fun W => Below wm.heap.size wm W) (fun W h => hHeld.trans (h.mono hHeld.size)) _ _ _ _ ?_
        clear hHeld
        have hHeld : Below wm.heap.size wm wm := Below.refl _ _
        refine wpAnyH_take (i := 4) (oi := ⟨_, _, _, _, _, _⟩) (v := ?_) rfl (by kernel_rfl) (by kernel_rfl) (by kernel_rfl) (fun _ _ _ h => h) (Or.inl ⟨by rfl, ?_⟩) hHeld ?_
        rotate_left 1
        · (intro W hSw; (try dsimp only at hSw); go_simp; try with_reducible rfl)
        try simp only [Act.put, List.setIfInBounds_toArray, List.set_cons_zero, List.set_cons_succ]
        refine wpAnyH_take (i := 5) (oi := ⟨_, _, _, _, _, _⟩) (v := ?_) rfl (by kernel_rfl) (by kernel_rfl) (by kernel_rfl) (fun _ _ _ h => h) (Or.inl ⟨by rfl, ?_⟩) hHeld ?_
        rotate_left 1
        · (intro W hSw; (try dsimp only at hSw); go_simp; try with_reducible rfl)
        try simp only [Act.put, List.setIfInBounds_toArray, List.set_cons_zero, List.set_cons_succ]
        refine wpAnyH_take (i := 6) (oi := ⟨_, _, _, _, _, _⟩) (v := ?_) rfl (by kernel_rfl) (by kernel_rfl) (by kernel_rfl) (fun _ _ _ h => h) (Or.inl ⟨by rfl, ?_⟩) hHeld ?_
        rotate_left 1
        · (intro W hSw; (try dsimp only at hSw); go_simp; try with_reducible rfl)
        try simp only [Act.put, List.setIfInBounds_toArray, List.set_cons_zero, List.set_cons_succ]
        refine wpAnyH_take (i := 7) (oi := ⟨_, _, _, _, _, _⟩) (v := ?_) rfl (by kernel_rfl) (by kernel_rfl) (by kernel_rfl) (fun _ _ _ h => h) (Or.inl ⟨by rfl, ?_⟩) hHeld ?_
        rotate_left 1
        · (intro W hSw; (try dsimp only at hSw); go_simp; try with_reducible rfl)
        try simp only [Act.put, List.setIfInBounds_toArray, List.set_cons_zero, List.set_cons_succ]
        refine wpAnyH_take (i := 8) (oi := ⟨_, _, _, _, _, _⟩) (v := ?_) rfl (by kernel_rfl) (by kernel_rfl) (by kernel_rfl) (fun _ _ _ h => h) (Or.inl ⟨by rfl, ?_⟩) hHeld ?_
        rotate_left 1
        · (intro W hSw; (try dsimp only at hSw); go_simp; try with_reducible rfl)
        try simp only [Act.put, List.setIfInBounds_toArray, List.set_cons_zero, List.set_cons_succ]
        refine wpAnyH_take (i := 9) (oi := ⟨_, _, _, _, _, _⟩) (v := ?_) rfl (by kernel_rfl) (by kernel_rfl) (by kernel_rfl) (fun _ _ _ h => h) (Or.inl ⟨by rfl, ?_⟩) hHeld ?_
        rotate_left 1
        · (intro W hSw; (try dsimp only at hSw); go_simp; try with_reducible rfl)
        try simp only [Act.put, List.setIfInBounds_toArray, List.set_cons_zero, List.set_cons_succ]
        refine wpAnyH_done (by kernel_rfl) ?_ _
        refine NoPanic.normal ?_
        clear hHeld
        have HBm := Lib.hid (HBr.out.below HYwm.out)
        have HZm := Lib.hid (HZr.out.trans (HYwm.out.mono HZr.out.size))
        skip
        go_upto_region 19 with (first
          | (go_at_call 18; refine (HRXS.out _ _ _ _ HBm.out.1 (HBm.out.toIn (Nat.le_refl _))).mono ?_; rintro e wq ⟨A13, c13, rfl, hA13, hbq⟩)
          | ((with_reducible refine (?_ : wpList _ _ _ (Oper.mk none _ _ _ _ _ :: _) _ _)); go_loud (refine wpList_store_blk rfl 30 (.tmp 13) (.tmp 105) rfl rfl wq.heap.size (pkC code id Q A13 m c13) rfl rfl _ _ (Blk.new_of wq 30 #[.int .i64 0, .int .i64 0, .int .u8 0, .int .u8 0, .int .u8 0, .int .u8 0, .int .u8 0, .int .u8 0, .int .u8 0, .int .u8 0, .int .u8 0, .int .u8 0, .int .u8 0, .int .u8 0, .int .u8 0, .int .u8 0, .int .u8 0, .int .u8 0, .slice none 0 0] (pkC 0 0 zQ none 0 0) rfl) (infPk.trans (by rw [pkC_length _ _ _ _ _ _ HQL.out])) (by rw [pkC_length _ _ _ _ _ _ HQL.out]; first | rfl | rw [pkC_length _ _ _ _ _ _ HQL.out]) (pk_one _ _ _ _ _ _) ?_); intro ws hPs hgs))
        have hqa : Below wq.heap.size wq (wq.alloc (.cells #[.int .i64 0, .int .i64 0, .int .u8 0, .int .u8 0, .int .u8 0, .int .u8 0, .int .u8 0, .int .u8 0, .int .u8 0, .int .u8 0, .int .u8 0, .int .u8 0, .int .u8 0, .int .u8 0, .int .u8 0, .int .u8 0, .int .u8 0, .int .u8 0, .slice none 0 0] 30)) := (Below.refl _ _).alloc (Nat.le_refl _) _
        have hbs : Below wq.heap.size wq ws := below_new hqa hgs (Nat.le_refl _) hqa.size
        have HAz := Lib.hid (hA13.below hbs).ain.2
        have hYs := hbq.trans (hbs.mono hbq.size)
        obtain ⟨g13, hg13⟩ : ∃ g13, g13 = wq.heap.size := ⟨_, rfl⟩
        rw [← hg13] at hPs
        simp only [← hg13]
        have H13 := Lib.hid hPs
        have hZs := HZm.out.trans (hYs.mono HZm.out.size)
        have HPf := Lib.hid (HP3.out.below hZs HP3.out.lt)
        have HIf := Lib.hid (HI3.out.up hZs)
        have HXws := Lib.hid (HXwm.out.trans (hYs.mono HXwm.out.size))
        clear hqa hbs hA13 hbq hgs hPs hg13 hYs hZs
        refine wp_region_noPanic ?_
        refine wp_region_held_drew (S := fun W => Below ws.heap.size ws W) (by kernel_rfl) (by exact below_drewN (Below.refl _ _) 1) (fun hHeld => ?_)
        replace hHeld : Below ws.heap.size ws ws.drew := hHeld
        have HXwt := Lib.hid (HXws.out.trans (hHeld.mono HXws.out.size))
        have HYwt := Lib.hid (show Below ws.heap.size ws ws.drew from hHeld)
        generalize ws.drew = wt at *
        refine anyH_mono (S' := fun W => Below wt.heap.size wt W) (fun W h => hHeld.trans (h.mono hHeld.size)) _ _ _ _ ?_
        clear hHeld
        have hHeld : Below wt.heap.size wt wt := Below.refl _ _
        refine wpAnyH_take (i := 0) (oi := ⟨_, _, _, _, _, _⟩) (v := ?_) rfl (by kernel_rfl) (by kernel_rfl) (by kernel_rfl) (fun _ _ _ h => h) (Or.inl ⟨by rfl, ?_⟩) hHeld ?_
        rotate_left 1
        · (intro W hSw; (try dsimp only at hSw); go_simp; try with_reducible rfl)
        try simp only [Act.put, List.setIfInBounds_toArray, List.set_cons_zero, List.set_cons_succ]
        refine wpAnyH_take (i := 1) (oi := ⟨_, _, _, _, _, _⟩) (v := ?_) rfl (by kernel_rfl) (by kernel_rfl) (by kernel_rfl) (fun _ _ _ h => h) (Or.inl ⟨by rfl, ?_⟩) hHeld ?_
        rotate_left 1
        · (intro W hSw; (try dsimp only at hSw); go_simp; try with_reducible rfl)
        try simp only [Act.put, List.setIfInBounds_toArray, List.set_cons_zero, List.set_cons_succ]
        refine wpAnyH_take (i := 2) (oi := ⟨_, _, _, _, _, _⟩) (v := ?_) rfl (by kernel_rfl) (by kernel_rfl) (by kernel_rfl) (fun _ _ _ h => h) (Or.inl ⟨by rfl, ?_⟩) hHeld ?_
        rotate_left 1
        · (intro W hSw; (try dsimp only at hSw); go_simp; try with_reducible rfl)
        try simp only [Act.put, List.setIfInBounds_toArray, List.set_cons_zero, List.set_cons_succ]
        refine' wpAnyH_take (i := 3) (oi := ⟨_, _, _, _, _, _⟩) rfl (by kernel_rfl) (by kernel_rfl) (by kernel_rfl) (fun _ _ _ h => h) (yieldsIf_load_mid (by rfl) 30 _ rfl g13 0 rfl (pkC code id Q A13 m c13) _ (fun W hSw => rangeAt_of_blk ((H13.out).below (HYwt.out.trans (hSw.mono HYwt.out.size)) (H13.out).lt)) Tryd.underlying30 rfl (infPk.trans (by rw [pkC_length _ _ _ _ _ _ HQL.out]))) hHeld ?_
        try simp only [Act.put, List.setIfInBounds_toArray, List.set_cons_zero, List.set_cons_succ]
        refine' wpAnyH_take (i := 5) (oi := ⟨_, _, _, _, _, _⟩) rfl (by kernel_rfl) (by kernel_rfl) (by kernel_rfl) (fun _ _ _ h => h) (yieldsIf_load_mid (by rfl) 25 _ rfl g 0 rfl (pkC code id Q A2 m c2) _ (fun W hSw => rangeAt_of_blk ((HPf.out).below (HYwt.out.trans (hSw.mono HYwt.out.size)) (HPf.out).lt)) Tryd.underlying25 rfl (infRP.trans (by rw [pkC_length _ _ _ _ _ _ HQL.out]))) hHeld ?_
        try simp only [Act.put, List.setIfInBounds_toArray, List.set_cons_zero, List.set_cons_succ]
        refine wpAnyH_ready (rs := [4]) (by kernel_rfl) (by simp) ?_
        refine AllReadyH.cons (o := ⟨_, _, _, _, _, _⟩) rfl (fun K hK => ?_) AllReadyH.nil
        go_simp
        go_at_call 17
        refine (HFR.out _ _ _ (HAz.out.up HYwt.out)).mono ?_
        rintro e wu ⟨Ab4, cb4, rfl, hIb, hbb⟩
        try go_wp2_with fail
        have hszx := hHeld.size
        refine hK.out _ _ (hHeld.trans (hbb.mono hszx)) (fun hHeld => ?_)
        clear hK K hszx
        replace hHeld : Below wt.heap.size wt wu := hHeld
        have HXwu := Lib.hid (HXwt.out.trans (hHeld.mono HXwt.out.size))
        have HYwu := Lib.hid (HYwt.out.trans (hHeld.mono HYwt.out.size))
        have HIb4 := Lib.hid hIb
        clear hIb
        try simp only [Act.put, List.setIfInBounds_toArray, List.set_cons_zero, List.set_cons_succ]
        refine anyH_mono (S' := fun W => Below wu.heap.size wu W) (fun W h => hHeld.trans (h.mono hHeld.size)) _ _ _ _ ?_
        clear hHeld
        have hHeld : Below wu.heap.size wu wu := Below.refl _ _
        refine wpAnyH_ready (rs := [6]) (by kernel_rfl) (by simp) ?_
        refine AllReadyH.cons (o := ⟨_, _, _, _, _, _⟩) rfl (fun K hK => ?_) AllReadyH.nil
        go_simp
        go_at_call 16
        refine (HSM.out _ _ _ _ _ HIb4.out (HIf.out.up HYwu.out)).mono ?_
        rintro e wv ⟨rfl, hbe⟩
        try go_wp2_with fail
        have hszx := hHeld.size
        refine hK.out _ _ (hHeld.trans (hbe.mono hszx)) (fun hHeld => ?_)
        clear hK K hszx
        replace hHeld : Below wu.heap.size wu wv := hHeld
        have HXwv := Lib.hid (HXwu.out.trans (hHeld.mono HXwu.out.size))
        have HYwv := Lib.hid (HYwu.out.trans (hHeld.mono HYwu.out.size))
        try simp only [Act.put, List.setIfInBounds_toArray, List.set_cons_zero, List.set_cons_succ]
        refine anyH_mono (S' := fun W => Below wv.heap.size wv W) (fun W h => hHeld.trans (h.mono hHeld.size)) _ _ _ _ ?_
        clear hHeld
        have hHeld : Below wv.heap.size wv wv := Below.refl _ _
        refine wpAnyH_take (i := 7) (oi := ⟨_, _, _, _, _, _⟩) (v := ?_) rfl (by kernel_rfl) (by kernel_rfl) (by kernel_rfl) (fun _ _ _ h => h) (Or.inl ⟨by rfl, ?_⟩) hHeld ?_
        rotate_left 1
        · (intro W hSw; (try dsimp only at hSw); go_simp; try with_reducible rfl)
        try simp only [Act.put, List.setIfInBounds_toArray, List.set_cons_zero, List.set_cons_succ]
        refine wpAnyH_take (i := 8) (oi := ⟨_, _, _, _, _, _⟩) (v := ?_) rfl (by kernel_rfl) (by kernel_rfl) (by kernel_rfl) (fun _ _ _ h => h) (Or.inl ⟨by rfl, ?_⟩) hHeld ?_
        rotate_left 1
        · (intro W hSw; (try dsimp only at hSw); go_simp; try with_reducible rfl)
        try simp only [Act.put, List.setIfInBounds_toArray, List.set_cons_zero, List.set_cons_succ]
        refine wpAnyH_done (by kernel_rfl) ?_ _
        refine NoPanic.normal ?_
        clear hHeld
        go_wp2
        go_ret
        exact ⟨rfl, HXwv.out⟩
      · subst her hSn
        have hM0 : M7 = 0 := HBr.out.1.symm
        subst hM0
        clear hd
        refine wp_region_noPanic ?_
        refine wp_region_held_drew (S := fun W => Below wr.heap.size wr W) (by kernel_rfl) (by exact below_drewN (Below.refl _ _) 1) (fun hHeld => ?_)
        replace hHeld : Below wr.heap.size wr wr.drew := hHeld
        have HXwk := Lib.hid (HXwr.out.trans (hHeld.mono HXwr.out.size))
        have HYwk := Lib.hid (show Below wr.heap.size wr wr.drew from hHeld)
        generalize wr.drew = wk at *
        refine anyH_mono (S' := fun W => Below wk.heap.size wk W) (fun W h => hHeld.trans (h.mono hHeld.size)) _ _ _ _ ?_
        clear hHeld
        have hHeld : Below wk.heap.size wk wk := Below.refl _ _
        refine' wpAnyH_take (i := 0) (oi := ⟨_, _, _, _, _, _⟩) rfl (by kernel_rfl) (by kernel_rfl) (by kernel_rfl) (fun _ _ _ h => h) (yieldsIf_load_mid (by rfl) 30 _ rfl g10 0 rfl (pkC qc qi qQ A10 mq c10) _ (fun W hSw => rangeAt_of_blk ((H10r.out).below (HYwk.out.trans (hSw.mono HYwk.out.size)) (H10r.out).lt)) Tryd.underlying30 rfl (infPk.trans (by rw [pkC_length _ _ _ _ _ _ HQQ.out]))) hHeld ?_
        try simp only [Act.put, List.setIfInBounds_toArray, List.set_cons_zero, List.set_cons_succ]
        refine' wpAnyH_take (i := 2) (oi := ⟨_, _, _, _, _, _⟩) rfl (by kernel_rfl) (by kernel_rfl) (by kernel_rfl) (fun _ _ _ h => h) (yieldsIf_load_mid (by rfl) 25 _ rfl g11 0 rfl (pkC qc qi qQ A11 mq c11) _ (fun W hSw => rangeAt_of_blk ((H11r.out).below (HYwk.out.trans (hSw.mono HYwk.out.size)) (H11r.out).lt)) Tryd.underlying25 rfl (infRP.trans (by rw [pkC_length _ _ _ _ _ _ HQQ.out]))) hHeld ?_
        try simp only [Act.put, List.setIfInBounds_toArray, List.set_cons_zero, List.set_cons_succ]
        refine wpAnyH_ready (rs := [1]) (by kernel_rfl) (by simp) ?_
        refine AllReadyH.cons (o := ⟨_, _, _, _, _, _⟩) rfl (fun K hK => ?_) AllReadyH.nil
        go_simp
        go_at_call 17
        refine (HFRq.out _ _ _ (HAr.out.up HYwk.out)).mono ?_
        rintro e wl ⟨Abr, cbr, rfl, hIb, hbb⟩
        try go_wp2_with fail
        have hszx := hHeld.size
        refine hK.out _ _ (hHeld.trans (hbb.mono hszx)) (fun hHeld => ?_)
        clear hK K hszx
        replace hHeld : Below wk.heap.size wk wl := hHeld
        have HXwl := Lib.hid (HXwk.out.trans (hHeld.mono HXwk.out.size))
        have HYwl := Lib.hid (HYwk.out.trans (hHeld.mono HYwk.out.size))
        have HIbr := Lib.hid hIb
        clear hIb
        try simp only [Act.put, List.setIfInBounds_toArray, List.set_cons_zero, List.set_cons_succ]
        refine anyH_mono (S' := fun W => Below wl.heap.size wl W) (fun W h => hHeld.trans (h.mono hHeld.size)) _ _ _ _ ?_
        clear hHeld
        have hHeld : Below wl.heap.size wl wl := Below.refl _ _
        refine wpAnyH_ready (rs := [3]) (by kernel_rfl) (by simp) ?_
        refine AllReadyH.cons (o := ⟨_, _, _, _, _, _⟩) rfl (fun K hK => ?_) AllReadyH.nil
        go_simp
        go_at_call 16
        refine (HSMq.out _ _ _ _ _ HIbr.out (HSr.out.up HYwl.out)).mono ?_
        rintro e wm ⟨rfl, hbe⟩
        try go_wp2_with fail
        have hszx := hHeld.size
        refine hK.out _ _ (hHeld.trans (hbe.mono hszx)) (fun hHeld => ?_)
        clear hK K hszx
        replace hHeld : Below wl.heap.size wl wm := hHeld
        have HXwm := Lib.hid (HXwl.out.trans (hHeld.mono HXwl.out.size))
        have HYwm := Lib.hid (HYwl.out.trans (hHeld.mono HYwl.out.size))
        try simp only [Act.put, List.setIfInBounds_toArray, List.set_cons_zero, List.set_cons_succ]
        refine anyH_mono (S' := fun W => Below wm.heap.size wm W) (fun W h => hHeld.trans (h.mono hHeld.size)) _ _ _ _ ?_
        clear hHeld
        have hHeld : Below wm.heap.size wm wm := Below.refl _ _
        refine wpAnyH_take (i := 4) (oi := ⟨_, _, _, _, _, _⟩) (v := ?_) rfl (by kernel_rfl) (by kernel_rfl) (by kernel_rfl) (fun _ _ _ h => h) (Or.inl ⟨by rfl, ?_⟩) hHeld ?_
        rotate_left 1
        · (intro W hSw; (try dsimp only at hSw); go_simp; try with_reducible rfl)
        try simp only [Act.put, List.setIfInBounds_toArray, List.set_cons_zero, List.set_cons_succ]
        refine wpAnyH_take (i := 5) (oi := ⟨_, _, _, _, _, _⟩) (v := ?_) rfl (by kernel_rfl) (by kernel_rfl) (by kernel_rfl) (fun _ _ _ h => h) (Or.inl ⟨by rfl, ?_⟩) hHeld ?_
        rotate_left 1
        · (intro W hSw; (try dsimp only at hSw); go_simp; try with_reducible rfl)
        try simp only [Act.put, List.setIfInBounds_toArray, List.set_cons_zero, List.set_cons_succ]
        refine wpAnyH_take (i := 6) (oi := ⟨_, _, _, _, _, _⟩) (v := ?_) rfl (by kernel_rfl) (by kernel_rfl) (by kernel_rfl) (fun _ _ _ h => h) (Or.inl ⟨by rfl, ?_⟩) hHeld ?_
        rotate_left 1
        · (intro W hSw; (try dsimp only at hSw); go_simp; try with_reducible rfl)
        try simp only [Act.put, List.setIfInBounds_toArray, List.set_cons_zero, List.set_cons_succ]
        refine wpAnyH_take (i := 7) (oi := ⟨_, _, _, _, _, _⟩) (v := ?_) rfl (by kernel_rfl) (by kernel_rfl) (by kernel_rfl) (fun _ _ _ h => h) (Or.inl ⟨by rfl, ?_⟩) hHeld ?_
        rotate_left 1
        · (intro W hSw; (try dsimp only at hSw); go_simp; try with_reducible rfl)
        try simp only [Act.put, List.setIfInBounds_toArray, List.set_cons_zero, List.set_cons_succ]
        refine wpAnyH_take (i := 8) (oi := ⟨_, _, _, _, _, _⟩) (v := ?_) rfl (by kernel_rfl) (by kernel_rfl) (by kernel_rfl) (fun _ _ _ h => h) (Or.inl ⟨by rfl, ?_⟩) hHeld ?_
        rotate_left 1
        · (intro W hSw; (try dsimp only at hSw); go_simp; try with_reducible rfl)
        try simp only [Act.put, List.setIfInBounds_toArray, List.set_cons_zero, List.set_cons_succ]
        refine wpAnyH_take (i := 9) (oi := ⟨_, _, _, _, _, _⟩) (v := ?_) rfl (by kernel_rfl) (by kernel_rfl) (by kernel_rfl) (fun _ _ _ h => h) (Or.inl ⟨by rfl, ?_⟩) hHeld ?_
        rotate_left 1
        · (intro W hSw; (try dsimp only at hSw); go_simp; try with_reducible rfl)
        try simp only [Act.put, List.setIfInBounds_toArray, List.set_cons_zero, List.set_cons_succ]
        refine wpAnyH_done (by kernel_rfl) ?_ _
        refine NoPanic.normal ?_
        clear hHeld
        have H10m := Lib.hid (H10r.out.below HYwm.out H10r.out.lt)
        have H11m := Lib.hid (H11r.out.below HYwm.out H11r.out.lt)
        have HAm := Lib.hid (HAr.out.up HYwm.out)
        have HSm := Lib.hid (HSr.out.up HYwm.out)
        go_upto_region 17 with (fail)
        refine wp_region_noPanic ?_
        refine wp_region_held_drew (S := fun W => Below wm.heap.size wm W) (by kernel_rfl) (by exact below_drewN (Below.refl _ _) 1) (fun hHeld => ?_)
        replace hHeld : Below wm.heap.size wm wm.drew := hHeld
        have HXwn := Lib.hid (HXwm.out.trans (hHeld.mono HXwm.out.size))
        have HYwn := Lib.hid (show Below wm.heap.size wm wm.drew from hHeld)
        generalize wm.drew = wn at *
        refine anyH_mono (S' := fun W => Below wn.heap.size wn W) (fun W h => hHeld.trans (h.mono hHeld.size)) _ _ _ _ ?_
        clear hHeld
        have hHeld : Below wn.heap.size wn wn := Below.refl _ _
        refine' wpAnyH_take (i := 0) (oi := ⟨_, _, _, _, _, _⟩) rfl (by kernel_rfl) (by kernel_rfl) (by kernel_rfl) (fun _ _ _ h => h) (yieldsIf_load_mid (by rfl) 30 _ rfl g10 0 rfl (pkC qc qi qQ A10 mq c10) _ (fun W hSw => rangeAt_of_blk ((H10m.out).below (HYwn.out.trans (hSw.mono HYwn.out.size)) (H10m.out).lt)) Tryd.underlying30 rfl (infPk.trans (by rw [pkC_length _ _ _ _ _ _ HQQ.out]))) hHeld ?_
        try simp only [Act.put, List.setIfInBounds_toArray, List.set_cons_zero, List.set_cons_succ]
        refine' wpAnyH_take (i := 2) (oi := ⟨_, _, _, _, _, _⟩) rfl (by kernel_rfl) (by kernel_rfl) (by kernel_rfl) (fun _ _ _ h => h) (yieldsIf_load_mid (by rfl) 25 _ rfl g11 0 rfl (pkC qc qi qQ A11 mq c11) _ (fun W hSw => rangeAt_of_blk ((H11m.out).below (HYwn.out.trans (hSw.mono HYwn.out.size)) (H11m.out).lt)) Tryd.underlying25 rfl (infRP.trans (by rw [pkC_length _ _ _ _ _ _ HQQ.out]))) hHeld ?_
        try simp only [Act.put, List.setIfInBounds_toArray, List.set_cons_zero, List.set_cons_succ]
        refine wpAnyH_ready (rs := [1]) (by kernel_rfl) (by simp) ?_
        refine AllReadyH.cons (o := ⟨_, _, _, _, _, _⟩) rfl (fun K hK => ?_) AllReadyH.nil
        go_simp
        go_at_call 17
        refine (HFRq.out _ _ _ (HAm.out.up HYwn.out)).mono ?_
        rintro e wo ⟨Abm, cbm, rfl, hIb, hbb⟩
        try go_wp2_with fail
        have hszx := hHeld.size
        refine hK.out _ _ (hHeld.trans (hbb.mono hszx)) (fun hHeld => ?_)
        clear hK K hszx
        replace hHeld : Below wn.heap.size wn wo := hHeld
        have HXwo := Lib.hid (HXwn.out.trans (hHeld.mono HXwn.out.size))
        have HYwo := Lib.hid (HYwn.out.trans (hHeld.mono HYwn.out.size))
        have HIbm := Lib.hid hIb
        clear hIb
        try simp only [Act.put, List.setIfInBounds_toArray, List.set_cons_zero, List.set_cons_succ]
        refine anyH_mono (S' := fun W => Below wo.heap.size wo W) (fun W h => hHeld.trans (h.mono hHeld.size)) _ _ _ _ ?_
        clear hHeld
        have hHeld : Below wo.heap.size wo wo := Below.refl _ _
        refine wpAnyH_ready (rs := [3]) (by kernel_rfl) (by simp) ?_
        refine AllReadyH.cons (o := ⟨_, _, _, _, _, _⟩) rfl (fun K hK => ?_) AllReadyH.nil
        go_simp
        go_at_call 16
        refine (HSMq.out _ _ _ _ _ HIbm.out (HSm.out.up HYwo.out)).mono ?_
        rintro e wp ⟨rfl, hbe⟩
        try go_wp2_with fail
        have hszx := hHeld.size
        refine hK.out _ _ (hHeld.trans (hbe.mono hszx)) (fun hHeld => ?_)
        clear hK K hszx
        replace hHeld : Below wo.heap.size wo wp := hHeld
        have HXwp := Lib.hid (HXwo.out.trans (hHeld.mono HXwo.out.size))
        have HYwp := Lib.hid (HYwo.out.trans (hHeld.mono HYwo.out.size))
        try simp only [Act.put, List.setIfInBounds_toArray, List.set_cons_zero, List.set_cons_succ]
        refine anyH_mono (S' := fun W => Below wp.heap.size wp W) (fun W h => hHeld.trans (h.mono hHeld.size)) _ _ _ _ ?_
        clear hHeld
        have hHeld : Below wp.heap.size wp wp := Below.refl _ _
        refine wpAnyH_take (i := 4) (oi := ⟨_, _, _, _, _, _⟩) (v := ?_) rfl (by kernel_rfl) (by kernel_rfl) (by kernel_rfl) (fun _ _ _ h => h) (Or.inl ⟨by rfl, ?_⟩) hHeld ?_
        rotate_left 1
        · (intro W hSw; (try dsimp only at hSw); go_simp; try with_reducible rfl)
        try simp only [Act.put, List.setIfInBounds_toArray, List.set_cons_zero, List.set_cons_succ]
        refine wpAnyH_done (by kernel_rfl) ?_ _
        refine NoPanic.normal ?_
        clear hHeld
        go_wp2
        go_ret
        exact ⟨rfl, HXwp.out⟩
end Go.Proofs.YtbomckbekcaemaaDoor
