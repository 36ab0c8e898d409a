/-
  What is written is read, what is sealed is opened; the contract of the law's speaks.
-/
import Derived.Test.YtbomckbekcaemaaDoorRdm
import Derived.Lib.Walk
namespace Go.Proofs.YtbomckbekcaemaaDoor
open Go.RowKit

theorem buf_constR (W : World) (xs : List UInt8) (n : Nat) (t : TypeId) (hn : xs.length = n) (hm : n < 1000) : Buf (W.alloc (.cells (xs.map B8).toArray t (n, n + 1))) W.heap.size (some ⟨W.heap.size, 0, none⟩) n n xs :=
  Buf.made _ t n (n + 1) (Nat.le_refl _) hn (Nat.le_refl _) (by unfold maxLen; omega) (by simpa using hn) (.inl (Nat.le_refl _)) (fun j hj => by
    rw [List.getElem?_toArray]
    exact getD_map8 xs j (by omega))
theorem size_alloc1R (w : World) (o : Obj) : (w.alloc o).heap.size = w.heap.size + 1 := by simp
/-- A constant's bytes, in the second new block. -/
theorem constR_second (w : World) (O : Obj) (xs : List UInt8) (n : Nat) (hn : xs.length = n) (hm : n < 1000) :
    (convert 26 26 (.slice (some ⟨w.heap.size + 1, 0, none⟩) n n)).run Tryd.prog ((w.alloc O).alloc (.cells (xs.map B8).toArray 5)) = .ok (.slice (some ⟨w.heap.size + 1, 0, none⟩) n n) ((w.alloc O).alloc (.cells (xs.map B8).toArray 5 (n, n + 1)))
    ∧ In ((w.alloc O).alloc (.cells (xs.map B8).toArray 5 (n, n + 1))) ((w.alloc O).alloc (.cells (xs.map B8).toArray 5 (n, n + 1))).heap.size (some ⟨w.heap.size + 1, 0, none⟩) n xs := by
  have h1 := Lib.run_convert_bytes_const (P := Tryd.prog) (w.alloc O) 26 5 (xs.map B8).toArray n n Tryd.underlying26 Tryd.underlying5
  have h2 := (buf_constR (w.alloc O) xs n 5 hn hm).toIn (Nat.le_refl _)
  rw [size_alloc1R, show (xs.map B8).toArray.size = n by simpa using hn] at h1
  rw [size_alloc1R w] at h2
  exact ⟨h1, h2⟩
theorem constR_first (w : World) (xs : List UInt8) (n : Nat) (hn : xs.length = n) (hm : n < 1000) :
    (convert 26 26 (.slice (some ⟨w.heap.size, 0, none⟩) n n)).run Tryd.prog (w.alloc (.cells (xs.map B8).toArray 5)) = .ok (.slice (some ⟨w.heap.size, 0, none⟩) n n) (w.alloc (.cells (xs.map B8).toArray 5 (n, n + 1)))
    ∧ In (w.alloc (.cells (xs.map B8).toArray 5 (n, n + 1))) (w.alloc (.cells (xs.map B8).toArray 5 (n, n + 1))).heap.size (some ⟨w.heap.size, 0, none⟩) n xs := by
  have h1 := Lib.run_convert_bytes_const (P := Tryd.prog) w 26 5 (xs.map B8).toArray n n Tryd.underlying26 Tryd.underlying5
  rw [show (xs.map B8).toArray.size = n by simpa using hn] at h1
  exact ⟨h1, (buf_constR w xs n 5 hn hm).toIn (Nat.le_refl _)⟩
theorem by8_nat {x : Int} (h : 0 ≤ x ∧ x ≤ 255) : ((by8 x).toNat : Int) = x := by
  unfold by8; rw [ofNat_toNat _ (by omega)]; omega
theorem attrOK_parts {a : Int × List UInt8} (h : attrOK a = true) : 1 ≤ a.1 ∧ a.1 ≤ 255 ∧ a.2.length ≤ 253 := by
  unfold attrOK at h; simp at h; omega
theorem saidA_attr {a : Int × List UInt8} (h : attrOK a = true) (r : List UInt8) : saidA (attrB a ++ r) = a :: saidA r := by
  obtain ⟨h1, h2, h3⟩ := attrOK_parts h
  obtain ⟨kd, v⟩ := a
  simp only at h1 h2 h3
  have e : attrB (kd, v) ++ r = by8 kd :: by8 (2 + (v.length : Int)) :: (v ++ r) := rfl
  have hn : (by8 (2 + (v.length : Int))).toNat = 2 + v.length := by have := by8_nat (x := 2 + (v.length : Int)) (by omega); omega
  rw [e, saidA_more (by simp [hn]; omega)]
  simp only [List.getD_cons_zero, List.getD_cons_succ, hn]
  rw [by8_nat (by omega), show 2 + v.length - 2 = v.length by omega]
  congr 1
  · simp
  · rw [show 2 + v.length = v.length + 1 + 1 by omega, List.drop_succ_cons, List.drop_succ_cons, List.drop_left']
    rfl
theorem saidA_flat {la : Attrs} (h : la.all attrOK = true) : saidA (flatA la) = la := by
  induction la with
  | nil => rw [show flatA [] = [] from rfl, saidA_none (by simp)]
  | cons a la ih =>
    rw [List.all_cons, Bool.and_eq_true] at h
    rw [show flatA (a :: la) = attrB a ++ flatA la by unfold flatA; simp, saidA_attr h.1, ih h.2]
theorem pkB_length (code id : Int) (Q : List UInt8) (la : Attrs) (hQ : Q.length = 16) : (pkB code id Q la).length = 20 + sizeA la := by
  unfold pkB
  rw [List.length_append, List.length_append, flatA_length, hQ]; rfl
theorem read_write {code id : Int} {Q : List UInt8} {la : Attrs} (hQ : Q.length = 16) (h : pkOK code id la = true) : readE (pkB code id Q la) = ((code, id, Q, la), 0) := by
  obtain ⟨hc, hi, ha⟩ := pk_ranges h
  have hf := whole_fit ha
  have hall : la.all attrOK = true := by unfold attrsOK at ha; rw [Bool.and_eq_true] at ha; exact ha.1
  have hl := pkB_length code id Q la hQ
  have e : pkB code id Q la = by8 code :: by8 id :: by8 ((20 + sizeA la) / 256 : Nat) :: by8 ((20 + sizeA la) % 256 : Nat) :: (Q ++ flatA la) := rfl
  have e0 : ((pkB code id Q la).getD 0 0).toNat = (by8 code).toNat := by rw [e]; rfl
  have e1 : ((pkB code id Q la).getD 1 0).toNat = (by8 id).toNat := by rw [e]; rfl
  have e2 : ((pkB code id Q la).drop 4).take 16 = Q := by rw [e]; show (Q ++ flatA la).take 16 = Q; rw [List.take_left' hQ]
  have e3 : (pkB code id Q la).drop 20 = flatA la := by rw [e]; show (Q ++ flatA la).drop 16 = _; rw [List.drop_left' hQ]
  unfold readE
  rw [e0, e1, e2, e3, by8_nat hc, by8_nat hi, saidA_flat hall, if_pos]
  refine ⟨by omega, by omega, ?_⟩
  unfold writeE; rw [if_pos h]
theorem hasMark_no {la : Attrs} (h : hasMark la = false) : ∀ j, j < la.length → (la.getD j (0, [])).1 ≠ 80 := fun j hj => by
  unfold hasMark at h
  rw [List.any_eq_false] at h
  have := h la[j] (List.getElem_mem hj)
  rw [List.getD_eq_getElem?_getD, List.getElem?_eq_getElem hj]
  simpa using this
theorem unmark_mark {code id : Int} {Q : List UInt8} {la : Attrs} {sec : List UInt8} (hm : hasMark la = false) : unmarkE code id Q (la ++ [(80, hmacQ sec (pkB code id Q (la ++ [(80, zQ)])))]) sec = ((code, id, Q, la), 0) := by
  have hno := hasMark_no hm
  have hat : markAt (la ++ [(80, hmacQ sec (pkB code id Q (la ++ [(80, zQ)])))]) = la.length := markAt_at (by simp) (by rw [getD_app, if_neg (Nat.lt_irrefl _), Nat.sub_self]; rfl) (fun j hj => by rw [getD_app, if_pos hj]; exact hno j hj)
  unfold unmarkE
  rw [hat, getD_app, if_neg (Nat.lt_irrefl _), Nat.sub_self, List.take_left' rfl, List.drop_of_length_le (by simp), List.append_nil, if_pos]
  refine ⟨by simp, hmacQ_len _ _, hm, ?_⟩
  rw [List.set_append, if_neg (Nat.lt_irrefl _), Nat.sub_self]; rfl
theorem open_mark {id : Int} {Q : List UInt8} {la : Attrs} {sec S : List UInt8} (hQ : Q.length = 16) (h : markE 1 id Q la sec = (S, 0)) : openE S sec = ((1, id, Q, la), 0) := by
  unfold markE at h
  split at h
  · cases h
  rename_i hm
  split at h
  · rename_i hp
    injection h with h _
    subst h
    have hp2 : pkOK 1 id (la ++ [(80, hmacQ sec (pkB 1 id Q (la ++ [(80, zQ)])))]) = true := by
      unfold pkOK at hp ⊢
      rw [Bool.and_eq_true] at hp ⊢
      refine ⟨hp.1, ?_⟩
      have h2 := hp.2
      unfold attrsOK at h2 ⊢
      rw [Bool.and_eq_true, List.all_append, Bool.and_eq_true] at h2 ⊢
      refine ⟨⟨h2.1.1, by simp [attrOK, hmacQ_len]⟩, ?_⟩
      have hs : sizeA (la ++ [(80, hmacQ sec (pkB 1 id Q (la ++ [(80, zQ)])))]) = sizeA (la ++ [(80, zQ)]) := by rw [sizeA_snoc, sizeA_snoc, hmacQ_len]; rfl
      rw [hs]; exact h2.2
    unfold openE
    rw [read_write hQ hp2, if_pos rfl, if_pos rfl]
    exact unmark_mark (by simpa using hm)
  · cases h
theorem Blk.new3R (w : World) (A B : Obj) (t : TypeId) (arr : Array Value) (cs : List Value) (h : arr = cs.toArray) : Blk (((w.alloc A).alloc B).alloc (.cells arr t)) (w.heap.size + 1 + 1) t cs := by
  have := Blk.new_of ((w.alloc A).alloc B) t arr cs h
  rwa [size_alloc1R, size_alloc1R] at this
theorem speak_w : writeE 1 1 zQ [(1, [97])] = (pkB 1 1 zQ [(1, [97])], 0) ∧ (pkB 1 1 zQ [(1, [97])]).length = 23 ∧ (pkB 1 1 zQ [(1, [97])]).getD 22 0 = 97 ∧ (pkB 1 1 zQ [(1, [97])]).getD 3 0 = 23 := by decide
theorem speak_s : ∃ S, sealE 1 1 zQ [(1, [97])] [115] = (S, 0) ∧ S.length = 41 ∧ openE S [115] = ((1, 1, zQ, [(1, [97])]), 0) := by
  have h : markE 1 1 zQ [(1, [97])] [115] = (pkB 1 1 zQ ([(1, [97])] ++ [(80, hmacQ [115] (pkB 1 1 zQ ([(1, [97])] ++ [(80, zQ)])))]), 0) := by
    unfold markE
    rw [if_neg (by decide), if_pos (by decide)]
  exact ⟨_, h, by rw [pkB_length _ _ _ _ rfl, sizeA_snoc, hmacQ_len]; rfl, open_mark rfl h⟩
set_option maxRecDepth 100000 in
set_option maxHeartbeats 1000000 in
theorem speaks_e (w : World) (ht : TabsQ w) :
    Calls Tryd.prog 15 #[] w fun e w' => e = .returned (.bool true) ∧ Below w.heap.size w w' := by
  obtain ⟨hW, hl23, h22, h3⟩ := speak_w
  obtain ⟨S, hS, hl41, hO⟩ := speak_s
  have HWR := Lib.hid (fun (W : World) (A2 : Option Addr) (c2 : Nat) (h2 : AIn W W.heap.size A2 c2 [(1, [97])]) => (show Calls Tryd.prog 13 #[.agg (pkC 1 1 zQ A2 1 c2).toArray] W (WrapPost (pkB 1 1 zQ [(1, [97])], 0) W) by rw [← hW]; exact write_e c2 1 1 1 zQ A2 [(1, [97])] W rfl rfl h2))
  have HSL := Lib.hid (fun (W : World) (A2 As : Option Addr) (c2 cs : Nat) (h2 : AIn W W.heap.size A2 c2 [(1, [97])]) (is : In W W.heap.size As cs [115]) (hb : Below w.heap.size w W) => (show Calls Tryd.prog 20 #[.agg (pkC 1 1 zQ A2 1 c2).toArray, .slice As 1 cs] W (WrapPost (S, 0) W) by rw [← hS]; exact seal_e c2 1 1 cs 1 1 zQ A2 As [(1, [97])] [115] W rfl rfl h2 rfl is (ht.below hb) (by decide) (by decide)))
  have HOP := Lib.hid (fun (W : World) (A2 As : Option Addr) (c2 cs : Nat) (i0 : In W W.heap.size A2 c2 S) (is : In W W.heap.size As cs [115]) (hb : Below w.heap.size w W) => (show Calls Tryd.prog 24 #[.slice A2 41 c2, .slice As 1 cs] W (UnPost ((1, 1, zQ, [(1, [97])]), 0) W.heap.size W) by rw [← hO]; exact open_e A2 As c2 cs 41 1 S [115] W hl41 i0 rfl is (ht.below hb) (by decide)))
  unfold WrapPost at HWR HSL
  unfold UnPost at HOP
  simp only at HWR HSL HOP
  have HSS := Lib.hid hl41
  generalize pkB 1 1 zQ [(1, [97])] = BB at *
  have HBB := Lib.hid (And.intro hl23 (And.intro h22 h3))
  clear hW hS hO hl23 h22 h3 hl41 ht
  obtain ⟨kc, hS0⟩ := constR_first w [97] 1 rfl (by decide)
  replace kc : (convert 26 26 (.slice (some ⟨w.heap.size, 0, none⟩) 1 1)).run Tryd.prog (w.alloc (.cells #[.int .u8 97] 5)) = .ok (.slice (some ⟨w.heap.size, 0, none⟩) 1 1) (w.alloc (.cells #[.int .u8 97] 5 (1, 2))) := kc
  have hB3 := Blk.new3R w (.cells #[.int .u8 97] 5 (1, 2)) (.cells #[.int .i64 1, .slice (some ⟨w.heap.size, 0, none⟩) 1 1] 69) 30 #[.int .i64 0, .int .i64 0, .int .u8 0, .int .u8 0, .int .u8 0, .int .u8 0, .int .u8 0, .int .u8 0, .int .u8 0, .int .u8 0, .int .u8 0, .int .u8 0, .int .u8 0, .int .u8 0, .int .u8 0, .int .u8 0, .int .u8 0, .int .u8 0, .slice none 0 0] (pkC 0 0 zQ none 0 0) rfl
  have hAM := attr_one (fun b => b ≠ w.heap.size + 1 + 1) (w.alloc (.cells #[.int .u8 97] 5 (1, 2))) 1 [97] (some ⟨w.heap.size, 0, none⟩) 1 1 rfl hS0 (fun a e => by cases e; simp only; omega)
  have HB3 := Lib.hid hB3
  have hAM2 := hAM.upK ((Below.refl _ _).alloc (Nat.le_refl _) (.cells #[.int .i64 0, .int .i64 0, .int .u8 0, .int .u8 0, .int .u8 0, .int .u8 0, .int .u8 0, .int .u8 0, .int .u8 0, .int .u8 0, .int .u8 0, .int .u8 0, .int .u8 0, .int .u8 0, .int .u8 0, .int .u8 0, .int .u8 0, .int .u8 0, .slice none 0 0] 30))
  rw [show (w.alloc (.cells #[.int .u8 97] 5 (1, 2))).heap.size = w.heap.size + 1 from size_alloc1R w _] at hAM2
  have HAM := Lib.hid hAM2
  have hb0 : Below w.heap.size w (((w.alloc (.cells #[.int .u8 97] 5 (1, 2))).alloc (.cells #[.int .i64 1, .slice (some ⟨w.heap.size, 0, none⟩) 1 1] 69)).alloc (.cells #[.int .i64 0, .int .i64 0, .int .u8 0, .int .u8 0, .int .u8 0, .int .u8 0, .int .u8 0, .int .u8 0, .int .u8 0, .int .u8 0, .int .u8 0, .int .u8 0, .int .u8 0, .int .u8 0, .int .u8 0, .int .u8 0, .int .u8 0, .int .u8 0, .slice none 0 0] 30)) := (((Below.refl _ _).alloc (Nat.le_refl _) _).alloc (by simp) _).alloc (by simp; omega) _
  have HB0 := Lib.hid hb0
  clear hB3 hAM hAM2 hS0 hb0
  go_enter Tryd.func15, Tryd.ntmps15
  go_upto_region 2 with ((with_reducible refine (?_ : wpList _ _ _ (Oper.mk none _ _ _ _ _ :: _) _ _)); go_loud (refine wpList_store_blk rfl 30 (.tmp 1) (.tmp 12) rfl rfl (w.heap.size + 1 + 1) (pkC 1 1 zQ (some ⟨w.heap.size + 1, 0, none⟩) 1 1) rfl rfl _ _ (HB3.out) (infPk) (rfl) (pk_one _ _ _ _ _ _) ?_); intro w1 hP1 hg1)
  have HA1 := Lib.hid (HAM.out.grown hg1 (fun _ a e e2 => by cases e; simp only at e2; omega) (fun _ h => h)).toIn
  have HB1 := Lib.hid (below_new HB0.out hg1 (by omega) HB0.out.size)
  have HP1 := Lib.hid hP1
  clear HB3 HAM HB0 hP1 hg1 kc
  generalize w.heap.size + 1 + 1 = g at *
  generalize w.heap.size + 1 = g0 at *
  have hP1 := HP1.out
  go_upto_region 3 with (first
    | ((with_reducible refine (?_ : wpList _ _ _ (Oper.mk (some 14) _ _ _ _ _ :: _) _ _)); go_loud (refine wpList_load_blk rfl 30 (.tmp 1) rfl g rfl _ _ _ (hP1) Tryd.underlying30 rfl (infPk.trans rfl) ?_))
    | (go_at_call 13; refine (HWR.out _ _ _ HA1.out).mono ?_; rintro e w2 ⟨A2, n2, c2, rfl, hB2, hb2⟩))
  obtain ⟨gB, hA2, hgB, hgB2, hby⟩ := hB2.at (by rw [← hB2.1, HBB.out.1]; decide)
  subst hA2
  have hn2 : n2 = 23 := by rw [← hB2.1, HBB.out.1]
  subst hn2
  have hc22 : w2.cell? ⟨gB, 22, none⟩ = some (.int .u8 97) := by have := hby 22 (by rw [HBB.out.1]; decide); rw [HBB.out.2.1] at this; simpa using this
  have hc3 : w2.cell? ⟨gB, 3, none⟩ = some (.int .u8 23) := by have := hby 3 (by rw [HBB.out.1]; decide); rw [HBB.out.2.2] at this; simpa using this
  have HB2 := Lib.hid (HB1.out.trans (hb2.mono HB1.out.size))
  have HP2 := Lib.hid (HP1.out.below hb2 HP1.out.lt)
  have HA2 := Lib.hid (HA1.out.up hb2)
  have HC2 := Lib.hid (fun (W : World) (h : Below w2.heap.size w2 W) => (show W.cell? ⟨gB, 22, none⟩ = some (.int .u8 97) ∧ W.cell? ⟨gB, 3, none⟩ = some (.int .u8 23) from ⟨(h.cell (p := ⟨gB, 22, none⟩) hgB2).trans hc22, (h.cell (p := ⟨gB, 3, none⟩) hgB2).trans hc3⟩))
  clear hP1 hB2 hb2 hgB hgB2 hby hc22 hc3
  obtain ⟨kc, hS1⟩ := constR_first w2 [115] 1 rfl (by decide)
  replace kc : (convert 26 26 (.slice (some ⟨w2.heap.size, 0, none⟩) 1 1)).run Tryd.prog (w2.alloc (.cells #[.int .u8 115] 5)) = .ok (.slice (some ⟨w2.heap.size, 0, none⟩) 1 1) (w2.alloc (.cells #[.int .u8 115] 5 (1, 2))) := kc
  have HS1 := Lib.hid hS1
  have hz1 : Below w2.heap.size w2 (w2.alloc (.cells #[.int .u8 115] 5 (1, 2))) := (Below.refl _ _).alloc (Nat.le_refl _) _
  have HZ1 := Lib.hid hz1
  have hP2 := HP2.out
  clear hS1 hz1
  go_upto_region 4 with (first
    | ((with_reducible refine (?_ : wpList _ _ _ (Oper.mk (some 19) _ _ _ _ _ :: _) _ _)); go_loud (refine wpList_load_blk rfl 30 (.tmp 1) rfl g rfl _ _ _ (hP2) Tryd.underlying30 rfl (infPk.trans rfl) ?_))
    | (go_at_call 20; refine (HSL.out _ _ _ _ _ (HA2.out.up HZ1.out) HS1.out (HB2.out.trans (HZ1.out.mono HB2.out.size))).mono ?_; rintro e w3 ⟨A3, n3, c3, rfl, hB3, hb3⟩))
  have hn3 : n3 = 41 := by rw [← hB3.1, HSS.out]
  subst hn3
  have HW3 := Lib.hid (HZ1.out.trans (hb3.mono HZ1.out.size))
  have HB3 := Lib.hid (HB2.out.trans (HW3.out.mono HB2.out.size))
  have HI3 := Lib.hid (hB3.toIn (Nat.le_refl _))
  clear kc hP2 hB3 hb3
  obtain ⟨kc, hS3⟩ := constR_first w3 [115] 1 rfl (by decide)
  replace kc : (convert 26 26 (.slice (some ⟨w3.heap.size, 0, none⟩) 1 1)).run Tryd.prog (w3.alloc (.cells #[.int .u8 115] 5)) = .ok (.slice (some ⟨w3.heap.size, 0, none⟩) 1 1) (w3.alloc (.cells #[.int .u8 115] 5 (1, 2))) := kc
  have HS3 := Lib.hid hS3
  have hz3 : Below w3.heap.size w3 (w3.alloc (.cells #[.int .u8 115] 5 (1, 2))) := (Below.refl _ _).alloc (Nat.le_refl _) _
  have HZ3 := Lib.hid hz3
  clear hS3 hz3
  go_upto_region 5 with (first
    | (go_at_call 24; refine (HOP.out _ _ _ _ _ (HI3.out.up HZ3.out) HS3.out (HB3.out.trans (HZ3.out.mono HB3.out.size))).mono ?_; rintro e w4 ⟨A4, m4, c4, rfl, hl4, hA4, hQ4, hb4, hA4b⟩)
    | ((with_reducible refine (?_ : wpList _ _ _ (Oper.mk none _ _ _ _ _ :: _) _ _)); go_loud (refine wpList_store_blk rfl 30 (.tmp 6) (.tmp 30) rfl rfl w4.heap.size (pkC 1 1 zQ A4 m4 c4) rfl rfl _ _ (Blk.new_of w4 30 #[.int .i64 0, .int .i64 0, .int .u8 0, .int .u8 0, .int .u8 0, .int .u8 0, .int .u8 0, .int .u8 0, .int .u8 0, .int .u8 0, .int .u8 0, .int .u8 0, .int .u8 0, .int .u8 0, .int .u8 0, .int .u8 0, .int .u8 0, .int .u8 0, .slice none 0 0] (pkC 0 0 zQ none 0 0) rfl) (infPk) (rfl) (pk_one _ _ _ _ _ _) ?_); intro w5 hS5 hg5))
  have hm4 : m4 = 1 := hl4.symm
  subst hm4
  have h4a : Below w4.heap.size w4 (w4.alloc (.cells #[.int .i64 0, .int .i64 0, .int .u8 0, .int .u8 0, .int .u8 0, .int .u8 0, .int .u8 0, .int .u8 0, .int .u8 0, .int .u8 0, .int .u8 0, .int .u8 0, .int .u8 0, .int .u8 0, .int .u8 0, .int .u8 0, .int .u8 0, .int .u8 0, .slice none 0 0] 30)) := (Below.refl _ _).alloc (Nat.le_refl _) _
  have hb5 : Below w4.heap.size w4 w5 := below_new h4a hg5 (Nat.le_refl _) h4a.size
  have hb34 := HZ3.out.trans (hb4.mono HZ3.out.size)
  have hb35 := hb34.trans (hb5.mono hb34.size)
  have hb25 := HW3.out.trans (hb35.mono HW3.out.size)
  obtain ⟨hc22, hc3⟩ := HC2.out w5 hb25
  have hc18 : w5.cell? ⟨w4.heap.size, 18, none⟩ = some (.slice A4 1 c4) := hS5.cell 18
  have hbe := HB3.out.trans (hb35.mono HB3.out.size)
  generalize w4.heap.size = g4 at *
  clear h4a hb5 hb34 hb35 hb25 hg5 hS5 hb4 hA4b hQ4 hA4 hl4 kc
  go_wp2
  go_ret
  exact ⟨rfl, hbe⟩
end Go.Proofs.YtbomckbekcaemaaDoor
