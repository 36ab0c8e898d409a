/-
  The walk of the statement GcmSeals.
-/
import Derived.Test.YtefbjhdcmgonbaaMTag
import Derived.Test.YtefbjhdcmgonbaaMOpen
import Derived.Test.YtefbjhdcmgonbaaMLet
import Derived.BigQuiet
namespace Go.Proofs.Ytefbjhdcmgonbaa
open Go.RowKit

set_option maxRecDepth 100000 in
set_option maxHeartbeats 1000000 in
theorem rseal_e (n nh nb : Nat) (hn : n = 4 ∨ n = 8) (key N P bes : List UInt8) (w : World) (hl : key.length = 4 * n) (hN : N.length = 12) (lp : P.length = nh) (lb : bes.length = nb) (hh : nh < 1000000) (hb : nb < 1000000) :
    Calls Try.prog 15 #[.string ⟨key.toArray⟩, BV N, .string ⟨P.toArray⟩, .string ⟨bes.toArray⟩] w fun e w' => e = .returned (.string ⟨(boxE (keyL n key) (n + 7) N P bes).toArray⟩) ∧ Below w.heap.size w w' := by
  have ktn := fun W => turn_e n nh hn key N P W hl hN lp hh
  have hml : (maskE (keyL n key) (n + 7) N P).length = nh := by rw [maskE_length, lp]
  have ktg := fun W => rtag_e n nh nb hn key N (maskE (keyL n key) (n + 7) N P) bes W hl hN hml lb hh hb
  have htl := tagE_length (keyL n key) (n + 7) N (maskE (keyL n key) (n + 7) N P) bes
  unfold boxE
  generalize tagE (keyL n key) (n + 7) N (maskE (keyL n key) (n + 7) N P) bes = T at *
  generalize maskE (keyL n key) (n + 7) N P = M at *
  have hap := bytes_append M T
  have hcl : ¬ 9223372036854775807 < M.length + T.length := by omega
  have HTN := Lib.hid ktn
  have HTG := Lib.hid ktg
  have HN := Lib.hid hN
  clear ktn ktg hml htl hN lp lb hh hb hl hn
  go_enter Try.func15, Try.ntmps15
  have hA := Blk.new_of w 23 _ (N.map B8) rfl
  have hbw : Below w.heap.size w (w.alloc (.cells (N.map B8).toArray 23)) := (Below.refl _ _).alloc (Nat.le_refl _) _
  go_wp2_with (first
    | ((with_reducible refine (?_ : wpList _ _ _ (Oper.mk (some 11) _ _ _ _ _ :: _) _ _)); go_loud (refine wpList_load_blk rfl 23 (.tmp 5) rfl (w.heap.size) rfl 23 _ _ hA Try.underlying23 rfl (info12.trans (by rw [List.length_map, HN.out])) ?_))
    | ((with_reducible refine (?_ : wpList _ _ _ (Oper.mk (some 16) _ _ _ _ _ :: _) _ _)); go_loud (refine wpList_load_blk rfl 23 (.tmp 5) rfl (w.heap.size) rfl 23 _ _ hA Try.underlying23 rfl (info12.trans (by rw [List.length_map, HN.out])) ?_))
    | (go_at_call 17; go_loud (refine (HTN.out _).mono ?_); rintro e w2 ⟨rfl, hb2⟩; replace hA := hA.below hb2 hA.lt; replace hbw := hbw.trans (hb2.mono hbw.size); clear hb2)
    | (go_at_call 16; go_loud (refine (HTG.out _).mono ?_); rintro e w3 ⟨rfl, hb3⟩; replace hbw := hbw.trans (hb3.mono hbw.size); clear hb3))
  go_ret
  exact ⟨by first | rw [hap] | rfl, hbw⟩
theorem maskE_twice (L : List UInt32) (R : Nat) (N P : List UInt8) : maskE L R N (maskE L R N P) = P := by
  refine List.ext_getElem (by rw [maskE_length, maskE_length]) fun i h1 h2 => ?_
  have e := maskE_get L R N (maskE L R N P) i (by rw [maskE_length]; exact h2)
  rw [maskE_get L R N P i h2, UInt8.xor_assoc, UInt8.xor_self, UInt8.xor_zero] at e
  rw [List.getD_eq_getElem?_getD, List.getD_eq_getElem?_getD, List.getElem?_eq_getElem h1, List.getElem?_eq_getElem h2] at e
  exact e
theorem infoLet : (Try.prog.info? 26).map (·.size) = some 47 := by kernel_rfl
theorem none_e (w : World) : Calls Try.prog 10 #[] w fun e w' => e = .returned (.pointer none) ∧ Below w.heap.size w w' := by
  go_enter Try.func10, Try.ntmps10
  go_wp2
  go_ret
  exact ⟨rfl, Below.refl _ _⟩

set_option maxRecDepth 100000 in
set_option maxHeartbeats 1000000 in
theorem gcmSeals_walk (K N P Q : List UInt8) (sh : Bool) (A1 A2 : Option Addr) (n1 c1 n2 c2 : Nat) (w : World) (hK : K.length = 32) (hN : N.length = 12) (hP : P.length = n1) (hQ : Q.length = n2)
    (iP : In w w.heap.size A1 c1 P) (iQ : In w w.heap.size A2 c2 Q) :
    Calls Try.prog 3 #[.agg (letC K sh N A1 n1 c1 A2 n2 c2).toArray] w fun e w' => e = .returned (.bool true) ∧ Below w.heap.size w w' := by
  have kk := fun (W : World) => key_e K N sh A1 A2 n1 c1 n2 c2 W hK
  have kp := fun (W : World) (i : In W W.heap.size A1 c1 P) => plain_e K N sh A1 A2 n1 c1 n2 c2 P W hK hN hP i
  have kb := fun (W : World) (i : In W W.heap.size A2 c2 Q) => beside_e K N sh A1 A2 n1 c1 n2 c2 Q W hK hN hQ i
  have hkl := keyOf_length K sh hK
  have hln := letC_nonce K N sh A1 A2 n1 c1 n2 c2 hK hN
  have hll := letC_length K N sh A1 A2 n1 c1 n2 c2 hK hN
  have hpl : (P.take 100).length ≤ 100 := by rw [List.length_take]; omega
  have hbl : (Q.take 60).length ≤ 60 := by rw [List.length_take]; omega
  have hnw := fun (W : World) (A : Option Addr) (c : Nat) (i : In W W.heap.size A c (keyOf K sh)) => bnew_any A c W.heap.size (fours sh) (keyOf K sh) W (Nat.le_refl _) (ink i) hkl (fours_or sh)
  have krs := fun (W : World) => rseal_e (fours sh) (P.take 100).length (Q.take 60).length (fours_or sh) (keyOf K sh) N (P.take 100) (Q.take 60) W hkl hN rfl rfl (by omega) (by omega)
  simp only [hkl] at hnw
  generalize P.take 100 = P1 at *
  generalize Q.take 60 = B1 at *
  generalize keyOf K sh = KK at *
  obtain ⟨LL, hLL⟩ : ∃ LL, LL = letC K sh N A1 n1 c1 A2 n2 c2 := ⟨_, rfl⟩
  rw [← hLL] at kk kp kb hln hll ⊢
  obtain ⟨nk, hnk⟩ : ∃ nk, nk = 4 * fours sh := ⟨_, rfl⟩
  rw [← hnk] at hnw hkl
  simp only [← hnk] at kk
  obtain ⟨L, hLk⟩ : ∃ L, L = keyL (fours sh) KK := ⟨_, rfl⟩
  rw [← hLk] at hnw
  simp only [← hLk] at krs
  obtain ⟨R, hR⟩ : ∃ R, R = fours sh + 7 := ⟨_, rfl⟩
  rw [← hR] at hnw
  simp only [← hR] at krs
  clear hLL hnk hLk hR
  obtain ⟨np, hnp⟩ : ∃ np, np = P1.length := ⟨_, rfl⟩
  obtain ⟨nb, hnb⟩ : ∃ nb, nb = B1.length := ⟨_, rfl⟩
  obtain ⟨ns, hns⟩ : ∃ ns, ns = np + 16 := ⟨_, rfl⟩
  rw [← hnp] at hpl
  rw [← hnb] at hbl
  have hsl := boxE_length L R N P1 B1
  rw [← hnp, ← hns] at hsl
  have kse := fun (W : World) (gx gk gr cp cb : Nat) (Ap Ab : Option Addr) (h : BoxAt W gx gk gr R L) (ip : In W W.heap.size Ap cp P1) (ib : In W W.heap.size Ab cb B1) => seal_e gx gk gr R np nb cp cb Ap Ab L N P1 B1 W h hN ip ib hnp.symm hnb.symm (by omega) (by omega)
  simp only [← hns] at kse
  have kop := fun (W : World) (gx gk gr cs cb : Nat) (As Ab : Option Addr) (h : BoxAt W gx gk gr R L) (is : In W W.heap.size As cs (boxE L R N P1 B1)) (ib : In W W.heap.size Ab cb B1) => open_e gx gk gr R ns np nb cs cb As Ab L N (maskE L R N P1) (tagE L R N (maskE L R N P1) B1) B1 W h hN is ib (by rw [maskE_length, ← hnp]) (tagE_length _ _ _ _ _) hns hnb.symm (by omega) (by omega)
  simp only [maskE_twice, not_true_eq_false, false_and, or_false, true_and] at kop
  generalize boxE L R N P1 B1 = S1 at *
  have HKK := Lib.hid kk
  have HPE := Lib.hid kp
  have HBE := Lib.hid kb
  have HNW := Lib.hid hnw
  have HRS := Lib.hid krs
  have HSE := Lib.hid kse
  have HOP := Lib.hid kop
  have HLN := Lib.hid hln
  have HLL := Lib.hid hll
  have LN := Lib.hid hN
  have LK := Lib.hid hkl
  have HNP := Lib.hid hnp.symm
  have HNB := Lib.hid hnb.symm
  have HSL := Lib.hid hsl
  clear kk kp kb hnw krs kse kop hln hll hN hkl hnp hnb hsl hns hK hP hQ
  go_enter Try.func3, Try.ntmps3
  have hL := Blk.new_of w 26 LL.toArray LL rfl
  have hbw : Below w.heap.size w (w.alloc (.cells LL.toArray 26)) := (Below.refl _ _).alloc (Nat.le_refl _) _
  go_upto_region 2 with (first
    | ((with_reducible refine (?_ : wpList _ _ _ (Oper.mk (some 13) _ _ _ _ _ :: _) _ _)); go_loud (refine wpList_load_blk rfl 26 (.tmp 1) rfl (w.heap.size) rfl 26 _ _ hL Try.underlying26 rfl (infoLet.trans (by rw [HLL.out])) ?_))
    | (go_at_call 8; go_loud (refine (HKK.out _).mono ?_); rintro e w2 ⟨Ak, nk', ck, rfl, hnk, hBk, hb2⟩; subst hnk; replace hL := hL.below hb2 hL.lt; replace hbw := hbw.trans (hb2.mono hbw.size); have hIk := hBk.toIn (Nat.le_refl _); clear hb2 hBk)
    | (go_at_call 7; go_loud (refine (HNW.out _ _ _ hIk).mono ?_); rintro e w3 ⟨gx, gk, gr, rfl, _, hX, hb3⟩; replace hL := hL.below hb3 hL.lt; replace hbw := hbw.trans (hb3.mono hbw.size); clear hb3 hIk))
  apply wp_region_once (D := [[], [0], [0, 1], [0, 1, 2], [0, 1, 2, 3], [0, 1, 2, 3, 4], [0, 1, 2, 3, 4, 5], [0, 1, 2, 3, 4, 5, 6], [0, 1, 2, 3, 4, 5, 6], [0, 1, 2, 3, 4, 5, 6, 8], [0, 1, 2, 3, 4, 5, 6, 7, 8, 9], [0, 1, 2, 3, 4, 5, 6, 7, 8, 9, 10], [0, 1, 2, 3, 4, 5, 6, 7, 8, 9, 10, 11], [0, 1, 2, 3, 4, 5, 6, 7, 8, 9, 10, 11, 12]]) (J := [[], [0], [1], [2], [2, 3], [2, 4], [5], [6], [6], [6, 8], [6, 7, 9], [6, 10], [6, 11], [6, 12]]) (Je := [13]) (Rs := [Is _, Is _, Is _, Is _, Is _, Is _, Is _, Is _, Is _, Is _, Is _, Is _, Is _, Is _])
  · kernel_rfl
  · kernel_rfl
  · kernel_rfl
  · kernel_rfl
  · kernel_rfl
  · kernel_rfl
  · intro u
    simp only [List.map_cons, List.map_nil, fillU, List.setIfInBounds_toArray, List.set_cons_zero, List.set_cons_succ, Nat.zero_add, Nat.reduceAdd]
    exact rfl
  · skip
    refine ⟨fun u V hb hd K hK => ?_, ?_⟩
    · clear hd
      go_simp
      refine (boxes_e V).mono ?_
      rintro e wy ⟨rfl, hby⟩
      exact hK _ _ _ rfl hby IsOut
    refine ⟨fun u V hb hd K hK => ?_, ?_⟩
    · simp only [Facts, nthR, Is, and_true] at hd
      simp only [hd] at hK ⊢
      clear hd
      go_simp
      apply hK
      · simp only [Act.put, List.setIfInBounds_toArray, List.set_cons_zero, List.set_cons_succ]
        exact rfl
      · exact Below.refl _ _
      · exact IsOut
    refine ⟨fun u V hb hd K hK => ?_, ?_⟩
    · simp only [Facts, nthR, Is, and_true] at hd
      simp only [hd] at hK ⊢
      clear hd
      go_simp
      apply hK
      · simp only [Act.put, List.setIfInBounds_toArray, List.set_cons_zero, List.set_cons_succ]
        exact rfl
      · exact Below.refl _ _
      · exact IsOut
    refine ⟨fun u V hb hd K hK => ?_, ?_⟩
    · simp only [Facts, nthR, Is, and_true] at hd
      simp only [hd] at hK ⊢
      clear hd
      go_simp
      apply hK
      · simp only [Act.put, List.setIfInBounds_toArray, List.set_cons_zero, List.set_cons_succ]
        exact rfl
      · exact Below.refl _ _
      · exact IsOut
    refine ⟨fun u V hb hd K hK => ?_, ?_⟩
    · simp only [Facts, nthR, Is, and_true] at hd
      simp only [hd] at hK ⊢
      clear hd
      go_simp
      apply hK
      · simp only [Act.put, List.setIfInBounds_toArray, List.set_cons_zero, List.set_cons_succ]
        exact rfl
      · exact Below.refl _ _
      · exact IsOut
    refine ⟨fun u V hb hd K hK => ?_, ?_⟩
    · simp only [Facts, nthR, Is, and_true] at hd
      simp only [hd] at hK ⊢
      clear hd
      go_simp
      apply hK
      · simp only [Act.put, List.setIfInBounds_toArray, List.set_cons_zero, List.set_cons_succ]
        exact rfl
      · exact Below.refl _ _
      · exact IsOut
    refine ⟨fun u V hb hd K hK => ?_, ?_⟩
    · simp only [Facts, nthR, Is, and_true] at hd
      simp only [hd] at hK ⊢
      clear hd
      go_simp
      apply hK
      · simp only [Act.put, List.setIfInBounds_toArray, List.set_cons_zero, List.set_cons_succ]
        exact rfl
      · exact Below.refl _ _
      · exact IsOut
    refine ⟨fun u V hb hd K hK => ?_, ?_⟩
    · simp only [Facts, nthR, Is, and_true] at hd
      simp only [hd] at hK ⊢
      clear hd
      go_simp
      refine (none_e V).mono ?_
      rintro e wy ⟨rfl, hby⟩
      exact hK _ _ _ rfl hby IsOut
    refine ⟨fun u V hb hd K hK => ?_, ?_⟩
    · simp only [Facts, nthR, Is, and_true] at hd
      simp only [hd] at hK ⊢
      clear hd
      go_simp
      apply hK
      · simp only [Act.put, List.setIfInBounds_toArray, List.set_cons_zero, List.set_cons_succ]
        exact rfl
      · exact Below.refl _ _
      · exact IsOut
    refine ⟨fun u V hb hd K hK => ?_, ?_⟩
    · simp only [Facts, nthR, Is, and_true] at hd
      simp only [hd] at hK ⊢
      clear hd
      rw [if_pos (by rfl)]
      refine wp_load_mid 23 (.tmp 26) rfl (w.heap.size) (33) rfl (N.map B8) _ ((fun j v hv => ((hL.below hb hL.lt).cell (33 + j)).trans (HLN.out j v hv))) Try.underlying23 rfl (info12.trans (by rw [List.length_map, LN.out])) ?_
      exact hK _ _ _ rfl (Below.refl _ _) IsOut
    refine ⟨fun u V hb hd K hK => ?_, ?_⟩
    · simp only [Facts, nthR, Is, and_true] at hd
      simp only [hd] at hK ⊢
      clear hd
      go_simp
      refine (seal_none N _ _ V).mono ?_
      rintro e wy ⟨rfl, hby⟩
      exact hK _ _ _ rfl hby IsOut
    refine ⟨fun u V hb hd K hK => ?_, ?_⟩
    · simp only [Facts, nthR, Is, and_true] at hd
      simp only [hd] at hK ⊢
      clear hd
      go_simp
      apply hK
      · simp only [Act.put, List.setIfInBounds_toArray, List.set_cons_zero, List.set_cons_succ]
        exact rfl
      · exact Below.refl _ _
      · exact IsOut
    refine ⟨fun u V hb hd K hK => ?_, ?_⟩
    · simp only [Facts, nthR, Is, and_true] at hd
      simp only [hd] at hK ⊢
      clear hd
      go_simp
      apply hK
      · simp only [Act.put, List.setIfInBounds_toArray, List.set_cons_zero, List.set_cons_succ]
        exact rfl
      · exact Below.refl _ _
      · exact IsOut
    refine ⟨fun u V hb hd K hK => ?_, ?_⟩
    · simp only [Facts, nthR, Is, and_true] at hd
      simp only [hd] at hK ⊢
      clear hd
      go_simp
      apply hK
      · simp only [Act.put, List.setIfInBounds_toArray, List.set_cons_zero, List.set_cons_succ]
        exact rfl
      · exact Below.refl _ _
      · exact IsOut
    exact trivial
  · exact (.is (.is (.is (.is (.is (.is (.is (.is (.is (.is (.is (.is (.is (.is .nil))))))))))))))
  · intro u V hb hd
    simp only [Facts, nthR, Is, and_true] at hd
    simp only [hd]
    replace hbw := hbw.trans (hb.mono hbw.size)
    replace hL := hL.below hb hL.lt
    replace hX := hX.below hb
    clear hb
    go_upto_region 4 with (fail)
    apply wp_region_once (D := [[], [], [1], [0, 1, 2], [0, 1, 2, 3], [0, 1, 2, 3, 4], [0, 1, 2, 3, 4], [0, 1, 2, 3, 4, 5], [0, 1, 2, 3, 4, 5, 6, 7]]) (J := [[], [], [1], [0, 2], [3], [4], [4], [5], [6]]) (Je := [7, 8]) (Rs := [Is _, Is _, Is _, Is _, Is _, Is _, Is _, Is _, Is _])
    · kernel_rfl
    · kernel_rfl
    · kernel_rfl
    · kernel_rfl
    · kernel_rfl
    · kernel_rfl
    · intro u
      simp only [List.map_cons, List.map_nil, fillU, List.setIfInBounds_toArray, List.set_cons_zero, List.set_cons_succ, Nat.zero_add, Nat.reduceAdd]
      exact rfl
    · skip
      refine ⟨fun u V hb hd K hK => ?_, ?_⟩
      · clear hd
        go_simp
        refine (none_e V).mono ?_
        rintro e wy ⟨rfl, hby⟩
        exact hK _ _ _ rfl hby IsOut
      refine ⟨fun u V hb hd K hK => ?_, ?_⟩
      · clear hd
        go_simp
        apply hK
        · simp only [Act.put, List.setIfInBounds_toArray, List.set_cons_zero, List.set_cons_succ]
          exact rfl
        · exact Below.refl _ _
        · exact IsOut
      refine ⟨fun u V hb hd K hK => ?_, ?_⟩
      · simp only [Facts, nthR, Is, and_true] at hd
        simp only [hd] at hK ⊢
        clear hd
        rw [if_pos (by rfl)]
        refine wp_load_mid 23 (.tmp 34) rfl (w.heap.size) (33) rfl (N.map B8) _ ((fun j v hv => ((hL.below hb hL.lt).cell (33 + j)).trans (HLN.out j v hv))) Try.underlying23 rfl (info12.trans (by rw [List.length_map, LN.out])) ?_
        exact hK _ _ _ rfl (Below.refl _ _) IsOut
      refine ⟨fun u V hb hd K hK => ?_, ?_⟩
      · simp only [Facts, nthR, Is, and_true] at hd
        simp only [hd] at hK ⊢
        clear hd
        go_simp
        refine (open_none N _ _ V).mono ?_
        rintro e wy ⟨rfl, hby⟩
        exact hK _ _ _ rfl hby IsOut
      refine ⟨fun u V hb hd K hK => ?_, ?_⟩
      · simp only [Facts, nthR, Is, and_true] at hd
        simp only [hd] at hK ⊢
        clear hd
        go_simp
        apply hK
        · simp only [Act.put, List.setIfInBounds_toArray, List.set_cons_zero, List.set_cons_succ]
          exact rfl
        · exact Below.refl _ _
        · exact IsOut
      refine ⟨fun u V hb hd K hK => ?_, ?_⟩
      · simp only [Facts, nthR, Is, and_true] at hd
        simp only [hd] at hK ⊢
        clear hd
        go_simp
        apply hK
        · simp only [Act.put, List.setIfInBounds_toArray, List.set_cons_zero, List.set_cons_succ]
          exact rfl
        · exact Below.refl _ _
        · exact IsOut
      refine ⟨fun u V hb hd K hK => ?_, ?_⟩
      · simp only [Facts, nthR, Is, and_true] at hd
        simp only [hd] at hK ⊢
        clear hd
        go_simp
        apply hK
        · simp only [Act.put, List.setIfInBounds_toArray, List.set_cons_zero, List.set_cons_succ]
          exact rfl
        · exact Below.refl _ _
        · exact IsOut
      refine ⟨fun u V hb hd K hK => ?_, ?_⟩
      · simp only [Facts, nthR, Is, and_true] at hd
        simp only [hd] at hK ⊢
        clear hd
        go_simp
        apply hK
        · simp only [Act.put, List.setIfInBounds_toArray, List.set_cons_zero, List.set_cons_succ]
          exact rfl
        · exact Below.refl _ _
        · exact IsOut
      refine ⟨fun u V hb hd K hK => ?_, ?_⟩
      · simp only [Facts, nthR, Is, and_true] at hd
        simp only [hd] at hK ⊢
        clear hd
        go_simp
        apply hK
        · simp only [Act.put, List.setIfInBounds_toArray, List.set_cons_zero, List.set_cons_succ]
          exact rfl
        · exact Below.refl _ _
        · exact IsOut
      exact trivial
    · exact (.is (.is (.is (.is (.is (.is (.is (.is (.is .nil)))))))))
    · intro u V hb hd
      simp only [Facts, nthR, Is, and_true] at hd
      simp only [hd]
      replace hbw := hbw.trans (hb.mono hbw.size)
      replace hL := hL.below hb hL.lt
      replace hX := hX.below hb
      clear hb
      go_upto_region 5 with (fail)
      apply wp_region_once (D := [[], [0], [], [0, 1, 2], [0, 1, 2, 3], [0, 1, 2, 3, 4]]) (J := [[], [0], [], [2], [1], [3]]) (Je := [4, 5]) (Rs := [Is _, fun v V => ∃ (A' : Option Addr) (c' : Nat), v = .slice A' np c' ∧ In V V.heap.size A' c' P1, Is _, fun v V => ∃ (A' : Option Addr) (c' : Nat), v = .slice A' nb c' ∧ In V V.heap.size A' c' B1, fun v V => ∃ (A' : Option Addr) (c' : Nat), v = .slice A' np c' ∧ In V V.heap.size A' c' P1, fun v V => ∃ (A' : Option Addr) (c' : Nat), v = .slice A' nb c' ∧ In V V.heap.size A' c' B1])
      · kernel_rfl
      · kernel_rfl
      · kernel_rfl
      · kernel_rfl
      · kernel_rfl
      · kernel_rfl
      · intro u
        simp only [List.map_cons, List.map_nil, fillU, List.setIfInBounds_toArray, List.set_cons_zero, List.set_cons_succ, Nat.zero_add, Nat.reduceAdd]
        exact rfl
      · skip
        refine ⟨fun u V hb hd K hK => ?_, ?_⟩
        · clear hd
          rw [if_pos (by rfl)]
          refine wp_load_mid 26 (.tmp 1) rfl (w.heap.size) 0 rfl (LL) _ (rangeAt_blk (hL.below hb hL.lt)) Try.underlying26 rfl (infoLet.trans (by rw [HLL.out])) ?_
          exact hK _ _ _ rfl (Below.refl _ _) IsOut
        refine ⟨fun u V hb hd K hK => ?_, ?_⟩
        · simp only [Facts, nthR, Is, and_true] at hd
          simp only [hd] at hK ⊢
          clear hd
          go_simp
          refine (HPE.out V (in_up iP (hbw.trans (hb.mono hbw.size)))).mono ?_
          rintro e wy ⟨A', n', c', rfl, hn', hB', hby⟩
          have hn2 : n' = np := by rw [← hn']; exact HNP.out
          subst hn2
          exact hK _ _ _ rfl hby ⟨A', c', rfl, hB'.toIn (Nat.le_refl _)⟩
        refine ⟨fun u V hb hd K hK => ?_, ?_⟩
        · clear hd
          rw [if_pos (by rfl)]
          refine wp_load_mid 26 (.tmp 1) rfl (w.heap.size) 0 rfl (LL) _ (rangeAt_blk (hL.below hb hL.lt)) Try.underlying26 rfl (infoLet.trans (by rw [HLL.out])) ?_
          exact hK _ _ _ rfl (Below.refl _ _) IsOut
        refine ⟨fun u V hb hd K hK => ?_, ?_⟩
        · simp only [Facts, nthR, Is, and_true] at hd
          simp only [hd] at hK ⊢
          clear hd
          go_simp
          refine (HBE.out V (in_up iQ (hbw.trans (hb.mono hbw.size)))).mono ?_
          rintro e wy ⟨A', n', c', rfl, hn', hB', hby⟩
          have hn2 : n' = nb := by rw [← hn']; exact HNB.out
          subst hn2
          exact hK _ _ _ rfl hby ⟨A', c', rfl, hB'.toIn (Nat.le_refl _)⟩
        refine ⟨fun u V hb hd K hK => ?_, ?_⟩
        · simp only [Facts, nthR, and_true] at hd
          obtain ⟨A', c', h1, hi'⟩ := hd
          simp only [h1] at hK ⊢
          clear h1
          go_simp
          apply hK
          · simp only [Act.put, List.setIfInBounds_toArray, List.set_cons_zero, List.set_cons_succ]
            exact rfl
          · exact Below.refl _ _
          · exact ⟨A', c', rfl, hi'⟩
        refine ⟨fun u V hb hd K hK => ?_, ?_⟩
        · simp only [Facts, nthR, and_true] at hd
          obtain ⟨A', c', h1, hi'⟩ := hd
          simp only [h1] at hK ⊢
          clear h1
          go_simp
          apply hK
          · simp only [Act.put, List.setIfInBounds_toArray, List.set_cons_zero, List.set_cons_succ]
            exact rfl
          · exact Below.refl _ _
          · exact ⟨A', c', rfl, hi'⟩
        exact trivial
      · exact (.is (.cons (fun v V V' ⟨A', c', h1, h2⟩ hb => ⟨A', c', h1, in_up h2 hb⟩) (.is (.cons (fun v V V' ⟨A', c', h1, h2⟩ hb => ⟨A', c', h1, in_up h2 hb⟩) (.cons (fun v V V' ⟨A', c', h1, h2⟩ hb => ⟨A', c', h1, in_up h2 hb⟩) (.cons (fun v V V' ⟨A', c', h1, h2⟩ hb => ⟨A', c', h1, in_up h2 hb⟩) .nil))))))
      · intro u V hb hd
        simp only [Facts, nthR, and_true] at hd
        obtain ⟨⟨Ap, cp, h10, ip⟩, ⟨Ab, cb, h11, ib⟩⟩ := hd
        simp only [h10, h11]
        clear h10 h11
        replace hbw := hbw.trans (hb.mono hbw.size)
        replace hL := hL.below hb hL.lt
        replace hX := hX.below hb
        clear hb
        go_upto_region 8 with (first
          | ((with_reducible refine (?_ : wpList _ _ _ (Oper.mk (some 45) _ _ _ _ _ :: _) _ _)); go_loud (refine wpList_load_mid rfl 23 (.tmp 44) rfl (w.heap.size) 33 rfl (N.map B8) _ (fun j v hv => (hL.cell (33 + j)).trans (HLN.out j v hv)) Try.underlying23 rfl (info12.trans (by rw [List.length_map, LN.out])) ?_))
          | ((with_reducible refine (?_ : wpList _ _ _ (Oper.mk (some 52) _ _ _ _ _ :: _) _ _)); go_loud (refine wpList_load_mid rfl 23 (.tmp 51) rfl (w.heap.size) 33 rfl (N.map B8) _ (fun j v hv => (hL.cell (33 + j)).trans (HLN.out j v hv)) Try.underlying23 rfl (info12.trans (by rw [List.length_map, LN.out])) ?_))
          | (go_at_call 11; go_loud (refine (HSE.out _ gx gk gr _ _ _ _ hX ip ib).mono ?_); rintro e w5 ⟨As, ns', cs, rfl, hns, hBs, hb5⟩; subst hns; replace hL := hL.below hb5 hL.lt; replace hX := hX.below hb5; replace ip := in_up ip hb5; replace ib := in_up ib hb5; replace hbw := hbw.trans (hb5.mono hbw.size); have is := hBs.toIn (Nat.le_refl _); clear hb5 hBs)
          | (go_at_call 12; go_loud (refine (HOP.out _ gx gk gr _ _ _ _ hX is ib).mono ?_); rintro e w6 ⟨hb6, Ao, co, rfl, hBo⟩; replace hL := hL.below hb6 hL.lt; replace ip := in_up ip hb6; replace ib := in_up ib hb6; replace is := in_up is hb6; replace hbw := hbw.trans (hb6.mono hbw.size); have io := hBo.toIn (Nat.le_refl _); clear hb6 hBo))
        have HIS := Lib.hid is
        have HIO := Lib.hid io
        have HIP := Lib.hid ip
        have HIB := Lib.hid ib
        clear is io ip ib hX
        apply wp_region_once (D := [[], [0], [0, 1], [0, 1, 2], [0, 1, 2, 3], [0, 1, 2], [0, 1, 2, 5], [0, 1, 2, 5, 6], [0, 1, 2], [0, 1, 2, 8], [0, 1, 2], [0, 1, 2, 5, 6, 10], [0, 1, 2, 5, 6, 10, 11], [0, 1, 2], [0, 1, 2, 5, 6, 10, 11, 13], [0, 1, 2, 5, 6, 10, 11, 13, 14], [0, 1, 2, 5, 6, 7, 8, 9, 10, 11, 12, 13, 14, 15], [0, 1, 2, 3, 4, 5, 6, 7, 8, 9, 10, 11, 12, 13, 14, 15, 16], [0, 1, 2, 3, 4, 5, 6, 7, 8, 9, 10, 11, 12, 13, 14, 15, 16, 17], [0, 1, 2, 3, 4, 5, 6, 7, 8, 9, 10, 11, 12, 13, 14, 15, 16, 17, 18], [0, 1, 2, 3, 4, 5, 6, 7, 8, 9, 10, 11, 12, 13, 14, 15, 16, 17, 18, 19], [0, 1, 2, 3, 4, 5, 6, 7, 8, 9, 10, 11, 12, 13, 14, 15, 16, 17, 18, 19, 20], [0, 1, 2, 3, 4, 5, 6, 7, 8, 9, 10, 11, 12, 13, 14, 15, 16, 17, 18, 19, 20, 21], [0, 1, 2, 3, 4, 5, 6, 7, 8, 9, 10, 11, 12, 13, 14, 15, 16, 17, 18, 19, 20, 21, 22], [0, 1, 2, 3, 4, 5, 6, 7, 8, 9, 10, 11, 12, 13, 14, 15, 16, 17, 18, 19, 20, 21, 22, 23], [0, 1, 2, 3, 4, 5, 6, 7, 8, 9, 10, 11, 12, 13, 14, 15, 16, 17, 18, 19, 20, 21, 22, 23, 24], [0, 1, 2, 3, 4, 5, 6, 7, 8, 9, 10, 11, 12, 13, 14, 15, 16, 17, 18, 19, 20, 21, 22, 23], [0, 1, 2, 3, 4, 5, 6, 7, 8, 9, 10, 11, 12, 13, 14, 15, 16, 17, 18, 19, 20, 21, 22, 23, 26], [0, 1, 2, 3, 4, 5, 6, 7, 8, 9, 10, 11, 12, 13, 14, 15, 16, 17, 18, 19, 20, 21, 22, 23, 26, 27], [0, 1, 2, 3, 4, 5, 6, 7, 8, 9, 10, 11, 12, 13, 14, 15, 16, 17, 18, 19, 20, 21, 22, 23, 24, 25, 26, 27, 28], [0, 1, 2, 3, 4, 5, 6, 7, 8, 9, 10, 11, 12, 13, 14, 15, 16, 17, 18, 19, 20, 21, 22, 23, 24, 25, 26, 27, 28, 29], [0, 1, 2, 3, 4, 5, 6, 7, 8, 9, 10, 11, 12, 13, 14, 15, 16, 17, 18, 19, 20, 21, 22, 23, 24, 25, 26, 27, 28, 29, 30], [0, 1, 2, 3, 4, 5, 6, 7, 8, 9, 10, 11, 12, 13, 14, 15, 16, 17, 18, 19, 20, 21, 22, 23, 24, 25, 26, 27, 28, 29, 30, 31], [0, 1, 2, 3, 4, 5, 6, 7, 8, 9, 10, 11, 12, 13, 14, 15, 16, 17, 18, 19, 20, 21, 22, 23, 24, 25, 26, 27, 28, 29, 30, 31, 32], [0, 1, 2, 3, 4, 5, 6, 7, 8, 9, 10, 11, 12, 13, 14, 15, 16, 17, 18, 19, 20, 21, 22, 23, 24, 25, 26, 27, 28, 29, 30, 31], [0, 1, 2, 3, 4, 5, 6, 7, 8, 9, 10, 11, 12, 13, 14, 15, 16, 17, 18, 19, 20, 21, 22, 23, 24, 25, 26, 27, 28, 29, 30, 31, 34], [0, 1, 2, 3, 4, 5, 6, 7, 8, 9, 10, 11, 12, 13, 14, 15, 16, 17, 18, 19, 20, 21, 22, 23, 24, 25, 26, 27, 28, 29, 30, 31, 34, 35], [0, 1, 2, 3, 4, 5, 6, 7, 8, 9, 10, 11, 12, 13, 14, 15, 16, 17, 18, 19, 20, 21, 22, 23, 24, 25, 26, 27, 28, 29, 30, 31, 32, 33, 34, 35, 36], [0, 1, 2, 3, 4, 5, 6, 7, 8, 9, 10, 11, 12, 13, 14, 15, 16, 17, 18, 19, 20, 21, 22, 23, 24, 25, 26, 27, 28, 29, 30, 31, 32, 33, 34, 35, 36, 37], [0, 1, 2, 3, 4, 5, 6, 7, 8, 9, 10, 11, 12, 13, 14, 15, 16, 17, 18, 19, 20, 21, 22, 23, 24, 25, 26, 27, 28, 29, 30, 31, 32, 33, 34, 35, 36, 37, 38], [0, 1, 2, 3, 4, 5, 6, 7, 8, 9, 10, 11, 12, 13, 14, 15, 16, 17, 18, 19, 20, 21, 22, 23, 24, 25, 26, 27, 28, 29, 30, 31, 32, 33, 34, 35, 36, 37, 38, 39], [0, 1, 2, 3, 4, 5, 6, 7, 8, 9, 10, 11, 12, 13, 14, 15, 16, 17, 18, 19, 20, 21, 22, 23, 24, 25, 26, 27, 28, 29, 30, 31, 32, 33, 34, 35, 36, 37, 38, 39, 40], [0, 1, 2, 3, 4, 5, 6, 7, 8, 9, 10, 11, 12, 13, 14, 15, 16, 17, 18, 19, 20, 21, 22, 23, 24, 25, 26, 27, 28, 29, 30, 31, 32, 33, 34, 35, 36, 37, 38, 39], [0, 1, 2, 3, 4, 5, 6, 7, 8, 9, 10, 11, 12, 13, 14, 15, 16, 17, 18, 19, 20, 21, 22, 23, 24, 25, 26, 27, 28, 29, 30, 31, 32, 33, 34, 35, 36, 37, 38, 39, 42], [0, 1, 2, 3, 4, 5, 6, 7, 8, 9, 10, 11, 12, 13, 14, 15, 16, 17, 18, 19, 20, 21, 22, 23, 24, 25, 26, 27, 28, 29, 30, 31, 32, 33, 34, 35, 36, 37, 38, 39, 42, 43], [0, 1, 2, 3, 4, 5, 6, 7, 8, 9, 10, 11, 12, 13, 14, 15, 16, 17, 18, 19, 20, 21, 22, 23, 24, 25, 26, 27, 28, 29, 30, 31, 32, 33, 34, 35, 36, 37, 38, 39, 40, 41, 42, 43, 44], [0, 1, 2, 3, 4, 5, 6, 7, 8, 9, 10, 11, 12, 13, 14, 15, 16, 17, 18, 19, 20, 21, 22, 23, 24, 25, 26, 27, 28, 29, 30, 31, 32, 33, 34, 35, 36, 37, 38, 39, 40, 41, 42, 43, 44, 45], [0, 1, 2, 3, 4, 5, 6, 7, 8, 9, 10, 11, 12, 13, 14, 15, 16, 17, 18, 19, 20, 21, 22, 23, 24, 25, 26, 27, 28, 29, 30, 31, 32, 33, 34, 35, 36, 37, 38, 39, 40, 41, 42, 43, 44, 45, 46]]) (J := [[], [0], [1], [2], [2, 3], [2], [2, 5], [2, 6], [2], [2, 8], [2], [2, 10], [2, 11], [2], [2, 13], [2, 14], [2, 7, 9, 12, 15], [2, 4, 16], [2, 17], [18], [19], [19, 20], [19, 21], [22], [23], [23, 24], [23], [23, 26], [23, 27], [23, 25, 28], [23, 29], [30], [31], [31, 32], [31], [31, 34], [31, 35], [31, 33, 36], [31, 37], [38], [39], [39, 40], [39], [39, 42], [39, 43], [39, 41, 44], [39, 45], [46]]) (Je := [47]) (Rs := [Is _, Is _, Is _, Is _, Is _, Is _, fun v V => ∃ (A' : Option Addr) (c' : Nat), v = .slice A' nk' c' ∧ In V V.heap.size A' c' KK, Is _, Is _, Is _, Is _, fun v V => ∃ (A' : Option Addr) (c' : Nat), v = .slice A' np c' ∧ In V V.heap.size A' c' P1, Is _, Is _, fun v V => ∃ (A' : Option Addr) (c' : Nat), v = .slice A' nb c' ∧ In V V.heap.size A' c' B1, Is _, Is _, Is _, Is _, Is _, Is _, Is _, Is _, Is _, Is _, Is _, Is _, fun v V => ∃ (A' : Option Addr) (c' : Nat), v = .slice A' np c' ∧ In V V.heap.size A' c' P1, Is _, Is _, Is _, Is _, Is _, Is _, Is _, fun v V => ∃ (A' : Option Addr) (c' : Nat), v = .slice A' np c' ∧ In V V.heap.size A' c' P1, Is _, Is _, Is _, Is _, Is _, Is _, Is _, fun v V => ∃ (A' : Option Addr) (c' : Nat), v = .slice A' nb c' ∧ In V V.heap.size A' c' B1, Is _, Is _, Is _, Is _])
        · kernel_rfl
        · kernel_rfl
        · kernel_rfl
        · kernel_rfl
        · kernel_rfl
        · kernel_rfl
        · intro u
          simp only [List.map_cons, List.map_nil, fillU, List.setIfInBounds_toArray, List.set_cons_zero, List.set_cons_succ, Nat.zero_add, Nat.reduceAdd]
          exact rfl
        · skip
          refine ⟨fun u V hb hd K hK => ?_, ?_⟩
          · clear hd
            go_simp
            apply hK
            · simp only [Act.put, List.setIfInBounds_toArray, List.set_cons_zero, List.set_cons_succ]
              exact rfl
            · exact Below.refl _ _
            · exact IsOut
          refine ⟨fun u V hb hd K hK => ?_, ?_⟩
          · simp only [Facts, nthR, Is, and_true] at hd
            simp only [hd] at hK ⊢
            clear hd
            go_simp
            apply hK
            · simp only [Act.put, List.setIfInBounds_toArray, List.set_cons_zero, List.set_cons_succ]
              exact rfl
            · exact Below.refl _ _
            · exact IsOut
          refine ⟨fun u V hb hd K hK => ?_, ?_⟩
          · simp only [Facts, nthR, Is, and_true] at hd
            simp only [hd] at hK ⊢
            clear hd
            go_simp
            apply hK
            · simp only [Act.put, List.setIfInBounds_toArray, List.set_cons_zero, List.set_cons_succ]
              exact rfl
            · exact Below.refl _ _
            · exact IsOut
          refine ⟨fun u V hb hd K hK => ?_, ?_⟩
          · simp only [Facts, nthR, Is, and_true] at hd
            simp only [hd] at hK ⊢
            clear hd
            go_simp
            apply hK
            · simp only [Act.put, List.setIfInBounds_toArray, List.set_cons_zero, List.set_cons_succ]
              exact rfl
            · exact Below.refl _ _
            · exact IsOut
          refine ⟨fun u V hb hd K hK => ?_, ?_⟩
          · simp only [Facts, nthR, Is, and_true] at hd
            simp only [hd] at hK ⊢
            clear hd
            have hcv := conv_in HSL.out (in_up HIS.out hb)
            go_simp
            apply hK
            · simp only [Act.put, List.setIfInBounds_toArray, List.set_cons_zero, List.set_cons_succ]
              exact rfl
            · exact Below.refl _ _
            · exact IsOut
          refine ⟨fun u V hb hd K hK => ?_, ?_⟩
          · simp only [Facts, nthR, Is, and_true] at hd
            simp only [hd] at hK ⊢
            clear hd
            rw [if_pos (by rfl)]
            refine wp_load_mid 26 (.tmp 1) rfl (w.heap.size) 0 rfl (LL) _ (rangeAt_blk (hL.below hb hL.lt)) Try.underlying26 rfl (infoLet.trans (by rw [HLL.out])) ?_
            exact hK _ _ _ rfl (Below.refl _ _) IsOut
          refine ⟨fun u V hb hd K hK => ?_, ?_⟩
          · simp only [Facts, nthR, Is, and_true] at hd
            simp only [hd] at hK ⊢
            clear hd
            go_simp
            refine (HKK.out V).mono ?_
            rintro e wy ⟨A', n', c', rfl, hn', hB', hby⟩
            subst hn'
            exact hK _ _ _ rfl hby ⟨A', c', rfl, hB'.toIn (Nat.le_refl _)⟩
          refine ⟨fun u V hb hd K hK => ?_, ?_⟩
          · simp only [Facts, nthR, Is, and_true] at hd
            obtain ⟨h0, ⟨A', c', h1, iR⟩⟩ := hd
            simp only [h0, h1] at hK ⊢
            clear h0 h1
            have hcv := conv_in LK.out iR
            go_simp
            apply hK
            · simp only [Act.put, List.setIfInBounds_toArray, List.set_cons_zero, List.set_cons_succ]
              exact rfl
            · exact Below.refl _ _
            · exact IsOut
          refine ⟨fun u V hb hd K hK => ?_, ?_⟩
          · simp only [Facts, nthR, Is, and_true] at hd
            simp only [hd] at hK ⊢
            clear hd
            go_simp
            apply hK
            · simp only [Act.put, List.setIfInBounds_toArray, List.set_cons_zero, List.set_cons_succ]
              exact rfl
            · exact Below.refl _ _
            · exact IsOut
          refine ⟨fun u V hb hd K hK => ?_, ?_⟩
          · simp only [Facts, nthR, Is, and_true] at hd
            simp only [hd] at hK ⊢
            clear hd
            rw [if_pos (by rfl)]
            refine wp_load_mid 23 (.tmp 66) rfl (w.heap.size) (33) rfl (N.map B8) _ ((fun j v hv => ((hL.below hb hL.lt).cell (33 + j)).trans (HLN.out j v hv))) Try.underlying23 rfl (info12.trans (by rw [List.length_map, LN.out])) ?_
            exact hK _ _ _ rfl (Below.refl _ _) IsOut
          refine ⟨fun u V hb hd K hK => ?_, ?_⟩
          · simp only [Facts, nthR, Is, and_true] at hd
            simp only [hd] at hK ⊢
            clear hd
            rw [if_pos (by rfl)]
            refine wp_load_mid 26 (.tmp 1) rfl (w.heap.size) 0 rfl (LL) _ (rangeAt_blk (hL.below hb hL.lt)) Try.underlying26 rfl (infoLet.trans (by rw [HLL.out])) ?_
            exact hK _ _ _ rfl (Below.refl _ _) IsOut
          refine ⟨fun u V hb hd K hK => ?_, ?_⟩
          · simp only [Facts, nthR, Is, and_true] at hd
            simp only [hd] at hK ⊢
            clear hd
            go_simp
            refine (HPE.out V (in_up iP (hbw.trans (hb.mono hbw.size)))).mono ?_
            rintro e wy ⟨A', n', c', rfl, hn', hB', hby⟩
            have hn2 : n' = np := by rw [← hn']; exact HNP.out
            subst hn2
            exact hK _ _ _ rfl hby ⟨A', c', rfl, hB'.toIn (Nat.le_refl _)⟩
          refine ⟨fun u V hb hd K hK => ?_, ?_⟩
          · simp only [Facts, nthR, Is, and_true] at hd
            obtain ⟨h0, ⟨A', c', h1, iR⟩⟩ := hd
            simp only [h0, h1] at hK ⊢
            clear h0 h1
            have hcv := conv_in HNP.out iR
            go_simp
            apply hK
            · simp only [Act.put, List.setIfInBounds_toArray, List.set_cons_zero, List.set_cons_succ]
              exact rfl
            · exact Below.refl _ _
            · exact IsOut
          refine ⟨fun u V hb hd K hK => ?_, ?_⟩
          · simp only [Facts, nthR, Is, and_true] at hd
            simp only [hd] at hK ⊢
            clear hd
            rw [if_pos (by rfl)]
            refine wp_load_mid 26 (.tmp 1) rfl (w.heap.size) 0 rfl (LL) _ (rangeAt_blk (hL.below hb hL.lt)) Try.underlying26 rfl (infoLet.trans (by rw [HLL.out])) ?_
            exact hK _ _ _ rfl (Below.refl _ _) IsOut
          refine ⟨fun u V hb hd K hK => ?_, ?_⟩
          · simp only [Facts, nthR, Is, and_true] at hd
            simp only [hd] at hK ⊢
            clear hd
            go_simp
            refine (HBE.out V (in_up iQ (hbw.trans (hb.mono hbw.size)))).mono ?_
            rintro e wy ⟨A', n', c', rfl, hn', hB', hby⟩
            have hn2 : n' = nb := by rw [← hn']; exact HNB.out
            subst hn2
            exact hK _ _ _ rfl hby ⟨A', c', rfl, hB'.toIn (Nat.le_refl _)⟩
          refine ⟨fun u V hb hd K hK => ?_, ?_⟩
          · simp only [Facts, nthR, Is, and_true] at hd
            obtain ⟨h0, ⟨A', c', h1, iR⟩⟩ := hd
            simp only [h0, h1] at hK ⊢
            clear h0 h1
            have hcv := conv_in HNB.out iR
            go_simp
            apply hK
            · simp only [Act.put, List.setIfInBounds_toArray, List.set_cons_zero, List.set_cons_succ]
              exact rfl
            · exact Below.refl _ _
            · exact IsOut
          refine ⟨fun u V hb hd K hK => ?_, ?_⟩
          · simp only [Facts, nthR, Is, and_true] at hd
            simp only [hd] at hK ⊢
            clear hd
            go_simp
            refine (HRS.out V).mono ?_
            rintro e wy ⟨rfl, hby⟩
            exact hK _ _ _ rfl hby IsOut
          refine ⟨fun u V hb hd K hK => ?_, ?_⟩
          · simp only [Facts, nthR, Is, and_true] at hd
            simp only [hd] at hK ⊢
            clear hd
            go_simp
            apply hK
            · simp only [Act.put, List.setIfInBounds_toArray, List.set_cons_zero, List.set_cons_succ]
              exact rfl
            · exact Below.refl _ _
            · exact IsOut
          refine ⟨fun u V hb hd K hK => ?_, ?_⟩
          · simp only [Facts, nthR, Is, and_true] at hd
            simp only [hd] at hK ⊢
            clear hd
            go_simp
            apply hK
            · simp only [Act.put, List.setIfInBounds_toArray, List.set_cons_zero, List.set_cons_succ]
              exact rfl
            · exact Below.refl _ _
            · exact IsOut
          refine ⟨fun u V hb hd K hK => ?_, ?_⟩
          · simp only [Facts, nthR, Is, and_true] at hd
            simp only [hd] at hK ⊢
            clear hd
            go_simp
            apply hK
            · simp only [Act.put, List.setIfInBounds_toArray, List.set_cons_zero, List.set_cons_succ]
              exact rfl
            · exact Below.refl _ _
            · exact IsOut
          refine ⟨fun u V hb hd K hK => ?_, ?_⟩
          · simp only [Facts, nthR, Is, and_true] at hd
            simp only [hd] at hK ⊢
            clear hd
            go_simp
            apply hK
            · simp only [Act.put, List.setIfInBounds_toArray, List.set_cons_zero, List.set_cons_succ]
              exact rfl
            · exact Below.refl _ _
            · exact IsOut
          refine ⟨fun u V hb hd K hK => ?_, ?_⟩
          · simp only [Facts, nthR, Is, and_true] at hd
            simp only [hd] at hK ⊢
            clear hd
            go_simp
            apply hK
            · simp only [Act.put, List.setIfInBounds_toArray, List.set_cons_zero, List.set_cons_succ]
              exact rfl
            · exact Below.refl _ _
            · exact IsOut
          refine ⟨fun u V hb hd K hK => ?_, ?_⟩
          · simp only [Facts, nthR, Is, and_true] at hd
            simp only [hd] at hK ⊢
            clear hd
            go_simp
            apply hK
            · simp only [Act.put, List.setIfInBounds_toArray, List.set_cons_zero, List.set_cons_succ]
              exact rfl
            · exact Below.refl _ _
            · exact IsOut
          refine ⟨fun u V hb hd K hK => ?_, ?_⟩
          · simp only [Facts, nthR, Is, and_true] at hd
            simp only [hd] at hK ⊢
            clear hd
            go_simp
            apply hK
            · simp only [Act.put, List.setIfInBounds_toArray, List.set_cons_zero, List.set_cons_succ]
              exact rfl
            · exact Below.refl _ _
            · exact IsOut
          refine ⟨fun u V hb hd K hK => ?_, ?_⟩
          · simp only [Facts, nthR, Is, and_true] at hd
            simp only [hd] at hK ⊢
            clear hd
            go_simp
            apply hK
            · simp only [Act.put, List.setIfInBounds_toArray, List.set_cons_zero, List.set_cons_succ]
              exact rfl
            · exact Below.refl _ _
            · exact IsOut
          refine ⟨fun u V hb hd K hK => ?_, ?_⟩
          · simp only [Facts, nthR, Is, and_true] at hd
            simp only [hd] at hK ⊢
            clear hd
            have hcv := conv_in HNP.out (in_up HIO.out hb)
            go_simp
            apply hK
            · simp only [Act.put, List.setIfInBounds_toArray, List.set_cons_zero, List.set_cons_succ]
              exact rfl
            · exact Below.refl _ _
            · exact IsOut
          refine ⟨fun u V hb hd K hK => ?_, ?_⟩
          · simp only [Facts, nthR, Is, and_true] at hd
            simp only [hd] at hK ⊢
            clear hd
            rw [if_pos (by rfl)]
            refine wp_load_mid 26 (.tmp 1) rfl (w.heap.size) 0 rfl (LL) _ (rangeAt_blk (hL.below hb hL.lt)) Try.underlying26 rfl (infoLet.trans (by rw [HLL.out])) ?_
            exact hK _ _ _ rfl (Below.refl _ _) IsOut
          refine ⟨fun u V hb hd K hK => ?_, ?_⟩
          · simp only [Facts, nthR, Is, and_true] at hd
            simp only [hd] at hK ⊢
            clear hd
            go_simp
            refine (HPE.out V (in_up iP (hbw.trans (hb.mono hbw.size)))).mono ?_
            rintro e wy ⟨A', n', c', rfl, hn', hB', hby⟩
            have hn2 : n' = np := by rw [← hn']; exact HNP.out
            subst hn2
            exact hK _ _ _ rfl hby ⟨A', c', rfl, hB'.toIn (Nat.le_refl _)⟩
          refine ⟨fun u V hb hd K hK => ?_, ?_⟩
          · simp only [Facts, nthR, Is, and_true] at hd
            obtain ⟨h0, ⟨A', c', h1, iR⟩⟩ := hd
            simp only [h0, h1] at hK ⊢
            clear h0 h1
            have hcv := conv_in HNP.out iR
            go_simp
            apply hK
            · simp only [Act.put, List.setIfInBounds_toArray, List.set_cons_zero, List.set_cons_succ]
              exact rfl
            · exact Below.refl _ _
            · exact IsOut
          refine ⟨fun u V hb hd K hK => ?_, ?_⟩
          · simp only [Facts, nthR, Is, and_true] at hd
            simp only [hd] at hK ⊢
            clear hd
            go_simp
            apply hK
            · simp only [Act.put, List.setIfInBounds_toArray, List.set_cons_zero, List.set_cons_succ]
              exact rfl
            · exact Below.refl _ _
            · exact IsOut
          refine ⟨fun u V hb hd K hK => ?_, ?_⟩
          · simp only [Facts, nthR, Is, and_true] at hd
            simp only [hd] at hK ⊢
            clear hd
            go_simp
            apply hK
            · simp only [Act.put, List.setIfInBounds_toArray, List.set_cons_zero, List.set_cons_succ]
              exact rfl
            · exact Below.refl _ _
            · exact IsOut
          refine ⟨fun u V hb hd K hK => ?_, ?_⟩
          · simp only [Facts, nthR, Is, and_true] at hd
            simp only [hd] at hK ⊢
            clear hd
            go_simp
            apply hK
            · simp only [Act.put, List.setIfInBounds_toArray, List.set_cons_zero, List.set_cons_succ]
              exact rfl
            · exact Below.refl _ _
            · exact IsOut
          refine ⟨fun u V hb hd K hK => ?_, ?_⟩
          · simp only [Facts, nthR, Is, and_true] at hd
            simp only [hd] at hK ⊢
            clear hd
            go_simp
            apply hK
            · simp only [Act.put, List.setIfInBounds_toArray, List.set_cons_zero, List.set_cons_succ]
              exact rfl
            · exact Below.refl _ _
            · exact IsOut
          refine ⟨fun u V hb hd K hK => ?_, ?_⟩
          · simp only [Facts, nthR, Is, and_true] at hd
            simp only [hd] at hK ⊢
            clear hd
            have hcv := conv_in HNP.out (in_up HIP.out hb)
            go_simp
            apply hK
            · simp only [Act.put, List.setIfInBounds_toArray, List.set_cons_zero, List.set_cons_succ]
              exact rfl
            · exact Below.refl _ _
            · exact IsOut
          refine ⟨fun u V hb hd K hK => ?_, ?_⟩
          · simp only [Facts, nthR, Is, and_true] at hd
            simp only [hd] at hK ⊢
            clear hd
            rw [if_pos (by rfl)]
            refine wp_load_mid 26 (.tmp 1) rfl (w.heap.size) 0 rfl (LL) _ (rangeAt_blk (hL.below hb hL.lt)) Try.underlying26 rfl (infoLet.trans (by rw [HLL.out])) ?_
            exact hK _ _ _ rfl (Below.refl _ _) IsOut
          refine ⟨fun u V hb hd K hK => ?_, ?_⟩
          · simp only [Facts, nthR, Is, and_true] at hd
            simp only [hd] at hK ⊢
            clear hd
            go_simp
            refine (HPE.out V (in_up iP (hbw.trans (hb.mono hbw.size)))).mono ?_
            rintro e wy ⟨A', n', c', rfl, hn', hB', hby⟩
            have hn2 : n' = np := by rw [← hn']; exact HNP.out
            subst hn2
            exact hK _ _ _ rfl hby ⟨A', c', rfl, hB'.toIn (Nat.le_refl _)⟩
          refine ⟨fun u V hb hd K hK => ?_, ?_⟩
          · simp only [Facts, nthR, Is, and_true] at hd
            obtain ⟨h0, ⟨A', c', h1, iR⟩⟩ := hd
            simp only [h0, h1] at hK ⊢
            clear h0 h1
            have hcv := conv_in HNP.out iR
            go_simp
            apply hK
            · simp only [Act.put, List.setIfInBounds_toArray, List.set_cons_zero, List.set_cons_succ]
              exact rfl
            · exact Below.refl _ _
            · exact IsOut
          refine ⟨fun u V hb hd K hK => ?_, ?_⟩
          · simp only [Facts, nthR, Is, and_true] at hd
            simp only [hd] at hK ⊢
            clear hd
            go_simp
            apply hK
            · simp only [Act.put, List.setIfInBounds_toArray, List.set_cons_zero, List.set_cons_succ]
              exact rfl
            · exact Below.refl _ _
            · exact IsOut
          refine ⟨fun u V hb hd K hK => ?_, ?_⟩
          · simp only [Facts, nthR, Is, and_true] at hd
            simp only [hd] at hK ⊢
            clear hd
            go_simp
            apply hK
            · simp only [Act.put, List.setIfInBounds_toArray, List.set_cons_zero, List.set_cons_succ]
              exact rfl
            · exact Below.refl _ _
            · exact IsOut
          refine ⟨fun u V hb hd K hK => ?_, ?_⟩
          · simp only [Facts, nthR, Is, and_true] at hd
            simp only [hd] at hK ⊢
            clear hd
            go_simp
            apply hK
            · simp only [Act.put, List.setIfInBounds_toArray, List.set_cons_zero, List.set_cons_succ]
              exact rfl
            · exact Below.refl _ _
            · exact IsOut
          refine ⟨fun u V hb hd K hK => ?_, ?_⟩
          · simp only [Facts, nthR, Is, and_true] at hd
            simp only [hd] at hK ⊢
            clear hd
            go_simp
            apply hK
            · simp only [Act.put, List.setIfInBounds_toArray, List.set_cons_zero, List.set_cons_succ]
              exact rfl
            · exact Below.refl _ _
            · exact IsOut
          refine ⟨fun u V hb hd K hK => ?_, ?_⟩
          · simp only [Facts, nthR, Is, and_true] at hd
            simp only [hd] at hK ⊢
            clear hd
            have hcv := conv_in HNB.out (in_up HIB.out hb)
            go_simp
            apply hK
            · simp only [Act.put, List.setIfInBounds_toArray, List.set_cons_zero, List.set_cons_succ]
              exact rfl
            · exact Below.refl _ _
            · exact IsOut
          refine ⟨fun u V hb hd K hK => ?_, ?_⟩
          · simp only [Facts, nthR, Is, and_true] at hd
            simp only [hd] at hK ⊢
            clear hd
            rw [if_pos (by rfl)]
            refine wp_load_mid 26 (.tmp 1) rfl (w.heap.size) 0 rfl (LL) _ (rangeAt_blk (hL.below hb hL.lt)) Try.underlying26 rfl (infoLet.trans (by rw [HLL.out])) ?_
            exact hK _ _ _ rfl (Below.refl _ _) IsOut
          refine ⟨fun u V hb hd K hK => ?_, ?_⟩
          · simp only [Facts, nthR, Is, and_true] at hd
            simp only [hd] at hK ⊢
            clear hd
            go_simp
            refine (HBE.out V (in_up iQ (hbw.trans (hb.mono hbw.size)))).mono ?_
            rintro e wy ⟨A', n', c', rfl, hn', hB', hby⟩
            have hn2 : n' = nb := by rw [← hn']; exact HNB.out
            subst hn2
            exact hK _ _ _ rfl hby ⟨A', c', rfl, hB'.toIn (Nat.le_refl _)⟩
          refine ⟨fun u V hb hd K hK => ?_, ?_⟩
          · simp only [Facts, nthR, Is, and_true] at hd
            obtain ⟨h0, ⟨A', c', h1, iR⟩⟩ := hd
            simp only [h0, h1] at hK ⊢
            clear h0 h1
            have hcv := conv_in HNB.out iR
            go_simp
            apply hK
            · simp only [Act.put, List.setIfInBounds_toArray, List.set_cons_zero, List.set_cons_succ]
              exact rfl
            · exact Below.refl _ _
            · exact IsOut
          refine ⟨fun u V hb hd K hK => ?_, ?_⟩
          · simp only [Facts, nthR, Is, and_true] at hd
            simp only [hd] at hK ⊢
            clear hd
            go_simp
            apply hK
            · simp only [Act.put, List.setIfInBounds_toArray, List.set_cons_zero, List.set_cons_succ]
              exact rfl
            · exact Below.refl _ _
            · exact IsOut
          refine ⟨fun u V hb hd K hK => ?_, ?_⟩
          · simp only [Facts, nthR, Is, and_true] at hd
            simp only [hd] at hK ⊢
            clear hd
            go_simp
            apply hK
            · simp only [Act.put, List.setIfInBounds_toArray, List.set_cons_zero, List.set_cons_succ]
              exact rfl
            · exact Below.refl _ _
            · exact IsOut
          refine ⟨fun u V hb hd K hK => ?_, ?_⟩
          · simp only [Facts, nthR, Is, and_true] at hd
            simp only [hd] at hK ⊢
            clear hd
            go_simp
            apply hK
            · simp only [Act.put, List.setIfInBounds_toArray, List.set_cons_zero, List.set_cons_succ]
              exact rfl
            · exact Below.refl _ _
            · exact IsOut
          exact trivial
        · exact (.is (.is (.is (.is (.is (.is (.cons (fun v V V' ⟨A', c', h1, h2⟩ hb => ⟨A', c', h1, in_up h2 hb⟩) (.is (.is (.is (.is (.cons (fun v V V' ⟨A', c', h1, h2⟩ hb => ⟨A', c', h1, in_up h2 hb⟩) (.is (.is (.cons (fun v V V' ⟨A', c', h1, h2⟩ hb => ⟨A', c', h1, in_up h2 hb⟩) (.is (.is (.is (.is (.is (.is (.is (.is (.is (.is (.is (.is (.cons (fun v V V' ⟨A', c', h1, h2⟩ hb => ⟨A', c', h1, in_up h2 hb⟩) (.is (.is (.is (.is (.is (.is (.is (.cons (fun v V V' ⟨A', c', h1, h2⟩ hb => ⟨A', c', h1, in_up h2 hb⟩) (.is (.is (.is (.is (.is (.is (.is (.cons (fun v V V' ⟨A', c', h1, h2⟩ hb => ⟨A', c', h1, in_up h2 hb⟩) (.is (.is (.is (.is .nil))))))))))))))))))))))))))))))))))))))))))))))))
        · intro u V hb hd
          simp only [Facts, nthR, Is, and_true] at hd
          simp only [hd]
          replace hbw := hbw.trans (hb.mono hbw.size)
          clear hb
          go_wp2
          go_ret
          exact ⟨rfl, hbw⟩
end Go.Proofs.Ytefbjhdcmgonbaa
