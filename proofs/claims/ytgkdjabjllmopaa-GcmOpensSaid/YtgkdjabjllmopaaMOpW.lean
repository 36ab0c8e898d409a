/-
  Joined: GOpW.
-/
import Derived.Test.YtgkdjabjllmopaaMOpen
import Derived.Test.YtgkdjabjllmopaaMTag
import Derived.Test.YtgkdjabjllmopaaMLet
import Derived.BigQuiet
namespace Go.Proofs.Ytgkdjabjllmopaa
open Go.RowKit


theorem infoLet : (Try.prog.info? 26).map (·.size) = some 47 := by kernel_rfl

set_option maxRecDepth 100000 in
set_option maxHeartbeats 1000000 in
theorem gcmOpens_walk (K N P Q O : List UInt8) (sh : Bool) (A1 A2 A3 : Option Addr) (n1 c1 n2 c2 c3 : Nat) (w : World) (hK : K.length = 32) (hN : N.length = 12) (_hP : P.length = n1) (hQ : Q.length = n2)
    (_iP : In w w.heap.size A1 c1 P) (iQ : In w w.heap.size A2 c2 Q) (iO : In w w.heap.size A3 c3 O) :
    Calls Try.prog 4 #[.agg (letC K sh N A1 n1 c1 A2 n2 c2).toArray, .slice A3 O.length c3] w fun e w' => e = .returned (.bool true) ∧ Below w.heap.size w w' := by
  have kk := fun (W : World) => key_e K N sh A1 A2 n1 c1 n2 c2 W hK
  have kb := fun (W : World) (i : In W W.heap.size A2 c2 Q) => beside_e K N sh A1 A2 n1 c1 n2 c2 Q W hK hN hQ i
  have hkl := keyOf_length K sh hK
  have hln := letC_nonce K N sh A1 A2 n1 c1 n2 c2 hK hN
  have hll := letC_length K N sh A1 A2 n1 c1 n2 c2 hK hN
  have hol : (O.take 120).length ≤ 120 := by rw [List.length_take]; omega
  have hbl : (Q.take 60).length ≤ 60 := by rw [List.length_take]; omega
  have ms : min (O.length : Int) 120 = ((O.take 120).length : Int) := by rw [List.length_take]; omega
  have hole : (O.take 120).length ≤ O.length := by rw [List.length_take]; omega
  have hoc := iO.1
  have ioT := iO.take 120
  have hnw := fun (W : World) (A : Option Addr) (c : Nat) (i : In W W.heap.size A c (keyOf K sh)) => bnew_any A c W.heap.size (fours sh) (keyOf K sh) W (Nat.le_refl _) (ink i) hkl (fours_or sh)
  have ktg := fun (W : World) (nh : Nat) (hid : List UInt8) (lh : hid.length = nh) (hh : nh < 1000000) => rtag_e (fours sh) nh (Q.take 60).length (fours_or sh) (keyOf K sh) N hid (Q.take 60) W hkl hN lh rfl hh (by omega)
  have ktn := fun (W : World) (nh : Nat) (hid : List UInt8) (lh : hid.length = nh) (hh : nh < 1000000) => turn_e (fours sh) nh (fours_or sh) (keyOf K sh) N hid W hkl hN lh hh
  simp only [hkl] at hnw
  generalize O.take 120 = O1 at *
  generalize Q.take 60 = B1 at *
  generalize keyOf K sh = KK at *
  obtain ⟨LL, hLL⟩ : ∃ LL, LL = letC K sh N A1 n1 c1 A2 n2 c2 := ⟨_, rfl⟩
  rw [← hLL] at kk kb hln hll ⊢
  obtain ⟨nk, hnk⟩ : ∃ nk, nk = 4 * fours sh := ⟨_, rfl⟩
  rw [← hnk] at hnw hkl
  simp only [← hnk] at kk
  obtain ⟨L, hLk⟩ : ∃ L, L = keyL (fours sh) KK := ⟨_, rfl⟩
  rw [← hLk] at hnw
  simp only [← hLk] at ktg ktn
  obtain ⟨R, hR⟩ : ∃ R, R = fours sh + 7 := ⟨_, rfl⟩
  rw [← hR] at hnw
  simp only [← hR] at ktg ktn
  clear hLL hnk hLk hR
  obtain ⟨nq, hnq⟩ : ∃ nq, nq = O1.length := ⟨_, rfl⟩
  obtain ⟨nb, hnb⟩ : ∃ nb, nb = B1.length := ⟨_, rfl⟩
  obtain ⟨nO, hnO⟩ : ∃ nO, nO = O.length := ⟨_, rfl⟩
  rw [← hnq] at hol ms hole
  rw [← hnb] at hbl
  rw [← hnO] at ms hole hoc ⊢
  have kfew := fun (W : World) (gx gk gr : Nat) (h : BoxAt W gx gk gr R L) (q : Value) (h16 : nq < 16) => open_few gx gk gr R nq c3 L A3 N q W h h16
  have kop := fun (W : World) (gx gk gr m cb : Nat) (Ab : Option Addr) (h : BoxAt W gx gk gr R L) (C T : List UInt8) (is : In W W.heap.size A3 c3 (C ++ T)) (ib : In W W.heap.size Ab cb B1) (lc : C.length = m) (lt : T.length = 16) (hm : nq = m + 16) => open_e gx gk gr R nq m nb c3 cb A3 Ab L N C T B1 W h hN is ib lc lt hm hnb.symm (by omega) (by omega)
  have HKK := Lib.hid kk
  have HBE := Lib.hid kb
  have HNW := Lib.hid hnw
  have KTG := Lib.hid ktg
  have KTN := Lib.hid ktn
  have KFEW := Lib.hid kfew
  have KOP := Lib.hid kop
  have HLN := Lib.hid hln
  have HLL := Lib.hid hll
  have LN := Lib.hid hN
  have LO := Lib.hid hnq
  have LK := Lib.hid hkl
  have HNB := Lib.hid hnb.symm
  have HIO := Lib.hid ioT
  clear kk kb hnw ktg ktn kfew kop hln hll hN hnq hnb hK hQ iO hnO ioT hkl _hP _iP
  have mq0 : (0 : Int) ≤ (nq : Int) := by omega
  have mq1 : (nq : Int) ≤ (c3 : Int) := by omega
  go_enter Try.func4, Try.ntmps4
  have hL := Blk.new_of w 26 LL.toArray LL rfl
  have hbw : Below w.heap.size w (w.alloc (.cells LL.toArray 26)) := (Below.refl _ _).alloc (Nat.le_refl _) _
  go_upto_region 3 with (first
    | ((with_reducible refine (?_ : wpList _ _ _ (Oper.mk (some 12) _ _ _ _ _ :: _) _ _)); go_loud (refine wpList_load_blk rfl 26 (.tmp 2) rfl (w.heap.size) rfl 26 _ _ hL Try.underlying26 rfl (infoLet.trans (by rw [HLL.out])) ?_))
    | (go_at_call 8; go_loud (refine (HKK.out _).mono ?_); rintro e w2 ⟨Ak, nk', ck, rfl, hnk, hBk, hb2⟩; subst hnk; replace hL := hL.below hb2 hL.lt; replace hbw := hbw.trans (hb2.mono hbw.size); have hIk := hBk.toIn (Nat.le_refl _); clear hb2 hBk)
    | (go_at_call 7; go_loud (refine (HNW.out _ _ _ hIk).mono ?_); rintro e w3 ⟨gx, gk, gr, rfl, _, hX, hb3⟩; replace hL := hL.below hb3 hL.lt; replace hbw := hbw.trans (hb3.mono hbw.size); clear hb3 hIk))
  clear ms hole hoc mq0 mq1
  by_cases h16 : nq < 16
  · skip
    apply wp_region_once (D := [[], [], [1], [], [], [4], [0, 1, 2, 3, 4, 5], [0, 1, 2, 3, 4, 5, 6], [0, 1, 2, 3, 4, 5, 6, 7], [0, 1, 2, 3, 4, 5, 6, 7], [0, 1, 2, 3, 4, 5, 6, 7, 8], [0, 1, 2, 3, 4, 5, 6, 7, 8, 9, 10]]) (J := [[], [], [1], [], [], [4], [0, 2, 3, 5], [6], [7], [7], [8], [9]]) (Je := [10, 11]) (Rs := [Is _, Is _, Is _, Is _, Is _, fun v V => ∃ (A' : Option Addr) (c' : Nat), v = .slice A' nb c' ∧ In V V.heap.size A' c' B1, Is _, Is _, Is _, Is _, Is _, Is _])
    · kernel_rfl
    · kernel_rfl
    · kernel_rfl
    · kernel_rfl
    · kernel_rfl
    · kernel_rfl
    · intro u
      simp only [List.map_cons, List.map_nil, fillU, List.setIfInBounds_toArray, List.set_cons_zero, List.set_cons_succ, Nat.zero_add, Nat.reduceAdd]
      exact rfl
    · skip
      refine ⟨fun u V hb hd K hK => ?_, ?_⟩
      · clear hd
        go_simp
        apply hK
        · simp only [Act.put, List.setIfInBounds_toArray, List.set_cons_zero, List.set_cons_succ]
          exact rfl
        · exact Below.refl _ _
        · exact IsOut
      refine ⟨fun u V hb hd K hK => ?_, ?_⟩
      · clear hd
        go_simp
        apply hK
        · simp only [Act.put, List.setIfInBounds_toArray, List.set_cons_zero, List.set_cons_succ]
          exact rfl
        · exact Below.refl _ _
        · exact IsOut
      refine ⟨fun u V hb hd K hK => ?_, ?_⟩
      · simp only [Facts, nthR, Is, and_true] at hd
        simp only [hd] at hK ⊢
        clear hd
        rw [if_pos (by rfl)]
        refine wp_load_mid 23 (.tmp 24) rfl (w.heap.size) (33) rfl (N.map B8) _ ((fun j v hv => ((hL.below hb hL.lt).cell (33 + j)).trans (HLN.out j v hv))) Try.underlying23 rfl (info12.trans (by rw [List.length_map, LN.out])) ?_
        exact hK _ _ _ rfl (Below.refl _ _) IsOut
      refine ⟨fun u V hb hd K hK => ?_, ?_⟩
      · clear hd
        go_simp
        apply hK
        · simp only [Act.put, List.setIfInBounds_toArray, List.set_cons_zero, List.set_cons_succ]
          exact rfl
        · exact Below.refl _ _
        · exact IsOut
      refine ⟨fun u V hb hd K hK => ?_, ?_⟩
      · clear hd
        rw [if_pos (by rfl)]
        refine wp_load_mid 26 (.tmp 2) rfl (w.heap.size) 0 rfl (LL) _ (rangeAt_blk (hL.below hb hL.lt)) Try.underlying26 rfl (infoLet.trans (by rw [HLL.out])) ?_
        exact hK _ _ _ rfl (Below.refl _ _) IsOut
      refine ⟨fun u V hb hd K hK => ?_, ?_⟩
      · simp only [Facts, nthR, Is, and_true] at hd
        simp only [hd] at hK ⊢
        clear hd
        go_simp
        refine (HBE.out V (in_up iQ (hbw.trans (hb.mono hbw.size)))).mono ?_
        rintro e wy ⟨A', n', c', rfl, hn', hB', hby⟩
        have hn2 : n' = nb := by rw [← hn']; exact HNB.out
        subst hn2
        exact hK _ _ _ rfl hby ⟨A', c', rfl, hB'.toIn (Nat.le_refl _)⟩
      refine ⟨fun u V hb hd K hK => ?_, ?_⟩
      · simp only [Facts, nthR, Is, and_true] at hd
        obtain ⟨h0, h1, h2, ⟨Ab, cb, h3, iB⟩⟩ := hd
        simp only [h0, h1, h2, h3] at hK ⊢
        clear h0 h1 h2 h3
        go_simp
        refine (KFEW.out V gx gk gr (hX.below hb) _ h16).mono ?_
        rintro e wy ⟨rfl, hby⟩
        exact hK _ _ _ rfl hby IsOut
      refine ⟨fun u V hb hd K hK => ?_, ?_⟩
      · simp only [Facts, nthR, Is, and_true] at hd
        simp only [hd] at hK ⊢
        clear hd
        go_simp
        apply hK
        · simp only [Act.put, List.setIfInBounds_toArray, List.set_cons_zero, List.set_cons_succ]
          exact rfl
        · exact Below.refl _ _
        · exact IsOut
      refine ⟨fun u V hb hd K hK => ?_, ?_⟩
      · simp only [Facts, nthR, Is, and_true] at hd
        simp only [hd] at hK ⊢
        clear hd
        go_simp
        apply hK
        · simp only [Act.put, List.setIfInBounds_toArray, List.set_cons_zero, List.set_cons_succ]
          exact rfl
        · exact Below.refl _ _
        · exact IsOut
      refine ⟨fun u V hb hd K hK => ?_, ?_⟩
      · simp only [Facts, nthR, Is, and_true] at hd
        simp only [hd] at hK ⊢
        clear hd
        go_simp
        apply hK
        · simp only [Act.put, List.setIfInBounds_toArray, List.set_cons_zero, List.set_cons_succ]
          exact rfl
        · exact Below.refl _ _
        · exact IsOut
      refine ⟨fun u V hb hd K hK => ?_, ?_⟩
      · simp only [Facts, nthR, Is, and_true] at hd
        simp only [hd] at hK ⊢
        clear hd
        go_simp
        apply hK
        · simp only [Act.put, List.setIfInBounds_toArray, List.set_cons_zero, List.set_cons_succ]
          exact rfl
        · exact Below.refl _ _
        · exact IsOut
      refine ⟨fun u V hb hd K hK => ?_, ?_⟩
      · simp only [Facts, nthR, Is, and_true] at hd
        simp only [hd] at hK ⊢
        clear hd
        go_simp
        apply hK
        · simp only [Act.put, List.setIfInBounds_toArray, List.set_cons_zero, List.set_cons_succ]
          exact rfl
        · exact Below.refl _ _
        · exact IsOut
      exact trivial
    · exact (.is (.is (.is (.is (.is (.cons (fun v V V' ⟨A', c', h1, h2⟩ hb => ⟨A', c', h1, in_up h2 hb⟩) (.is (.is (.is (.is (.is (.is .nil))))))))))))
    · intro u V hb hd
      simp only [Facts, nthR, Is, and_true] at hd
      simp only [hd]
      replace hbw := hbw.trans (hb.mono hbw.size)
      clear hb
      have hd2 : decide ((nq : Int) < 16) = true := by simp; omega
      have hi2 : (nq : Int) < 16 := by omega
      clear hX
      go_wp2_with (go_at_call 9; go_loud (refine (boxes_e _).mono ?_); rintro e w4 ⟨rfl, hb4⟩; replace hbw := hbw.trans (hb4.mono hbw.size); clear hb4)
      go_ret
      exact ⟨rfl, hbw⟩
  · obtain ⟨m, hm⟩ : ∃ m, m = nq - 16 := ⟨_, rfl⟩
    have hmq : nq = m + 16 := by omega
    have hlc : (O1.take m).length = m := by rw [List.length_take, ← LO.out]; omega
    have hlt : (O1.drop m).length = 16 := by rw [List.length_drop, ← LO.out]; omega
    have hsp : O1.take m ++ O1.drop m = O1 := List.take_append_drop m O1
    generalize O1.take m = C at *
    generalize O1.drop m = T at *
    have iS : In w w.heap.size A3 c3 (C ++ T) := by rw [hsp]; exact HIO.out
    obtain ⟨gs, os, rfl, _, _⟩ := iS.2.2 (by rw [List.length_append]; omega)
    have iC : In w w.heap.size (some ⟨gs, os, none⟩) c3 C := by
      have := iS.take m
      rwa [List.take_append_of_le_length (by omega), List.take_of_length_le (by omega)] at this
    have hcs : nq ≤ c3 := by have := iS.1; rw [List.length_append] at this; omega
    have iT : In w w.heap.size (some ⟨gs, os + m, none⟩) (c3 - m) T := by
      have := in_drop iS m (by rw [List.length_append]; omega)
      rwa [if_neg (by omega), List.drop_append_of_le_length (by omega), List.drop_of_length_le (by omega), List.nil_append] at this
    have HOP := Lib.hid (fun (W : World) (hb : Below w.heap.size w W) (cb : Nat) (Ab : Option Addr) (h : BoxAt W gx gk gr R L) (ib : In W W.heap.size Ab cb B1) => KOP.out W gx gk gr m cb Ab h C T (in_up iS hb) ib hlc hlt hmq)
    have HTN := Lib.hid (fun (W : World) => KTN.out W m C hlc (by omega))
    have HTG := Lib.hid (fun (W : World) => KTG.out W m C hlc (by omega))
    have HUL := Lib.hid (tagE_length L R N C B1)
    have HML := Lib.hid (show (maskE L R N C).length = m by rw [maskE_length, hlc])
    have HLC := Lib.hid hlc
    have HLT := Lib.hid hlt
    have HMQ := Lib.hid (And.intro hmq hcs)
    have HIC := Lib.hid iC
    have HIT := Lib.hid iT
    have H16 := Lib.hid h16
    generalize tagE L R N C B1 = U at *
    generalize maskE L R N C = M at *
    clear hsp iS iC iT hcs hmq hlc hlt hm h16 KOP KTN KTG KFEW HIO
    by_cases hTag : U = T
    · have HTT := Lib.hid hTag
      clear hTag
      apply wp_region_once (D := [[], [], [1], [], [], [4], [0, 1, 2, 3, 4, 5], [0, 1, 2, 3, 4, 5, 6], [0, 1, 2, 3, 4, 5, 6, 7], [0, 1, 2, 3, 4, 5, 6, 7], [0, 1, 2, 3, 4, 5, 6, 7, 8], [0, 1, 2, 3, 4, 5, 6, 7, 8, 9, 10]]) (J := [[], [], [1], [], [], [4], [0, 2, 3, 5], [6], [7], [7], [8], [9]]) (Je := [10, 11]) (Rs := [Is _, Is _, Is _, Is _, Is _, fun v V => ∃ (A' : Option Addr) (c' : Nat), v = .slice A' nb c' ∧ In V V.heap.size A' c' B1, fun v V => ∃ (A' : Option Addr) (c' : Nat), v = .tuple #[.slice A' m c', .int .i64 0] ∧ In V V.heap.size A' c' M, fun v V => ∃ (A' : Option Addr) (c' : Nat), v = .tuple #[.slice A' m c', .int .i64 0] ∧ In V V.heap.size A' c' M, fun v V => ∃ (A' : Option Addr) (c' : Nat), v = .slice A' m c' ∧ In V V.heap.size A' c' M, Is _, fun v V => ∃ (A' : Option Addr) (c' : Nat), v = .slice A' m c' ∧ In V V.heap.size A' c' M, Is _])
      · kernel_rfl
      · kernel_rfl
      · kernel_rfl
      · kernel_rfl
      · kernel_rfl
      · kernel_rfl
      · intro u
        simp only [List.map_cons, List.map_nil, fillU, List.setIfInBounds_toArray, List.set_cons_zero, List.set_cons_succ, Nat.zero_add, Nat.reduceAdd]
        exact rfl
      · skip
        refine ⟨fun u V hb hd K hK => ?_, ?_⟩
        · clear hd
          go_simp
          apply hK
          · simp only [Act.put, List.setIfInBounds_toArray, List.set_cons_zero, List.set_cons_succ]
            exact rfl
          · exact Below.refl _ _
          · exact IsOut
        refine ⟨fun u V hb hd K hK => ?_, ?_⟩
        · clear hd
          go_simp
          apply hK
          · simp only [Act.put, List.setIfInBounds_toArray, List.set_cons_zero, List.set_cons_succ]
            exact rfl
          · exact Below.refl _ _
          · exact IsOut
        refine ⟨fun u V hb hd K hK => ?_, ?_⟩
        · simp only [Facts, nthR, Is, and_true] at hd
          simp only [hd] at hK ⊢
          clear hd
          rw [if_pos (by rfl)]
          refine wp_load_mid 23 (.tmp 24) rfl (w.heap.size) (33) rfl (N.map B8) _ ((fun j v hv => ((hL.below hb hL.lt).cell (33 + j)).trans (HLN.out j v hv))) Try.underlying23 rfl (info12.trans (by rw [List.length_map, LN.out])) ?_
          exact hK _ _ _ rfl (Below.refl _ _) IsOut
        refine ⟨fun u V hb hd K hK => ?_, ?_⟩
        · clear hd
          go_simp
          apply hK
          · simp only [Act.put, List.setIfInBounds_toArray, List.set_cons_zero, List.set_cons_succ]
            exact rfl
          · exact Below.refl _ _
          · exact IsOut
        refine ⟨fun u V hb hd K hK => ?_, ?_⟩
        · clear hd
          rw [if_pos (by rfl)]
          refine wp_load_mid 26 (.tmp 2) rfl (w.heap.size) 0 rfl (LL) _ (rangeAt_blk (hL.below hb hL.lt)) Try.underlying26 rfl (infoLet.trans (by rw [HLL.out])) ?_
          exact hK _ _ _ rfl (Below.refl _ _) IsOut
        refine ⟨fun u V hb hd K hK => ?_, ?_⟩
        · simp only [Facts, nthR, Is, and_true] at hd
          simp only [hd] at hK ⊢
          clear hd
          go_simp
          refine (HBE.out V (in_up iQ (hbw.trans (hb.mono hbw.size)))).mono ?_
          rintro e wy ⟨A', n', c', rfl, hn', hB', hby⟩
          have hn2 : n' = nb := by rw [← hn']; exact HNB.out
          subst hn2
          exact hK _ _ _ rfl hby ⟨A', c', rfl, hB'.toIn (Nat.le_refl _)⟩
        refine ⟨fun u V hb hd K hK => ?_, ?_⟩
        · simp only [Facts, nthR, Is, and_true] at hd
          obtain ⟨h0, h1, h2, ⟨Ab, cb, h3, iB⟩⟩ := hd
          simp only [h0, h1, h2, h3] at hK ⊢
          clear h0 h1 h2 h3
          go_simp
          refine (HOP.out V (hbw.trans (hb.mono hbw.size)) cb Ab (hX.below hb) iB).mono ?_
          rintro e wy ⟨hby, ⟨_, A', c', rfl, hB'⟩ | ⟨h, _⟩⟩
          · exact hK _ _ _ rfl hby ⟨A', c', rfl, hB'.toIn (Nat.le_refl _)⟩
          exact absurd HTT.out h
        refine ⟨fun u V hb hd K hK => ?_, ?_⟩
        · simp only [Facts, nthR, and_true] at hd
          obtain ⟨A', c', h1, hi'⟩ := hd
          simp only [h1] at hK ⊢
          clear h1
          go_simp
          apply hK
          · simp only [Act.put, List.setIfInBounds_toArray, List.set_cons_zero, List.set_cons_succ]
            exact rfl
          · exact Below.refl _ _
          · exact ⟨A', c', rfl, hi'⟩
        refine ⟨fun u V hb hd K hK => ?_, ?_⟩
        · simp only [Facts, nthR, and_true] at hd
          obtain ⟨A', c', h1, hi'⟩ := hd
          simp only [h1] at hK ⊢
          clear h1
          go_simp
          apply hK
          · simp only [Act.put, List.setIfInBounds_toArray, List.set_cons_zero, List.set_cons_succ]
            exact rfl
          · exact Below.refl _ _
          · exact ⟨A', c', rfl, hi'⟩
        refine ⟨fun u V hb hd K hK => ?_, ?_⟩
        · simp only [Facts, nthR, and_true] at hd
          obtain ⟨A', c', h1, hi'⟩ := hd
          simp only [h1] at hK ⊢
          clear h1
          go_simp
          apply hK
          · simp only [Act.put, List.setIfInBounds_toArray, List.set_cons_zero, List.set_cons_succ]
            exact rfl
          · exact Below.refl _ _
          · exact IsOut
        refine ⟨fun u V hb hd K hK => ?_, ?_⟩
        · simp only [Facts, nthR, and_true] at hd
          obtain ⟨A', c', h1, hi'⟩ := hd
          simp only [h1] at hK ⊢
          clear h1
          go_simp
          apply hK
          · simp only [Act.put, List.setIfInBounds_toArray, List.set_cons_zero, List.set_cons_succ]
            exact rfl
          · exact Below.refl _ _
          · exact ⟨A', c', rfl, hi'⟩
        refine ⟨fun u V hb hd K hK => ?_, ?_⟩
        · simp only [Facts, nthR, Is, and_true] at hd
          simp only [hd] at hK ⊢
          clear hd
          go_simp
          apply hK
          · simp only [Act.put, List.setIfInBounds_toArray, List.set_cons_zero, List.set_cons_succ]
            exact rfl
          · exact Below.refl _ _
          · exact IsOut
        exact trivial
      · exact (.is (.is (.is (.is (.is (.cons (fun v V V' ⟨A', c', h1, h2⟩ hb => ⟨A', c', h1, in_up h2 hb⟩) (.cons (fun v V V' ⟨A', c', h1, h2⟩ hb => ⟨A', c', h1, in_up h2 hb⟩) (.cons (fun v V V' ⟨A', c', h1, h2⟩ hb => ⟨A', c', h1, in_up h2 hb⟩) (.cons (fun v V V' ⟨A', c', h1, h2⟩ hb => ⟨A', c', h1, in_up h2 hb⟩) (.is (.cons (fun v V V' ⟨A', c', h1, h2⟩ hb => ⟨A', c', h1, in_up h2 hb⟩) (.is .nil))))))))))))
      · intro u V hb hd
        simp only [Facts, nthR, Is, and_true] at hd
        obtain ⟨⟨A7, c7, h10, iM⟩, h11⟩ := hd
        simp only [h10, h11]
        clear h10 h11
        replace hbw := hbw.trans (hb.mono hbw.size)
        replace hL := hL.below hb hL.lt
        clear hb hX
        have hmi := HMQ.out
        have hd2 : decide ((nq : Int) < 16) = false := by simp; omega
        have hi2 : ¬ (nq : Int) < 16 := by omega
        have q1 : (nq : Int) - 16 = (m : Int) := by omega
        have q2 : (0 : Int) ≤ (m : Int) := by omega
        have q3 : (m : Int) ≤ (c3 : Int) := by omega
        clear hmi
        go_upto_region 8 with (go_at_call 9; go_loud (refine (boxes_e _).mono ?_); rintro e w4 ⟨rfl, hb4⟩; replace hL := hL.below hb4 hL.lt; replace iM := in_up iM hb4; replace hbw := hbw.trans (hb4.mono hbw.size); clear hb4)
        have hcv := conv_in HLC.out (in_up HIC.out hbw)
        go_upto_region 9 with (fail)
        clear hcv q1 q2 q3
        have f1 : ¬ c3 = m := by have := HMQ.out; omega
        have f2 : nq - m = 16 := by have := HMQ.out; omega
        have f3 : (m : Int) ≤ (nq : Int) := by have := HMQ.out; omega
        have f4 : nq ≤ c3 := HMQ.out.2
        have f5 : (nq : Int) ≤ (c3 : Int) := by omega
        have f6 : (nq : Int) - 16 = (m : Int) := by have := HMQ.out; omega
        have f7 : IntKind.i64.wrap (m : Int) = (m : Int) := by rw [IntKind.wrap_i64]; have := HMQ.out; omega
        have f8 : (0 : Int) ≤ (m : Int) := by omega
        apply wp_region_once (D := [[], [0], [0, 1], [], [3], [], [], [0, 1, 6], [0, 1, 6, 7], [0, 1, 2, 3, 4, 5, 6, 7, 8], [], [], [11], [11, 12], [10, 11, 12, 13], [10, 11, 12, 13, 14], [0, 1, 2, 3, 4, 5, 6, 7, 8, 9, 10, 11, 12, 13, 14, 15], [0, 1, 2, 3, 4, 5, 6, 7, 8, 9, 10, 11, 12, 13, 14, 15, 16]]) (J := [[], [0], [1], [], [3], [], [], [6], [7], [2, 4, 5, 8], [], [], [11], [12], [10, 13], [14], [9, 15], [16]]) (Je := [17]) (Rs := [Is _, fun v V => ∃ (A' : Option Addr) (c' : Nat), v = .slice A' nk' c' ∧ In V V.heap.size A' c' KK, Is _, Is _, Is _, Is _, Is _, fun v V => ∃ (A' : Option Addr) (c' : Nat), v = .slice A' nb c' ∧ In V V.heap.size A' c' B1, Is _, Is _, Is _, Is _, Is _, Is _, Is _, Is _, Is _, Is _])
        · kernel_rfl
        · kernel_rfl
        · kernel_rfl
        · kernel_rfl
        · kernel_rfl
        · kernel_rfl
        · intro u
          simp only [List.map_cons, List.map_nil, fillU, List.setIfInBounds_toArray, List.set_cons_zero, List.set_cons_succ, Nat.zero_add, Nat.reduceAdd]
          exact rfl
        · skip
          refine ⟨fun u V hb hd K hK => ?_, ?_⟩
          · clear hd
            rw [if_pos (by rfl)]
            refine wp_load_mid 26 (.tmp 2) rfl (w.heap.size) 0 rfl (LL) _ (rangeAt_blk (hL.below hb hL.lt)) Try.underlying26 rfl (infoLet.trans (by rw [HLL.out])) ?_
            exact hK _ _ _ rfl (Below.refl _ _) IsOut
          refine ⟨fun u V hb hd K hK => ?_, ?_⟩
          · simp only [Facts, nthR, Is, and_true] at hd
            simp only [hd] at hK ⊢
            clear hd
            go_simp
            refine (HKK.out V).mono ?_
            rintro e wy ⟨A', n', c', rfl, hn', hB', hby⟩
            subst hn'
            exact hK _ _ _ rfl hby ⟨A', c', rfl, hB'.toIn (Nat.le_refl _)⟩
          refine ⟨fun u V hb hd K hK => ?_, ?_⟩
          · simp only [Facts, nthR, and_true] at hd
            obtain ⟨A', c', h1, iR⟩ := hd
            simp only [h1] at hK ⊢
            clear h1
            have hcv := conv_in LK.out iR
            go_simp
            apply hK
            · simp only [Act.put, List.setIfInBounds_toArray, List.set_cons_zero, List.set_cons_succ]
              exact rfl
            · exact Below.refl _ _
            · exact IsOut
          refine ⟨fun u V hb hd K hK => ?_, ?_⟩
          · clear hd
            go_simp
            apply hK
            · simp only [Act.put, List.setIfInBounds_toArray, List.set_cons_zero, List.set_cons_succ]
              exact rfl
            · exact Below.refl _ _
            · exact IsOut
          refine ⟨fun u V hb hd K hK => ?_, ?_⟩
          · simp only [Facts, nthR, Is, and_true] at hd
            simp only [hd] at hK ⊢
            clear hd
            rw [if_pos (by rfl)]
            refine wp_load_mid 23 (.tmp 57) rfl (w.heap.size) (33) rfl (N.map B8) _ ((fun j v hv => ((hL.below hb hL.lt).cell (33 + j)).trans (HLN.out j v hv))) Try.underlying23 rfl (info12.trans (by rw [List.length_map, LN.out])) ?_
            exact hK _ _ _ rfl (Below.refl _ _) IsOut
          refine ⟨fun u V hb hd K hK => ?_, ?_⟩
          · clear hd
            go_simp
            apply hK
            · simp only [Act.put, List.setIfInBounds_toArray, List.set_cons_zero, List.set_cons_succ]
              exact rfl
            · exact Below.refl _ _
            · exact IsOut
          refine ⟨fun u V hb hd K hK => ?_, ?_⟩
          · clear hd
            rw [if_pos (by rfl)]
            refine wp_load_mid 26 (.tmp 2) rfl (w.heap.size) 0 rfl (LL) _ (rangeAt_blk (hL.below hb hL.lt)) Try.underlying26 rfl (infoLet.trans (by rw [HLL.out])) ?_
            exact hK _ _ _ rfl (Below.refl _ _) IsOut
          refine ⟨fun u V hb hd K hK => ?_, ?_⟩
          · simp only [Facts, nthR, Is, and_true] at hd
            simp only [hd] at hK ⊢
            clear hd
            go_simp
            refine (HBE.out V (in_up iQ (hbw.trans (hb.mono hbw.size)))).mono ?_
            rintro e wy ⟨A', n', c', rfl, hn', hB', hby⟩
            have hn2 : n' = nb := by rw [← hn']; exact HNB.out
            subst hn2
            exact hK _ _ _ rfl hby ⟨A', c', rfl, hB'.toIn (Nat.le_refl _)⟩
          refine ⟨fun u V hb hd K hK => ?_, ?_⟩
          · simp only [Facts, nthR, and_true] at hd
            obtain ⟨A', c', h1, iR⟩ := hd
            simp only [h1] at hK ⊢
            clear h1
            have hcv := conv_in HNB.out iR
            go_simp
            apply hK
            · simp only [Act.put, List.setIfInBounds_toArray, List.set_cons_zero, List.set_cons_succ]
              exact rfl
            · exact Below.refl _ _
            · exact IsOut
          refine ⟨fun u V hb hd K hK => ?_, ?_⟩
          · simp only [Facts, nthR, Is, and_true] at hd
            simp only [hd] at hK ⊢
            clear hd
            go_simp
            refine (HTG.out V).mono ?_
            rintro e wy ⟨rfl, hby⟩
            exact hK _ _ _ rfl hby IsOut
          refine ⟨fun u V hb hd K hK => ?_, ?_⟩
          · clear hd
            go_simp
            apply hK
            · simp only [Act.put, List.setIfInBounds_toArray, List.set_cons_zero, List.set_cons_succ]
              exact rfl
            · exact Below.refl _ _
            · exact IsOut
          refine ⟨fun u V hb hd K hK => ?_, ?_⟩
          · clear hd
            go_simp
            apply hK
            · simp only [Act.put, List.setIfInBounds_toArray, List.set_cons_zero, List.set_cons_succ]
              exact rfl
            · exact Below.refl _ _
            · exact IsOut
          refine ⟨fun u V hb hd K hK => ?_, ?_⟩
          · simp only [Facts, nthR, Is, and_true] at hd
            simp only [hd] at hK ⊢
            clear hd
            go_simp
            apply hK
            · simp only [Act.put, List.setIfInBounds_toArray, List.set_cons_zero, List.set_cons_succ]
              exact rfl
            · exact Below.refl _ _
            · exact IsOut
          refine ⟨fun u V hb hd K hK => ?_, ?_⟩
          · simp only [Facts, nthR, Is, and_true] at hd
            simp only [hd] at hK ⊢
            clear hd
            go_simp
            apply hK
            · simp only [Act.put, List.setIfInBounds_toArray, List.set_cons_zero, List.set_cons_succ]
              exact rfl
            · exact Below.refl _ _
            · exact IsOut
          refine ⟨fun u V hb hd K hK => ?_, ?_⟩
          · simp only [Facts, nthR, Is, and_true] at hd
            simp only [hd] at hK ⊢
            clear hd
            go_simp
            apply hK
            · simp only [Act.put, List.setIfInBounds_toArray, List.set_cons_zero, List.set_cons_succ]
              exact rfl
            · exact Below.refl _ _
            · exact IsOut
          refine ⟨fun u V hb hd K hK => ?_, ?_⟩
          · simp only [Facts, nthR, Is, and_true] at hd
            simp only [hd] at hK ⊢
            clear hd
            have hcv := conv_in HLT.out (in_up HIT.out (hbw.trans (hb.mono hbw.size)))
            go_simp
            apply hK
            · simp only [Act.put, List.setIfInBounds_toArray, List.set_cons_zero, List.set_cons_succ]
              exact rfl
            · exact Below.refl _ _
            · exact IsOut
          refine ⟨fun u V hb hd K hK => ?_, ?_⟩
          · simp only [Facts, nthR, Is, and_true] at hd
            simp only [hd] at hK ⊢
            clear hd
            go_simp
            apply hK
            · simp only [Act.put, List.setIfInBounds_toArray, List.set_cons_zero, List.set_cons_succ]
              exact rfl
            · exact Below.refl _ _
            · exact IsOut
          refine ⟨fun u V hb hd K hK => ?_, ?_⟩
          · simp only [Facts, nthR, Is, and_true] at hd
            simp only [hd] at hK ⊢
            clear hd
            go_simp
            apply hK
            · simp only [Act.put, List.setIfInBounds_toArray, List.set_cons_zero, List.set_cons_succ]
              exact rfl
            · exact Below.refl _ _
            · exact IsOut
          exact trivial
        · exact (.is (.cons (fun v V V' ⟨A', c', h1, h2⟩ hb => ⟨A', c', h1, in_up h2 hb⟩) (.is (.is (.is (.is (.is (.cons (fun v V V' ⟨A', c', h1, h2⟩ hb => ⟨A', c', h1, in_up h2 hb⟩) (.is (.is (.is (.is (.is (.is (.is (.is (.is (.is .nil))))))))))))))))))
        · intro u V hb hd
          simp only [Facts, nthR, Is, and_true] at hd
          simp only [hd]
          clear f1 f2 f3 f4 f5 f6 f7 f8
          replace hbw := hbw.trans (hb.mono hbw.size)
          replace hL := hL.below hb hL.lt
          replace iM := in_up iM hb
          clear hb
          have hbe : (U == T) = true := by simpa using HTT.out
          rw [hbe]
          go_upto_region 12 with (fail)
          apply wp_region_once (D := [[], [0], [0, 1], [0, 1, 2], [0, 1, 2, 3], [0, 1, 2], [0, 1, 2, 5], [0, 1, 2, 5, 6], [0, 1, 2], [0, 1, 2, 8], [0, 1, 2], [0, 1, 2, 5, 6, 7, 8, 9, 10], [0, 1, 2, 3, 4, 5, 6, 7, 8, 9, 10, 11], [0, 1, 2, 3, 4, 5, 6, 7, 8, 9, 10, 11, 12], [0, 1, 2, 3, 4, 5, 6, 7, 8, 9, 10, 11, 12, 13]]) (J := [[], [0], [1], [2], [2, 3], [2], [2, 5], [2, 6], [2], [2, 8], [2], [2, 7, 9, 10], [2, 4, 11], [2, 12], [13]]) (Je := [14]) (Rs := [Is _, Is _, Is _, Is _, Is _, Is _, fun v V => ∃ (A' : Option Addr) (c' : Nat), v = .slice A' nk' c' ∧ In V V.heap.size A' c' KK, Is _, Is _, Is _, Is _, Is _, Is _, Is _, Is _])
          · kernel_rfl
          · kernel_rfl
          · kernel_rfl
          · kernel_rfl
          · kernel_rfl
          · kernel_rfl
          · intro u
            simp only [List.map_cons, List.map_nil, fillU, List.setIfInBounds_toArray, List.set_cons_zero, List.set_cons_succ, Nat.zero_add, Nat.reduceAdd]
            exact rfl
          · skip
            refine ⟨fun u V hb hd K hK => ?_, ?_⟩
            · clear hd
              go_simp
              apply hK
              · simp only [Act.put, List.setIfInBounds_toArray, List.set_cons_zero, List.set_cons_succ]
                exact rfl
              · exact Below.refl _ _
              · exact IsOut
            refine ⟨fun u V hb hd K hK => ?_, ?_⟩
            · simp only [Facts, nthR, Is, and_true] at hd
              simp only [hd] at hK ⊢
              clear hd
              go_simp
              apply hK
              · simp only [Act.put, List.setIfInBounds_toArray, List.set_cons_zero, List.set_cons_succ]
                exact rfl
              · exact Below.refl _ _
              · exact IsOut
            refine ⟨fun u V hb hd K hK => ?_, ?_⟩
            · simp only [Facts, nthR, Is, and_true] at hd
              simp only [hd] at hK ⊢
              clear hd
              go_simp
              apply hK
              · simp only [Act.put, List.setIfInBounds_toArray, List.set_cons_zero, List.set_cons_succ]
                exact rfl
              · exact Below.refl _ _
              · exact IsOut
            refine ⟨fun u V hb hd K hK => ?_, ?_⟩
            · simp only [Facts, nthR, Is, and_true] at hd
              simp only [hd] at hK ⊢
              clear hd
              go_simp
              apply hK
              · simp only [Act.put, List.setIfInBounds_toArray, List.set_cons_zero, List.set_cons_succ]
                exact rfl
              · exact Below.refl _ _
              · exact IsOut
            refine ⟨fun u V hb hd K hK => ?_, ?_⟩
            · simp only [Facts, nthR, Is, and_true] at hd
              simp only [hd] at hK ⊢
              clear hd
              have hcv := conv_in HML.out (in_up iM hb)
              go_simp
              apply hK
              · simp only [Act.put, List.setIfInBounds_toArray, List.set_cons_zero, List.set_cons_succ]
                exact rfl
              · exact Below.refl _ _
              · exact IsOut
            refine ⟨fun u V hb hd K hK => ?_, ?_⟩
            · simp only [Facts, nthR, Is, and_true] at hd
              simp only [hd] at hK ⊢
              clear hd
              rw [if_pos (by rfl)]
              refine wp_load_mid 26 (.tmp 2) rfl (w.heap.size) 0 rfl (LL) _ (rangeAt_blk (hL.below hb hL.lt)) Try.underlying26 rfl (infoLet.trans (by rw [HLL.out])) ?_
              exact hK _ _ _ rfl (Below.refl _ _) IsOut
            refine ⟨fun u V hb hd K hK => ?_, ?_⟩
            · simp only [Facts, nthR, Is, and_true] at hd
              simp only [hd] at hK ⊢
              clear hd
              go_simp
              refine (HKK.out V).mono ?_
              rintro e wy ⟨A', n', c', rfl, hn', hB', hby⟩
              subst hn'
              exact hK _ _ _ rfl hby ⟨A', c', rfl, hB'.toIn (Nat.le_refl _)⟩
            refine ⟨fun u V hb hd K hK => ?_, ?_⟩
            · simp only [Facts, nthR, Is, and_true] at hd
              obtain ⟨h0, ⟨A', c', h1, iR⟩⟩ := hd
              simp only [h0, h1] at hK ⊢
              clear h0 h1
              have hcv := conv_in LK.out iR
              go_simp
              apply hK
              · simp only [Act.put, List.setIfInBounds_toArray, List.set_cons_zero, List.set_cons_succ]
                exact rfl
              · exact Below.refl _ _
              · exact IsOut
            refine ⟨fun u V hb hd K hK => ?_, ?_⟩
            · simp only [Facts, nthR, Is, and_true] at hd
              simp only [hd] at hK ⊢
              clear hd
              go_simp
              apply hK
              · simp only [Act.put, List.setIfInBounds_toArray, List.set_cons_zero, List.set_cons_succ]
                exact rfl
              · exact Below.refl _ _
              · exact IsOut
            refine ⟨fun u V hb hd K hK => ?_, ?_⟩
            · simp only [Facts, nthR, Is, and_true] at hd
              simp only [hd] at hK ⊢
              clear hd
              rw [if_pos (by rfl)]
              refine wp_load_mid 23 (.tmp 88) rfl (w.heap.size) (33) rfl (N.map B8) _ ((fun j v hv => ((hL.below hb hL.lt).cell (33 + j)).trans (HLN.out j v hv))) Try.underlying23 rfl (info12.trans (by rw [List.length_map, LN.out])) ?_
              exact hK _ _ _ rfl (Below.refl _ _) IsOut
            refine ⟨fun u V hb hd K hK => ?_, ?_⟩
            · simp only [Facts, nthR, Is, and_true] at hd
              simp only [hd] at hK ⊢
              clear hd
              go_simp
              apply hK
              · simp only [Act.put, List.setIfInBounds_toArray, List.set_cons_zero, List.set_cons_succ]
                exact rfl
              · exact Below.refl _ _
              · exact IsOut
            refine ⟨fun u V hb hd K hK => ?_, ?_⟩
            · simp only [Facts, nthR, Is, and_true] at hd
              simp only [hd] at hK ⊢
              clear hd
              go_simp
              refine (HTN.out V).mono ?_
              rintro e wy ⟨rfl, hby⟩
              exact hK _ _ _ rfl hby IsOut
            refine ⟨fun u V hb hd K hK => ?_, ?_⟩
            · simp only [Facts, nthR, Is, and_true] at hd
              simp only [hd] at hK ⊢
              clear hd
              go_simp
              apply hK
              · simp only [Act.put, List.setIfInBounds_toArray, List.set_cons_zero, List.set_cons_succ]
                exact rfl
              · exact Below.refl _ _
              · exact IsOut
            refine ⟨fun u V hb hd K hK => ?_, ?_⟩
            · simp only [Facts, nthR, Is, and_true] at hd
              simp only [hd] at hK ⊢
              clear hd
              go_simp
              apply hK
              · simp only [Act.put, List.setIfInBounds_toArray, List.set_cons_zero, List.set_cons_succ]
                exact rfl
              · exact Below.refl _ _
              · exact IsOut
            refine ⟨fun u V hb hd K hK => ?_, ?_⟩
            · simp only [Facts, nthR, Is, and_true] at hd
              simp only [hd] at hK ⊢
              clear hd
              go_simp
              apply hK
              · simp only [Act.put, List.setIfInBounds_toArray, List.set_cons_zero, List.set_cons_succ]
                exact rfl
              · exact Below.refl _ _
              · exact IsOut
            exact trivial
          · exact (.is (.is (.is (.is (.is (.is (.cons (fun v V V' ⟨A', c', h1, h2⟩ hb => ⟨A', c', h1, in_up h2 hb⟩) (.is (.is (.is (.is (.is (.is (.is (.is .nil)))))))))))))))
          · intro u V hb hd
            simp only [Facts, nthR, Is, and_true] at hd
            simp only [hd]
            replace hbw := hbw.trans (hb.mono hbw.size)
            clear hb
            go_wp2
            go_ret
            exact ⟨rfl, hbw⟩

    · have HNT := Lib.hid hTag
      clear hTag
      apply wp_region_once (D := [[], [], [1], [], [], [4], [0, 1, 2, 3, 4, 5], [0, 1, 2, 3, 4, 5, 6], [0, 1, 2, 3, 4, 5, 6, 7], [0, 1, 2, 3, 4, 5, 6, 7], [0, 1, 2, 3, 4, 5, 6, 7, 8], [0, 1, 2, 3, 4, 5, 6, 7, 8, 9, 10]]) (J := [[], [], [1], [], [], [4], [0, 2, 3, 5], [6], [7], [7], [8], [9]]) (Je := [10, 11]) (Rs := [Is _, Is _, Is _, Is _, Is _, fun v V => ∃ (A' : Option Addr) (c' : Nat), v = .slice A' nb c' ∧ In V V.heap.size A' c' B1, Is _, Is _, Is _, Is _, Is _, Is _])
      · kernel_rfl
      · kernel_rfl
      · kernel_rfl
      · kernel_rfl
      · kernel_rfl
      · kernel_rfl
      · intro u
        simp only [List.map_cons, List.map_nil, fillU, List.setIfInBounds_toArray, List.set_cons_zero, List.set_cons_succ, Nat.zero_add, Nat.reduceAdd]
        exact rfl
      · skip
        refine ⟨fun u V hb hd K hK => ?_, ?_⟩
        · clear hd
          go_simp
          apply hK
          · simp only [Act.put, List.setIfInBounds_toArray, List.set_cons_zero, List.set_cons_succ]
            exact rfl
          · exact Below.refl _ _
          · exact IsOut
        refine ⟨fun u V hb hd K hK => ?_, ?_⟩
        · clear hd
          go_simp
          apply hK
          · simp only [Act.put, List.setIfInBounds_toArray, List.set_cons_zero, List.set_cons_succ]
            exact rfl
          · exact Below.refl _ _
          · exact IsOut
        refine ⟨fun u V hb hd K hK => ?_, ?_⟩
        · simp only [Facts, nthR, Is, and_true] at hd
          simp only [hd] at hK ⊢
          clear hd
          rw [if_pos (by rfl)]
          refine wp_load_mid 23 (.tmp 24) rfl (w.heap.size) (33) rfl (N.map B8) _ ((fun j v hv => ((hL.below hb hL.lt).cell (33 + j)).trans (HLN.out j v hv))) Try.underlying23 rfl (info12.trans (by rw [List.length_map, LN.out])) ?_
          exact hK _ _ _ rfl (Below.refl _ _) IsOut
        refine ⟨fun u V hb hd K hK => ?_, ?_⟩
        · clear hd
          go_simp
          apply hK
          · simp only [Act.put, List.setIfInBounds_toArray, List.set_cons_zero, List.set_cons_succ]
            exact rfl
          · exact Below.refl _ _
          · exact IsOut
        refine ⟨fun u V hb hd K hK => ?_, ?_⟩
        · clear hd
          rw [if_pos (by rfl)]
          refine wp_load_mid 26 (.tmp 2) rfl (w.heap.size) 0 rfl (LL) _ (rangeAt_blk (hL.below hb hL.lt)) Try.underlying26 rfl (infoLet.trans (by rw [HLL.out])) ?_
          exact hK _ _ _ rfl (Below.refl _ _) IsOut
        refine ⟨fun u V hb hd K hK => ?_, ?_⟩
        · simp only [Facts, nthR, Is, and_true] at hd
          simp only [hd] at hK ⊢
          clear hd
          go_simp
          refine (HBE.out V (in_up iQ (hbw.trans (hb.mono hbw.size)))).mono ?_
          rintro e wy ⟨A', n', c', rfl, hn', hB', hby⟩
          have hn2 : n' = nb := by rw [← hn']; exact HNB.out
          subst hn2
          exact hK _ _ _ rfl hby ⟨A', c', rfl, hB'.toIn (Nat.le_refl _)⟩
        refine ⟨fun u V hb hd K hK => ?_, ?_⟩
        · simp only [Facts, nthR, Is, and_true] at hd
          obtain ⟨h0, h1, h2, ⟨Ab, cb, h3, iB⟩⟩ := hd
          simp only [h0, h1, h2, h3] at hK ⊢
          clear h0 h1 h2 h3
          go_simp
          refine (HOP.out V (hbw.trans (hb.mono hbw.size)) cb Ab (hX.below hb) iB).mono ?_
          rintro e wy ⟨hby, ⟨h, _⟩ | ⟨_, rfl⟩⟩
          · exact absurd h HNT.out
          exact hK _ _ _ rfl hby IsOut
        refine ⟨fun u V hb hd K hK => ?_, ?_⟩
        · simp only [Facts, nthR, Is, and_true] at hd
          simp only [hd] at hK ⊢
          clear hd
          go_simp
          apply hK
          · simp only [Act.put, List.setIfInBounds_toArray, List.set_cons_zero, List.set_cons_succ]
            exact rfl
          · exact Below.refl _ _
          · exact IsOut
        refine ⟨fun u V hb hd K hK => ?_, ?_⟩
        · simp only [Facts, nthR, Is, and_true] at hd
          simp only [hd] at hK ⊢
          clear hd
          go_simp
          apply hK
          · simp only [Act.put, List.setIfInBounds_toArray, List.set_cons_zero, List.set_cons_succ]
            exact rfl
          · exact Below.refl _ _
          · exact IsOut
        refine ⟨fun u V hb hd K hK => ?_, ?_⟩
        · simp only [Facts, nthR, Is, and_true] at hd
          simp only [hd] at hK ⊢
          clear hd
          go_simp
          apply hK
          · simp only [Act.put, List.setIfInBounds_toArray, List.set_cons_zero, List.set_cons_succ]
            exact rfl
          · exact Below.refl _ _
          · exact IsOut
        refine ⟨fun u V hb hd K hK => ?_, ?_⟩
        · simp only [Facts, nthR, Is, and_true] at hd
          simp only [hd] at hK ⊢
          clear hd
          go_simp
          apply hK
          · simp only [Act.put, List.setIfInBounds_toArray, List.set_cons_zero, List.set_cons_succ]
            exact rfl
          · exact Below.refl _ _
          · exact IsOut
        refine ⟨fun u V hb hd K hK => ?_, ?_⟩
        · simp only [Facts, nthR, Is, and_true] at hd
          simp only [hd] at hK ⊢
          clear hd
          go_simp
          apply hK
          · simp only [Act.put, List.setIfInBounds_toArray, List.set_cons_zero, List.set_cons_succ]
            exact rfl
          · exact Below.refl _ _
          · exact IsOut
        exact trivial
      · exact (.is (.is (.is (.is (.is (.cons (fun v V V' ⟨A', c', h1, h2⟩ hb => ⟨A', c', h1, in_up h2 hb⟩) (.is (.is (.is (.is (.is (.is .nil))))))))))))
      · intro u V hb hd
        simp only [Facts, nthR, Is, and_true] at hd
        simp only [hd]
        replace hbw := hbw.trans (hb.mono hbw.size)
        replace hL := hL.below hb hL.lt
        clear hb hX
        have hmi := HMQ.out
        have hd2 : decide ((nq : Int) < 16) = false := by simp; omega
        have hi2 : ¬ (nq : Int) < 16 := by omega
        have q1 : (nq : Int) - 16 = (m : Int) := by omega
        have q2 : (0 : Int) ≤ (m : Int) := by omega
        have q3 : (m : Int) ≤ (c3 : Int) := by omega
        clear hmi
        go_upto_region 8 with (go_at_call 9; go_loud (refine (boxes_e _).mono ?_); rintro e w4 ⟨rfl, hb4⟩; replace hL := hL.below hb4 hL.lt; replace hbw := hbw.trans (hb4.mono hbw.size); clear hb4)
        have hcv := conv_in HLC.out (in_up HIC.out hbw)
        go_upto_region 9 with (fail)
        clear hcv q1 q2 q3
        have f1 : ¬ c3 = m := by have := HMQ.out; omega
        have f2 : nq - m = 16 := by have := HMQ.out; omega
        have f3 : (m : Int) ≤ (nq : Int) := by have := HMQ.out; omega
        have f4 : nq ≤ c3 := HMQ.out.2
        have f5 : (nq : Int) ≤ (c3 : Int) := by omega
        have f6 : (nq : Int) - 16 = (m : Int) := by have := HMQ.out; omega
        have f7 : IntKind.i64.wrap (m : Int) = (m : Int) := by rw [IntKind.wrap_i64]; have := HMQ.out; omega
        have f8 : (0 : Int) ≤ (m : Int) := by omega
        apply wp_region_once (D := [[], [0], [0, 1], [], [3], [], [], [0, 1, 6], [0, 1, 6, 7], [0, 1, 2, 3, 4, 5, 6, 7, 8], [], [], [11], [11, 12], [10, 11, 12, 13], [10, 11, 12, 13, 14], [0, 1, 2, 3, 4, 5, 6, 7, 8, 9, 10, 11, 12, 13, 14, 15], [0, 1, 2, 3, 4, 5, 6, 7, 8, 9, 10, 11, 12, 13, 14, 15, 16]]) (J := [[], [0], [1], [], [3], [], [], [6], [7], [2, 4, 5, 8], [], [], [11], [12], [10, 13], [14], [9, 15], [16]]) (Je := [17]) (Rs := [Is _, fun v V => ∃ (A' : Option Addr) (c' : Nat), v = .slice A' nk' c' ∧ In V V.heap.size A' c' KK, Is _, Is _, Is _, Is _, Is _, fun v V => ∃ (A' : Option Addr) (c' : Nat), v = .slice A' nb c' ∧ In V V.heap.size A' c' B1, Is _, Is _, Is _, Is _, Is _, Is _, Is _, Is _, Is _, Is _])
        · kernel_rfl
        · kernel_rfl
        · kernel_rfl
        · kernel_rfl
        · kernel_rfl
        · kernel_rfl
        · intro u
          simp only [List.map_cons, List.map_nil, fillU, List.setIfInBounds_toArray, List.set_cons_zero, List.set_cons_succ, Nat.zero_add, Nat.reduceAdd]
          exact rfl
        · skip
          refine ⟨fun u V hb hd K hK => ?_, ?_⟩
          · clear hd
            rw [if_pos (by rfl)]
            refine wp_load_mid 26 (.tmp 2) rfl (w.heap.size) 0 rfl (LL) _ (rangeAt_blk (hL.below hb hL.lt)) Try.underlying26 rfl (infoLet.trans (by rw [HLL.out])) ?_
            exact hK _ _ _ rfl (Below.refl _ _) IsOut
          refine ⟨fun u V hb hd K hK => ?_, ?_⟩
          · simp only [Facts, nthR, Is, and_true] at hd
            simp only [hd] at hK ⊢
            clear hd
            go_simp
            refine (HKK.out V).mono ?_
            rintro e wy ⟨A', n', c', rfl, hn', hB', hby⟩
            subst hn'
            exact hK _ _ _ rfl hby ⟨A', c', rfl, hB'.toIn (Nat.le_refl _)⟩
          refine ⟨fun u V hb hd K hK => ?_, ?_⟩
          · simp only [Facts, nthR, and_true] at hd
            obtain ⟨A', c', h1, iR⟩ := hd
            simp only [h1] at hK ⊢
            clear h1
            have hcv := conv_in LK.out iR
            go_simp
            apply hK
            · simp only [Act.put, List.setIfInBounds_toArray, List.set_cons_zero, List.set_cons_succ]
              exact rfl
            · exact Below.refl _ _
            · exact IsOut
          refine ⟨fun u V hb hd K hK => ?_, ?_⟩
          · clear hd
            go_simp
            apply hK
            · simp only [Act.put, List.setIfInBounds_toArray, List.set_cons_zero, List.set_cons_succ]
              exact rfl
            · exact Below.refl _ _
            · exact IsOut
          refine ⟨fun u V hb hd K hK => ?_, ?_⟩
          · simp only [Facts, nthR, Is, and_true] at hd
            simp only [hd] at hK ⊢
            clear hd
            rw [if_pos (by rfl)]
            refine wp_load_mid 23 (.tmp 57) rfl (w.heap.size) (33) rfl (N.map B8) _ ((fun j v hv => ((hL.below hb hL.lt).cell (33 + j)).trans (HLN.out j v hv))) Try.underlying23 rfl (info12.trans (by rw [List.length_map, LN.out])) ?_
            exact hK _ _ _ rfl (Below.refl _ _) IsOut
          refine ⟨fun u V hb hd K hK => ?_, ?_⟩
          · clear hd
            go_simp
            apply hK
            · simp only [Act.put, List.setIfInBounds_toArray, List.set_cons_zero, List.set_cons_succ]
              exact rfl
            · exact Below.refl _ _
            · exact IsOut
          refine ⟨fun u V hb hd K hK => ?_, ?_⟩
          · clear hd
            rw [if_pos (by rfl)]
            refine wp_load_mid 26 (.tmp 2) rfl (w.heap.size) 0 rfl (LL) _ (rangeAt_blk (hL.below hb hL.lt)) Try.underlying26 rfl (infoLet.trans (by rw [HLL.out])) ?_
            exact hK _ _ _ rfl (Below.refl _ _) IsOut
          refine ⟨fun u V hb hd K hK => ?_, ?_⟩
          · simp only [Facts, nthR, Is, and_true] at hd
            simp only [hd] at hK ⊢
            clear hd
            go_simp
            refine (HBE.out V (in_up iQ (hbw.trans (hb.mono hbw.size)))).mono ?_
            rintro e wy ⟨A', n', c', rfl, hn', hB', hby⟩
            have hn2 : n' = nb := by rw [← hn']; exact HNB.out
            subst hn2
            exact hK _ _ _ rfl hby ⟨A', c', rfl, hB'.toIn (Nat.le_refl _)⟩
          refine ⟨fun u V hb hd K hK => ?_, ?_⟩
          · simp only [Facts, nthR, and_true] at hd
            obtain ⟨A', c', h1, iR⟩ := hd
            simp only [h1] at hK ⊢
            clear h1
            have hcv := conv_in HNB.out iR
            go_simp
            apply hK
            · simp only [Act.put, List.setIfInBounds_toArray, List.set_cons_zero, List.set_cons_succ]
              exact rfl
            · exact Below.refl _ _
            · exact IsOut
          refine ⟨fun u V hb hd K hK => ?_, ?_⟩
          · simp only [Facts, nthR, Is, and_true] at hd
            simp only [hd] at hK ⊢
            clear hd
            go_simp
            refine (HTG.out V).mono ?_
            rintro e wy ⟨rfl, hby⟩
            exact hK _ _ _ rfl hby IsOut
          refine ⟨fun u V hb hd K hK => ?_, ?_⟩
          · clear hd
            go_simp
            apply hK
            · simp only [Act.put, List.setIfInBounds_toArray, List.set_cons_zero, List.set_cons_succ]
              exact rfl
            · exact Below.refl _ _
            · exact IsOut
          refine ⟨fun u V hb hd K hK => ?_, ?_⟩
          · clear hd
            go_simp
            apply hK
            · simp only [Act.put, List.setIfInBounds_toArray, List.set_cons_zero, List.set_cons_succ]
              exact rfl
            · exact Below.refl _ _
            · exact IsOut
          refine ⟨fun u V hb hd K hK => ?_, ?_⟩
          · simp only [Facts, nthR, Is, and_true] at hd
            simp only [hd] at hK ⊢
            clear hd
            go_simp
            apply hK
            · simp only [Act.put, List.setIfInBounds_toArray, List.set_cons_zero, List.set_cons_succ]
              exact rfl
            · exact Below.refl _ _
            · exact IsOut
          refine ⟨fun u V hb hd K hK => ?_, ?_⟩
          · simp only [Facts, nthR, Is, and_true] at hd
            simp only [hd] at hK ⊢
            clear hd
            go_simp
            apply hK
            · simp only [Act.put, List.setIfInBounds_toArray, List.set_cons_zero, List.set_cons_succ]
              exact rfl
            · exact Below.refl _ _
            · exact IsOut
          refine ⟨fun u V hb hd K hK => ?_, ?_⟩
          · simp only [Facts, nthR, Is, and_true] at hd
            simp only [hd] at hK ⊢
            clear hd
            go_simp
            apply hK
            · simp only [Act.put, List.setIfInBounds_toArray, List.set_cons_zero, List.set_cons_succ]
              exact rfl
            · exact Below.refl _ _
            · exact IsOut
          refine ⟨fun u V hb hd K hK => ?_, ?_⟩
          · simp only [Facts, nthR, Is, and_true] at hd
            simp only [hd] at hK ⊢
            clear hd
            have hcv := conv_in HLT.out (in_up HIT.out (hbw.trans (hb.mono hbw.size)))
            go_simp
            apply hK
            · simp only [Act.put, List.setIfInBounds_toArray, List.set_cons_zero, List.set_cons_succ]
              exact rfl
            · exact Below.refl _ _
            · exact IsOut
          refine ⟨fun u V hb hd K hK => ?_, ?_⟩
          · simp only [Facts, nthR, Is, and_true] at hd
            simp only [hd] at hK ⊢
            clear hd
            go_simp
            apply hK
            · simp only [Act.put, List.setIfInBounds_toArray, List.set_cons_zero, List.set_cons_succ]
              exact rfl
            · exact Below.refl _ _
            · exact IsOut
          refine ⟨fun u V hb hd K hK => ?_, ?_⟩
          · simp only [Facts, nthR, Is, and_true] at hd
            simp only [hd] at hK ⊢
            clear hd
            go_simp
            apply hK
            · simp only [Act.put, List.setIfInBounds_toArray, List.set_cons_zero, List.set_cons_succ]
              exact rfl
            · exact Below.refl _ _
            · exact IsOut
          exact trivial
        · exact (.is (.cons (fun v V V' ⟨A', c', h1, h2⟩ hb => ⟨A', c', h1, in_up h2 hb⟩) (.is (.is (.is (.is (.is (.cons (fun v V V' ⟨A', c', h1, h2⟩ hb => ⟨A', c', h1, in_up h2 hb⟩) (.is (.is (.is (.is (.is (.is (.is (.is (.is (.is .nil))))))))))))))))))
        · intro u V hb hd
          simp only [Facts, nthR, Is, and_true] at hd
          simp only [hd]
          clear f1 f2 f3 f4 f5 f6 f7 f8
          replace hbw := hbw.trans (hb.mono hbw.size)
          replace hL := hL.below hb hL.lt
          clear hb
          have hbe : (U == T) = false := by simpa using HNT.out
          rw [hbe]
          go_wp2
          go_ret
          exact ⟨rfl, hbw⟩

end Go.Proofs.Ytgkdjabjllmopaa
