/-
  The walk of the statement GcmStreams.
-/
import Derived.Test.YtiebdglnkbpajaaGseal
import Derived.Test.YtiebdglnkbpajaaGLp
import Derived.Test.YtiebdglnkbpajaaFree
import Derived.BigQuiet
namespace Go.Proofs.Ytiebdglnkbpajaa
open Go.RowKit

theorem infoLet : (Try.prog.info? 41).map (·.size) = some 47 := by kernel_rfl
/-- Bytes behind an empty row: a row of its own, at a step of a region that is walked once. -/
theorem wp_append_empty {o : Oper} {a : Act} {w : World} {K : Act → World → Prop} {Q : Exit → Act → World → Prop} (s x : Operand) (ho : o.op = .call { callee := .builtin .append, args := #[s, x], argTypes := #[29, 29] })
    (g n : Nat) (ys : List UInt8) (v : Value) (hs : a.eval s = .slice (some ⟨g, 0, none⟩) 0 0) (hx : a.eval x = v) (hsrc : _root_.Go.Src Try.prog 1 29 v ys.length (ys.map B8) w) (hn : ys.length = n) (hn2 : n ≤ 1099511627776)
    (h : ∀ A' c' w', In w' w'.heap.size A' c' ys → Below w.heap.size w w' → K (a.put o.dst (.slice A' n c')) w') : Oper.wp Try.prog o a w K Q := by
  obtain ⟨i, hi, hz, hsz, hby⟩ := info_parts infoB
  have hs' : _root_.Go.Src Try.prog i.size 29 v ys.length (ys.map B8) w := by rw [hsz]; exact hsrc
  subst hn
  by_cases h0 : ys.length = 0
  · obtain rfl : ys = [] := List.eq_nil_of_length_eq_zero h0
    have hr := run_append_nothing w 29 29 o.type 5 i Try.underlying29 hi (some ⟨g, 0, none⟩) 0 0 (Nat.le_refl _) v hs'
    unfold Oper.wp execOp
    simp only [ho, resolve, invoke, builtin, Sem.run_bind, Sem.run_pure, Result.andThen_ok, List.map_toArray, List.map_cons, List.map_nil, hs, hx, hr]
    exact h _ _ _ (in_nil _ 0 (by decide) _) (Below.refl _ _)
  · have hold : (Builtin.firstCells i.size 0 (.slice (some ⟨g, 0, none⟩) 0 0)).run Try.prog w.drew = .ok (([] : List Value).toArray) w.drew :=
      run_firstCells_some w.drew i.size 0 ⟨g, 0, none⟩ 0 0 [] (by simp) (fun j u hu => by simp at hu)
    have hcap := grownCap_ge w (0 + ys.length) 0 5
    have hcap2 := grownCap_le_maxLen w (0 + ys.length) 0 5 (by simp only [maxLen]; omega)
    have hnext : Builtin.nextslicecap (0 + ys.length) 0 * i.bytes ≤ 281474976710656 := by
      rw [hby, Nat.mul_one]
      have := nextslicecap_le (show 0 < 0 + ys.length by omega)
      omega
    have hr := run_append_grow_src w 29 29 o.type 5 i (.int .u8 0) Try.underlying29 hi hz (some ⟨g, 0, none⟩) 0 0 [] hold v ys.length (ys.map B8) hs' (by omega) (by omega) hnext
    simp only [Nat.zero_add, List.nil_append] at hr hcap hcap2
    unfold Oper.wp execOp
    simp only [ho, resolve, invoke, builtin, Sem.run_bind, Sem.run_pure, Result.andThen_ok, List.map_toArray, List.map_cons, List.map_nil, hs, hx, hr]
    have hB := Buf.made (w := w.drew) (base := w.heap.size) (n := ys.length) (c := grownCap w ys.length 0 5) (bs := ys) ((ys.map B8).toArray ++ Builtin.zeroCells (Value.int .u8 0).cells (grownCap w ys.length 0 5 - ys.length)) 5 0 0 (Nat.le_refl _) rfl hcap hcap2 (by simp [size_zeroCells, Value.cells]; omega) (.inr rfl) (fun j hj => by
      rw [Array.getElem?_append_left (by simpa using hj), List.getElem?_toArray]
      exact getD_map8 _ j hj)
    exact h _ _ _ (hB.toIn (Nat.le_refl _)) ((below_drewN (Below.refl _ _) 1).alloc (Nat.le_refl _) _)
theorem in_take {w : World} {B c n : Nat} {A : Option Addr} {xs ys : List UInt8} (h : In w B A c (xs ++ ys)) (hn : xs.length = n) : In w B A c xs := by
  have := h.take n
  rwa [List.take_append_of_le_length (by omega), List.take_of_length_le (by omega)] at this
theorem ix_wn (n : Nat) (hn : n < 1000) : IntKind.i64.wrap (n : Int) = (n : Int) := by
  rw [IntKind.wrap_i64]; omega
theorem ix_w16 (n m : Nat) (h : m = n + 16) (hn : n < 1000) : IntKind.i64.wrap ((n : Int) + 16) = (m : Int) ∧ (n : Int) + 16 = (m : Int) := by
  subst h; rw [IntKind.wrap_i64]; omega

set_option maxRecDepth 100000 in
set_option maxHeartbeats 1000000 in
theorem gcmStreams_walk (K N P Q O : List UInt8) (sh : Bool) (A1 A2 A3 : Option Addr) (n1 c1 n2 c2 c3 : Nat) (w : World) (hK : K.length = 32) (hN : N.length = 12) (hP : P.length = n1) (hQ : Q.length = n2)
    (iP : In w w.heap.size A1 c1 P) (iQ : In w w.heap.size A2 c2 Q) (iO : In w w.heap.size A3 c3 O) :
    Calls Try.prog 6 #[.agg (letC K sh N A1 n1 c1 A2 n2 c2).toArray, .slice A3 O.length c3] w fun e w' => e = .returned (.bool true) ∧ Below w.heap.size w w' := by
  have kk := fun (W : World) => key_e K N sh A1 A2 n1 c1 n2 c2 W hK
  have kp := fun (W : World) (i : In W W.heap.size A1 c1 P) => plain_e K N sh A1 A2 n1 c1 n2 c2 P W hK hN hP i
  have kb := fun (W : World) (i : In W W.heap.size A2 c2 Q) => beside_e K N sh A1 A2 n1 c1 n2 c2 Q W hK hN hQ i
  have hkl := keyOf_length K sh hK
  have hln := letC_nonce K N sh A1 A2 n1 c1 n2 c2 hK hN
  have hll := letC_length K N sh A1 A2 n1 c1 n2 c2 hK hN
  have hpl : (P.take 100).length ≤ 100 := by rw [List.length_take]; omega
  have hol : (O.take 100).length ≤ 100 := by rw [List.length_take]; omega
  have hbl : (Q.take 60).length ≤ 60 := by rw [List.length_take]; omega
  have ms : min (O.length : Int) 100 = ((O.take 100).length : Int) := by rw [List.length_take]; omega
  have hole : (O.take 100).length ≤ O.length := by rw [List.length_take]; omega
  have hoc := iO.1
  have ioT := iO.take 100
  have hnw := fun (W : World) (A : Option Addr) (c : Nat) (i : In W W.heap.size A c (keyOf K sh)) => bnew_any A c W.heap.size (fours sh) (keyOf K sh) W (Nat.le_refl _) (ink i) hkl (fours_or sh)
  simp only [hkl] at hnw
  generalize P.take 100 = P1 at *
  generalize O.take 100 = O1 at *
  generalize Q.take 60 = B1 at *
  generalize keyOf K sh = KK at *
  obtain ⟨LL, hLL⟩ : ∃ LL, LL = letC K sh N A1 n1 c1 A2 n2 c2 := ⟨_, rfl⟩
  rw [← hLL] at kk kp kb hln hll ⊢
  obtain ⟨nk, hnk⟩ : ∃ nk, nk = 4 * fours sh := ⟨_, rfl⟩
  rw [← hnk] at hnw
  simp only [← hnk] at kk
  obtain ⟨L, hLk⟩ : ∃ L, L = keyL (fours sh) KK := ⟨_, rfl⟩
  rw [← hLk] at hnw
  obtain ⟨R, hR⟩ : ∃ R, R = fours sh + 7 := ⟨_, rfl⟩
  rw [← hR] at hnw
  clear hkl hLL hnk hLk hR
  obtain ⟨np, hnp⟩ : ∃ np, np = P1.length := ⟨_, rfl⟩
  obtain ⟨nq, hnq⟩ : ∃ nq, nq = O1.length := ⟨_, rfl⟩
  obtain ⟨nb, hnb⟩ : ∃ nb, nb = B1.length := ⟨_, rfl⟩
  obtain ⟨nO, hnO⟩ : ∃ nO, nO = O.length := ⟨_, rfl⟩
  rw [← hnp] at hpl
  rw [← hnq] at hol ms hole
  rw [← hnb] at hbl
  rw [← hnO] at ms hole hoc ⊢
  obtain ⟨na, hna⟩ : ∃ na, na = np + 16 := ⟨_, rfl⟩
  obtain ⟨nz, hnz⟩ : ∃ nz, nz = nq + 16 := ⟨_, rfl⟩
  have ks1 := fun (W : World) (gx gk gr cp cb : Nat) (Ap Ab : Option Addr) (h : BoxAt W gx gk gr R L) (ip : In W W.heap.size Ap cp P1) (ib : In W W.heap.size Ab cb B1) => seal_e gx gk gr R np nb cp cb Ap Ab L N P1 B1 W h hN ip ib hnp.symm hnb.symm (by omega) (by omega)
  have ks2 := fun (W : World) (gx gk gr cp cb : Nat) (Ap Ab : Option Addr) (h : BoxAt W gx gk gr R L) (ip : In W W.heap.size Ap cp O1) (ib : In W W.heap.size Ab cb B1) => seal_e gx gk gr R nq nb cp cb Ap Ab L N O1 B1 W h hN ip ib hnq.symm hnb.symm (by omega) (by omega)
  have ks3 := fun (W : World) (gx gk gr cp : Nat) (Ap : Option Addr) (h : BoxAt W gx gk gr R L) (ip : In W W.heap.size Ap cp P1) => seal_e gx gk gr R np 0 cp 0 Ap none L N P1 [] W h hN ip (in_nil W 0 (by decide) none) hnp.symm rfl (by omega) (by omega)
  rw [← hna] at ks1 ks3
  rw [← hnz] at ks2
  have xa : boxE L R N P1 B1 = maskE L R N P1 ++ tagE L R N (maskE L R N P1) B1 := rfl
  have xb : boxE L R N O1 B1 = maskE L R N O1 ++ tagE L R N (maskE L R N O1) B1 := rfl
  have xc : boxE L R N P1 [] = maskE L R N P1 ++ tagE L R N (maskE L R N P1) [] := rfl
  have la := boxE_length L R N P1 B1
  have lb := boxE_length L R N O1 B1
  have lc := boxE_length L R N P1 []
  rw [← hnp, ← hna] at la lc
  rw [← hnq, ← hnz] at lb
  have lm := maskE_length L R N P1
  have ln := maskE_length L R N O1
  have gm : ∀ k, k < np → k < nq → (maskE L R N P1).getD k 0 ^^^ (maskE L R N O1).getD k 0 = P1.getD k 0 ^^^ O1.getD k 0 := fun k h1 h2 => by
    rw [maskE_get L R N P1 k (by omega), maskE_get L R N O1 k (by omega)]
    generalize padAt L R N k = z
    generalize P1.getD k 0 = x
    generalize O1.getD k 0 = y
    rw [← UInt8.toBitVec_inj]
    simp only [UInt8.toBitVec_xor]
    apply BitVec.eq_of_getLsbD_eq
    intro i _
    simp only [BitVec.getLsbD_xor]
    cases x.toBitVec.getLsbD i <;> cases y.toBitVec.getLsbD i <;> cases z.toBitVec.getLsbD i <;> rfl
  generalize tagE L R N (maskE L R N P1) B1 = T1 at *
  generalize tagE L R N (maskE L R N O1) B1 = T2 at *
  generalize tagE L R N (maskE L R N P1) [] = T3 at *
  generalize boxE L R N P1 B1 = XA at *
  generalize boxE L R N O1 B1 = XB at *
  generalize boxE L R N P1 [] = XC at *
  generalize maskE L R N P1 = MP at *
  generalize maskE L R N O1 = MO at *
  have HKK := Lib.hid kk
  have HPL := Lib.hid kp
  have HBE := Lib.hid kb
  have HNW := Lib.hid hnw
  have KS1 := Lib.hid ks1
  have KS2 := Lib.hid ks2
  have KS3 := Lib.hid ks3
  have HLN := Lib.hid hln
  have HLL := Lib.hid hll
  have LN := Lib.hid hN
  have LP := Lib.hid hnp
  have LO := Lib.hid hnq
  have HNB := Lib.hid hnb.symm
  have HNA := Lib.hid hna
  have HNZ := Lib.hid hnz
  have XXA := Lib.hid xa
  have XXB := Lib.hid xb
  have XXC := Lib.hid xc
  have LA := Lib.hid la
  have LBB := Lib.hid lb
  have LC := Lib.hid lc
  have LM := Lib.hid lm
  have LNN := Lib.hid ln
  have GM := Lib.hid gm
  have HMS := Lib.hid (And.intro ms (And.intro hole hoc))
  have HIO := Lib.hid ioT
  clear kk kp kb hnw ks1 ks2 ks3 hln hll hN hnp hnq hnb hna hnz xa xb xc la lb lc lm ln gm hK hP hQ iO hnO ms hole hoc ioT
  go_enter Try.func6, Try.ntmps6
  have hL := Blk.new_of w 41 LL.toArray LL rfl
  have hbw : Below w.heap.size w (w.alloc (.cells LL.toArray 41)) := (Below.refl _ _).alloc (Nat.le_refl _) _
  go_wp2_with (first
    | ((with_reducible refine (?_ : wpList _ _ _ (Oper.mk (some 14) _ _ _ _ _ :: _) _ _)); go_loud (refine wpList_load_blk rfl 41 (.tmp 2) rfl (w.heap.size) rfl 41 _ _ hL Try.underlying41 rfl (infoLet.trans (by rw [HLL.out])) ?_))
    | (go_at_call 15; go_loud (refine (HKK.out _).mono ?_); rintro e w2 ⟨Ak, nk', ck, rfl, hnk, hBk, hb2⟩; subst hnk; replace hL := hL.below hb2 hL.lt; replace hbw := hbw.trans (hb2.mono hbw.size); have hIk := hBk.toIn (Nat.le_refl _); clear hb2 hBk)
    | (go_at_call 14; go_loud (refine (HNW.out _ _ _ hIk).mono ?_); rintro e w3 ⟨gx, gk, gr, rfl, _, hX, hb3⟩; replace hL := hL.below hb3 hL.lt; replace hbw := hbw.trans (hb3.mono hbw.size); clear hb3 hIk)
    | (go_at_call 9; go_loud (refine (boxes_e _).mono ?_); rintro e w4 ⟨rfl, hb4⟩; replace hL := hL.below hb4 hL.lt; replace hbw := hbw.trans (hb4.mono hbw.size); replace hX := hX.below hb4; clear hb4))
  obtain ⟨ms, hole, hoc⟩ := HMS.out
  have hq0 : (0 : Int) ≤ (nq : Int) := by omega
  have hq1 : (nq : Int) ≤ (nO : Int) := by omega
  have hq2 : (nq : Int) ≤ (c3 : Int) := by omega
  apply wp_region_once (D := [[], [0], [], [], [], [4], [4, 5], [3, 4, 5, 6], [0, 1, 2, 3, 4, 5, 6, 7], [0, 1, 2, 3, 4, 5, 6, 7, 8], [0, 1, 2, 3, 4, 5, 6, 7, 8, 9]]) (J := [[], [0], [], [], [], [4], [5], [3, 6], [2, 7], [1], [8]]) (Je := [9, 10]) (Rs := [Is _, fun v V => ∃ (A' : Option Addr) (c' : Nat), v = .slice A' np c' ∧ In V V.heap.size A' c' P1, fun v V => ∃ g : Nat, v = .slice (some ⟨g, 0, none⟩) 0 0, Is _, Is _, Is _, Is _, Is _, fun v V => ∃ (A' : Option Addr) (c' : Nat), v = .slice A' nq c' ∧ In V V.heap.size A' c' O1, fun v V => ∃ (A' : Option Addr) (c' : Nat), v = .slice A' np c' ∧ In V V.heap.size A' c' P1, fun v V => ∃ (A' : Option Addr) (c' : Nat), v = .slice A' nq c' ∧ In V V.heap.size A' c' O1])
  · kernel_rfl
  · kernel_rfl
  · kernel_rfl
  · kernel_rfl
  · kernel_rfl
  · kernel_rfl
  · intro u
    simp only [List.map_cons, List.map_nil, fillU, List.setIfInBounds_toArray, List.set_cons_zero, List.set_cons_succ, Nat.zero_add, Nat.reduceAdd]
    exact rfl
  · skip
    refine ⟨fun u W hb hd K hK => ?_, ?_⟩
    · clear hd
      rw [if_pos (by rfl)]
      refine wp_load_mid 41 (.tmp 2) rfl (w.heap.size) 0 rfl (LL) _ (rangeAt_blk (hL.below hb hL.lt)) Try.underlying41 rfl (infoLet.trans (by rw [HLL.out])) ?_
      exact hK _ _ _ rfl (Below.refl _ _) IsOut
    refine ⟨fun u W hb hd K hK => ?_, ?_⟩
    · simp only [Facts, nthR, Is, and_true] at hd
      simp only [hd] at hK ⊢
      clear hd
      go_simp
      refine (HPL.out W (in_up iP (hbw.trans (hb.mono hbw.size)))).mono ?_
      rintro e wy ⟨A', n', c', rfl, hn', hB', hby⟩
      have hn2 : n' = np := by rw [← hn']; exact LP.out.symm
      subst hn2
      exact hK _ _ _ rfl hby ⟨A', c', rfl, hB'.toIn (Nat.le_refl _)⟩
    refine ⟨fun u W hb hd K hK => ?_, ?_⟩
    · clear hd
      go_simp
      apply hK
      · simp only [Act.put, List.setIfInBounds_toArray, List.set_cons_zero, List.set_cons_succ]
        exact rfl
      · exact (Below.refl _ _).alloc (Nat.le_refl _) _
      · exact ⟨_, rfl⟩
    refine ⟨fun u W hb hd K hK => ?_, ?_⟩
    · clear hd
      go_simp
      apply hK
      · simp only [Act.put, List.setIfInBounds_toArray, List.set_cons_zero, List.set_cons_succ]
        exact rfl
      · exact Below.refl _ _
      · exact IsOut
    refine ⟨fun u W hb hd K hK => ?_, ?_⟩
    · clear hd
      go_simp
      apply hK
      · simp only [Act.put, List.setIfInBounds_toArray, List.set_cons_zero, List.set_cons_succ]
        exact rfl
      · exact Below.refl _ _
      · exact IsOut
    refine ⟨fun u W hb hd K hK => ?_, ?_⟩
    · simp only [Facts, nthR, Is, and_true] at hd
      simp only [hd] at hK ⊢
      clear hd
      go_simp
      apply hK
      · simp only [Act.put, List.setIfInBounds_toArray, List.set_cons_zero, List.set_cons_succ]
        exact rfl
      · exact Below.refl _ _
      · exact IsOut
    refine ⟨fun u W hb hd K hK => ?_, ?_⟩
    · simp only [Facts, nthR, Is, and_true] at hd
      simp only [hd] at hK ⊢
      clear hd
      go_simp
      apply hK
      · simp only [Act.put, List.setIfInBounds_toArray, List.set_cons_zero, List.set_cons_succ]
        exact rfl
      · exact Below.refl _ _
      · exact IsOut
    refine ⟨fun u W hb hd K hK => ?_, ?_⟩
    · simp only [Facts, nthR, Is, and_true] at hd
      simp only [hd] at hK ⊢
      clear hd
      go_simp
      apply hK
      · simp only [Act.put, List.setIfInBounds_toArray, List.set_cons_zero, List.set_cons_succ]
        exact rfl
      · exact Below.refl _ _
      · exact IsOut
    refine ⟨fun u W hb hd K hK => ?_, ?_⟩
    · simp only [Facts, nthR, Is, and_true] at hd
      obtain ⟨⟨g2, h2⟩, h7⟩ := hd
      simp only [h2, h7] at hK ⊢
      clear h2 h7
      rw [if_pos (by rfl)]
      refine wp_append_empty (.tmp 27) (.tmp 32) rfl g2 nq O1 _ rfl rfl (src_at ((in_up HIO.out (hbw.trans (hb.mono hbw.size))).src (Nat.le_refl _)) LO.out.symm) LO.out.symm (by omega) ?_
      intro A' c' w' hi hbl
      exact hK _ _ _ rfl hbl ⟨A', c', rfl, hi⟩
    refine ⟨fun u W hb hd K hK => ?_, ?_⟩
    · simp only [Facts, nthR, and_true] at hd
      obtain ⟨A', c', h1, hi'⟩ := hd
      simp only [h1] at hK ⊢
      clear h1
      go_simp
      apply hK
      · simp only [Act.put, List.setIfInBounds_toArray, List.set_cons_zero, List.set_cons_succ]
        exact rfl
      · exact Below.refl _ _
      · exact ⟨A', c', rfl, hi'⟩
    refine ⟨fun u W hb hd K hK => ?_, ?_⟩
    · simp only [Facts, nthR, and_true] at hd
      obtain ⟨A', c', h1, hi'⟩ := hd
      simp only [h1] at hK ⊢
      clear h1
      go_simp
      apply hK
      · simp only [Act.put, List.setIfInBounds_toArray, List.set_cons_zero, List.set_cons_succ]
        exact rfl
      · exact Below.refl _ _
      · exact ⟨A', c', rfl, hi'⟩
    exact trivial
  · exact (.is (.cons (fun v V V' ⟨A', c', h1, h2⟩ hb => ⟨A', c', h1, in_up h2 hb⟩) (.cons (fun v V V' h _ => h) (.is (.is (.is (.is (.is (.cons (fun v V V' ⟨A', c', h1, h2⟩ hb => ⟨A', c', h1, in_up h2 hb⟩) (.cons (fun v V V' ⟨A', c', h1, h2⟩ hb => ⟨A', c', h1, in_up h2 hb⟩) (.cons (fun v V V' ⟨A', c', h1, h2⟩ hb => ⟨A', c', h1, in_up h2 hb⟩) .nil)))))))))))
  · intro u W hb hd
    simp only [Facts, nthR, and_true] at hd
    obtain ⟨⟨Ap, cp, h9, iP1⟩, ⟨Aq, cq, h10, iO1⟩⟩ := hd
    simp only [h9, h10]
    clear h9 h10 ms hole hoc hq1 hq2
    replace hL := hL.below hb hL.lt
    replace hX := hX.below hb
    replace hbw := hbw.trans (hb.mono hbw.size)
    clear hb
    go_wp2
    apply wp_region_once (D := [[], [], [1], [], [], [4], [0, 1, 2, 3, 4, 5], [], [], [8], [], [], [0, 1, 2, 3, 4, 5, 6, 11], [0, 1, 2, 3, 4, 5, 6, 7, 8, 9, 10, 11, 12], [], [], [15], [], [0, 1, 2, 3, 4, 5, 6, 7, 8, 9, 10, 11, 12, 13, 14, 15, 16, 17], [0, 1, 2, 3, 4, 5, 6, 7, 8, 9, 10, 11, 12, 13, 14, 15, 16, 17, 18], [0, 1, 2, 3, 4, 5, 6, 7, 8, 9, 10, 11, 12, 13, 14, 15, 16, 17, 18, 19], [0, 1, 2, 3, 4, 5, 6, 7, 8, 9, 10, 11, 12, 13, 14, 15, 16, 17, 18, 19, 20]]) (J := [[], [], [1], [], [], [4], [0, 2, 3, 5], [], [], [8], [], [], [11], [7, 9, 10, 12], [], [], [15], [], [14, 16, 17], [6], [13], [18]]) (Je := [19, 20, 21]) (Rs := [Is _, Is _, Is _, Is _, Is _, fun v V => ∃ (A' : Option Addr) (c' : Nat), v = .slice A' nb c' ∧ In V V.heap.size A' c' B1, fun v V => ∃ (A' : Option Addr) (c' : Nat), v = .slice A' na c' ∧ In V V.heap.size A' c' XA, Is _, Is _, Is _, Is _, Is _, fun v V => ∃ (A' : Option Addr) (c' : Nat), v = .slice A' nb c' ∧ In V V.heap.size A' c' B1, fun v V => ∃ (A' : Option Addr) (c' : Nat), v = .slice A' nz c' ∧ In V V.heap.size A' c' XB, Is _, Is _, Is _, Is _, fun v V => ∃ (A' : Option Addr) (c' : Nat), v = .slice A' na c' ∧ In V V.heap.size A' c' XC, fun v V => ∃ (A' : Option Addr) (c' : Nat), v = .slice A' na c' ∧ In V V.heap.size A' c' XA, fun v V => ∃ (A' : Option Addr) (c' : Nat), v = .slice A' nz c' ∧ In V V.heap.size A' c' XB, fun v V => ∃ (A' : Option Addr) (c' : Nat), v = .slice A' na c' ∧ In V V.heap.size A' c' XC])
    · kernel_rfl
    · kernel_rfl
    · kernel_rfl
    · kernel_rfl
    · kernel_rfl
    · kernel_rfl
    · intro u
      simp only [List.map_cons, List.map_nil, fillU, List.setIfInBounds_toArray, List.set_cons_zero, List.set_cons_succ, Nat.zero_add, Nat.reduceAdd]
      exact rfl
    · skip
      refine ⟨fun u V hb hd K hK => ?_, ?_⟩
      · clear hd
        go_simp
        apply hK
        · simp only [Act.put, List.setIfInBounds_toArray, List.set_cons_zero, List.set_cons_succ]
          exact rfl
        · exact Below.refl _ _
        · exact IsOut
      refine ⟨fun u V hb hd K hK => ?_, ?_⟩
      · clear hd
        go_simp
        apply hK
        · simp only [Act.put, List.setIfInBounds_toArray, List.set_cons_zero, List.set_cons_succ]
          exact rfl
        · exact Below.refl _ _
        · exact IsOut
      refine ⟨fun u V hb hd K hK => ?_, ?_⟩
      · simp only [Facts, nthR, Is, and_true] at hd
        simp only [hd] at hK ⊢
        clear hd
        rw [if_pos (by rfl)]
        refine wp_load_mid 39 (.tmp 35) rfl (w.heap.size) (33) rfl (N.map B8) _ ((fun j v hv => ((hL.below hb hL.lt).cell (33 + j)).trans (HLN.out j v hv))) Try.underlying39 rfl (info12.trans (by rw [List.length_map, LN.out])) ?_
        exact hK _ _ _ rfl (Below.refl _ _) IsOut
      refine ⟨fun u V hb hd K hK => ?_, ?_⟩
      · clear hd
        go_simp
        apply hK
        · simp only [Act.put, List.setIfInBounds_toArray, List.set_cons_zero, List.set_cons_succ]
          exact rfl
        · exact Below.refl _ _
        · exact IsOut
      refine ⟨fun u V hb hd K hK => ?_, ?_⟩
      · clear hd
        rw [if_pos (by rfl)]
        refine wp_load_mid 41 (.tmp 2) rfl (w.heap.size) 0 rfl (LL) _ (rangeAt_blk (hL.below hb hL.lt)) Try.underlying41 rfl (infoLet.trans (by rw [HLL.out])) ?_
        exact hK _ _ _ rfl (Below.refl _ _) IsOut
      refine ⟨fun u V hb hd K hK => ?_, ?_⟩
      · simp only [Facts, nthR, Is, and_true] at hd
        simp only [hd] at hK ⊢
        clear hd
        go_simp
        refine (HBE.out V (in_up iQ (hbw.trans (hb.mono hbw.size)))).mono ?_
        rintro e wy ⟨A', n', c', rfl, hn', hB', hby⟩
        have hn2 : n' = nb := by rw [← hn']; exact HNB.out
        subst hn2
        exact hK _ _ _ rfl hby ⟨A', c', rfl, hB'.toIn (Nat.le_refl _)⟩
      refine ⟨fun u V hb hd K hK => ?_, ?_⟩
      · simp only [Facts, nthR, Is, and_true] at hd
        obtain ⟨h0, h2, h3, ⟨Ab, cb, h5, iB⟩⟩ := hd
        simp only [h0, h2, h3, h5] at hK ⊢
        clear h0 h2 h3 h5
        go_simp
        refine (KS1.out V gx gk gr cp cb Ap Ab (hX.below hb) (in_up iP1 hb) iB).mono ?_
        rintro e wy ⟨A', n', c', rfl, hn', hB', hby⟩
        subst hn'
        exact hK _ _ _ rfl hby ⟨A', c', rfl, hB'.toIn (Nat.le_refl _)⟩
      refine ⟨fun u V hb hd K hK => ?_, ?_⟩
      · clear hd
        go_simp
        apply hK
        · simp only [Act.put, List.setIfInBounds_toArray, List.set_cons_zero, List.set_cons_succ]
          exact rfl
        · exact Below.refl _ _
        · exact IsOut
      refine ⟨fun u V hb hd K hK => ?_, ?_⟩
      · clear hd
        go_simp
        apply hK
        · simp only [Act.put, List.setIfInBounds_toArray, List.set_cons_zero, List.set_cons_succ]
          exact rfl
        · exact Below.refl _ _
        · exact IsOut
      refine ⟨fun u V hb hd K hK => ?_, ?_⟩
      · simp only [Facts, nthR, Is, and_true] at hd
        simp only [hd] at hK ⊢
        clear hd
        rw [if_pos (by rfl)]
        refine wp_load_mid 39 (.tmp 42) rfl (w.heap.size) (33) rfl (N.map B8) _ ((fun j v hv => ((hL.below hb hL.lt).cell (33 + j)).trans (HLN.out j v hv))) Try.underlying39 rfl (info12.trans (by rw [List.length_map, LN.out])) ?_
        exact hK _ _ _ rfl (Below.refl _ _) IsOut
      refine ⟨fun u V hb hd K hK => ?_, ?_⟩
      · clear hd
        go_simp
        apply hK
        · simp only [Act.put, List.setIfInBounds_toArray, List.set_cons_zero, List.set_cons_succ]
          exact rfl
        · exact Below.refl _ _
        · exact IsOut
      refine ⟨fun u V hb hd K hK => ?_, ?_⟩
      · clear hd
        rw [if_pos (by rfl)]
        refine wp_load_mid 41 (.tmp 2) rfl (w.heap.size) 0 rfl (LL) _ (rangeAt_blk (hL.below hb hL.lt)) Try.underlying41 rfl (infoLet.trans (by rw [HLL.out])) ?_
        exact hK _ _ _ rfl (Below.refl _ _) IsOut
      refine ⟨fun u V hb hd K hK => ?_, ?_⟩
      · simp only [Facts, nthR, Is, and_true] at hd
        simp only [hd] at hK ⊢
        clear hd
        go_simp
        refine (HBE.out V (in_up iQ (hbw.trans (hb.mono hbw.size)))).mono ?_
        rintro e wy ⟨A', n', c', rfl, hn', hB', hby⟩
        have hn2 : n' = nb := by rw [← hn']; exact HNB.out
        subst hn2
        exact hK _ _ _ rfl hby ⟨A', c', rfl, hB'.toIn (Nat.le_refl _)⟩
      refine ⟨fun u V hb hd K hK => ?_, ?_⟩
      · simp only [Facts, nthR, Is, and_true] at hd
        obtain ⟨h0, h2, h3, ⟨Ab, cb, h5, iB⟩⟩ := hd
        simp only [h0, h2, h3, h5] at hK ⊢
        clear h0 h2 h3 h5
        go_simp
        refine (KS2.out V gx gk gr cq cb Aq Ab (hX.below hb) (in_up iO1 hb) iB).mono ?_
        rintro e wy ⟨A', n', c', rfl, hn', hB', hby⟩
        subst hn'
        exact hK _ _ _ rfl hby ⟨A', c', rfl, hB'.toIn (Nat.le_refl _)⟩
      refine ⟨fun u V hb hd K hK => ?_, ?_⟩
      · clear hd
        go_simp
        apply hK
        · simp only [Act.put, List.setIfInBounds_toArray, List.set_cons_zero, List.set_cons_succ]
          exact rfl
        · exact Below.refl _ _
        · exact IsOut
      refine ⟨fun u V hb hd K hK => ?_, ?_⟩
      · clear hd
        go_simp
        apply hK
        · simp only [Act.put, List.setIfInBounds_toArray, List.set_cons_zero, List.set_cons_succ]
          exact rfl
        · exact Below.refl _ _
        · exact IsOut
      refine ⟨fun u V hb hd K hK => ?_, ?_⟩
      · simp only [Facts, nthR, Is, and_true] at hd
        simp only [hd] at hK ⊢
        clear hd
        rw [if_pos (by rfl)]
        refine wp_load_mid 39 (.tmp 49) rfl (w.heap.size) (33) rfl (N.map B8) _ ((fun j v hv => ((hL.below hb hL.lt).cell (33 + j)).trans (HLN.out j v hv))) Try.underlying39 rfl (info12.trans (by rw [List.length_map, LN.out])) ?_
        exact hK _ _ _ rfl (Below.refl _ _) IsOut
      refine ⟨fun u V hb hd K hK => ?_, ?_⟩
      · clear hd
        go_simp
        apply hK
        · simp only [Act.put, List.setIfInBounds_toArray, List.set_cons_zero, List.set_cons_succ]
          exact rfl
        · exact Below.refl _ _
        · exact IsOut
      refine ⟨fun u V hb hd K hK => ?_, ?_⟩
      · simp only [Facts, nthR, Is, and_true] at hd
        obtain ⟨h0, h2, h3⟩ := hd
        simp only [h0, h2, h3] at hK ⊢
        clear h0 h2 h3
        go_simp
        refine (KS3.out V gx gk gr cp Ap (hX.below hb) (in_up iP1 hb)).mono ?_
        rintro e wy ⟨A', n', c', rfl, hn', hB', hby⟩
        subst hn'
        exact hK _ _ _ rfl hby ⟨A', c', rfl, hB'.toIn (Nat.le_refl _)⟩
      refine ⟨fun u V hb hd K hK => ?_, ?_⟩
      · simp only [Facts, nthR, and_true] at hd
        obtain ⟨A', c', h1, hi'⟩ := hd
        simp only [h1] at hK ⊢
        clear h1
        go_simp
        apply hK
        · simp only [Act.put, List.setIfInBounds_toArray, List.set_cons_zero, List.set_cons_succ]
          exact rfl
        · exact Below.refl _ _
        · exact ⟨A', c', rfl, hi'⟩
      refine ⟨fun u V hb hd K hK => ?_, ?_⟩
      · simp only [Facts, nthR, and_true] at hd
        obtain ⟨A', c', h1, hi'⟩ := hd
        simp only [h1] at hK ⊢
        clear h1
        go_simp
        apply hK
        · simp only [Act.put, List.setIfInBounds_toArray, List.set_cons_zero, List.set_cons_succ]
          exact rfl
        · exact Below.refl _ _
        · exact ⟨A', c', rfl, hi'⟩
      refine ⟨fun u V hb hd K hK => ?_, ?_⟩
      · simp only [Facts, nthR, and_true] at hd
        obtain ⟨A', c', h1, hi'⟩ := hd
        simp only [h1] at hK ⊢
        clear h1
        go_simp
        apply hK
        · simp only [Act.put, List.setIfInBounds_toArray, List.set_cons_zero, List.set_cons_succ]
          exact rfl
        · exact Below.refl _ _
        · exact ⟨A', c', rfl, hi'⟩
      exact trivial
    · exact (.is (.is (.is (.is (.is (.cons (fun v V V' ⟨A', c', h1, h2⟩ hb => ⟨A', c', h1, in_up h2 hb⟩) (.cons (fun v V V' ⟨A', c', h1, h2⟩ hb => ⟨A', c', h1, in_up h2 hb⟩) (.is (.is (.is (.is (.is (.cons (fun v V V' ⟨A', c', h1, h2⟩ hb => ⟨A', c', h1, in_up h2 hb⟩) (.cons (fun v V V' ⟨A', c', h1, h2⟩ hb => ⟨A', c', h1, in_up h2 hb⟩) (.is (.is (.is (.is (.cons (fun v V V' ⟨A', c', h1, h2⟩ hb => ⟨A', c', h1, in_up h2 hb⟩) (.cons (fun v V V' ⟨A', c', h1, h2⟩ hb => ⟨A', c', h1, in_up h2 hb⟩) (.cons (fun v V V' ⟨A', c', h1, h2⟩ hb => ⟨A', c', h1, in_up h2 hb⟩) (.cons (fun v V V' ⟨A', c', h1, h2⟩ hb => ⟨A', c', h1, in_up h2 hb⟩) .nil))))))))))))))))))))))
    · intro u V hb hd
      simp only [Facts, nthR, and_true] at hd
      obtain ⟨⟨Aa, ca, h19, iA⟩, ⟨Az, cz, h20, iZ⟩, ⟨Ac, cc, h21, iC⟩⟩ := hd
      simp only [h19, h20, h21]
      clear h19 h20 h21 hL hX
      replace iP1 := in_up iP1 hb
      replace iO1 := in_up iO1 hb
      replace hbw := hbw.trans (hb.mono hbw.size)
      clear hb
      go_wp2
      have hnp3 : MP.length = np := by rw [LM.out]; exact LP.out.symm
      have hno3 : MO.length = nq := by rw [LNN.out]; exact LO.out.symm
      have hca : na ≤ ca := by have := iA.1; rw [LA.out] at this; exact this
      have hcz : nz ≤ cz := by have := iZ.1; rw [LBB.out] at this; exact this
      have hcc : na ≤ cc := by have := iC.1; rw [LC.out] at this; exact this
      have jA : In V V.heap.size Aa ca MP := in_take (n := np) (ys := T1) (by rw [← XXA.out]; exact iA) hnp3
      have jC : In V V.heap.size Ac cc MP := in_take (n := np) (ys := T3) (by rw [← XXC.out]; exact iC) hnp3
      have jZ : In V V.heap.size Az cz MO := in_take (n := nq) (ys := T2) (by rw [← XXB.out]; exact iZ) hno3
      have hcvA := fun (W : World) (h : Below V.heap.size V W) => conv_in hnp3 (jA.up h)
      have hcvC := fun (W : World) (h : Below V.heap.size V W) => conv_in hnp3 (jC.up h)
      have HNP := Lib.hid hnp3
      have HNO := Lib.hid hno3
      clear hnp3 hno3 iA iZ iC
      have hw1 := ix_w16 np na HNA.out (by omega)
      have hw2 := ix_w16 nq nz HNZ.out (by omega)
      have hw3 := ix_wn na (by have := HNA.out; omega)
      have hw4 := ix_wn nz (by have := HNZ.out; omega)
      have hp1 : (np : Int) ≤ (ca : Int) := by omega
      have hp2 : (np : Int) ≤ (cc : Int) := by omega
      have hp0 : (0 : Int) ≤ (np : Int) := by omega
      have HC := Lib.hid (And.intro hca (And.intro hcz hcc))
      have HJ := Lib.hid (And.intro jA jZ)
      have HPO := Lib.hid (And.intro iP1 iO1)
      have HB := Lib.hid hbw
      clear hca hcz hcc jA jC jZ iP1 iO1 hbw
      apply wp_region_once (D := [[], [0], [], [2], [2, 3], [0, 1, 2, 3, 4], [0, 1, 2, 3, 4, 5], [0, 1, 2, 3, 4, 5, 6], [0, 1, 2, 3, 4, 5, 6, 7], [0, 1, 2, 3, 4, 5, 6], [0, 1, 2, 3, 4, 5, 6, 9], [0, 1, 2, 3, 4, 5, 6, 9, 10], [0, 1, 2, 3, 4, 5, 6, 7, 8, 9, 10, 11], [0, 1, 2, 3, 4, 5, 6, 7, 8, 9, 10, 11, 12], [0, 1, 2, 3, 4, 5, 6, 7, 8, 9, 10, 11, 12, 13], [0, 1, 2, 3, 4, 5, 6, 7, 8, 9, 10, 11, 12, 13, 14], [0, 1, 2, 3, 4, 5, 6, 7, 8, 9, 10, 11, 12, 13, 14], [0, 1, 2, 3, 4, 5, 6, 7, 8, 9, 10, 11, 12, 13, 14, 16], [0, 1, 2, 3, 4, 5, 6, 7, 8, 9, 10, 11, 12, 13, 14, 15, 16, 17], [0, 1, 2, 3, 4, 5, 6, 7, 8, 9, 10, 11, 12, 13, 14, 15, 16, 17, 18], [0, 1, 2, 3, 4, 5, 6, 7, 8, 9, 10, 11, 12, 13, 14], [0, 1, 2, 3, 4, 5, 6, 7, 8, 9, 10, 11, 12, 13, 14], [0, 1, 2, 3, 4, 5, 6, 7, 8, 9, 10, 11, 12, 13, 14, 21], [0, 1, 2, 3, 4, 5, 6, 7, 8, 9, 10, 11, 12, 13, 14, 20, 21, 22], [0, 1, 2, 3, 4, 5, 6, 7, 8, 9, 10, 11, 12, 13, 14, 20, 21, 22, 23], [0, 1, 2, 3, 4, 5, 6, 7, 8, 9, 10, 11, 12, 13, 14, 15, 16, 17, 18, 19, 20, 21, 22, 23, 24], [0, 1, 2, 3, 4, 5, 6, 7, 8, 9, 10, 11, 12, 13, 14, 15, 16, 17, 18, 19, 20, 21, 22, 23, 24, 25]]) (J := [[], [0], [], [2], [3], [1, 4], [5], [6], [6, 7], [6], [6, 9], [6, 10], [6, 8, 11], [6, 12], [13], [14], [14], [14, 16], [14, 15, 17], [14, 18], [14], [14], [14, 21], [14, 20, 22], [14, 23], [14, 19, 24], [14, 25]]) (Je := [26]) (Rs := [Is _, Is _, Is _, Is _, Is _, Is _, Is _, Is _, Is _, Is _, Is _, Is _, Is _, Is _, Is _, Is _, Is _, Is _, Is _, Is _, Is _, Is _, Is _, Is _, Is _, Is _, Is _])
      · kernel_rfl
      · kernel_rfl
      · kernel_rfl
      · kernel_rfl
      · kernel_rfl
      · kernel_rfl
      · intro u
        simp only [List.map_cons, List.map_nil, fillU, List.setIfInBounds_toArray, List.set_cons_zero, List.set_cons_succ, Nat.zero_add, Nat.reduceAdd]
        exact rfl
      · skip
        refine ⟨fun u Y hb hd K hK => ?_, ?_⟩
        · clear hd
          go_simp
          apply hK
          · simp only [Act.put, List.setIfInBounds_toArray, List.set_cons_zero, List.set_cons_succ]
            exact rfl
          · exact Below.refl _ _
          · exact IsOut
        refine ⟨fun u Y hb hd K hK => ?_, ?_⟩
        · simp only [Facts, nthR, Is, and_true] at hd
          simp only [hd] at hK ⊢
          clear hd
          go_simp
          apply hK
          · simp only [Act.put, List.setIfInBounds_toArray, List.set_cons_zero, List.set_cons_succ]
            exact rfl
          · exact Below.refl _ _
          · exact IsOut
        refine ⟨fun u Y hb hd K hK => ?_, ?_⟩
        · clear hd
          go_simp
          apply hK
          · simp only [Act.put, List.setIfInBounds_toArray, List.set_cons_zero, List.set_cons_succ]
            exact rfl
          · exact Below.refl _ _
          · exact IsOut
        refine ⟨fun u Y hb hd K hK => ?_, ?_⟩
        · simp only [Facts, nthR, Is, and_true] at hd
          simp only [hd] at hK ⊢
          clear hd
          go_simp
          apply hK
          · simp only [Act.put, List.setIfInBounds_toArray, List.set_cons_zero, List.set_cons_succ]
            exact rfl
          · exact Below.refl _ _
          · exact IsOut
        refine ⟨fun u Y hb hd K hK => ?_, ?_⟩
        · simp only [Facts, nthR, Is, and_true] at hd
          simp only [hd] at hK ⊢
          clear hd
          go_simp
          apply hK
          · simp only [Act.put, List.setIfInBounds_toArray, List.set_cons_zero, List.set_cons_succ]
            exact rfl
          · exact Below.refl _ _
          · exact IsOut
        refine ⟨fun u Y hb hd K hK => ?_, ?_⟩
        · simp only [Facts, nthR, Is, and_true] at hd
          simp only [hd] at hK ⊢
          clear hd
          go_simp
          apply hK
          · simp only [Act.put, List.setIfInBounds_toArray, List.set_cons_zero, List.set_cons_succ]
            exact rfl
          · exact Below.refl _ _
          · exact IsOut
        refine ⟨fun u Y hb hd K hK => ?_, ?_⟩
        · simp only [Facts, nthR, Is, and_true] at hd
          simp only [hd] at hK ⊢
          clear hd
          go_simp
          apply hK
          · simp only [Act.put, List.setIfInBounds_toArray, List.set_cons_zero, List.set_cons_succ]
            exact rfl
          · exact Below.refl _ _
          · exact IsOut
        refine ⟨fun u Y hb hd K hK => ?_, ?_⟩
        · simp only [Facts, nthR, Is, and_true] at hd
          simp only [hd] at hK ⊢
          clear hd
          go_simp
          apply hK
          · simp only [Act.put, List.setIfInBounds_toArray, List.set_cons_zero, List.set_cons_succ]
            exact rfl
          · exact Below.refl _ _
          · exact IsOut
        refine ⟨fun u Y hb hd K hK => ?_, ?_⟩
        · simp only [Facts, nthR, Is, and_true] at hd
          simp only [hd] at hK ⊢
          clear hd
          go_simp
          apply hK
          · simp only [Act.put, List.setIfInBounds_toArray, List.set_cons_zero, List.set_cons_succ]
            exact rfl
          · exact Below.refl _ _
          · exact IsOut
        refine ⟨fun u Y hb hd K hK => ?_, ?_⟩
        · simp only [Facts, nthR, Is, and_true] at hd
          simp only [hd] at hK ⊢
          clear hd
          go_simp
          apply hK
          · simp only [Act.put, List.setIfInBounds_toArray, List.set_cons_zero, List.set_cons_succ]
            exact rfl
          · exact Below.refl _ _
          · exact IsOut
        refine ⟨fun u Y hb hd K hK => ?_, ?_⟩
        · simp only [Facts, nthR, Is, and_true] at hd
          simp only [hd] at hK ⊢
          clear hd
          go_simp
          apply hK
          · simp only [Act.put, List.setIfInBounds_toArray, List.set_cons_zero, List.set_cons_succ]
            exact rfl
          · exact Below.refl _ _
          · exact IsOut
        refine ⟨fun u Y hb hd K hK => ?_, ?_⟩
        · simp only [Facts, nthR, Is, and_true] at hd
          simp only [hd] at hK ⊢
          clear hd
          go_simp
          apply hK
          · simp only [Act.put, List.setIfInBounds_toArray, List.set_cons_zero, List.set_cons_succ]
            exact rfl
          · exact Below.refl _ _
          · exact IsOut
        refine ⟨fun u Y hb hd K hK => ?_, ?_⟩
        · simp only [Facts, nthR, Is, and_true] at hd
          simp only [hd] at hK ⊢
          clear hd
          go_simp
          apply hK
          · simp only [Act.put, List.setIfInBounds_toArray, List.set_cons_zero, List.set_cons_succ]
            exact rfl
          · exact Below.refl _ _
          · exact IsOut
        refine ⟨fun u Y hb hd K hK => ?_, ?_⟩
        · simp only [Facts, nthR, Is, and_true] at hd
          simp only [hd] at hK ⊢
          clear hd
          go_simp
          apply hK
          · simp only [Act.put, List.setIfInBounds_toArray, List.set_cons_zero, List.set_cons_succ]
            exact rfl
          · exact Below.refl _ _
          · exact IsOut
        refine ⟨fun u Y hb hd K hK => ?_, ?_⟩
        · simp only [Facts, nthR, Is, and_true] at hd
          simp only [hd] at hK ⊢
          clear hd
          go_simp
          apply hK
          · simp only [Act.put, List.setIfInBounds_toArray, List.set_cons_zero, List.set_cons_succ]
            exact rfl
          · exact Below.refl _ _
          · exact IsOut
        refine ⟨fun u Y hb hd K hK => ?_, ?_⟩
        · simp only [Facts, nthR, Is, and_true] at hd
          simp only [hd] at hK ⊢
          clear hd
          go_simp
          apply hK
          · simp only [Act.put, List.setIfInBounds_toArray, List.set_cons_zero, List.set_cons_succ]
            exact rfl
          · exact Below.refl _ _
          · exact IsOut
        refine ⟨fun u Y hb hd K hK => ?_, ?_⟩
        · simp only [Facts, nthR, Is, and_true] at hd
          simp only [hd] at hK ⊢
          clear hd
          go_simp
          apply hK
          · simp only [Act.put, List.setIfInBounds_toArray, List.set_cons_zero, List.set_cons_succ]
            exact rfl
          · exact Below.refl _ _
          · exact IsOut
        refine ⟨fun u Y hb hd K hK => ?_, ?_⟩
        · simp only [Facts, nthR, Is, and_true] at hd
          simp only [hd] at hK ⊢
          clear hd
          go_simp
          apply hK
          · simp only [Act.put, List.setIfInBounds_toArray, List.set_cons_zero, List.set_cons_succ]
            exact rfl
          · exact Below.refl _ _
          · exact IsOut
        refine ⟨fun u Y hb hd K hK => ?_, ?_⟩
        · simp only [Facts, nthR, Is, and_true] at hd
          simp only [hd] at hK ⊢
          clear hd
          go_simp
          apply hK
          · simp only [Act.put, List.setIfInBounds_toArray, List.set_cons_zero, List.set_cons_succ]
            exact rfl
          · exact Below.refl _ _
          · exact IsOut
        refine ⟨fun u Y hb hd K hK => ?_, ?_⟩
        · simp only [Facts, nthR, Is, and_true] at hd
          simp only [hd] at hK ⊢
          clear hd
          go_simp
          apply hK
          · simp only [Act.put, List.setIfInBounds_toArray, List.set_cons_zero, List.set_cons_succ]
            exact rfl
          · exact Below.refl _ _
          · exact IsOut
        refine ⟨fun u Y hb hd K hK => ?_, ?_⟩
        · simp only [Facts, nthR, Is, and_true] at hd
          simp only [hd] at hK ⊢
          clear hd
          go_simp
          apply hK
          · simp only [Act.put, List.setIfInBounds_toArray, List.set_cons_zero, List.set_cons_succ]
            exact rfl
          · exact Below.refl _ _
          · exact IsOut
        refine ⟨fun u Y hb hd K hK => ?_, ?_⟩
        · simp only [Facts, nthR, Is, and_true] at hd
          simp only [hd] at hK ⊢
          clear hd
          go_simp
          apply hK
          · simp only [Act.put, List.setIfInBounds_toArray, List.set_cons_zero, List.set_cons_succ]
            exact rfl
          · exact Below.refl _ _
          · exact IsOut
        refine ⟨fun u Y hb hd K hK => ?_, ?_⟩
        · simp only [Facts, nthR, Is, and_true] at hd
          simp only [hd] at hK ⊢
          clear hd
          go_simp
          apply hK
          · simp only [Act.put, List.setIfInBounds_toArray, List.set_cons_zero, List.set_cons_succ]
            exact rfl
          · exact Below.refl _ _
          · exact IsOut
        refine ⟨fun u Y hb hd K hK => ?_, ?_⟩
        · simp only [Facts, nthR, Is, and_true] at hd
          simp only [hd] at hK ⊢
          clear hd
          go_simp
          apply hK
          · simp only [Act.put, List.setIfInBounds_toArray, List.set_cons_zero, List.set_cons_succ]
            exact rfl
          · exact Below.refl _ _
          · exact IsOut
        refine ⟨fun u Y hb hd K hK => ?_, ?_⟩
        · simp only [Facts, nthR, Is, and_true] at hd
          simp only [hd] at hK ⊢
          clear hd
          go_simp
          apply hK
          · simp only [Act.put, List.setIfInBounds_toArray, List.set_cons_zero, List.set_cons_succ]
            exact rfl
          · exact Below.refl _ _
          · exact IsOut
        refine ⟨fun u Y hb hd K hK => ?_, ?_⟩
        · simp only [Facts, nthR, Is, and_true] at hd
          simp only [hd] at hK ⊢
          clear hd
          go_simp
          apply hK
          · simp only [Act.put, List.setIfInBounds_toArray, List.set_cons_zero, List.set_cons_succ]
            exact rfl
          · exact Below.refl _ _
          · exact IsOut
        refine ⟨fun u Y hb hd K hK => ?_, ?_⟩
        · simp only [Facts, nthR, Is, and_true] at hd
          simp only [hd] at hK ⊢
          clear hd
          go_simp
          apply hK
          · simp only [Act.put, List.setIfInBounds_toArray, List.set_cons_zero, List.set_cons_succ]
            exact rfl
          · exact Below.refl _ _
          · exact IsOut
        exact trivial
      · exact (.is (.is (.is (.is (.is (.is (.is (.is (.is (.is (.is (.is (.is (.is (.is (.is (.is (.is (.is (.is (.is (.is (.is (.is (.is (.is (.is .nil)))))))))))))))))))))))))))
      · intro u Y hb hd
        simp only [Facts, nthR, Is, and_true] at hd
        simp only [hd]
        go_wp2
        obtain ⟨jA, jZ⟩ := HJ.out
        obtain ⟨iP1, iO1⟩ := HPO.out
        have hcl := HC.out
        replace jA := in_up jA hb
        replace jZ := in_up jZ hb
        replace iP1 := in_up iP1 hb
        replace iO1 := in_up iO1 hb
        have HB2 := Lib.hid (HB.out.trans (hb.mono HB.out.size))
        have JA := Lib.hid jA
        have JZ := Lib.hid jZ
        have JP := Lib.hid iP1
        have JO := Lib.hid iO1
        have hnz16 : nq ≤ nz := by have := HNZ.out; omega
        have hna16 : np ≤ na := by have := HNA.out; omega
        clear jA jZ iP1 iO1 hb hw1 hw2 hw3 hw4 hcvA hcvC hp1 hp2
        go_loopw [12] (fun i wr => ∃ k : Nat, k ≤ np ∧ i = .int .i64 (k : Int) ∧ Below Y.heap.size Y wr) (fun i _ => np - (intOf i).toNat)
        case atStart => exact ⟨0, by omega, rfl, Below.refl _ _⟩
        case round =>
          obtain ⟨k, hk, rfl, hbr⟩ := hrel
          have hfin := HB2.out.trans (hbr.mono HB2.out.size)
          by_cases h1 : k < np
          · have hd1 : decide ((k : Int) < (np : Int)) = true := by simp; omega
            by_cases h2 : k < nq
            · have hd2 : decide ((k : Int) < (nq : Int)) = true := by simp; omega
              have kA := in_up JA.out hbr
              have kZ := in_up JZ.out hbr
              have kP := in_up JP.out hbr
              have kO := in_up JO.out hbr
              obtain ⟨g1, o1, rfl, _, f1⟩ := kA.2.2 (by have := HNP.out; omega)
              obtain ⟨g2, o2, rfl, _, f2⟩ := kZ.2.2 (by have := HNO.out; omega)
              obtain ⟨g3, o3, rfl, _, f3⟩ := kP.2.2 (by have := LP.out; omega)
              obtain ⟨g4, o4, rfl, _, f4⟩ := kO.2.2 (by have := LO.out; omega)
              have c1 := f1 k (by have := HNP.out; omega)
              have c2 := f2 k (by have := HNO.out; omega)
              have c3' := f3 k (by have := LP.out; omega)
              have c4 := f4 k (by have := LO.out; omega)
              have x1 := b_xor (MP.getD k 0) (MO.getD k 0)
              have x2 := b_xor (P1.getD k 0) (O1.getD k 0)
              rw [GM.out k h1 h2] at x1
              have e1 : (k : Int) < (np : Int) := by omega
              have e2 : (k : Int) < (nq : Int) := by omega
              have e3 : (k : Int) < (na : Int) := by omega
              have e4 : (k : Int) < (nz : Int) := by omega
              have e0 : (0 : Int) ≤ (k : Int) := by omega
              clear f1 f2 f3 f4 kA kZ kP kO hcl
              generalize P1.getD k 0 ^^^ O1.getD k 0 = z at *
              generalize MP.getD k 0 = y1 at *
              generalize MO.getD k 0 = y2 at *
              generalize P1.getD k 0 = y3 at *
              generalize O1.getD k 0 = y4 at *
              go_wp2
              go_quiet (fail)
              go_wp2
              go_roundw
              case rel => exact ⟨k + 1, by omega, by go_num, below_drewN hbr _⟩
              case measure => simp [intOf]; omega
            · have hd2 : decide ((k : Int) < (nq : Int)) = false := by simp; omega
              go_wp2
              go_ret
              exact ⟨rfl, hfin⟩
          · have hd1 : decide ((k : Int) < (np : Int)) = false := by simp; omega
            go_wp2
            go_ret
            exact ⟨rfl, hfin⟩
end Go.Proofs.Ytiebdglnkbpajaa
