/-
 Rh5.
-/
import Derived.Test.YtnjpcbbdhimacaaDoorRh4
namespace Go.Proofs.YtnjpcbbdhimacaaDoor
open Go.RowKit
set_option maxRecDepth 100000 in
set_option maxHeartbeats 1000000 in
theorem hopen_ok {w : World} {gh gx gk gr R u0 : Nat} {L : List UInt32} {iv : List UInt8} (h : HalfAt w gh gx gk gr R L iv u0) (n m c : Nat) (A : Option Addr) (b C T : List UInt8) (hn : b.length = n) (iB : In w w.heap.size A c b) (hp : partsE b = (23, C ++ T, 0)) (hC : C.length = m) (hT : T.length = 16) (ht : tagE L R (nonceH iv u0) C (b.take 5) = T) (hb9 : n < 100000) (h5 : 5 ≤ n) (hu : u0 < 1000) :
  Calls Tryd.prog 11 #[.pointer (some ⟨gh, 0, none⟩), .slice A n c] w fun e w' => ∃ A' n' c', e = .returned (.tuple #[.int .i64 ((withinE (maskE L R (nonceH iv u0) C)).1 : Int), .slice A' n' c', .int .i64 ((withinE (maskE L R (nonceH iv u0) C)).2.2 : Int)]) ∧ (withinE (maskE L R (nonceH iv u0) C)).2.1.length = n' ∧ In w' w'.heap.size A' c' (withinE (maskE L R (nonceH iv u0) C)).2.1 ∧ HalfAt w' gh gx gk gr R L iv (u0 + 1) ∧ w.grownBy w' (some gh) := by
 have HUS := Lib.hid (ix_used u0 hu)
 have hnx := fun (V : World) (hb : Below w.heap.size w V) => (h.below hb).next
 obtain ⟨u1, hu1⟩ : ∃ u1, u1 = u0 + 1 := ⟨_, rfl⟩
 rw [← hu1] at HUS ⊢
 simp only [← hu1] at hnx
 have HNX := Lib.hid hnx
 have hns := nonceH_length iv u0 h.len
 have hl5 : (b.take 5).length = 5 := by rw [List.length_take]; omega
 have hlb : (partsE b).2.1.length = m + 16 := by rw [hp]; show (C ++ T).length = _; rw [List.length_append, hC, hT]
 have hmb : m + 16 ≤ n := by
  have h1 : (partsE b).2.1.length ≤ n := by
   unfold partsE
   split
   ·
    simp
   ·
    split
    ·
     simp
    ·
     simp; omega
  omega
 have i5 := iB.take 5
 have kpa : Calls Tryd.prog 34 #[.slice A n c] w fun e w' => ∃ A' c', e = .returned (.tuple #[.int .i64 23, .slice A' (m + 16) c', .int .i64 0]) ∧ In w' w'.heap.size A' c' (C ++ T) ∧ Below w.heap.size w w' :=
  (parts_e A c n b w hn iB).mono (fun e w' ⟨A', n', c', he, hn', hi', hb'⟩ => by
   rw [hlb] at hn'
   subst hn'
   rw [hp] at he hi'
   exact ⟨A', c', he, hi', hb'⟩)
 have kno := fun (W : World) (hb : Below w.heap.size w W) => nonce_e (h.below hb) (by omega)
 have kop := fun (W : World) (hb : Below w.heap.size w W) (cs : Nat) (As : Option Addr) (is : In W W.heap.size As cs (C ++ T)) =>
  (open_e gx gk gr R (m + 16) m 5 cs c As A L (nonceH iv u0) C T (b.take 5) W (h.box.below hb) hns is (in_up i5 hb) hC hT rfl hl5 (by omega) (by omega)).mono (fun e w' ⟨hb, hh⟩ => show Below W.heap.size W w' ∧ ∃ A' c', e = Ending.returned (.tuple #[.slice A' m c', .int .i64 0]) ∧ Buf w' W.heap.size A' m c' (maskE L R (nonceH iv u0) C) from ⟨hb, hh.elim (fun h => h.2) (fun h => absurd ht h.1)⟩)
 have hil : (maskE L R (nonceH iv u0) C).length = m := by rw [maskE_length, hC]
 obtain ⟨mm, hmm⟩ : ∃ mm, mm = m + 16 := ⟨_, rfl⟩
 rw [← hmm] at kpa
 simp only [← hmm] at kop
 obtain ⟨N1, hN1⟩ : ∃ N1, N1 = nonceH iv u0 := ⟨_, rfl⟩
 simp only [← hN1] at kno kop hil ⊢
 obtain ⟨I, hI0⟩ : ∃ I, I = maskE L R N1 C := ⟨_, rfl⟩
 simp only [← hI0] at kop hil ⊢
 have HNO := Lib.hid kno
 have HOP := Lib.hid kop
 have HPA := Lib.hid kpa
 have HEM := Lib.hid (hempty_no h)
 have HIL := Lib.hid hil
 have HMB := Lib.hid (show m < 1000000 by omega)
 have HU1 := Lib.hid (And.intro HUS.out.2.2 HUS.out.2.1)
 have q8 := HUS.out.1
 have HH := Lib.hid h
 have HC0 := Lib.hid (fun (W : World) (hb : Below w.heap.size w W) => (h.below hb).first)
 obtain ⟨ga, oa, rfl, _, _⟩ := iB.2.2 (by omega)
 have hnc : (5 : Int) ≤ (c : Int) := by have := iB.1; omega
 have hn5 : (5 : Int) ≤ (n : Int) := by omega
 clear hnx hu1 hns hl5 hlb hmb i5 kpa kno kop hil hmm hN1 hI0 hp hC hT ht hb9 h5 hu hn iB h
 have hus := HH.out.used
 go_enter Tryd.func11, Tryd.ntmps11
 go_upto_region 8 with (first
  | (go_at_call 30; refine HEM.out.mono ?_; rintro e w' ⟨rfl, hww⟩; have hw2 := hww.symm; subst hw2)
  | (go_at_call 34; refine HPA.out.mono ?_; rintro e w2 ⟨A2, c2, rfl, hI, hbw⟩))
 clear hus
 have hus := (HH.out.below hbw).used
 go_upto_region 10 with (fail)
 clear hus
 apply wp_region_once (D := [[], [0], [0, 1], [0, 1, 2], [], [4], [], [], [7], [0, 1, 2, 3, 4, 5, 6, 7, 8], [0, 1, 2, 3, 4, 5, 6, 7, 8, 9], [0, 1, 2, 3, 4, 5, 6, 7, 8, 9, 10], [0, 1, 2, 3, 4, 5, 6, 7, 8, 9, 10], [0, 1, 2, 3, 4, 5, 6, 7, 8, 9, 10, 11], [0, 1, 2, 3, 4, 5, 6, 7, 8, 9, 10, 11, 12, 13]]) (J := [[], [0], [1], [2], [], [4], [], [], [7], [3, 5, 6, 8], [9], [10], [10], [11], [12]]) (Je := [13, 14]) (Rs := [Is _, Is _, Is _, Is _, Is _, Is _, Is _, Is _, Is _, fun v V => ∃ (A' : Option Addr) (c' : Nat), v = .tuple #[.slice A' m c', .int .i64 0] ∧ Buf V w.heap.size A' m c' I, fun v V => ∃ (A' : Option Addr) (c' : Nat), v = .tuple #[.slice A' m c', .int .i64 0] ∧ Buf V w.heap.size A' m c' I, fun v V => ∃ (A' : Option Addr) (c' : Nat), v = .slice A' m c' ∧ Buf V w.heap.size A' m c' I, Is _, fun v V => ∃ (A' : Option Addr) (c' : Nat), v = .slice A' m c' ∧ Buf V w.heap.size A' m c' I, Is _])
 ·
  kernel_rfl
 ·
  kernel_rfl
 ·
  kernel_rfl
 ·
  kernel_rfl
 ·
  kernel_rfl
 ·
  kernel_rfl
 ·
  intro u
  simp only [List.map_cons, List.map_nil, fillU, List.setIfInBounds_toArray, List.set_cons_zero, List.set_cons_succ, Nat.zero_add, Nat.reduceAdd]
  exact rfl
 ·
  skip
  refine ⟨fun u V hb hd K hK => ?_, ?_⟩
  ·
   clear hd
   go_simp
   apply hK
   ·
    simp only [Act.put, List.setIfInBounds_toArray, List.set_cons_zero, List.set_cons_succ]
    exact rfl
   ·
    exact Below.refl _ _
   ·
    exact IsOut
  refine ⟨fun u V hb hd K hK => ?_, ?_⟩
  ·
   simp only [Facts, nthR, Is, and_true] at hd
   simp only [hd] at hK ⊢
   clear hd
   go_simp
   apply hK
   ·
    simp only [Act.put, List.setIfInBounds_toArray, List.set_cons_zero, List.set_cons_succ]
    exact rfl
   ·
    exact Below.refl _ _
   ·
    exact IsOut
  refine ⟨fun u V hb hd K hK => ?_, ?_⟩
  ·
   simp only [Facts, nthR, Is, and_true] at hd
   simp only [hd] at hK ⊢
   clear hd
   go_simp
   apply hK
   ·
    simp only [Act.put, List.setIfInBounds_toArray, List.set_cons_zero, List.set_cons_succ]
    exact rfl
   ·
    exact Below.refl _ _
   ·
    exact IsOut
  refine ⟨fun u V hb hd K hK => ?_, ?_⟩
  ·
   simp only [Facts, nthR, Is, and_true] at hd
   simp only [hd] at hK ⊢
   clear hd
   have hcc := HC0.out V (hbw.trans (hb.mono hbw.size))
   go_simp
   apply hK
   ·
    simp only [Act.put, List.setIfInBounds_toArray, List.set_cons_zero, List.set_cons_succ]
    exact rfl
   ·
    exact Below.refl _ _
   ·
    exact IsOut
  refine ⟨fun u V hb hd K hK => ?_, ?_⟩
  ·
   clear hd
   go_simp
   apply hK
   ·
    simp only [Act.put, List.setIfInBounds_toArray, List.set_cons_zero, List.set_cons_succ]
    exact rfl
   ·
    exact Below.refl _ _
   ·
    exact IsOut
  refine ⟨fun u V hb hd K hK => ?_, ?_⟩
  ·
   simp only [Facts, nthR, Is, and_true] at hd
   simp only [hd] at hK ⊢
   clear hd
   go_simp
   refine (HNO.out V (hbw.trans (hb.mono hbw.size))).mono ?_
   rintro e wy ⟨rfl, hby⟩
   exact hK _ _ _ rfl hby IsOut
  refine ⟨fun u V hb hd K hK => ?_, ?_⟩
  ·
   clear hd
   go_simp
   apply hK
   ·
    simp only [Act.put, List.setIfInBounds_toArray, List.set_cons_zero, List.set_cons_succ]
    exact rfl
   ·
    exact Below.refl _ _
   ·
    exact IsOut
  refine ⟨fun u V hb hd K hK => ?_, ?_⟩
  ·
   clear hd
   go_simp
   apply hK
   ·
    simp only [Act.put, List.setIfInBounds_toArray, List.set_cons_zero, List.set_cons_succ]
    exact rfl
   ·
    exact Below.refl _ _
   ·
    exact IsOut
  refine ⟨fun u V hb hd K hK => ?_, ?_⟩
  ·
   simp only [Facts, nthR, Is, and_true] at hd
   simp only [hd] at hK ⊢
   clear hd
   go_simp
   apply hK
   ·
    simp only [Act.put, List.setIfInBounds_toArray, List.set_cons_zero, List.set_cons_succ]
    exact rfl
   ·
    exact Below.refl _ _
   ·
    exact IsOut
  refine ⟨fun u V hb hd K hK => ?_, ?_⟩
  ·
   simp only [Facts, nthR, Is, and_true] at hd
   simp only [hd] at hK ⊢
   clear hd
   go_simp
   refine (HOP.out V (hbw.trans (hb.mono hbw.size)) _ _ (in_up hI hb)).mono ?_
   rintro e wy ⟨hby, A', c', rfl, hB'⟩
   exact hK _ _ _ rfl hby ⟨A', c', rfl, hB'.base (Nat.le_trans hbw.size hb.size)⟩
  refine ⟨fun u V hb hd K hK => ?_, ?_⟩
  ·
   simp only [Facts, nthR, and_true] at hd
   obtain ⟨A', c', h1, hi'⟩ := hd
   simp only [h1] at hK ⊢
   clear h1
   go_simp
   apply hK
   ·
    simp only [Act.put, List.setIfInBounds_toArray, List.set_cons_zero, List.set_cons_succ]
    exact rfl
   ·
    exact Below.refl _ _
   ·
    exact ⟨A', c', rfl, hi'⟩
  refine ⟨fun u V hb hd K hK => ?_, ?_⟩
  ·
   simp only [Facts, nthR, and_true] at hd
   obtain ⟨A', c', h1, hi'⟩ := hd
   simp only [h1] at hK ⊢
   clear h1
   go_simp
   apply hK
   ·
    simp only [Act.put, List.setIfInBounds_toArray, List.set_cons_zero, List.set_cons_succ]
    exact rfl
   ·
    exact Below.refl _ _
   ·
    exact ⟨A', c', rfl, hi'⟩
  refine ⟨fun u V hb hd K hK => ?_, ?_⟩
  ·
   simp only [Facts, nthR, and_true] at hd
   obtain ⟨A', c', h1, hi'⟩ := hd
   simp only [h1] at hK ⊢
   clear h1
   go_simp
   apply hK
   ·
    simp only [Act.put, List.setIfInBounds_toArray, List.set_cons_zero, List.set_cons_succ]
    exact rfl
   ·
    exact Below.refl _ _
   ·
    exact IsOut
  refine ⟨fun u V hb hd K hK => ?_, ?_⟩
  ·
   simp only [Facts, nthR, and_true] at hd
   obtain ⟨A', c', h1, hi'⟩ := hd
   simp only [h1] at hK ⊢
   clear h1
   go_simp
   apply hK
   ·
    simp only [Act.put, List.setIfInBounds_toArray, List.set_cons_zero, List.set_cons_succ]
    exact rfl
   ·
    exact Below.refl _ _
   ·
    exact ⟨A', c', rfl, hi'⟩
  refine ⟨fun u V hb hd K hK => ?_, ?_⟩
  ·
   simp only [Facts, nthR, Is, and_true] at hd
   simp only [hd] at hK ⊢
   clear hd
   go_simp
   apply hK
   ·
    simp only [Act.put, List.setIfInBounds_toArray, List.set_cons_zero, List.set_cons_succ]
    exact rfl
   ·
    exact Below.refl _ _
   ·
    exact IsOut
  exact trivial
 ·
  exact (.is (.is (.is (.is (.is (.is (.is (.is (.is (.cons (fun v V V' ⟨A', c', h1, h2⟩ hb => ⟨A', c', h1, h2.below hb⟩) (.cons (fun v V V' ⟨A', c', h1, h2⟩ hb => ⟨A', c', h1, h2.below hb⟩) (.cons (fun v V V' ⟨A', c', h1, h2⟩ hb => ⟨A', c', h1, h2.below hb⟩) (.is (.cons (fun v V V' ⟨A', c', h1, h2⟩ hb => ⟨A', c', h1, h2.below hb⟩) (.is .nil)))))))))))))))
 ·
  intro u V hb hd
  simp only [Facts, nthR, Is, and_true] at hd
  obtain ⟨⟨Ai, ci, h10, hS⟩, h11⟩ := hd
  simp only [h10, h11]
  clear h10 h11
  replace hbw := hbw.trans (hb.mono hbw.size)
  have hcc := (HH.out.below hbw).used
  have hff := (HH.out.below hbw).half.frozen 13
  clear hb hI
  obtain ⟨hu1, hu2⟩ := HU1.out
  go_upto_region 14 with (fail)
  have hg1 := grown_setCell (grown_of_below hbw (some gh)) (p := ⟨gh, 13, none⟩) (.inl rfl) (.int .i64 (u1 : Int))
  have hk1 := grown_setCell (grown_refl V (some gh)) (p := ⟨gh, 13, none⟩) (.inl rfl) (.int .i64 (u1 : Int))
  have hH1 := HNX.out V hbw
  have hlt := HH.out.half.lt
  have HH1 := Lib.hid hH1
  have HG1 := Lib.hid hg1
  clear hu1 hu2
  replace hS := hS.kept hk1 (fun g e h => by have h1 := hS.lt e; injection h with h; omega)
  have hsz : w.heap.size ≤ (V.setCell ⟨gh, 13, none⟩ (.int .i64 (u1 : Int))).heap.size := hg1.size
  clear hbw hk1 hcc hff hH1 hg1 hlt
  generalize V.setCell ⟨gh, 13, none⟩ (.int .i64 (u1 : Int)) = v2 at *
  have hW := within_e Ai ci m I v2 HIL.out (hS.toIn (Nat.le_refl _)) HMB.out
  have HW := Lib.hid hW
  clear hW
  go_wp2_with (go_at_call 36; refine HW.out.mono ?_; rintro e w9 ⟨A9, n9, c9, rfl, hn9, hi9, hb9⟩)
  go_ret3
  exact ⟨A9, n9, c9, rfl, hn9, hi9, HH1.out.low (hb9.mono hsz) HG1.out.size HH.out.below_size, grown_low HG1.out (hb9.mono hsz)⟩

end Go.Proofs.YtnjpcbbdhimacaaDoor
