/-
 Rd2.
-/
import Derived.Test.YtnjpcbbdhimacaaDoorRd1
namespace Go.Proofs.YtnjpcbbdhimacaaDoor
open Go.RowKit
set_option maxRecDepth 100000 in
set_option maxHeartbeats 1000000 in
theorem rcut_e (n : Nat) (b : List UInt8) (w : World) (hn : b.length = n) (hm : n < 1000000) :
  Calls Tryd.prog 44 #[.string ⟨b.toArray⟩] w fun e w' => e = .returned (.tuple #[.string ⟨(cutE b).1.toArray⟩, .string ⟨(cutE b).2.1.toArray⟩, .int .i64 ((cutE b).2.2 : Int)]) ∧ Below w.heap.size w w' := by
 have hlen : (b.length : Int) = (n : Int) := by omega
 have HN := Lib.hid hn
 clear hn
 go_enter Tryd.func44, Tryd.ntmps44
 by_cases n1 : n < 1
 ·
  have e1 : ¬ 0 < n := by omega
  have HBG := Lib.hid (show beginsE b = true by rw [begins_3, HN.out]; simp [n1, show n < 2 by omega, show n < 3 by omega])
  have hn0 : n = 0 := by omega
  clear n1
  have hn5 : (n : Int) < 5 := by omega
  have HZ := Lib.hid (show cutE b = ([], [], 3) by unfold cutE sizeE; rw [if_pos (by rw [if_neg (by rw [HBG.out]; decide), if_pos (by rw [HN.out]; omega)]; decide), if_neg (by rw [HBG.out]; decide), if_pos (by rw [HN.out]; omega)])
  go_wp2_with (go_at_call 39; refine (rkind_e _ _).mono ?_; rintro e w' ⟨rfl, hww⟩; subst hww)
  go_ret3
  exact ⟨by rw [HZ.out]; rfl, Below.refl _ _⟩
 ·
  have e1 : 0 < n := by omega
  have q0 : 0 < b.length := by rw [HN.out]; omega
  have s0 := str_get b 0 q0
  obtain ⟨x0, hx0⟩ : ∃ x, x = b.getD 0 0 := ⟨_, rfl⟩
  rw [← hx0] at s0
  obtain ⟨hw0, _, hv0, _⟩ := ix_byte x0
  by_cases k0 : kindB (x0.toNat : Int) = true
  ·
   by_cases n2 : n < 2
   ·
    have e2 : ¬ (1 : Int) < (n : Int) := by omega
    have HBG := Lib.hid (show beginsE b = true by rw [begins_3, HN.out, ← hx0]; simp [k0, n2, show n < 3 by omega])
    clear hx0
    have hn5 : (n : Int) < 5 := by omega
    have HZ := Lib.hid (show cutE b = ([], [], 3) by unfold cutE sizeE; rw [if_pos (by rw [if_neg (by rw [HBG.out]; decide), if_pos (by rw [HN.out]; omega)]; decide), if_neg (by rw [HBG.out]; decide), if_pos (by rw [HN.out]; omega)])
    go_wp2_with (go_at_call 39; refine (rkind_e _ _).mono ?_; rintro e w' ⟨rfl, hww⟩; subst hww)
    go_ret3
    exact ⟨by rw [HZ.out]; rfl, Below.refl _ _⟩
   ·
    have e2 : (1 : Int) < (n : Int) := by omega
    have q1 : 1 < b.length := by rw [HN.out]; omega
    have s1 := str_get b 1 q1
    obtain ⟨x1, hx1⟩ : ∃ x, x = b.getD 1 0 := ⟨_, rfl⟩
    rw [← hx1] at s1
    obtain ⟨hw1, _, hv1, _⟩ := ix_byte x1
    by_cases h1 : x1 = 3
    ·
     skip
     have h1i : (x1.toNat : Int) = 3 := by rw [h1]; rfl
     by_cases n3 : n < 3
     ·
      have e3 : ¬ (2 : Int) < (n : Int) := by omega
      have HBG := Lib.hid (show beginsE b = true by rw [begins_3, HN.out, ← hx0, ← hx1]; simp [k0, h1, n3])
      clear hx0 hx1 h1
      have hn5 : (n : Int) < 5 := by omega
      have HZ := Lib.hid (show cutE b = ([], [], 3) by unfold cutE sizeE; rw [if_pos (by rw [if_neg (by rw [HBG.out]; decide), if_pos (by rw [HN.out]; omega)]; decide), if_neg (by rw [HBG.out]; decide), if_pos (by rw [HN.out]; omega)])
      go_wp2_with (go_at_call 39; refine (rkind_e _ _).mono ?_; rintro e w' ⟨rfl, hww⟩; subst hww)
      go_ret3
      exact ⟨by rw [HZ.out]; rfl, Below.refl _ _⟩
     ·
      have e3 : (2 : Int) < (n : Int) := by omega
      have q2 : 2 < b.length := by rw [HN.out]; omega
      have s2 := str_get b 2 q2
      obtain ⟨x2, hx2⟩ : ∃ x, x = b.getD 2 0 := ⟨_, rfl⟩
      rw [← hx2] at s2
      obtain ⟨hw2, _, hv2, _⟩ := ix_byte x2
      by_cases h2 : x2 = 3
      ·
       skip
       have h2i : (x2.toNat : Int) = 3 := by rw [h2]; rfl
       have HBG := Lib.hid (show beginsE b = true by rw [begins_3, HN.out, ← hx0, ← hx1, ← hx2]; simp [k0, h1, h2])
       by_cases h5 : n < 5
       ·
        clear hx0 hx1 hx2 h1 h2
        have hn5 : (n : Int) < 5 := by omega
        have HZ := Lib.hid (show cutE b = ([], [], 3) by unfold cutE sizeE; rw [if_pos (by rw [if_neg (by rw [HBG.out]; decide), if_pos (by rw [HN.out]; omega)]; decide), if_neg (by rw [HBG.out]; decide), if_pos (by rw [HN.out]; omega)])
        go_wp2_with (go_at_call 39; refine (rkind_e _ _).mono ?_; rintro e w' ⟨rfl, hww⟩; subst hww)
        go_ret3
        exact ⟨by rw [HZ.out]; rfl, Below.refl _ _⟩
       ·
        have hn5 : ¬ (n : Int) < 5 := by omega
        clear hx0 hx1 hx2 h1 h2
        have q3 : 3 < b.length := by rw [HN.out]; omega
        have s3 := str_get b 3 q3
        obtain ⟨x3, hx3⟩ : ∃ x, x = b.getD 3 0 := ⟨_, rfl⟩
        rw [← hx3] at s3
        obtain ⟨hw3, _, hv3, _⟩ := ix_byte x3
        have q4 : 4 < b.length := by rw [HN.out]; omega
        have s4 := str_get b 4 q4
        obtain ⟨x4, hx4⟩ : ∃ x, x = b.getD 4 0 := ⟨_, rfl⟩
        rw [← hx4] at s4
        obtain ⟨hw4, _, hv4, _⟩ := ix_byte x4
        obtain ⟨q, hq⟩ : ∃ q, q = cntB b := ⟨_, rfl⟩
        have hqq : q = x3.toNat * 256 + x4.toNat := by rw [hq, hx3, hx4]; rfl
        obtain ⟨z1, z2⟩ := ix_sum x3 x4 q hqq
        obtain ⟨_, hw3b, _, hv3b⟩ := ix_byte x3
        obtain ⟨hq1, hq2⟩ := ix_wrap q (ix_qtwo x3 x4 q hqq)
        have HQ6 := Lib.hid (show q < 65536 by rw [hqq]; exact two_bytes x3 x4)
        have HSZ := Lib.hid (show sizeE b = if 16640 < q then (0, 4) else if n - 5 < q then (0, 3) else (5 + q, 0) by unfold sizeE; rw [if_neg (by rw [HBG.out]; decide), if_neg (by rw [HN.out]; exact h5), ← hq, HN.out])
        have HI3 := Lib.hid s3
        have HI4 := Lib.hid s4
        have e3n : (3 : Int) < (n : Int) := by omega
        have e4n : (4 : Int) < (n : Int) := by omega
        clear hx3 hx4 hq hqq s3 s4
        go_upto_region 5 with (go_at_call 39; refine (rkind_e _ _).mono ?_; rintro e w' ⟨rfl, hww⟩; subst hww)
        clear s0 s1 s2 hw0 hw1 hw2 hv0 hv1 hv2 h1i h2i k0 n1 n2 n3 e1 e2 e3
        have HN5 := Lib.hid h5
        clear hn5
        apply wp_region_once (D := [[], [0], [0, 1], [0, 1, 2], [], [4], [4, 5], [0, 1, 2, 3, 4, 5, 6], [0, 1, 2, 3, 4, 5, 6, 7]]) (J := [[], [0], [1], [2], [], [4], [5], [3, 6], [7]]) (Je := [8]) (Rs := [Is _, Is _, Is _, Is _, Is _, Is _, Is _, Is _, Is _])
        ·
         kernel_rfl
        ·
         kernel_rfl
        ·
         kernel_rfl
        ·
         kernel_rfl
        ·
         kernel_rfl
        ·
         kernel_rfl
        ·
         intro u
         simp only [List.map_cons, List.map_nil, fillU, List.setIfInBounds_toArray, List.set_cons_zero, List.set_cons_succ, Nat.zero_add, Nat.reduceAdd]
         exact rfl
        ·
         skip
         refine ⟨fun u W hb hd K hK => ?_, ?_⟩
         ·
          clear hd
          go_simp
          apply hK
          ·
           simp only [Act.put, List.setIfInBounds_toArray, List.set_cons_zero, List.set_cons_succ]
           exact rfl
          ·
           exact Below.refl _ _
          ·
           exact IsOut
         refine ⟨fun u W hb hd K hK => ?_, ?_⟩
         ·
          simp only [Facts, nthR, Is, and_true] at hd
          simp only [hd] at hK ⊢
          clear hd
          have hss := HI3.out
          go_simp
          apply hK
          ·
           simp only [Act.put, List.setIfInBounds_toArray, List.set_cons_zero, List.set_cons_succ]
           exact rfl
          ·
           exact Below.refl _ _
          ·
           exact IsOut
         refine ⟨fun u W hb hd K hK => ?_, ?_⟩
         ·
          simp only [Facts, nthR, Is, and_true] at hd
          simp only [hd] at hK ⊢
          clear hd
          go_simp
          apply hK
          ·
           simp only [Act.put, List.setIfInBounds_toArray, List.set_cons_zero, List.set_cons_succ]
           exact rfl
          ·
           exact Below.refl _ _
          ·
           exact IsOut
         refine ⟨fun u W hb hd K hK => ?_, ?_⟩
         ·
          simp only [Facts, nthR, Is, and_true] at hd
          simp only [hd] at hK ⊢
          clear hd
          go_simp
          apply hK
          ·
           simp only [Act.put, List.setIfInBounds_toArray, List.set_cons_zero, List.set_cons_succ]
           exact rfl
          ·
           exact Below.refl _ _
          ·
           exact IsOut
         refine ⟨fun u W hb hd K hK => ?_, ?_⟩
         ·
          clear hd
          go_simp
          apply hK
          ·
           simp only [Act.put, List.setIfInBounds_toArray, List.set_cons_zero, List.set_cons_succ]
           exact rfl
          ·
           exact Below.refl _ _
          ·
           exact IsOut
         refine ⟨fun u W hb hd K hK => ?_, ?_⟩
         ·
          simp only [Facts, nthR, Is, and_true] at hd
          simp only [hd] at hK ⊢
          clear hd
          have hss := HI4.out
          go_simp
          apply hK
          ·
           simp only [Act.put, List.setIfInBounds_toArray, List.set_cons_zero, List.set_cons_succ]
           exact rfl
          ·
           exact Below.refl _ _
          ·
           exact IsOut
         refine ⟨fun u W hb hd K hK => ?_, ?_⟩
         ·
          simp only [Facts, nthR, Is, and_true] at hd
          simp only [hd] at hK ⊢
          clear hd
          go_simp
          apply hK
          ·
           simp only [Act.put, List.setIfInBounds_toArray, List.set_cons_zero, List.set_cons_succ]
           exact rfl
          ·
           exact Below.refl _ _
          ·
           exact IsOut
         refine ⟨fun u W hb hd K hK => ?_, ?_⟩
         ·
          simp only [Facts, nthR, Is, and_true] at hd
          simp only [hd] at hK ⊢
          clear hd
          go_simp
          apply hK
          ·
           simp only [Act.put, List.setIfInBounds_toArray, List.set_cons_zero, List.set_cons_succ]
           exact rfl
          ·
           exact Below.refl _ _
          ·
           exact IsOut
         refine ⟨fun u W hb hd K hK => ?_, ?_⟩
         ·
          simp only [Facts, nthR, Is, and_true] at hd
          simp only [hd] at hK ⊢
          clear hd
          go_simp
          apply hK
          ·
           simp only [Act.put, List.setIfInBounds_toArray, List.set_cons_zero, List.set_cons_succ]
           exact rfl
          ·
           exact Below.refl _ _
          ·
           exact IsOut
         exact trivial
        ·
         exact (.is (.is (.is (.is (.is (.is (.is (.is (.is .nil)))))))))
        ·
         intro u W hb hd
         simp only [Facts, nthR, Is, and_true] at hd
         simp only [hd]
         have hb2 := hb
         clear hb
         by_cases hbig : 16640 < q
         ·
          have HZ := Lib.hid (show cutE b = ([], [], 4) by unfold cutE; rw [HSZ.out, if_pos hbig]; rfl)
          have hd2 := ix_big' q hbig
          go_wp2
          go_ret3
          exact ⟨by rw [HZ.out]; rfl, hb2⟩
         ·
          have hd2 := ix_big q hbig
          by_cases hsh : n - 5 < q
          ·
           have HZ := Lib.hid (show cutE b = ([], [], 3) by unfold cutE; rw [HSZ.out, if_neg hbig, if_pos hsh]; rfl)
           have hd3 := ix_sh' n q hsh HN5.out
           go_wp2
           go_ret3
           exact ⟨by rw [HZ.out]; rfl, hb2⟩
          ·
           have HZ := Lib.hid (show cutE b = (b.take (5 + q), b.drop (5 + q), 0) by unfold cutE; rw [HSZ.out, if_neg hbig, if_neg hsh]; rfl)
           have hd3 := ix_sh n q hsh HN5.out
           obtain ⟨p, hp⟩ : ∃ p, p = 5 + q := ⟨_, rfl⟩
           obtain ⟨hq5, hqn, hp0, hp9⟩ := ix_cut p q n hp hsh HN5.out HQ6.out
           obtain ⟨hp1, hp2⟩ := ix_wrap p hp9
           clear hp9
           have hex := extract_str b p
           have hey := extract_from b p b.length (Nat.le_refl _)
           rw [← hp] at HZ
           clear hp z1 z2 hbig hsh hw3 hv3 hw4 hv4 hw3b hv3b
           go_upto_region 10 with (fail)
           apply wp_region_once (D := [[], [], [1], [0, 1, 2], [], [], [5], [4, 5, 6], [0, 1, 2, 3], [0, 1, 2, 3, 4, 5, 6, 7, 8], [0, 1, 2, 3, 4, 5, 6, 7, 8, 9]]) (J := [[], [], [1], [0, 2], [], [], [5], [4, 6], [3], [7], []]) (Je := [8, 9, 10]) (Rs := [Is _, Is _, Is _, Is _, Is _, Is _, Is _, Is _, Is _, Is _, Is _])
           ·
            kernel_rfl
           ·
            kernel_rfl
           ·
            kernel_rfl
           ·
            kernel_rfl
           ·
            kernel_rfl
           ·
            kernel_rfl
           ·
            intro u
            simp only [List.map_cons, List.map_nil, fillU, List.setIfInBounds_toArray, List.set_cons_zero, List.set_cons_succ, Nat.zero_add, Nat.reduceAdd]
            exact rfl
           ·
            skip
            refine ⟨fun u W hb hd K hK => ?_, ?_⟩
            ·
             clear hd
             go_simp
             apply hK
             ·
              simp only [Act.put, List.setIfInBounds_toArray, List.set_cons_zero, List.set_cons_succ]
              exact rfl
             ·
              exact Below.refl _ _
             ·
              exact IsOut
            refine ⟨fun u W hb hd K hK => ?_, ?_⟩
            ·
             clear hd
             go_simp
             apply hK
             ·
              simp only [Act.put, List.setIfInBounds_toArray, List.set_cons_zero, List.set_cons_succ]
              exact rfl
             ·
              exact Below.refl _ _
             ·
              exact IsOut
            refine ⟨fun u W hb hd K hK => ?_, ?_⟩
            ·
             simp only [Facts, nthR, Is, and_true] at hd
             simp only [hd] at hK ⊢
             clear hd
             go_simp
             apply hK
             ·
              simp only [Act.put, List.setIfInBounds_toArray, List.set_cons_zero, List.set_cons_succ]
              exact rfl
             ·
              exact Below.refl _ _
             ·
              exact IsOut
            refine ⟨fun u W hb hd K hK => ?_, ?_⟩
            ·
             simp only [Facts, nthR, Is, and_true] at hd
             simp only [hd] at hK ⊢
             clear hd
             go_simp
             apply hK
             ·
              simp only [Act.put, List.setIfInBounds_toArray, List.set_cons_zero, List.set_cons_succ]
              exact rfl
             ·
              exact Below.refl _ _
             ·
              exact IsOut
            refine ⟨fun u W hb hd K hK => ?_, ?_⟩
            ·
             clear hd
             go_simp
             apply hK
             ·
              simp only [Act.put, List.setIfInBounds_toArray, List.set_cons_zero, List.set_cons_succ]
              exact rfl
             ·
              exact Below.refl _ _
             ·
              exact IsOut
            refine ⟨fun u W hb hd K hK => ?_, ?_⟩
            ·
             clear hd
             go_simp
             apply hK
             ·
              simp only [Act.put, List.setIfInBounds_toArray, List.set_cons_zero, List.set_cons_succ]
              exact rfl
             ·
              exact Below.refl _ _
             ·
              exact IsOut
            refine ⟨fun u W hb hd K hK => ?_, ?_⟩
            ·
             simp only [Facts, nthR, Is, and_true] at hd
             simp only [hd] at hK ⊢
             clear hd
             go_simp
             apply hK
             ·
              simp only [Act.put, List.setIfInBounds_toArray, List.set_cons_zero, List.set_cons_succ]
              exact rfl
             ·
              exact Below.refl _ _
             ·
              exact IsOut
            refine ⟨fun u W hb hd K hK => ?_, ?_⟩
            ·
             simp only [Facts, nthR, Is, and_true] at hd
             simp only [hd] at hK ⊢
             clear hd
             go_simp
             apply hK
             ·
              simp only [Act.put, List.setIfInBounds_toArray, List.set_cons_zero, List.set_cons_succ]
              exact rfl
             ·
              exact Below.refl _ _
             ·
              exact IsOut
            refine ⟨fun u W hb hd K hK => ?_, ?_⟩
            ·
             simp only [Facts, nthR, Is, and_true] at hd
             simp only [hd] at hK ⊢
             clear hd
             go_simp
             apply hK
             ·
              simp only [Act.put, List.setIfInBounds_toArray, List.set_cons_zero, List.set_cons_succ]
              exact rfl
             ·
              exact Below.refl _ _
             ·
              exact IsOut
            refine ⟨fun u W hb hd K hK => ?_, ?_⟩
            ·
             simp only [Facts, nthR, Is, and_true] at hd
             simp only [hd] at hK ⊢
             clear hd
             go_simp
             apply hK
             ·
              simp only [Act.put, List.setIfInBounds_toArray, List.set_cons_zero, List.set_cons_succ]
              exact rfl
             ·
              exact Below.refl _ _
             ·
              exact IsOut
            refine ⟨fun u W hb hd K hK => ?_, ?_⟩
            ·
             clear hd
             go_simp
             apply hK
             ·
              simp only [Act.put, List.setIfInBounds_toArray, List.set_cons_zero, List.set_cons_succ]
              exact rfl
             ·
              exact Below.refl _ _
             ·
              exact IsOut
            exact trivial
           ·
            exact (.is (.is (.is (.is (.is (.is (.is (.is (.is (.is (.is .nil)))))))))))
           ·
            intro u W hb hd
            simp only [Facts, nthR, Is, and_true] at hd
            simp only [hd]
            go_wp2
            go_ret3
            exact ⟨by rw [HZ.out]; rfl, hb2.trans (hb.mono hb2.size)⟩
      ·
       skip
       have h2i : ¬ (x2.toNat : Int) = 3 := fun h => h2 (UInt8.toNat_inj.1 (by show x2.toNat = 3; omega))
       have HBG := Lib.hid (show beginsE b = false by rw [begins_3, HN.out, ← hx0, ← hx1, ← hx2]; simp [k0, h1, h2, n3])
       clear hx0 hx1 hx2 h1 h2
       have HZ := Lib.hid (show cutE b = ([], [], 2) by unfold cutE sizeE; rw [if_pos (by rw [if_pos HBG.out]; decide), if_pos HBG.out])
       go_wp2_with (go_at_call 39; refine (rkind_e _ _).mono ?_; rintro e w' ⟨rfl, hww⟩; subst hww)
       go_ret3
       exact ⟨by rw [HZ.out]; rfl, Below.refl _ _⟩
    ·
     skip
     have h1i : ¬ (x1.toNat : Int) = 3 := fun h => h1 (UInt8.toNat_inj.1 (by show x1.toNat = 3; omega))
     have HBG := Lib.hid (show beginsE b = false by rw [begins_3, HN.out, ← hx0, ← hx1]; simp [k0, h1, n2])
     clear hx0 hx1 h1
     have HZ := Lib.hid (show cutE b = ([], [], 2) by unfold cutE sizeE; rw [if_pos (by rw [if_pos HBG.out]; decide), if_pos HBG.out])
     go_wp2_with (go_at_call 39; refine (rkind_e _ _).mono ?_; rintro e w' ⟨rfl, hww⟩; subst hww)
     go_ret3
     exact ⟨by rw [HZ.out]; rfl, Below.refl _ _⟩
  ·
   have k0f : kindB (x0.toNat : Int) = false := by simpa using k0
   have HBG := Lib.hid (show beginsE b = false by rw [begins_3, HN.out, ← hx0]; simp [k0, n1])
   clear hx0 k0
   have HZ := Lib.hid (show cutE b = ([], [], 2) by unfold cutE sizeE; rw [if_pos (by rw [if_pos HBG.out]; decide), if_pos HBG.out])
   go_wp2_with (go_at_call 39; refine (rkind_e _ _).mono ?_; rintro e w' ⟨rfl, hww⟩; subst hww)
   go_ret3
   exact ⟨by rw [HZ.out]; rfl, Below.refl _ _⟩

end Go.Proofs.YtnjpcbbdhimacaaDoor
