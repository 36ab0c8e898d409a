/-
 Rh4.
-/
import Derived.Test.YtnjpcbbdhimacaaDoorRh3
namespace Go.Proofs.YtnjpcbbdhimacaaDoor
open Go.RowKit
/-- How many bytes there are without the noughts behind. -/
def stripTo (X : List UInt8) : Nat → Nat
 | 0 => 0
 | k + 1 => if X.getD k 0 = 0 then stripTo X k else k + 1
/-- What was sealed: its kind, its bytes, what is wrong. -/
def withinE (X : List UInt8) : Nat × List UInt8 × Nat :=
 if stripTo X X.length = 0 then (0, [], 2) else if kindB ((X.getD (stripTo X X.length - 1) 0).toNat : Int) = false then (0, [], 2) else if 16384 < stripTo X X.length - 1 then (0, [], 4)
 else ((X.getD (stripTo X X.length - 1) 0).toNat, X.take (stripTo X X.length - 1), 0)
theorem stripTo_step {X : List UInt8} {m j : Nat} (h : stripTo X m = stripTo X (j + 1)) (x : UInt8) (hx : x = X.getD j 0) : (x = 0 → stripTo X m = stripTo X j) ∧ (x ≠ 0 → stripTo X m = j + 1) := by
 rw [stripTo, ← hx] at h
 exact ⟨fun e => by rw [h, if_pos e], fun e => by rw [h, if_neg e]⟩
theorem ix_at (j : Nat) : ((j + 1 : Nat) : Int) - 1 = (j : Int) := by omega
theorem ix_at0 : ((0 : Nat) : Int) - 1 = -1 := rfl
theorem ix_j (j n c : Nat) (h : j + 1 ≤ n) (hc : n ≤ c) : (0 : Int) ≤ (j : Int) ∧ (j : Int) < (n : Int) ∧ (j : Int) ≤ (c : Int) ∧ (j : Int) ≤ (n : Int) ∧ ¬ (j : Int) < 0 := by omega
theorem ix_m1 (j : Nat) (h : j < 1000000) : wrap64 ((j : Int) - 1) = (j : Int) - 1 := by unfold wrap64; omega
theorem ix_jb (j : Nat) (h : 16384 < j) : (16384 : Int) < (j : Int) := by omega
theorem ix_jb' (j : Nat) (h : ¬ 16384 < j) : ¬ (16384 : Int) < (j : Int) := by omega

set_option maxRecDepth 100000 in
set_option maxHeartbeats 1000000 in
theorem within_e (A : Option Addr) (c n : Nat) (X : List UInt8) (w : World) (hn : X.length = n) (iB : In w w.heap.size A c X) (hm : n < 1000000) :
  Calls Tryd.prog 36 #[.slice A n c] w fun e w' => ∃ A' n' c', e = .returned (.tuple #[.int .i64 ((withinE X).1 : Int), .slice A' n' c', .int .i64 ((withinE X).2.2 : Int)]) ∧ (withinE X).2.1.length = n' ∧ In w' w'.heap.size A' c' (withinE X).2.1 ∧ Below w.heap.size w w' := by
 have HN := Lib.hid hn
 have IB := Lib.hid iB
 have hnc : n ≤ c := by have := iB.1; omega
 have HB := Lib.hid hm
 have hw0 := ix_m1 n hm
 clear hn iB hm
 go_enter Tryd.func36, Tryd.ntmps36
 go_wp2
 go_loopw [5] (fun v wr => ∃ k : Nat, k ≤ n ∧ v = .int .i64 ((k : Int) - 1) ∧ Hid (stripTo X X.length = stripTo X k) ∧ wr = w) (fun v _ => (intOf v + 1).toNat)
 case atStart => exact ⟨n, Nat.le_refl _, by rw [ix_m1 n HB.out], by show _ = _; rw [HN.out], rfl⟩
 case round =>
  clear hw0
  obtain ⟨k, hk, rfl, HK, rfl⟩ := hrel
  cases k with
  | zero =>
   rw [ix_at0]
   have HZ := Lib.hid (show withinE X = (0, [], 2) by unfold withinE; rw [if_pos (by rw [HK.out]; rfl)])
   go_wp2
   go_ret3
   refine ⟨_, _, _, by rw [HZ.out]; rfl, by rw [HZ.out]; rfl, ?_, Below.refl _ _⟩
   rw [HZ.out]
   exact in_nil _ 0 (by decide) _
  | succ j =>
   rw [ix_at]
   obtain ⟨z1, z2, z3, z4, z5⟩ := ix_j j n c hk hnc
   have HJ := Lib.hid (Nat.le_of_succ_le hk)
   have HW := Lib.hid (ix_m1 j (Nat.lt_of_lt_of_le (Nat.lt_of_lt_of_le (Nat.lt_succ_self j) hk) (Nat.le_of_lt HB.out)))
   obtain ⟨gb, ob, rfl, hgb, hby⟩ := IB.out.2.2 (by rw [HN.out]; omega)
   obtain ⟨x, hx⟩ : ∃ x, x = X.getD j 0 := ⟨_, rfl⟩
   have hcx := fun (W : World) (h : Below wr.heap.size wr W) => (World.cell?_of_block (w := wr) (w' := W) (a := ⟨gb, ob + j, none⟩) (h.block gb hgb)).trans (hby j (by rw [HN.out]; omega))
   rw [← hx] at hcx
   have hcc := hcx wr (Below.refl _ _)
   have HCX := Lib.hid hcx
   obtain ⟨hs0, hs1⟩ := stripTo_step HK.out x hx
   obtain ⟨hx1, _, hx3, _⟩ := ix_byte x
   have HX := Lib.hid hx
   have HM := Lib.hid (show (intOf (.int .i64 (wrap64 ((j : Int) - 1))) + 1).toNat < (intOf (.int .i64 (j : Int)) + 1).toNat by rw [HW.out]; simp [intOf])
   clear hby hx hcx
   by_cases h0 : x = 0
   ·
    have HS := Lib.hid (hs0 h0)
    have h0i : (x.toNat : Int) = 0 := by rw [h0]; rfl
    have hw1 := HW.out
    clear hs0 hs1 h0
    go_wp2
    go_roundw
    case rel => exact ⟨j, HJ.out, by go_num, HS, trivial⟩
    case measure => exact HM.out
   ·
    have HS := Lib.hid (hs1 h0)
    have h0i : ¬ (x.toNat : Int) = 0 := fun h => h0 (UInt8.toNat_inj.1 (by show x.toNat = 0; omega))
    clear hs0 hs1
    by_cases hkd : kindB (x.toNat : Int) = true
    ·
     by_cases hbig : 16384 < j
     ·
      have HZ := Lib.hid (show withinE X = (0, [], 4) by unfold withinE; rw [HS.out, Nat.add_sub_cancel, ← HX.out, if_neg (by omega), if_neg (by rw [hkd]; decide), if_pos hbig])
      have hd := ix_jb j hbig
      clear hbig h0
      go_wp2_with (go_at_call 31; refine (isKind_e _ _).mono ?_; rintro e w' ⟨rfl, hww⟩; have hw2 := hww.symm; subst hw2)
      go_ret3
      refine ⟨_, _, _, by rw [HZ.out]; rfl, by rw [HZ.out]; rfl, ?_, Below.refl _ _⟩
      rw [HZ.out]
      exact in_nil _ 0 (by decide) _
     ·
      have HZ := Lib.hid (show withinE X = (x.toNat, X.take j, 0) by unfold withinE; rw [HS.out, Nat.add_sub_cancel, ← HX.out, if_neg (by omega), if_neg (by rw [hkd]; decide), if_neg hbig])
      have hd := ix_jb' j hbig
      have HTL := Lib.hid (show (X.take j).length = j by rw [List.length_take, HN.out]; omega)
      clear hbig h0
      go_upto_region 8 with (go_at_call 31; refine (isKind_e _ _).mono ?_; rintro e w' ⟨rfl, hww⟩; have hw2 := hww.symm; subst hw2)
      apply wp_region_once (D := [[], [], [0, 1], [0, 1, 2], [0, 1, 2, 3], [], [], [5, 6], [0, 1, 2, 3, 4], [0, 1, 2, 3, 4, 5, 6, 7, 8], [0, 1, 2, 3, 4, 5, 6, 7, 8, 9]]) (J := [[], [], [0, 1], [2], [3], [], [], [5, 6], [4], [7], []]) (Je := [8, 9, 10]) (Rs := [Is _, Is _, Is _, Is _, Is _, Is _, Is _, Is _, Is _, Is _, Is _])
      ·
       kernel_rfl
      ·
       kernel_rfl
      ·
       kernel_rfl
      ·
       kernel_rfl
      ·
       kernel_rfl
      ·
       kernel_rfl
      ·
       intro u
       simp only [List.map_cons, List.map_nil, fillU, List.setIfInBounds_toArray, List.set_cons_zero, List.set_cons_succ, Nat.zero_add, Nat.reduceAdd]
       exact rfl
      ·
       skip
       refine ⟨fun u W hb hd K hK => ?_, ?_⟩
       ·
        clear hd
        go_simp
        apply hK
        ·
         simp only [Act.put, List.setIfInBounds_toArray, List.set_cons_zero, List.set_cons_succ]
         exact rfl
        ·
         exact Below.refl _ _
        ·
         exact IsOut
       refine ⟨fun u W hb hd K hK => ?_, ?_⟩
       ·
        clear hd
        go_simp
        apply hK
        ·
         simp only [Act.put, List.setIfInBounds_toArray, List.set_cons_zero, List.set_cons_succ]
         exact rfl
        ·
         exact Below.refl _ _
        ·
         exact IsOut
       refine ⟨fun u W hb hd K hK => ?_, ?_⟩
       ·
        simp only [Facts, nthR, Is, and_true] at hd
        simp only [hd] at hK ⊢
        clear hd
        go_simp
        apply hK
        ·
         simp only [Act.put, List.setIfInBounds_toArray, List.set_cons_zero, List.set_cons_succ]
         exact rfl
        ·
         exact Below.refl _ _
        ·
         exact IsOut
       refine ⟨fun u W hb hd K hK => ?_, ?_⟩
       ·
        simp only [Facts, nthR, Is, and_true] at hd
        simp only [hd] at hK ⊢
        clear hd
        have hcc := HCX.out W hb
        go_simp
        apply hK
        ·
         simp only [Act.put, List.setIfInBounds_toArray, List.set_cons_zero, List.set_cons_succ]
         exact rfl
        ·
         exact Below.refl _ _
        ·
         exact IsOut
       refine ⟨fun u W hb hd K hK => ?_, ?_⟩
       ·
        simp only [Facts, nthR, Is, and_true] at hd
        simp only [hd] at hK ⊢
        clear hd
        go_simp
        apply hK
        ·
         simp only [Act.put, List.setIfInBounds_toArray, List.set_cons_zero, List.set_cons_succ]
         exact rfl
        ·
         exact Below.refl _ _
        ·
         exact IsOut
       refine ⟨fun u W hb hd K hK => ?_, ?_⟩
       ·
        clear hd
        go_simp
        apply hK
        ·
         simp only [Act.put, List.setIfInBounds_toArray, List.set_cons_zero, List.set_cons_succ]
         exact rfl
        ·
         exact Below.refl _ _
        ·
         exact IsOut
       refine ⟨fun u W hb hd K hK => ?_, ?_⟩
       ·
        clear hd
        go_simp
        apply hK
        ·
         simp only [Act.put, List.setIfInBounds_toArray, List.set_cons_zero, List.set_cons_succ]
         exact rfl
        ·
         exact Below.refl _ _
        ·
         exact IsOut
       refine ⟨fun u W hb hd K hK => ?_, ?_⟩
       ·
        simp only [Facts, nthR, Is, and_true] at hd
        simp only [hd] at hK ⊢
        clear hd
        go_simp
        apply hK
        ·
         simp only [Act.put, List.setIfInBounds_toArray, List.set_cons_zero, List.set_cons_succ]
         exact rfl
        ·
         exact Below.refl _ _
        ·
         exact IsOut
       refine ⟨fun u W hb hd K hK => ?_, ?_⟩
       ·
        simp only [Facts, nthR, Is, and_true] at hd
        simp only [hd] at hK ⊢
        clear hd
        go_simp
        apply hK
        ·
         simp only [Act.put, List.setIfInBounds_toArray, List.set_cons_zero, List.set_cons_succ]
         exact rfl
        ·
         exact Below.refl _ _
        ·
         exact IsOut
       refine ⟨fun u W hb hd K hK => ?_, ?_⟩
       ·
        simp only [Facts, nthR, Is, and_true] at hd
        simp only [hd] at hK ⊢
        clear hd
        go_simp
        apply hK
        ·
         simp only [Act.put, List.setIfInBounds_toArray, List.set_cons_zero, List.set_cons_succ]
         exact rfl
        ·
         exact Below.refl _ _
        ·
         exact IsOut
       refine ⟨fun u W hb hd K hK => ?_, ?_⟩
       ·
        clear hd
        go_simp
        apply hK
        ·
         simp only [Act.put, List.setIfInBounds_toArray, List.set_cons_zero, List.set_cons_succ]
         exact rfl
        ·
         exact Below.refl _ _
        ·
         exact IsOut
       exact trivial
      ·
       exact (.is (.is (.is (.is (.is (.is (.is (.is (.is (.is (.is .nil)))))))))))
      ·
       intro u W hb hd
       simp only [Facts, nthR, Is, and_true] at hd
       simp only [hd]
       go_wp2
       go_ret3
       refine ⟨_, _, _, by rw [HZ.out]; rfl, by rw [HZ.out]; exact HTL.out, ?_, hb⟩
       rw [HZ.out]
       exact (in_up IB.out hb).take j
    ·
     have hkf : kindB (x.toNat : Int) = false := by simpa using hkd
     have HZ := Lib.hid (show withinE X = (0, [], 2) by unfold withinE; rw [HS.out, Nat.add_sub_cancel, ← HX.out, if_neg (by omega), if_pos hkf])
     clear hkd h0
     go_wp2_with (go_at_call 31; refine (isKind_e _ _).mono ?_; rintro e w' ⟨rfl, hww⟩; have hw2 := hww.symm; subst hw2)
     go_ret3
     refine ⟨_, _, _, by rw [HZ.out]; rfl, by rw [HZ.out]; rfl, ?_, Below.refl _ _⟩
     rw [HZ.out]
     exact in_nil _ 0 (by decide) _

end Go.Proofs.YtnjpcbbdhimacaaDoor
