/-
  The contract of the reference's Body of layer 12.
-/
import Derived.Test.YtofijdbabagilaaDoorRd2
namespace Go.Proofs.YtofijdbabagilaaDoor
open Go.RowKit

theorem str_none (r : List UInt8) (h : r ≠ []) : ¬ (⟨r.toArray⟩ : ByteArray) = ⟨#[]⟩ := fun e => h (by
  have := congrArg ByteArray.data e
  simpa using this)
theorem ix_body (n : Nat) (h5 : 5 ≤ n) : (0 : Int) ≤ (n : Int) - 5 ∧ (5 : Int) ≤ (n : Int) ∧ 0 < n ∧ (n : Int) - 5 = ((n - 5 : Nat) : Int) := by omega
theorem ix_most (n : Nat) (h5 : 5 ≤ n) (h : 16384 < n - 5) : (16384 : Int) < (n : Int) - 5 := by omega
theorem ix_most' (n : Nat) (h5 : 5 ≤ n) (h : ¬ 16384 < n - 5) : ¬ (16384 : Int) < (n : Int) - 5 := by omega

set_option maxRecDepth 100000 in
set_option maxHeartbeats 1000000 in
theorem rbody_e (n : Nat) (b : List UInt8) (w : World) (hn : b.length = n) (hm : n < 1000000) :
    Calls Tryd.prog 12 #[.string ⟨b.toArray⟩] w fun e w' => e = .returned (.tuple #[.int .i64 ((bodyE b).1 : Int), .string ⟨(bodyE b).2.1.toArray⟩, .int .i64 ((bodyE b).2.2 : Int)]) ∧ Below w.heap.size w w' := by
  have hlen : (b.length : Int) = (n : Int) := by omega
  have HC := Lib.hid (rcut_e n b w hn hm)
  by_cases hz : (sizeE b).2 = 0
  · obtain ⟨h5, hs1, hs2, _⟩ := sizeE_fine hz
    obtain ⟨s, hs⟩ : ∃ s, s = (sizeE b).1 := ⟨_, rfl⟩
    have hcz : cutE b = (b.take s, b.drop s, 0) := by unfold cutE; rw [if_neg (by rw [hz]; decide), ← hs]
    rw [hcz] at HC
    by_cases hlt : s < n
    · have HZ := Lib.hid (show bodyE b = (0, [], 2) by unfold bodyE partsE; rw [if_pos (by rw [if_neg (by rw [hz]; decide), if_pos (by rw [← hs, hn]; exact hlt)]; decide), if_neg (by rw [hz]; decide), if_pos (by rw [← hs, hn]; exact hlt)])
      have hne : (b.drop s).isEmpty = false := List.isEmpty_eq_false_iff.2 (fun e => by
        have := congrArg List.length e
        rw [List.length_drop] at this
        simp at this
        omega)
      generalize b.drop s = r at *
      generalize b.take s = q at *
      clear hz hs hs1 hs2 h5 hlt hn hlen
      go_enter Tryd.func12, Tryd.ntmps12
      go_wp2_with (go_at_call 10; refine HC.out.mono ?_; rintro e w2 ⟨rfl, hb2⟩)
      go_ret3
      exact ⟨by rw [HZ.out]; rfl, hb2⟩
    · have hd0 : b.drop s = [] := List.drop_of_length_le (by omega)
      rw [hd0] at HC
      have h5n : 5 ≤ n := by omega
      obtain ⟨i1, i2, i3, i4⟩ := ix_body n h5n
      by_cases hbig : 16384 < n - 5
      · have HZ := Lib.hid (show bodyE b = (0, [], 4) by
          have e : partsE b = ((b.getD 0 0).toNat, b.drop 5, 0) := by unfold partsE; rw [if_neg (by rw [hz]; decide), if_neg (by rw [← hs, hn]; exact hlt)]
          unfold bodyE
          rw [e, if_neg (by simp), if_pos (by rw [List.length_drop, hn]; exact hbig)])
        have hd := ix_most n h5n hbig
        generalize b.take s = q at *
        clear hz hs hs1 hs2 h5 hlt hn hd0 hbig i4
        go_enter Tryd.func12, Tryd.ntmps12
        go_wp2_with (go_at_call 10; refine HC.out.mono ?_; rintro e w2 ⟨rfl, hb2⟩)
        go_ret3
        exact ⟨by rw [HZ.out]; rfl, hb2⟩
      · obtain ⟨x, hx⟩ : ∃ x, x = b.getD 0 0 := ⟨_, rfl⟩
        have HZ := Lib.hid (show bodyE b = (x.toNat, b.drop 5, 0) by
          have e : partsE b = ((b.getD 0 0).toNat, b.drop 5, 0) := by unfold partsE; rw [if_neg (by rw [hz]; decide), if_neg (by rw [← hs, hn]; exact hlt)]
          unfold bodyE
          rw [e, if_neg (by simp), if_neg (by rw [List.length_drop, hn]; exact hbig), hx])
        have hd := ix_most' n h5n hbig
        have q0 : 0 < b.length := by omega
        have s0 := str_get b 0 q0
        rw [← hx] at s0
        have HI0 := Lib.hid s0
        obtain ⟨hx1, _, hx3, _⟩ := ix_byte x
        have hey := extract_from b 5 b.length (Nat.le_refl _)
        generalize b.take s = q at *
        clear hz hs hs1 hs2 h5 hlt hn hd0 hbig i4 hx s0
        go_enter Tryd.func12, Tryd.ntmps12
        go_upto_region 8 with (go_at_call 10; refine HC.out.mono ?_; rintro e w2 ⟨rfl, hb2⟩)
        apply wp_region_once (D := [[], [0], [0, 1], [], [3], [0, 1, 2], [0, 1, 2, 3, 4, 5], [0, 1, 2, 3, 4, 5, 6]]) (J := [[], [0], [1], [], [3], [2], [4], []]) (Je := [5, 6, 7]) (Rs := [Is _, Is _, Is _, Is _, Is _, Is _, Is _, Is _])
        · kernel_rfl
        · kernel_rfl
        · kernel_rfl
        · kernel_rfl
        · kernel_rfl
        · kernel_rfl
        · intro u
          simp only [List.map_cons, List.map_nil, fillU, List.setIfInBounds_toArray, List.set_cons_zero, List.set_cons_succ, Nat.zero_add, Nat.reduceAdd]
          exact rfl
        · skip
          refine ⟨fun u W hb hd K hK => ?_, ?_⟩
          · clear hd
            go_simp
            apply hK
            · simp only [Act.put, List.setIfInBounds_toArray, List.set_cons_zero, List.set_cons_succ]
              exact rfl
            · exact Below.refl _ _
            · exact IsOut
          refine ⟨fun u W hb hd K hK => ?_, ?_⟩
          · simp only [Facts, nthR, Is, and_true] at hd
            simp only [hd] at hK ⊢
            clear hd
            have hss := HI0.out
            go_simp
            apply hK
            · simp only [Act.put, List.setIfInBounds_toArray, List.set_cons_zero, List.set_cons_succ]
              exact rfl
            · exact Below.refl _ _
            · exact IsOut
          refine ⟨fun u W hb hd K hK => ?_, ?_⟩
          · simp only [Facts, nthR, Is, and_true] at hd
            simp only [hd] at hK ⊢
            clear hd
            go_simp
            apply hK
            · simp only [Act.put, List.setIfInBounds_toArray, List.set_cons_zero, List.set_cons_succ]
              exact rfl
            · exact Below.refl _ _
            · exact IsOut
          refine ⟨fun u W hb hd K hK => ?_, ?_⟩
          · clear hd
            go_simp
            apply hK
            · simp only [Act.put, List.setIfInBounds_toArray, List.set_cons_zero, List.set_cons_succ]
              exact rfl
            · exact Below.refl _ _
            · exact IsOut
          refine ⟨fun u W hb hd K hK => ?_, ?_⟩
          · simp only [Facts, nthR, Is, and_true] at hd
            simp only [hd] at hK ⊢
            clear hd
            go_simp
            apply hK
            · simp only [Act.put, List.setIfInBounds_toArray, List.set_cons_zero, List.set_cons_succ]
              exact rfl
            · exact Below.refl _ _
            · exact IsOut
          refine ⟨fun u W hb hd K hK => ?_, ?_⟩
          · simp only [Facts, nthR, Is, and_true] at hd
            simp only [hd] at hK ⊢
            clear hd
            go_simp
            apply hK
            · simp only [Act.put, List.setIfInBounds_toArray, List.set_cons_zero, List.set_cons_succ]
              exact rfl
            · exact Below.refl _ _
            · exact IsOut
          refine ⟨fun u W hb hd K hK => ?_, ?_⟩
          · simp only [Facts, nthR, Is, and_true] at hd
            simp only [hd] at hK ⊢
            clear hd
            go_simp
            apply hK
            · simp only [Act.put, List.setIfInBounds_toArray, List.set_cons_zero, List.set_cons_succ]
              exact rfl
            · exact Below.refl _ _
            · exact IsOut
          refine ⟨fun u W hb hd K hK => ?_, ?_⟩
          · clear hd
            go_simp
            apply hK
            · simp only [Act.put, List.setIfInBounds_toArray, List.set_cons_zero, List.set_cons_succ]
              exact rfl
            · exact Below.refl _ _
            · exact IsOut
          exact trivial
        · exact (.is (.is (.is (.is (.is (.is (.is (.is .nil))))))))
        · intro u W hb hd
          simp only [Facts, nthR, Is, and_true] at hd
          simp only [hd]
          go_wp2
          go_ret3
          exact ⟨by rw [HZ.out]; rfl, hb2.trans (hb.mono hb2.size)⟩
  · have hcz : cutE b = ([], [], (sizeE b).2) := by unfold cutE; rw [if_pos hz]
    have hpz : partsE b = (0, [], (sizeE b).2) := by unfold partsE; rw [if_pos hz]
    have HZ := Lib.hid (show bodyE b = (0, [], (sizeE b).2) by unfold bodyE; rw [hpz, if_pos hz])
    rw [hcz] at HC
    generalize (sizeE b).2 = z at *
    have hd : ¬ (z : Int) = 0 := by omega
    clear hz hcz hpz hn hlen
    go_enter Tryd.func12, Tryd.ntmps12
    go_wp2_with (go_at_call 10; refine HC.out.mono ?_; rintro e w2 ⟨rfl, hb2⟩)
    go_ret3
    exact ⟨by rw [HZ.out]; rfl, hb2⟩
end Go.Proofs.YtofijdbabagilaaDoor
