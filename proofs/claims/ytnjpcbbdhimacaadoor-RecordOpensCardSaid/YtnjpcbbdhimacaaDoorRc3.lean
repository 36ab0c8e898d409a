/-
 Rc3.
-/
import Derived.Test.YtnjpcbbdhimacaaDoorRc2
import Derived.Test.YtnjpcbbdhimacaaDoorKg
import Derived.Lib.LazyBuf
namespace Go.Proofs.YtnjpcbbdhimacaaDoor
open Go.RowKit
theorem eql_nil_slice (w : World) (a : Option Addr) (l c : Nat) : (binOp .eql 24 (.slice a l c) (.slice none 0 0)).run Tryd.prog w = .ok (.bool a.isNone) w := by
 exact _root_.Go.run_eql_slice_nil w _ _ a l c Tryd.underlying24
theorem src_at {w : World} {A : Option Addr} {g n c : Nat} {s : List UInt8} (h : Src w g A s) (hs : s.length = n) : _root_.Go.Src Tryd.prog 1 24 (.slice A n c) s.length (s.map B8) w := by
 have := src_in' (c := c) h
 rwa [hs] at this ⊢
/-- One record as it stands: its kind, its body, what is wrong. -/
def partsE (b : List UInt8) : Nat × List UInt8 × Nat :=
 if (sizeE b).2 ≠ 0 then (0, [], (sizeE b).2) else if (sizeE b).1 < b.length then (0, [], 2) else ((b.getD 0 0).toNat, b.drop 5, 0)
theorem sizeE_fine {b : List UInt8} (h : (sizeE b).2 = 0) : 5 ≤ b.length ∧ (sizeE b).1 = 5 + cntB b ∧ 5 + cntB b ≤ b.length ∧ cntB b ≤ 16640 := by
 unfold sizeE at *
 split at h
 ·
  simp at h
 ·
  split at h
  ·
   simp at h
  ·
   split at h
   ·
    simp at h
   ·
    split at h
    ·
     simp at h
    ·
     rename_i h1 h2 h3 h4
     rw [if_neg h1, if_neg h2, if_neg h3, if_neg h4]
     exact ⟨by omega, rfl, by omega, by omega⟩
set_option maxRecDepth 100000 in
set_option maxHeartbeats 1000000 in
theorem parts_e (A : Option Addr) (c n : Nat) (b : List UInt8) (w : World) (hn : b.length = n) (iB : In w w.heap.size A c b) :
  Calls Tryd.prog 34 #[.slice A n c] w fun e w' => ∃ A' n' c', e = .returned (.tuple #[.int .i64 ((partsE b).1 : Int), .slice A' n' c', .int .i64 ((partsE b).2.2 : Int)]) ∧ (partsE b).2.1.length = n' ∧ In w' w'.heap.size A' c' (partsE b).2.1 ∧ Below w.heap.size w w' := by
 have HS := Lib.hid (fun (W : World) (i : In W W.heap.size A c b) => sizeOf_e A c n W.heap.size b W hn i (Nat.le_refl _))
 have IB := Lib.hid iB
 clear iB
 by_cases hz : (sizeE b).2 = 0
 ·
  obtain ⟨h5, hs1, hs2, _⟩ := sizeE_fine hz
  have HZ2 := Lib.hid hz
  obtain ⟨s, hs⟩ : ∃ s, s = (sizeE b).1 := ⟨_, rfl⟩
  simp only [hz, ← hs] at HS
  by_cases hlt : s < n
  ·
   have HZ := Lib.hid (show partsE b = (0, [], 2) by unfold partsE; rw [if_neg (by rw [hz]; decide), if_pos (by rw [← hs, hn]; exact hlt)])
   have hd : (s : Int) < (n : Int) := by omega
   clear hz hs hs1 hs2 h5 hlt
   go_enter Tryd.func34, Tryd.ntmps34
   go_wp2_with (go_at_call 65; refine (HS.out _ IB.out).mono ?_; rintro e w2 ⟨rfl, hb2⟩)
   go_ret3
   refine ⟨_, _, _, by rw [HZ.out]; rfl, by rw [HZ.out]; rfl, ?_, hb2⟩
   rw [HZ.out]
   exact in_nil _ 0 (by decide) _
  ·
   have HZ := Lib.hid (show partsE b = ((b.getD 0 0).toNat, b.drop 5, 0) by unfold partsE; rw [if_neg (by rw [hz]; decide), if_neg (by rw [← hs, hn]; exact hlt)])
   have hd : ¬ (s : Int) < (n : Int) := by omega
   obtain ⟨gb, ob, rfl, hgb, hby⟩ := IB.out.2.2 (by omega)
   obtain ⟨x, hx⟩ : ∃ x, x = b.getD 0 0 := ⟨_, rfl⟩
   have hc0 := fun (W : World) (h : Below w.heap.size w W) => (World.cell?_of_block (w := w) (w' := W) (a := ⟨gb, ob + 0, none⟩) (h.block gb (by omega))).trans (hby 0 (by omega))
   simp only [← hx, Nat.add_zero] at hc0
   have HC0 := Lib.hid hc0
   have H5 := Lib.hid h5
   rw [← hx] at HZ
   obtain ⟨hx1, hx2, hx3, hx4⟩ := ix_byte x
   have hbc := IB.out.1
   have HLD := Lib.hid (show (b.drop 5).length = n - 5 by rw [List.length_drop, hn])
   have h0n : 0 < n := by omega
   have h5n : (5 : Int) ≤ (n : Int) := by omega
   have hnc : (n : Int) ≤ (c : Int) := by omega
   clear hz hs hs1 hs2 h5 hlt hby hx hc0
   go_enter Tryd.func34, Tryd.ntmps34
   go_upto_region 6 with (go_at_call 65; refine (HS.out _ IB.out).mono ?_; rintro e w2 ⟨rfl, hb2⟩)
   rw [show decide (s < n) = false by simp; omega]
   apply wp_region_once (D := [[], [0], [0, 1], [0, 1, 2], [], [4], [0, 1, 2, 3], [0, 1, 2, 3, 4, 5, 6], [0, 1, 2, 3, 4, 5, 6, 7]]) (J := [[], [0], [1], [2], [], [4], [3], [5], []]) (Je := [6, 7, 8]) (Rs := [Is _, Is _, Is _, Is _, Is _, Is _, Is _, Is _, Is _])
   ·
    kernel_rfl
   ·
    kernel_rfl
   ·
    kernel_rfl
   ·
    kernel_rfl
   ·
    kernel_rfl
   ·
    kernel_rfl
   ·
    intro u
    simp only [List.map_cons, List.map_nil, fillU, List.setIfInBounds_toArray, List.set_cons_zero, List.set_cons_succ, Nat.zero_add, Nat.reduceAdd]
    exact rfl
   ·
    skip
    refine ⟨fun u W hb hd K hK => ?_, ?_⟩
    ·
     clear hd
     go_simp
     apply hK
     ·
      simp only [Act.put, List.setIfInBounds_toArray, List.set_cons_zero, List.set_cons_succ]
      exact rfl
     ·
      exact Below.refl _ _
     ·
      exact IsOut
    refine ⟨fun u W hb hd K hK => ?_, ?_⟩
    ·
     simp only [Facts, nthR, Is, and_true] at hd
     simp only [hd] at hK ⊢
     clear hd
     go_simp
     apply hK
     ·
      simp only [Act.put, List.setIfInBounds_toArray, List.set_cons_zero, List.set_cons_succ]
      exact rfl
     ·
      exact Below.refl _ _
     ·
      exact IsOut
    refine ⟨fun u W hb hd K hK => ?_, ?_⟩
    ·
     simp only [Facts, nthR, Is, and_true] at hd
     simp only [hd] at hK ⊢
     clear hd
     have hcc := HC0.out W (hb2.trans (hb.mono hb2.size))
     go_simp
     apply hK
     ·
      simp only [Act.put, List.setIfInBounds_toArray, List.set_cons_zero, List.set_cons_succ]
      exact rfl
     ·
      exact Below.refl _ _
     ·
      exact IsOut
    refine ⟨fun u W hb hd K hK => ?_, ?_⟩
    ·
     simp only [Facts, nthR, Is, and_true] at hd
     simp only [hd] at hK ⊢
     clear hd
     go_simp
     apply hK
     ·
      simp only [Act.put, List.setIfInBounds_toArray, List.set_cons_zero, List.set_cons_succ]
      exact rfl
     ·
      exact Below.refl _ _
     ·
      exact IsOut
    refine ⟨fun u W hb hd K hK => ?_, ?_⟩
    ·
     clear hd
     go_simp
     apply hK
     ·
      simp only [Act.put, List.setIfInBounds_toArray, List.set_cons_zero, List.set_cons_succ]
      exact rfl
     ·
      exact Below.refl _ _
     ·
      exact IsOut
    refine ⟨fun u W hb hd K hK => ?_, ?_⟩
    ·
     simp only [Facts, nthR, Is, and_true] at hd
     simp only [hd] at hK ⊢
     clear hd
     go_simp
     apply hK
     ·
      simp only [Act.put, List.setIfInBounds_toArray, List.set_cons_zero, List.set_cons_succ]
      exact rfl
     ·
      exact Below.refl _ _
     ·
      exact IsOut
    refine ⟨fun u W hb hd K hK => ?_, ?_⟩
    ·
     simp only [Facts, nthR, Is, and_true] at hd
     simp only [hd] at hK ⊢
     clear hd
     go_simp
     apply hK
     ·
      simp only [Act.put, List.setIfInBounds_toArray, List.set_cons_zero, List.set_cons_succ]
      exact rfl
     ·
      exact Below.refl _ _
     ·
      exact IsOut
    refine ⟨fun u W hb hd K hK => ?_, ?_⟩
    ·
     simp only [Facts, nthR, Is, and_true] at hd
     simp only [hd] at hK ⊢
     clear hd
     go_simp
     apply hK
     ·
      simp only [Act.put, List.setIfInBounds_toArray, List.set_cons_zero, List.set_cons_succ]
      exact rfl
     ·
      exact Below.refl _ _
     ·
      exact IsOut
    refine ⟨fun u W hb hd K hK => ?_, ?_⟩
    ·
     clear hd
     go_simp
     apply hK
     ·
      simp only [Act.put, List.setIfInBounds_toArray, List.set_cons_zero, List.set_cons_succ]
      exact rfl
     ·
      exact Below.refl _ _
     ·
      exact IsOut
    exact trivial
   ·
    exact (.is (.is (.is (.is (.is (.is (.is (.is (.is .nil)))))))))
   ·
    intro u W hb hd
    simp only [Facts, nthR, Is, and_true] at hd
    simp only [hd]
    replace hb2 := hb2.trans (hb.mono hb2.size)
    have hid := in_drop (in_up IB.out hb2) 5 H5.out
    go_wp2
    all_goals (go_ret3; refine ⟨_, _, _, by rw [HZ.out]; rfl, by rw [HZ.out]; exact HLD.out, ?_, hb2⟩; rw [HZ.out])
    all_goals first | (have h5 := ‹c = 5›; subst h5; exact hid) | (rw [if_neg ‹¬c = 5›] at hid; exact hid)
 ·
  have HZ := Lib.hid (show partsE b = (0, [], (sizeE b).2) by unfold partsE; rw [if_pos hz])
  obtain ⟨s, hs⟩ : ∃ s, s = sizeE b := ⟨_, rfl⟩
  rw [← hs] at HS HZ hz
  obtain ⟨s1, s2⟩ := s
  have hd : ¬ (s2 : Int) = 0 := by simpa using hz
  clear hs hz
  go_enter Tryd.func34, Tryd.ntmps34
  go_wp2_with (go_at_call 65; refine (HS.out _ IB.out).mono ?_; rintro e w2 ⟨rfl, hb2⟩)
  go_ret3
  refine ⟨_, _, _, by rw [HZ.out]; rfl, by rw [HZ.out]; rfl, ?_, hb2⟩
  rw [HZ.out]
  exact in_nil _ 0 (by decide) _

end Go.Proofs.YtnjpcbbdhimacaaDoor
