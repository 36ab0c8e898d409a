/-
  The contracts of package record's Bare, Body and Cut.
-/
import Derived.Test.YtofijdbabagilaaDoorRc3
namespace Go.Proofs.YtofijdbabagilaaDoor
open Go.RowKit

/-- A bare record; what is wrong. -/
def bareE (k : Int) (b : List UInt8) : List UInt8 × Nat :=
  if kindB k = false then ([], 1) else if 16384 < b.length then ([], 4) else (headE k.toNat b.length ++ b, 0)
theorem kindB_three {k : Int} (h : kindB k = true) : k = 21 ∨ k = 22 ∨ k = 23 := by
  unfold kindB at h; simp at h; omega
set_option maxRecDepth 100000 in
set_option maxHeartbeats 1000000 in
theorem bare_e (k : Int) (A : Option Addr) (c n : Nat) (b : List UInt8) (w : World) (hn : b.length = n) (iB : In w w.heap.size A c b) (hm : n < 1000000) :
    Calls Tryd.prog 7 #[.int .i64 k, .slice A n c] w fun e w' => ∃ A' n' c', e = .returned (.tuple #[.slice A' n' c', .int .i64 ((bareE k b).2 : Int)]) ∧ Buf w' w.heap.size A' n' c' (bareE k b).1 ∧ Below w.heap.size w w' := by
  have IB := Lib.hid iB
  clear iB
  by_cases hk : kindB k = true
  · by_cases hbig : 16384 < n
    · have HZ := Lib.hid (show bareE k b = ([], 4) by unfold bareE; rw [if_neg (by rw [hk]; decide), if_pos (by rw [hn]; exact hbig)])
      have hd : (16384 : Int) < (n : Int) := by omega
      clear hbig
      go_enter Tryd.func7, Tryd.ntmps7
      go_wp2_with (go_at_call 32; refine (isKind_e _ _).mono ?_; rintro e w' ⟨rfl, rfl⟩)
      go_ret2
      exact ⟨none, 0, 0, by rw [HZ.out]; rfl, by rw [HZ.out]; exact Buf.nil _ _, Below.refl _ _⟩
    · have HZ := Lib.hid (show bareE k b = (headE k.toNat n ++ b, 0) by unfold bareE; rw [if_neg (by rw [hk]; decide), if_neg (by rw [hn]; exact hbig), hn])
      have hd : ¬ (16384 : Int) < (n : Int) := by omega
      have hn65 : n < 65536 := by omega
      obtain ⟨q, rfl⟩ : ∃ q : Nat, k = (q : Int) := ⟨k.toNat, by rcases kindB_three hk with h | h | h <;> omega⟩
      have hq : q < 1000 := by rcases kindB_three hk with h | h | h <;> omega
      rw [Int.toNat_natCast] at HZ
      have HH := Lib.hid (fun W => head_e q n hq hn65 W)
      have HN := Lib.hid hn
      clear hbig hq hn
      go_enter Tryd.func7, Tryd.ntmps7
      go_wp2_with (first
        | (go_at_call 32; refine (isKind_e _ _).mono ?_; rintro e w' ⟨rfl, hww⟩; subst hww)
        | (go_at_call 33; refine (HH.out _).mono ?_; rintro e w2 ⟨A2, rfl, hB2, hb2⟩)
        | ((with_reducible refine (?_ : wpList _ _ _ (Oper.mk (some 17) _ _ _ _ _ :: _) _ _)); go_loud (refine wpList_append_far rfl (.tmp 15) (.tmp 16) 22 rfl _ _ 5 _ _ b _ rfl hB2 rfl (src_at ((in_up IB.out hb2).src (Nat.le_refl _)) HN.out) (by rw [HN.out]; omega) hb2.size (5 + n) (by rw [HN.out]) ?_); intro A5 c5 w5 hB5 hg5 _; have hbw5 := below_own hb2 hB2 hg5 (Nat.le_refl _) hb2.size))
      go_ret2
      exact ⟨_, _, _, by rw [HZ.out]; rfl, by rw [HZ.out]; exact hB5, hbw5⟩
  · have hkf : kindB k = false := by simpa using hk
    have HZ := Lib.hid (show bareE k b = ([], 1) by unfold bareE; rw [if_pos hkf])
    clear hk
    go_enter Tryd.func7, Tryd.ntmps7
    go_wp2_with (go_at_call 32; refine (isKind_e _ _).mono ?_; rintro e w' ⟨rfl, rfl⟩)
    go_ret2
    exact ⟨none, 0, 0, by rw [HZ.out]; rfl, by rw [HZ.out]; exact Buf.nil _ _, Below.refl _ _⟩
/-- What a bare record holds: its kind, its bytes, what is wrong. -/
def bodyE (b : List UInt8) : Nat × List UInt8 × Nat :=
  if (partsE b).2.2 ≠ 0 then (0, [], (partsE b).2.2) else if 16384 < (partsE b).2.1.length then (0, [], 4) else ((partsE b).1, (partsE b).2.1, 0)
set_option maxRecDepth 100000 in
set_option maxHeartbeats 1000000 in
theorem body_e (A : Option Addr) (c n : Nat) (b : List UInt8) (w : World) (hn : b.length = n) (iB : In w w.heap.size A c b) (hm : n < 1000000) :
    Calls Tryd.prog 11 #[.slice A n c] w fun e w' => ∃ A' n' c', e = .returned (.tuple #[.int .i64 ((bodyE b).1 : Int), .slice A' n' c', .int .i64 ((bodyE b).2.2 : Int)]) ∧ Buf w' w.heap.size A' n' c' (bodyE b).2.1 ∧ Below w.heap.size w w' := by
  have HP := Lib.hid (parts_e A c n b w hn iB)
  have hlen : (partsE b).2.1.length ≤ n := by
    unfold partsE
    split
    · simp
    · split
      · simp
      · simp; omega
  obtain ⟨p, hp⟩ : ∃ p, p = partsE b := ⟨_, rfl⟩
  obtain ⟨k, y, f⟩ := p
  have HB0 := Lib.hid (show bodyE b = if f ≠ 0 then (0, [], f) else if 16384 < y.length then (0, [], 4) else (k, y, 0) by unfold bodyE; rw [← hp])
  rw [← hp] at HP hlen
  clear hp iB hn
  have hl : y.length ≤ n := hlen
  clear hlen
  obtain ⟨m, hym⟩ : ∃ m, m = y.length := ⟨_, rfl⟩
  by_cases hf : f = 0
  · subst hf
    rw [if_neg (by simp)] at HB0
    by_cases hbig : 16384 < m
    · have HZ := Lib.hid (show bodyE b = (0, [], 4) by rw [HB0.out, if_pos (by rw [← hym]; exact hbig)])
      have hd : (16384 : Int) < (m : Int) := by omega
      have HM := Lib.hid hym
      clear hbig hym
      go_enter Tryd.func11, Tryd.ntmps11
      go_wp2_with (go_at_call 37; refine HP.out.mono ?_; rintro e w2 ⟨A2, n2, c2, rfl, hn2, hi2, hb2⟩; have hnm : n2 = m := (by rw [HM.out]; exact hn2.symm); subst hnm)
      go_ret3
      exact ⟨none, 0, 0, by rw [HZ.out]; rfl, by rw [HZ.out]; exact Buf.nil _ _, hb2⟩
    · have HZ := Lib.hid (show bodyE b = (k, y, 0) by rw [HB0.out, if_neg (by rw [← hym]; exact hbig)])
      have hd : ¬ (16384 : Int) < (m : Int) := by omega
      have hm2 : m < 1000000 := by omega
      have HM := Lib.hid hym
      clear hbig hym
      go_enter Tryd.func11, Tryd.ntmps11
      go_wp2_with (first
        | (go_at_call 37; refine HP.out.mono ?_; rintro e w2 ⟨A2, n2, c2, rfl, hn2, hi2, hb2⟩; have hnm : n2 = m := (by rw [HM.out]; exact hn2.symm); subst hnm)
        | (go_at_call 36; refine (clone_e _ _ _ y _ HM.out.symm hi2 hm2).mono ?_; rintro e w3 ⟨A3, c3, rfl, hB3, hb3⟩))
      go_ret3
      exact ⟨_, _, _, by rw [HZ.out]; rfl, by rw [HZ.out]; exact hB3.base hb2.size, hb2.trans (hb3.mono hb2.size)⟩
  · rw [if_pos hf] at HB0
    have hd : ¬ (f : Int) = 0 := by omega
    clear hym
    go_enter Tryd.func11, Tryd.ntmps11
    go_wp2_with (go_at_call 37; refine HP.out.mono ?_; rintro e w2 ⟨A2, n2, c2, rfl, hn2, hi2, hb2⟩)
    go_ret3
    exact ⟨none, 0, 0, by rw [HB0.out]; rfl, by rw [HB0.out]; exact Buf.nil _ _, hb2⟩
/-- The first record, what is behind it, what is wrong. -/
def cutE (b : List UInt8) : List UInt8 × List UInt8 × Nat :=
  if (sizeE b).2 ≠ 0 then ([], [], (sizeE b).2) else (b.take (sizeE b).1, b.drop (sizeE b).1, 0)
set_option maxRecDepth 100000 in
set_option maxHeartbeats 1000000 in
theorem cut_e (A : Option Addr) (c n : Nat) (b : List UInt8) (w : World) (hn : b.length = n) (iB : In w w.heap.size A c b) (hm : n < 1000000) :
    Calls Tryd.prog 9 #[.slice A n c] w fun e w' => ∃ A1 n1 c1 A2 n2 c2, e = .returned (.tuple #[.slice A1 n1 c1, .slice A2 n2 c2, .int .i64 ((cutE b).2.2 : Int)]) ∧ Buf w' w.heap.size A1 n1 c1 (cutE b).1 ∧ Buf w' w.heap.size A2 n2 c2 (cutE b).2.1 ∧ Below w.heap.size w w' := by
  have HS := Lib.hid (sizeOf_e A c n w.heap.size b w hn iB (Nat.le_refl _))
  have IB := Lib.hid iB
  by_cases hz : (sizeE b).2 = 0
  · obtain ⟨h5, hs1, hs2, _⟩ := sizeE_fine hz
    obtain ⟨s, hs⟩ : ∃ s, s = (sizeE b).1 := ⟨_, rfl⟩
    have HZ := Lib.hid (show cutE b = (b.take s, b.drop s, 0) by unfold cutE; rw [if_neg (by rw [hz]; decide), ← hs])
    rw [hz, ← hs] at HS
    obtain ⟨gb, ob, rfl, hgb, _⟩ := iB.2.2 (by omega)
    have hsn : s ≤ n := by omega
    have hsc : s ≤ c := by have := iB.1; omega
    have hnc : n ≤ c := by have := iB.1; omega
    have HTK := Lib.hid (fun (W : World) (h : Below w.heap.size w W) => clone_e (some ⟨gb, ob, none⟩) c s (b.take s) W (by rw [List.length_take]; omega) ((in_up IB.out h).take s) (by omega))
    have HDR := Lib.hid (fun (W : World) (h : Below w.heap.size w W) => clone_e _ (c - s) (n - s) (b.drop s) W (by rw [List.length_drop]; omega) (in_drop (in_up IB.out h) s (by omega)) (by omega))
    have hsn1 : (s : Int) ≤ (n : Int) := by omega
    have hsc1 : (s : Int) ≤ (c : Int) := by omega
    have hnc1 : (n : Int) ≤ (c : Int) := by omega
    clear hz hs hs1 hs2 h5 iB hm hn hsn hsc
    go_enter Tryd.func9, Tryd.ntmps9
    go_upto_region 4 with (go_at_call 35; refine HS.out.mono ?_; rintro e w2 ⟨rfl, hb2⟩)
    apply wp_region_once (D := [[], [], [0, 1], [0, 1, 2], [], [], [4, 5], [0, 1, 2, 3, 4, 5, 6], [0, 1, 2, 3, 4, 5, 6, 7], [0, 1, 2, 3, 4, 5, 6, 7, 8], [0, 1, 2, 3, 4, 5, 6, 7, 8, 9]]) (J := [[], [], [0, 1], [2], [], [], [4, 5], [6], [3], [7], []]) (Je := [8, 9, 10]) (Rs := [Is _, Is _, Is _, fun v V => ∃ (A' : Option Addr) (c' : Nat), v = .slice A' s c' ∧ Buf V w.heap.size A' s c' (b.take s), Is _, Is _, Is _, fun v V => ∃ (A' : Option Addr) (c' : Nat), v = .slice A' (n - s) c' ∧ Buf V w.heap.size A' (n - s) c' (b.drop s), fun v V => ∃ (A' : Option Addr) (c' : Nat), v = .slice A' s c' ∧ Buf V w.heap.size A' s c' (b.take s), fun v V => ∃ (A' : Option Addr) (c' : Nat), v = .slice A' (n - s) c' ∧ Buf V w.heap.size A' (n - s) c' (b.drop s), Is _])
    · kernel_rfl
    · kernel_rfl
    · kernel_rfl
    · kernel_rfl
    · kernel_rfl
    · kernel_rfl
    · intro u
      simp only [List.map_cons, List.map_nil, fillU, List.setIfInBounds_toArray, List.set_cons_zero, List.set_cons_succ, Nat.zero_add, Nat.reduceAdd]
      exact rfl
    · skip
      refine ⟨fun u V hb hd K hK => ?_, ?_⟩
      · clear hd
        go_simp
        apply hK
        · simp only [Act.put, List.setIfInBounds_toArray, List.set_cons_zero, List.set_cons_succ]
          exact rfl
        · exact Below.refl _ _
        · exact IsOut
      refine ⟨fun u V hb hd K hK => ?_, ?_⟩
      · clear hd
        go_simp
        apply hK
        · simp only [Act.put, List.setIfInBounds_toArray, List.set_cons_zero, List.set_cons_succ]
          exact rfl
        · exact Below.refl _ _
        · exact IsOut
      refine ⟨fun u V hb hd K hK => ?_, ?_⟩
      · simp only [Facts, nthR, Is, and_true] at hd
        simp only [hd] at hK ⊢
        clear hd
        go_simp
        apply hK
        · simp only [Act.put, List.setIfInBounds_toArray, List.set_cons_zero, List.set_cons_succ]
          exact rfl
        · exact Below.refl _ _
        · exact IsOut
      refine ⟨fun u V hb hd K hK => ?_, ?_⟩
      · simp only [Facts, nthR, Is, and_true] at hd
        simp only [hd] at hK ⊢
        clear hd
        go_simp
        refine (HTK.out V (hb2.trans (hb.mono hb2.size))).mono ?_
        rintro e wy ⟨A', c', rfl, hB', hby⟩
        exact hK _ _ _ rfl hby ⟨A', c', rfl, hB'.base (Nat.le_trans hb2.size hb.size)⟩
      refine ⟨fun u V hb hd K hK => ?_, ?_⟩
      · clear hd
        go_simp
        apply hK
        · simp only [Act.put, List.setIfInBounds_toArray, List.set_cons_zero, List.set_cons_succ]
          exact rfl
        · exact Below.refl _ _
        · exact IsOut
      refine ⟨fun u V hb hd K hK => ?_, ?_⟩
      · clear hd
        go_simp
        apply hK
        · simp only [Act.put, List.setIfInBounds_toArray, List.set_cons_zero, List.set_cons_succ]
          exact rfl
        · exact Below.refl _ _
        · exact IsOut
      refine ⟨fun u V hb hd K hK => ?_, ?_⟩
      · simp only [Facts, nthR, Is, and_true] at hd
        simp only [hd] at hK ⊢
        clear hd
        go_simp
        apply hK
        · simp only [Act.put, List.setIfInBounds_toArray, List.set_cons_zero, List.set_cons_succ]
          exact rfl
        · exact Below.refl _ _
        · exact IsOut
      refine ⟨fun u V hb hd K hK => ?_, ?_⟩
      · simp only [Facts, nthR, Is, and_true] at hd
        simp only [hd] at hK ⊢
        clear hd
        go_simp
        refine (HDR.out V (hb2.trans (hb.mono hb2.size))).mono ?_
        rintro e wy ⟨A', c', rfl, hB', hby⟩
        exact hK _ _ _ rfl hby ⟨A', c', rfl, hB'.base (Nat.le_trans hb2.size hb.size)⟩
      refine ⟨fun u V hb hd K hK => ?_, ?_⟩
      · simp only [Facts, nthR, Is, and_true] at hd
        obtain ⟨A', c', h1, hi'⟩ := hd
        simp only [h1] at hK ⊢
        clear h1
        go_simp
        apply hK
        · simp only [Act.put, List.setIfInBounds_toArray, List.set_cons_zero, List.set_cons_succ]
          exact rfl
        · exact Below.refl _ _
        · exact ⟨A', c', rfl, hi'⟩
      refine ⟨fun u V hb hd K hK => ?_, ?_⟩
      · simp only [Facts, nthR, Is, and_true] at hd
        obtain ⟨A', c', h1, hi'⟩ := hd
        simp only [h1] at hK ⊢
        clear h1
        go_simp
        apply hK
        · simp only [Act.put, List.setIfInBounds_toArray, List.set_cons_zero, List.set_cons_succ]
          exact rfl
        · exact Below.refl _ _
        · exact ⟨A', c', rfl, hi'⟩
      refine ⟨fun u V hb hd K hK => ?_, ?_⟩
      · clear hd
        go_simp
        apply hK
        · simp only [Act.put, List.setIfInBounds_toArray, List.set_cons_zero, List.set_cons_succ]
          exact rfl
        · exact Below.refl _ _
        · exact IsOut
      exact trivial
    · exact (.is (.is (.is (.cons (fun v V V' ⟨A', c', h1, h2⟩ hb => ⟨A', c', h1, h2.below hb⟩) (.is (.is (.is (.cons (fun v V V' ⟨A', c', h1, h2⟩ hb => ⟨A', c', h1, h2.below hb⟩) (.cons (fun v V V' ⟨A', c', h1, h2⟩ hb => ⟨A', c', h1, h2.below hb⟩) (.cons (fun v V V' ⟨A', c', h1, h2⟩ hb => ⟨A', c', h1, h2.below hb⟩) (.is .nil)))))))))))
    · intro u V hb hd
      simp only [Facts, nthR, Is, and_true] at hd
      obtain ⟨⟨A1, c1, h10, h11⟩, ⟨A2, c2, h12, h13⟩, h14⟩ := hd
      simp only [h10, h12, h14]
      clear h10 h12 h14
      go_wp2
      go_ret3
      exact ⟨_, _, _, _, _, _, by rw [HZ.out]; rfl, by rw [HZ.out]; exact h11, by rw [HZ.out]; exact h13, hb2.trans (hb.mono hb2.size)⟩
  · have hd : ¬ ((sizeE b).2 : Int) = 0 := by omega
    have HZ := Lib.hid (show cutE b = ([], [], (sizeE b).2) by unfold cutE; rw [if_pos hz])
    obtain ⟨s, hs⟩ : ∃ s, s = sizeE b := ⟨_, rfl⟩
    rw [← hs] at HS HZ hd
    obtain ⟨s1, s2⟩ := s
    clear hs hz iB
    go_enter Tryd.func9, Tryd.ntmps9
    go_wp2_with (go_at_call 35; refine HS.out.mono ?_; rintro e w2 ⟨rfl, hb2⟩)
    go_ret3
    exact ⟨none, 0, 0, none, 0, 0, by rw [HZ.out]; rfl, by rw [HZ.out]; exact Buf.nil _ _, by rw [HZ.out]; exact Buf.nil _ _, hb2⟩
end Go.Proofs.YtofijdbabagilaaDoor
