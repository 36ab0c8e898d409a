/-
  The contract of a key's Open.
-/
import Derived.Test.YtefbjhdcmgonbaaBSeal
namespace Go.Proofs.Ytefbjhdcmgonbaa
open Go.RowKit

theorem down_int {q p : Nat} (h : q = p + 1) : (q : Int) - 1 = (p : Int) := by omega
theorem down_meas {q p : Nat} (h : q = p + 1) : (intOf (.int .i64 (p : Int))).toNat < (intOf (.int .i64 (q : Int))).toNat := by simp [intOf]; omega
/-- A block on its way back, behind j rounds of the inner ones. -/
def openTo (L : List UInt32) (l : Nat) (s0 : List UInt32) : Nat → List UInt32
  | 0 => eachS res64 (shiftS (shiftS (shiftS (plusS s0 (rndS L l)))))
  | j + 1 => eachS res64 (shiftS (shiftS (shiftS (mixS (mixS (mixS (plusS (openTo L l s0 j) (rndS L (l - 1 - j)))))))))
def openS (L : List UInt32) (R : Nat) (b : List UInt8) : List UInt8 := bytesS (plusS (openTo L (R - 1) (stateS b) (R - 2)) (rndS L 0))
theorem openS_length (L : List UInt32) (R : Nat) (b : List UInt8) : (openS L R b).length = 16 := bytesS_length _
theorem openTo_length (L s0 : List UInt32) (l j : Nat) : (openTo L l s0 j).length = 4 := by cases j <;> rfl
set_option maxRecDepth 100000 in
set_option maxHeartbeats 4000000 in
theorem open_any (gk gr R : Nat) (L : List UInt32) (b : List UInt8) (w : World) (hk0 : KeyAt w gk gr R L) (hR : 2 ≤ R) (hR2 : R ≤ 15) (hb16 : b.length = 16) :
    Calls Try.prog 22 #[.pointer (some ⟨gk, 0, none⟩), BV b] w fun e w' => e = .returned (BV (openS L R b)) ∧ Below w.heap.size w w' := by
  have hz : ∀ W : World, (zeroValue 42).run Try.prog W = .ok (BV zero16) W := fun W => by kernel_rfl
  have HB := Lib.hid hb16
  have hll := hk0.len
  have HLL := Lib.hid hll
  obtain ⟨l, hl⟩ : ∃ l, l = R - 1 := ⟨_, rfl⟩
  obtain ⟨n, hn⟩ : ∃ n, n = l - 1 := ⟨_, rfl⟩
  have HNN := Lib.hid (show n = l - 1 ∧ l = R - 1 from ⟨hn, hl⟩)
  have HRL := Lib.hid (rndS_length (L := L) (j := l) (by omega))
  have cSt := Lib.hid (fun W => stateOf_any b HB.out W)
  have cP0 := Lib.hid (fun W => plus_any (stateS b) (rndS L l) (stateS_length b) HRL.out W)
  have cU0 := Lib.hid (fun W => unshifted_any (plusS (stateS b) (rndS L l)) (plusS_length (stateS_length b) HRL.out) W)
  have cE0 := Lib.hid (fun W => each_res64 (shiftS (shiftS (shiftS (plusS (stateS b) (rndS L l))))) (shiftS_length _) W)
  have HS0L := Lib.hid (openTo_length L (stateS b) l 0)
  rw [show eachS res64 (shiftS (shiftS (shiftS (plusS (stateS b) (rndS L l))))) = openTo L l (stateS b) 0 from rfl] at cE0
  have hgk := hk0.key.lt
  have hgr := hk0.rounds.lt
  have hR0 : (0 : Int) < (R : Int) := by omega
  have hR0' : 0 < R := by omega
  have hRl : (R : Int) - 1 = (l : Int) := by omega
  have hln : (l : Int) - 1 = (n : Int) := by omega
  have hl1 : (1 : Int) ≤ (l : Int) := by omega
  have hl0 : (0 : Int) ≤ (l : Int) := by omega
  have hl3 : (l : Int) < (R : Int) := by omega
  clear hb16 hll hl hn
  go_enter Try.func22, Try.ntmps22
  have hA0 : Blk ((w.alloc (.cells (b.map B8).toArray 42)).alloc (.cells (zero16.map B8).toArray 42)) w.heap.size 42 (b.map B8) := (Blk.new_of w 42 _ (b.map B8) rfl).alloc _
  have hO0 := Blk.new2_of w (.cells (b.map B8).toArray 42) 42 (zero16.map B8).toArray (zero16.map B8) rfl
  have hbw := ((Below.refl w.heap.size w).alloc (Nat.le_refl _) (.cells (b.map B8).toArray 42)).alloc (by simp) (.cells (zero16.map B8).toArray 42)
  have hk1 : KeyAt ((w.alloc (.cells (b.map B8).toArray 42)).alloc (.cells (zero16.map B8).toArray 42)) gk gr R L := hk0.below hbw
  go_wp2_with (go_at_call 36; refine (empty_no gk gr R L _ hk1 (by omega) hR2).mono ?_; rintro e we ⟨rfl, hwe⟩; subst hwe; have hc0 := hk1.key.cell 0; generalize (w.alloc (.cells (b.map B8).toArray 42)).alloc (.cells (zero16.map B8).toArray 42) = wq at *)
  have hc := fun V (h : Below wq.heap.size wq V) => (hk1.below h).key.cell 0
  have hrg := fun V (h : Below wq.heap.size wq V) => rangeAt_rnd (j := l) (o := l * 4) (hk1.below h).rounds rfl
  generalize rndS L l = rl at *
  have hA := hA0
  have hO := hO0
  have hk := hk1
  have hgkq : gk < wq.heap.size := hk1.key.lt
  have hgrq : gr < wq.heap.size := hk1.rounds.lt
  have hOq : w.heap.size + 1 < wq.heap.size := hO0.lt
  have hAq : w.heap.size < wq.heap.size := hA0.lt
  have hbq := hbw
  clear hA0 hO0 hk1 hbw hk0
  refine wp_region_noPanic ?_
  apply wp_region_once_tail (m := 13) (Z := []) (D := [[], [0], [], [2], [2, 3], [2, 3, 4], [], [2, 3, 4, 5, 6], [2, 3, 4, 5, 6, 7], [0, 1, 2, 3, 4, 5, 6, 7, 8], [0, 1, 2, 3, 4, 5, 6, 7, 8, 9], [0, 1, 2, 3, 4, 5, 6, 7, 8, 9, 10], [], [0, 1, 2, 3, 4, 5, 6, 7, 8, 9, 10, 11, 12]]) (J := [[], [0], [], [2], [3], [4], [], [5, 6], [7], [1, 8], [9], [10], []]) (Je := [11, 12]) (Rs := [Is _, Is _, Is _, Is _, Is _, Is _, Is _, Is _, Is _, Is _, Is _, Is _, fun v V => ∃ g', v = .pointer (some ⟨g', 0, none⟩) ∧ wq.heap.size ≤ g' ∧ Blk V g' 73 (zero4.map U32)])
  · kernel_rfl
  · kernel_rfl
  · kernel_rfl
  · kernel_rfl
  · kernel_rfl
  · kernel_rfl
  · kernel_rfl
  · exact fun h => absurd rfl h
  · intro u
    simp only [List.take_succ_cons, List.take_zero, List.map_cons, List.map_nil, fillU, List.setIfInBounds_toArray, List.set_cons_zero, List.set_cons_succ, Nat.zero_add, Nat.reduceAdd]
    exact rfl
  · simp only [List.take_succ_cons, List.take_zero]
    refine ⟨fun u W hb hd K hK => ?_, ?_⟩
    · clear hd
      rw [if_pos (by rfl)]
      refine wp_load_mid 42 (.tmp 3) rfl (w.heap.size) (0) rfl (b.map B8) _ (rangeAt_blk (hA.below hb hA.lt)) Try.underlying42 rfl (infoBk.trans (by rw [List.length_map, HB.out])) ?_
      exact hK _ _ _ rfl (Below.refl _ _) IsOut
    refine ⟨fun u W hb hd K hK => ?_, ?_⟩
    · simp only [Facts, nthR, Is, and_true] at hd
      simp only [hd] at hK ⊢
      clear hd
      go_simp
      with_reducible refine (cSt.out W).mono ?_
      rintro e wy ⟨rfl, hby⟩
      exact hK _ _ _ rfl hby IsOut
    refine ⟨fun u W hb hd K hK => ?_, ?_⟩
    · clear hd
      go_simp
      apply hK
      · simp only [Act.put, List.setIfInBounds_toArray, List.set_cons_zero, List.set_cons_succ]
        exact rfl
      · exact Below.refl _ _
      · exact IsOut
    refine ⟨fun u W hb hd K hK => ?_, ?_⟩
    · simp only [Facts, nthR, Is, and_true] at hd
      simp only [hd] at hK ⊢
      clear hd
      go_simp
      apply hK
      · simp only [Act.put, List.setIfInBounds_toArray, List.set_cons_zero, List.set_cons_succ]
        exact rfl
      · exact Below.refl _ _
      · exact IsOut
    refine ⟨fun u W hb hd K hK => ?_, ?_⟩
    · simp only [Facts, nthR, Is, and_true] at hd
      simp only [hd] at hK ⊢
      clear hd
      go_simp
      apply hK
      · simp only [Act.put, List.setIfInBounds_toArray, List.set_cons_zero, List.set_cons_succ]
        exact rfl
      · exact Below.refl _ _
      · exact IsOut
    refine ⟨fun u W hb hd K hK => ?_, ?_⟩
    · simp only [Facts, nthR, Is, and_true] at hd
      simp only [hd] at hK ⊢
      clear hd
      go_simp
      apply hK
      · simp only [Act.put, List.setIfInBounds_toArray, List.set_cons_zero, List.set_cons_succ]
        exact rfl
      · exact Below.refl _ _
      · exact IsOut
    refine ⟨fun u W hb hd K hK => ?_, ?_⟩
    · clear hd
      go_simp
      apply hK
      · simp only [Act.put, List.setIfInBounds_toArray, List.set_cons_zero, List.set_cons_succ]
        exact rfl
      · exact Below.refl _ _
      · exact IsOut
    refine ⟨fun u W hb hd K hK => ?_, ?_⟩
    · simp only [Facts, nthR, Is, and_true] at hd
      simp only [hd] at hK ⊢
      clear hd
      go_simp
      apply hK
      · simp only [Act.put, List.setIfInBounds_toArray, List.set_cons_zero, List.set_cons_succ]
        exact rfl
      · exact Below.refl _ _
      · exact IsOut
    refine ⟨fun u W hb hd K hK => ?_, ?_⟩
    · simp only [Facts, nthR, Is, and_true] at hd
      simp only [hd] at hK ⊢
      clear hd
      rw [if_pos (by rfl)]
      refine wp_load_mid 73 (.tmp 24) rfl (gr) (l * 4) rfl (rl.map U32) _ (hrg W hb) Try.underlying73 rfl (infoSt.trans (by rw [List.length_map, HRL.out])) ?_
      exact hK _ _ _ rfl (Below.refl _ _) IsOut
    refine ⟨fun u W hb hd K hK => ?_, ?_⟩
    · simp only [Facts, nthR, Is, and_true] at hd
      simp only [hd] at hK ⊢
      clear hd
      go_simp
      with_reducible refine (cP0.out W).mono ?_
      rintro e wy ⟨rfl, hby⟩
      exact hK _ _ _ rfl hby IsOut
    refine ⟨fun u W hb hd K hK => ?_, ?_⟩
    · simp only [Facts, nthR, Is, and_true] at hd
      simp only [hd] at hK ⊢
      clear hd
      go_simp
      with_reducible refine (cU0.out W).mono ?_
      rintro e wy ⟨rfl, hby⟩
      exact hK _ _ _ rfl hby IsOut
    refine ⟨fun u W hb hd K hK => ?_, ?_⟩
    · simp only [Facts, nthR, Is, and_true] at hd
      simp only [hd] at hK ⊢
      clear hd
      go_simp
      with_reducible refine (cE0.out W).mono ?_
      rintro e wy ⟨rfl, hby⟩
      exact hK _ _ _ rfl hby IsOut
    refine ⟨fun u W hb hd K hK => ?_, ?_⟩
    · clear hd
      go_simp
      apply hK
      · simp only [Act.put, List.setIfInBounds_toArray, List.set_cons_zero, List.set_cons_succ]
        exact rfl
      · exact (Below.refl _ _).alloc (Nat.le_refl _) _
      · exact ⟨_, rfl, hb.size, Blk.new_of _ _ _ _ rfl⟩
    exact trivial
  · skip
    exact trivial
  · exact (.is (.is (.is (.is (.is (.is (.is (.is (.is (.is (.is (.is (.cons (fun v V V' ⟨g', h1, h2, h3⟩ hb => ⟨g', h1, h2, h3.below hb h3.lt⟩) .nil)))))))))))))
  · intro u W hb hd
    simp only [List.drop_succ_cons, List.drop_zero]
    simp only [Facts, nthR, Is, and_true] at hd
    obtain ⟨h8, g6, h9, hg6, hZ6⟩ := hd
    simp only [h8, h9]
    clear h8 h9
    replace hA := hA.below hb hA.lt
    replace hO := hO.below hb hO.lt
    replace hk := hk.below hb
    have hbl := hbq.trans (hb.mono hbq.size)
    have hbE := hb
    clear hb hrg
    go_wp2_with (refine wpList_store_blk rfl 73 (.tmp 6) (.tmp 28) rfl rfl g6 _ rfl rfl 73 _ hZ6 (infoSt.trans (by rw [List.length_map, HS0L.out])) (by rw [List.length_map, List.length_map, HS0L.out]; rfl) (one32 _) ?_; intro w4 hS4 hgr4)
    refine NoPanic.normal ?_
    have hS4l := hS4.lt
    have hk4 : KeyAt w4 gk gr R L := ⟨hk.key.grown hgr4 (by have := hk.key.lt; simp; omega), hk.rounds.grown hgr4 (by simp; omega), hk.len⟩
    have hO4 := hO.grown hgr4 (by simp; omega)
    have hb4 := below_new hbl hgr4 (by omega) hbl.size
    clear hA hO hk hbl hgr4 hZ6
    go_wp2
    have hgw : w.heap.size ≤ g6 := by have := hbE.size; omega
    have hne : g6 ≠ w.heap.size + 1 ∧ g6 ≠ gk ∧ g6 ≠ gr := by omega
    clear hbE
    go_loopw [7] (fun i wr => ∃ j q : Nat, j + q = n ∧ i = .int .i64 (q : Int) ∧ Blk wr g6 73 ((openTo L l (stateS b) j).map U32) ∧ Blk wr (w.heap.size + 1) 42 (zero16.map B8) ∧ KeyAt wr gk gr R L ∧ Below w.heap.size w wr) (fun i _ => (intOf i).toNat)
    case atStart => exact ⟨0, n, Nat.zero_add _, rfl, hS4, hO4, hk4, hb4⟩
    case round =>
      clear hS4 hO4 hk4 hb4 hS4l
      obtain ⟨j, q, hjq, rfl, hS, hO, hk, hbw⟩ := hrel
      have hnn := HNN.out
      have hllen := HLL.out
      by_cases hlt : 0 < q
      · have hd : decide ((0 : Int) < (q : Int)) = true := by simp; omega
        have hsl := openTo_length L (stateS b) l j
        have hrl := rndS_length (L := L) (j := q) (by omega)
        obtain ⟨p, hp⟩ : ∃ p, q = p + 1 := ⟨q - 1, by omega⟩
        have hn1 : eachS res64 (shiftS (shiftS (shiftS (mixS (mixS (mixS (plusS (openTo L l (stateS b) j) (rndS L q)))))))) = openTo L l (stateS b) (j + 1) := by rw [show q = l - 1 - j by omega]; rfl
        have c1 := fun W => plus_any (openTo L l (stateS b) j) (rndS L q) hsl hrl W
        have c2 := fun W => unmixed_any (plusS (openTo L l (stateS b) j) (rndS L q)) (plusS_length hsl hrl) W
        have c3 := fun W => unshifted_any (mixS (mixS (mixS (plusS (openTo L l (stateS b) j) (rndS L q))))) (mixS_length _) W
        have c4 := fun W => each_res64 (shiftS (shiftS (shiftS (mixS (mixS (mixS (plusS (openTo L l (stateS b) j) (rndS L q)))))))) (shiftS_length _) W
        have hnl := eachS_length res64 (shiftS (shiftS (shiftS (mixS (mixS (mixS (plusS (openTo L l (stateS b) j) (rndS L q))))))))
        have hrg := fun W (h : Below wr.heap.size wr W) => rangeAt_rnd (j := q) (o := q * 4) (hk.below h).rounds rfl
        generalize eachS res64 (shiftS (shiftS (shiftS (mixS (mixS (mixS (plusS (openTo L l (stateS b) j) (rndS L q)))))))) = s4 at *
        generalize (shiftS (shiftS (shiftS (mixS (mixS (mixS (plusS (openTo L l (stateS b) j) (rndS L q)))))))) = s3 at *
        generalize (mixS (mixS (mixS (plusS (openTo L l (stateS b) j) (rndS L q))))) = s2 at *
        generalize (plusS (openTo L l (stateS b) j) (rndS L q)) = s1 at *
        generalize openTo L l (stateS b) j = s at *
        generalize rndS L q = rr at *
        have HSL := Lib.hid hsl
        have HRL := Lib.hid hrl
        have HNL := Lib.hid hnl
        have HN1 := Lib.hid hn1
        have HPJ := Lib.hid (show j + 1 + p = n by omega)
        have HW1 := Lib.hid (down_int hp)
        have HMS := Lib.hid (down_meas hp)
        have hj0 : (0 : Int) ≤ (q : Int) := by omega
        have hj1 : (q : Int) < (R : Int) := by omega
        have hgkw := hk.key.lt
        have hgrw := hk.rounds.lt
        have hg6w := hS.lt
        have hOw := hO.lt
        have hc := fun V (h : Below wr.heap.size wr V) => (hk.below h).key.cell 0
        clear hsl hrl hnl hn1 hnn hllen hp hjq
        go_wp2
        refine wp_region_noPanic ?_
        apply wp_region_once_tail (m := 12) (Z := []) (D := [[], [], [1], [1, 2], [1, 2, 3], [], [1, 2, 3, 4, 5], [1, 2, 3, 4, 5, 6], [0, 1, 2, 3, 4, 5, 6, 7], [0, 1, 2, 3, 4, 5, 6, 7, 8], [0, 1, 2, 3, 4, 5, 6, 7, 8, 9], [0, 1, 2, 3, 4, 5, 6, 7, 8, 9, 10], [0, 1, 2, 3, 4, 5, 6, 7, 8, 9, 10, 11]]) (J := [[], [], [1], [2], [3], [], [4, 5], [6], [0, 7], [8], [9], [10]]) (Je := [11]) (Rs := [Is _, Is _, Is _, Is _, Is _, Is _, Is _, Is _, Is _, Is _, Is _, Is _])
        · kernel_rfl
        · kernel_rfl
        · kernel_rfl
        · kernel_rfl
        · kernel_rfl
        · kernel_rfl
        · kernel_rfl
        · exact fun h => absurd rfl h
        · intro u
          simp only [List.take_succ_cons, List.take_zero, List.map_cons, List.map_nil, fillU, List.setIfInBounds_toArray, List.set_cons_zero, List.set_cons_succ, Nat.zero_add, Nat.reduceAdd]
          exact rfl
        · simp only [List.take_succ_cons, List.take_zero]
          refine ⟨fun u W hb hd K hK => ?_, ?_⟩
          · clear hd
            rw [if_pos (by rfl)]
            refine wp_load_mid 73 (.tmp 6) rfl (g6) (0) rfl (s.map U32) _ (rangeAt_blk (hS.below hb hS.lt)) Try.underlying73 rfl (infoSt.trans (by rw [List.length_map, HSL.out])) ?_
            exact hK _ _ _ rfl (Below.refl _ _) IsOut
          refine ⟨fun u W hb hd K hK => ?_, ?_⟩
          · clear hd
            go_simp
            apply hK
            · simp only [Act.put, List.setIfInBounds_toArray, List.set_cons_zero, List.set_cons_succ]
              exact rfl
            · exact Below.refl _ _
            · exact IsOut
          refine ⟨fun u W hb hd K hK => ?_, ?_⟩
          · simp only [Facts, nthR, Is, and_true] at hd
            simp only [hd] at hK ⊢
            clear hd
            go_simp
            apply hK
            · simp only [Act.put, List.setIfInBounds_toArray, List.set_cons_zero, List.set_cons_succ]
              exact rfl
            · exact Below.refl _ _
            · exact IsOut
          refine ⟨fun u W hb hd K hK => ?_, ?_⟩
          · simp only [Facts, nthR, Is, and_true] at hd
            simp only [hd] at hK ⊢
            clear hd
            go_simp
            apply hK
            · simp only [Act.put, List.setIfInBounds_toArray, List.set_cons_zero, List.set_cons_succ]
              exact rfl
            · exact Below.refl _ _
            · exact IsOut
          refine ⟨fun u W hb hd K hK => ?_, ?_⟩
          · simp only [Facts, nthR, Is, and_true] at hd
            simp only [hd] at hK ⊢
            clear hd
            go_simp
            apply hK
            · simp only [Act.put, List.setIfInBounds_toArray, List.set_cons_zero, List.set_cons_succ]
              exact rfl
            · exact Below.refl _ _
            · exact IsOut
          refine ⟨fun u W hb hd K hK => ?_, ?_⟩
          · clear hd
            go_simp
            apply hK
            · simp only [Act.put, List.setIfInBounds_toArray, List.set_cons_zero, List.set_cons_succ]
              exact rfl
            · exact Below.refl _ _
            · exact IsOut
          refine ⟨fun u W hb hd K hK => ?_, ?_⟩
          · simp only [Facts, nthR, Is, and_true] at hd
            simp only [hd] at hK ⊢
            clear hd
            go_simp
            apply hK
            · simp only [Act.put, List.setIfInBounds_toArray, List.set_cons_zero, List.set_cons_succ]
              exact rfl
            · exact Below.refl _ _
            · exact IsOut
          refine ⟨fun u W hb hd K hK => ?_, ?_⟩
          · simp only [Facts, nthR, Is, and_true] at hd
            simp only [hd] at hK ⊢
            clear hd
            rw [if_pos (by rfl)]
            refine wp_load_mid 73 (.tmp 41) rfl (gr) (q * 4) rfl (rr.map U32) _ (hrg W hb) Try.underlying73 rfl (infoSt.trans (by rw [List.length_map, HRL.out])) ?_
            exact hK _ _ _ rfl (Below.refl _ _) IsOut
          refine ⟨fun u W hb hd K hK => ?_, ?_⟩
          · simp only [Facts, nthR, Is, and_true] at hd
            simp only [hd] at hK ⊢
            clear hd
            go_simp
            with_reducible refine (c1 W).mono ?_
            rintro e wy ⟨rfl, hby⟩
            exact hK _ _ _ rfl hby IsOut
          refine ⟨fun u W hb hd K hK => ?_, ?_⟩
          · simp only [Facts, nthR, Is, and_true] at hd
            simp only [hd] at hK ⊢
            clear hd
            go_simp
            with_reducible refine (c2 W).mono ?_
            rintro e wy ⟨rfl, hby⟩
            exact hK _ _ _ rfl hby IsOut
          refine ⟨fun u W hb hd K hK => ?_, ?_⟩
          · simp only [Facts, nthR, Is, and_true] at hd
            simp only [hd] at hK ⊢
            clear hd
            go_simp
            with_reducible refine (c3 W).mono ?_
            rintro e wy ⟨rfl, hby⟩
            exact hK _ _ _ rfl hby IsOut
          refine ⟨fun u W hb hd K hK => ?_, ?_⟩
          · simp only [Facts, nthR, Is, and_true] at hd
            simp only [hd] at hK ⊢
            clear hd
            go_simp
            with_reducible refine (c4 W).mono ?_
            rintro e wy ⟨rfl, hby⟩
            exact hK _ _ _ rfl hby IsOut
          exact trivial
        · skip
          exact trivial
        · exact (.is (.is (.is (.is (.is (.is (.is (.is (.is (.is (.is (.is .nil))))))))))))
        · intro u W hb hd
          simp only [List.drop_succ_cons, List.drop_zero]
          simp only [Facts, nthR, Is, and_true] at hd
          simp only [hd]
          clear hd
          replace hS := hS.below hb hS.lt
          replace hO := hO.below hb hO.lt
          replace hk := hk.below hb
          replace hbw := hbw.trans (hb.mono hbw.size)
          clear hb hrg hc
          go_wp2_with (refine wpList_store_blk rfl 73 (.tmp 6) (.tmp 46) rfl rfl g6 _ rfl rfl 73 _ hS (infoSt.trans (by rw [List.length_map, HNL.out])) (by rw [List.length_map, List.length_map, HNL.out, HSL.out]) (one32 _) ?_; intro w6 hS6 hg6)
          refine NoPanic.normal ?_
          have hO6 := hO.grown hg6 (by simp; omega)
          have hk6 : KeyAt w6 gk gr R L := ⟨hk.key.grown hg6 (by simp; omega), hk.rounds.grown hg6 (by simp; omega), hk.len⟩
          have hb6 := below_new hbw hg6 hgw hbw.size
          clear hg6 hbw hk hO hS
          go_wp2
          go_roundw
          case rel =>
            refine ⟨j + 1, p, HPJ.out, by rw [HW1.out], ?_, hO6, hk6, hb6⟩
            rw [← HN1.out]
            exact hS6
          case measure =>
            rw [HW1.out]
            exact HMS.out
      · have hd : decide ((0 : Int) < (q : Int)) = false := by simp; omega
        have hq0 : q = 0 := by omega
        have hje : j = R - 2 := by omega
        have hle : l = R - 1 := by omega
        have hsl := openTo_length L (stateS b) l j
        have hrl := rndS_length (L := L) (j := 0) (by omega)
        have c1 := fun W => plus_any (openTo L l (stateS b) j) (rndS L 0) hsl hrl W
        have c2 := fun W => bytes_any (plusS (openTo L l (stateS b) j) (rndS L 0)) (plusS_length hsl hrl) W
        have hX : openS L R b = bytesS (plusS (openTo L l (stateS b) j) (rndS L 0)) := by rw [hje, hle]; rfl
        have hxl := bytesS_length (plusS (openTo L l (stateS b) j) (rndS L 0))
        have hrg := fun W (h : Below wr.heap.size wr W) => rangeAt_rnd (j := 0) (o := 0) (hk.below h).rounds rfl
        generalize bytesS (plusS (openTo L l (stateS b) j) (rndS L 0)) = X at *
        generalize plusS (openTo L l (stateS b) j) (rndS L 0) = s4 at *
        generalize openTo L l (stateS b) j = s at *
        generalize rndS L 0 = rr at *
        have HSL := Lib.hid hsl
        have HRL := Lib.hid hrl
        have HXL := Lib.hid hxl
        have HXX := Lib.hid hX
        have hc := fun V (h : Below wr.heap.size wr V) => (hk.below h).key.cell 0
        clear hsl hrl hxl hX hje hle hnn hllen hjq
        subst hq0
        go_wp2
        refine wp_region_noPanic ?_
        apply wp_region_once_tail (m := 9) (Z := []) (D := [[], [], [1], [1, 2], [1, 2, 3], [1, 2, 3, 4], [1, 2, 3, 4, 5], [0, 1, 2, 3, 4, 5, 6], [0, 1, 2, 3, 4, 5, 6, 7], [0, 1, 2, 3, 4, 5, 6, 7, 8]]) (J := [[], [], [1], [2], [3], [4], [5], [0, 6], [7]]) (Je := [8]) (Rs := [Is _, Is _, Is _, Is _, Is _, Is _, Is _, Is _, Is _])
        · kernel_rfl
        · kernel_rfl
        · kernel_rfl
        · kernel_rfl
        · kernel_rfl
        · kernel_rfl
        · kernel_rfl
        · exact fun h => absurd rfl h
        · intro u
          simp only [List.take_succ_cons, List.take_zero, List.map_cons, List.map_nil, fillU, List.setIfInBounds_toArray, List.set_cons_zero, List.set_cons_succ, Nat.zero_add, Nat.reduceAdd]
          exact rfl
        · simp only [List.take_succ_cons, List.take_zero]
          refine ⟨fun u W hb hd K hK => ?_, ?_⟩
          · clear hd
            rw [if_pos (by rfl)]
            refine wp_load_mid 73 (.tmp 6) rfl (g6) (0) rfl (s.map U32) _ (rangeAt_blk (hS.below hb hS.lt)) Try.underlying73 rfl (infoSt.trans (by rw [List.length_map, HSL.out])) ?_
            exact hK _ _ _ rfl (Below.refl _ _) IsOut
          refine ⟨fun u W hb hd K hK => ?_, ?_⟩
          · clear hd
            go_simp
            apply hK
            · simp only [Act.put, List.setIfInBounds_toArray, List.set_cons_zero, List.set_cons_succ]
              exact rfl
            · exact Below.refl _ _
            · exact IsOut
          refine ⟨fun u W hb hd K hK => ?_, ?_⟩
          · simp only [Facts, nthR, Is, and_true] at hd
            simp only [hd] at hK ⊢
            clear hd
            go_simp
            apply hK
            · simp only [Act.put, List.setIfInBounds_toArray, List.set_cons_zero, List.set_cons_succ]
              exact rfl
            · exact Below.refl _ _
            · exact IsOut
          refine ⟨fun u W hb hd K hK => ?_, ?_⟩
          · simp only [Facts, nthR, Is, and_true] at hd
            simp only [hd] at hK ⊢
            clear hd
            go_simp
            apply hK
            · simp only [Act.put, List.setIfInBounds_toArray, List.set_cons_zero, List.set_cons_succ]
              exact rfl
            · exact Below.refl _ _
            · exact IsOut
          refine ⟨fun u W hb hd K hK => ?_, ?_⟩
          · simp only [Facts, nthR, Is, and_true] at hd
            simp only [hd] at hK ⊢
            clear hd
            go_simp
            apply hK
            · simp only [Act.put, List.setIfInBounds_toArray, List.set_cons_zero, List.set_cons_succ]
              exact rfl
            · exact Below.refl _ _
            · exact IsOut
          refine ⟨fun u W hb hd K hK => ?_, ?_⟩
          · simp only [Facts, nthR, Is, and_true] at hd
            simp only [hd] at hK ⊢
            clear hd
            go_simp
            apply hK
            · simp only [Act.put, List.setIfInBounds_toArray, List.set_cons_zero, List.set_cons_succ]
              exact rfl
            · exact Below.refl _ _
            · exact IsOut
          refine ⟨fun u W hb hd K hK => ?_, ?_⟩
          · simp only [Facts, nthR, Is, and_true] at hd
            simp only [hd] at hK ⊢
            clear hd
            rw [if_pos (by rfl)]
            refine wp_load_mid 73 (.tmp 52) rfl (gr) (0) rfl (rr.map U32) _ (hrg W hb) Try.underlying73 rfl (infoSt.trans (by rw [List.length_map, HRL.out])) ?_
            exact hK _ _ _ rfl (Below.refl _ _) IsOut
          refine ⟨fun u W hb hd K hK => ?_, ?_⟩
          · simp only [Facts, nthR, Is, and_true] at hd
            simp only [hd] at hK ⊢
            clear hd
            go_simp
            with_reducible refine (c1 W).mono ?_
            rintro e wy ⟨rfl, hby⟩
            exact hK _ _ _ rfl hby IsOut
          refine ⟨fun u W hb hd K hK => ?_, ?_⟩
          · simp only [Facts, nthR, Is, and_true] at hd
            simp only [hd] at hK ⊢
            clear hd
            go_simp
            with_reducible refine (c2 W).mono ?_
            rintro e wy ⟨rfl, hby⟩
            exact hK _ _ _ rfl hby IsOut
          exact trivial
        · skip
          exact trivial
        · exact (.is (.is (.is (.is (.is (.is (.is (.is (.is .nil)))))))))
        · intro u W hb hd
          simp only [List.drop_succ_cons, List.drop_zero]
          simp only [Facts, nthR, Is, and_true] at hd
          simp only [hd]
          clear hd
          replace hO := hO.below hb hO.lt
          replace hbw := hbw.trans (hb.mono hbw.size)
          clear hb
          go_wp2_with (refine wpList_store_blk rfl 42 (.tmp 4) (.tmp 55) rfl rfl (w.heap.size + 1) _ rfl rfl 42 _ hO (infoBk.trans (by rw [List.length_map, HXL.out])) (by rw [List.length_map, List.length_map, HXL.out]; rfl) (one8 _) ?_; intro w7 hA7 hg7)
          refine NoPanic.normal ?_
          go_wp2
          refine bodyPost_ret (v := .agg _) (results_cell_row rfl _ _ (w.heap.size + 1) 42 _ (0, 0) _ rfl hA7.raw Try.underlying42 rfl (infoBk.trans (by rw [List.size_toArray, List.length_map, HXL.out]))) rfl ⟨by rw [HXX.out], below_new hbw hg7 (by omega) hbw.size⟩
end Go.Proofs.Ytefbjhdcmgonbaa
