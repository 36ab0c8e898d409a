/-
  The contract of a key's Seal.
-/
import Derived.Test.YtefbjhdcmgonbaaBn
import Derived.Deep.MidRow
namespace Go.Proofs.Ytefbjhdcmgonbaa
open Go.RowKit

/-- The j-th round of a key. -/
def rndS (L : List UInt32) (j : Nat) : List UInt32 := (L.drop (j * 4)).take 4
theorem rndS_length {L : List UInt32} {j : Nat} (h : j * 4 + 4 ≤ L.length) : (rndS L j).length = 4 := by simp [rndS]; omega
theorem rangeAt_blk {w : World} {g : Nat} {t : TypeId} {cs : List Value} (h : Blk w g t cs) : w.rangeAt g 0 cs := fun j v hv => by
  rw [Nat.zero_add, h.cell, hv]
theorem rangeAt_rnd {w : World} {g j o : Nat} {L : List UInt32} (h : Blk w g 73 (L.map U32)) (ho : o = j * 4) : w.rangeAt g o ((rndS L j).map U32) := fun i v hv => by
  subst ho
  rw [h.cell]
  rw [rndS, List.getElem?_map, List.getElem?_take] at hv
  split at hv
  · rw [List.getElem?_drop] at hv
    rw [List.getElem?_map]; exact hv
  · simp at hv
theorem up_one {j : Nat} (h : j < 16) : wrap64 ((j : Int) + 1) = ((j + 1 : Nat) : Int) := by unfold wrap64; omega
theorem down_one {n j : Nat} (h : j < n) : n - (intOf (.int .i64 ((j + 1 : Nat) : Int))).toNat < n - (intOf (.int .i64 (j : Int))).toNat := by simp [intOf]; omega
/-- A block on its way, ahead of round j + 1. -/
def sealTo (L : List UInt32) (s0 : List UInt32) : Nat → List UInt32
  | 0 => plusS s0 (rndS L 0)
  | j + 1 => plusS (mixS (shiftS (eachS sub64 (sealTo L s0 j)))) (rndS L (j + 1))
def sealS (L : List UInt32) (R : Nat) (b : List UInt8) : List UInt8 := bytesS (plusS (shiftS (eachS sub64 (sealTo L (stateS b) (R - 2)))) (rndS L (R - 1)))
theorem sealS_length (L : List UInt32) (R : Nat) (b : List UInt8) : (sealS L R b).length = 16 := bytesS_length _
theorem sealTo_length {L s0 : List UInt32} (hs : s0.length = 4) (j : Nat) (h : j * 4 + 4 ≤ L.length) : (sealTo L s0 j).length = 4 := by
  cases j with
  | zero => exact plusS_length hs (rndS_length h)
  | succ j => exact plusS_length (mixS_length _) (rndS_length h)
set_option maxRecDepth 100000 in
set_option maxHeartbeats 4000000 in
theorem seal_any (gk gr R : Nat) (L : List UInt32) (b : List UInt8) (w : World) (hk0 : KeyAt w gk gr R L) (hR : 2 ≤ R) (hR2 : R ≤ 15) (hb16 : b.length = 16) :
    Calls Try.prog 21 #[.pointer (some ⟨gk, 0, none⟩), BV b] w fun e w' => e = .returned (BV (sealS L R b)) ∧ Below w.heap.size w w' := by
  have hz : ∀ W : World, (zeroValue 42).run Try.prog W = .ok (BV zero16) W := fun W => by kernel_rfl
  have HB := Lib.hid hb16
  have hll := hk0.len
  have HLL := Lib.hid hll
  have HR0 := Lib.hid (rndS_length (L := L) (j := 0) (by omega))
  have cSt := Lib.hid (fun W => stateOf_any b HB.out W)
  have cP0 := Lib.hid (fun W => plus_any (stateS b) (rndS L 0) (stateS_length b) HR0.out W)
  have HS0L := Lib.hid (sealTo_length (L := L) (stateS_length b) 0 (by omega))
  rw [show plusS (stateS b) (rndS L 0) = sealTo L (stateS b) 0 from rfl] at cP0
  have hgk := hk0.key.lt
  have hgr := hk0.rounds.lt
  obtain ⟨l, hl⟩ : ∃ l, l = R - 1 := ⟨_, rfl⟩
  have hR0 : (0 : Int) < (R : Int) := by omega
  have hR0' : 0 < R := by omega
  have hRl : (R : Int) - 1 = (l : Int) := by omega
  have hl1 : (1 : Int) ≤ (l : Int) := by omega
  have hl2 : (l : Int) ≤ (R : Int) := by omega
  have HL := Lib.hid hl
  clear hb16 hll hl
  go_enter Try.func21, Try.ntmps21
  have hA0 : Blk ((w.alloc (.cells (b.map B8).toArray 42)).alloc (.cells (zero16.map B8).toArray 42)) w.heap.size 42 (b.map B8) := (Blk.new_of w 42 _ (b.map B8) rfl).alloc _
  have hO0 := Blk.new2_of w (.cells (b.map B8).toArray 42) 42 (zero16.map B8).toArray (zero16.map B8) rfl
  have hbw := ((Below.refl w.heap.size w).alloc (Nat.le_refl _) (.cells (b.map B8).toArray 42)).alloc (by simp) (.cells (zero16.map B8).toArray 42)
  have hk1 : KeyAt ((w.alloc (.cells (b.map B8).toArray 42)).alloc (.cells (zero16.map B8).toArray 42)) gk gr R L := hk0.below hbw
  go_wp2_with (go_at_call 36; refine (empty_no gk gr R L _ hk1 (by omega) hR2).mono ?_; rintro e we ⟨rfl, hwe⟩; subst hwe; have hc0 := hk1.key.cell 0; generalize (w.alloc (.cells (b.map B8).toArray 42)).alloc (.cells (zero16.map B8).toArray 42) = wq at *)
  have hc := fun V (h : Below wq.heap.size wq V) => (hk1.below h).key.cell 0
  have hA := hA0
  have hO := hO0
  have hk := hk1
  have hgkq : gk < wq.heap.size := hk1.key.lt
  have hgrq : gr < wq.heap.size := hk1.rounds.lt
  have hOq : w.heap.size + 1 < wq.heap.size := hO0.lt
  have hAq : w.heap.size < wq.heap.size := hA0.lt
  have hbq := hbw
  clear hA0 hO0 hk1 hbw hk0
  refine wp_region_noPanic ?_
  apply wp_region_once_tail (m := 10) (Z := []) (D := [[], [0], [], [2], [2, 3], [2, 3, 4], [2, 3, 4, 5], [2, 3, 4, 5, 6], [0, 1, 2, 3, 4, 5, 6, 7], [], [0, 1, 2, 3, 4, 5, 6, 7, 8, 9]]) (J := [[], [0], [], [2], [3], [4], [5], [6], [1, 7], []]) (Je := [8, 9]) (Rs := [Is _, Is _, Is _, Is _, Is _, Is _, Is _, Is _, Is _, fun v V => ∃ g', v = .pointer (some ⟨g', 0, none⟩) ∧ wq.heap.size ≤ g' ∧ Blk V g' 73 (zero4.map U32)])
  · kernel_rfl
  · kernel_rfl
  · kernel_rfl
  · kernel_rfl
  · kernel_rfl
  · kernel_rfl
  · kernel_rfl
  · exact fun h => absurd rfl h
  · intro u
    simp only [List.take_succ_cons, List.take_zero, List.map_cons, List.map_nil, fillU, List.setIfInBounds_toArray, List.set_cons_zero, List.set_cons_succ, Nat.zero_add, Nat.reduceAdd]
    exact rfl
  · simp only [List.take_succ_cons, List.take_zero]
    refine ⟨fun u W hb hd K hK => ?_, ?_⟩
    · clear hd
      rw [if_pos (by rfl)]
      refine wp_load_mid 42 (.tmp 3) rfl (w.heap.size) (0) rfl (b.map B8) _ (rangeAt_blk (hA.below hb hA.lt)) Try.underlying42 rfl (infoBk.trans (by rw [List.length_map, HB.out])) ?_
      exact hK _ _ _ rfl (Below.refl _ _) IsOut
    refine ⟨fun u W hb hd K hK => ?_, ?_⟩
    · simp only [Facts, nthR, Is, and_true] at hd
      simp only [hd] at hK ⊢
      clear hd
      go_simp
      with_reducible refine (cSt.out W).mono ?_
      rintro e wy ⟨rfl, hby⟩
      exact hK _ _ _ rfl hby IsOut
    refine ⟨fun u W hb hd K hK => ?_, ?_⟩
    · clear hd
      go_simp
      apply hK
      · simp only [Act.put, List.setIfInBounds_toArray, List.set_cons_zero, List.set_cons_succ]
        exact rfl
      · exact Below.refl _ _
      · exact IsOut
    refine ⟨fun u W hb hd K hK => ?_, ?_⟩
    · simp only [Facts, nthR, Is, and_true] at hd
      simp only [hd] at hK ⊢
      clear hd
      go_simp
      apply hK
      · simp only [Act.put, List.setIfInBounds_toArray, List.set_cons_zero, List.set_cons_succ]
        exact rfl
      · exact Below.refl _ _
      · exact IsOut
    refine ⟨fun u W hb hd K hK => ?_, ?_⟩
    · simp only [Facts, nthR, Is, and_true] at hd
      simp only [hd] at hK ⊢
      clear hd
      go_simp
      apply hK
      · simp only [Act.put, List.setIfInBounds_toArray, List.set_cons_zero, List.set_cons_succ]
        exact rfl
      · exact Below.refl _ _
      · exact IsOut
    refine ⟨fun u W hb hd K hK => ?_, ?_⟩
    · simp only [Facts, nthR, Is, and_true] at hd
      simp only [hd] at hK ⊢
      clear hd
      go_simp
      apply hK
      · simp only [Act.put, List.setIfInBounds_toArray, List.set_cons_zero, List.set_cons_succ]
        exact rfl
      · exact Below.refl _ _
      · exact IsOut
    refine ⟨fun u W hb hd K hK => ?_, ?_⟩
    · simp only [Facts, nthR, Is, and_true] at hd
      simp only [hd] at hK ⊢
      clear hd
      go_simp
      apply hK
      · simp only [Act.put, List.setIfInBounds_toArray, List.set_cons_zero, List.set_cons_succ]
        exact rfl
      · exact Below.refl _ _
      · exact IsOut
    refine ⟨fun u W hb hd K hK => ?_, ?_⟩
    · simp only [Facts, nthR, Is, and_true] at hd
      simp only [hd] at hK ⊢
      clear hd
      rw [if_pos (by rfl)]
      refine wp_load_mid 73 (.tmp 24) rfl (gr) (0) rfl ((rndS L 0).map U32) _ (rangeAt_rnd (j := 0) (hk.rounds.below hb hk.rounds.lt) rfl) Try.underlying73 rfl (infoSt.trans (by rw [List.length_map, HR0.out])) ?_
      exact hK _ _ _ rfl (Below.refl _ _) IsOut
    refine ⟨fun u W hb hd K hK => ?_, ?_⟩
    · simp only [Facts, nthR, Is, and_true] at hd
      simp only [hd] at hK ⊢
      clear hd
      go_simp
      with_reducible refine (cP0.out W).mono ?_
      rintro e wy ⟨rfl, hby⟩
      exact hK _ _ _ rfl hby IsOut
    refine ⟨fun u W hb hd K hK => ?_, ?_⟩
    · clear hd
      go_simp
      apply hK
      · simp only [Act.put, List.setIfInBounds_toArray, List.set_cons_zero, List.set_cons_succ]
        exact rfl
      · exact (Below.refl _ _).alloc (Nat.le_refl _) _
      · exact ⟨_, rfl, hb.size, Blk.new_of _ _ _ _ rfl⟩
    exact trivial
  · skip
    exact trivial
  · exact (.is (.is (.is (.is (.is (.is (.is (.is (.is (.cons (fun v V V' ⟨g', h1, h2, h3⟩ hb => ⟨g', h1, h2, h3.below hb h3.lt⟩) .nil))))))))))
  · intro u W hb hd
    simp only [List.drop_succ_cons, List.drop_zero]
    simp only [Facts, nthR, Is, and_true] at hd
    obtain ⟨h8, g6, h9, hg6, hZ6⟩ := hd
    simp only [h8, h9]
    clear h8 h9
    replace hA := hA.below hb hA.lt
    replace hO := hO.below hb hO.lt
    replace hk := hk.below hb
    have hbl := hbq.trans (hb.mono hbq.size)
    have hbE := hb
    clear hb
    go_wp2_with (refine wpList_store_blk rfl 73 (.tmp 6) (.tmp 26) rfl rfl g6 _ rfl rfl 73 _ hZ6 (infoSt.trans (by rw [List.length_map, HS0L.out])) (by rw [List.length_map, List.length_map, HS0L.out]; rfl) (one32 _) ?_; intro w4 hS4 hgr4)
    refine NoPanic.normal ?_
    have hS4l := hS4.lt
    have hA4 := hA.grown hgr4 (by have := hA.lt; have := hZ6.lt; simp; omega)
    have hk4 : KeyAt w4 gk gr R L := ⟨hk.key.grown hgr4 (by have := hk.key.lt; simp; omega), hk.rounds.grown hgr4 (by simp; omega), hk.len⟩
    have hO4 := hO.grown hgr4 (by simp; omega)
    have hb4 := below_new hbl hgr4 (by omega) hbl.size
    clear hA hO hk hbl hgr4 hZ6
    have hc4 := hk4.key.cell 0
    go_wp2
    obtain ⟨n, hn⟩ : ∃ n, n = l - 1 := ⟨_, rfl⟩
    rw [← hn]
    have HNN := Lib.hid (show n = l - 1 ∧ l = R - 1 from ⟨hn, HL.out⟩)
    have hgw : w.heap.size ≤ g6 := by have := hbE.size; omega
    have hne : g6 ≠ w.heap.size + 1 ∧ g6 ≠ gk ∧ g6 ≠ gr := by omega
    clear hn hbE hA4 hc4
    go_loopw [34] (fun i wr => ∃ j : Nat, j ≤ n ∧ i = .int .i64 (j : Int) ∧ Blk wr g6 73 ((sealTo L (stateS b) j).map U32) ∧ Blk wr (w.heap.size + 1) 42 (zero16.map B8) ∧ KeyAt wr gk gr R L ∧ Below w.heap.size w wr) (fun i _ => n - (intOf i).toNat)
    case atStart => exact ⟨0, Nat.zero_le _, rfl, hS4, hO4, hk4, hb4⟩
    case round =>
      clear hS4 hO4 hk4 hb4 hS4l
      obtain ⟨j, hj, rfl, hS, hO, hk, hbw⟩ := hrel
      have hnn := HNN.out
      have hllen := HLL.out
      by_cases hlt : j < n
      · have hd : decide ((j : Int) < (n : Int)) = true := by simp; omega
        have hsl := sealTo_length (L := L) (stateS_length b) j (by omega)
        have hrl := rndS_length (L := L) (j := j + 1) (by omega)
        have hn1 : plusS (mixS (shiftS (eachS sub64 (sealTo L (stateS b) j)))) (rndS L (j + 1)) = sealTo L (stateS b) (j + 1) := rfl
        have c1 := fun W => each_sub64 (sealTo L (stateS b) j) hsl W
        have c2 := fun W => shifted_any (eachS sub64 (sealTo L (stateS b) j)) (eachS_length _ _) W
        have c3 := fun W => mixed_any (shiftS (eachS sub64 (sealTo L (stateS b) j))) (shiftS_length _) W
        have c4 := fun W => plus_any (mixS (shiftS (eachS sub64 (sealTo L (stateS b) j)))) (rndS L (j + 1)) (mixS_length _) hrl W
        have hnl := plusS_length (mixS_length (shiftS (eachS sub64 (sealTo L (stateS b) j)))) hrl
        have hrg := rangeAt_rnd (j := j + 1) (o := 4 + j * 4) hk.rounds (by omega)
        generalize plusS (mixS (shiftS (eachS sub64 (sealTo L (stateS b) j)))) (rndS L (j + 1)) = s4 at *
        generalize mixS (shiftS (eachS sub64 (sealTo L (stateS b) j))) = s3 at *
        generalize shiftS (eachS sub64 (sealTo L (stateS b) j)) = s2 at *
        generalize eachS sub64 (sealTo L (stateS b) j) = s1 at *
        generalize sealTo L (stateS b) j = s at *
        generalize rndS L (j + 1) = rr at *
        have HSL := Lib.hid hsl
        have HRL := Lib.hid hrl
        have HNL := Lib.hid hnl
        have HN1 := Lib.hid hn1
        have hjn1 : j + 1 ≤ n := hlt
        have HW1 := Lib.hid (up_one (j := j) (by omega))
        have HMS := Lib.hid (down_one hlt)
        have hj0 : (0 : Int) ≤ (j : Int) := by omega
        have hj1 : (j : Int) < (n : Int) := by omega
        have hgkw := hk.key.lt
        have hgrw := hk.rounds.lt
        have hg6w := hS.lt
        have hOw := hO.lt
        clear hsl hrl hnl hn1 hnn hllen
        go_wp2_with (first
          | ((with_reducible refine (?_ : wpList _ _ _ (Oper.mk (some 37) _ _ _ _ _ :: _) _ _)); go_loud (refine wpList_load_mid rfl 73 (.tmp 36) rfl gr (4 + j * 4) rfl (rr.map U32) _ hrg Try.underlying73 rfl (infoSt.trans (by rw [List.length_map, HRL.out])) ?_))
          | (refine wpList_store_blk rfl 73 (.tmp 8) (.tmp 37) rfl rfl wr.heap.size _ rfl rfl 73 _ (Blk.new_of wr 73 _ (zero4.map U32) (by rfl)) (infoSt.trans (by rw [List.length_map, HRL.out])) (by rw [List.length_map, List.length_map, HRL.out]; rfl) (one32 _) ?_; intro w5 hD5 hg5))
        have hS5 := (hS.alloc _).grown hg5 (by simp; omega)
        have hO5 := (hO.alloc _).grown hg5 (by simp; omega)
        have hk5 : KeyAt w5 gk gr R L := ⟨(hk.key.alloc _).grown hg5 (by simp; omega), (hk.rounds.alloc _).grown hg5 (by simp; omega), hk.len⟩
        have hb5 := below_new (hbw.alloc hbw.size _) hg5 hbw.size (by have := hbw.size; simp; omega)
        generalize wr.heap.size = g8 at *
        clear hg5 hS hO hk hbw hrg
        refine wp_region_noPanic ?_
        apply wp_region_once_tail (m := 6) (Z := []) (D := [[], [0], [0, 1], [0, 1, 2], [], [0, 1, 2, 3, 4], [0, 1, 2, 3, 4, 5]]) (J := [[], [0], [1], [2], [], [3, 4]]) (Je := [5]) (Rs := [Is _, Is _, Is _, Is _, Is _, Is _])
        · kernel_rfl
        · kernel_rfl
        · kernel_rfl
        · kernel_rfl
        · kernel_rfl
        · kernel_rfl
        · kernel_rfl
        · exact fun h => absurd rfl h
        · intro u
          simp only [List.take_succ_cons, List.take_zero, List.map_cons, List.map_nil, fillU, List.setIfInBounds_toArray, List.set_cons_zero, List.set_cons_succ, Nat.zero_add, Nat.reduceAdd]
          exact rfl
        · simp only [List.take_succ_cons, List.take_zero]
          refine ⟨fun u W hb hd K hK => ?_, ?_⟩
          · clear hd
            rw [if_pos (by rfl)]
            refine wp_load_mid 73 (.tmp 6) rfl (g6) (0) rfl (s.map U32) _ (rangeAt_blk (hS5.below hb hS5.lt)) Try.underlying73 rfl (infoSt.trans (by rw [List.length_map, HSL.out])) ?_
            exact hK _ _ _ rfl (Below.refl _ _) IsOut
          refine ⟨fun u W hb hd K hK => ?_, ?_⟩
          · simp only [Facts, nthR, Is, and_true] at hd
            simp only [hd] at hK ⊢
            clear hd
            go_simp
            with_reducible refine (c1 W).mono ?_
            rintro e wy ⟨rfl, hby⟩
            exact hK _ _ _ rfl hby IsOut
          refine ⟨fun u W hb hd K hK => ?_, ?_⟩
          · simp only [Facts, nthR, Is, and_true] at hd
            simp only [hd] at hK ⊢
            clear hd
            go_simp
            with_reducible refine (c2 W).mono ?_
            rintro e wy ⟨rfl, hby⟩
            exact hK _ _ _ rfl hby IsOut
          refine ⟨fun u W hb hd K hK => ?_, ?_⟩
          · simp only [Facts, nthR, Is, and_true] at hd
            simp only [hd] at hK ⊢
            clear hd
            go_simp
            with_reducible refine (c3 W).mono ?_
            rintro e wy ⟨rfl, hby⟩
            exact hK _ _ _ rfl hby IsOut
          refine ⟨fun u W hb hd K hK => ?_, ?_⟩
          · clear hd
            rw [if_pos (by rfl)]
            refine wp_load_mid 73 (.tmp 8) rfl (g8) (0) rfl (rr.map U32) _ (rangeAt_blk (hD5.below hb hD5.lt)) Try.underlying73 rfl (infoSt.trans (by rw [List.length_map, HRL.out])) ?_
            exact hK _ _ _ rfl (Below.refl _ _) IsOut
          refine ⟨fun u W hb hd K hK => ?_, ?_⟩
          · simp only [Facts, nthR, Is, and_true] at hd
            simp only [hd] at hK ⊢
            clear hd
            go_simp
            with_reducible refine (c4 W).mono ?_
            rintro e wy ⟨rfl, hby⟩
            exact hK _ _ _ rfl hby IsOut
          exact trivial
        · skip
          exact trivial
        · exact (.is (.is (.is (.is (.is (.is .nil))))))
        · intro u W hb hd
          simp only [List.drop_succ_cons, List.drop_zero]
          simp only [Facts, nthR, Is, and_true] at hd
          simp only [hd]
          clear hd
          replace hS5 := hS5.below hb hS5.lt
          replace hO5 := hO5.below hb hO5.lt
          replace hk5 := hk5.below hb
          replace hb5 := hb5.trans (hb.mono hb5.size)
          clear hb hD5
          go_wp2_with (refine wpList_store_blk rfl 73 (.tmp 6) (.tmp 43) rfl rfl g6 _ rfl rfl 73 _ hS5 (infoSt.trans (by rw [List.length_map, HNL.out])) (by rw [List.length_map, List.length_map, HNL.out, HSL.out]) (one32 _) ?_; intro w6 hS6 hg6)
          refine NoPanic.normal ?_
          have hO6 := hO5.grown hg6 (by simp; omega)
          have hk6 : KeyAt w6 gk gr R L := ⟨hk5.key.grown hg6 (by simp; omega), hk5.rounds.grown hg6 (by simp; omega), hk5.len⟩
          have hb6 := below_new hb5 hg6 hgw hb5.size
          clear hg6 hb5 hk5 hO5 hS5
          go_wp2
          go_roundw
          case rel =>
            refine ⟨j + 1, hjn1, by rw [HW1.out], ?_, hO6, hk6, hb6⟩
            rw [← HN1.out]
            exact hS6
          case measure =>
            rw [HW1.out]
            exact HMS.out
      · have hd : decide ((j : Int) < (n : Int)) = false := by simp; omega
        have hje : j = R - 2 := by omega
        have hle : l = R - 1 := by omega
        have hsl := sealTo_length (L := L) (stateS_length b) j (by omega)
        have hrl := rndS_length (L := L) (j := l) (by omega)
        have c1 := fun W => each_sub64 (sealTo L (stateS b) j) hsl W
        have c2 := fun W => shifted_any (eachS sub64 (sealTo L (stateS b) j)) (eachS_length _ _) W
        have c4 := fun W => plus_any (shiftS (eachS sub64 (sealTo L (stateS b) j))) (rndS L l) (shiftS_length _) hrl W
        have c5 := fun W => bytes_any (plusS (shiftS (eachS sub64 (sealTo L (stateS b) j))) (rndS L l)) (plusS_length (shiftS_length _) hrl) W
        have hX : sealS L R b = bytesS (plusS (shiftS (eachS sub64 (sealTo L (stateS b) j))) (rndS L l)) := by rw [hje, hle]; rfl
        have hxl := bytesS_length (plusS (shiftS (eachS sub64 (sealTo L (stateS b) j))) (rndS L l))
        have hrg := fun W (h : Below wr.heap.size wr W) => rangeAt_rnd (j := l) (o := l * 4) (hk.below h).rounds rfl
        generalize bytesS (plusS (shiftS (eachS sub64 (sealTo L (stateS b) j))) (rndS L l)) = X at *
        generalize plusS (shiftS (eachS sub64 (sealTo L (stateS b) j))) (rndS L l) = s4 at *
        generalize shiftS (eachS sub64 (sealTo L (stateS b) j)) = s2 at *
        generalize eachS sub64 (sealTo L (stateS b) j) = s1 at *
        generalize sealTo L (stateS b) j = s at *
        generalize rndS L l = rr at *
        have HSL := Lib.hid hsl
        have HRL := Lib.hid hrl
        have HXL := Lib.hid hxl
        have HXX := Lib.hid hX
        have hl0 : (0 : Int) ≤ (l : Int) := by omega
        have hl3 : (l : Int) < (R : Int) := by omega
        have hc := fun V (h : Below wr.heap.size wr V) => (hk.below h).key.cell 0
        clear hsl hrl hxl hX hje hle hnn hllen
        go_wp2
        refine wp_region_noPanic ?_
        apply wp_region_once_tail (m := 12) (Z := []) (D := [[], [0], [0, 1], [], [3], [3, 4], [3, 4, 5], [], [3, 4, 5, 6, 7], [3, 4, 5, 6, 7, 8], [0, 1, 2, 3, 4, 5, 6, 7, 8, 9], [0, 1, 2, 3, 4, 5, 6, 7, 8, 9, 10], [0, 1, 2, 3, 4, 5, 6, 7, 8, 9, 10, 11]]) (J := [[], [0], [1], [], [3], [4], [5], [], [6, 7], [8], [2, 9], [10]]) (Je := [11]) (Rs := [Is _, Is _, Is _, Is _, Is _, Is _, Is _, Is _, Is _, Is _, Is _, Is _])
        · kernel_rfl
        · kernel_rfl
        · kernel_rfl
        · kernel_rfl
        · kernel_rfl
        · kernel_rfl
        · kernel_rfl
        · exact fun h => absurd rfl h
        · intro u
          simp only [List.take_succ_cons, List.take_zero, List.map_cons, List.map_nil, fillU, List.setIfInBounds_toArray, List.set_cons_zero, List.set_cons_succ, Nat.zero_add, Nat.reduceAdd]
          exact rfl
        · simp only [List.take_succ_cons, List.take_zero]
          refine ⟨fun u W hb hd K hK => ?_, ?_⟩
          · clear hd
            rw [if_pos (by rfl)]
            refine wp_load_mid 73 (.tmp 6) rfl (g6) (0) rfl (s.map U32) _ (rangeAt_blk (hS.below hb hS.lt)) Try.underlying73 rfl (infoSt.trans (by rw [List.length_map, HSL.out])) ?_
            exact hK _ _ _ rfl (Below.refl _ _) IsOut
          refine ⟨fun u W hb hd K hK => ?_, ?_⟩
          · simp only [Facts, nthR, Is, and_true] at hd
            simp only [hd] at hK ⊢
            clear hd
            go_simp
            with_reducible refine (c1 W).mono ?_
            rintro e wy ⟨rfl, hby⟩
            exact hK _ _ _ rfl hby IsOut
          refine ⟨fun u W hb hd K hK => ?_, ?_⟩
          · simp only [Facts, nthR, Is, and_true] at hd
            simp only [hd] at hK ⊢
            clear hd
            go_simp
            with_reducible refine (c2 W).mono ?_
            rintro e wy ⟨rfl, hby⟩
            exact hK _ _ _ rfl hby IsOut
          refine ⟨fun u W hb hd K hK => ?_, ?_⟩
          · clear hd
            go_simp
            apply hK
            · simp only [Act.put, List.setIfInBounds_toArray, List.set_cons_zero, List.set_cons_succ]
              exact rfl
            · exact Below.refl _ _
            · exact IsOut
          refine ⟨fun u W hb hd K hK => ?_, ?_⟩
          · simp only [Facts, nthR, Is, and_true] at hd
            simp only [hd] at hK ⊢
            clear hd
            go_simp
            apply hK
            · simp only [Act.put, List.setIfInBounds_toArray, List.set_cons_zero, List.set_cons_succ]
              exact rfl
            · exact Below.refl _ _
            · exact IsOut
          refine ⟨fun u W hb hd K hK => ?_, ?_⟩
          · simp only [Facts, nthR, Is, and_true] at hd
            simp only [hd] at hK ⊢
            clear hd
            go_simp
            apply hK
            · simp only [Act.put, List.setIfInBounds_toArray, List.set_cons_zero, List.set_cons_succ]
              exact rfl
            · exact Below.refl _ _
            · exact IsOut
          refine ⟨fun u W hb hd K hK => ?_, ?_⟩
          · simp only [Facts, nthR, Is, and_true] at hd
            simp only [hd] at hK ⊢
            clear hd
            go_simp
            apply hK
            · simp only [Act.put, List.setIfInBounds_toArray, List.set_cons_zero, List.set_cons_succ]
              exact rfl
            · exact Below.refl _ _
            · exact IsOut
          refine ⟨fun u W hb hd K hK => ?_, ?_⟩
          · clear hd
            go_simp
            apply hK
            · simp only [Act.put, List.setIfInBounds_toArray, List.set_cons_zero, List.set_cons_succ]
              exact rfl
            · exact Below.refl _ _
            · exact IsOut
          refine ⟨fun u W hb hd K hK => ?_, ?_⟩
          · simp only [Facts, nthR, Is, and_true] at hd
            simp only [hd] at hK ⊢
            clear hd
            go_simp
            apply hK
            · simp only [Act.put, List.setIfInBounds_toArray, List.set_cons_zero, List.set_cons_succ]
              exact rfl
            · exact Below.refl _ _
            · exact IsOut
          refine ⟨fun u W hb hd K hK => ?_, ?_⟩
          · simp only [Facts, nthR, Is, and_true] at hd
            simp only [hd] at hK ⊢
            clear hd
            rw [if_pos (by rfl)]
            refine wp_load_mid 73 (.tmp 53) rfl (gr) (l * 4) rfl (rr.map U32) _ (hrg W hb) Try.underlying73 rfl (infoSt.trans (by rw [List.length_map, HRL.out])) ?_
            exact hK _ _ _ rfl (Below.refl _ _) IsOut
          refine ⟨fun u W hb hd K hK => ?_, ?_⟩
          · simp only [Facts, nthR, Is, and_true] at hd
            simp only [hd] at hK ⊢
            clear hd
            go_simp
            with_reducible refine (c4 W).mono ?_
            rintro e wy ⟨rfl, hby⟩
            exact hK _ _ _ rfl hby IsOut
          refine ⟨fun u W hb hd K hK => ?_, ?_⟩
          · simp only [Facts, nthR, Is, and_true] at hd
            simp only [hd] at hK ⊢
            clear hd
            go_simp
            with_reducible refine (c5 W).mono ?_
            rintro e wy ⟨rfl, hby⟩
            exact hK _ _ _ rfl hby IsOut
          exact trivial
        · skip
          exact trivial
        · exact (.is (.is (.is (.is (.is (.is (.is (.is (.is (.is (.is (.is .nil))))))))))))
        · intro u W hb hd
          simp only [List.drop_succ_cons, List.drop_zero]
          simp only [Facts, nthR, Is, and_true] at hd
          simp only [hd]
          clear hd
          replace hO := hO.below hb hO.lt
          replace hbw := hbw.trans (hb.mono hbw.size)
          clear hb
          go_wp2_with (refine wpList_store_blk rfl 42 (.tmp 4) (.tmp 56) rfl rfl (w.heap.size + 1) _ rfl rfl 42 _ hO (infoBk.trans (by rw [List.length_map, HXL.out])) (by rw [List.length_map, List.length_map, HXL.out]; rfl) (one8 _) ?_; intro w7 hA7 hg7)
          refine NoPanic.normal ?_
          go_wp2
          refine bodyPost_ret (v := .agg _) (results_cell_row rfl _ _ (w.heap.size + 1) 42 _ (0, 0) _ rfl hA7.raw Try.underlying42 rfl (infoBk.trans (by rw [List.size_toArray, List.length_map, HXL.out]))) rfl ⟨by rw [HXX.out], below_new hbw hg7 (by omega) hbw.size⟩
end Go.Proofs.Ytefbjhdcmgonbaa
