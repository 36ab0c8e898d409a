/-
 Joined: Br, Bn, BSeal, BOpen, BMath, BInv, BKnown, BNil, BMore.
-/
import Derived.Test.YtnjpcbbdhimacaaDoorKb
import Derived.Deep.MidRow
namespace Go.Proofs.YtnjpcbbdhimacaaDoor
section
open Go.RowKit
theorem infoSt3 : (Tryd.prog.info? 94).map (fun i => (i.zero, i.size, i.bytes)) = some (some (.agg #[.int .u32 0, .int .u32 0, .int .u32 0, .int .u32 0]), 4, 16) := by kernel_rfl
theorem madeCells_states (R : Nat) : madeCells #[.int .u32 0, .int .u32 0, .int .u32 0, .int .u32 0] (R * 4) = ((List.replicate (4 * R) (0 : UInt32)).map U32).toArray := by
 unfold madeCells
 apply Array.toList_inj.1
 rw [Array.toList_map, Array.toList_range, List.map_replicate]
 apply List.ext_getElem
 ·
  simp; omega
 ·
  intro i h1 h2
  simp
  have : i % 4 = 0 ∨ i % 4 = 1 ∨ i % 4 = 2 ∨ i % 4 = 3 := by omega
  rcases this with h | h | h | h <;> rw [h] <;> rfl
theorem run_make_states (R : Nat) (hn : R ≤ 1000) (w : World) :
  (Instr.makeSlice 84 (.int .i64 (R : Int)) (.int .i64 (R : Int))).run Tryd.prog w = .ok (.slice (some ⟨w.heap.size, 0, none⟩) R R) (w.alloc (.cells ((List.replicate (4 * R) (0 : UInt32)).map U32).toArray 94)) := by
 obtain ⟨i, hi, hz, hs, hb⟩ := info_parts infoSt3
 have h := run_make (P := Tryd.prog) w 84 94 i _ Tryd.underlying84 hi hz .i64 .i64 R R (by omega) (by omega) (by rw [hb]; omega) (by omega)
 rw [h, hs]
 simp only [Int.toNat_natCast]
 rw [show Value.cells (.agg #[.int .u32 0, .int .u32 0, .int .u32 0, .int .u32 0]) = #[.int .u32 0, .int .u32 0, .int .u32 0, .int .u32 0] from rfl, madeCells_states]
/-- States of words, flat, after r rows of word k. -/
def rPos (k r : Nat) : Nat := k / 4 * 4 + r
def rRow (W : List UInt32) (k : Nat) (L : List UInt32) : Nat → List UInt32
 | 0 => L
 | r + 1 => (rRow W k L r).set (rPos k r) (((rRow W k L r).getD (rPos k r) 0 <<< 8) ||| ((W.getD k 0 >>> UInt32.ofNat (24 - 8 * r)) &&& 255))
theorem rRow_length (W : List UInt32) (k : Nat) (L : List UInt32) (r : Nat) : (rRow W k L r).length = L.length := by
 induction r with
 | zero => rfl
 | succ r ih => rw [rRow, List.length_set, ih]
def rTo (W : List UInt32) (T : Nat) : Nat → List UInt32
 | 0 => List.replicate T 0
 | k + 1 => rRow W k (rTo W T k) 4
theorem rTo_length (W : List UInt32) (T k : Nat) : (rTo W T k).length = T := by
 induction k with
 | zero => simp [rTo]
 | succ k ih => rw [rTo, rRow_length, ih]
/-- All states of words, flat. -/
def rAll (W : List UInt32) : List UInt32 := rTo W W.length W.length
theorem rAll_length (W : List UInt32) : (rAll W).length = W.length := rTo_length _ _ _
theorem w_and255 (x : UInt32) : bits .and .u32 (x.toNat : Int) (255 : Int) = ((x &&& 255).toNat : Int) := w_and x 255
set_option maxRecDepth 100000 in
set_option maxHeartbeats 3000000 in
theorem roundsOf_any (gw T R : Nat) (W : List UInt32) (w : World) (hW : Blk w gw 92 (W.map U32)) (hl : W.length = T) (hT : T = 4 * R) (hR : R ≤ 15) :
  Calls Tryd.prog 45 #[.slice (some ⟨gw, 0, none⟩) T T] w fun e w' => e = .returned (.slice (some ⟨w.heap.size, 0, none⟩) R R) ∧ Blk w' w.heap.size 94 ((rAll W).map U32) ∧ Below w.heap.size w w' := by
 have hgw := hW.lt
 have hmk := run_make_states R (by omega) w
 have d1 : (T : Int) / 4 = (R : Int) := by omega
 have d1' : (T : Int).tdiv 4 = (R : Int) := by rw [Int.tdiv_eq_ediv_of_nonneg (by omega)]; omega
 have hw0 : List.replicate (4 * R) (0 : UInt32) = rTo W T 0 := by rw [← hT]; rfl
 rw [hw0] at hmk
 have HT := Lib.hid (show T = 4 * R ∧ W.length = T from ⟨hT, hl⟩)
 have hT0 : T ≤ 60 := by omega
 have HA : Hid (rAll W = rTo W T T) := (show _ = _ by unfold rAll; rw [hl])
 have HWL := Lib.hid (rTo_length W T)
 clear hT hl hw0
 go_enter Tryd.func45, Tryd.ntmps45
 go_wp2
 clear d1 d1' hmk
 go_loopw [14] (fun i wr => ∃ k : Nat, k ≤ T ∧ i = .int .i64 (k : Int) ∧ Blk wr w.heap.size 94 ((rTo W T k).map U32) ∧ Blk wr gw 92 (W.map U32) ∧ Below w.heap.size w wr) (fun i _ => T - (intOf i).toNat)
 case atStart => exact ⟨0, Nat.zero_le _, rfl, Blk.new_of w _ _ _ (by rfl), hW.alloc _, (Below.refl _ _).alloc (Nat.le_refl _) _⟩
 case round =>
  obtain ⟨k, hk, rfl, hB, hWw, hb⟩ := hrel
  by_cases hlt : k < T
  ·
   have hd : decide ((k : Int) < (T : Int)) = true := by simp; omega
   have hcw := hWw.at32 k (by have := HT.out; omega)
   have hq := tdiv4 k
   have hq' := tdiv4' k
   have hq4 : k / 4 < R := by have := HT.out; omega
   have e : rTo W T (k + 1) = rRow W k (rTo W T k) 4 := rfl
   have hp : ∀ r, rPos k r = k / 4 * 4 + r := fun _ => rfl
   have hrow : ∀ L r, rRow W k L (r + 1) = (rRow W k L r).set (rPos k r) (((rRow W k L r).getD (rPos k r) 0 <<< 8) ||| ((W.getD k 0 >>> UInt32.ofNat (24 - 8 * r)) &&& 255)) := fun _ _ => rfl
   have hrl : ∀ r, (rRow W k (rTo W T k) r).length = T := fun r => by rw [rRow_length, HWL.out]
   have hr0 : rRow W k (rTo W T k) 0 = rTo W T k := rfl
   obtain ⟨q, hqq⟩ : ∃ q, q = k / 4 := ⟨_, rfl⟩
   rw [← hqq] at hq hq' hq4 hp
   rw [← hr0] at hB
   have HROW := Lib.hid (hrow (rTo W T k))
   have HRL := Lib.hid hrl
   have HE := Lib.hid e
   have HP := Lib.hid hp
   generalize W.getD k 0 = wd at *
   generalize rTo W T k = L at *
   have hk0 : (0 : Int) ≤ (k : Int) := by omega
   have hk1 : (k : Int) < (T : Int) := by omega
   have hq0 : (0 : Int) ≤ (q : Int) := by omega
   have hq1 : (q : Int) < (R : Int) := by omega
   clear e hp hrow hrl hr0 hqq
   go_wp2
   clear hq hq' hcw hk0 hk1 hd
   go_loopw [23] (fun i wv => ∃ r : Nat, r ≤ 4 ∧ i = .int .i64 (r : Int) ∧ Blk wv w.heap.size 94 ((rRow W k L r).map U32) ∧ Blk wv gw 92 (W.map U32) ∧ Below w.heap.size w wv) (fun i _ => 4 - (intOf i).toNat)
   case atStart => exact ⟨0, by omega, rfl, hB, hWw, hb⟩
   case round =>
    clear hB hWw hb
    obtain ⟨r, hr, rfl, hB, hWw, hb⟩ := hrel
    by_cases hrl : r < 4
    ·
     have hd : decide ((r : Int) < 4) = true := by simp; omega
     have e := HROW.out r
     have hlen := HRL.out r
     have hpp := HP.out r
     have hpT : rPos k r < T := by have := HT.out; omega
     have hc := fun V (h : Below wr.heap.size wr V) => (hB.below h hB.lt).at32 (rPos k r) (by omega)
     have hf := hB.frozen (rPos k r)
     have hc0 := hB.at32 (rPos k r) (by omega)
     have hlB := hB.lt
     have hlW := hWw.lt
     rw [hpp] at hc hf hc0
     rw [hpp] at e
     generalize (rRow W k L r).getD (q * 4 + r) 0 = x2 at *
     have HE1 := Lib.hid e
     generalize rRow W k L r = LL at *
     clear e hlen hpp hpT
     obtain rfl | rfl | rfl | rfl : r = 0 ∨ r = 1 ∨ r = 2 ∨ r = 3 := by omega
     ·
      have hbl := hb
      clear hb
      have hc' := fun V (h : Below wr.heap.size wr V) => (show V.cell? ⟨w.heap.size, q * 4, none⟩ = some (.int .u32 x2.toNat) from hc V h)
      clear hc
      have hc := hc'
      clear hc'
      have hf : wr.frozen? ⟨w.heap.size, q * 4, none⟩ = false := hf
      have hc0 : wr.cell? ⟨w.heap.size, q * 4, none⟩ = some (.int .u32 x2.toNat) := hc0
      have hw1 : IntKind.i64.wrap (0 : Int) = 0 := by decide +kernel
      have hw2 : IntKind.i64.wrap (24 : Int) = 24 := by decide +kernel
      have HE1 : Hid (rRow W k L (0 + 1) = LL.set (q * 4) ((x2 <<< (8 : UInt32)) ||| ((wd >>> UInt32.ofNat 24) &&& (255 : UInt32)))) := Lib.hid HE1.out
      have hsh : (wd.toNat : Int) / (16777216 : Int) = ((wd >>> UInt32.ofNat 24).toNat : Int) := w_shr wd 24 (by decide)
      have h1 := w_shl8 x2
      have h1' := w_shl8' x2
      generalize wd >>> UInt32.ofNat 24 = y at *
      have h2 := w_and255 y
      have h3 := w_or (x2 <<< 8) (y &&& (255 : UInt32))
      generalize y &&& (255 : UInt32) = z at *
      generalize x2 <<< 8 = x3 at *
      generalize x3 ||| z = u at *
      go_wp2
      refine wp_region_noPanic ?_
      apply wp_region_once_tail (m := 17) (Z := []) (D := [[], [], [], [], [2], [2, 3, 4], [2, 3, 4, 5], [2, 3, 4, 5, 6], [], [], [9], [9, 10], [8, 9, 10, 11], [8, 9, 10, 11, 12], [2, 3, 4, 5, 6, 7, 8, 9, 10, 11, 12, 13], [0], [0, 1, 2, 3, 4, 5, 6, 7, 8, 9, 10, 11, 12, 13, 14, 15], [0, 1, 2, 3, 4, 5, 6, 7, 8, 9, 10, 11, 12, 13, 14, 15, 16]]) (J := [[], [], [], [], [2], [3, 4], [5], [6], [], [], [9], [10], [8, 11], [12], [7, 13], [0], [1, 15]]) (Je := [14, 16]) (Rs := [Is _, Is _, Is _, Is _, Is _, Is _, Is _, Is _, Is _, Is _, Is _, Is _, Is _, Is _, Is _, Is _, Is _])
      ·
       kernel_rfl
      ·
       kernel_rfl
      ·
       kernel_rfl
      ·
       kernel_rfl
      ·
       kernel_rfl
      ·
       kernel_rfl
      ·
       kernel_rfl
      ·
       exact fun h => absurd rfl h
      ·
       intro u
       simp only [List.take_succ_cons, List.take_zero, List.map_cons, List.map_nil, fillU, List.setIfInBounds_toArray, List.set_cons_zero, List.set_cons_succ, Nat.zero_add, Nat.reduceAdd]
       exact rfl
      ·
       simp only [List.take_succ_cons, List.take_zero]
       refine ⟨fun u W hb hd K hK => ?_, ?_⟩
       ·
        clear hd
        go_simp
        apply hK
        ·
         simp only [Act.put, List.setIfInBounds_toArray, List.set_cons_zero, List.set_cons_succ]
         exact rfl
        ·
         exact Below.refl _ _
        ·
         exact IsOut
       refine ⟨fun u W hb hd K hK => ?_, ?_⟩
       ·
        clear hd
        go_simp
        apply hK
        ·
         simp only [Act.put, List.setIfInBounds_toArray, List.set_cons_zero, List.set_cons_succ]
         exact rfl
        ·
         exact Below.refl _ _
        ·
         exact IsOut
       refine ⟨fun u W hb hd K hK => ?_, ?_⟩
       ·
        clear hd
        go_simp
        apply hK
        ·
         simp only [Act.put, List.setIfInBounds_toArray, List.set_cons_zero, List.set_cons_succ]
         exact rfl
        ·
         exact Below.refl _ _
        ·
         exact IsOut
       refine ⟨fun u W hb hd K hK => ?_, ?_⟩
       ·
        clear hd
        go_simp
        apply hK
        ·
         simp only [Act.put, List.setIfInBounds_toArray, List.set_cons_zero, List.set_cons_succ]
         exact rfl
        ·
         exact Below.refl _ _
        ·
         exact IsOut
       refine ⟨fun u W hb hd K hK => ?_, ?_⟩
       ·
        simp only [Facts, nthR, Is, and_true] at hd
        simp only [hd] at hK ⊢
        clear hd
        go_simp
        apply hK
        ·
         simp only [Act.put, List.setIfInBounds_toArray, List.set_cons_zero, List.set_cons_succ]
         exact rfl
        ·
         exact Below.refl _ _
        ·
         exact IsOut
       refine ⟨fun u W hb hd K hK => ?_, ?_⟩
       ·
        simp only [Facts, nthR, Is, and_true] at hd
        simp only [hd] at hK ⊢
        clear hd
        go_simp
        apply hK
        ·
         simp only [Act.put, List.setIfInBounds_toArray, List.set_cons_zero, List.set_cons_succ]
         exact rfl
        ·
         exact Below.refl _ _
        ·
         exact IsOut
       refine ⟨fun u W hb hd K hK => ?_, ?_⟩
       ·
        simp only [Facts, nthR, Is, and_true] at hd
        simp only [hd] at hK ⊢
        clear hd
        go_simp
        apply hK
        ·
         simp only [Act.put, List.setIfInBounds_toArray, List.set_cons_zero, List.set_cons_succ]
         exact rfl
        ·
         exact Below.refl _ _
        ·
         exact IsOut
       refine ⟨fun u W hb hd K hK => ?_, ?_⟩
       ·
        simp only [Facts, nthR, Is, and_true] at hd
        simp only [hd] at hK ⊢
        clear hd
        go_simp
        apply hK
        ·
         simp only [Act.put, List.setIfInBounds_toArray, List.set_cons_zero, List.set_cons_succ]
         exact rfl
        ·
         exact Below.refl _ _
        ·
         exact IsOut
       refine ⟨fun u W hb hd K hK => ?_, ?_⟩
       ·
        clear hd
        go_simp
        apply hK
        ·
         simp only [Act.put, List.setIfInBounds_toArray, List.set_cons_zero, List.set_cons_succ]
         exact rfl
        ·
         exact Below.refl _ _
        ·
         exact IsOut
       refine ⟨fun u W hb hd K hK => ?_, ?_⟩
       ·
        clear hd
        go_simp
        apply hK
        ·
         simp only [Act.put, List.setIfInBounds_toArray, List.set_cons_zero, List.set_cons_succ]
         exact rfl
        ·
         exact Below.refl _ _
        ·
         exact IsOut
       refine ⟨fun u W hb hd K hK => ?_, ?_⟩
       ·
        simp only [Facts, nthR, Is, and_true] at hd
        simp only [hd] at hK ⊢
        clear hd
        go_simp
        apply hK
        ·
         simp only [Act.put, List.setIfInBounds_toArray, List.set_cons_zero, List.set_cons_succ]
         exact rfl
        ·
         exact Below.refl _ _
        ·
         exact IsOut
       refine ⟨fun u W hb hd K hK => ?_, ?_⟩
       ·
        simp only [Facts, nthR, Is, and_true] at hd
        simp only [hd] at hK ⊢
        clear hd
        go_simp
        apply hK
        ·
         simp only [Act.put, List.setIfInBounds_toArray, List.set_cons_zero, List.set_cons_succ]
         exact rfl
        ·
         exact Below.refl _ _
        ·
         exact IsOut
       refine ⟨fun u W hb hd K hK => ?_, ?_⟩
       ·
        simp only [Facts, nthR, Is, and_true] at hd
        simp only [hd] at hK ⊢
        clear hd
        go_simp
        apply hK
        ·
         simp only [Act.put, List.setIfInBounds_toArray, List.set_cons_zero, List.set_cons_succ]
         exact rfl
        ·
         exact Below.refl _ _
        ·
         exact IsOut
       refine ⟨fun u W hb hd K hK => ?_, ?_⟩
       ·
        simp only [Facts, nthR, Is, and_true] at hd
        simp only [hd] at hK ⊢
        clear hd
        go_simp
        apply hK
        ·
         simp only [Act.put, List.setIfInBounds_toArray, List.set_cons_zero, List.set_cons_succ]
         exact rfl
        ·
         exact Below.refl _ _
        ·
         exact IsOut
       refine ⟨fun u W hb hd K hK => ?_, ?_⟩
       ·
        simp only [Facts, nthR, Is, and_true] at hd
        simp only [hd] at hK ⊢
        clear hd
        go_simp
        apply hK
        ·
         simp only [Act.put, List.setIfInBounds_toArray, List.set_cons_zero, List.set_cons_succ]
         exact rfl
        ·
         exact Below.refl _ _
        ·
         exact IsOut
       refine ⟨fun u W hb hd K hK => ?_, ?_⟩
       ·
        simp only [Facts, nthR, Is, and_true] at hd
        simp only [hd] at hK ⊢
        clear hd
        go_simp
        apply hK
        ·
         simp only [Act.put, List.setIfInBounds_toArray, List.set_cons_zero, List.set_cons_succ]
         exact rfl
        ·
         exact Below.refl _ _
        ·
         exact IsOut
       refine ⟨fun u W hb hd K hK => ?_, ?_⟩
       ·
        simp only [Facts, nthR, Is, and_true] at hd
        simp only [hd] at hK ⊢
        clear hd
        go_simp
        apply hK
        ·
         simp only [Act.put, List.setIfInBounds_toArray, List.set_cons_zero, List.set_cons_succ]
         exact rfl
        ·
         exact Below.refl _ _
        ·
         exact IsOut
       exact trivial
      ·
       skip
       exact trivial
      ·
       exact (.is (.is (.is (.is (.is (.is (.is (.is (.is (.is (.is (.is (.is (.is (.is (.is (.is .nil)))))))))))))))))
      ·
       intro u W hb hd
       simp only [List.drop_succ_cons, List.drop_zero]
       simp only [Facts, nthR, Is, and_true] at hd
       simp only [hd]
       clear hd
       replace hf := (hb.frozen (p := ⟨w.heap.size, q * 4, none⟩) hlB).trans hf
       replace hc0 := (hb.cell (p := ⟨w.heap.size, q * 4, none⟩) hlB).trans hc0
       replace hB := hB.below hb hlB
       replace hWw := hWw.below hb hlW
       replace hbl := hbl.trans (hb.mono hbl.size)
       clear hb hc
       go_wp2
       refine NoPanic.normal ?_
       go_wp2
       go_roundw
       case rel =>
        refine ⟨1, by omega, by rfl, ?_, hWw.far (show gw ≠ w.heap.size by omega) _, hbl.setCell (Nat.le_refl _) _⟩
        rw [show 1 = 0 + 1 from rfl, HE1.out, ← map_set32]
        exact hB.set_ _ _
       case measure => simp [intOf]
     ·
      have hbl := hb
      clear hb
      have hc' := fun V (h : Below wr.heap.size wr V) => (show V.cell? ⟨w.heap.size, q * 4 + 1, none⟩ = some (.int .u32 x2.toNat) from hc V h)
      clear hc
      have hc := hc'
      clear hc'
      have hf : wr.frozen? ⟨w.heap.size, q * 4 + 1, none⟩ = false := hf
      have hc0 : wr.cell? ⟨w.heap.size, q * 4 + 1, none⟩ = some (.int .u32 x2.toNat) := hc0
      have hw1 : IntKind.i64.wrap (8 : Int) = 8 := by decide +kernel
      have hw2 : IntKind.i64.wrap (16 : Int) = 16 := by decide +kernel
      have HE1 : Hid (rRow W k L (1 + 1) = LL.set (q * 4 + 1) ((x2 <<< (8 : UInt32)) ||| ((wd >>> UInt32.ofNat 16) &&& (255 : UInt32)))) := Lib.hid HE1.out
      have hsh : (wd.toNat : Int) / (65536 : Int) = ((wd >>> UInt32.ofNat 16).toNat : Int) := w_shr wd 16 (by decide)
      have h1 := w_shl8 x2
      have h1' := w_shl8' x2
      generalize wd >>> UInt32.ofNat 16 = y at *
      have h2 := w_and255 y
      have h3 := w_or (x2 <<< 8) (y &&& (255 : UInt32))
      generalize y &&& (255 : UInt32) = z at *
      generalize x2 <<< 8 = x3 at *
      generalize x3 ||| z = u at *
      go_wp2
      refine wp_region_noPanic ?_
      apply wp_region_once_tail (m := 17) (Z := []) (D := [[], [], [], [], [2], [2, 3, 4], [2, 3, 4, 5], [2, 3, 4, 5, 6], [], [], [9], [9, 10], [8, 9, 10, 11], [8, 9, 10, 11, 12], [2, 3, 4, 5, 6, 7, 8, 9, 10, 11, 12, 13], [0], [0, 1, 2, 3, 4, 5, 6, 7, 8, 9, 10, 11, 12, 13, 14, 15], [0, 1, 2, 3, 4, 5, 6, 7, 8, 9, 10, 11, 12, 13, 14, 15, 16]]) (J := [[], [], [], [], [2], [3, 4], [5], [6], [], [], [9], [10], [8, 11], [12], [7, 13], [0], [1, 15]]) (Je := [14, 16]) (Rs := [Is _, Is _, Is _, Is _, Is _, Is _, Is _, Is _, Is _, Is _, Is _, Is _, Is _, Is _, Is _, Is _, Is _])
      ·
       kernel_rfl
      ·
       kernel_rfl
      ·
       kernel_rfl
      ·
       kernel_rfl
      ·
       kernel_rfl
      ·
       kernel_rfl
      ·
       kernel_rfl
      ·
       exact fun h => absurd rfl h
      ·
       intro u
       simp only [List.take_succ_cons, List.take_zero, List.map_cons, List.map_nil, fillU, List.setIfInBounds_toArray, List.set_cons_zero, List.set_cons_succ, Nat.zero_add, Nat.reduceAdd]
       exact rfl
      ·
       simp only [List.take_succ_cons, List.take_zero]
       refine ⟨fun u W hb hd K hK => ?_, ?_⟩
       ·
        clear hd
        go_simp
        apply hK
        ·
         simp only [Act.put, List.setIfInBounds_toArray, List.set_cons_zero, List.set_cons_succ]
         exact rfl
        ·
         exact Below.refl _ _
        ·
         exact IsOut
       refine ⟨fun u W hb hd K hK => ?_, ?_⟩
       ·
        clear hd
        go_simp
        apply hK
        ·
         simp only [Act.put, List.setIfInBounds_toArray, List.set_cons_zero, List.set_cons_succ]
         exact rfl
        ·
         exact Below.refl _ _
        ·
         exact IsOut
       refine ⟨fun u W hb hd K hK => ?_, ?_⟩
       ·
        clear hd
        go_simp
        apply hK
        ·
         simp only [Act.put, List.setIfInBounds_toArray, List.set_cons_zero, List.set_cons_succ]
         exact rfl
        ·
         exact Below.refl _ _
        ·
         exact IsOut
       refine ⟨fun u W hb hd K hK => ?_, ?_⟩
       ·
        clear hd
        go_simp
        apply hK
        ·
         simp only [Act.put, List.setIfInBounds_toArray, List.set_cons_zero, List.set_cons_succ]
         exact rfl
        ·
         exact Below.refl _ _
        ·
         exact IsOut
       refine ⟨fun u W hb hd K hK => ?_, ?_⟩
       ·
        simp only [Facts, nthR, Is, and_true] at hd
        simp only [hd] at hK ⊢
        clear hd
        go_simp
        apply hK
        ·
         simp only [Act.put, List.setIfInBounds_toArray, List.set_cons_zero, List.set_cons_succ]
         exact rfl
        ·
         exact Below.refl _ _
        ·
         exact IsOut
       refine ⟨fun u W hb hd K hK => ?_, ?_⟩
       ·
        simp only [Facts, nthR, Is, and_true] at hd
        simp only [hd] at hK ⊢
        clear hd
        go_simp
        apply hK
        ·
         simp only [Act.put, List.setIfInBounds_toArray, List.set_cons_zero, List.set_cons_succ]
         exact rfl
        ·
         exact Below.refl _ _
        ·
         exact IsOut
       refine ⟨fun u W hb hd K hK => ?_, ?_⟩
       ·
        simp only [Facts, nthR, Is, and_true] at hd
        simp only [hd] at hK ⊢
        clear hd
        go_simp
        apply hK
        ·
         simp only [Act.put, List.setIfInBounds_toArray, List.set_cons_zero, List.set_cons_succ]
         exact rfl
        ·
         exact Below.refl _ _
        ·
         exact IsOut
       refine ⟨fun u W hb hd K hK => ?_, ?_⟩
       ·
        simp only [Facts, nthR, Is, and_true] at hd
        simp only [hd] at hK ⊢
        clear hd
        go_simp
        apply hK
        ·
         simp only [Act.put, List.setIfInBounds_toArray, List.set_cons_zero, List.set_cons_succ]
         exact rfl
        ·
         exact Below.refl _ _
        ·
         exact IsOut
       refine ⟨fun u W hb hd K hK => ?_, ?_⟩
       ·
        clear hd
        go_simp
        apply hK
        ·
         simp only [Act.put, List.setIfInBounds_toArray, List.set_cons_zero, List.set_cons_succ]
         exact rfl
        ·
         exact Below.refl _ _
        ·
         exact IsOut
       refine ⟨fun u W hb hd K hK => ?_, ?_⟩
       ·
        clear hd
        go_simp
        apply hK
        ·
         simp only [Act.put, List.setIfInBounds_toArray, List.set_cons_zero, List.set_cons_succ]
         exact rfl
        ·
         exact Below.refl _ _
        ·
         exact IsOut
       refine ⟨fun u W hb hd K hK => ?_, ?_⟩
       ·
        simp only [Facts, nthR, Is, and_true] at hd
        simp only [hd] at hK ⊢
        clear hd
        go_simp
        apply hK
        ·
         simp only [Act.put, List.setIfInBounds_toArray, List.set_cons_zero, List.set_cons_succ]
         exact rfl
        ·
         exact Below.refl _ _
        ·
         exact IsOut
       refine ⟨fun u W hb hd K hK => ?_, ?_⟩
       ·
        simp only [Facts, nthR, Is, and_true] at hd
        simp only [hd] at hK ⊢
        clear hd
        go_simp
        apply hK
        ·
         simp only [Act.put, List.setIfInBounds_toArray, List.set_cons_zero, List.set_cons_succ]
         exact rfl
        ·
         exact Below.refl _ _
        ·
         exact IsOut
       refine ⟨fun u W hb hd K hK => ?_, ?_⟩
       ·
        simp only [Facts, nthR, Is, and_true] at hd
        simp only [hd] at hK ⊢
        clear hd
        go_simp
        apply hK
        ·
         simp only [Act.put, List.setIfInBounds_toArray, List.set_cons_zero, List.set_cons_succ]
         exact rfl
        ·
         exact Below.refl _ _
        ·
         exact IsOut
       refine ⟨fun u W hb hd K hK => ?_, ?_⟩
       ·
        simp only [Facts, nthR, Is, and_true] at hd
        simp only [hd] at hK ⊢
        clear hd
        go_simp
        apply hK
        ·
         simp only [Act.put, List.setIfInBounds_toArray, List.set_cons_zero, List.set_cons_succ]
         exact rfl
        ·
         exact Below.refl _ _
        ·
         exact IsOut
       refine ⟨fun u W hb hd K hK => ?_, ?_⟩
       ·
        simp only [Facts, nthR, Is, and_true] at hd
        simp only [hd] at hK ⊢
        clear hd
        go_simp
        apply hK
        ·
         simp only [Act.put, List.setIfInBounds_toArray, List.set_cons_zero, List.set_cons_succ]
         exact rfl
        ·
         exact Below.refl _ _
        ·
         exact IsOut
       refine ⟨fun u W hb hd K hK => ?_, ?_⟩
       ·
        simp only [Facts, nthR, Is, and_true] at hd
        simp only [hd] at hK ⊢
        clear hd
        go_simp
        apply hK
        ·
         simp only [Act.put, List.setIfInBounds_toArray, List.set_cons_zero, List.set_cons_succ]
         exact rfl
        ·
         exact Below.refl _ _
        ·
         exact IsOut
       refine ⟨fun u W hb hd K hK => ?_, ?_⟩
       ·
        simp only [Facts, nthR, Is, and_true] at hd
        simp only [hd] at hK ⊢
        clear hd
        go_simp
        apply hK
        ·
         simp only [Act.put, List.setIfInBounds_toArray, List.set_cons_zero, List.set_cons_succ]
         exact rfl
        ·
         exact Below.refl _ _
        ·
         exact IsOut
       exact trivial
      ·
       skip
       exact trivial
      ·
       exact (.is (.is (.is (.is (.is (.is (.is (.is (.is (.is (.is (.is (.is (.is (.is (.is (.is .nil)))))))))))))))))
      ·
       intro u W hb hd
       simp only [List.drop_succ_cons, List.drop_zero]
       simp only [Facts, nthR, Is, and_true] at hd
       simp only [hd]
       clear hd
       replace hf := (hb.frozen (p := ⟨w.heap.size, q * 4 + 1, none⟩) hlB).trans hf
       replace hc0 := (hb.cell (p := ⟨w.heap.size, q * 4 + 1, none⟩) hlB).trans hc0
       replace hB := hB.below hb hlB
       replace hWw := hWw.below hb hlW
       replace hbl := hbl.trans (hb.mono hbl.size)
       clear hb hc
       go_wp2
       refine NoPanic.normal ?_
       go_wp2
       go_roundw
       case rel =>
        refine ⟨2, by omega, by rfl, ?_, hWw.far (show gw ≠ w.heap.size by omega) _, hbl.setCell (Nat.le_refl _) _⟩
        rw [show 2 = 1 + 1 from rfl, HE1.out, ← map_set32]
        exact hB.set_ _ _
       case measure => simp [intOf]
     ·
      have hbl := hb
      clear hb
      have hc' := fun V (h : Below wr.heap.size wr V) => (show V.cell? ⟨w.heap.size, q * 4 + 2, none⟩ = some (.int .u32 x2.toNat) from hc V h)
      clear hc
      have hc := hc'
      clear hc'
      have hf : wr.frozen? ⟨w.heap.size, q * 4 + 2, none⟩ = false := hf
      have hc0 : wr.cell? ⟨w.heap.size, q * 4 + 2, none⟩ = some (.int .u32 x2.toNat) := hc0
      have hw1 : IntKind.i64.wrap (16 : Int) = 16 := by decide +kernel
      have hw2 : IntKind.i64.wrap (8 : Int) = 8 := by decide +kernel
      have HE1 : Hid (rRow W k L (2 + 1) = LL.set (q * 4 + 2) ((x2 <<< (8 : UInt32)) ||| ((wd >>> UInt32.ofNat 8) &&& (255 : UInt32)))) := Lib.hid HE1.out
      have hsh : (wd.toNat : Int) / (256 : Int) = ((wd >>> UInt32.ofNat 8).toNat : Int) := w_shr wd 8 (by decide)
      have h1 := w_shl8 x2
      have h1' := w_shl8' x2
      generalize wd >>> UInt32.ofNat 8 = y at *
      have h2 := w_and255 y
      have h3 := w_or (x2 <<< 8) (y &&& (255 : UInt32))
      generalize y &&& (255 : UInt32) = z at *
      generalize x2 <<< 8 = x3 at *
      generalize x3 ||| z = u at *
      go_wp2
      refine wp_region_noPanic ?_
      apply wp_region_once_tail (m := 17) (Z := []) (D := [[], [], [], [], [2], [2, 3, 4], [2, 3, 4, 5], [2, 3, 4, 5, 6], [], [], [9], [9, 10], [8, 9, 10, 11], [8, 9, 10, 11, 12], [2, 3, 4, 5, 6, 7, 8, 9, 10, 11, 12, 13], [0], [0, 1, 2, 3, 4, 5, 6, 7, 8, 9, 10, 11, 12, 13, 14, 15], [0, 1, 2, 3, 4, 5, 6, 7, 8, 9, 10, 11, 12, 13, 14, 15, 16]]) (J := [[], [], [], [], [2], [3, 4], [5], [6], [], [], [9], [10], [8, 11], [12], [7, 13], [0], [1, 15]]) (Je := [14, 16]) (Rs := [Is _, Is _, Is _, Is _, Is _, Is _, Is _, Is _, Is _, Is _, Is _, Is _, Is _, Is _, Is _, Is _, Is _])
      ·
       kernel_rfl
      ·
       kernel_rfl
      ·
       kernel_rfl
      ·
       kernel_rfl
      ·
       kernel_rfl
      ·
       kernel_rfl
      ·
       kernel_rfl
      ·
       exact fun h => absurd rfl h
      ·
       intro u
       simp only [List.take_succ_cons, List.take_zero, List.map_cons, List.map_nil, fillU, List.setIfInBounds_toArray, List.set_cons_zero, List.set_cons_succ, Nat.zero_add, Nat.reduceAdd]
       exact rfl
      ·
       simp only [List.take_succ_cons, List.take_zero]
       refine ⟨fun u W hb hd K hK => ?_, ?_⟩
       ·
        clear hd
        go_simp
        apply hK
        ·
         simp only [Act.put, List.setIfInBounds_toArray, List.set_cons_zero, List.set_cons_succ]
         exact rfl
        ·
         exact Below.refl _ _
        ·
         exact IsOut
       refine ⟨fun u W hb hd K hK => ?_, ?_⟩
       ·
        clear hd
        go_simp
        apply hK
        ·
         simp only [Act.put, List.setIfInBounds_toArray, List.set_cons_zero, List.set_cons_succ]
         exact rfl
        ·
         exact Below.refl _ _
        ·
         exact IsOut
       refine ⟨fun u W hb hd K hK => ?_, ?_⟩
       ·
        clear hd
        go_simp
        apply hK
        ·
         simp only [Act.put, List.setIfInBounds_toArray, List.set_cons_zero, List.set_cons_succ]
         exact rfl
        ·
         exact Below.refl _ _
        ·
         exact IsOut
       refine ⟨fun u W hb hd K hK => ?_, ?_⟩
       ·
        clear hd
        go_simp
        apply hK
        ·
         simp only [Act.put, List.setIfInBounds_toArray, List.set_cons_zero, List.set_cons_succ]
         exact rfl
        ·
         exact Below.refl _ _
        ·
         exact IsOut
       refine ⟨fun u W hb hd K hK => ?_, ?_⟩
       ·
        simp only [Facts, nthR, Is, and_true] at hd
        simp only [hd] at hK ⊢
        clear hd
        go_simp
        apply hK
        ·
         simp only [Act.put, List.setIfInBounds_toArray, List.set_cons_zero, List.set_cons_succ]
         exact rfl
        ·
         exact Below.refl _ _
        ·
         exact IsOut
       refine ⟨fun u W hb hd K hK => ?_, ?_⟩
       ·
        simp only [Facts, nthR, Is, and_true] at hd
        simp only [hd] at hK ⊢
        clear hd
        go_simp
        apply hK
        ·
         simp only [Act.put, List.setIfInBounds_toArray, List.set_cons_zero, List.set_cons_succ]
         exact rfl
        ·
         exact Below.refl _ _
        ·
         exact IsOut
       refine ⟨fun u W hb hd K hK => ?_, ?_⟩
       ·
        simp only [Facts, nthR, Is, and_true] at hd
        simp only [hd] at hK ⊢
        clear hd
        go_simp
        apply hK
        ·
         simp only [Act.put, List.setIfInBounds_toArray, List.set_cons_zero, List.set_cons_succ]
         exact rfl
        ·
         exact Below.refl _ _
        ·
         exact IsOut
       refine ⟨fun u W hb hd K hK => ?_, ?_⟩
       ·
        simp only [Facts, nthR, Is, and_true] at hd
        simp only [hd] at hK ⊢
        clear hd
        go_simp
        apply hK
        ·
         simp only [Act.put, List.setIfInBounds_toArray, List.set_cons_zero, List.set_cons_succ]
         exact rfl
        ·
         exact Below.refl _ _
        ·
         exact IsOut
       refine ⟨fun u W hb hd K hK => ?_, ?_⟩
       ·
        clear hd
        go_simp
        apply hK
        ·
         simp only [Act.put, List.setIfInBounds_toArray, List.set_cons_zero, List.set_cons_succ]
         exact rfl
        ·
         exact Below.refl _ _
        ·
         exact IsOut
       refine ⟨fun u W hb hd K hK => ?_, ?_⟩
       ·
        clear hd
        go_simp
        apply hK
        ·
         simp only [Act.put, List.setIfInBounds_toArray, List.set_cons_zero, List.set_cons_succ]
         exact rfl
        ·
         exact Below.refl _ _
        ·
         exact IsOut
       refine ⟨fun u W hb hd K hK => ?_, ?_⟩
       ·
        simp only [Facts, nthR, Is, and_true] at hd
        simp only [hd] at hK ⊢
        clear hd
        go_simp
        apply hK
        ·
         simp only [Act.put, List.setIfInBounds_toArray, List.set_cons_zero, List.set_cons_succ]
         exact rfl
        ·
         exact Below.refl _ _
        ·
         exact IsOut
       refine ⟨fun u W hb hd K hK => ?_, ?_⟩
       ·
        simp only [Facts, nthR, Is, and_true] at hd
        simp only [hd] at hK ⊢
        clear hd
        go_simp
        apply hK
        ·
         simp only [Act.put, List.setIfInBounds_toArray, List.set_cons_zero, List.set_cons_succ]
         exact rfl
        ·
         exact Below.refl _ _
        ·
         exact IsOut
       refine ⟨fun u W hb hd K hK => ?_, ?_⟩
       ·
        simp only [Facts, nthR, Is, and_true] at hd
        simp only [hd] at hK ⊢
        clear hd
        go_simp
        apply hK
        ·
         simp only [Act.put, List.setIfInBounds_toArray, List.set_cons_zero, List.set_cons_succ]
         exact rfl
        ·
         exact Below.refl _ _
        ·
         exact IsOut
       refine ⟨fun u W hb hd K hK => ?_, ?_⟩
       ·
        simp only [Facts, nthR, Is, and_true] at hd
        simp only [hd] at hK ⊢
        clear hd
        go_simp
        apply hK
        ·
         simp only [Act.put, List.setIfInBounds_toArray, List.set_cons_zero, List.set_cons_succ]
         exact rfl
        ·
         exact Below.refl _ _
        ·
         exact IsOut
       refine ⟨fun u W hb hd K hK => ?_, ?_⟩
       ·
        simp only [Facts, nthR, Is, and_true] at hd
        simp only [hd] at hK ⊢
        clear hd
        go_simp
        apply hK
        ·
         simp only [Act.put, List.setIfInBounds_toArray, List.set_cons_zero, List.set_cons_succ]
         exact rfl
        ·
         exact Below.refl _ _
        ·
         exact IsOut
       refine ⟨fun u W hb hd K hK => ?_, ?_⟩
       ·
        simp only [Facts, nthR, Is, and_true] at hd
        simp only [hd] at hK ⊢
        clear hd
        go_simp
        apply hK
        ·
         simp only [Act.put, List.setIfInBounds_toArray, List.set_cons_zero, List.set_cons_succ]
         exact rfl
        ·
         exact Below.refl _ _
        ·
         exact IsOut
       refine ⟨fun u W hb hd K hK => ?_, ?_⟩
       ·
        simp only [Facts, nthR, Is, and_true] at hd
        simp only [hd] at hK ⊢
        clear hd
        go_simp
        apply hK
        ·
         simp only [Act.put, List.setIfInBounds_toArray, List.set_cons_zero, List.set_cons_succ]
         exact rfl
        ·
         exact Below.refl _ _
        ·
         exact IsOut
       exact trivial
      ·
       skip
       exact trivial
      ·
       exact (.is (.is (.is (.is (.is (.is (.is (.is (.is (.is (.is (.is (.is (.is (.is (.is (.is .nil)))))))))))))))))
      ·
       intro u W hb hd
       simp only [List.drop_succ_cons, List.drop_zero]
       simp only [Facts, nthR, Is, and_true] at hd
       simp only [hd]
       clear hd
       replace hf := (hb.frozen (p := ⟨w.heap.size, q * 4 + 2, none⟩) hlB).trans hf
       replace hc0 := (hb.cell (p := ⟨w.heap.size, q * 4 + 2, none⟩) hlB).trans hc0
       replace hB := hB.below hb hlB
       replace hWw := hWw.below hb hlW
       replace hbl := hbl.trans (hb.mono hbl.size)
       clear hb hc
       go_wp2
       refine NoPanic.normal ?_
       go_wp2
       go_roundw
       case rel =>
        refine ⟨3, by omega, by rfl, ?_, hWw.far (show gw ≠ w.heap.size by omega) _, hbl.setCell (Nat.le_refl _) _⟩
        rw [show 3 = 2 + 1 from rfl, HE1.out, ← map_set32]
        exact hB.set_ _ _
       case measure => simp [intOf]
     ·
      have hbl := hb
      clear hb
      have hc' := fun V (h : Below wr.heap.size wr V) => (show V.cell? ⟨w.heap.size, q * 4 + 3, none⟩ = some (.int .u32 x2.toNat) from hc V h)
      clear hc
      have hc := hc'
      clear hc'
      have hf : wr.frozen? ⟨w.heap.size, q * 4 + 3, none⟩ = false := hf
      have hc0 : wr.cell? ⟨w.heap.size, q * 4 + 3, none⟩ = some (.int .u32 x2.toNat) := hc0
      have hw1 : IntKind.i64.wrap (24 : Int) = 24 := by decide +kernel
      have hw2 : IntKind.i64.wrap (0 : Int) = 0 := by decide +kernel
      have HE1 : Hid (rRow W k L (3 + 1) = LL.set (q * 4 + 3) ((x2 <<< (8 : UInt32)) ||| ((wd >>> UInt32.ofNat 0) &&& (255 : UInt32)))) := Lib.hid HE1.out
      have hwd : wd >>> UInt32.ofNat 0 = wd := by simp
      rw [hwd] at HE1
      clear hwd
      have h1 := w_shl8 x2
      have h1' := w_shl8' x2
      have h2 := w_and255 wd
      have h3 := w_or (x2 <<< 8) (wd &&& (255 : UInt32))
      generalize wd &&& (255 : UInt32) = z at *
      generalize x2 <<< 8 = x3 at *
      generalize x3 ||| z = u at *
      go_wp2
      refine wp_region_noPanic ?_
      apply wp_region_once_tail (m := 17) (Z := []) (D := [[], [], [], [], [2], [2, 3, 4], [2, 3, 4, 5], [2, 3, 4, 5, 6], [], [], [9], [9, 10], [8, 9, 10, 11], [8, 9, 10, 11, 12], [2, 3, 4, 5, 6, 7, 8, 9, 10, 11, 12, 13], [0], [0, 1, 2, 3, 4, 5, 6, 7, 8, 9, 10, 11, 12, 13, 14, 15], [0, 1, 2, 3, 4, 5, 6, 7, 8, 9, 10, 11, 12, 13, 14, 15, 16]]) (J := [[], [], [], [], [2], [3, 4], [5], [6], [], [], [9], [10], [8, 11], [12], [7, 13], [0], [1, 15]]) (Je := [14, 16]) (Rs := [Is _, Is _, Is _, Is _, Is _, Is _, Is _, Is _, Is _, Is _, Is _, Is _, Is _, Is _, Is _, Is _, Is _])
      ·
       kernel_rfl
      ·
       kernel_rfl
      ·
       kernel_rfl
      ·
       kernel_rfl
      ·
       kernel_rfl
      ·
       kernel_rfl
      ·
       kernel_rfl
      ·
       exact fun h => absurd rfl h
      ·
       intro u
       simp only [List.take_succ_cons, List.take_zero, List.map_cons, List.map_nil, fillU, List.setIfInBounds_toArray, List.set_cons_zero, List.set_cons_succ, Nat.zero_add, Nat.reduceAdd]
       exact rfl
      ·
       simp only [List.take_succ_cons, List.take_zero]
       refine ⟨fun u W hb hd K hK => ?_, ?_⟩
       ·
        clear hd
        go_simp
        apply hK
        ·
         simp only [Act.put, List.setIfInBounds_toArray, List.set_cons_zero, List.set_cons_succ]
         exact rfl
        ·
         exact Below.refl _ _
        ·
         exact IsOut
       refine ⟨fun u W hb hd K hK => ?_, ?_⟩
       ·
        clear hd
        go_simp
        apply hK
        ·
         simp only [Act.put, List.setIfInBounds_toArray, List.set_cons_zero, List.set_cons_succ]
         exact rfl
        ·
         exact Below.refl _ _
        ·
         exact IsOut
       refine ⟨fun u W hb hd K hK => ?_, ?_⟩
       ·
        clear hd
        go_simp
        apply hK
        ·
         simp only [Act.put, List.setIfInBounds_toArray, List.set_cons_zero, List.set_cons_succ]
         exact rfl
        ·
         exact Below.refl _ _
        ·
         exact IsOut
       refine ⟨fun u W hb hd K hK => ?_, ?_⟩
       ·
        clear hd
        go_simp
        apply hK
        ·
         simp only [Act.put, List.setIfInBounds_toArray, List.set_cons_zero, List.set_cons_succ]
         exact rfl
        ·
         exact Below.refl _ _
        ·
         exact IsOut
       refine ⟨fun u W hb hd K hK => ?_, ?_⟩
       ·
        simp only [Facts, nthR, Is, and_true] at hd
        simp only [hd] at hK ⊢
        clear hd
        go_simp
        apply hK
        ·
         simp only [Act.put, List.setIfInBounds_toArray, List.set_cons_zero, List.set_cons_succ]
         exact rfl
        ·
         exact Below.refl _ _
        ·
         exact IsOut
       refine ⟨fun u W hb hd K hK => ?_, ?_⟩
       ·
        simp only [Facts, nthR, Is, and_true] at hd
        simp only [hd] at hK ⊢
        clear hd
        go_simp
        apply hK
        ·
         simp only [Act.put, List.setIfInBounds_toArray, List.set_cons_zero, List.set_cons_succ]
         exact rfl
        ·
         exact Below.refl _ _
        ·
         exact IsOut
       refine ⟨fun u W hb hd K hK => ?_, ?_⟩
       ·
        simp only [Facts, nthR, Is, and_true] at hd
        simp only [hd] at hK ⊢
        clear hd
        go_simp
        apply hK
        ·
         simp only [Act.put, List.setIfInBounds_toArray, List.set_cons_zero, List.set_cons_succ]
         exact rfl
        ·
         exact Below.refl _ _
        ·
         exact IsOut
       refine ⟨fun u W hb hd K hK => ?_, ?_⟩
       ·
        simp only [Facts, nthR, Is, and_true] at hd
        simp only [hd] at hK ⊢
        clear hd
        go_simp
        apply hK
        ·
         simp only [Act.put, List.setIfInBounds_toArray, List.set_cons_zero, List.set_cons_succ]
         exact rfl
        ·
         exact Below.refl _ _
        ·
         exact IsOut
       refine ⟨fun u W hb hd K hK => ?_, ?_⟩
       ·
        clear hd
        go_simp
        apply hK
        ·
         simp only [Act.put, List.setIfInBounds_toArray, List.set_cons_zero, List.set_cons_succ]
         exact rfl
        ·
         exact Below.refl _ _
        ·
         exact IsOut
       refine ⟨fun u W hb hd K hK => ?_, ?_⟩
       ·
        clear hd
        go_simp
        apply hK
        ·
         simp only [Act.put, List.setIfInBounds_toArray, List.set_cons_zero, List.set_cons_succ]
         exact rfl
        ·
         exact Below.refl _ _
        ·
         exact IsOut
       refine ⟨fun u W hb hd K hK => ?_, ?_⟩
       ·
        simp only [Facts, nthR, Is, and_true] at hd
        simp only [hd] at hK ⊢
        clear hd
        go_simp
        apply hK
        ·
         simp only [Act.put, List.setIfInBounds_toArray, List.set_cons_zero, List.set_cons_succ]
         exact rfl
        ·
         exact Below.refl _ _
        ·
         exact IsOut
       refine ⟨fun u W hb hd K hK => ?_, ?_⟩
       ·
        simp only [Facts, nthR, Is, and_true] at hd
        simp only [hd] at hK ⊢
        clear hd
        go_simp
        apply hK
        ·
         simp only [Act.put, List.setIfInBounds_toArray, List.set_cons_zero, List.set_cons_succ]
         exact rfl
        ·
         exact Below.refl _ _
        ·
         exact IsOut
       refine ⟨fun u W hb hd K hK => ?_, ?_⟩
       ·
        simp only [Facts, nthR, Is, and_true] at hd
        simp only [hd] at hK ⊢
        clear hd
        go_simp
        apply hK
        ·
         simp only [Act.put, List.setIfInBounds_toArray, List.set_cons_zero, List.set_cons_succ]
         exact rfl
        ·
         exact Below.refl _ _
        ·
         exact IsOut
       refine ⟨fun u W hb hd K hK => ?_, ?_⟩
       ·
        simp only [Facts, nthR, Is, and_true] at hd
        simp only [hd] at hK ⊢
        clear hd
        go_simp
        apply hK
        ·
         simp only [Act.put, List.setIfInBounds_toArray, List.set_cons_zero, List.set_cons_succ]
         exact rfl
        ·
         exact Below.refl _ _
        ·
         exact IsOut
       refine ⟨fun u W hb hd K hK => ?_, ?_⟩
       ·
        simp only [Facts, nthR, Is, and_true] at hd
        simp only [hd] at hK ⊢
        clear hd
        go_simp
        apply hK
        ·
         simp only [Act.put, List.setIfInBounds_toArray, List.set_cons_zero, List.set_cons_succ]
         exact rfl
        ·
         exact Below.refl _ _
        ·
         exact IsOut
       refine ⟨fun u W hb hd K hK => ?_, ?_⟩
       ·
        simp only [Facts, nthR, Is, and_true] at hd
        simp only [hd] at hK ⊢
        clear hd
        go_simp
        apply hK
        ·
         simp only [Act.put, List.setIfInBounds_toArray, List.set_cons_zero, List.set_cons_succ]
         exact rfl
        ·
         exact Below.refl _ _
        ·
         exact IsOut
       refine ⟨fun u W hb hd K hK => ?_, ?_⟩
       ·
        simp only [Facts, nthR, Is, and_true] at hd
        simp only [hd] at hK ⊢
        clear hd
        go_simp
        apply hK
        ·
         simp only [Act.put, List.setIfInBounds_toArray, List.set_cons_zero, List.set_cons_succ]
         exact rfl
        ·
         exact Below.refl _ _
        ·
         exact IsOut
       exact trivial
      ·
       skip
       exact trivial
      ·
       exact (.is (.is (.is (.is (.is (.is (.is (.is (.is (.is (.is (.is (.is (.is (.is (.is (.is .nil)))))))))))))))))
      ·
       intro u W hb hd
       simp only [List.drop_succ_cons, List.drop_zero]
       simp only [Facts, nthR, Is, and_true] at hd
       simp only [hd]
       clear hd
       replace hf := (hb.frozen (p := ⟨w.heap.size, q * 4 + 3, none⟩) hlB).trans hf
       replace hc0 := (hb.cell (p := ⟨w.heap.size, q * 4 + 3, none⟩) hlB).trans hc0
       replace hB := hB.below hb hlB
       replace hWw := hWw.below hb hlW
       replace hbl := hbl.trans (hb.mono hbl.size)
       clear hb hc
       go_wp2
       refine NoPanic.normal ?_
       go_wp2
       go_roundw
       case rel =>
        refine ⟨4, by omega, by rfl, ?_, hWw.far (show gw ≠ w.heap.size by omega) _, hbl.setCell (Nat.le_refl _) _⟩
        rw [show 4 = 3 + 1 from rfl, HE1.out, ← map_set32]
        exact hB.set_ _ _
       case measure => simp [intOf]
    ·
     have hd : decide ((r : Int) < 4) = false := by simp; omega
     obtain rfl : r = 4 := by omega
     rw [← HE.out] at hB
     go_wp2
     go_roundw
     case rel => exact ⟨k + 1, by omega, by go_num, hB, hWw, hb⟩
     case measure => simp [intOf]; omega
  ·
   have hd : decide ((k : Int) < (T : Int)) = false := by simp; omega
   obtain rfl : k = T := by omega
   rw [← HA.out] at hB
   go_wp2
   go_ret
   exact ⟨rfl, hB, hb⟩

end
section
open Go.RowKit
/-- A key that is ready: its rounds lie in block gr, one behind the other. -/
structure KeyAt (w : World) (gk gr R : Nat) (L : List UInt32) : Prop where
 key : Blk w gk 89 [.slice (some ⟨gr, 0, none⟩) R R]
 rounds : Blk w gr 94 (L.map U32)
 len : L.length = 4 * R
theorem KeyAt.below {w w' : World} {gk gr R : Nat} {L : List UInt32} (h : KeyAt w gk gr R L) (hb : Below w.heap.size w w') : KeyAt w' gk gr R L :=
 ⟨h.key.below hb h.key.lt, h.rounds.below hb h.rounds.lt, h.len⟩
/-- The rounds of a key. -/
def keyL (n : Nat) (key : List UInt8) : List UInt32 := rAll (kWords n key)
theorem keyL_length (n : Nat) (key : List UInt8) : (keyL n key).length = 4 * (n + 7) := by rw [keyL, rAll_length, kWords_length]
set_option maxRecDepth 100000 in
set_option maxHeartbeats 1000000 in
theorem newB_any (A : Option Addr) (c B n : Nat) (key : List UInt8) (w : World) (hB : B ≤ w.heap.size) (ik : InK w B A c key) (hl : key.length = 4 * n) (hn : n = 4 ∨ n = 8) :
  Calls Tryd.prog 22 #[.slice A key.length c] w fun e w' => ∃ gk gr, e = .returned (.tuple #[.pointer (some ⟨gk, 0, none⟩), .int .i64 0]) ∧ w.heap.size ≤ gk ∧ KeyAt w' gk gr (n + 7) (keyL n key) ∧ Below w.heap.size w w' := by
 have hc1 := wordsOf_any A c B n key w hB ik hl hn
 have hWl := kWords_length n key
 have hKL := keyL_length n key
 have HK : Hid (keyL n key = rAll (kWords n key)) := Lib.hid rfl
 generalize kWords n key = W at *
 have HWL := Lib.hid hWl
 have HKL := Lib.hid hKL
 have HN := Lib.hid hn
 have hkl : key.length = 16 ∨ key.length = 32 := by omega
 generalize key.length = kl at *
 clear hWl hKL hl hn ik
 go_enter Tryd.func22, Tryd.ntmps22
 rcases hkl with rfl | rfl
 all_goals
  go_wp2_with (first
   | (go_at_call 46; with_reducible refine hc1.mono ?_; rintro e w1 ⟨rfl, hW1, hb1⟩; have hr1 := roundsOf_any w.heap.size (4 * (n + 7)) (n + 7) W w1 hW1 HWL.out rfl (by have := HN.out; omega))
   | (go_at_call 45; with_reducible refine hr1.mono ?_; rintro e w2 ⟨rfl, hR2, hb2⟩))
  have hb12 := hb1.trans (hb2.mono hb1.size)
  refine bodyPost_ret (v := .tuple #[.pointer (some ⟨w2.heap.size, 0, none⟩), .int .i64 0]) (by simp [results, Tryd.results22, go_sem]) rfl ⟨w2.heap.size, w1.heap.size, rfl, hb12.size, ⟨Blk.new_of _ _ _ _ rfl, ?_, HKL.out⟩, hb12.alloc hb12.size _⟩
  rw [HK.out]
  exact hR2.alloc _
theorem new_bad (A : Option Addr) (c n : Nat) (w : World) (h1 : n ≠ 16) (h2 : n ≠ 32) :
  Calls Tryd.prog 22 #[.slice A n c] w fun e w' => e = .returned (.tuple #[.pointer none, .int .i64 1]) ∧ Below w.heap.size w w' := by
 have d1 : ((n : Int) != 16) = true := by simp; omega
 have d2 : ((n : Int) != 32) = true := by simp; omega
 have d3 : ¬ ((n : Int) = 16) := by omega
 have d4 : ¬ ((n : Int) = 32) := by omega
 go_enter Tryd.func22, Tryd.ntmps22
 go_wp2
 refine bodyPost_ret (v := .tuple #[.pointer none, .int .i64 1]) (by simp [results, Tryd.results22, go_sem]) rfl ⟨rfl, Below.refl _ _⟩
theorem empty_no (gk gr R : Nat) (L : List UInt32) (w : World) (h : KeyAt w gk gr R L) (hR : 0 < R) (hR2 : R ≤ 15) :
  Calls Tryd.prog 47 #[.pointer (some ⟨gk, 0, none⟩)] w fun e w' => e = .returned (.bool false) ∧ w' = w := by
 have c0 : w.cell? ⟨gk, 0, none⟩ = some (.slice (some ⟨gr, 0, none⟩) R R) := h.key.cell 0
 have d1 : ((R : Int) == 0) = false := by simp; omega
 have d2 : ¬ ((R : Int) = 0) := by omega
 go_enter Tryd.func47, Tryd.ntmps47
 go_wp2
 go_ret
 exact ⟨rfl, rfl⟩
theorem empty_nil (w : World) : Calls Tryd.prog 47 #[.pointer none] w fun e w' => e = .returned (.bool true) ∧ w' = w := by
 go_enter Tryd.func47, Tryd.ntmps47
 go_wp2
 go_ret
 exact ⟨rfl, rfl⟩

end
section
open Go.RowKit
/-- The j-th round of a key. -/
def rndS (L : List UInt32) (j : Nat) : List UInt32 := (L.drop (j * 4)).take 4
theorem rndS_length {L : List UInt32} {j : Nat} (h : j * 4 + 4 ≤ L.length) : (rndS L j).length = 4 := by simp [rndS]; omega
theorem rangeAt_blk {w : World} {g : Nat} {t : TypeId} {cs : List Value} (h : Blk w g t cs) : w.rangeAt g 0 cs := fun j v hv => by
 rw [Nat.zero_add, h.cell, hv]
theorem rangeAt_rnd {w : World} {g j o : Nat} {L : List UInt32} (h : Blk w g 94 (L.map U32)) (ho : o = j * 4) : w.rangeAt g o ((rndS L j).map U32) := fun i v hv => by
 subst ho
 rw [h.cell]
 rw [rndS, List.getElem?_map, List.getElem?_take] at hv
 split at hv
 ·
  rw [List.getElem?_drop] at hv
  rw [List.getElem?_map]; exact hv
 ·
  simp at hv
theorem up_one {j : Nat} (h : j < 16) : wrap64 ((j : Int) + 1) = ((j + 1 : Nat) : Int) := by unfold wrap64; omega
theorem down_one {n j : Nat} (h : j < n) : n - (intOf (.int .i64 ((j + 1 : Nat) : Int))).toNat < n - (intOf (.int .i64 (j : Int))).toNat := by simp [intOf]; omega
/-- A block on its way, ahead of round j + 1. -/
def sealTo (L : List UInt32) (s0 : List UInt32) : Nat → List UInt32
 | 0 => plusS s0 (rndS L 0)
 | j + 1 => plusS (mixS (shiftS (eachS sub64 (sealTo L s0 j)))) (rndS L (j + 1))
def sealS (L : List UInt32) (R : Nat) (b : List UInt8) : List UInt8 := bytesS (plusS (shiftS (eachS sub64 (sealTo L (stateS b) (R - 2)))) (rndS L (R - 1)))
theorem sealS_length (L : List UInt32) (R : Nat) (b : List UInt8) : (sealS L R b).length = 16 := bytesS_length _
theorem sealTo_length {L s0 : List UInt32} (hs : s0.length = 4) (j : Nat) (h : j * 4 + 4 ≤ L.length) : (sealTo L s0 j).length = 4 := by
 cases j with
 | zero => exact plusS_length hs (rndS_length h)
 | succ j => exact plusS_length (mixS_length _) (rndS_length h)
set_option maxRecDepth 100000 in
set_option maxHeartbeats 4000000 in
theorem seal_any (gk gr R : Nat) (L : List UInt32) (b : List UInt8) (w : World) (hk0 : KeyAt w gk gr R L) (hR : 2 ≤ R) (hR2 : R ≤ 15) (hb16 : b.length = 16) :
  Calls Tryd.prog 25 #[.pointer (some ⟨gk, 0, none⟩), BV b] w fun e w' => e = .returned (BV (sealS L R b)) ∧ Below w.heap.size w w' := by
 have hz : ∀ W : World, (zeroValue 56).run Tryd.prog W = .ok (BV zero16) W := fun W => by kernel_rfl
 have HB := Lib.hid hb16
 have hll := hk0.len
 have HLL := Lib.hid hll
 have HR0 := Lib.hid (rndS_length (L := L) (j := 0) (by omega))
 have cSt := Lib.hid (fun W => stateOf_any b HB.out W)
 have cP0 := Lib.hid (fun W => plus_any (stateS b) (rndS L 0) (stateS_length b) HR0.out W)
 have HS0L := Lib.hid (sealTo_length (L := L) (stateS_length b) 0 (by omega))
 rw [show plusS (stateS b) (rndS L 0) = sealTo L (stateS b) 0 from rfl] at cP0
 have hgk := hk0.key.lt
 have hgr := hk0.rounds.lt
 obtain ⟨l, hl⟩ : ∃ l, l = R - 1 := ⟨_, rfl⟩
 have hR0 : (0 : Int) < (R : Int) := by omega
 have hR0' : 0 < R := by omega
 have hRl : (R : Int) - 1 = (l : Int) := by omega
 have hl1 : (1 : Int) ≤ (l : Int) := by omega
 have hl2 : (l : Int) ≤ (R : Int) := by omega
 have HL := Lib.hid hl
 clear hb16 hll hl
 go_enter Tryd.func25, Tryd.ntmps25
 have hA0 : Blk ((w.alloc (.cells (b.map B8).toArray 56)).alloc (.cells (zero16.map B8).toArray 56)) w.heap.size 56 (b.map B8) := (Blk.new_of w 56 _ (b.map B8) rfl).alloc _
 have hO0 := Blk.new2_of w (.cells (b.map B8).toArray 56) 56 (zero16.map B8).toArray (zero16.map B8) rfl
 have hbw := ((Below.refl w.heap.size w).alloc (Nat.le_refl _) (.cells (b.map B8).toArray 56)).alloc (by simp) (.cells (zero16.map B8).toArray 56)
 have hk1 : KeyAt ((w.alloc (.cells (b.map B8).toArray 56)).alloc (.cells (zero16.map B8).toArray 56)) gk gr R L := hk0.below hbw
 go_wp2_with (go_at_call 47; refine (empty_no gk gr R L _ hk1 (by omega) hR2).mono ?_; rintro e we ⟨rfl, hwe⟩; subst hwe; have hc0 := hk1.key.cell 0; generalize (w.alloc (.cells (b.map B8).toArray 56)).alloc (.cells (zero16.map B8).toArray 56) = wq at *)
 have hc := fun V (h : Below wq.heap.size wq V) => (hk1.below h).key.cell 0
 have hA := hA0
 have hO := hO0
 have hk := hk1
 have hgkq : gk < wq.heap.size := hk1.key.lt
 have hgrq : gr < wq.heap.size := hk1.rounds.lt
 have hOq : w.heap.size + 1 < wq.heap.size := hO0.lt
 have hAq : w.heap.size < wq.heap.size := hA0.lt
 have hbq := hbw
 clear hA0 hO0 hk1 hbw hk0
 refine wp_region_noPanic ?_
 apply wp_region_once_tail (m := 10) (Z := []) (D := [[], [0], [], [2], [2, 3], [2, 3, 4], [2, 3, 4, 5], [2, 3, 4, 5, 6], [0, 1, 2, 3, 4, 5, 6, 7], [], [0, 1, 2, 3, 4, 5, 6, 7, 8, 9]]) (J := [[], [0], [], [2], [3], [4], [5], [6], [1, 7], []]) (Je := [8, 9]) (Rs := [Is _, Is _, Is _, Is _, Is _, Is _, Is _, Is _, Is _, fun v V => ∃ g', v = .pointer (some ⟨g', 0, none⟩) ∧ wq.heap.size ≤ g' ∧ Blk V g' 94 (zero4.map U32)])
 ·
  kernel_rfl
 ·
  kernel_rfl
 ·
  kernel_rfl
 ·
  kernel_rfl
 ·
  kernel_rfl
 ·
  kernel_rfl
 ·
  kernel_rfl
 ·
  exact fun h => absurd rfl h
 ·
  intro u
  simp only [List.take_succ_cons, List.take_zero, List.map_cons, List.map_nil, fillU, List.setIfInBounds_toArray, List.set_cons_zero, List.set_cons_succ, Nat.zero_add, Nat.reduceAdd]
  exact rfl
 ·
  simp only [List.take_succ_cons, List.take_zero]
  refine ⟨fun u W hb hd K hK => ?_, ?_⟩
  ·
   clear hd
   rw [if_pos (by rfl)]
   refine wp_load_mid 56 (.tmp 3) rfl (w.heap.size) (0) rfl (b.map B8) _ (rangeAt_blk (hA.below hb hA.lt)) Tryd.underlying56 rfl (infoBk.trans (by rw [List.length_map, HB.out])) ?_
   exact hK _ _ _ rfl (Below.refl _ _) IsOut
  refine ⟨fun u W hb hd K hK => ?_, ?_⟩
  ·
   simp only [Facts, nthR, Is, and_true] at hd
   simp only [hd] at hK ⊢
   clear hd
   go_simp
   with_reducible refine (cSt.out W).mono ?_
   rintro e wy ⟨rfl, hby⟩
   exact hK _ _ _ rfl hby IsOut
  refine ⟨fun u W hb hd K hK => ?_, ?_⟩
  ·
   clear hd
   go_simp
   apply hK
   ·
    simp only [Act.put, List.setIfInBounds_toArray, List.set_cons_zero, List.set_cons_succ]
    exact rfl
   ·
    exact Below.refl _ _
   ·
    exact IsOut
  refine ⟨fun u W hb hd K hK => ?_, ?_⟩
  ·
   simp only [Facts, nthR, Is, and_true] at hd
   simp only [hd] at hK ⊢
   clear hd
   go_simp
   apply hK
   ·
    simp only [Act.put, List.setIfInBounds_toArray, List.set_cons_zero, List.set_cons_succ]
    exact rfl
   ·
    exact Below.refl _ _
   ·
    exact IsOut
  refine ⟨fun u W hb hd K hK => ?_, ?_⟩
  ·
   simp only [Facts, nthR, Is, and_true] at hd
   simp only [hd] at hK ⊢
   clear hd
   go_simp
   apply hK
   ·
    simp only [Act.put, List.setIfInBounds_toArray, List.set_cons_zero, List.set_cons_succ]
    exact rfl
   ·
    exact Below.refl _ _
   ·
    exact IsOut
  refine ⟨fun u W hb hd K hK => ?_, ?_⟩
  ·
   simp only [Facts, nthR, Is, and_true] at hd
   simp only [hd] at hK ⊢
   clear hd
   go_simp
   apply hK
   ·
    simp only [Act.put, List.setIfInBounds_toArray, List.set_cons_zero, List.set_cons_succ]
    exact rfl
   ·
    exact Below.refl _ _
   ·
    exact IsOut
  refine ⟨fun u W hb hd K hK => ?_, ?_⟩
  ·
   simp only [Facts, nthR, Is, and_true] at hd
   simp only [hd] at hK ⊢
   clear hd
   go_simp
   apply hK
   ·
    simp only [Act.put, List.setIfInBounds_toArray, List.set_cons_zero, List.set_cons_succ]
    exact rfl
   ·
    exact Below.refl _ _
   ·
    exact IsOut
  refine ⟨fun u W hb hd K hK => ?_, ?_⟩
  ·
   simp only [Facts, nthR, Is, and_true] at hd
   simp only [hd] at hK ⊢
   clear hd
   rw [if_pos (by rfl)]
   refine wp_load_mid 94 (.tmp 24) rfl (gr) (0) rfl ((rndS L 0).map U32) _ (rangeAt_rnd (j := 0) (hk.rounds.below hb hk.rounds.lt) rfl) Tryd.underlying94 rfl (infoStB.trans (by rw [List.length_map, HR0.out])) ?_
   exact hK _ _ _ rfl (Below.refl _ _) IsOut
  refine ⟨fun u W hb hd K hK => ?_, ?_⟩
  ·
   simp only [Facts, nthR, Is, and_true] at hd
   simp only [hd] at hK ⊢
   clear hd
   go_simp
   with_reducible refine (cP0.out W).mono ?_
   rintro e wy ⟨rfl, hby⟩
   exact hK _ _ _ rfl hby IsOut
  refine ⟨fun u W hb hd K hK => ?_, ?_⟩
  ·
   clear hd
   go_simp
   apply hK
   ·
    simp only [Act.put, List.setIfInBounds_toArray, List.set_cons_zero, List.set_cons_succ]
    exact rfl
   ·
    exact (Below.refl _ _).alloc (Nat.le_refl _) _
   ·
    exact ⟨_, rfl, hb.size, Blk.new_of _ _ _ _ rfl⟩
  exact trivial
 ·
  skip
  exact trivial
 ·
  exact (.is (.is (.is (.is (.is (.is (.is (.is (.is (.cons (fun v V V' ⟨g', h1, h2, h3⟩ hb => ⟨g', h1, h2, h3.below hb h3.lt⟩) .nil))))))))))
 ·
  intro u W hb hd
  simp only [List.drop_succ_cons, List.drop_zero]
  simp only [Facts, nthR, Is, and_true] at hd
  obtain ⟨h8, g6, h9, hg6, hZ6⟩ := hd
  simp only [h8, h9]
  clear h8 h9
  replace hA := hA.below hb hA.lt
  replace hO := hO.below hb hO.lt
  replace hk := hk.below hb
  have hbl := hbq.trans (hb.mono hbq.size)
  have hbE := hb
  clear hb
  go_wp2_with (refine wpList_store_blk rfl 94 (.tmp 6) (.tmp 26) rfl rfl g6 _ rfl rfl 94 _ hZ6 (infoStB.trans (by rw [List.length_map, HS0L.out])) (by rw [List.length_map, List.length_map, HS0L.out]; rfl) (one32 _) ?_; intro w4 hS4 hgr4)
  refine NoPanic.normal ?_
  have hS4l := hS4.lt
  have hA4 := hA.grown hgr4 (by have := hA.lt; have := hZ6.lt; simp; omega)
  have hk4 : KeyAt w4 gk gr R L := ⟨hk.key.grown hgr4 (by have := hk.key.lt; simp; omega), hk.rounds.grown hgr4 (by simp; omega), hk.len⟩
  have hO4 := hO.grown hgr4 (by simp; omega)
  have hb4 := below_new hbl hgr4 (by omega) hbl.size
  clear hA hO hk hbl hgr4 hZ6
  have hc4 := hk4.key.cell 0
  go_wp2
  obtain ⟨n, hn⟩ : ∃ n, n = l - 1 := ⟨_, rfl⟩
  rw [← hn]
  have HNN := Lib.hid (show n = l - 1 ∧ l = R - 1 from ⟨hn, HL.out⟩)
  have hgw : w.heap.size ≤ g6 := by have := hbE.size; omega
  have hne : g6 ≠ w.heap.size + 1 ∧ g6 ≠ gk ∧ g6 ≠ gr := by omega
  clear hn hbE hA4 hc4
  go_loopw [34] (fun i wr => ∃ j : Nat, j ≤ n ∧ i = .int .i64 (j : Int) ∧ Blk wr g6 94 ((sealTo L (stateS b) j).map U32) ∧ Blk wr (w.heap.size + 1) 56 (zero16.map B8) ∧ KeyAt wr gk gr R L ∧ Below w.heap.size w wr) (fun i _ => n - (intOf i).toNat)
  case atStart => exact ⟨0, Nat.zero_le _, rfl, hS4, hO4, hk4, hb4⟩
  case round =>
   clear hS4 hO4 hk4 hb4 hS4l
   obtain ⟨j, hj, rfl, hS, hO, hk, hbw⟩ := hrel
   have hnn := HNN.out
   have hllen := HLL.out
   by_cases hlt : j < n
   ·
    have hd : decide ((j : Int) < (n : Int)) = true := by simp; omega
    have hsl := sealTo_length (L := L) (stateS_length b) j (by omega)
    have hrl := rndS_length (L := L) (j := j + 1) (by omega)
    have hn1 : plusS (mixS (shiftS (eachS sub64 (sealTo L (stateS b) j)))) (rndS L (j + 1)) = sealTo L (stateS b) (j + 1) := rfl
    have c1 := fun W => each_sub64 (sealTo L (stateS b) j) hsl W
    have c2 := fun W => shifted_any (eachS sub64 (sealTo L (stateS b) j)) (eachS_length _ _) W
    have c3 := fun W => mixed_any (shiftS (eachS sub64 (sealTo L (stateS b) j))) (shiftS_length _) W
    have c4 := fun W => plus_any (mixS (shiftS (eachS sub64 (sealTo L (stateS b) j)))) (rndS L (j + 1)) (mixS_length _) hrl W
    have hnl := plusS_length (mixS_length (shiftS (eachS sub64 (sealTo L (stateS b) j)))) hrl
    have hrg := rangeAt_rnd (j := j + 1) (o := 4 + j * 4) hk.rounds (by omega)
    generalize plusS (mixS (shiftS (eachS sub64 (sealTo L (stateS b) j)))) (rndS L (j + 1)) = s4 at *
    generalize mixS (shiftS (eachS sub64 (sealTo L (stateS b) j))) = s3 at *
    generalize shiftS (eachS sub64 (sealTo L (stateS b) j)) = s2 at *
    generalize eachS sub64 (sealTo L (stateS b) j) = s1 at *
    generalize sealTo L (stateS b) j = s at *
    generalize rndS L (j + 1) = rr at *
    have HSL := Lib.hid hsl
    have HRL := Lib.hid hrl
    have HNL := Lib.hid hnl
    have HN1 := Lib.hid hn1
    have hjn1 : j + 1 ≤ n := hlt
    have HW1 := Lib.hid (up_one (j := j) (by omega))
    have HMS := Lib.hid (down_one hlt)
    have hj0 : (0 : Int) ≤ (j : Int) := by omega
    have hj1 : (j : Int) < (n : Int) := by omega
    have hgkw := hk.key.lt
    have hgrw := hk.rounds.lt
    have hg6w := hS.lt
    have hOw := hO.lt
    clear hsl hrl hnl hn1 hnn hllen
    go_wp2_with (first
     | ((with_reducible refine (?_ : wpList _ _ _ (Oper.mk (some 37) _ _ _ _ _ :: _) _ _)); go_loud (refine wpList_load_mid rfl 94 (.tmp 36) rfl gr (4 + j * 4) rfl (rr.map U32) _ hrg Tryd.underlying94 rfl (infoStB.trans (by rw [List.length_map, HRL.out])) ?_))
     | (refine wpList_store_blk rfl 94 (.tmp 8) (.tmp 37) rfl rfl wr.heap.size _ rfl rfl 94 _ (Blk.new_of wr 94 _ (zero4.map U32) (by rfl)) (infoStB.trans (by rw [List.length_map, HRL.out])) (by rw [List.length_map, List.length_map, HRL.out]; rfl) (one32 _) ?_; intro w5 hD5 hg5))
    have hS5 := (hS.alloc _).grown hg5 (by simp; omega)
    have hO5 := (hO.alloc _).grown hg5 (by simp; omega)
    have hk5 : KeyAt w5 gk gr R L := ⟨(hk.key.alloc _).grown hg5 (by simp; omega), (hk.rounds.alloc _).grown hg5 (by simp; omega), hk.len⟩
    have hb5 := below_new (hbw.alloc hbw.size _) hg5 hbw.size (by have := hbw.size; simp; omega)
    generalize wr.heap.size = g8 at *
    clear hg5 hS hO hk hbw hrg
    refine wp_region_noPanic ?_
    apply wp_region_once_tail (m := 6) (Z := []) (D := [[], [0], [0, 1], [0, 1, 2], [], [0, 1, 2, 3, 4], [0, 1, 2, 3, 4, 5]]) (J := [[], [0], [1], [2], [], [3, 4]]) (Je := [5]) (Rs := [Is _, Is _, Is _, Is _, Is _, Is _])
    ·
     kernel_rfl
    ·
     kernel_rfl
    ·
     kernel_rfl
    ·
     kernel_rfl
    ·
     kernel_rfl
    ·
     kernel_rfl
    ·
     kernel_rfl
    ·
     exact fun h => absurd rfl h
    ·
     intro u
     simp only [List.take_succ_cons, List.take_zero, List.map_cons, List.map_nil, fillU, List.setIfInBounds_toArray, List.set_cons_zero, List.set_cons_succ, Nat.zero_add, Nat.reduceAdd]
     exact rfl
    ·
     simp only [List.take_succ_cons, List.take_zero]
     refine ⟨fun u W hb hd K hK => ?_, ?_⟩
     ·
      clear hd
      rw [if_pos (by rfl)]
      refine wp_load_mid 94 (.tmp 6) rfl (g6) (0) rfl (s.map U32) _ (rangeAt_blk (hS5.below hb hS5.lt)) Tryd.underlying94 rfl (infoStB.trans (by rw [List.length_map, HSL.out])) ?_
      exact hK _ _ _ rfl (Below.refl _ _) IsOut
     refine ⟨fun u W hb hd K hK => ?_, ?_⟩
     ·
      simp only [Facts, nthR, Is, and_true] at hd
      simp only [hd] at hK ⊢
      clear hd
      go_simp
      with_reducible refine (c1 W).mono ?_
      rintro e wy ⟨rfl, hby⟩
      exact hK _ _ _ rfl hby IsOut
     refine ⟨fun u W hb hd K hK => ?_, ?_⟩
     ·
      simp only [Facts, nthR, Is, and_true] at hd
      simp only [hd] at hK ⊢
      clear hd
      go_simp
      with_reducible refine (c2 W).mono ?_
      rintro e wy ⟨rfl, hby⟩
      exact hK _ _ _ rfl hby IsOut
     refine ⟨fun u W hb hd K hK => ?_, ?_⟩
     ·
      simp only [Facts, nthR, Is, and_true] at hd
      simp only [hd] at hK ⊢
      clear hd
      go_simp
      with_reducible refine (c3 W).mono ?_
      rintro e wy ⟨rfl, hby⟩
      exact hK _ _ _ rfl hby IsOut
     refine ⟨fun u W hb hd K hK => ?_, ?_⟩
     ·
      clear hd
      rw [if_pos (by rfl)]
      refine wp_load_mid 94 (.tmp 8) rfl (g8) (0) rfl (rr.map U32) _ (rangeAt_blk (hD5.below hb hD5.lt)) Tryd.underlying94 rfl (infoStB.trans (by rw [List.length_map, HRL.out])) ?_
      exact hK _ _ _ rfl (Below.refl _ _) IsOut
     refine ⟨fun u W hb hd K hK => ?_, ?_⟩
     ·
      simp only [Facts, nthR, Is, and_true] at hd
      simp only [hd] at hK ⊢
      clear hd
      go_simp
      with_reducible refine (c4 W).mono ?_
      rintro e wy ⟨rfl, hby⟩
      exact hK _ _ _ rfl hby IsOut
     exact trivial
    ·
     skip
     exact trivial
    ·
     exact (.is (.is (.is (.is (.is (.is .nil))))))
    ·
     intro u W hb hd
     simp only [List.drop_succ_cons, List.drop_zero]
     simp only [Facts, nthR, Is, and_true] at hd
     simp only [hd]
     clear hd
     replace hS5 := hS5.below hb hS5.lt
     replace hO5 := hO5.below hb hO5.lt
     replace hk5 := hk5.below hb
     replace hb5 := hb5.trans (hb.mono hb5.size)
     clear hb hD5
     go_wp2_with (refine wpList_store_blk rfl 94 (.tmp 6) (.tmp 43) rfl rfl g6 _ rfl rfl 94 _ hS5 (infoStB.trans (by rw [List.length_map, HNL.out])) (by rw [List.length_map, List.length_map, HNL.out, HSL.out]) (one32 _) ?_; intro w6 hS6 hg6)
     refine NoPanic.normal ?_
     have hO6 := hO5.grown hg6 (by simp; omega)
     have hk6 : KeyAt w6 gk gr R L := ⟨hk5.key.grown hg6 (by simp; omega), hk5.rounds.grown hg6 (by simp; omega), hk5.len⟩
     have hb6 := below_new hb5 hg6 hgw hb5.size
     clear hg6 hb5 hk5 hO5 hS5
     go_wp2
     go_roundw
     case rel =>
      refine ⟨j + 1, hjn1, by rw [HW1.out], ?_, hO6, hk6, hb6⟩
      rw [← HN1.out]
      exact hS6
     case measure =>
      rw [HW1.out]
      exact HMS.out
   ·
    have hd : decide ((j : Int) < (n : Int)) = false := by simp; omega
    have hje : j = R - 2 := by omega
    have hle : l = R - 1 := by omega
    have hsl := sealTo_length (L := L) (stateS_length b) j (by omega)
    have hrl := rndS_length (L := L) (j := l) (by omega)
    have c1 := fun W => each_sub64 (sealTo L (stateS b) j) hsl W
    have c2 := fun W => shifted_any (eachS sub64 (sealTo L (stateS b) j)) (eachS_length _ _) W
    have c4 := fun W => plus_any (shiftS (eachS sub64 (sealTo L (stateS b) j))) (rndS L l) (shiftS_length _) hrl W
    have c5 := fun W => bytes_any (plusS (shiftS (eachS sub64 (sealTo L (stateS b) j))) (rndS L l)) (plusS_length (shiftS_length _) hrl) W
    have hX : sealS L R b = bytesS (plusS (shiftS (eachS sub64 (sealTo L (stateS b) j))) (rndS L l)) := by rw [hje, hle]; rfl
    have hxl := bytesS_length (plusS (shiftS (eachS sub64 (sealTo L (stateS b) j))) (rndS L l))
    have hrg := fun W (h : Below wr.heap.size wr W) => rangeAt_rnd (j := l) (o := l * 4) (hk.below h).rounds rfl
    generalize bytesS (plusS (shiftS (eachS sub64 (sealTo L (stateS b) j))) (rndS L l)) = X at *
    generalize plusS (shiftS (eachS sub64 (sealTo L (stateS b) j))) (rndS L l) = s4 at *
    generalize shiftS (eachS sub64 (sealTo L (stateS b) j)) = s2 at *
    generalize eachS sub64 (sealTo L (stateS b) j) = s1 at *
    generalize sealTo L (stateS b) j = s at *
    generalize rndS L l = rr at *
    have HSL := Lib.hid hsl
    have HRL := Lib.hid hrl
    have HXL := Lib.hid hxl
    have HXX := Lib.hid hX
    have hl0 : (0 : Int) ≤ (l : Int) := by omega
    have hl3 : (l : Int) < (R : Int) := by omega
    have hc := fun V (h : Below wr.heap.size wr V) => (hk.below h).key.cell 0
    clear hsl hrl hxl hX hje hle hnn hllen
    go_wp2
    refine wp_region_noPanic ?_
    apply wp_region_once_tail (m := 12) (Z := []) (D := [[], [0], [0, 1], [], [3], [3, 4], [3, 4, 5], [], [3, 4, 5, 6, 7], [3, 4, 5, 6, 7, 8], [0, 1, 2, 3, 4, 5, 6, 7, 8, 9], [0, 1, 2, 3, 4, 5, 6, 7, 8, 9, 10], [0, 1, 2, 3, 4, 5, 6, 7, 8, 9, 10, 11]]) (J := [[], [0], [1], [], [3], [4], [5], [], [6, 7], [8], [2, 9], [10]]) (Je := [11]) (Rs := [Is _, Is _, Is _, Is _, Is _, Is _, Is _, Is _, Is _, Is _, Is _, Is _])
    ·
     kernel_rfl
    ·
     kernel_rfl
    ·
     kernel_rfl
    ·
     kernel_rfl
    ·
     kernel_rfl
    ·
     kernel_rfl
    ·
     kernel_rfl
    ·
     exact fun h => absurd rfl h
    ·
     intro u
     simp only [List.take_succ_cons, List.take_zero, List.map_cons, List.map_nil, fillU, List.setIfInBounds_toArray, List.set_cons_zero, List.set_cons_succ, Nat.zero_add, Nat.reduceAdd]
     exact rfl
    ·
     simp only [List.take_succ_cons, List.take_zero]
     refine ⟨fun u W hb hd K hK => ?_, ?_⟩
     ·
      clear hd
      rw [if_pos (by rfl)]
      refine wp_load_mid 94 (.tmp 6) rfl (g6) (0) rfl (s.map U32) _ (rangeAt_blk (hS.below hb hS.lt)) Tryd.underlying94 rfl (infoStB.trans (by rw [List.length_map, HSL.out])) ?_
      exact hK _ _ _ rfl (Below.refl _ _) IsOut
     refine ⟨fun u W hb hd K hK => ?_, ?_⟩
     ·
      simp only [Facts, nthR, Is, and_true] at hd
      simp only [hd] at hK ⊢
      clear hd
      go_simp
      with_reducible refine (c1 W).mono ?_
      rintro e wy ⟨rfl, hby⟩
      exact hK _ _ _ rfl hby IsOut
     refine ⟨fun u W hb hd K hK => ?_, ?_⟩
     ·
      simp only [Facts, nthR, Is, and_true] at hd
      simp only [hd] at hK ⊢
      clear hd
      go_simp
      with_reducible refine (c2 W).mono ?_
      rintro e wy ⟨rfl, hby⟩
      exact hK _ _ _ rfl hby IsOut
     refine ⟨fun u W hb hd K hK => ?_, ?_⟩
     ·
      clear hd
      go_simp
      apply hK
      ·
       simp only [Act.put, List.setIfInBounds_toArray, List.set_cons_zero, List.set_cons_succ]
       exact rfl
      ·
       exact Below.refl _ _
      ·
       exact IsOut
     refine ⟨fun u W hb hd K hK => ?_, ?_⟩
     ·
      simp only [Facts, nthR, Is, and_true] at hd
      simp only [hd] at hK ⊢
      clear hd
      go_simp
      apply hK
      ·
       simp only [Act.put, List.setIfInBounds_toArray, List.set_cons_zero, List.set_cons_succ]
       exact rfl
      ·
       exact Below.refl _ _
      ·
       exact IsOut
     refine ⟨fun u W hb hd K hK => ?_, ?_⟩
     ·
      simp only [Facts, nthR, Is, and_true] at hd
      simp only [hd] at hK ⊢
      clear hd
      go_simp
      apply hK
      ·
       simp only [Act.put, List.setIfInBounds_toArray, List.set_cons_zero, List.set_cons_succ]
       exact rfl
      ·
       exact Below.refl _ _
      ·
       exact IsOut
     refine ⟨fun u W hb hd K hK => ?_, ?_⟩
     ·
      simp only [Facts, nthR, Is, and_true] at hd
      simp only [hd] at hK ⊢
      clear hd
      go_simp
      apply hK
      ·
       simp only [Act.put, List.setIfInBounds_toArray, List.set_cons_zero, List.set_cons_succ]
       exact rfl
      ·
       exact Below.refl _ _
      ·
       exact IsOut
     refine ⟨fun u W hb hd K hK => ?_, ?_⟩
     ·
      clear hd
      go_simp
      apply hK
      ·
       simp only [Act.put, List.setIfInBounds_toArray, List.set_cons_zero, List.set_cons_succ]
       exact rfl
      ·
       exact Below.refl _ _
      ·
       exact IsOut
     refine ⟨fun u W hb hd K hK => ?_, ?_⟩
     ·
      simp only [Facts, nthR, Is, and_true] at hd
      simp only [hd] at hK ⊢
      clear hd
      go_simp
      apply hK
      ·
       simp only [Act.put, List.setIfInBounds_toArray, List.set_cons_zero, List.set_cons_succ]
       exact rfl
      ·
       exact Below.refl _ _
      ·
       exact IsOut
     refine ⟨fun u W hb hd K hK => ?_, ?_⟩
     ·
      simp only [Facts, nthR, Is, and_true] at hd
      simp only [hd] at hK ⊢
      clear hd
      rw [if_pos (by rfl)]
      refine wp_load_mid 94 (.tmp 53) rfl (gr) (l * 4) rfl (rr.map U32) _ (hrg W hb) Tryd.underlying94 rfl (infoStB.trans (by rw [List.length_map, HRL.out])) ?_
      exact hK _ _ _ rfl (Below.refl _ _) IsOut
     refine ⟨fun u W hb hd K hK => ?_, ?_⟩
     ·
      simp only [Facts, nthR, Is, and_true] at hd
      simp only [hd] at hK ⊢
      clear hd
      go_simp
      with_reducible refine (c4 W).mono ?_
      rintro e wy ⟨rfl, hby⟩
      exact hK _ _ _ rfl hby IsOut
     refine ⟨fun u W hb hd K hK => ?_, ?_⟩
     ·
      simp only [Facts, nthR, Is, and_true] at hd
      simp only [hd] at hK ⊢
      clear hd
      go_simp
      with_reducible refine (c5 W).mono ?_
      rintro e wy ⟨rfl, hby⟩
      exact hK _ _ _ rfl hby IsOut
     exact trivial
    ·
     skip
     exact trivial
    ·
     exact (.is (.is (.is (.is (.is (.is (.is (.is (.is (.is (.is (.is .nil))))))))))))
    ·
     intro u W hb hd
     simp only [List.drop_succ_cons, List.drop_zero]
     simp only [Facts, nthR, Is, and_true] at hd
     simp only [hd]
     clear hd
     replace hO := hO.below hb hO.lt
     replace hbw := hbw.trans (hb.mono hbw.size)
     clear hb
     go_wp2_with (refine wpList_store_blk rfl 56 (.tmp 4) (.tmp 56) rfl rfl (w.heap.size + 1) _ rfl rfl 56 _ hO (infoBk.trans (by rw [List.length_map, HXL.out])) (by rw [List.length_map, List.length_map, HXL.out]; rfl) (one8 _) ?_; intro w7 hA7 hg7)
     refine NoPanic.normal ?_
     go_wp2
     refine bodyPost_ret (v := .agg _) (results_cell_row rfl _ _ (w.heap.size + 1) 56 _ (0, 0) _ rfl hA7.raw Tryd.underlying56 rfl (infoBk.trans (by rw [List.size_toArray, List.length_map, HXL.out]))) rfl ⟨by rw [HXX.out], below_new hbw hg7 (by omega) hbw.size⟩

end
section
open Go.RowKit
theorem down_int {q p : Nat} (h : q = p + 1) : (q : Int) - 1 = (p : Int) := by omega
theorem down_meas {q p : Nat} (h : q = p + 1) : (intOf (.int .i64 (p : Int))).toNat < (intOf (.int .i64 (q : Int))).toNat := by simp [intOf]; omega
/-- A block on its way back, behind j rounds of the inner ones. -/
def openTo (L : List UInt32) (l : Nat) (s0 : List UInt32) : Nat → List UInt32
 | 0 => eachS res64 (shiftS (shiftS (shiftS (plusS s0 (rndS L l)))))
 | j + 1 => eachS res64 (shiftS (shiftS (shiftS (mixS (mixS (mixS (plusS (openTo L l s0 j) (rndS L (l - 1 - j)))))))))
def openS (L : List UInt32) (R : Nat) (b : List UInt8) : List UInt8 := bytesS (plusS (openTo L (R - 1) (stateS b) (R - 2)) (rndS L 0))
theorem openS_length (L : List UInt32) (R : Nat) (b : List UInt8) : (openS L R b).length = 16 := bytesS_length _
theorem openTo_length (L s0 : List UInt32) (l j : Nat) : (openTo L l s0 j).length = 4 := by cases j <;> rfl
end
section
open Go.RowKit
theorem four (s : List UInt32) (h : s.length = 4) : ∃ a b c d, s = [a, b, c, d] := by
 match s, h with
 | [a, b, c, d], _ => exact ⟨a, b, c, d, rfl⟩
theorem dbl32_xor (x y : UInt32) : dbl32 (x ^^^ y) = dbl32 x ^^^ dbl32 y := by
 have h : wide (x ^^^ y) = wide x ^^^ wide y := by simp [wide]
 unfold dbl32
 rw [h, dbl64_xor]
 apply UInt32.eq_of_toBitVec_eq
 simp [lo32]
theorem xor_drop (a b : UInt32) : a ^^^ (a ^^^ b) = b := by rw [← UInt32.xor_assoc, UInt32.xor_self, UInt32.zero_xor]
theorem xor_turn (a b c : UInt32) : a ^^^ (b ^^^ c) = b ^^^ (a ^^^ c) := by rw [← UInt32.xor_assoc, UInt32.xor_comm a b, UInt32.xor_assoc]
theorem mix_eq (a b c d : UInt32) : mixS [a, b, c, d] = [((dbl32 (a ^^^ b) ^^^ b) ^^^ c) ^^^ d, ((dbl32 (b ^^^ c) ^^^ c) ^^^ d) ^^^ a, ((dbl32 (c ^^^ d) ^^^ d) ^^^ a) ^^^ b, ((dbl32 (d ^^^ a) ^^^ a) ^^^ b) ^^^ c] := rfl
theorem mix_two (a b c d : UInt32) : mixS (mixS [a, b, c, d]) = [a ^^^ (dbl32 (dbl32 a) ^^^ dbl32 (dbl32 c)), b ^^^ (dbl32 (dbl32 b) ^^^ dbl32 (dbl32 d)), c ^^^ (dbl32 (dbl32 c) ^^^ dbl32 (dbl32 a)), d ^^^ (dbl32 (dbl32 d) ^^^ dbl32 (dbl32 b))] := by
 rw [mix_eq, mix_eq]
 simp only [dbl32_xor]
 generalize dbl32 (dbl32 a) = a2
 generalize dbl32 (dbl32 b) = b2
 generalize dbl32 (dbl32 c) = c2
 generalize dbl32 (dbl32 d) = d2
 generalize dbl32 a = a1
 generalize dbl32 b = b1
 generalize dbl32 c = c1
 generalize dbl32 d = d1
 simp only [UInt32.xor_comm, xor_turn, xor_drop, UInt32.xor_self, UInt32.xor_zero]
theorem mix_four (s : List UInt32) (h : s.length = 4) : mixS (mixS (mixS (mixS s))) = s := by
 obtain ⟨a, b, c, d, rfl⟩ := four s h
 rw [mix_two, mix_two]
 simp only [dbl32_xor, UInt32.xor_comm, xor_turn, UInt32.xor_self, UInt32.xor_zero, UInt32.zero_xor]
theorem plus_two (s t : List UInt32) (hs : s.length = 4) (ht : t.length = 4) : plusS (plusS s t) t = s := by
 obtain ⟨a, b, c, d, rfl⟩ := four s hs
 obtain ⟨e, f, g, h, rfl⟩ := four t ht
 show [(a ^^^ e) ^^^ e, (b ^^^ f) ^^^ f, (c ^^^ g) ^^^ g, (d ^^^ h) ^^^ h] = _
 simp only [UInt32.xor_assoc, UInt32.xor_self, UInt32.xor_zero]
theorem cat_eta (v : BitVec 64) : cat32 (hi32 v) (lo32 v) = v := by
 unfold cat32 hi32 lo32 wide
 ext j hj
 simp
 by_cases h : j < 32
 ·
  simp [h, BitVec.getLsbD_eq_getElem hj]
 ·
  have e : 32 + (j - 32) = j := by omega
  have e2 : j - 32 < 32 := by omega
  have e3 : j - 32 < 64 := by omega
  simp [h, e, e2, BitVec.getLsbD_eq_getElem hj]
theorem hi_cat (x y : UInt32) : hi32 (cat32 x y) = x := by
 apply UInt32.eq_of_toBitVec_eq
 unfold cat32 hi32 wide
 ext j hj
 have e1 : 32 + j < 64 := by omega
 have e2 : ¬ 32 + j < 32 := by omega
 have e3 : j < 64 := by omega
 simp [hj, e1, e2, e3]
theorem lo_cat (x y : UInt32) : lo32 (cat32 x y) = y := by
 apply UInt32.eq_of_toBitVec_eq
 unfold cat32 lo32 wide
 ext j hj
 simp
theorem each_back (f g : BitVec 64 → BitVec 64) (hf : ∀ x, g (f x) = x) (s : List UInt32) (hs : s.length = 4) : eachS g (eachS f s) = s := by
 obtain ⟨a, b, c, d, rfl⟩ := four s hs
 show [hi32 (g (cat32 (hi32 (f (cat32 a b))) (lo32 (f (cat32 a b))))), lo32 (g (cat32 (hi32 (f (cat32 a b))) (lo32 (f (cat32 a b))))), hi32 (g (cat32 (hi32 (f (cat32 c d))) (lo32 (f (cat32 c d))))), lo32 (g (cat32 (hi32 (f (cat32 c d))) (lo32 (f (cat32 c d)))))] = _
 simp only [cat_eta, hf, hi_cat, lo_cat]
theorem rotl_nat (n : Nat) (x : UInt32) (h0 : 0 < n) (hn : n < 32) : (rotl n x).toNat = x.toNat % 2 ^ (32 - n) * 2 ^ n + x.toNat / 2 ^ (32 - n) := by
 have hx := x.toNat_lt
 have e : x.toNat * 2 ^ n % 2 ^ 32 = x.toNat % 2 ^ (32 - n) * 2 ^ n := by
  have : 2 ^ 32 = 2 ^ (32 - n) * 2 ^ n := by rw [← Nat.pow_add]; congr 1; omega
  rw [this, Nat.mul_mod_mul_right]
 have hd : x.toNat / 2 ^ (32 - n) < 2 ^ n := by
  rw [Nat.div_lt_iff_lt_mul (Nat.two_pow_pos _), ← Nat.pow_add, show n + (32 - n) = 32 by omega]; exact hx
 unfold rotl
 rw [UInt32.toNat_or, UInt32.toNat_shiftLeft, UInt32.toNat_shiftRight]
 have m1 : (UInt32.ofNat n).toNat % 32 = n := by simp; omega
 have m2 : (UInt32.ofNat (32 - n)).toNat % 32 = 32 - n := by simp; omega
 rw [m1, m2, Nat.shiftLeft_eq, Nat.shiftRight_eq_div_pow, e, Nat.mul_comm _ (2 ^ n), Nat.two_pow_add_eq_or_of_lt hd]
theorem rot_four (x : UInt32) (i : Nat) (hi : i < 4) : rotl (8 * i) (rotl (8 * i) (rotl (8 * i) (rotl (8 * i) x))) = x := by
 have h0 : ∀ y : UInt32, rotl (8 * 0) y = y := fun y => by
  apply UInt32.toNat_inj.mp
  simp [rotl]
 have hx := x.toNat_lt
 match i, hi with
 | 0, _ => simp only [h0]
 | 1, _ => apply UInt32.toNat_inj.mp; simp only [rotl_nat _ _ (show 0 < 8 * 1 by decide) (show 8 * 1 < 32 by decide), Nat.reduceMul, Nat.reduceSub, Nat.reducePow]; omega
 | 2, _ => apply UInt32.toNat_inj.mp; simp only [rotl_nat _ _ (show 0 < 8 * 2 by decide) (show 8 * 2 < 32 by decide), Nat.reduceMul, Nat.reduceSub, Nat.reducePow]; omega
 | 3, _ => apply UInt32.toNat_inj.mp; simp only [rotl_nat _ _ (show 0 < 8 * 3 by decide) (show 8 * 3 < 32 by decide), Nat.reduceMul, Nat.reduceSub, Nat.reducePow]; omega
theorem shift_four (s : List UInt32) (h : s.length = 4) : shiftS (shiftS (shiftS (shiftS s))) = s := by
 obtain ⟨a, b, c, d, rfl⟩ := four s h
 show [rotl (8 * 0) (rotl (8 * 0) (rotl (8 * 0) (rotl (8 * 0) a))), rotl (8 * 1) (rotl (8 * 1) (rotl (8 * 1) (rotl (8 * 1) b))), rotl (8 * 2) (rotl (8 * 2) (rotl (8 * 2) (rotl (8 * 2) c))), rotl (8 * 3) (rotl (8 * 3) (rotl (8 * 3) (rotl (8 * 3) d)))] = _
 rw [rot_four _ 0 (by decide), rot_four _ 1 (by decide), rot_four _ 2 (by decide), rot_four _ 3 (by decide)]

end
section
open Go.RowKit
def put8 (x : UInt32) (b : UInt8) : UInt32 := (x <<< 8) ||| b.toUInt32
theorem put8_nat (x : UInt32) (b : UInt8) : (put8 x b).toNat = x.toNat % 16777216 * 256 + b.toNat := by
 have hb : b.toNat < 2 ^ 8 := b.toNat_lt
 have hx := x.toNat_lt
 unfold put8
 rw [UInt32.toNat_or, UInt32.toNat_shiftLeft]
 have m1 : (8 : UInt32).toNat % 32 = 8 := rfl
 rw [m1, Nat.shiftLeft_eq, show x.toNat * 2 ^ 8 % 2 ^ 32 = x.toNat % 16777216 * 2 ^ 8 by omega, Nat.mul_comm _ (2 ^ 8), UInt8.toNat_toUInt32, ← Nat.two_pow_add_eq_or_of_lt hb]
def w4 (p q r t : UInt8) : UInt32 := put8 (put8 (put8 (put8 0 p) q) r) t
theorem w4_nat (p q r t : UInt8) : (w4 p q r t).toNat = p.toNat * 16777216 + q.toNat * 65536 + r.toNat * 256 + t.toNat := by
 have h0 := p.toNat_lt
 have h1 := q.toNat_lt
 have h2 := r.toNat_lt
 have h3 := t.toNat_lt
 unfold w4
 simp only [put8_nat, UInt32.toNat_zero]
 omega
theorem cut8_nat (x : UInt32) (n : Nat) (hn : n < 32) : ((x >>> UInt32.ofNat n).toUInt8).toNat = x.toNat / 2 ^ n % 256 := by
 have m1 : (UInt32.ofNat n).toNat % 32 = n := by simp; omega
 rw [UInt32.toNat_toUInt8, UInt32.toNat_shiftRight, m1, Nat.shiftRight_eq_div_pow]
theorem cut_a (p q r t : UInt8) : (w4 p q r t >>> UInt32.ofNat 24).toUInt8 = p := by
 have h0 := p.toNat_lt; have h1 := q.toNat_lt; have h2 := r.toNat_lt; have h3 := t.toNat_lt
 apply UInt8.toNat_inj.mp
 rw [cut8_nat _ _ (by decide), w4_nat]; omega
theorem cut_b (p q r t : UInt8) : (w4 p q r t >>> UInt32.ofNat 16).toUInt8 = q := by
 have h0 := p.toNat_lt; have h1 := q.toNat_lt; have h2 := r.toNat_lt; have h3 := t.toNat_lt
 apply UInt8.toNat_inj.mp
 rw [cut8_nat _ _ (by decide), w4_nat]; omega
theorem cut_c (p q r t : UInt8) : (w4 p q r t >>> UInt32.ofNat 8).toUInt8 = r := by
 have h0 := p.toNat_lt; have h1 := q.toNat_lt; have h2 := r.toNat_lt; have h3 := t.toNat_lt
 apply UInt8.toNat_inj.mp
 rw [cut8_nat _ _ (by decide), w4_nat]; omega
theorem cut_d (p q r t : UInt8) : (w4 p q r t >>> UInt32.ofNat 0).toUInt8 = t := by
 have h0 := p.toNat_lt; have h1 := q.toNat_lt; have h2 := r.toNat_lt; have h3 := t.toNat_lt
 apply UInt8.toNat_inj.mp
 rw [cut8_nat _ _ (by decide), w4_nat]; omega
theorem w4_cut (x : UInt32) : w4 (x >>> UInt32.ofNat 24).toUInt8 (x >>> UInt32.ofNat 16).toUInt8 (x >>> UInt32.ofNat 8).toUInt8 (x >>> UInt32.ofNat 0).toUInt8 = x := by
 have hx := x.toNat_lt
 apply UInt32.toNat_inj.mp
 rw [w4_nat, cut8_nat _ _ (by decide), cut8_nat _ _ (by decide), cut8_nat _ _ (by decide), cut8_nat _ _ (by decide)]
 omega
theorem stTo_step (b : List UInt8) (k r : Nat) (L : List UInt32) (h : stTo b k = L) (hr : k % 4 = r) : stTo b (k + 1) = L.set r (put8 (L.getD r 0) (b.getD k 0)) := by
 rw [stTo, h, hr]; rfl
theorem stTo_four (b : List UInt8) (m : Nat) (p q r s : UInt32) (h : stTo b (4 * m) = [p, q, r, s]) : stTo b (4 * m + 1 + 1 + 1 + 1) = [put8 p (b.getD (4 * m) 0), put8 q (b.getD (4 * m + 1) 0), put8 r (b.getD (4 * m + 1 + 1) 0), put8 s (b.getD (4 * m + 1 + 1 + 1) 0)] :=
 stTo_step b _ 3 _ (stTo_step b _ 2 _ (stTo_step b _ 1 _ (stTo_step b _ 0 _ h (by omega)) (by omega)) (by omega)) (by omega)
theorem state_of (b0 b1 b2 b3 b4 b5 b6 b7 b8 b9 b10 b11 b12 b13 b14 b15 : UInt8) : stateS [b0, b1, b2, b3, b4, b5, b6, b7, b8, b9, b10, b11, b12, b13, b14, b15] = [w4 b0 b4 b8 b12, w4 b1 b5 b9 b13, w4 b2 b6 b10 b14, w4 b3 b7 b11 b15] := by
 have h0 : stTo [b0, b1, b2, b3, b4, b5, b6, b7, b8, b9, b10, b11, b12, b13, b14, b15] (4 * 0) = [0, 0, 0, 0] := rfl
 have h1 := stTo_four _ 0 _ _ _ _ h0
 have h2 := stTo_four _ 1 _ _ _ _ h1
 have h3 := stTo_four _ 2 _ _ _ _ h2
 have h4 := stTo_four _ 3 _ _ _ _ h3
 exact h4
theorem bytes_of (s0 s1 s2 s3 : UInt32) : bytesS [s0, s1, s2, s3] = [(s0 >>> UInt32.ofNat 24).toUInt8, (s1 >>> UInt32.ofNat 24).toUInt8, (s2 >>> UInt32.ofNat 24).toUInt8, (s3 >>> UInt32.ofNat 24).toUInt8, (s0 >>> UInt32.ofNat 16).toUInt8, (s1 >>> UInt32.ofNat 16).toUInt8, (s2 >>> UInt32.ofNat 16).toUInt8, (s3 >>> UInt32.ofNat 16).toUInt8, (s0 >>> UInt32.ofNat 8).toUInt8, (s1 >>> UInt32.ofNat 8).toUInt8, (s2 >>> UInt32.ofNat 8).toUInt8, (s3 >>> UInt32.ofNat 8).toUInt8, (s0 >>> UInt32.ofNat 0).toUInt8, (s1 >>> UInt32.ofNat 0).toUInt8, (s2 >>> UInt32.ofNat 0).toUInt8, (s3 >>> UInt32.ofNat 0).toUInt8] := rfl
theorem bytes_state (b : List UInt8) (hb : b.length = 16) : bytesS (stateS b) = b := by
 match b, hb with
 | [b0, b1, b2, b3, b4, b5, b6, b7, b8, b9, b10, b11, b12, b13, b14, b15], _ =>
  rw [state_of, bytes_of]
  simp only [cut_a, cut_b, cut_c, cut_d]
theorem state_bytes (s : List UInt32) (h : s.length = 4) : stateS (bytesS s) = s := by
 obtain ⟨s0, s1, s2, s3, rfl⟩ := four s h
 rw [bytes_of, state_of]
 simp only [w4_cut]
/-- The rounds of a key, each of four rows. -/
def Four (L : List UInt32) (R : Nat) : Prop := 4 * R ≤ L.length
theorem Four.at {L : List UInt32} {R : Nat} (h : Four L R) {j : Nat} (hj : j < R) : (rndS L j).length = 4 := rndS_length (by unfold Four at h; omega)
theorem open_inner (L : List UInt32) (l : Nat) (hF : Four L (l + 1)) (s0 c : List UInt32) (hs : s0.length = 4) (m : Nat) (hm : m + 1 ≤ l) (hl : openTo L l c 0 = sealTo L s0 (l - 1)) :
  ∀ j, j ≤ l - 1 → openTo L l c j = sealTo L s0 (l - 1 - j) := by
 intro j
 induction j with
 | zero => intro _; exact hl
 | succ j ih =>
  intro hj
  obtain ⟨k, hk⟩ : ∃ k, l - 1 - j = k + 1 := ⟨l - 1 - j - 1, by omega⟩
  have e : l - 1 - (j + 1) = k := by omega
  have hk4 := hF.at (j := k + 1) (by omega)
  have hsk : (sealTo L s0 k).length = 4 := sealTo_length hs k (by have := hF; unfold Four at this; omega)
  rw [openTo, ih (by omega), hk, e, sealTo, plus_two _ _ (mixS_length _) hk4, mix_four _ (shiftS_length _), shift_four _ (eachS_length _ _), each_back _ _ res_sub _ hsk]
theorem open_seal (L : List UInt32) (R : Nat) (hF : Four L R) (hR : 2 ≤ R) (b : List UInt8) (hb : b.length = 16) : openS L R (sealS L R b) = b := by
 obtain ⟨l, rfl⟩ : ∃ l, R = l + 1 := ⟨R - 1, by omega⟩
 have h0 := hF.at (j := 0) (by omega)
 have hl := hF.at (j := l) (by omega)
 have e1 : l + 1 - 1 = l := by omega
 have e2 : l + 1 - 2 = l - 1 := by omega
 have hsk : ∀ k, k < l + 1 → (sealTo L (stateS b) k).length = 4 := fun k hk => sealTo_length (stateS_length b) k (by have := hF; unfold Four at this; omega)
 have hz : openTo L l (stateS (sealS L (l + 1) b)) 0 = sealTo L (stateS b) (l - 1) := by
  rw [openTo, sealS, e1, e2, state_bytes _ (plusS_length (shiftS_length _) hl), plus_two _ _ (shiftS_length _) hl, shift_four _ (eachS_length _ _), each_back _ _ res_sub _ (hsk _ (by omega))]
 have hi := open_inner L l hF (stateS b) _ (stateS_length b) 0 (by omega) hz (l - 1) (Nat.le_refl _)
 rw [openS, e1, e2, hi, Nat.sub_self, sealTo, plus_two _ _ (stateS_length b) h0, bytes_state b hb]
theorem seal_open (L : List UInt32) (R : Nat) (hF : Four L R) (hR : 2 ≤ R) (b : List UInt8) (hb : b.length = 16) : sealS L R (openS L R b) = b := by
 obtain ⟨l, rfl⟩ : ∃ l, R = l + 1 := ⟨R - 1, by omega⟩
 have h0 := hF.at (j := 0) (by omega)
 have hl := hF.at (j := l) (by omega)
 have e1 : l + 1 - 1 = l := by omega
 have e2 : l + 1 - 2 = l - 1 := by omega
 have hi : ∀ j, j ≤ l - 1 → sealTo L (stateS (openS L (l + 1) b)) j = openTo L l (stateS b) (l - 1 - j) := by
  intro j
  induction j with
  | zero =>
   intro _
   rw [sealTo, openS, e1, e2, state_bytes _ (plusS_length (openTo_length _ _ _ _) h0), plus_two _ _ (openTo_length _ _ _ _) h0, Nat.sub_zero]
  | succ j ih =>
   intro hj
   obtain ⟨k, hk⟩ : ∃ k, l - 1 - j = k + 1 := ⟨l - 1 - j - 1, by omega⟩
   have e : l - 1 - (j + 1) = k := by omega
   have ek : l - 1 - k = j + 1 := by omega
   have hk4 := hF.at (j := j + 1) (by omega)
   have hpl : (plusS (openTo L l (stateS b) k) (rndS L (j + 1))).length = 4 := plusS_length (openTo_length _ _ _ _) hk4
   rw [sealTo, ih (by omega), hk, e, openTo, ek, each_back _ _ sub_res _ (shiftS_length _), shift_four _ (mixS_length _), mix_four _ hpl, plus_two _ _ (openTo_length _ _ _ _) hk4]
 have hlast := hi (l - 1) (Nat.le_refl _)
 rw [Nat.sub_self] at hlast
 have hpl : (plusS (stateS b) (rndS L l)).length = 4 := plusS_length (stateS_length b) hl
 rw [sealS, e1, e2, hlast, openTo, each_back _ _ sub_res _ (shiftS_length _), shift_four _ hpl, plus_two _ _ (stateS_length b) hl, bytes_state b hb]

end
section
open Go.RowKit
def key16 : List UInt8 := [0, 1, 2, 3, 4, 5, 6, 7, 8, 9, 10, 11, 12, 13, 14, 15]
def blk16 : List UInt8 := [0x00, 0x11, 0x22, 0x33, 0x44, 0x55, 0x66, 0x77, 0x88, 0x99, 0xaa, 0xbb, 0xcc, 0xdd, 0xee, 0xff]
theorem known : (sealS (keyL 4 key16) 11 blk16) = [0x69, 0xc4, 0xe0, 0xd8, 0x6a, 0x7b, 0x04, 0x30, 0xd8, 0xcd, 0xb7, 0x80, 0x70, 0xb4, 0xc5, 0x5a] := by decide +kernel

end
section
open Go.RowKit
set_option maxRecDepth 100000 in
set_option maxHeartbeats 4000000 in
theorem seal_nil (b : List UInt8) (w : World) (_hb16 : b.length = 16) :
  Calls Tryd.prog 25 #[.pointer none, BV b] w fun e w' => e = .returned (BV zero16) ∧ Below w.heap.size w w' := by
 have hz : ∀ W : World, (zeroValue 56).run Tryd.prog W = .ok (BV zero16) W := fun W => by kernel_rfl
 go_enter Tryd.func25, Tryd.ntmps25
 have hO0 := Blk.new2_of w (.cells (b.map B8).toArray 56) 56 (zero16.map B8).toArray (zero16.map B8) rfl
 have hbw := ((Below.refl w.heap.size w).alloc (Nat.le_refl _) (.cells (b.map B8).toArray 56)).alloc (by simp) (.cells (zero16.map B8).toArray 56)
 go_wp2_with (first
  | (go_at_call 47; refine (empty_nil _).mono ?_; rintro e we ⟨rfl, hwe⟩; subst hwe; generalize (w.alloc (.cells (b.map B8).toArray 56)).alloc (.cells (zero16.map B8).toArray 56) = wq at *)
  | (refine wpList_store_blk rfl 56 (.tmp 4) (.tmp 11) rfl rfl (w.heap.size + 1) _ rfl rfl 56 _ hO0 (infoBk.trans (by rfl)) (by rfl) (one8 _) ?_; intro w7 hA7 hg7))
 refine bodyPost_ret (v := .agg _) (results_cell_row rfl _ _ (w.heap.size + 1) 56 _ (0, 0) _ rfl hA7.raw Tryd.underlying56 rfl (infoBk.trans (by rfl))) rfl ⟨rfl, below_new hbw hg7 (by omega) hbw.size⟩
end
section
open Go.RowKit
def sealN (L : List UInt32) (R : Nat) (b : List UInt8) : Nat → List UInt8
 | 0 => b
 | i + 1 => sealS L R (sealN L R b i)
theorem sealN_length {L : List UInt32} {R : Nat} {b : List UInt8} (hb : b.length = 16) (i : Nat) : (sealN L R b i).length = 16 := by
 cases i with
 | zero => exact hb
 | succ i => exact sealS_length _ _ _
/-- One turn back of a block that was turned i + 1 times. -/
theorem open_sealN {L : List UInt32} {R : Nat} {b : List UInt8} (hF : Four L R) (hR : 2 ≤ R) (hb : b.length = 16) (i : Nat) : openS L R (sealN L R b (i + 1)) = sealN L R b i :=
 open_seal L R hF hR _ (sealN_length hb i)
theorem sealS_inj {L : List UInt32} {R : Nat} {a b : List UInt8} (hF : Four L R) (hR : 2 ≤ R) (ha : a.length = 16) (hb : b.length = 16) : sealS L R a = sealS L R b ↔ a = b :=
 ⟨fun h => by rw [← open_seal L R hF hR a ha, h, open_seal L R hF hR b hb], fun h => by rw [h]⟩
theorem openS_inj {L : List UInt32} {R : Nat} {a b : List UInt8} (hF : Four L R) (hR : 2 ≤ R) (ha : a.length = 16) (hb : b.length = 16) : openS L R a = openS L R b ↔ a = b :=
 ⟨fun h => by rw [← seal_open L R hF hR a ha, h, seal_open L R hF hR b hb], fun h => by rw [h]⟩
theorem keyL_four (n : Nat) (key : List UInt8) : Four (keyL n key) (n + 7) := by unfold Four; rw [keyL_length]; exact Nat.le_refl _
theorem known_get : (sealS (keyL 4 key16) 11 blk16).getD 0 0 = 0x69 ∧ (sealS (keyL 4 key16) 11 blk16).getD 15 0 = 0x5a := by rw [known]; decide

end
end Go.Proofs.YtnjpcbbdhimacaaDoor
