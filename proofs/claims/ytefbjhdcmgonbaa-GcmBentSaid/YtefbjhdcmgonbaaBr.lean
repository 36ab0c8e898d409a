/-
  The contracts of package block's keys: rounds of words; New.
-/
import Derived.Test.YtefbjhdcmgonbaaBk
namespace Go.Proofs.Ytefbjhdcmgonbaa
open Go.RowKit

theorem infoSt3 : (Try.prog.info? 73).map (fun i => (i.zero, i.size, i.bytes)) = some (some (.agg #[.int .u32 0, .int .u32 0, .int .u32 0, .int .u32 0]), 4, 16) := by kernel_rfl
theorem madeCells_states (R : Nat) : madeCells #[.int .u32 0, .int .u32 0, .int .u32 0, .int .u32 0] (R * 4) = ((List.replicate (4 * R) (0 : UInt32)).map U32).toArray := by
  unfold madeCells
  apply Array.toList_inj.1
  rw [Array.toList_map, Array.toList_range, List.map_replicate]
  apply List.ext_getElem
  · simp; omega
  · intro i h1 h2
    simp
    have : i % 4 = 0 ∨ i % 4 = 1 ∨ i % 4 = 2 ∨ i % 4 = 3 := by omega
    rcases this with h | h | h | h <;> rw [h] <;> rfl
theorem run_make_states (R : Nat) (hn : R ≤ 1000) (w : World) :
    (Instr.makeSlice 64 (.int .i64 (R : Int)) (.int .i64 (R : Int))).run Try.prog w = .ok (.slice (some ⟨w.heap.size, 0, none⟩) R R) (w.alloc (.cells ((List.replicate (4 * R) (0 : UInt32)).map U32).toArray 73)) := by
  obtain ⟨i, hi, hz, hs, hb⟩ := info_parts infoSt3
  have h := run_make (P := Try.prog) w 64 73 i _ Try.underlying64 hi hz .i64 .i64 R R (by omega) (by omega) (by rw [hb]; omega) (by omega)
  rw [h, hs]
  simp only [Int.toNat_natCast]
  rw [show Value.cells (.agg #[.int .u32 0, .int .u32 0, .int .u32 0, .int .u32 0]) = #[.int .u32 0, .int .u32 0, .int .u32 0, .int .u32 0] from rfl, madeCells_states]
/-- States of words, flat, after r rows of word k. -/
def rPos (k r : Nat) : Nat := k / 4 * 4 + r
def rRow (W : List UInt32) (k : Nat) (L : List UInt32) : Nat → List UInt32
  | 0 => L
  | r + 1 => (rRow W k L r).set (rPos k r) (((rRow W k L r).getD (rPos k r) 0 <<< 8) ||| ((W.getD k 0 >>> UInt32.ofNat (24 - 8 * r)) &&& 255))
theorem rRow_length (W : List UInt32) (k : Nat) (L : List UInt32) (r : Nat) : (rRow W k L r).length = L.length := by
  induction r with
  | zero => rfl
  | succ r ih => rw [rRow, List.length_set, ih]
def rTo (W : List UInt32) (T : Nat) : Nat → List UInt32
  | 0 => List.replicate T 0
  | k + 1 => rRow W k (rTo W T k) 4
theorem rTo_length (W : List UInt32) (T k : Nat) : (rTo W T k).length = T := by
  induction k with
  | zero => simp [rTo]
  | succ k ih => rw [rTo, rRow_length, ih]
/-- All states of words, flat. -/
def rAll (W : List UInt32) : List UInt32 := rTo W W.length W.length
theorem rAll_length (W : List UInt32) : (rAll W).length = W.length := rTo_length _ _ _
theorem w_and255 (x : UInt32) : bits .and .u32 (x.toNat : Int) (255 : Int) = ((x &&& 255).toNat : Int) := w_and x 255
set_option maxRecDepth 100000 in
set_option maxHeartbeats 3000000 in
theorem roundsOf_any (gw T R : Nat) (W : List UInt32) (w : World) (hW : Blk w gw 71 (W.map U32)) (hl : W.length = T) (hT : T = 4 * R) (hR : R ≤ 15) :
    Calls Try.prog 33 #[.slice (some ⟨gw, 0, none⟩) T T] w fun e w' => e = .returned (.slice (some ⟨w.heap.size, 0, none⟩) R R) ∧ Blk w' w.heap.size 73 ((rAll W).map U32) ∧ Below w.heap.size w w' := by
  have hgw := hW.lt
  have hmk := run_make_states R (by omega) w
  have d1 : (T : Int) / 4 = (R : Int) := by omega
  have d1' : (T : Int).tdiv 4 = (R : Int) := by rw [Int.tdiv_eq_ediv_of_nonneg (by omega)]; omega
  have hw0 : List.replicate (4 * R) (0 : UInt32) = rTo W T 0 := by rw [← hT]; rfl
  rw [hw0] at hmk
  have HT := Lib.hid (show T = 4 * R ∧ W.length = T from ⟨hT, hl⟩)
  have hT0 : T ≤ 60 := by omega
  have HA : Hid (rAll W = rTo W T T) := (show _ = _ by unfold rAll; rw [hl])
  have HWL := Lib.hid (rTo_length W T)
  clear hT hl hw0
  go_enter Try.func33, Try.ntmps33
  go_wp2
  clear d1 d1' hmk
  go_loopw [14] (fun i wr => ∃ k : Nat, k ≤ T ∧ i = .int .i64 (k : Int) ∧ Blk wr w.heap.size 73 ((rTo W T k).map U32) ∧ Blk wr gw 71 (W.map U32) ∧ Below w.heap.size w wr) (fun i _ => T - (intOf i).toNat)
  case atStart => exact ⟨0, Nat.zero_le _, rfl, Blk.new_of w _ _ _ (by rfl), hW.alloc _, (Below.refl _ _).alloc (Nat.le_refl _) _⟩
  case round =>
    obtain ⟨k, hk, rfl, hB, hWw, hb⟩ := hrel
    by_cases hlt : k < T
    · have hd : decide ((k : Int) < (T : Int)) = true := by simp; omega
      have hcw := hWw.at32 k (by have := HT.out; omega)
      have hq := tdiv4 k
      have hq' := tdiv4' k
      have hq4 : k / 4 < R := by have := HT.out; omega
      have e : rTo W T (k + 1) = rRow W k (rTo W T k) 4 := rfl
      have hp : ∀ r, rPos k r = k / 4 * 4 + r := fun _ => rfl
      have hrow : ∀ L r, rRow W k L (r + 1) = (rRow W k L r).set (rPos k r) (((rRow W k L r).getD (rPos k r) 0 <<< 8) ||| ((W.getD k 0 >>> UInt32.ofNat (24 - 8 * r)) &&& 255)) := fun _ _ => rfl
      have hrl : ∀ r, (rRow W k (rTo W T k) r).length = T := fun r => by rw [rRow_length, HWL.out]
      have hr0 : rRow W k (rTo W T k) 0 = rTo W T k := rfl
      obtain ⟨q, hqq⟩ : ∃ q, q = k / 4 := ⟨_, rfl⟩
      rw [← hqq] at hq hq' hq4 hp
      rw [← hr0] at hB
      have HROW := Lib.hid (hrow (rTo W T k))
      have HRL := Lib.hid hrl
      have HE := Lib.hid e
      have HP := Lib.hid hp
      generalize W.getD k 0 = wd at *
      generalize rTo W T k = L at *
      have hk0 : (0 : Int) ≤ (k : Int) := by omega
      have hk1 : (k : Int) < (T : Int) := by omega
      have hq0 : (0 : Int) ≤ (q : Int) := by omega
      have hq1 : (q : Int) < (R : Int) := by omega
      clear e hp hrow hrl hr0 hqq
      go_wp2
      clear hq hq' hcw hk0 hk1 hd
      go_loopw [23] (fun i wv => ∃ r : Nat, r ≤ 4 ∧ i = .int .i64 (r : Int) ∧ Blk wv w.heap.size 73 ((rRow W k L r).map U32) ∧ Blk wv gw 71 (W.map U32) ∧ Below w.heap.size w wv) (fun i _ => 4 - (intOf i).toNat)
      case atStart => exact ⟨0, by omega, rfl, hB, hWw, hb⟩
      case round =>
        clear hB hWw hb
        obtain ⟨r, hr, rfl, hB, hWw, hb⟩ := hrel
        by_cases hrl : r < 4
        · have hd : decide ((r : Int) < 4) = true := by simp; omega
          have e := HROW.out r
          have hlen := HRL.out r
          have hpp := HP.out r
          have hpT : rPos k r < T := by have := HT.out; omega
          have hc := fun V (h : Below wr.heap.size wr V) => (hB.below h hB.lt).at32 (rPos k r) (by omega)
          have hf := hB.frozen (rPos k r)
          have hc0 := hB.at32 (rPos k r) (by omega)
          have hlB := hB.lt
          have hlW := hWw.lt
          rw [hpp] at hc hf hc0
          rw [hpp] at e
          generalize (rRow W k L r).getD (q * 4 + r) 0 = x2 at *
          have HE1 := Lib.hid e
          generalize rRow W k L r = LL at *
          clear e hlen hpp hpT
          obtain rfl | rfl | rfl | rfl : r = 0 ∨ r = 1 ∨ r = 2 ∨ r = 3 := by omega
          · have hbl := hb
            clear hb
            have hc' := fun V (h : Below wr.heap.size wr V) => (show V.cell? ⟨w.heap.size, q * 4, none⟩ = some (.int .u32 x2.toNat) from hc V h)
            clear hc
            have hc := hc'
            clear hc'
            have hf : wr.frozen? ⟨w.heap.size, q * 4, none⟩ = false := hf
            have hc0 : wr.cell? ⟨w.heap.size, q * 4, none⟩ = some (.int .u32 x2.toNat) := hc0
            have hw1 : IntKind.i64.wrap (0 : Int) = 0 := by decide +kernel
            have hw2 : IntKind.i64.wrap (24 : Int) = 24 := by decide +kernel
            have HE1 : Hid (rRow W k L (0 + 1) = LL.set (q * 4) ((x2 <<< (8 : UInt32)) ||| ((wd >>> UInt32.ofNat 24) &&& (255 : UInt32)))) := Lib.hid HE1.out
            have hsh : (wd.toNat : Int) / (16777216 : Int) = ((wd >>> UInt32.ofNat 24).toNat : Int) := w_shr wd 24 (by decide)
            have h1 := w_shl8 x2
            have h1' := w_shl8' x2
            generalize wd >>> UInt32.ofNat 24 = y at *
            have h2 := w_and255 y
            have h3 := w_or (x2 <<< 8) (y &&& (255 : UInt32))
            generalize y &&& (255 : UInt32) = z at *
            generalize x2 <<< 8 = x3 at *
            generalize x3 ||| z = u at *
            go_wp2
            refine wp_region_noPanic ?_
            apply wp_region_once_tail (m := 17) (Z := []) (D := [[], [], [], [], [2], [2, 3, 4], [2, 3, 4, 5], [2, 3, 4, 5, 6], [], [], [9], [9, 10], [8, 9, 10, 11], [8, 9, 10, 11, 12], [2, 3, 4, 5, 6, 7, 8, 9, 10, 11, 12, 13], [0], [0, 1, 2, 3, 4, 5, 6, 7, 8, 9, 10, 11, 12, 13, 14, 15], [0, 1, 2, 3, 4, 5, 6, 7, 8, 9, 10, 11, 12, 13, 14, 15, 16]]) (J := [[], [], [], [], [2], [3, 4], [5], [6], [], [], [9], [10], [8, 11], [12], [7, 13], [0], [1, 15]]) (Je := [14, 16]) (Rs := [Is _, Is _, Is _, Is _, Is _, Is _, Is _, Is _, Is _, Is _, Is _, Is _, Is _, Is _, Is _, Is _, Is _])
            · kernel_rfl
            · kernel_rfl
            · kernel_rfl
            · kernel_rfl
            · kernel_rfl
            · kernel_rfl
            · kernel_rfl
            · exact fun h => absurd rfl h
            · intro u
              simp only [List.take_succ_cons, List.take_zero, List.map_cons, List.map_nil, fillU, List.setIfInBounds_toArray, List.set_cons_zero, List.set_cons_succ, Nat.zero_add, Nat.reduceAdd]
              exact rfl
            · simp only [List.take_succ_cons, List.take_zero]
              refine ⟨fun u W hb hd K hK => ?_, ?_⟩
              · clear hd
                go_simp
                apply hK
                · simp only [Act.put, List.setIfInBounds_toArray, List.set_cons_zero, List.set_cons_succ]
                  exact rfl
                · exact Below.refl _ _
                · exact IsOut
              refine ⟨fun u W hb hd K hK => ?_, ?_⟩
              · clear hd
                go_simp
                apply hK
                · simp only [Act.put, List.setIfInBounds_toArray, List.set_cons_zero, List.set_cons_succ]
                  exact rfl
                · exact Below.refl _ _
                · exact IsOut
              refine ⟨fun u W hb hd K hK => ?_, ?_⟩
              · clear hd
                go_simp
                apply hK
                · simp only [Act.put, List.setIfInBounds_toArray, List.set_cons_zero, List.set_cons_succ]
                  exact rfl
                · exact Below.refl _ _
                · exact IsOut
              refine ⟨fun u W hb hd K hK => ?_, ?_⟩
              · clear hd
                go_simp
                apply hK
                · simp only [Act.put, List.setIfInBounds_toArray, List.set_cons_zero, List.set_cons_succ]
                  exact rfl
                · exact Below.refl _ _
                · exact IsOut
              refine ⟨fun u W hb hd K hK => ?_, ?_⟩
              · simp only [Facts, nthR, Is, and_true] at hd
                simp only [hd] at hK ⊢
                clear hd
                go_simp
                apply hK
                · simp only [Act.put, List.setIfInBounds_toArray, List.set_cons_zero, List.set_cons_succ]
                  exact rfl
                · exact Below.refl _ _
                · exact IsOut
              refine ⟨fun u W hb hd K hK => ?_, ?_⟩
              · simp only [Facts, nthR, Is, and_true] at hd
                simp only [hd] at hK ⊢
                clear hd
                go_simp
                apply hK
                · simp only [Act.put, List.setIfInBounds_toArray, List.set_cons_zero, List.set_cons_succ]
                  exact rfl
                · exact Below.refl _ _
                · exact IsOut
              refine ⟨fun u W hb hd K hK => ?_, ?_⟩
              · simp only [Facts, nthR, Is, and_true] at hd
                simp only [hd] at hK ⊢
                clear hd
                go_simp
                apply hK
                · simp only [Act.put, List.setIfInBounds_toArray, List.set_cons_zero, List.set_cons_succ]
                  exact rfl
                · exact Below.refl _ _
                · exact IsOut
              refine ⟨fun u W hb hd K hK => ?_, ?_⟩
              · simp only [Facts, nthR, Is, and_true] at hd
                simp only [hd] at hK ⊢
                clear hd
                go_simp
                apply hK
                · simp only [Act.put, List.setIfInBounds_toArray, List.set_cons_zero, List.set_cons_succ]
                  exact rfl
                · exact Below.refl _ _
                · exact IsOut
              refine ⟨fun u W hb hd K hK => ?_, ?_⟩
              · clear hd
                go_simp
                apply hK
                · simp only [Act.put, List.setIfInBounds_toArray, List.set_cons_zero, List.set_cons_succ]
                  exact rfl
                · exact Below.refl _ _
                · exact IsOut
              refine ⟨fun u W hb hd K hK => ?_, ?_⟩
              · clear hd
                go_simp
                apply hK
                · simp only [Act.put, List.setIfInBounds_toArray, List.set_cons_zero, List.set_cons_succ]
                  exact rfl
                · exact Below.refl _ _
                · exact IsOut
              refine ⟨fun u W hb hd K hK => ?_, ?_⟩
              · simp only [Facts, nthR, Is, and_true] at hd
                simp only [hd] at hK ⊢
                clear hd
                go_simp
                apply hK
                · simp only [Act.put, List.setIfInBounds_toArray, List.set_cons_zero, List.set_cons_succ]
                  exact rfl
                · exact Below.refl _ _
                · exact IsOut
              refine ⟨fun u W hb hd K hK => ?_, ?_⟩
              · simp only [Facts, nthR, Is, and_true] at hd
                simp only [hd] at hK ⊢
                clear hd
                go_simp
                apply hK
                · simp only [Act.put, List.setIfInBounds_toArray, List.set_cons_zero, List.set_cons_succ]
                  exact rfl
                · exact Below.refl _ _
                · exact IsOut
              refine ⟨fun u W hb hd K hK => ?_, ?_⟩
              · simp only [Facts, nthR, Is, and_true] at hd
                simp only [hd] at hK ⊢
                clear hd
                go_simp
                apply hK
                · simp only [Act.put, List.setIfInBounds_toArray, List.set_cons_zero, List.set_cons_succ]
                  exact rfl
                · exact Below.refl _ _
                · exact IsOut
              refine ⟨fun u W hb hd K hK => ?_, ?_⟩
              · simp only [Facts, nthR, Is, and_true] at hd
                simp only [hd] at hK ⊢
                clear hd
                go_simp
                apply hK
                · simp only [Act.put, List.setIfInBounds_toArray, List.set_cons_zero, List.set_cons_succ]
                  exact rfl
                · exact Below.refl _ _
                · exact IsOut
              refine ⟨fun u W hb hd K hK => ?_, ?_⟩
              · simp only [Facts, nthR, Is, and_true] at hd
                simp only [hd] at hK ⊢
                clear hd
                go_simp
                apply hK
                · simp only [Act.put, List.setIfInBounds_toArray, List.set_cons_zero, List.set_cons_succ]
                  exact rfl
                · exact Below.refl _ _
                · exact IsOut
              refine ⟨fun u W hb hd K hK => ?_, ?_⟩
              · simp only [Facts, nthR, Is, and_true] at hd
                simp only [hd] at hK ⊢
                clear hd
                go_simp
                apply hK
                · simp only [Act.put, List.setIfInBounds_toArray, List.set_cons_zero, List.set_cons_succ]
                  exact rfl
                · exact Below.refl _ _
                · exact IsOut
              refine ⟨fun u W hb hd K hK => ?_, ?_⟩
              · simp only [Facts, nthR, Is, and_true] at hd
                simp only [hd] at hK ⊢
                clear hd
                go_simp
                apply hK
                · simp only [Act.put, List.setIfInBounds_toArray, List.set_cons_zero, List.set_cons_succ]
                  exact rfl
                · exact Below.refl _ _
                · exact IsOut
              exact trivial
            · skip
              exact trivial
            · exact (.is (.is (.is (.is (.is (.is (.is (.is (.is (.is (.is (.is (.is (.is (.is (.is (.is .nil)))))))))))))))))
            · intro u W hb hd
              simp only [List.drop_succ_cons, List.drop_zero]
              simp only [Facts, nthR, Is, and_true] at hd
              simp only [hd]
              clear hd
              replace hf := (hb.frozen (p := ⟨w.heap.size, q * 4, none⟩) hlB).trans hf
              replace hc0 := (hb.cell (p := ⟨w.heap.size, q * 4, none⟩) hlB).trans hc0
              replace hB := hB.below hb hlB
              replace hWw := hWw.below hb hlW
              replace hbl := hbl.trans (hb.mono hbl.size)
              clear hb hc
              go_wp2
              refine NoPanic.normal ?_
              go_wp2
              go_roundw
              case rel =>
                refine ⟨1, by omega, by rfl, ?_, hWw.far (show gw ≠ w.heap.size by omega) _, hbl.setCell (Nat.le_refl _) _⟩
                rw [show 1 = 0 + 1 from rfl, HE1.out, ← map_set32]
                exact hB.set_ _ _
              case measure => simp [intOf]
          · have hbl := hb
            clear hb
            have hc' := fun V (h : Below wr.heap.size wr V) => (show V.cell? ⟨w.heap.size, q * 4 + 1, none⟩ = some (.int .u32 x2.toNat) from hc V h)
            clear hc
            have hc := hc'
            clear hc'
            have hf : wr.frozen? ⟨w.heap.size, q * 4 + 1, none⟩ = false := hf
            have hc0 : wr.cell? ⟨w.heap.size, q * 4 + 1, none⟩ = some (.int .u32 x2.toNat) := hc0
            have hw1 : IntKind.i64.wrap (8 : Int) = 8 := by decide +kernel
            have hw2 : IntKind.i64.wrap (16 : Int) = 16 := by decide +kernel
            have HE1 : Hid (rRow W k L (1 + 1) = LL.set (q * 4 + 1) ((x2 <<< (8 : UInt32)) ||| ((wd >>> UInt32.ofNat 16) &&& (255 : UInt32)))) := Lib.hid HE1.out
            have hsh : (wd.toNat : Int) / (65536 : Int) = ((wd >>> UInt32.ofNat 16).toNat : Int) := w_shr wd 16 (by decide)
            have h1 := w_shl8 x2
            have h1' := w_shl8' x2
            generalize wd >>> UInt32.ofNat 16 = y at *
            have h2 := w_and255 y
            have h3 := w_or (x2 <<< 8) (y &&& (255 : UInt32))
            generalize y &&& (255 : UInt32) = z at *
            generalize x2 <<< 8 = x3 at *
            generalize x3 ||| z = u at *
            go_wp2
            refine wp_region_noPanic ?_
            apply wp_region_once_tail (m := 17) (Z := []) (D := [[], [], [], [], [2], [2, 3, 4], [2, 3, 4, 5], [2, 3, 4, 5, 6], [], [], [9], [9, 10], [8, 9, 10, 11], [8, 9, 10, 11, 12], [2, 3, 4, 5, 6, 7, 8, 9, 10, 11, 12, 13], [0], [0, 1, 2, 3, 4, 5, 6, 7, 8, 9, 10, 11, 12, 13, 14, 15], [0, 1, 2, 3, 4, 5, 6, 7, 8, 9, 10, 11, 12, 13, 14, 15, 16]]) (J := [[], [], [], [], [2], [3, 4], [5], [6], [], [], [9], [10], [8, 11], [12], [7, 13], [0], [1, 15]]) (Je := [14, 16]) (Rs := [Is _, Is _, Is _, Is _, Is _, Is _, Is _, Is _, Is _, Is _, Is _, Is _, Is _, Is _, Is _, Is _, Is _])
            · kernel_rfl
            · kernel_rfl
            · kernel_rfl
            · kernel_rfl
            · kernel_rfl
            · kernel_rfl
            · kernel_rfl
            · exact fun h => absurd rfl h
            · intro u
              simp only [List.take_succ_cons, List.take_zero, List.map_cons, List.map_nil, fillU, List.setIfInBounds_toArray, List.set_cons_zero, List.set_cons_succ, Nat.zero_add, Nat.reduceAdd]
              exact rfl
            · simp only [List.take_succ_cons, List.take_zero]
              refine ⟨fun u W hb hd K hK => ?_, ?_⟩
              · clear hd
                go_simp
                apply hK
                · simp only [Act.put, List.setIfInBounds_toArray, List.set_cons_zero, List.set_cons_succ]
                  exact rfl
                · exact Below.refl _ _
                · exact IsOut
              refine ⟨fun u W hb hd K hK => ?_, ?_⟩
              · clear hd
                go_simp
                apply hK
                · simp only [Act.put, List.setIfInBounds_toArray, List.set_cons_zero, List.set_cons_succ]
                  exact rfl
                · exact Below.refl _ _
                · exact IsOut
              refine ⟨fun u W hb hd K hK => ?_, ?_⟩
              · clear hd
                go_simp
                apply hK
                · simp only [Act.put, List.setIfInBounds_toArray, List.set_cons_zero, List.set_cons_succ]
                  exact rfl
                · exact Below.refl _ _
                · exact IsOut
              refine ⟨fun u W hb hd K hK => ?_, ?_⟩
              · clear hd
                go_simp
                apply hK
                · simp only [Act.put, List.setIfInBounds_toArray, List.set_cons_zero, List.set_cons_succ]
                  exact rfl
                · exact Below.refl _ _
                · exact IsOut
              refine ⟨fun u W hb hd K hK => ?_, ?_⟩
              · simp only [Facts, nthR, Is, and_true] at hd
                simp only [hd] at hK ⊢
                clear hd
                go_simp
                apply hK
                · simp only [Act.put, List.setIfInBounds_toArray, List.set_cons_zero, List.set_cons_succ]
                  exact rfl
                · exact Below.refl _ _
                · exact IsOut
              refine ⟨fun u W hb hd K hK => ?_, ?_⟩
              · simp only [Facts, nthR, Is, and_true] at hd
                simp only [hd] at hK ⊢
                clear hd
                go_simp
                apply hK
                · simp only [Act.put, List.setIfInBounds_toArray, List.set_cons_zero, List.set_cons_succ]
                  exact rfl
                · exact Below.refl _ _
                · exact IsOut
              refine ⟨fun u W hb hd K hK => ?_, ?_⟩
              · simp only [Facts, nthR, Is, and_true] at hd
                simp only [hd] at hK ⊢
                clear hd
                go_simp
                apply hK
                · simp only [Act.put, List.setIfInBounds_toArray, List.set_cons_zero, List.set_cons_succ]
                  exact rfl
                · exact Below.refl _ _
                · exact IsOut
              refine ⟨fun u W hb hd K hK => ?_, ?_⟩
              · simp only [Facts, nthR, Is, and_true] at hd
                simp only [hd] at hK ⊢
                clear hd
                go_simp
                apply hK
                · simp only [Act.put, List.setIfInBounds_toArray, List.set_cons_zero, List.set_cons_succ]
                  exact rfl
                · exact Below.refl _ _
                · exact IsOut
              refine ⟨fun u W hb hd K hK => ?_, ?_⟩
              · clear hd
                go_simp
                apply hK
                · simp only [Act.put, List.setIfInBounds_toArray, List.set_cons_zero, List.set_cons_succ]
                  exact rfl
                · exact Below.refl _ _
                · exact IsOut
              refine ⟨fun u W hb hd K hK => ?_, ?_⟩
              · clear hd
                go_simp
                apply hK
                · simp only [Act.put, List.setIfInBounds_toArray, List.set_cons_zero, List.set_cons_succ]
                  exact rfl
                · exact Below.refl _ _
                · exact IsOut
              refine ⟨fun u W hb hd K hK => ?_, ?_⟩
              · simp only [Facts, nthR, Is, and_true] at hd
                simp only [hd] at hK ⊢
                clear hd
                go_simp
                apply hK
                · simp only [Act.put, List.setIfInBounds_toArray, List.set_cons_zero, List.set_cons_succ]
                  exact rfl
                · exact Below.refl _ _
                · exact IsOut
              refine ⟨fun u W hb hd K hK => ?_, ?_⟩
              · simp only [Facts, nthR, Is, and_true] at hd
                simp only [hd] at hK ⊢
                clear hd
                go_simp
                apply hK
                · simp only [Act.put, List.setIfInBounds_toArray, List.set_cons_zero, List.set_cons_succ]
                  exact rfl
                · exact Below.refl _ _
                · exact IsOut
              refine ⟨fun u W hb hd K hK => ?_, ?_⟩
              · simp only [Facts, nthR, Is, and_true] at hd
                simp only [hd] at hK ⊢
                clear hd
                go_simp
                apply hK
                · simp only [Act.put, List.setIfInBounds_toArray, List.set_cons_zero, List.set_cons_succ]
                  exact rfl
                · exact Below.refl _ _
                · exact IsOut
              refine ⟨fun u W hb hd K hK => ?_, ?_⟩
              · simp only [Facts, nthR, Is, and_true] at hd
                simp only [hd] at hK ⊢
                clear hd
                go_simp
                apply hK
                · simp only [Act.put, List.setIfInBounds_toArray, List.set_cons_zero, List.set_cons_succ]
                  exact rfl
                · exact Below.refl _ _
                · exact IsOut
              refine ⟨fun u W hb hd K hK => ?_, ?_⟩
              · simp only [Facts, nthR, Is, and_true] at hd
                simp only [hd] at hK ⊢
                clear hd
                go_simp
                apply hK
                · simp only [Act.put, List.setIfInBounds_toArray, List.set_cons_zero, List.set_cons_succ]
                  exact rfl
                · exact Below.refl _ _
                · exact IsOut
              refine ⟨fun u W hb hd K hK => ?_, ?_⟩
              · simp only [Facts, nthR, Is, and_true] at hd
                simp only [hd] at hK ⊢
                clear hd
                go_simp
                apply hK
                · simp only [Act.put, List.setIfInBounds_toArray, List.set_cons_zero, List.set_cons_succ]
                  exact rfl
                · exact Below.refl _ _
                · exact IsOut
              refine ⟨fun u W hb hd K hK => ?_, ?_⟩
              · simp only [Facts, nthR, Is, and_true] at hd
                simp only [hd] at hK ⊢
                clear hd
                go_simp
                apply hK
                · simp only [Act.put, List.setIfInBounds_toArray, List.set_cons_zero, List.set_cons_succ]
                  exact rfl
                · exact Below.refl _ _
                · exact IsOut
              exact trivial
            · skip
              exact trivial
            · exact (.is (.is (.is (.is (.is (.is (.is (.is (.is (.is (.is (.is (.is (.is (.is (.is (.is .nil)))))))))))))))))
            · intro u W hb hd
              simp only [List.drop_succ_cons, List.drop_zero]
              simp only [Facts, nthR, Is, and_true] at hd
              simp only [hd]
              clear hd
              replace hf := (hb.frozen (p := ⟨w.heap.size, q * 4 + 1, none⟩) hlB).trans hf
              replace hc0 := (hb.cell (p := ⟨w.heap.size, q * 4 + 1, none⟩) hlB).trans hc0
              replace hB := hB.below hb hlB
              replace hWw := hWw.below hb hlW
              replace hbl := hbl.trans (hb.mono hbl.size)
              clear hb hc
              go_wp2
              refine NoPanic.normal ?_
              go_wp2
              go_roundw
              case rel =>
                refine ⟨2, by omega, by rfl, ?_, hWw.far (show gw ≠ w.heap.size by omega) _, hbl.setCell (Nat.le_refl _) _⟩
                rw [show 2 = 1 + 1 from rfl, HE1.out, ← map_set32]
                exact hB.set_ _ _
              case measure => simp [intOf]
          · have hbl := hb
            clear hb
            have hc' := fun V (h : Below wr.heap.size wr V) => (show V.cell? ⟨w.heap.size, q * 4 + 2, none⟩ = some (.int .u32 x2.toNat) from hc V h)
            clear hc
            have hc := hc'
            clear hc'
            have hf : wr.frozen? ⟨w.heap.size, q * 4 + 2, none⟩ = false := hf
            have hc0 : wr.cell? ⟨w.heap.size, q * 4 + 2, none⟩ = some (.int .u32 x2.toNat) := hc0
            have hw1 : IntKind.i64.wrap (16 : Int) = 16 := by decide +kernel
            have hw2 : IntKind.i64.wrap (8 : Int) = 8 := by decide +kernel
            have HE1 : Hid (rRow W k L (2 + 1) = LL.set (q * 4 + 2) ((x2 <<< (8 : UInt32)) ||| ((wd >>> UInt32.ofNat 8) &&& (255 : UInt32)))) := Lib.hid HE1.out
            have hsh : (wd.toNat : Int) / (256 : Int) = ((wd >>> UInt32.ofNat 8).toNat : Int) := w_shr wd 8 (by decide)
            have h1 := w_shl8 x2
            have h1' := w_shl8' x2
            generalize wd >>> UInt32.ofNat 8 = y at *
            have h2 := w_and255 y
            have h3 := w_or (x2 <<< 8) (y &&& (255 : UInt32))
            generalize y &&& (255 : UInt32) = z at *
            generalize x2 <<< 8 = x3 at *
            generalize x3 ||| z = u at *
            go_wp2
            refine wp_region_noPanic ?_
            apply wp_region_once_tail (m := 17) (Z := []) (D := [[], [], [], [], [2], [2, 3, 4], [2, 3, 4, 5], [2, 3, 4, 5, 6], [], [], [9], [9, 10], [8, 9, 10, 11], [8, 9, 10, 11, 12], [2, 3, 4, 5, 6, 7, 8, 9, 10, 11, 12, 13], [0], [0, 1, 2, 3, 4, 5, 6, 7, 8, 9, 10, 11, 12, 13, 14, 15], [0, 1, 2, 3, 4, 5, 6, 7, 8, 9, 10, 11, 12, 13, 14, 15, 16]]) (J := [[], [], [], [], [2], [3, 4], [5], [6], [], [], [9], [10], [8, 11], [12], [7, 13], [0], [1, 15]]) (Je := [14, 16]) (Rs := [Is _, Is _, Is _, Is _, Is _, Is _, Is _, Is _, Is _, Is _, Is _, Is _, Is _, Is _, Is _, Is _, Is _])
            · kernel_rfl
            · kernel_rfl
            · kernel_rfl
            · kernel_rfl
            · kernel_rfl
            · kernel_rfl
            · kernel_rfl
            · exact fun h => absurd rfl h
            · intro u
              simp only [List.take_succ_cons, List.take_zero, List.map_cons, List.map_nil, fillU, List.setIfInBounds_toArray, List.set_cons_zero, List.set_cons_succ, Nat.zero_add, Nat.reduceAdd]
              exact rfl
            · simp only [List.take_succ_cons, List.take_zero]
              refine ⟨fun u W hb hd K hK => ?_, ?_⟩
              · clear hd
                go_simp
                apply hK
                · simp only [Act.put, List.setIfInBounds_toArray, List.set_cons_zero, List.set_cons_succ]
                  exact rfl
                · exact Below.refl _ _
                · exact IsOut
              refine ⟨fun u W hb hd K hK => ?_, ?_⟩
              · clear hd
                go_simp
                apply hK
                · simp only [Act.put, List.setIfInBounds_toArray, List.set_cons_zero, List.set_cons_succ]
                  exact rfl
                · exact Below.refl _ _
                · exact IsOut
              refine ⟨fun u W hb hd K hK => ?_, ?_⟩
              · clear hd
                go_simp
                apply hK
                · simp only [Act.put, List.setIfInBounds_toArray, List.set_cons_zero, List.set_cons_succ]
                  exact rfl
                · exact Below.refl _ _
                · exact IsOut
              refine ⟨fun u W hb hd K hK => ?_, ?_⟩
              · clear hd
                go_simp
                apply hK
                · simp only [Act.put, List.setIfInBounds_toArray, List.set_cons_zero, List.set_cons_succ]
                  exact rfl
                · exact Below.refl _ _
                · exact IsOut
              refine ⟨fun u W hb hd K hK => ?_, ?_⟩
              · simp only [Facts, nthR, Is, and_true] at hd
                simp only [hd] at hK ⊢
                clear hd
                go_simp
                apply hK
                · simp only [Act.put, List.setIfInBounds_toArray, List.set_cons_zero, List.set_cons_succ]
                  exact rfl
                · exact Below.refl _ _
                · exact IsOut
              refine ⟨fun u W hb hd K hK => ?_, ?_⟩
              · simp only [Facts, nthR, Is, and_true] at hd
                simp only [hd] at hK ⊢
                clear hd
                go_simp
                apply hK
                · simp only [Act.put, List.setIfInBounds_toArray, List.set_cons_zero, List.set_cons_succ]
                  exact rfl
                · exact Below.refl _ _
                · exact IsOut
              refine ⟨fun u W hb hd K hK => ?_, ?_⟩
              · simp only [Facts, nthR, Is, and_true] at hd
                simp only [hd] at hK ⊢
                clear hd
                go_simp
                apply hK
                · simp only [Act.put, List.setIfInBounds_toArray, List.set_cons_zero, List.set_cons_succ]
                  exact rfl
                · exact Below.refl _ _
                · exact IsOut
              refine ⟨fun u W hb hd K hK => ?_, ?_⟩
              · simp only [Facts, nthR, Is, and_true] at hd
                simp only [hd] at hK ⊢
                clear hd
                go_simp
                apply hK
                · simp only [Act.put, List.setIfInBounds_toArray, List.set_cons_zero, List.set_cons_succ]
                  exact rfl
                · exact Below.refl _ _
                · exact IsOut
              refine ⟨fun u W hb hd K hK => ?_, ?_⟩
              · clear hd
                go_simp
                apply hK
                · simp only [Act.put, List.setIfInBounds_toArray, List.set_cons_zero, List.set_cons_succ]
                  exact rfl
                · exact Below.refl _ _
                · exact IsOut
              refine ⟨fun u W hb hd K hK => ?_, ?_⟩
              · clear hd
                go_simp
                apply hK
                · simp only [Act.put, List.setIfInBounds_toArray, List.set_cons_zero, List.set_cons_succ]
                  exact rfl
                · exact Below.refl _ _
                · exact IsOut
              refine ⟨fun u W hb hd K hK => ?_, ?_⟩
              · simp only [Facts, nthR, Is, and_true] at hd
                simp only [hd] at hK ⊢
                clear hd
                go_simp
                apply hK
                · simp only [Act.put, List.setIfInBounds_toArray, List.set_cons_zero, List.set_cons_succ]
                  exact rfl
                · exact Below.refl _ _
                · exact IsOut
              refine ⟨fun u W hb hd K hK => ?_, ?_⟩
              · simp only [Facts, nthR, Is, and_true] at hd
                simp only [hd] at hK ⊢
                clear hd
                go_simp
                apply hK
                · simp only [Act.put, List.setIfInBounds_toArray, List.set_cons_zero, List.set_cons_succ]
                  exact rfl
                · exact Below.refl _ _
                · exact IsOut
              refine ⟨fun u W hb hd K hK => ?_, ?_⟩
              · simp only [Facts, nthR, Is, and_true] at hd
                simp only [hd] at hK ⊢
                clear hd
                go_simp
                apply hK
                · simp only [Act.put, List.setIfInBounds_toArray, List.set_cons_zero, List.set_cons_succ]
                  exact rfl
                · exact Below.refl _ _
                · exact IsOut
              refine ⟨fun u W hb hd K hK => ?_, ?_⟩
              · simp only [Facts, nthR, Is, and_true] at hd
                simp only [hd] at hK ⊢
                clear hd
                go_simp
                apply hK
                · simp only [Act.put, List.setIfInBounds_toArray, List.set_cons_zero, List.set_cons_succ]
                  exact rfl
                · exact Below.refl _ _
                · exact IsOut
              refine ⟨fun u W hb hd K hK => ?_, ?_⟩
              · simp only [Facts, nthR, Is, and_true] at hd
                simp only [hd] at hK ⊢
                clear hd
                go_simp
                apply hK
                · simp only [Act.put, List.setIfInBounds_toArray, List.set_cons_zero, List.set_cons_succ]
                  exact rfl
                · exact Below.refl _ _
                · exact IsOut
              refine ⟨fun u W hb hd K hK => ?_, ?_⟩
              · simp only [Facts, nthR, Is, and_true] at hd
                simp only [hd] at hK ⊢
                clear hd
                go_simp
                apply hK
                · simp only [Act.put, List.setIfInBounds_toArray, List.set_cons_zero, List.set_cons_succ]
                  exact rfl
                · exact Below.refl _ _
                · exact IsOut
              refine ⟨fun u W hb hd K hK => ?_, ?_⟩
              · simp only [Facts, nthR, Is, and_true] at hd
                simp only [hd] at hK ⊢
                clear hd
                go_simp
                apply hK
                · simp only [Act.put, List.setIfInBounds_toArray, List.set_cons_zero, List.set_cons_succ]
                  exact rfl
                · exact Below.refl _ _
                · exact IsOut
              exact trivial
            · skip
              exact trivial
            · exact (.is (.is (.is (.is (.is (.is (.is (.is (.is (.is (.is (.is (.is (.is (.is (.is (.is .nil)))))))))))))))))
            · intro u W hb hd
              simp only [List.drop_succ_cons, List.drop_zero]
              simp only [Facts, nthR, Is, and_true] at hd
              simp only [hd]
              clear hd
              replace hf := (hb.frozen (p := ⟨w.heap.size, q * 4 + 2, none⟩) hlB).trans hf
              replace hc0 := (hb.cell (p := ⟨w.heap.size, q * 4 + 2, none⟩) hlB).trans hc0
              replace hB := hB.below hb hlB
              replace hWw := hWw.below hb hlW
              replace hbl := hbl.trans (hb.mono hbl.size)
              clear hb hc
              go_wp2
              refine NoPanic.normal ?_
              go_wp2
              go_roundw
              case rel =>
                refine ⟨3, by omega, by rfl, ?_, hWw.far (show gw ≠ w.heap.size by omega) _, hbl.setCell (Nat.le_refl _) _⟩
                rw [show 3 = 2 + 1 from rfl, HE1.out, ← map_set32]
                exact hB.set_ _ _
              case measure => simp [intOf]
          · have hbl := hb
            clear hb
            have hc' := fun V (h : Below wr.heap.size wr V) => (show V.cell? ⟨w.heap.size, q * 4 + 3, none⟩ = some (.int .u32 x2.toNat) from hc V h)
            clear hc
            have hc := hc'
            clear hc'
            have hf : wr.frozen? ⟨w.heap.size, q * 4 + 3, none⟩ = false := hf
            have hc0 : wr.cell? ⟨w.heap.size, q * 4 + 3, none⟩ = some (.int .u32 x2.toNat) := hc0
            have hw1 : IntKind.i64.wrap (24 : Int) = 24 := by decide +kernel
            have hw2 : IntKind.i64.wrap (0 : Int) = 0 := by decide +kernel
            have HE1 : Hid (rRow W k L (3 + 1) = LL.set (q * 4 + 3) ((x2 <<< (8 : UInt32)) ||| ((wd >>> UInt32.ofNat 0) &&& (255 : UInt32)))) := Lib.hid HE1.out
            have hwd : wd >>> UInt32.ofNat 0 = wd := by simp
            rw [hwd] at HE1
            clear hwd
            have h1 := w_shl8 x2
            have h1' := w_shl8' x2
            have h2 := w_and255 wd
            have h3 := w_or (x2 <<< 8) (wd &&& (255 : UInt32))
            generalize wd &&& (255 : UInt32) = z at *
            generalize x2 <<< 8 = x3 at *
            generalize x3 ||| z = u at *
            go_wp2
            refine wp_region_noPanic ?_
            apply wp_region_once_tail (m := 17) (Z := []) (D := [[], [], [], [], [2], [2, 3, 4], [2, 3, 4, 5], [2, 3, 4, 5, 6], [], [], [9], [9, 10], [8, 9, 10, 11], [8, 9, 10, 11, 12], [2, 3, 4, 5, 6, 7, 8, 9, 10, 11, 12, 13], [0], [0, 1, 2, 3, 4, 5, 6, 7, 8, 9, 10, 11, 12, 13, 14, 15], [0, 1, 2, 3, 4, 5, 6, 7, 8, 9, 10, 11, 12, 13, 14, 15, 16]]) (J := [[], [], [], [], [2], [3, 4], [5], [6], [], [], [9], [10], [8, 11], [12], [7, 13], [0], [1, 15]]) (Je := [14, 16]) (Rs := [Is _, Is _, Is _, Is _, Is _, Is _, Is _, Is _, Is _, Is _, Is _, Is _, Is _, Is _, Is _, Is _, Is _])
            · kernel_rfl
            · kernel_rfl
            · kernel_rfl
            · kernel_rfl
            · kernel_rfl
            · kernel_rfl
            · kernel_rfl
            · exact fun h => absurd rfl h
            · intro u
              simp only [List.take_succ_cons, List.take_zero, List.map_cons, List.map_nil, fillU, List.setIfInBounds_toArray, List.set_cons_zero, List.set_cons_succ, Nat.zero_add, Nat.reduceAdd]
              exact rfl
            · simp only [List.take_succ_cons, List.take_zero]
              refine ⟨fun u W hb hd K hK => ?_, ?_⟩
              · clear hd
                go_simp
                apply hK
                · simp only [Act.put, List.setIfInBounds_toArray, List.set_cons_zero, List.set_cons_succ]
                  exact rfl
                · exact Below.refl _ _
                · exact IsOut
              refine ⟨fun u W hb hd K hK => ?_, ?_⟩
              · clear hd
                go_simp
                apply hK
                · simp only [Act.put, List.setIfInBounds_toArray, List.set_cons_zero, List.set_cons_succ]
                  exact rfl
                · exact Below.refl _ _
                · exact IsOut
              refine ⟨fun u W hb hd K hK => ?_, ?_⟩
              · clear hd
                go_simp
                apply hK
                · simp only [Act.put, List.setIfInBounds_toArray, List.set_cons_zero, List.set_cons_succ]
                  exact rfl
                · exact Below.refl _ _
                · exact IsOut
              refine ⟨fun u W hb hd K hK => ?_, ?_⟩
              · clear hd
                go_simp
                apply hK
                · simp only [Act.put, List.setIfInBounds_toArray, List.set_cons_zero, List.set_cons_succ]
                  exact rfl
                · exact Below.refl _ _
                · exact IsOut
              refine ⟨fun u W hb hd K hK => ?_, ?_⟩
              · simp only [Facts, nthR, Is, and_true] at hd
                simp only [hd] at hK ⊢
                clear hd
                go_simp
                apply hK
                · simp only [Act.put, List.setIfInBounds_toArray, List.set_cons_zero, List.set_cons_succ]
                  exact rfl
                · exact Below.refl _ _
                · exact IsOut
              refine ⟨fun u W hb hd K hK => ?_, ?_⟩
              · simp only [Facts, nthR, Is, and_true] at hd
                simp only [hd] at hK ⊢
                clear hd
                go_simp
                apply hK
                · simp only [Act.put, List.setIfInBounds_toArray, List.set_cons_zero, List.set_cons_succ]
                  exact rfl
                · exact Below.refl _ _
                · exact IsOut
              refine ⟨fun u W hb hd K hK => ?_, ?_⟩
              · simp only [Facts, nthR, Is, and_true] at hd
                simp only [hd] at hK ⊢
                clear hd
                go_simp
                apply hK
                · simp only [Act.put, List.setIfInBounds_toArray, List.set_cons_zero, List.set_cons_succ]
                  exact rfl
                · exact Below.refl _ _
                · exact IsOut
              refine ⟨fun u W hb hd K hK => ?_, ?_⟩
              · simp only [Facts, nthR, Is, and_true] at hd
                simp only [hd] at hK ⊢
                clear hd
                go_simp
                apply hK
                · simp only [Act.put, List.setIfInBounds_toArray, List.set_cons_zero, List.set_cons_succ]
                  exact rfl
                · exact Below.refl _ _
                · exact IsOut
              refine ⟨fun u W hb hd K hK => ?_, ?_⟩
              · clear hd
                go_simp
                apply hK
                · simp only [Act.put, List.setIfInBounds_toArray, List.set_cons_zero, List.set_cons_succ]
                  exact rfl
                · exact Below.refl _ _
                · exact IsOut
              refine ⟨fun u W hb hd K hK => ?_, ?_⟩
              · clear hd
                go_simp
                apply hK
                · simp only [Act.put, List.setIfInBounds_toArray, List.set_cons_zero, List.set_cons_succ]
                  exact rfl
                · exact Below.refl _ _
                · exact IsOut
              refine ⟨fun u W hb hd K hK => ?_, ?_⟩
              · simp only [Facts, nthR, Is, and_true] at hd
                simp only [hd] at hK ⊢
                clear hd
                go_simp
                apply hK
                · simp only [Act.put, List.setIfInBounds_toArray, List.set_cons_zero, List.set_cons_succ]
                  exact rfl
                · exact Below.refl _ _
                · exact IsOut
              refine ⟨fun u W hb hd K hK => ?_, ?_⟩
              · simp only [Facts, nthR, Is, and_true] at hd
                simp only [hd] at hK ⊢
                clear hd
                go_simp
                apply hK
                · simp only [Act.put, List.setIfInBounds_toArray, List.set_cons_zero, List.set_cons_succ]
                  exact rfl
                · exact Below.refl _ _
                · exact IsOut
              refine ⟨fun u W hb hd K hK => ?_, ?_⟩
              · simp only [Facts, nthR, Is, and_true] at hd
                simp only [hd] at hK ⊢
                clear hd
                go_simp
                apply hK
                · simp only [Act.put, List.setIfInBounds_toArray, List.set_cons_zero, List.set_cons_succ]
                  exact rfl
                · exact Below.refl _ _
                · exact IsOut
              refine ⟨fun u W hb hd K hK => ?_, ?_⟩
              · simp only [Facts, nthR, Is, and_true] at hd
                simp only [hd] at hK ⊢
                clear hd
                go_simp
                apply hK
                · simp only [Act.put, List.setIfInBounds_toArray, List.set_cons_zero, List.set_cons_succ]
                  exact rfl
                · exact Below.refl _ _
                · exact IsOut
              refine ⟨fun u W hb hd K hK => ?_, ?_⟩
              · simp only [Facts, nthR, Is, and_true] at hd
                simp only [hd] at hK ⊢
                clear hd
                go_simp
                apply hK
                · simp only [Act.put, List.setIfInBounds_toArray, List.set_cons_zero, List.set_cons_succ]
                  exact rfl
                · exact Below.refl _ _
                · exact IsOut
              refine ⟨fun u W hb hd K hK => ?_, ?_⟩
              · simp only [Facts, nthR, Is, and_true] at hd
                simp only [hd] at hK ⊢
                clear hd
                go_simp
                apply hK
                · simp only [Act.put, List.setIfInBounds_toArray, List.set_cons_zero, List.set_cons_succ]
                  exact rfl
                · exact Below.refl _ _
                · exact IsOut
              refine ⟨fun u W hb hd K hK => ?_, ?_⟩
              · simp only [Facts, nthR, Is, and_true] at hd
                simp only [hd] at hK ⊢
                clear hd
                go_simp
                apply hK
                · simp only [Act.put, List.setIfInBounds_toArray, List.set_cons_zero, List.set_cons_succ]
                  exact rfl
                · exact Below.refl _ _
                · exact IsOut
              exact trivial
            · skip
              exact trivial
            · exact (.is (.is (.is (.is (.is (.is (.is (.is (.is (.is (.is (.is (.is (.is (.is (.is (.is .nil)))))))))))))))))
            · intro u W hb hd
              simp only [List.drop_succ_cons, List.drop_zero]
              simp only [Facts, nthR, Is, and_true] at hd
              simp only [hd]
              clear hd
              replace hf := (hb.frozen (p := ⟨w.heap.size, q * 4 + 3, none⟩) hlB).trans hf
              replace hc0 := (hb.cell (p := ⟨w.heap.size, q * 4 + 3, none⟩) hlB).trans hc0
              replace hB := hB.below hb hlB
              replace hWw := hWw.below hb hlW
              replace hbl := hbl.trans (hb.mono hbl.size)
              clear hb hc
              go_wp2
              refine NoPanic.normal ?_
              go_wp2
              go_roundw
              case rel =>
                refine ⟨4, by omega, by rfl, ?_, hWw.far (show gw ≠ w.heap.size by omega) _, hbl.setCell (Nat.le_refl _) _⟩
                rw [show 4 = 3 + 1 from rfl, HE1.out, ← map_set32]
                exact hB.set_ _ _
              case measure => simp [intOf]
        · have hd : decide ((r : Int) < 4) = false := by simp; omega
          obtain rfl : r = 4 := by omega
          rw [← HE.out] at hB
          go_wp2
          go_roundw
          case rel => exact ⟨k + 1, by omega, by go_num, hB, hWw, hb⟩
          case measure => simp [intOf]; omega
    · have hd : decide ((k : Int) < (T : Int)) = false := by simp; omega
      obtain rfl : k = T := by omega
      rw [← HA.out] at hB
      go_wp2
      go_ret
      exact ⟨rfl, hB, hb⟩
end Go.Proofs.Ytefbjhdcmgonbaa
