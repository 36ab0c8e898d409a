/-
  The contract of one block's turn (MD5): the words of the state become what RFC 1321 says of them and the block; nothing else that was there turns.
-/
import Derived.Test.YtkiogpnjkmdmgaaDoorMd5
import Derived.Test.YtkiogpnjkmdmgaaDoorBits
import Derived.Test.YtkiogpnjkmdmgaaDoorMem
import Derived.Test.YtkiogpnjkmdmgaaDoorFree
import Derived.BigQuiet
import Derived.Deep.QuietTactic
import Derived.StillTailTactics
namespace Go.Proofs.YtkiogpnjkmdmgaaDoor
open Go.RowKit

/-- The two tables of package old hold what RFC 1321 says. -/
structure TabsQ (w : World) : Prop where
  sines : ∀ i, i < 64 → w.cell? ⟨2, i, none⟩ = some (.int .u32 (sineTab.getD i 0).toNat)
  shifts : ∀ i, i < 16 → w.cell? ⟨3, i, none⟩ = some (.int .i64 ((shiftTab.getD i 0 : Nat) : Int))
theorem TabsQ.keep {w w' : World} (h : TabsQ w) (k : ∀ p : Addr, p.block = 2 ∨ p.block = 3 → w'.cell? p = w.cell? p) : TabsQ w' :=
  ⟨fun i hi => (k _ (.inl rfl)).trans (h.sines i hi), fun i hi => (k _ (.inr rfl)).trans (h.shifts i hi)⟩
theorem TabsQ.lt0 {w : World} (h : TabsQ w) : 2 < w.heap.size := block_lt_of_cell (h.sines 0 (by omega))
theorem TabsQ.lt1 {w : World} (h : TabsQ w) : 3 < w.heap.size := block_lt_of_cell (h.shifts 0 (by omega))
theorem TabsQ.below {w w' : World} (h : TabsQ w) (hb : Below w.heap.size w w') : TabsQ w' :=
  h.keep fun p hp => hb.cell (by rcases hp with hp | hp <;> rw [hp]; exact h.lt0; exact h.lt1)
theorem TabsQ.drewN {w : World} (h : TabsQ w) (n : Nat) : TabsQ (w.drewN n) := ⟨h.sines, h.shifts⟩
theorem TabsQ.grown {w w' : World} {g : Nat} (h : TabsQ w) (hb : w.grownBy w' (some g)) (h0 : g ≠ 2) (h1 : g ≠ 3) : TabsQ w' :=
  h.keep fun p hp => World.cell?_of_block (hb.block p.block (by rcases hp with hp | hp <;> rw [hp]; exact h.lt0; exact h.lt1) (by rcases hp with hp | hp <;> rw [hp] <;> simp <;> omega))

theorem w_andnot (a b : UInt32) : bits .andNot .u32 (a.toNat : Int) (b.toNat : Int) = ((a &&& ~~~b).toNat : Int) := by
  rw [u32_andNot_nat _ _ (u32_lt a) (u32_lt b), UInt32.toNat_and, UInt32.toNat_not]
  rfl
set_option maxHeartbeats 400000 in
theorem step_any (i : Nat) (b c d : UInt32) (w : World) (hi : i < 64) :
    Calls Tryd.prog 45 #[.int .i64 i, .int .u32 b.toNat, .int .u32 c.toNat, .int .u32 d.toNat] w fun e w' => e = .returned (.tuple #[.int .u32 (mixOf i b c d).toNat, .int .i64 (atOf i : Int)]) ∧ w = w' := by
  have i0 : (0 : Int) ≤ (i : Int) := by omega
  have i1 : (i : Int) < 64 := by omega
  by_cases h1 : i < 16
  · have HM : Hid (mixOf i b c d = (b &&& c) ||| (~~~b &&& d)) := Lib.hid (by unfold mixOf; rw [if_pos h1])
    have HA : Hid (atOf i = i) := Lib.hid (by unfold atOf; rw [if_pos h1])
    have e0 : ((i : Int) / 16 == 0) = true := by simp; omega
    clear h1
    go_enter Tryd.func45, Tryd.ntmps45
    go_wp2
    go_ret2
    exact ⟨by rw [HM.out, HA.out]; first | rfl | (rw [w_not, w_and, w_and, w_or]; rfl), rfl⟩
  by_cases h2 : i < 32
  · have HM : Hid (mixOf i b c d = (b &&& d) ||| (c &&& ~~~d)) := Lib.hid (by unfold mixOf; rw [if_neg h1, if_pos h2])
    have HA : Hid (atOf i = (5 * i + 1) % 16) := Lib.hid (by unfold atOf; rw [if_neg h1, if_pos h2])
    have e0 : ((i : Int) / 16 == 0) = false := by simp; omega
    have e1 : ((i : Int) / 16 == 1) = true := by simp; omega
    clear h1 h2
    go_enter Tryd.func45, Tryd.ntmps45
    go_wp2
    go_ret2
    exact ⟨by rw [HM.out, HA.out, w_and, w_andnot, w_or]; rfl, rfl⟩
  by_cases h3 : i < 48
  · have HM : Hid (mixOf i b c d = (b ^^^ c) ^^^ d) := Lib.hid (by unfold mixOf; rw [if_neg h1, if_neg h2, if_pos h3])
    have HA : Hid (atOf i = (3 * i + 5) % 16) := Lib.hid (by unfold atOf; rw [if_neg h1, if_neg h2, if_pos h3])
    have e0 : ((i : Int) / 16 == 0) = false := by simp; omega
    have e1 : ((i : Int) / 16 == 1) = false := by simp; omega
    have e2 : ((i : Int) / 16 == 2) = true := by simp; omega
    clear h1 h2 h3
    go_enter Tryd.func45, Tryd.ntmps45
    go_wp2
    go_ret2
    exact ⟨by rw [HM.out, HA.out]; first | rfl | (rw [w_xor, w_xor]; rfl), rfl⟩
  · have HM : Hid (mixOf i b c d = c ^^^ (b ||| ~~~d)) := Lib.hid (by unfold mixOf; rw [if_neg h1, if_neg h2, if_neg h3])
    have HA : Hid (atOf i = 7 * i % 16) := Lib.hid (by unfold atOf; rw [if_neg h1, if_neg h2, if_neg h3])
    have e0 : ((i : Int) / 16 == 0) = false := by simp; omega
    have e1 : ((i : Int) / 16 == 1) = false := by simp; omega
    have e2 : ((i : Int) / 16 == 2) = false := by simp; omega
    clear h1 h2 h3
    go_enter Tryd.func45, Tryd.ntmps45
    go_wp2
    go_ret2
    exact ⟨by rw [HM.out, HA.out]; first | rfl | (rw [w_not, w_or, w_xor]; rfl), rfl⟩
/-- The words of a block, so many of them. -/
def xTo (b : List UInt8) : Nat → List UInt32
  | 0 => List.replicate 16 0
  | k + 1 => (xTo b k).set k (leWord b k)
theorem xTo_length (b : List UInt8) : ∀ k, (xTo b k).length = 16
  | 0 => by simp [xTo]
  | k + 1 => by rw [xTo, List.length_set]; exact xTo_length b k
theorem xTo_getD (b : List UInt8) : ∀ k, k ≤ 16 → ∀ j, j < k → (xTo b k).getD j 0 = leWord b j
  | 0, _, j, hj => absurd hj (by omega)
  | k + 1, hk, j, hj => by
    have hl := xTo_length b k
    rw [xTo, List.getD_eq_getElem?_getD, List.getElem?_set]
    by_cases h : k = j
    · subst h
      rw [if_pos rfl, if_pos (by omega)]; rfl
    · rw [if_neg h, ← List.getD_eq_getElem?_getD]
      exact xTo_getD b k (by omega) j (by omega)
theorem atOf_lt (i : Nat) (_ : i < 64) : atOf i < 16 := by unfold atOf; split <;> (try split) <;> (try split) <;> omega
theorem shift_range : ∀ j : Fin 16, 0 < shiftTab.getD j.val 0 ∧ shiftTab.getD j.val 0 < 32 ∧ bits .and .u64 (IntKind.u64.wrap ((shiftTab.getD j.val 0 : Nat) : Int)) 31 = ((shiftTab.getD j.val 0 : Nat) : Int) := by decide +kernel
theorem shift_ix_all : ∀ k : Fin 64, IntKind.i64.wrap (IntKind.i64.wrap (IntKind.i64.wrap ((k.val : Int) / 16) * 4) + (k.val : Int).tmod 4) = ((k.val / 16 * 4 + k.val % 4 : Nat) : Int) := by decide +kernel
theorem shift_ix (k : Nat) (hk : k < 64) : IntKind.i64.wrap (IntKind.i64.wrap (IntKind.i64.wrap ((k : Int) / 16) * 4) + (k : Int).tmod 4) = ((k / 16 * 4 + k % 4 : Nat) : Int) := shift_ix_all ⟨k, hk⟩
theorem le_eq (a b c d : UInt8) :
    bits .or .u32 (bits .or .u32 (bits .or .u32 ((a.toNat : Int) % 4294967296) ((b.toNat : Int) % 4294967296 * 256 % 4294967296)) ((c.toNat : Int) % 4294967296 * 65536 % 4294967296)) ((d.toNat : Int) % 4294967296 * 16777216 % 4294967296)
      = ((a.toUInt32 ||| (b.toUInt32 <<< 8) ||| (c.toUInt32 <<< 16) ||| (d.toUInt32 <<< 24)).toNat : Int) := by
  rw [u8_mod, u8_mod, u8_mod, u8_mod, w_shl24, w_shl16, w_shl8, w_or, w_or, w_or]
theorem leWord_eq (bs : List UInt8) (k : Nat) :
    bits .or .u32 (bits .or .u32 (bits .or .u32 (((bs[4 * k]?.getD 0).toNat : Int) % 4294967296) (((bs[4 * k + 1]?.getD 0).toNat : Int) % 4294967296 * 256 % 4294967296)) (((bs[4 * k + 2]?.getD 0).toNat : Int) % 4294967296 * 65536 % 4294967296)) (((bs[4 * k + 3]?.getD 0).toNat : Int) % 4294967296 * 16777216 % 4294967296)
      = ((leWord bs k).toNat : Int) := by
  rw [le_eq]; simp only [leWord, List.getD_eq_getElem?_getD]
set_option maxRecDepth 100000 in
set_option maxHeartbeats 2000000 in
theorem qturn_any (g gb ob cap : Nat) (t : TypeId) (s : Qd) (R : List Value) (bs : List UInt8) (w : World) (hl : bs.length = 64) (hcap : 64 ≤ cap) (hcm : cap ≤ 9223372036854775807)
    (hb : Bytes w gb ob bs) (hs : Blk w g t (s.vals ++ R)) (ht : TabsQ w) :
    Calls Tryd.prog 42 #[.pointer (some ⟨g, 0, none⟩), .slice (some ⟨gb, ob, none⟩) 64 cap] w fun e w' => e = .returned (.tuple #[]) ∧ Blk w' g t ((compQ s bs).vals ++ R) ∧ w.grownBy w' (some g) := by
  have hgb := hb.lt (by omega)
  have hgs := hs.lt
  go_enter Tryd.func42, Tryd.ntmps42
  go_wp2
  go_loopw [15] (fun i wr => ∃ k : Nat, k ≤ 16 ∧ i = .int .i64 k ∧ Blk wr w.heap.size 76 ((xTo bs k).map U32) ∧ Below w.heap.size w wr) (fun i _ => 16 - (intOf i).toNat)
  case atStart => exact ⟨0, by omega, rfl, Blk.new_of w _ _ _ (by rfl), (Below.refl _ _).alloc (Nat.le_refl _) _⟩
  case round =>
    obtain ⟨k, hk, rfl, hB, hbl⟩ := hrel
    by_cases hlt : k < 16
    · have hd : decide ((k : Int) < 16) = true := by simp; omega
      have HL : Hid (xTo bs (k + 1) = (xTo bs k).set k (leWord bs k)) := Lib.hid rfl
      have hb' := hb.below hbl hgb
      have lB := hB.lt
      have hX := fun (V : World) (h : Below wr.heap.size wr V) => (show V.cell? ⟨gb, ob + 4 * k, none⟩ = some (.int .u8 (bs.getD (4 * k) 0).toNat) ∧ V.cell? ⟨gb, ob + 4 * k + 1, none⟩ = some (.int .u8 (bs.getD (4 * k + 1) 0).toNat) ∧ V.cell? ⟨gb, ob + 4 * k + 2, none⟩ = some (.int .u8 (bs.getD (4 * k + 2) 0).toNat) ∧ V.cell? ⟨gb, ob + 4 * k + 3, none⟩ = some (.int .u8 (bs.getD (4 * k + 3) 0).toNat) from
        ⟨(hb'.below h (Nat.lt_of_lt_of_le hgb hbl.size)) (4 * k) (by omega), (hb'.below h (Nat.lt_of_lt_of_le hgb hbl.size)) (4 * k + 1) (by omega), (hb'.below h (Nat.lt_of_lt_of_le hgb hbl.size)) (4 * k + 2) (by omega), (hb'.below h (Nat.lt_of_lt_of_le hgb hbl.size)) (4 * k + 3) (by omega)⟩)
      have hk0 : (0 : Int) ≤ (k : Int) := by omega
      have hk1 : (k : Int) < 16 := by omega
      clear hb' hb
      go_wp2
      simp only [show 4 * k + 4 - 4 * k = 4 by omega]
      apply wp_region_once_tail (m := 24) (Z := []) (D := [[], [], [1], [1, 2], [1, 2, 3], [], [5], [5, 6], [5, 6, 7], [5, 6, 7, 8], [1, 2, 3, 4, 5, 6, 7, 8, 9], [], [11], [11, 12], [11, 12, 13], [11, 12, 13, 14], [1, 2, 3, 4, 5, 6, 7, 8, 9, 10, 11, 12, 13, 14, 15], [], [17], [17, 18], [17, 18, 19], [17, 18, 19, 20], [1, 2, 3, 4, 5, 6, 7, 8, 9, 10, 11, 12, 13, 14, 15, 16, 17, 18, 19, 20, 21], [0, 1, 2, 3, 4, 5, 6, 7, 8, 9, 10, 11, 12, 13, 14, 15, 16, 17, 18, 19, 20, 21, 22], [0, 1, 2, 3, 4, 5, 6, 7, 8, 9, 10, 11, 12, 13, 14, 15, 16, 17, 18, 19, 20, 21, 22, 23]]) (J := [[], [], [1], [2], [3], [], [5], [6], [7], [8], [4, 9], [], [11], [12], [13], [14], [10, 15], [], [17], [18], [19], [20], [16, 21], [0]]) (Je := [22, 23]) (Rs := [Is _, Is _, Is _, Is _, Is _, Is _, Is _, Is _, Is _, Is _, Is _, Is _, Is _, Is _, Is _, Is _, Is _, Is _, Is _, Is _, Is _, Is _, Is _, Is _])
      · kernel_rfl
      · kernel_rfl
      · kernel_rfl
      · kernel_rfl
      · kernel_rfl
      · kernel_rfl
      · kernel_rfl
      · exact fun h => absurd rfl h
      · intro u
        simp only [List.take_succ_cons, List.take_zero, List.map_cons, List.map_nil, fillU, List.setIfInBounds_toArray, List.set_cons_zero, List.set_cons_succ, Nat.zero_add, Nat.reduceAdd]
        exact rfl
      · simp only [List.take_succ_cons, List.take_zero]
        refine ⟨fun u W hb hd K hK => ?_, ?_⟩
        · clear hd
          go_simp
          apply hK
          · simp only [Act.put, List.setIfInBounds_toArray, List.set_cons_zero, List.set_cons_succ]
            exact rfl
          · exact Below.refl _ _
          · exact IsOut
        refine ⟨fun u W hb hd K hK => ?_, ?_⟩
        · clear hd
          go_simp
          apply hK
          · simp only [Act.put, List.setIfInBounds_toArray, List.set_cons_zero, List.set_cons_succ]
            exact rfl
          · exact Below.refl _ _
          · exact IsOut
        refine ⟨fun u W hb hd K hK => ?_, ?_⟩
        · simp only [Facts, nthR, Is, and_true] at hd
          simp only [hd] at hK ⊢
          clear hd
          go_simp
          apply hK
          · simp only [Act.put, List.setIfInBounds_toArray, List.set_cons_zero, List.set_cons_succ]
            exact rfl
          · exact Below.refl _ _
          · exact IsOut
        refine ⟨fun u W hb hd K hK => ?_, ?_⟩
        · simp only [Facts, nthR, Is, and_true] at hd
          simp only [hd] at hK ⊢
          clear hd
          go_simp
          apply hK
          · simp only [Act.put, List.setIfInBounds_toArray, List.set_cons_zero, List.set_cons_succ]
            exact rfl
          · exact Below.refl _ _
          · exact IsOut
        refine ⟨fun u W hb hd K hK => ?_, ?_⟩
        · simp only [Facts, nthR, Is, and_true] at hd
          simp only [hd] at hK ⊢
          clear hd
          go_simp
          apply hK
          · simp only [Act.put, List.setIfInBounds_toArray, List.set_cons_zero, List.set_cons_succ]
            exact rfl
          · exact Below.refl _ _
          · exact IsOut
        refine ⟨fun u W hb hd K hK => ?_, ?_⟩
        · clear hd
          go_simp
          apply hK
          · simp only [Act.put, List.setIfInBounds_toArray, List.set_cons_zero, List.set_cons_succ]
            exact rfl
          · exact Below.refl _ _
          · exact IsOut
        refine ⟨fun u W hb hd K hK => ?_, ?_⟩
        · simp only [Facts, nthR, Is, and_true] at hd
          simp only [hd] at hK ⊢
          clear hd
          go_simp
          apply hK
          · simp only [Act.put, List.setIfInBounds_toArray, List.set_cons_zero, List.set_cons_succ]
            exact rfl
          · exact Below.refl _ _
          · exact IsOut
        refine ⟨fun u W hb hd K hK => ?_, ?_⟩
        · simp only [Facts, nthR, Is, and_true] at hd
          simp only [hd] at hK ⊢
          clear hd
          go_simp
          apply hK
          · simp only [Act.put, List.setIfInBounds_toArray, List.set_cons_zero, List.set_cons_succ]
            exact rfl
          · exact Below.refl _ _
          · exact IsOut
        refine ⟨fun u W hb hd K hK => ?_, ?_⟩
        · simp only [Facts, nthR, Is, and_true] at hd
          simp only [hd] at hK ⊢
          clear hd
          go_simp
          apply hK
          · simp only [Act.put, List.setIfInBounds_toArray, List.set_cons_zero, List.set_cons_succ]
            exact rfl
          · exact Below.refl _ _
          · exact IsOut
        refine ⟨fun u W hb hd K hK => ?_, ?_⟩
        · simp only [Facts, nthR, Is, and_true] at hd
          simp only [hd] at hK ⊢
          clear hd
          go_simp
          apply hK
          · simp only [Act.put, List.setIfInBounds_toArray, List.set_cons_zero, List.set_cons_succ]
            exact rfl
          · exact Below.refl _ _
          · exact IsOut
        refine ⟨fun u W hb hd K hK => ?_, ?_⟩
        · simp only [Facts, nthR, Is, and_true] at hd
          simp only [hd] at hK ⊢
          clear hd
          go_simp
          apply hK
          · simp only [Act.put, List.setIfInBounds_toArray, List.set_cons_zero, List.set_cons_succ]
            exact rfl
          · exact Below.refl _ _
          · exact IsOut
        refine ⟨fun u W hb hd K hK => ?_, ?_⟩
        · clear hd
          go_simp
          apply hK
          · simp only [Act.put, List.setIfInBounds_toArray, List.set_cons_zero, List.set_cons_succ]
            exact rfl
          · exact Below.refl _ _
          · exact IsOut
        refine ⟨fun u W hb hd K hK => ?_, ?_⟩
        · simp only [Facts, nthR, Is, and_true] at hd
          simp only [hd] at hK ⊢
          clear hd
          go_simp
          apply hK
          · simp only [Act.put, List.setIfInBounds_toArray, List.set_cons_zero, List.set_cons_succ]
            exact rfl
          · exact Below.refl _ _
          · exact IsOut
        refine ⟨fun u W hb hd K hK => ?_, ?_⟩
        · simp only [Facts, nthR, Is, and_true] at hd
          simp only [hd] at hK ⊢
          clear hd
          go_simp
          apply hK
          · simp only [Act.put, List.setIfInBounds_toArray, List.set_cons_zero, List.set_cons_succ]
            exact rfl
          · exact Below.refl _ _
          · exact IsOut
        refine ⟨fun u W hb hd K hK => ?_, ?_⟩
        · simp only [Facts, nthR, Is, and_true] at hd
          simp only [hd] at hK ⊢
          clear hd
          go_simp
          apply hK
          · simp only [Act.put, List.setIfInBounds_toArray, List.set_cons_zero, List.set_cons_succ]
            exact rfl
          · exact Below.refl _ _
          · exact IsOut
        refine ⟨fun u W hb hd K hK => ?_, ?_⟩
        · simp only [Facts, nthR, Is, and_true] at hd
          simp only [hd] at hK ⊢
          clear hd
          go_simp
          apply hK
          · simp only [Act.put, List.setIfInBounds_toArray, List.set_cons_zero, List.set_cons_succ]
            exact rfl
          · exact Below.refl _ _
          · exact IsOut
        refine ⟨fun u W hb hd K hK => ?_, ?_⟩
        · simp only [Facts, nthR, Is, and_true] at hd
          simp only [hd] at hK ⊢
          clear hd
          go_simp
          apply hK
          · simp only [Act.put, List.setIfInBounds_toArray, List.set_cons_zero, List.set_cons_succ]
            exact rfl
          · exact Below.refl _ _
          · exact IsOut
        refine ⟨fun u W hb hd K hK => ?_, ?_⟩
        · clear hd
          go_simp
          apply hK
          · simp only [Act.put, List.setIfInBounds_toArray, List.set_cons_zero, List.set_cons_succ]
            exact rfl
          · exact Below.refl _ _
          · exact IsOut
        refine ⟨fun u W hb hd K hK => ?_, ?_⟩
        · simp only [Facts, nthR, Is, and_true] at hd
          simp only [hd] at hK ⊢
          clear hd
          go_simp
          apply hK
          · simp only [Act.put, List.setIfInBounds_toArray, List.set_cons_zero, List.set_cons_succ]
            exact rfl
          · exact Below.refl _ _
          · exact IsOut
        refine ⟨fun u W hb hd K hK => ?_, ?_⟩
        · simp only [Facts, nthR, Is, and_true] at hd
          simp only [hd] at hK ⊢
          clear hd
          go_simp
          apply hK
          · simp only [Act.put, List.setIfInBounds_toArray, List.set_cons_zero, List.set_cons_succ]
            exact rfl
          · exact Below.refl _ _
          · exact IsOut
        refine ⟨fun u W hb hd K hK => ?_, ?_⟩
        · simp only [Facts, nthR, Is, and_true] at hd
          simp only [hd] at hK ⊢
          clear hd
          go_simp
          apply hK
          · simp only [Act.put, List.setIfInBounds_toArray, List.set_cons_zero, List.set_cons_succ]
            exact rfl
          · exact Below.refl _ _
          · exact IsOut
        refine ⟨fun u W hb hd K hK => ?_, ?_⟩
        · simp only [Facts, nthR, Is, and_true] at hd
          simp only [hd] at hK ⊢
          clear hd
          go_simp
          apply hK
          · simp only [Act.put, List.setIfInBounds_toArray, List.set_cons_zero, List.set_cons_succ]
            exact rfl
          · exact Below.refl _ _
          · exact IsOut
        refine ⟨fun u W hb hd K hK => ?_, ?_⟩
        · simp only [Facts, nthR, Is, and_true] at hd
          simp only [hd] at hK ⊢
          clear hd
          go_simp
          apply hK
          · simp only [Act.put, List.setIfInBounds_toArray, List.set_cons_zero, List.set_cons_succ]
            exact rfl
          · exact Below.refl _ _
          · exact IsOut
        refine ⟨fun u W hb hd K hK => ?_, ?_⟩
        · simp only [Facts, nthR, Is, and_true] at hd
          simp only [hd] at hK ⊢
          clear hd
          go_simp
          apply hK
          · simp only [Act.put, List.setIfInBounds_toArray, List.set_cons_zero, List.set_cons_succ]
            exact rfl
          · exact Below.refl _ _
          · exact IsOut
        exact trivial
      · skip
        exact trivial
      · exact (.is (.is (.is (.is (.is (.is (.is (.is (.is (.is (.is (.is (.is (.is (.is (.is (.is (.is (.is (.is (.is (.is (.is (.is .nil))))))))))))))))))))))))
      · intro u W hb5 hd
        simp only [List.drop_succ_cons, List.drop_zero]
        simp only [Facts, nthR, Is, and_true] at hd
        simp only [hd]
        replace hB := hB.below hb5 lB
        replace hbl := hbl.trans (hb5.mono hbl.size)
        clear hX
        have cf := hB.frozen k
        have cw := hB.at32 k (by rw [xTo_length]; omega)
        go_wp2
        go_roundw
        case rel =>
          refine ⟨k + 1, by omega, by go_num, ?_, hbl.setCell (by simp) _⟩
          rw [HL.out, leWord_eq, ← map_set32]
          exact hB.set_ k _
        case measure => simp [intOf]; omega
    · have hd : decide ((k : Int) < 16) = false := by simp; omega
      have hk16 : k = 16 := by omega
      replace hB : Blk wr w.heap.size 76 ((xTo bs 16).map U32) := hk16 ▸ hB
      replace hs := hs.below hbl hgs
      replace ht := ht.below hbl
      clear hlt hk hb hk16
      have XG : ∀ j, j < 16 → (xTo bs 16).getD j 0 = leWord bs j := fun j hj => xTo_getD bs 16 (by omega) j hj
      have XL := xTo_length bs 16
      obtain ⟨X, hX⟩ : ∃ X, X = xTo bs 16 := ⟨_, rfl⟩
      rw [← hX] at hB XG XL
      have HXG := Lib.hid XG
      have HXL := Lib.hid XL
      clear hX XG XL
      have c0 : wr.cell? ⟨g, 0, none⟩ = some (.int .u32 s.a.toNat) := hs.cell 0
      have c1 : wr.cell? ⟨g, 1, none⟩ = some (.int .u32 s.b.toNat) := hs.cell 1
      have c2 : wr.cell? ⟨g, 2, none⟩ = some (.int .u32 s.c.toNat) := hs.cell 2
      have c3 : wr.cell? ⟨g, 3, none⟩ = some (.int .u32 s.d.toNat) := hs.cell 3
      go_wp2
      go_quiet (fail)
      replace hs := hs.drewN nq
      replace hB := hB.drewN nq
      replace ht := ht.drewN nq
      replace hbl := below_drewN hbl nq
      clear c0 c1 c2 c3
      obtain ⟨w3, hw3⟩ : ∃ w3, w3 = wr.drewN nq := ⟨_, rfl⟩
      rw [← hw3] at hs hB ht hbl ⊢
      clear hw3 nq
      go_wp2
      have lB := hB.lt
      go_loopw [7, 8, 9, 10, 70] (fun va vb vc vd i wr => ∃ (k : Nat) (q : Qd), k ≤ 64 ∧ i = .int .i64 k ∧ va = .int .u32 q.a.toNat ∧ vb = .int .u32 q.b.toNat ∧ vc = .int .u32 q.c.toNat ∧ vd = .int .u32 q.d.toNat ∧ Hid (q = stepsQ bs k s) ∧ Blk wr g t (s.vals ++ R) ∧ Blk wr w.heap.size 76 (X.map U32) ∧ TabsQ wr ∧ Below w.heap.size w wr)
        (fun _ _ _ _ i _ => 64 - (intOf i).toNat)
      case atStart => exact ⟨0, s, by omega, rfl, rfl, rfl, rfl, rfl, (show _ = _ from rfl), hs, hB, ht, hbl⟩
      case round =>
        obtain ⟨k, q, hk, rfl, rfl, rfl, rfl, rfl, HQ, hs, hB, ht, hbl⟩ := hrel
        by_cases hlk : k < 64
        · have hd : decide ((k : Int) < 64) = true := by simp; omega
          have hat := atOf_lt k hlk
          have LA := Lib.hid hat
          have hst := shift_range ⟨k / 16 * 4 + k % 4, by omega⟩
          have ls := hs.lt
          have lB := hB.lt
          have hT := fun (V : World) (h : Below wr.heap.size wr V) => (show V.cell? ⟨2, k, none⟩ = some (.int .u32 (sineTab.getD k 0).toNat) ∧ V.cell? ⟨3, k / 16 * 4 + k % 4, none⟩ = some (.int .i64 ((shiftOf k : Nat) : Int)) ∧ V.cell? ⟨w.heap.size, atOf k, none⟩ = some (.int .u32 (leWord bs (atOf k)).toNat) from
            ⟨(ht.below h).sines k hlk, (ht.below h).shifts (k / 16 * 4 + k % 4) (by omega), by rw [← HXG.out _ LA.out]; exact (hB.below h lB).at32 (atOf k) (by rw [HXL.out]; exact LA.out)⟩)
          have HST : Hid (0 < shiftOf k ∧ shiftOf k < 32 ∧ bits .and .u64 (IntKind.u64.wrap ((shiftOf k : Nat) : Int)) 31 = ((shiftOf k : Nat) : Int)) := Lib.hid hst
          have ha1 : ((atOf k : Nat) : Int) < 16 := by omega
          have HS : Hid (stepsQ bs (k + 1) s = ⟨q.d, q.b + rotl (shiftOf k) (q.a + mixOf k q.b q.c q.d + sineTab.getD k 0 + leWord bs (atOf k)), q.b, q.c⟩) := Lib.hid (by
            show stepQ bs k (stepsQ bs k s) = _
            rw [← HQ.out]; rfl)
          have b0 : (0 : Int) ≤ (k : Int) := by omega
          have b1 : (k : Int) < 64 := by omega
          clear hst hat
          go_wp2_with (go_at_call 45; refine (step_any k q.b q.c q.d _ hlk).mono ?_; rintro e w' ⟨rfl, rfl⟩)
          generalize mixOf k q.b q.c q.d = mx at *
          generalize leWord bs (atOf k) = wd at *
          generalize atOf k = at_ at *
          generalize shiftOf k = sh at *
          generalize sineTab.getD k 0 = sn at *
          have b5 := shift_ix k hlk
          have b2 : ((k / 16 * 4 + k % 4 : Nat) : Int) < 16 := by omega
          generalize k / 16 * 4 + k % 4 = jj at *
          have q1 := w_add q.a mx
          have q2 := w_add (q.a + mx) sn
          have q3 := w_add (q.a + mx + sn) wd
          have RO := fun W => rotl_any (q.a + mx + sn + wd) (sh : Int) sh W HST.out.1 HST.out.2.1 HST.out.2.2
          apply wp_region_once (D := [[], [], [0, 1], [], [3], [3, 4], [0, 1, 2, 3, 4, 5], [], [7], [7, 8], [0, 1, 2, 3, 4, 5, 6, 7, 8, 9], [], [11], [11, 12], [], [14], [11, 12, 13, 14, 15], [11, 12, 13, 14, 15, 16], [11, 12, 13, 14, 15, 16, 17], [0, 1, 2, 3, 4, 5, 6, 7, 8, 9, 10, 11, 12, 13, 14, 15, 16, 17, 18], [0, 1, 2, 3, 4, 5, 6, 7, 8, 9, 10, 11, 12, 13, 14, 15, 16, 17, 18, 19]]) (J := [[], [], [0, 1], [], [3], [4], [2, 5], [], [7], [8], [6, 9], [], [11], [12], [], [14], [13, 15], [16], [17], [10, 18], [19]]) (Je := [20]) (Rs := [Is _, Is _, Is _, Is _, Is _, Is _, Is _, Is _, Is _, Is _, Is _, Is _, Is _, Is _, Is _, Is _, Is _, Is _, Is _, Is _, Is _])
          · kernel_rfl
          · kernel_rfl
          · kernel_rfl
          · kernel_rfl
          · kernel_rfl
          · kernel_rfl
          · intro u
            simp only [List.map_cons, List.map_nil, fillU, List.setIfInBounds_toArray, List.set_cons_zero, List.set_cons_succ, Nat.zero_add, Nat.reduceAdd]
            exact rfl
          · skip
            refine ⟨fun u W hb hd K hK => ?_, ?_⟩
            · clear hd
              go_simp
              apply hK
              · simp only [Act.put, List.setIfInBounds_toArray, List.set_cons_zero, List.set_cons_succ]
                exact rfl
              · exact Below.refl _ _
              · exact IsOut
            refine ⟨fun u W hb hd K hK => ?_, ?_⟩
            · clear hd
              go_simp
              apply hK
              · simp only [Act.put, List.setIfInBounds_toArray, List.set_cons_zero, List.set_cons_succ]
                exact rfl
              · exact Below.refl _ _
              · exact IsOut
            refine ⟨fun u W hb hd K hK => ?_, ?_⟩
            · simp only [Facts, nthR, Is, and_true] at hd
              simp only [hd] at hK ⊢
              clear hd
              go_simp
              apply hK
              · simp only [Act.put, List.setIfInBounds_toArray, List.set_cons_zero, List.set_cons_succ]
                exact rfl
              · exact Below.refl _ _
              · exact IsOut
            refine ⟨fun u W hb hd K hK => ?_, ?_⟩
            · clear hd
              go_simp
              apply hK
              · simp only [Act.put, List.setIfInBounds_toArray, List.set_cons_zero, List.set_cons_succ]
                exact rfl
              · exact Below.refl _ _
              · exact IsOut
            refine ⟨fun u W hb hd K hK => ?_, ?_⟩
            · simp only [Facts, nthR, Is, and_true] at hd
              simp only [hd] at hK ⊢
              clear hd
              go_simp
              apply hK
              · simp only [Act.put, List.setIfInBounds_toArray, List.set_cons_zero, List.set_cons_succ]
                exact rfl
              · exact Below.refl _ _
              · exact IsOut
            refine ⟨fun u W hb hd K hK => ?_, ?_⟩
            · simp only [Facts, nthR, Is, and_true] at hd
              simp only [hd] at hK ⊢
              clear hd
              go_simp
              apply hK
              · simp only [Act.put, List.setIfInBounds_toArray, List.set_cons_zero, List.set_cons_succ]
                exact rfl
              · exact Below.refl _ _
              · exact IsOut
            refine ⟨fun u W hb hd K hK => ?_, ?_⟩
            · simp only [Facts, nthR, Is, and_true] at hd
              simp only [hd] at hK ⊢
              clear hd
              go_simp
              apply hK
              · simp only [Act.put, List.setIfInBounds_toArray, List.set_cons_zero, List.set_cons_succ]
                exact rfl
              · exact Below.refl _ _
              · exact IsOut
            refine ⟨fun u W hb hd K hK => ?_, ?_⟩
            · clear hd
              go_simp
              apply hK
              · simp only [Act.put, List.setIfInBounds_toArray, List.set_cons_zero, List.set_cons_succ]
                exact rfl
              · exact Below.refl _ _
              · exact IsOut
            refine ⟨fun u W hb hd K hK => ?_, ?_⟩
            · simp only [Facts, nthR, Is, and_true] at hd
              simp only [hd] at hK ⊢
              clear hd
              go_simp
              apply hK
              · simp only [Act.put, List.setIfInBounds_toArray, List.set_cons_zero, List.set_cons_succ]
                exact rfl
              · exact Below.refl _ _
              · exact IsOut
            refine ⟨fun u W hb hd K hK => ?_, ?_⟩
            · simp only [Facts, nthR, Is, and_true] at hd
              simp only [hd] at hK ⊢
              clear hd
              go_simp
              apply hK
              · simp only [Act.put, List.setIfInBounds_toArray, List.set_cons_zero, List.set_cons_succ]
                exact rfl
              · exact Below.refl _ _
              · exact IsOut
            refine ⟨fun u W hb hd K hK => ?_, ?_⟩
            · simp only [Facts, nthR, Is, and_true] at hd
              simp only [hd] at hK ⊢
              clear hd
              go_simp
              apply hK
              · simp only [Act.put, List.setIfInBounds_toArray, List.set_cons_zero, List.set_cons_succ]
                exact rfl
              · exact Below.refl _ _
              · exact IsOut
            refine ⟨fun u W hb hd K hK => ?_, ?_⟩
            · clear hd
              go_simp
              apply hK
              · simp only [Act.put, List.setIfInBounds_toArray, List.set_cons_zero, List.set_cons_succ]
                exact rfl
              · exact Below.refl _ _
              · exact IsOut
            refine ⟨fun u W hb hd K hK => ?_, ?_⟩
            · simp only [Facts, nthR, Is, and_true] at hd
              simp only [hd] at hK ⊢
              clear hd
              go_simp
              apply hK
              · simp only [Act.put, List.setIfInBounds_toArray, List.set_cons_zero, List.set_cons_succ]
                exact rfl
              · exact Below.refl _ _
              · exact IsOut
            refine ⟨fun u W hb hd K hK => ?_, ?_⟩
            · simp only [Facts, nthR, Is, and_true] at hd
              simp only [hd] at hK ⊢
              clear hd
              go_simp
              apply hK
              · simp only [Act.put, List.setIfInBounds_toArray, List.set_cons_zero, List.set_cons_succ]
                exact rfl
              · exact Below.refl _ _
              · exact IsOut
            refine ⟨fun u W hb hd K hK => ?_, ?_⟩
            · clear hd
              go_simp
              apply hK
              · simp only [Act.put, List.setIfInBounds_toArray, List.set_cons_zero, List.set_cons_succ]
                exact rfl
              · exact Below.refl _ _
              · exact IsOut
            refine ⟨fun u W hb hd K hK => ?_, ?_⟩
            · simp only [Facts, nthR, Is, and_true] at hd
              simp only [hd] at hK ⊢
              clear hd
              go_simp
              apply hK
              · simp only [Act.put, List.setIfInBounds_toArray, List.set_cons_zero, List.set_cons_succ]
                exact rfl
              · exact Below.refl _ _
              · exact IsOut
            refine ⟨fun u W hb hd K hK => ?_, ?_⟩
            · simp only [Facts, nthR, Is, and_true] at hd
              simp only [hd] at hK ⊢
              clear hd
              go_simp
              apply hK
              · simp only [Act.put, List.setIfInBounds_toArray, List.set_cons_zero, List.set_cons_succ]
                exact rfl
              · exact Below.refl _ _
              · exact IsOut
            refine ⟨fun u W hb hd K hK => ?_, ?_⟩
            · simp only [Facts, nthR, Is, and_true] at hd
              simp only [hd] at hK ⊢
              clear hd
              go_simp
              apply hK
              · simp only [Act.put, List.setIfInBounds_toArray, List.set_cons_zero, List.set_cons_succ]
                exact rfl
              · exact Below.refl _ _
              · exact IsOut
            refine ⟨fun u W hb hd K hK => ?_, ?_⟩
            · simp only [Facts, nthR, Is, and_true] at hd
              simp only [hd] at hK ⊢
              clear hd
              go_simp
              apply hK
              · simp only [Act.put, List.setIfInBounds_toArray, List.set_cons_zero, List.set_cons_succ]
                exact rfl
              · exact Below.refl _ _
              · exact IsOut
            refine ⟨fun u W hb hd K hK => ?_, ?_⟩
            · simp only [Facts, nthR, Is, and_true] at hd
              simp only [hd] at hK ⊢
              clear hd
              go_simp
              refine (RO W).mono ?_
              rintro e wy ⟨rfl, rfl⟩
              exact hK _ _ _ rfl (Below.refl _ _) IsOut
            refine ⟨fun u W hb hd K hK => ?_, ?_⟩
            · simp only [Facts, nthR, Is, and_true] at hd
              simp only [hd] at hK ⊢
              clear hd
              go_simp
              apply hK
              · simp only [Act.put, List.setIfInBounds_toArray, List.set_cons_zero, List.set_cons_succ]
                exact rfl
              · exact Below.refl _ _
              · exact IsOut
            exact trivial
          · exact (.is (.is (.is (.is (.is (.is (.is (.is (.is (.is (.is (.is (.is (.is (.is (.is (.is (.is (.is (.is (.is .nil)))))))))))))))))))))
          · intro u W hb hd
            simp only [Facts, nthR, Is, and_true] at hd
            simp only [hd]
            replace hs := hs.below hb ls
            replace hB := hB.below hb lB
            replace ht := ht.below hb
            replace hbl := hbl.trans (hb.mono hbl.size)
            clear hT hb q1 q2 q3 RO b2 b5
            have q4 := w_add q.b (rotl sh (q.a + mx + sn + wd))
            go_wp2
            go_roundw
            case rel => exact ⟨k + 1, _, by omega, by go_num, rfl, rfl, rfl, rfl, HS.out.symm, hs, hB, ht, hbl⟩
            case measure => simp [intOf]; omega
        · have hd : decide ((k : Int) < 64) = false := by simp; omega
          have hC : compQ s bs = addQ s q := by
            unfold compQ
            rw [HQ.out, show k = 64 by omega]
          have HC := Lib.hid hC
          have hg3 := grown_of_below hbl (some g)
          clear hC HQ hB ht hk hlk hbl HXG HXL
          go_wp2
          replace hs : Blk wr g t ([U32 s.a, U32 s.b, U32 s.c, U32 s.d] ++ R) := hs
          have c : wr.cell? ⟨g, 0, none⟩ = some (.int .u32 s.a.toNat) := hs.cell 0
          have f := hs.frozen 0
          go_still_tail 10, (by kernel_rfl)
          change wpList _ _ _ _ _ wr.drew
          go_wp2
          clear c f
          replace hs : Blk (wr.setCell ⟨g, 0, none⟩ (.int .u32 (((s.a.toNat : Int) + (q.a.toNat : Int)) % 4294967296))).drew g t (([U32 s.a, U32 s.b, U32 s.c, U32 s.d] ++ R).set 0 (.int .u32 (((s.a.toNat : Int) + (q.a.toNat : Int)) % 4294967296))) := (hs.set_ 0 _).drew
          replace hg3 := grown_drew (grown_setCell hg3 (p := ⟨g, 0, none⟩) (.inl rfl) (.int .u32 (((s.a.toNat : Int) + (q.a.toNat : Int)) % 4294967296)))
          generalize (wr.setCell ⟨g, 0, none⟩ (.int .u32 (((s.a.toNat : Int) + (q.a.toNat : Int)) % 4294967296))).drew = wr at *
          rw [w_add] at hs
          replace hs : Blk wr g t ([U32 (s.a + q.a), U32 s.b, U32 s.c, U32 s.d] ++ R) := hs
          have c : wr.cell? ⟨g, 1, none⟩ = some (.int .u32 s.b.toNat) := hs.cell 1
          have f := hs.frozen 1
          go_still_tail 10, (by kernel_rfl)
          change wpList _ _ _ _ _ wr.drew
          go_wp2
          clear c f
          replace hs : Blk (wr.setCell ⟨g, 1, none⟩ (.int .u32 (((s.b.toNat : Int) + (q.b.toNat : Int)) % 4294967296))).drew g t (([U32 (s.a + q.a), U32 s.b, U32 s.c, U32 s.d] ++ R).set 1 (.int .u32 (((s.b.toNat : Int) + (q.b.toNat : Int)) % 4294967296))) := (hs.set_ 1 _).drew
          replace hg3 := grown_drew (grown_setCell hg3 (p := ⟨g, 1, none⟩) (.inl rfl) (.int .u32 (((s.b.toNat : Int) + (q.b.toNat : Int)) % 4294967296)))
          generalize (wr.setCell ⟨g, 1, none⟩ (.int .u32 (((s.b.toNat : Int) + (q.b.toNat : Int)) % 4294967296))).drew = wr at *
          rw [w_add] at hs
          replace hs : Blk wr g t ([U32 (s.a + q.a), U32 (s.b + q.b), U32 s.c, U32 s.d] ++ R) := hs
          have c : wr.cell? ⟨g, 2, none⟩ = some (.int .u32 s.c.toNat) := hs.cell 2
          have f := hs.frozen 2
          go_still_tail 10, (by kernel_rfl)
          change wpList _ _ _ _ _ wr.drew
          go_wp2
          clear c f
          replace hs : Blk (wr.setCell ⟨g, 2, none⟩ (.int .u32 (((s.c.toNat : Int) + (q.c.toNat : Int)) % 4294967296))).drew g t (([U32 (s.a + q.a), U32 (s.b + q.b), U32 s.c, U32 s.d] ++ R).set 2 (.int .u32 (((s.c.toNat : Int) + (q.c.toNat : Int)) % 4294967296))) := (hs.set_ 2 _).drew
          replace hg3 := grown_drew (grown_setCell hg3 (p := ⟨g, 2, none⟩) (.inl rfl) (.int .u32 (((s.c.toNat : Int) + (q.c.toNat : Int)) % 4294967296)))
          generalize (wr.setCell ⟨g, 2, none⟩ (.int .u32 (((s.c.toNat : Int) + (q.c.toNat : Int)) % 4294967296))).drew = wr at *
          rw [w_add] at hs
          replace hs : Blk wr g t ([U32 (s.a + q.a), U32 (s.b + q.b), U32 (s.c + q.c), U32 s.d] ++ R) := hs
          have c : wr.cell? ⟨g, 3, none⟩ = some (.int .u32 s.d.toNat) := hs.cell 3
          have f := hs.frozen 3
          go_still_tail 10, (by kernel_rfl)
          change wpList _ _ _ _ _ wr.drew
          go_wp2
          clear c f
          replace hs : Blk (wr.setCell ⟨g, 3, none⟩ (.int .u32 (((s.d.toNat : Int) + (q.d.toNat : Int)) % 4294967296))).drew g t (([U32 (s.a + q.a), U32 (s.b + q.b), U32 (s.c + q.c), U32 s.d] ++ R).set 3 (.int .u32 (((s.d.toNat : Int) + (q.d.toNat : Int)) % 4294967296))) := (hs.set_ 3 _).drew
          replace hg3 := grown_drew (grown_setCell hg3 (p := ⟨g, 3, none⟩) (.inl rfl) (.int .u32 (((s.d.toNat : Int) + (q.d.toNat : Int)) % 4294967296)))
          generalize (wr.setCell ⟨g, 3, none⟩ (.int .u32 (((s.d.toNat : Int) + (q.d.toNat : Int)) % 4294967296))).drew = wr at *
          rw [w_add] at hs
          replace hs : Blk wr g t ([U32 (s.a + q.a), U32 (s.b + q.b), U32 (s.c + q.c), U32 (s.d + q.d)] ++ R) := hs
          go_end0
          exact ⟨rfl, by rw [HC.out]; exact hs, hg3⟩
end Go.Proofs.YtkiogpnjkmdmgaaDoor
