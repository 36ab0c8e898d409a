/-
  The contracts of Copy, Size and of the statements' own look at the sum of "abc".
-/
import Derived.Test.YtddfboomjcnpcaaDoorSum
import Derived.Lib.SlBytesConst
import Derived.Lib.SmallJoins
namespace Go.Proofs.YtddfboomjcnpcaaDoor
open Go.RowKit

theorem sha_abc : sha [97, 98, 99] = [0xBA, 0x78, 0x16, 0xBF, 0x8F, 0x01, 0xCF, 0xEA, 0x41, 0x41, 0x40, 0xDE, 0x5D, 0xAE, 0x22, 0x23, 0xB0, 0x03, 0x61, 0xA3, 0x96, 0x17, 0x7A, 0x9C, 0xB4, 0x10, 0xFF, 0x61, 0xF2, 0x00, 0x15, 0xAD] := by decide +kernel

set_option maxRecDepth 100000 in
set_option maxHeartbeats 600000 in
theorem Copy_any (g : Nat) (m : List UInt8) (w : World) (hh : HeldN w g 67 m) :
    Calls Tryd.prog 18 #[.pointer (some ⟨g, 0, none⟩)] w fun e w' => e = .returned (.pointer (some ⟨w.heap.size, 0, none⟩)) ∧ HeldN w' w.heap.size 67 m ∧ Below w.heap.size w w' := by
  obtain ⟨s, R, hR, hs, hm⟩ := hh
  have HR := Lib.hid hR
  go_enter Tryd.func18, Tryd.ntmps18
  go_wp2_with (first
    | (refine wpList_load_blk rfl 67 (.tmp 7) rfl g rfl _ _ _ hs Tryd.underlying67 rfl (infoSt.trans (by rw [stCells_length _ _ _ HR.out])) ?_)
    | (refine wpList_store_blk rfl 67 (.tmp 3) (.tmp 8) rfl rfl w.heap.size _ rfl rfl 67 (stCells zeroSt (List.replicate 64 0) 0) (Blk.new_of w _ _ _ (by rfl)) (infoSt.trans (by rw [stCells_length _ _ _ HR.out])) (by rw [stCells_length _ _ _ HR.out]; rfl) (st_one _ _ _) ?_; intro w1 hs1 hg1))
  go_ret
  exact ⟨rfl, ⟨s, R, hR, hs1, hm⟩, below_new ((Below.refl w.heap.size w).alloc (Nat.le_refl _) _) hg1 (Nat.le_refl _) (by simp)⟩
set_option maxRecDepth 100000 in
set_option maxHeartbeats 600000 in
theorem Size_any (g : Nat) (m : List UInt8) (w : World) (hn : m.length < 1099511627776) (hh : HeldN w g 67 m) :
    Calls Tryd.prog 17 #[.pointer (some ⟨g, 0, none⟩)] w fun e w' => e = .returned (.int .i64 (m.length : Int)) ∧ w = w' := by
  obtain ⟨s, R, hR, hs, hm⟩ := hh
  have c72 : w.cell? ⟨g, 72, none⟩ = some (.int .u64 (m.length : Int)) := (hs.cell 72).trans (stCells_72 s R m.length hR)
  go_enter Tryd.func17, Tryd.ntmps17
  go_wp2
  go_ret
  exact ⟨rfl, rfl⟩
set_option maxRecDepth 100000 in
set_option maxHeartbeats 600000 in
theorem sums_any (w : World) (ht : Tabs w) :
    Calls Tryd.prog 15 #[] w fun e w' => e = .returned (.bool true) ∧ Below w.heap.size w w' := by
  have kc := fun (w : World) (C : Array Value) (n c : Nat) => Lib.run_convert_bytes_const (P := Tryd.prog) w 27 5 C n c Tryd.underlying27 Tryd.underlying5
  have kc2 := fun (X : Obj) (C : Array Value) (n c : Nat) => Joins.run_convert_bytes_const_at (P := Tryd.prog) (w.alloc X) 27 5 C n c (w.heap.size + 1) (by simp) Tryd.underlying27 Tryd.underlying5
  have ht0 := ht.lt0
  have ht1 := ht.lt1
  go_enter Tryd.func15, Tryd.ntmps15
  go_wp2_with fail
  clear kc kc2
  have hP : ∀ g, w.heap.size + 1 + 1 + 1 ≤ g → Parts (((w.alloc (.cells #[.int .u8 97] 5 (1, 2))).alloc (.cells #[.int .u8 98, .int .u8 99] 5 (2, 3))).alloc (.cells #[.slice (some ⟨w.heap.size, 0, none⟩) 1 1, .slice none 0 0, .slice (some ⟨w.heap.size + 1, 0, none⟩) 2 2] 27)) g (some ⟨w.heap.size + 1 + 1, 0, none⟩) [[97], [], [98, 99]] := fun g hg _ => by
    refine ⟨w.heap.size + 1 + 1, 0, rfl, by omega, fun j hj => ?_⟩
    have hB := Blk.new3_of w (.cells #[.int .u8 97] 5 (1, 2)) (.cells #[.int .u8 98, .int .u8 99] 5 (2, 3)) 27 #[.slice (some ⟨w.heap.size, 0, none⟩) 1 1, .slice none 0 0, .slice (some ⟨w.heap.size + 1, 0, none⟩) 2 2] _ rfl
    obtain rfl | rfl | rfl : j = 0 ∨ j = 1 ∨ j = 2 := by have : j < 3 := hj; omega
    · refine ⟨_, 1, hB.cell 0, by decide, by decide, fun _ => ⟨w.heap.size, 0, rfl, by omega, fun i hi => ?_⟩⟩
      obtain rfl : i = 0 := by have : i < 1 := hi; omega
      rw [World.cell?_alloc_lt _ _ _ (by simp; omega), World.cell?_alloc_lt _ _ _ (by simp)]
      exact cell_of_row _ w.heap.size 0 _ _ _ (heap_alloc_new w _)
    · exact ⟨_, 0, hB.cell 1, by decide, by decide, fun h => absurd h (by decide)⟩
    · refine ⟨_, 2, hB.cell 2, by decide, by decide, fun _ => ⟨w.heap.size + 1, 0, rfl, by omega, fun i hi => ?_⟩⟩
      rw [World.cell?_alloc_lt _ _ _ (by simp)]
      rw [cell_of_row _ (w.heap.size + 1) (0 + i) _ _ _ (heap_alloc2_new w _ _)]
      obtain rfl | rfl : i = 0 ∨ i = 1 := by have : i < 2 := hi; omega
      · rfl
      · rfl
  refine (Of_any 3 _ [[97], [], [98, 99]] _ (by decide) (by decide) (by decide) ?_ ?_).mono ?_
  · intro g hg; exact hP g (by simpa using hg)
  · exact ht.below ((((Below.refl w.heap.size w).alloc (Nat.le_refl _) _).alloc (by simp) _).alloc (by simp; omega) _)
  rintro e w1 ⟨rfl, hb1⟩
  have e3 : ([[97], [], [98, 99]] : List (List UInt8)).flatten = [97, 98, 99] := rfl
  rw [e3]
  have hb2 : Below w.heap.size w w1 := ((((Below.refl w.heap.size w).alloc (Nat.le_refl _) _).alloc (by simp) _).alloc (by simp; omega) _).trans (hb1.mono (by simp; omega))
  clear hb1 hP e3
  obtain ⟨X, hX⟩ : ∃ X, X = sha [97, 98, 99] := ⟨_, rfl⟩
  rw [← hX]
  have hl : X.length = 32 := by rw [hX]; exact sha_length _
  have x0 : X.getD 0 0 = 186 := by rw [hX, sha_abc]; rfl
  have x1 : X.getD 1 0 = 120 := by rw [hX, sha_abc]; rfl
  have x31 : X.getD 31 0 = 173 := by rw [hX, sha_abc]; rfl
  have HL := Lib.hid hl
  have X0 := Lib.hid x0
  have X1 := Lib.hid x1
  have X31 := Lib.hid x31
  clear hX hl x0 x1 x31
  go_wp2_with (refine wpList_store_blk rfl 29 (.tmp 1) (.tmp 7) rfl rfl w1.heap.size _ rfl rfl 29 ((List.replicate 32 (0 : UInt8)).map B8) (Blk.new_of w1 _ _ _ (by rfl)) (info32.trans (by rw [List.length_map, HL.out])) (by rw [List.length_map, List.length_map, HL.out]; rfl) (one8 _) ?_; intro w2 hs2 hg2; have c0 := hs2.at8 0 (by rw [HL.out]; decide); rw [X0.out] at c0; have c1 := hs2.at8 1 (by rw [HL.out]; decide); rw [X1.out] at c1; have c31 := hs2.at8 31 (by rw [HL.out]; decide); rw [X31.out] at c31)
  go_ret
  exact ⟨rfl, below_new (hb2.alloc hb2.size _) hg2 hb2.size (by have := hb2.size; simp; omega)⟩
end Go.Proofs.YtddfboomjcnpcaaDoor
