/-
  The contract of tollgatetop's stands.
-/
import Derived.Test.YtceenlmidlmmgaaDoorJd
namespace Go.Proofs.YtceenlmidlmmgaaDoor
open Go.RowKit

theorem sha_abc : sha [97, 98, 99] = [0xBA, 0x78, 0x16, 0xBF, 0x8F, 0x01, 0xCF, 0xEA, 0x41, 0x41, 0x40, 0xDE, 0x5D, 0xAE, 0x22, 0x23, 0xB0, 0x03, 0x61, 0xA3, 0x96, 0x17, 0x7A, 0x9C, 0xB4, 0x10, 0xFF, 0x61, 0xF2, 0x00, 0x15, 0xAD] := by decide +kernel
set_option maxRecDepth 100000 in
set_option maxHeartbeats 1000000 in
theorem stands_any (w : World) (ht : Tabs w) :
    Calls Tryd.prog 24 #[] w fun e w' => e = .returned (.bool true) ∧ Below w.heap.size w w' := by
  have kc := fun (w : World) (C : Array Value) (n c : Nat) => Lib.run_convert_bytes_const (P := Tryd.prog) w 24 5 C n c Tryd.underlying24 Tryd.underlying5
  have ht0 := ht.lt0
  have ht1 := ht.lt1
  go_enter Tryd.func24, Tryd.ntmps24
  go_wp2_with fail
  clear kc
  have hb0 : ∀ X : Obj, Below w.heap.size w (w.alloc X) := fun X => (Below.refl _ _).alloc (Nat.le_refl _) _
  have hB := Blk.new_of w 5 #[.int .u8 97, .int .u8 98, .int .u8 99] (([97, 98, 99] : List UInt8).map B8) rfl
  have hin : In (w.alloc (.cells #[.int .u8 97, .int .u8 98, .int .u8 99] 5 (3, 4))) (w.heap.size + 1) (some ⟨w.heap.size, 0, none⟩) 3 [97, 98, 99] := ⟨by decide, by decide, fun _ => ⟨w.heap.size, 0, rfl, Nat.lt_succ_self _, fun i hi => by
    refine (cell_of_row _ w.heap.size (0 + i) _ _ _ (heap_alloc_new w _)).trans ?_
    obtain rfl | rfl | rfl : i = 0 ∨ i = 1 ∨ i = 2 := by have : i < 3 := hi; omega
    · rfl
    · rfl
    · rfl⟩⟩
  refine (of_one (b := [97, 98, 99]) (B := w.heap.size + 1) rfl (by decide) (ht.below ((hb0 _).alloc (by simp) _)) (cell2 _ _ _ _) (hin.below ((Below.refl _ _).alloc (by simp) _)) (by simp)).mono ?_
  rintro e w1 ⟨rfl, hb1⟩
  have hb2 : Below w.heap.size w w1 := ((hb0 _).alloc (by simp) _).trans (hb1.mono (by simp; omega))
  clear hb1 hin hB hb0
  obtain ⟨X, hX⟩ : ∃ X, X = sha [97, 98, 99] := ⟨_, rfl⟩
  rw [← hX]
  have hl : X.length = 32 := by rw [hX]; exact sha_length _
  have x0 : X.getD 0 0 = 186 := by rw [hX, sha_abc]; rfl
  have x31 : X.getD 31 0 = 173 := by rw [hX, sha_abc]; rfl
  have HL := Lib.hid hl
  have X0 := Lib.hid x0
  have X31 := Lib.hid x31
  clear hX hl x0 x31
  go_wp2_with (refine wpList_store_blk rfl 22 (.tmp 1) (.tmp 5) rfl rfl w1.heap.size _ rfl rfl 22 ((List.replicate 32 (0 : UInt8)).map B8) (Blk.new_of w1 _ _ _ (by rfl)) (info32.trans (by rw [List.length_map, HL.out])) (by rw [List.length_map, List.length_map, HL.out]; rfl) (one8 _) ?_; intro w2 hs2 hg2; have c0 := hs2.at8 0 (by rw [HL.out]; decide); rw [X0.out] at c0; have c31 := hs2.at8 31 (by rw [HL.out]; decide); rw [X31.out] at c31)
  go_ret
  exact ⟨rfl, below_new (hb2.alloc hb2.size _) hg2 hb2.size (by have := hb2.size; simp; omega)⟩
end Go.Proofs.YtceenlmidlmmgaaDoor
