/-
  The contract of mac.Derive.
-/
import Derived.Test.YtdjhempfpgcigaaDoorLabel
namespace Go.Proofs.YtdjhempfpgcigaaDoor
open Go.RowKit

/-- Label of 32 bytes, by a context of 32. -/
theorem label_32 (A : Option Addr) (key label context x : List UInt8) (w : World) (hk : key.length = 32) (hi : In w w.heap.size A 32 context) (hl : label.length ≤ 249) (hc : context.length = 32) (hx : x = expand key (labelInfo label context 32) 32) (ht : Tabs w) :
    Calls Tryd.prog 27 #[.agg (key.map B8).toArray, .string ⟨label.toArray⟩, .slice A 32 32, .int .i64 32] w fun e w' => ∃ g, e = .returned (.tuple #[.slice (some ⟨g, 0, none⟩) 32 32, .int .i64 0]) ∧ w.heap.size ≤ g ∧ Blk w' g 5 (x.map B8) ∧ Below w.heap.size w w' := by
  have := label_any A 32 32 key label context w hk hi hl (by omega) (by omega) ht
  rw [hc, ← hx] at this
  exact this

set_option maxRecDepth 100000 in
set_option maxHeartbeats 4000000 in
theorem derive_any (key label sum : List UInt8) (w : World) (hk : key.length = 32) (hs : sum.length = 32) (hl : label.length ≤ 249) (ht : Tabs w) :
    Calls Tryd.prog 26 #[.agg (key.map B8).toArray, .string ⟨label.toArray⟩, .agg (sum.map B8).toArray] w fun e w' => e = .returned (.agg ((expand key (labelInfo label sum 32) 32).map B8).toArray) ∧ Below w.heap.size w w' := by
  have HK := Lib.hid hk
  have HSS := Lib.hid hs
  have hxl := expand_length key (labelInfo label sum 32) 32
  obtain ⟨x, hx⟩ : ∃ x, x = expand key (labelInfo label sum 32) 32 := ⟨_, rfl⟩
  rw [← hx] at hxl ⊢
  have HXL := Lib.hid hxl
  have HX := Lib.hid hx
  clear hk hs hx hxl
  go_enter Tryd.func26, Tryd.ntmps26
  go_wp2
  have hK3 : Blk (((w.alloc (.cells (key.map B8).toArray 22)).alloc (.cells (sum.map B8).toArray 22)).alloc (.cells #[.int .u8 0, .int .u8 0, .int .u8 0, .int .u8 0, .int .u8 0, .int .u8 0, .int .u8 0, .int .u8 0, .int .u8 0, .int .u8 0, .int .u8 0, .int .u8 0, .int .u8 0, .int .u8 0, .int .u8 0, .int .u8 0, .int .u8 0, .int .u8 0, .int .u8 0, .int .u8 0, .int .u8 0, .int .u8 0, .int .u8 0, .int .u8 0, .int .u8 0, .int .u8 0, .int .u8 0, .int .u8 0, .int .u8 0, .int .u8 0, .int .u8 0, .int .u8 0] 22)) w.heap.size 22 (key.map B8) := ((Blk.new_of w _ _ _ rfl).alloc _).alloc _
  have hS3 : Blk (((w.alloc (.cells (key.map B8).toArray 22)).alloc (.cells (sum.map B8).toArray 22)).alloc (.cells #[.int .u8 0, .int .u8 0, .int .u8 0, .int .u8 0, .int .u8 0, .int .u8 0, .int .u8 0, .int .u8 0, .int .u8 0, .int .u8 0, .int .u8 0, .int .u8 0, .int .u8 0, .int .u8 0, .int .u8 0, .int .u8 0, .int .u8 0, .int .u8 0, .int .u8 0, .int .u8 0, .int .u8 0, .int .u8 0, .int .u8 0, .int .u8 0, .int .u8 0, .int .u8 0, .int .u8 0, .int .u8 0, .int .u8 0, .int .u8 0, .int .u8 0, .int .u8 0] 22)) (w.heap.size + 1) 22 (sum.map B8) := (Blk.new2_of w _ _ _ _ rfl).alloc _
  have hR3 : Blk (((w.alloc (.cells (key.map B8).toArray 22)).alloc (.cells (sum.map B8).toArray 22)).alloc (.cells #[.int .u8 0, .int .u8 0, .int .u8 0, .int .u8 0, .int .u8 0, .int .u8 0, .int .u8 0, .int .u8 0, .int .u8 0, .int .u8 0, .int .u8 0, .int .u8 0, .int .u8 0, .int .u8 0, .int .u8 0, .int .u8 0, .int .u8 0, .int .u8 0, .int .u8 0, .int .u8 0, .int .u8 0, .int .u8 0, .int .u8 0, .int .u8 0, .int .u8 0, .int .u8 0, .int .u8 0, .int .u8 0, .int .u8 0, .int .u8 0, .int .u8 0, .int .u8 0] 22)) (w.heap.size + 1 + 1) 22 ((List.replicate 32 (0 : UInt8)).map B8) := Blk.new3_of w _ _ _ _ _ (by rfl)
  have hb3 : Below w.heap.size w (((w.alloc (.cells (key.map B8).toArray 22)).alloc (.cells (sum.map B8).toArray 22)).alloc (.cells #[.int .u8 0, .int .u8 0, .int .u8 0, .int .u8 0, .int .u8 0, .int .u8 0, .int .u8 0, .int .u8 0, .int .u8 0, .int .u8 0, .int .u8 0, .int .u8 0, .int .u8 0, .int .u8 0, .int .u8 0, .int .u8 0, .int .u8 0, .int .u8 0, .int .u8 0, .int .u8 0, .int .u8 0, .int .u8 0, .int .u8 0, .int .u8 0, .int .u8 0, .int .u8 0, .int .u8 0, .int .u8 0, .int .u8 0, .int .u8 0, .int .u8 0, .int .u8 0] 22)) := (((Below.refl _ _).alloc (Nat.le_refl _) _).alloc (by simp) _).alloc (by simp; omega) _
  generalize (((w.alloc (.cells (key.map B8).toArray 22)).alloc (.cells (sum.map B8).toArray 22)).alloc (.cells #[.int .u8 0, .int .u8 0, .int .u8 0, .int .u8 0, .int .u8 0, .int .u8 0, .int .u8 0, .int .u8 0, .int .u8 0, .int .u8 0, .int .u8 0, .int .u8 0, .int .u8 0, .int .u8 0, .int .u8 0, .int .u8 0, .int .u8 0, .int .u8 0, .int .u8 0, .int .u8 0, .int .u8 0, .int .u8 0, .int .u8 0, .int .u8 0, .int .u8 0, .int .u8 0, .int .u8 0, .int .u8 0, .int .u8 0, .int .u8 0, .int .u8 0, .int .u8 0] 22)) = w3 at *
  have hlK := hK3.lt
  have hlS := hS3.lt
  have hlR := hR3.lt
  have HS0 := Lib.hid (show w3.drew.rangeAt w.heap.size 0 (key.map B8) ∧ Below w3.heap.size w3 w3.drew from ⟨rangeAt_of_blk hK3.drew, below_drewN (Below.refl _ _) 1⟩)
  have hin : In w3 w3.heap.size (some ⟨w.heap.size + 1, 0, none⟩) 32 sum := ⟨by rw [HSS.out]; exact Nat.le_refl _, by omega, fun _ => ⟨_, 0, rfl, hlS, fun j hj => by rw [Nat.zero_add]; exact hS3.at8 j hj⟩⟩
  have HL := Lib.hid (fun (W : World) (h : W.rangeAt w.heap.size 0 (key.map B8) ∧ Below w3.heap.size w3 W) => label_32 (some ⟨w.heap.size + 1, 0, none⟩) key label sum x W HK.out (hin.up h.2) hl HSS.out HX.out ((ht.below hb3).below h.2))
  have hu := Tryd.underlying22
  have hi32 : (Tryd.prog.info? 22).map (·.size) = some (key.map B8).length := info32.trans (by rw [List.length_map, HK.out])
  clear hK3 hS3 hin hl
  go_region_held3 (fun W => W.rangeAt w.heap.size 0 (key.map B8) ∧ Below w3.heap.size w3 W)
    (first
      | exact HS0.out
      | assumption
      | exact held_step hlK (by assumption) (by assumption))
    (first
      | (go_at_call 27; ((with_reducible refine (HL.out _ (by assumption)).mono ?_); rintro e w5 ⟨g, rfl, hg, hX, hb5⟩)))
  have hS := (by assumption : World.rangeAt w5 w.heap.size 0 (key.map B8) ∧ Below w3.heap.size w3 w5)
  have hR5 := hR3.below hS.2 hlR
  have hbw := hb3.trans (hS.2.mono hb3.size)
  clear hS
  have harr : ∀ W : World, (Instr.arrayAt 22 (.slice (some ⟨g, 0, none⟩) 32 32)).run Tryd.prog W = .ok (.pointer (some ⟨g, 0, none⟩)) W := fun W => by kernel_rfl
  go_wp2_with (first
    | ((with_reducible refine (?_ : wpList _ _ _ (Oper.mk (some 21) _ _ _ _ _ :: _) _ _)); go_loud (refine wpList_load_blk rfl 22 (.tmp 20) rfl g rfl 5 _ _ hX Tryd.underlying22 rfl (info32.trans (by rw [List.length_map, HXL.out])) ?_))
    | ((with_reducible refine (?_ : wpList _ _ _ (Oper.mk none (.store 22 _ _) _ _ _ _ :: _) _ _)); go_loud (refine wpList_store_blk rfl 22 (.tmp 6) (.tmp 21) rfl rfl (w.heap.size + 1 + 1) _ rfl rfl 22 _ hR5 (info32.trans (by rw [List.length_map, HXL.out])) (by rw [List.length_map, List.length_map, HXL.out]; rfl) (one8 _) ?_); intro w6 hR6 hg6))
  refine bodyPost_ret (v := .agg _) (results_cell_row rfl _ _ (w.heap.size + 1 + 1) 22 _ (0, 0) _ rfl hR6.raw Tryd.underlying22 rfl (info32.trans (by simp [HXL.out]))) rfl ⟨rfl, below_new hbw hg6 (by omega) hbw.size⟩
end Go.Proofs.YtdjhempfpgcigaaDoor
