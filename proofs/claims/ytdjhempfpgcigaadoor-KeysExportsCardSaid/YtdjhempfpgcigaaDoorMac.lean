/-
  The contract of mac.Of: HMAC of all keys and parts.
-/
import Derived.Test.YtdjhempfpgcigaaDoorPadsL
namespace Go.Proofs.YtdjhempfpgcigaaDoor
open Go.RowKit

/-- A mark by a key. -/
def hmac (key m : List UInt8) : List UInt8 := sha (xorTo 92 (padKey key) 64 ++ sha (xorTo 54 (padKey key) 64 ++ m))
theorem hmac_length (key m : List UInt8) : (hmac key m).length = 32 := sha_length _

theorem In.of_blk {w : World} {g B : Nat} {t : TypeId} {xs : List UInt8} (h : Blk w g t (xs.map B8)) (hB : g < B) (hl : xs.length ≤ 9223372036854775807) : In w B (some ⟨g, 0, none⟩) xs.length xs :=
  ⟨Nat.le_refl _, hl, fun _ => ⟨g, 0, rfl, hB, fun j hj => by rw [Nat.zero_add]; exact h.at8 j hj⟩⟩
theorem In.weaken {w : World} {B B' : Nat} {A : Option Addr} {c : Nat} {xs : List UInt8} (h : In w B A c xs) (hB : B ≤ B') : In w B' A c xs :=
  ⟨h.1, h.2.1, fun h0 => by
    obtain ⟨gb, ob, e, hl, hby⟩ := h.2.2 h0
    exact ⟨gb, ob, e, by omega, hby⟩⟩

set_option maxRecDepth 100000 in
set_option maxHeartbeats 1000000 in
theorem macOf_any (A A' : Option Addr) (c c' B : Nat) (key : List UInt8) (ps : List (List UInt8)) (w : World) (hB : B ≤ w.heap.size) (ik : In w B A c key) (hn : key.length < 549755813888) (ht : Tabs w)
    (hps : ps.flatten.length < 549755813000) (hpc : ps.length ≤ c') (hcm : c' ≤ 9223372036854775807) (hA : ∀ g, w.heap.size ≤ g → Parts w g A' ps) :
    Calls Tryd.prog 30 #[.slice A key.length c, .slice A' ps.length c'] w fun e w' => e = .returned (.agg ((hmac key ps.flatten).map B8).toArray) ∧ Below w.heap.size w w' := by
  have ht0 := ht.lt0
  have ht1 := ht.lt1
  go_enter Tryd.func30, Tryd.ntmps30
  go_wp2_with fail
  refine (pads_any A c B key _ (by simp <;> omega) (ik.below ((Below.refl _ _).alloc hB _)) hn (ht.below ((Below.refl _ _).alloc (Nat.le_refl _) _))).mono ?_
  rintro e w1 ⟨rfl, hb1⟩
  have hR1 := (Blk.new_of w 22 _ ((List.replicate 32 (0 : UInt8)).map B8) (by rfl)).below hb1 (by simp)
  replace hb1 := ((Below.refl w.heap.size w).alloc (Nat.le_refl _) _).trans (hb1.mono (by simp))
  have hz1 : w.heap.size < w1.heap.size := hR1.lt
  have hl1 := xorTo_length 54 (padKey key) 64
  have hl2 := xorTo_length 92 (padKey key) 64
  have hm : hmac key ps.flatten = sha (xorTo 92 (padKey key) 64 ++ sha (xorTo 54 (padKey key) 64 ++ ps.flatten)) := rfl
  obtain ⟨mk, hmk0⟩ : ∃ mk, mk = hmac key ps.flatten := ⟨_, rfl⟩
  rw [← hmk0] at hm
  have HMK := Lib.hid hmk0
  clear hmk0
  generalize xorTo 54 (padKey key) 64 = xi at *
  generalize xorTo 92 (padKey key) 64 = xo at *
  have HL1 := Lib.hid hl1
  have HL2 := Lib.hid hl2
  have HM := Lib.hid hm
  clear hl1 hl2 hm
  go_wp2_with (first
    | (refine wpList_store_blk rfl 55 (.tmp 5) (.tmp 12) rfl rfl w1.heap.size _ rfl rfl 55 _ ((Blk.new_of w1 55 _ ((List.replicate 64 (0 : UInt8)).map B8) (by rfl)).alloc _) (info64b.trans (by rw [List.length_map, HL1.out])) (by rw [List.length_map, List.length_map, HL1.out]; rfl) (one8 _) ?_; intro w2 hI2 hg2; have hO2 := (Blk.new2_of w1 _ 55 _ ((List.replicate 64 (0 : UInt8)).map B8) (by rfl)).grown hg2 (by simp); have hb2 := below_new ((hb1.alloc (by omega) _).alloc (by simp <;> omega) _) hg2 (by omega) (by simp; omega); have hR2 := ((hR1.alloc _).alloc _).grown hg2 (by simp <;> omega); clear hg2)
    | (refine wpList_store_blk rfl 55 (.tmp 6) (.tmp 13) rfl rfl (w1.heap.size + 1) _ rfl rfl 55 _ hO2 (info64b.trans (by rw [List.length_map, HL2.out])) (by rw [List.length_map, List.length_map, HL2.out]; rfl) (one8 _) ?_; intro w3 hO3 hg3; have hI3 := hI2.grown hg3 (by simp); have hb3 := below_new hb2 hg3 (by omega) (hb2.size); have hR3 := hR2.grown hg3 (by simp <;> omega); clear hg3 hI2 hO2 hb2 hR2))
  have hz3 : w1.heap.size + 1 < w3.heap.size := hO3.lt
  refine (new_any _).mono ?_
  rintro e w4 ⟨rfl, hs4, hb4⟩
  have hI4 := hI3.below hb4 (by omega)
  have hO4 := hO3.below hb4 (by omega)
  have hR4 := hR3.below hb4 (by omega)
  replace hb4 := hb3.trans (hb4.mono hb3.size)
  obtain ⟨G, hG⟩ : ∃ G, G = w3.heap.size := ⟨_, rfl⟩
  rw [← hG] at hs4 hz3 ⊢
  clear hG hI3 hO3 hR3 hb3
  have hs := HeldN.new hs4
  have hl4 := hs.lt
  clear hs4
  have hP4 : Parts (w4.alloc (.cells #[.slice (some ⟨w1.heap.size, 0, none⟩) 64 64] 26)) G (some ⟨w4.heap.size, 0, none⟩) [xi] := by
    have h := parts1 (w := w4) (B := G) (g := G) 26 (In.of_blk (B := G) hI4 (by omega) (by rw [HL1.out]; omega)) (by omega) (Nat.le_refl _)
    rwa [HL1.out] at h
  have hT4 : Tabs (w4.alloc (.cells #[.slice (some ⟨w1.heap.size, 0, none⟩) 64 64] 26)) := (ht.below hb4).below ((Below.refl _ _).alloc (Nat.le_refl _) _)
  have hPA := (hA G (by omega))
  go_wp2_with fail
  refine (Put_any G 1 _ [] [xi] _ (by simp; rw [HL1.out]; omega) (by simp) (by omega) hP4 (hs.alloc _) hT4 (by omega) (by omega)).mono ?_
  rintro e w5 ⟨rfl, hg5, hh5⟩
  have hO5 := (hO4.alloc _).grown hg5 (by simp <;> omega)
  have hR5 := (hR4.alloc _).grown hg5 (by simp <;> omega)
  have hb5 := below_new (hb4.alloc hb4.size _) hg5 (by omega) (by simp; omega)
  replace hs := HeldN.of_held hh5
  simp only [List.flatten_cons, List.flatten_nil, List.append_nil, List.nil_append] at hs
  have hl5 := hs.lt
  clear hg5 hh5 hP4 hT4 hO4 hR4 hI4 hb4 hl4
  go_wp2_with fail
  refine (Put_any G c' A' xi ps _ (by rw [HL1.out]; omega) hpc hcm (hPA.keep (grown_of_below hb5 _)) hs (ht.below hb5) (by omega) (by omega)).mono ?_
  rintro e w6 ⟨rfl, hg6, hh6⟩
  have hO6 := hO5.grown hg6 (by simp <;> omega)
  have hR6 := hR5.grown hg6 (by simp <;> omega)
  have hb6 := below_new hb5 hg6 (by omega) hb5.size
  replace hs := HeldN.of_held hh6
  have hl6 := hs.lt
  clear hg6 hh6 hO5 hR5 hb5 hl5 hPA hA
  go_wp2_with fail
  refine (Sum_held G _ _ (by rw [List.length_append, HL1.out]; omega) hs (ht.below hb6)).mono ?_
  rintro e w7 ⟨rfl, hb7⟩
  have hO7 := hO6.below hb7 (by omega)
  have hR7 := hR6.below hb7 (by omega)
  have hz7 := (hs.below hb7).lt
  replace hb7 := hb6.trans (hb7.mono hb6.size)
  clear hO6 hR6 hb6 hs
  have hsl := sha_length (xi ++ ps.flatten)
  obtain ⟨y, hy⟩ : ∃ y, y = sha (xi ++ ps.flatten) := ⟨_, rfl⟩
  rw [← hy] at hsl ⊢
  have HY := Lib.hid hy
  have HYL := Lib.hid hsl
  clear hy hsl
  go_wp2_with (refine wpList_store_blk rfl 22 (.tmp 8) (.tmp 23) rfl rfl w7.heap.size _ rfl rfl 22 _ (Blk.new_of w7 22 _ ((List.replicate 32 (0 : UInt8)).map B8) (by rfl)) (info32.trans (by rw [List.length_map, HYL.out])) (by rw [List.length_map, List.length_map, HYL.out]; rfl) (one8 _) ?_; intro w8 hS8 hg8)
  have hO8 := (hO7.alloc _).grown hg8 (by simp <;> omega)
  have hR8 := (hR7.alloc _).grown hg8 (by simp <;> omega)
  have hb8 := below_new (hb7.alloc hb7.size _) hg8 (by omega) (by simp <;> omega)
  have hz8 : w7.heap.size < w8.heap.size := hS8.lt
  clear hg8 hO7 hR7 hb7
  go_still_tail 2, (by kernel_rfl)
  change wpList _ _ _ _ _ w8.drew
  replace hO8 := hO8.drew
  replace hR8 := hR8.drew
  replace hS8 := hS8.drew
  replace hb8 : Below w.heap.size w w8.drew := below_drewN hb8 1
  replace hz8 : w7.heap.size < w8.drew.heap.size := hz8
  generalize w8.drew = w8 at *
  have hP8 : ∀ g, (w8.alloc (.cells #[.slice (some ⟨w1.heap.size + 1, 0, none⟩) 64 64, .slice (some ⟨w7.heap.size, 0, none⟩) 32 32] 26)).heap.size ≤ g → Parts (w8.alloc (.cells #[.slice (some ⟨w1.heap.size + 1, 0, none⟩) 64 64, .slice (some ⟨w7.heap.size, 0, none⟩) 32 32] 26)) g (some ⟨w8.heap.size, 0, none⟩) [xo, y] := fun g hg => by
    rw [size_alloc] at hg
    have h := parts2 (w := w8) (B := g) (g := g) 26 (In.of_blk (B := g) hO8 (by omega) (by rw [HL2.out]; omega)) (In.of_blk (B := g) hS8 (by omega) (by rw [HYL.out]; omega)) (by omega) (Nat.le_refl _)
    rwa [HL2.out, HYL.out] at h
  have hT8 : Tabs (w8.alloc (.cells #[.slice (some ⟨w1.heap.size + 1, 0, none⟩) 64 64, .slice (some ⟨w7.heap.size, 0, none⟩) 32 32] 26)) := (ht.below hb8).below ((Below.refl _ _).alloc (Nat.le_refl _) _)
  go_wp2_with fail
  refine (Of_any 2 _ [xo, y] _ (by simp [HL2.out, HYL.out]) (by simp) (by omega) hP8 hT8).mono ?_
  rintro e w9 ⟨rfl, hb9⟩
  have hR9 := (hR8.alloc _).below hb9 (by simp <;> omega)
  have hb9' := (hb8.alloc hb8.size _).trans (hb9.mono (by simp <;> omega))
  have hmk : sha ([xo, y].flatten) = mk := by rw [HM.out, HY.out]; simp
  rw [hmk]
  have hml : mk.length = 32 := by rw [← hmk]; exact sha_length _
  go_wp2_with (refine wpList_store_blk rfl 22 (.tmp 4) (.tmp 27) rfl rfl w.heap.size _ rfl rfl 22 _ hR9 (info32.trans (by rw [List.length_map, hml])) (by rw [List.length_map, List.length_map, hml]; rfl) (one8 _) ?_; intro w10 hR10 hg10)
  refine bodyPost_ret (v := .agg _) (results_cell_row rfl _ _ w.heap.size 22 _ (0, 0) _ rfl hR10.raw Tryd.underlying22 rfl (info32.trans (by simp [hml]))) rfl ⟨by rw [HMK.out], below_new hb9' hg10 (Nat.le_refl _) hb9'.size⟩
end Go.Proofs.YtdjhempfpgcigaaDoor
