import Derived.Test.YtdjhempfpgcigaaDoorPads
namespace Go.Proofs.YtdjhempfpgcigaaDoor
open Go.RowKit

set_option maxRecDepth 100000 in
set_option maxHeartbeats 1000000 in
theorem pads_long (A : Option Addr) (c B : Nat) (key : List UInt8) (w : World) (hB : B ≤ w.heap.size) (ik : In w B A c key) (hn : key.length < 549755813888) (hk : 64 < key.length) (ht : Tabs w) :
    Calls Tryd.prog 42 #[.slice A key.length c] w fun e w' => e = .returned (.tuple #[.agg ((xorTo 54 (padKey key) 64).map B8).toArray, .agg ((xorTo 92 (padKey key) 64).map B8).toArray]) ∧ Below w.heap.size w w' := by
  have hd : decide ((64 : Int) < (key.length : Int)) = true := by simp; omega
  have hP : ∀ X Y Z : Obj, ∀ g, ((((w.alloc X).alloc Y).alloc Z).alloc (.cells #[.slice A key.length c] 26)).heap.size ≤ g → Parts ((((w.alloc X).alloc Y).alloc Z).alloc (.cells #[.slice A key.length c] 26)) g (some ⟨w.heap.size + 1 + 1 + 1, 0, none⟩) [key] := fun X Y Z g hg => by
    have h := parts1 (w := ((w.alloc X).alloc Y).alloc Z) (g := g) 26 (ik.below ((((Below.refl B w).alloc hB X).alloc (by simp <;> omega) Y).alloc (by simp <;> omega) Z)) (by simp at hg ⊢; omega) (by simp at hg; omega)
    simpa only [size_alloc] using h
  have hT : ∀ X Y Z V : Obj, Tabs ((((w.alloc X).alloc Y).alloc Z).alloc V) := fun X Y Z V => ht.below (((((Below.refl _ w).alloc (Nat.le_refl _) X).alloc (by simp) Y).alloc (by simp <;> omega) Z).alloc (by simp <;> omega) V)
  have hsp := (splice_zeros (sha key)).trans (congrArg (List.map B8) (padKey_long key hk))
  have hsl := sha_length key
  have hpl := padKey_length key
  generalize padKey key = pk at *
  have HSP := Lib.hid hsp
  have HPL := Lib.hid hpl
  clear hsp hpl
  go_enter Tryd.func42, Tryd.ntmps42
  go_wp2_with fail
  refine (Of_any 1 _ [key] _ (by simpa using hn) (by simp) (by omega) (hP _ _ _) (hT _ _ _ _)).mono ?_
  rintro e w0 ⟨rfl, hb0⟩
  simp only [List.flatten_cons, List.flatten_nil, List.append_nil]
  have hI := (((((Blk.new_of w 55 _ ((List.replicate 64 (0 : UInt8)).map B8) (by rfl)).alloc _).alloc _).alloc _).below hb0 (by simp <;> omega))
  have hO := (((((Blk.new2_of w _ 55 _ ((List.replicate 64 (0 : UInt8)).map B8) (by rfl)).alloc _).alloc _).below hb0 (by simp <;> omega)))
  have hK := ((((Blk.new3_of w _ _ 55 _ ((List.replicate 64 (0 : UInt8)).map B8) (by rfl)).alloc _).below hb0 (by simp)))
  have hb := ((((((Below.refl w.heap.size w).alloc (Nat.le_refl _) _).alloc (by simp) _).alloc (by simp <;> omega) _).alloc (by simp <;> omega) _).trans (hb0.mono (by simp <;> omega)))
  have hz : w.heap.size + 1 + 1 + 1 < w0.heap.size := by have := hb0.size; simp at this; omega
  clear hP hT hb0 ik
  obtain ⟨ks, hks⟩ : ∃ ks, ks = sha key := ⟨_, rfl⟩
  rw [← hks] at HSP hsl ⊢
  clear hks
  have HKL := Lib.hid hsl
  clear hsl
  go_wp2_with (refine wpList_store_blk rfl 22 (.tmp 5) (.tmp 13) rfl rfl w0.heap.size _ rfl rfl 22 _ (Blk.new_of w0 22 _ ((List.replicate 32 (0 : UInt8)).map B8) (by rfl)) (info32.trans (by rw [List.length_map, HKL.out])) (by rw [List.length_map, List.length_map, HKL.out]; rfl) (one8 _) ?_; intro w1 hS hg1)
  replace hI := (hI.alloc _).grown hg1 (by simp <;> omega)
  replace hO := (hO.alloc _).grown hg1 (by simp <;> omega)
  replace hK := (hK.alloc _).grown hg1 (by simp <;> omega)
  replace hb := below_new (hb.alloc (by omega) _) hg1 (by omega) (by simp <;> omega)
  clear hg1
  have hr : Blk w1.drew (w.heap.size + 1 + 1) 55 ((List.replicate 64 (0 : UInt8)).map B8) := hK
  have hz : 0 < (ks.map B8).length → (some (⟨w.heap.size + 1 + 1, 0, none⟩ : Addr)) = some ⟨w.heap.size + 1 + 1, 0, none⟩ ∧ ∃ gb ob, (some (⟨w0.heap.size, 0, none⟩ : Addr)) = some ⟨gb, ob, none⟩ ∧ ∀ j v, (ks.map B8)[j]? = some v → w1.drew.cell? ⟨gb, ob + j, none⟩ = some v := fun _ => ⟨rfl, w0.heap.size, 0, rfl, rangeAt_of_blk hS.drew⟩
  have HZ := Lib.hid hz
  clear hz
  go_still_tail 2, (by kernel_rfl)
  change wpList _ _ _ _ _ w1.drew
  replace hI := hI.drew
  replace hO := hO.drew
  replace hb : Below w.heap.size w w1.drew := below_drewN hb 1
  generalize w1.drew = w1 at *
  go_wp2_with (first
    | ((with_reducible refine (?_ : wpList _ _ _ (Oper.mk (some 16) _ _ _ _ _ :: _) _ _)); go_loud (refine wpList_copy_blk rfl (.tmp 14) (.tmp 15) 26 26 rfl 5 Tryd.underlying26 info8 _ _ _ _ _ _ (by rfl) (by rfl) (w.heap.size + 1 + 1) 0 ((List.replicate 64 (0 : UInt8)).map B8) 55 hr (ks.map B8) (by rw [List.length_map, HKL.out]; rfl) HZ.out (by rw [List.length_map, List.length_map, HKL.out]; decide) (oneB8 _) ?_); intro w2 hK hg1; rw [HSP.out] at hK; replace hI := hI.grown hg1 (by simp <;> omega); replace hO := hO.grown hg1 (by simp <;> omega); replace hb := below_new hb hg1 (by omega) hb.size; clear hg1)
    | ((with_reducible refine (?_ : wpList _ _ _ (Oper.mk (some 20) _ _ _ _ _ :: _) _ _)); go_loud (refine wpList_load_blk rfl 55 (.tmp 4) rfl (w.heap.size + 1 + 1) rfl 55 _ _ hK Tryd.underlying55 rfl (info64b.trans (by rw [List.length_map, HPL.out])) ?_)))
  go_loopw [21] (fun i wr => ∃ k : Nat, k ≤ 64 ∧ i = .int .i64 k ∧ Blk wr w.heap.size 55 ((xorTo 54 pk k).map B8) ∧ Blk wr (w.heap.size + 1) 55 ((xorTo 92 pk k).map B8) ∧ Below w.heap.size w wr) (fun i _ => 64 - (intOf i).toNat)
  case atStart => exact ⟨0, by omega, rfl, hI, hO, hb⟩
  case round =>
    obtain ⟨k, hk, rfl, hI', hO', hb'⟩ := hrel
    clear hI hO hb hK
    by_cases hlt : k < 64
    · have hd2 : decide ((k : Int) < 64) = true := by simp; omega
      have hix := index_bytes 64 55 pk HPL.out Tryd.underlying55 k hlt
      obtain ⟨x, hx⟩ : ∃ x, x = pk.getD k 0 := ⟨_, rfl⟩
      rw [← hx] at hix
      have HX := Lib.hid hx
      clear hx
      have l1 := xorTo_length 54 pk k
      have l2 := xorTo_length 92 pk k
      have c0 := hI'.at8 k (by omega)
      have f0 := hI'.frozen k
      have c1 := hO'.at8 k (by omega)
      have f1 := hO'.frozen k
      have c2 := fun X => ((hO'.far (p := ⟨w.heap.size, k, none⟩) (by simp) X).at8 k (by omega))
      clear l1 l2
      go_wp2
      go_roundw
      case rel =>
        have e1 : xorTo 54 pk (k + 1) = (xorTo 54 pk k).set k (x ^^^ 54) := by rw [HX.out]; rfl
        have e2 : xorTo 92 pk (k + 1) = (xorTo 92 pk k).set k (x ^^^ 92) := by rw [HX.out]; rfl
        refine ⟨k + 1, by omega, by go_num, ?_, ?_, ?_⟩
        · rw [e1, b_xor54, b_xor92, ← map_set8]
          exact (hI'.set_ k _).far (by simp) _
        · rw [e2, b_xor54, b_xor92, ← map_set8]
          exact (hO'.far (by simp) _).set_ k _
        · exact (hb'.setCell (by simp) _).setCell (by simp) _
      case measure => simp [intOf]; omega
    · have hd2 : decide ((k : Int) < 64) = false := by simp; omega
      obtain rfl : k = 64 := by omega
      have l1 := xorTo_length 54 pk 64
      have l2 := xorTo_length 92 pk 64
      have h1 := oneB8 (xorTo 54 pk 64)
      have h2 := oneB8 (xorTo 92 pk 64)
      have hi1 : (Tryd.prog.info? 55).map (·.size) = some ((xorTo 54 pk 64).map B8).length := info64b.trans (by rw [List.length_map, l1])
      have hi2 : (Tryd.prog.info? 55).map (·.size) = some ((xorTo 92 pk 64).map B8).length := info64b.trans (by rw [List.length_map, l2])
      obtain ⟨z1, hz1⟩ : ∃ z, z = (xorTo 54 pk 64).map B8 := ⟨_, rfl⟩
      obtain ⟨z2, hz2⟩ : ∃ z, z = (xorTo 92 pk 64).map B8 := ⟨_, rfl⟩
      rw [← hz1] at hI' h1 hi1
      rw [← hz2] at hO' h2 hi2
      have HZ1 := Lib.hid hz1
      have HZ2 := Lib.hid hz2
      clear hz1 hz2 l1 l2
      go_wp2
      have hv1 : wr.drew.rangeAt w.heap.size 0 z1 := rangeAt_of_blk hI'.drew
      have hv2 : wr.drew.rangeAt (w.heap.size + 1) 0 z2 := rangeAt_of_blk hO'.drew
      have ht1 : wr.drew.there w.heap.size 0 z1.length := there_of_blk hI'.drew
      have ht2 : wr.drew.there (w.heap.size + 1) 0 z2.length := there_of_blk hO'.drew
      have hbd : Below w.heap.size w wr.drew := below_drewN hb' 1
      refine wp_region_held_drew (S := fun w' => (w'.rangeAt w.heap.size 0 z1 ∧ w'.rangeAt (w.heap.size + 1) 0 z2) ∧ (w'.there w.heap.size 0 z1.length ∧ w'.there (w.heap.size + 1) 0 z2.length) ∧ Below w.heap.size w w') (by kernel_rfl) ⟨⟨hv1, hv2⟩, ⟨ht1, ht2⟩, hbd⟩ (fun hHeld => ?_)
      refine' wpAnyH_take (i := 0) rfl (by kernel_rfl) (by kernel_rfl) (by kernel_rfl) (fun _ _ _ h => h) (yieldsIf_load_mid (by rfl) _ _ rfl w.heap.size 0 rfl z1 _ (fun w h => h.1.1) Tryd.underlying55 rfl hi1) hHeld ?_
      refine' wpAnyH_take (i := 1) rfl (by kernel_rfl) (by kernel_rfl) (by kernel_rfl) (fun _ _ _ h => h) (yieldsIf_load_mid (by rfl) _ _ rfl (w.heap.size + 1) 0 rfl z2 _ (fun w h => h.1.2) Tryd.underlying55 rfl hi2) hHeld ?_
      refine wpAnyH_ready (rs := [2]) (by kernel_rfl) (by simp) ?_
      refine AllReadyH.cons rfl (fun K hK => ?_) AllReadyH.nil
      rw [if_pos (by rfl)]
      refine wp_store_mid _ _ _ rfl w.heap.size 0 z1.toArray rfl rfl (by simpa using ht1) (by simpa using hi1) (all_oneCell_toArray h1) ?_
      refine hK.out _ _ ⟨⟨World.rangeAt_setCells_same _ _ _ _ ht1, World.rangeAt_setCells_apart hv2 _ _ _ (.inl (by simp))⟩, ⟨World.there_setCells ht1 _ _ _, World.there_setCells ht2 _ _ _⟩, below_setCells (Nat.le_refl _) _ _ _ _ hbd⟩ (fun hHeld => ?_)
      clear hK K
      generalize (wr.drew.setCells w.heap.size 0 z1.toArray.toList) = w2 at *
      clear hv1 hv2 ht1 ht2 hbd
      obtain ⟨⟨hv1, hv2⟩, ⟨ht1, ht2⟩, hbd⟩ := hHeld
      refine wpAnyH_ready (rs := [3]) (by kernel_rfl) (by simp) ?_
      refine AllReadyH.cons rfl (fun K hK => ?_) AllReadyH.nil
      rw [if_pos (by rfl)]
      refine wp_store_mid _ _ _ rfl (w.heap.size + 1) 0 z2.toArray rfl rfl (by simpa using ht2) (by simpa using hi2) (all_oneCell_toArray h2) ?_
      refine hK.out _ _ ⟨⟨World.rangeAt_setCells_apart hv1 _ _ _ (.inl (by simp)), World.rangeAt_setCells_same _ _ _ _ ht2⟩, ⟨World.there_setCells ht1 _ _ _, World.there_setCells ht2 _ _ _⟩, below_setCells (by omega) _ _ _ _ hbd⟩ (fun hHeld => ?_)
      clear hK K
      generalize (w2.setCells (w.heap.size + 1) 0 z2.toArray.toList) = w3 at *
      obtain ⟨⟨hv1, hv2⟩, _, hbd⟩ := hHeld
      refine wpAnyH_done (by kernel_rfl) ?_ _
      go_wp2
      refine bodyPost_ret (results_two rfl _ _ w.heap.size (w.heap.size + 1) 0 0 z1 z2 _ _ rfl rfl hv1 hv2 Tryd.underlying55 rfl hi1 Tryd.underlying55 rfl hi2) rfl ⟨by rw [HZ1.out, HZ2.out], hbd⟩

theorem pads_any (A : Option Addr) (c B : Nat) (key : List UInt8) (w : World) (hB : B ≤ w.heap.size) (ik : In w B A c key) (hn : key.length < 549755813888) (ht : Tabs w) :
    Calls Tryd.prog 42 #[.slice A key.length c] w fun e w' => e = .returned (.tuple #[.agg ((xorTo 54 (padKey key) 64).map B8).toArray, .agg ((xorTo 92 (padKey key) 64).map B8).toArray]) ∧ Below w.heap.size w w' := by
  by_cases hk : 64 < key.length
  · exact pads_long A c B key w hB ik hn hk ht
  · exact pads_short A c B key w hB ik (by omega)
end Go.Proofs.YtdjhempfpgcigaaDoor
