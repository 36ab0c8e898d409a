/-
  Joined: QPads, QMac, QFrame.
-/
import Derived.Test.YtbomckbekcaemaaDoorWc
import Derived.Test.YtbomckbekcaemaaDoorWb
import Derived.Test.YtbomckbekcaemaaDoorWa
namespace Go.Proofs.YtbomckbekcaemaaDoor
section
open Go.RowKit
/-- A key as one block: its old sum, if it has more than 64 bytes; filled up with noughts. -/
def padKeyQ (key : List UInt8) : List UInt8 :=
  let k := if 64 < key.length then md5 key else key
  k ++ List.replicate (64 - k.length) 0
theorem padKeyQ_length (key : List UInt8) : (padKeyQ key).length = 64 := by
  unfold padKeyQ
  by_cases h : 64 < key.length
  · simp [h, md5_length]
  · simp [h]; omega
theorem padKeyQ_short (key : List UInt8) (h : key.length ≤ 64) : key ++ List.replicate (64 - key.length) 0 = padKeyQ key := by
  simp [padKeyQ, show ¬ 64 < key.length by omega]
theorem padKeyQ_long (key : List UInt8) (h : 64 < key.length) : md5 key ++ List.replicate (64 - (md5 key).length) 0 = padKeyQ key := by
  simp [padKeyQ, h]

set_option maxRecDepth 100000 in
set_option maxHeartbeats 1000000 in
theorem qpads_short (A : Option Addr) (c B : Nat) (key : List UInt8) (w : World) (hB : B ≤ w.heap.size) (ik : In w B A c key) (hk : key.length ≤ 64) :
    Calls Tryd.prog 85 #[.slice A key.length c] w fun e w' => e = .returned (.tuple #[.agg ((xorTo 54 (padKeyQ key) 64).map B8).toArray, .agg ((xorTo 92 (padKeyQ key) 64).map B8).toArray]) ∧ Below w.heap.size w w' := by
  have hd : decide ((64 : Int) < (key.length : Int)) = false := by simp; omega
  have hsrc0 : ∀ X Y Z : Obj, Src (((w.alloc X).alloc Y).alloc Z) (w.heap.size + 1 + 1) A key := fun X Y Z => ((((ik.src (show B ≤ w.heap.size + 1 + 1 by omega)).alloc X).alloc Y).alloc Z)
  have HP : Hid (∀ X Y Z : Obj, 0 < (key.map B8).length → ∃ gb ob, A = some ⟨gb, ob, none⟩ ∧ ∀ j v, (key.map B8)[j]? = some v → (((w.alloc X).alloc Y).alloc Z).cell? ⟨gb, ob + j, none⟩ = some v) := fun X Y Z hp => (Src.cells (x := ⟨0, 0, none⟩) (hsrc0 X Y Z) hp).2
  have hsp := (splice_zeros key).trans (congrArg (List.map B8) (padKeyQ_short key hk))
  have hpl := padKeyQ_length key
  generalize padKeyQ key = pk at *
  have HSP := Lib.hid hsp
  have HPL := Lib.hid hpl
  clear hsp hpl hsrc0
  go_enter Tryd.func85, Tryd.ntmps85
  go_wp2_with (first
    | ((with_reducible refine (?_ : wpList _ _ _ (Oper.mk (some 19) _ _ _ _ _ :: _) _ _)); go_loud (refine wpList_copy_blk rfl (.tmp 17) (.tmp 18) 26 26 rfl 5 Tryd.underlying26 info8 _ _ _ _ _ _ (by rfl) (by rfl) (w.heap.size + 1 + 1) 0 ((List.replicate 64 (0 : UInt8)).map B8) 131 (Blk.new3_of w _ _ _ _ _ (by rfl)) (key.map B8) (by rw [List.length_map]; exact (Nat.min_eq_left (by omega)).symm) (fun hp => ⟨rfl, HP.out _ _ _ hp⟩) (by simp; omega) (oneB8 _) ?_); intro w1 hK hg1; rw [HSP.out] at hK;
        have hI : Blk w1 w.heap.size 131 ((xorTo 54 pk 0).map B8) := (((Blk.new_of w 131 _ ((List.replicate 64 (0 : UInt8)).map B8) (by rfl)).alloc _).alloc _).grown hg1 (by simp; omega);
        have hO : Blk w1 (w.heap.size + 1) 131 ((xorTo 92 pk 0).map B8) := ((Blk.new2_of w _ 131 _ ((List.replicate 64 (0 : UInt8)).map B8) (by rfl)).alloc _).grown hg1 (by simp);
        have hb : Below w.heap.size w w1 := below_new ((((Below.refl w.heap.size w).alloc (Nat.le_refl _) _).alloc (by simp) _).alloc (by simp; omega) _) hg1 (by omega) (by simp; omega);
        clear hg1 HP)
    | ((with_reducible refine (?_ : wpList _ _ _ (Oper.mk (some 20) _ _ _ _ _ :: _) _ _)); go_loud (refine wpList_load_blk rfl 131 (.tmp 4) rfl (w.heap.size + 1 + 1) rfl 131 _ _ hK Tryd.underlying131 rfl (info64b.trans (by rw [List.length_map, HPL.out])) ?_)))
  go_loopw [21] (fun i wr => ∃ k : Nat, k ≤ 64 ∧ i = .int .i64 k ∧ Blk wr w.heap.size 131 ((xorTo 54 pk k).map B8) ∧ Blk wr (w.heap.size + 1) 131 ((xorTo 92 pk k).map B8) ∧ Below w.heap.size w wr) (fun i _ => 64 - (intOf i).toNat)
  case atStart => exact ⟨0, by omega, rfl, hI, hO, hb⟩
  case round =>
    obtain ⟨k, hk, rfl, hI', hO', hb'⟩ := hrel
    clear hI hO hb hK
    by_cases hlt : k < 64
    · have hd2 : decide ((k : Int) < 64) = true := by simp; omega
      have hix := index_bytes 64 131 pk HPL.out Tryd.underlying131 k hlt
      obtain ⟨x, hx⟩ : ∃ x, x = pk.getD k 0 := ⟨_, rfl⟩
      rw [← hx] at hix
      have HX := Lib.hid hx
      clear hx
      have l1 := xorTo_length 54 pk k
      have l2 := xorTo_length 92 pk k
      have c0 := hI'.at8 k (by omega)
      have f0 := hI'.frozen k
      have c1 := hO'.at8 k (by omega)
      have f1 := hO'.frozen k
      have c2 := fun X => ((hO'.far (p := ⟨w.heap.size, k, none⟩) (by simp) X).at8 k (by omega))
      clear l1 l2
      go_wp2
      go_roundw
      case rel =>
        have e1 : xorTo 54 pk (k + 1) = (xorTo 54 pk k).set k (x ^^^ 54) := by rw [HX.out]; rfl
        have e2 : xorTo 92 pk (k + 1) = (xorTo 92 pk k).set k (x ^^^ 92) := by rw [HX.out]; rfl
        refine ⟨k + 1, by omega, by go_num, ?_, ?_, ?_⟩
        · rw [e1, b_xor54, b_xor92, ← map_set8]
          exact (hI'.set_ k _).far (by simp) _
        · rw [e2, b_xor54, b_xor92, ← map_set8]
          exact (hO'.far (by simp) _).set_ k _
        · exact (hb'.setCell (by simp) _).setCell (by simp) _
      case measure => simp [intOf]; omega
    · have hd2 : decide ((k : Int) < 64) = false := by simp; omega
      obtain rfl : k = 64 := by omega
      have l1 := xorTo_length 54 pk 64
      have l2 := xorTo_length 92 pk 64
      have h1 := oneB8 (xorTo 54 pk 64)
      have h2 := oneB8 (xorTo 92 pk 64)
      have hi1 : (Tryd.prog.info? 131).map (·.size) = some ((xorTo 54 pk 64).map B8).length := info64b.trans (by rw [List.length_map, l1])
      have hi2 : (Tryd.prog.info? 131).map (·.size) = some ((xorTo 92 pk 64).map B8).length := info64b.trans (by rw [List.length_map, l2])
      obtain ⟨z1, hz1⟩ : ∃ z, z = (xorTo 54 pk 64).map B8 := ⟨_, rfl⟩
      obtain ⟨z2, hz2⟩ : ∃ z, z = (xorTo 92 pk 64).map B8 := ⟨_, rfl⟩
      rw [← hz1] at hI' h1 hi1
      rw [← hz2] at hO' h2 hi2
      have HZ1 := Lib.hid hz1
      have HZ2 := Lib.hid hz2
      clear hz1 hz2 l1 l2
      go_wp2
      have hv1 : wr.drew.rangeAt w.heap.size 0 z1 := rangeAt_of_blk hI'.drew
      have hv2 : wr.drew.rangeAt (w.heap.size + 1) 0 z2 := rangeAt_of_blk hO'.drew
      have ht1 : wr.drew.there w.heap.size 0 z1.length := there_of_blk hI'.drew
      have ht2 : wr.drew.there (w.heap.size + 1) 0 z2.length := there_of_blk hO'.drew
      have hbd : Below w.heap.size w wr.drew := below_drewN hb' 1
      refine wp_region_held_drew (S := fun w' => (w'.rangeAt w.heap.size 0 z1 ∧ w'.rangeAt (w.heap.size + 1) 0 z2) ∧ (w'.there w.heap.size 0 z1.length ∧ w'.there (w.heap.size + 1) 0 z2.length) ∧ Below w.heap.size w w') (by kernel_rfl) ⟨⟨hv1, hv2⟩, ⟨ht1, ht2⟩, hbd⟩ (fun hHeld => ?_)
      refine' wpAnyH_take (i := 0) rfl (by kernel_rfl) (by kernel_rfl) (by kernel_rfl) (fun _ _ _ h => h) (yieldsIf_load_mid (by rfl) _ _ rfl w.heap.size 0 rfl z1 _ (fun w h => h.1.1) Tryd.underlying131 rfl hi1) hHeld ?_
      refine' wpAnyH_take (i := 1) rfl (by kernel_rfl) (by kernel_rfl) (by kernel_rfl) (fun _ _ _ h => h) (yieldsIf_load_mid (by rfl) _ _ rfl (w.heap.size + 1) 0 rfl z2 _ (fun w h => h.1.2) Tryd.underlying131 rfl hi2) hHeld ?_
      refine wpAnyH_ready (rs := [2]) (by kernel_rfl) (by simp) ?_
      refine AllReadyH.cons rfl (fun K hK => ?_) AllReadyH.nil
      rw [if_pos (by rfl)]
      refine wp_store_mid _ _ _ rfl w.heap.size 0 z1.toArray rfl rfl (by simpa using ht1) (by simpa using hi1) (all_oneCell_toArray h1) ?_
      refine hK.out _ _ ⟨⟨World.rangeAt_setCells_same _ _ _ _ ht1, World.rangeAt_setCells_apart hv2 _ _ _ (.inl (by simp))⟩, ⟨World.there_setCells ht1 _ _ _, World.there_setCells ht2 _ _ _⟩, below_setCells (Nat.le_refl _) _ _ _ _ hbd⟩ (fun hHeld => ?_)
      clear hK K
      generalize (wr.drew.setCells w.heap.size 0 z1.toArray.toList) = w2 at *
      clear hv1 hv2 ht1 ht2 hbd
      obtain ⟨⟨hv1, hv2⟩, ⟨ht1, ht2⟩, hbd⟩ := hHeld
      refine wpAnyH_ready (rs := [3]) (by kernel_rfl) (by simp) ?_
      refine AllReadyH.cons rfl (fun K hK => ?_) AllReadyH.nil
      rw [if_pos (by rfl)]
      refine wp_store_mid _ _ _ rfl (w.heap.size + 1) 0 z2.toArray rfl rfl (by simpa using ht2) (by simpa using hi2) (all_oneCell_toArray h2) ?_
      refine hK.out _ _ ⟨⟨World.rangeAt_setCells_apart hv1 _ _ _ (.inl (by simp)), World.rangeAt_setCells_same _ _ _ _ ht2⟩, ⟨World.there_setCells ht1 _ _ _, World.there_setCells ht2 _ _ _⟩, below_setCells (by omega) _ _ _ _ hbd⟩ (fun hHeld => ?_)
      clear hK K
      generalize (w2.setCells (w.heap.size + 1) 0 z2.toArray.toList) = w3 at *
      obtain ⟨⟨hv1, hv2⟩, _, hbd⟩ := hHeld
      refine wpAnyH_done (by kernel_rfl) ?_ _
      go_wp2
      refine bodyPost_ret (results_two rfl _ _ w.heap.size (w.heap.size + 1) 0 0 z1 z2 _ _ rfl rfl hv1 hv2 Tryd.underlying131 rfl hi1 Tryd.underlying131 rfl hi2) rfl ⟨by rw [HZ1.out, HZ2.out], hbd⟩
set_option maxRecDepth 100000 in
set_option maxHeartbeats 1000000 in
theorem qpads_long (A : Option Addr) (c B : Nat) (key : List UInt8) (w : World) (hB : B ≤ w.heap.size) (ik : In w B A c key) (hn : key.length < 549755813888) (hk : 64 < key.length) (ht : TabsQ w) :
    Calls Tryd.prog 85 #[.slice A key.length c] w fun e w' => e = .returned (.tuple #[.agg ((xorTo 54 (padKeyQ key) 64).map B8).toArray, .agg ((xorTo 92 (padKeyQ key) 64).map B8).toArray]) ∧ Below w.heap.size w w' := by
  have hd : decide ((64 : Int) < (key.length : Int)) = true := by simp; omega
  have hP : ∀ X Y Z : Obj, ∀ g, ((((w.alloc X).alloc Y).alloc Z).alloc (.cells #[.slice A key.length c] 26)).heap.size ≤ g → Parts ((((w.alloc X).alloc Y).alloc Z).alloc (.cells #[.slice A key.length c] 26)) g (some ⟨w.heap.size + 1 + 1 + 1, 0, none⟩) [key] := fun X Y Z g hg => by
    have h := parts1 (w := ((w.alloc X).alloc Y).alloc Z) (g := g) 26 (ik.below ((((Below.refl B w).alloc hB X).alloc (by simp <;> omega) Y).alloc (by simp <;> omega) Z)) (by simp at hg ⊢; omega) (by simp at hg; omega)
    simpa only [size_alloc] using h
  have hT : ∀ X Y Z V : Obj, TabsQ ((((w.alloc X).alloc Y).alloc Z).alloc V) := fun X Y Z V => ht.below (((((Below.refl _ w).alloc (Nat.le_refl _) X).alloc (by simp) Y).alloc (by simp <;> omega) Z).alloc (by simp <;> omega) V)
  have hsp := (splice_zeros (md5 key)).trans (congrArg (List.map B8) (padKeyQ_long key hk))
  have hsl := md5_length key
  have hpl := padKeyQ_length key
  generalize padKeyQ key = pk at *
  have HSP := Lib.hid hsp
  have HPL := Lib.hid hpl
  clear hsp hpl
  go_enter Tryd.func85, Tryd.ntmps85
  go_wp2_with fail
  refine (qOf_any 1 _ [key] _ (by simpa using hn) (by simp) (by omega) (hP _ _ _) (hT _ _ _ _)).mono ?_
  rintro e w0 ⟨rfl, hb0⟩
  simp only [List.flatten_cons, List.flatten_nil, List.append_nil]
  have hI := (((((Blk.new_of w 131 _ ((List.replicate 64 (0 : UInt8)).map B8) (by rfl)).alloc _).alloc _).alloc _).below hb0 (by simp <;> omega))
  have hO := (((((Blk.new2_of w _ 131 _ ((List.replicate 64 (0 : UInt8)).map B8) (by rfl)).alloc _).alloc _).below hb0 (by simp <;> omega)))
  have hK := ((((Blk.new3_of w _ _ 131 _ ((List.replicate 64 (0 : UInt8)).map B8) (by rfl)).alloc _).below hb0 (by simp)))
  have hb := ((((((Below.refl w.heap.size w).alloc (Nat.le_refl _) _).alloc (by simp) _).alloc (by simp <;> omega) _).alloc (by simp <;> omega) _).trans (hb0.mono (by simp <;> omega)))
  have hz : w.heap.size + 1 + 1 + 1 < w0.heap.size := by have := hb0.size; simp at this; omega
  clear hP hT hb0 ik
  obtain ⟨ks, hks⟩ : ∃ ks, ks = md5 key := ⟨_, rfl⟩
  rw [← hks] at HSP hsl ⊢
  clear hks
  have HKL := Lib.hid hsl
  clear hsl
  go_wp2_with (refine wpList_store_blk rfl 22 (.tmp 5) (.tmp 13) rfl rfl w0.heap.size _ rfl rfl 22 _ (Blk.new_of w0 22 _ ((List.replicate 16 (0 : UInt8)).map B8) (by rfl)) (infoH.trans (by rw [List.length_map, HKL.out])) (by rw [List.length_map, List.length_map, HKL.out]; rfl) (one8 _) ?_; intro w1 hS hg1)
  replace hI := (hI.alloc _).grown hg1 (by simp <;> omega)
  replace hO := (hO.alloc _).grown hg1 (by simp <;> omega)
  replace hK := (hK.alloc _).grown hg1 (by simp <;> omega)
  replace hb := below_new (hb.alloc (by omega) _) hg1 (by omega) (by simp <;> omega)
  clear hg1
  have hr : Blk w1.drew (w.heap.size + 1 + 1) 131 ((List.replicate 64 (0 : UInt8)).map B8) := hK
  have hz : 0 < (ks.map B8).length → (some (⟨w.heap.size + 1 + 1, 0, none⟩ : Addr)) = some ⟨w.heap.size + 1 + 1, 0, none⟩ ∧ ∃ gb ob, (some (⟨w0.heap.size, 0, none⟩ : Addr)) = some ⟨gb, ob, none⟩ ∧ ∀ j v, (ks.map B8)[j]? = some v → w1.drew.cell? ⟨gb, ob + j, none⟩ = some v := fun _ => ⟨rfl, w0.heap.size, 0, rfl, rangeAt_of_blk hS.drew⟩
  have HZ := Lib.hid hz
  clear hz
  go_still_tail 2, (by kernel_rfl)
  change wpList _ _ _ _ _ w1.drew
  replace hI := hI.drew
  replace hO := hO.drew
  replace hb : Below w.heap.size w w1.drew := below_drewN hb 1
  generalize w1.drew = w1 at *
  go_wp2_with (first
    | ((with_reducible refine (?_ : wpList _ _ _ (Oper.mk (some 16) _ _ _ _ _ :: _) _ _)); go_loud (refine wpList_copy_blk rfl (.tmp 14) (.tmp 15) 26 26 rfl 5 Tryd.underlying26 info8 _ _ _ _ _ _ (by rfl) (by rfl) (w.heap.size + 1 + 1) 0 ((List.replicate 64 (0 : UInt8)).map B8) 131 hr (ks.map B8) (by rw [List.length_map, HKL.out]; rfl) HZ.out (by rw [List.length_map, List.length_map, HKL.out]; decide) (oneB8 _) ?_); intro w2 hK hg1; rw [HSP.out] at hK; replace hI := hI.grown hg1 (by simp <;> omega); replace hO := hO.grown hg1 (by simp <;> omega); replace hb := below_new hb hg1 (by omega) hb.size; clear hg1)
    | ((with_reducible refine (?_ : wpList _ _ _ (Oper.mk (some 20) _ _ _ _ _ :: _) _ _)); go_loud (refine wpList_load_blk rfl 131 (.tmp 4) rfl (w.heap.size + 1 + 1) rfl 131 _ _ hK Tryd.underlying131 rfl (info64b.trans (by rw [List.length_map, HPL.out])) ?_)))
  go_loopw [21] (fun i wr => ∃ k : Nat, k ≤ 64 ∧ i = .int .i64 k ∧ Blk wr w.heap.size 131 ((xorTo 54 pk k).map B8) ∧ Blk wr (w.heap.size + 1) 131 ((xorTo 92 pk k).map B8) ∧ Below w.heap.size w wr) (fun i _ => 64 - (intOf i).toNat)
  case atStart => exact ⟨0, by omega, rfl, hI, hO, hb⟩
  case round =>
    obtain ⟨k, hk, rfl, hI', hO', hb'⟩ := hrel
    clear hI hO hb hK
    by_cases hlt : k < 64
    · have hd2 : decide ((k : Int) < 64) = true := by simp; omega
      have hix := index_bytes 64 131 pk HPL.out Tryd.underlying131 k hlt
      obtain ⟨x, hx⟩ : ∃ x, x = pk.getD k 0 := ⟨_, rfl⟩
      rw [← hx] at hix
      have HX := Lib.hid hx
      clear hx
      have l1 := xorTo_length 54 pk k
      have l2 := xorTo_length 92 pk k
      have c0 := hI'.at8 k (by omega)
      have f0 := hI'.frozen k
      have c1 := hO'.at8 k (by omega)
      have f1 := hO'.frozen k
      have c2 := fun X => ((hO'.far (p := ⟨w.heap.size, k, none⟩) (by simp) X).at8 k (by omega))
      clear l1 l2
      go_wp2
      go_roundw
      case rel =>
        have e1 : xorTo 54 pk (k + 1) = (xorTo 54 pk k).set k (x ^^^ 54) := by rw [HX.out]; rfl
        have e2 : xorTo 92 pk (k + 1) = (xorTo 92 pk k).set k (x ^^^ 92) := by rw [HX.out]; rfl
        refine ⟨k + 1, by omega, by go_num, ?_, ?_, ?_⟩
        · rw [e1, b_xor54, b_xor92, ← map_set8]
          exact (hI'.set_ k _).far (by simp) _
        · rw [e2, b_xor54, b_xor92, ← map_set8]
          exact (hO'.far (by simp) _).set_ k _
        · exact (hb'.setCell (by simp) _).setCell (by simp) _
      case measure => simp [intOf]; omega
    · have hd2 : decide ((k : Int) < 64) = false := by simp; omega
      obtain rfl : k = 64 := by omega
      have l1 := xorTo_length 54 pk 64
      have l2 := xorTo_length 92 pk 64
      have h1 := oneB8 (xorTo 54 pk 64)
      have h2 := oneB8 (xorTo 92 pk 64)
      have hi1 : (Tryd.prog.info? 131).map (·.size) = some ((xorTo 54 pk 64).map B8).length := info64b.trans (by rw [List.length_map, l1])
      have hi2 : (Tryd.prog.info? 131).map (·.size) = some ((xorTo 92 pk 64).map B8).length := info64b.trans (by rw [List.length_map, l2])
      obtain ⟨z1, hz1⟩ : ∃ z, z = (xorTo 54 pk 64).map B8 := ⟨_, rfl⟩
      obtain ⟨z2, hz2⟩ : ∃ z, z = (xorTo 92 pk 64).map B8 := ⟨_, rfl⟩
      rw [← hz1] at hI' h1 hi1
      rw [← hz2] at hO' h2 hi2
      have HZ1 := Lib.hid hz1
      have HZ2 := Lib.hid hz2
      clear hz1 hz2 l1 l2
      go_wp2
      have hv1 : wr.drew.rangeAt w.heap.size 0 z1 := rangeAt_of_blk hI'.drew
      have hv2 : wr.drew.rangeAt (w.heap.size + 1) 0 z2 := rangeAt_of_blk hO'.drew
      have ht1 : wr.drew.there w.heap.size 0 z1.length := there_of_blk hI'.drew
      have ht2 : wr.drew.there (w.heap.size + 1) 0 z2.length := there_of_blk hO'.drew
      have hbd : Below w.heap.size w wr.drew := below_drewN hb' 1
      refine wp_region_held_drew (S := fun w' => (w'.rangeAt w.heap.size 0 z1 ∧ w'.rangeAt (w.heap.size + 1) 0 z2) ∧ (w'.there w.heap.size 0 z1.length ∧ w'.there (w.heap.size + 1) 0 z2.length) ∧ Below w.heap.size w w') (by kernel_rfl) ⟨⟨hv1, hv2⟩, ⟨ht1, ht2⟩, hbd⟩ (fun hHeld => ?_)
      refine' wpAnyH_take (i := 0) rfl (by kernel_rfl) (by kernel_rfl) (by kernel_rfl) (fun _ _ _ h => h) (yieldsIf_load_mid (by rfl) _ _ rfl w.heap.size 0 rfl z1 _ (fun w h => h.1.1) Tryd.underlying131 rfl hi1) hHeld ?_
      refine' wpAnyH_take (i := 1) rfl (by kernel_rfl) (by kernel_rfl) (by kernel_rfl) (fun _ _ _ h => h) (yieldsIf_load_mid (by rfl) _ _ rfl (w.heap.size + 1) 0 rfl z2 _ (fun w h => h.1.2) Tryd.underlying131 rfl hi2) hHeld ?_
      refine wpAnyH_ready (rs := [2]) (by kernel_rfl) (by simp) ?_
      refine AllReadyH.cons rfl (fun K hK => ?_) AllReadyH.nil
      rw [if_pos (by rfl)]
      refine wp_store_mid _ _ _ rfl w.heap.size 0 z1.toArray rfl rfl (by simpa using ht1) (by simpa using hi1) (all_oneCell_toArray h1) ?_
      refine hK.out _ _ ⟨⟨World.rangeAt_setCells_same _ _ _ _ ht1, World.rangeAt_setCells_apart hv2 _ _ _ (.inl (by simp))⟩, ⟨World.there_setCells ht1 _ _ _, World.there_setCells ht2 _ _ _⟩, below_setCells (Nat.le_refl _) _ _ _ _ hbd⟩ (fun hHeld => ?_)
      clear hK K
      generalize (wr.drew.setCells w.heap.size 0 z1.toArray.toList) = w2 at *
      clear hv1 hv2 ht1 ht2 hbd
      obtain ⟨⟨hv1, hv2⟩, ⟨ht1, ht2⟩, hbd⟩ := hHeld
      refine wpAnyH_ready (rs := [3]) (by kernel_rfl) (by simp) ?_
      refine AllReadyH.cons rfl (fun K hK => ?_) AllReadyH.nil
      rw [if_pos (by rfl)]
      refine wp_store_mid _ _ _ rfl (w.heap.size + 1) 0 z2.toArray rfl rfl (by simpa using ht2) (by simpa using hi2) (all_oneCell_toArray h2) ?_
      refine hK.out _ _ ⟨⟨World.rangeAt_setCells_apart hv1 _ _ _ (.inl (by simp)), World.rangeAt_setCells_same _ _ _ _ ht2⟩, ⟨World.there_setCells ht1 _ _ _, World.there_setCells ht2 _ _ _⟩, below_setCells (by omega) _ _ _ _ hbd⟩ (fun hHeld => ?_)
      clear hK K
      generalize (w2.setCells (w.heap.size + 1) 0 z2.toArray.toList) = w3 at *
      obtain ⟨⟨hv1, hv2⟩, _, hbd⟩ := hHeld
      refine wpAnyH_done (by kernel_rfl) ?_ _
      go_wp2
      refine bodyPost_ret (results_two rfl _ _ w.heap.size (w.heap.size + 1) 0 0 z1 z2 _ _ rfl rfl hv1 hv2 Tryd.underlying131 rfl hi1 Tryd.underlying131 rfl hi2) rfl ⟨by rw [HZ1.out, HZ2.out], hbd⟩

theorem qpads_any (A : Option Addr) (c B : Nat) (key : List UInt8) (w : World) (hB : B ≤ w.heap.size) (ik : In w B A c key) (hn : key.length < 549755813888) (ht : TabsQ w) :
    Calls Tryd.prog 85 #[.slice A key.length c] w fun e w' => e = .returned (.tuple #[.agg ((xorTo 54 (padKeyQ key) 64).map B8).toArray, .agg ((xorTo 92 (padKeyQ key) 64).map B8).toArray]) ∧ Below w.heap.size w w' := by
  by_cases hk : 64 < key.length
  · exact qpads_long A c B key w hB ik hn hk ht
  · exact qpads_short A c B key w hB ik (by omega)

end
section
open Go.RowKit
/-- A mark by a key, by MD5. -/
def hmacQ (key m : List UInt8) : List UInt8 := md5 (xorTo 92 (padKeyQ key) 64 ++ md5 (xorTo 54 (padKeyQ key) 64 ++ m))
theorem hmacQ_length (key m : List UInt8) : (hmacQ key m).length = 16 := md5_length _

set_option maxRecDepth 100000 in
set_option maxHeartbeats 1000000 in
theorem qMac_any (A A' : Option Addr) (c c' B : Nat) (key : List UInt8) (ps : List (List UInt8)) (w : World) (hB : B ≤ w.heap.size) (ik : In w B A c key) (hn : key.length < 549755813888) (ht : TabsQ w)
    (hps : ps.flatten.length < 549755813000) (hpc : ps.length ≤ c') (hcm : c' ≤ 9223372036854775807) (hA : ∀ g, w.heap.size ≤ g → Parts w g A' ps) :
    Calls Tryd.prog 68 #[.slice A key.length c, .slice A' ps.length c'] w fun e w' => e = .returned (.agg ((hmacQ key ps.flatten).map B8).toArray) ∧ Below w.heap.size w w' := by
  have ht0 := ht.lt0
  have ht1 := ht.lt1
  go_enter Tryd.func68, Tryd.ntmps68
  go_wp2_with fail
  refine (qpads_any A c B key _ (by simp <;> omega) (ik.below ((Below.refl _ _).alloc hB _)) hn (ht.below ((Below.refl _ _).alloc (Nat.le_refl _) _))).mono ?_
  rintro e w1 ⟨rfl, hb1⟩
  have hR1 := (Blk.new_of w 22 _ ((List.replicate 16 (0 : UInt8)).map B8) (by rfl)).below hb1 (by simp)
  replace hb1 := ((Below.refl w.heap.size w).alloc (Nat.le_refl _) _).trans (hb1.mono (by simp))
  have hz1 : w.heap.size < w1.heap.size := hR1.lt
  have hl1 := xorTo_length 54 (padKeyQ key) 64
  have hl2 := xorTo_length 92 (padKeyQ key) 64
  have hm : hmacQ key ps.flatten = md5 (xorTo 92 (padKeyQ key) 64 ++ md5 (xorTo 54 (padKeyQ key) 64 ++ ps.flatten)) := rfl
  obtain ⟨mk, hmk0⟩ : ∃ mk, mk = hmacQ key ps.flatten := ⟨_, rfl⟩
  rw [← hmk0] at hm
  have HMK := Lib.hid hmk0
  clear hmk0
  generalize xorTo 54 (padKeyQ key) 64 = xi at *
  generalize xorTo 92 (padKeyQ key) 64 = xo at *
  have HL1 := Lib.hid hl1
  have HL2 := Lib.hid hl2
  have HM := Lib.hid hm
  clear hl1 hl2 hm
  go_wp2_with (first
    | (refine wpList_store_blk rfl 131 (.tmp 5) (.tmp 14) rfl rfl w1.heap.size _ rfl rfl 131 _ ((Blk.new_of w1 131 _ ((List.replicate 64 (0 : UInt8)).map B8) (by rfl)).alloc _) (info64b.trans (by rw [List.length_map, HL1.out])) (by rw [List.length_map, List.length_map, HL1.out]; rfl) (one8 _) ?_; intro w2 hI2 hg2; have hO2 := (Blk.new2_of w1 _ 131 _ ((List.replicate 64 (0 : UInt8)).map B8) (by rfl)).grown hg2 (by simp); have hb2 := below_new ((hb1.alloc (by omega) _).alloc (by simp <;> omega) _) hg2 (by omega) (by simp; omega); have hR2 := ((hR1.alloc _).alloc _).grown hg2 (by simp <;> omega); clear hg2)
    | (refine wpList_store_blk rfl 131 (.tmp 6) (.tmp 15) rfl rfl (w1.heap.size + 1) _ rfl rfl 131 _ hO2 (info64b.trans (by rw [List.length_map, HL2.out])) (by rw [List.length_map, List.length_map, HL2.out]; rfl) (one8 _) ?_; intro w3 hO3 hg3; have hI3 := hI2.grown hg3 (by simp); have hb3 := below_new hb2 hg3 (by omega) (hb2.size); have hR3 := hR2.grown hg3 (by simp <;> omega); clear hg3 hI2 hO2 hb2 hR2))
  have hz3 : w1.heap.size + 1 < w3.heap.size := hO3.lt
  refine (begun_any _).mono ?_
  rintro e w4 ⟨rfl, hs4, hb4⟩
  have hI4 := hI3.below hb4 (by omega)
  have hO4 := hO3.below hb4 (by omega)
  have hR4 := hR3.below hb4 (by omega)
  replace hb4 := hb3.trans (hb4.mono hb3.size)
  obtain ⟨G, hG⟩ : ∃ G, G = w3.heap.size := ⟨_, rfl⟩
  rw [← hG] at hs4 hz3 ⊢
  clear hG hI3 hO3 hR3 hb3
  have hl4 : G < w4.heap.size := by obtain ⟨_, _, _, h⟩ := hs4; exact h.lt
  have hPA := (hA G (by omega))
  have hsrc : Src w4 G (some ⟨w1.heap.size, 0, none⟩) xi := fun _ => ⟨w1.heap.size, 0, rfl, by omega, fun j hj => by rw [Nat.zero_add]; exact hI4.at8 j hj⟩
  have P0 := qput_any G 64 _ 135 [] xi w4 (by simp; rw [HL1.out]; omega) (by rw [HL1.out]; omega) (by omega) hsrc hs4 (ht.below hb4) (by omega) (by omega)
  rw [HL1.out] at P0
  go_wp2_with fail
  refine P0.mono ?_
  rintro e w5 ⟨rfl, hg5, hh5⟩
  have hO5 := hO4.grown hg5 (by simp <;> omega)
  have hR5 := hR4.grown hg5 (by simp <;> omega)
  have hb5 := below_new hb4 hg5 (by omega) (by omega)
  have hl5 : G < w5.heap.size := by obtain ⟨_, _, _, h⟩ := hh5; exact h.lt
  have ht5 := ht.below hb5
  replace hPA := hPA.keep (grown_of_below hb5 _)
  simp only [List.nil_append] at hh5
  clear hg5 P0 hsrc hs4 hO4 hR4 hI4 hb4 hl4 hA
  go_wp2
  go_loopw [22] (fun i wr => ∃ k : Nat, k ≤ ps.length ∧ i = .int .i64 k ∧ HeldQ wr G 135 (xi ++ (ps.take k).flatten) ∧ Parts wr G A' ps ∧ TabsQ wr ∧ Blk wr (w1.heap.size + 1) 131 (xo.map B8) ∧ Blk wr w.heap.size 22 ((List.replicate 16 (0 : UInt8)).map B8) ∧ Below w.heap.size w wr) (fun i _ => ps.length - (intOf i).toNat)
  case atStart => exact ⟨0, by omega, rfl, by rw [List.take_zero, List.flatten_nil, List.append_nil]; exact hh5, hPA, ht5, hO5, hR5, hb5⟩
  case round =>
   obtain ⟨k, hk, rfl, hH', hA', ht', hO6, hR6, hb6⟩ := hrel
   clear hh5 hPA ht5 hO5 hR5 hb5
   by_cases hlt : k < ps.length
   · have hd : decide ((k : Int) < (ps.length : Int)) = true := by simp; omega
     obtain ⟨gp, op, rfl, hne, hj⟩ := hA' (by omega)
     obtain ⟨Aj, cj, hc, h1, h2, h3⟩ := hj k hlt
     have hfl : (ps.take (k + 1)).flatten = (ps.take k).flatten ++ ps.getD k [] := by
       rw [List.take_succ_eq_append_getElem hlt, List.flatten_append, List.getD_eq_getElem?_getD, List.getElem?_eq_getElem hlt]; simp
     have hle : (ps.take k).flatten.length + (ps.getD k []).length ≤ ps.flatten.length := by
       have h := congrArg List.length (congrArg List.flatten (List.take_append_drop (k + 1) ps))
       rw [List.flatten_append, List.length_append, hfl, List.length_append] at h
       omega
     obtain ⟨b, hb⟩ : ∃ b, b = ps.getD k [] := ⟨_, rfl⟩
     rw [← hb] at hc h1 h3 hfl hle
     have HF := Lib.hid hfl
     clear hfl hb hj
     have hl6 : G < wr.heap.size := by obtain ⟨_, _, _, h⟩ := hH'; exact h.lt
     have P := qput_any G cj Aj _ _ b wr (by rw [List.length_append, HL1.out]; omega) h1 h2 h3 hH' ht' (by omega) (by omega)
     go_wp2_with (go_at_call 73; with_reducible refine P.mono ?_; rintro e w7 ⟨rfl, hg7, hh7⟩)
     go_roundw
     case rel => exact ⟨k + 1, by omega, by go_num, by rw [HF.out, ← List.append_assoc]; exact hh7, hA'.keep hg7, ht'.grown hg7 (by omega) (by omega), hO6.grown hg7 (by simp <;> omega), hR6.grown hg7 (by simp <;> omega), below_new hb6 hg7 (by omega) hb6.size⟩
     case measure => simp [intOf]; omega
   · have hd : decide ((k : Int) < (ps.length : Int)) = false := by simp; omega
     rw [List.take_of_length_le (by omega)] at hH'
     have hl6 : G < wr.heap.size := by obtain ⟨_, _, _, h⟩ := hH'; exact h.lt
     have E := qend_any G 135 _ wr (by rw [List.length_append, HL1.out]; omega) hH' ht' (by omega) (by omega)
     have hsl := md5_length (xi ++ ps.flatten)
     obtain ⟨y, hy⟩ : ∃ y, y = md5 (xi ++ ps.flatten) := ⟨_, rfl⟩
     rw [← hy] at hsl E
     have HY := Lib.hid hy
     have HYL := Lib.hid hsl
     clear hy hsl hH' hA'
     go_wp2_with fail
     refine E.mono ?_
     rintro e w7 ⟨rfl, hg7⟩
     have hO7 := hO6.grown hg7 (by simp <;> omega)
     have hR7 := hR6.grown hg7 (by simp <;> omega)
     have hb7 := below_new hb6 hg7 (by omega) hb6.size
     have hz7 : G < w7.heap.size := Nat.lt_of_lt_of_le hl6 hg7.size
     have hz7b := hO7.lt
     have hz7c := hR7.lt
     clear hO6 hR6 hb6 E hg7 ht'
     go_wp2_with (refine wpList_store_blk rfl 22 (.tmp 10) (.tmp 31) rfl rfl w7.heap.size _ rfl rfl 22 _ (Blk.new_of w7 22 _ ((List.replicate 16 (0 : UInt8)).map B8) (by rfl)) (infoH.trans (by rw [List.length_map, HYL.out])) (by rw [List.length_map, List.length_map, HYL.out]; rfl) (one8 _) ?_; intro w8 hS8 hg8)
     have hO8 := (hO7.alloc _).grown hg8 (by simp <;> omega)
     have hR8 := (hR7.alloc _).grown hg8 (by simp <;> omega)
     have hb8 := below_new (hb7.alloc hb7.size _) hg8 (by omega) (by simp <;> omega)
     have hz8 : w7.heap.size < w8.heap.size := hS8.lt
     clear hg8 hO7 hR7 hb7
     go_still_tail 2, (by kernel_rfl)
     change wpList _ _ _ _ _ w8.drew
     replace hO8 := hO8.drew
     replace hR8 := hR8.drew
     replace hS8 := hS8.drew
     replace hb8 : Below w.heap.size w w8.drew := below_drewN hb8 1
     replace hz8 : w7.heap.size < w8.drew.heap.size := hz8
     generalize w8.drew = w8 at *
     have hP8 : ∀ g, (w8.alloc (.cells #[.slice (some ⟨w1.heap.size + 1, 0, none⟩) 64 64, .slice (some ⟨w7.heap.size, 0, none⟩) 16 16] 26)).heap.size ≤ g → Parts (w8.alloc (.cells #[.slice (some ⟨w1.heap.size + 1, 0, none⟩) 64 64, .slice (some ⟨w7.heap.size, 0, none⟩) 16 16] 26)) g (some ⟨w8.heap.size, 0, none⟩) [xo, y] := fun g hg => by
       rw [size_alloc] at hg
       have h := parts2 (w := w8) (B := g) (g := g) 26 (In.of_blk (B := g) hO8 (by omega) (by rw [HL2.out]; omega)) (In.of_blk (B := g) hS8 (by omega) (by rw [HYL.out]; omega)) (by omega) (Nat.le_refl _)
       rwa [HL2.out, HYL.out] at h
     have hT8 : TabsQ (w8.alloc (.cells #[.slice (some ⟨w1.heap.size + 1, 0, none⟩) 64 64, .slice (some ⟨w7.heap.size, 0, none⟩) 16 16] 26)) := (ht.below hb8).below ((Below.refl _ _).alloc (Nat.le_refl _) _)
     go_wp2_with fail
     refine (qOf_any 2 _ [xo, y] _ (by simp [HL2.out, HYL.out]) (by simp) (by omega) hP8 hT8).mono ?_
     rintro e w9 ⟨rfl, hb9⟩
     have hR9 := (hR8.alloc _).below hb9 (by simp <;> omega)
     have hb9' := (hb8.alloc hb8.size _).trans (hb9.mono (by simp <;> omega))
     have hmk : md5 ([xo, y].flatten) = mk := by rw [HM.out, HY.out]; simp
     rw [hmk]
     have hml : mk.length = 16 := by rw [← hmk]; exact md5_length _
     go_wp2_with (refine wpList_store_blk rfl 22 (.tmp 4) (.tmp 35) rfl rfl w.heap.size _ rfl rfl 22 _ hR9 (infoH.trans (by rw [List.length_map, hml])) (by rw [List.length_map, List.length_map, hml]; rfl) (one8 _) ?_; intro w10 hR10 hg10)
     refine bodyPost_ret (v := .agg _) (results_cell_row rfl _ _ w.heap.size 22 _ (0, 0) _ rfl hR10.raw Tryd.underlying22 rfl (infoH.trans (by simp [hml]))) rfl ⟨by rw [HMK.out], below_new hb9' hg10 (Nat.le_refl _) hb9'.size⟩

end
section
open Go.ChangeShapes Go.WideShapes Go.ChangeAt Go.RowKit
def laidOld : List (String × DataW Unit) := [("tollgate/old.sines", Rows.laid_tollgate_old_sines), ("tollgate/old.shifts", Rows.laid_tollgate_old_shifts)]
theorem sines_data : (Rows.laid_tollgate_old_sines : DataW Unit) = Lib.tabData .u32 (sineTab.map fun x => (x.toNat : Int)) := by kernel_rfl
theorem shifts_data : (Rows.laid_tollgate_old_shifts : DataW Unit) = Lib.tabData .i64 (shiftTab.map fun x : Nat => (x : Int)) := by kernel_rfl
theorem getD_nats (L : List Nat) (i : Nat) (h : i < L.length) : (L.map fun x : Nat => (x : Int)).getD i 0 = ((L.getD i 0 : Nat) : Int) := by
  simp [List.getD_eq_getElem?_getD, List.getElem?_map, List.getElem?_eq_getElem h]
theorem tabsQ_of_laid {W : World} (h : laidMetH Tryd.prog laidOld W) : TabsQ W := by
  rw [MakeChecks.laidMetH_plain _ _ _ (by kernel_rfl)] at h
  unfold laidOld at h
  rw [sines_data, shifts_data] at h
  have h1 := Lib.tabIs_of_head (g := 1) (t := 118) (e := 117) (n := 64) (by kernel_rfl) (by kernel_rfl) Tryd.underlying118 Tryd.underlying117 (by kernel_rfl) (by kernel_rfl) h
  have h2 : Lib.TabIs Tryd.prog W "tollgate/old.shifts" .i64 (shiftTab.map fun x : Nat => (x : Int)) := by
    obtain ⟨ps, ⟨g0, t0, cs0, f0, p0, q0, hg0, ht0, hv0, hd0, ⟨g1, t1, cs1, f1, p1, q1, hg1, ht1, hv1, hd1, _, _⟩, _⟩, _, _⟩ := h
    obtain rfl := Option.some.inj ((show Tryd.prog.globalNamed "tollgate/old.shifts" = some 2 by kernel_rfl).symm.trans hg1)
    obtain rfl := Option.some.inj ((show (Tryd.prog.globals[2]?).map (·.type) = some 147 by kernel_rfl).symm.trans ht1)
    unfold Lib.TabIs
    rw [hv1, ← Lib.cells_of_tab Tryd.underlying147 Tryd.underlying3 (by kernel_rfl) (by kernel_rfl) hd1]
  constructor
  · intro i hi
    have := h1.cell (g := 1) (by kernel_rfl) i (by simpa [sineTab] using hi)
    rw [getD_ints _ _ (by simpa [sineTab] using hi)] at this
    exact this
  · intro i hi
    have := h2.cell (g := 2) (by kernel_rfl) i (by simpa [shiftTab] using hi)
    rw [getD_nats _ _ (by simpa [shiftTab] using hi)] at this
    exact this
theorem door_metQ (os : Os) (args : Array Value) : laidMetH Tryd.prog laidOld ((World.doorLaid Tryd.prog 400 os).forCall (fun _ _ => 0) ⟨#[], args, []⟩).memory :=
  laidMetH_of_parts3 (fuel := 8) (laidMet_of_run' 8 (by kernel_rfl) (by kernel_rfl)) (by kernel_rfl) (by kernel_rfl)

end
end Go.Proofs.YtbomckbekcaemaaDoor
