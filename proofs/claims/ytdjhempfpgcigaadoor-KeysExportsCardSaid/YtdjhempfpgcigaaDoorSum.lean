/-
  The contracts of Sum and Of: SHA-256 of all bytes so far.
-/
import Derived.Test.YtdjhempfpgcigaaDoorState
namespace Go.Proofs.YtdjhempfpgcigaaDoor
open Go.RowKit

/-- SHA-256 of a row of bytes. -/
def sha (m : List UInt8) : List UInt8 := bytesOf (blocks first (m ++ padB m.length))
theorem sha_length (m : List UInt8) : (sha m).length = 32 := rfl

theorem size_alloc (w : World) (o : Obj) : (w.alloc o).heap.size = w.heap.size + 1 := by simp
theorem st_one (s : St) (R : List UInt8) (n : Nat) : (stCells s R n).toArray.all (·.oneCell') = true := by
  rw [Array.all_eq_true_iff_forall_mem]
  intro v hv
  simp only [List.mem_toArray, stCells, List.mem_append] at hv
  rcases hv with hv | hv | hv
  · exact vals_one s v hv
  · exact oneB8 R v hv
  · simp at hv; subst hv; rfl

set_option maxRecDepth 100000 in
set_option maxHeartbeats 1000000 in
theorem Sum_held (g : Nat) (m : List UInt8) (w : World) (hn : m.length < 549755813888) (hh : HeldN w g 79 m) (ht : Tabs w) :
    Calls Tryd.prog 40 #[.pointer (some ⟨g, 0, none⟩)] w fun e w' => e = .returned (.agg ((sha m).map B8).toArray) ∧ Below w.heap.size w w' := by
  obtain ⟨s, R, hR, hs, hm⟩ := hh
  have hlt := hs.lt
  have HR := Lib.hid hR
  have c72 : w.cell? ⟨g, 72, none⟩ = some (.int .u64 (m.length : Int)) := (hs.cell 72).trans (stCells_72 s R m.length hR)
  have ht0 := ht.lt0
  have ht1 := ht.lt1
  have hz : ∀ W : World, (zeroValue 79).run Tryd.prog W = .ok (.agg (stCells zeroSt (List.replicate 64 0) 0).toArray) W := fun W => by kernel_rfl
  go_enter Tryd.func40, Tryd.ntmps40
  go_wp2_with (first
    | (refine wpList_load_blk rfl 79 (.tmp 8) rfl g rfl _ _ _ (hs.alloc _) Tryd.underlying79 rfl (infoSt.trans (by rw [stCells_length _ _ _ HR.out])) ?_)
    | (refine wpList_store_blk rfl 79 (.tmp 3) (.tmp 9) rfl rfl (w.heap.size + 1) _ rfl rfl 79 (stCells zeroSt (List.replicate 64 0) 0) (Blk.new2_of w _ _ _ _ (by rfl)) (infoSt.trans (by rw [stCells_length _ _ _ HR.out])) (by rw [stCells_length _ _ _ HR.out]; rfl) (st_one _ _ _) ?_; intro w1 hs1 hg1; have hA1 := ((Blk.new_of w 22 _ ((List.replicate 32 (0 : UInt8)).map B8) (by rfl)).alloc _).grown hg1 (by simp); have hb1 := below_new (((Below.refl w.heap.size w).alloc (Nat.le_refl _) _).alloc (by simp) _) hg1 (by omega) (by simp; omega); have hsz1 : w.heap.size + 1 < w1.heap.size := hs1.lt; have c1 := (((hs.alloc _).alloc _).grown hg1 (by simp; omega)).cell 72; rw [stCells_72 s R m.length HR.out] at c1))
  clear hg1 c72
  refine (ending_any m.length _ (by omega) _ rfl).mono ?_
  rintro e w2 ⟨v, rfl, hown, hb2⟩
  obtain ⟨A, c, rfl, hAc, hcm, hsrc⟩ := hown.slice
  replace hs1 := hs1.below hb2 hsz1
  replace hA1 := hA1.below hb2 (by omega)
  replace hb1 := hb1.trans (hb2.mono (by omega))
  have hsz2 : w.heap.size + 1 < w2.heap.size := hs1.lt
  clear hown hb2 c1
  go_wp2_with fail
  have hpar : Parts (w2.alloc (.cells #[.slice A (padB m.length).length c] 26)) (w.heap.size + 1) (some ⟨w2.heap.size, 0, none⟩) [padB m.length] :=
    Parts.one (new_cell _ _ _) (by omega) hAc hcm (Src.keep (hsrc _ hsz1) (grown_alloc (grown_refl _ _) _))
  have hheld : HeldN (w2.alloc (.cells #[.slice A (padB m.length).length c] 26)) (w.heap.size + 1) 79 m := ⟨s, R, hR, hs1.alloc _, hm⟩
  have hp9 := padB_length m.length
  refine (Put_any (w.heap.size + 1) 1 _ m [padB m.length] _ (by simp; omega) (by simp) (by omega) hpar hheld ((ht.below hb1).below ((Below.refl _ _).alloc (Nat.le_refl _) _)) (by omega) (by omega)).mono ?_
  rintro e w3 ⟨rfl, hg3, R3, hR3, hL3, hs3⟩
  have hA3 := (hA1.alloc _).grown hg3 (by simp)
  have hb3 := below_new (hb1.alloc (by omega) _) hg3 (by omega) (by simp; omega)
  obtain ⟨q, hq⟩ : ∃ q, q = blocks first (m ++ [padB m.length].flatten) := ⟨_, rfl⟩
  rw [← hq] at hs3
  have HQ := Lib.hid hq
  clear hq hg3 hpar hheld hp9 hb1 hA1 hs1
  have c0 : w3.cell? ⟨w.heap.size + 1, 0, none⟩ = some (.int .u32 q.a.toNat) := hs3.cell 0
  have c1 : w3.cell? ⟨w.heap.size + 1, 1, none⟩ = some (.int .u32 q.b.toNat) := hs3.cell 1
  have c2 : w3.cell? ⟨w.heap.size + 1, 2, none⟩ = some (.int .u32 q.c.toNat) := hs3.cell 2
  have c3 : w3.cell? ⟨w.heap.size + 1, 3, none⟩ = some (.int .u32 q.d.toNat) := hs3.cell 3
  have c4 : w3.cell? ⟨w.heap.size + 1, 4, none⟩ = some (.int .u32 q.e.toNat) := hs3.cell 4
  have c5 : w3.cell? ⟨w.heap.size + 1, 5, none⟩ = some (.int .u32 q.f.toNat) := hs3.cell 5
  have c6 : w3.cell? ⟨w.heap.size + 1, 6, none⟩ = some (.int .u32 q.g.toNat) := hs3.cell 6
  have c7 : w3.cell? ⟨w.heap.size + 1, 7, none⟩ = some (.int .u32 q.h.toNat) := hs3.cell 7
  go_wp2_with fail
  refine (bytesOf_any q _).mono ?_
  rintro e w4 ⟨rfl, hb4⟩
  have hA4 := hA3.below hb4 hA3.lt
  have hb5 := hb3.trans (hb4.mono hb3.size)
  clear c0 c1 c2 c3 c4 c5 c6 c7
  have hsha : bytesOf q = sha m := by rw [HQ.out]; unfold sha; simp
  rw [hsha]
  have hl32 := sha_length m
  go_wp2_with (refine wpList_store_blk rfl 22 (.tmp 2) (.tmp 19) rfl rfl w.heap.size _ rfl rfl 22 _ hA4 (info32.trans (by simp [sha_length])) (by simp [sha_length]) (one8 _) ?_; intro w6 hA6 hg6)
  refine bodyPost_ret (v := .agg _) (results_cell_row rfl _ _ w.heap.size 22 _ (0, 0) _ rfl hA6.raw Tryd.underlying22 rfl (info32.trans (by simp [sha_length]))) rfl ⟨rfl, below_new hb5 hg6 (Nat.le_refl _) hb5.size⟩

set_option maxRecDepth 100000 in
set_option maxHeartbeats 1000000 in
theorem Of_any (c : Nat) (A : Option Addr) (ps : List (List UInt8)) (w : World) (hn : ps.flatten.length < 549755813888) (hpc : ps.length ≤ c) (hcm : c ≤ 9223372036854775807)
    (hA : ∀ g, w.heap.size ≤ g → Parts w g A ps) (ht : Tabs w) :
    Calls Tryd.prog 25 #[.slice A ps.length c] w fun e w' => e = .returned (.agg ((sha ps.flatten).map B8).toArray) ∧ Below w.heap.size w w' := by
  have ht0 := ht.lt0
  have ht1 := ht.lt1
  go_enter Tryd.func25, Tryd.ntmps25
  go_wp2_with fail
  refine (new_any _).mono ?_
  rintro e w1 ⟨rfl, hs1, hb1⟩
  have hb0 : Below w.heap.size w w1 := ((Below.refl _ _).alloc (Nat.le_refl _) _).trans (hb1.mono (by simp))
  have hA1 := ((Blk.new_of w 22 _ ((List.replicate 32 (0 : UInt8)).map B8) (by rfl))).below hb1 (by simp)
  rw [size_alloc] at hs1
  have hsz1 : w.heap.size + 1 < w1.heap.size := hs1.lt
  have hP1 := (hA (w.heap.size + 1) (by omega)).keep (grown_of_below hb0 _)
  go_wp2_with fail
  refine (Put_any (w.heap.size + 1) c A [] ps _ (by simp only [List.length_nil]; omega) hpc hcm hP1 (HeldN.new hs1) (ht.below hb0) (by omega) (by omega)).mono ?_
  rintro e w2 ⟨rfl, hg2, hh2⟩
  rw [List.nil_append] at hh2
  have hA2 := hA1.grown hg2 (by simp)
  have hb2 := below_new hb0 hg2 (by omega) (by omega)
  go_wp2_with fail
  refine (Sum_held (w.heap.size + 1) ps.flatten _ hn (HeldN.of_held hh2) (ht.below hb2)).mono ?_
  rintro e w3 ⟨rfl, hb3⟩
  have hA3 := hA2.below hb3 hA2.lt
  have hb4 := hb2.trans (hb3.mono hb2.size)
  go_wp2_with (refine wpList_store_blk rfl 22 (.tmp 2) (.tmp 9) rfl rfl w.heap.size _ rfl rfl 22 _ hA3 (info32.trans (by simp [sha_length])) (by simp [sha_length]) (one8 _) ?_; intro w6 hA6 hg6)
  refine bodyPost_ret (v := .agg _) (results_cell_row rfl _ _ w.heap.size 22 _ (0, 0) _ rfl hA6.raw Tryd.underlying22 rfl (info32.trans (by simp [sha_length]))) rfl ⟨rfl, below_new hb4 hg6 (Nat.le_refl _) hb4.size⟩
end Go.Proofs.YtdjhempfpgcigaaDoor
