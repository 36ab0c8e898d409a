/-
  The contract of the schedule of a block: for every block of 64 bytes it returns the 64 words of the standard, and turns nothing that was there.
-/
import Derived.Test.YtdjhempfpgcigaaDoorBits
import Derived.Test.YtdjhempfpgcigaaDoorMem
import Derived.StillTailTactics
import Derived.BigRegion
import Derived.IntWalk
namespace Go.Proofs.YtdjhempfpgcigaaDoor
open Go.RowKit

theorem info64 : (Tryd.prog.info? 60).map (·.size) = some 64 := by kernel_rfl

set_option maxRecDepth 100000 in
set_option maxHeartbeats 400000 in
theorem sched_any (gb ob : Nat) (cap : Nat) (bs : List UInt8) (w : World) (hl : bs.length = 64) (hcap : 64 ≤ cap) (hcm : cap ≤ 9223372036854775807) (hb : Bytes w gb ob bs) :
    Calls Tryd.prog 63 #[.slice (some ⟨gb, ob, none⟩) 64 cap] w fun e w' => e = .returned (.agg ((schedTo bs 64).map U32).toArray) ∧ Below w.heap.size w w' := by
  have hgb := hb.lt (by omega)
  go_enter Tryd.func63, Tryd.ntmps63
  go_wp2
  go_loopw [11] (fun i wr => ∃ k : Nat, k ≤ 16 ∧ i = .int .i64 k ∧ Blk wr (w.heap.size + 1) 60 ((schedTo bs k).map U32) ∧ Blk wr (w.heap.size) 60 ((schedTo bs 0).map U32) ∧ Below (w.heap.size) w wr) (fun i _ => 16 - (intOf i).toNat)
  case atStart => exact ⟨0, by omega, rfl, Blk.new2_of w _ _ _ _ (by rfl), (Blk.new_of w _ _ _ (by rfl)).alloc _, ((Below.refl _ _).alloc (Nat.le_refl _) _).alloc (by simp) _⟩
  case round =>
    obtain ⟨k, hk, rfl, hB, hA, hbl⟩ := hrel
    by_cases hlt : k < 16
    · have hd : decide ((k : Int) < 16) = true := by simp; omega
      have HL := Lib.hid (schedTo_low bs k hlt)
      have hb' := hb.below hbl hgb
      have c0 := hb' (4 * k) (by omega)
      have c1 := hb' (4 * k + 1) (by omega)
      have c2 := hb' (4 * k + 2) (by omega)
      have c3 := hb' (4 * k + 3) (by omega)
      simp only [← Nat.add_assoc] at c1 c2 c3
      clear hb' hb
      have cw := hB.at32 k (by rw [schedTo_length]; omega)
      have cf := hB.frozen k
      go_wp2
      go_still_tail 23, (by kernel_rfl)
      change wpList _ _ _ _ _ wr.drew
      go_wp2
      go_roundw
      case rel =>
        refine ⟨k + 1, by omega, by go_num, ?_, (hA.far (p := ⟨w.heap.size + 1, k, none⟩) (by simp) _).drew, (hbl.setCell (by simp) _).drew⟩
        rw [HL.out, beWord_eq, ← map_set32]
        exact (hB.set_ k _).drew
      case measure => simp [intOf]; omega
    · have hd : decide ((k : Int) < 16) = false := by simp; omega
      have hk16 : k = 16 := by omega
      replace hB : Blk wr (w.heap.size + 1) 60 ((schedTo bs 16).map U32) := hk16 ▸ hB
      clear hlt hk hb hk16
      go_wp2
      obtain ⟨wo, rfl⟩ : ∃ wo : World, wo = wr := ⟨_, rfl⟩
      go_loopw [6] (fun i wr => ∃ k : Nat, 16 ≤ k ∧ k ≤ 64 ∧ i = .int .i64 k ∧ Blk wr (w.heap.size + 1) 60 ((schedTo bs k).map U32) ∧ Blk wr (w.heap.size) 60 ((schedTo bs 0).map U32) ∧ Below (w.heap.size) w wr) (fun i _ => 64 - (intOf i).toNat)
      case atStart => exact ⟨16, by omega, by omega, rfl, hB, hA, hbl⟩
      case round =>
        obtain ⟨k, hk0, hk, rfl, hB, hA, hbl⟩ := hrel
        by_cases hlt : k < 64
        · have hd : decide ((k : Int) < 64) = true := by simp; omega
          have HL := Lib.hid (schedTo_high bs k (by omega))
          have l64 := schedTo_length bs k
          have c15 := hB.at32 (k - 15) (by omega)
          have c2 := hB.at32 (k - 2) (by omega)
          go_wp2
          go_quiet (fail)
          replace hB := hB.drewN nq
          replace hA := hA.drewN nq
          replace hbl := below_drewN hbl nq
          clear c15 c2
          generalize wr.drewN nq = w1 at *
          have c16 := hB.at32 (k - 16) (by omega)
          have c7 := hB.at32 (k - 7) (by omega)
          have cw := hB.at32 k (by omega)
          have cf := hB.frozen k
          clear l64
          go_wp2_with (go_at_call 64; refine (rot_any _ _ _ (by omega) (by omega)).mono ?_; rintro e w' ⟨rfl, rfl⟩)
          go_wp2
          have a1 : IntKind.i64.wrap ((k : Int) - 16) = (k : Int) - 16 := IntWalk.i64_in _ (by omega)
          have a2 : IntKind.i64.wrap ((k : Int) - 7) = (k : Int) - 7 := IntWalk.i64_in _ (by omega)
          have a3 : (0 : Int) ≤ (k : Int) - 16 := by omega
          have a4 : (k : Int) - 16 < 64 := by omega
          have a5 : (0 : Int) ≤ (k : Int) - 7 := by omega
          have a6 : (k : Int) - 7 < 64 := by omega
          have a7 : ((k : Int) - 16).toNat = k - 16 := by omega
          have a8 : ((k : Int) - 7).toNat = k - 7 := by omega
          have b1 : (16 : Int) ≤ (k : Int) := by omega
          have b2 : (7 : Int) ≤ (k : Int) := by omega
          go_still_tail 14, (by kernel_rfl)
          clear a1 a2 a3 a4 a5 a6 a7 a8 b1 b2
          change wpList _ _ _ _ _ w1.drew
          go_wp2
          go_roundw
          case rel =>
            refine ⟨k + 1, by omega, by omega, by go_num, ?_, ?_, ?_⟩
            · rw [HL.out, s0_eq, s1_eq, w_add4, ← map_set32]
              exact (hB.set_ k _).drew
            · exact (hA.far (p := ⟨w.heap.size + 1, k, none⟩) (by simp) _).drew
            · exact (hbl.setCell (by simp) _).drew
          case measure => simp [intOf]; omega
        · have hd : decide ((k : Int) < 64) = false := by simp; omega
          obtain rfl : k = 64 := by omega
          go_wp2_with (first
            | (refine wpList_load_row rfl 60 (.tmp 3) rfl (w.heap.size + 1) rfl 60 _ (0, 0) _ hB.raw Tryd.underlying60 rfl (info64.trans (by simp [schedTo_length])) ?_)
            | (refine wpList_store_row rfl 60 (.tmp 2) (.tmp 89) rfl w.heap.size _ rfl rfl 60 _ hA.raw (info64.trans (by simp [schedTo_length])) (by simp [schedTo_length]) (one32 _) ?_))
          refine bodyPost_ret (v := .agg _) (results_cell_row rfl _ _ w.heap.size 60 _ (0, 0) _ rfl (hA.row _).raw Tryd.underlying60 rfl (info64.trans (by simp [schedTo_length]))) rfl ⟨rfl, below_setRow' hbl (by omega) _⟩
end Go.Proofs.YtdjhempfpgcigaaDoor
