/-
  The contract of the old sum of parts, one behind the other; and of the statements' first question.
-/
import Derived.Test.YtkiogpnjkmdmgaaDoorQEnd
import Derived.Test.YtkiogpnjkmdmgaaDoorSum
import Derived.Lib.SlBytesConst
import Derived.Lib.SmallJoins
namespace Go.Proofs.YtkiogpnjkmdmgaaDoor
open Go.RowKit

set_option maxRecDepth 100000 in
set_option maxHeartbeats 1000000 in
theorem qOf_any (c : Nat) (A : Option Addr) (ps : List (List UInt8)) (w : World) (hn : ps.flatten.length < 549755813888) (hpc : ps.length ≤ c) (hcm : c ≤ 9223372036854775807)
    (hA : ∀ g, w.heap.size ≤ g → Parts w g A ps) (ht : TabsQ w) :
    Calls Tryd.prog 22 #[.slice A ps.length c] w fun e w' => e = .returned (.agg ((md5 ps.flatten).map B8).toArray) ∧ Below w.heap.size w w' := by
  have ht0 := ht.lt0
  have ht1 := ht.lt1
  go_enter Tryd.func22, Tryd.ntmps22
  go_wp2_with fail
  refine (begun_any _).mono ?_
  rintro e w1 ⟨rfl, hs1, hb1⟩
  have hb0 : Below w.heap.size w w1 := ((Below.refl _ _).alloc (Nat.le_refl _) _).trans (hb1.mono (by simp))
  have hA1 := ((Blk.new_of w 41 _ ((List.replicate 16 (0 : UInt8)).map B8) (by rfl))).below hb1 (by simp)
  rw [size_alloc] at hs1 ⊢
  have hsz1 : w.heap.size + 1 < w1.heap.size := by obtain ⟨_, _, _, h⟩ := hs1; exact h.lt
  have hP1 := (hA (w.heap.size + 1) (by omega)).keep (grown_of_below hb0 _)
  have ht2 := ht.below hb0
  clear hb1 ht
  go_wp2
  go_loopw [9] (fun i wr => ∃ k : Nat, k ≤ ps.length ∧ i = .int .i64 k ∧ HeldQ wr (w.heap.size + 1) 72 (ps.take k).flatten ∧ Parts wr (w.heap.size + 1) A ps ∧ TabsQ wr ∧ Blk wr w.heap.size 41 ((List.replicate 16 (0 : UInt8)).map B8) ∧ Below w.heap.size w wr) (fun i _ => ps.length - (intOf i).toNat)
  case atStart => exact ⟨0, by omega, rfl, hs1, hP1, ht2, hA1, hb0⟩
  case round =>
    obtain ⟨k, hk, rfl, hH', hA', ht', hR', hb'⟩ := hrel
    clear hs1 hP1 ht2 hA1 hb0
    by_cases hlt : k < ps.length
    · have hd : decide ((k : Int) < (ps.length : Int)) = true := by simp; omega
      obtain ⟨gp, op, rfl, hne, hj⟩ := hA' (by omega)
      obtain ⟨Aj, cj, hc, h1, h2, h3⟩ := hj k hlt
      have hfl : (ps.take (k + 1)).flatten = (ps.take k).flatten ++ ps.getD k [] := by
        rw [List.take_succ_eq_append_getElem hlt, List.flatten_append, List.getD_eq_getElem?_getD, List.getElem?_eq_getElem hlt]; simp
      have hle : (ps.take k).flatten.length + (ps.getD k []).length ≤ ps.flatten.length := by
        have h := congrArg List.length (congrArg List.flatten (List.take_append_drop (k + 1) ps))
        rw [List.flatten_append, List.length_append, hfl, List.length_append] at h
        omega
      obtain ⟨b, hb⟩ : ∃ b, b = ps.getD k [] := ⟨_, rfl⟩
      rw [← hb] at hc h1 h3 hfl hle
      have HF := Lib.hid hfl
      clear hfl hb hj
      have P := qput_any (w.heap.size + 1) cj Aj _ _ b wr (by omega) h1 h2 h3 hH' ht' (by omega) (by omega)
      go_wp2_with (go_at_call 35; with_reducible refine P.mono ?_; rintro e w2 ⟨rfl, hg2, hh2⟩)
      go_roundw
      case rel => exact ⟨k + 1, by omega, by go_num, by rw [HF.out]; exact hh2, hA'.keep hg2, ht'.grown hg2 (by omega) (by omega), hR'.grown hg2 (by simp), below_new hb' hg2 (by omega) hb'.size⟩
      case measure => simp [intOf]; omega
    · have hd : decide ((k : Int) < (ps.length : Int)) = false := by simp; omega
      rw [List.take_of_length_le (by omega)] at hH'
      have E := qend_any (w.heap.size + 1) 72 ps.flatten wr hn hH' ht' (by omega) (by omega)
      have hl16 := md5_length ps.flatten
      go_wp2_with (first
        | (go_at_call 36; refine E.mono ?_; rintro e w4 ⟨rfl, hg4⟩; have hA4 := hR'.grown hg4 (by simp); have hb4 := below_new hb' hg4 (by omega) hb'.size)
        | (refine wpList_store_blk rfl 41 (.tmp 2) (.tmp 18) rfl rfl w.heap.size _ rfl rfl 41 _ hA4 (infoH.trans (by simp [md5_length])) (by simp [md5_length]) (one8 _) ?_; intro w6 hA6 hg6))
      refine bodyPost_ret (v := .agg _) (results_cell_row rfl _ _ w.heap.size 41 _ (0, 0) _ rfl hA6.raw Tryd.underlying41 rfl (infoH.trans (by simp [md5_length]))) rfl ⟨rfl, below_new hb4 hg6 (Nat.le_refl _) hb4.size⟩
set_option maxRecDepth 100000 in
set_option maxHeartbeats 600000 in
theorem olds_any (w : World) (ht : TabsQ w) :
    Calls Tryd.prog 17 #[] w fun e w' => e = .returned (.bool true) ∧ Below w.heap.size w w' := by
  have ht0 := ht.lt0
  have ht1 := ht.lt1
  have kc := fun (w : World) (C : Array Value) (n c : Nat) => Lib.run_convert_bytes_const (P := Tryd.prog) w 27 5 C n c Tryd.underlying27 Tryd.underlying5
  have kc2 := fun (X : Obj) (C : Array Value) (n c : Nat) => Joins.run_convert_bytes_const_at (P := Tryd.prog) (w.alloc X) 27 5 C n c (w.heap.size + 1) (by simp) Tryd.underlying27 Tryd.underlying5
  go_enter Tryd.func17, Tryd.ntmps17
  go_wp2_with fail
  clear kc kc2
  have hP : ∀ g, w.heap.size + 1 + 1 + 1 ≤ g → Parts (((w.alloc (.cells #[.int .u8 97, .int .u8 98] 5 (2, 3))).alloc (.cells #[.int .u8 99] 5 (1, 2))).alloc (.cells #[.slice (some ⟨w.heap.size, 0, none⟩) 2 2, .slice (some ⟨w.heap.size + 1, 0, none⟩) 1 1] 27)) g (some ⟨w.heap.size + 1 + 1, 0, none⟩) [[97, 98], [99]] := fun g hg _ => by
    refine ⟨w.heap.size + 1 + 1, 0, rfl, by omega, fun j hj => ?_⟩
    have hB := Blk.new3_of w (.cells #[.int .u8 97, .int .u8 98] 5 (2, 3)) (.cells #[.int .u8 99] 5 (1, 2)) 27 #[.slice (some ⟨w.heap.size, 0, none⟩) 2 2, .slice (some ⟨w.heap.size + 1, 0, none⟩) 1 1] _ rfl
    obtain rfl | rfl : j = 0 ∨ j = 1 := by have : j < 2 := hj; omega
    · refine ⟨_, 2, hB.cell 0, by decide, by decide, fun _ => ⟨w.heap.size, 0, rfl, by omega, fun i hi => ?_⟩⟩
      rw [World.cell?_alloc_lt _ _ _ (by simp; omega), World.cell?_alloc_lt _ _ _ (by simp)]
      rw [cell_of_row _ w.heap.size (0 + i) _ _ _ (heap_alloc_new w _)]
      obtain rfl | rfl : i = 0 ∨ i = 1 := by have : i < 2 := hi; omega
      · rfl
      · rfl
    · refine ⟨_, 1, hB.cell 1, by decide, by decide, fun _ => ⟨w.heap.size + 1, 0, rfl, by omega, fun i hi => ?_⟩⟩
      obtain rfl : i = 0 := by have : i < 1 := hi; omega
      rw [World.cell?_alloc_lt _ _ _ (by simp)]
      exact cell_of_row _ (w.heap.size + 1) 0 _ _ _ (heap_alloc2_new w _ _)
  refine (qOf_any 2 _ [[97, 98], [99]] _ (by decide) (by decide) (by decide) ?_ ?_).mono ?_
  · intro g hg; exact hP g (by simpa using hg)
  · exact ht.below ((((Below.refl w.heap.size w).alloc (Nat.le_refl _) _).alloc (by simp) _).alloc (by simp; omega) _)
  rintro e w1 ⟨rfl, hb1⟩
  have e3 : ([[97, 98], [99]] : List (List UInt8)).flatten = [97, 98, 99] := rfl
  rw [e3]
  have hb2 : Below w.heap.size w w1 := ((((Below.refl w.heap.size w).alloc (Nat.le_refl _) _).alloc (by simp) _).alloc (by simp; omega) _).trans (hb1.mono (by simp; omega))
  clear hb1 hP e3
  obtain ⟨X, hX⟩ : ∃ X, X = md5 [97, 98, 99] := ⟨_, rfl⟩
  rw [← hX]
  have hl : X.length = 16 := by rw [hX]; exact md5_length _
  have x0 : X.getD 0 0 = 144 := by rw [hX, md5_abc]; rfl
  have x1 : X.getD 1 0 = 1 := by rw [hX, md5_abc]; rfl
  have x15 : X.getD 15 0 = 114 := by rw [hX, md5_abc]; rfl
  have HL := Lib.hid hl
  have X0 := Lib.hid x0
  have X1 := Lib.hid x1
  have X15 := Lib.hid x15
  clear hX hl x0 x1 x15
  go_wp2_with (refine wpList_store_blk rfl 41 (.tmp 1) (.tmp 7) rfl rfl w1.heap.size _ rfl rfl 41 ((List.replicate 16 (0 : UInt8)).map B8) (Blk.new_of w1 _ _ _ (by rfl)) (infoH.trans (by rw [List.length_map, HL.out])) (by rw [List.length_map, List.length_map, HL.out]; rfl) (one8 _) ?_; intro w2 hs2 hg2; have c0 := hs2.at8 0 (by rw [HL.out]; decide); rw [X0.out] at c0; have c1 := hs2.at8 1 (by rw [HL.out]; decide); rw [X1.out] at c1; have c15 := hs2.at8 15 (by rw [HL.out]; decide); rw [X15.out] at c15)
  go_ret
  exact ⟨rfl, below_new (hb2.alloc hb2.size _) hg2 hb2.size (by have := hb2.size; simp; omega)⟩
end Go.Proofs.YtkiogpnjkmdmgaaDoor
