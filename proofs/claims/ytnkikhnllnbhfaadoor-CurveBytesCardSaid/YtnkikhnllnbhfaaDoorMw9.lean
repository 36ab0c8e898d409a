/-
  Mw9.
-/
import Derived.Test.YtnkikhnllnbhfaaDoorMw8
namespace Go.Proofs.YtnkikhnllnbhfaaDoor
open Go.RowKit
def bitP (x : P4) (j : Nat) : Nat := x.limb (j / 64) / 2 ^ (j % 64) % 2
theorem limb_at (x : P4) (k : Nat) (hk : k < 4) : ([.int .u64 (x.a : Int), .int .u64 (x.b : Int), .int .u64 (x.c : Int), .int .u64 (x.d : Int)] : List Value)[k]? = some (.int .u64 (x.limb k : Int)) := by
  obtain rfl | rfl | rfl | rfl : k = 0 ∨ k = 1 ∨ k = 2 ∨ k = 3 := by omega
  all_goals rfl
theorem bit_val (x : P4) (j : Nat) (hx : x.ok) : wrap64 (bits .and .u64 ((x.limb (j / 64) : Int) / 2 ^ (j % 64)) 1) = (bitP x j : Int) := by
  have e : ((x.limb (j / 64) : Int) / 2 ^ (j % 64)) = ((x.limb (j / 64) / 2 ^ (j % 64) : Nat) : Int) := by push_cast; rfl
  have hlt : x.limb (j / 64) / 2 ^ (j % 64) < 18446744073709551616 := Nat.lt_of_le_of_lt (Nat.div_le_self _ _) (limb_lt hx _)
  rw [e, bits_and1 _ hlt]
  unfold wrap64 bitP
  omega
set_option maxRecDepth 100000 in
set_option maxHeartbeats 400000 in
theorem Bit_in (x : P4) (j : Nat) (w : World) (hx : x.ok) (hj : j < 256) : Calls Tryd.prog 57 #[.agg #[.int .u64 (x.a : Int), .int .u64 (x.b : Int), .int .u64 (x.c : Int), .int .u64 (x.d : Int)], .int .i64 (j : Int)] w fun e w' => e = .returned (.int .i64 (bitP x j : Int)) ∧ Below w.heap.size w w' := by
  have h1 : decide ((j : Int) < 0) = false := by simp
  have h2 : decide ((255 : Int) < (j : Int)) = false := by simp; omega
  have hL := limb_at x (j / 64) (by omega)
  go_enter Tryd.func57, Tryd.ntmps57
  go_wp2
  rw [bit_val x j hx]
  go_ret
  exact ⟨rfl, (Below.refl _ _).alloc (Nat.le_refl _) _⟩
set_option maxRecDepth 100000 in
set_option maxHeartbeats 400000 in
theorem Bit_out (x : P4) (i : Int) (w : World) (hi : i < 0 ∨ 255 < i) : Calls Tryd.prog 57 #[.agg #[.int .u64 (x.a : Int), .int .u64 (x.b : Int), .int .u64 (x.c : Int), .int .u64 (x.d : Int)], .int .i64 i] w fun e w' => e = .returned (.int .i64 0) ∧ Below w.heap.size w w' := by
  by_cases h : i < 0
  · have h1 : decide (i < 0) = true := by simp [h]
    go_enter Tryd.func57, Tryd.ntmps57
    go_wp2
    go_ret
    exact ⟨rfl, (Below.refl _ _).alloc (Nat.le_refl _) _⟩
  · have h1 : decide (i < 0) = false := by simp; omega
    have h2 : decide (255 < i) = true := by simp; omega
    go_enter Tryd.func57, Tryd.ntmps57
    go_wp2
    go_ret
    exact ⟨rfl, (Below.refl _ _).alloc (Nat.le_refl _) _⟩
set_option maxRecDepth 100000 in
set_option maxHeartbeats 400000 in
theorem Less_any (x y : P4) (w : World) : Calls Tryd.prog 51 #[.agg #[.int .u64 (x.a : Int), .int .u64 (x.b : Int), .int .u64 (x.c : Int), .int .u64 (x.d : Int)], .agg #[.int .u64 (y.a : Int), .int .u64 (y.b : Int), .int .u64 (y.c : Int), .int .u64 (y.d : Int)]] w fun e w' => e = .returned (.bool (lessP x y)) ∧ Below w.heap.size w w' := by
  go_enter Tryd.func51, Tryd.ntmps51
  go_wp2
  have hX : Blk ((w.alloc (.cells #[.int .u64 (x.a : Int), .int .u64 (x.b : Int), .int .u64 (x.c : Int), .int .u64 (x.d : Int)] 59)).alloc (.cells #[.int .u64 (y.a : Int), .int .u64 (y.b : Int), .int .u64 (y.c : Int), .int .u64 (y.d : Int)] 59)) w.heap.size 59 [.int .u64 (x.a : Int), .int .u64 (x.b : Int), .int .u64 (x.c : Int), .int .u64 (x.d : Int)] := (Blk.new_of w _ _ _ rfl).alloc _
  have hY : Blk ((w.alloc (.cells #[.int .u64 (x.a : Int), .int .u64 (x.b : Int), .int .u64 (x.c : Int), .int .u64 (x.d : Int)] 59)).alloc (.cells #[.int .u64 (y.a : Int), .int .u64 (y.b : Int), .int .u64 (y.c : Int), .int .u64 (y.d : Int)] 59)) (w.heap.size + 1) 59 [.int .u64 (y.a : Int), .int .u64 (y.b : Int), .int .u64 (y.c : Int), .int .u64 (y.d : Int)] := Blk.new2_of w _ _ _ _ rfl
  have hb0 := fresh_two w (.cells #[.int .u64 (x.a : Int), .int .u64 (x.b : Int), .int .u64 (x.c : Int), .int .u64 (x.d : Int)] 59) (.cells #[.int .u64 (y.a : Int), .int .u64 (y.b : Int), .int .u64 (y.c : Int), .int .u64 (y.d : Int)] 59)
  generalize (w.alloc (.cells #[.int .u64 (x.a : Int), .int .u64 (x.b : Int), .int .u64 (x.c : Int), .int .u64 (x.d : Int)] 59)).alloc (.cells #[.int .u64 (y.a : Int), .int .u64 (y.b : Int), .int .u64 (y.c : Int), .int .u64 (y.d : Int)] 59) = w1 at *
  have lX := hX.lt
  have lY := hY.lt
  have hx4 := fun (V : World) (h : Below w1.heap.size w1 V) => (hX.below h lX).four
  have hy4 := fun (V : World) (h : Below w1.heap.size w1 V) => (hY.below h lY).four
  apply wp_region_once (D := [[], [0], [], [0, 1, 2], [0, 1, 2, 3], [0, 1, 2, 3, 4]]) (J := [[], [0], [], [2], [1, 3], [4]]) (Je := [5]) (Rs := [Is _, Is _, Is _, Is _, Is _, Is _])
  · kernel_rfl
  · kernel_rfl
  · kernel_rfl
  · kernel_rfl
  · kernel_rfl
  · kernel_rfl
  · intro u
    simp only [List.map_cons, List.map_nil, fillU, List.setIfInBounds_toArray, List.set_cons_zero, List.set_cons_succ, Nat.zero_add, Nat.reduceAdd]
    exact rfl
  · skip
    refine ⟨fun u W hb hd K hK => ?_, ?_⟩
    · clear hd
      go_simp
      apply hK
      · simp only [Act.put, List.setIfInBounds_toArray, List.set_cons_zero, List.set_cons_succ]
        exact rfl
      · exact Below.refl _ _
      · exact IsOut
    refine ⟨fun u W hb hd K hK => ?_, ?_⟩
    · simp only [Facts, nthR, Is, and_true] at hd
      simp only [hd] at hK ⊢
      clear hd
      go_simp
      refine (parts_any x W).mono ?_
      rintro e wy ⟨rfl, hby⟩
      exact hK _ _ _ rfl hby IsOut
    refine ⟨fun u W hb hd K hK => ?_, ?_⟩
    · clear hd
      go_simp
      apply hK
      · simp only [Act.put, List.setIfInBounds_toArray, List.set_cons_zero, List.set_cons_succ]
        exact rfl
      · exact Below.refl _ _
      · exact IsOut
    refine ⟨fun u W hb hd K hK => ?_, ?_⟩
    · simp only [Facts, nthR, Is, and_true] at hd
      simp only [hd] at hK ⊢
      clear hd
      go_simp
      refine (parts_any y W).mono ?_
      rintro e wy ⟨rfl, hby⟩
      exact hK _ _ _ rfl hby IsOut
    refine ⟨fun u W hb hd K hK => ?_, ?_⟩
    · simp only [Facts, nthR, Is, and_true] at hd
      simp only [hd] at hK ⊢
      clear hd
      go_simp
      refine (less_any x y W).mono ?_
      rintro e wy ⟨rfl, hby⟩
      exact hK _ _ _ rfl hby IsOut
    refine ⟨fun u W hb hd K hK => ?_, ?_⟩
    · simp only [Facts, nthR, Is, and_true] at hd
      simp only [hd] at hK ⊢
      clear hd
      go_simp
      apply hK
      · simp only [Act.put, List.setIfInBounds_toArray, List.set_cons_zero, List.set_cons_succ]
        exact rfl
      · exact Below.refl _ _
      · exact IsOut
    exact trivial
  · exact (.is (.is (.is (.is (.is (.is .nil))))))
  · intro u W hb hd
    simp only [Facts, nthR, Is, and_true] at hd
    simp only [hd]
    replace hb0 := hb0.trans (hb.mono hb0.size)
    clear hx4 hy4
    go_wp2
    go_ret
    exact ⟨rfl, hb0⟩
theorem info40 : (Tryd.prog.info? 22).map (·.size) = some 32 := by kernel_rfl
def byteP (x : P4) (k : Nat) : UInt8 := UInt8.ofNat (x.limb (3 - k / 8) / 2 ^ (56 - k % 8 * 8))
theorem byteP_val (x : P4) (k : Nat) : ((x.limb (3 - k / 8) : Int) / 2 ^ (56 - k % 8 * 8) % 256) = ((byteP x k).toNat : Int) := by
  unfold byteP
  rw [UInt8.toNat_ofNat', show (2 : Int) ^ (56 - k % 8 * 8) = ((2 ^ (56 - k % 8 * 8) : Nat) : Int) from (Int.natCast_pow 2 _).symm]
  generalize 2 ^ (56 - k % 8 * 8) = p
  rfl
def bsTo (x : P4) : Nat → List UInt8
  | 0 => List.replicate 32 0
  | k + 1 => (bsTo x k).set k (byteP x k)
theorem bsTo_length (x : P4) : ∀ k, (bsTo x k).length = 32
  | 0 => List.length_replicate
  | k + 1 => by rw [bsTo, List.length_set]; exact bsTo_length x k
set_option maxRecDepth 100000 in
set_option maxHeartbeats 400000 in
theorem Bytes_any (x : P4) (w : World) : Calls Tryd.prog 34 #[.agg #[.int .u64 (x.a : Int), .int .u64 (x.b : Int), .int .u64 (x.c : Int), .int .u64 (x.d : Int)]] w fun e w' => e = .returned (.agg ((bsTo x 32).map B8).toArray) ∧ Below w.heap.size w w' := by
  go_enter Tryd.func34, Tryd.ntmps34
  go_wp2
  have hX : Blk (((w.alloc (.cells #[.int .u64 (x.a : Int), .int .u64 (x.b : Int), .int .u64 (x.c : Int), .int .u64 (x.d : Int)] 59)).alloc (.cells #[.int .u8 0, .int .u8 0, .int .u8 0, .int .u8 0, .int .u8 0, .int .u8 0, .int .u8 0, .int .u8 0, .int .u8 0, .int .u8 0, .int .u8 0, .int .u8 0, .int .u8 0, .int .u8 0, .int .u8 0, .int .u8 0, .int .u8 0, .int .u8 0, .int .u8 0, .int .u8 0, .int .u8 0, .int .u8 0, .int .u8 0, .int .u8 0, .int .u8 0, .int .u8 0, .int .u8 0, .int .u8 0, .int .u8 0, .int .u8 0, .int .u8 0, .int .u8 0] 22)).alloc (.cells #[.int .u8 0, .int .u8 0, .int .u8 0, .int .u8 0, .int .u8 0, .int .u8 0, .int .u8 0, .int .u8 0, .int .u8 0, .int .u8 0, .int .u8 0, .int .u8 0, .int .u8 0, .int .u8 0, .int .u8 0, .int .u8 0, .int .u8 0, .int .u8 0, .int .u8 0, .int .u8 0, .int .u8 0, .int .u8 0, .int .u8 0, .int .u8 0, .int .u8 0, .int .u8 0, .int .u8 0, .int .u8 0, .int .u8 0, .int .u8 0, .int .u8 0, .int .u8 0] 22)) w.heap.size 59 [.int .u64 (x.a : Int), .int .u64 (x.b : Int), .int .u64 (x.c : Int), .int .u64 (x.d : Int)] := ((Blk.new_of w _ _ _ rfl).alloc _).alloc _
  have hR : Blk (((w.alloc (.cells #[.int .u64 (x.a : Int), .int .u64 (x.b : Int), .int .u64 (x.c : Int), .int .u64 (x.d : Int)] 59)).alloc (.cells #[.int .u8 0, .int .u8 0, .int .u8 0, .int .u8 0, .int .u8 0, .int .u8 0, .int .u8 0, .int .u8 0, .int .u8 0, .int .u8 0, .int .u8 0, .int .u8 0, .int .u8 0, .int .u8 0, .int .u8 0, .int .u8 0, .int .u8 0, .int .u8 0, .int .u8 0, .int .u8 0, .int .u8 0, .int .u8 0, .int .u8 0, .int .u8 0, .int .u8 0, .int .u8 0, .int .u8 0, .int .u8 0, .int .u8 0, .int .u8 0, .int .u8 0, .int .u8 0] 22)).alloc (.cells #[.int .u8 0, .int .u8 0, .int .u8 0, .int .u8 0, .int .u8 0, .int .u8 0, .int .u8 0, .int .u8 0, .int .u8 0, .int .u8 0, .int .u8 0, .int .u8 0, .int .u8 0, .int .u8 0, .int .u8 0, .int .u8 0, .int .u8 0, .int .u8 0, .int .u8 0, .int .u8 0, .int .u8 0, .int .u8 0, .int .u8 0, .int .u8 0, .int .u8 0, .int .u8 0, .int .u8 0, .int .u8 0, .int .u8 0, .int .u8 0, .int .u8 0, .int .u8 0] 22)) (w.heap.size + 1) 22 ((bsTo x 0).map B8) := (Blk.new2_of w _ _ _ _ (by rfl)).alloc _
  have hB : Blk (((w.alloc (.cells #[.int .u64 (x.a : Int), .int .u64 (x.b : Int), .int .u64 (x.c : Int), .int .u64 (x.d : Int)] 59)).alloc (.cells #[.int .u8 0, .int .u8 0, .int .u8 0, .int .u8 0, .int .u8 0, .int .u8 0, .int .u8 0, .int .u8 0, .int .u8 0, .int .u8 0, .int .u8 0, .int .u8 0, .int .u8 0, .int .u8 0, .int .u8 0, .int .u8 0, .int .u8 0, .int .u8 0, .int .u8 0, .int .u8 0, .int .u8 0, .int .u8 0, .int .u8 0, .int .u8 0, .int .u8 0, .int .u8 0, .int .u8 0, .int .u8 0, .int .u8 0, .int .u8 0, .int .u8 0, .int .u8 0] 22)).alloc (.cells #[.int .u8 0, .int .u8 0, .int .u8 0, .int .u8 0, .int .u8 0, .int .u8 0, .int .u8 0, .int .u8 0, .int .u8 0, .int .u8 0, .int .u8 0, .int .u8 0, .int .u8 0, .int .u8 0, .int .u8 0, .int .u8 0, .int .u8 0, .int .u8 0, .int .u8 0, .int .u8 0, .int .u8 0, .int .u8 0, .int .u8 0, .int .u8 0, .int .u8 0, .int .u8 0, .int .u8 0, .int .u8 0, .int .u8 0, .int .u8 0, .int .u8 0, .int .u8 0] 22)) (w.heap.size + 1 + 1) 22 ((bsTo x 0).map B8) := Blk.new3_of w _ _ _ _ _ (by rfl)
  have hb := fresh_three w (.cells #[.int .u64 (x.a : Int), .int .u64 (x.b : Int), .int .u64 (x.c : Int), .int .u64 (x.d : Int)] 59) (.cells #[.int .u8 0, .int .u8 0, .int .u8 0, .int .u8 0, .int .u8 0, .int .u8 0, .int .u8 0, .int .u8 0, .int .u8 0, .int .u8 0, .int .u8 0, .int .u8 0, .int .u8 0, .int .u8 0, .int .u8 0, .int .u8 0, .int .u8 0, .int .u8 0, .int .u8 0, .int .u8 0, .int .u8 0, .int .u8 0, .int .u8 0, .int .u8 0, .int .u8 0, .int .u8 0, .int .u8 0, .int .u8 0, .int .u8 0, .int .u8 0, .int .u8 0, .int .u8 0] 22) (.cells #[.int .u8 0, .int .u8 0, .int .u8 0, .int .u8 0, .int .u8 0, .int .u8 0, .int .u8 0, .int .u8 0, .int .u8 0, .int .u8 0, .int .u8 0, .int .u8 0, .int .u8 0, .int .u8 0, .int .u8 0, .int .u8 0, .int .u8 0, .int .u8 0, .int .u8 0, .int .u8 0, .int .u8 0, .int .u8 0, .int .u8 0, .int .u8 0, .int .u8 0, .int .u8 0, .int .u8 0, .int .u8 0, .int .u8 0, .int .u8 0, .int .u8 0, .int .u8 0] 22)
  generalize ((w.alloc (.cells #[.int .u64 (x.a : Int), .int .u64 (x.b : Int), .int .u64 (x.c : Int), .int .u64 (x.d : Int)] 59)).alloc (.cells #[.int .u8 0, .int .u8 0, .int .u8 0, .int .u8 0, .int .u8 0, .int .u8 0, .int .u8 0, .int .u8 0, .int .u8 0, .int .u8 0, .int .u8 0, .int .u8 0, .int .u8 0, .int .u8 0, .int .u8 0, .int .u8 0, .int .u8 0, .int .u8 0, .int .u8 0, .int .u8 0, .int .u8 0, .int .u8 0, .int .u8 0, .int .u8 0, .int .u8 0, .int .u8 0, .int .u8 0, .int .u8 0, .int .u8 0, .int .u8 0, .int .u8 0, .int .u8 0] 22)).alloc (.cells #[.int .u8 0, .int .u8 0, .int .u8 0, .int .u8 0, .int .u8 0, .int .u8 0, .int .u8 0, .int .u8 0, .int .u8 0, .int .u8 0, .int .u8 0, .int .u8 0, .int .u8 0, .int .u8 0, .int .u8 0, .int .u8 0, .int .u8 0, .int .u8 0, .int .u8 0, .int .u8 0, .int .u8 0, .int .u8 0, .int .u8 0, .int .u8 0, .int .u8 0, .int .u8 0, .int .u8 0, .int .u8 0, .int .u8 0, .int .u8 0, .int .u8 0, .int .u8 0] 22) = w1 at *
  go_loopw [5] (fun i wr => ∃ k : Nat, k ≤ 32 ∧ i = .int .i64 k ∧ Blk wr (w.heap.size + 1 + 1) 22 ((bsTo x k).map B8) ∧ Blk wr (w.heap.size + 1) 22 ((bsTo x 0).map B8) ∧ Blk wr w.heap.size 59 [.int .u64 (x.a : Int), .int .u64 (x.b : Int), .int .u64 (x.c : Int), .int .u64 (x.d : Int)] ∧ Below w.heap.size w wr) (fun i _ => 32 - (intOf i).toNat)
  case atStart => exact ⟨0, by omega, rfl, hB, hR, hX, hb⟩
  case round =>
    obtain ⟨k, hk, rfl, hB', hR', hX', hb'⟩ := hrel
    clear hB hR hX hb
    by_cases hlt : k < 32
    · have hd2 : decide ((k : Int) < 32) = true := by simp; omega
      have hL := (hX'.cell (3 - k / 8)).trans (limb_at x (3 - k / 8) (by omega))
      have c0 := hB'.at8 k (by rw [bsTo_length]; omega)
      have f0 := hB'.frozen k
      go_wp2
      go_roundw
      case rel =>
        refine ⟨k + 1, by omega, by go_num, ?_, hR'.far (by simp) _, hX'.far (by simp; omega) _, hb'.setCell (by simp; omega) _⟩
        have e : bsTo x (k + 1) = (bsTo x k).set k (byteP x k) := rfl
        rw [e, byteP_val, ← map_set8]
        exact hB'.set_ k _
      case measure => simp [intOf]; omega
    · have hd2 : decide ((k : Int) < 32) = false := by simp; omega
      obtain rfl : k = 32 := by omega
      have l1 := bsTo_length x 32
      have l0 := bsTo_length x 0
      have hi : (Tryd.prog.info? 22).map (·.size) = some ((bsTo x 32).map B8).length := info40.trans (by rw [List.length_map, l1])
      have hlen : ((bsTo x 0).map B8).length = ((bsTo x 32).map B8).length := by rw [List.length_map, List.length_map, l0, l1]
      have h1 := one8 (bsTo x 32)
      obtain ⟨z, hz⟩ : ∃ z, z = (bsTo x 32).map B8 := ⟨_, rfl⟩
      rw [← hz] at hB' hi hlen h1
      have HZ := Lib.hid hz
      clear hz l0 l1
      go_wp2_with (first
        | (refine wpList_load_blk rfl 22 (.tmp 3) rfl (w.heap.size + 1 + 1) rfl 22 _ _ hB' Tryd.underlying22 rfl hi ?_)
        | (refine wpList_store_blk rfl 22 (.tmp 2) (.tmp 22) rfl rfl (w.heap.size + 1) z rfl rfl 22 _ hR' hi hlen h1 ?_; intro w2 hA2 hg2))
      refine bodyPost_ret (v := .agg _) (results_cell_row rfl _ _ (w.heap.size + 1) 22 _ (0, 0) _ rfl hA2.raw Tryd.underlying22 rfl (by rw [hi]; simp)) rfl ⟨by rw [HZ.out], below_new hb' hg2 (by omega) hb'.size⟩
def P4.setLimb (x : P4) (k v : Nat) : P4 := match k with
  | 0 => ⟨v, x.b, x.c, x.d⟩
  | 1 => ⟨x.a, v, x.c, x.d⟩
  | 2 => ⟨x.a, x.b, v, x.d⟩
  | _ => ⟨x.a, x.b, x.c, v⟩
theorem set_limb (x : P4) (k v : Nat) (hk : k < 4) : ([.int .u64 (x.a : Int), .int .u64 (x.b : Int), .int .u64 (x.c : Int), .int .u64 (x.d : Int)] : List Value).set k (.int .u64 (v : Int)) = [.int .u64 ((x.setLimb k v).a : Int), .int .u64 ((x.setLimb k v).b : Int), .int .u64 ((x.setLimb k v).c : Int), .int .u64 ((x.setLimb k v).d : Int)] := by
  obtain rfl | rfl | rfl | rfl : k = 0 ∨ k = 1 ∨ k = 2 ∨ k = 3 := by omega
  all_goals rfl
theorem setLimb_ok {x : P4} (hx : x.ok) (k : Nat) {v : Nat} (hv : v < 18446744073709551616) : (x.setLimb k v).ok := by
  unfold P4.setLimb
  split
  · exact ⟨hv, hx.b, hx.c, hx.d⟩
  · exact ⟨hx.a, hv, hx.c, hx.d⟩
  · exact ⟨hx.a, hx.b, hv, hx.d⟩
  · exact ⟨hx.a, hx.b, hx.c, hv⟩
def pushB (l : Nat) (b : UInt8) : Nat := l * 256 % 18446744073709551616 + b.toNat
theorem pushB_lt (l : Nat) (b : UInt8) : pushB l b < 18446744073709551616 := by have := b.toNat_lt; unfold pushB; omega
theorem pushB_val (l : Nat) (b : UInt8) : bits .or .u64 (IntKind.u64.wrap ((l : Int) * 256)) (IntKind.u64.wrap (b.toNat : Int)) = ((pushB l b : Nat) : Int) := by
  have hb := b.toNat_lt
  have e0 : IntKind.u64.wrap (b.toNat : Int) = (b.toNat : Int) := by rw [IntKind.wrap_u64]; omega
  have e1 : IntKind.u64.wrap ((l : Int) * 256) = ((l * 256 % 18446744073709551616 : Nat) : Int) := by rw [IntKind.wrap_u64]; omega
  rw [e0, e1, u64_or_nat _ _ (by omega) (by omega)]
  have e2 : l * 256 % 18446744073709551616 = 256 * (l % 72057594037927936) := by omega
  have h := Nat.two_pow_add_eq_or_of_lt (i := 8) (b := b.toNat) (by omega) (l % 72057594037927936)
  rw [show (2 : Nat) ^ 8 = 256 by decide] at h
  unfold pushB
  rw [e2, ← h]
def ofTo (bs : List UInt8) : Nat → P4
  | 0 => zeroP
  | k + 1 => (ofTo bs k).setLimb (3 - k / 8) (pushB ((ofTo bs k).limb (3 - k / 8)) (bs.getD k 0))
theorem ofTo_ok (bs : List UInt8) : ∀ k, (ofTo bs k).ok
  | 0 => zeroP_ok
  | k + 1 => setLimb_ok (ofTo_ok bs k) _ (pushB_lt _ _)
theorem index_bytes (n : Nat) (t : TypeId) (L : List UInt8) (hL : L.length = n) (ht : Tryd.prog.underlying t = some (.array n 5)) (k : Nat) (hk : k < n) (W : World) :
    (Instr.index t (.agg (L.map B8).toArray) (.int .i64 (k : Int))).run Tryd.prog W = .ok (.int .u8 (L.getD k 0).toNat) W := by
  simp [Instr.index, asIntOf, run_underlying ht, part, isAgg, run_underlying Tryd.underlying5, List.getD_eq_getElem?_getD, List.getElem?_eq_getElem (show k < L.length by omega)]
  intro h
  omega
set_option maxRecDepth 100000 in
set_option maxHeartbeats 400000 in
theorem Of_any (bs : List UInt8) (w : World) (hl : bs.length = 32) : Calls Tryd.prog 42 #[.agg (bs.map B8).toArray] w fun e w' => e = .returned (.agg #[.int .u64 ((ofTo bs 32).a : Int), .int .u64 ((ofTo bs 32).b : Int), .int .u64 ((ofTo bs 32).c : Int), .int .u64 ((ofTo bs 32).d : Int)]) ∧ Below w.heap.size w w' := by
  have h1 := one8 bs
  have hi : (Tryd.prog.info? 22).map (·.size) = some (bs.map B8).length := info40.trans (by rw [List.length_map, hl])
  have HL := Lib.hid hl
  clear hl
  go_enter Tryd.func42, Tryd.ntmps42
  go_wp2_with (refine wpList_load_blk rfl 22 (.tmp 1) rfl w.heap.size rfl 22 _ _ (((Blk.new_of w 22 _ (bs.map B8) rfl).alloc _).alloc _) Tryd.underlying22 rfl hi ?_)
  have hR : Blk (((w.alloc (.cells (bs.map B8).toArray 22)).alloc (.cells #[.int .u64 0, .int .u64 0, .int .u64 0, .int .u64 0] 59)).alloc (.cells #[.int .u64 0, .int .u64 0, .int .u64 0, .int .u64 0] 59)) (w.heap.size + 1) 59 [.int .u64 0, .int .u64 0, .int .u64 0, .int .u64 0] := (Blk.new2_of w _ _ _ _ rfl).alloc _
  have hB : Blk (((w.alloc (.cells (bs.map B8).toArray 22)).alloc (.cells #[.int .u64 0, .int .u64 0, .int .u64 0, .int .u64 0] 59)).alloc (.cells #[.int .u64 0, .int .u64 0, .int .u64 0, .int .u64 0] 59)) (w.heap.size + 1 + 1) 59 [.int .u64 0, .int .u64 0, .int .u64 0, .int .u64 0] := Blk.new3_of w _ _ _ _ _ rfl
  have hb := fresh_three w (.cells (bs.map B8).toArray 22) (.cells #[.int .u64 0, .int .u64 0, .int .u64 0, .int .u64 0] 59) (.cells #[.int .u64 0, .int .u64 0, .int .u64 0, .int .u64 0] 59)
  generalize ((w.alloc (.cells (bs.map B8).toArray 22)).alloc (.cells #[.int .u64 0, .int .u64 0, .int .u64 0, .int .u64 0] 59)).alloc (.cells #[.int .u64 0, .int .u64 0, .int .u64 0, .int .u64 0] 59) = w1 at *
  go_loopw [7] (fun i wr => ∃ k : Nat, k ≤ 32 ∧ i = .int .i64 k ∧ Blk wr (w.heap.size + 1 + 1) 59 [.int .u64 ((ofTo bs k).a : Int), .int .u64 ((ofTo bs k).b : Int), .int .u64 ((ofTo bs k).c : Int), .int .u64 ((ofTo bs k).d : Int)] ∧ Blk wr (w.heap.size + 1) 59 [.int .u64 0, .int .u64 0, .int .u64 0, .int .u64 0] ∧ Below w.heap.size w wr) (fun i _ => 32 - (intOf i).toNat)
  case atStart => exact ⟨0, by omega, rfl, hB, hR, hb⟩
  case round =>
    obtain ⟨k, hk, rfl, hB', hR', hb'⟩ := hrel
    clear hB hR hb
    by_cases hlt : k < 32
    · have hd2 : decide ((k : Int) < 32) = true := by simp; omega
      have hix := index_bytes 32 22 bs HL.out Tryd.underlying22 k hlt
      have HS : Hid (ofTo bs (k + 1) = (ofTo bs k).setLimb (3 - k / 8) (pushB ((ofTo bs k).limb (3 - k / 8)) (bs.getD k 0))) := Lib.hid rfl
      generalize ofTo bs k = z at *
      generalize bs.getD k 0 = b at *
      have hL := (hB'.cell (3 - k / 8)).trans (limb_at z (3 - k / 8) (by omega))
      have f0 := hB'.frozen (3 - k / 8)
      go_wp2
      go_roundw
      case rel =>
        refine ⟨k + 1, by omega, by go_num, ?_, hR'.far (by simp) _, hb'.setCell (by simp; omega) _⟩
        rw [HS.out, ← set_limb _ _ _ (by omega), pushB_val]
        exact hB'.set_ _ _
      case measure => simp [intOf]; omega
    · have hd2 : decide ((k : Int) < 32) = false := by simp; omega
      obtain rfl : k = 32 := by omega
      obtain ⟨z0, z1, z2, z3⟩ := hB'.four
      go_wp2_with ((with_reducible refine (?_ : wpList _ _ _ (Oper.mk none (.store 59 (.tmp 2) _) _ _ _ _ :: _) _ _)); go_loud (refine wpList_store_blk rfl 59 (.tmp 2) (.tmp 25) rfl rfl (w.heap.size + 1) [.int .u64 ((ofTo bs 32).a : Int), .int .u64 ((ofTo bs 32).b : Int), .int .u64 ((ofTo bs 32).c : Int), .int .u64 ((ofTo bs 32).d : Int)] rfl rfl 59 _ hR' info24 (Eq.trans (b := 4) rfl rfl) (by simp [Value.oneCell']) ?_); intro w4 hR4 hg4)
      refine bodyPost_ret (v := .agg _) (results_cell_row rfl _ _ (w.heap.size + 1) 59 _ (0, 0) _ rfl hR4.raw Tryd.underlying59 rfl info24) rfl ⟨rfl, below_new hb' hg4 (by omega) hb'.size⟩

end Go.Proofs.YtnkikhnllnbhfaaDoor
