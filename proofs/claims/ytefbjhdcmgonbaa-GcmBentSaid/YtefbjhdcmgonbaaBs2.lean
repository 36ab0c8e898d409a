/-
  The contracts of package block's states: bytes laid and told, rows turned, all bytes turned.
-/
import Derived.Test.YtefbjhdcmgonbaaBs
namespace Go.Proofs.Ytefbjhdcmgonbaa
open Go.RowKit

/-- A block as rows, after k of its bytes. -/
def stTo (b : List UInt8) : Nat → List UInt32
  | 0 => zero4
  | k + 1 => (stTo b k).set (k % 4) (((stTo b k).getD (k % 4) 0 <<< 8) ||| (b.getD k 0).toUInt32)
theorem stTo_length (b : List UInt8) (k : Nat) : (stTo b k).length = 4 := by
  induction k with
  | zero => rfl
  | succ k ih => rw [stTo, List.length_set, ih]
def stateS (b : List UInt8) : List UInt32 := stTo b 16
theorem stateS_length (b : List UInt8) : (stateS b).length = 4 := stTo_length b 16
theorem w_shl8' (x : UInt32) : IntKind.u32.wrap ((x.toNat : Int) * (256 : Int)) = ((x <<< 8).toNat : Int) := by
  rw [IntKind.wrap_u32]; exact w_shl8 x
theorem w_u8 (b : UInt8) : IntKind.u32.wrap (b.toNat : Int) = ((b.toUInt32).toNat : Int) := by
  rw [IntKind.wrap_u32]; exact u8_mod b
theorem tmod4 (k : Nat) : (k : Int).tmod 4 = ((k % 4 : Nat) : Int) := by rw [Int.tmod_eq_emod_of_nonneg (by omega)]; omega
set_option maxRecDepth 100000 in
set_option maxHeartbeats 1000000 in
theorem stateOf_any (b : List UInt8) (hb : b.length = 16) (w : World) :
    Calls Try.prog 37 #[BV b] w fun e w' => e = .returned (SV (stateS b)) ∧ Below w.heap.size w w' := by
  have HB := Lib.hid hb
  clear hb
  have hz : ∀ W : World, (zeroValue 73).run Try.prog W = .ok (SV zero4) W := fun W => by kernel_rfl
  go_enter Try.func37, Try.ntmps37
  go_wp2_with (refine wpList_load_blk rfl 42 (.tmp 1) rfl w.heap.size rfl 42 _ _ (((Blk.new_of w 42 _ (b.map B8) (by rfl)).alloc _).alloc _) Try.underlying42 rfl (infoBk.trans (by rw [List.length_map, HB.out])) ?_)
  go_loopw [7] (fun i wr => ∃ k : Nat, k ≤ 16 ∧ i = .int .i64 (k : Int) ∧ Blk wr (w.heap.size + 1 + 1) 73 ((stTo b k).map U32) ∧ Blk wr (w.heap.size + 1) 73 (zero4.map U32) ∧ Below w.heap.size w wr) (fun i _ => 16 - (intOf i).toNat)
  case atStart => exact ⟨0, by omega, rfl, Blk.new3_of w _ _ _ _ _ (by rfl), (Blk.new2_of w _ _ _ _ (by rfl)).alloc _, (((Below.refl _ _).alloc (Nat.le_refl _) _).alloc (by simp) _).alloc (by simp; omega) _⟩
  case round =>
    obtain ⟨k, hk, rfl, hB, hZ, hbl⟩ := hrel
    by_cases hlt : k < 16
    · have hd : decide ((k : Int) < 16) = true := by simp; omega
      have hix := index_bytes 16 42 b HB.out Try.underlying42 k hlt
      have hl := stTo_length b k
      have e : stTo b (k + 1) = (stTo b k).set (k % 4) (((stTo b k).getD (k % 4) 0 <<< 8) ||| (b.getD k 0).toUInt32) := rfl
      have hm := tmod4 k
      have hr4 : k % 4 < 4 := Nat.mod_lt _ (by decide)
      obtain ⟨r, hr⟩ : ∃ r, r = k % 4 := ⟨_, rfl⟩
      rw [← hr] at e hm hr4
      have hc := hB.at32 r (by rw [hl]; exact hr4)
      have hf := hB.frozen r
      generalize b.getD k 0 = x1 at *
      generalize (stTo b k).getD r 0 = x2 at *
      have HE := Lib.hid e
      have h1 := w_shl8 x2
      have h1' := w_shl8' x2
      have h2 := u8_mod x1
      have h2' := w_u8 x1
      have h3 := w_or (x2 <<< 8) x1.toUInt32
      have hr1 : (r : Int) < 4 := by omega
      have hr0 : (0 : Int) ≤ (r : Int) := by omega
      generalize stTo b k = L at *
      generalize x2 <<< 8 = x3 at *
      generalize x1.toUInt32 = x4 at *
      clear e hl hr
      go_wp2
      go_roundw
      case rel =>
        refine ⟨k + 1, by omega, by go_num, ?_, hZ.far (show w.heap.size + 1 ≠ w.heap.size + 1 + 1 by omega) _, hbl.setCell (show w.heap.size ≤ w.heap.size + 1 + 1 by omega) _⟩
        rw [HE.out, ← map_set32]
        exact hB.set_ r _
      case measure => simp [intOf]; omega
    · have hd : decide ((k : Int) < 16) = false := by simp; omega
      obtain rfl : k = 16 := by omega
      have hXl := stTo_length b 16
      have HXL := Lib.hid hXl
      clear hXl
      go_wp2_with (first
        | (refine wpList_load_blk rfl 73 (.tmp 3) rfl (w.heap.size + 1 + 1) rfl 73 _ _ hB Try.underlying73 rfl (infoSt.trans (by rw [List.length_map, HXL.out])) ?_)
        | (refine wpList_store_blk rfl 73 (.tmp 2) (.tmp 23) rfl rfl (w.heap.size + 1) _ rfl rfl 73 _ hZ (infoSt.trans (by rw [List.length_map, HXL.out])) (by rw [List.length_map, List.length_map, HXL.out]; rfl) (one32 _) ?_; intro w2 hA2 hg2))
      refine bodyPost_ret (v := .agg _) (results_cell_row rfl _ _ (w.heap.size + 1) 73 _ (0, 0) _ rfl hA2.raw Try.underlying73 rfl (infoSt.trans (by rw [List.size_toArray, List.length_map, HXL.out]))) rfl ⟨rfl, below_new hbl hg2 (by omega) hbl.size⟩
/-- Rows as a block. -/
def bytesS (s : List UInt32) : List UInt8 := (List.range 16).map fun i => (s.getD (i % 4) 0 >>> UInt32.ofNat (24 - i / 4 * 8)).toUInt8
theorem bytesS_length (s : List UInt32) : (bytesS s).length = 16 := by simp [bytesS]
theorem bytesS_get (s : List UInt32) (k : Nat) (hk : k < 16) : (bytesS s).getD k 0 = (s.getD (k % 4) 0 >>> UInt32.ofNat (24 - k / 4 * 8)).toUInt8 := by
  simp [bytesS, List.getD_eq_getElem?_getD, hk]
def zero16 : List UInt8 := [0, 0, 0, 0, 0, 0, 0, 0, 0, 0, 0, 0, 0, 0, 0, 0]
theorem w_low8 (x : UInt32) : IntKind.u8.wrap (x.toNat : Int) = ((x.toUInt8).toNat : Int) := by
  rw [IntKind.wrap_u8]; simp
theorem tdiv4 (k : Nat) : (k : Int) / 4 = ((k / 4 : Nat) : Int) := by omega
theorem tdiv4' (k : Nat) : (k : Int).tdiv 4 = ((k / 4 : Nat) : Int) := by rw [Int.tdiv_eq_ediv_of_nonneg (by omega)]; omega
set_option maxRecDepth 100000 in
set_option maxHeartbeats 1000000 in
theorem bytes_any (s : List UInt32) (hs : s.length = 4) (w : World) :
    Calls Try.prog 43 #[SV s] w fun e w' => e = .returned (BV (bytesS s)) ∧ Below w.heap.size w w' := by
  have HS := Lib.hid hs
  have hXl := bytesS_length s
  have hXg := bytesS_get s
  obtain ⟨X, hX⟩ : ∃ X, X = bytesS s := ⟨_, rfl⟩
  rw [← hX] at hXl hXg ⊢
  have HXL := Lib.hid hXl
  have HXG := Lib.hid hXg
  clear hs hXl hXg hX
  have hz : ∀ W : World, (zeroValue 42).run Try.prog W = .ok (BV zero16) W := fun W => by kernel_rfl
  go_enter Try.func43, Try.ntmps43
  go_wp2
  go_loopw [5] (fun i wr => ∃ k : Nat, k ≤ 16 ∧ i = .int .i64 (k : Int) ∧ Blk wr (w.heap.size + 1 + 1) 42 ((X.take k ++ zero16.drop k).map B8) ∧ Blk wr (w.heap.size + 1) 42 (zero16.map B8) ∧ Blk wr w.heap.size 73 (s.map U32) ∧ Below w.heap.size w wr) (fun i _ => 16 - (intOf i).toNat)
  case atStart => exact ⟨0, by omega, rfl, Blk.new3_of w _ _ _ _ _ (by rfl), (Blk.new2_of w _ _ _ _ (by rfl)).alloc _, ((Blk.new_of w 73 _ (s.map U32) (by rfl)).alloc _).alloc _, (((Below.refl _ _).alloc (Nat.le_refl _) _).alloc (by simp) _).alloc (by simp; omega) _⟩
  case round =>
    obtain ⟨k, hk, rfl, hB, hZ, hR, hbl⟩ := hrel
    by_cases hlt : k < 16
    · have hd : decide ((k : Int) < 16) = true := by simp; omega
      have hlen := len_to X zero16 k (by rw [HXL.out]; omega) (by rw [HXL.out]; rfl)
      have hf := hB.frozen k
      have hm := tmod4 k
      have hq := tdiv4 k
      have hq' := tdiv4' k
      have hr4 : k % 4 < 4 := Nat.mod_lt _ (by decide)
      have hq4 : k / 4 < 4 := by omega
      have hc0 := hB.at8 k (by rw [hlen]; exact hlt)
      have hX := HXG.out k hlt
      have hst := set_to X zero16 k 0 (by rw [HXL.out]; omega) hlt
      obtain ⟨r, hr⟩ : ∃ r, r = k % 4 := ⟨_, rfl⟩
      obtain ⟨q, hqq⟩ : ∃ q, q = k / 4 := ⟨_, rfl⟩
      rw [← hr] at hm hr4 hX
      rw [← hqq] at hq hq' hq4 hX
      have hc := hR.at32 r (by rw [HS.out]; exact hr4)
      generalize s.getD r 0 = x at *
      have hr1 : (r : Int) < 4 := by omega
      have hr0 : (0 : Int) ≤ (r : Int) := by omega
      have HST := Lib.hid hst
      generalize X.getD k 0 = x3 at *
      generalize (X.take k ++ zero16.drop k).getD k 0 = x4 at *
      clear hst hlen hr hqq
      generalize X.take k ++ zero16.drop k = L at *
      obtain rfl | rfl | rfl | rfl : q = 0 ∨ q = 1 ∨ q = 2 ∨ q = 3 := by omega
      · have hX' : x3 = (x >>> UInt32.ofNat 24).toUInt8 := hX
        have hsh : (x.toNat : Int) / (16777216 : Int) = ((x >>> UInt32.ofNat 24).toNat : Int) := w_shr x 24 (by decide)
        generalize x >>> UInt32.ofNat 24 = y at *
        have hlo := w_low8 y
        have HX := Lib.hid hX'
        clear hX hX'
        go_wp2
        go_roundw
        case rel =>
          refine ⟨k + 1, by omega, by go_num, ?_, hZ.far (show w.heap.size + 1 ≠ w.heap.size + 1 + 1 by omega) _, hR.far (show w.heap.size ≠ w.heap.size + 1 + 1 by omega) _, hbl.setCell (show w.heap.size ≤ w.heap.size + 1 + 1 by omega) _⟩
          rw [← HST.out, ← map_set8]
          rw [HX.out]
          exact hB.set_ k _
        case measure => simp [intOf]; omega
      · have hX' : x3 = (x >>> UInt32.ofNat 16).toUInt8 := hX
        have hsh : (x.toNat : Int) / (65536 : Int) = ((x >>> UInt32.ofNat 16).toNat : Int) := w_shr x 16 (by decide)
        generalize x >>> UInt32.ofNat 16 = y at *
        have hlo := w_low8 y
        have HX := Lib.hid hX'
        clear hX hX'
        go_wp2
        go_roundw
        case rel =>
          refine ⟨k + 1, by omega, by go_num, ?_, hZ.far (show w.heap.size + 1 ≠ w.heap.size + 1 + 1 by omega) _, hR.far (show w.heap.size ≠ w.heap.size + 1 + 1 by omega) _, hbl.setCell (show w.heap.size ≤ w.heap.size + 1 + 1 by omega) _⟩
          rw [← HST.out, ← map_set8]
          rw [HX.out]
          exact hB.set_ k _
        case measure => simp [intOf]; omega
      · have hX' : x3 = (x >>> UInt32.ofNat 8).toUInt8 := hX
        have hsh : (x.toNat : Int) / (256 : Int) = ((x >>> UInt32.ofNat 8).toNat : Int) := w_shr x 8 (by decide)
        generalize x >>> UInt32.ofNat 8 = y at *
        have hlo := w_low8 y
        have HX := Lib.hid hX'
        clear hX hX'
        go_wp2
        go_roundw
        case rel =>
          refine ⟨k + 1, by omega, by go_num, ?_, hZ.far (show w.heap.size + 1 ≠ w.heap.size + 1 + 1 by omega) _, hR.far (show w.heap.size ≠ w.heap.size + 1 + 1 by omega) _, hbl.setCell (show w.heap.size ≤ w.heap.size + 1 + 1 by omega) _⟩
          rw [← HST.out, ← map_set8]
          rw [HX.out]
          exact hB.set_ k _
        case measure => simp [intOf]; omega
      · have hX' : x3 = (x >>> UInt32.ofNat 0).toUInt8 := hX
        rw [show x >>> UInt32.ofNat 0 = x by simp] at hX'
        have HX := Lib.hid hX'
        clear hX hX'
        go_wp2
        go_roundw
        case rel =>
          refine ⟨k + 1, by omega, by go_num, ?_, hZ.far (show w.heap.size + 1 ≠ w.heap.size + 1 + 1 by omega) _, hR.far (show w.heap.size ≠ w.heap.size + 1 + 1 by omega) _, hbl.setCell (show w.heap.size ≤ w.heap.size + 1 + 1 by omega) _⟩
          rw [← HST.out, ← map_set8]
          have e8 : (x.toNat : Int) % (256 : Int) = ((x.toUInt8).toNat : Int) := by simp
          rw [HX.out, e8]
          exact hB.set_ k _
        case measure => simp [intOf]; omega
    · have hd : decide ((k : Int) < 16) = false := by simp; omega
      obtain rfl : k = 16 := by omega
      rw [List.take_of_length_le (by rw [HXL.out]; omega), List.drop_eq_nil_of_le (show zero16.length ≤ 16 by decide), List.append_nil] at hB
      go_wp2_with (first
        | (refine wpList_load_blk rfl 42 (.tmp 3) rfl (w.heap.size + 1 + 1) rfl 42 _ _ hB Try.underlying42 rfl (infoBk.trans (by rw [List.length_map, HXL.out])) ?_)
        | (refine wpList_store_blk rfl 42 (.tmp 2) (.tmp 21) rfl rfl (w.heap.size + 1) _ rfl rfl 42 _ hZ (infoBk.trans (by rw [List.length_map, HXL.out])) (by rw [List.length_map, List.length_map, HXL.out]; rfl) (one8 _) ?_; intro w2 hA2 hg2))
      refine bodyPost_ret (v := .agg _) (results_cell_row rfl _ _ (w.heap.size + 1) 42 _ (0, 0) _ rfl hA2.raw Try.underlying42 rfl (infoBk.trans (by rw [List.size_toArray, List.length_map, HXL.out]))) rfl ⟨rfl, below_new hbl hg2 (by omega) hbl.size⟩
end Go.Proofs.Ytefbjhdcmgonbaa
