/-
  The walk of the statement HashRows.
-/
import Derived.Test.YtdpfcbkmkmccgaaDoorEnds
namespace Go.Proofs.YtdpfcbkmkmccgaaDoor
open Go.RowKit

/-- The same bytes so often. -/
def repB (b : List UInt8) (k : Nat) : List UInt8 := (List.replicate k b).flatten
theorem repB_succ (b : List UInt8) (k : Nat) : repB b (k + 1) = repB b k ++ b := by
  unfold repB
  rw [List.replicate_succ', List.flatten_append]; simp
theorem repB_length (b : List UInt8) (k : Nat) : (repB b k).length = k * b.length := by
  unfold repB; simp

set_option maxRecDepth 100000 in
set_option maxHeartbeats 2000000 in
theorem hashRows_walk (A : Option Addr) (c : Nat) (xb : List UInt8) (n0 a0 : Int) (w : World) (ib : In w w.heap.size A c xb) (ht : Tabs w) :
    Calls Tryd.prog 7 #[.slice A xb.length c, .int .i64 n0, .int .i64 a0] w fun e w' => e = .returned (.bool true) ∧ Below w.heap.size w w' := by
  have ht0 := ht.lt0
  have ht1 := ht.lt1
  have mb : min (xb.length : Int) 40 = ((xb.take 40).length : Int) := by rw [List.length_take]; omega
  have jb := ib.take 40
  have lb2 : (xb.take 40).length ≤ 40 := by rw [List.length_take]; omega
  have lb3 : (xb.take 40).length ≤ xb.length := by rw [List.length_take]; omega
  obtain ⟨hb, hcb, _⟩ := ib
  have kb := jb.1
  generalize xb.take 40 = yb at *
  obtain ⟨m, hm⟩ : ∃ m : Nat, IntKind.u64.wrap n0 = (m : Int) := ⟨_, u64_wrap_nat n0⟩
  obtain ⟨ma, hma⟩ : ∃ m : Nat, IntKind.u64.wrap a0 = (m : Int) := ⟨_, u64_wrap_nat a0⟩
  obtain ⟨N, hN⟩ : ∃ N : Nat, (m : Int) % 20 = (N : Int) := ⟨m % 20, by omega⟩
  obtain ⟨Na, hNa⟩ : ∃ N : Nat, (ma : Int) % 20 = (N : Int) := ⟨ma % 20, by omega⟩
  have hN4 : N < 20 := by omega
  have hNa4 : Na < 20 := by omega
  go_enter Tryd.func7, Tryd.ntmps7
  go_wp2_with fail
  clear mb
  refine (new_any _).mono ?_
  rintro e w1 ⟨rfl, hs1, hb1⟩
  have hs1' := HeldN.new hs1
  have hl1 := hs1'.lt
  clear hs1
  go_wp2
  go_loopw [7, 8, 9, 10] (fun s c' al i wr => ∃ (k g gc : Nat), k ≤ N ∧ i = .int .i64 (k : Int) ∧ s = .pointer (some ⟨g, 0, none⟩) ∧ c' = .pointer (some ⟨gc, 0, none⟩) ∧ al = .string ⟨(repB yb k).toArray⟩ ∧ HeldN wr g 71 (repB yb k) ∧ Below w.heap.size w wr ∧ w.heap.size ≤ g ∧ g < wr.heap.size) (fun _ _ _ i _ => N - (intOf i).toNat)
  case atStart => exact ⟨0, w.heap.size, w.heap.size, by omega, rfl, rfl, rfl, rfl, hs1', hb1, Nat.le_refl _, hl1⟩
  case round =>
    clear hs1' hb1 hl1
    obtain ⟨k, g, gc, hk, rfl, rfl, rfl, rfl, hs, hb1, hg0, hl1⟩ := hrel
    by_cases hlt : k < N
    · have hlt2 : (k : Int) < (N : Int) := by omega
      by_cases hat : k = Na
      · have hat2 : ((k : Int) == (Na : Int)) = true := by simp [hat]
        have hat3 : (k : Int) = (Na : Int) := by omega
        have HAT := Lib.hid hat
        clear hat hat3
        go_wp2_with fail
        refine (Copy_any g (repB yb k) _ hs).mono ?_
        rintro e w2 ⟨rfl, hs2, hb2⟩
        have hl2 := hs2.lt
        have hb12 := hb1.trans (hb2.mono hb1.size)
        go_wp2_with fail
        refine (Put_any wr.heap.size 1 _ (repB yb k) [yb] _ (by rw [repB_length]; simp only [List.flatten_cons, List.flatten_nil, List.append_nil]; have := Nat.mul_le_mul (show k ≤ 20 by omega) lb2; omega) (by simp) (by omega) (parts1 27 (jb.below hb12) (by omega) (by have := hb1.size; omega)) (hs2.alloc _) ((ht.below hb12).below ((Below.refl _ _).alloc (Nat.le_refl _) _)) (by have := hb1.size; omega) (by have := hb1.size; omega)).mono ?_
        rintro e w4 ⟨rfl, hg4, hh4⟩
        have hs4 := HeldN.of_held hh4
        have hb4 := below_new (hb12.alloc hb12.size _) hg4 (by have := hb1.size; omega) (by simp; have := hb12.size; omega)
        simp only [List.flatten_cons, List.flatten_nil, List.append_nil] at hs4
        have hl4 := hs4.lt
        clear hh4 hg4
        have hi4 := (jb.below hb4).src (g := w4.heap.size) (by have := hb4.size; omega)
        have hcl : (repB yb k).length + yb.length ≤ 1099511627776 := by rw [repB_length]; have := Nat.mul_le_mul (show k ≤ 20 by omega) lb2; omega
        go_wp2_with ((with_reducible refine (?_ : wpList _ _ _ (Oper.mk (some 44) _ _ _ _ _ :: _) _ _)); go_loud (refine wpList_string_of rfl (.tmp 43) rfl yb A c w4.heap.size rfl hi4 ?_))
        go_roundw
        case rel =>
          refine ⟨k + 1, wr.heap.size, g, by omega, by go_num, rfl, rfl, by rw [repB_succ, bytes_append], ?_, hb4, by have := hb1.size; omega, by omega⟩
          rw [repB_succ]
          exact hs4
        case measure => simp [intOf]; omega
      · have hat2 : ((k : Int) == (Na : Int)) = false := by simp; omega
        go_wp2_with fail
        refine (Put_any g 1 _ (repB yb k) [yb] _ (by rw [repB_length]; simp only [List.flatten_cons, List.flatten_nil, List.append_nil]; have := Nat.mul_le_mul (show k ≤ 20 by omega) lb2; omega) (by simp) (by omega) (parts1 27 (jb.below hb1) (by omega) (by omega)) (hs.alloc _) ((ht.below hb1).below ((Below.refl _ _).alloc (Nat.le_refl _) _)) (by omega) (by omega)).mono ?_
        rintro e w4 ⟨rfl, hg4, hh4⟩
        have hs4 := HeldN.of_held hh4
        have hb4 := below_new (hb1.alloc hb1.size _) hg4 (by omega) (by simp; have := hb1.size; omega)
        simp only [List.flatten_cons, List.flatten_nil, List.append_nil] at hs4
        have hl4 := hs4.lt
        clear hh4 hg4
        have hi4 := (jb.below hb4).src (g := w4.heap.size) (by have := hb4.size; omega)
        have hcl : (repB yb k).length + yb.length ≤ 1099511627776 := by rw [repB_length]; have := Nat.mul_le_mul (show k ≤ 20 by omega) lb2; omega
        go_wp2_with ((with_reducible refine (?_ : wpList _ _ _ (Oper.mk (some 44) _ _ _ _ _ :: _) _ _)); go_loud (refine wpList_string_of rfl (.tmp 43) rfl yb A c w4.heap.size rfl hi4 ?_))
        go_roundw
        case rel =>
          refine ⟨k + 1, g, gc, by omega, by go_num, rfl, rfl, by rw [repB_succ, bytes_append], ?_, hb4, by omega, by omega⟩
          rw [repB_succ]
          exact hs4
        case measure => simp [intOf]; omega
    · have hlt2 : ¬ (k : Int) < (N : Int) := by omega
      have hal : (repB yb k).length ≤ 1000 := by rw [repB_length]; have := Nat.mul_le_mul (show k ≤ 20 by omega) lb2; omega
      generalize repB yb k = al at *
      have HAL := Lib.hid hal
      clear hal lb2 lb3
      go_wp2_with fail
      refine (Sum_held g _ _ (by have := HAL.out; omega) hs (ht.below hb1)).mono ?_
      rintro e w4 ⟨rfl, hb4⟩
      have hb5 := hb1.trans (hb4.mono hb1.size)
      have hs5 := hs.below hb4
      have hz5 := hb5.size
      have hl5 := hs5.lt
      clear hb1 hb4 hs hl1
      obtain ⟨y, hy⟩ : ∃ y, y = sha al := ⟨_, rfl⟩
      have hyl : y.length = 32 := by rw [hy]; exact sha_length _
      rw [← hy]
      have HY := Lib.hid hy
      have HYL := Lib.hid hyl
      clear hy hyl
      go_wp2_with (refine wpList_store_blk rfl 24 (.tmp 11) (.tmp 47) rfl rfl w4.heap.size _ rfl rfl 24 _ (Blk.new_of w4 24 _ ((List.replicate 32 (0 : UInt8)).map B8) (by rfl)) (info32.trans (by rw [List.length_map, HYL.out])) (by rw [List.length_map, List.length_map, HYL.out]; rfl) (one8 _) ?_; intro w6 hS6 hg6)
      have hs6 := (hs5.alloc _).grown hg6 (by omega)
      have hb6 := below_new (hb5.alloc hb5.size _) hg6 hb5.size (by simp; omega)
      have hl6 := hs6.lt
      clear hg6 hb5 hs5
      have hlt6 : w4.heap.size < w6.heap.size := hS6.lt
      have HS0 := Lib.hid (show w6.drew.rangeAt w4.heap.size 0 (y.map B8) ∧ Below w6.heap.size w6 w6.drew from ⟨rangeAt_of_blk hS6.drew, below_drewN (Below.refl _ _) 1⟩)
      have HT := Lib.hid (fun (W : World) (h : W.rangeAt w4.heap.size 0 (y.map B8) ∧ Below w6.heap.size w6 W) => (ht.below hb6).below h.2)
      have HOf := Lib.hid (fun (W : World) (f : Nat × Nat) (h : World.rangeAt ((W.drew.alloc (.cells (bytesRow ⟨al.toArray⟩ (grownCap W al.length 0 5)) 5 f)).alloc (.cells #[.slice (some ⟨W.heap.size, 0, none⟩) al.length (grownCap W al.length 0 5)] 27)) w4.heap.size 0 (y.map B8) ∧ Below w6.heap.size w6 ((W.drew.alloc (.cells (bytesRow ⟨al.toArray⟩ (grownCap W al.length 0 5)) 5 f)).alloc (.cells #[.slice (some ⟨W.heap.size, 0, none⟩) al.length (grownCap W al.length 0 5)] 27))) => by
        have := of_string al W (by have := HAL.out; omega) f (HT.out _ h)
        rw [← HY.out] at this
        exact this)
      have HRef := Lib.hid (fun (W : World) => by
        have := refSum_any al W (by have := HAL.out; omega)
        rw [← HY.out] at this
        exact this)
      have HSz := Lib.hid (fun (W : World) (h : W.rangeAt w4.heap.size 0 (y.map B8) ∧ Below w6.heap.size w6 W) => Size_any g al W (by have := HAL.out; omega) (hs6.below h.2))
      have hq1 := eq32 y HYL.out
      have hcv1 := fun (W : World) (h : W.rangeAt w4.heap.size 0 (y.map B8)) => conv_row HYL.out h 32
      have hcv2 := conv_string al
      have hu := Tryd.underlying24
      have hi32 : (Tryd.prog.info? 24).map (·.size) = some (y.map B8).length := info32.trans (by rw [List.length_map, HYL.out])
      have HB6 := Lib.hid hb6
      clear hS6 hb6 ht hs6
      go_region_held (fun w' => w'.rangeAt w4.heap.size 0 (y.map B8) ∧ Below w6.heap.size w6 w') (first | assumption | exact HS0.out | exact held_alloc hlt6 (by assumption) _ | exact held_alloc hlt6 (held_drew (by assumption)) _ | exact held_drew (held_alloc hlt6 (by assumption) _) | exact held_step hlt6 (by assumption) (by assumption)) (first
        | (go_at_call 17; refine (sums_any _ (HT.out _ (by assumption))).mono ?_; rintro e w7 ⟨rfl, hb7⟩)
        | (go_at_call 16; refine (HOf.out _ _ (by assumption)).mono ?_; rintro e w7 ⟨rfl, hb7⟩)
        | (go_at_call 23; refine (HSz.out _ (by assumption)).mono ?_; rintro e w7 ⟨rfl, rfl⟩)
        | (go_at_call 18; refine (HRef.out _).mono ?_; rintro e w7 ⟨rfl, hb7⟩))
      have hfin := HB6.out.trans ((by assumption : World.rangeAt _ w4.heap.size 0 (y.map B8) ∧ Below w6.heap.size w6 _).2.mono HB6.out.size)
      go_wp2
      go_ret
      exact ⟨rfl, hfin⟩
end Go.Proofs.YtdpfcbkmkmccgaaDoor
