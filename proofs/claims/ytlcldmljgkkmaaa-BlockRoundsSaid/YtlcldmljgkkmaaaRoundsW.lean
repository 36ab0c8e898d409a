/-
  The walk of BlockRounds.
-/
import Derived.Test.YtlcldmljgkkmaaaApartW
namespace Go.Proofs.Ytlcldmljgkkmaaa
open Go.RowKit

set_option maxRecDepth 100000 in
set_option maxHeartbeats 4000000 in
theorem rounds_any (key b : List UInt8) (a : Int) (w : World) (l0 : key.length = 32) (l1 : b.length = 16) :
    Calls Try.prog 6 #[.agg (key.map B8).toArray, BV b, .int .i64 a] w fun e w' => e = .returned (.bool true) ∧ Below w.heap.size w w' := by
  have hz : ∀ W : World, (zeroValue 23).run Try.prog W = .ok (BV zero16) W := fun W => by kernel_rfl
  have hEq : ∀ W : World, (Op.equalIn 10000 23 (BV b) (BV b)).run Try.prog W = .ok true W := fun W => by rw [equal_blocks _ _ l1 l1, beq_self_eq_true]
  have hK0 := Blk.new_of w 22 (key.map B8).toArray (key.map B8) rfl
  have hB0 := Blk.new2_of w (.cells (key.map B8).toArray 22) 23 (b.map B8).toArray (b.map B8) rfl
  have hK1 := hK0.alloc (.cells (b.map B8).toArray 23)
  have hbx := ((Below.refl w.heap.size w).alloc (Nat.le_refl _) (.cells (key.map B8).toArray 22)).alloc (by simp) (.cells (b.map B8).toArray 23)
  have HLb := Lib.hid l1
  have HLk := Lib.hid l0
  have HEQ := Lib.hid hEq
  have HF := Lib.hid (keyL_four 8 key)
  obtain ⟨m, hm⟩ : ∃ m : Nat, (m : Int) = IntKind.u64.wrap a % 30 := ⟨(IntKind.u64.wrap a % 30).toNat, by omega⟩
  have hm30 : m < 30 := by omega
  have hu0 : (0 : Int) ≤ IntKind.u64.wrap a := by rw [IntKind.wrap_u64]; omega
  have hm1 : (IntKind.u64.wrap a).tmod 30 = (m : Int) := by rw [Int.tmod_eq_emod_of_nonneg hu0, hm]
  have hm3 : IntKind.i64.wrap (m : Int) = (m : Int) := by rw [IntKind.wrap_i64]; omega
  have hm4 : wrap64 (m : Int) = (m : Int) := by unfold wrap64; omega
  have HM5 := Lib.hid (show wrap64 ((IntKind.u64.wrap a).tmod 30) = (m : Int) by rw [hm1, hm4])
  have HM := Lib.hid hm30
  clear hK0 l0 l1 hm hu0 hm30 hEq hm1 hm3 hm4
  go_enter Try.func6, Try.ntmps6
  go_wp2_with (first
    | (go_at_call 7; go_loud (refine (new_blk (n := 8) hK1 HLk.out (.inr rfl)).mono ?_; rintro e w2 ⟨gk, gr, rfl, hgk, hk, hb2⟩))
    | (refine wpList_load_blk rfl 23 (.tmp 4) rfl (w.heap.size + 1) rfl 23 _ _ (hB0.below hb2 hB0.lt) Try.underlying23 rfl (infoBk.trans (by rw [List.length_map, HLb.out])) ?_)
    | (refine wpList_store_blk rfl 23 (.tmp 9) (.tmp 21) rfl rfl w2.heap.size _ rfl rfl 23 _ (Blk.new_of w2 23 _ (zero16.map B8) (by rfl)) (infoBk.trans (by rw [List.length_map, HLb.out])) (by rw [List.length_map, List.length_map, HLb.out]; rfl) (one8 _) ?_; intro w3 hC hg3))
  have hbw := hbx.trans (hb2.mono hbx.size)
  have hszx := hbw.size
  have hszb := hb2.size
  have hlk := hk.key.lt
  have hlr := hk.rounds.lt
  have hlb := (hB0.below hb2 hB0.lt).lt
  have hB3 := ((hB0.below hb2 hB0.lt).alloc (.cells (zero16.map B8).toArray 23)).grown hg3 (by simp; omega)
  have hk3 : KeyAt w3 gk gr (8 + 7) (keyL 8 key) := ⟨(hk.key.alloc _).grown hg3 (by simp; omega), (hk.rounds.alloc _).grown hg3 (by simp; omega), hk.len⟩
  have hb3 := below_new (hbw.alloc hszx (.cells (zero16.map B8).toArray 23)) hg3 hszx (by simp; omega)
  clear hB0 hk hb2 hbw hg3 hbx hgk hK1
  simp only [HM5.out]
  have hne : w2.heap.size ≠ gk ∧ w2.heap.size ≠ gr ∧ w2.heap.size ≠ w.heap.size + 1 ∧ w.heap.size ≤ w2.heap.size := by omega
  clear hszb hlk hlr hlb
  generalize w2.heap.size = gc at *
  generalize w.heap.size + 1 = gb at *
  go_loopw [10] (fun i wr => ∃ j : Nat, j ≤ m ∧ i = .int .i64 (j : Int) ∧ Blk wr gc 23 ((sealN (keyL 8 key) 15 b j).map B8) ∧ Blk wr gb 23 (b.map B8) ∧ KeyAt wr gk gr (8 + 7) (keyL 8 key) ∧ Below w.heap.size w wr) (fun i _ => m - (intOf i).toNat)
  case atStart => exact ⟨0, Nat.zero_le _, rfl, hC, hB3, hk3, hb3⟩
  case round =>
    clear hC hB3 hk3 hb3
    obtain ⟨j, hj, rfl, hC, hB, hk, hbw⟩ := hrel
    have hm30 := HM.out
    by_cases hlt : j < m
    · have hd : decide (j < m) = true := by simp; omega
      have hseal := seal_any gk gr 15 (keyL 8 key) (sealN (keyL 8 key) 15 b j) wr hk (by omega) (by omega) (sealN_length HLb.out j)
      have HE : Hid (sealS (keyL 8 key) 15 (sealN (keyL 8 key) 15 b j) = sealN (keyL 8 key) 15 b (j + 1)) := Lib.hid rfl
      have HSL := Lib.hid (sealN_length (L := keyL 8 key) (R := 15) HLb.out j)
      have HSL2 := Lib.hid (sealS_length (keyL 8 key) 15 (sealN (keyL 8 key) 15 b j))
      have HW1 := Lib.hid (show wrap64 ((j : Int) + 1) = ((j + 1 : Nat) : Int) by unfold wrap64; omega)
      have HMS := Lib.hid (down_one hlt)
      have hj1 : j + 1 ≤ m := hlt
      generalize sealS (keyL 8 key) 15 (sealN (keyL 8 key) 15 b j) = c1 at *
      generalize sealN (keyL 8 key) 15 b j = c0 at *
      clear hm30
      go_wp2_with (first
        | (refine wpList_load_blk rfl 23 (.tmp 9) rfl gc rfl 23 _ _ hC Try.underlying23 rfl (infoBk.trans (by rw [List.length_map, HSL.out])) ?_)
        | (go_at_call 9; go_loud (refine hseal.mono ?_; rintro e w4 ⟨rfl, hb4⟩))
        | (refine wpList_store_blk rfl 23 (.tmp 9) (.tmp 29) rfl rfl gc _ rfl rfl 23 _ (hC.below hb4 hC.lt) (infoBk.trans (by rw [List.length_map, HSL2.out])) (by rw [List.length_map, List.length_map, HSL2.out, HSL.out]) (one8 _) ?_; intro w5 hC5 hg5))
      have hB5 := (hB.below hb4 hB.lt).grown hg5 (by simp; omega)
      have hk4 := hk.below hb4
      have hk5 : KeyAt w5 gk gr (8 + 7) (keyL 8 key) := ⟨hk4.key.grown hg5 (by simp; omega), hk4.rounds.grown hg5 (by simp; omega), hk4.len⟩
      have hbw4 := hbw.trans (hb4.mono hbw.size)
      have hb5 := below_new hbw4 hg5 (by omega) hbw4.size
      clear hC hB hk hbw hseal hb4 hg5 hk4 hbw4
      go_roundw
      case rel => exact ⟨j + 1, hj1, by rw [HW1.out], by rw [← HE.out]; exact hC5, hB5, hk5, hb5⟩
      case measure => rw [HW1.out]; exact HMS.out
    · have hd : decide (j < m) = false := by simp; omega
      obtain rfl : j = m := by omega
      go_wp2
      clear hd hlt hj hm30
      go_loopw [11] (fun i wr => ∃ t : Nat, t ≤ j ∧ i = .int .i64 (t : Int) ∧ Blk wr gc 23 ((sealN (keyL 8 key) 15 b (j - t)).map B8) ∧ Blk wr gb 23 (b.map B8) ∧ KeyAt wr gk gr (8 + 7) (keyL 8 key) ∧ Below w.heap.size w wr) (fun i _ => j - (intOf i).toNat)
      case atStart => exact ⟨0, Nat.zero_le _, rfl, hC, hB, hk, hbw⟩
      case round =>
        clear hC hB hk hbw
        obtain ⟨t, ht, rfl, hC, hB, hk, hbw⟩ := hrel
        have hm30 := HM.out
        by_cases hlt : t < j
        · have hd : decide (t < j) = true := by simp; omega
          obtain ⟨n, hn⟩ : ∃ n, j - t = n + 1 := ⟨j - t - 1, by omega⟩
          have HN := Lib.hid (show j - (t + 1) = n by omega)
          rw [hn] at hC
          have hopen := open_any gk gr 15 (keyL 8 key) (sealN (keyL 8 key) 15 b (n + 1)) wr hk (by omega) (by omega) (sealN_length HLb.out (n + 1))
          rw [open_sealN HF.out (by omega) HLb.out n] at hopen
          have HSL := Lib.hid (sealN_length (L := keyL 8 key) (R := 15) HLb.out (n + 1))
          have HSL2 := Lib.hid (sealN_length (L := keyL 8 key) (R := 15) HLb.out n)
          have HW1 := Lib.hid (show wrap64 ((t : Int) + 1) = ((t + 1 : Nat) : Int) by unfold wrap64; omega)
          have HMS := Lib.hid (down_one hlt)
          have ht1 : t + 1 ≤ j := hlt
          obtain ⟨c0, hc0⟩ : ∃ c0, c0 = sealN (keyL 8 key) 15 b (n + 1) := ⟨_, rfl⟩
          obtain ⟨c1, hc1⟩ : ∃ c1, c1 = sealN (keyL 8 key) 15 b n := ⟨_, rfl⟩
          rw [← hc0] at hopen hC HSL
          rw [← hc1] at hopen HSL2
          have HE := Lib.hid hc1
          clear hm30 hn hc0 hc1
          go_wp2_with (first
            | (refine wpList_load_blk rfl 23 (.tmp 9) rfl gc rfl 23 _ _ hC Try.underlying23 rfl (infoBk.trans (by rw [List.length_map, HSL.out])) ?_)
            | (go_at_call 11; go_loud (refine hopen.mono ?_; rintro e w4 ⟨rfl, hb4⟩))
            | (refine wpList_store_blk rfl 23 (.tmp 9) (.tmp 37) rfl rfl gc _ rfl rfl 23 _ (hC.below hb4 hC.lt) (infoBk.trans (by rw [List.length_map, HSL2.out])) (by rw [List.length_map, List.length_map, HSL2.out, HSL.out]) (one8 _) ?_; intro w5 hC5 hg5))
          have hB5 := (hB.below hb4 hB.lt).grown hg5 (by simp; omega)
          have hk4 := hk.below hb4
          have hk5 : KeyAt w5 gk gr (8 + 7) (keyL 8 key) := ⟨hk4.key.grown hg5 (by simp; omega), hk4.rounds.grown hg5 (by simp; omega), hk4.len⟩
          have hbw4 := hbw.trans (hb4.mono hbw.size)
          have hb5 := below_new hbw4 hg5 (by omega) hbw4.size
          clear hC hB hk hbw hopen hb4 hg5 hk4 hbw4
          go_roundw
          case rel => exact ⟨t + 1, ht1, by rw [HW1.out], by rw [HN.out, ← HE.out]; exact hC5, hB5, hk5, hb5⟩
          case measure => rw [HW1.out]; exact HMS.out
        · have hd : decide (t < j) = false := by simp; omega
          obtain rfl : t = j := by omega
          rw [Nat.sub_self] at hC
          change Blk wr gc 23 (b.map B8) at hC
          have hEq := HEQ.out
          clear hk
          go_wp2_with (first
            | (go_at_call 8; go_loud (refine (blocks_any _).mono ?_; rintro e w6 ⟨rfl, hb6⟩; have hC6 := hC.below hb6 hC.lt; have hB6 := hB.below hb6 hB.lt))
            | (refine wpList_step fun K hK => ?_; rw [if_pos (by rfl)]; refine wp_load_mid 23 (.tmp 9) rfl gc 0 rfl (b.map B8) _ (rangeAt_blk hC6) Try.underlying23 rfl (infoBk.trans (by rw [List.length_map, HLb.out])) ?_; refine hK _ _ ?_)
            | (refine wpList_step fun K hK => ?_; rw [if_pos (by rfl)]; refine wp_load_mid 23 (.tmp 4) rfl gb 0 rfl (b.map B8) _ (rangeAt_blk hB6) Try.underlying23 rfl (infoBk.trans (by rw [List.length_map, HLb.out])) ?_; refine hK _ _ ?_))
          have hbF := hbw.trans (hb6.mono hbw.size)
          go_ret
          exact ⟨rfl, hbF⟩
end Go.Proofs.Ytlcldmljgkkmaaa
