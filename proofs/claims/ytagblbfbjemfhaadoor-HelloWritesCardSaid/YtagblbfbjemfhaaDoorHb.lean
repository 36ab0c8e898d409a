/-
  Package hello's number: so many bytes of a number, the highest first.
-/
import Derived.Test.YtagblbfbjemfhaaDoorHa
namespace Go.Proofs.YtagblbfbjemfhaaDoor
open Go.RowKit
open HelloMath (numB numB_length vecB vecB_length)

theorem num_ix (k j : Nat) (h : j < k) (hk : k ≤ 4) : ∃ a q : Nat, k - 1 - j = q ∧ wrap64 ((k : Int) - 1) = (a : Int) ∧ wrap64 ((a : Int) - (j : Int)) = (q : Int) ∧ (q : Int) < (k : Int) ∧ (0 : Int) ≤ (q : Int) ∧ ((q : Int)).toNat = q ∧ q < k := by
  refine ⟨k - 1, k - 1 - j, rfl, ?_⟩
  unfold wrap64; omega
theorem num_byte (n j : Nat) (x : Int) (hx : ((256 ^ j : Nat) : Int) = x) : ∃ b : UInt8, UInt8.ofNat (n / 256 ^ j) = b ∧ (n : Int) / x % 256 = (b.toNat : Int) := ⟨_, rfl, by rw [← hx]; exact n_byte n (256 ^ j)⟩
set_option maxRecDepth 100000 in
set_option maxHeartbeats 1000000 in
theorem number_e (k n : Nat) (w : World) (hk : k ≤ 4) (hn : n < 4294967296) :
    Calls Tryd.prog 57 #[.int .i64 (k : Int), .int .i64 (n : Int)] w fun e w' => ∃ v, e = .returned v ∧ BufV w' w.heap.size v (numB k n) ∧ Below w.heap.size w w' := by
  have HK := Lib.hid (And.intro hk hn)
  clear hk hn
  have hk0 : (0 : Int) ≤ (k : Int) := by omega
  go_enter Tryd.func57, Tryd.ntmps57
  go_wp2_with ((with_reducible refine (?_ : wpList _ _ _ (Oper.mk (some 8) _ _ _ _ _ :: _) _ _)); go_loud (refine wpList_make_buf rfl rfl (n := k) (c := k) rfl rfl (Nat.le_refl _) (by have := HK.out; omega) ?_); intro g w1 hg hB hb1; clear hg)
  go_loopw [11] (fun i wl => ∃ j : Nat, i = .int .i64 (j : Int) ∧ j ≤ k ∧ Buf wl w.heap.size (some ⟨g, 0, none⟩) k k (List.replicate (k - j) 0 ++ numB j n) ∧ Below w.heap.size w wl) (fun i _ => k - (intOf i).toNat)
  case atStart => exact ⟨0, rfl, Nat.zero_le _, by simpa [numB] using hB, hb1⟩
  case round =>
    obtain ⟨j, rfl, hj, hBj, hbj⟩ := hrel
    clear hB hb1
    by_cases hlt : j < k
    · obtain ⟨a, q, hq, h1, h2, h3, h0, h4, h5⟩ := num_ix k j hlt HK.out.1
      have h7 : j = 0 ∨ j = 1 ∨ j = 2 ∨ j = 3 := by have := HK.out; omega
      have HB := Lib.hid hBj
      clear hj hBj
      rcases h7 with rfl | rfl | rfl | rfl
      · have hlt'' : (0 : Int) < (k : Int) := by omega
        obtain ⟨b, hbe, hbv⟩ := num_byte n 0 1 rfl
        rw [show (n : Int) / 1 = (n : Int) by omega] at hbv
        have HS := Lib.hid (num_set k 0 n hlt)
        rw [hq, hbe] at HS
        replace hbe := Lib.hid hbe
        have h2' : wrap64 (a : Int) = (q : Int) := by simpa using h2
        clear h2 hlt hq
        go_wp2_with ((with_reducible refine (?_ : wpList _ _ _ (Oper.mk none _ _ _ _ _ :: _) _ _)); go_loud (refine wpList_store8 rfl (x := .tmp 24) (y := .tmp 23) rfl (j := q) (b := b) rfl (congrArg (Value.int .u8) hbv) HB.out h5 rfl ?_); intro w3 hB3 hg3; rw [HS.out] at hB3)
        have hb3 := below_new hbj hg3 (HB.out.lt rfl).1 hbj.size
        go_roundw
        case rel => exact ⟨1, rfl, by omega, hB3, hb3⟩
        case measure => simp [intOf]; omega
      · have hlt'' : (1 : Int) < (k : Int) := by omega
        obtain ⟨b, hbe, hbv⟩ := num_byte n 1 256 rfl
        have HS := Lib.hid (num_set k 1 n hlt)
        rw [hq, hbe] at HS
        replace hbe := Lib.hid hbe
        have h2' : wrap64 ((a : Int) - 1) = (q : Int) := h2
        clear h2 hlt hq
        go_wp2_with ((with_reducible refine (?_ : wpList _ _ _ (Oper.mk none _ _ _ _ _ :: _) _ _)); go_loud (refine wpList_store8 rfl (x := .tmp 24) (y := .tmp 23) rfl (j := q) (b := b) rfl (congrArg (Value.int .u8) hbv) HB.out h5 rfl ?_); intro w3 hB3 hg3; rw [HS.out] at hB3)
        have hb3 := below_new hbj hg3 (HB.out.lt rfl).1 hbj.size
        go_roundw
        case rel => exact ⟨2, rfl, by omega, hB3, hb3⟩
        case measure => simp [intOf]; omega
      · have hlt'' : (2 : Int) < (k : Int) := by omega
        obtain ⟨b, hbe, hbv⟩ := num_byte n 2 65536 rfl
        have HS := Lib.hid (num_set k 2 n hlt)
        rw [hq, hbe] at HS
        replace hbe := Lib.hid hbe
        have h2' : wrap64 ((a : Int) - 2) = (q : Int) := h2
        clear h2 hlt hq
        go_wp2_with ((with_reducible refine (?_ : wpList _ _ _ (Oper.mk none _ _ _ _ _ :: _) _ _)); go_loud (refine wpList_store8 rfl (x := .tmp 24) (y := .tmp 23) rfl (j := q) (b := b) rfl (congrArg (Value.int .u8) hbv) HB.out h5 rfl ?_); intro w3 hB3 hg3; rw [HS.out] at hB3)
        have hb3 := below_new hbj hg3 (HB.out.lt rfl).1 hbj.size
        go_roundw
        case rel => exact ⟨3, rfl, by omega, hB3, hb3⟩
        case measure => simp [intOf]; omega
      · have hlt'' : (3 : Int) < (k : Int) := by omega
        obtain ⟨b, hbe, hbv⟩ := num_byte n 3 16777216 rfl
        have HS := Lib.hid (num_set k 3 n hlt)
        rw [hq, hbe] at HS
        replace hbe := Lib.hid hbe
        have h2' : wrap64 ((a : Int) - 3) = (q : Int) := h2
        clear h2 hlt hq
        go_wp2_with ((with_reducible refine (?_ : wpList _ _ _ (Oper.mk none _ _ _ _ _ :: _) _ _)); go_loud (refine wpList_store8 rfl (x := .tmp 24) (y := .tmp 23) rfl (j := q) (b := b) rfl (congrArg (Value.int .u8) hbv) HB.out h5 rfl ?_); intro w3 hB3 hg3; rw [HS.out] at hB3)
        have hb3 := below_new hbj hg3 (HB.out.lt rfl).1 hbj.size
        go_roundw
        case rel => exact ⟨4, rfl, by omega, hB3, hb3⟩
        case measure => simp [intOf]; omega
    · have hlt' : ¬ (j : Int) < (k : Int) := by omega
      obtain rfl : j = k := by omega
      rw [Nat.sub_self, List.replicate_zero, List.nil_append] at hBj
      clear hj hlt
      go_wp2
      go_ret
      exact ⟨_, rfl, ⟨some ⟨g, 0, none⟩, j, by rw [numB_length]; rfl, by rw [numB_length]; exact hBj⟩, hbj⟩
end Go.Proofs.YtagblbfbjemfhaaDoor
