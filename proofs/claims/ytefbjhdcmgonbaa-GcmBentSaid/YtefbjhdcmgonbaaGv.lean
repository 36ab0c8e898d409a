/-
  The contract of package gcm's counts.
-/
import Derived.Test.YtefbjhdcmgonbaaGu
namespace Go.Proofs.Ytefbjhdcmgonbaa
open Go.RowKit

theorem be8_take (c j p : Nat) (hj : j < 8) (hp : p = 56 - 8 * j) : (be8 c).take (j + 1) = (be8 c).take j ++ [UInt8.ofNat (c / 2 ^ p)] := by
  subst hp
  obtain rfl | rfl | rfl | rfl | rfl | rfl | rfl | rfl : j = 0 ∨ j = 1 ∨ j = 2 ∨ j = 3 ∨ j = 4 ∨ j = 5 ∨ j = 6 ∨ j = 7 := by omega
  all_goals simp [be8]
theorem byte_sh (n p : Nat) : Value.int .u8 ((n : Int) / 2 ^ p % 256) = B8 (UInt8.ofNat (n / 2 ^ p)) := by
  have h : ((n : Int) / 2 ^ p % 256) = ((UInt8.ofNat (n / 2 ^ p)).toNat : Int) := by simp
  rw [h]
theorem be8_all (c : Nat) : (be8 c).take 8 = be8 c := rfl
theorem be8_length (c : Nat) : (be8 c).length = 8 := rfl
/-- How many bits each part has. -/
def cntE (ps : List (List UInt8)) : List UInt8 := (ps.map fun p => be8 (p.length * 8)).flatten
theorem cntE_length (ps : List (List UInt8)) : (cntE ps).length = 8 * ps.length := by
  unfold cntE
  induction ps with
  | nil => rfl
  | cons p r ih => simp only [List.map_cons, List.flatten_cons, List.length_append, ih, be8_length, List.length_cons]; omega
theorem cntE_snoc (ps : List (List UInt8)) (k : Nat) (hk : k < ps.length) : cntE (ps.take (k + 1)) = cntE (ps.take k) ++ be8 ((ps.getD k []).length * 8) := by
  unfold cntE
  rw [List.take_succ_eq_append_getElem hk, List.map_append, List.flatten_append]
  simp [List.getD_eq_getElem?_getD, List.getElem?_eq_getElem hk]

set_option maxRecDepth 100000 in
set_option maxHeartbeats 1000000 in
theorem counts_e (A : Option Addr) (c : Nat) (ps : List (List UInt8)) (w : World) (hA : PIn w w.heap.size A c ps) (hl : ∀ k, k < ps.length → (ps.getD k []).length < 549755813888) (h9 : ps.length ≤ 9) :
    Calls Try.prog 49 #[.slice A ps.length c] w fun e w' => ∃ A' n' c', e = .returned (.slice A' n' c') ∧ n' = 8 * ps.length ∧ In w' w'.heap.size A' c' (cntE ps) ∧ Below w.heap.size w w' := by
  have HPS := Lib.hid hA
  have HLL := Lib.hid hl
  clear hA hl
  go_enter Try.func49, Try.ntmps49
  go_wp2
  go_loopw [3, 5, 6, 7, 10] (fun v _ _ _ i wr => ∃ (k m : Nat) (A' : Option Addr) (c' : Nat), k ≤ ps.length ∧ Hid (m = 8 * k) ∧ i = .int .i64 (k : Int) ∧ v = .slice A' m c' ∧ Buf wr w.heap.size A' m c' (cntE (ps.take k)) ∧ Below w.heap.size w wr) (fun _ _ _ _ i _ => ps.length - (intOf i).toNat)
  case atStart => exact ⟨0, 0, none, 0, by omega, by show _ = _; omega, rfl, rfl, by simpa [cntE] using Buf.nil w w.heap.size, Below.refl _ _⟩
  case round =>
    obtain ⟨k, m, A', c', hk, HM, rfl, rfl, hB, hb⟩ := hrel
    by_cases hlt : k < ps.length
    · have hd1 : decide ((k : Int) < (ps.length : Int)) = true := by simp; omega
      have hk0 : (0 : Int) ≤ (k : Int) := by omega
      have hkl : (k : Int) < (ps.length : Int) := by omega
      obtain ⟨hpc, hpm, hpe⟩ := HPS.out.below hb
      obtain ⟨gp, op, rfl, hgp, hj⟩ := hpe (by omega)
      obtain ⟨Aj, cj, hc, hi⟩ := hj k hlt
      have hyl := HLL.out k hlt
      have HS := Lib.hid (cntE_snoc ps k hlt)
      obtain ⟨y, hy⟩ : ∃ y, y = ps.getD k [] := ⟨_, rfl⟩
      rw [← hy] at hc hyl HS
      clear hy hj hpe hi
      obtain ⟨N, hN⟩ : ∃ N, N = y.length * 8 := ⟨_, rfl⟩
      have hl8 : (((y.length : Int) * 8)) % 18446744073709551616 = (N : Int) := by omega
      have hl8' : IntKind.u64.wrap ((y.length : Int) * 8) = (N : Int) := by rw [IntKind.wrap_u64]; omega
      rw [← hN] at HS
      have HN := Lib.hid (show N < 4398046511104 by omega)
      clear hN
      obtain ⟨M, hM⟩ : ∃ M, M = cntE (ps.take k) := ⟨_, rfl⟩
      rw [← hM] at hB HS
      clear hM
      go_wp2
      have hbs := hb.size
      obtain ⟨wo, rfl⟩ : ∃ wo : World, wo = wr := ⟨_, rfl⟩
      clear hc hl8 hl8' hyl
      go_loopw [3, 7] (fun v i wr => ∃ (j : Nat) (A : Option Addr) (c : Nat) (q : Int), j ≤ 8 ∧ Hid (q = 56 - 8 * (j : Int)) ∧ i = .int .i64 q ∧ v = .slice A (m + j) c ∧ Buf wr w.heap.size A (m + j) c (M ++ (be8 N).take j) ∧ Below w.heap.size w wr) (fun v _ _ => m + 8 - lenOf v)
      case atStart => exact ⟨0, A', c', 56, by omega, by show _ = _; omega, rfl, rfl, by simpa using hB, hb⟩
      case round =>
        clear hB hb hbs
        obtain ⟨j, A, c, q, hj, HQ, rfl, rfl, hB, hb⟩ := hrel
        have hbs := hb.size
        by_cases hlt2 : j < 8
        · obtain ⟨p, rfl⟩ : ∃ p : Nat, q = (p : Int) := ⟨(56 - 8 * j), by have := HQ.out; omega⟩
          have hp : p ≤ 56 := by have := HQ.out; omega
          have hd : decide ((p : Int) ≥ 0) = true := by simp
          have h0 : ¬ ((p : Int) < 0) := by omega
          have h1 : (0 : Int) ≤ (p : Int) := by omega
          have e1 : min p 64 = p := by omega
          have HT := Lib.hid (be8_take N j p hlt2 (by have := HQ.out; omega))
          have HLL := Lib.hid (show m + j + 1 ≤ 1099511627776 by have := HM.out; omega)
          go_wp2_with ((with_reducible refine (?_ : wpList _ _ _ (Oper.mk (some 28) _ _ _ _ _ :: _) _ _)); go_loud (refine wpList_append_buf rfl (.tmp 22) (.tmp 27) 24 rfl _ _ _ _ _ [UInt8.ofNat (N / 2 ^ p)] _ rfl (hB.alloc _) rfl (src_byte ((new_cell _ _ _).trans (congrArg some (byte_sh _ _)))) HLL.out (by simp <;> omega) ?_); intro A' c' w' hB' hg')
          go_roundw
          case rel =>
            refine ⟨j + 1, A', c', (p : Int) - 8, by omega, by show _ = _; have := HQ.out; omega, rfl, rfl, ?_, below_own (hb.alloc hbs _) (hB.alloc _) hg' (Nat.le_refl _) (by simp <;> omega)⟩
            rw [HT.out, ← List.append_assoc]
            exact hB'
          case measure => simp [lenOf]; omega
        · have hj8 : j = 8 := by omega
          have hd : decide (q ≥ 0) = false := by have := HQ.out; simp; omega
          rw [hj8, be8_all, ← HS.out] at hB
          have HJ := Lib.hid hj8
          clear hj8 hj hlt2
          go_wp2
          go_roundw
          case rel => exact ⟨k + 1, m + j, A, c, by omega, (show _ = _ by have := HM.out; have := HJ.out; omega), by go_num, rfl, by rw [HJ.out]; exact hB, hb⟩
          case measure => simp [intOf]; omega
    · have hd1 : decide ((k : Int) < (ps.length : Int)) = false := by simp; omega
      rw [List.take_of_length_le (by omega)] at hB
      have hin := hB.toIn (Nat.le_refl _)
      have HM2 := Lib.hid (show m = 8 * ps.length by have := HM.out; omega)
      clear hB HM
      go_wp2
      go_ret
      exact ⟨A', m, c', rfl, HM2.out, hin, hb⟩

end Go.Proofs.Ytefbjhdcmgonbaa
