/-
  The contract of mac.Same: whether two rows are the same bytes.
-/
import Derived.Test.YtbomckbekcaemaaDoorWk
import Derived.BigQuiet
namespace Go.Proofs.YtbomckbekcaemaaDoor
open Go.RowKit

/-- All differences of the first k places, put together. -/
def diffTo (a b : List UInt8) : Nat → UInt8
  | 0 => 0
  | k + 1 => diffTo a b k ||| (a.getD k 0 ^^^ b.getD k 0)
theorem u8_or_zero (x y : UInt8) : x ||| y = 0 ↔ x = 0 ∧ y = 0 := by
  constructor
  · intro h
    have h2 := congrArg UInt8.toBitVec h
    simp only [UInt8.toBitVec_or] at h2
    have h3 : x.toBitVec = 0 ∧ y.toBitVec = 0 := by
      generalize x.toBitVec = p at *
      generalize y.toBitVec = q at *
      have h4 : p ||| q = 0#8 := h2
      exact ⟨by have := BitVec.or_eq_zero_iff.1 h4; exact this.1, by have := BitVec.or_eq_zero_iff.1 h4; exact this.2⟩
    exact ⟨UInt8.toBitVec_inj.1 h3.1, UInt8.toBitVec_inj.1 h3.2⟩
  · rintro ⟨rfl, rfl⟩; rfl
theorem u8_xor_zero (x y : UInt8) : x ^^^ y = 0 ↔ x = y := by
  constructor
  · intro h
    have h2 := congrArg UInt8.toBitVec h
    simp only [UInt8.toBitVec_xor] at h2
    have h4 : x.toBitVec ^^^ y.toBitVec = 0#8 := h2
    exact UInt8.toBitVec_inj.1 (BitVec.xor_eq_zero_iff.1 h4)
  · rintro rfl; simp
theorem diffTo_zero (a b : List UInt8) (k : Nat) : diffTo a b k = 0 ↔ ∀ i, i < k → a.getD i 0 = b.getD i 0 := by
  induction k with
  | zero => simp [diffTo]
  | succ k ih =>
    rw [diffTo, u8_or_zero, u8_xor_zero, ih]
    constructor
    · rintro ⟨h1, h2⟩ i hi
      by_cases e : i = k
      · rw [e]; exact h2
      · exact h1 i (by omega)
    · intro h
      exact ⟨fun i hi => h i (by omega), h k (by omega)⟩
theorem diffTo_same (a b : List UInt8) (hl : a.length = b.length) : diffTo a b a.length = 0 ↔ a = b := by
  rw [diffTo_zero]
  constructor
  · intro h
    apply List.ext_getElem hl
    intro i h1 h2
    have := h i h1
    simpa [List.getD_eq_getElem?_getD, List.getElem?_eq_getElem h1, List.getElem?_eq_getElem h2] using this
  · rintro rfl i _; rfl
theorem b_or (a b : UInt8) : bits .or .u8 (a.toNat : Int) (b.toNat : Int) = ((a ||| b).toNat : Int) := by
  rw [u8_or_nat _ _ (u8_lt a) (u8_lt b), UInt8.toNat_or]
theorem nat_zero (d : UInt8) : ((d.toNat : Int) == 0) = decide (d = 0) := by
  by_cases h : d = 0
  · subst h; rfl
  · have : d.toNat ≠ 0 := fun e => h (UInt8.toNat_inj.1 e)
    simp [h]; omega

set_option maxRecDepth 100000 in
set_option maxHeartbeats 1000000 in
theorem same_other (A A' : Option Addr) (c c' : Nat) (a b : List UInt8) (w : World) (hl : a.length ≠ b.length) :
    Calls Tryd.prog 55 #[.slice A a.length c, .slice A' b.length c'] w fun e w' => e = .returned (.bool false) ∧ ∃ k, w' = w.drewN k := by
  have h1 : ((a.length : Int) != (b.length : Int)) = true := by simp; omega
  go_enter Tryd.func55, Tryd.ntmps55
  go_wp2
  go_ret
  exact ⟨rfl, 0, rfl⟩
set_option maxRecDepth 100000 in
set_option maxHeartbeats 1000000 in
theorem same_none (A A' : Option Addr) (c c' : Nat) (w : World) :
    Calls Tryd.prog 55 #[.slice A 0 c, .slice A' 0 c'] w fun e w' => e = .returned (.bool true) ∧ ∃ k, w' = w.drewN k := by
  go_enter Tryd.func55, Tryd.ntmps55
  go_wp2
  refine wp_loop_rounds 1 ?_
  rw [rounds_succ]
  go_wp2
  go_ret
  exact ⟨rfl, 0, rfl⟩
set_option maxRecDepth 100000 in
set_option maxHeartbeats 1000000 in
theorem same_long (ga oa gb ob n c c' : Nat) (a b : List UInt8) (w : World) (hn : a.length = n) (hl : b.length = n) (hnc : n ≤ 9223372036854775807) (ha : Bytes w ga oa a) (hb : Bytes w gb ob b) :
    Calls Tryd.prog 55 #[.slice (some ⟨ga, oa, none⟩) n c, .slice (some ⟨gb, ob, none⟩) n c'] w fun e w' => e = .returned (.bool (decide (a = b))) ∧ ∃ k, w' = w.drewN k := by
  have HN := Lib.hid hn
  have HL := Lib.hid hl
  clear hn hl
  go_enter Tryd.func55, Tryd.ntmps55
  go_wp2
  go_loopw [5, 14] (fun d i wr => ∃ k q : Nat, k ≤ n ∧ i = .int .i64 (k : Int) ∧ d = .int .u8 ((diffTo a b k).toNat : Int) ∧ wr = w.drewN q) (fun _ i _ => n - (intOf i).toNat)
  case atStart => exact ⟨0, 0, by omega, rfl, rfl, rfl⟩
  case round =>
    obtain ⟨k, q, hk, rfl, rfl, rfl⟩ := hrel
    by_cases hlt : k < n
    · have h1 : (k : Int) < (n : Int) := by omega
      have c1 := ha k (by rw [HN.out]; exact hlt)
      have c2 := hb k (by rw [HL.out]; exact hlt)
      have HD := Lib.hid (show diffTo a b (k + 1) = diffTo a b k ||| (a.getD k 0 ^^^ b.getD k 0) from rfl)
      obtain ⟨x, hx⟩ : ∃ x, x = a.getD k 0 := ⟨_, rfl⟩
      obtain ⟨y, hy⟩ : ∃ y, y = b.getD k 0 := ⟨_, rfl⟩
      obtain ⟨d, hd⟩ : ∃ d, d = diffTo a b k := ⟨_, rfl⟩
      rw [← hx] at c1 HD
      rw [← hy] at c2 HD
      rw [← hd] at HD ⊢
      clear hx hy hd
      go_wp2
      go_quiet (fail)
      go_wp2
      go_roundw
      case rel =>
        refine ⟨k + 1, q + nq, by omega, by go_num, ?_, rfl⟩
        rw [HD.out, b_xor, b_or]
      case measure => simp [intOf]; omega
    · have h1 : ¬ (k : Int) < (n : Int) := by omega
      obtain rfl : k = n := by omega
      have HE := Lib.hid (diffTo_same a b (by rw [HN.out, HL.out]))
      obtain ⟨d, hd⟩ : ∃ d, d = diffTo a b k := ⟨_, rfl⟩
      rw [← hd]
      have HD := Lib.hid hd
      clear hd
      go_wp2
      go_ret
      refine ⟨?_, q, rfl⟩
      rw [nat_zero]
      have e : decide (d = 0) = decide (a = b) := by
        rw [decide_eq_decide, HD.out, ← HE.out, HN.out]
      rw [e]
      rfl
theorem same_any (A A' : Option Addr) (c c' B : Nat) (a b : List UInt8) (w : World) (ha : In w B A c a) (hb : In w B A' c' b) :
    Calls Tryd.prog 55 #[.slice A a.length c, .slice A' b.length c'] w fun e w' => e = .returned (.bool (decide (a = b))) ∧ ∃ k, w' = w.drewN k := by
  by_cases hl : a.length = b.length
  · rcases Nat.eq_zero_or_pos a.length with h0 | h0
    · have ea : a = [] := List.eq_nil_of_length_eq_zero h0
      have eb : b = [] := List.eq_nil_of_length_eq_zero (by omega)
      subst ea eb
      exact same_none A A' c c' w
    · obtain ⟨ga, oa, rfl, _, h1⟩ := ha.2.2 h0
      obtain ⟨gb, ob, rfl, _, h2⟩ := hb.2.2 (by omega)
      have := same_long ga oa gb ob a.length c c' a b w rfl hl.symm (by have := ha.1; have := ha.2.1; omega) h1 h2
      rw [← hl]
      exact this
  · have := same_other A A' c c' a b w hl
    rw [decide_eq_false (fun e => hl (by rw [e]))]
    exact this
end Go.Proofs.YtbomckbekcaemaaDoor
