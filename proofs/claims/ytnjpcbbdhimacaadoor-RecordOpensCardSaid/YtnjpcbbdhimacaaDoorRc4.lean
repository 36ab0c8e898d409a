/-
 Rc4.
-/
import Derived.Test.YtnjpcbbdhimacaaDoorRc3
namespace Go.Proofs.YtnjpcbbdhimacaaDoor
open Go.RowKit
/-- A bare record; what is wrong. -/
def bareE (k : Int) (b : List UInt8) : List UInt8 × Nat :=
 if kindB k = false then ([], 1) else if 16384 < b.length then ([], 4) else (headE k.toNat b.length ++ b, 0)
theorem kindB_three {k : Int} (h : kindB k = true) : k = 21 ∨ k = 22 ∨ k = 23 := by
 unfold kindB at h; simp at h; omega
set_option maxRecDepth 100000 in
set_option maxHeartbeats 1000000 in
theorem bare_e (k : Int) (A : Option Addr) (c n : Nat) (b : List UInt8) (w : World) (hn : b.length = n) (iB : In w w.heap.size A c b) (hm : n < 1000000) :
  Calls Tryd.prog 37 #[.int .i64 k, .slice A n c] w fun e w' => ∃ A' n' c', e = .returned (.tuple #[.slice A' n' c', .int .i64 ((bareE k b).2 : Int)]) ∧ Buf w' w.heap.size A' n' c' (bareE k b).1 ∧ Below w.heap.size w w' := by
 have IB := Lib.hid iB
 clear iB
 by_cases hk : kindB k = true
 ·
  by_cases hbig : 16384 < n
  ·
   have HZ := Lib.hid (show bareE k b = ([], 4) by unfold bareE; rw [if_neg (by rw [hk]; decide), if_pos (by rw [hn]; exact hbig)])
   have hd : (16384 : Int) < (n : Int) := by omega
   clear hbig
   go_enter Tryd.func37, Tryd.ntmps37
   go_wp2_with (go_at_call 31; refine (isKind_e _ _).mono ?_; rintro e w' ⟨rfl, rfl⟩)
   go_ret2
   exact ⟨none, 0, 0, by rw [HZ.out]; rfl, by rw [HZ.out]; exact Buf.nil _ _, Below.refl _ _⟩
  ·
   have HZ := Lib.hid (show bareE k b = (headE k.toNat n ++ b, 0) by unfold bareE; rw [if_neg (by rw [hk]; decide), if_neg (by rw [hn]; exact hbig), hn])
   have hd : ¬ (16384 : Int) < (n : Int) := by omega
   have hn65 : n < 65536 := by omega
   obtain ⟨q, rfl⟩ : ∃ q : Nat, k = (q : Int) := ⟨k.toNat, by rcases kindB_three hk with h | h | h <;> omega⟩
   have hq : q < 1000 := by rcases kindB_three hk with h | h | h <;> omega
   rw [Int.toNat_natCast] at HZ
   have HH := Lib.hid (fun W => head_e q n hq hn65 W)
   have HN := Lib.hid hn
   clear hbig hq hn
   go_enter Tryd.func37, Tryd.ntmps37
   go_wp2_with (first
    | (go_at_call 31; refine (isKind_e _ _).mono ?_; rintro e w' ⟨rfl, hww⟩; subst hww)
    | (go_at_call 32; refine (HH.out _).mono ?_; rintro e w2 ⟨A2, rfl, hB2, hb2⟩)
    | ((with_reducible refine (?_ : wpList _ _ _ (Oper.mk (some 17) _ _ _ _ _ :: _) _ _)); go_loud (refine wpList_append_far rfl (.tmp 15) (.tmp 16) 24 rfl _ _ 5 _ _ b _ rfl hB2 rfl (src_at ((in_up IB.out hb2).src (Nat.le_refl _)) HN.out) (by rw [HN.out]; omega) hb2.size (5 + n) (by rw [HN.out]) ?_); intro A5 c5 w5 hB5 hg5 _; have hbw5 := below_own hb2 hB2 hg5 (Nat.le_refl _) hb2.size))
   go_ret2
   exact ⟨_, _, _, by rw [HZ.out]; rfl, by rw [HZ.out]; exact hB5, hbw5⟩
 ·
  have hkf : kindB k = false := by simpa using hk
  have HZ := Lib.hid (show bareE k b = ([], 1) by unfold bareE; rw [if_pos hkf])
  clear hk
  go_enter Tryd.func37, Tryd.ntmps37
  go_wp2_with (go_at_call 31; refine (isKind_e _ _).mono ?_; rintro e w' ⟨rfl, rfl⟩)
  go_ret2
  exact ⟨none, 0, 0, by rw [HZ.out]; rfl, by rw [HZ.out]; exact Buf.nil _ _, Below.refl _ _⟩
/-- What a bare record holds: its kind, its bytes, what is wrong. -/
def bodyE (b : List UInt8) : Nat × List UInt8 × Nat :=
 if (partsE b).2.2 ≠ 0 then (0, [], (partsE b).2.2) else if 16384 < (partsE b).2.1.length then (0, [], 4) else ((partsE b).1, (partsE b).2.1, 0)
/-- The first record, what is behind it, what is wrong. -/
def cutE (b : List UInt8) : List UInt8 × List UInt8 × Nat :=
 if (sizeE b).2 ≠ 0 then ([], [], (sizeE b).2) else (b.take (sizeE b).1, b.drop (sizeE b).1, 0)
end Go.Proofs.YtnjpcbbdhimacaaDoor
