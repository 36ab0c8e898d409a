/-
  The contracts of package block's keys: New; empty.
-/
import Derived.Test.YtefbjhdcmgonbaaBr
namespace Go.Proofs.Ytefbjhdcmgonbaa
open Go.RowKit

/-- A key that is ready: its rounds lie in block gr, one behind the other. -/
structure KeyAt (w : World) (gk gr R : Nat) (L : List UInt32) : Prop where
  key : Blk w gk 69 [.slice (some ⟨gr, 0, none⟩) R R]
  rounds : Blk w gr 73 (L.map U32)
  len : L.length = 4 * R
theorem KeyAt.below {w w' : World} {gk gr R : Nat} {L : List UInt32} (h : KeyAt w gk gr R L) (hb : Below w.heap.size w w') : KeyAt w' gk gr R L :=
  ⟨h.key.below hb h.key.lt, h.rounds.below hb h.rounds.lt, h.len⟩
/-- The rounds of a key. -/
def keyL (n : Nat) (key : List UInt8) : List UInt32 := rAll (kWords n key)
theorem keyL_length (n : Nat) (key : List UInt8) : (keyL n key).length = 4 * (n + 7) := by rw [keyL, rAll_length, kWords_length]
set_option maxRecDepth 100000 in
set_option maxHeartbeats 1000000 in
theorem new_any (A : Option Addr) (c B n : Nat) (key : List UInt8) (w : World) (hB : B ≤ w.heap.size) (ik : InK w B A c key) (hl : key.length = 4 * n) (hn : n = 4 ∨ n = 8) :
    Calls Try.prog 19 #[.slice A key.length c] w fun e w' => ∃ gk gr, e = .returned (.tuple #[.pointer (some ⟨gk, 0, none⟩), .int .i64 0]) ∧ w.heap.size ≤ gk ∧ KeyAt w' gk gr (n + 7) (keyL n key) ∧ Below w.heap.size w w' := by
  have hc1 := wordsOf_any A c B n key w hB ik hl hn
  have hWl := kWords_length n key
  have hKL := keyL_length n key
  have HK : Hid (keyL n key = rAll (kWords n key)) := Lib.hid rfl
  generalize kWords n key = W at *
  have HWL := Lib.hid hWl
  have HKL := Lib.hid hKL
  have HN := Lib.hid hn
  have hkl : key.length = 16 ∨ key.length = 32 := by omega
  generalize key.length = kl at *
  clear hWl hKL hl hn ik
  go_enter Try.func19, Try.ntmps19
  rcases hkl with rfl | rfl
  all_goals
    go_wp2_with (first
      | (go_at_call 34; with_reducible refine hc1.mono ?_; rintro e w1 ⟨rfl, hW1, hb1⟩; have hr1 := roundsOf_any w.heap.size (4 * (n + 7)) (n + 7) W w1 hW1 HWL.out rfl (by have := HN.out; omega))
      | (go_at_call 33; with_reducible refine hr1.mono ?_; rintro e w2 ⟨rfl, hR2, hb2⟩))
    have hb12 := hb1.trans (hb2.mono hb1.size)
    refine bodyPost_ret (v := .tuple #[.pointer (some ⟨w2.heap.size, 0, none⟩), .int .i64 0]) (by simp [results, Try.results19, go_sem]) rfl ⟨w2.heap.size, w1.heap.size, rfl, hb12.size, ⟨Blk.new_of _ _ _ _ rfl, ?_, HKL.out⟩, hb12.alloc hb12.size _⟩
    rw [HK.out]
    exact hR2.alloc _
theorem new_bad (A : Option Addr) (c n : Nat) (w : World) (h1 : n ≠ 16) (h2 : n ≠ 32) :
    Calls Try.prog 19 #[.slice A n c] w fun e w' => e = .returned (.tuple #[.pointer none, .int .i64 1]) ∧ Below w.heap.size w w' := by
  have d1 : ((n : Int) != 16) = true := by simp; omega
  have d2 : ((n : Int) != 32) = true := by simp; omega
  have d3 : ¬ ((n : Int) = 16) := by omega
  have d4 : ¬ ((n : Int) = 32) := by omega
  go_enter Try.func19, Try.ntmps19
  go_wp2
  refine bodyPost_ret (v := .tuple #[.pointer none, .int .i64 1]) (by simp [results, Try.results19, go_sem]) rfl ⟨rfl, Below.refl _ _⟩
theorem empty_no (gk gr R : Nat) (L : List UInt32) (w : World) (h : KeyAt w gk gr R L) (hR : 0 < R) (hR2 : R ≤ 15) :
    Calls Try.prog 36 #[.pointer (some ⟨gk, 0, none⟩)] w fun e w' => e = .returned (.bool false) ∧ w' = w := by
  have c0 : w.cell? ⟨gk, 0, none⟩ = some (.slice (some ⟨gr, 0, none⟩) R R) := h.key.cell 0
  have d1 : ((R : Int) == 0) = false := by simp; omega
  have d2 : ¬ ((R : Int) = 0) := by omega
  go_enter Try.func36, Try.ntmps36
  go_wp2
  go_ret
  exact ⟨rfl, rfl⟩
theorem empty_nil (w : World) : Calls Try.prog 36 #[.pointer none] w fun e w' => e = .returned (.bool true) ∧ w' = w := by
  go_enter Try.func36, Try.ntmps36
  go_wp2
  go_ret
  exact ⟨rfl, rfl⟩
end Go.Proofs.Ytefbjhdcmgonbaa
