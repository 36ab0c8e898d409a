/-
  The walk of the statement GcmSizes.
-/
import Derived.Test.YtiebdglnkbpajaaGseal
namespace Go.Proofs.Ytiebdglnkbpajaa
open Go.RowKit

set_option maxRecDepth 100000 in
set_option maxHeartbeats 1000000 in
theorem sizes_16 (A : Option Addr) (ca l kl : Nat) (K : List UInt8) (w : World) (ja : In w w.heap.size A ca K) (hl : K.length = l) (hle : l ≤ kl) (hca : kl ≤ ca) (ms : min (kl : Int) 70 = (l : Int)) (h : l = 16) :
    Calls Try.prog 5 #[.slice A kl ca] w fun e w' => e = .returned (.bool true) ∧ Below w.heap.size w w' := by
  have hl0 : (0 : Int) ≤ (l : Int) := by omega
  have hl1 : (l : Int) ≤ (kl : Int) := by omega
  have hl2 : (l : Int) ≤ (ca : Int) := by omega
  subst h
  have hnw := bnew_any A ca w.heap.size 4 K w (Nat.le_refl _) (ink ja) hl (.inl rfl)
  rw [hl] at hnw
  have HNW := Lib.hid hnw
  clear hnw
  have hbo := fun (W : World) => boxes_e W
  have HBO := Lib.hid hbo
  clear hbo hle hca hl ja
  go_enter Try.func5, Try.ntmps5
  go_wp2_with (first
    | (go_at_call 14; refine HNW.out.mono ?_; rintro e w1 ⟨gx, gk, gr, rfl, _, _, hb1⟩)
    | (go_at_call 9; refine (HBO.out _).mono ?_; rintro e w2 ⟨rfl, hb2⟩; have hb3 := hb1.trans (hb2.mono hb1.size)))
  go_ret
  exact ⟨rfl, hb3⟩

set_option maxRecDepth 100000 in
set_option maxHeartbeats 1000000 in
theorem sizes_32 (A : Option Addr) (ca l kl : Nat) (K : List UInt8) (w : World) (ja : In w w.heap.size A ca K) (hl : K.length = l) (hle : l ≤ kl) (hca : kl ≤ ca) (ms : min (kl : Int) 70 = (l : Int)) (h : l = 32) :
    Calls Try.prog 5 #[.slice A kl ca] w fun e w' => e = .returned (.bool true) ∧ Below w.heap.size w w' := by
  have hl0 : (0 : Int) ≤ (l : Int) := by omega
  have hl1 : (l : Int) ≤ (kl : Int) := by omega
  have hl2 : (l : Int) ≤ (ca : Int) := by omega
  subst h
  have hnw := bnew_any A ca w.heap.size 8 K w (Nat.le_refl _) (ink ja) hl (.inr rfl)
  rw [hl] at hnw
  have HNW := Lib.hid hnw
  clear hnw
  have hbo := fun (W : World) => boxes_e W
  have HBO := Lib.hid hbo
  clear hbo hle hca hl ja
  go_enter Try.func5, Try.ntmps5
  go_wp2_with (first
    | (go_at_call 14; refine HNW.out.mono ?_; rintro e w1 ⟨gx, gk, gr, rfl, _, _, hb1⟩)
    | (go_at_call 9; refine (HBO.out _).mono ?_; rintro e w2 ⟨rfl, hb2⟩; have hb3 := hb1.trans (hb2.mono hb1.size)))
  go_ret
  exact ⟨rfl, hb3⟩

set_option maxRecDepth 100000 in
set_option maxHeartbeats 1000000 in
theorem sizes_no (A : Option Addr) (ca l kl : Nat) (K : List UInt8) (w : World) (_ja : In w w.heap.size A ca K) (hl : K.length = l) (hle : l ≤ kl) (hca : kl ≤ ca) (ms : min (kl : Int) 70 = (l : Int)) (h1 : l ≠ 16) (h2 : l ≠ 32) :
    Calls Try.prog 5 #[.slice A kl ca] w fun e w' => e = .returned (.bool true) ∧ Below w.heap.size w w' := by
  have hl0 : (0 : Int) ≤ (l : Int) := by omega
  have hl1 : (l : Int) ≤ (kl : Int) := by omega
  have hl2 : (l : Int) ≤ (ca : Int) := by omega
  have hnw := bnew_bad A ca l w h1 h2
  have HNW := Lib.hid hnw
  have d1 : ((l : Int) == 16) = false := by simp; omega
  have d2 : ((l : Int) == 32) = false := by simp; omega
  clear hnw h1 h2
  have hbo := fun (W : World) => boxes_e W
  have HBO := Lib.hid hbo
  clear hbo hle hca hl _ja
  go_enter Try.func5, Try.ntmps5
  go_wp2_with (first
    | (go_at_call 14; refine HNW.out.mono ?_; rintro e w1 ⟨rfl, hb1⟩)
    | (go_at_call 9; refine (HBO.out _).mono ?_; rintro e w2 ⟨rfl, hb2⟩; have hb3 := hb1.trans (hb2.mono hb1.size)))
  go_ret
  exact ⟨rfl, hb3⟩

theorem gcmSizes_walk (A : Option Addr) (ca : Nat) (key : List UInt8) (w : World) (ia : In w w.heap.size A ca key) :
    Calls Try.prog 5 #[.slice A key.length ca] w fun e w' => e = .returned (.bool true) ∧ Below w.heap.size w w' := by
  have ms : min (key.length : Int) 70 = ((key.take 70).length : Int) := by rw [List.length_take]; omega
  have hle : (key.take 70).length ≤ key.length := by rw [List.length_take]; omega
  have hca := ia.1
  by_cases h16 : (key.take 70).length = 16
  · exact sizes_16 A ca _ _ (key.take 70) w (ia.take 70) rfl hle hca ms h16
  · by_cases h32 : (key.take 70).length = 32
    · exact sizes_32 A ca _ _ (key.take 70) w (ia.take 70) rfl hle hca ms h32
    · exact sizes_no A ca _ _ (key.take 70) w (ia.take 70) rfl hle hca ms h16 h32
end Go.Proofs.Ytiebdglnkbpajaa
