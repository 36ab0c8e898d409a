/-
  Package hello's named, fits and inForm: is a message in form?
-/
import Derived.Test.YtagblbfbjemfhaaDoorHl
namespace Go.Proofs.YtagblbfbjemfhaaDoor
open Go.RowKit
open HelloMath (numB numB_length vecB vecB_length Msg isKind sized wide kinds zero32 some8 okF okM fitM formM special)

set_option maxRecDepth 100000 in
theorem left_1t : ∀ f1 f2 f3 f4 f5 f6 f7 f8 f9 f10 f12 : Bool, (bits .andNot .i64 ((fillN f1 f2 f3 f4 f5 f6 f7 f8 f9 f10 true f12 : Nat) : Int) 1567 == 0) = okF 1 f1 f2 f3 f4 f5 f6 f7 f8 f9 f10 true f12 := by decide +kernel
set_option maxRecDepth 100000 in
theorem left_1f : ∀ f1 f2 f3 f4 f5 f6 f7 f8 f9 f10 f12 : Bool, (bits .andNot .i64 ((fillN f1 f2 f3 f4 f5 f6 f7 f8 f9 f10 false f12 : Nat) : Int) 13 == 0) = okF 1 f1 f2 f3 f4 f5 f6 f7 f8 f9 f10 false f12 := by decide +kernel
set_option maxRecDepth 100000 in
theorem left_2t : ∀ f1 f2 f3 f4 f5 f6 f7 f8 f9 f10 f11 : Bool, (bits .andNot .i64 ((fillN f1 f2 f3 f4 f5 f6 f7 f8 f9 f10 f11 true : Nat) : Int) 2052 == 0) = okF 2 f1 f2 f3 f4 f5 f6 f7 f8 f9 f10 f11 true := by decide +kernel
set_option maxRecDepth 100000 in
theorem left_2f : ∀ f1 f2 f3 f4 f5 f6 f7 f8 f9 f10 f11 : Bool, (bits .andNot .i64 ((fillN f1 f2 f3 f4 f5 f6 f7 f8 f9 f10 f11 false : Nat) : Int) 1037 == 0) = okF 2 f1 f2 f3 f4 f5 f6 f7 f8 f9 f10 f11 false := by decide +kernel
set_option maxRecDepth 100000 in
theorem left_4 : ∀ f1 f2 f3 f4 f5 f6 f7 f8 f9 f10 f11 f12 : Bool, (bits .andNot .i64 ((fillN f1 f2 f3 f4 f5 f6 f7 f8 f9 f10 f11 f12 : Nat) : Int) 816 == 0) = okF 4 f1 f2 f3 f4 f5 f6 f7 f8 f9 f10 f11 f12 := by decide +kernel
set_option maxRecDepth 100000 in
theorem left_8 : ∀ f1 f2 f3 f4 f5 f6 f7 f8 f9 f10 f11 f12 : Bool, (bits .andNot .i64 ((fillN f1 f2 f3 f4 f5 f6 f7 f8 f9 f10 f11 f12 : Nat) : Int) 0 == 0) = okF 8 f1 f2 f3 f4 f5 f6 f7 f8 f9 f10 f11 f12 := by decide +kernel
set_option maxRecDepth 100000 in
theorem left_11 : ∀ f1 f2 f3 f4 f5 f6 f7 f8 f9 f10 f11 f12 : Bool, (bits .andNot .i64 ((fillN f1 f2 f3 f4 f5 f6 f7 f8 f9 f10 f11 f12 : Nat) : Int) 128 == 0) = okF 11 f1 f2 f3 f4 f5 f6 f7 f8 f9 f10 f11 f12 := by decide +kernel
set_option maxRecDepth 100000 in
theorem left_13 : ∀ f1 f2 f3 f4 f5 f6 f7 f8 f9 f10 f11 f12 : Bool, (bits .andNot .i64 ((fillN f1 f2 f3 f4 f5 f6 f7 f8 f9 f10 f11 f12 : Nat) : Int) 0 == 0) = okF 13 f1 f2 f3 f4 f5 f6 f7 f8 f9 f10 f11 f12 := by decide +kernel
set_option maxRecDepth 100000 in
theorem left_15 : ∀ f1 f2 f3 f4 f5 f6 f7 f8 f9 f10 f11 f12 : Bool, (bits .andNot .i64 ((fillN f1 f2 f3 f4 f5 f6 f7 f8 f9 f10 f11 f12 : Nat) : Int) 64 == 0) = okF 15 f1 f2 f3 f4 f5 f6 f7 f8 f9 f10 f11 f12 := by decide +kernel
set_option maxRecDepth 100000 in
theorem left_20 : ∀ f1 f2 f3 f4 f5 f6 f7 f8 f9 f10 f11 f12 : Bool, (bits .andNot .i64 ((fillN f1 f2 f3 f4 f5 f6 f7 f8 f9 f10 f11 f12 : Nat) : Int) 2 == 0) = okF 20 f1 f2 f3 f4 f5 f6 f7 f8 f9 f10 f11 f12 := by decide +kernel
set_option maxRecDepth 100000 in
theorem named_1t (m : Msg) (g : Nat) (w : World) (hM : MAt w g m) (hk : m.kind = 1) (hp : m.psk = true) : Calls Tryd.prog 34 #[.pointer (some ⟨g, 0, none⟩)] w fun e w' => e = .returned (.int .i64 1567) ∧ Below w.heap.size w w' := by
  have hc := hM.kind
  rw [hk] at hc
  have hc2 := hM.psk
  rw [hp] at hc2
  go_enter Tryd.func34, Tryd.ntmps34
  go_wp2
  go_ret
  exact ⟨rfl, Below.refl _ _⟩
set_option maxRecDepth 100000 in
theorem named_1f (m : Msg) (g : Nat) (w : World) (hM : MAt w g m) (hk : m.kind = 1) (hp : m.psk = false) : Calls Tryd.prog 34 #[.pointer (some ⟨g, 0, none⟩)] w fun e w' => e = .returned (.int .i64 13) ∧ Below w.heap.size w w' := by
  have hc := hM.kind
  rw [hk] at hc
  have hc2 := hM.psk
  rw [hp] at hc2
  go_enter Tryd.func34, Tryd.ntmps34
  go_wp2
  go_ret
  exact ⟨rfl, Below.refl _ _⟩
set_option maxRecDepth 100000 in
theorem named_2t (m : Msg) (g : Nat) (w : World) (hM : MAt w g m) (hk : m.kind = 2) (hp : m.retry = true) : Calls Tryd.prog 34 #[.pointer (some ⟨g, 0, none⟩)] w fun e w' => e = .returned (.int .i64 2052) ∧ Below w.heap.size w w' := by
  have hc := hM.kind
  rw [hk] at hc
  have hc2 := hM.retry
  rw [hp] at hc2
  go_enter Tryd.func34, Tryd.ntmps34
  go_wp2
  go_ret
  exact ⟨rfl, Below.refl _ _⟩
set_option maxRecDepth 100000 in
theorem named_2f (m : Msg) (g : Nat) (w : World) (hM : MAt w g m) (hk : m.kind = 2) (hp : m.retry = false) : Calls Tryd.prog 34 #[.pointer (some ⟨g, 0, none⟩)] w fun e w' => e = .returned (.int .i64 1037) ∧ Below w.heap.size w w' := by
  have hc := hM.kind
  rw [hk] at hc
  have hc2 := hM.retry
  rw [hp] at hc2
  go_enter Tryd.func34, Tryd.ntmps34
  go_wp2
  go_ret
  exact ⟨rfl, Below.refl _ _⟩
set_option maxRecDepth 100000 in
theorem named_4 (m : Msg) (g : Nat) (w : World) (hM : MAt w g m) (hk : m.kind = 4) : Calls Tryd.prog 34 #[.pointer (some ⟨g, 0, none⟩)] w fun e w' => e = .returned (.int .i64 816) ∧ Below w.heap.size w w' := by
  have hc := hM.kind
  rw [hk] at hc
  go_enter Tryd.func34, Tryd.ntmps34
  go_wp2
  go_ret
  exact ⟨rfl, Below.refl _ _⟩
set_option maxRecDepth 100000 in
theorem named_8 (m : Msg) (g : Nat) (w : World) (hM : MAt w g m) (hk : m.kind = 8) : Calls Tryd.prog 34 #[.pointer (some ⟨g, 0, none⟩)] w fun e w' => e = .returned (.int .i64 0) ∧ Below w.heap.size w w' := by
  have hc := hM.kind
  rw [hk] at hc
  go_enter Tryd.func34, Tryd.ntmps34
  go_wp2
  go_ret
  exact ⟨rfl, Below.refl _ _⟩
set_option maxRecDepth 100000 in
theorem named_11 (m : Msg) (g : Nat) (w : World) (hM : MAt w g m) (hk : m.kind = 11) : Calls Tryd.prog 34 #[.pointer (some ⟨g, 0, none⟩)] w fun e w' => e = .returned (.int .i64 128) ∧ Below w.heap.size w w' := by
  have hc := hM.kind
  rw [hk] at hc
  go_enter Tryd.func34, Tryd.ntmps34
  go_wp2
  go_ret
  exact ⟨rfl, Below.refl _ _⟩
set_option maxRecDepth 100000 in
theorem named_13 (m : Msg) (g : Nat) (w : World) (hM : MAt w g m) (hk : m.kind = 13) : Calls Tryd.prog 34 #[.pointer (some ⟨g, 0, none⟩)] w fun e w' => e = .returned (.int .i64 0) ∧ Below w.heap.size w w' := by
  have hc := hM.kind
  rw [hk] at hc
  go_enter Tryd.func34, Tryd.ntmps34
  go_wp2
  go_ret
  exact ⟨rfl, Below.refl _ _⟩
set_option maxRecDepth 100000 in
theorem named_15 (m : Msg) (g : Nat) (w : World) (hM : MAt w g m) (hk : m.kind = 15) : Calls Tryd.prog 34 #[.pointer (some ⟨g, 0, none⟩)] w fun e w' => e = .returned (.int .i64 64) ∧ Below w.heap.size w w' := by
  have hc := hM.kind
  rw [hk] at hc
  go_enter Tryd.func34, Tryd.ntmps34
  go_wp2
  go_ret
  exact ⟨rfl, Below.refl _ _⟩
set_option maxRecDepth 100000 in
theorem named_20 (m : Msg) (g : Nat) (w : World) (hM : MAt w g m) (hk : m.kind = 20) : Calls Tryd.prog 34 #[.pointer (some ⟨g, 0, none⟩)] w fun e w' => e = .returned (.int .i64 2) ∧ Below w.heap.size w w' := by
  have hc := hM.kind
  rw [hk] at hc
  go_enter Tryd.func34, Tryd.ntmps34
  go_wp2
  go_ret
  exact ⟨rfl, Below.refl _ _⟩
theorem beqN (n k : Nat) : ((n : Int) == (k : Int)) = decide (n = k) := by
  by_cases h : n = k
  · subst h; simp
  · rw [decide_eq_false h, beq_eq_false_iff_ne]; omega
end Go.Proofs.YtagblbfbjemfhaaDoor
