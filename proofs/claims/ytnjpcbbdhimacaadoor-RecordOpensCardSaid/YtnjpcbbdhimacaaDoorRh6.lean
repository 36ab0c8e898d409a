/-
 Rh6.
-/
import Derived.Test.YtnjpcbbdhimacaaDoorRh5
namespace Go.Proofs.YtnjpcbbdhimacaaDoor
open Go.RowKit
set_option maxRecDepth 100000 in
set_option maxHeartbeats 1000000 in
theorem hseal_nil (k pad : Int) (v : Value) (w : World) : Calls Tryd.prog 10 #[.pointer none, .int .i64 k, v, .int .i64 pad] w fun e w' => e = .returned (.tuple #[.slice none 0 0, .int .i64 1]) ∧ w' = w := by
 have HEM := Lib.hid (hempty_nil w)
 go_enter Tryd.func10, Tryd.ntmps10
 go_wp2_with (first
  | (go_at_call 30; refine HEM.out.mono ?_; rintro e w' ⟨rfl, hww⟩; have hw2 := hww.symm; subst hw2)
  | (go_at_call 31; refine (isKind_e _ _).mono ?_; rintro e w' ⟨rfl, hww⟩; have hw2 := hww.symm; subst hw2))
 go_ret2
 exact ⟨rfl, rfl⟩
set_option maxRecDepth 100000 in
set_option maxHeartbeats 1000000 in
theorem hopen_nil (v : Value) (w : World) : Calls Tryd.prog 11 #[.pointer none, v] w fun e w' => e = .returned (.tuple #[.int .i64 0, .slice none 0 0, .int .i64 1]) ∧ w' = w := by
 have HEM := Lib.hid (hempty_nil w)
 go_enter Tryd.func11, Tryd.ntmps11
 go_wp2_with (first
  | (go_at_call 30; refine HEM.out.mono ?_; rintro e w' ⟨rfl, hww⟩; have hw2 := hww.symm; subst hw2)
  | (go_at_call 31; refine (isKind_e _ _).mono ?_; rintro e w' ⟨rfl, hww⟩; have hw2 := hww.symm; subst hw2))
 go_ret3
 exact ⟨rfl, rfl⟩
theorem ix_sb (n : Nat) (h : 16384 < n) : (16384 : Int) < (n : Int) := by omega
theorem ix_sb' (n : Nat) (h : ¬ 16384 < n) : ¬ (16384 : Int) < (n : Int) := by omega
theorem ix_us (u : Nat) (h : 1000 ≤ u) : (1000 : Int) ≤ (u : Int) := by omega
set_option maxRecDepth 100000 in
set_option maxHeartbeats 1000000 in
theorem hseal_arg {w : World} {gh gx gk gr R u0 : Nat} {L : List UInt32} {iv : List UInt8} (h : HalfAt w gh gx gk gr R L iv u0) (k pad : Int) (n c : Nat) (A : Option Addr) (hk : kindB k = false ∨ pad < 0) :
  Calls Tryd.prog 10 #[.pointer (some ⟨gh, 0, none⟩), .int .i64 k, .slice A n c, .int .i64 pad] w fun e w' => e = .returned (.tuple #[.slice none 0 0, .int .i64 1]) ∧ w' = w := by
 have HEM := Lib.hid (hempty_no h)
 clear h
 by_cases hkb : kindB k = true
 ·
  have hp : pad < 0 := by
   rcases hk with h | h
   ·
    rw [hkb] at h; cases h
   ·
    exact h
  clear hk
  go_enter Tryd.func10, Tryd.ntmps10
  go_wp2_with (first
  | (go_at_call 30; refine HEM.out.mono ?_; rintro e w' ⟨rfl, hww⟩; have hw2 := hww.symm; subst hw2)
  | (go_at_call 31; refine (isKind_e _ _).mono ?_; rintro e w' ⟨rfl, hww⟩; have hw2 := hww.symm; subst hw2))
  go_ret2
  exact ⟨rfl, rfl⟩
 ·
  have hkf : kindB k = false := by simpa using hkb
  clear hk hkb
  go_enter Tryd.func10, Tryd.ntmps10
  go_wp2_with (first
  | (go_at_call 30; refine HEM.out.mono ?_; rintro e w' ⟨rfl, hww⟩; have hw2 := hww.symm; subst hw2)
  | (go_at_call 31; refine (isKind_e _ _).mono ?_; rintro e w' ⟨rfl, hww⟩; have hw2 := hww.symm; subst hw2))
  go_ret2
  exact ⟨rfl, rfl⟩
set_option maxRecDepth 100000 in
set_option maxHeartbeats 1000000 in
theorem hseal_big {w : World} {gh gx gk gr R u0 : Nat} {L : List UInt32} {iv : List UInt8} (h : HalfAt w gh gx gk gr R L iv u0) (k pad : Int) (n c : Nat) (A : Option Addr) (hk : kindB k = true) (hp : ¬ pad < 0) (hb : 16384 < n ∨ 16384 - (n : Int) < pad) :
  Calls Tryd.prog 10 #[.pointer (some ⟨gh, 0, none⟩), .int .i64 k, .slice A n c, .int .i64 pad] w fun e w' => e = .returned (.tuple #[.slice none 0 0, .int .i64 4]) ∧ w' = w := by
 have HEM := Lib.hid (hempty_no h)
 clear h
 by_cases hn : 16384 < n
 ·
  have hd := ix_sb n hn
  clear hb hn
  go_enter Tryd.func10, Tryd.ntmps10
  go_wp2_with (first
  | (go_at_call 30; refine HEM.out.mono ?_; rintro e w' ⟨rfl, hww⟩; have hw2 := hww.symm; subst hw2)
  | (go_at_call 31; refine (isKind_e _ _).mono ?_; rintro e w' ⟨rfl, hww⟩; have hw2 := hww.symm; subst hw2))
  go_ret2
  exact ⟨rfl, rfl⟩
 ·
  have hd := ix_sb' n hn
  have hq : 16384 - (n : Int) < pad := by omega
  clear hb hn
  go_enter Tryd.func10, Tryd.ntmps10
  go_wp2_with (first
  | (go_at_call 30; refine HEM.out.mono ?_; rintro e w' ⟨rfl, hww⟩; have hw2 := hww.symm; subst hw2)
  | (go_at_call 31; refine (isKind_e _ _).mono ?_; rintro e w' ⟨rfl, hww⟩; have hw2 := hww.symm; subst hw2))
  go_ret2
  exact ⟨rfl, rfl⟩
set_option maxRecDepth 100000 in
set_option maxHeartbeats 1000000 in
theorem hseal_seq {w : World} {gh gx gk gr R u0 : Nat} {L : List UInt32} {iv : List UInt8} (h : HalfAt w gh gx gk gr R L iv u0) (k pad : Int) (n c : Nat) (A : Option Addr) (hk : kindB k = true) (hp : ¬ pad < 0) (hb : ¬ 16384 < n) (hq : ¬ 16384 - (n : Int) < pad) (hu : 1000 ≤ u0) :
  Calls Tryd.prog 10 #[.pointer (some ⟨gh, 0, none⟩), .int .i64 k, .slice A n c, .int .i64 pad] w fun e w' => e = .returned (.tuple #[.slice none 0 0, .int .i64 12]) ∧ w' = w := by
 have HEM := Lib.hid (hempty_no h)
 have hus := h.used
 have hd := ix_sb' n hb
 have he := ix_us u0 hu
 clear h hb hu
 go_enter Tryd.func10, Tryd.ntmps10
 go_wp2_with (first
  | (go_at_call 30; refine HEM.out.mono ?_; rintro e w' ⟨rfl, hww⟩; have hw2 := hww.symm; subst hw2)
  | (go_at_call 31; refine (isKind_e _ _).mono ?_; rintro e w' ⟨rfl, hww⟩; have hw2 := hww.symm; subst hw2))
 go_ret2
 exact ⟨rfl, rfl⟩

end Go.Proofs.YtnjpcbbdhimacaaDoor
