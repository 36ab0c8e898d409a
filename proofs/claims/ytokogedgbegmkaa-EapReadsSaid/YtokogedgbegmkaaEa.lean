/-
  The contracts of package eap's inForm, body, whole and Write.
-/
import Derived.Test.YtokogedgbegmkaaLe
import Derived.Test.YtokogedgbegmkaaLd
namespace Go.Proofs.Ytokogedgbegmkaa
open Go.RowKit

/-- Is a packet with these numbers and so many bytes in form? -/
def rightB (c i t : Int) (n : Nat) : Bool :=
  if i < 0 then false else if 255 < i then false else if c = 1 ∨ c = 2 then decide (1 ≤ t) && decide (t ≤ 255) && decide (n ≤ 4091) else if c = 3 ∨ c = 4 then decide (t = 0) && decide (n = 0) else false
/-- The cells of a packet. -/
def PkC (c i t : Int) (v : Value) : List Value := [.int .i64 c, .int .i64 i, .int .i64 t, v]

set_option maxRecDepth 100000 in
set_option maxHeartbeats 1000000 in
theorem inForm_e (g : Nat) (c i t : Int) (A : Option Addr) (n cp : Nat) (w : World) (hC : Blk w g 29 (PkC c i t (.slice A n cp))) :
    Calls Try.prog 15 #[.pointer (some ⟨g, 0, none⟩)] w fun e w' => e = .returned (.bool (rightB c i t n)) ∧ w' = w := by
  have c0 : w.cell? ⟨g, 0, none⟩ = some (.int .i64 c) := hC.cell 0
  have c1 : w.cell? ⟨g, 1, none⟩ = some (.int .i64 i) := hC.cell 1
  have c2 : w.cell? ⟨g, 2, none⟩ = some (.int .i64 t) := hC.cell 2
  have c3 : w.cell? ⟨g, 3, none⟩ = some (.slice A n cp) := hC.cell 3
  clear hC
  obtain ⟨r, hr⟩ : ∃ r, rightB c i t n = r := ⟨_, rfl⟩
  rw [hr]
  by_cases h0 : i < 0
  · have HR := Lib.hid (show r = false by rw [← hr]; unfold rightB; rw [if_pos h0])
    clear hr
    go_enter Try.func15, Try.ntmps15
    go_wp2
    go_ret
    rw [HR.out]; exact ⟨rfl, rfl⟩
  by_cases h1 : 255 < i
  · have HR := Lib.hid (show r = false by rw [← hr]; unfold rightB; rw [if_neg h0, if_pos h1])
    clear hr
    go_enter Try.func15, Try.ntmps15
    go_wp2
    go_ret
    rw [HR.out]; exact ⟨rfl, rfl⟩
  by_cases h2 : c = 1 ∨ c = 2
  · have HR := Lib.hid (show r = (decide (1 ≤ t) && decide (t ≤ 255) && decide (n ≤ 4091)) by rw [← hr]; unfold rightB; rw [if_neg h0, if_neg h1, if_pos h2])
    clear hr
    rcases h2 with rfl | rfl
    all_goals (
      go_enter Try.func15, Try.ntmps15
      go_wp2
      all_goals (go_ret; rw [HR.out]; refine ⟨Eq.trans (b := Ending.returned (.bool _)) rfl (congrArg (fun b => Ending.returned (.bool b)) ?_), rfl⟩; rw [Bool.eq_iff_iff]; simp only [Bool.and_eq_true, decide_eq_true_eq, Bool.false_eq_true, false_iff]; omega))
  by_cases h3 : c = 3 ∨ c = 4
  · have HR := Lib.hid (show r = (decide (t = 0) && decide (n = 0)) by rw [← hr]; unfold rightB; rw [if_neg h0, if_neg h1, if_neg h2, if_pos h3])
    clear hr
    clear h2
    rcases h3 with rfl | rfl
    all_goals (
      go_enter Try.func15, Try.ntmps15
      go_wp2
      all_goals (go_ret; rw [HR.out]; refine ⟨Eq.trans (b := Ending.returned (.bool _)) rfl (congrArg (fun b => Ending.returned (.bool b)) ?_), rfl⟩; rw [Bool.eq_iff_iff]; simp only [Bool.and_eq_true, decide_eq_true_eq, Bool.false_eq_true, beq_iff_eq, false_iff]; omega))
  have HR := Lib.hid (show r = false by rw [← hr]; unfold rightB; rw [if_neg h0, if_neg h1, if_neg h2, if_neg h3])
  clear hr
  have e1 : (c == 1) = false := by simp; omega
  have e2 : (c == 2) = false := by simp; omega
  have e3 : (c == 3) = false := by simp; omega
  have e4 : (c == 4) = false := by simp; omega
  clear h2 h3
  go_enter Try.func15, Try.ntmps15
  go_wp2
  go_ret
  rw [HR.out]; exact ⟨rfl, rfl⟩
end Go.Proofs.Ytokogedgbegmkaa
