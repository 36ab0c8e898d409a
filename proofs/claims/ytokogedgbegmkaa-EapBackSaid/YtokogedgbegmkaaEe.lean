/-
  The contracts of the reference's Right and Write of layer 16.
-/
import Derived.Test.YtokogedgbegmkaaEd
namespace Go.Proofs.Ytokogedgbegmkaa
open Go.RowKit

set_option maxRecDepth 100000 in
set_option maxHeartbeats 1000000 in
theorem right_e (c i t : Int) (s : List UInt8) (n : Nat) (w : World) (hn : s.length = n) :
    Calls Try.prog 21 #[.agg #[.int .i64 c, .int .i64 i, .int .i64 t, .string ⟨s.toArray⟩]] w fun e w' => e = .returned (.bool (rightB c i t n)) ∧ Below w.heap.size w w' := by
  have hal : ∀ a b d s, Below w.heap.size w (w.alloc (.cells #[.int .i64 a, .int .i64 b, .int .i64 d, .string s] 23)) := fun a b d s => (Below.refl _ _).alloc (Nat.le_refl _) _
  have hlen : (s.length : Int) = (n : Int) := by omega
  obtain ⟨r, hr⟩ : ∃ r, rightB c i t n = r := ⟨_, rfl⟩
  rw [hr]
  have HAL := Lib.hid hal
  clear hal
  by_cases h0 : i < 0
  · have HR := Lib.hid (show r = false by rw [← hr]; unfold rightB; rw [if_pos h0])
    clear hr hn
    go_enter Try.func21, Try.ntmps21
    go_wp2
    go_ret
    rw [HR.out]; exact ⟨rfl, HAL.out _ _ _ _⟩
  by_cases h1 : 255 < i
  · have HR := Lib.hid (show r = false by rw [← hr]; unfold rightB; rw [if_neg h0, if_pos h1])
    clear hr hn
    go_enter Try.func21, Try.ntmps21
    go_wp2
    go_ret
    rw [HR.out]; exact ⟨rfl, HAL.out _ _ _ _⟩
  by_cases h2 : c = 1 ∨ c = 2
  · have HR := Lib.hid (show r = (decide (1 ≤ t) && decide (t ≤ 255) && decide (n ≤ 4091)) by rw [← hr]; unfold rightB; rw [if_neg h0, if_neg h1, if_pos h2])
    clear hr hn
    rcases h2 with rfl | rfl
    all_goals (
      go_enter Try.func21, Try.ntmps21
      go_wp2
      all_goals (go_ret; rw [HR.out]; refine ⟨Eq.trans (b := Ending.returned (.bool _)) rfl (congrArg (fun b => Ending.returned (.bool b)) ?_), HAL.out _ _ _ _⟩; rw [Bool.eq_iff_iff]; simp only [Bool.and_eq_true, decide_eq_true_eq, Bool.false_eq_true, false_iff]; omega))
  by_cases h3 : c = 3 ∨ c = 4
  · have HR := Lib.hid (show r = (decide (t = 0) && decide (n = 0)) by rw [← hr]; unfold rightB; rw [if_neg h0, if_neg h1, if_neg h2, if_pos h3])
    clear h2 hr
    by_cases hs : n = 0
    · obtain rfl : s = [] := List.eq_nil_of_length_eq_zero (by omega)
      clear hlen hn
      rcases h3 with rfl | rfl
      all_goals (
        go_enter Try.func21, Try.ntmps21
        go_wp2
        all_goals (go_ret; rw [HR.out]; refine ⟨Eq.trans (b := Ending.returned (.bool _)) rfl (congrArg (fun b => Ending.returned (.bool b)) ?_), HAL.out _ _ _ _⟩; rw [Bool.eq_iff_iff]; simp only [Bool.and_eq_true, decide_eq_true_eq, Bool.false_eq_true, false_iff, eq_self, true_iff]; omega))
    · have hs1 : ¬ s = [] := fun e => by subst e; simp at hn; omega
      have hs2 : s.isEmpty = false := by simpa using hs1
      have hs3 : (s == []) = false := by simpa using hs1
      clear hlen hn
      rcases h3 with rfl | rfl
      all_goals (
        go_enter Try.func21, Try.ntmps21
        go_wp2
        all_goals (go_ret; rw [HR.out]; refine ⟨Eq.trans (b := Ending.returned (.bool _)) rfl (congrArg (fun b => Ending.returned (.bool b)) ?_), HAL.out _ _ _ _⟩; rw [Bool.eq_iff_iff]; simp only [Bool.and_eq_true, decide_eq_true_eq, Bool.false_eq_true, false_iff]; omega))
  have HR := Lib.hid (show r = false by rw [← hr]; unfold rightB; rw [if_neg h0, if_neg h1, if_neg h2, if_neg h3])
  clear hr hn
  have e1 : (c == 1) = false := by simp; omega
  have e2 : (c == 2) = false := by simp; omega
  have e3 : (c == 3) = false := by simp; omega
  have e4 : (c == 4) = false := by simp; omega
  clear h2 h3
  go_enter Try.func21, Try.ntmps21
  go_wp2
  go_ret
  rw [HR.out]; exact ⟨rfl, HAL.out _ _ _ _⟩
end Go.Proofs.Ytokogedgbegmkaa
