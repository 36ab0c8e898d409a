/-
  The walk of the statement EapLong.
-/
import Derived.Test.YtokogedgbegmkaaEc
namespace Go.Proofs.Ytokogedgbegmkaa
open Go.RowKit

theorem ix_long (a : Int) : ∃ q : Nat, wrap64 ((IntKind.u64.wrap a).tmod 10) = (q : Int) ∧ q < 10 := by
  have hu0 : (0 : Int) ≤ IntKind.u64.wrap a := by rw [IntKind.wrap_u64]; omega
  refine ⟨(IntKind.u64.wrap a % 10).toNat, ?_, by omega⟩
  rw [Int.tmod_eq_emod_of_nonneg hu0]
  unfold wrap64
  omega
theorem ix_long2 (a : Int) : ∃ q : Nat, wrap64 ((IntKind.u64.wrap a).tmod 2) = (q : Int) ∧ q < 2 := by
  have hu0 : (0 : Int) ≤ IntKind.u64.wrap a := by rw [IntKind.wrap_u64]; omega
  refine ⟨(IntKind.u64.wrap a % 2).toNat, ?_, by omega⟩
  rw [Int.tmod_eq_emod_of_nonneg hu0]
  unfold wrap64
  omega
theorem write_long (c : Int) (Z : List UInt8) (hc : c = 1 ∨ c = 2) (h : Z.length ≤ 4091) : (writeE c 0 13 Z).2 = 0 ∧ (writeE c 0 13 Z).1.length = Z.length + 5 := by
  have hr : rightB c 0 13 Z.length = true := by
    unfold rightB
    rw [if_neg (by decide), if_neg (by decide), if_pos hc]
    simp; exact h
  unfold writeE
  rw [if_pos hr]
  refine ⟨rfl, ?_⟩
  rw [wholeE_length]
  unfold bodyE
  rw [if_neg (by decide)]
  simp; omega
theorem write_longer (c : Int) (Z : List UInt8) (hc : c = 1 ∨ c = 2) (h : 4091 < Z.length) : (writeE c 0 13 Z) = ([], 2) := by
  have hr : rightB c 0 13 Z.length = false := by
    unfold rightB
    rw [if_neg (by decide), if_neg (by decide), if_pos hc]
    simp; omega
  unfold writeE
  rw [if_neg (by rw [hr]; decide)]
set_option maxRecDepth 100000 in
set_option maxHeartbeats 1000000 in
theorem eapLong_walk (a b : Int) (w : World) :
    Calls Try.prog 5 #[.int .i64 a, .int .i64 b] w fun e w' => e = .returned (.bool true) ∧ Below w.heap.size w w' := by
  obtain ⟨q, hq1, hq2⟩ := ix_long a
  obtain ⟨r, hr1, hr2⟩ := ix_long2 b
  obtain ⟨m, hm⟩ : ∃ m, m = 4085 + q := ⟨_, rfl⟩
  have hm1 : (4085 : Int) + (q : Int) = (m : Int) := by omega
  have hm9 : m < 5000 := by omega
  have hc : (1 : Int) + (r : Int) = 1 ∨ (1 : Int) + (r : Int) = 2 := by omega
  obtain ⟨c, hcc⟩ : ∃ c, (1 : Int) + (r : Int) = c := ⟨_, rfl⟩
  rw [hcc] at hc
  have hmk := fun (W : World) => run_make_bytes .i64 .i64 m m (Nat.le_refl _) (by omega) W
  have hbz := fun (W : World) => buf_zeros W m (by omega)
  have hzl : (List.replicate m (0 : UInt8)).length = m := List.length_replicate
  generalize List.replicate m (0 : UInt8) = Z at *
  have HW := Lib.hid (fun (W : World) (A : Option Addr) (i : In W W.heap.size A m Z) => write_e c 0 13 A m m Z W hzl i (by omega))
  have HBZ := Lib.hid hbz
  have HC := Lib.hid hc
  have HZL := Lib.hid hzl
  clear hm hbz hc hzl
  by_cases hl : m ≤ 4091
  · have HL1 := Lib.hid (write_long c Z HC.out (by rw [HZL.out]; exact hl))
    have hl1 : (m : Int) ≤ 4091 := by omega
    clear hl
    go_enter Try.func5, Try.ntmps5
    go_upto_region 3 with (fail)
    clear hq1 hr1 hm1 hcc
    go_upto_region 4 with (go_at_call 8; refine (HW.out _ _ ((HBZ.out _).toIn (Nat.le_refl _))).mono ?_; rintro e w2 ⟨A2, n2, c2, rfl, hB2, hb2⟩)
    have hbw : Below w.heap.size w w2 := ((Below.refl _ _).alloc (Nat.le_refl _) _).trans (hb2.mono (by simp))
    have hl2 : (n2 : Int) = (m : Int) + 5 := by have h1 := hB2.1; have h2 := HL1.out.2; have h3 := HZL.out; omega
    have hl3 : (((writeE c 0 13 Z).2 : Nat) : Int) = 0 := by rw [HL1.out.1]; rfl
    rw [hl3]
    have HF := Lib.hid hbw
    clear hB2 hb2 hmk hl3 hbw
    go_wp2_with (go_at_call 10; refine (eaps_e _).mono ?_; rintro e w3 ⟨rfl, hb3⟩)
    go_ret
    exact ⟨rfl, HF.out.trans (hb3.mono HF.out.size)⟩
  · have HL1 := Lib.hid (write_longer c Z HC.out (by rw [HZL.out]; omega))
    have hl1 : decide ((m : Int) ≤ 4091) = false := by simp; omega
    clear hl
    go_enter Try.func5, Try.ntmps5
    go_upto_region 3 with (fail)
    clear hq1 hr1 hm1 hcc
    go_upto_region 4 with (go_at_call 8; refine (HW.out _ _ ((HBZ.out _).toIn (Nat.le_refl _))).mono ?_; rintro e w2 ⟨A2, n2, c2, rfl, hB2, hb2⟩)
    have hbw : Below w.heap.size w w2 := ((Below.refl _ _).alloc (Nat.le_refl _) _).trans (hb2.mono (by simp))
    have hl3 : (((writeE c 0 13 Z).2 : Nat) : Int) = 2 := by rw [HL1.out]; rfl
    rw [hl3]
    have HF := Lib.hid hbw
    clear hB2 hb2 hmk hl3 hbw
    go_wp2_with (go_at_call 10; refine (eaps_e _).mono ?_; rintro e w3 ⟨rfl, hb3⟩)
    go_ret
    exact ⟨rfl, HF.out.trans (hb3.mono HF.out.size)⟩
end Go.Proofs.Ytokogedgbegmkaa
