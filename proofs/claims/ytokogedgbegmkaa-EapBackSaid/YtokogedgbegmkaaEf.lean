/-
  The contract of the reference's Write of layer 16.
-/
import Derived.Test.YtokogedgbegmkaaEe
namespace Go.Proofs.Ytokogedgbegmkaa
open Go.RowKit

theorem right_big {c i t : Int} {n : Nat} (h : rightB c i t n = true) : (((c = 1 ∨ c = 2) ∧ 1 ≤ t ∧ t ≤ 255 ∧ n ≤ 4091) ∨ ((c = 3 ∨ c = 4) ∧ t = 0 ∧ n = 0)) ∧ 0 ≤ i ∧ i ≤ 255 := by
  unfold rightB at h
  split at h
  · cases h
  · split at h
    · cases h
    · split at h
      · simp at h; exact ⟨.inl ⟨by assumption, by omega⟩, by omega⟩
      · split at h
        · simp at h; exact ⟨.inr ⟨by assumption, by omega⟩, by omega⟩
        · cases h
theorem str_byte (x : UInt8) (T : List UInt8) (hT : T = [x]) (W : World) : (convert 24 9 (.slice (some ⟨W.heap.size, 0, none⟩) 1 1)).run Try.prog (W.alloc (.cells #[.int .u8 (x.toNat : Int)] 5)) = .ok (.string ⟨T.toArray⟩) (W.alloc (.cells #[.int .u8 (x.toNat : Int)] 5)) := by
  subst hT
  exact conv_in rfl ((buf_lit W [x] 1 5 rfl (by decide)).toIn (Nat.le_refl _))
theorem str_four (x y z u : UInt8) (T : List UInt8) (hT : T = [x, y, z, u]) (W : World) : (convert 24 9 (.slice (some ⟨W.heap.size, 0, none⟩) 4 4)).run Try.prog (W.alloc (.cells #[.int .u8 (x.toNat : Int), .int .u8 (y.toNat : Int), .int .u8 (z.toNat : Int), .int .u8 (u.toNat : Int)] 5)) = .ok (.string ⟨T.toArray⟩) (W.alloc (.cells #[.int .u8 (x.toNat : Int), .int .u8 (y.toNat : Int), .int .u8 (z.toNat : Int), .int .u8 (u.toNat : Int)] 5)) := by
  subst hT
  exact conv_in rfl ((buf_lit W [x, y, z, u] 4 5 rfl (by decide)).toIn (Nat.le_refl _))

set_option maxRecDepth 100000 in
set_option maxHeartbeats 1000000 in
theorem rwrite_e (c i t : Int) (s : List UInt8) (n : Nat) (w : World) (hn : s.length = n) (hm : n < 1000000) :
    Calls Try.prog 14 #[.agg #[.int .i64 c, .int .i64 i, .int .i64 t, .string ⟨s.toArray⟩]] w fun e w' => e = .returned (.tuple #[.string ⟨(writeE c i t s).1.toArray⟩, .int .i64 ((writeE c i t s).2 : Int)]) ∧ Below w.heap.size w w' := by
  have HR := Lib.hid (fun (W : World) => right_e c i t s n W hn)
  obtain ⟨w1, hw1⟩ : ∃ w1, w1 = w.alloc (.cells #[.int .i64 c, .int .i64 i, .int .i64 t, .string ⟨s.toArray⟩] 23) := ⟨_, rfl⟩
  have hC : Blk w1 w.heap.size 23 [.int .i64 c, .int .i64 i, .int .i64 t, .string ⟨s.toArray⟩] := by rw [hw1]; exact Blk.new_of w _ _ _ rfl
  have hbw : Below w.heap.size w w1 := by rw [hw1]; exact (Below.refl _ _).alloc (Nat.le_refl _) _
  have HC := Lib.hid hC
  have HB := Lib.hid hbw
  have HW1 := Lib.hid hw1
  clear hC hbw hw1
  by_cases hr : rightB c i t n = true
  · have HE := Lib.hid (show writeE c i t s = (wholeE c i t s, 0) by unfold writeE; rw [hn, if_pos hr])
    simp only [hr] at HR
    obtain ⟨hcs, hi0, hi1⟩ := right_big hr
    have HU1 := ub_wrap c
    have HU2 := ub_wrap i
    obtain ⟨m, hmm⟩ : ∃ m, m = 4 + (bodyE t s).length := ⟨_, rfl⟩
    have HU3 := ub_wrap ((m : Int) / 256)
    have HU4 := ub_wrap (m : Int)
    obtain ⟨T, hT⟩ : ∃ T, T = [ub c, ub i, ub ((m : Int) / 256), ub m] := ⟨_, rfl⟩
    have hTl : T.length = 4 := by rw [hT]; rfl
    have HE2 := Lib.hid (show wholeE c i t s = T ++ bodyE t s by unfold wholeE; rw [← hmm, hT])
    have h4 := fun (W : World) => str_four _ _ _ _ T hT W
    have hbl := bodyE_length t s
    have HT := Lib.hid hT
    clear hr hT
    rcases hcs with ⟨hc, ht1, ht2, hn2⟩ | ⟨hc, ht, hn2⟩
    · have hc3 : c < 3 := by omega
      have hY : bodyE t s = [ub t] ++ s := by unfold bodyE; rw [if_neg (by omega)]; rfl
      have HU5 := ub_wrap t
      obtain ⟨X, hX⟩ : ∃ X, X = [ub t] := ⟨_, rfl⟩
      have hXl : X.length = 1 := by rw [hX]; rfl
      have h1 := fun (W : World) => str_byte _ X hX W
      rw [← hX] at hY
      clear HT
      generalize ub c = x1 at *
      generalize ub i = x2 at *
      generalize ub ((m : Int) / 256) = x3 at *
      generalize ub (m : Int) = x4 at *
      generalize ub t = x5 at *
      generalize bodyE t s = Y at *
      have ho1 : ¬ 9223372036854775807 < X.length + s.length := by omega
      have ha1 := bytes_append X s
      rw [← hY] at ha1
      have hm1 : (4 : Int) + (Y.length : Int) = (m : Int) := by omega
      have hm9 : m < 1000000 := by omega
      have ho2 : ¬ 9223372036854775807 < T.length + Y.length := by omega
      have ha2 := bytes_append T Y
      clear hTl hbl hn hn2 hmm hc hX hXl hY ht1 ht2
      go_enter Try.func14, Try.ntmps14
      go_upto_region 1 with (fail)
      rw [← HW1.out]
      have c0 : w1.cell? ⟨w.heap.size, 0, none⟩ = some (.int .i64 c) := HC.out.cell 0
      have c1 : w1.cell? ⟨w.heap.size, 1, none⟩ = some (.int .i64 i) := HC.out.cell 1
      have c2 : w1.cell? ⟨w.heap.size, 2, none⟩ = some (.int .i64 t) := HC.out.cell 2
      have c3 : w1.cell? ⟨w.heap.size, 3, none⟩ = some (.string ⟨s.toArray⟩) := HC.out.cell 3
      go_upto_region 3 with (go_at_call 21; refine (HR.out _).mono ?_; rintro e w2 ⟨rfl, hb2⟩)
      clear c0 c1 c2 c3
      have hC2 := HC.out.below hb2 HC.out.lt
      have c0 : w2.cell? ⟨w.heap.size, 0, none⟩ = some (.int .i64 c) := hC2.cell 0
      have c1 : w2.cell? ⟨w.heap.size, 1, none⟩ = some (.int .i64 i) := hC2.cell 1
      have c2 : w2.cell? ⟨w.heap.size, 2, none⟩ = some (.int .i64 t) := hC2.cell 2
      have c3 : w2.cell? ⟨w.heap.size, 3, none⟩ = some (.string ⟨s.toArray⟩) := hC2.cell 3
      have HF := Lib.hid (HB.out.trans (hb2.mono HB.out.size))
      have HC2 := Lib.hid hC2
      have hlt := hC2.lt
      clear hC2 hb2
      go_upto_region 7 with (fail)
      have hC3 := HC2.out.alloc (.cells #[.int .u8 (x5.toNat : Int)] 5)
      have HF3 := Lib.hid (HF.out.alloc HF.out.size (.cells #[.int .u8 (x5.toNat : Int)] 5))
      clear c0 c1 c2 c3
      generalize w2.alloc (.cells #[.int .u8 (x5.toNat : Int)] 5) = w3 at *
      have c0 : w3.cell? ⟨w.heap.size, 0, none⟩ = some (.int .i64 c) := hC3.cell 0
      have c1 : w3.cell? ⟨w.heap.size, 1, none⟩ = some (.int .i64 i) := hC3.cell 1
      clear hC3
      go_wp2
      go_ret2
      exact ⟨by rw [HE.out, HE2.out]; first | rw [ha2] | rfl, HF3.out.alloc HF3.out.size _⟩
    · have hc3 : ¬ c < 3 := by omega
      have hY : bodyE t s = [] := by unfold bodyE; rw [if_pos ht]
      have hm4 : m = 4 := by rw [hmm, hY]; rfl
      subst hm4
      have h4b : ∀ W : World, (convert 24 9 (.slice (some ⟨W.heap.size, 0, none⟩) 4 4)).run Try.prog (W.alloc (.cells #[.int .u8 ((ub c).toNat : Int), .int .u8 ((ub i).toNat : Int), .int .u8 0, .int .u8 4] 5)) = .ok (.string ⟨T.toArray⟩) (W.alloc (.cells #[.int .u8 ((ub c).toNat : Int), .int .u8 ((ub i).toNat : Int), .int .u8 0, .int .u8 4] 5)) := fun W => str_four (ub c) (ub i) 0 4 T HT.out W
      clear h4 HU3 HU4
      clear HT
      generalize ub c = x1 at *
      generalize ub i = x2 at *
      generalize bodyE t s = Y at *
      subst hY
      have ho2 : ¬ 9223372036854775807 < T.length := by omega
      rw [List.append_nil] at HE2
      have ha2 : (⟨T.toArray⟩ ++ ⟨#[]⟩ : ByteArray) = ⟨T.toArray⟩ := by have := bytes_append T []; rw [List.append_nil] at this; exact this
      clear hTl hbl hn hn2 hmm hc ht
      go_enter Try.func14, Try.ntmps14
      go_upto_region 1 with (fail)
      rw [← HW1.out]
      have c0 : w1.cell? ⟨w.heap.size, 0, none⟩ = some (.int .i64 c) := HC.out.cell 0
      have c1 : w1.cell? ⟨w.heap.size, 1, none⟩ = some (.int .i64 i) := HC.out.cell 1
      have c2 : w1.cell? ⟨w.heap.size, 2, none⟩ = some (.int .i64 t) := HC.out.cell 2
      have c3 : w1.cell? ⟨w.heap.size, 3, none⟩ = some (.string ⟨s.toArray⟩) := HC.out.cell 3
      go_upto_region 3 with (go_at_call 21; refine (HR.out _).mono ?_; rintro e w2 ⟨rfl, hb2⟩)
      clear c0 c1 c2 c3
      have hC2 := HC.out.below hb2 HC.out.lt
      have c0 : w2.cell? ⟨w.heap.size, 0, none⟩ = some (.int .i64 c) := hC2.cell 0
      have c1 : w2.cell? ⟨w.heap.size, 1, none⟩ = some (.int .i64 i) := hC2.cell 1
      have c2 : w2.cell? ⟨w.heap.size, 2, none⟩ = some (.int .i64 t) := hC2.cell 2
      have c3 : w2.cell? ⟨w.heap.size, 3, none⟩ = some (.string ⟨s.toArray⟩) := hC2.cell 3
      have HF := Lib.hid (HB.out.trans (hb2.mono HB.out.size))
      have HC2 := Lib.hid hC2
      have hlt := hC2.lt
      clear hC2 hb2
      go_upto_region 7 with (fail)
      go_wp2
      go_ret2
      exact ⟨by rw [HE.out, HE2.out]; first | rw [ha2] | rfl, HF.out.alloc HF.out.size _⟩
  · have hr2 : rightB c i t n = false := by simpa using hr
    have HE := Lib.hid (show writeE c i t s = ([], 2) by unfold writeE; rw [hn, if_neg hr])
    simp only [hr2] at HR
    clear hr hr2 hn
    go_enter Try.func14, Try.ntmps14
    go_upto_region 1 with (fail)
    rw [← HW1.out]
    have c0 : w1.cell? ⟨w.heap.size, 0, none⟩ = some (.int .i64 c) := HC.out.cell 0
    have c1 : w1.cell? ⟨w.heap.size, 1, none⟩ = some (.int .i64 i) := HC.out.cell 1
    have c2 : w1.cell? ⟨w.heap.size, 2, none⟩ = some (.int .i64 t) := HC.out.cell 2
    have c3 : w1.cell? ⟨w.heap.size, 3, none⟩ = some (.string ⟨s.toArray⟩) := HC.out.cell 3
    go_wp2_with (go_at_call 21; refine (HR.out _).mono ?_; rintro e w2 ⟨rfl, hb2⟩)
    go_ret2
    exact ⟨by rw [HE.out]; rfl, HB.out.trans (hb2.mono HB.out.size)⟩
end Go.Proofs.Ytokogedgbegmkaa
