/-
  The contracts of bytes.Equal and of package eap's Read.
-/
import Derived.Test.YtokogedgbegmkaaEg
namespace Go.Proofs.Ytokogedgbegmkaa
open Go.RowKit

set_option maxRecDepth 100000 in
theorem equal_e (A B : Option Addr) (c d n m : Nat) (x y : List UInt8) (w : World) (hn : x.length = n) (hm : y.length = m) (iA : In w w.heap.size A c x) (iB : In w w.heap.size B d y) (r : Bool) (hr : (x == y) = r) :
    Calls Try.prog 19 #[.slice A n c, .slice B m d] w fun e w' => e = .returned (.bool r) ∧ w' = w := by
  have h1 := conv_in hn iA
  have h2 := conv_in hm iB
  have HR := Lib.hid hr
  clear hn hm iA iB hr
  go_enter Try.func19, Try.ntmps19
  go_wp2
  go_ret
  exact ⟨by rw [← HR.out] <;> rfl, rfl⟩
/-- What Read tells: Code, Id, Type, Data; what is wrong. -/
def readE (b : List UInt8) : (Int × Int × Int × List UInt8) × Nat :=
  if b.length < 4 ∨ b.length < cntE b then ((0, 0, 0, []), 3)
  else if writeE (saidE b).1 (saidE b).2.1 (saidE b).2.2.1 (saidE b).2.2.2 = (b, 0) then (saidE b, 0) else ((0, 0, 0, []), 2)
set_option maxRecDepth 100000 in
set_option maxHeartbeats 1000000 in
theorem read_e (A : Option Addr) (c n : Nat) (b : List UInt8) (w : World) (hn : b.length = n) (iB : In w w.heap.size A c b) (hm : n < 900000) :
    Calls Try.prog 11 #[.slice A n c] w fun e w' => ∃ A' n' c', e = .returned (.tuple #[.agg #[.int .i64 (readE b).1.1, .int .i64 (readE b).1.2.1, .int .i64 (readE b).1.2.2.1, .slice A' n' c'], .int .i64 ((readE b).2 : Int)]) ∧ Buf w' w.heap.size A' n' c' (readE b).1.2.2.2 ∧ Below w.heap.size w w' := by
  have hR := Blk.new_of w 29 #[.int .i64 0, .int .i64 0, .int .i64 0, .slice none 0 0] _ rfl
  have hbw : Below w.heap.size w (w.alloc (.cells #[.int .i64 0, .int .i64 0, .int .i64 0, .slice none 0 0] 29)) := (Below.refl _ _).alloc (Nat.le_refl _) _
  by_cases h4 : n < 4
  · have HZ := Lib.hid (show readE b = ((0, 0, 0, []), 3) by unfold readE; rw [if_pos (.inl (by omega))])
    have hd : (n : Int) < 4 := by omega
    clear hn iB h4
    go_enter Try.func11, Try.ntmps11
    go_upto_region 1 with (fail)
    generalize w.alloc (.cells #[.int .i64 0, .int .i64 0, .int .i64 0, .slice none 0 0] 29) = w1 at *
    go_wp2_with ((with_reducible refine (?_ : wpList _ _ _ (Oper.mk none _ _ _ _ _ :: _) _ _)); go_loud (refine wpList_store_blk rfl 29 (.tmp 2) (.tmp 17) rfl rfl w.heap.size [.int .i64 0, .int .i64 0, .int .i64 0, .slice none 0 0] rfl rfl _ _ hR (by kernel_rfl) rfl (by simp [Value.oneCell']) ?_); intro w9 hQ9 hg9)
    have f0 : w9.cell? ⟨w.heap.size, 0, none⟩ = some (.int .i64 0) := hQ9.cell 0
    have f1 : w9.cell? ⟨w.heap.size, 1, none⟩ = some (.int .i64 0) := hQ9.cell 1
    have f2 : w9.cell? ⟨w.heap.size, 2, none⟩ = some (.int .i64 0) := hQ9.cell 2
    have f3 : w9.cell? ⟨w.heap.size, 3, none⟩ = some (.slice none 0 0) := hQ9.cell 3
    have hb9 : Below w.heap.size w w9 := below_new hbw hg9 (Nat.le_refl _) hbw.size
    refine bodyPost_ret (v := .tuple #[.agg #[.int .i64 0, .int .i64 0, .int .i64 0, .slice none 0 0], .int .i64 3]) (by simp [results, Try.results11, go_sem, f0, f1, f2, f3]) rfl ⟨_, _, _, by rw [HZ.out] <;> rfl, by rw [HZ.out]; exact Buf.nil _ _, hb9⟩
  · have hd : ¬ (n : Int) < 4 := by omega
    have HI := Lib.hid (in_up iB hbw)
    have HN := Lib.hid hn
    have H4 := Lib.hid (show 4 ≤ n by omega)
    by_cases hcn : n < cntE b
    · have HZ := Lib.hid (show readE b = ((0, 0, 0, []), 3) by unfold readE; rw [if_pos (.inr (by omega))])
      have hd2 : (n : Int) < (cntE b : Int) := by omega
      clear hn iB h4 hcn
      go_enter Try.func11, Try.ntmps11
      go_upto_region 1 with (fail)
      generalize w.alloc (.cells #[.int .i64 0, .int .i64 0, .int .i64 0, .slice none 0 0] 29) = w1 at *
      go_upto_region 2 with (go_at_call 17; refine (countOf_e A c n b _ HN.out HI.out H4.out).mono ?_; rintro e w2 ⟨rfl, hb2⟩)
      replace hR := hR.below hb2 hR.lt
      replace hbw := hbw.trans (hb2.mono hbw.size)
      go_wp2_with ((with_reducible refine (?_ : wpList _ _ _ (Oper.mk none _ _ _ _ _ :: _) _ _)); go_loud (refine wpList_store_blk rfl 29 (.tmp 2) (.tmp 17) rfl rfl w.heap.size [.int .i64 0, .int .i64 0, .int .i64 0, .slice none 0 0] rfl rfl _ _ hR (by kernel_rfl) rfl (by simp [Value.oneCell']) ?_); intro w9 hQ9 hg9)
      have f0 : w9.cell? ⟨w.heap.size, 0, none⟩ = some (.int .i64 0) := hQ9.cell 0
      have f1 : w9.cell? ⟨w.heap.size, 1, none⟩ = some (.int .i64 0) := hQ9.cell 1
      have f2 : w9.cell? ⟨w.heap.size, 2, none⟩ = some (.int .i64 0) := hQ9.cell 2
      have f3 : w9.cell? ⟨w.heap.size, 3, none⟩ = some (.slice none 0 0) := hQ9.cell 3
      have hb9 : Below w.heap.size w w9 := below_new hbw hg9 (Nat.le_refl _) hbw.size
      refine bodyPost_ret (v := .tuple #[.agg #[.int .i64 0, .int .i64 0, .int .i64 0, .slice none 0 0], .int .i64 3]) (by simp [results, Try.results11, go_sem, f0, f1, f2, f3]) rfl ⟨_, _, _, by rw [HZ.out] <;> rfl, by rw [HZ.out]; exact Buf.nil _ _, hb9⟩
    · have hd2 : ¬ (n : Int) < (cntE b : Int) := by omega
      have HZ0 := Lib.hid (show readE b = if writeE (saidE b).1 (saidE b).2.1 (saidE b).2.2.1 (saidE b).2.2.2 = (b, 0) then (saidE b, 0) else ((0, 0, 0, []), 2) by unfold readE; rw [if_neg (by omega)])
      have HSL := Lib.hid (show (saidE b).2.2.2.length ≤ n by unfold saidE; rw [List.length_drop]; omega)
      have HS := Lib.hid (fun (W : World) (i : In W W.heap.size A c b) => said_e A c n b W HN.out i H4.out)
      generalize saidE b = sd at *
      obtain ⟨p0, p1, p2, pd⟩ := sd
      simp only at HZ0 HSL HS
      clear hn iB h4 hcn
      go_enter Try.func11, Try.ntmps11
      go_upto_region 1 with (fail)
      generalize w.alloc (.cells #[.int .i64 0, .int .i64 0, .int .i64 0, .slice none 0 0] 29) = w1 at *
      go_upto_region 3 with (go_at_call 17; refine (countOf_e A c n b _ HN.out HI.out H4.out).mono ?_; rintro e w2 ⟨rfl, hb2⟩)
      replace hR := hR.below hb2 hR.lt
      replace hbw := hbw.trans (hb2.mono hbw.size)
      replace HI := Lib.hid (in_up HI.out hb2)
      clear hb2
      have hRlt0 := Lib.hid hR.lt
      go_upto_region 4 with (first
        | (go_at_call 18; refine (HS.out _ HI.out).mono ?_; rintro e w3 ⟨A3, n3, c3, rfl, hl3, hi3, hb3⟩)
        | ((with_reducible refine (?_ : wpList _ _ _ (Oper.mk none _ _ _ _ _ :: _) _ _)); go_loud (refine wpList_store_blk rfl 29 (.tmp 4) (.tmp 19) rfl rfl w3.heap.size [.int .i64 p0, .int .i64 p1, .int .i64 p2, .slice A3 n3 c3] rfl rfl _ _ (Blk.new_of w3 _ _ _ rfl) (by kernel_rfl) rfl (by simp [Value.oneCell']) ?_); intro w4 hD4 hg4))
      have hbq : Below w3.heap.size w3 w4 := below_new ((Below.refl _ _).alloc (Nat.le_refl _) _) hg4 (Nat.le_refl _) (by simp)
      have hb34 := hb3.trans (hbq.mono hb3.size)
      replace hR := hR.below hb34 hR.lt
      replace hi3 := in_up hi3 hbq
      replace HI := Lib.hid (in_up HI.out hb34)
      replace hbw := hbw.trans (hb34.mono hbw.size)
      have hgR : w.heap.size < w3.heap.size := Nat.lt_of_lt_of_le hRlt0.out hb3.size
      generalize w3.heap.size = g3 at *
      clear hb3 hbq hb34 hg4
      replace hD4 : Blk w4 g3 29 [.int .i64 p0, .int .i64 p1, .int .i64 p2, .slice A3 n3 c3] := hD4
      have d0 : w4.cell? ⟨g3, 0, none⟩ = some (.int .i64 p0) := hD4.cell 0
      have d1 : w4.cell? ⟨g3, 1, none⟩ = some (.int .i64 p1) := hD4.cell 1
      have d2 : w4.cell? ⟨g3, 2, none⟩ = some (.int .i64 p2) := hD4.cell 2
      have d3 : w4.cell? ⟨g3, 3, none⟩ = some (.slice A3 n3 c3) := hD4.cell 3
      have hn3 : n3 < 900000 := by have := HSL.out; omega
      go_upto_region 5 with (go_at_call 8; refine (write_e p0 p1 p2 A3 n3 c3 pd _ hl3 hi3 hn3).mono ?_; rintro e w5 ⟨A5, n5, c5, rfl, hX, hb5⟩)
      replace hR := hR.below hb5 hR.lt
      have hD5 := hD4.below hb5 hD4.lt
      replace hi3 := in_up hi3 hb5
      have hiB := in_up HI.out hb5
      replace hbw := hbw.trans (hb5.mono hbw.size)
      have hiX := hX.toIn (Nat.le_refl _)
      have hXl := hX.1
      clear d0 d1 d2 d3 hD4 hb5 hX
      generalize hwe : writeE p0 p1 p2 pd = we at *
      obtain ⟨WB, WE⟩ := we
      simp only at hXl hiX
      by_cases he : WE = 0
      · subst he
        by_cases hx : WB = b
        · subst hx
          have HZ := Lib.hid (HZ0.out.trans (if_pos rfl))
          have HEq := Lib.hid (equal_e A5 A c5 c n5 n WB WB w5 hXl HN.out hiX hiB true (by simp))
          have HL3 := Lib.hid hl3
          have HI3 := Lib.hid hi3
          have HM3 := Lib.hid (show n3 < 1000000 by omega)
          clear hwe hXl hiX hiB hl3 hi3 HZ0 hn3
          go_upto_region 7 with (go_at_call 19; refine HEq.out.mono ?_; rintro e w6 ⟨rfl, hww⟩; have hw2 := hww.symm; subst hw2)
          have d3 : w5.cell? ⟨g3, 3, none⟩ = some (.slice A3 n3 c3) := hD5.cell 3
          go_upto_region 8 with (go_at_call 20; refine (clone_e _ _ _ pd _ HL3.out HI3.out HM3.out).mono ?_; rintro e w6 ⟨A6, c6, rfl, hB6, hb6⟩; have hD6 := hD5.below hb6 hD5.lt; have cc3 : w6.cell? ⟨g3, 3, none⟩ = some (.slice A3 n3 c3) := hD6.cell 3; have zz3 : w6.frozen? ⟨g3, 3, none⟩ = false := hD6.frozen 3; clear d3)
          have hgl := hD5.lt
          have hD7 := hD6.set_ 3 (.slice A6 n3 c6)
          have hR7 : Blk (w6.setCell ⟨g3, 3, none⟩ (.slice A6 n3 c6)) w.heap.size 29 _ := (hR.below hb6 hR.lt).far (by show w.heap.size ≠ g3; omega) _
          have hB7 : Buf (w6.setCell ⟨g3, 3, none⟩ (.slice A6 n3 c6)) w.heap.size A6 n3 c6 pd := (hB6.base hbw.size).kept (grown_setCell (g := g3) (grown_refl _ _) (.inl rfl) _) (fun g e h => by have h1 := (hB6.lt e).1; injection h with h; omega)
          have hb7 : Below w.heap.size w (w6.setCell ⟨g3, 3, none⟩ (.slice A6 n3 c6)) := (hbw.trans (hb6.mono hbw.size)).setCell (by show w.heap.size ≤ g3; omega) _
          have HB6 := Lib.hid (fun (g : Nat) (e : A6 = some ⟨g, 0, none⟩) => (show w.heap.size < g by have := (hB6.lt e).1; have := hD5.lt; omega))
          clear cc3 zz3 hD6 hB6 hb6 hgl hD5 hR hbw
          generalize w6.setCell ⟨g3, 3, none⟩ (.slice A6 n3 c6) = w7 at *
          have d0 : w7.cell? ⟨g3, 0, none⟩ = some (.int .i64 p0) := hD7.cell 0
          have d1 : w7.cell? ⟨g3, 1, none⟩ = some (.int .i64 p1) := hD7.cell 1
          have d2 : w7.cell? ⟨g3, 2, none⟩ = some (.int .i64 p2) := hD7.cell 2
          have d3 : w7.cell? ⟨g3, 3, none⟩ = some (.slice A6 n3 c6) := hD7.cell 3
          go_wp2_with ((with_reducible refine (?_ : wpList _ _ _ (Oper.mk none _ _ _ _ _ :: _) _ _)); go_loud (refine wpList_store_blk rfl 29 (.tmp 2) (.tmp 38) rfl rfl w.heap.size [.int .i64 p0, .int .i64 p1, .int .i64 p2, .slice A6 n3 c6] rfl rfl _ _ hR7 (by kernel_rfl) rfl (by simp [Value.oneCell']) ?_); intro w9 hQ9 hg9)
          have f0 : w9.cell? ⟨w.heap.size, 0, none⟩ = some (.int .i64 p0) := hQ9.cell 0
          have f1 : w9.cell? ⟨w.heap.size, 1, none⟩ = some (.int .i64 p1) := hQ9.cell 1
          have f2 : w9.cell? ⟨w.heap.size, 2, none⟩ = some (.int .i64 p2) := hQ9.cell 2
          have f3 : w9.cell? ⟨w.heap.size, 3, none⟩ = some (.slice A6 n3 c6) := hQ9.cell 3
          have hb9 : Below w.heap.size w w9 := below_new hb7 hg9 (Nat.le_refl _) hb7.size
          refine bodyPost_ret (v := .tuple #[.agg #[.int .i64 p0, .int .i64 p1, .int .i64 p2, .slice A6 n3 c6], .int .i64 0]) (by simp [results, Try.results11, go_sem, f0, f1, f2, f3]) rfl ⟨_, _, _, by rw [HZ.out] <;> rfl, by rw [HZ.out]; exact hB7.kept hg9 (fun g e h => by have h1 := HB6.out g e; injection h with h; omega), hb9⟩
        · have HZ := Lib.hid (HZ0.out.trans (if_neg (by intro h; cases h; exact hx rfl)))
          have HEq := Lib.hid (equal_e A5 A c5 c n5 n WB b w5 hXl HN.out hiX hiB false (by simpa using hx))
          clear hwe hXl hiX hiB hl3 hi3 HZ0 hn3 hx
          go_upto_region 6 with (go_at_call 19; refine HEq.out.mono ?_; rintro e w6 ⟨rfl, hww⟩; have hw2 := hww.symm; subst hw2)
          go_wp2_with ((with_reducible refine (?_ : wpList _ _ _ (Oper.mk none _ _ _ _ _ :: _) _ _)); go_loud (refine wpList_store_blk rfl 29 (.tmp 2) (.tmp 33) rfl rfl w.heap.size [.int .i64 0, .int .i64 0, .int .i64 0, .slice none 0 0] rfl rfl _ _ hR (by kernel_rfl) rfl (by simp [Value.oneCell']) ?_); intro w9 hQ9 hg9)
          have f0 : w9.cell? ⟨w.heap.size, 0, none⟩ = some (.int .i64 0) := hQ9.cell 0
          have f1 : w9.cell? ⟨w.heap.size, 1, none⟩ = some (.int .i64 0) := hQ9.cell 1
          have f2 : w9.cell? ⟨w.heap.size, 2, none⟩ = some (.int .i64 0) := hQ9.cell 2
          have f3 : w9.cell? ⟨w.heap.size, 3, none⟩ = some (.slice none 0 0) := hQ9.cell 3
          have hb9 : Below w.heap.size w w9 := below_new hbw hg9 (Nat.le_refl _) hbw.size
          refine bodyPost_ret (v := .tuple #[.agg #[.int .i64 0, .int .i64 0, .int .i64 0, .slice none 0 0], .int .i64 2]) (by simp [results, Try.results11, go_sem, f0, f1, f2, f3]) rfl ⟨_, _, _, by rw [HZ.out] <;> rfl, by rw [HZ.out]; exact Buf.nil _ _, hb9⟩
      · have HZ := Lib.hid (HZ0.out.trans (if_neg (by intro h; cases h; exact he rfl)))
        have hd5 : ¬ (WE : Int) = 0 := by omega
        clear hwe hXl hiX hiB hl3 hi3 HZ0 hn3 he
        go_upto_region 6 with (fail)
        go_wp2_with ((with_reducible refine (?_ : wpList _ _ _ (Oper.mk none _ _ _ _ _ :: _) _ _)); go_loud (refine wpList_store_blk rfl 29 (.tmp 2) (.tmp 33) rfl rfl w.heap.size [.int .i64 0, .int .i64 0, .int .i64 0, .slice none 0 0] rfl rfl _ _ hR (by kernel_rfl) rfl (by simp [Value.oneCell']) ?_); intro w9 hQ9 hg9)
        have f0 : w9.cell? ⟨w.heap.size, 0, none⟩ = some (.int .i64 0) := hQ9.cell 0
        have f1 : w9.cell? ⟨w.heap.size, 1, none⟩ = some (.int .i64 0) := hQ9.cell 1
        have f2 : w9.cell? ⟨w.heap.size, 2, none⟩ = some (.int .i64 0) := hQ9.cell 2
        have f3 : w9.cell? ⟨w.heap.size, 3, none⟩ = some (.slice none 0 0) := hQ9.cell 3
        have hb9 : Below w.heap.size w w9 := below_new hbw hg9 (Nat.le_refl _) hbw.size
        refine bodyPost_ret (v := .tuple #[.agg #[.int .i64 0, .int .i64 0, .int .i64 0, .slice none 0 0], .int .i64 2]) (by simp [results, Try.results11, go_sem, f0, f1, f2, f3]) rfl ⟨_, _, _, by rw [HZ.out] <;> rfl, by rw [HZ.out]; exact Buf.nil _ _, hb9⟩
end Go.Proofs.Ytokogedgbegmkaa
