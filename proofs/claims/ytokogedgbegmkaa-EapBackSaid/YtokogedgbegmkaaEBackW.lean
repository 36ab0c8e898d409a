/-
  The walk of the statement EapBack.
-/
import Derived.Test.YtokogedgbegmkaaEWritesW
import Derived.Test.YtokogedgbegmkaaEi
namespace Go.Proofs.Ytokogedgbegmkaa
open Go.RowKit

theorem ub_of_byte {x : Int} (h0 : 0 ≤ x) (h1 : x ≤ 255) : ((ub x).toNat : Int) = x := by
  unfold ub; rw [UInt8.toNat_ofNat']; omega
/-- What a packet in form has for its bytes. -/
theorem write_fine {c i t : Int} {S W : List UInt8} (h : writeE c i t S = (W, 0)) : rightB c i t S.length = true ∧ W = wholeE c i t S := by
  unfold writeE at h
  split at h
  · rename_i hr
    exact ⟨hr, (congrArg Prod.fst h).symm⟩
  · simp at h
theorem cnt_append {W Y : List UInt8} (h : 4 ≤ W.length) : cntE (W ++ Y) = cntE W := by
  unfold cntE
  simp only [List.getD_eq_getElem?_getD]
  rw [List.getElem?_append_left (by omega), List.getElem?_append_left (by omega)]
theorem cnt_take {W : List UInt8} {k : Nat} (h : 4 ≤ k) : cntE (W.take k) = cntE W := by
  unfold cntE
  simp only [List.getD_eq_getElem?_getD]
  rw [List.getElem?_take, List.getElem?_take, if_pos (by omega), if_pos (by omega)]
theorem body_size {t : Int} {S : List UInt8} : (bodyE t S).length ≤ 1 + S.length := bodyE_length t S
theorem whole_cnt {c i t : Int} {S : List UInt8} (hS : S.length ≤ 4091) : cntE (wholeE c i t S) = (wholeE c i t S).length := by
  have hb := bodyE_length t S
  rw [wholeE_length]
  unfold wholeE
  rw [cnt_append (by simp)]
  generalize (bodyE t S).length = m at *
  unfold cntE
  show (ub (((4 + m : Nat) : Int) / 256)).toNat * 256 + (ub ((4 + m : Nat) : Int)).toNat = 4 + m
  unfold ub
  rw [UInt8.toNat_ofNat', UInt8.toNat_ofNat']
  omega
theorem said_whole {c i t : Int} {S : List UInt8} (h : rightB c i t S.length = true) : saidE (wholeE c i t S) = (c, i, t, S) := by
  obtain ⟨hh, h0, h1⟩ := right_big h
  have hc : ((ub c).toNat : Int) = c := ub_of_byte (by omega) (by omega)
  have hi : ((ub i).toNat : Int) = i := ub_of_byte h0 h1
  rcases hh with ⟨_, ht1, ht2, _⟩ | ⟨_, ht, hn⟩
  · have hb : bodyE t S = ub t :: S := by unfold bodyE; rw [if_neg (by omega)]
    have ht : ((ub t).toNat : Int) = t := ub_of_byte (by omega) ht2
    unfold saidE
    rw [wholeE_length, hb, if_neg (by simp)]
    unfold wholeE
    rw [hb]
    show (((ub c).toNat : Int), ((ub i).toNat : Int), ((ub t).toNat : Int), S) = _
    rw [hc, hi, ht]
  · obtain rfl := List.eq_nil_of_length_eq_zero hn
    subst ht
    show (((ub c).toNat : Int), ((ub i).toNat : Int), (0 : Int), ([] : List UInt8)) = _
    rw [hc, hi]
theorem read_whole {c i t : Int} {S W : List UInt8} (h : writeE c i t S = (W, 0)) : readE W = ((c, i, t, S), 0) := by
  obtain ⟨hr, rfl⟩ := write_fine h
  have hS : S.length ≤ 4091 := by obtain ⟨hh, _⟩ := right_big hr; omega
  have hcn := whole_cnt (c := c) (i := i) (t := t) hS
  unfold readE
  rw [if_neg (by rw [hcn, wholeE_length]; omega), said_whole hr]
  simp only
  rw [if_pos h]
theorem read_cut {c i t : Int} {S W : List UInt8} (h : writeE c i t S = (W, 0)) {k : Nat} (hk : k < W.length) : readE (W.take k) = ((0, 0, 0, []), 3) := by
  obtain ⟨hr, rfl⟩ := write_fine h
  have hS : S.length ≤ 4091 := by obtain ⟨hh, _⟩ := right_big hr; omega
  have hcn := whole_cnt (c := c) (i := i) (t := t) hS
  have hl : ((wholeE c i t S).take k).length = k := by rw [List.length_take]; omega
  unfold readE
  rw [if_pos]
  by_cases h4 : k < 4
  · left; omega
  · right; rw [cnt_take (by omega), hcn, hl]; exact hk
theorem read_more {c i t : Int} {S W : List UInt8} (h : writeE c i t S = (W, 0)) (y : UInt8) : readE (W ++ [y]) = ((0, 0, 0, []), 2) := by
  obtain ⟨hr, rfl⟩ := write_fine h
  obtain ⟨hh, h0, h1⟩ := right_big hr
  have hS : S.length ≤ 4091 := by omega
  have hcn := whole_cnt (c := c) (i := i) (t := t) hS
  have hlen : (wholeE c i t S ++ [y]).length = (wholeE c i t S).length + 1 := by rw [List.length_append]; rfl
  have hw4 := wholeE_length c i t S
  unfold readE
  rw [if_neg (by rw [cnt_append (by omega), hcn, hlen, hw4]; omega), if_neg]
  intro h2
  obtain ⟨hr2, he⟩ := write_fine h2
  obtain ⟨hh2, _⟩ := right_big hr2
  have hS2 : (saidE (wholeE c i t S ++ [y])).2.2.2.length ≤ 4091 := by omega
  have hc2 := whole_cnt (c := (saidE (wholeE c i t S ++ [y])).1) (i := (saidE (wholeE c i t S ++ [y])).2.1) (t := (saidE (wholeE c i t S ++ [y])).2.2.1) hS2
  rw [← he, cnt_append (by omega), hcn, hlen] at hc2
  omega
theorem write_bad {c i t : Int} {S : List UInt8} (h : (writeE c i t S).2 ≠ 0) : writeE c i t S = ([], 2) := by
  unfold writeE at *
  split at h
  · simp at h
  · rename_i h2; rw [if_neg h2]
theorem ix_cut (a : Int) (n : Nat) (h0 : 0 < n) (hn : n < 900000) : ∃ q : Nat, wrap64 ((IntKind.u64.wrap a).tmod (n : Int)) = (q : Int) ∧ q < n := by
  have hu0 : (0 : Int) ≤ IntKind.u64.wrap a := by rw [IntKind.wrap_u64]; omega
  have h1 := Int.emod_nonneg (IntKind.u64.wrap a) (b := (n : Int)) (by omega)
  have h2 := Int.emod_lt_of_pos (IntKind.u64.wrap a) (b := (n : Int)) (by omega)
  refine ⟨(IntKind.u64.wrap a % (n : Int)).toNat, ?_, by omega⟩
  rw [Int.tmod_eq_emod_of_nonneg hu0]
  generalize IntKind.u64.wrap a % (n : Int) = r at *
  unfold wrap64
  omega
set_option maxRecDepth 100000 in
set_option maxHeartbeats 1000000 in
theorem eapBack_walk (c i t : Int) (s : List UInt8) (cut : Int) (w : World) :
    Calls Try.prog 3 #[.agg #[.int .i64 c, .int .i64 i, .int .i64 t, .string ⟨s.toArray⟩], .int .i64 cut] w fun e w' => e = .returned (.bool true) ∧ Below w.heap.size w w' := by
  have ms : min (s.length : Int) 5000 = ((s.take 5000).length : Int) := by rw [List.length_take]; omega
  have hb3 : (s.take 5000).length ≤ 5000 := by rw [List.length_take]; omega
  have hbl : (s.take 5000).length ≤ s.length := by rw [List.length_take]; omega
  have hex := extract_to s (s.take 5000).length
  rw [List.take_eq_take_iff.2 (show min (s.take 5000).length s.length = min 5000 s.length by rw [List.length_take]; omega)] at hex
  generalize s.take 5000 = S at *
  obtain ⟨n, hn⟩ : ∃ n, n = S.length := ⟨_, rfl⟩
  rw [← hn] at ms hb3 hbl hex
  have hc0 : (0 : Int) ≤ (n : Int) := by omega
  have HN := Lib.hid hn.symm
  have HM := Lib.hid (show n < 900000 by omega)
  have HM2 := Lib.hid (show n < 1000000 by omega)
  clear hn hb3
  go_enter Try.func3, Try.ntmps3
  go_upto_region 1 with (fail)
  have hC := Blk.new_of w 23 #[.int .i64 c, .int .i64 i, .int .i64 t, .string ⟨s.toArray⟩] _ rfl
  have hbw : Below w.heap.size w (w.alloc (.cells #[.int .i64 c, .int .i64 i, .int .i64 t, .string ⟨s.toArray⟩] 23)) := (Below.refl _ _).alloc (Nat.le_refl _) _
  generalize (w.alloc (.cells #[.int .i64 c, .int .i64 i, .int .i64 t, .string ⟨s.toArray⟩] 23)) = w1 at *
  have c3 : w1.cell? ⟨w.heap.size, 3, none⟩ = some (.string ⟨s.toArray⟩) := hC.cell 3
  have cf : w1.frozen? ⟨w.heap.size, 3, none⟩ = false := hC.frozen 3
  go_upto_region 2 with (fail)
  have hC1 := hC.set_ 3 (.string ⟨S.toArray⟩)
  have hb1 : Below w.heap.size w (w1.setCell ⟨w.heap.size, 3, none⟩ (.string ⟨S.toArray⟩)) := hbw.setCell (Nat.le_refl _) _
  clear c3 cf hC hbw hex ms hc0 hbl
  generalize w1.setCell ⟨w.heap.size, 3, none⟩ (.string ⟨S.toArray⟩) = w2 at *
  have c0 : w2.cell? ⟨w.heap.size, 0, none⟩ = some (.int .i64 c) := hC1.cell 0
  have c1 : w2.cell? ⟨w.heap.size, 1, none⟩ = some (.int .i64 i) := hC1.cell 1
  have c2 : w2.cell? ⟨w.heap.size, 2, none⟩ = some (.int .i64 t) := hC1.cell 2
  have c3 : w2.cell? ⟨w.heap.size, 3, none⟩ = some (.string ⟨S.toArray⟩) := hC1.cell 3
  replace hC1 : Blk w2 w.heap.size 23 [.int .i64 c, .int .i64 i, .int .i64 t, .string ⟨S.toArray⟩] := hC1
  go_upto_region 3 with (first
    | (go_at_call 9; refine (to_e c i t S n _ HN.out HM2.out).mono ?_; rintro e w3 ⟨A3, cp3, rfl, hB3, hb3⟩)
    | (go_at_call 8; refine (write_e c i t A3 n cp3 S _ HN.out (hB3.toIn (Nat.le_refl _)) HM.out).mono ?_; rintro e w4 ⟨A5, n5, c5, rfl, hX, hb4⟩))
  have hC := (hC1.below hb3 hC1.lt).below hb4 (Nat.lt_of_lt_of_le hC1.lt hb3.size)
  have hbw := (hb1.trans (hb3.mono hb1.size)).trans (hb4.mono (Nat.le_trans hb1.size hb3.size))
  clear c0 c1 c2 c3 hC1 hb1 hb3 hb4 hB3
  generalize hwe : writeE c i t S = we at *
  obtain ⟨WB, WE⟩ := we
  simp only at hX
  by_cases he : WE = 0
  · subst he
    have hlen := wholeE_length c i t S
    have hblen := bodyE_length t S
    obtain ⟨hrt, hwb⟩ := write_fine hwe
    have hS9 : S.length ≤ 4091 := by obtain ⟨hh, _⟩ := right_big hrt; omega
    have hn5 : n5 < 800000 := by rw [← hX.1, hwb, hlen]; omega
    have hn0 : 0 < n5 := by rw [← hX.1, hwb, hlen]; omega
    have HW1 := Lib.hid (read_whole hwe)
    have HW2 := Lib.hid (fun (k : Nat) (hk : k < n5) => read_cut hwe (k := k) (by rw [hX.1]; exact hk))
    have HW3 := Lib.hid (read_more hwe (ub cut))
    have HX1 := Lib.hid hX.1
    have HN5 := Lib.hid (show n5 < 900000 by omega)
    clear hwe hlen hblen hrt hwb hS9
    have HR1 := Lib.hid (fun (W : World) (i0 : In W W.heap.size A5 c5 WB) => (show Calls Try.prog 11 #[.slice A5 n5 c5] W fun e w' => ∃ A' n' c', e = .returned (.tuple #[.agg #[.int .i64 c, .int .i64 i, .int .i64 t, .slice A' n' c'], .int .i64 0]) ∧ Buf w' W.heap.size A' n' c' S ∧ Below W.heap.size W w' by
      have := read_e A5 c5 n5 WB W HX1.out i0 HN5.out
      rw [HW1.out] at this
      exact this))
    obtain ⟨q, hq1, hq2⟩ := ix_cut cut n5 hn0 (by omega)
    have HR2 := Lib.hid (fun (W : World) (i0 : In W W.heap.size A5 c5 WB) => (show Calls Try.prog 11 #[.slice A5 q c5] W fun e w' => ∃ A' n' c', e = .returned (.tuple #[.agg #[.int .i64 0, .int .i64 0, .int .i64 0, .slice A' n' c'], .int .i64 3]) ∧ Buf w' W.heap.size A' n' c' [] ∧ Below W.heap.size W w' by
      have := read_e A5 c5 q (WB.take q) W (by rw [List.length_take, HX1.out]; omega) (i0.take q) (by omega)
      rw [HW2.out q hq2] at this
      exact this))
    obtain ⟨y, hy⟩ : ∃ y, y = ub cut := ⟨_, rfl⟩
    have huw := ub_wrap cut
    rw [← hy] at huw HW3
    obtain ⟨n6, hn6⟩ : ∃ n6, n6 = n5 + 1 := ⟨_, rfl⟩
    have HN6 := Lib.hid hn6
    have HR3 := Lib.hid (fun (W : World) (A : Option Addr) (cp : Nat) (i0 : In W W.heap.size A cp (WB ++ [y])) => (show Calls Try.prog 11 #[.slice A n6 cp] W fun e w' => ∃ A' n' c', e = .returned (.tuple #[.agg #[.int .i64 0, .int .i64 0, .int .i64 0, .slice A' n' c'], .int .i64 2]) ∧ Buf w' W.heap.size A' n' c' [] ∧ Below W.heap.size W w' by
      have := read_e A cp n6 (WB ++ [y]) W (by rw [List.length_append, HX1.out, HN6.out]; rfl) i0 (by omega)
      rw [HW3.out] at this
      exact this))
    have HQ1 := Lib.hid hq1
    clear hy hn6 hq1
    go_upto_region 5 with (go_at_call 10; refine (eaps_e _).mono ?_; rintro e w5 ⟨rfl, hb5⟩)
    replace hC := hC.below hb5 hC.lt; replace hX := hX.below hb5; replace hbw := hbw.trans (hb5.mono hbw.size)
    clear hb5
    go_upto_region 6 with (first
      | (go_at_call 11; refine (HR1.out _ (hX.toIn (Nat.le_refl _))).mono ?_; rintro e w6 ⟨A7, n7, c7, rfl, hQ, hb6⟩; replace hC := hC.below hb6 hC.lt; replace hX := hX.below hb6; replace hbw := hbw.trans (hb6.mono hbw.size); clear hb6)
      | ((with_reducible refine (?_ : wpList _ _ _ (Oper.mk none _ _ _ _ _ :: _) _ _)); go_loud (refine wpList_store_blk rfl 29 (.tmp 7) (.tmp 42) rfl rfl w6.heap.size [.int .i64 c, .int .i64 i, .int .i64 t, .slice A7 n7 c7] rfl rfl _ _ (Blk.new_of w6 _ _ _ rfl) (by kernel_rfl) rfl (by simp [Value.oneCell']) ?_); intro w7 hD hg7))
    have hb7 : Below w6.heap.size w6 w7 := below_new ((Below.refl _ _).alloc (Nat.le_refl _) _) hg7 (Nat.le_refl _) (by simp)
    replace hC := hC.below hb7 hC.lt; replace hX := hX.below hb7; replace hbw := hbw.trans (hb7.mono hbw.size)
    replace hQ := hQ.below hb7
    replace hD : Blk w7 w6.heap.size 29 [.int .i64 c, .int .i64 i, .int .i64 t, .slice A7 n7 c7] := hD
    generalize w6.heap.size = g7 at *
    clear hg7 hb7
    have hq3 := HQ1.out
    have hq4 : (0 : Int) ≤ (q : Int) := by omega
    have hq5 : (q : Int) ≤ (c5 : Int) := by have := hX.le.1; omega
    have hn50 : ¬ (n5 : Int) = 0 := by omega
    go_upto_region 7 with (first
      | (go_at_call 11; refine (HR2.out _ (hX.toIn (Nat.le_refl _))).mono ?_; rintro e w8 ⟨A9, n9, c9, rfl, _, hb8⟩; replace hC := hC.below hb8 hC.lt; replace hX := hX.below hb8; replace hbw := hbw.trans (hb8.mono hbw.size); replace hQ := hQ.below hb8; replace hD := hD.below hb8 hD.lt; clear hb8)
      | ((with_reducible refine (?_ : wpList _ _ _ (Oper.mk none _ _ _ _ _ :: _) _ _)); go_loud (refine wpList_store_blk rfl 29 (.tmp 9) (.tmp 55) rfl rfl w8.heap.size [.int .i64 0, .int .i64 0, .int .i64 0, .slice A9 n9 c9] rfl rfl _ _ (Blk.new_of w8 _ _ _ rfl) (by kernel_rfl) rfl (by simp [Value.oneCell']) ?_); intro w9 hD9 hg9))
    have hb9 : Below w8.heap.size w8 w9 := below_new ((Below.refl _ _).alloc (Nat.le_refl _) _) hg9 (Nat.le_refl _) (by simp)
    replace hC := hC.below hb9 hC.lt; replace hX := hX.below hb9; replace hbw := hbw.trans (hb9.mono hbw.size)
    replace hQ := hQ.below hb9
    replace hD := hD.below hb9 hD.lt
    clear hg9 hb9 hD9 hq3 hq4 hq5
    clear hn50
    have HX := Lib.hid hX
    have HBE := Lib.hid (buf_empty w9)
    have HAL := Lib.hid ((Below.refl w9.heap.size w9).alloc (Nat.le_refl _) (.cells #[] 5))
    go_upto_region 8 with (first
      | ((with_reducible refine (?_ : wpList _ _ _ (Oper.mk (some 60) _ _ _ _ _ :: _) _ _)); go_loud (refine wpList_append_far rfl (.tmp 58) (.tmp 59) 24 rfl (w9.heap.size) _ 0 _ [] WB _ rfl HBE.out rfl (src_at ((in_up (HX.out.toIn (Nat.le_refl _)) HAL.out).src (Nat.le_refl _)) HX1.out) (by rw [HX1.out]; have := HN5.out; omega) (by simp) n5 (by rw [HX1.out]; omega) ?_); intro A60 c60 w10 hB10 hg10 _; have hbA := below_own HAL.out HBE.out hg10 (Nat.le_refl _) (by simp); rw [List.nil_append] at hB10)
      | ((with_reducible refine (?_ : wpList _ _ _ (Oper.mk (some 64) _ _ _ _ _ :: _) _ _)); go_loud (refine wpList_append_far rfl (.tmp 60) (.tmp 63) 24 rfl (w9.heap.size) _ n5 _ WB [y] _ rfl (hB10.alloc _) rfl (src_at (((buf_lit w10 [y] 1 5 rfl (by decide)).toIn (Nat.le_refl _)).src (Nat.le_refl _)) rfl) (by have := HN5.out; show n5 + 1 ≤ _; omega) (Nat.le_trans hbA.size (by simp)) n6 HN6.out ?_); intro A64 c64 w11 hB11 hg11 _; have hbB := below_own (hbA.alloc hbA.size _) (hB10.alloc _) hg11 (Nat.le_refl _) (Nat.le_trans hbA.size (by simp)))
      | (go_at_call 11; refine (HR3.out _ A64 c64 (hB11.toIn (Nat.le_refl _))).mono ?_; rintro e w12 ⟨A12, n12, c12, rfl, _, hb12⟩; have hb9c := hbB.trans (hb12.mono hbB.size))
      | ((with_reducible refine (?_ : wpList _ _ _ (Oper.mk none _ _ _ _ _ :: _) _ _)); go_loud (refine wpList_store_blk rfl 29 (.tmp 11) (.tmp 66) rfl rfl w12.heap.size [.int .i64 0, .int .i64 0, .int .i64 0, .slice A12 n12 c12] rfl rfl _ _ (Blk.new_of w12 _ _ _ rfl) (by kernel_rfl) rfl (by simp [Value.oneCell']) ?_); intro wz hD13 hg13))
    have hb13 : Below w12.heap.size w12 wz := below_new ((Below.refl _ _).alloc (Nat.le_refl _) _) hg13 (Nat.le_refl _) (by simp)
    have hb9z := hb9c.trans (hb13.mono hb9c.size)
    replace hC := hC.below hb9z hC.lt
    replace hQ := hQ.below hb9z
    replace hD := hD.below hb9z hD.lt
    replace hbw := hbw.trans (hb9z.mono hbw.size)
    clear hD13 hg13 hb13 hb9c hb12 hB11 hg11 hbB hB10 hg10 hbA hb9z hX huw
    have HPL := Lib.hid hQ.1
    have hip := hQ.toIn (Nat.le_refl _)
    have HDD0 := Lib.hid (fun (W : World) (h : Below wz.heap.size wz W) => (show W.cell? ⟨g7, 0, none⟩ = some (.int .i64 c) from (hD.below h hD.lt).cell 0))
    have HDD1 := Lib.hid (fun (W : World) (h : Below wz.heap.size wz W) => (show W.cell? ⟨g7, 1, none⟩ = some (.int .i64 i) from (hD.below h hD.lt).cell 1))
    have HDD2 := Lib.hid (fun (W : World) (h : Below wz.heap.size wz W) => (show W.cell? ⟨g7, 2, none⟩ = some (.int .i64 t) from (hD.below h hD.lt).cell 2))
    have HDD3 := Lib.hid (fun (W : World) (h : Below wz.heap.size wz W) => (show W.cell? ⟨g7, 3, none⟩ = some (.slice A7 n7 c7) from (hD.below h hD.lt).cell 3))
    have HCC0 := Lib.hid (fun (W : World) (h : Below wz.heap.size wz W) => (show W.cell? ⟨w.heap.size, 0, none⟩ = some (.int .i64 c) from (hC.below h hC.lt).cell 0))
    have HCC1 := Lib.hid (fun (W : World) (h : Below wz.heap.size wz W) => (show W.cell? ⟨w.heap.size, 1, none⟩ = some (.int .i64 i) from (hC.below h hC.lt).cell 1))
    have HCC2 := Lib.hid (fun (W : World) (h : Below wz.heap.size wz W) => (show W.cell? ⟨w.heap.size, 2, none⟩ = some (.int .i64 t) from (hC.below h hC.lt).cell 2))
    have HCC3 := Lib.hid (fun (W : World) (h : Below wz.heap.size wz W) => (show W.cell? ⟨w.heap.size, 3, none⟩ = some (.string ⟨S.toArray⟩) from (hC.below h hC.lt).cell 3))
    have HIP := Lib.hid (fun (W : World) (h : Below wz.heap.size wz W) => in_up hip h)
    have HBW := Lib.hid hbw
    clear hip hQ hD hC hbw hn0 hn5 hq2
    go_wp2
    refine wp_region_noPanic ?_
    refine wp_region_held_drew (S := fun W => Below wz.heap.size wz W) (by kernel_rfl) (by exact below_drewN (Below.refl _ _) 1) (fun hHeld => ?_)
    refine wpAnyH_take (i := 0) (oi := ⟨_, _, _, _, _, _⟩) (v := ?_) rfl (by kernel_rfl) (by kernel_rfl) (by kernel_rfl) (fun _ _ _ h => h) (Or.inl ⟨by rfl, ?_⟩) hHeld ?_
    rotate_left 1
    · (intro W hSw; (try dsimp only at hSw); go_simp; try with_reducible rfl)
    try simp only [Act.put, List.setIfInBounds_toArray, List.set_cons_zero, List.set_cons_succ]
    refine wpAnyH_take (i := 1) (oi := ⟨_, _, _, _, _, _⟩) (v := ?_) rfl (by kernel_rfl) (by kernel_rfl) (by kernel_rfl) (fun _ _ _ h => h) (Or.inl ⟨by rfl, ?_⟩) hHeld ?_
    rotate_left 1
    · (intro W hSw; (try dsimp only at hSw); go_simp; try with_reducible rfl)
    try simp only [Act.put, List.setIfInBounds_toArray, List.set_cons_zero, List.set_cons_succ]
    refine wpAnyH_take (i := 2) (oi := ⟨_, _, _, _, _, _⟩) (v := ?_) rfl (by kernel_rfl) (by kernel_rfl) (by kernel_rfl) (fun _ _ _ h => h) (Or.inl ⟨by rfl, ?_⟩) hHeld ?_
    rotate_left 1
    · (intro W hSw; (try dsimp only at hSw); go_simp; try with_reducible rfl)
    try simp only [Act.put, List.setIfInBounds_toArray, List.set_cons_zero, List.set_cons_succ]
    refine wpAnyH_take (i := 3) (oi := ⟨_, _, _, _, _, _⟩) (v := ?_) rfl (by kernel_rfl) (by kernel_rfl) (by kernel_rfl) (fun _ _ _ h => h) (Or.inl ⟨by rfl, ?_⟩) hHeld ?_
    rotate_left 1
    · (intro W hSw; (try dsimp only at hSw); have d0 := HDD0.out W hSw; have d1 := HDD1.out W hSw; have d2 := HDD2.out W hSw; have d3 := HDD3.out W hSw; go_simp; try with_reducible rfl)
    try simp only [Act.put, List.setIfInBounds_toArray, List.set_cons_zero, List.set_cons_succ]
    refine wpAnyH_take (i := 5) (oi := ⟨_, _, _, _, _, _⟩) (v := ?_) rfl (by kernel_rfl) (by kernel_rfl) (by kernel_rfl) (fun _ _ _ h => h) (Or.inl ⟨by rfl, ?_⟩) hHeld ?_
    rotate_left 1
    · (intro W hSw; (try dsimp only at hSw); have c0 := HCC0.out W hSw; have c1 := HCC1.out W hSw; have c2 := HCC2.out W hSw; have c3 := HCC3.out W hSw; go_simp; try with_reducible rfl)
    try simp only [Act.put, List.setIfInBounds_toArray, List.set_cons_zero, List.set_cons_succ]
    refine wpAnyH_ready (rs := [4]) (by kernel_rfl) (by simp) ?_
    refine AllReadyH.cons (o := ⟨_, _, _, _, _, _⟩) rfl (fun K hK => ?_) AllReadyH.nil
    go_simp
    go_at_call 12
    refine (from_e c i t A7 n7 c7 S _ HPL.out (HIP.out _ hHeld)).mono ?_
    rintro e wy ⟨rfl, hbc⟩
    try go_wp2_with fail
    replace hHeld : Below wz.heap.size wz wz.drew := hHeld
    refine hK.out _ _ (hHeld.trans (hbc.mono hHeld.size)) (fun hHeld => ?_)
    clear hK K hbc
    try simp only [Act.put, List.setIfInBounds_toArray, List.set_cons_zero, List.set_cons_succ]
    refine wpAnyH_take (i := 6) (oi := ⟨_, _, _, _, _, _⟩) (v := ?_) rfl (by kernel_rfl) (by kernel_rfl) (by kernel_rfl) (fun _ _ _ h => h) (Or.inl ⟨by rfl, ?_⟩) hHeld ?_
    rotate_left 1
    · (intro W hSw; (try dsimp only at hSw); go_simp; try with_reducible rfl)
    try simp only [Act.put, List.setIfInBounds_toArray, List.set_cons_zero, List.set_cons_succ]
    refine wpAnyH_take (i := 7) (oi := ⟨_, _, _, _, _, _⟩) (v := ?_) rfl (by kernel_rfl) (by kernel_rfl) (by kernel_rfl) (fun _ _ _ h => h) (Or.inl ⟨by rfl, ?_⟩) hHeld ?_
    rotate_left 1
    · (intro W hSw; (try dsimp only at hSw); go_simp; try with_reducible rfl)
    try simp only [Act.put, List.setIfInBounds_toArray, List.set_cons_zero, List.set_cons_succ]
    refine wpAnyH_take (i := 8) (oi := ⟨_, _, _, _, _, _⟩) (v := ?_) rfl (by kernel_rfl) (by kernel_rfl) (by kernel_rfl) (fun _ _ _ h => h) (Or.inl ⟨by rfl, ?_⟩) hHeld ?_
    rotate_left 1
    · (intro W hSw; (try dsimp only at hSw); go_simp; try with_reducible rfl)
    try simp only [Act.put, List.setIfInBounds_toArray, List.set_cons_zero, List.set_cons_succ]
    refine wpAnyH_take (i := 9) (oi := ⟨_, _, _, _, _, _⟩) (v := ?_) rfl (by kernel_rfl) (by kernel_rfl) (by kernel_rfl) (fun _ _ _ h => h) (Or.inl ⟨by rfl, ?_⟩) hHeld ?_
    rotate_left 1
    · (intro W hSw; (try dsimp only at hSw); go_simp; try with_reducible rfl)
    try simp only [Act.put, List.setIfInBounds_toArray, List.set_cons_zero, List.set_cons_succ]
    refine wpAnyH_take (i := 10) (oi := ⟨_, _, _, _, _, _⟩) (v := ?_) rfl (by kernel_rfl) (by kernel_rfl) (by kernel_rfl) (fun _ _ _ h => h) (Or.inl ⟨by rfl, ?_⟩) hHeld ?_
    rotate_left 1
    · (intro W hSw; (try dsimp only at hSw); go_simp; try with_reducible rfl)
    try simp only [Act.put, List.setIfInBounds_toArray, List.set_cons_zero, List.set_cons_succ]
    refine wpAnyH_take (i := 11) (oi := ⟨_, _, _, _, _, _⟩) (v := ?_) rfl (by kernel_rfl) (by kernel_rfl) (by kernel_rfl) (fun _ _ _ h => h) (Or.inl ⟨by rfl, ?_⟩) hHeld ?_
    rotate_left 1
    · (intro W hSw; (try dsimp only at hSw); go_simp; try with_reducible rfl)
    try simp only [Act.put, List.setIfInBounds_toArray, List.set_cons_zero, List.set_cons_succ]
    refine wpAnyH_take (i := 12) (oi := ⟨_, _, _, _, _, _⟩) (v := ?_) rfl (by kernel_rfl) (by kernel_rfl) (by kernel_rfl) (fun _ _ _ h => h) (Or.inl ⟨by rfl, ?_⟩) hHeld ?_
    rotate_left 1
    · (intro W hSw; (try dsimp only at hSw); go_simp; try with_reducible rfl)
    try simp only [Act.put, List.setIfInBounds_toArray, List.set_cons_zero, List.set_cons_succ]
    refine wpAnyH_take (i := 13) (oi := ⟨_, _, _, _, _, _⟩) (v := ?_) rfl (by kernel_rfl) (by kernel_rfl) (by kernel_rfl) (fun _ _ _ h => h) (Or.inl ⟨by rfl, ?_⟩) hHeld ?_
    rotate_left 1
    · (intro W hSw; (try dsimp only at hSw); go_simp; try with_reducible rfl)
    try simp only [Act.put, List.setIfInBounds_toArray, List.set_cons_zero, List.set_cons_succ]
    refine wpAnyH_take (i := 14) (oi := ⟨_, _, _, _, _, _⟩) (v := ?_) rfl (by kernel_rfl) (by kernel_rfl) (by kernel_rfl) (fun _ _ _ h => h) (Or.inl ⟨by rfl, ?_⟩) hHeld ?_
    rotate_left 1
    · (intro W hSw; (try dsimp only at hSw); go_simp; try with_reducible rfl)
    try simp only [Act.put, List.setIfInBounds_toArray, List.set_cons_zero, List.set_cons_succ]
    refine wpAnyH_take (i := 15) (oi := ⟨_, _, _, _, _, _⟩) (v := ?_) rfl (by kernel_rfl) (by kernel_rfl) (by kernel_rfl) (fun _ _ _ h => h) (Or.inl ⟨by rfl, ?_⟩) hHeld ?_
    rotate_left 1
    · (intro W hSw; (try dsimp only at hSw); go_simp; try with_reducible rfl)
    try simp only [Act.put, List.setIfInBounds_toArray, List.set_cons_zero, List.set_cons_succ]
    refine wpAnyH_take (i := 16) (oi := ⟨_, _, _, _, _, _⟩) (v := ?_) rfl (by kernel_rfl) (by kernel_rfl) (by kernel_rfl) (fun _ _ _ h => h) (Or.inl ⟨by rfl, ?_⟩) hHeld ?_
    rotate_left 1
    · (intro W hSw; (try dsimp only at hSw); go_simp; try with_reducible rfl)
    try simp only [Act.put, List.setIfInBounds_toArray, List.set_cons_zero, List.set_cons_succ]
    refine wpAnyH_done (by kernel_rfl) ?_ _
    refine NoPanic.normal ?_
    have hfin := HBW.out.trans (hHeld.mono HBW.out.size)
    go_wp2
    go_ret
    exact ⟨rfl, hfin⟩
  · have HE0 := Lib.hid (write_bad (c := c) (i := i) (t := t) (S := S) (by rw [hwe]; exact he))
    rw [hwe] at HE0
    have hW0 : WB = [] ∧ WE = 2 := by have := HE0.out; injection this with h1 h2; exact ⟨h1, h2⟩
    obtain ⟨rfl, rfl⟩ := hW0
    obtain rfl : n5 = 0 := hX.1.symm
    clear hwe he HE0
    go_wp2_with (first
      | (go_at_call 10; refine (eaps_e _).mono ?_; rintro e w5 ⟨rfl, hb5⟩; replace hbw := hbw.trans (hb5.mono hbw.size); clear hb5))
    go_ret
    exact ⟨rfl, hbw⟩
end Go.Proofs.Ytokogedgbegmkaa
