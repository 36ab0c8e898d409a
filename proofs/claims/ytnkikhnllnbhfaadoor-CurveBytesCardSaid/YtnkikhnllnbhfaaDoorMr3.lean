/-
  Mr3.
-/
import Derived.Test.YtnkikhnllnbhfaaDoorMr2
namespace Go.Proofs.YtnkikhnllnbhfaaDoor
open Go.RowKit
theorem les_over {n x y : P4} (h : overP x y = true) : lessenedP n (plusP x y) (plusC x y) = minusP (plusP x y) n := by
  have h1 : plusC x y = 1 := by unfold overP at h; have := eq_of_beq h; omega
  have h2 := minusC_le (plusP x y) n
  unfold lessenedP chooseP sbC
  rw [h1, if_neg (by rw [if_neg (by omega)]; omega)]
theorem les_more {n x y : P4} (hx : x.ok) (hy : y.ok) (h : overP x y = false) (hl : lessP (plusP x y) n = false) : lessenedP n (plusP x y) (plusC x y) = minusP (plusP x y) n := by
  have h0 := plusC_le hx hy
  have h1 : plusC x y = 0 := by
    unfold overP at h
    have := beq_eq_false_iff_ne.1 h
    omega
  have h2 := minusC_le (plusP x y) n
  have h3 : minusC (plusP x y) n = 0 := by
    unfold lessP at hl
    have := beq_eq_false_iff_ne.1 hl
    omega
  unfold lessenedP chooseP sbC
  rw [h1, h3, if_neg (by rw [if_neg (by omega)]; omega)]
theorem les_less {n x y : P4} (hx : x.ok) (hy : y.ok) (h : overP x y = false) (hl : lessP (plusP x y) n = true) : lessenedP n (plusP x y) (plusC x y) = plusP x y := by
  have h0 := plusC_le hx hy
  have h1 : plusC x y = 0 := by
    unfold overP at h
    have := beq_eq_false_iff_ne.1 h
    omega
  have h3 : minusC (plusP x y) n = 1 := by
    unfold lessP at hl
    have := eq_of_beq hl
    omega
  unfold lessenedP chooseP sbC
  rw [h1, h3, if_pos (by rw [if_pos (by omega)])]
set_option maxRecDepth 100000 in
set_option maxHeartbeats 400000 in
theorem radd_over (x y n : P4) (w : World) (hx : x.ok) (hy : y.ok) (hn : n.ok) (ho : overP x y = true) : Calls Tryd.prog 48 #[.agg #[.int .u64 (x.a : Int), .int .u64 (x.b : Int), .int .u64 (x.c : Int), .int .u64 (x.d : Int)], .agg #[.int .u64 (y.a : Int), .int .u64 (y.b : Int), .int .u64 (y.c : Int), .int .u64 (y.d : Int)], .agg #[.int .u64 (n.a : Int), .int .u64 (n.b : Int), .int .u64 (n.c : Int), .int .u64 (n.d : Int)]] w fun e w' => e = .returned (.agg #[.int .u64 ((minusP (plusP x y) n).a : Int), .int .u64 ((minusP (plusP x y) n).b : Int), .int .u64 ((minusP (plusP x y) n).c : Int), .int .u64 ((minusP (plusP x y) n).d : Int)]) ∧ Below w.heap.size w w' := by
  have hp := plusP_ok x y
  have P := rplus_any x y
  rw [ho] at P
  have HO := Lib.hid ho
  clear ho
  generalize plusP x y = s at *
  go_enter Tryd.func48, Tryd.ntmps48
  go_wp2_with fail
  have hX : Blk ((((w.alloc (.cells #[.int .u64 (x.a : Int), .int .u64 (x.b : Int), .int .u64 (x.c : Int), .int .u64 (x.d : Int)] 29)).alloc (.cells #[.int .u64 (y.a : Int), .int .u64 (y.b : Int), .int .u64 (y.c : Int), .int .u64 (y.d : Int)] 29)).alloc (.cells #[.int .u64 (n.a : Int), .int .u64 (n.b : Int), .int .u64 (n.c : Int), .int .u64 (n.d : Int)] 29)).alloc (.cells #[.int .u64 0, .int .u64 0, .int .u64 0, .int .u64 0] 29)) (w.heap.size) 29 [.int .u64 (x.a : Int), .int .u64 (x.b : Int), .int .u64 (x.c : Int), .int .u64 (x.d : Int)] := (((Blk.new_of w _ _ _ rfl).alloc _).alloc _).alloc _
  have hY : Blk ((((w.alloc (.cells #[.int .u64 (x.a : Int), .int .u64 (x.b : Int), .int .u64 (x.c : Int), .int .u64 (x.d : Int)] 29)).alloc (.cells #[.int .u64 (y.a : Int), .int .u64 (y.b : Int), .int .u64 (y.c : Int), .int .u64 (y.d : Int)] 29)).alloc (.cells #[.int .u64 (n.a : Int), .int .u64 (n.b : Int), .int .u64 (n.c : Int), .int .u64 (n.d : Int)] 29)).alloc (.cells #[.int .u64 0, .int .u64 0, .int .u64 0, .int .u64 0] 29)) (w.heap.size + 1) 29 [.int .u64 (y.a : Int), .int .u64 (y.b : Int), .int .u64 (y.c : Int), .int .u64 (y.d : Int)] := ((Blk.new2_of w _ _ _ _ rfl).alloc _).alloc _
  have hN : Blk ((((w.alloc (.cells #[.int .u64 (x.a : Int), .int .u64 (x.b : Int), .int .u64 (x.c : Int), .int .u64 (x.d : Int)] 29)).alloc (.cells #[.int .u64 (y.a : Int), .int .u64 (y.b : Int), .int .u64 (y.c : Int), .int .u64 (y.d : Int)] 29)).alloc (.cells #[.int .u64 (n.a : Int), .int .u64 (n.b : Int), .int .u64 (n.c : Int), .int .u64 (n.d : Int)] 29)).alloc (.cells #[.int .u64 0, .int .u64 0, .int .u64 0, .int .u64 0] 29)) (w.heap.size + 1 + 1) 29 [.int .u64 (n.a : Int), .int .u64 (n.b : Int), .int .u64 (n.c : Int), .int .u64 (n.d : Int)] := (Blk.new3_of w _ _ _ _ _ rfl).alloc _
  have hR : Blk ((((w.alloc (.cells #[.int .u64 (x.a : Int), .int .u64 (x.b : Int), .int .u64 (x.c : Int), .int .u64 (x.d : Int)] 29)).alloc (.cells #[.int .u64 (y.a : Int), .int .u64 (y.b : Int), .int .u64 (y.c : Int), .int .u64 (y.d : Int)] 29)).alloc (.cells #[.int .u64 (n.a : Int), .int .u64 (n.b : Int), .int .u64 (n.c : Int), .int .u64 (n.d : Int)] 29)).alloc (.cells #[.int .u64 0, .int .u64 0, .int .u64 0, .int .u64 0] 29)) (w.heap.size + 1 + 1 + 1) 29 [.int .u64 0, .int .u64 0, .int .u64 0, .int .u64 0] := Blk.new4_of w _ _ _ _ _ _ rfl
  have hb0 := (fresh_three w (.cells #[.int .u64 (x.a : Int), .int .u64 (x.b : Int), .int .u64 (x.c : Int), .int .u64 (x.d : Int)] 29) (.cells #[.int .u64 (y.a : Int), .int .u64 (y.b : Int), .int .u64 (y.c : Int), .int .u64 (y.d : Int)] 29) (.cells #[.int .u64 (n.a : Int), .int .u64 (n.b : Int), .int .u64 (n.c : Int), .int .u64 (n.d : Int)] 29)).trans ((fresh_one (((w.alloc (.cells #[.int .u64 (x.a : Int), .int .u64 (x.b : Int), .int .u64 (x.c : Int), .int .u64 (x.d : Int)] 29)).alloc (.cells #[.int .u64 (y.a : Int), .int .u64 (y.b : Int), .int .u64 (y.c : Int), .int .u64 (y.d : Int)] 29)).alloc (.cells #[.int .u64 (n.a : Int), .int .u64 (n.b : Int), .int .u64 (n.c : Int), .int .u64 (n.d : Int)] 29)) (.cells #[.int .u64 0, .int .u64 0, .int .u64 0, .int .u64 0] 29)).mono (fresh_three w _ _ _).size)
  generalize (((w.alloc (.cells #[.int .u64 (x.a : Int), .int .u64 (x.b : Int), .int .u64 (x.c : Int), .int .u64 (x.d : Int)] 29)).alloc (.cells #[.int .u64 (y.a : Int), .int .u64 (y.b : Int), .int .u64 (y.c : Int), .int .u64 (y.d : Int)] 29)).alloc (.cells #[.int .u64 (n.a : Int), .int .u64 (n.b : Int), .int .u64 (n.c : Int), .int .u64 (n.d : Int)] 29)).alloc (.cells #[.int .u64 0, .int .u64 0, .int .u64 0, .int .u64 0] 29) = w1 at *
  refine (P _ hx hy).mono ?_
  rintro e w2 ⟨rfl, hb1⟩
  replace hN := hN.below hb1 hN.lt
  replace hR := hR.below hb1 hR.lt
  replace hb0 := hb0.trans (hb1.mono hb0.size)
  clear hX hY hb1 P
  obtain ⟨n0, n1, n2, n3⟩ := hN.four
  have kN := hN.lt
  have kR := hR.lt
  have HS4 := Blk.new_of w2 29 #[.int .u64 (s.a : Int), .int .u64 (s.b : Int), .int .u64 (s.c : Int), .int .u64 (s.d : Int)] [.int .u64 (s.a : Int), .int .u64 (s.b : Int), .int .u64 (s.c : Int), .int .u64 (s.d : Int)] rfl
  have hz := hb0.size
  go_wp2_with (first
    | (go_at_call 45; refine (rminus_any s n _ hp hn).mono ?_; rintro e w5 ⟨rfl, hb5⟩; have hR5 := (hR.alloc _).below hb5 (by simp; omega); have hb6 := (hb0.alloc hz _).trans (hb5.mono (by simp; omega)); clear hb5)
    | ((with_reducible refine (?_ : wpList _ _ _ (Oper.mk none (.store 29 (.tmp 6) _) _ _ _ _ :: _) _ _)); go_loud (refine wpList_store_blk rfl 29 (.tmp 6) (.tmp 24) rfl rfl (w.heap.size + 1 + 1 + 1) [.int .u64 ((minusP s n).a : Int), .int .u64 ((minusP s n).b : Int), .int .u64 ((minusP s n).c : Int), .int .u64 ((minusP s n).d : Int)] rfl rfl 29 _ hR5 infoT (Eq.trans (b := 4) rfl rfl) (by simp [Value.oneCell']) ?_); intro w4 hR4 hg4))
  refine bodyPost_ret (v := .agg _) (results_cell_row rfl _ _ (w.heap.size + 1 + 1 + 1) 29 _ (0, 0) _ rfl hR4.raw Tryd.underlying29 rfl infoT) rfl ⟨rfl, below_new hb6 hg4 (by omega) hb6.size⟩
set_option maxRecDepth 100000 in
set_option maxHeartbeats 400000 in
theorem radd_more (x y n : P4) (w : World) (hx : x.ok) (hy : y.ok) (hn : n.ok) (ho : overP x y = false) (hl : lessP (plusP x y) n = false) : Calls Tryd.prog 48 #[.agg #[.int .u64 (x.a : Int), .int .u64 (x.b : Int), .int .u64 (x.c : Int), .int .u64 (x.d : Int)], .agg #[.int .u64 (y.a : Int), .int .u64 (y.b : Int), .int .u64 (y.c : Int), .int .u64 (y.d : Int)], .agg #[.int .u64 (n.a : Int), .int .u64 (n.b : Int), .int .u64 (n.c : Int), .int .u64 (n.d : Int)]] w fun e w' => e = .returned (.agg #[.int .u64 ((minusP (plusP x y) n).a : Int), .int .u64 ((minusP (plusP x y) n).b : Int), .int .u64 ((minusP (plusP x y) n).c : Int), .int .u64 ((minusP (plusP x y) n).d : Int)]) ∧ Below w.heap.size w w' := by
  have hp := plusP_ok x y
  have P := rplus_any x y
  rw [ho] at P
  have L := rLess_any (plusP x y) n
  rw [hl] at L
  have HO := Lib.hid ho
  clear ho
  have HL := Lib.hid hl
  clear hl
  generalize plusP x y = s at *
  go_enter Tryd.func48, Tryd.ntmps48
  go_wp2_with fail
  have hX : Blk ((((w.alloc (.cells #[.int .u64 (x.a : Int), .int .u64 (x.b : Int), .int .u64 (x.c : Int), .int .u64 (x.d : Int)] 29)).alloc (.cells #[.int .u64 (y.a : Int), .int .u64 (y.b : Int), .int .u64 (y.c : Int), .int .u64 (y.d : Int)] 29)).alloc (.cells #[.int .u64 (n.a : Int), .int .u64 (n.b : Int), .int .u64 (n.c : Int), .int .u64 (n.d : Int)] 29)).alloc (.cells #[.int .u64 0, .int .u64 0, .int .u64 0, .int .u64 0] 29)) (w.heap.size) 29 [.int .u64 (x.a : Int), .int .u64 (x.b : Int), .int .u64 (x.c : Int), .int .u64 (x.d : Int)] := (((Blk.new_of w _ _ _ rfl).alloc _).alloc _).alloc _
  have hY : Blk ((((w.alloc (.cells #[.int .u64 (x.a : Int), .int .u64 (x.b : Int), .int .u64 (x.c : Int), .int .u64 (x.d : Int)] 29)).alloc (.cells #[.int .u64 (y.a : Int), .int .u64 (y.b : Int), .int .u64 (y.c : Int), .int .u64 (y.d : Int)] 29)).alloc (.cells #[.int .u64 (n.a : Int), .int .u64 (n.b : Int), .int .u64 (n.c : Int), .int .u64 (n.d : Int)] 29)).alloc (.cells #[.int .u64 0, .int .u64 0, .int .u64 0, .int .u64 0] 29)) (w.heap.size + 1) 29 [.int .u64 (y.a : Int), .int .u64 (y.b : Int), .int .u64 (y.c : Int), .int .u64 (y.d : Int)] := ((Blk.new2_of w _ _ _ _ rfl).alloc _).alloc _
  have hN : Blk ((((w.alloc (.cells #[.int .u64 (x.a : Int), .int .u64 (x.b : Int), .int .u64 (x.c : Int), .int .u64 (x.d : Int)] 29)).alloc (.cells #[.int .u64 (y.a : Int), .int .u64 (y.b : Int), .int .u64 (y.c : Int), .int .u64 (y.d : Int)] 29)).alloc (.cells #[.int .u64 (n.a : Int), .int .u64 (n.b : Int), .int .u64 (n.c : Int), .int .u64 (n.d : Int)] 29)).alloc (.cells #[.int .u64 0, .int .u64 0, .int .u64 0, .int .u64 0] 29)) (w.heap.size + 1 + 1) 29 [.int .u64 (n.a : Int), .int .u64 (n.b : Int), .int .u64 (n.c : Int), .int .u64 (n.d : Int)] := (Blk.new3_of w _ _ _ _ _ rfl).alloc _
  have hR : Blk ((((w.alloc (.cells #[.int .u64 (x.a : Int), .int .u64 (x.b : Int), .int .u64 (x.c : Int), .int .u64 (x.d : Int)] 29)).alloc (.cells #[.int .u64 (y.a : Int), .int .u64 (y.b : Int), .int .u64 (y.c : Int), .int .u64 (y.d : Int)] 29)).alloc (.cells #[.int .u64 (n.a : Int), .int .u64 (n.b : Int), .int .u64 (n.c : Int), .int .u64 (n.d : Int)] 29)).alloc (.cells #[.int .u64 0, .int .u64 0, .int .u64 0, .int .u64 0] 29)) (w.heap.size + 1 + 1 + 1) 29 [.int .u64 0, .int .u64 0, .int .u64 0, .int .u64 0] := Blk.new4_of w _ _ _ _ _ _ rfl
  have hb0 := (fresh_three w (.cells #[.int .u64 (x.a : Int), .int .u64 (x.b : Int), .int .u64 (x.c : Int), .int .u64 (x.d : Int)] 29) (.cells #[.int .u64 (y.a : Int), .int .u64 (y.b : Int), .int .u64 (y.c : Int), .int .u64 (y.d : Int)] 29) (.cells #[.int .u64 (n.a : Int), .int .u64 (n.b : Int), .int .u64 (n.c : Int), .int .u64 (n.d : Int)] 29)).trans ((fresh_one (((w.alloc (.cells #[.int .u64 (x.a : Int), .int .u64 (x.b : Int), .int .u64 (x.c : Int), .int .u64 (x.d : Int)] 29)).alloc (.cells #[.int .u64 (y.a : Int), .int .u64 (y.b : Int), .int .u64 (y.c : Int), .int .u64 (y.d : Int)] 29)).alloc (.cells #[.int .u64 (n.a : Int), .int .u64 (n.b : Int), .int .u64 (n.c : Int), .int .u64 (n.d : Int)] 29)) (.cells #[.int .u64 0, .int .u64 0, .int .u64 0, .int .u64 0] 29)).mono (fresh_three w _ _ _).size)
  generalize (((w.alloc (.cells #[.int .u64 (x.a : Int), .int .u64 (x.b : Int), .int .u64 (x.c : Int), .int .u64 (x.d : Int)] 29)).alloc (.cells #[.int .u64 (y.a : Int), .int .u64 (y.b : Int), .int .u64 (y.c : Int), .int .u64 (y.d : Int)] 29)).alloc (.cells #[.int .u64 (n.a : Int), .int .u64 (n.b : Int), .int .u64 (n.c : Int), .int .u64 (n.d : Int)] 29)).alloc (.cells #[.int .u64 0, .int .u64 0, .int .u64 0, .int .u64 0] 29) = w1 at *
  refine (P _ hx hy).mono ?_
  rintro e w2 ⟨rfl, hb1⟩
  replace hN := hN.below hb1 hN.lt
  replace hR := hR.below hb1 hR.lt
  replace hb0 := hb0.trans (hb1.mono hb0.size)
  clear hX hY hb1 P
  obtain ⟨n0, n1, n2, n3⟩ := hN.four
  have kN := hN.lt
  have kR := hR.lt
  have HS4 := Blk.new_of w2 29 #[.int .u64 (s.a : Int), .int .u64 (s.b : Int), .int .u64 (s.c : Int), .int .u64 (s.d : Int)] [.int .u64 (s.a : Int), .int .u64 (s.b : Int), .int .u64 (s.c : Int), .int .u64 (s.d : Int)] rfl
  have hz := hb0.size
  go_wp2_with (first
    | (go_at_call 37; refine (L _ hp hn).mono ?_; rintro e w3 ⟨rfl, hb3⟩; have hS3 := HS4.below hb3 (by simp); have hN3 := (hN.alloc _).below hb3 (by simp; omega); have hR3 := (hR.alloc _).below hb3 (by simp; omega); have hb4 := (hb0.alloc hz _).trans (hb3.mono (by simp; omega)); obtain ⟨n0', n1', n2', n3'⟩ := hN3.four; obtain ⟨s0', s1', s2', s3'⟩ := hS3.four; clear hb3 n0 n1 n2 n3)
    | (go_at_call 45; refine (rminus_any s n _ hp hn).mono ?_; rintro e w5 ⟨rfl, hb5⟩; have hR5 := hR3.below hb5 hR3.lt; have hb6 := hb4.trans (hb5.mono hb4.size); clear hb5)
    | ((with_reducible refine (?_ : wpList _ _ _ (Oper.mk none (.store 29 (.tmp 6) _) _ _ _ _ :: _) _ _)); go_loud (refine wpList_store_blk rfl 29 (.tmp 6) (.tmp 24) rfl rfl (w.heap.size + 1 + 1 + 1) [.int .u64 ((minusP s n).a : Int), .int .u64 ((minusP s n).b : Int), .int .u64 ((minusP s n).c : Int), .int .u64 ((minusP s n).d : Int)] rfl rfl 29 _ hR5 infoT (Eq.trans (b := 4) rfl rfl) (by simp [Value.oneCell']) ?_); intro w4 hR4 hg4))
  refine bodyPost_ret (v := .agg _) (results_cell_row rfl _ _ (w.heap.size + 1 + 1 + 1) 29 _ (0, 0) _ rfl hR4.raw Tryd.underlying29 rfl infoT) rfl ⟨rfl, below_new hb6 hg4 (by omega) hb6.size⟩
set_option maxRecDepth 100000 in
set_option maxHeartbeats 400000 in
theorem radd_less (x y n : P4) (w : World) (hx : x.ok) (hy : y.ok) (hn : n.ok) (ho : overP x y = false) (hl : lessP (plusP x y) n = true) : Calls Tryd.prog 48 #[.agg #[.int .u64 (x.a : Int), .int .u64 (x.b : Int), .int .u64 (x.c : Int), .int .u64 (x.d : Int)], .agg #[.int .u64 (y.a : Int), .int .u64 (y.b : Int), .int .u64 (y.c : Int), .int .u64 (y.d : Int)], .agg #[.int .u64 (n.a : Int), .int .u64 (n.b : Int), .int .u64 (n.c : Int), .int .u64 (n.d : Int)]] w fun e w' => e = .returned (.agg #[.int .u64 ((plusP x y).a : Int), .int .u64 ((plusP x y).b : Int), .int .u64 ((plusP x y).c : Int), .int .u64 ((plusP x y).d : Int)]) ∧ Below w.heap.size w w' := by
  have hp := plusP_ok x y
  have P := rplus_any x y
  rw [ho] at P
  have L := rLess_any (plusP x y) n
  rw [hl] at L
  have HO := Lib.hid ho
  clear ho
  have HL := Lib.hid hl
  clear hl
  generalize plusP x y = s at *
  go_enter Tryd.func48, Tryd.ntmps48
  go_wp2_with fail
  have hX : Blk ((((w.alloc (.cells #[.int .u64 (x.a : Int), .int .u64 (x.b : Int), .int .u64 (x.c : Int), .int .u64 (x.d : Int)] 29)).alloc (.cells #[.int .u64 (y.a : Int), .int .u64 (y.b : Int), .int .u64 (y.c : Int), .int .u64 (y.d : Int)] 29)).alloc (.cells #[.int .u64 (n.a : Int), .int .u64 (n.b : Int), .int .u64 (n.c : Int), .int .u64 (n.d : Int)] 29)).alloc (.cells #[.int .u64 0, .int .u64 0, .int .u64 0, .int .u64 0] 29)) (w.heap.size) 29 [.int .u64 (x.a : Int), .int .u64 (x.b : Int), .int .u64 (x.c : Int), .int .u64 (x.d : Int)] := (((Blk.new_of w _ _ _ rfl).alloc _).alloc _).alloc _
  have hY : Blk ((((w.alloc (.cells #[.int .u64 (x.a : Int), .int .u64 (x.b : Int), .int .u64 (x.c : Int), .int .u64 (x.d : Int)] 29)).alloc (.cells #[.int .u64 (y.a : Int), .int .u64 (y.b : Int), .int .u64 (y.c : Int), .int .u64 (y.d : Int)] 29)).alloc (.cells #[.int .u64 (n.a : Int), .int .u64 (n.b : Int), .int .u64 (n.c : Int), .int .u64 (n.d : Int)] 29)).alloc (.cells #[.int .u64 0, .int .u64 0, .int .u64 0, .int .u64 0] 29)) (w.heap.size + 1) 29 [.int .u64 (y.a : Int), .int .u64 (y.b : Int), .int .u64 (y.c : Int), .int .u64 (y.d : Int)] := ((Blk.new2_of w _ _ _ _ rfl).alloc _).alloc _
  have hN : Blk ((((w.alloc (.cells #[.int .u64 (x.a : Int), .int .u64 (x.b : Int), .int .u64 (x.c : Int), .int .u64 (x.d : Int)] 29)).alloc (.cells #[.int .u64 (y.a : Int), .int .u64 (y.b : Int), .int .u64 (y.c : Int), .int .u64 (y.d : Int)] 29)).alloc (.cells #[.int .u64 (n.a : Int), .int .u64 (n.b : Int), .int .u64 (n.c : Int), .int .u64 (n.d : Int)] 29)).alloc (.cells #[.int .u64 0, .int .u64 0, .int .u64 0, .int .u64 0] 29)) (w.heap.size + 1 + 1) 29 [.int .u64 (n.a : Int), .int .u64 (n.b : Int), .int .u64 (n.c : Int), .int .u64 (n.d : Int)] := (Blk.new3_of w _ _ _ _ _ rfl).alloc _
  have hR : Blk ((((w.alloc (.cells #[.int .u64 (x.a : Int), .int .u64 (x.b : Int), .int .u64 (x.c : Int), .int .u64 (x.d : Int)] 29)).alloc (.cells #[.int .u64 (y.a : Int), .int .u64 (y.b : Int), .int .u64 (y.c : Int), .int .u64 (y.d : Int)] 29)).alloc (.cells #[.int .u64 (n.a : Int), .int .u64 (n.b : Int), .int .u64 (n.c : Int), .int .u64 (n.d : Int)] 29)).alloc (.cells #[.int .u64 0, .int .u64 0, .int .u64 0, .int .u64 0] 29)) (w.heap.size + 1 + 1 + 1) 29 [.int .u64 0, .int .u64 0, .int .u64 0, .int .u64 0] := Blk.new4_of w _ _ _ _ _ _ rfl
  have hb0 := (fresh_three w (.cells #[.int .u64 (x.a : Int), .int .u64 (x.b : Int), .int .u64 (x.c : Int), .int .u64 (x.d : Int)] 29) (.cells #[.int .u64 (y.a : Int), .int .u64 (y.b : Int), .int .u64 (y.c : Int), .int .u64 (y.d : Int)] 29) (.cells #[.int .u64 (n.a : Int), .int .u64 (n.b : Int), .int .u64 (n.c : Int), .int .u64 (n.d : Int)] 29)).trans ((fresh_one (((w.alloc (.cells #[.int .u64 (x.a : Int), .int .u64 (x.b : Int), .int .u64 (x.c : Int), .int .u64 (x.d : Int)] 29)).alloc (.cells #[.int .u64 (y.a : Int), .int .u64 (y.b : Int), .int .u64 (y.c : Int), .int .u64 (y.d : Int)] 29)).alloc (.cells #[.int .u64 (n.a : Int), .int .u64 (n.b : Int), .int .u64 (n.c : Int), .int .u64 (n.d : Int)] 29)) (.cells #[.int .u64 0, .int .u64 0, .int .u64 0, .int .u64 0] 29)).mono (fresh_three w _ _ _).size)
  generalize (((w.alloc (.cells #[.int .u64 (x.a : Int), .int .u64 (x.b : Int), .int .u64 (x.c : Int), .int .u64 (x.d : Int)] 29)).alloc (.cells #[.int .u64 (y.a : Int), .int .u64 (y.b : Int), .int .u64 (y.c : Int), .int .u64 (y.d : Int)] 29)).alloc (.cells #[.int .u64 (n.a : Int), .int .u64 (n.b : Int), .int .u64 (n.c : Int), .int .u64 (n.d : Int)] 29)).alloc (.cells #[.int .u64 0, .int .u64 0, .int .u64 0, .int .u64 0] 29) = w1 at *
  refine (P _ hx hy).mono ?_
  rintro e w2 ⟨rfl, hb1⟩
  replace hN := hN.below hb1 hN.lt
  replace hR := hR.below hb1 hR.lt
  replace hb0 := hb0.trans (hb1.mono hb0.size)
  clear hX hY hb1 P
  obtain ⟨n0, n1, n2, n3⟩ := hN.four
  have kN := hN.lt
  have kR := hR.lt
  have HS4 := Blk.new_of w2 29 #[.int .u64 (s.a : Int), .int .u64 (s.b : Int), .int .u64 (s.c : Int), .int .u64 (s.d : Int)] [.int .u64 (s.a : Int), .int .u64 (s.b : Int), .int .u64 (s.c : Int), .int .u64 (s.d : Int)] rfl
  have hz := hb0.size
  go_wp2_with (first
    | (go_at_call 37; refine (L _ hp hn).mono ?_; rintro e w3 ⟨rfl, hb3⟩; have hS3 := HS4.below hb3 (by simp); have hN3 := (hN.alloc _).below hb3 (by simp; omega); have hR3 := (hR.alloc _).below hb3 (by simp; omega); have hb4 := (hb0.alloc hz _).trans (hb3.mono (by simp; omega)); obtain ⟨n0', n1', n2', n3'⟩ := hN3.four; obtain ⟨s0', s1', s2', s3'⟩ := hS3.four; clear hb3 n0 n1 n2 n3)
    | ((with_reducible refine (?_ : wpList _ _ _ (Oper.mk none (.store 29 (.tmp 6) _) _ _ _ _ :: _) _ _)); go_loud (refine wpList_store_blk rfl 29 (.tmp 6) (.tmp 25) rfl rfl (w.heap.size + 1 + 1 + 1) [.int .u64 (s.a : Int), .int .u64 (s.b : Int), .int .u64 (s.c : Int), .int .u64 (s.d : Int)] rfl rfl 29 _ hR3 infoT (Eq.trans (b := 4) rfl rfl) (by simp [Value.oneCell']) ?_); intro w4 hR4 hg4))
  refine bodyPost_ret (v := .agg _) (results_cell_row rfl _ _ (w.heap.size + 1 + 1 + 1) 29 _ (0, 0) _ rfl hR4.raw Tryd.underlying29 rfl infoT) rfl ⟨rfl, below_new hb4 hg4 (by omega) hb4.size⟩
theorem radd_v (x y n : P4) (w : World) (hx : x.ok) (hy : y.ok) (hn : n.ok) (lx : x.val < n.val) (ly : y.val < n.val) : Calls Tryd.prog 48 #[.agg #[.int .u64 (x.a : Int), .int .u64 (x.b : Int), .int .u64 (x.c : Int), .int .u64 (x.d : Int)], .agg #[.int .u64 (y.a : Int), .int .u64 (y.b : Int), .int .u64 (y.c : Int), .int .u64 (y.d : Int)], .agg #[.int .u64 (n.a : Int), .int .u64 (n.b : Int), .int .u64 (n.c : Int), .int .u64 (n.d : Int)]] w fun e w' => e = .returned (.agg #[.int .u64 ((redP n (x.val + y.val)).a : Int), .int .u64 ((redP n (x.val + y.val)).b : Int), .int .u64 ((redP n (x.val + y.val)).c : Int), .int .u64 ((redP n (x.val + y.val)).d : Int)]) ∧ Below w.heap.size w w' := by
  have e : lessenedP n (plusP x y) (plusC x y) = redP n (x.val + y.val) := redP_of hn (by omega) (lessenedP_ok (plusP_ok _ _) _) (by
    have hp := plus_eq x y
    rw [lessened_eq hn (plusP_ok _ _) (by omega), hp])
  rw [← e]
  cases ho : overP x y with
  | true => rw [les_over ho]; exact radd_over x y n w hx hy hn ho
  | false =>
    cases hl : lessP (plusP x y) n with
    | true => rw [les_less hx hy ho hl]; exact radd_less x y n w hx hy hn ho hl
    | false => rw [les_more hx hy ho hl]; exact radd_more x y n w hx hy hn ho hl

end Go.Proofs.YtnkikhnllnbhfaaDoor
