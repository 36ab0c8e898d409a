/-
  Mw4.
-/
import Derived.Test.YtnkikhnllnbhfaaDoorMw3
namespace Go.Proofs.YtnkikhnllnbhfaaDoor
open Go.RowKit
theorem pp_any0 (a x y : Nat) (w : World) (ha : a < 18446744073709551616) (hx : x < 18446744073709551616) (hy : y < 18446744073709551616) :
    Calls Tryd.prog 75 #[.int .u64 (a : Int), .int .u64 0, .int .u64 (x : Int), .int .u64 (y : Int)] w fun e w' => e = .returned (.tuple #[.int .u64 (ppLo a 0 x y : Int), .int .u64 (ppHi a 0 x y : Int)]) ∧ w' = w := pp_any a 0 x y w ha (by decide) hx hy
theorem index4 (x : P4) (k : Nat) (hk : k < 4) (W : World) : (Instr.index 29 (.agg #[.int .u64 (x.a : Int), .int .u64 (x.b : Int), .int .u64 (x.c : Int), .int .u64 (x.d : Int)]) (.int .i64 (k : Int))).run Tryd.prog W = .ok (.int .u64 (x.limb k : Int)) W := by
  obtain rfl | rfl | rfl | rfl : k = 0 ∨ k = 1 ∨ k = 2 ∨ k = 3 := by omega
  · kernel_rfl
  · kernel_rfl
  · kernel_rfl
  · kernel_rfl

theorem wp_world {P : Program} {c : Code} {Q : Exit → Act → World → Prop} {a : Act} {W : World} (R : World → Prop) (hR : R W) (h : ∀ W', R W' → c.wp P Q a W') : c.wp P Q a W := h W hR
theorem wrap_small2 (a b : Nat) (h : a + b ≤ 2) : IntKind.u64.wrap ((a : Int) + (b : Int)) = ((a + b : Nat) : Int) := by rw [IntKind.wrap_u64]; omega
theorem far4 {w : World} {g s : Nat} {t : TypeId} {cs : List Value} (h : Blk w g t cs) (hne : g ≠ s) {a b c d : Value} {i j k l : Nat} : Blk ((((w.setCell ⟨s, i, none⟩ a).setCell ⟨s, j, none⟩ b).setCell ⟨s, k, none⟩ c).setCell ⟨s, l, none⟩ d) g t cs := (((h.far hne _).far hne _).far hne _).far hne _

set_option maxRecDepth 100000 in
set_option maxHeartbeats 1000000 in
theorem product_any (g : Nat) (n sq x y : P4) (f : Nat) (w : World) (hm : Blk w g 89 (modCells n sq f)) (hn : n.ok) (hx : x.ok) (hy : y.ok) :
    Calls Tryd.prog 67 #[.pointer (some ⟨g, 0, none⟩), .agg #[.int .u64 (x.a : Int), .int .u64 (x.b : Int), .int .u64 (x.c : Int), .int .u64 (x.d : Int)], .agg #[.int .u64 (y.a : Int), .int .u64 (y.b : Int), .int .u64 (y.c : Int), .int .u64 (y.d : Int)]] w fun e w' => e = .returned (.agg #[.int .u64 ((productP n f x y).a : Int), .int .u64 ((productP n f x y).b : Int), .int .u64 ((productP n f x y).c : Int), .int .u64 ((productP n f x y).d : Int)]) ∧ Below w.heap.size w w' := by
  go_enter Tryd.func67, Tryd.ntmps67
  have hm9 := fun (X Y Z : Obj) => (((hm.alloc X).alloc Y).alloc Z).mod
  go_wp2
  have hY : Blk (((((w.alloc (.cells #[.int .u64 (x.a : Int), .int .u64 (x.b : Int), .int .u64 (x.c : Int), .int .u64 (x.d : Int)] 85)).alloc (.cells #[.int .u64 (y.a : Int), .int .u64 (y.b : Int), .int .u64 (y.c : Int), .int .u64 (y.d : Int)] 85)).alloc (.cells #[.int .u64 0, .int .u64 0, .int .u64 0, .int .u64 0] 85)).alloc (.cells #[.int .u64 (n.a : Int), .int .u64 (n.b : Int), .int .u64 (n.c : Int), .int .u64 (n.d : Int)] 85)).alloc (.cells #[.int .u64 0, .int .u64 0, .int .u64 0, .int .u64 0] 85)) (w.heap.size + 1) 85 [.int .u64 (y.a : Int), .int .u64 (y.b : Int), .int .u64 (y.c : Int), .int .u64 (y.d : Int)] := (((Blk.new2_of w _ _ _ _ rfl).alloc _).alloc _).alloc _
  have hR : Blk (((((w.alloc (.cells #[.int .u64 (x.a : Int), .int .u64 (x.b : Int), .int .u64 (x.c : Int), .int .u64 (x.d : Int)] 85)).alloc (.cells #[.int .u64 (y.a : Int), .int .u64 (y.b : Int), .int .u64 (y.c : Int), .int .u64 (y.d : Int)] 85)).alloc (.cells #[.int .u64 0, .int .u64 0, .int .u64 0, .int .u64 0] 85)).alloc (.cells #[.int .u64 (n.a : Int), .int .u64 (n.b : Int), .int .u64 (n.c : Int), .int .u64 (n.d : Int)] 85)).alloc (.cells #[.int .u64 0, .int .u64 0, .int .u64 0, .int .u64 0] 85)) (w.heap.size + 1 + 1) 85 [.int .u64 0, .int .u64 0, .int .u64 0, .int .u64 0] := ((Blk.new3_of w _ _ _ _ _ rfl).alloc _).alloc _
  have hN : Blk (((((w.alloc (.cells #[.int .u64 (x.a : Int), .int .u64 (x.b : Int), .int .u64 (x.c : Int), .int .u64 (x.d : Int)] 85)).alloc (.cells #[.int .u64 (y.a : Int), .int .u64 (y.b : Int), .int .u64 (y.c : Int), .int .u64 (y.d : Int)] 85)).alloc (.cells #[.int .u64 0, .int .u64 0, .int .u64 0, .int .u64 0] 85)).alloc (.cells #[.int .u64 (n.a : Int), .int .u64 (n.b : Int), .int .u64 (n.c : Int), .int .u64 (n.d : Int)] 85)).alloc (.cells #[.int .u64 0, .int .u64 0, .int .u64 0, .int .u64 0] 85)) (w.heap.size + 1 + 1 + 1) 85 [.int .u64 (n.a : Int), .int .u64 (n.b : Int), .int .u64 (n.c : Int), .int .u64 (n.d : Int)] := (Blk.new4_of w _ _ _ _ _ _ rfl).alloc _
  have hS : Blk (((((w.alloc (.cells #[.int .u64 (x.a : Int), .int .u64 (x.b : Int), .int .u64 (x.c : Int), .int .u64 (x.d : Int)] 85)).alloc (.cells #[.int .u64 (y.a : Int), .int .u64 (y.b : Int), .int .u64 (y.c : Int), .int .u64 (y.d : Int)] 85)).alloc (.cells #[.int .u64 0, .int .u64 0, .int .u64 0, .int .u64 0] 85)).alloc (.cells #[.int .u64 (n.a : Int), .int .u64 (n.b : Int), .int .u64 (n.c : Int), .int .u64 (n.d : Int)] 85)).alloc (.cells #[.int .u64 0, .int .u64 0, .int .u64 0, .int .u64 0] 85)) (w.heap.size + 1 + 1 + 1 + 1) 85 [.int .u64 0, .int .u64 0, .int .u64 0, .int .u64 0] := Blk.new5_of w _ _ _ _ _ _ _ rfl
  have hM := ((((hm.alloc (.cells #[.int .u64 (x.a : Int), .int .u64 (x.b : Int), .int .u64 (x.c : Int), .int .u64 (x.d : Int)] 85)).alloc (.cells #[.int .u64 (y.a : Int), .int .u64 (y.b : Int), .int .u64 (y.c : Int), .int .u64 (y.d : Int)] 85)).alloc (.cells #[.int .u64 0, .int .u64 0, .int .u64 0, .int .u64 0] 85)).alloc (.cells #[.int .u64 (n.a : Int), .int .u64 (n.b : Int), .int .u64 (n.c : Int), .int .u64 (n.d : Int)] 85)).alloc (.cells #[.int .u64 0, .int .u64 0, .int .u64 0, .int .u64 0] 85)
  have hb0 := (fresh_three w (.cells #[.int .u64 (x.a : Int), .int .u64 (x.b : Int), .int .u64 (x.c : Int), .int .u64 (x.d : Int)] 85) (.cells #[.int .u64 (y.a : Int), .int .u64 (y.b : Int), .int .u64 (y.c : Int), .int .u64 (y.d : Int)] 85) (.cells #[.int .u64 0, .int .u64 0, .int .u64 0, .int .u64 0] 85)).trans ((fresh_two (((w.alloc (.cells #[.int .u64 (x.a : Int), .int .u64 (x.b : Int), .int .u64 (x.c : Int), .int .u64 (x.d : Int)] 85)).alloc (.cells #[.int .u64 (y.a : Int), .int .u64 (y.b : Int), .int .u64 (y.c : Int), .int .u64 (y.d : Int)] 85)).alloc (.cells #[.int .u64 0, .int .u64 0, .int .u64 0, .int .u64 0] 85)) (.cells #[.int .u64 (n.a : Int), .int .u64 (n.b : Int), .int .u64 (n.c : Int), .int .u64 (n.d : Int)] 85) (.cells #[.int .u64 0, .int .u64 0, .int .u64 0, .int .u64 0] 85)).mono (fresh_three w _ _ _).size)
  have lM := hm.lt
  clear hm9
  generalize ((((w.alloc (.cells #[.int .u64 (x.a : Int), .int .u64 (x.b : Int), .int .u64 (x.c : Int), .int .u64 (x.d : Int)] 85)).alloc (.cells #[.int .u64 (y.a : Int), .int .u64 (y.b : Int), .int .u64 (y.c : Int), .int .u64 (y.d : Int)] 85)).alloc (.cells #[.int .u64 0, .int .u64 0, .int .u64 0, .int .u64 0] 85)).alloc (.cells #[.int .u64 (n.a : Int), .int .u64 (n.b : Int), .int .u64 (n.c : Int), .int .u64 (n.d : Int)] 85)).alloc (.cells #[.int .u64 0, .int .u64 0, .int .u64 0, .int .u64 0] 85) = w1 at *
  go_loopw [9, 27] (fun top i wr => ∃ k : Nat, k ≤ 4 ∧ i = .int .i64 k ∧ top = .int .u64 ((psTo n f x y k).top : Int) ∧ Blk wr (w.heap.size + 1 + 1 + 1 + 1) 85 [.int .u64 ((psTo n f x y k).s.a : Int), .int .u64 ((psTo n f x y k).s.b : Int), .int .u64 ((psTo n f x y k).s.c : Int), .int .u64 ((psTo n f x y k).s.d : Int)] ∧ Blk wr (w.heap.size + 1) 85 [.int .u64 (y.a : Int), .int .u64 (y.b : Int), .int .u64 (y.c : Int), .int .u64 (y.d : Int)] ∧ Blk wr (w.heap.size + 1 + 1) 85 [.int .u64 0, .int .u64 0, .int .u64 0, .int .u64 0] ∧ Blk wr (w.heap.size + 1 + 1 + 1) 85 [.int .u64 (n.a : Int), .int .u64 (n.b : Int), .int .u64 (n.c : Int), .int .u64 (n.d : Int)] ∧ Blk wr g 89 (modCells n sq f) ∧ Below w.heap.size w wr) (fun _ i _ => 4 - (intOf i).toNat)
  case atStart => exact ⟨0, by omega, rfl, rfl, hS, hY, hR, hN, hM, hb0⟩
  case round =>
    obtain ⟨k, hk, rfl, rfl, hS', hY', hR', hN', hM', hb'⟩ := hrel
    clear hS hY hR hN hM hb0
    obtain ⟨hz, hzt⟩ := psTo_ok (f := f) hn hx hy k
    by_cases hlt : k < 4
    · have hd2 : decide ((k : Int) < 4) = true := by simp; omega
      have hix := index4 x k hlt
      have ht := limb_lt hx k
      have hstep : Hid (psTo n f x y (k + 1) = psStep n f y (x.limb k) (psTo n f x y k)) := Lib.hid rfl
      generalize psTo n f x y k = z at *
      generalize x.limb k = t at *
      obtain ⟨s0, s1, s2, s3⟩ := hS'.four
      obtain ⟨f0, f1, f2, f3⟩ := hS'.four_frozen
      obtain ⟨y0, y1, y2, y3⟩ := hY'.four
      have b1 := ppHi_lt (b := 0) hz.a (by decide) ht hy.a
      have b2 := ppHi_lt hz.b b1 ht hy.b
      have b3 := ppHi_lt hz.c b2 ht hy.c
      have k1 := fun W => pp_any0 z.s.a t y.a W hz.a ht hy.a
      have k2 := fun W => pp_any z.s.b (ppHi z.s.a 0 t y.a) t y.b W hz.b b1 ht hy.b
      have k3 := fun W => pp_any z.s.c (ppHi z.s.b (ppHi z.s.a 0 t y.a) t y.b) t y.c W hz.c b2 ht hy.c
      have k4_ := fun W => pp_any z.s.d (ppHi z.s.c (ppHi z.s.b (ppHi z.s.a 0 t y.a) t y.b) t y.c) t y.d W hz.d b3 ht hy.d
      have K1 := Lib.hid k1
      have K2 := Lib.hid k2
      have K3 := Lib.hid k3
      have K4 := Lib.hid k4_
      have hA0 := add64_0
      clear k1 k2 k3 k4_ b1 b2 b3
      go_wp2_with (first
        | (go_at_call 75; with_reducible refine (K1.out _).mono ?_; rintro e w' ⟨rfl, rfl⟩)
        | (go_at_call 75; with_reducible refine (K2.out _).mono ?_; rintro e w' ⟨rfl, rfl⟩)
        | (go_at_call 75; with_reducible refine (K3.out _).mono ?_; rintro e w' ⟨rfl, rfl⟩)
        | (go_at_call 75; with_reducible refine (K4.out _).mono ?_; rintro e w' ⟨rfl, rfl⟩))
      refine wp_world (fun W => Blk W (w.heap.size + 1 + 1 + 1 + 1) 85 [.int .u64 ((mid y t z).a : Int), .int .u64 ((mid y t z).b : Int), .int .u64 ((mid y t z).c : Int), .int .u64 ((mid y t z).d : Int)] ∧ Blk W (w.heap.size + 1) 85 [.int .u64 (y.a : Int), .int .u64 (y.b : Int), .int .u64 (y.c : Int), .int .u64 (y.d : Int)] ∧ Blk W (w.heap.size + 1 + 1) 85 [.int .u64 0, .int .u64 0, .int .u64 0, .int .u64 0] ∧ Blk W (w.heap.size + 1 + 1 + 1) 85 [.int .u64 (n.a : Int), .int .u64 (n.b : Int), .int .u64 (n.c : Int), .int .u64 (n.d : Int)] ∧ Blk W g 89 (modCells n sq f) ∧ Below w.heap.size w W) ⟨((((hS'.set_ 0 _).set_ 1 _).set_ 2 _).set_ 3 _), far4 hY' (by simp), far4 hR' (by simp), far4 hN' (by simp), far4 hM' (by simp; omega), (((hb'.setCell (by simp; omega) _).setCell (by simp; omega) _).setCell (by simp; omega) _).setCell (by simp; omega) _⟩ ?_
      clear hS' hY' hR' hN' hM' hb' s0 s1 s2 s3 f0 f1 f2 f3 y0 y1 y2 y3 K1 K2 K3 K4 hix hd2
      rintro w2 ⟨hS, hY, hR, hN, hM, hb⟩
      have s0 := hS.four.1
      have m8 := hM.mod.2.2.2.2.2.2.2.2
      go_quiet (fail)
      have hq : IntKind.u64.wrap (((mid y t z).a : Int) * (f : Int)) = ((q1 f y t z : Nat) : Int) := by rw [IntKind.wrap_u64, ← Int.natCast_mul]; rfl
      simp only [hq]
      clear hq s0 m8
      replace hS := hS.drewN nq
      replace hY := hY.drewN nq
      replace hR := hR.drewN nq
      replace hN := hN.drewN nq
      replace hM := hM.drewN nq
      replace hb := below_drewN hb nq
      generalize w2.drewN nq = w3 at *
      clear w2 nq
      obtain ⟨s0, s1, s2, s3⟩ := hS.four
      obtain ⟨f0, f1, f2, f3⟩ := hS.four_frozen
      obtain ⟨n0, n1, n2, n3⟩ := hN.four
      have hq : q1 f y t z < 18446744073709551616 := Nat.mod_lt _ (by decide)
      have hmid := mid_ok y t z
      obtain ⟨hso, hst, hc1⟩ := psStep_ok (f := f) hn hy hz ht (show z.top < 18446744073709551616 by omega)
      have hst' : adC z.top (k4 y t z) 0 + adC (adS z.top (k4 y t z) 0) (low2 n (q1 f y t z) (mid y t z)).2 0 ≤ 2 := hst
      have HST := Lib.hid hst'
      have HSO := Lib.hid hso
      have hps : psStep n f y t z = ⟨⟨ppLo (mid y t z).b (ppHi (mid y t z).a 0 (q1 f y t z) n.a) (q1 f y t z) n.b, ppLo (mid y t z).c (ppHi (mid y t z).b (ppHi (mid y t z).a 0 (q1 f y t z) n.a) (q1 f y t z) n.b) (q1 f y t z) n.c, ppLo (mid y t z).d (ppHi (mid y t z).c (ppHi (mid y t z).b (ppHi (mid y t z).a 0 (q1 f y t z) n.a) (q1 f y t z) n.b) (q1 f y t z) n.c) (q1 f y t z) n.d, adS (adS z.top (k4 y t z) 0) (low2 n (q1 f y t z) (mid y t z)).2 0⟩, adC z.top (k4 y t z) 0 + adC (adS z.top (k4 y t z) 0) (low2 n (q1 f y t z) (mid y t z)).2 0⟩ := rfl
      have HPS := Lib.hid (hstep.out.trans hps)
      clear hst hst' hso hps hstep hc1
      generalize q1 f y t z = q at *
      generalize mid y t z = m at *
      have b1 := ppHi_lt (b := 0) hmid.a (by decide) hq hn.a
      have b2 := ppHi_lt hmid.b b1 hq hn.b
      have b3 := ppHi_lt hmid.c b2 hq hn.c
      have k1 := fun W => pp_any0 m.a q n.a W hmid.a hq hn.a
      have k2 := fun W => pp_any m.b (ppHi m.a 0 q n.a) q n.b W hmid.b b1 hq hn.b
      have k3 := fun W => pp_any m.c (ppHi m.b (ppHi m.a 0 q n.a) q n.b) q n.c W hmid.c b2 hq hn.c
      have k4_ := fun W => pp_any m.d (ppHi m.c (ppHi m.b (ppHi m.a 0 q n.a) q n.b) q n.c) q n.d W hmid.d b3 hq hn.d
      have K1 := Lib.hid k1
      have K2 := Lib.hid k2
      have K3 := Lib.hid k3
      have K4 := Lib.hid k4_
      clear k1 k2 k3 k4_ b1 b2 b3
      go_wp2_with (first
        | (go_at_call 75; with_reducible refine (K1.out _).mono ?_; rintro e w' ⟨rfl, rfl⟩)
        | (go_at_call 75; with_reducible refine (K2.out _).mono ?_; rintro e w' ⟨rfl, rfl⟩)
        | (go_at_call 75; with_reducible refine (K3.out _).mono ?_; rintro e w' ⟨rfl, rfl⟩)
        | (go_at_call 75; with_reducible refine (K4.out _).mono ?_; rintro e w' ⟨rfl, rfl⟩))
      go_roundw
      case rel =>
        refine ⟨k + 1, by omega, by go_num, ?_, ?_, far4 hY (by simp), far4 hR (by simp), far4 hN (by simp), far4 hM (by simp; omega), (((hb.setCell (by simp; omega) _).setCell (by simp; omega) _).setCell (by simp; omega) _).setCell (by simp; omega) _⟩
        · rw [HPS.out]; exact congrArg (Value.int .u64) (wrap_small2 _ _ HST.out)
        · rw [HPS.out]; exact ((((hS.set_ 0 _).set_ 1 _).set_ 2 _).set_ 3 _)
      case measure => simp [intOf]; omega
    · have hd2 : decide ((k : Int) < 4) = false := by simp; omega
      obtain rfl : k = 4 := by omega
      obtain ⟨s0, s1, s2, s3⟩ := hS'.four
      go_wp2_with (first
        | (go_at_call 72; refine (lessened_any g _ n sq (psTo n f x y 4).s f _ hM' hz).mono ?_; rintro e w3 ⟨rfl, hb3⟩; have hR3 := hR'.below hb3 hR'.lt; have hb4 := hb'.trans (hb3.mono hb'.size); clear hb3 s0 s1 s2 s3)
        | ((with_reducible refine (?_ : wpList _ _ _ (Oper.mk none (.store 85 (.tmp 6) _) _ _ _ _ :: _) _ _)); go_loud (refine wpList_store_blk rfl 85 (.tmp 6) (.tmp 142) rfl rfl (w.heap.size + 1 + 1) [.int .u64 ((productP n f x y).a : Int), .int .u64 ((productP n f x y).b : Int), .int .u64 ((productP n f x y).c : Int), .int .u64 ((productP n f x y).d : Int)] rfl rfl 85 _ hR3 info50 (Eq.trans (b := 4) rfl rfl) (by simp [Value.oneCell']) ?_); intro w4 hR4 hg4))
      refine bodyPost_ret (v := .agg _) (results_cell_row rfl _ _ (w.heap.size + 1 + 1) 85 _ (0, 0) _ rfl hR4.raw Tryd.underlying85 rfl info50) rfl ⟨rfl, below_new hb4 hg4 (by omega) hb4.size⟩

end Go.Proofs.YtnkikhnllnbhfaaDoor
