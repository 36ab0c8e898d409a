/-
  The walk of the statement TollgateMarks, up to its last line.
-/
import Derived.Test.YtkiogpnjkmdmgaaDoorFew
import Derived.Test.YtkiogpnjkmdmgaaDoorRowsApp
import Derived.Test.YtkiogpnjkmdmgaaDoorFunc1
import Derived.Test.YtkiogpnjkmdmgaaDoorQRefMacO
namespace Go.Proofs.YtkiogpnjkmdmgaaDoor
open Go.RowKit

theorem sha_abc : sha [97, 98, 99] = [0xBA, 0x78, 0x16, 0xBF, 0x8F, 0x01, 0xCF, 0xEA, 0x41, 0x41, 0x40, 0xDE, 0x5D, 0xAE, 0x22, 0x23, 0xB0, 0x03, 0x61, 0xA3, 0x96, 0x17, 0x7A, 0x9C, 0xB4, 0x10, 0xFF, 0x61, 0xF2, 0x00, 0x15, 0xAD] := by decide +kernel
theorem cell2 (w : World) (X : Obj) (t : TypeId) (u : Value) : ((w.alloc X).alloc (.cells #[u] t)).cell? ⟨w.heap.size + 1, 0, none⟩ = some u := by
  have := new_cell (w.alloc X) t u
  rwa [size_alloc] at this
set_option maxRecDepth 100000 in
set_option maxHeartbeats 600000 in
theorem stands_any (w : World) (ht : Tabs w) :
    Calls Tryd.prog 25 #[] w fun e w' => e = .returned (.bool true) ∧ Below w.heap.size w w' := by
  have kc := fun (w : World) (C : Array Value) (n c : Nat) => Lib.run_convert_bytes_const (P := Tryd.prog) w 27 5 C n c Tryd.underlying27 Tryd.underlying5
  have ht0 := ht.lt0
  have ht1 := ht.lt1
  go_enter Tryd.func25, Tryd.ntmps25
  go_wp2_with fail
  clear kc
  have hb0 : ∀ X : Obj, Below w.heap.size w (w.alloc X) := fun X => (Below.refl _ _).alloc (Nat.le_refl _) _
  have hB := Blk.new_of w 5 #[.int .u8 97, .int .u8 98, .int .u8 99] (([97, 98, 99] : List UInt8).map B8) rfl
  have hin : In (w.alloc (.cells #[.int .u8 97, .int .u8 98, .int .u8 99] 5 (3, 4))) (w.heap.size + 1) (some ⟨w.heap.size, 0, none⟩) 3 [97, 98, 99] := ⟨by decide, by decide, fun _ => ⟨w.heap.size, 0, rfl, Nat.lt_succ_self _, fun i hi => by
    refine (cell_of_row _ w.heap.size (0 + i) _ _ _ (heap_alloc_new w _)).trans ?_
    obtain rfl | rfl | rfl : i = 0 ∨ i = 1 ∨ i = 2 := by have : i < 3 := hi; omega
    · rfl
    · rfl
    · rfl⟩⟩
  refine (of_one (b := [97, 98, 99]) (B := w.heap.size + 1) rfl (by decide) (ht.below ((hb0 _).alloc (by simp) _)) (cell2 _ _ _ _) (hin.below ((Below.refl _ _).alloc (by simp) _)) (by simp)).mono ?_
  rintro e w1 ⟨rfl, hb1⟩
  have hb2 : Below w.heap.size w w1 := ((hb0 _).alloc (by simp) _).trans (hb1.mono (by simp; omega))
  clear hb1 hin hB hb0
  obtain ⟨X, hX⟩ : ∃ X, X = sha [97, 98, 99] := ⟨_, rfl⟩
  rw [← hX]
  have hl : X.length = 32 := by rw [hX]; exact sha_length _
  have x0 : X.getD 0 0 = 186 := by rw [hX, sha_abc]; rfl
  have x31 : X.getD 31 0 = 173 := by rw [hX, sha_abc]; rfl
  have HL := Lib.hid hl
  have X0 := Lib.hid x0
  have X31 := Lib.hid x31
  clear hX hl x0 x31
  go_wp2_with (refine wpList_store_blk rfl 29 (.tmp 1) (.tmp 5) rfl rfl w1.heap.size _ rfl rfl 29 ((List.replicate 32 (0 : UInt8)).map B8) (Blk.new_of w1 _ _ _ (by rfl)) (info32.trans (by rw [List.length_map, HL.out])) (by rw [List.length_map, List.length_map, HL.out]; rfl) (one8 _) ?_; intro w2 hs2 hg2; have c0 := hs2.at8 0 (by rw [HL.out]; decide); rw [X0.out] at c0; have c31 := hs2.at8 31 (by rw [HL.out]; decide); rw [X31.out] at c31)
  go_ret
  exact ⟨rfl, below_new (hb2.alloc hb2.size _) hg2 hb2.size (by have := hb2.size; simp; omega)⟩

theorem eq16 (L : List UInt8) (h : L.length = 16) (W : World) : (binOp .eql 41 (.agg (L.map B8).toArray) (.agg (L.map B8).toArray)).run Tryd.prog W = .ok (.bool true) W := by
  have := run_eql_bytes (P := Tryd.prog) W 41 5 16 Tryd.underlying41 Tryd.underlying5 size8 L L h h
  rw [beq_self_eq_true] at this
  exact this
theorem in_of_range {W : World} {g n : Nat} {xs : List UInt8} (h : W.rangeAt g 0 (xs.map B8)) (hg : g < W.heap.size) (hl : xs.length = n) (hn : n ≤ 1000) : In W W.heap.size (some ⟨g, 0, none⟩) n xs :=
  ⟨by omega, by omega, fun _ => ⟨g, 0, rfl, hg, fun j hj => h j _ (getD_map8 xs j hj)⟩⟩
theorem range_below {W W' : World} {g o : Nat} {cs : List Value} (h : W.rangeAt g o cs) (hb : Below W.heap.size W W') (hg : g < W.heap.size) : W'.rangeAt g o cs := fun j v hv => (hb.cell (p := ⟨g, o + j, none⟩) hg).trans (h j v hv)
/-- What holds through the last condition: two rows of 32 bytes, two of 16, and all that was there. -/
abbrev FourS (w6 : World) (g1 g2 g3 g4 : Nat) (x1 x2 x3 x4 : List UInt8) (W : World) : Prop := ((W.rangeAt g1 0 (x1.map B8) ∧ W.rangeAt g2 0 (x2.map B8)) ∧ (W.rangeAt g3 0 (x3.map B8) ∧ W.rangeAt g4 0 (x4.map B8))) ∧ Below w6.heap.size w6 W
theorem FourS.step {w6 W W' : World} {g1 g2 g3 g4 : Nat} {x1 x2 x3 x4 : List UInt8} (h : FourS w6 g1 g2 g3 g4 x1 x2 x3 x4 W) (h1 : g1 < w6.heap.size) (h2 : g2 < w6.heap.size) (h3 : g3 < w6.heap.size) (h4 : g4 < w6.heap.size) (hb : Below W.heap.size W W') : FourS w6 g1 g2 g3 g4 x1 x2 x3 x4 W' :=
  ⟨⟨⟨range_below h.1.1.1 hb (Nat.lt_of_lt_of_le h1 h.2.size), range_below h.1.1.2 hb (Nat.lt_of_lt_of_le h2 h.2.size)⟩, ⟨range_below h.1.2.1 hb (Nat.lt_of_lt_of_le h3 h.2.size), range_below h.1.2.2 hb (Nat.lt_of_lt_of_le h4 h.2.size)⟩⟩, h.2.trans (hb.mono h.2.size)⟩

set_option maxRecDepth 100000 in
set_option maxHeartbeats 4000000 in
theorem marks_walk (K A : Option Addr) (ck c : Nat) (xk : List UInt8) (ps : List (List UInt8)) (w : World) (iK : In w w.heap.size K ck xk) (hA : PIn w w.heap.size A c ps) (ht : Tabs w) (htq : TabsQ w) :
    Calls Tryd.prog 5 #[.slice K xk.length ck, .slice A ps.length c] w fun e w' => e = .returned (.bool true) ∧ Below w.heap.size w w' := by
  have ma : min (xk.length : Int) 64 = ((xk.take 64).length : Int) := by rw [List.length_take]; omega
  have jk := iK.take 64
  have la2 : (xk.take 64).length ≤ 64 := by rw [List.length_take]; omega
  have la3 : (xk.take 64).length ≤ xk.length := by rw [List.length_take]; omega
  obtain ⟨hk1, hk2, _⟩ := iK
  have kk := jk.1
  generalize xk.take 64 = key at *
  have hq1 := few_length 5 100 ps
  have hq2 := few_flatten_le 5 100 ps
  obtain ⟨qs, hq⟩ : ∃ qs, few 5 100 ps = qs := ⟨_, rfl⟩
  rw [hq] at hq1 hq2
  have HQ := Lib.hid hq
  clear hq
  have hp0 := padKey_short key la2
  have hp0q := padKeyQ_short key la2
  obtain ⟨pk, hpk⟩ : ∃ pk, pk = padKey key := ⟨_, rfl⟩
  have hpkl : pk.length = 64 := by rw [hpk]; exact padKey_length key
  obtain ⟨p1, hp1⟩ : ∃ p, p = pk.map (· ^^^ 54) := ⟨_, rfl⟩
  obtain ⟨p2, hp2⟩ : ∃ p, p = pk.map (· ^^^ 92) := ⟨_, rfl⟩
  have hl1 : p1.length = 64 := by rw [hp1, List.length_map, hpkl]
  have hl2 : p2.length = 64 := by rw [hp2, List.length_map, hpkl]
  have hma : hmac key qs.flatten = sha (p2 ++ sha (p1 ++ qs.flatten)) := by
    unfold hmac; rw [← hpk, xorTo_all _ _ hpkl, xorTo_all _ _ hpkl, ← hp1, ← hp2]
  have hmb : hmacQ key qs.flatten = md5 (p2 ++ md5 (p1 ++ qs.flatten)) := by
    unfold hmacQ; rw [← hp0q, hp0, ← hpk, xorTo_all _ _ hpkl, xorTo_all _ _ hpkl, ← hp1, ← hp2]
  have HMA := Lib.hid hma
  have HMB := Lib.hid hmb
  rw [← hpk] at hp0
  have HP0 := Lib.hid hp0
  have HP1 := Lib.hid hp1
  have HP2 := Lib.hid hp2
  have HL1 := Lib.hid hl1
  have HL2 := Lib.hid hl2
  clear hp0 hp0q hpk hpkl hp1 hp2 hl1 hl2 hma hmb
  go_enter Tryd.func5, Tryd.ntmps5
  go_wp2_with fail
  refine (few_here (m := 5) (e := 100) hA (by decide) (by decide) HQ.out).mono ?_
  rintro r w1 ⟨A1, c1, rfl, hr1, hq1', hb1⟩
  clear hr1
  have hI1 := jk.up hb1
  go_wp2_with fail
  refine (all_here hq1' (by omega)).mono ?_
  rintro r w2 ⟨rfl, hb2⟩
  have hq2' := hq1'.up hb2
  have hI2 := hI1.up hb2
  have hb02 := hb1.trans (hb2.mono hb1.size)
  clear hq1' hI1 hb1 hb2
  go_wp2_with fail
  refine (func1_any K ck w2.heap.size key pk 54 w2 (Nat.le_refl _) hI2 la2 HP0.out).mono ?_
  rintro r w3 ⟨A3, c3, rfl, hB3, hb3⟩
  rw [← HP1.out] at hB3
  have hq3 := hq2'.up hb3
  have hI3 := hI2.up hb3
  have hb03 := hb02.trans (hb3.mono hb02.size)
  have hR3 := hB3.toIn (Nat.le_refl _)
  clear hq2' hI2 hb02 hb3 hB3
  go_wp2_with fail
  refine (func1_any K ck w3.heap.size key pk 92 w3 (Nat.le_refl _) hI3 la2 HP0.out).mono ?_
  rintro r w4 ⟨A4, c4, rfl, hB4, hb4⟩
  rw [← HP2.out] at hB4
  have hq4 := hq3.up hb4
  have hI4 := hI3.up hb4
  have hR4 := hR3.up hb4
  have hO4 := hB4.toIn (Nat.le_refl _)
  have hb04 := hb03.trans (hb4.mono hb03.size)
  clear hq3 hI3 hR3 hb03 hb4 hB4
  obtain ⟨x, hx⟩ : ∃ x, x = sha (p1 ++ qs.flatten) := ⟨_, rfl⟩
  obtain ⟨y, hy⟩ : ∃ y, y = md5 (p1 ++ qs.flatten) := ⟨_, rfl⟩
  obtain ⟨a, ha⟩ : ∃ a, a = hmac key qs.flatten := ⟨_, rfl⟩
  obtain ⟨b, hb⟩ : ∃ b, b = hmacQ key qs.flatten := ⟨_, rfl⟩
  have hxl : x.length = 32 := by rw [hx]; exact sha_length _
  have hyl : y.length = 16 := by rw [hy]; exact md5_length _
  have hal : a.length = 32 := by rw [ha]; exact hmac_length _ _
  have hbl : b.length = 16 := by rw [hb]; exact hmacQ_length _ _
  have ha2 : a = sha (p2 ++ x) := by rw [ha, HMA.out, hx]
  have hb2 : b = md5 (p2 ++ y) := by rw [hb, HMB.out, hy]
  have HX := Lib.hid hx
  have HY := Lib.hid hy
  have HA := Lib.hid ha
  have HB := Lib.hid hb
  have HA2 := Lib.hid ha2
  have HB2 := Lib.hid hb2
  have HXL := Lib.hid hxl
  have HYL := Lib.hid hyl
  have HAL := Lib.hid hal
  have HBL := Lib.hid hbl
  have HFL := Lib.hid (show qs.flatten.length ≤ 500 by omega)
  clear hx hy ha hb hxl hyl hal hbl ha2 hb2
  have hal4 := fun X => (Below.refl w4.heap.size w4).alloc (Nat.le_refl _) X
  go_wp2_with (first
    | ((with_reducible refine (?_ : wpList _ _ _ (Oper.mk (some 29) _ _ _ _ _ :: _) _ _)); go_loud (refine wpList_append_rows rfl (.tmp 27) (.tmp 28) rfl w4.heap.size A3 A1 c3 c1 p1 qs rfl rfl (by rw [HL1.out]; exact new_cell _ _ _) (hR4.up (hal4 _)) (hq4.up (hal4 _)) (by omega) ?_); intro A5 c5 w4a hc5 hm5 hb5 hp5;
       replace hb5 := (hal4 _).trans (hb5.mono (hal4 _).size); have hh5 := hb04.trans (hb5.mono hb04.size))
    | (go_at_call 21; refine (Of_any c5 A5 (p1 :: qs) w4a (by rw [List.flatten_cons, List.length_append, HL1.out]; omega) hc5 hm5 hp5 (ht.below hh5)).mono ?_; rintro e w4b ⟨rfl, hb6⟩; rw [List.flatten_cons, ← HX.out]; replace hb6 := hb5.trans (hb6.mono hb5.size) )
    | (refine wpList_store_blk rfl 29 (.tmp 9) (.tmp 30) rfl rfl w4b.heap.size _ rfl rfl 29 _ (Blk.new_of w4b 29 _ ((List.replicate 32 (0 : UInt8)).map B8) (by rfl)) (info32.trans (by rw [List.length_map, HXL.out])) (by rw [List.length_map, List.length_map, HXL.out]; rfl) (one8 _) ?_; intro w4c hS9 hg7; have hb7 := below_new (hb6.alloc hb6.size _) hg7 hb6.size (by have := hb6.size; simp; omega); have hq7 := hq4.up hb7; have hI7 := hI4.up hb7; have hR7 := hR4.up hb7; have hO7 := hO4.up hb7; have hb07 := hb04.trans (hb7.mono hb04.size); have hal7 := fun X => (Below.refl w4c.heap.size w4c).alloc (Nat.le_refl _) X; clear hal4 hp5 hb5 hh5 hb6 hg7 hb7 hq4 hI4 hR4 hO4 hb04 hc5 hm5)
    | ((with_reducible refine (?_ : wpList _ _ _ (Oper.mk (some 34) _ _ _ _ _ :: _) _ _)); go_loud (refine wpList_append_rows rfl (.tmp 32) (.tmp 33) rfl w4c.heap.size A3 A1 c3 c1 p1 qs rfl rfl (by rw [HL1.out]; exact new_cell _ _ _) (hR7.up (hal7 _)) (hq7.up (hal7 _)) (by omega) ?_); intro A5 c5 w4ca hc5 hm5 hb5 hp5;
       replace hb5 := (hal7 _).trans (hb5.mono (hal7 _).size); have hh5 := hb07.trans (hb5.mono hb07.size))
    | (go_at_call 22; refine (qOf_any c5 A5 (p1 :: qs) w4ca (by rw [List.flatten_cons, List.length_append, HL1.out]; omega) hc5 hm5 hp5 (htq.below hh5)).mono ?_; rintro e w4cb ⟨rfl, hb6⟩; rw [List.flatten_cons, ← HY.out]; replace hb6 := hb5.trans (hb6.mono hb5.size); have hS9b := (hS9.below hb6 hS9.lt))
    | (refine wpList_store_blk rfl 41 (.tmp 10) (.tmp 35) rfl rfl w4cb.heap.size _ rfl rfl 41 _ (Blk.new_of w4cb 41 _ ((List.replicate 16 (0 : UInt8)).map B8) (by rfl)) (infoH.trans (by rw [List.length_map, HYL.out])) (by rw [List.length_map, List.length_map, HYL.out]; rfl) (one8 _) ?_; intro w4cc hSy hg7; have hb7 := below_new (hb6.alloc hb6.size _) hg7 hb6.size (by have := hb6.size; simp; omega); have hS9c := hS9b.below (below_new ((Below.refl _ _).alloc (Nat.le_refl _) _) hg7 (Nat.le_refl _) (by simp)) hS9b.lt; have hq8 := hq7.up hb7; have hI8 := hI7.up hb7; have hR8 := hR7.up hb7; have hO8 := hO7.up hb7; have hb08 := hb07.trans (hb7.mono hb07.size); have hal8 := fun X => (Below.refl w4cc.heap.size w4cc).alloc (Nat.le_refl _) X; clear hal7 hp5 hb5 hh5 hb6 hg7 hb7 hq7 hI7 hR7 hO7 hb07 hc5 hm5)
    | (go_at_call 23; refine (macOf_any K A1 ck c1 w4cc.heap.size key qs w4cc (Nat.le_refl _) hI8 (by omega) (ht.below hb08) (by have := HFL.out; omega) hq8.1 hq8.2.1 (fun g hg => hq8.parts hg)).mono ?_; rintro e wm ⟨rfl, hbm⟩; rw [← HA.out]; have hqm := hq8.up hbm; have hIm := hI8.up hbm; have hOm := hO8.up hbm; have hS9m := hS9c.below hbm hS9c.lt; have hSym := hSy.below hbm hSy.lt; have hb0m := hb08.trans (hbm.mono hb08.size); clear hq8 hI8 hO8 hR8 hS9c hSy hb08 hbm hal8)
    | (go_at_call 24; refine (qMac_any K A1 ck c1 wm.heap.size key qs wm (Nat.le_refl _) hIm (by omega) (htq.below hb0m) (by have := HFL.out; omega) hqm.1 hqm.2.1 (fun g hg => hqm.parts hg)).mono ?_; rintro e wn ⟨rfl, hbn⟩; rw [← HB.out]; have hIn := hIm.up hbn; have hOn := hOm.up hbn; have hS9n := hS9m.below hbn hS9m.lt; have hSyn := hSym.below hbn hSym.lt; have hb0n := hb0m.trans (hbn.mono hb0m.size); clear hqm hIm hOm hS9m hSym hb0m hbn)
    | (refine wpList_store_blk rfl 29 (.tmp 11) (.tmp 38) rfl rfl wn.heap.size _ rfl rfl 29 _ ((Blk.new_of wn 29 _ ((List.replicate 32 (0 : UInt8)).map B8) (by rfl)).alloc _) (info32.trans (by rw [List.length_map, HAL.out])) (by rw [List.length_map, List.length_map, HAL.out]; rfl) (one8 _) ?_; intro wo hSa hgo; have hSb0 := (Blk.new2_of wn (.cells ((List.replicate 32 (0 : UInt8)).map B8).toArray 29) 41 _ ((List.replicate 16 (0 : UInt8)).map B8) rfl).grown hgo (by simp))
    | (refine wpList_store_blk rfl 41 (.tmp 12) (.tmp 41) rfl rfl (wn.heap.size + 1) _ rfl rfl 41 _ hSb0 (infoH.trans (by rw [List.length_map, HBL.out])) (by rw [List.length_map, List.length_map, HBL.out]; rfl) (one8 _) ?_; intro we hSb hge))
  have hbe : Below wn.heap.size wn we := below_new (below_new (((Below.refl _ _).alloc (Nat.le_refl _) _).alloc (by simp) _) hgo (Nat.le_refl _) (by simp; omega)) hge (by omega) (by have := hgo.size; simp at this; omega)
  have hS9e := hS9n.below hbe hS9n.lt
  have hSye := hSyn.below hbe hSyn.lt
  have hSae := hSa.grown hge (by simp)
  have hOe := hOn.up hbe
  have hIe := hIn.up hbe
  have hb0e := hb0n.trans (hbe.mono hb0n.size)
  have l1 := hS9e.lt
  have l2 := hSae.lt
  have l3 := hSye.lt
  have l4 := hSb.lt
  clear hbe hS9n hSyn hSa hgo hge hOn hIn hb0n hSb0
  generalize w4b.heap.size = g1 at *
  generalize w4cb.heap.size = g3 at *
  generalize wn.heap.size = g2 at *
  have HS0 := Lib.hid (show FourS we g1 g2 g3 (g2 + 1) x a y b we.drew from ⟨⟨⟨rangeAt_of_blk hS9e.drew, rangeAt_of_blk hSae.drew⟩, ⟨rangeAt_of_blk hSye.drew, rangeAt_of_blk hSb.drew⟩⟩, below_drewN (Below.refl _ _) 1⟩)
  have HST := Lib.hid (fun (W : World) (h : Below we.heap.size we W) => (ht.below hb0e).below h)
  have R3 := fun (W : World) => refMac_any key qs.flatten W (by omega) (by omega)
  have R2 := fun (W : World) => refMacQ_any key qs.flatten W (by omega) (by omega)
  rw [← HA.out] at R3
  rw [← HB.out] at R2
  have HR3 := Lib.hid R3
  have HR2 := Lib.hid R2
  have hq32 := eq32 a HAL.out
  have hq16 := eq16 b HBL.out
  have hcA := fun (W : World) (h : W.rangeAt g2 0 (a.map B8)) => conv_row HAL.out h 32
  have hcB := fun (W : World) (h : W.rangeAt (g2 + 1) 0 (b.map B8)) => conv_row HBL.out h 16
  have hcK := fun (W : World) (h : Below we.heap.size we W) => conv_in rfl (hIe.up h)
  have hu32 := Tryd.underlying29
  have hu16 := Tryd.underlying41
  have hi32 : (Tryd.prog.info? 29).map (·.size) = some (a.map B8).length := info32.trans (by rw [List.length_map, HAL.out])
  have hi16 : (Tryd.prog.info? 41).map (·.size) = some (b.map B8).length := infoH.trans (by rw [List.length_map, HBL.out])
  clear R3 R2 hS9e hSye hSae hSb hq1 hq2 la3 kk hk1 hk2 hA
  refine wp_region_noPanic ?_
  refine wp_region_held_drew (S := FourS we g1 g2 g3 (g2 + 1) x a y b) (by kernel_rfl) (HS0.out) (fun hHeld => ?_)
  refine wpAnyH_ready (rs := [0]) (by kernel_rfl) (by simp) ?_
  refine AllReadyH.cons (o := ⟨_, _, _, _, _, _⟩) rfl (fun K hK => ?_) AllReadyH.nil
  go_simp
  go_at_call 25; refine (stands_any _ (HST.out _ hHeld.2)).mono ?_; rintro e wa ⟨rfl, hb_a⟩
  try go_wp2_with fail
  refine hK.out _ _ (FourS.step hHeld l1 l2 l3 l4 hb_a) (fun hHeld => ?_)
  clear hK K hb_a
  try simp only [Act.put, List.setIfInBounds_toArray, List.set_cons_zero, List.set_cons_succ]
  refine wpAnyH_take (i := 1) (oi := ⟨_, _, _, _, _, _⟩) (v := ?_) rfl (by kernel_rfl) (by kernel_rfl) (by kernel_rfl) (fun _ _ _ h => h) (Or.inl ⟨by rfl, ?_⟩) hHeld ?_
  rotate_left 1
  · (intro W hSw; (try dsimp only at hSw); go_simp; try with_reducible rfl)
  try simp only [Act.put, List.setIfInBounds_toArray, List.set_cons_zero, List.set_cons_succ]
  refine' wpAnyH_take (i := 2) (oi := ⟨_, _, _, _, _, _⟩) rfl (by kernel_rfl) (by kernel_rfl) (by kernel_rfl) (fun _ _ _ h => h) (yieldsIf_load_mid (by rfl) _ _ rfl (g2) 0 rfl (a.map B8) _ (fun w h => h.1.1.2) hu32 rfl hi32) hHeld ?_
  try simp only [Act.put, List.setIfInBounds_toArray, List.set_cons_zero, List.set_cons_succ]
  refine wpAnyH_take (i := 3) (oi := ⟨_, _, _, _, _, _⟩) (v := ?_) rfl (by kernel_rfl) (by kernel_rfl) (by kernel_rfl) (fun _ _ _ h => h) (Or.inl ⟨by rfl, ?_⟩) hHeld ?_
  rotate_left 1
  · (intro W hSw; (try dsimp only at hSw); go_simp; try with_reducible rfl)
  try simp only [Act.put, List.setIfInBounds_toArray, List.set_cons_zero, List.set_cons_succ]
  refine wpAnyH_take (i := 4) (oi := ⟨_, _, _, _, _, _⟩) (v := ?_) rfl (by kernel_rfl) (by kernel_rfl) (by kernel_rfl) (fun _ _ _ h => h) (Or.inl ⟨by rfl, ?_⟩) hHeld ?_
  rotate_left 1
  · (intro W hSw; (try dsimp only at hSw); go_simp; try with_reducible rfl)
  try simp only [Act.put, List.setIfInBounds_toArray, List.set_cons_zero, List.set_cons_succ]
  refine wpAnyH_ready (rs := [5]) (by kernel_rfl) (by simp) ?_
  refine AllReadyH.cons (o := ⟨_, _, _, _, _, _⟩) rfl (fun K hK => ?_) AllReadyH.nil
  go_simp
  have hO := hOe.up hHeld.2
  have hX := in_of_range (n := 32) hHeld.1.1.1 (Nat.lt_of_lt_of_le l1 hHeld.2.size) HXL.out (by omega)
  have hal := (Below.refl wa.heap.size wa).alloc (Nat.le_refl _) (.cells #[.slice A4 64 c4, .slice (some ⟨g1, 0, none⟩) 32 32] 27)
  have hof := Of_any 2 (some ⟨wa.heap.size, 0, none⟩) [p2, x] (wa.alloc (.cells #[.slice A4 64 c4, .slice (some ⟨g1, 0, none⟩) 32 32] 27)) (by simp only [List.flatten_cons, List.flatten_nil, List.append_nil, List.length_append]; rw [HL2.out, HXL.out]; omega) (by simp) (by omega) (fun g hg => by
    have hpp := parts2 (g := g) 27 hO hX (by rw [size_alloc] at hg; omega) (by rw [size_alloc] at hg; omega)
    rw [HL2.out, HXL.out] at hpp
    exact hpp) ((ht.below hb0e).below (hHeld.2.trans (hal.mono hHeld.2.size)))
  simp only [List.flatten_cons, List.flatten_nil, List.append_nil] at hof
  rw [← HA2.out] at hof
  refine hK.out _ _ (FourS.step hHeld l1 l2 l3 l4 hal) (fun hHeld => ?_)
  clear hK K hO hX hal
  try simp only [Act.put, List.setIfInBounds_toArray, List.set_cons_zero, List.set_cons_succ]
  refine wpAnyH_ready (rs := [6]) (by kernel_rfl) (by simp) ?_
  refine AllReadyH.cons (o := ⟨_, _, _, _, _, _⟩) rfl (fun K hK => ?_) AllReadyH.nil
  go_simp
  go_at_call 21; refine hof.mono ?_; rintro e wb ⟨rfl, hb_b⟩; clear hof
  try go_wp2_with fail
  refine hK.out _ _ (FourS.step hHeld l1 l2 l3 l4 hb_b) (fun hHeld => ?_)
  clear hK K hb_b
  try simp only [Act.put, List.setIfInBounds_toArray, List.set_cons_zero, List.set_cons_succ]
  refine wpAnyH_take (i := 7) (oi := ⟨_, _, _, _, _, _⟩) (v := ?_) rfl (by kernel_rfl) (by kernel_rfl) (by kernel_rfl) (fun _ _ _ h => h) (Or.inl ⟨by rfl, ?_⟩) hHeld ?_
  rotate_left 1
  · (intro W hSw; (try dsimp only at hSw); go_simp; try with_reducible rfl)
  try simp only [Act.put, List.setIfInBounds_toArray, List.set_cons_zero, List.set_cons_succ]
  refine wpAnyH_take (i := 8) (oi := ⟨_, _, _, _, _, _⟩) (v := ?_) rfl (by kernel_rfl) (by kernel_rfl) (by kernel_rfl) (fun _ _ _ h => h) (Or.inl ⟨by rfl, ?_⟩) hHeld ?_
  rotate_left 1
  · (intro W hSw; (try dsimp only at hSw); go_simp; try with_reducible rfl)
  try simp only [Act.put, List.setIfInBounds_toArray, List.set_cons_zero, List.set_cons_succ]
  refine wpAnyH_take (i := 9) (oi := ⟨_, _, _, _, _, _⟩) (v := ?_) rfl (by kernel_rfl) (by kernel_rfl) (by kernel_rfl) (fun _ _ _ h => h) (Or.inl ⟨by rfl, ?_⟩) hHeld ?_
  rotate_left 1
  · (intro W hSw; (try dsimp only at hSw); go_simp; try with_reducible rfl)
  try simp only [Act.put, List.setIfInBounds_toArray, List.set_cons_zero, List.set_cons_succ]
  refine' wpAnyH_take (i := 10) (oi := ⟨_, _, _, _, _, _⟩) rfl (by kernel_rfl) (by kernel_rfl) (by kernel_rfl) (fun _ _ _ h => h) (yieldsIf_load_mid (by rfl) _ _ rfl (g2 + 1) 0 rfl (b.map B8) _ (fun w h => h.1.2.2) hu16 rfl hi16) hHeld ?_
  try simp only [Act.put, List.setIfInBounds_toArray, List.set_cons_zero, List.set_cons_succ]
  refine wpAnyH_take (i := 11) (oi := ⟨_, _, _, _, _, _⟩) (v := ?_) rfl (by kernel_rfl) (by kernel_rfl) (by kernel_rfl) (fun _ _ _ h => h) (Or.inl ⟨by rfl, ?_⟩) hHeld ?_
  rotate_left 1
  · (intro W hSw; (try dsimp only at hSw); go_simp; try with_reducible rfl)
  try simp only [Act.put, List.setIfInBounds_toArray, List.set_cons_zero, List.set_cons_succ]
  refine wpAnyH_take (i := 12) (oi := ⟨_, _, _, _, _, _⟩) (v := ?_) rfl (by kernel_rfl) (by kernel_rfl) (by kernel_rfl) (fun _ _ _ h => h) (Or.inl ⟨by rfl, ?_⟩) hHeld ?_
  rotate_left 1
  · (intro W hSw; (try dsimp only at hSw); go_simp; try with_reducible rfl)
  try simp only [Act.put, List.setIfInBounds_toArray, List.set_cons_zero, List.set_cons_succ]
  refine wpAnyH_ready (rs := [13]) (by kernel_rfl) (by simp) ?_
  refine AllReadyH.cons (o := ⟨_, _, _, _, _, _⟩) rfl (fun K hK => ?_) AllReadyH.nil
  go_simp
  have hO := hOe.up hHeld.2
  have hX := in_of_range (n := 16) hHeld.1.2.1 (Nat.lt_of_lt_of_le l3 hHeld.2.size) HYL.out (by omega)
  have hal := (Below.refl wb.heap.size wb).alloc (Nat.le_refl _) (.cells #[.slice A4 64 c4, .slice (some ⟨g3, 0, none⟩) 16 16] 27)
  have hof := qOf_any 2 (some ⟨wb.heap.size, 0, none⟩) [p2, y] (wb.alloc (.cells #[.slice A4 64 c4, .slice (some ⟨g3, 0, none⟩) 16 16] 27)) (by simp only [List.flatten_cons, List.flatten_nil, List.append_nil, List.length_append]; rw [HL2.out, HYL.out]; omega) (by simp) (by omega) (fun g hg => by
    have hpp := parts2 (g := g) 27 hO hX (by rw [size_alloc] at hg; omega) (by rw [size_alloc] at hg; omega)
    rw [HL2.out, HYL.out] at hpp
    exact hpp) ((htq.below hb0e).below (hHeld.2.trans (hal.mono hHeld.2.size)))
  simp only [List.flatten_cons, List.flatten_nil, List.append_nil] at hof
  rw [← HB2.out] at hof
  refine hK.out _ _ (FourS.step hHeld l1 l2 l3 l4 hal) (fun hHeld => ?_)
  clear hK K hO hX hal
  try simp only [Act.put, List.setIfInBounds_toArray, List.set_cons_zero, List.set_cons_succ]
  refine wpAnyH_ready (rs := [14]) (by kernel_rfl) (by simp) ?_
  refine AllReadyH.cons (o := ⟨_, _, _, _, _, _⟩) rfl (fun K hK => ?_) AllReadyH.nil
  go_simp
  go_at_call 22; refine hof.mono ?_; rintro e wd ⟨rfl, hb_d⟩; clear hof
  try go_wp2_with fail
  refine hK.out _ _ (FourS.step hHeld l1 l2 l3 l4 hb_d) (fun hHeld => ?_)
  clear hK K hb_d
  try simp only [Act.put, List.setIfInBounds_toArray, List.set_cons_zero, List.set_cons_succ]
  refine wpAnyH_take (i := 15) (oi := ⟨_, _, _, _, _, _⟩) (v := ?_) rfl (by kernel_rfl) (by kernel_rfl) (by kernel_rfl) (fun _ _ _ h => h) (Or.inl ⟨by rfl, ?_⟩) hHeld ?_
  rotate_left 1
  · (intro W hSw; (try dsimp only at hSw); go_simp; try with_reducible rfl)
  try simp only [Act.put, List.setIfInBounds_toArray, List.set_cons_zero, List.set_cons_succ]
  refine wpAnyH_take (i := 16) (oi := ⟨_, _, _, _, _, _⟩) (v := ?_) rfl (by kernel_rfl) (by kernel_rfl) (by kernel_rfl) (fun _ _ _ h => h) (Or.inl ⟨by rfl, ?_⟩) hHeld ?_
  rotate_left 1
  · (intro W hSw; (try dsimp only at hSw); go_simp; try with_reducible rfl)
  try simp only [Act.put, List.setIfInBounds_toArray, List.set_cons_zero, List.set_cons_succ]
  refine wpAnyH_take (i := 17) (oi := ⟨_, _, _, _, _, _⟩) (v := ?_) rfl (by kernel_rfl) (by kernel_rfl) (by kernel_rfl) (fun _ _ _ h => h) (Or.inl ⟨by rfl, ?_⟩) hHeld ?_
  rotate_left 1
  · (intro W hSw; (try dsimp only at hSw); go_simp; try with_reducible rfl)
  try simp only [Act.put, List.setIfInBounds_toArray, List.set_cons_zero, List.set_cons_succ]
  refine wpAnyH_take (i := 18) (oi := ⟨_, _, _, _, _, _⟩) (v := ?_) rfl (by kernel_rfl) (by kernel_rfl) (by kernel_rfl) (fun _ _ _ h => h) (Or.inl ⟨by rfl, ?_⟩) hHeld ?_
  rotate_left 1
  · (intro W hSw; (try dsimp only at hSw); go_simp; try with_reducible rfl)
  try simp only [Act.put, List.setIfInBounds_toArray, List.set_cons_zero, List.set_cons_succ]
  refine wpAnyH_take (i := 19) (oi := ⟨_, _, _, _, _, _⟩) (v := ?_) rfl (by kernel_rfl) (by kernel_rfl) (by kernel_rfl) (fun _ _ _ h => h) (Or.inl ⟨by rfl, ?_⟩) hHeld ?_
  rotate_left 1
  · (intro W hSw; (try dsimp only at hSw); go_simp; try with_reducible rfl)
  try simp only [Act.put, List.setIfInBounds_toArray, List.set_cons_zero, List.set_cons_succ]
  refine wpAnyH_take (i := 20) (oi := ⟨_, _, _, _, _, _⟩) (v := ?_) rfl (by kernel_rfl) (by kernel_rfl) (by kernel_rfl) (fun _ _ _ h => h) (Or.inl ⟨by rfl, ?_⟩) hHeld ?_
  rotate_left 1
  · (intro W hSw; (try dsimp only at hSw); go_simp; try with_reducible rfl)
  try simp only [Act.put, List.setIfInBounds_toArray, List.set_cons_zero, List.set_cons_succ]
  refine wpAnyH_take (i := 21) (oi := ⟨_, _, _, _, _, _⟩) (v := ?_) rfl (by kernel_rfl) (by kernel_rfl) (by kernel_rfl) (fun _ _ _ h => h) (Or.inl ⟨by rfl, ?_⟩) hHeld ?_
  rotate_left 1
  · (intro W hSw; (try dsimp only at hSw); go_simp; try with_reducible rfl)
  try simp only [Act.put, List.setIfInBounds_toArray, List.set_cons_zero, List.set_cons_succ]
  refine wpAnyH_take (i := 22) (oi := ⟨_, _, _, _, _, _⟩) (v := ?_) rfl (by kernel_rfl) (by kernel_rfl) (by kernel_rfl) (fun _ _ _ h => h) (Or.inl ⟨by rfl, ?_⟩) hHeld ?_
  rotate_left 1
  · (intro W hSw; (try dsimp only at hSw); go_simp; try with_reducible rfl)
  try simp only [Act.put, List.setIfInBounds_toArray, List.set_cons_zero, List.set_cons_succ]
  refine wpAnyH_ready (rs := [23]) (by kernel_rfl) (by simp) ?_
  refine AllReadyH.cons (o := ⟨_, _, _, _, _, _⟩) rfl (fun K hK => ?_) AllReadyH.nil
  go_simp
  go_at_call 26; ((with_reducible refine (HR3.out _).mono ?_); rintro e wf ⟨rfl, hb_f⟩)
  try go_wp2_with fail
  refine hK.out _ _ (FourS.step hHeld l1 l2 l3 l4 hb_f) (fun hHeld => ?_)
  clear hK K hb_f
  try simp only [Act.put, List.setIfInBounds_toArray, List.set_cons_zero, List.set_cons_succ]
  refine wpAnyH_take (i := 24) (oi := ⟨_, _, _, _, _, _⟩) (v := ?_) rfl (by kernel_rfl) (by kernel_rfl) (by kernel_rfl) (fun _ _ _ h => h) (Or.inl ⟨by rfl, ?_⟩) hHeld ?_
  rotate_left 1
  · (intro W hSw; (try dsimp only at hSw); go_simp; try with_reducible rfl)
  try simp only [Act.put, List.setIfInBounds_toArray, List.set_cons_zero, List.set_cons_succ]
  refine wpAnyH_take (i := 25) (oi := ⟨_, _, _, _, _, _⟩) (v := ?_) rfl (by kernel_rfl) (by kernel_rfl) (by kernel_rfl) (fun _ _ _ h => h) (Or.inl ⟨by rfl, ?_⟩) hHeld ?_
  rotate_left 1
  · (intro W hSw; (try dsimp only at hSw); go_simp; try with_reducible rfl)
  try simp only [Act.put, List.setIfInBounds_toArray, List.set_cons_zero, List.set_cons_succ]
  refine wpAnyH_take (i := 26) (oi := ⟨_, _, _, _, _, _⟩) (v := ?_) rfl (by kernel_rfl) (by kernel_rfl) (by kernel_rfl) (fun _ _ _ h => h) (Or.inl ⟨by rfl, ?_⟩) hHeld ?_
  rotate_left 1
  · (intro W hSw; (try dsimp only at hSw); go_simp; try with_reducible rfl)
  try simp only [Act.put, List.setIfInBounds_toArray, List.set_cons_zero, List.set_cons_succ]
  refine wpAnyH_take (i := 27) (oi := ⟨_, _, _, _, _, _⟩) (v := ?_) rfl (by kernel_rfl) (by kernel_rfl) (by kernel_rfl) (fun _ _ _ h => h) (Or.inl ⟨by rfl, ?_⟩) hHeld ?_
  rotate_left 1
  · (intro W hSw; (try dsimp only at hSw); go_simp; try with_reducible rfl)
  try simp only [Act.put, List.setIfInBounds_toArray, List.set_cons_zero, List.set_cons_succ]
  refine wpAnyH_take (i := 28) (oi := ⟨_, _, _, _, _, _⟩) (v := ?_) rfl (by kernel_rfl) (by kernel_rfl) (by kernel_rfl) (fun _ _ _ h => h) (Or.inl ⟨by rfl, ?_⟩) hHeld ?_
  rotate_left 1
  · (intro W hSw; (try dsimp only at hSw); go_simp; try with_reducible rfl)
  try simp only [Act.put, List.setIfInBounds_toArray, List.set_cons_zero, List.set_cons_succ]
  refine wpAnyH_take (i := 29) (oi := ⟨_, _, _, _, _, _⟩) (v := ?_) rfl (by kernel_rfl) (by kernel_rfl) (by kernel_rfl) (fun _ _ _ h => h) (Or.inl ⟨by rfl, ?_⟩) hHeld ?_
  rotate_left 1
  · (intro W hSw; (try dsimp only at hSw); go_simp; try with_reducible rfl)
  try simp only [Act.put, List.setIfInBounds_toArray, List.set_cons_zero, List.set_cons_succ]
  refine wpAnyH_take (i := 30) (oi := ⟨_, _, _, _, _, _⟩) (v := ?_) rfl (by kernel_rfl) (by kernel_rfl) (by kernel_rfl) (fun _ _ _ h => h) (Or.inl ⟨by rfl, ?_⟩) hHeld ?_
  rotate_left 1
  · (intro W hSw; (try dsimp only at hSw); go_simp; try with_reducible rfl)
  try simp only [Act.put, List.setIfInBounds_toArray, List.set_cons_zero, List.set_cons_succ]
  refine wpAnyH_take (i := 31) (oi := ⟨_, _, _, _, _, _⟩) (v := ?_) rfl (by kernel_rfl) (by kernel_rfl) (by kernel_rfl) (fun _ _ _ h => h) (Or.inl ⟨by rfl, ?_⟩) hHeld ?_
  rotate_left 1
  · (intro W hSw; (try dsimp only at hSw); go_simp; try with_reducible rfl)
  try simp only [Act.put, List.setIfInBounds_toArray, List.set_cons_zero, List.set_cons_succ]
  refine wpAnyH_ready (rs := [32]) (by kernel_rfl) (by simp) ?_
  refine AllReadyH.cons (o := ⟨_, _, _, _, _, _⟩) rfl (fun K hK => ?_) AllReadyH.nil
  go_simp
  go_at_call 27; ((with_reducible refine (HR2.out _).mono ?_); rintro e wg ⟨rfl, hb_g⟩)
  try go_wp2_with fail
  refine hK.out _ _ (FourS.step hHeld l1 l2 l3 l4 hb_g) (fun hHeld => ?_)
  clear hK K hb_g
  try simp only [Act.put, List.setIfInBounds_toArray, List.set_cons_zero, List.set_cons_succ]
  refine wpAnyH_take (i := 33) (oi := ⟨_, _, _, _, _, _⟩) (v := ?_) rfl (by kernel_rfl) (by kernel_rfl) (by kernel_rfl) (fun _ _ _ h => h) (Or.inl ⟨by rfl, ?_⟩) hHeld ?_
  rotate_left 1
  · (intro W hSw; (try dsimp only at hSw); go_simp; try with_reducible rfl)
  try simp only [Act.put, List.setIfInBounds_toArray, List.set_cons_zero, List.set_cons_succ]
  refine wpAnyH_take (i := 34) (oi := ⟨_, _, _, _, _, _⟩) (v := ?_) rfl (by kernel_rfl) (by kernel_rfl) (by kernel_rfl) (fun _ _ _ h => h) (Or.inl ⟨by rfl, ?_⟩) hHeld ?_
  rotate_left 1
  · (intro W hSw; (try dsimp only at hSw); go_simp; try with_reducible rfl)
  try simp only [Act.put, List.setIfInBounds_toArray, List.set_cons_zero, List.set_cons_succ]
  refine wpAnyH_take (i := 35) (oi := ⟨_, _, _, _, _, _⟩) (v := ?_) rfl (by kernel_rfl) (by kernel_rfl) (by kernel_rfl) (fun _ _ _ h => h) (Or.inl ⟨by rfl, ?_⟩) hHeld ?_
  rotate_left 1
  · (intro W hSw; (try dsimp only at hSw); go_simp; try with_reducible rfl)
  try simp only [Act.put, List.setIfInBounds_toArray, List.set_cons_zero, List.set_cons_succ]
  refine wpAnyH_done (by kernel_rfl) ?_ _
  refine NoPanic.normal ?_
  have hfin := hb0e.trans (hHeld.2.mono hb0e.size)
  go_wp2
  go_ret
  exact ⟨rfl, hfin⟩
end Go.Proofs.YtkiogpnjkmdmgaaDoor
