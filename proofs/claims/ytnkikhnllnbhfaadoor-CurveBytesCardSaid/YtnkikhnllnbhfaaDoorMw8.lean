/-
  Mw8.
-/
import Derived.Test.YtnkikhnllnbhfaaDoorMw7
namespace Go.Proofs.YtnkikhnllnbhfaaDoor
open Go.RowKit
theorem P4.ext4 {x y : P4} (h1 : x.a = y.a) (h2 : x.b = y.b) (h3 : x.c = y.c) (h4 : x.d = y.d) : x = y := by cases x; cases y; simp_all
theorem results_row_slot {P : Program} {fn : Func} {p q : Tmp} {ty : TypeId} (h : fn.results = #[.cell p ty, .tmp q]) (tmps : Array Value) (w : World) (g o : Nat) (cs : List Value) (d : TypeDesc) (v : Value)
    (hp : tmps.getD p undef = .pointer (some ⟨g, o, none⟩)) (hq : tmps.getD q undef = v) (hc : w.rangeAt g o cs)
    (hu : P.underlying ty = some d) (hd : d.isRow = true) (hi : (P.info? ty).map (·.size) = some cs.length) :
    (results fn tmps).run P w = .ok (.tuple #[.agg cs.toArray, v]) w := by
  have hp' : tmps[p]?.getD undef = .pointer (some ⟨g, o, none⟩) := by simpa using hp
  have hq' : tmps[q]?.getD undef = v := by simpa using hq
  simp [results, h, hp', hq', asAddr, run_loadVar_mid w g o ty cs d hc hu hd hi]
theorem inverse_ok (g : Nat) (n sq x : P4) (f : Nat) (z : IS) (w : World) (hm : Blk w g 89 (modCells n sq f)) (hn : n.ok) (hx : x.ok) (hz : Hid (z = isTo n x 512)) (h : z.o = oneP) :
    Calls Tryd.prog 70 #[.pointer (some ⟨g, 0, none⟩), .agg #[.int .u64 (x.a : Int), .int .u64 (x.b : Int), .int .u64 (x.c : Int), .int .u64 (x.d : Int)]] w fun e w' => e = .returned (.tuple #[.agg #[.int .u64 (z.i.a : Int), .int .u64 (z.i.b : Int), .int .u64 (z.i.c : Int), .int .u64 (z.i.d : Int)], .agg #[.int .u64 1, .int .u64 0, .int .u64 0, .int .u64 0]]) ∧ Below w.heap.size w w' := by
  have hc := inverse_any g n sq x f w hm hn hx
  rw [← hz.out, h] at hc
  exact hc
theorem inverse_bad (g : Nat) (n sq x : P4) (f : Nat) (z : IS) (w : World) (hm : Blk w g 89 (modCells n sq f)) (hn : n.ok) (hx : x.ok) (hz : Hid (z = isTo n x 512)) :
    Calls Tryd.prog 70 #[.pointer (some ⟨g, 0, none⟩), .agg #[.int .u64 (x.a : Int), .int .u64 (x.b : Int), .int .u64 (x.c : Int), .int .u64 (x.d : Int)]] w fun e w' => e = .returned (.tuple #[.agg #[.int .u64 (z.i.a : Int), .int .u64 (z.i.b : Int), .int .u64 (z.i.c : Int), .int .u64 (z.i.d : Int)], .agg #[.int .u64 (z.o.a : Int), .int .u64 (z.o.b : Int), .int .u64 (z.o.c : Int), .int .u64 (z.o.d : Int)]]) ∧ Below w.heap.size w w' := by
  have hc := inverse_any g n sq x f w hm hn hx
  rw [← hz.out] at hc
  exact hc
set_option maxRecDepth 100000 in
set_option maxHeartbeats 400000 in
theorem Inv_ok (g : Nat) (n sq x : P4) (f : Nat) (z : IS) (w : World) (hm : Blk w g 89 (modCells n sq f)) (md : Md n sq f) (hx : x.ok) (hz : Hid (z = isTo n x 512)) (h : z.o = oneP) :
    Calls Tryd.prog 55 #[.pointer (some ⟨g, 0, none⟩), .agg #[.int .u64 (x.a : Int), .int .u64 (x.b : Int), .int .u64 (x.c : Int), .int .u64 (x.d : Int)]] w fun e w' => e = .returned (.tuple #[.agg #[.int .u64 (z.i.a : Int), .int .u64 (z.i.b : Int), .int .u64 (z.i.c : Int), .int .u64 (z.i.d : Int)], .int .i64 0]) ∧ Below w.heap.size w w' := by
  go_enter Tryd.func55, Tryd.ntmps55
  go_wp2_with fail
  have hX : Blk ((w.alloc (.cells #[.int .u64 (x.a : Int), .int .u64 (x.b : Int), .int .u64 (x.c : Int), .int .u64 (x.d : Int)] 59)).alloc (.cells #[.int .u64 0, .int .u64 0, .int .u64 0, .int .u64 0] 59)) (w.heap.size) 59 [.int .u64 (x.a : Int), .int .u64 (x.b : Int), .int .u64 (x.c : Int), .int .u64 (x.d : Int)] := (Blk.new_of w _ _ _ rfl).alloc _
  have hR : Blk ((w.alloc (.cells #[.int .u64 (x.a : Int), .int .u64 (x.b : Int), .int .u64 (x.c : Int), .int .u64 (x.d : Int)] 59)).alloc (.cells #[.int .u64 0, .int .u64 0, .int .u64 0, .int .u64 0] 59)) (w.heap.size + 1) 59 [.int .u64 0, .int .u64 0, .int .u64 0, .int .u64 0] := Blk.new2_of w _ _ _ _ rfl
  have hM := (hm.alloc (.cells #[.int .u64 (x.a : Int), .int .u64 (x.b : Int), .int .u64 (x.c : Int), .int .u64 (x.d : Int)] 59)).alloc (.cells #[.int .u64 0, .int .u64 0, .int .u64 0, .int .u64 0] 59)
  have hb0 := fresh_two w (.cells #[.int .u64 (x.a : Int), .int .u64 (x.b : Int), .int .u64 (x.c : Int), .int .u64 (x.d : Int)] 59) (.cells #[.int .u64 0, .int .u64 0, .int .u64 0, .int .u64 0] 59)
  generalize (w.alloc (.cells #[.int .u64 (x.a : Int), .int .u64 (x.b : Int), .int .u64 (x.c : Int), .int .u64 (x.d : Int)] 59)).alloc (.cells #[.int .u64 0, .int .u64 0, .int .u64 0, .int .u64 0] 59) = w1 at *
  have lhX := hX.lt
  have lhR := hR.lt
  have lM := hM.lt
  refine (empty_any g n sq f _ hM (by have := md.big; omega)).mono ?_
  rintro e wz ⟨rfl, rfl⟩
  obtain ⟨x0, x1, x2, x3⟩ := hX.four
  go_wp2_with (first
    | (go_at_call 60; refine (parts_any x _).mono ?_; rintro e w3 ⟨rfl, hb3⟩; have hR3 := hR.below hb3 lhR; have hM3 := hM.below hb3 lM; have hbw3 := hb0.trans (hb3.mono hb0.size); clear hb3 x0 x1 x2 x3)
    | (go_at_call 70; refine (inverse_ok g n sq x f z _ hM3 md.ok hx hz h).mono ?_; rintro e w5 ⟨rfl, hb5⟩; have hR5 := hR3.below hb5 hR3.lt; have hbw5 := hbw3.trans (hb5.mono hbw3.size); clear hb5)
    | (go_at_call 66; refine (num_any z.i _).mono ?_; rintro e w7 ⟨rfl, hb7⟩; have hR7 := ((hR5.alloc _).alloc _).below hb7 (by have := hR5.lt; simp; omega); have hbw7 := ((hbw5.alloc hbw5.size _).alloc (by have := hbw5.size; simp; omega) _).trans (hb7.mono (by have := hbw5.size; simp; omega)); clear hb7)
    | ((with_reducible refine (?_ : wpList _ _ _ (Oper.mk none (.store 59 (.tmp 4) _) _ _ _ _ :: _) _ _)); go_loud (refine wpList_store_blk rfl 59 (.tmp 4) (.tmp 23) rfl rfl (w.heap.size + 1) [.int .u64 (z.i.a : Int), .int .u64 (z.i.b : Int), .int .u64 (z.i.c : Int), .int .u64 (z.i.d : Int)] rfl rfl 59 _ hR7 info24 (Eq.trans (b := 4) rfl rfl) (by simp [Value.oneCell']) ?_); intro w9 hR9 hg9))
  refine bodyPost_ret (results_row_slot rfl _ _ (w.heap.size + 1) 0 [.int .u64 (z.i.a : Int), .int .u64 (z.i.b : Int), .int .u64 (z.i.c : Int), .int .u64 (z.i.d : Int)] _ _ rfl rfl (rangeAt_of_blk hR9) Tryd.underlying59 rfl (info24.trans (Eq.trans (b := some 4) rfl rfl))) rfl ⟨rfl, below_new hbw7 hg9 (by omega) hbw7.size⟩
set_option maxRecDepth 100000 in
set_option maxHeartbeats 400000 in
theorem Inv_bad (g : Nat) (n sq x : P4) (f : Nat) (z : IS) (w : World) (hm : Blk w g 89 (modCells n sq f)) (md : Md n sq f) (hx : x.ok) (hz : Hid (z = isTo n x 512)) (h : z.o ≠ oneP) :
    Calls Tryd.prog 55 #[.pointer (some ⟨g, 0, none⟩), .agg #[.int .u64 (x.a : Int), .int .u64 (x.b : Int), .int .u64 (x.c : Int), .int .u64 (x.d : Int)]] w fun e w' => e = .returned (.tuple #[.agg #[.int .u64 0, .int .u64 0, .int .u64 0, .int .u64 0], .int .i64 1]) ∧ Below w.heap.size w w' := by
  go_enter Tryd.func55, Tryd.ntmps55
  go_wp2_with fail
  have hX : Blk ((w.alloc (.cells #[.int .u64 (x.a : Int), .int .u64 (x.b : Int), .int .u64 (x.c : Int), .int .u64 (x.d : Int)] 59)).alloc (.cells #[.int .u64 0, .int .u64 0, .int .u64 0, .int .u64 0] 59)) (w.heap.size) 59 [.int .u64 (x.a : Int), .int .u64 (x.b : Int), .int .u64 (x.c : Int), .int .u64 (x.d : Int)] := (Blk.new_of w _ _ _ rfl).alloc _
  have hR : Blk ((w.alloc (.cells #[.int .u64 (x.a : Int), .int .u64 (x.b : Int), .int .u64 (x.c : Int), .int .u64 (x.d : Int)] 59)).alloc (.cells #[.int .u64 0, .int .u64 0, .int .u64 0, .int .u64 0] 59)) (w.heap.size + 1) 59 [.int .u64 0, .int .u64 0, .int .u64 0, .int .u64 0] := Blk.new2_of w _ _ _ _ rfl
  have hM := (hm.alloc (.cells #[.int .u64 (x.a : Int), .int .u64 (x.b : Int), .int .u64 (x.c : Int), .int .u64 (x.d : Int)] 59)).alloc (.cells #[.int .u64 0, .int .u64 0, .int .u64 0, .int .u64 0] 59)
  have hb0 := fresh_two w (.cells #[.int .u64 (x.a : Int), .int .u64 (x.b : Int), .int .u64 (x.c : Int), .int .u64 (x.d : Int)] 59) (.cells #[.int .u64 0, .int .u64 0, .int .u64 0, .int .u64 0] 59)
  generalize (w.alloc (.cells #[.int .u64 (x.a : Int), .int .u64 (x.b : Int), .int .u64 (x.c : Int), .int .u64 (x.d : Int)] 59)).alloc (.cells #[.int .u64 0, .int .u64 0, .int .u64 0, .int .u64 0] 59) = w1 at *
  have lhX := hX.lt
  have lhR := hR.lt
  have lM := hM.lt
  refine (empty_any g n sq f _ hM (by have := md.big; omega)).mono ?_
  rintro e wz ⟨rfl, rfl⟩
  obtain ⟨x0, x1, x2, x3⟩ := hX.four
  go_wp2_with (first
    | (go_at_call 60; refine (parts_any x _).mono ?_; rintro e w3 ⟨rfl, hb3⟩; have hR3 := hR.below hb3 lhR; have hM3 := hM.below hb3 lM; have hbw3 := hb0.trans (hb3.mono hb0.size); clear hb3 x0 x1 x2 x3)
    | (go_at_call 70; refine (inverse_bad g n sq x f z _ hM3 md.ok hx hz).mono ?_; rintro e w5 ⟨rfl, hb5⟩; have hR5 := hR3.below hb5 hR3.lt; have hbw5 := hbw3.trans (hb5.mono hbw3.size); clear hb5)
    | ((with_reducible refine (?_ : wpList _ _ _ (Oper.mk none (.store 59 (.tmp 4) _) _ _ _ _ :: _) _ _)); go_loud (refine wpList_store_blk rfl 59 (.tmp 4) (.tmp 21) rfl rfl (w.heap.size + 1) [.int .u64 0, .int .u64 0, .int .u64 0, .int .u64 0] rfl rfl 59 _ ((hR5.alloc _).alloc _) info24 (Eq.trans (b := 4) rfl rfl) (by simp [Value.oneCell']) ?_); intro w9 hR9 hg9))
  all_goals first
    | (exfalso; exact h (P4.ext4 (show z.o.a = 1 by omega) (show z.o.b = 0 by omega) (show z.o.c = 0 by omega) (show z.o.d = 0 by omega)))
    | (refine bodyPost_ret (results_row_slot rfl _ _ (w.heap.size + 1) 0 [.int .u64 0, .int .u64 0, .int .u64 0, .int .u64 0] _ _ rfl rfl (rangeAt_of_blk hR9) Tryd.underlying59 rfl (info24.trans (Eq.trans (b := some 4) rfl rfl))) rfl ⟨rfl, below_new ((hbw5.alloc hbw5.size _).alloc (by have := hbw5.size; simp; omega) _) hg9 (by omega) (by have := hbw5.size; simp; omega)⟩)


end Go.Proofs.YtnkikhnllnbhfaaDoor
