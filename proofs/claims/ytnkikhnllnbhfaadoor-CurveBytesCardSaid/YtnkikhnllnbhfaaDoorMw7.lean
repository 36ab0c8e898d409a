/-
  Mw7.
-/
import Derived.Test.YtnkikhnllnbhfaaDoorMw6
import Derived.Deep.DeepCutAuto
import Derived.Deep.RegionHeld
namespace Go.Proofs.YtnkikhnllnbhfaaDoor
open Go.RowKit
def odd1 (x : P4) : Nat := x.a % 2
theorem odd1_le (x : P4) : odd1 x ≤ 1 := by unfold odd1; omega
structure IS where
  r : P4
  o : P4
  f : P4
  i : P4
def isSwap (z : IS) : Nat := odd1 z.r * minusC z.r z.o
theorem isSwap_le (z : IS) : isSwap z ≤ 1 := Nat.mul_le_mul (odd1_le _) (minusC_le _ _)
def isOddN (z : IS) : P4 := chooseP (isSwap z) z.r z.o
def isRestN (z : IS) : P4 := chooseP (isSwap z) z.o z.r
def isFacN (z : IS) : P4 := chooseP (isSwap z) z.i z.f
def isInvN (z : IS) : P4 := chooseP (isSwap z) z.f z.i
def isLess (z : IS) : P4 := minusP (isRestN z) (chooseP (odd1 z.r) (isOddN z) zeroP)
def isDiff (n : P4) (z : IS) : P4 := diffP n (isFacN z) (chooseP (odd1 z.r) (isInvN z) zeroP)
def isStep (n : P4) (z : IS) : IS := ⟨halfP (isLess z) 0, isOddN z, hlfP n (isDiff n z), isInvN z⟩
structure IS.ok (z : IS) : Prop where
  r : z.r.ok
  o : z.o.ok
  f : z.f.ok
  i : z.i.ok
theorem isLess_ok (z : IS) : (isLess z).ok := by unfold isLess; exact minusP_ok _ _
theorem isOddN_ok {z : IS} (h : z.ok) : (isOddN z).ok := by unfold isOddN; exact chooseP_ok h.r h.o
theorem isRestN_ok {z : IS} (h : z.ok) : (isRestN z).ok := by unfold isRestN; exact chooseP_ok h.o h.r
theorem isInvN_ok {z : IS} (h : z.ok) : (isInvN z).ok := by unfold isInvN; exact chooseP_ok h.f h.i
theorem isFacN_ok {z : IS} (h : z.ok) : (isFacN z).ok := by unfold isFacN; exact chooseP_ok h.i h.f
theorem isDiff_ok (n : P4) (z : IS) : (isDiff n z).ok := by unfold isDiff; exact diffP_ok _ _ _
theorem IS.mk_ok {a b c d : P4} (h1 : a.ok) (h2 : b.ok) (h3 : c.ok) (h4 : d.ok) : (IS.mk a b c d).ok := ⟨h1, h2, h3, h4⟩
theorem isStep_ok (n : P4) {z : IS} (h : z.ok) : (isStep n z).ok := by
  have h1 := halfP_ok (isLess_ok z) 0
  have h2 := isOddN_ok h
  have h3 := hlfP_ok n (isDiff n z)
  have h4 := isInvN_ok h
  unfold isStep
  exact IS.mk_ok h1 h2 h3 h4
def isTo (n x : P4) : Nat → IS
  | 0 => ⟨x, n, oneP, zeroP⟩
  | k + 1 => isStep n (isTo n x k)
theorem isTo_ok {n x : P4} (hn : n.ok) (hx : x.ok) : ∀ k, (isTo n x k).ok
  | 0 => ⟨hx, hn, oneP_ok, zeroP_ok⟩
  | k + 1 => isStep_ok n (isTo_ok hn hx k)
theorem bits_andb (a b : Nat) (ha : a ≤ 1) (hb : b ≤ 1) : bits .and .u64 (a : Int) (b : Int) = ((a * b : Nat) : Int) := by
  rw [u64_and_nat a b (by omega) (by omega)]
  obtain rfl | rfl : a = 0 ∨ a = 1 := by omega
  · simp
  · obtain rfl | rfl : b = 0 ∨ b = 1 := by omega
    · rfl
    · rfl
theorem isTo_succ (n x : P4) (k : Nat) : isTo n x (k + 1) = isStep n (isTo n x k) := rfl
theorem choose_rest (z : IS) (w : World) (h : z.ok) : Calls Tryd.prog 77 #[.int .u64 (isSwap z : Int), .agg #[.int .u64 (z.o.a : Int), .int .u64 (z.o.b : Int), .int .u64 (z.o.c : Int), .int .u64 (z.o.d : Int)], .agg #[.int .u64 (z.r.a : Int), .int .u64 (z.r.b : Int), .int .u64 (z.r.c : Int), .int .u64 (z.r.d : Int)]] w fun e w' => e = .returned (.agg #[.int .u64 ((isRestN z).a : Int), .int .u64 ((isRestN z).b : Int), .int .u64 ((isRestN z).c : Int), .int .u64 ((isRestN z).d : Int)]) ∧ Below w.heap.size w w' := choose_any (isSwap z) z.o z.r w (isSwap_le z) h.o h.r
theorem choose_odd (z : IS) (w : World) (h : z.ok) : Calls Tryd.prog 77 #[.int .u64 (isSwap z : Int), .agg #[.int .u64 (z.r.a : Int), .int .u64 (z.r.b : Int), .int .u64 (z.r.c : Int), .int .u64 (z.r.d : Int)], .agg #[.int .u64 (z.o.a : Int), .int .u64 (z.o.b : Int), .int .u64 (z.o.c : Int), .int .u64 (z.o.d : Int)]] w fun e w' => e = .returned (.agg #[.int .u64 ((isOddN z).a : Int), .int .u64 ((isOddN z).b : Int), .int .u64 ((isOddN z).c : Int), .int .u64 ((isOddN z).d : Int)]) ∧ Below w.heap.size w w' := choose_any (isSwap z) z.r z.o w (isSwap_le z) h.r h.o
theorem choose_fac (z : IS) (w : World) (h : z.ok) : Calls Tryd.prog 77 #[.int .u64 (isSwap z : Int), .agg #[.int .u64 (z.i.a : Int), .int .u64 (z.i.b : Int), .int .u64 (z.i.c : Int), .int .u64 (z.i.d : Int)], .agg #[.int .u64 (z.f.a : Int), .int .u64 (z.f.b : Int), .int .u64 (z.f.c : Int), .int .u64 (z.f.d : Int)]] w fun e w' => e = .returned (.agg #[.int .u64 ((isFacN z).a : Int), .int .u64 ((isFacN z).b : Int), .int .u64 ((isFacN z).c : Int), .int .u64 ((isFacN z).d : Int)]) ∧ Below w.heap.size w w' := choose_any (isSwap z) z.i z.f w (isSwap_le z) h.i h.f
theorem choose_inv (z : IS) (w : World) (h : z.ok) : Calls Tryd.prog 77 #[.int .u64 (isSwap z : Int), .agg #[.int .u64 (z.f.a : Int), .int .u64 (z.f.b : Int), .int .u64 (z.f.c : Int), .int .u64 (z.f.d : Int)], .agg #[.int .u64 (z.i.a : Int), .int .u64 (z.i.b : Int), .int .u64 (z.i.c : Int), .int .u64 (z.i.d : Int)]] w fun e w' => e = .returned (.agg #[.int .u64 ((isInvN z).a : Int), .int .u64 ((isInvN z).b : Int), .int .u64 ((isInvN z).c : Int), .int .u64 ((isInvN z).d : Int)]) ∧ Below w.heap.size w w' := choose_any (isSwap z) z.f z.i w (isSwap_le z) h.f h.i
theorem minus_less (z : IS) (w : World) : Calls Tryd.prog 73 #[.agg #[.int .u64 ((isRestN z).a : Int), .int .u64 ((isRestN z).b : Int), .int .u64 ((isRestN z).c : Int), .int .u64 ((isRestN z).d : Int)], .agg #[.int .u64 ((chooseP (odd1 z.r) (isOddN z) zeroP).a : Int), .int .u64 ((chooseP (odd1 z.r) (isOddN z) zeroP).b : Int), .int .u64 ((chooseP (odd1 z.r) (isOddN z) zeroP).c : Int), .int .u64 ((chooseP (odd1 z.r) (isOddN z) zeroP).d : Int)]] w fun e w' => e = .returned (.tuple #[.agg #[.int .u64 ((isLess z).a : Int), .int .u64 ((isLess z).b : Int), .int .u64 ((isLess z).c : Int), .int .u64 ((isLess z).d : Int)], .int .u64 (minusC (isRestN z) (chooseP (odd1 z.r) (isOddN z) zeroP) : Int)]) ∧ Below w.heap.size w w' := minus_any (isRestN z) (chooseP (odd1 z.r) (isOddN z) zeroP) w
theorem half_less (z : IS) (w : World) : Calls Tryd.prog 78 #[.agg #[.int .u64 ((isLess z).a : Int), .int .u64 ((isLess z).b : Int), .int .u64 ((isLess z).c : Int), .int .u64 ((isLess z).d : Int)], .int .u64 0] w fun e w' => e = .returned (.agg #[.int .u64 ((halfP (isLess z) 0).a : Int), .int .u64 ((halfP (isLess z) 0).b : Int), .int .u64 ((halfP (isLess z) 0).c : Int), .int .u64 ((halfP (isLess z) 0).d : Int)]) ∧ Below w.heap.size w w' := half_any (isLess z) 0 w (isLess_ok z) (by decide)
theorem diff_fac (g : Nat) (n sq : P4) (f : Nat) (z : IS) (w : World) (hm : Blk w g 89 (modCells n sq f)) (hn : n.ok) : Calls Tryd.prog 69 #[.pointer (some ⟨g, 0, none⟩), .agg #[.int .u64 ((isFacN z).a : Int), .int .u64 ((isFacN z).b : Int), .int .u64 ((isFacN z).c : Int), .int .u64 ((isFacN z).d : Int)], .agg #[.int .u64 ((chooseP (odd1 z.r) (isInvN z) zeroP).a : Int), .int .u64 ((chooseP (odd1 z.r) (isInvN z) zeroP).b : Int), .int .u64 ((chooseP (odd1 z.r) (isInvN z) zeroP).c : Int), .int .u64 ((chooseP (odd1 z.r) (isInvN z) zeroP).d : Int)]] w fun e w' => e = .returned (.agg #[.int .u64 ((isDiff n z).a : Int), .int .u64 ((isDiff n z).b : Int), .int .u64 ((isDiff n z).c : Int), .int .u64 ((isDiff n z).d : Int)]) ∧ Below w.heap.size w w' := difference_any g n sq (isFacN z) (chooseP (odd1 z.r) (isInvN z) zeroP) f w hm hn
theorem rangeAt_of_blk {w : World} {g : Nat} {t : TypeId} {cs : List Value} (h : Blk w g t cs) : w.rangeAt g 0 cs := fun j v hv => by
  rw [Nat.zero_add, h.cell, hv]
theorem results_two {P : Program} {fn : Func} {p q : Tmp} {ty tz : TypeId} (h : fn.results = #[.cell p ty, .cell q tz]) (tmps : Array Value) (w : World) (g g' o o' : Nat) (cs cs' : List Value) (d d' : TypeDesc)
    (hp : tmps.getD p undef = .pointer (some ⟨g, o, none⟩)) (hq : tmps.getD q undef = .pointer (some ⟨g', o', none⟩)) (hc : w.rangeAt g o cs) (hc' : w.rangeAt g' o' cs')
    (hu : P.underlying ty = some d) (hd : d.isRow = true) (hi : (P.info? ty).map (·.size) = some cs.length)
    (hu' : P.underlying tz = some d') (hd' : d'.isRow = true) (hi' : (P.info? tz).map (·.size) = some cs'.length) :
    (results fn tmps).run P w = .ok (.tuple #[.agg cs.toArray, .agg cs'.toArray]) w := by
  have hp' : tmps[p]?.getD undef = .pointer (some ⟨g, o, none⟩) := by simpa using hp
  have hq' : tmps[q]?.getD undef = .pointer (some ⟨g', o', none⟩) := by simpa using hq
  simp [results, h, hp', hq', asAddr, run_loadVar_mid w g o ty cs d hc hu hd hi, run_loadVar_mid w g' o' tz cs' d' hc' hu' hd' hi']
theorem wp_store_blk {P : Program} {o : Oper} {a : Act} {w : World} {K : Act → World → Prop} {Q : Exit → Act → World → Prop} (ty : TypeId) (x y : Operand) (ho : o.op = .store ty x y)
    (g : Nat) (cells : List Value) (hx : a.eval x = .pointer (some ⟨g, 0, none⟩)) (hy : a.eval y = .agg cells.toArray)
    (t : TypeId) (old : List Value) (hg : Blk w g t old) (hi : (P.info? ty).map (·.size) = some cells.length)
    (hold : old.length = cells.length) (h1 : cells.toArray.all (·.oneCell') = true)
    (h : ∀ w', Blk w' g t cells → w.grownBy w' (some g) → K (a.put o.dst undef) w') : o.wp P a w K Q :=
  wp_store_row ty x y ho g cells.toArray hx hy t old.toArray hg (by simpa using hi) (by simpa using hold) h1 (h _ (hg.row _) (grown_setRow _ _ _))
structure InvN (w : World) (g g4 g5 g6 g7 g8 : Nat) : Prop where
  lg : g < w.heap.size
  l4 : w.heap.size ≤ g4
  l5 : w.heap.size ≤ g5
  l6 : w.heap.size ≤ g6
  l7 : w.heap.size ≤ g7
  l8 : w.heap.size ≤ g8
  n45 : g4 ≠ g5
  n46 : g4 ≠ g6
  n47 : g4 ≠ g7
  n48 : g4 ≠ g8
  n56 : g5 ≠ g6
  n57 : g5 ≠ g7
  n58 : g5 ≠ g8
  n67 : g6 ≠ g7
  n68 : g6 ≠ g8
  n78 : g7 ≠ g8
structure InvW (w wr : World) (g g4 g5 g6 g7 g8 : Nat) (n sq : P4) (f : Nat) (r o fa i d : P4) : Prop where
  hm : Blk wr g 89 (modCells n sq f)
  hi : Blk wr g4 85 [.int .u64 (i.a : Int), .int .u64 (i.b : Int), .int .u64 (i.c : Int), .int .u64 (i.d : Int)]
  hd : Blk wr g5 85 [.int .u64 (d.a : Int), .int .u64 (d.b : Int), .int .u64 (d.c : Int), .int .u64 (d.d : Int)]
  hr : Blk wr g6 85 [.int .u64 (r.a : Int), .int .u64 (r.b : Int), .int .u64 (r.c : Int), .int .u64 (r.d : Int)]
  ho : Blk wr g7 85 [.int .u64 (o.a : Int), .int .u64 (o.b : Int), .int .u64 (o.c : Int), .int .u64 (o.d : Int)]
  hf : Blk wr g8 85 [.int .u64 (fa.a : Int), .int .u64 (fa.b : Int), .int .u64 (fa.c : Int), .int .u64 (fa.d : Int)]
  hb : Below w.heap.size w wr
section
variable {w wr wr' : World} {g g4 g5 g6 g7 g8 : Nat} {n sq : P4} {f : Nat} {r o fa i d v : P4}
theorem InvW.below (h : InvW w wr g g4 g5 g6 g7 g8 n sq f r o fa i d) (hb : Below wr.heap.size wr wr') : InvW w wr' g g4 g5 g6 g7 g8 n sq f r o fa i d :=
  ⟨h.hm.below hb h.hm.lt, h.hi.below hb h.hi.lt, h.hd.below hb h.hd.lt, h.hr.below hb h.hr.lt, h.ho.below hb h.ho.lt, h.hf.below hb h.hf.lt, h.hb.trans (hb.mono h.hb.size)⟩
theorem InvW.setR (h : InvW w wr g g4 g5 g6 g7 g8 n sq f r o fa i d) (N : InvN w g g4 g5 g6 g7 g8) (hg : wr.grownBy wr' (some g6)) (hB : Blk wr' g6 85 [.int .u64 (v.a : Int), .int .u64 (v.b : Int), .int .u64 (v.c : Int), .int .u64 (v.d : Int)]) : InvW w wr' g g4 g5 g6 g7 g8 n sq f v o fa i d :=
  ⟨h.hm.grown hg (by have := N.lg; have := N.l6; simp; omega), h.hi.grown hg (by simp [N.n46]), h.hd.grown hg (by simp [N.n56]), hB, h.ho.grown hg (by simp [N.n67.symm]), h.hf.grown hg (by simp [N.n68.symm]), below_new h.hb hg N.l6 h.hb.size⟩
theorem InvW.setO (h : InvW w wr g g4 g5 g6 g7 g8 n sq f r o fa i d) (N : InvN w g g4 g5 g6 g7 g8) (hg : wr.grownBy wr' (some g7)) (hB : Blk wr' g7 85 [.int .u64 (v.a : Int), .int .u64 (v.b : Int), .int .u64 (v.c : Int), .int .u64 (v.d : Int)]) : InvW w wr' g g4 g5 g6 g7 g8 n sq f r v fa i d :=
  ⟨h.hm.grown hg (by have := N.lg; have := N.l7; simp; omega), h.hi.grown hg (by simp [N.n47]), h.hd.grown hg (by simp [N.n57]), h.hr.grown hg (by simp [N.n67]), hB, h.hf.grown hg (by simp [N.n78.symm]), below_new h.hb hg N.l7 h.hb.size⟩
theorem InvW.setF (h : InvW w wr g g4 g5 g6 g7 g8 n sq f r o fa i d) (N : InvN w g g4 g5 g6 g7 g8) (hg : wr.grownBy wr' (some g8)) (hB : Blk wr' g8 85 [.int .u64 (v.a : Int), .int .u64 (v.b : Int), .int .u64 (v.c : Int), .int .u64 (v.d : Int)]) : InvW w wr' g g4 g5 g6 g7 g8 n sq f r o v i d :=
  ⟨h.hm.grown hg (by have := N.lg; have := N.l8; simp; omega), h.hi.grown hg (by simp [N.n48]), h.hd.grown hg (by simp [N.n58]), h.hr.grown hg (by simp [N.n68]), h.ho.grown hg (by simp [N.n78]), hB, below_new h.hb hg N.l8 h.hb.size⟩
theorem InvW.setI (h : InvW w wr g g4 g5 g6 g7 g8 n sq f r o fa i d) (N : InvN w g g4 g5 g6 g7 g8) (hg : wr.grownBy wr' (some g4)) (hB : Blk wr' g4 85 [.int .u64 (v.a : Int), .int .u64 (v.b : Int), .int .u64 (v.c : Int), .int .u64 (v.d : Int)]) : InvW w wr' g g4 g5 g6 g7 g8 n sq f r o fa v d :=
  ⟨h.hm.grown hg (by have := N.lg; have := N.l4; simp; omega), hB, h.hd.grown hg (by simp [N.n45.symm]), h.hr.grown hg (by simp [N.n46.symm]), h.ho.grown hg (by simp [N.n47.symm]), h.hf.grown hg (by simp [N.n48.symm]), below_new h.hb hg N.l4 h.hb.size⟩
theorem InvW.setD (h : InvW w wr g g4 g5 g6 g7 g8 n sq f r o fa i d) (N : InvN w g g4 g5 g6 g7 g8) (hg : wr.grownBy wr' (some g5)) (hB : Blk wr' g5 85 [.int .u64 (v.a : Int), .int .u64 (v.b : Int), .int .u64 (v.c : Int), .int .u64 (v.d : Int)]) : InvW w wr' g g4 g5 g6 g7 g8 n sq f r o fa i v :=
  ⟨h.hm.grown hg (by have := N.lg; have := N.l5; simp; omega), h.hi.grown hg (by simp [N.n45]), hB, h.hr.grown hg (by simp [N.n56.symm]), h.ho.grown hg (by simp [N.n57.symm]), h.hf.grown hg (by simp [N.n58.symm]), below_new h.hb hg N.l5 h.hb.size⟩
end
set_option maxRecDepth 100000 in
set_option maxHeartbeats 2000000 in
theorem inverse_any (g : Nat) (n sq x : P4) (f : Nat) (w : World) (hm : Blk w g 89 (modCells n sq f)) (hn : n.ok) (hx : x.ok) :
    Calls Tryd.prog 70 #[.pointer (some ⟨g, 0, none⟩), .agg #[.int .u64 (x.a : Int), .int .u64 (x.b : Int), .int .u64 (x.c : Int), .int .u64 (x.d : Int)]] w fun e w' => e = .returned (.tuple #[.agg #[.int .u64 ((isTo n x 512).i.a : Int), .int .u64 ((isTo n x 512).i.b : Int), .int .u64 ((isTo n x 512).i.c : Int), .int .u64 ((isTo n x 512).i.d : Int)], .agg #[.int .u64 ((isTo n x 512).o.a : Int), .int .u64 ((isTo n x 512).o.b : Int), .int .u64 ((isTo n x 512).o.c : Int), .int .u64 ((isTo n x 512).o.d : Int)]]) ∧ Below w.heap.size w w' := by
  go_enter Tryd.func70, Tryd.ntmps70
  go_upto_region 1 with fail
  go_cut [6, 7] (fun v6 v7 wx => ∃ g6 g7, v6 = .pointer (some ⟨g6, 0, none⟩) ∧ v7 = .pointer (some ⟨g7, 0, none⟩) ∧ InvN w g (w.heap.size + 1) (w.heap.size + 1 + 1) g6 g7 (wx.heap.size) ∧ Blk wx g 89 (modCells n sq f) ∧ Blk wx (w.heap.size + 1) 85 [.int .u64 0, .int .u64 0, .int .u64 0, .int .u64 0] ∧ Blk wx (w.heap.size + 1 + 1) 85 [.int .u64 0, .int .u64 0, .int .u64 0, .int .u64 0] ∧ Blk wx g6 85 [.int .u64 (x.a : Int), .int .u64 (x.b : Int), .int .u64 (x.c : Int), .int .u64 (x.d : Int)] ∧ Blk wx g7 85 [.int .u64 (n.a : Int), .int .u64 (n.b : Int), .int .u64 (n.c : Int), .int .u64 (n.d : Int)] ∧ Below w.heap.size w wx)
  case first =>
    have hX : Blk (((w.alloc (.cells #[.int .u64 (x.a : Int), .int .u64 (x.b : Int), .int .u64 (x.c : Int), .int .u64 (x.d : Int)] 85)).alloc (.cells #[.int .u64 0, .int .u64 0, .int .u64 0, .int .u64 0] 85)).alloc (.cells #[.int .u64 0, .int .u64 0, .int .u64 0, .int .u64 0] 85)) w.heap.size 85 [.int .u64 (x.a : Int), .int .u64 (x.b : Int), .int .u64 (x.c : Int), .int .u64 (x.d : Int)] := ((Blk.new_of w _ _ _ rfl).alloc _).alloc _
    have hI : Blk (((w.alloc (.cells #[.int .u64 (x.a : Int), .int .u64 (x.b : Int), .int .u64 (x.c : Int), .int .u64 (x.d : Int)] 85)).alloc (.cells #[.int .u64 0, .int .u64 0, .int .u64 0, .int .u64 0] 85)).alloc (.cells #[.int .u64 0, .int .u64 0, .int .u64 0, .int .u64 0] 85)) (w.heap.size + 1) 85 [.int .u64 0, .int .u64 0, .int .u64 0, .int .u64 0] := (Blk.new2_of w _ _ _ _ rfl).alloc _
    have hD : Blk (((w.alloc (.cells #[.int .u64 (x.a : Int), .int .u64 (x.b : Int), .int .u64 (x.c : Int), .int .u64 (x.d : Int)] 85)).alloc (.cells #[.int .u64 0, .int .u64 0, .int .u64 0, .int .u64 0] 85)).alloc (.cells #[.int .u64 0, .int .u64 0, .int .u64 0, .int .u64 0] 85)) (w.heap.size + 1 + 1) 85 [.int .u64 0, .int .u64 0, .int .u64 0, .int .u64 0] := Blk.new3_of w _ _ _ _ _ rfl
    have hM := ((hm.alloc (.cells #[.int .u64 (x.a : Int), .int .u64 (x.b : Int), .int .u64 (x.c : Int), .int .u64 (x.d : Int)] 85)).alloc (.cells #[.int .u64 0, .int .u64 0, .int .u64 0, .int .u64 0] 85)).alloc (.cells #[.int .u64 0, .int .u64 0, .int .u64 0, .int .u64 0] 85)
    have hb0 := fresh_three w (.cells #[.int .u64 (x.a : Int), .int .u64 (x.b : Int), .int .u64 (x.c : Int), .int .u64 (x.d : Int)] 85) (.cells #[.int .u64 0, .int .u64 0, .int .u64 0, .int .u64 0] 85) (.cells #[.int .u64 0, .int .u64 0, .int .u64 0, .int .u64 0] 85)
    have hsz : (((w.alloc (.cells #[.int .u64 (x.a : Int), .int .u64 (x.b : Int), .int .u64 (x.c : Int), .int .u64 (x.d : Int)] 85)).alloc (.cells #[.int .u64 0, .int .u64 0, .int .u64 0, .int .u64 0] 85)).alloc (.cells #[.int .u64 0, .int .u64 0, .int .u64 0, .int .u64 0] 85)).heap.size = w.heap.size + 3 := by simp
    generalize ((w.alloc (.cells #[.int .u64 (x.a : Int), .int .u64 (x.b : Int), .int .u64 (x.c : Int), .int .u64 (x.d : Int)] 85)).alloc (.cells #[.int .u64 0, .int .u64 0, .int .u64 0, .int .u64 0] 85)).alloc (.cells #[.int .u64 0, .int .u64 0, .int .u64 0, .int .u64 0] 85) = w1 at *
    have HSZ := Lib.hid hsz
    clear hsz
    have hx4 := fun (V : World) (h : Below w1.heap.size w1 V) => (hX.below h hX.lt).four
    have hm9 := fun (V : World) (h : Below w1.heap.size w1 V) => (hM.below h hM.lt).mod
    refine wp_region_held_drew (S := fun W => Below w1.heap.size w1 W) (by kernel_rfl) (by exact below_drewN (Below.refl _ _) 1) (fun hHeld => ?_)
    refine wpAnyH_take (i := 0) (oi := ⟨_, _, _, _, _, _⟩) (v := ?_) rfl (by kernel_rfl) (by kernel_rfl) (by kernel_rfl) (fun _ _ _ h => h) (Or.inl ⟨by rfl, ?_⟩) hHeld ?_
    rotate_left 1
    · (intro w hSw; have q1 := hx4 w hSw; have q2 := hm9 w hSw; go_simp; try with_reducible rfl)
    try simp only [Act.put, List.setIfInBounds_toArray, List.set_cons_zero, List.set_cons_succ]
    refine wpAnyH_take (i := 1) (oi := ⟨_, _, _, _, _, _⟩) (v := ?_) rfl (by kernel_rfl) (by kernel_rfl) (by kernel_rfl) (fun _ _ _ h => h) (Or.inl ⟨by rfl, ?_⟩) hHeld ?_
    rotate_left 1
    · (intro w hSw; have q1 := hx4 w hSw; have q2 := hm9 w hSw; go_simp; try with_reducible rfl)
    try simp only [Act.put, List.setIfInBounds_toArray, List.set_cons_zero, List.set_cons_succ]
    refine wpAnyH_take (i := 2) (oi := ⟨_, _, _, _, _, _⟩) (v := ?_) rfl (by kernel_rfl) (by kernel_rfl) (by kernel_rfl) (fun _ _ _ h => h) (Or.inl ⟨by rfl, ?_⟩) hHeld ?_
    rotate_left 1
    · (intro w hSw; have q1 := hx4 w hSw; have q2 := hm9 w hSw; go_simp; try with_reducible rfl)
    try simp only [Act.put, List.setIfInBounds_toArray, List.set_cons_zero, List.set_cons_succ]
    refine wpAnyH_take (i := 3) (oi := ⟨_, _, _, _, _, _⟩) (v := ?_) rfl (by kernel_rfl) (by kernel_rfl) (by kernel_rfl) (fun _ _ _ h => h) (Or.inl ⟨by rfl, ?_⟩) hHeld ?_
    rotate_left 1
    · (intro w hSw; have q1 := hx4 w hSw; have q2 := hm9 w hSw; go_simp; try with_reducible rfl)
    try simp only [Act.put, List.setIfInBounds_toArray, List.set_cons_zero, List.set_cons_succ]
    refine wpAnyH_take (i := 4) (oi := ⟨_, _, _, _, _, _⟩) (v := ?_) rfl (by kernel_rfl) (by kernel_rfl) (by kernel_rfl) (fun _ _ _ h => h) (Or.inl ⟨by rfl, ?_⟩) hHeld ?_
    rotate_left 1
    · (intro w hSw; have q1 := hx4 w hSw; have q2 := hm9 w hSw; go_simp; try with_reducible rfl)
    try simp only [Act.put, List.setIfInBounds_toArray, List.set_cons_zero, List.set_cons_succ]

    refine wpAnyH_ready (rs := [5, 6]) (by kernel_rfl) (by simp) ?_
    refine AllReadyH.cons (o := ⟨_, _, _, _, _, _⟩) rfl (fun K hK => ?_) (AllReadyH.cons (o := ⟨_, _, _, _, _, _⟩) rfl (fun K hK => ?_) AllReadyH.nil)
    · go_simp
      refine hK.out _ _ (hHeld.alloc hHeld.size (.cells #[.int .u64 0, .int .u64 0, .int .u64 0, .int .u64 0] 85)) (fun hHeld => ?_)
      clear hK K
      try simp only [Act.put, List.setIfInBounds_toArray, List.set_cons_zero, List.set_cons_succ]
      refine wpAnyH_ready (rs := [6]) (by kernel_rfl) (by simp) ?_
      refine AllReadyH.cons (o := ⟨_, _, _, _, _, _⟩) rfl (fun K hK => ?_) AllReadyH.nil
      go_simp
      refine hK.out _ _ (hHeld.alloc hHeld.size (.cells #[.int .u64 0, .int .u64 0, .int .u64 0, .int .u64 0] 85)) (fun hHeld => ?_)
      clear hK K
      try simp only [Act.put, List.setIfInBounds_toArray, List.set_cons_zero, List.set_cons_succ]
      have hA : Blk (((w1.alloc (.cells #[.int .u64 0, .int .u64 0, .int .u64 0, .int .u64 0] 85)).alloc (.cells #[.int .u64 0, .int .u64 0, .int .u64 0, .int .u64 0] 85)).drew) w1.heap.size 85 [.int .u64 0, .int .u64 0, .int .u64 0, .int .u64 0] := ((Blk.new_of w1 85 #[.int .u64 0, .int .u64 0, .int .u64 0, .int .u64 0] [.int .u64 0, .int .u64 0, .int .u64 0, .int .u64 0] rfl).alloc _).drew
      have hB : Blk (((w1.alloc (.cells #[.int .u64 0, .int .u64 0, .int .u64 0, .int .u64 0] 85)).alloc (.cells #[.int .u64 0, .int .u64 0, .int .u64 0, .int .u64 0] 85)).drew) (w1.heap.size + 1) 85 [.int .u64 0, .int .u64 0, .int .u64 0, .int .u64 0] := (Blk.new2_of w1 _ 85 #[.int .u64 0, .int .u64 0, .int .u64 0, .int .u64 0] [.int .u64 0, .int .u64 0, .int .u64 0, .int .u64 0] rfl).drew
      replace hHeld : Below w1.heap.size w1 (((w1.alloc (.cells #[.int .u64 0, .int .u64 0, .int .u64 0, .int .u64 0] 85)).alloc (.cells #[.int .u64 0, .int .u64 0, .int .u64 0, .int .u64 0] 85)).drew) := below_drewN (fresh_two w1 _ _) 1
      generalize ((w1.alloc (.cells #[.int .u64 0, .int .u64 0, .int .u64 0, .int .u64 0] 85)).alloc (.cells #[.int .u64 0, .int .u64 0, .int .u64 0, .int .u64 0] 85)).drew = w2 at *
      refine wpAnyH_ready (rs := [7]) (by kernel_rfl) (by simp) ?_
      refine AllReadyH.cons (o := ⟨_, _, _, _, _, _⟩) rfl (fun K hK => ?_) AllReadyH.nil
      rw [if_pos (by rfl)]
      refine wp_store_blk 85 (.tmp 6) (.tmp 13) rfl (w1.heap.size) [.int .u64 (x.a : Int), .int .u64 (x.b : Int), .int .u64 (x.c : Int), .int .u64 (x.d : Int)] rfl rfl 85 _ hA info50 (Eq.trans (b := 4) rfl rfl) (by simp [Value.oneCell']) ?_
      intro w3 hNhA hgw3
      replace hB := hB.grown hgw3 (by simp)
      refine hK.out _ _ (below_new hHeld hgw3 (by omega) hHeld.size) (fun hHeld => ?_)
      clear hK K hA hgw3
      rename Blk w3 (w1.heap.size) 85 [.int .u64 (x.a : Int), .int .u64 (x.b : Int), .int .u64 (x.c : Int), .int .u64 (x.d : Int)] => hA
      simp only [Act.put]
      refine wpAnyH_ready (rs := [8]) (by kernel_rfl) (by simp) ?_
      refine AllReadyH.cons (o := ⟨_, _, _, _, _, _⟩) rfl (fun K hK => ?_) AllReadyH.nil
      rw [if_pos (by rfl)]
      refine wp_store_blk 85 (.tmp 7) (.tmp 17) rfl (w1.heap.size + 1) [.int .u64 (n.a : Int), .int .u64 (n.b : Int), .int .u64 (n.c : Int), .int .u64 (n.d : Int)] rfl rfl 85 _ hB info50 (Eq.trans (b := 4) rfl rfl) (by simp [Value.oneCell']) ?_
      intro w4 hNhB hgw4
      replace hA := hA.grown hgw4 (by simp)
      refine hK.out _ _ (below_new hHeld hgw4 (by omega) hHeld.size) (fun hHeld => ?_)
      clear hK K hB hgw4
      rename Blk w4 (w1.heap.size + 1) 85 [.int .u64 (n.a : Int), .int .u64 (n.b : Int), .int .u64 (n.c : Int), .int .u64 (n.d : Int)] => hB
      simp only [Act.put]
      refine wpAnyH_done (by kernel_rfl) ?_ _
      go_wp2_with fail
      go_meet
      have hsz := HSZ.out
      exact ⟨_, _, rfl, rfl, ⟨by have := hm.lt; omega, by omega, by omega, by omega, by omega, by have := hHeld.size; omega, by omega, by omega, by omega, by have := hA.lt; have := hB.lt; omega, by omega, by omega, by have := hA.lt; have := hB.lt; omega, by omega, by have := hA.lt; have := hB.lt; omega, by have := hA.lt; have := hB.lt; omega⟩, hM.below hHeld hM.lt, hI.below hHeld hI.lt, hD.below hHeld hD.lt, hA, hB, hb0.trans (hHeld.mono hb0.size)⟩
    · go_simp
      refine hK.out _ _ (hHeld.alloc hHeld.size (.cells #[.int .u64 0, .int .u64 0, .int .u64 0, .int .u64 0] 85)) (fun hHeld => ?_)
      clear hK K
      try simp only [Act.put, List.setIfInBounds_toArray, List.set_cons_zero, List.set_cons_succ]
      refine wpAnyH_ready (rs := [5]) (by kernel_rfl) (by simp) ?_
      refine AllReadyH.cons (o := ⟨_, _, _, _, _, _⟩) rfl (fun K hK => ?_) AllReadyH.nil
      go_simp
      refine hK.out _ _ (hHeld.alloc hHeld.size (.cells #[.int .u64 0, .int .u64 0, .int .u64 0, .int .u64 0] 85)) (fun hHeld => ?_)
      clear hK K
      try simp only [Act.put, List.setIfInBounds_toArray, List.set_cons_zero, List.set_cons_succ]
      have hA : Blk (((w1.alloc (.cells #[.int .u64 0, .int .u64 0, .int .u64 0, .int .u64 0] 85)).alloc (.cells #[.int .u64 0, .int .u64 0, .int .u64 0, .int .u64 0] 85)).drew) w1.heap.size 85 [.int .u64 0, .int .u64 0, .int .u64 0, .int .u64 0] := ((Blk.new_of w1 85 #[.int .u64 0, .int .u64 0, .int .u64 0, .int .u64 0] [.int .u64 0, .int .u64 0, .int .u64 0, .int .u64 0] rfl).alloc _).drew
      have hB : Blk (((w1.alloc (.cells #[.int .u64 0, .int .u64 0, .int .u64 0, .int .u64 0] 85)).alloc (.cells #[.int .u64 0, .int .u64 0, .int .u64 0, .int .u64 0] 85)).drew) (w1.heap.size + 1) 85 [.int .u64 0, .int .u64 0, .int .u64 0, .int .u64 0] := (Blk.new2_of w1 _ 85 #[.int .u64 0, .int .u64 0, .int .u64 0, .int .u64 0] [.int .u64 0, .int .u64 0, .int .u64 0, .int .u64 0] rfl).drew
      replace hHeld : Below w1.heap.size w1 (((w1.alloc (.cells #[.int .u64 0, .int .u64 0, .int .u64 0, .int .u64 0] 85)).alloc (.cells #[.int .u64 0, .int .u64 0, .int .u64 0, .int .u64 0] 85)).drew) := below_drewN (fresh_two w1 _ _) 1
      generalize ((w1.alloc (.cells #[.int .u64 0, .int .u64 0, .int .u64 0, .int .u64 0] 85)).alloc (.cells #[.int .u64 0, .int .u64 0, .int .u64 0, .int .u64 0] 85)).drew = w2 at *
      refine wpAnyH_ready (rs := [7]) (by kernel_rfl) (by simp) ?_
      refine AllReadyH.cons (o := ⟨_, _, _, _, _, _⟩) rfl (fun K hK => ?_) AllReadyH.nil
      rw [if_pos (by rfl)]
      refine wp_store_blk 85 (.tmp 6) (.tmp 13) rfl (w1.heap.size + 1) [.int .u64 (x.a : Int), .int .u64 (x.b : Int), .int .u64 (x.c : Int), .int .u64 (x.d : Int)] rfl rfl 85 _ hB info50 (Eq.trans (b := 4) rfl rfl) (by simp [Value.oneCell']) ?_
      intro w3 hNhB hgw3
      replace hA := hA.grown hgw3 (by simp)
      refine hK.out _ _ (below_new hHeld hgw3 (by omega) hHeld.size) (fun hHeld => ?_)
      clear hK K hB hgw3
      rename Blk w3 (w1.heap.size + 1) 85 [.int .u64 (x.a : Int), .int .u64 (x.b : Int), .int .u64 (x.c : Int), .int .u64 (x.d : Int)] => hB
      simp only [Act.put]
      refine wpAnyH_ready (rs := [8]) (by kernel_rfl) (by simp) ?_
      refine AllReadyH.cons (o := ⟨_, _, _, _, _, _⟩) rfl (fun K hK => ?_) AllReadyH.nil
      rw [if_pos (by rfl)]
      refine wp_store_blk 85 (.tmp 7) (.tmp 17) rfl (w1.heap.size) [.int .u64 (n.a : Int), .int .u64 (n.b : Int), .int .u64 (n.c : Int), .int .u64 (n.d : Int)] rfl rfl 85 _ hA info50 (Eq.trans (b := 4) rfl rfl) (by simp [Value.oneCell']) ?_
      intro w4 hNhA hgw4
      replace hB := hB.grown hgw4 (by simp)
      refine hK.out _ _ (below_new hHeld hgw4 (by omega) hHeld.size) (fun hHeld => ?_)
      clear hK K hA hgw4
      rename Blk w4 (w1.heap.size) 85 [.int .u64 (n.a : Int), .int .u64 (n.b : Int), .int .u64 (n.c : Int), .int .u64 (n.d : Int)] => hA
      simp only [Act.put]
      refine wpAnyH_done (by kernel_rfl) ?_ _
      go_wp2_with fail
      go_meet
      have hsz := HSZ.out
      exact ⟨_, _, rfl, rfl, ⟨by have := hm.lt; omega, by omega, by omega, by omega, by omega, by have := hHeld.size; omega, by omega, by omega, by omega, by have := hA.lt; have := hB.lt; omega, by omega, by omega, by have := hA.lt; have := hB.lt; omega, by omega, by have := hA.lt; have := hB.lt; omega, by have := hA.lt; have := hB.lt; omega⟩, hM.below hHeld hM.lt, hI.below hHeld hI.lt, hD.below hHeld hD.lt, hB, hA, hb0.trans (hHeld.mono hb0.size)⟩
  case rest =>
    obtain ⟨g6, g7, rfl, rfl, N, hM, hI, hD, hR, hO, hb⟩ := hcut
    go_wp2
    have H0 : InvW w (wc.alloc (.cells #[.int .u64 1, .int .u64 0, .int .u64 0, .int .u64 0] 85)) g (w.heap.size + 1) (w.heap.size + 1 + 1) g6 g7 wc.heap.size n sq f x n oneP zeroP zeroP := ⟨hM.alloc _, hI.alloc _, hD.alloc _, hR.alloc _, hO.alloc _, Blk.new_of wc _ _ _ rfl, hb.alloc hb.size _⟩
    generalize wc.alloc (.cells #[.int .u64 1, .int .u64 0, .int .u64 0, .int .u64 0] 85) = w0 at *
    clear hM hI hD hR hO hb
    generalize wc.heap.size = g8 at *
    clear wc
    go_loopw [19] (fun i wr => ∃ (k : Nat) (z : IS), k ≤ 512 ∧ i = .int .i64 k ∧ Hid (z = isTo n x k) ∧ z.ok ∧ InvW w wr g (w.heap.size + 1) (w.heap.size + 1 + 1) g6 g7 g8 n sq f z.r z.o z.f z.i zeroP) (fun i _ => 512 - (intOf i).toNat)
    case atStart => exact ⟨0, isTo n x 0, by omega, rfl, Lib.hid rfl, isTo_ok hn hx 0, H0⟩
    case round =>
      obtain ⟨k, z, hk, rfl, HZ, zok, H⟩ := hrel
      clear H0
      by_cases hlt : k < 512
      · have hd2 : decide ((k : Int) < 512) = true := by simp; omega
        obtain ⟨r0, r1, r2, r3⟩ := H.hr.four
        obtain ⟨o0, o1, o2, o3⟩ := H.ho.four
        have hk1 : bits .and .u64 (z.r.a : Int) 1 = (odd1 z.r : Int) := bits_and1 z.r.a zok.r.a
        have hk2 : bits .and .u64 (odd1 z.r : Int) (minusC z.r z.o : Int) = (isSwap z : Int) := bits_andb _ _ (odd1_le _) (minusC_le _ _)
        go_wp2_with (go_at_call 73; refine (minus_any z.r z.o _).mono ?_; rintro e w1 ⟨rfl, hb1⟩; have H1 := H.below hb1; clear H hb1 r0 r1 r2 r3 o0 o1 o2 o3)
        refine wp_world (fun W => InvW w W g (w.heap.size + 1) (w.heap.size + 1 + 1) g6 g7 g8 n sq f z.r z.o z.f z.i zeroP) (H1.below (fresh_one _ _)) ?_
        clear H1
        rintro w2 H1
        have hr4 := fun (V : World) (h : Below w2.heap.size w2 V) => (H1.below h).hr.four
        have ho4 := fun (V : World) (h : Below w2.heap.size w2 V) => (H1.below h).ho.four
        have hm9 := fun (V : World) (h : Below w2.heap.size w2 V) => (H1.below h).hm.mod
        apply wp_region_once_tail (m := 8) (Z := []) (D := [[], [], [], [0, 1, 2], [], [], [], [0, 1, 2, 3, 4, 5, 6], [0, 1, 2, 3, 4, 5, 6, 7], [0, 1, 2, 3, 4, 5, 6, 7, 8]]) (J := [[], [], [], [0, 1, 2], [], [], [], [4, 5, 6]]) (Je := [3, 7]) (Rs := [Is _, Is _, Is _, Is _, Is _, Is _, Is _, Is _])
        · kernel_rfl
        · kernel_rfl
        · kernel_rfl
        · kernel_rfl
        · kernel_rfl
        · kernel_rfl
        · kernel_rfl
        · exact fun h => absurd rfl h
        · intro u
          simp only [List.take_succ_cons, List.take_zero, List.map_cons, List.map_nil, fillU, List.setIfInBounds_toArray, List.set_cons_zero, List.set_cons_succ, Nat.zero_add, Nat.reduceAdd]
          exact rfl
        · simp only [List.take_succ_cons, List.take_zero]
          refine ⟨fun u W hb hd K hK => ?_, ?_⟩
          · clear hd
            go_simp
            apply hK
            · simp only [Act.put, List.setIfInBounds_toArray, List.set_cons_zero, List.set_cons_succ]
              exact rfl
            · exact Below.refl _ _
            · exact IsOut
          refine ⟨fun u W hb hd K hK => ?_, ?_⟩
          · clear hd
            go_simp
            apply hK
            · simp only [Act.put, List.setIfInBounds_toArray, List.set_cons_zero, List.set_cons_succ]
              exact rfl
            · exact Below.refl _ _
            · exact IsOut
          refine ⟨fun u W hb hd K hK => ?_, ?_⟩
          · clear hd
            go_simp
            apply hK
            · simp only [Act.put, List.setIfInBounds_toArray, List.set_cons_zero, List.set_cons_succ]
              exact rfl
            · exact Below.refl _ _
            · exact IsOut
          refine ⟨fun u W hb hd K hK => ?_, ?_⟩
          · simp only [Facts, nthR, Is, and_true] at hd
            simp only [hd] at hK ⊢
            clear hd
            go_simp
            refine (choose_rest z W zok).mono ?_
            rintro e wy ⟨rfl, hby⟩
            exact hK _ _ _ rfl hby IsOut
          refine ⟨fun u W hb hd K hK => ?_, ?_⟩
          · clear hd
            go_simp
            apply hK
            · simp only [Act.put, List.setIfInBounds_toArray, List.set_cons_zero, List.set_cons_succ]
              exact rfl
            · exact Below.refl _ _
            · exact IsOut
          refine ⟨fun u W hb hd K hK => ?_, ?_⟩
          · clear hd
            go_simp
            apply hK
            · simp only [Act.put, List.setIfInBounds_toArray, List.set_cons_zero, List.set_cons_succ]
              exact rfl
            · exact Below.refl _ _
            · exact IsOut
          refine ⟨fun u W hb hd K hK => ?_, ?_⟩
          · clear hd
            go_simp
            apply hK
            · simp only [Act.put, List.setIfInBounds_toArray, List.set_cons_zero, List.set_cons_succ]
              exact rfl
            · exact Below.refl _ _
            · exact IsOut
          refine ⟨fun u W hb hd K hK => ?_, ?_⟩
          · simp only [Facts, nthR, Is, and_true] at hd
            simp only [hd] at hK ⊢
            clear hd
            go_simp
            refine (choose_odd z W zok).mono ?_
            rintro e wy ⟨rfl, hby⟩
            exact hK _ _ _ rfl hby IsOut
          exact trivial
        · skip
          exact trivial
        · exact (.is (.is (.is (.is (.is (.is (.is (.is .nil))))))))
        · intro u W hb hd
          simp only [List.drop_succ_cons, List.drop_zero]
          simp only [Facts, nthR, Is, and_true] at hd
          simp only [hd]
          replace H1 := H1.below hb
          clear hm9 hb hr4 ho4
          refine wpList_store_blk rfl 85 (.tmp 6) (.tmp 36) rfl rfl (g6) [.int .u64 ((isRestN z).a : Int), .int .u64 ((isRestN z).b : Int), .int .u64 ((isRestN z).c : Int), .int .u64 ((isRestN z).d : Int)] rfl rfl 85 _ H1.hr info50 (Eq.trans (b := 4) rfl rfl) (by simp [Value.oneCell']) ?_
          intro w2_0 hB hg
          replace H1 := H1.setR N hg hB
          clear hB hg
          refine wpList_store_blk rfl 85 (.tmp 7) (.tmp 40) rfl rfl (g7) [.int .u64 ((isOddN z).a : Int), .int .u64 ((isOddN z).b : Int), .int .u64 ((isOddN z).c : Int), .int .u64 ((isOddN z).d : Int)] rfl rfl 85 _ H1.ho info50 (Eq.trans (b := 4) rfl rfl) (by simp [Value.oneCell']) ?_
          intro w2_1 hB hg
          replace H1 := H1.setO N hg hB
          clear hB hg
          go_wp2
          have hf4 := fun (V : World) (h : Below w2_1.heap.size w2_1 V) => (H1.below h).hf.four
          have hi4 := fun (V : World) (h : Below w2_1.heap.size w2_1 V) => (H1.below h).hi.four
          have hm9 := fun (V : World) (h : Below w2_1.heap.size w2_1 V) => (H1.below h).hm.mod
          apply wp_region_once_tail (m := 8) (Z := []) (D := [[], [], [], [0, 1, 2], [], [], [], [0, 1, 2, 3, 4, 5, 6], [0, 1, 2, 3, 4, 5, 6, 7], [0, 1, 2, 3, 4, 5, 6, 7, 8]]) (J := [[], [], [], [0, 1, 2], [], [], [], [4, 5, 6]]) (Je := [3, 7]) (Rs := [Is _, Is _, Is _, Is _, Is _, Is _, Is _, Is _])
          · kernel_rfl
          · kernel_rfl
          · kernel_rfl
          · kernel_rfl
          · kernel_rfl
          · kernel_rfl
          · kernel_rfl
          · exact fun h => absurd rfl h
          · intro u
            simp only [List.take_succ_cons, List.take_zero, List.map_cons, List.map_nil, fillU, List.setIfInBounds_toArray, List.set_cons_zero, List.set_cons_succ, Nat.zero_add, Nat.reduceAdd]
            exact rfl
          · simp only [List.take_succ_cons, List.take_zero]
            refine ⟨fun u W hb hd K hK => ?_, ?_⟩
            · clear hd
              go_simp
              apply hK
              · simp only [Act.put, List.setIfInBounds_toArray, List.set_cons_zero, List.set_cons_succ]
                exact rfl
              · exact Below.refl _ _
              · exact IsOut
            refine ⟨fun u W hb hd K hK => ?_, ?_⟩
            · clear hd
              go_simp
              apply hK
              · simp only [Act.put, List.setIfInBounds_toArray, List.set_cons_zero, List.set_cons_succ]
                exact rfl
              · exact Below.refl _ _
              · exact IsOut
            refine ⟨fun u W hb hd K hK => ?_, ?_⟩
            · clear hd
              go_simp
              apply hK
              · simp only [Act.put, List.setIfInBounds_toArray, List.set_cons_zero, List.set_cons_succ]
                exact rfl
              · exact Below.refl _ _
              · exact IsOut
            refine ⟨fun u W hb hd K hK => ?_, ?_⟩
            · simp only [Facts, nthR, Is, and_true] at hd
              simp only [hd] at hK ⊢
              clear hd
              go_simp
              refine (choose_fac z W zok).mono ?_
              rintro e wy ⟨rfl, hby⟩
              exact hK _ _ _ rfl hby IsOut
            refine ⟨fun u W hb hd K hK => ?_, ?_⟩
            · clear hd
              go_simp
              apply hK
              · simp only [Act.put, List.setIfInBounds_toArray, List.set_cons_zero, List.set_cons_succ]
                exact rfl
              · exact Below.refl _ _
              · exact IsOut
            refine ⟨fun u W hb hd K hK => ?_, ?_⟩
            · clear hd
              go_simp
              apply hK
              · simp only [Act.put, List.setIfInBounds_toArray, List.set_cons_zero, List.set_cons_succ]
                exact rfl
              · exact Below.refl _ _
              · exact IsOut
            refine ⟨fun u W hb hd K hK => ?_, ?_⟩
            · clear hd
              go_simp
              apply hK
              · simp only [Act.put, List.setIfInBounds_toArray, List.set_cons_zero, List.set_cons_succ]
                exact rfl
              · exact Below.refl _ _
              · exact IsOut
            refine ⟨fun u W hb hd K hK => ?_, ?_⟩
            · simp only [Facts, nthR, Is, and_true] at hd
              simp only [hd] at hK ⊢
              clear hd
              go_simp
              refine (choose_inv z W zok).mono ?_
              rintro e wy ⟨rfl, hby⟩
              exact hK _ _ _ rfl hby IsOut
            exact trivial
          · skip
            exact trivial
          · exact (.is (.is (.is (.is (.is (.is (.is (.is .nil))))))))
          · intro u W hb hd
            simp only [List.drop_succ_cons, List.drop_zero]
            simp only [Facts, nthR, Is, and_true] at hd
            simp only [hd]
            replace H1 := H1.below hb
            clear hm9 hb hf4 hi4
            refine wpList_store_blk rfl 85 (.tmp 8) (.tmp 44) rfl rfl (g8) [.int .u64 ((isFacN z).a : Int), .int .u64 ((isFacN z).b : Int), .int .u64 ((isFacN z).c : Int), .int .u64 ((isFacN z).d : Int)] rfl rfl 85 _ H1.hf info50 (Eq.trans (b := 4) rfl rfl) (by simp [Value.oneCell']) ?_
            intro w2_1_0 hB hg
            replace H1 := H1.setF N hg hB
            clear hB hg
            refine wpList_store_blk rfl 85 (.tmp 4) (.tmp 48) rfl rfl (w.heap.size + 1) [.int .u64 ((isInvN z).a : Int), .int .u64 ((isInvN z).b : Int), .int .u64 ((isInvN z).c : Int), .int .u64 ((isInvN z).d : Int)] rfl rfl 85 _ H1.hi info50 (Eq.trans (b := 4) rfl rfl) (by simp [Value.oneCell']) ?_
            intro w2_1_1 hB hg
            replace H1 := H1.setI N hg hB
            clear hB hg
            go_wp2
            have hr4 := fun (V : World) (h : Below w2_1_1.heap.size w2_1_1 V) => (H1.below h).hr.four
            have ho4 := fun (V : World) (h : Below w2_1_1.heap.size w2_1_1 V) => (H1.below h).ho.four
            have hm9 := fun (V : World) (h : Below w2_1_1.heap.size w2_1_1 V) => (H1.below h).hm.mod
            refine wp_region_noPanic ?_
            apply wp_region_once_tail (m := 9) (Z := [8]) (D := [[], [], [], [], [1, 2, 3], [0, 1, 2, 3, 4], [0, 1, 2, 3, 4, 5], [0, 1, 2, 3, 4, 5, 6], [0, 1, 2, 3, 4, 5, 6], [0, 1, 2, 3, 4, 5, 6, 7]]) (J := [[], [], [], [], [1, 2, 3], [0, 4], [5], [6], [6]]) (Je := [7]) (Rs := [Is _, Is _, Is _, Is _, Is _, Is _, Is _, Is _, Is _])
            · kernel_rfl
            · kernel_rfl
            · kernel_rfl
            · kernel_rfl
            · kernel_rfl
            · kernel_rfl
            · kernel_rfl
            · exact fun _ _ _ _ _ _ h => h
            · intro u
              simp only [List.take_succ_cons, List.take_zero, List.map_cons, List.map_nil, fillU, List.setIfInBounds_toArray, List.set_cons_zero, List.set_cons_succ, Nat.zero_add, Nat.reduceAdd]
              exact rfl
            · simp only [List.take_succ_cons, List.take_zero]
              refine ⟨fun u W hb hd K hK => ?_, ?_⟩
              · clear hd
                go_simp
                apply hK
                · simp only [Act.put, List.setIfInBounds_toArray, List.set_cons_zero, List.set_cons_succ]
                  exact rfl
                · exact Below.refl _ _
                · exact IsOut
              refine ⟨fun u W hb hd K hK => ?_, ?_⟩
              · clear hd
                go_simp
                apply hK
                · simp only [Act.put, List.setIfInBounds_toArray, List.set_cons_zero, List.set_cons_succ]
                  exact rfl
                · exact Below.refl _ _
                · exact IsOut
              refine ⟨fun u W hb hd K hK => ?_, ?_⟩
              · clear hd
                go_simp
                apply hK
                · simp only [Act.put, List.setIfInBounds_toArray, List.set_cons_zero, List.set_cons_succ]
                  exact rfl
                · exact Below.refl _ _
                · exact IsOut
              refine ⟨fun u W hb hd K hK => ?_, ?_⟩
              · clear hd
                go_simp
                apply hK
                · simp only [Act.put, List.setIfInBounds_toArray, List.set_cons_zero, List.set_cons_succ]
                  exact rfl
                · exact Below.refl _ _
                · exact IsOut
              refine ⟨fun u W hb hd K hK => ?_, ?_⟩
              · simp only [Facts, nthR, Is, and_true] at hd
                simp only [hd] at hK ⊢
                clear hd
                go_simp
                refine (choose_any0 (odd1 z.r) (isOddN z) W (odd1_le z.r) (isOddN_ok zok)).mono ?_
                rintro e wy ⟨rfl, hby⟩
                exact hK _ _ _ rfl hby IsOut
              refine ⟨fun u W hb hd K hK => ?_, ?_⟩
              · simp only [Facts, nthR, Is, and_true] at hd
                simp only [hd] at hK ⊢
                clear hd
                go_simp
                refine (minus_less z W).mono ?_
                rintro e wy ⟨rfl, hby⟩
                exact hK _ _ _ rfl hby IsOut
              refine ⟨fun u W hb hd K hK => ?_, ?_⟩
              · simp only [Facts, nthR, Is, and_true] at hd
                simp only [hd] at hK ⊢
                clear hd
                go_simp
                apply hK
                · simp only [Act.put, List.setIfInBounds_toArray, List.set_cons_zero, List.set_cons_succ]
                  exact rfl
                · exact Below.refl _ _
                · exact IsOut
              refine ⟨fun u W hb hd K hK => ?_, ?_⟩
              · simp only [Facts, nthR, Is, and_true] at hd
                simp only [hd] at hK ⊢
                clear hd
                go_simp
                apply hK
                · simp only [Act.put, List.setIfInBounds_toArray, List.set_cons_zero, List.set_cons_succ]
                  exact rfl
                · exact Below.refl _ _
                · exact IsOut
              refine ⟨fun u W hb hd K hK => ?_, ?_⟩
              · simp only [Facts, nthR, Is, and_true] at hd
                simp only [hd] at hK ⊢
                clear hd
                go_simp
                apply hK
                · simp only [Act.put, List.setIfInBounds_toArray, List.set_cons_zero, List.set_cons_succ]
                  exact rfl
                · exact Below.refl _ _
                · exact IsOut
              exact trivial
            · skip
              refine ⟨fun o ho u W hb hd => ?_, ?_⟩
              · obtain rfl := Option.some.inj ho
                simp only [Facts, nthR, Is, and_true, List.getD_cons_succ, List.getD_cons_zero] at hd
                simp only [hd]
                clear hd
                exact ⟨_, .inl ⟨by rfl, fun w' => by go_simp⟩, IsOut (w := W)⟩
              exact trivial
            · exact (.is (.is (.is (.is (.is (.is (.is (.is (.is .nil)))))))))
            · intro u W hb hd
              simp only [List.drop_succ_cons, List.drop_zero]
              simp only [Facts, nthR, Is, and_true] at hd
              simp only [hd]
              clear hd
              replace H1 := H1.below hb
              clear hm9 hb hr4 ho4
              refine wpList_store_blk rfl 85 (.tmp 6) (.tmp 56) rfl rfl (g6) [.int .u64 ((isLess z).a : Int), .int .u64 ((isLess z).b : Int), .int .u64 ((isLess z).c : Int), .int .u64 ((isLess z).d : Int)] rfl rfl 85 _ H1.hr info50 (Eq.trans (b := 4) rfl rfl) (by simp [Value.oneCell']) ?_
              intro w2_1_1_0 hB hg
              replace H1 := H1.setR N hg hB
              clear hB hg
              go_wp2
              refine NoPanic.normal ?_
              go_wp2
              have hf4 := fun (V : World) (h : Below w2_1_1_0.heap.size w2_1_1_0 V) => (H1.below h).hf.four
              have hi4 := fun (V : World) (h : Below w2_1_1_0.heap.size w2_1_1_0 V) => (H1.below h).hi.four
              have hm9 := fun (V : World) (h : Below w2_1_1_0.heap.size w2_1_1_0 V) => (H1.below h).hm.mod
              apply wp_region_once_tail (m := 7) (Z := []) (D := [[], [], [], [], [], [2, 3, 4], [0, 1, 2, 3, 4, 5], [0, 1, 2, 3, 4, 5, 6]]) (J := [[], [], [], [], [], [2, 3, 4], [0, 1, 5]]) (Je := [6]) (Rs := [Is _, Is _, Is _, Is _, Is _, Is _, Is _])
              · kernel_rfl
              · kernel_rfl
              · kernel_rfl
              · kernel_rfl
              · kernel_rfl
              · kernel_rfl
              · kernel_rfl
              · exact fun h => absurd rfl h
              · intro u
                simp only [List.take_succ_cons, List.take_zero, List.map_cons, List.map_nil, fillU, List.setIfInBounds_toArray, List.set_cons_zero, List.set_cons_succ, Nat.zero_add, Nat.reduceAdd]
                exact rfl
              · simp only [List.take_succ_cons, List.take_zero]
                refine ⟨fun u W hb hd K hK => ?_, ?_⟩
                · clear hd
                  go_simp
                  apply hK
                  · simp only [Act.put, List.setIfInBounds_toArray, List.set_cons_zero, List.set_cons_succ]
                    exact rfl
                  · exact Below.refl _ _
                  · exact IsOut
                refine ⟨fun u W hb hd K hK => ?_, ?_⟩
                · clear hd
                  go_simp
                  apply hK
                  · simp only [Act.put, List.setIfInBounds_toArray, List.set_cons_zero, List.set_cons_succ]
                    exact rfl
                  · exact Below.refl _ _
                  · exact IsOut
                refine ⟨fun u W hb hd K hK => ?_, ?_⟩
                · clear hd
                  go_simp
                  apply hK
                  · simp only [Act.put, List.setIfInBounds_toArray, List.set_cons_zero, List.set_cons_succ]
                    exact rfl
                  · exact Below.refl _ _
                  · exact IsOut
                refine ⟨fun u W hb hd K hK => ?_, ?_⟩
                · clear hd
                  go_simp
                  apply hK
                  · simp only [Act.put, List.setIfInBounds_toArray, List.set_cons_zero, List.set_cons_succ]
                    exact rfl
                  · exact Below.refl _ _
                  · exact IsOut
                refine ⟨fun u W hb hd K hK => ?_, ?_⟩
                · clear hd
                  go_simp
                  apply hK
                  · simp only [Act.put, List.setIfInBounds_toArray, List.set_cons_zero, List.set_cons_succ]
                    exact rfl
                  · exact Below.refl _ _
                  · exact IsOut
                refine ⟨fun u W hb hd K hK => ?_, ?_⟩
                · simp only [Facts, nthR, Is, and_true] at hd
                  simp only [hd] at hK ⊢
                  clear hd
                  go_simp
                  refine (choose_any0 (odd1 z.r) (isInvN z) W (odd1_le z.r) (isInvN_ok zok)).mono ?_
                  rintro e wy ⟨rfl, hby⟩
                  exact hK _ _ _ rfl hby IsOut
                refine ⟨fun u W hb hd K hK => ?_, ?_⟩
                · simp only [Facts, nthR, Is, and_true] at hd
                  simp only [hd] at hK ⊢
                  clear hd
                  go_simp
                  refine (diff_fac g n sq f z W (H1.below hb).hm hn).mono ?_
                  rintro e wy ⟨rfl, hby⟩
                  exact hK _ _ _ rfl hby IsOut
                exact trivial
              · skip
                exact trivial
              · exact (.is (.is (.is (.is (.is (.is (.is .nil)))))))
              · intro u W hb hd
                simp only [List.drop_succ_cons, List.drop_zero]
                simp only [Facts, nthR, Is, and_true] at hd
                simp only [hd]
                replace H1 := H1.below hb
                clear hm9 hb hf4 hi4
                refine wpList_store_blk rfl 85 (.tmp 8) (.tmp 64) rfl rfl (g8) [.int .u64 ((isDiff n z).a : Int), .int .u64 ((isDiff n z).b : Int), .int .u64 ((isDiff n z).c : Int), .int .u64 ((isDiff n z).d : Int)] rfl rfl 85 _ H1.hf info50 (Eq.trans (b := 4) rfl rfl) (by simp [Value.oneCell']) ?_
                intro w2_1_1_0_0 hB hg
                replace H1 := H1.setF N hg hB
                clear hB hg
                go_wp2
                have hr4 := fun (V : World) (h : Below w2_1_1_0_0.heap.size w2_1_1_0_0 V) => (H1.below h).hr.four
                have hf4 := fun (V : World) (h : Below w2_1_1_0_0.heap.size w2_1_1_0_0 V) => (H1.below h).hf.four
                have hm9 := fun (V : World) (h : Below w2_1_1_0_0.heap.size w2_1_1_0_0 V) => (H1.below h).hm.mod
                apply wp_region_once_tail (m := 5) (Z := []) (D := [[], [0], [], [], [0, 1, 2, 3], [0, 1, 2, 3, 4], [0, 1, 2, 3, 4, 5]]) (J := [[], [0], [], [], [2, 3]]) (Je := [1, 4]) (Rs := [Is _, Is _, Is _, Is _, Is _])
                · kernel_rfl
                · kernel_rfl
                · kernel_rfl
                · kernel_rfl
                · kernel_rfl
                · kernel_rfl
                · kernel_rfl
                · exact fun h => absurd rfl h
                · intro u
                  simp only [List.take_succ_cons, List.take_zero, List.map_cons, List.map_nil, fillU, List.setIfInBounds_toArray, List.set_cons_zero, List.set_cons_succ, Nat.zero_add, Nat.reduceAdd]
                  exact rfl
                · simp only [List.take_succ_cons, List.take_zero]
                  refine ⟨fun u W hb hd K hK => ?_, ?_⟩
                  · clear hd
                    go_simp
                    apply hK
                    · simp only [Act.put, List.setIfInBounds_toArray, List.set_cons_zero, List.set_cons_succ]
                      exact rfl
                    · exact Below.refl _ _
                    · exact IsOut
                  refine ⟨fun u W hb hd K hK => ?_, ?_⟩
                  · simp only [Facts, nthR, Is, and_true] at hd
                    simp only [hd] at hK ⊢
                    clear hd
                    go_simp
                    refine (half_less z W).mono ?_
                    rintro e wy ⟨rfl, hby⟩
                    exact hK _ _ _ rfl hby IsOut
                  refine ⟨fun u W hb hd K hK => ?_, ?_⟩
                  · clear hd
                    go_simp
                    apply hK
                    · simp only [Act.put, List.setIfInBounds_toArray, List.set_cons_zero, List.set_cons_succ]
                      exact rfl
                    · exact Below.refl _ _
                    · exact IsOut
                  refine ⟨fun u W hb hd K hK => ?_, ?_⟩
                  · clear hd
                    go_simp
                    apply hK
                    · simp only [Act.put, List.setIfInBounds_toArray, List.set_cons_zero, List.set_cons_succ]
                      exact rfl
                    · exact Below.refl _ _
                    · exact IsOut
                  refine ⟨fun u W hb hd K hK => ?_, ?_⟩
                  · simp only [Facts, nthR, Is, and_true] at hd
                    simp only [hd] at hK ⊢
                    clear hd
                    go_simp
                    refine (mhalf_any g n sq (isDiff n z) f W (H1.below hb).hm hn (isDiff_ok n z)).mono ?_
                    rintro e wy ⟨rfl, hby⟩
                    exact hK _ _ _ rfl hby IsOut
                  exact trivial
                · skip
                  exact trivial
                · exact (.is (.is (.is (.is (.is .nil)))))
                · intro u W hb hd
                  simp only [List.drop_succ_cons, List.drop_zero]
                  simp only [Facts, nthR, Is, and_true] at hd
                  simp only [hd]
                  replace H1 := H1.below hb
                  clear hm9 hb hr4 hf4
                  refine wpList_store_blk rfl 85 (.tmp 6) (.tmp 66) rfl rfl (g6) [.int .u64 ((halfP (isLess z) 0).a : Int), .int .u64 ((halfP (isLess z) 0).b : Int), .int .u64 ((halfP (isLess z) 0).c : Int), .int .u64 ((halfP (isLess z) 0).d : Int)] rfl rfl 85 _ H1.hr info50 (Eq.trans (b := 4) rfl rfl) (by simp [Value.oneCell']) ?_
                  intro w2_1_1_0_0_0 hB hg
                  replace H1 := H1.setR N hg hB
                  clear hB hg
                  refine wpList_store_blk rfl 85 (.tmp 8) (.tmp 69) rfl rfl (g8) [.int .u64 ((hlfP n (isDiff n z)).a : Int), .int .u64 ((hlfP n (isDiff n z)).b : Int), .int .u64 ((hlfP n (isDiff n z)).c : Int), .int .u64 ((hlfP n (isDiff n z)).d : Int)] rfl rfl 85 _ H1.hf info50 (Eq.trans (b := 4) rfl rfl) (by simp [Value.oneCell']) ?_
                  intro w2_1_1_0_0_1 hB hg
                  replace H1 := H1.setF N hg hB
                  clear hB hg
                  go_wp2
                  go_roundw
                  case rel => exact ⟨k + 1, isStep n z, by omega, by go_num, Lib.hid (by rw [isTo_succ, ← HZ.out]), isStep_ok n zok, H1⟩
                  case measure => simp [intOf]; omega
      · have hd2 : decide ((k : Int) < 512) = false := by simp; omega
        obtain rfl : k = 512 := by omega
        clear zok
        go_wp2
        refine wp_region_held_drew (S := fun W => ∃ d, InvW w W g (w.heap.size + 1) (w.heap.size + 1 + 1) g6 g7 g8 n sq f z.r z.o z.f z.i d) (by kernel_rfl) ⟨zeroP, H.below (below_drewN (Below.refl _ _) 1)⟩ (fun hHeld => ?_)
        refine wpAnyH_take (i := 0) (oi := ⟨_, _, _, _, _, _⟩) (v := ?_) rfl (by kernel_rfl) (by kernel_rfl) (by kernel_rfl) (fun _ _ _ h => h) (Or.inl ⟨by rfl, ?_⟩) hHeld ?_
        rotate_left 1
        · (intro w hSw; obtain ⟨d', Hs⟩ := hSw; have q1 := Hs.hi.four; have q2 := Hs.ho.four; go_simp; try with_reducible rfl)
        try simp only [Act.put, List.setIfInBounds_toArray, List.set_cons_zero, List.set_cons_succ]
        refine wpAnyH_take (i := 1) (oi := ⟨_, _, _, _, _, _⟩) (v := ?_) rfl (by kernel_rfl) (by kernel_rfl) (by kernel_rfl) (fun _ _ _ h => h) (Or.inl ⟨by rfl, ?_⟩) hHeld ?_
        rotate_left 1
        · (intro w hSw; obtain ⟨d', Hs⟩ := hSw; have q1 := Hs.hi.four; have q2 := Hs.ho.four; go_simp; try with_reducible rfl)
        try simp only [Act.put, List.setIfInBounds_toArray, List.set_cons_zero, List.set_cons_succ]
        replace H := H.below (below_drewN (Below.refl wr.heap.size wr) 1)
        rw [show wr.drewN 1 = wr.drew by rfl] at H
        refine wpAnyH_ready (rs := [2]) (by kernel_rfl) (by simp) ?_
        refine AllReadyH.cons (o := ⟨_, _, _, _, _, _⟩) rfl (fun K hK => ?_) AllReadyH.nil
        rw [if_pos (by rfl)]
        refine wp_store_blk 85 (.tmp 4) (.tmp 71) rfl (w.heap.size + 1) [.int .u64 (z.i.a : Int), .int .u64 (z.i.b : Int), .int .u64 (z.i.c : Int), .int .u64 (z.i.d : Int)] rfl rfl 85 _ H.hi info50 (Eq.trans (b := 4) rfl rfl) (by simp [Value.oneCell']) ?_
        intro w3 hB hg
        replace H := H.setI N hg hB
        refine hK.out _ _ ⟨_, H⟩ (fun hHeld => ?_)
        clear hK K hB hg
        simp only [Act.put]
        refine wpAnyH_ready (rs := [3]) (by kernel_rfl) (by simp) ?_
        refine AllReadyH.cons (o := ⟨_, _, _, _, _, _⟩) rfl (fun K hK => ?_) AllReadyH.nil
        rw [if_pos (by rfl)]
        refine wp_store_blk 85 (.tmp 5) (.tmp 72) rfl (w.heap.size + 1 + 1) [.int .u64 (z.o.a : Int), .int .u64 (z.o.b : Int), .int .u64 (z.o.c : Int), .int .u64 (z.o.d : Int)] rfl rfl 85 _ H.hd info50 (Eq.trans (b := 4) rfl rfl) (by simp [Value.oneCell']) ?_
        intro w4 hB hg
        replace H := H.setD N hg hB
        refine hK.out _ _ ⟨_, H⟩ (fun hHeld => ?_)
        clear hK K hB hg
        simp only [Act.put]
        refine wpAnyH_done (by kernel_rfl) ?_ _
        go_wp2
        refine bodyPost_ret (results_two rfl _ _ (w.heap.size + 1) (w.heap.size + 1 + 1) 0 0 [.int .u64 (z.i.a : Int), .int .u64 (z.i.b : Int), .int .u64 (z.i.c : Int), .int .u64 (z.i.d : Int)] [.int .u64 (z.o.a : Int), .int .u64 (z.o.b : Int), .int .u64 (z.o.c : Int), .int .u64 (z.o.d : Int)] _ _ rfl rfl (rangeAt_of_blk H.hi) (rangeAt_of_blk H.hd) Tryd.underlying85 rfl (info50.trans (Eq.trans (b := some 4) rfl rfl)) Tryd.underlying85 rfl (info50.trans (Eq.trans (b := some 4) rfl rfl))) rfl ⟨by rw [HZ.out], H.hb⟩

end Go.Proofs.YtnkikhnllnbhfaaDoor
