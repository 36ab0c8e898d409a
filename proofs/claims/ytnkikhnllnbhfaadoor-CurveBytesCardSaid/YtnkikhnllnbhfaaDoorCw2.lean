/-
  The contract of the group's sum.
-/
import Derived.Test.YtnkikhnllnbhfaaDoorCw1
namespace Go.Proofs.YtnkikhnllnbhfaaDoor
open Go.RowKit
open CurveMath

/-- A point over a third number, in memory. -/
def spC (p : P3) : List Value := kC p.x ++ (kC p.y ++ kC p.z)
def spZ : List Value := nC zeroP ++ (nC zeroP ++ nC zeroP)
theorem spC_length (p : P3) : (spC p).length = 12 := rfl
theorem spZ_length : spZ.length = 12 := rfl
theorem oneS (p : P3) : (spC p).toArray.all (·.oneCell') = true := by simp [spC, kC, nC, Value.oneCell']
theorem spot_cell {w : World} {g o : Nat} {t : TypeId} {p : P3} {a : K} (h : Blk w g t (spC p)) (ho : ∀ j, j < 4 → (spC p)[o + j]? = (kC a)[j]?) : w.rangeAt g o (kC a) := fun j v hv => by
  have hj : j < 4 := (List.getElem?_eq_some_iff.1 hv).1
  show w.cell? ⟨g, o + j, none⟩ = some v
  rw [h.cell, ho j hj, hv]
theorem spot_range0 {w : World} {g : Nat} {t : TypeId} {x y z : K} (h : Blk w g t (spC ⟨x, y, z⟩)) : w.rangeAt g 0 (kC x) := spot_cell h fun j hj => by
  match j, hj with
  | 0, _ => rfl
  | 1, _ => rfl
  | 2, _ => rfl
  | 3, _ => rfl
theorem spot_range1 {w : World} {g : Nat} {t : TypeId} {x y z : K} (h : Blk w g t (spC ⟨x, y, z⟩)) : w.rangeAt g 4 (kC y) := spot_cell h fun j hj => by
  match j, hj with
  | 0, _ => rfl
  | 1, _ => rfl
  | 2, _ => rfl
  | 3, _ => rfl
theorem spot_range2 {w : World} {g : Nat} {t : TypeId} {x y z : K} (h : Blk w g t (spC ⟨x, y, z⟩)) : w.rangeAt g 8 (kC z) := spot_cell h fun j hj => by
  match j, hj with
  | 0, _ => rfl
  | 1, _ => rfl
  | 2, _ => rfl
  | 3, _ => rfl
theorem wp_built3 {o : Oper} {a : Act} {w : World} {K : Act → World → Prop} {Q : Exit → Act → World → Prop} (t : TypeId) (x y z : Operand) (ho : o.op = .build t #[(0, x), (1, y), (2, z)]) (v0 v1 v2 : Value) (h0 : a.eval x = v0) (h1 : a.eval y = v1) (h2 : a.eval z = v2) (cells : Array Value) (hc : Tryd.prog.built t [(0, v0), (1, v1), (2, v2)] = some cells) (h : K (a.put o.dst (.agg cells)) w) : o.wp Tryd.prog a w K Q := by
  subst h0 h1 h2
  have e : ((#[(0, x), (1, y), (2, z)] : Array (Nat × Operand)).map fun (i, x) => (i, a.eval x)).toList = [(0, a.eval x), (1, a.eval y), (2, a.eval z)] := by simp
  have hc' : Tryd.prog.built t ((#[(0, x), (1, y), (2, z)] : Array (Nat × Operand)).map fun (i, x) => (i, a.eval x)).toList = some cells := by rw [e]; exact hc
  exact wp_build t _ ho (by rw [hc']; rfl) (by rw [hc']; exact h)
theorem builtN (a b c : P4) : Tryd.prog.built 67 [(0, .agg (nC a).toArray), (1, .agg (nC b).toArray), (2, .agg (nC c).toArray)] = some (nC a ++ (nC b ++ nC c)).toArray := by kernel_rfl
theorem builtS (x y z : K) : Tryd.prog.built 67 [(0, .agg (kC x).toArray), (1, .agg (kC y).toArray), (2, .agg (kC z).toArray)] = some (spC ⟨x, y, z⟩).toArray := builtN (pK x) (pK y) (pK z)
def orderP : P4 := ⟨17562291160714782033, 13611842547513532036, 18446744073709551615, 18446744069414584320⟩
/-- What the package's listed variables hold. -/
structure TabsC (w : World) : Prop where
  prime : w.rangeAt 3 0 (nC primeP)
  order : w.rangeAt 2 0 (nC orderP)
  constant : w.rangeAt 4 0 (kC bK)
  baseX : w.rangeAt 0 0 (kC gx)
  baseY : w.rangeAt 1 0 (kC gy)
  infinity : w.rangeAt 5 0 (spC ⟨0, 1, 0⟩)
theorem range_lt {w : World} {g : Nat} {v : Value} {cs : List Value} (h : w.rangeAt g 0 (v :: cs)) : g < w.heap.size := by
  have := block_lt_of_cell (h 0 v rfl)
  simpa using this
theorem range_up {w w' : World} {g : Nat} {v : Value} {cs : List Value} (h : w.rangeAt g 0 (v :: cs)) (hb : Below w.heap.size w w') : w'.rangeAt g 0 (v :: cs) := fun j u hv => (hb.cell (p := ⟨g, 0 + j, none⟩) (range_lt h)).trans (h j u hv)
theorem TabsC.below {w w' : World} (h : TabsC w) (hb : Below w.heap.size w w') : TabsC w' := ⟨range_up h.prime hb, range_up h.order hb, range_up h.constant hb, range_up h.baseX hb, range_up h.baseY hb, range_up h.infinity hb⟩
theorem TabsC.up {w w' w'' : World} (h : TabsC w) (hb : Below w.heap.size w w') (hb' : Below w'.heap.size w' w'') : TabsC w'' := h.below (hb.trans (hb'.mono hb.size))
theorem MulE {g : Nat} {a b c : K} {w : World} (e : Hid (c = a * b)) (h : GrpAt w g) : Calls Tryd.prog 53 #[.pointer (some ⟨g, 0, none⟩), .agg (kC a).toArray, .agg (kC b).toArray] w fun e w' => e = .returned (.agg (kC c).toArray) ∧ Below w.heap.size w w' := by rw [e.out]; exact MulK g a b w h
theorem AddE {g : Nat} {a b c : K} {w : World} (e : Hid (c = a + b)) (h : GrpAt w g) : Calls Tryd.prog 52 #[.pointer (some ⟨g, 0, none⟩), .agg (kC a).toArray, .agg (kC b).toArray] w fun e w' => e = .returned (.agg (kC c).toArray) ∧ Below w.heap.size w w' := by rw [e.out]; exact AddK g a b w h
theorem SubE {g : Nat} {a b c : K} {w : World} (e : Hid (c = a - b)) (h : GrpAt w g) : Calls Tryd.prog 54 #[.pointer (some ⟨g, 0, none⟩), .agg (kC a).toArray, .agg (kC b).toArray] w fun e w' => e = .returned (.agg (kC c).toArray) ∧ Below w.heap.size w w' := by rw [e.out]; exact SubK g a b w h
theorem CrossE {g : Nat} {a b c d r : K} {w : World} (e : Hid (r = a * d + b * c)) (h : GrpAt w g) : Calls Tryd.prog 58 #[.agg #[.pointer (some ⟨g, 0, none⟩)], .agg (kC a).toArray, .agg (kC b).toArray, .agg (kC c).toArray, .agg (kC d).toArray] w fun e w' => e = .returned (.agg (kC r).toArray) ∧ Below w.heap.size w w' := by rw [e.out]; exact crossed_k g a b c d w h
theorem ThriceE {g : Nat} {a r : K} {w : World} (e : Hid (r = 3 * a)) (h : GrpAt w g) : Calls Tryd.prog 59 #[.agg #[.pointer (some ⟨g, 0, none⟩)], .agg (kC a).toArray] w fun e w' => e = .returned (.agg (kC r).toArray) ∧ Below w.heap.size w w' := by rw [e.out]; exact thrice_k g a w h
set_option maxRecDepth 100000 in
set_option maxHeartbeats 4000000 in
theorem sum_k (g : Nat) (p q : P3) (w : World) (h : GrpAt w g) (hT : TabsC w) : Calls Tryd.prog 46 #[.agg #[.pointer (some ⟨g, 0, none⟩)], .agg (spC p).toArray, .agg (spC q).toArray] w fun e w' => e = .returned (.agg (spC (sum3 p q)).toArray) ∧ Below w.heap.size w w' := by
  obtain ⟨x1, y1, z1⟩ := p
  obtain ⟨x2, y2, z2⟩ := q
  obtain ⟨xx, hxx⟩ : ∃ xx, Hid (xx = x1 * x2) := ⟨_, Lib.hid rfl⟩
  obtain ⟨yy, hyy⟩ : ∃ yy, Hid (yy = y1 * y2) := ⟨_, Lib.hid rfl⟩
  obtain ⟨zz, hzz⟩ : ∃ zz, Hid (zz = z1 * z2) := ⟨_, Lib.hid rfl⟩
  obtain ⟨xy, hxy⟩ : ∃ xy, Hid (xy = x1 * y2 + y1 * x2) := ⟨_, Lib.hid rfl⟩
  obtain ⟨xz, hxz⟩ : ∃ xz, Hid (xz = x1 * z2 + z1 * x2) := ⟨_, Lib.hid rfl⟩
  obtain ⟨yz, hyz⟩ : ∃ yz, Hid (yz = y1 * z2 + z1 * y2) := ⟨_, Lib.hid rfl⟩
  obtain ⟨zt, hzt⟩ : ∃ zt, Hid (zt = 3 * zz) := ⟨_, Lib.hid rfl⟩
  obtain ⟨t1, ht1⟩ : ∃ t1, Hid (t1 = bK * zz) := ⟨_, Lib.hid rfl⟩
  obtain ⟨t2, ht2⟩ : ∃ t2, Hid (t2 = xz - t1) := ⟨_, Lib.hid rfl⟩
  obtain ⟨ta, hta⟩ : ∃ ta, Hid (ta = 3 * t2) := ⟨_, Lib.hid rfl⟩
  obtain ⟨u1, hu1⟩ : ∃ u1, Hid (u1 = bK * xz) := ⟨_, Lib.hid rfl⟩
  obtain ⟨u2, hu2⟩ : ∃ u2, Hid (u2 = u1 - zt) := ⟨_, Lib.hid rfl⟩
  obtain ⟨u3, hu3⟩ : ∃ u3, Hid (u3 = u2 - xx) := ⟨_, Lib.hid rfl⟩
  obtain ⟨tb, htb⟩ : ∃ tb, Hid (tb = 3 * u3) := ⟨_, Lib.hid rfl⟩
  obtain ⟨v1, hv1⟩ : ∃ v1, Hid (v1 = 3 * xx) := ⟨_, Lib.hid rfl⟩
  obtain ⟨tc, htc⟩ : ∃ tc, Hid (tc = v1 - zt) := ⟨_, Lib.hid rfl⟩
  obtain ⟨mo, hmo⟩ : ∃ mo, Hid (mo = yy + ta) := ⟨_, Lib.hid rfl⟩
  obtain ⟨le, hle⟩ : ∃ le, Hid (le = yy - ta) := ⟨_, Lib.hid rfl⟩
  obtain ⟨p1, hp1⟩ : ∃ p1, Hid (p1 = xy * mo) := ⟨_, Lib.hid rfl⟩
  obtain ⟨p2, hp2⟩ : ∃ p2, Hid (p2 = yz * tb) := ⟨_, Lib.hid rfl⟩
  obtain ⟨rx, hrx⟩ : ∃ rx, Hid (rx = p1 - p2) := ⟨_, Lib.hid rfl⟩
  obtain ⟨p3, hp3⟩ : ∃ p3, Hid (p3 = mo * le) := ⟨_, Lib.hid rfl⟩
  obtain ⟨p4, hp4⟩ : ∃ p4, Hid (p4 = tb * tc) := ⟨_, Lib.hid rfl⟩
  obtain ⟨ry, hry⟩ : ∃ ry, Hid (ry = p3 + p4) := ⟨_, Lib.hid rfl⟩
  obtain ⟨p5, hp5⟩ : ∃ p5, Hid (p5 = yz * le) := ⟨_, Lib.hid rfl⟩
  obtain ⟨p6, hp6⟩ : ∃ p6, Hid (p6 = xy * tc) := ⟨_, Lib.hid rfl⟩
  obtain ⟨rz, hrz⟩ : ∃ rz, Hid (rz = p5 + p6) := ⟨_, Lib.hid rfl⟩
  have HR := Lib.hid (show sum3 ⟨x1, y1, z1⟩ ⟨x2, y2, z2⟩ = ⟨rx, ry, rz⟩ by rw [hrx.out, hry.out, hrz.out, hp1.out, hp2.out, hp3.out, hp4.out, hp5.out, hp6.out, hmo.out, hle.out, htc.out, htb.out, hv1.out, hu3.out, hu2.out, hu1.out, hta.out, ht2.out, ht1.out, hzt.out, hxx.out, hyy.out, hzz.out, hxy.out, hxz.out, hyz.out]; rfl)
  rw [HR.out]
  go_enter Tryd.func46, Tryd.ntmps46
  go_upto_region 1 with (fail)
  obtain ⟨g3, hg3⟩ : ∃ g3, g3 = w.heap.size + 1 + 1 + 1 := ⟨_, rfl⟩
  obtain ⟨g2, hg2⟩ : ∃ g2, g2 = w.heap.size + 1 + 1 := ⟨_, rfl⟩
  obtain ⟨g1, hg1⟩ : ∃ g1, g1 = w.heap.size + 1 := ⟨_, rfl⟩
  obtain ⟨g0, hg0⟩ : ∃ g0, g0 = w.heap.size := ⟨_, rfl⟩
  have bg0 : Blk ((((w.alloc (.cells #[.pointer (some ⟨g, 0, none⟩)] 62)).alloc (.cells (spC ⟨x1, y1, z1⟩).toArray 67)).alloc (.cells (spC ⟨x2, y2, z2⟩).toArray 67)).alloc (.cells #[.int .u64 0, .int .u64 0, .int .u64 0, .int .u64 0, .int .u64 0, .int .u64 0, .int .u64 0, .int .u64 0, .int .u64 0, .int .u64 0, .int .u64 0, .int .u64 0] 67)) g0 62 ([.pointer (some ⟨g, 0, none⟩)]) := by rw [hg0]; exact blk_allocs [.cells #[.pointer (some ⟨g, 0, none⟩)] 62, .cells (spC ⟨x1, y1, z1⟩).toArray 67, .cells (spC ⟨x2, y2, z2⟩).toArray 67, .cells #[.int .u64 0, .int .u64 0, .int .u64 0, .int .u64 0, .int .u64 0, .int .u64 0, .int .u64 0, .int .u64 0, .int .u64 0, .int .u64 0, .int .u64 0, .int .u64 0] 67] w 0 62 ([.pointer (some ⟨g, 0, none⟩)]) rfl
  have bg1 : Blk ((((w.alloc (.cells #[.pointer (some ⟨g, 0, none⟩)] 62)).alloc (.cells (spC ⟨x1, y1, z1⟩).toArray 67)).alloc (.cells (spC ⟨x2, y2, z2⟩).toArray 67)).alloc (.cells #[.int .u64 0, .int .u64 0, .int .u64 0, .int .u64 0, .int .u64 0, .int .u64 0, .int .u64 0, .int .u64 0, .int .u64 0, .int .u64 0, .int .u64 0, .int .u64 0] 67)) g1 67 (spC ⟨x1, y1, z1⟩) := by rw [hg1]; exact blk_allocs [.cells #[.pointer (some ⟨g, 0, none⟩)] 62, .cells (spC ⟨x1, y1, z1⟩).toArray 67, .cells (spC ⟨x2, y2, z2⟩).toArray 67, .cells #[.int .u64 0, .int .u64 0, .int .u64 0, .int .u64 0, .int .u64 0, .int .u64 0, .int .u64 0, .int .u64 0, .int .u64 0, .int .u64 0, .int .u64 0, .int .u64 0] 67] w 1 67 (spC ⟨x1, y1, z1⟩) rfl
  have bg2 : Blk ((((w.alloc (.cells #[.pointer (some ⟨g, 0, none⟩)] 62)).alloc (.cells (spC ⟨x1, y1, z1⟩).toArray 67)).alloc (.cells (spC ⟨x2, y2, z2⟩).toArray 67)).alloc (.cells #[.int .u64 0, .int .u64 0, .int .u64 0, .int .u64 0, .int .u64 0, .int .u64 0, .int .u64 0, .int .u64 0, .int .u64 0, .int .u64 0, .int .u64 0, .int .u64 0] 67)) g2 67 (spC ⟨x2, y2, z2⟩) := by rw [hg2]; exact blk_allocs [.cells #[.pointer (some ⟨g, 0, none⟩)] 62, .cells (spC ⟨x1, y1, z1⟩).toArray 67, .cells (spC ⟨x2, y2, z2⟩).toArray 67, .cells #[.int .u64 0, .int .u64 0, .int .u64 0, .int .u64 0, .int .u64 0, .int .u64 0, .int .u64 0, .int .u64 0, .int .u64 0, .int .u64 0, .int .u64 0, .int .u64 0] 67] w 2 67 (spC ⟨x2, y2, z2⟩) rfl
  have bg3 : Blk ((((w.alloc (.cells #[.pointer (some ⟨g, 0, none⟩)] 62)).alloc (.cells (spC ⟨x1, y1, z1⟩).toArray 67)).alloc (.cells (spC ⟨x2, y2, z2⟩).toArray 67)).alloc (.cells #[.int .u64 0, .int .u64 0, .int .u64 0, .int .u64 0, .int .u64 0, .int .u64 0, .int .u64 0, .int .u64 0, .int .u64 0, .int .u64 0, .int .u64 0, .int .u64 0] 67)) g3 67 (spZ) := by rw [hg3]; exact blk_allocs [.cells #[.pointer (some ⟨g, 0, none⟩)] 62, .cells (spC ⟨x1, y1, z1⟩).toArray 67, .cells (spC ⟨x2, y2, z2⟩).toArray 67, .cells #[.int .u64 0, .int .u64 0, .int .u64 0, .int .u64 0, .int .u64 0, .int .u64 0, .int .u64 0, .int .u64 0, .int .u64 0, .int .u64 0, .int .u64 0, .int .u64 0] 67] w 3 67 (spZ) rfl
  have hb0 : Below w.heap.size w (((((w.alloc (.cells #[.pointer (some ⟨g, 0, none⟩)] 62)).alloc (.cells (spC ⟨x1, y1, z1⟩).toArray 67)).alloc (.cells (spC ⟨x2, y2, z2⟩).toArray 67)).alloc (.cells #[.int .u64 0, .int .u64 0, .int .u64 0, .int .u64 0, .int .u64 0, .int .u64 0, .int .u64 0, .int .u64 0, .int .u64 0, .int .u64 0, .int .u64 0, .int .u64 0] 67))) := below_allocs [.cells #[.pointer (some ⟨g, 0, none⟩)] 62, .cells (spC ⟨x1, y1, z1⟩).toArray 67, .cells (spC ⟨x2, y2, z2⟩).toArray 67, .cells #[.int .u64 0, .int .u64 0, .int .u64 0, .int .u64 0, .int .u64 0, .int .u64 0, .int .u64 0, .int .u64 0, .int .u64 0, .int .u64 0, .int .u64 0, .int .u64 0] 67] w
  have HG := Lib.hid (show w.heap.size ≤ g0 ∧ g0 < g1 ∧ g1 < g2 ∧ g2 < g3 by omega)
  simp only [← hg3]
  simp only [← hg2]
  simp only [← hg1]
  simp only [← hg0]
  clear hg3
  clear hg2
  clear hg1
  clear hg0
  generalize (((w.alloc (.cells #[.pointer (some ⟨g, 0, none⟩)] 62)).alloc (.cells (spC ⟨x1, y1, z1⟩).toArray 67)).alloc (.cells (spC ⟨x2, y2, z2⟩).toArray 67)).alloc (.cells #[.int .u64 0, .int .u64 0, .int .u64 0, .int .u64 0, .int .u64 0, .int .u64 0, .int .u64 0, .int .u64 0, .int .u64 0, .int .u64 0, .int .u64 0, .int .u64 0] 67) = w1 at *
  have lg0 := bg0.lt
  have lg1 := bg1.lt
  have lg2 := bg2.lt
  have lg3 := bg3.lt
  have hM := h.up hb0
  apply wp_region_fresh (m := 24) (Z := []) (Fl := [false, false, false, false, false, false, false, false, false, false, false, false, false, false, false, false, false, false, false, false, false, true, true, true]) (D := [[], [0], [], [2], [], [4], [0, 1, 2, 3, 4, 5], [], [7], [], [9], [], [11], [0, 1, 2, 3, 4, 5, 6, 7, 8, 9, 10, 11, 12], [], [14], [], [16], [], [18], [0, 1, 2, 3, 4, 5, 6, 7, 8, 9, 10, 11, 12, 13, 14, 15, 16, 17, 18, 19], [], [], [], [0, 1, 2, 3, 4, 5, 6, 7, 8, 9, 10, 11, 12, 13, 14, 15, 16, 17, 18, 19, 20, 21, 22, 23], [0, 1, 2, 3, 4, 5, 6, 7, 8, 9, 10, 11, 12, 13, 14, 15, 16, 17, 18, 19, 20, 21, 22, 23, 24], [0, 1, 2, 3, 4, 5, 6, 7, 8, 9, 10, 11, 12, 13, 14, 15, 16, 17, 18, 19, 20, 21, 22, 23, 24, 25]]) (J := [[], [0], [], [2], [], [4], [1, 3, 5], [], [7], [], [9], [], [11], [8, 10, 12], [], [14], [], [16], [], [18], [15, 17, 19], [], [], []]) (Je := [6, 13, 20, 21, 22, 23]) (Rs := [Is _, Is _, Is _, Is _, Is _, Is _, Is _, Is _, Is _, Is _, Is _, Is _, Is _, Is _, Is _, Is _, Is _, Is _, Is _, Is _, Is _, fun v V => ∃ g', v = .pointer (some ⟨g', 0, none⟩) ∧ w1.heap.size ≤ g' ∧ Blk V g' 59 (nC zeroP), fun v V => ∃ g', v = .pointer (some ⟨g', 0, none⟩) ∧ w1.heap.size ≤ g' ∧ Blk V g' 59 (nC zeroP), fun v V => ∃ g', v = .pointer (some ⟨g', 0, none⟩) ∧ w1.heap.size ≤ g' ∧ Blk V g' 59 (nC zeroP)])
  · kernel_rfl
  · kernel_rfl
  · kernel_rfl
  · kernel_rfl
  · kernel_rfl
  · kernel_rfl
  · kernel_rfl
  · kernel_rfl
  · exact fun h => absurd rfl h
  · intro u
    simp only [List.take_succ_cons, List.take_zero, List.map_cons, List.map_nil, fillU, List.setIfInBounds_toArray, List.set_cons_zero, List.set_cons_succ, Nat.zero_add, Nat.reduceAdd]
    exact rfl
  · simp only [List.take_succ_cons, List.take_zero]
    refine ⟨fun u W hb hd K hK => ?_, ?_⟩
    · clear hd
      go_simp
      apply hK
      · simp only [Act.put, List.setIfInBounds_toArray, List.set_cons_zero, List.set_cons_succ]
        exact rfl
      · exact Below.refl _ _
      · exact IsOut
    refine ⟨fun u W hb hd K hK => ?_, ?_⟩
    · simp only [Facts, nthR, Is, and_true] at hd
      simp only [hd] at hK ⊢
      clear hd
      have hc := ((bg0.below hb lg0)).cell 0
      go_simp
      apply hK
      · simp only [Act.put, List.setIfInBounds_toArray, List.set_cons_zero, List.set_cons_succ]
        exact rfl
      · exact Below.refl _ _
      · exact IsOut
    refine ⟨fun u W hb hd K hK => ?_, ?_⟩
    · clear hd
      go_simp
      apply hK
      · simp only [Act.put, List.setIfInBounds_toArray, List.set_cons_zero, List.set_cons_succ]
        exact rfl
      · exact Below.refl _ _
      · exact IsOut
    refine ⟨fun u W hb hd K hK => ?_, ?_⟩
    · simp only [Facts, nthR, Is, and_true] at hd
      simp only [hd] at hK ⊢
      clear hd
      rw [if_pos (by rfl)]
      refine wp_load_mid 59 (.tmp 21) rfl g1 0 rfl (kC (x1)) _ (spot_range0 (bg1.below hb lg1)) Tryd.underlying59 rfl (infoN.trans (by rw [kC_length])) ?_
      exact hK _ _ _ rfl (Below.refl _ _) IsOut
    refine ⟨fun u W hb hd K hK => ?_, ?_⟩
    · clear hd
      go_simp
      apply hK
      · simp only [Act.put, List.setIfInBounds_toArray, List.set_cons_zero, List.set_cons_succ]
        exact rfl
      · exact Below.refl _ _
      · exact IsOut
    refine ⟨fun u W hb hd K hK => ?_, ?_⟩
    · simp only [Facts, nthR, Is, and_true] at hd
      simp only [hd] at hK ⊢
      clear hd
      rw [if_pos (by rfl)]
      refine wp_load_mid 59 (.tmp 23) rfl g2 0 rfl (kC (x2)) _ (spot_range0 (bg2.below hb lg2)) Tryd.underlying59 rfl (infoN.trans (by rw [kC_length])) ?_
      exact hK _ _ _ rfl (Below.refl _ _) IsOut
    refine ⟨fun u W hb hd K hK => ?_, ?_⟩
    · simp only [Facts, nthR, Is, and_true] at hd
      simp only [hd] at hK ⊢
      clear hd
      go_simp
      refine (MulE hxx (hM.up hb)).mono ?_
      rintro e wy ⟨rfl, hby⟩
      exact hK _ _ _ rfl hby IsOut
    refine ⟨fun u W hb hd K hK => ?_, ?_⟩
    · clear hd
      go_simp
      apply hK
      · simp only [Act.put, List.setIfInBounds_toArray, List.set_cons_zero, List.set_cons_succ]
        exact rfl
      · exact Below.refl _ _
      · exact IsOut
    refine ⟨fun u W hb hd K hK => ?_, ?_⟩
    · simp only [Facts, nthR, Is, and_true] at hd
      simp only [hd] at hK ⊢
      clear hd
      have hc := ((bg0.below hb lg0)).cell 0
      go_simp
      apply hK
      · simp only [Act.put, List.setIfInBounds_toArray, List.set_cons_zero, List.set_cons_succ]
        exact rfl
      · exact Below.refl _ _
      · exact IsOut
    refine ⟨fun u W hb hd K hK => ?_, ?_⟩
    · clear hd
      go_simp
      apply hK
      · simp only [Act.put, List.setIfInBounds_toArray, List.set_cons_zero, List.set_cons_succ]
        exact rfl
      · exact Below.refl _ _
      · exact IsOut
    refine ⟨fun u W hb hd K hK => ?_, ?_⟩
    · simp only [Facts, nthR, Is, and_true] at hd
      simp only [hd] at hK ⊢
      clear hd
      rw [if_pos (by rfl)]
      refine wp_load_mid 59 (.tmp 28) rfl g1 4 rfl (kC (y1)) _ (spot_range1 (bg1.below hb lg1)) Tryd.underlying59 rfl (infoN.trans (by rw [kC_length])) ?_
      exact hK _ _ _ rfl (Below.refl _ _) IsOut
    refine ⟨fun u W hb hd K hK => ?_, ?_⟩
    · clear hd
      go_simp
      apply hK
      · simp only [Act.put, List.setIfInBounds_toArray, List.set_cons_zero, List.set_cons_succ]
        exact rfl
      · exact Below.refl _ _
      · exact IsOut
    refine ⟨fun u W hb hd K hK => ?_, ?_⟩
    · simp only [Facts, nthR, Is, and_true] at hd
      simp only [hd] at hK ⊢
      clear hd
      rw [if_pos (by rfl)]
      refine wp_load_mid 59 (.tmp 30) rfl g2 4 rfl (kC (y2)) _ (spot_range1 (bg2.below hb lg2)) Tryd.underlying59 rfl (infoN.trans (by rw [kC_length])) ?_
      exact hK _ _ _ rfl (Below.refl _ _) IsOut
    refine ⟨fun u W hb hd K hK => ?_, ?_⟩
    · simp only [Facts, nthR, Is, and_true] at hd
      simp only [hd] at hK ⊢
      clear hd
      go_simp
      refine (MulE hyy (hM.up hb)).mono ?_
      rintro e wy ⟨rfl, hby⟩
      exact hK _ _ _ rfl hby IsOut
    refine ⟨fun u W hb hd K hK => ?_, ?_⟩
    · clear hd
      go_simp
      apply hK
      · simp only [Act.put, List.setIfInBounds_toArray, List.set_cons_zero, List.set_cons_succ]
        exact rfl
      · exact Below.refl _ _
      · exact IsOut
    refine ⟨fun u W hb hd K hK => ?_, ?_⟩
    · simp only [Facts, nthR, Is, and_true] at hd
      simp only [hd] at hK ⊢
      clear hd
      have hc := ((bg0.below hb lg0)).cell 0
      go_simp
      apply hK
      · simp only [Act.put, List.setIfInBounds_toArray, List.set_cons_zero, List.set_cons_succ]
        exact rfl
      · exact Below.refl _ _
      · exact IsOut
    refine ⟨fun u W hb hd K hK => ?_, ?_⟩
    · clear hd
      go_simp
      apply hK
      · simp only [Act.put, List.setIfInBounds_toArray, List.set_cons_zero, List.set_cons_succ]
        exact rfl
      · exact Below.refl _ _
      · exact IsOut
    refine ⟨fun u W hb hd K hK => ?_, ?_⟩
    · simp only [Facts, nthR, Is, and_true] at hd
      simp only [hd] at hK ⊢
      clear hd
      rw [if_pos (by rfl)]
      refine wp_load_mid 59 (.tmp 35) rfl g1 8 rfl (kC (z1)) _ (spot_range2 (bg1.below hb lg1)) Tryd.underlying59 rfl (infoN.trans (by rw [kC_length])) ?_
      exact hK _ _ _ rfl (Below.refl _ _) IsOut
    refine ⟨fun u W hb hd K hK => ?_, ?_⟩
    · clear hd
      go_simp
      apply hK
      · simp only [Act.put, List.setIfInBounds_toArray, List.set_cons_zero, List.set_cons_succ]
        exact rfl
      · exact Below.refl _ _
      · exact IsOut
    refine ⟨fun u W hb hd K hK => ?_, ?_⟩
    · simp only [Facts, nthR, Is, and_true] at hd
      simp only [hd] at hK ⊢
      clear hd
      rw [if_pos (by rfl)]
      refine wp_load_mid 59 (.tmp 37) rfl g2 8 rfl (kC (z2)) _ (spot_range2 (bg2.below hb lg2)) Tryd.underlying59 rfl (infoN.trans (by rw [kC_length])) ?_
      exact hK _ _ _ rfl (Below.refl _ _) IsOut
    refine ⟨fun u W hb hd K hK => ?_, ?_⟩
    · simp only [Facts, nthR, Is, and_true] at hd
      simp only [hd] at hK ⊢
      clear hd
      go_simp
      refine (MulE hzz (hM.up hb)).mono ?_
      rintro e wy ⟨rfl, hby⟩
      exact hK _ _ _ rfl hby IsOut
    refine ⟨fun u W hb hd K hK => ?_, ?_⟩
    · clear hd
      go_simp
      apply hK
      · simp only [Act.put, List.setIfInBounds_toArray, List.set_cons_zero, List.set_cons_succ]
        exact rfl
      · exact (Below.refl _ _).alloc (Nat.le_refl _) _
      · exact ⟨_, rfl, hb.size, Blk.new_of _ _ _ _ rfl⟩
      · exact ⟨_, rfl, Nat.le_refl _, by simp⟩
    refine ⟨fun u W hb hd K hK => ?_, ?_⟩
    · clear hd
      go_simp
      apply hK
      · simp only [Act.put, List.setIfInBounds_toArray, List.set_cons_zero, List.set_cons_succ]
        exact rfl
      · exact (Below.refl _ _).alloc (Nat.le_refl _) _
      · exact ⟨_, rfl, hb.size, Blk.new_of _ _ _ _ rfl⟩
      · exact ⟨_, rfl, Nat.le_refl _, by simp⟩
    refine ⟨fun u W hb hd K hK => ?_, ?_⟩
    · clear hd
      go_simp
      apply hK
      · simp only [Act.put, List.setIfInBounds_toArray, List.set_cons_zero, List.set_cons_succ]
        exact rfl
      · exact (Below.refl _ _).alloc (Nat.le_refl _) _
      · exact ⟨_, rfl, hb.size, Blk.new_of _ _ _ _ rfl⟩
      · exact ⟨_, rfl, Nat.le_refl _, by simp⟩
    exact trivial
  · skip
    exact trivial
  · exact (.is (.is (.is (.is (.is (.is (.is (.is (.is (.is (.is (.is (.is (.is (.is (.is (.is (.is (.is (.is (.is (.cons (fun v V V' ⟨g', h1, h2, h3⟩ hb => ⟨g', h1, h2, h3.below hb h3.lt⟩) (.cons (fun v V V' ⟨g', h1, h2, h3⟩ hb => ⟨g', h1, h2, h3.below hb h3.lt⟩) (.cons (fun v V V' ⟨g', h1, h2, h3⟩ hb => ⟨g', h1, h2, h3.below hb h3.lt⟩) .nil))))))))))))))))))))))))
  · intro u W hb hd hne
    simp only [List.drop_succ_cons, List.drop_zero]
    simp only [Facts, nthR, Is, and_true] at hd
    obtain ⟨h6, h13, h20, ⟨gxx, h21, hngxx, bgxx⟩, ⟨gyy, h22, hngyy, bgyy⟩, ⟨gzz, h23, hngzz, bgzz⟩⟩ := hd
    have hne2122 : gxx ≠ gyy := fun e => hne 21 22 rfl rfl (by decide) (by decide) (by decide) (by rw [h21, h22, e])
    have hne2123 : gxx ≠ gzz := fun e => hne 21 23 rfl rfl (by decide) (by decide) (by decide) (by rw [h21, h23, e])
    have hne2223 : gyy ≠ gzz := fun e => hne 22 23 rfl rfl (by decide) (by decide) (by decide) (by rw [h22, h23, e])
    simp only [h6, h13, h20, h21, h22, h23]
    clear h6 h13 h20 h21 h22 h23 hne
    have lM := hM.lt
    have lG := h.lt
    have hsz := hb0.size
    have hGo := HG.out
    replace bg0 := bg0.below hb lg0
    replace bg1 := bg1.below hb lg1
    replace bg2 := bg2.below hb lg2
    replace bg3 := bg3.below hb lg3
    replace hM := hM.up hb
    replace hb0 := hb0.trans (hb.mono hb0.size)
    clear hb
    go_upto_region 2 with (first
      | ((with_reducible refine (?_ : wpList _ _ _ (Oper.mk none _ _ _ _ _ :: _) _ _)); go_loud (refine wpList_store_blk rfl 59 (.tmp 7) (.tmp 25) rfl rfl gxx (kC (xx)) rfl rfl _ _ (bgxx) (infoN.trans (by rw [kC_length])) (by first | rfl | rw [kC_length, nC_length]) (oneK4 _) ?_); intro w2a bn hgs; replace bg0 := bg0.grown hgs (fun e => by injection e with e; omega); replace bg1 := bg1.grown hgs (fun e => by injection e with e; omega); replace bg2 := bg2.grown hgs (fun e => by injection e with e; omega); replace bg3 := bg3.grown hgs (fun e => by injection e with e; omega); replace bgyy := bgyy.grown hgs (fun e => by injection e with e; omega); replace bgzz := bgzz.grown hgs (fun e => by injection e with e; omega); replace hM := hM.grown hgs (fun e => by omega); replace hb0 := below_new hb0 hgs (by omega) hb0.size; clear hgs bgxx; have bgxx := bn; clear bn)
      | ((with_reducible refine (?_ : wpList _ _ _ (Oper.mk none _ _ _ _ _ :: _) _ _)); go_loud (refine wpList_store_blk rfl 59 (.tmp 8) (.tmp 32) rfl rfl gyy (kC (yy)) rfl rfl _ _ (bgyy) (infoN.trans (by rw [kC_length])) (by first | rfl | rw [kC_length, nC_length]) (oneK4 _) ?_); intro w2b bn hgs; replace bg0 := bg0.grown hgs (fun e => by injection e with e; omega); replace bg1 := bg1.grown hgs (fun e => by injection e with e; omega); replace bg2 := bg2.grown hgs (fun e => by injection e with e; omega); replace bg3 := bg3.grown hgs (fun e => by injection e with e; omega); replace bgxx := bgxx.grown hgs (fun e => by injection e with e; omega); replace bgzz := bgzz.grown hgs (fun e => by injection e with e; omega); replace hM := hM.grown hgs (fun e => by omega); replace hb0 := below_new hb0 hgs (by omega) hb0.size; clear hgs bgyy; have bgyy := bn; clear bn)
      | ((with_reducible refine (?_ : wpList _ _ _ (Oper.mk none _ _ _ _ _ :: _) _ _)); go_loud (refine wpList_store_blk rfl 59 (.tmp 9) (.tmp 39) rfl rfl gzz (kC (zz)) rfl rfl _ _ (bgzz) (infoN.trans (by rw [kC_length])) (by first | rfl | rw [kC_length, nC_length]) (oneK4 _) ?_); intro w2 bn hgs; replace bg0 := bg0.grown hgs (fun e => by injection e with e; omega); replace bg1 := bg1.grown hgs (fun e => by injection e with e; omega); replace bg2 := bg2.grown hgs (fun e => by injection e with e; omega); replace bg3 := bg3.grown hgs (fun e => by injection e with e; omega); replace bgxx := bgxx.grown hgs (fun e => by injection e with e; omega); replace bgyy := bgyy.grown hgs (fun e => by injection e with e; omega); replace hM := hM.grown hgs (fun e => by omega); replace hb0 := below_new hb0 hgs (by omega) hb0.size; clear hgs bgzz; have bgzz := bn; clear bn))
    clear lM lG hsz hGo lg0 lg1 lg2 lg3 hngxx hngyy hngzz hne2122 hne2123 hne2223
    have lg0 := bg0.lt
    have lg1 := bg1.lt
    have lg2 := bg2.lt
    have lg3 := bg3.lt
    have lgxx := bgxx.lt
    have lgyy := bgyy.lt
    have lgzz := bgzz.lt
    have hc := bg0.cell 0
    go_upto_region 3 with (first
      | ((with_reducible refine (?_ : wpList _ _ _ (Oper.mk (some 42) _ _ _ _ _ :: _) _ _)); go_loud (refine wpList_load_mid rfl 59 (.tmp 41) rfl g1 0 rfl (kC (x1)) _ (spot_range0 (bg1)) Tryd.underlying59 rfl (infoN.trans (by rw [kC_length])) ?_))
      | ((with_reducible refine (?_ : wpList _ _ _ (Oper.mk (some 44) _ _ _ _ _ :: _) _ _)); go_loud (refine wpList_load_mid rfl 59 (.tmp 43) rfl g1 4 rfl (kC (y1)) _ (spot_range1 (bg1)) Tryd.underlying59 rfl (infoN.trans (by rw [kC_length])) ?_))
      | ((with_reducible refine (?_ : wpList _ _ _ (Oper.mk (some 46) _ _ _ _ _ :: _) _ _)); go_loud (refine wpList_load_mid rfl 59 (.tmp 45) rfl g2 0 rfl (kC (x2)) _ (spot_range0 (bg2)) Tryd.underlying59 rfl (infoN.trans (by rw [kC_length])) ?_))
      | ((with_reducible refine (?_ : wpList _ _ _ (Oper.mk (some 48) _ _ _ _ _ :: _) _ _)); go_loud (refine wpList_load_mid rfl 59 (.tmp 47) rfl g2 4 rfl (kC (y2)) _ (spot_range1 (bg2)) Tryd.underlying59 rfl (infoN.trans (by rw [kC_length])) ?_))
      | (go_at_call 58; refine (CrossE hxy hM).mono ?_; rintro e wx ⟨rfl, hbx⟩)
      | ((with_reducible refine (?_ : wpList _ _ _ (Oper.mk none _ _ _ _ _ :: _) _ _)); go_loud (refine wpList_store_blk rfl 59 (.tmp 10) (.tmp 49) rfl rfl wx.heap.size (kC (xy)) rfl rfl _ _ (Blk.new_of wx 59 #[.int .u64 0, .int .u64 0, .int .u64 0, .int .u64 0] (nC zeroP) rfl) (infoN.trans (by rw [kC_length])) (by rw [kC_length, nC_length]) (oneK4 _) ?_); intro w3 bn hgs))
    clear hc
    have hxa : Below wx.heap.size wx (wx.alloc (.cells #[.int .u64 0, .int .u64 0, .int .u64 0, .int .u64 0] 59)) := (Below.refl _ _).alloc (Nat.le_refl _) _
    have hxb := hbx.trans ((below_new hxa hgs (Nat.le_refl _) hxa.size).mono hbx.size)
    clear hxa hgs
    obtain ⟨gxy, hgxy⟩ : ∃ gxy, gxy = wx.heap.size := ⟨_, rfl⟩
    rw [← hgxy] at bn
    simp only [← hgxy]
    clear hgxy
    replace bg0 := bg0.below hxb lg0
    replace bg1 := bg1.below hxb lg1
    replace bg2 := bg2.below hxb lg2
    replace bg3 := bg3.below hxb lg3
    replace bgxx := bgxx.below hxb lgxx
    replace bgyy := bgyy.below hxb lgyy
    replace bgzz := bgzz.below hxb lgzz
    replace hM := hM.up hxb
    replace hb0 := hb0.trans (hxb.mono hb0.size)
    clear hxb hbx
    have bgxy := bn
    clear bn
    clear lg0
    have lg0 := bg0.lt
    clear lg1
    have lg1 := bg1.lt
    clear lg2
    have lg2 := bg2.lt
    clear lg3
    have lg3 := bg3.lt
    clear lgxx
    have lgxx := bgxx.lt
    clear lgyy
    have lgyy := bgyy.lt
    clear lgzz
    have lgzz := bgzz.lt
    have lgxy := bgxy.lt
    have hc := bg0.cell 0
    go_upto_region 4 with (first
      | ((with_reducible refine (?_ : wpList _ _ _ (Oper.mk (some 52) _ _ _ _ _ :: _) _ _)); go_loud (refine wpList_load_mid rfl 59 (.tmp 51) rfl g1 0 rfl (kC (x1)) _ (spot_range0 (bg1)) Tryd.underlying59 rfl (infoN.trans (by rw [kC_length])) ?_))
      | ((with_reducible refine (?_ : wpList _ _ _ (Oper.mk (some 54) _ _ _ _ _ :: _) _ _)); go_loud (refine wpList_load_mid rfl 59 (.tmp 53) rfl g1 8 rfl (kC (z1)) _ (spot_range2 (bg1)) Tryd.underlying59 rfl (infoN.trans (by rw [kC_length])) ?_))
      | ((with_reducible refine (?_ : wpList _ _ _ (Oper.mk (some 56) _ _ _ _ _ :: _) _ _)); go_loud (refine wpList_load_mid rfl 59 (.tmp 55) rfl g2 0 rfl (kC (x2)) _ (spot_range0 (bg2)) Tryd.underlying59 rfl (infoN.trans (by rw [kC_length])) ?_))
      | ((with_reducible refine (?_ : wpList _ _ _ (Oper.mk (some 58) _ _ _ _ _ :: _) _ _)); go_loud (refine wpList_load_mid rfl 59 (.tmp 57) rfl g2 8 rfl (kC (z2)) _ (spot_range2 (bg2)) Tryd.underlying59 rfl (infoN.trans (by rw [kC_length])) ?_))
      | (go_at_call 58; refine (CrossE hxz hM).mono ?_; rintro e wx ⟨rfl, hbx⟩)
      | ((with_reducible refine (?_ : wpList _ _ _ (Oper.mk none _ _ _ _ _ :: _) _ _)); go_loud (refine wpList_store_blk rfl 59 (.tmp 11) (.tmp 59) rfl rfl wx.heap.size (kC (xz)) rfl rfl _ _ (Blk.new_of wx 59 #[.int .u64 0, .int .u64 0, .int .u64 0, .int .u64 0] (nC zeroP) rfl) (infoN.trans (by rw [kC_length])) (by rw [kC_length, nC_length]) (oneK4 _) ?_); intro w4 bn hgs))
    clear hc
    have hxa : Below wx.heap.size wx (wx.alloc (.cells #[.int .u64 0, .int .u64 0, .int .u64 0, .int .u64 0] 59)) := (Below.refl _ _).alloc (Nat.le_refl _) _
    have hxb := hbx.trans ((below_new hxa hgs (Nat.le_refl _) hxa.size).mono hbx.size)
    clear hxa hgs
    obtain ⟨gxz, hgxz⟩ : ∃ gxz, gxz = wx.heap.size := ⟨_, rfl⟩
    rw [← hgxz] at bn
    simp only [← hgxz]
    clear hgxz
    replace bg0 := bg0.below hxb lg0
    replace bg1 := bg1.below hxb lg1
    replace bg2 := bg2.below hxb lg2
    replace bg3 := bg3.below hxb lg3
    replace bgxx := bgxx.below hxb lgxx
    replace bgyy := bgyy.below hxb lgyy
    replace bgzz := bgzz.below hxb lgzz
    replace bgxy := bgxy.below hxb lgxy
    replace hM := hM.up hxb
    replace hb0 := hb0.trans (hxb.mono hb0.size)
    clear hxb hbx
    have bgxz := bn
    clear bn
    clear lg0
    have lg0 := bg0.lt
    clear lg1
    have lg1 := bg1.lt
    clear lg2
    have lg2 := bg2.lt
    clear lg3
    have lg3 := bg3.lt
    clear lgxx
    have lgxx := bgxx.lt
    clear lgyy
    have lgyy := bgyy.lt
    clear lgzz
    have lgzz := bgzz.lt
    clear lgxy
    have lgxy := bgxy.lt
    have lgxz := bgxz.lt
    have hc := bg0.cell 0
    go_upto_region 5 with (first
      | ((with_reducible refine (?_ : wpList _ _ _ (Oper.mk (some 62) _ _ _ _ _ :: _) _ _)); go_loud (refine wpList_load_mid rfl 59 (.tmp 61) rfl g1 4 rfl (kC (y1)) _ (spot_range1 (bg1)) Tryd.underlying59 rfl (infoN.trans (by rw [kC_length])) ?_))
      | ((with_reducible refine (?_ : wpList _ _ _ (Oper.mk (some 64) _ _ _ _ _ :: _) _ _)); go_loud (refine wpList_load_mid rfl 59 (.tmp 63) rfl g1 8 rfl (kC (z1)) _ (spot_range2 (bg1)) Tryd.underlying59 rfl (infoN.trans (by rw [kC_length])) ?_))
      | ((with_reducible refine (?_ : wpList _ _ _ (Oper.mk (some 66) _ _ _ _ _ :: _) _ _)); go_loud (refine wpList_load_mid rfl 59 (.tmp 65) rfl g2 4 rfl (kC (y2)) _ (spot_range1 (bg2)) Tryd.underlying59 rfl (infoN.trans (by rw [kC_length])) ?_))
      | ((with_reducible refine (?_ : wpList _ _ _ (Oper.mk (some 68) _ _ _ _ _ :: _) _ _)); go_loud (refine wpList_load_mid rfl 59 (.tmp 67) rfl g2 8 rfl (kC (z2)) _ (spot_range2 (bg2)) Tryd.underlying59 rfl (infoN.trans (by rw [kC_length])) ?_))
      | (go_at_call 58; refine (CrossE hyz hM).mono ?_; rintro e wx ⟨rfl, hbx⟩)
      | ((with_reducible refine (?_ : wpList _ _ _ (Oper.mk none _ _ _ _ _ :: _) _ _)); go_loud (refine wpList_store_blk rfl 59 (.tmp 12) (.tmp 69) rfl rfl wx.heap.size (kC (yz)) rfl rfl _ _ (Blk.new_of wx 59 #[.int .u64 0, .int .u64 0, .int .u64 0, .int .u64 0] (nC zeroP) rfl) (infoN.trans (by rw [kC_length])) (by rw [kC_length, nC_length]) (oneK4 _) ?_); intro w5 bn hgs))
    clear hc
    have hxa : Below wx.heap.size wx (wx.alloc (.cells #[.int .u64 0, .int .u64 0, .int .u64 0, .int .u64 0] 59)) := (Below.refl _ _).alloc (Nat.le_refl _) _
    have hxb := hbx.trans ((below_new hxa hgs (Nat.le_refl _) hxa.size).mono hbx.size)
    clear hxa hgs
    obtain ⟨gyz, hgyz⟩ : ∃ gyz, gyz = wx.heap.size := ⟨_, rfl⟩
    rw [← hgyz] at bn
    simp only [← hgyz]
    clear hgyz
    replace bg0 := bg0.below hxb lg0
    replace bg1 := bg1.below hxb lg1
    replace bg2 := bg2.below hxb lg2
    replace bg3 := bg3.below hxb lg3
    replace bgxx := bgxx.below hxb lgxx
    replace bgyy := bgyy.below hxb lgyy
    replace bgzz := bgzz.below hxb lgzz
    replace bgxy := bgxy.below hxb lgxy
    replace bgxz := bgxz.below hxb lgxz
    replace hM := hM.up hxb
    replace hb0 := hb0.trans (hxb.mono hb0.size)
    clear hxb hbx
    have bgyz := bn
    clear bn
    clear lg0
    have lg0 := bg0.lt
    clear lg1
    have lg1 := bg1.lt
    clear lg2
    have lg2 := bg2.lt
    clear lg3
    have lg3 := bg3.lt
    clear lgxx
    have lgxx := bgxx.lt
    clear lgyy
    have lgyy := bgyy.lt
    clear lgzz
    have lgzz := bgzz.lt
    clear lgxy
    have lgxy := bgxy.lt
    clear lgxz
    have lgxz := bgxz.lt
    have lgyz := bgyz.lt
    have hc := bg0.cell 0
    go_upto_region 6 with (first
      | ((with_reducible refine (?_ : wpList _ _ _ (Oper.mk (some 71) _ _ _ _ _ :: _) _ _)); go_loud (refine wpList_load_mid rfl 59 (.tmp 9) rfl gzz 0 rfl (kC (zz)) _ (rangeAt_of_blk (bgzz)) Tryd.underlying59 rfl (infoN.trans (by rw [kC_length])) ?_))
      | (go_at_call 59; refine (ThriceE hzt hM).mono ?_; rintro e wx ⟨rfl, hbx⟩)
      | ((with_reducible refine (?_ : wpList _ _ _ (Oper.mk none _ _ _ _ _ :: _) _ _)); go_loud (refine wpList_store_blk rfl 59 (.tmp 13) (.tmp 72) rfl rfl wx.heap.size (kC (zt)) rfl rfl _ _ (Blk.new_of wx 59 #[.int .u64 0, .int .u64 0, .int .u64 0, .int .u64 0] (nC zeroP) rfl) (infoN.trans (by rw [kC_length])) (by rw [kC_length, nC_length]) (oneK4 _) ?_); intro w6 bn hgs))
    clear hc
    have hxa : Below wx.heap.size wx (wx.alloc (.cells #[.int .u64 0, .int .u64 0, .int .u64 0, .int .u64 0] 59)) := (Below.refl _ _).alloc (Nat.le_refl _) _
    have hxb := hbx.trans ((below_new hxa hgs (Nat.le_refl _) hxa.size).mono hbx.size)
    clear hxa hgs
    obtain ⟨gzt, hgzt⟩ : ∃ gzt, gzt = wx.heap.size := ⟨_, rfl⟩
    rw [← hgzt] at bn
    simp only [← hgzt]
    clear hgzt
    replace bg0 := bg0.below hxb lg0
    replace bg1 := bg1.below hxb lg1
    replace bg2 := bg2.below hxb lg2
    replace bg3 := bg3.below hxb lg3
    replace bgxx := bgxx.below hxb lgxx
    replace bgyy := bgyy.below hxb lgyy
    replace bgzz := bgzz.below hxb lgzz
    replace bgxy := bgxy.below hxb lgxy
    replace bgxz := bgxz.below hxb lgxz
    replace bgyz := bgyz.below hxb lgyz
    replace hM := hM.up hxb
    replace hb0 := hb0.trans (hxb.mono hb0.size)
    clear hxb hbx
    have bgzt := bn
    clear bn
    clear lg0
    have lg0 := bg0.lt
    clear lg1
    have lg1 := bg1.lt
    clear lg2
    have lg2 := bg2.lt
    clear lg3
    have lg3 := bg3.lt
    clear lgxx
    have lgxx := bgxx.lt
    clear lgyy
    have lgyy := bgyy.lt
    clear lgzz
    have lgzz := bgzz.lt
    clear lgxy
    have lgxy := bgxy.lt
    clear lgxz
    have lgxz := bgxz.lt
    clear lgyz
    have lgyz := bgyz.lt
    have lgzt := bgzt.lt
    apply wp_region_fresh (m := 12) (Z := []) (Fl := [false, false, false, false, false, false, false, false, false, false, false, true]) (D := [[], [], [1], [], [], [4], [], [], [4, 5, 6, 7], [1, 2, 3, 4, 5, 6, 7, 8], [0, 1, 2, 3, 4, 5, 6, 7, 8, 9], [], [0, 1, 2, 3, 4, 5, 6, 7, 8, 9, 10, 11]]) (J := [[], [], [1], [], [], [4], [], [], [5, 6, 7], [2, 3, 8], [0, 9], []]) (Je := [10, 11]) (Rs := [Is _, Is _, Is _, Is _, Is _, Is _, Is _, Is _, Is _, Is _, Is _, fun v V => ∃ g', v = .pointer (some ⟨g', 0, none⟩) ∧ w6.heap.size ≤ g' ∧ Blk V g' 59 (nC zeroP)])
    · kernel_rfl
    · kernel_rfl
    · kernel_rfl
    · kernel_rfl
    · kernel_rfl
    · kernel_rfl
    · kernel_rfl
    · kernel_rfl
    · exact fun h => absurd rfl h
    · intro u
      simp only [List.take_succ_cons, List.take_zero, List.map_cons, List.map_nil, fillU, List.setIfInBounds_toArray, List.set_cons_zero, List.set_cons_succ, Nat.zero_add, Nat.reduceAdd]
      exact rfl
    · simp only [List.take_succ_cons, List.take_zero]
      refine ⟨fun u W hb hd K hK => ?_, ?_⟩
      · clear hd
        rw [if_pos (by rfl)]
        refine wp_load_mid 62 (.tmp 3) rfl g0 0 rfl ([.pointer (some ⟨g, 0, none⟩)]) _ (rangeAt_of_blk (bg0.below hb lg0)) Tryd.underlying62 rfl (infoG.trans rfl) ?_
        exact hK _ _ _ rfl (Below.refl _ _) IsOut
      refine ⟨fun u W hb hd K hK => ?_, ?_⟩
      · clear hd
        go_simp
        apply hK
        · simp only [Act.put, List.setIfInBounds_toArray, List.set_cons_zero, List.set_cons_succ]
          exact rfl
        · exact Below.refl _ _
        · exact IsOut
      refine ⟨fun u W hb hd K hK => ?_, ?_⟩
      · simp only [Facts, nthR, Is, and_true] at hd
        simp only [hd] at hK ⊢
        clear hd
        have hc := ((bg0.below hb lg0)).cell 0
        go_simp
        apply hK
        · simp only [Act.put, List.setIfInBounds_toArray, List.set_cons_zero, List.set_cons_succ]
          exact rfl
        · exact Below.refl _ _
        · exact IsOut
      refine ⟨fun u W hb hd K hK => ?_, ?_⟩
      · clear hd
        rw [if_pos (by rfl)]
        refine wp_load_mid 59 (.tmp 11) rfl gxz 0 rfl (kC (xz)) _ (rangeAt_of_blk (bgxz.below hb lgxz)) Tryd.underlying59 rfl (infoN.trans (by rw [kC_length])) ?_
        exact hK _ _ _ rfl (Below.refl _ _) IsOut
      refine ⟨fun u W hb hd K hK => ?_, ?_⟩
      · clear hd
        go_simp
        apply hK
        · simp only [Act.put, List.setIfInBounds_toArray, List.set_cons_zero, List.set_cons_succ]
          exact rfl
        · exact Below.refl _ _
        · exact IsOut
      refine ⟨fun u W hb hd K hK => ?_, ?_⟩
      · simp only [Facts, nthR, Is, and_true] at hd
        simp only [hd] at hK ⊢
        clear hd
        have hc := ((bg0.below hb lg0)).cell 0
        go_simp
        apply hK
        · simp only [Act.put, List.setIfInBounds_toArray, List.set_cons_zero, List.set_cons_succ]
          exact rfl
        · exact Below.refl _ _
        · exact IsOut
      refine ⟨fun u W hb hd K hK => ?_, ?_⟩
      · clear hd
        rw [if_pos (by rfl)]
        refine wp_load_mid 59 (.global 4) rfl 4 0 rfl (kC (bK)) _ ((hT.up hb0 hb).constant) Tryd.underlying59 rfl (infoN.trans (by rw [kC_length])) ?_
        exact hK _ _ _ rfl (Below.refl _ _) IsOut
      refine ⟨fun u W hb hd K hK => ?_, ?_⟩
      · clear hd
        rw [if_pos (by rfl)]
        refine wp_load_mid 59 (.tmp 9) rfl gzz 0 rfl (kC (zz)) _ (rangeAt_of_blk (bgzz.below hb lgzz)) Tryd.underlying59 rfl (infoN.trans (by rw [kC_length])) ?_
        exact hK _ _ _ rfl (Below.refl _ _) IsOut
      refine ⟨fun u W hb hd K hK => ?_, ?_⟩
      · simp only [Facts, nthR, Is, and_true] at hd
        simp only [hd] at hK ⊢
        clear hd
        go_simp
        refine (MulE ht1 (hM.up hb)).mono ?_
        rintro e wy ⟨rfl, hby⟩
        exact hK _ _ _ rfl hby IsOut
      refine ⟨fun u W hb hd K hK => ?_, ?_⟩
      · simp only [Facts, nthR, Is, and_true] at hd
        simp only [hd] at hK ⊢
        clear hd
        go_simp
        refine (SubE ht2 (hM.up hb)).mono ?_
        rintro e wy ⟨rfl, hby⟩
        exact hK _ _ _ rfl hby IsOut
      refine ⟨fun u W hb hd K hK => ?_, ?_⟩
      · simp only [Facts, nthR, Is, and_true] at hd
        simp only [hd] at hK ⊢
        clear hd
        go_simp
        refine (ThriceE hta (hM.up hb)).mono ?_
        rintro e wy ⟨rfl, hby⟩
        exact hK _ _ _ rfl hby IsOut
      refine ⟨fun u W hb hd K hK => ?_, ?_⟩
      · clear hd
        go_simp
        apply hK
        · simp only [Act.put, List.setIfInBounds_toArray, List.set_cons_zero, List.set_cons_succ]
          exact rfl
        · exact (Below.refl _ _).alloc (Nat.le_refl _) _
        · exact ⟨_, rfl, hb.size, Blk.new_of _ _ _ _ rfl⟩
        · exact ⟨_, rfl, Nat.le_refl _, by simp⟩
      exact trivial
    · skip
      exact trivial
    · exact (.is (.is (.is (.is (.is (.is (.is (.is (.is (.is (.is (.cons (fun v V V' ⟨g', h1, h2, h3⟩ hb => ⟨g', h1, h2, h3.below hb h3.lt⟩) .nil))))))))))))
    · intro u W hb hd hne
      simp only [List.drop_succ_cons, List.drop_zero]
      simp only [Facts, nthR, Is, and_true] at hd
      obtain ⟨h10, ⟨gta, h11, hngta, bgta⟩⟩ := hd
      simp only [h10, h11]
      clear h10 h11 hne
      have lM := hM.lt
      have lG := h.lt
      have hsz := hb0.size
      have hGo := HG.out
      replace bg0 := bg0.below hb lg0
      replace bg1 := bg1.below hb lg1
      replace bg2 := bg2.below hb lg2
      replace bg3 := bg3.below hb lg3
      replace bgxx := bgxx.below hb lgxx
      replace bgyy := bgyy.below hb lgyy
      replace bgzz := bgzz.below hb lgzz
      replace bgxy := bgxy.below hb lgxy
      replace bgxz := bgxz.below hb lgxz
      replace bgyz := bgyz.below hb lgyz
      replace bgzt := bgzt.below hb lgzt
      replace hM := hM.up hb
      replace hb0 := hb0.trans (hb.mono hb0.size)
      clear hb
      go_upto_region 7 with (first
        | ((with_reducible refine (?_ : wpList _ _ _ (Oper.mk none _ _ _ _ _ :: _) _ _)); go_loud (refine wpList_store_blk rfl 59 (.tmp 14) (.tmp 83) rfl rfl gta (kC (ta)) rfl rfl _ _ (bgta) (infoN.trans (by rw [kC_length])) (by first | rfl | rw [kC_length, nC_length]) (oneK4 _) ?_); intro w7 bn hgs; replace bg0 := bg0.grown hgs (fun e => by injection e with e; omega); replace bg1 := bg1.grown hgs (fun e => by injection e with e; omega); replace bg2 := bg2.grown hgs (fun e => by injection e with e; omega); replace bg3 := bg3.grown hgs (fun e => by injection e with e; omega); replace bgxx := bgxx.grown hgs (fun e => by injection e with e; omega); replace bgyy := bgyy.grown hgs (fun e => by injection e with e; omega); replace bgzz := bgzz.grown hgs (fun e => by injection e with e; omega); replace bgxy := bgxy.grown hgs (fun e => by injection e with e; omega); replace bgxz := bgxz.grown hgs (fun e => by injection e with e; omega); replace bgyz := bgyz.grown hgs (fun e => by injection e with e; omega); replace bgzt := bgzt.grown hgs (fun e => by injection e with e; omega); replace hM := hM.grown hgs (fun e => by omega); replace hb0 := below_new hb0 hgs (by omega) hb0.size; clear hgs bgta; have bgta := bn; clear bn))
      clear lM lG hsz hGo lg0 lg1 lg2 lg3 lgxx lgyy lgzz lgxy lgxz lgyz lgzt hngta
      have lg0 := bg0.lt
      have lg1 := bg1.lt
      have lg2 := bg2.lt
      have lg3 := bg3.lt
      have lgxx := bgxx.lt
      have lgyy := bgyy.lt
      have lgzz := bgzz.lt
      have lgxy := bgxy.lt
      have lgxz := bgxz.lt
      have lgyz := bgyz.lt
      have lgzt := bgzt.lt
      have lgta := bgta.lt
      apply wp_region_fresh (m := 16) (Z := []) (Fl := [false, false, false, false, false, false, false, false, false, false, false, false, false, false, false, true]) (D := [[], [], [1], [], [3], [], [5], [], [], [5, 6, 7, 8], [], [3, 4, 5, 6, 7, 8, 9, 10], [], [1, 2, 3, 4, 5, 6, 7, 8, 9, 10, 11, 12], [0, 1, 2, 3, 4, 5, 6, 7, 8, 9, 10, 11, 12, 13], [], [0, 1, 2, 3, 4, 5, 6, 7, 8, 9, 10, 11, 12, 13, 14, 15]]) (J := [[], [], [1], [], [3], [], [5], [], [], [6, 7, 8], [], [4, 9, 10], [], [2, 11, 12], [0, 13], []]) (Je := [14, 15]) (Rs := [Is _, Is _, Is _, Is _, Is _, Is _, Is _, Is _, Is _, Is _, Is _, Is _, Is _, Is _, Is _, fun v V => ∃ g', v = .pointer (some ⟨g', 0, none⟩) ∧ w7.heap.size ≤ g' ∧ Blk V g' 59 (nC zeroP)])
      · kernel_rfl
      · kernel_rfl
      · kernel_rfl
      · kernel_rfl
      · kernel_rfl
      · kernel_rfl
      · kernel_rfl
      · kernel_rfl
      · exact fun h => absurd rfl h
      · intro u
        simp only [List.take_succ_cons, List.take_zero, List.map_cons, List.map_nil, fillU, List.setIfInBounds_toArray, List.set_cons_zero, List.set_cons_succ, Nat.zero_add, Nat.reduceAdd]
        exact rfl
      · simp only [List.take_succ_cons, List.take_zero]
        refine ⟨fun u W hb hd K hK => ?_, ?_⟩
        · clear hd
          rw [if_pos (by rfl)]
          refine wp_load_mid 62 (.tmp 3) rfl g0 0 rfl ([.pointer (some ⟨g, 0, none⟩)]) _ (rangeAt_of_blk (bg0.below hb lg0)) Tryd.underlying62 rfl (infoG.trans rfl) ?_
          exact hK _ _ _ rfl (Below.refl _ _) IsOut
        refine ⟨fun u W hb hd K hK => ?_, ?_⟩
        · clear hd
          go_simp
          apply hK
          · simp only [Act.put, List.setIfInBounds_toArray, List.set_cons_zero, List.set_cons_succ]
            exact rfl
          · exact Below.refl _ _
          · exact IsOut
        refine ⟨fun u W hb hd K hK => ?_, ?_⟩
        · simp only [Facts, nthR, Is, and_true] at hd
          simp only [hd] at hK ⊢
          clear hd
          have hc := ((bg0.below hb lg0)).cell 0
          go_simp
          apply hK
          · simp only [Act.put, List.setIfInBounds_toArray, List.set_cons_zero, List.set_cons_succ]
            exact rfl
          · exact Below.refl _ _
          · exact IsOut
        refine ⟨fun u W hb hd K hK => ?_, ?_⟩
        · clear hd
          go_simp
          apply hK
          · simp only [Act.put, List.setIfInBounds_toArray, List.set_cons_zero, List.set_cons_succ]
            exact rfl
          · exact Below.refl _ _
          · exact IsOut
        refine ⟨fun u W hb hd K hK => ?_, ?_⟩
        · simp only [Facts, nthR, Is, and_true] at hd
          simp only [hd] at hK ⊢
          clear hd
          have hc := ((bg0.below hb lg0)).cell 0
          go_simp
          apply hK
          · simp only [Act.put, List.setIfInBounds_toArray, List.set_cons_zero, List.set_cons_succ]
            exact rfl
          · exact Below.refl _ _
          · exact IsOut
        refine ⟨fun u W hb hd K hK => ?_, ?_⟩
        · clear hd
          go_simp
          apply hK
          · simp only [Act.put, List.setIfInBounds_toArray, List.set_cons_zero, List.set_cons_succ]
            exact rfl
          · exact Below.refl _ _
          · exact IsOut
        refine ⟨fun u W hb hd K hK => ?_, ?_⟩
        · simp only [Facts, nthR, Is, and_true] at hd
          simp only [hd] at hK ⊢
          clear hd
          have hc := ((bg0.below hb lg0)).cell 0
          go_simp
          apply hK
          · simp only [Act.put, List.setIfInBounds_toArray, List.set_cons_zero, List.set_cons_succ]
            exact rfl
          · exact Below.refl _ _
          · exact IsOut
        refine ⟨fun u W hb hd K hK => ?_, ?_⟩
        · clear hd
          rw [if_pos (by rfl)]
          refine wp_load_mid 59 (.global 4) rfl 4 0 rfl (kC (bK)) _ ((hT.up hb0 hb).constant) Tryd.underlying59 rfl (infoN.trans (by rw [kC_length])) ?_
          exact hK _ _ _ rfl (Below.refl _ _) IsOut
        refine ⟨fun u W hb hd K hK => ?_, ?_⟩
        · clear hd
          rw [if_pos (by rfl)]
          refine wp_load_mid 59 (.tmp 11) rfl gxz 0 rfl (kC (xz)) _ (rangeAt_of_blk (bgxz.below hb lgxz)) Tryd.underlying59 rfl (infoN.trans (by rw [kC_length])) ?_
          exact hK _ _ _ rfl (Below.refl _ _) IsOut
        refine ⟨fun u W hb hd K hK => ?_, ?_⟩
        · simp only [Facts, nthR, Is, and_true] at hd
          simp only [hd] at hK ⊢
          clear hd
          go_simp
          refine (MulE hu1 (hM.up hb)).mono ?_
          rintro e wy ⟨rfl, hby⟩
          exact hK _ _ _ rfl hby IsOut
        refine ⟨fun u W hb hd K hK => ?_, ?_⟩
        · clear hd
          rw [if_pos (by rfl)]
          refine wp_load_mid 59 (.tmp 13) rfl gzt 0 rfl (kC (zt)) _ (rangeAt_of_blk (bgzt.below hb lgzt)) Tryd.underlying59 rfl (infoN.trans (by rw [kC_length])) ?_
          exact hK _ _ _ rfl (Below.refl _ _) IsOut
        refine ⟨fun u W hb hd K hK => ?_, ?_⟩
        · simp only [Facts, nthR, Is, and_true] at hd
          simp only [hd] at hK ⊢
          clear hd
          go_simp
          refine (SubE hu2 (hM.up hb)).mono ?_
          rintro e wy ⟨rfl, hby⟩
          exact hK _ _ _ rfl hby IsOut
        refine ⟨fun u W hb hd K hK => ?_, ?_⟩
        · clear hd
          rw [if_pos (by rfl)]
          refine wp_load_mid 59 (.tmp 7) rfl gxx 0 rfl (kC (xx)) _ (rangeAt_of_blk (bgxx.below hb lgxx)) Tryd.underlying59 rfl (infoN.trans (by rw [kC_length])) ?_
          exact hK _ _ _ rfl (Below.refl _ _) IsOut
        refine ⟨fun u W hb hd K hK => ?_, ?_⟩
        · simp only [Facts, nthR, Is, and_true] at hd
          simp only [hd] at hK ⊢
          clear hd
          go_simp
          refine (SubE hu3 (hM.up hb)).mono ?_
          rintro e wy ⟨rfl, hby⟩
          exact hK _ _ _ rfl hby IsOut
        refine ⟨fun u W hb hd K hK => ?_, ?_⟩
        · simp only [Facts, nthR, Is, and_true] at hd
          simp only [hd] at hK ⊢
          clear hd
          go_simp
          refine (ThriceE htb (hM.up hb)).mono ?_
          rintro e wy ⟨rfl, hby⟩
          exact hK _ _ _ rfl hby IsOut
        refine ⟨fun u W hb hd K hK => ?_, ?_⟩
        · clear hd
          go_simp
          apply hK
          · simp only [Act.put, List.setIfInBounds_toArray, List.set_cons_zero, List.set_cons_succ]
            exact rfl
          · exact (Below.refl _ _).alloc (Nat.le_refl _) _
          · exact ⟨_, rfl, hb.size, Blk.new_of _ _ _ _ rfl⟩
          · exact ⟨_, rfl, Nat.le_refl _, by simp⟩
        exact trivial
      · skip
        exact trivial
      · exact (.is (.is (.is (.is (.is (.is (.is (.is (.is (.is (.is (.is (.is (.is (.is (.cons (fun v V V' ⟨g', h1, h2, h3⟩ hb => ⟨g', h1, h2, h3.below hb h3.lt⟩) .nil))))))))))))))))
      · intro u W hb hd hne
        simp only [List.drop_succ_cons, List.drop_zero]
        simp only [Facts, nthR, Is, and_true] at hd
        obtain ⟨h14, ⟨gtb, h15, hngtb, bgtb⟩⟩ := hd
        simp only [h14, h15]
        clear h14 h15 hne
        have lM := hM.lt
        have lG := h.lt
        have hsz := hb0.size
        have hGo := HG.out
        replace bg0 := bg0.below hb lg0
        replace bg1 := bg1.below hb lg1
        replace bg2 := bg2.below hb lg2
        replace bg3 := bg3.below hb lg3
        replace bgxx := bgxx.below hb lgxx
        replace bgyy := bgyy.below hb lgyy
        replace bgzz := bgzz.below hb lgzz
        replace bgxy := bgxy.below hb lgxy
        replace bgxz := bgxz.below hb lgxz
        replace bgyz := bgyz.below hb lgyz
        replace bgzt := bgzt.below hb lgzt
        replace bgta := bgta.below hb lgta
        replace hM := hM.up hb
        replace hb0 := hb0.trans (hb.mono hb0.size)
        clear hb
        go_upto_region 8 with (first
          | ((with_reducible refine (?_ : wpList _ _ _ (Oper.mk none _ _ _ _ _ :: _) _ _)); go_loud (refine wpList_store_blk rfl 59 (.tmp 15) (.tmp 98) rfl rfl gtb (kC (tb)) rfl rfl _ _ (bgtb) (infoN.trans (by rw [kC_length])) (by first | rfl | rw [kC_length, nC_length]) (oneK4 _) ?_); intro w8 bn hgs; replace bg0 := bg0.grown hgs (fun e => by injection e with e; omega); replace bg1 := bg1.grown hgs (fun e => by injection e with e; omega); replace bg2 := bg2.grown hgs (fun e => by injection e with e; omega); replace bg3 := bg3.grown hgs (fun e => by injection e with e; omega); replace bgxx := bgxx.grown hgs (fun e => by injection e with e; omega); replace bgyy := bgyy.grown hgs (fun e => by injection e with e; omega); replace bgzz := bgzz.grown hgs (fun e => by injection e with e; omega); replace bgxy := bgxy.grown hgs (fun e => by injection e with e; omega); replace bgxz := bgxz.grown hgs (fun e => by injection e with e; omega); replace bgyz := bgyz.grown hgs (fun e => by injection e with e; omega); replace bgzt := bgzt.grown hgs (fun e => by injection e with e; omega); replace bgta := bgta.grown hgs (fun e => by injection e with e; omega); replace hM := hM.grown hgs (fun e => by omega); replace hb0 := below_new hb0 hgs (by omega) hb0.size; clear hgs bgtb; have bgtb := bn; clear bn))
        clear lM lG hsz hGo lg0 lg1 lg2 lg3 lgxx lgyy lgzz lgxy lgxz lgyz lgzt lgta hngtb
        have lg0 := bg0.lt
        have lg1 := bg1.lt
        have lg2 := bg2.lt
        have lg3 := bg3.lt
        have lgxx := bgxx.lt
        have lgyy := bgyy.lt
        have lgzz := bgzz.lt
        have lgxy := bgxy.lt
        have lgxz := bgxz.lt
        have lgyz := bgyz.lt
        have lgzt := bgzt.lt
        have lgta := bgta.lt
        have lgtb := bgtb.lt
        apply wp_region_fresh (m := 8) (Z := []) (Fl := [false, false, false, false, false, false, false, true]) (D := [[], [0], [], [], [2, 3], [], [0, 1, 2, 3, 4, 5], [], [0, 1, 2, 3, 4, 5, 6, 7]]) (J := [[], [0], [], [], [2, 3], [], [1, 4, 5], []]) (Je := [6, 7]) (Rs := [Is _, Is _, Is _, Is _, Is _, Is _, Is _, fun v V => ∃ g', v = .pointer (some ⟨g', 0, none⟩) ∧ w8.heap.size ≤ g' ∧ Blk V g' 59 (nC zeroP)])
        · kernel_rfl
        · kernel_rfl
        · kernel_rfl
        · kernel_rfl
        · kernel_rfl
        · kernel_rfl
        · kernel_rfl
        · kernel_rfl
        · exact fun h => absurd rfl h
        · intro u
          simp only [List.take_succ_cons, List.take_zero, List.map_cons, List.map_nil, fillU, List.setIfInBounds_toArray, List.set_cons_zero, List.set_cons_succ, Nat.zero_add, Nat.reduceAdd]
          exact rfl
        · simp only [List.take_succ_cons, List.take_zero]
          refine ⟨fun u W hb hd K hK => ?_, ?_⟩
          · clear hd
            go_simp
            apply hK
            · simp only [Act.put, List.setIfInBounds_toArray, List.set_cons_zero, List.set_cons_succ]
              exact rfl
            · exact Below.refl _ _
            · exact IsOut
          refine ⟨fun u W hb hd K hK => ?_, ?_⟩
          · simp only [Facts, nthR, Is, and_true] at hd
            simp only [hd] at hK ⊢
            clear hd
            have hc := ((bg0.below hb lg0)).cell 0
            go_simp
            apply hK
            · simp only [Act.put, List.setIfInBounds_toArray, List.set_cons_zero, List.set_cons_succ]
              exact rfl
            · exact Below.refl _ _
            · exact IsOut
          refine ⟨fun u W hb hd K hK => ?_, ?_⟩
          · clear hd
            rw [if_pos (by rfl)]
            refine wp_load_mid 62 (.tmp 3) rfl g0 0 rfl ([.pointer (some ⟨g, 0, none⟩)]) _ (rangeAt_of_blk (bg0.below hb lg0)) Tryd.underlying62 rfl (infoG.trans rfl) ?_
            exact hK _ _ _ rfl (Below.refl _ _) IsOut
          refine ⟨fun u W hb hd K hK => ?_, ?_⟩
          · clear hd
            rw [if_pos (by rfl)]
            refine wp_load_mid 59 (.tmp 7) rfl gxx 0 rfl (kC (xx)) _ (rangeAt_of_blk (bgxx.below hb lgxx)) Tryd.underlying59 rfl (infoN.trans (by rw [kC_length])) ?_
            exact hK _ _ _ rfl (Below.refl _ _) IsOut
          refine ⟨fun u W hb hd K hK => ?_, ?_⟩
          · simp only [Facts, nthR, Is, and_true] at hd
            simp only [hd] at hK ⊢
            clear hd
            go_simp
            refine (ThriceE hv1 (hM.up hb)).mono ?_
            rintro e wy ⟨rfl, hby⟩
            exact hK _ _ _ rfl hby IsOut
          refine ⟨fun u W hb hd K hK => ?_, ?_⟩
          · clear hd
            rw [if_pos (by rfl)]
            refine wp_load_mid 59 (.tmp 13) rfl gzt 0 rfl (kC (zt)) _ (rangeAt_of_blk (bgzt.below hb lgzt)) Tryd.underlying59 rfl (infoN.trans (by rw [kC_length])) ?_
            exact hK _ _ _ rfl (Below.refl _ _) IsOut
          refine ⟨fun u W hb hd K hK => ?_, ?_⟩
          · simp only [Facts, nthR, Is, and_true] at hd
            simp only [hd] at hK ⊢
            clear hd
            go_simp
            refine (SubE htc (hM.up hb)).mono ?_
            rintro e wy ⟨rfl, hby⟩
            exact hK _ _ _ rfl hby IsOut
          refine ⟨fun u W hb hd K hK => ?_, ?_⟩
          · clear hd
            go_simp
            apply hK
            · simp only [Act.put, List.setIfInBounds_toArray, List.set_cons_zero, List.set_cons_succ]
              exact rfl
            · exact (Below.refl _ _).alloc (Nat.le_refl _) _
            · exact ⟨_, rfl, hb.size, Blk.new_of _ _ _ _ rfl⟩
            · exact ⟨_, rfl, Nat.le_refl _, by simp⟩
          exact trivial
        · skip
          exact trivial
        · exact (.is (.is (.is (.is (.is (.is (.is (.cons (fun v V V' ⟨g', h1, h2, h3⟩ hb => ⟨g', h1, h2, h3.below hb h3.lt⟩) .nil))))))))
        · intro u W hb hd hne
          simp only [List.drop_succ_cons, List.drop_zero]
          simp only [Facts, nthR, Is, and_true] at hd
          obtain ⟨h6, ⟨gtc, h7, hngtc, bgtc⟩⟩ := hd
          simp only [h6, h7]
          clear h6 h7 hne
          have lM := hM.lt
          have lG := h.lt
          have hsz := hb0.size
          have hGo := HG.out
          replace bg0 := bg0.below hb lg0
          replace bg1 := bg1.below hb lg1
          replace bg2 := bg2.below hb lg2
          replace bg3 := bg3.below hb lg3
          replace bgxx := bgxx.below hb lgxx
          replace bgyy := bgyy.below hb lgyy
          replace bgzz := bgzz.below hb lgzz
          replace bgxy := bgxy.below hb lgxy
          replace bgxz := bgxz.below hb lgxz
          replace bgyz := bgyz.below hb lgyz
          replace bgzt := bgzt.below hb lgzt
          replace bgta := bgta.below hb lgta
          replace bgtb := bgtb.below hb lgtb
          replace hM := hM.up hb
          replace hb0 := hb0.trans (hb.mono hb0.size)
          clear hb
          go_upto_region 9 with (first
            | ((with_reducible refine (?_ : wpList _ _ _ (Oper.mk none _ _ _ _ _ :: _) _ _)); go_loud (refine wpList_store_blk rfl 59 (.tmp 16) (.tmp 105) rfl rfl gtc (kC (tc)) rfl rfl _ _ (bgtc) (infoN.trans (by rw [kC_length])) (by first | rfl | rw [kC_length, nC_length]) (oneK4 _) ?_); intro w9 bn hgs; replace bg0 := bg0.grown hgs (fun e => by injection e with e; omega); replace bg1 := bg1.grown hgs (fun e => by injection e with e; omega); replace bg2 := bg2.grown hgs (fun e => by injection e with e; omega); replace bg3 := bg3.grown hgs (fun e => by injection e with e; omega); replace bgxx := bgxx.grown hgs (fun e => by injection e with e; omega); replace bgyy := bgyy.grown hgs (fun e => by injection e with e; omega); replace bgzz := bgzz.grown hgs (fun e => by injection e with e; omega); replace bgxy := bgxy.grown hgs (fun e => by injection e with e; omega); replace bgxz := bgxz.grown hgs (fun e => by injection e with e; omega); replace bgyz := bgyz.grown hgs (fun e => by injection e with e; omega); replace bgzt := bgzt.grown hgs (fun e => by injection e with e; omega); replace bgta := bgta.grown hgs (fun e => by injection e with e; omega); replace bgtb := bgtb.grown hgs (fun e => by injection e with e; omega); replace hM := hM.grown hgs (fun e => by omega); replace hb0 := below_new hb0 hgs (by omega) hb0.size; clear hgs bgtc; have bgtc := bn; clear bn))
          clear lM lG hsz hGo lg0 lg1 lg2 lg3 lgxx lgyy lgzz lgxy lgxz lgyz lgzt lgta lgtb hngtc
          have lg0 := bg0.lt
          have lg1 := bg1.lt
          have lg2 := bg2.lt
          have lg3 := bg3.lt
          have lgxx := bgxx.lt
          have lgyy := bgyy.lt
          have lgzz := bgzz.lt
          have lgxy := bgxy.lt
          have lgxz := bgxz.lt
          have lgyz := bgyz.lt
          have lgzt := bgzt.lt
          have lgta := bgta.lt
          have lgtb := bgtb.lt
          have lgtc := bgtc.lt
          apply wp_region_fresh (m := 12) (Z := []) (Fl := [false, false, false, false, false, false, false, false, false, false, true, true]) (D := [[], [0], [], [], [0, 1, 2, 3], [], [5], [], [], [0, 1, 2, 3, 4, 5, 6, 7, 8], [], [], [0, 1, 2, 3, 4, 5, 6, 7, 8, 9, 10, 11], [0, 1, 2, 3, 4, 5, 6, 7, 8, 9, 10, 11, 12]]) (J := [[], [0], [], [], [1, 2, 3], [], [5], [], [], [6, 7, 8], [], []]) (Je := [4, 9, 10, 11]) (Rs := [Is _, Is _, Is _, Is _, Is _, Is _, Is _, Is _, Is _, Is _, fun v V => ∃ g', v = .pointer (some ⟨g', 0, none⟩) ∧ w9.heap.size ≤ g' ∧ Blk V g' 59 (nC zeroP), fun v V => ∃ g', v = .pointer (some ⟨g', 0, none⟩) ∧ w9.heap.size ≤ g' ∧ Blk V g' 59 (nC zeroP)])
          · kernel_rfl
          · kernel_rfl
          · kernel_rfl
          · kernel_rfl
          · kernel_rfl
          · kernel_rfl
          · kernel_rfl
          · kernel_rfl
          · exact fun h => absurd rfl h
          · intro u
            simp only [List.take_succ_cons, List.take_zero, List.map_cons, List.map_nil, fillU, List.setIfInBounds_toArray, List.set_cons_zero, List.set_cons_succ, Nat.zero_add, Nat.reduceAdd]
            exact rfl
          · simp only [List.take_succ_cons, List.take_zero]
            refine ⟨fun u W hb hd K hK => ?_, ?_⟩
            · clear hd
              go_simp
              apply hK
              · simp only [Act.put, List.setIfInBounds_toArray, List.set_cons_zero, List.set_cons_succ]
                exact rfl
              · exact Below.refl _ _
              · exact IsOut
            refine ⟨fun u W hb hd K hK => ?_, ?_⟩
            · simp only [Facts, nthR, Is, and_true] at hd
              simp only [hd] at hK ⊢
              clear hd
              have hc := ((bg0.below hb lg0)).cell 0
              go_simp
              apply hK
              · simp only [Act.put, List.setIfInBounds_toArray, List.set_cons_zero, List.set_cons_succ]
                exact rfl
              · exact Below.refl _ _
              · exact IsOut
            refine ⟨fun u W hb hd K hK => ?_, ?_⟩
            · clear hd
              rw [if_pos (by rfl)]
              refine wp_load_mid 59 (.tmp 8) rfl gyy 0 rfl (kC (yy)) _ (rangeAt_of_blk (bgyy.below hb lgyy)) Tryd.underlying59 rfl (infoN.trans (by rw [kC_length])) ?_
              exact hK _ _ _ rfl (Below.refl _ _) IsOut
            refine ⟨fun u W hb hd K hK => ?_, ?_⟩
            · clear hd
              rw [if_pos (by rfl)]
              refine wp_load_mid 59 (.tmp 14) rfl gta 0 rfl (kC (ta)) _ (rangeAt_of_blk (bgta.below hb lgta)) Tryd.underlying59 rfl (infoN.trans (by rw [kC_length])) ?_
              exact hK _ _ _ rfl (Below.refl _ _) IsOut
            refine ⟨fun u W hb hd K hK => ?_, ?_⟩
            · simp only [Facts, nthR, Is, and_true] at hd
              simp only [hd] at hK ⊢
              clear hd
              go_simp
              refine (AddE hmo (hM.up hb)).mono ?_
              rintro e wy ⟨rfl, hby⟩
              exact hK _ _ _ rfl hby IsOut
            refine ⟨fun u W hb hd K hK => ?_, ?_⟩
            · clear hd
              go_simp
              apply hK
              · simp only [Act.put, List.setIfInBounds_toArray, List.set_cons_zero, List.set_cons_succ]
                exact rfl
              · exact Below.refl _ _
              · exact IsOut
            refine ⟨fun u W hb hd K hK => ?_, ?_⟩
            · simp only [Facts, nthR, Is, and_true] at hd
              simp only [hd] at hK ⊢
              clear hd
              have hc := ((bg0.below hb lg0)).cell 0
              go_simp
              apply hK
              · simp only [Act.put, List.setIfInBounds_toArray, List.set_cons_zero, List.set_cons_succ]
                exact rfl
              · exact Below.refl _ _
              · exact IsOut
            refine ⟨fun u W hb hd K hK => ?_, ?_⟩
            · clear hd
              rw [if_pos (by rfl)]
              refine wp_load_mid 59 (.tmp 8) rfl gyy 0 rfl (kC (yy)) _ (rangeAt_of_blk (bgyy.below hb lgyy)) Tryd.underlying59 rfl (infoN.trans (by rw [kC_length])) ?_
              exact hK _ _ _ rfl (Below.refl _ _) IsOut
            refine ⟨fun u W hb hd K hK => ?_, ?_⟩
            · clear hd
              rw [if_pos (by rfl)]
              refine wp_load_mid 59 (.tmp 14) rfl gta 0 rfl (kC (ta)) _ (rangeAt_of_blk (bgta.below hb lgta)) Tryd.underlying59 rfl (infoN.trans (by rw [kC_length])) ?_
              exact hK _ _ _ rfl (Below.refl _ _) IsOut
            refine ⟨fun u W hb hd K hK => ?_, ?_⟩
            · simp only [Facts, nthR, Is, and_true] at hd
              simp only [hd] at hK ⊢
              clear hd
              go_simp
              refine (SubE hle (hM.up hb)).mono ?_
              rintro e wy ⟨rfl, hby⟩
              exact hK _ _ _ rfl hby IsOut
            refine ⟨fun u W hb hd K hK => ?_, ?_⟩
            · clear hd
              go_simp
              apply hK
              · simp only [Act.put, List.setIfInBounds_toArray, List.set_cons_zero, List.set_cons_succ]
                exact rfl
              · exact (Below.refl _ _).alloc (Nat.le_refl _) _
              · exact ⟨_, rfl, hb.size, Blk.new_of _ _ _ _ rfl⟩
              · exact ⟨_, rfl, Nat.le_refl _, by simp⟩
            refine ⟨fun u W hb hd K hK => ?_, ?_⟩
            · clear hd
              go_simp
              apply hK
              · simp only [Act.put, List.setIfInBounds_toArray, List.set_cons_zero, List.set_cons_succ]
                exact rfl
              · exact (Below.refl _ _).alloc (Nat.le_refl _) _
              · exact ⟨_, rfl, hb.size, Blk.new_of _ _ _ _ rfl⟩
              · exact ⟨_, rfl, Nat.le_refl _, by simp⟩
            exact trivial
          · skip
            exact trivial
          · exact (.is (.is (.is (.is (.is (.is (.is (.is (.is (.is (.cons (fun v V V' ⟨g', h1, h2, h3⟩ hb => ⟨g', h1, h2, h3.below hb h3.lt⟩) (.cons (fun v V V' ⟨g', h1, h2, h3⟩ hb => ⟨g', h1, h2, h3.below hb h3.lt⟩) .nil))))))))))))
          · intro u W hb hd hne
            simp only [List.drop_succ_cons, List.drop_zero]
            simp only [Facts, nthR, Is, and_true] at hd
            obtain ⟨h4, h9, ⟨gmo, h10, hngmo, bgmo⟩, ⟨gle, h11, hngle, bgle⟩⟩ := hd
            have hne1011 : gmo ≠ gle := fun e => hne 10 11 rfl rfl (by decide) (by decide) (by decide) (by rw [h10, h11, e])
            simp only [h4, h9, h10, h11]
            clear h4 h9 h10 h11 hne
            have lM := hM.lt
            have lG := h.lt
            have hsz := hb0.size
            have hGo := HG.out
            replace bg0 := bg0.below hb lg0
            replace bg1 := bg1.below hb lg1
            replace bg2 := bg2.below hb lg2
            replace bg3 := bg3.below hb lg3
            replace bgxx := bgxx.below hb lgxx
            replace bgyy := bgyy.below hb lgyy
            replace bgzz := bgzz.below hb lgzz
            replace bgxy := bgxy.below hb lgxy
            replace bgxz := bgxz.below hb lgxz
            replace bgyz := bgyz.below hb lgyz
            replace bgzt := bgzt.below hb lgzt
            replace bgta := bgta.below hb lgta
            replace bgtb := bgtb.below hb lgtb
            replace bgtc := bgtc.below hb lgtc
            replace hM := hM.up hb
            replace hb0 := hb0.trans (hb.mono hb0.size)
            clear hb
            go_upto_region 10 with (first
              | ((with_reducible refine (?_ : wpList _ _ _ (Oper.mk none _ _ _ _ _ :: _) _ _)); go_loud (refine wpList_store_blk rfl 59 (.tmp 17) (.tmp 110) rfl rfl gmo (kC (mo)) rfl rfl _ _ (bgmo) (infoN.trans (by rw [kC_length])) (by first | rfl | rw [kC_length, nC_length]) (oneK4 _) ?_); intro waa bn hgs; replace bg0 := bg0.grown hgs (fun e => by injection e with e; omega); replace bg1 := bg1.grown hgs (fun e => by injection e with e; omega); replace bg2 := bg2.grown hgs (fun e => by injection e with e; omega); replace bg3 := bg3.grown hgs (fun e => by injection e with e; omega); replace bgxx := bgxx.grown hgs (fun e => by injection e with e; omega); replace bgyy := bgyy.grown hgs (fun e => by injection e with e; omega); replace bgzz := bgzz.grown hgs (fun e => by injection e with e; omega); replace bgxy := bgxy.grown hgs (fun e => by injection e with e; omega); replace bgxz := bgxz.grown hgs (fun e => by injection e with e; omega); replace bgyz := bgyz.grown hgs (fun e => by injection e with e; omega); replace bgzt := bgzt.grown hgs (fun e => by injection e with e; omega); replace bgta := bgta.grown hgs (fun e => by injection e with e; omega); replace bgtb := bgtb.grown hgs (fun e => by injection e with e; omega); replace bgtc := bgtc.grown hgs (fun e => by injection e with e; omega); replace bgle := bgle.grown hgs (fun e => by injection e with e; omega); replace hM := hM.grown hgs (fun e => by omega); replace hb0 := below_new hb0 hgs (by omega) hb0.size; clear hgs bgmo; have bgmo := bn; clear bn)
              | ((with_reducible refine (?_ : wpList _ _ _ (Oper.mk none _ _ _ _ _ :: _) _ _)); go_loud (refine wpList_store_blk rfl 59 (.tmp 18) (.tmp 115) rfl rfl gle (kC (le)) rfl rfl _ _ (bgle) (infoN.trans (by rw [kC_length])) (by first | rfl | rw [kC_length, nC_length]) (oneK4 _) ?_); intro wa bn hgs; replace bg0 := bg0.grown hgs (fun e => by injection e with e; omega); replace bg1 := bg1.grown hgs (fun e => by injection e with e; omega); replace bg2 := bg2.grown hgs (fun e => by injection e with e; omega); replace bg3 := bg3.grown hgs (fun e => by injection e with e; omega); replace bgxx := bgxx.grown hgs (fun e => by injection e with e; omega); replace bgyy := bgyy.grown hgs (fun e => by injection e with e; omega); replace bgzz := bgzz.grown hgs (fun e => by injection e with e; omega); replace bgxy := bgxy.grown hgs (fun e => by injection e with e; omega); replace bgxz := bgxz.grown hgs (fun e => by injection e with e; omega); replace bgyz := bgyz.grown hgs (fun e => by injection e with e; omega); replace bgzt := bgzt.grown hgs (fun e => by injection e with e; omega); replace bgta := bgta.grown hgs (fun e => by injection e with e; omega); replace bgtb := bgtb.grown hgs (fun e => by injection e with e; omega); replace bgtc := bgtc.grown hgs (fun e => by injection e with e; omega); replace bgmo := bgmo.grown hgs (fun e => by injection e with e; omega); replace hM := hM.grown hgs (fun e => by omega); replace hb0 := below_new hb0 hgs (by omega) hb0.size; clear hgs bgle; have bgle := bn; clear bn))
            clear lM lG hsz hGo lg0 lg1 lg2 lg3 lgxx lgyy lgzz lgxy lgxz lgyz lgzt lgta lgtb lgtc hngmo hngle hne1011
            have lg0 := bg0.lt
            have lg1 := bg1.lt
            have lg2 := bg2.lt
            have lg3 := bg3.lt
            have lgxx := bgxx.lt
            have lgyy := bgyy.lt
            have lgzz := bgzz.lt
            have lgxy := bgxy.lt
            have lgxz := bgxz.lt
            have lgyz := bgyz.lt
            have lgzt := bgzt.lt
            have lgta := bgta.lt
            have lgtb := bgtb.lt
            have lgtc := bgtc.lt
            have lgmo := bgmo.lt
            have lgle := bgle.lt
            apply wp_region_once_tail (m := 40) (Z := []) (D := [[], [0], [], [2], [], [], [2, 3, 4, 5], [], [7], [], [], [2, 3, 4, 5, 6, 7, 8, 9, 10], [0, 1, 2, 3, 4, 5, 6, 7, 8, 9, 10, 11], [], [13], [], [15], [], [], [0, 1, 2, 3, 4, 5, 6, 7, 8, 9, 10, 11, 12, 15, 16, 17, 18], [], [20], [], [], [0, 1, 2, 3, 4, 5, 6, 7, 8, 9, 10, 11, 12, 15, 16, 17, 18, 19, 20, 21, 22, 23], [0, 1, 2, 3, 4, 5, 6, 7, 8, 9, 10, 11, 12, 13, 14, 15, 16, 17, 18, 19, 20, 21, 22, 23, 24], [], [26], [], [28], [], [], [0, 1, 2, 3, 4, 5, 6, 7, 8, 9, 10, 11, 12, 13, 14, 15, 16, 17, 18, 19, 20, 21, 22, 23, 24, 25, 28, 29, 30, 31], [], [33], [], [], [0, 1, 2, 3, 4, 5, 6, 7, 8, 9, 10, 11, 12, 13, 14, 15, 16, 17, 18, 19, 20, 21, 22, 23, 24, 25, 28, 29, 30, 31, 32, 33, 34, 35, 36], [0, 1, 2, 3, 4, 5, 6, 7, 8, 9, 10, 11, 12, 13, 14, 15, 16, 17, 18, 19, 20, 21, 22, 23, 24, 25, 26, 27, 28, 29, 30, 31, 32, 33, 34, 35, 36, 37], [0, 1, 2, 3, 4, 5, 6, 7, 8, 9, 10, 11, 12, 13, 14, 15, 16, 17, 18, 19, 20, 21, 22, 23, 24, 25, 26, 27, 28, 29, 30, 31, 32, 33, 34, 35, 36, 37, 38], [0, 1, 2, 3, 4, 5, 6, 7, 8, 9, 10, 11, 12, 13, 14, 15, 16, 17, 18, 19, 20, 21, 22, 23, 24, 25, 26, 27, 28, 29, 30, 31, 32, 33, 34, 35, 36, 37, 38, 39]]) (J := [[], [0], [], [2], [], [], [3, 4, 5], [], [7], [], [], [8, 9, 10], [1, 6, 11], [], [13], [], [15], [], [], [16, 17, 18], [], [20], [], [], [21, 22, 23], [14, 19, 24], [], [26], [], [28], [], [], [29, 30, 31], [], [33], [], [], [34, 35, 36], [27, 32, 37], [12, 25, 38]]) (Je := [39]) (Rs := [Is _, Is _, Is _, Is _, Is _, Is _, Is _, Is _, Is _, Is _, Is _, Is _, Is _, Is _, Is _, Is _, Is _, Is _, Is _, Is _, Is _, Is _, Is _, Is _, Is _, Is _, Is _, Is _, Is _, Is _, Is _, Is _, Is _, Is _, Is _, Is _, Is _, Is _, Is _, Is _])
            · kernel_rfl
            · kernel_rfl
            · kernel_rfl
            · kernel_rfl
            · kernel_rfl
            · kernel_rfl
            · kernel_rfl
            · exact fun h => absurd rfl h
            · intro u
              simp only [List.take_succ_cons, List.take_zero, List.map_cons, List.map_nil, fillU, List.setIfInBounds_toArray, List.set_cons_zero, List.set_cons_succ, Nat.zero_add, Nat.reduceAdd]
              exact rfl
            · simp only [List.take_succ_cons, List.take_zero]
              refine ⟨fun u W hb hd K hK => ?_, ?_⟩
              · clear hd
                go_simp
                apply hK
                · simp only [Act.put, List.setIfInBounds_toArray, List.set_cons_zero, List.set_cons_succ]
                  exact rfl
                · exact Below.refl _ _
                · exact IsOut
              refine ⟨fun u W hb hd K hK => ?_, ?_⟩
              · simp only [Facts, nthR, Is, and_true] at hd
                simp only [hd] at hK ⊢
                clear hd
                have hc := ((bg0.below hb lg0)).cell 0
                go_simp
                apply hK
                · simp only [Act.put, List.setIfInBounds_toArray, List.set_cons_zero, List.set_cons_succ]
                  exact rfl
                · exact Below.refl _ _
                · exact IsOut
              refine ⟨fun u W hb hd K hK => ?_, ?_⟩
              · clear hd
                go_simp
                apply hK
                · simp only [Act.put, List.setIfInBounds_toArray, List.set_cons_zero, List.set_cons_succ]
                  exact rfl
                · exact Below.refl _ _
                · exact IsOut
              refine ⟨fun u W hb hd K hK => ?_, ?_⟩
              · simp only [Facts, nthR, Is, and_true] at hd
                simp only [hd] at hK ⊢
                clear hd
                have hc := ((bg0.below hb lg0)).cell 0
                go_simp
                apply hK
                · simp only [Act.put, List.setIfInBounds_toArray, List.set_cons_zero, List.set_cons_succ]
                  exact rfl
                · exact Below.refl _ _
                · exact IsOut
              refine ⟨fun u W hb hd K hK => ?_, ?_⟩
              · clear hd
                rw [if_pos (by rfl)]
                refine wp_load_mid 59 (.tmp 10) rfl gxy 0 rfl (kC (xy)) _ (rangeAt_of_blk (bgxy.below hb lgxy)) Tryd.underlying59 rfl (infoN.trans (by rw [kC_length])) ?_
                exact hK _ _ _ rfl (Below.refl _ _) IsOut
              refine ⟨fun u W hb hd K hK => ?_, ?_⟩
              · clear hd
                rw [if_pos (by rfl)]
                refine wp_load_mid 59 (.tmp 17) rfl gmo 0 rfl (kC (mo)) _ (rangeAt_of_blk (bgmo.below hb lgmo)) Tryd.underlying59 rfl (infoN.trans (by rw [kC_length])) ?_
                exact hK _ _ _ rfl (Below.refl _ _) IsOut
              refine ⟨fun u W hb hd K hK => ?_, ?_⟩
              · simp only [Facts, nthR, Is, and_true] at hd
                simp only [hd] at hK ⊢
                clear hd
                go_simp
                refine (MulE hp1 (hM.up hb)).mono ?_
                rintro e wy ⟨rfl, hby⟩
                exact hK _ _ _ rfl hby IsOut
              refine ⟨fun u W hb hd K hK => ?_, ?_⟩
              · clear hd
                go_simp
                apply hK
                · simp only [Act.put, List.setIfInBounds_toArray, List.set_cons_zero, List.set_cons_succ]
                  exact rfl
                · exact Below.refl _ _
                · exact IsOut
              refine ⟨fun u W hb hd K hK => ?_, ?_⟩
              · simp only [Facts, nthR, Is, and_true] at hd
                simp only [hd] at hK ⊢
                clear hd
                have hc := ((bg0.below hb lg0)).cell 0
                go_simp
                apply hK
                · simp only [Act.put, List.setIfInBounds_toArray, List.set_cons_zero, List.set_cons_succ]
                  exact rfl
                · exact Below.refl _ _
                · exact IsOut
              refine ⟨fun u W hb hd K hK => ?_, ?_⟩
              · clear hd
                rw [if_pos (by rfl)]
                refine wp_load_mid 59 (.tmp 12) rfl gyz 0 rfl (kC (yz)) _ (rangeAt_of_blk (bgyz.below hb lgyz)) Tryd.underlying59 rfl (infoN.trans (by rw [kC_length])) ?_
                exact hK _ _ _ rfl (Below.refl _ _) IsOut
              refine ⟨fun u W hb hd K hK => ?_, ?_⟩
              · clear hd
                rw [if_pos (by rfl)]
                refine wp_load_mid 59 (.tmp 15) rfl gtb 0 rfl (kC (tb)) _ (rangeAt_of_blk (bgtb.below hb lgtb)) Tryd.underlying59 rfl (infoN.trans (by rw [kC_length])) ?_
                exact hK _ _ _ rfl (Below.refl _ _) IsOut
              refine ⟨fun u W hb hd K hK => ?_, ?_⟩
              · simp only [Facts, nthR, Is, and_true] at hd
                simp only [hd] at hK ⊢
                clear hd
                go_simp
                refine (MulE hp2 (hM.up hb)).mono ?_
                rintro e wy ⟨rfl, hby⟩
                exact hK _ _ _ rfl hby IsOut
              refine ⟨fun u W hb hd K hK => ?_, ?_⟩
              · simp only [Facts, nthR, Is, and_true] at hd
                simp only [hd] at hK ⊢
                clear hd
                go_simp
                refine (SubE hrx (hM.up hb)).mono ?_
                rintro e wy ⟨rfl, hby⟩
                exact hK _ _ _ rfl hby IsOut
              refine ⟨fun u W hb hd K hK => ?_, ?_⟩
              · clear hd
                go_simp
                apply hK
                · simp only [Act.put, List.setIfInBounds_toArray, List.set_cons_zero, List.set_cons_succ]
                  exact rfl
                · exact Below.refl _ _
                · exact IsOut
              refine ⟨fun u W hb hd K hK => ?_, ?_⟩
              · simp only [Facts, nthR, Is, and_true] at hd
                simp only [hd] at hK ⊢
                clear hd
                have hc := ((bg0.below hb lg0)).cell 0
                go_simp
                apply hK
                · simp only [Act.put, List.setIfInBounds_toArray, List.set_cons_zero, List.set_cons_succ]
                  exact rfl
                · exact Below.refl _ _
                · exact IsOut
              refine ⟨fun u W hb hd K hK => ?_, ?_⟩
              · clear hd
                go_simp
                apply hK
                · simp only [Act.put, List.setIfInBounds_toArray, List.set_cons_zero, List.set_cons_succ]
                  exact rfl
                · exact Below.refl _ _
                · exact IsOut
              refine ⟨fun u W hb hd K hK => ?_, ?_⟩
              · simp only [Facts, nthR, Is, and_true] at hd
                simp only [hd] at hK ⊢
                clear hd
                have hc := ((bg0.below hb lg0)).cell 0
                go_simp
                apply hK
                · simp only [Act.put, List.setIfInBounds_toArray, List.set_cons_zero, List.set_cons_succ]
                  exact rfl
                · exact Below.refl _ _
                · exact IsOut
              refine ⟨fun u W hb hd K hK => ?_, ?_⟩
              · clear hd
                rw [if_pos (by rfl)]
                refine wp_load_mid 59 (.tmp 17) rfl gmo 0 rfl (kC (mo)) _ (rangeAt_of_blk (bgmo.below hb lgmo)) Tryd.underlying59 rfl (infoN.trans (by rw [kC_length])) ?_
                exact hK _ _ _ rfl (Below.refl _ _) IsOut
              refine ⟨fun u W hb hd K hK => ?_, ?_⟩
              · clear hd
                rw [if_pos (by rfl)]
                refine wp_load_mid 59 (.tmp 18) rfl gle 0 rfl (kC (le)) _ (rangeAt_of_blk (bgle.below hb lgle)) Tryd.underlying59 rfl (infoN.trans (by rw [kC_length])) ?_
                exact hK _ _ _ rfl (Below.refl _ _) IsOut
              refine ⟨fun u W hb hd K hK => ?_, ?_⟩
              · simp only [Facts, nthR, Is, and_true] at hd
                simp only [hd] at hK ⊢
                clear hd
                go_simp
                refine (MulE hp3 (hM.up hb)).mono ?_
                rintro e wy ⟨rfl, hby⟩
                exact hK _ _ _ rfl hby IsOut
              refine ⟨fun u W hb hd K hK => ?_, ?_⟩
              · clear hd
                go_simp
                apply hK
                · simp only [Act.put, List.setIfInBounds_toArray, List.set_cons_zero, List.set_cons_succ]
                  exact rfl
                · exact Below.refl _ _
                · exact IsOut
              refine ⟨fun u W hb hd K hK => ?_, ?_⟩
              · simp only [Facts, nthR, Is, and_true] at hd
                simp only [hd] at hK ⊢
                clear hd
                have hc := ((bg0.below hb lg0)).cell 0
                go_simp
                apply hK
                · simp only [Act.put, List.setIfInBounds_toArray, List.set_cons_zero, List.set_cons_succ]
                  exact rfl
                · exact Below.refl _ _
                · exact IsOut
              refine ⟨fun u W hb hd K hK => ?_, ?_⟩
              · clear hd
                rw [if_pos (by rfl)]
                refine wp_load_mid 59 (.tmp 15) rfl gtb 0 rfl (kC (tb)) _ (rangeAt_of_blk (bgtb.below hb lgtb)) Tryd.underlying59 rfl (infoN.trans (by rw [kC_length])) ?_
                exact hK _ _ _ rfl (Below.refl _ _) IsOut
              refine ⟨fun u W hb hd K hK => ?_, ?_⟩
              · clear hd
                rw [if_pos (by rfl)]
                refine wp_load_mid 59 (.tmp 16) rfl gtc 0 rfl (kC (tc)) _ (rangeAt_of_blk (bgtc.below hb lgtc)) Tryd.underlying59 rfl (infoN.trans (by rw [kC_length])) ?_
                exact hK _ _ _ rfl (Below.refl _ _) IsOut
              refine ⟨fun u W hb hd K hK => ?_, ?_⟩
              · simp only [Facts, nthR, Is, and_true] at hd
                simp only [hd] at hK ⊢
                clear hd
                go_simp
                refine (MulE hp4 (hM.up hb)).mono ?_
                rintro e wy ⟨rfl, hby⟩
                exact hK _ _ _ rfl hby IsOut
              refine ⟨fun u W hb hd K hK => ?_, ?_⟩
              · simp only [Facts, nthR, Is, and_true] at hd
                simp only [hd] at hK ⊢
                clear hd
                go_simp
                refine (AddE hry (hM.up hb)).mono ?_
                rintro e wy ⟨rfl, hby⟩
                exact hK _ _ _ rfl hby IsOut
              refine ⟨fun u W hb hd K hK => ?_, ?_⟩
              · clear hd
                go_simp
                apply hK
                · simp only [Act.put, List.setIfInBounds_toArray, List.set_cons_zero, List.set_cons_succ]
                  exact rfl
                · exact Below.refl _ _
                · exact IsOut
              refine ⟨fun u W hb hd K hK => ?_, ?_⟩
              · simp only [Facts, nthR, Is, and_true] at hd
                simp only [hd] at hK ⊢
                clear hd
                have hc := ((bg0.below hb lg0)).cell 0
                go_simp
                apply hK
                · simp only [Act.put, List.setIfInBounds_toArray, List.set_cons_zero, List.set_cons_succ]
                  exact rfl
                · exact Below.refl _ _
                · exact IsOut
              refine ⟨fun u W hb hd K hK => ?_, ?_⟩
              · clear hd
                go_simp
                apply hK
                · simp only [Act.put, List.setIfInBounds_toArray, List.set_cons_zero, List.set_cons_succ]
                  exact rfl
                · exact Below.refl _ _
                · exact IsOut
              refine ⟨fun u W hb hd K hK => ?_, ?_⟩
              · simp only [Facts, nthR, Is, and_true] at hd
                simp only [hd] at hK ⊢
                clear hd
                have hc := ((bg0.below hb lg0)).cell 0
                go_simp
                apply hK
                · simp only [Act.put, List.setIfInBounds_toArray, List.set_cons_zero, List.set_cons_succ]
                  exact rfl
                · exact Below.refl _ _
                · exact IsOut
              refine ⟨fun u W hb hd K hK => ?_, ?_⟩
              · clear hd
                rw [if_pos (by rfl)]
                refine wp_load_mid 59 (.tmp 12) rfl gyz 0 rfl (kC (yz)) _ (rangeAt_of_blk (bgyz.below hb lgyz)) Tryd.underlying59 rfl (infoN.trans (by rw [kC_length])) ?_
                exact hK _ _ _ rfl (Below.refl _ _) IsOut
              refine ⟨fun u W hb hd K hK => ?_, ?_⟩
              · clear hd
                rw [if_pos (by rfl)]
                refine wp_load_mid 59 (.tmp 18) rfl gle 0 rfl (kC (le)) _ (rangeAt_of_blk (bgle.below hb lgle)) Tryd.underlying59 rfl (infoN.trans (by rw [kC_length])) ?_
                exact hK _ _ _ rfl (Below.refl _ _) IsOut
              refine ⟨fun u W hb hd K hK => ?_, ?_⟩
              · simp only [Facts, nthR, Is, and_true] at hd
                simp only [hd] at hK ⊢
                clear hd
                go_simp
                refine (MulE hp5 (hM.up hb)).mono ?_
                rintro e wy ⟨rfl, hby⟩
                exact hK _ _ _ rfl hby IsOut
              refine ⟨fun u W hb hd K hK => ?_, ?_⟩
              · clear hd
                go_simp
                apply hK
                · simp only [Act.put, List.setIfInBounds_toArray, List.set_cons_zero, List.set_cons_succ]
                  exact rfl
                · exact Below.refl _ _
                · exact IsOut
              refine ⟨fun u W hb hd K hK => ?_, ?_⟩
              · simp only [Facts, nthR, Is, and_true] at hd
                simp only [hd] at hK ⊢
                clear hd
                have hc := ((bg0.below hb lg0)).cell 0
                go_simp
                apply hK
                · simp only [Act.put, List.setIfInBounds_toArray, List.set_cons_zero, List.set_cons_succ]
                  exact rfl
                · exact Below.refl _ _
                · exact IsOut
              refine ⟨fun u W hb hd K hK => ?_, ?_⟩
              · clear hd
                rw [if_pos (by rfl)]
                refine wp_load_mid 59 (.tmp 10) rfl gxy 0 rfl (kC (xy)) _ (rangeAt_of_blk (bgxy.below hb lgxy)) Tryd.underlying59 rfl (infoN.trans (by rw [kC_length])) ?_
                exact hK _ _ _ rfl (Below.refl _ _) IsOut
              refine ⟨fun u W hb hd K hK => ?_, ?_⟩
              · clear hd
                rw [if_pos (by rfl)]
                refine wp_load_mid 59 (.tmp 16) rfl gtc 0 rfl (kC (tc)) _ (rangeAt_of_blk (bgtc.below hb lgtc)) Tryd.underlying59 rfl (infoN.trans (by rw [kC_length])) ?_
                exact hK _ _ _ rfl (Below.refl _ _) IsOut
              refine ⟨fun u W hb hd K hK => ?_, ?_⟩
              · simp only [Facts, nthR, Is, and_true] at hd
                simp only [hd] at hK ⊢
                clear hd
                go_simp
                refine (MulE hp6 (hM.up hb)).mono ?_
                rintro e wy ⟨rfl, hby⟩
                exact hK _ _ _ rfl hby IsOut
              refine ⟨fun u W hb hd K hK => ?_, ?_⟩
              · simp only [Facts, nthR, Is, and_true] at hd
                simp only [hd] at hK ⊢
                clear hd
                go_simp
                refine (AddE hrz (hM.up hb)).mono ?_
                rintro e wy ⟨rfl, hby⟩
                exact hK _ _ _ rfl hby IsOut
              refine ⟨fun u W hb hd K hK => ?_, ?_⟩
              · simp only [Facts, nthR, Is, and_true] at hd
                simp only [hd] at hK ⊢
                clear hd
                rw [if_pos (by rfl)]
                refine wp_built3 67 (.tmp 128) (.tmp 141) (.tmp 154) rfl (.agg (kC rx).toArray) (.agg (kC ry).toArray) (.agg (kC rz).toArray) rfl rfl rfl (spC ⟨rx, ry, rz⟩).toArray (builtS rx ry rz) ?_
                exact hK _ _ _ rfl (Below.refl _ _) IsOut
              exact trivial
            · skip
              exact trivial
            · exact (.is (.is (.is (.is (.is (.is (.is (.is (.is (.is (.is (.is (.is (.is (.is (.is (.is (.is (.is (.is (.is (.is (.is (.is (.is (.is (.is (.is (.is (.is (.is (.is (.is (.is (.is (.is (.is (.is (.is (.is .nil))))))))))))))))))))))))))))))))))))))))
            · intro u W hb hd
              simp only [List.drop_succ_cons, List.drop_zero]
              simp only [Facts, nthR, Is, and_true] at hd
              have h39 := hd
              clear hd
              simp only [h39]
              clear h39
              clear bg0 lg0 bg1 lg1 bg2 lg2 bgxx lgxx bgyy lgyy bgzz lgzz bgxy lgxy bgxz lgxz bgyz lgyz bgzt lgzt bgta lgta bgtb lgtb bgtc lgtc bgmo lgmo bgle lgle
              have lM := hM.lt
              have lG := h.lt
              have hsz := hb0.size
              have hGo := HG.out
              replace bg3 := bg3.below hb lg3
              replace hM := hM.up hb
              replace hb0 := hb0.trans (hb.mono hb0.size)
              clear hb
              go_wp2_with (first
                | ((with_reducible refine (?_ : wpList _ _ _ (Oper.mk none _ _ _ _ _ :: _) _ _)); go_loud (refine wpList_store_blk rfl 67 (.tmp 6) (.tmp 155) rfl rfl g3 (spC ⟨rx, ry, rz⟩) rfl rfl _ _ (bg3) (infoS.trans (by rw [spC_length])) (by first | rfl | rw [spC_length, spZ_length]) (oneS _) ?_); intro wz bn hgs; replace hM := hM.grown hgs (fun e => by omega); replace hb0 := below_new hb0 hgs (by omega) hb0.size; clear hgs bg3; have bg3 := bn; clear bn))
              clear lM lG hsz hGo lg3
              have lg3 := bg3.lt
              refine bodyPost_ret (v := .agg _) (results_cell_row rfl _ _ g3 67 _ (0, 0) _ rfl bg3.raw Tryd.underlying67 rfl (infoS.trans (by rw [List.size_toArray, spC_length]))) rfl ?_
              exact ⟨rfl, hb0⟩
end Go.Proofs.YtnkikhnllnbhfaaDoor
