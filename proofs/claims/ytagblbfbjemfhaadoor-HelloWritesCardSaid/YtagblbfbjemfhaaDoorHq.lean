/-
  Pieces of rows of bytes; package hello's cursor: take.
-/
import Derived.Test.YtagblbfbjemfhaaDoorHp
import Derived.Lib.MinMax
namespace Go.Proofs.YtagblbfbjemfhaaDoor
open Go.RowKit
open HelloMath (numB numB_length vecB vecB_length Msg getN pad32 cnt)

theorem under8 : Tryd.prog.underlying 27 = some (.slice (Tryd.prog.elem 27)) := by kernel_rfl
theorem elem8 : Tryd.prog.elem 27 = 5 := by kernel_rfl
theorem add_at (g o n : Nat) : (⟨g, o, none⟩ : Addr).add n = ⟨g, o + n, none⟩ := add_row g o n
/-- bytes that lie below a block -/
def SlB (w : World) (B : Nat) (v : Value) (bs : List UInt8) : Prop := ∃ A c, v = .slice A bs.length c ∧ In w B A c bs
theorem SlB.sl {w : World} {B : Nat} {v : Value} {bs : List UInt8} (h : SlB w B v bs) (hB : B ≤ w.heap.size) : SlV w v bs := by
  obtain ⟨A, c, e, hi⟩ := h
  exact ⟨A, c, e, in_weak hi hB⟩
theorem SlB.below {w w' : World} {B : Nat} {v : Value} {bs : List UInt8} (h : SlB w B v bs) (hb : Below B w w') : SlB w' B v bs := by
  obtain ⟨A, c, e, hi⟩ := h
  exact ⟨A, c, e, hi.below hb⟩
theorem run_sliceH {w : World} {B : Nat} {v : Value} {bs : List UInt8} (h : SlB w B v bs) (k : Nat) (hk : k ≤ bs.length) : ∃ v', (Instr.sliceAt 27 v none (some (.int .i64 (k : Int))) none).run Tryd.prog w = .ok v' w ∧ SlB w B v' (bs.take k) := by
  obtain ⟨A, c, rfl, hi⟩ := h
  have h1 := hi.1
  refine ⟨_, by rw [run_sliceAt_slice w _ _ _ _ _ under8, run_slice_h w _ _ _ _ under8 _ _ (by omega) (by omega), elem8, size8]; simp only [Result.andThen_ok, sliced, Int.toNat_natCast]; rfl, ?_⟩
  have hl : (bs.take k).length = k := by rw [List.length_take]; omega
  refine ⟨A, c, ?_, hi.take k⟩
  rw [hl]
  cases A with
  | none => simp
  | some a => simp only [Nat.zero_mul, Nat.sub_zero, Option.map_some]; congr 1; split <;> simp [Addr.add]
theorem run_sliceL {w : World} {B : Nat} {v : Value} {bs : List UInt8} (h : SlB w B v bs) (k : Nat) (hk : k ≤ bs.length) : ∃ v', (Instr.sliceAt 27 v (some (.int .i64 (k : Int))) none none).run Tryd.prog w = .ok v' w ∧ SlB w B v' (bs.drop k) := by
  obtain ⟨A, c, rfl, hi⟩ := h
  have h1 := hi.1
  refine ⟨_, by rw [run_sliceAt_slice w _ _ _ _ _ under8, run_slice_l w _ _ _ _ under8 _ _ (by omega) (by omega), elem8, size8]; simp only [Result.andThen_ok, sliced, Int.toNat_natCast, Nat.mul_one]; rfl, ?_⟩
  rcases Nat.eq_zero_or_pos bs.length with h0 | h0
  · obtain rfl : bs = [] := List.eq_nil_of_length_eq_zero h0
    obtain rfl : k = 0 := by simpa using hk
    exact ⟨_, _, rfl, Nat.zero_le _, by have := hi.2.1; omega, fun h => absurd h (Nat.lt_irrefl 0)⟩
  · obtain ⟨gb, ob, rfl, _, _⟩ := hi.2.2 h0
    have hd := in_drop hi k hk
    refine ⟨_, _, ?_, hd⟩
    rw [List.length_drop]
    congr 1
    split <;> simp [add_at]
section
variable {ops : Array Oper} {rest : List Oper} {o : Oper} {a : Act} {w : World} {Q : Exit → Act → World → Prop}
theorem wpList_sliceH (hgd : o.guard = none) {x y : Operand} (ho : o.op = .slice 27 x none (some y) none) {B : Nat} {v : Value} {bs : List UInt8} (hx : a.eval x = v) (hv : SlB w B v bs) (k : Nat) (hy : a.eval y = .int .i64 (k : Int)) (hk : k ≤ bs.length)
    (h : ∀ v', SlB w B v' (bs.take k) → wpList Tryd.prog ops Q rest (a.put o.dst v') w) : wpList Tryd.prog ops Q (o :: rest) a w := by
  obtain ⟨v', hr, hv'⟩ := run_sliceH hv k hk
  refine wpList_plain hgd fun K hK => ?_
  unfold Oper.wp execOp
  simp only [ho, hx, hy, Option.map_some, Option.map_none, Sem.run_bind, hr, Result.andThen_ok]
  exact hK _ _ (h v' hv')
theorem wpList_sliceL (hgd : o.guard = none) {x y : Operand} (ho : o.op = .slice 27 x (some y) none none) {B : Nat} {v : Value} {bs : List UInt8} (hx : a.eval x = v) (hv : SlB w B v bs) (k : Nat) (hy : a.eval y = .int .i64 (k : Int)) (hk : k ≤ bs.length)
    (h : ∀ v', SlB w B v' (bs.drop k) → wpList Tryd.prog ops Q rest (a.put o.dst v') w) : wpList Tryd.prog ops Q (o :: rest) a w := by
  obtain ⟨v', hr, hv'⟩ := run_sliceL hv k hk
  refine wpList_plain hgd fun K hK => ?_
  unfold Oper.wp execOp
  simp only [ho, hx, hy, Option.map_some, Option.map_none, Sem.run_bind, hr, Result.andThen_ok]
  exact hK _ _ (h v' hv')
end
/-- a cursor in a block: what it has still to read, of bytes that lie below it -/
def CAt (w : World) (B g : Nat) (r : List UInt8) : Prop := B ≤ g ∧ ∃ v, Blk w g 77 [v] ∧ SlB w B v r
set_option maxRecDepth 100000 in
set_option maxHeartbeats 1000000 in
theorem take_e (B g : Nat) (r : List UInt8) (n k : Nat) (w : World) (hC : CAt w B g r) (hk : Hid (min n r.length = k)) :
    Calls Tryd.prog 65 #[.pointer (some ⟨g, 0, none⟩), .int .i64 (n : Int)] w fun e w' => ∃ v, e = .returned v ∧ SlB w' B v (r.take n) ∧ CAt w' B g (r.drop n) ∧ w.grownBy w' (some g) := by
  obtain ⟨hBg, vr, hB, hr⟩ := hC
  have HBG := Lib.hid (And.intro hBg (Nat.le_of_lt hB.lt))
  clear hBg
  have hc := hB.cell 0
  have hf := hB.frozen 0
  have hr0 := hr
  obtain ⟨A, c, hv, hi⟩ := hr0
  obtain ⟨l, hl⟩ : ∃ l, r.length = l := ⟨_, rfl⟩
  rw [hl] at hv
  have hc2 := hc
  rw [hv] at hc2
  have hkl : k ≤ r.length := by rw [← hk.out]; exact Nat.min_le_right _ _
  have HR := Lib.hid hr
  have HB := Lib.hid hB
  have HL := Lib.hid (show min n l = k by rw [← hl]; exact hk.out)
  have HKL := Lib.hid hkl
  have HV := Lib.hid hv
  have hmin : min (n : Int) (l : Int) = (k : Int) := by rw [← HL.out]; omega
  have HT := Lib.hid (show r.take n = r.take k by rw [← hk.out, List.take_eq_take_iff]; simp)
  have HD := Lib.hid (show r.drop n = r.drop k by
    rw [← hk.out]
    rcases Nat.le_total n r.length with h | h
    · rw [Nat.min_eq_left h]
    · rw [Nat.min_eq_right h, List.drop_eq_nil_of_le h, List.drop_length])
  rw [HT.out, HD.out]
  clear hr hB hkl hi hl hv hc hk
  go_enter Tryd.func65, Tryd.ntmps65
  go_upto_region 2 with (fail)
  clear hmin
  go_wp2_with (first
    | ((with_reducible refine (?_ : wpList _ _ _ (Oper.mk (some 18) _ _ _ _ _ :: _) _ _)); go_loud (refine wpList_sliceH rfl rfl rfl (by rw [← HV.out]; exact HR.out) k rfl HKL.out ?_); intro v1 hv1)
    | ((with_reducible refine (?_ : wpList _ _ _ (Oper.mk (some 25) _ _ _ _ _ :: _) _ _)); go_loud (refine wpList_sliceL rfl rfl rfl (by rw [← HV.out]; exact HR.out) k rfl HKL.out ?_); intro v2 hv2; obtain ⟨A2, c2, ev2, hi2⟩ := hv2; obtain ⟨q2, hq2⟩ : ∃ q, (r.drop k).length = q := ⟨_, rfl⟩; rw [hq2] at ev2; rw [ev2]; replace hq2 := Lib.hid hq2))
  go_ret
  have hg : w.grownBy (w.setCell ⟨g, 0, none⟩ (.slice A2 q2 c2)) (some g) := grown_setCell (grown_refl w _) (.inl rfl) _
  have hb := grown_below hg HBG.out.1 (Nat.le_trans HBG.out.1 HBG.out.2)
  exact ⟨_, rfl, hv1.below hb, ⟨HBG.out.1, _, HB.out.set_ 0 _, SlB.below ⟨A2, c2, by rw [hq2.out], hi2⟩ hb⟩, hg⟩
end Go.Proofs.YtagblbfbjemfhaaDoor
