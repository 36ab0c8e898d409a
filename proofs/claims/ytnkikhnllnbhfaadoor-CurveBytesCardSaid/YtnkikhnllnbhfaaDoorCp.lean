/-
  Points by their place in the group: what Times, Add and Base answer.
-/
import Derived.Test.YtnkikhnllnbhfaaDoorCwx
import Derived.Test.YtnkikhnllnbhfaaDoorMb
import Derived.Test.YtnkikhnllnbhfaaDoorSx
namespace Go.Proofs.YtnkikhnllnbhfaaDoor
open Go.RowKit
open CurveMath

/-- A point's two numbers as bytes. -/
def xB : Pt → List UInt8
  | none => zero32
  | some (x, _) => kB x
def yB : Pt → List UInt8
  | none => zero32
  | some (_, y) => kB y
theorem xB_length (P : Pt) : (xB P).length = 32 := by
  match P with
  | none => exact (by decide : zero32.length = 32)
  | some (x, y) => exact kB_length x
theorem yB_length (P : Pt) : (yB P).length = 32 := by
  match P with
  | none => exact (by decide : zero32.length = 32)
  | some (x, y) => exact kB_length y
theorem ptV_eq (P : Pt) : ptV P = ptC (xB P) (yB P) := by
  match P with
  | none => rfl
  | some (x, y) => rfl
/-- And as numbers. -/
def xN : Pt → P4
  | none => zeroP
  | some (x, _) => pK x
def yN : Pt → P4
  | none => zeroP
  | some (_, y) => pK y
theorem xN_ok (P : Pt) : (xN P).ok := by
  match P with
  | none => exact zeroP_ok
  | some (x, y) => exact pK_ok x
theorem yN_ok (P : Pt) : (yN P).ok := by
  match P with
  | none => exact zeroP_ok
  | some (x, y) => exact pK_ok y
theorem of_kB (a : K) : ofTo (kB a) 32 = pK a := of_bytes (pK_ok a)
theorem bs_zero : bsTo zeroP 32 = zero32 := by decide +kernel
theorem of_zero32 : ofTo zero32 32 = zeroP := by rw [← bs_zero]; exact of_bytes zeroP_ok
theorem of_xB (P : Pt) : ofTo (xB P) 32 = xN P := by
  match P with
  | none => exact of_zero32
  | some (x, y) => exact of_kB x
theorem of_yB (P : Pt) : ofTo (yB P) 32 = yN P := by
  match P with
  | none => exact of_zero32
  | some (x, y) => exact of_kB y
theorem bs_xN (P : Pt) : bsTo (xN P) 32 = xB P := by
  match P with
  | none => exact bs_zero
  | some (x, y) => rfl
theorem bs_yN (P : Pt) : bsTo (yN P) 32 = yB P := by
  match P with
  | none => exact bs_zero
  | some (x, y) => rfl
theorem kOf_kB (a : K) : kOf (kB a) = a := by
  unfold kOf
  rw [of_kB, pK_val]
  exact ofNat_val a
theorem inF_kB (a : K) : inF (kB a) = true := by
  unfold inF
  rw [of_kB, lessP_eq (pK_ok a) primeP_ok, decide_eq_true_iff, pK_val, primeP_val]
  exact a.isLt
theorem ring_on {x y b : K} : (y * y = x * (x * x - 3) + b) ↔ (y * y = x * x * x - 3 * x + b) := by constructor <;> intro h <;> grind
theorem holds_kB (x y : K) : holdsB (kB x) (kB y) = decide (y * y = x * x * x - 3 * x + bK) := by
  unfold holdsB
  rw [inF_kB, inF_kB, kOf_kB, kOf_kB, Bool.true_and, Bool.true_and]
  exact decide_eq_decide.2 ring_on
theorem zero32_kB : zero32 = kB 0 := by decide +kernel
theorem holds_zero : holdsB zero32 zero32 = false := by
  rw [zero32_kB, holds_kB, decide_eq_false_iff_not]
  exact infinity_off
theorem spot_rep {P : Pt} (h : onPt P) : Rep (spotP (xB P) (yB P)) P := by
  match P, h with
  | none, _ =>
    show Rep (spotP zero32 zero32) none
    unfold spotP
    rw [holds_zero, if_neg (by decide)]
    exact ⟨rfl, rfl, oneK⟩
  | some (x, y), h =>
    show Rep (spotP (kB x) (kB y)) _
    unfold spotP
    rw [holds_kB, decide_eq_true (p := y * y = x * x * x - 3 * x + bK) h, if_pos rfl, kOf_kB, kOf_kB]
    exact rep_one x y
theorem gone_rep {X Y : List UInt8} (h : holdsB X Y = false) : Rep (spotP X Y) none := by
  unfold spotP
  rw [h, if_neg (by decide)]
  exact ⟨rfl, rfl, oneK⟩
theorem ofTo_lt (B : List UInt8) : (ofTo B 32).val < 2 ^ 256 := by
  exact P4.lt (ofTo_ok B 32)
/-- The spot of some bytes stands for a point of the group. -/
def Spots (X Y : List UInt8) (m : Nat) : Prop := Rep (spotP X Y) (mulG m)
theorem spots_of {P : Pt} {m : Nat} (h : P = mulG m) : Spots (xB P) (yB P) m := by subst h; exact spot_rep (on_mulG m)
theorem spots_gone {X Y : List UInt8} (h : holdsB X Y = false) : Spots X Y 0 := gone_rep h
theorem TimesS {B X Y : List UInt8} {R : Pt} {n m : Nat} {w : World} (hT : TabsC w) (hB : Hid (B.length = 32)) (hX : Hid (X.length = 32)) (hY : Hid (Y.length = 32)) (hn : Hid ((ofTo B 32).val = n)) (hS : Hid (Spots X Y m)) (hR : Hid (R = mulG (n * m))) :
    Calls Tryd.prog 22 #[.agg (B.map B8).toArray, .agg (ptC X Y).toArray] w fun e w' => e = .returned (.agg (ptV R).toArray) ∧ Below w.heap.size w w' := by
  have h := times_mul (n := (ofTo B 32).val) hS.out (ofTo_lt B)
  rw [hR.out, ← hn.out, ← toPt_rep h]
  exact curveTimes_k B X Y w hT hB hX hY
theorem TimesP {B : List UInt8} {P R : Pt} {n m : Nat} {w : World} (hT : TabsC w) (hB : Hid (B.length = 32)) (hn : Hid ((ofTo B 32).val = n)) (hP : Hid (P = mulG m)) (hR : Hid (R = mulG (n * m))) :
    Calls Tryd.prog 22 #[.agg (B.map B8).toArray, .agg (ptV P).toArray] w fun e w' => e = .returned (.agg (ptV R).toArray) ∧ Below w.heap.size w w' := by
  rw [ptV_eq P]
  exact TimesS hT hB (Lib.hid (xB_length P)) (Lib.hid (yB_length P)) hn (Lib.hid (spots_of hP.out)) hR
theorem AddS {X Y X' Y' : List UInt8} {R : Pt} {n m : Nat} {w : World} (hT : TabsC w) (hX : Hid (X.length = 32)) (hY : Hid (Y.length = 32)) (hX' : Hid (X'.length = 32)) (hY' : Hid (Y'.length = 32)) (hS : Hid (Spots X Y n)) (hS' : Hid (Spots X' Y' m)) (hR : Hid (R = mulG (n + m))) :
    Calls Tryd.prog 24 #[.agg (ptC X Y).toArray, .agg (ptC X' Y').toArray] w fun e w' => e = .returned (.agg (ptV R).toArray) ∧ Below w.heap.size w w' := by
  have h := (sum_rep hS.out hS'.out (on_mulG n) (on_mulG m)).1
  rw [hR.out, ← mulG_add n m, ← toPt_rep h]
  exact curveAdd_k X Y X' Y' w hT hX hY hX' hY'
theorem AddP {P Q R : Pt} {n m : Nat} {w : World} (hT : TabsC w) (hP : Hid (P = mulG n)) (hQ : Hid (Q = mulG m)) (hR : Hid (R = mulG (n + m))) :
    Calls Tryd.prog 24 #[.agg (ptV P).toArray, .agg (ptV Q).toArray] w fun e w' => e = .returned (.agg (ptV R).toArray) ∧ Below w.heap.size w w' := by
  rw [ptV_eq P, ptV_eq Q]
  exact AddS hT (Lib.hid (xB_length P)) (Lib.hid (yB_length P)) (Lib.hid (xB_length Q)) (Lib.hid (yB_length Q)) (Lib.hid (spots_of hP.out)) (Lib.hid (spots_of hQ.out)) hR
theorem BaseP {R : Pt} {w : World} (hT : TabsC w) (hR : Hid (R = mulG 1)) : Calls Tryd.prog 10 #[] w fun e w' => e = .returned (.agg (ptV R).toArray) ∧ Below w.heap.size w w' := by
  rw [hR.out]
  exact base_k w hT
theorem OrderE {B : List UInt8} {w : World} (hT : TabsC w) (hB : Hid (B = orderB)) : Calls Tryd.prog 15 #[] w fun e w' => e = .returned (.agg (B.map B8).toArray) ∧ Below w.heap.size w w' := by
  rw [hB.out]
  exact order_k w hT
set_option maxRecDepth 100000 in
theorem equal_ints' {P : Program} {t e : TypeId} {k : IntKind} {n : Nat} {i : TypeInfo} (hu : P.underlying t = some (.array n e)) (he : P.underlying e = some (.int k)) (hi : P.info? e = some i) (hc : P.cellsOf e = 1) (xs ys : List Int) (hx : xs.length = n) (hy : ys.length = n) (d : Nat) (w : World) :
    (Op.equalIn (d + 2) t (.agg (xs.map (Value.int k)).toArray) (.agg (ys.map (Value.int k)).toArray)).run P w = .ok (xs == ys) w := by
  rw [run_equalIn_array w (d + 1) _ _ hu hi, hc, List.range_eq_range']
  have := eqItems_ints he xs ys d w n 0 (by omega) (by omega)
  rwa [List.drop_zero, List.drop_zero] at this
set_option maxRecDepth 100000 in
/-- Two rows of 32 bytes. -/
theorem eqB_run {A B : List UInt8} (hA : A.length = 32) (hB : B.length = 32) (d : Nat) (w : World) : (Op.equalIn (d + 2) 22 (.agg (A.map B8).toArray) (.agg (B.map B8).toArray)).run Tryd.prog w = .ok (A == B) w := by
  have k := equal_ints' Tryd.underlying22 Tryd.underlying5 rfl (by kernel_rfl) (A.map fun b => (b.toNat : Int)) (B.map fun b => (b.toNat : Int)) (by rw [List.length_map, hA]) (by rw [List.length_map, hB]) d w
  rw [List.map_map, List.map_map] at k
  have e : ((A.map fun b => (b.toNat : Int)) == (B.map fun b => (b.toNat : Int))) = (A == B) := by
    rw [Bool.eq_iff_iff, beq_iff_eq, beq_iff_eq]
    refine ⟨fun h => ?_, fun h => by rw [h]⟩
    exact (List.map_inj_right (f := fun b : UInt8 => (b.toNat : Int)) (fun x y h => UInt8.toNat_inj.1 (by omega))).1 h
  rw [e] at k
  exact k
set_option maxRecDepth 100000 in
theorem EqB {A B : List UInt8} {b : Bool} (hA : Hid (A.length = 32)) (hB : Hid (B.length = 32)) (h : Hid ((A == B) = b)) (w : World) : (Op.equalIn 10000 22 (.agg (A.map B8).toArray) (.agg (B.map B8).toArray)).run Tryd.prog w = .ok b w := by
  rw [← h.out]
  exact eqB_run hA.out hB.out 9998 w
set_option maxRecDepth 100000 in
theorem part_at {cs : List Value} {off : Nat} {ds : List Value} (h : (cs.drop off).take 32 = ds) (w : World) : (part 22 cs.toArray off).run Tryd.prog w = .ok (.agg ds.toArray) w := by
  subst h
  have hs : (sizeOf 22).run Tryd.prog w = .ok 32 w := by rfl
  have hg : (isAgg 22).run Tryd.prog w = .ok true w := by rfl
  simp only [part, Sem.run_bind, hs, hg, Result.andThen_ok, if_true, Sem.run_pure, List.extract_toArray]
  congr 3
  rw [List.extract_eq_take_drop, Nat.add_sub_cancel_left]
/-- Two points. -/
def eqPtB (X Y X' Y' : List UInt8) : Bool := X == X' && Y == Y'
set_option maxRecDepth 100000 in
theorem eqPt_run {X Y X' Y' : List UInt8} (hX : X.length = 32) (hY : Y.length = 32) (hX' : X'.length = 32) (hY' : Y'.length = 32) (w : World) :
    (Op.equalIn 10000 24 (.agg (ptC X Y).toArray) (.agg (ptC X' Y').toArray)).run Tryd.prog w = .ok (eqPtB X Y X' Y') w := by
  have hd0 : ∀ A B : List UInt8, A.length = 32 → ((ptC A B).drop 0).take 32 = A.map B8 := fun A B h => by
    unfold ptC
    rw [List.drop_zero, List.take_append_of_le_length (by rw [List.length_map, h]; exact Nat.le_refl _), List.take_of_length_le (by rw [List.length_map, h]; exact Nat.le_refl _)]
  have hd1 : ∀ A B : List UInt8, A.length = 32 → B.length = 32 → ((ptC A B).drop 32).take 32 = B.map B8 := fun A B h k => by
    unfold ptC
    rw [List.drop_append_of_le_length (by rw [List.length_map, h]; exact Nat.le_refl _), List.drop_eq_nil_of_le (by rw [List.length_map, h]; exact Nat.le_refl _), List.nil_append, List.take_of_length_le (by rw [List.length_map, k]; exact Nat.le_refl _)]
  have hu : Tryd.prog.underlying 24 = some (.struct (Tryd.prog.fieldsOf 24)) := by
    unfold Program.fieldsOf
    rw [Tryd.underlying24]
  rw [show (10000 : Nat) = 9997 + 2 + 1 from rfl, run_equalIn_struct w (9997 + 2) _ _ _ hu (by kernel_rfl)]
  unfold Program.fieldsOf
  simp only [Tryd.underlying24, Op.eqFields, ne_eq]
  simp only [show (¬ ("X" : String) = "_") = True from by decide, show (¬ ("Y" : String) = "_") = True from by decide, if_true, Sem.run_bind, part_at (hd0 X Y hX), part_at (hd0 X' Y' hX'), Result.andThen_ok, eqB_run hX hX']
  unfold eqPtB
  cases X == X'
  · rfl
  · simp only [Bool.not_true, Bool.false_eq_true, if_false, Sem.run_bind, part_at (hd1 X Y hX hY), part_at (hd1 X' Y' hX' hY'), Result.andThen_ok, eqB_run hY hY']
    cases Y == Y' <;> rfl
set_option maxRecDepth 100000 in
theorem EqPC {X Y X' Y' : List UInt8} {b : Bool} (hX : Hid (X.length = 32)) (hY : Hid (Y.length = 32)) (hX' : Hid (X'.length = 32)) (hY' : Hid (Y'.length = 32)) (h : Hid (eqPtB X Y X' Y' = b)) (w : World) :
    (Op.equalIn 10000 24 (.agg (ptC X Y).toArray) (.agg (ptC X' Y').toArray)).run Tryd.prog w = .ok b w := by
  rw [← h.out]
  exact eqPt_run hX.out hY.out hX'.out hY'.out w
theorem kB_inj {a b : K} (h : kB a = kB b) : a = b := by
  have := congrArg (fun l => ofTo l 32) h
  simp only [of_kB] at this
  exact pK_inj this
theorem eqPt_on {P Q : Pt} (hP : onPt P) (hQ : onPt Q) : eqPtB (xB P) (yB P) (xB Q) (yB Q) = decide (P = Q) := by
  have h0 : ∀ x y : K, onPt (some (x, y)) → ¬ (kB x = zero32 ∧ kB y = zero32) := fun x y h ⟨h1, h2⟩ => by
    rw [zero32_kB] at h1 h2
    have e1 := kB_inj h1
    have e2 := kB_inj h2
    subst e1 e2
    exact infinity_off h
  unfold eqPtB
  rw [Bool.eq_iff_iff, Bool.and_eq_true, beq_iff_eq, beq_iff_eq, decide_eq_true_iff]
  match P, Q, hP, hQ with
  | none, none, _, _ => exact ⟨fun _ => rfl, fun _ => ⟨rfl, rfl⟩⟩
  | none, some (x, y), _, hQ => exact ⟨fun ⟨h1, h2⟩ => absurd ⟨h1.symm, h2.symm⟩ (h0 x y hQ), fun h => by cases h⟩
  | some (x, y), none, hP, _ => exact ⟨fun ⟨h1, h2⟩ => absurd ⟨h1, h2⟩ (h0 x y hP), fun h => by cases h⟩
  | some (x, y), some (x', y'), _, _ =>
    refine ⟨fun ⟨h1, h2⟩ => ?_, fun h => by cases h; exact ⟨rfl, rfl⟩⟩
    have e1 := kB_inj h1
    have e2 := kB_inj h2
    subst e1 e2
    rfl
set_option maxRecDepth 100000 in
theorem EqP {P Q : Pt} {b : Bool} (hP : Hid (onPt P)) (hQ : Hid (onPt Q)) (h : Hid (decide (P = Q) = b)) (w : World) :
    (Op.equalIn 10000 24 (.agg (ptV P).toArray) (.agg (ptV Q).toArray)).run Tryd.prog w = .ok b w := by
  rw [ptV_eq P, ptV_eq Q]
  exact EqPC (Lib.hid (xB_length P)) (Lib.hid (yB_length P)) (Lib.hid (xB_length Q)) (Lib.hid (yB_length Q)) (Lib.hid ((eqPt_on hP.out hQ.out).trans h.out)) w
theorem on_of {P : Pt} {m : Nat} (h : Hid (P = mulG m)) : Hid (onPt P) := Lib.hid (by rw [h.out]; exact on_mulG m)
set_option maxRecDepth 100000 in
theorem zeroPt : Zero Tryd.prog 24 (ptV none) := ⟨_, _, rfl, rfl, by kernel_rfl⟩
set_option maxRecDepth 100000 in
theorem zeroB32 : Zero Tryd.prog 22 (zero32.map B8) := ⟨_, _, rfl, rfl, by kernel_rfl⟩
set_option maxRecDepth 100000 in
theorem zeroN4 : Zero Tryd.prog 29 (nC zeroP) := ⟨_, _, rfl, rfl, by kernel_rfl⟩
theorem ptv_range0 {w : World} {g : Nat} {t : TypeId} {P : Pt} (h : Blk w g t (ptV P)) : w.rangeAt g 0 ((xB P).map B8) := by rw [ptV_eq] at h; exact pt_range0 (xB_length P) h
theorem ptv_range1 {w : World} {g : Nat} {t : TypeId} {P : Pt} (h : Blk w g t (ptV P)) : w.rangeAt g 32 ((yB P).map B8) := by rw [ptV_eq] at h; exact pt_range1 (xB_length P) h
end Go.Proofs.YtnkikhnllnbhfaaDoor
