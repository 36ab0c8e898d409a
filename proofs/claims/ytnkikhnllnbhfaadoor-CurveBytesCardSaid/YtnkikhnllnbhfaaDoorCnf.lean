/-
  Joined: Cnr, Cfr.
-/
import Derived.Test.YtnkikhnllnbhfaaDoorRows
import Derived.Test.YtnkikhnllnbhfaaDoorMem
import Derived.Test.YtnkikhnllnbhfaaDoorMm
import Derived.WalkKit
import Derived.ProofKit
import Derived.OpenShut
import Derived.ShutString
import Derived.ChangeOld
import Derived.Below
import Derived.Test.YtnkikhnllnbhfaaDoorTie
import Derived.Test.YtnkikhnllnbhfaaDoorCards
import Derived.Test.YtnkikhnllnbhfaaDoorCw2
import Derived.Deep.Strs
import Derived.LaidMore
import Derived.Lib.LaidTab
import Derived.SevenTiedAt
import Derived.Stop.Joined
namespace Go.Proofs.YtnkikhnllnbhfaaDoor
open Go.ChangeShapes Go.WideShapes Go.ChangeAt Go.RowKit
open CurveMath

theorem own : ownKnob Tryd.prog.godebug = none := by kernel_rfl
theorem laidOut : laidOutB Tryd.prog = true := by kernel_rfl
/-- The number that a value is. -/
def intIn : Option Value → Int
  | some (.int _ n) => n
  | _ => 0
set_option maxRecDepth 100000 in
/-- An array of numbers that reads comes in as numbers that fit. -/
theorem ints_of_trod {H : Type} {enc : TypeId × Value → H} {W : World} {v : Value} {d : DataW H} {p : List MemPlace} {t e : TypeId} {n : Nat} {k : IntKind} (hn : 2 ≤ n)
    (ht : Tryd.prog.underlying t = some (.array n e)) (he : Tryd.prog.underlying e = some (.int k)) (c1 : Tryd.prog.cellsOf e = 1) (cn : Tryd.prog.cellsOf t = n)
    (h : DataW.Trod enc Tryd.prog W 0 (fun _ => true) true t v d p) : ∃ xs : List Int, xs.length = n ∧ v = .agg (xs.map (Value.int k)).toArray ∧ ∀ i, i < n → (Lit.int k (xs.getD i 0)).wf = true := by
  obtain ⟨fuel, hf⟩ := h
  obtain ⟨ys, m, _, _, hcl, hyl, hel⟩ := DataW.trod_array ht hf
  rw [cn] at hcl
  have hone : ∀ i, i < n → ∃ z : Int, v.cells.toList[i]? = some (.int k z) ∧ (Lit.int k z).wf = true := fun i hi => by
    have h1 := hel i hi
    rw [c1, Nat.mul_one] at h1
    rw [List.getElem?_eq_getElem (by omega)] at h1
    obtain ⟨z, e1, _, hw⟩ := DataW.trod_int he h1
    refine ⟨z, ?_, hw⟩
    have e2 := congrArg (fun l => l[0]?) e1
    simpa [List.getElem?_take, List.getElem?_drop] using e2
  have hv : ∃ cs, v = .agg cs := by
    cases v with
    | agg cs => exact ⟨cs, rfl⟩
    | _ => simp [Value.cells] at hcl; omega
  obtain ⟨cs, rfl⟩ := hv
  simp only [Value.cells] at hone hcl
  refine ⟨(List.range n).map fun i => intIn cs.toList[i]?, by simp, ?_, fun i hi => ?_⟩
  · congr 1
    apply Array.toList_inj.1
    apply List.ext_getElem?
    intro i
    by_cases hi : i < n
    · obtain ⟨z, e, _⟩ := hone i hi
      rw [e]
      simp only [List.map_map, List.getElem?_map, List.getElem?_range hi, Option.map_some, Function.comp, e, intIn]
    · rw [List.getElem?_eq_none (by omega), List.getElem?_eq_none (by simp; omega)]
  · obtain ⟨z, e, hw⟩ := hone i hi
    rw [List.getD_eq_getElem?_getD]
    simp only [List.getElem?_map, List.getElem?_range hi, Option.map_some, e, intIn, Option.getD_some]
    exact hw
theorem wf_u64 {z : Int} (h : (Lit.int .u64 z).wf = true) : 0 ≤ z ∧ z < 18446744073709551616 := by
  have := h
  simp [Lit.wf, IntKind.min, IntKind.max, IntKind.signed, IntKind.bits] at this
  omega
theorem wf_i64 {z : Int} (h : (Lit.int .i64 z).wf = true) : -9223372036854775808 ≤ z ∧ z ≤ 9223372036854775807 := by
  have := h
  simp [Lit.wf, IntKind.min, IntKind.max, IntKind.signed, IntKind.bits] at this
  omega
theorem wf_u32 {z : Int} (h : (Lit.int .u32 z).wf = true) : 0 ≤ z ∧ z < 4294967296 := by
  have := h
  simp [Lit.wf, IntKind.min, IntKind.max, IntKind.signed, IntKind.bits] at this
  omega
/-- Four limbs. -/
theorem num_of_trod {H : Type} {enc : TypeId × Value → H} {W : World} {v : Value} {d : DataW H} {p : List MemPlace}
    (h : DataW.Trod enc Tryd.prog W 0 (fun _ => true) true 59 v d p) : ∃ x : P4, x.ok ∧ v = .agg #[.int .u64 (x.a : Int), .int .u64 (x.b : Int), .int .u64 (x.c : Int), .int .u64 (x.d : Int)] := by
  obtain ⟨xs, hl, rfl, hw⟩ := ints_of_trod (n := 4) (by decide) Tryd.underlying59 Tryd.underlying28 (by kernel_rfl) (by kernel_rfl) h
  obtain ⟨a, b, c, d, rfl⟩ : ∃ a b c d, xs = [a, b, c, d] := by
    match xs, hl with
    | [a, b, c, d], _ => exact ⟨a, b, c, d, rfl⟩
  obtain ⟨a0, a1⟩ := wf_u64 (hw 0 (by decide))
  obtain ⟨b0, b1⟩ := wf_u64 (hw 1 (by decide))
  obtain ⟨c0, c1⟩ := wf_u64 (hw 2 (by decide))
  obtain ⟨d0, d1⟩ := wf_u64 (hw 3 (by decide))
  simp only [List.getD_cons_zero, List.getD_cons_succ] at a0 a1 b0 b1 c0 c1 d0 d1
  refine ⟨⟨a.toNat, b.toNat, c.toNat, d.toNat⟩, ⟨by show a.toNat < _; omega, by show b.toNat < _; omega, by show c.toNat < _; omega, by show d.toNat < _; omega⟩, ?_⟩
  show Value.agg #[.int .u64 a, .int .u64 b, .int .u64 c, .int .u64 d] = .agg #[.int .u64 ((a.toNat : Nat) : Int), .int .u64 ((b.toNat : Nat) : Int), .int .u64 ((c.toNat : Nat) : Int), .int .u64 ((d.toNat : Nat) : Int)]
  rw [Int.toNat_of_nonneg a0, Int.toNat_of_nonneg b0, Int.toNat_of_nonneg c0, Int.toNat_of_nonneg d0]
/-- Bytes. -/
theorem bytes32_of_trod {H : Type} {enc : TypeId × Value → H} {W : World} {v : Value} {d : DataW H} {p : List MemPlace}
    (h : DataW.Trod enc Tryd.prog W 0 (fun _ => true) true 22 v d p) : ∃ xs : List UInt8, xs.length = 32 ∧ v = .agg (xs.map B8).toArray := by
  obtain ⟨xs, hl, rfl, hw⟩ := ints_of_trod (n := 32) (by decide) Tryd.underlying22 Tryd.underlying5 (by kernel_rfl) (by kernel_rfl) h
  refine ⟨xs.map fun z => UInt8.ofNat z.toNat, by rw [List.length_map, hl], ?_⟩
  congr 2
  rw [List.map_map]
  apply List.map_congr_left
  intro z hz
  obtain ⟨i, hi, rfl⟩ := List.getElem_of_mem hz
  have h1 := hw i (by omega)
  rw [List.getD_eq_getElem?_getD, List.getElem?_eq_getElem hi] at h1
  simp [Lit.wf, IntKind.min, IntKind.max, IntKind.signed, IntKind.bits] at h1
  show Value.int .u8 xs[i] = .int .u8 (((UInt8.ofNat xs[i].toNat).toNat : Nat) : Int)
  congr 1
  rw [UInt8.toNat_ofNat']
  omega
def laidHash : List (String × DataW Unit) := [("tollgate/curve.prime", Rows.laid_tollgate_curve_prime), ("tollgate/curve.order", Rows.laid_tollgate_curve_order), ("tollgate/curve.constant", Rows.laid_tollgate_curve_constant), ("tollgate/curve.baseX", Rows.laid_tollgate_curve_baseX), ("tollgate/curve.baseY", Rows.laid_tollgate_curve_baseY), ("tollgate/curve.infinity", Rows.laid_tollgate_curve_infinity)]
def limbs (x : P4) : List Int := [(x.a : Int), (x.b : Int), (x.c : Int), (x.d : Int)]
theorem limbs_nC (x : P4) : (limbs x).map (fun z => Value.int .u64 z) = nC x := rfl
theorem prime_data : (Rows.laid_tollgate_curve_prime : DataW Unit) = Lib.tabData .u64 (limbs primeP) := by kernel_rfl
theorem order_data : (Rows.laid_tollgate_curve_order : DataW Unit) = Lib.tabData .u64 (limbs orderP) := by kernel_rfl
theorem constant_data : (Rows.laid_tollgate_curve_constant : DataW Unit) = Lib.tabData .u64 (limbs (pK bK)) := by kernel_rfl
theorem baseX_data : (Rows.laid_tollgate_curve_baseX : DataW Unit) = Lib.tabData .u64 (limbs (pK gx)) := by kernel_rfl
theorem baseY_data : (Rows.laid_tollgate_curve_baseY : DataW Unit) = Lib.tabData .u64 (limbs (pK gy)) := by kernel_rfl
theorem infinity_data : (Rows.laid_tollgate_curve_infinity : DataW Unit) = .agg [Lib.tabData .u64 (limbs (pK 0)), Lib.tabData .u64 (limbs (pK 1)), Lib.tabData .u64 (limbs (pK 0))] := by kernel_rfl
theorem range_of_var {W : World} {name : String} {arr : Array Value} {cs : List Value} {g : Nat} (h : W.var? Tryd.prog name = some arr) (he : arr.toList = cs) (hg : Tryd.prog.globalNamed name = some g) : W.rangeAt g 0 cs := fun j v hv => by
  subst he
  have := World.var?_cell hg h j
  rw [Nat.zero_add, this]
  simpa using hv
set_option maxRecDepth 100000 in
theorem infinity_cells {H : Type} {enc : TypeId × Value → H} {W : World} {base : Nat} {sp : Nat → Bool} {held : Bool} {fuel : Nat} {cs : List Value} {p : List MemPlace} (h : DataW.trod enc Tryd.prog W base sp held fuel 67 cs = some (.agg [Lib.tabData .u64 (limbs (pK 0)), Lib.tabData .u64 (limbs (pK 1)), Lib.tabData .u64 (limbs (pK 0))], p)) : cs = spC ⟨0, 1, 0⟩ := by
  obtain ⟨⟨d0, p0⟩, ⟨d1, p1⟩, ⟨d2, p2⟩, n, he, hl, h0, h1, h2⟩ := Go.Deep.trod_struct3 Tryd.underlying67 h
  have hd := (Prod.mk.inj he).1
  injection hd with hd
  simp only [List.cons.injEq, and_true] at hd
  obtain ⟨rfl, rfl, rfl⟩ := hd
  have c4 : Tryd.prog.cellsOf 59 = 4 := by kernel_rfl
  have c1 : Tryd.prog.cellsOf 28 = 1 := by kernel_rfl
  have c12 : Tryd.prog.cellsOf 67 = 12 := by kernel_rfl
  have e0 := Lib.cells_of_tab Tryd.underlying59 Tryd.underlying28 c1 c4 h0
  have e1 := Lib.cells_of_tab Tryd.underlying59 Tryd.underlying28 c1 c4 h1
  have e2 := Lib.cells_of_tab Tryd.underlying59 Tryd.underlying28 c1 c4 h2
  rw [limbs_nC] at e0 e1 e2
  simp only [c4, c12] at e0 e1 e2 hl
  have hs : cs = (cs.drop 0).take 4 ++ ((cs.drop 4).take 4 ++ (cs.drop 8).take 4) := by
    match cs, hl with
    | [a0, a1, a2, a3, a4, a5, a6, a7, a8, a9, a10, a11], _ => rfl
  exact hs.trans (by rw [e0, e1, e2]; rfl)
theorem tabsC_of_laid {W : World} (h : laidMetH Tryd.prog laidHash W) : TabsC W := by
  rw [MakeChecks.laidMetH_plain _ _ _ (by kernel_rfl)] at h
  unfold laidHash at h
  rw [prime_data, order_data, constant_data, baseX_data, baseY_data, infinity_data] at h
  obtain ⟨ps, ⟨g0, t0, cs0, f0, p0, q0, hg0, ht0, hv0, hd0, ⟨g1, t1, cs1, f1, p1, q1, hg1, ht1, hv1, hd1, ⟨g2, t2, cs2, f2, p2, q2, hg2, ht2, hv2, hd2, ⟨g3, t3, cs3, f3, p3, q3, hg3, ht3, hv3, hd3, ⟨g4, t4, cs4, f4, p4, q4, hg4, ht4, hv4, hd4, ⟨g5, t5, cs5, f5, p5, q5, hg5, ht5, hv5, hd5, _, _⟩, _⟩, _⟩, _⟩, _⟩, _⟩, _, _⟩ := h
  have c4 : Tryd.prog.cellsOf 59 = 4 := by kernel_rfl
  have c1 : Tryd.prog.cellsOf 28 = 1 := by kernel_rfl
  obtain rfl := Option.some.inj ((show Tryd.prog.globalNamed "tollgate/curve.prime" = some 3 by kernel_rfl).symm.trans hg0)
  obtain rfl := Option.some.inj ((show (Tryd.prog.globals[3]?).map (·.type) = some 59 by kernel_rfl).symm.trans ht0)
  have e0 := Lib.cells_of_tab Tryd.underlying59 Tryd.underlying28 c1 c4 hd0
  rw [limbs_nC] at e0
  obtain rfl := Option.some.inj ((show Tryd.prog.globalNamed "tollgate/curve.order" = some 2 by kernel_rfl).symm.trans hg1)
  obtain rfl := Option.some.inj ((show (Tryd.prog.globals[2]?).map (·.type) = some 59 by kernel_rfl).symm.trans ht1)
  have e1 := Lib.cells_of_tab Tryd.underlying59 Tryd.underlying28 c1 c4 hd1
  rw [limbs_nC] at e1
  obtain rfl := Option.some.inj ((show Tryd.prog.globalNamed "tollgate/curve.constant" = some 4 by kernel_rfl).symm.trans hg2)
  obtain rfl := Option.some.inj ((show (Tryd.prog.globals[4]?).map (·.type) = some 59 by kernel_rfl).symm.trans ht2)
  have e2 := Lib.cells_of_tab Tryd.underlying59 Tryd.underlying28 c1 c4 hd2
  rw [limbs_nC] at e2
  obtain rfl := Option.some.inj ((show Tryd.prog.globalNamed "tollgate/curve.baseX" = some 0 by kernel_rfl).symm.trans hg3)
  obtain rfl := Option.some.inj ((show (Tryd.prog.globals[0]?).map (·.type) = some 59 by kernel_rfl).symm.trans ht3)
  have e3 := Lib.cells_of_tab Tryd.underlying59 Tryd.underlying28 c1 c4 hd3
  rw [limbs_nC] at e3
  obtain rfl := Option.some.inj ((show Tryd.prog.globalNamed "tollgate/curve.baseY" = some 1 by kernel_rfl).symm.trans hg4)
  obtain rfl := Option.some.inj ((show (Tryd.prog.globals[1]?).map (·.type) = some 59 by kernel_rfl).symm.trans ht4)
  have e4 := Lib.cells_of_tab Tryd.underlying59 Tryd.underlying28 c1 c4 hd4
  rw [limbs_nC] at e4
  obtain rfl := Option.some.inj ((show Tryd.prog.globalNamed "tollgate/curve.infinity" = some 5 by kernel_rfl).symm.trans hg5)
  obtain rfl := Option.some.inj ((show (Tryd.prog.globals[5]?).map (·.type) = some 67 by kernel_rfl).symm.trans ht5)
  have e5 := infinity_cells hd5
  exact ⟨range_of_var hv0 e0 (by kernel_rfl), range_of_var hv1 e1 (by kernel_rfl), range_of_var hv2 e2 (by kernel_rfl), range_of_var hv3 e3 (by kernel_rfl), range_of_var hv4 e4 (by kernel_rfl), range_of_var hv5 e5 (by kernel_rfl)⟩
theorem door_met (os : Os) (args : Array Value) : laidMetH Tryd.prog laidHash ((World.doorLaid Tryd.prog 400 os).forCall (fun _ _ => 0) ⟨#[], args, []⟩).memory :=
  laidMetH_of_parts3 (fuel := 8) (laidMet_of_run' 8 (by kernel_rfl) (by kernel_rfl)) (by kernel_rfl) (by kernel_rfl)
theorem arr32_of_trod {H : Type} {enc : TypeId × Value → H} {W : World} {v : Value} {d : DataW H} {p : List MemPlace}
    (h : DataW.Trod enc Tryd.prog W 0 (fun _ => true) true 22 v d p) : ∃ xs : List UInt8, xs.length = 32 ∧ v = .agg (xs.map B8).toArray := bytes32_of_trod h
end Go.Proofs.YtnkikhnllnbhfaaDoor
