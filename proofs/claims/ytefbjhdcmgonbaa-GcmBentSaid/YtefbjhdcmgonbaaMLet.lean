/-
  Joined: NarrB, GNarr, GLet, GLp.
-/
import Derived.Test.YtefbjhdcmgonbaaRows
import Derived.Test.YtefbjhdcmgonbaaMem
import Derived.WalkKit
import Derived.ProofKit
import Derived.OpenShut
import Derived.ShutString
import Derived.ChangeOld
import Derived.Below
import Derived.Test.YtefbjhdcmgonbaaRwsB
import Derived.LaidMore
import Derived.Test.YtefbjhdcmgonbaaKeepB
namespace Go.Proofs.Ytefbjhdcmgonbaa
open Go.RowKit

open Go.ChangeShapes Go.WideShapes Go.ChangeAt Go.RowKit

theorem own : ownKnob Try.prog.godebug = none := by kernel_rfl
theorem laidOut : laidOutB Try.prog = true := by kernel_rfl
/-- The number that a value is. -/
def intIn : Option Value → Int
  | some (.int _ n) => n
  | _ => 0
/-- An array of numbers that reads comes in as numbers that fit. -/
theorem ints_of_trod {H : Type} {enc : TypeId × Value → H} {W : World} {v : Value} {d : DataW H} {p : List MemPlace} {t e : TypeId} {n : Nat} {k : IntKind} (hn : 2 ≤ n)
    (ht : Try.prog.underlying t = some (.array n e)) (he : Try.prog.underlying e = some (.int k)) (c1 : Try.prog.cellsOf e = 1) (cn : Try.prog.cellsOf t = n)
    (h : DataW.Trod enc Try.prog W 0 (fun _ => true) true t v d p) : ∃ xs : List Int, xs.length = n ∧ v = .agg (xs.map (Value.int k)).toArray ∧ ∀ i, i < n → (Lit.int k (xs.getD i 0)).wf = true := by
  obtain ⟨fuel, hf⟩ := h
  obtain ⟨ys, m, _, _, hcl, hyl, hel⟩ := DataW.trod_array ht hf
  rw [cn] at hcl
  have hone : ∀ i, i < n → ∃ z : Int, v.cells.toList[i]? = some (.int k z) ∧ (Lit.int k z).wf = true := fun i hi => by
    have h1 := hel i hi
    rw [c1, Nat.mul_one] at h1
    rw [List.getElem?_eq_getElem (by omega)] at h1
    obtain ⟨z, e1, _, hw⟩ := DataW.trod_int he h1
    refine ⟨z, ?_, hw⟩
    have e2 := congrArg (fun l => l[0]?) e1
    simpa [List.getElem?_take, List.getElem?_drop] using e2
  have hv : ∃ cs, v = .agg cs := by
    cases v with
    | agg cs => exact ⟨cs, rfl⟩
    | _ => simp [Value.cells] at hcl; omega
  obtain ⟨cs, rfl⟩ := hv
  simp only [Value.cells] at hone hcl
  refine ⟨(List.range n).map fun i => intIn cs.toList[i]?, by simp, ?_, fun i hi => ?_⟩
  · congr 1
    apply Array.toList_inj.1
    apply List.ext_getElem?
    intro i
    by_cases hi : i < n
    · obtain ⟨z, e, _⟩ := hone i hi
      rw [e]
      simp only [List.map_map, List.getElem?_map, List.getElem?_range hi, Option.map_some, Function.comp, e, intIn]
    · rw [List.getElem?_eq_none (by omega), List.getElem?_eq_none (by simp; omega)]
  · obtain ⟨z, e, hw⟩ := hone i hi
    rw [List.getD_eq_getElem?_getD]
    simp only [List.getElem?_map, List.getElem?_range hi, Option.map_some, e, intIn, Option.getD_some]
    exact hw
theorem wf_u64 {z : Int} (h : (Lit.int .u64 z).wf = true) : 0 ≤ z ∧ z < 18446744073709551616 := by
  have := h
  simp [Lit.wf, IntKind.min, IntKind.max, IntKind.signed, IntKind.bits] at this
  omega
theorem wf_i64 {z : Int} (h : (Lit.int .i64 z).wf = true) : -9223372036854775808 ≤ z ∧ z ≤ 9223372036854775807 := by
  have := h
  simp [Lit.wf, IntKind.min, IntKind.max, IntKind.signed, IntKind.bits] at this
  omega
theorem wf_u32 {z : Int} (h : (Lit.int .u32 z).wf = true) : 0 ≤ z ∧ z < 4294967296 := by
  have := h
  simp [Lit.wf, IntKind.min, IntKind.max, IntKind.signed, IntKind.bits] at this
  omega
/-- Bytes. -/
theorem bytes32_of_trod {H : Type} {enc : TypeId × Value → H} {W : World} {v : Value} {d : DataW H} {p : List MemPlace}
    (h : DataW.Trod enc Try.prog W 0 (fun _ => true) true 22 v d p) : ∃ xs : List UInt8, xs.length = 32 ∧ v = .agg (xs.map B8).toArray := by
  obtain ⟨xs, hl, rfl, hw⟩ := ints_of_trod (n := 32) (by decide) Try.underlying22 Try.underlying5 (by kernel_rfl) (by kernel_rfl) h
  refine ⟨xs.map fun z => UInt8.ofNat z.toNat, by rw [List.length_map, hl], ?_⟩
  congr 2
  rw [List.map_map]
  apply List.map_congr_left
  intro z hz
  obtain ⟨i, hi, rfl⟩ := List.getElem_of_mem hz
  have h1 := hw i (by omega)
  rw [List.getD_eq_getElem?_getD, List.getElem?_eq_getElem hi] at h1
  simp [Lit.wf, IntKind.min, IntKind.max, IntKind.signed, IntKind.bits] at h1
  show Value.int .u8 xs[i] = .int .u8 (((UInt8.ofNat xs[i].toNat).toNat : Nat) : Int)
  congr 1
  rw [UInt8.toNat_ofNat']
  omega
theorem bytes16_of_trod {H : Type} {enc : TypeId × Value → H} {W : World} {v : Value} {d : DataW H} {p : List MemPlace}
    (h : DataW.Trod enc Try.prog W 0 (fun _ => true) true 42 v d p) : ∃ xs : List UInt8, xs.length = 16 ∧ v = .agg (xs.map B8).toArray := by
  obtain ⟨xs, hl, rfl, hw⟩ := ints_of_trod (n := 16) (by decide) Try.underlying42 Try.underlying5 (by kernel_rfl) (by kernel_rfl) h
  refine ⟨xs.map fun z => UInt8.ofNat z.toNat, by rw [List.length_map, hl], ?_⟩
  congr 2
  rw [List.map_map]
  apply List.map_congr_left
  intro z hz
  obtain ⟨i, hi, rfl⟩ := List.getElem_of_mem hz
  have h1 := hw i (by omega)
  rw [List.getD_eq_getElem?_getD, List.getElem?_eq_getElem hi] at h1
  simp [Lit.wf, IntKind.min, IntKind.max, IntKind.signed, IntKind.bits] at h1
  show Value.int .u8 xs[i] = .int .u8 (((UInt8.ofNat xs[i].toNat).toNat : Nat) : Int)
  congr 1
  rw [UInt8.toNat_ofNat']
  omega

open Go.ChangeShapes Go.WideShapes Go.ChangeAt Go.RowKit

/-- A slice of bytes that reads comes in as bytes. -/
theorem ink_of_trod {H : Type} {enc : TypeId × Value → H} {W : World} {a : Option Addr} {len cap : Nat} {d : DataW H} {p : List MemPlace}
    (h : DataW.Trod enc Try.prog W 0 (fun _ => true) true 24 (.slice a len cap) d p) : ∃ xs : List UInt8, xs.length = len ∧ In W W.heap.size a cap xs := by
  obtain ⟨fuel, hf⟩ := h
  rcases open_ints Try.underlying24 Try.underlying5 (by kernel_rfl) hf with ⟨hcs, _⟩ | ⟨x, l, c, zs, hcs, _, hl, hm, hz, _, hcell, hwz⟩
  · simp [Value.cells] at hcs
    obtain ⟨rfl, rfl, rfl⟩ := hcs
    exact ⟨[], rfl, by simp, by omega, fun h => absurd h (by simp)⟩
  · simp [Value.cells] at hcs
    obtain ⟨rfl, rfl, rfl⟩ := hcs
    have hzc : zs.length = cap := by simpa using hz
    refine ⟨(zs.take len).map fun n => UInt8.ofNat n.toNat, by simp; omega, by simp; omega, by simpa [maxLen] using hm, fun h0 => ?_⟩
    have h0' : 0 < zs.length := by simp at h0; omega
    obtain ⟨b, off, rfl, hc⟩ := ints_at hcell h0'
    refine ⟨b, off, rfl, block_lt_of_cell (hc 0 h0'), fun j hj => ?_⟩
    have hj' : j < zs.length := by simp at hj; omega
    have hjl : j < len := by simp at hj; omega
    rw [hc j hj']
    have hw := hwz (zs.getD j 0) (by rw [List.getD_eq_getElem?_getD, List.getElem?_eq_getElem hj']; exact List.getElem_mem _)
    have hb : 0 ≤ zs.getD j 0 ∧ zs.getD j 0 ≤ 255 := by simpa [Lit.wf, IntKind.min, IntKind.max, IntKind.signed, IntKind.bits] using hw
    have e : ((zs.take len).map fun n => UInt8.ofNat n.toNat).getD j 0 = UInt8.ofNat (zs.getD j 0).toNat := by
      simp [List.getD_eq_getElem?_getD, hjl, List.getElem?_eq_getElem hj']
    rw [e]
    have e2 : ((UInt8.ofNat (zs.getD j 0).toNat).toNat : Int) = zs.getD j 0 := by
      rw [UInt8.toNat_ofNat']
      omega
    rw [e2]


open Go.ChangeShapes Go.WideShapes Go.ChangeAt Go.RowKit

/-- How a letter lies. -/
def letC (K : List UInt8) (sh : Bool) (N : List UInt8) (A1 : Option Addr) (n1 c1 : Nat) (A2 : Option Addr) (n2 c2 : Nat) : List Value :=
  K.map B8 ++ (.bool sh :: (N.map B8 ++ [.slice A1 n1 c1, .slice A2 n2 c2]))
theorem ink_of_cells {H : Type} {enc : TypeId × Value → H} {W : World} {cs : List Value} {x : DataW H × List MemPlace} {fuel : Nat}
    (hf : DataW.trod enc Try.prog W 0 (fun _ => true) true fuel 24 cs = some x) : ∃ (a : Option Addr) (n c : Nat) (xs : List UInt8), cs = [.slice a n c] ∧ xs.length = n ∧ In W W.heap.size a c xs := by
  rcases open_ints Try.underlying24 Try.underlying5 (by kernel_rfl) hf with ⟨hcs, _⟩ | ⟨y, l, c, zs, hcs, _⟩
  · obtain ⟨xs, h1, h2⟩ := ink_of_trod (enc := enc) (W := W) (a := none) (len := 0) (cap := 0) (d := x.1) (p := x.2) ⟨fuel, by rw [hcs] at hf; exact hf⟩
    exact ⟨none, 0, 0, xs, hcs, h1, h2⟩
  · obtain ⟨xs, h1, h2⟩ := ink_of_trod (enc := enc) (W := W) (a := some y) (len := l) (cap := c) (d := x.1) (p := x.2) ⟨fuel, by rw [hcs] at hf; exact hf⟩
    exact ⟨some y, l, c, xs, hcs, h1, h2⟩
theorem bytes12_of_trod {H : Type} {enc : TypeId × Value → H} {W : World} {v : Value} {d : DataW H} {p : List MemPlace}
    (h : DataW.Trod enc Try.prog W 0 (fun _ => true) true 23 v d p) : ∃ xs : List UInt8, xs.length = 12 ∧ v = .agg (xs.map B8).toArray := by
  obtain ⟨xs, hl, rfl, hw⟩ := ints_of_trod (n := 12) (by decide) Try.underlying23 Try.underlying5 (by kernel_rfl) (by kernel_rfl) h
  refine ⟨xs.map fun z => UInt8.ofNat z.toNat, by rw [List.length_map, hl], ?_⟩
  congr 2
  rw [List.map_map]
  apply List.map_congr_left
  intro z hz
  obtain ⟨i, hi, rfl⟩ := List.getElem_of_mem hz
  have h1 := hw i (by omega)
  rw [List.getD_eq_getElem?_getD, List.getElem?_eq_getElem hi] at h1
  simp [Lit.wf, IntKind.min, IntKind.max, IntKind.signed, IntKind.bits] at h1
  show Value.int .u8 xs[i] = .int .u8 (((UInt8.ofNat xs[i].toNat).toNat : Nat) : Int)
  congr 1
  rw [UInt8.toNat_ofNat']
  omega
theorem split47 (L : List Value) (h : L.length = 47) : L = (L.drop 0).take 32 ++ ((L.drop 32).take 1 ++ ((L.drop 33).take 12 ++ ((L.drop 45).take 1 ++ (L.drop 46).take 1))) := by
  have s : ∀ a b, L.drop a = (L.drop a).take b ++ L.drop (a + b) := fun a b => by
    conv => lhs; rw [← List.take_append_drop b (L.drop a), List.drop_drop]
  conv => lhs; rw [show L = L.drop 0 from rfl, s 0 32, s (0 + 32) 1, s (0 + 32 + 1) 12, s (0 + 32 + 1 + 12) 1, s (0 + 32 + 1 + 12 + 1) 1, List.drop_eq_nil_of_le (show L.length ≤ 0 + 32 + 1 + 12 + 1 + 1 by omega), List.append_nil]
theorem letter_of_trod {H : Type} {enc : TypeId × Value → H} {W : World} {v : Value} {d : DataW H} {p : List MemPlace}
    (h : DataW.Trod enc Try.prog W 0 (fun _ => true) true 26 v d p) : ∃ (K : List UInt8) (sh : Bool) (N : List UInt8) (A1 : Option Addr) (n1 c1 : Nat) (P : List UInt8) (A2 : Option Addr) (n2 c2 : Nat) (Q : List UInt8),
      v = .agg (letC K sh N A1 n1 c1 A2 n2 c2).toArray ∧ K.length = 32 ∧ N.length = 12 ∧ P.length = n1 ∧ Q.length = n2 ∧ In W W.heap.size A1 c1 P ∧ In W W.heap.size A2 c2 Q := by
  obtain ⟨fuel, hf⟩ := h
  obtain ⟨xs, n, _, _, hl, hlen, hp⟩ := DataW.trod_struct Try.underlying26 hf
  have c47 : Try.prog.cellsOf 26 = 47 := by kernel_rfl
  rw [c47] at hl
  obtain ⟨cs, rfl⟩ : ∃ cs, v = .agg cs := by
    cases v with
    | agg cs => exact ⟨cs, rfl⟩
    | _ => simp [Value.cells] at hl
  simp only [Value.cells] at hp hl
  match xs, hlen with
  | [y0, y1, y2, y3, y4], _ =>
    have k0 : Try.prog.cellsOf 22 = 32 := by kernel_rfl
    have k1 : Try.prog.cellsOf 4 = 1 := by kernel_rfl
    have k2 : Try.prog.cellsOf 23 = 12 := by kernel_rfl
    have k3 : Try.prog.cellsOf 24 = 1 := by kernel_rfl
    have h0 : DataW.trod enc Try.prog W 0 (fun _ => true) true n 22 ((cs.toList.drop 0).take (Try.prog.cellsOf 22)) = some y0 := hp 0 _ rfl
    have h1 : DataW.trod enc Try.prog W 0 (fun _ => true) true n 4 ((cs.toList.drop 32).take (Try.prog.cellsOf 4)) = some y1 := hp 1 _ rfl
    have h2 : DataW.trod enc Try.prog W 0 (fun _ => true) true n 23 ((cs.toList.drop 33).take (Try.prog.cellsOf 23)) = some y2 := hp 2 _ rfl
    have h3 : DataW.trod enc Try.prog W 0 (fun _ => true) true n 24 ((cs.toList.drop 45).take (Try.prog.cellsOf 24)) = some y3 := hp 3 _ rfl
    have h4 : DataW.trod enc Try.prog W 0 (fun _ => true) true n 24 ((cs.toList.drop 46).take (Try.prog.cellsOf 24)) = some y4 := hp 4 _ rfl
    rw [k0] at h0
    rw [k1] at h1
    rw [k2] at h2
    rw [k3] at h3 h4
    obtain ⟨K, hK, eK⟩ := bytes32_of_trod (v := .agg ((cs.toList.drop 0).take 32).toArray) (d := y0.1) (p := y0.2) ⟨n, by simpa [Value.cells] using h0⟩
    obtain ⟨sh, eS, _⟩ := DataW.trod_bool Try.underlying4 h1
    obtain ⟨N, hN, eN⟩ := bytes12_of_trod (v := .agg ((cs.toList.drop 33).take 12).toArray) (d := y2.1) (p := y2.2) ⟨n, by simpa [Value.cells] using h2⟩
    obtain ⟨A1, n1, c1, P, e3, hP, i1⟩ := ink_of_cells h3
    obtain ⟨A2, n2, c2, Q, e4, hQ, i2⟩ := ink_of_cells h4
    have eK2 : (cs.toList.drop 0).take 32 = K.map B8 := by
      have := congrArg (fun v => match v with | Value.agg a => a.toList | _ => []) eK
      simpa using this
    have eN2 : (cs.toList.drop 33).take 12 = N.map B8 := by
      have := congrArg (fun v => match v with | Value.agg a => a.toList | _ => []) eN
      simpa using this
    refine ⟨K, sh, N, A1, n1, c1, P, A2, n2, c2, Q, ?_, hK, hN, hP, hQ, i1, i2⟩
    congr 1
    apply Array.toList_inj.1
    have e5 := split47 cs.toList hl
    rw [eK2, eS, eN2, e3, e4] at e5
    rw [e5]
    simp [letC]


theorem size_alloc' (w : World) (o : Obj) : (w.alloc o).heap.size = w.heap.size + 1 := by simp
theorem letC_length (K N : List UInt8) (sh : Bool) (A1 A2 : Option Addr) (n1 c1 n2 c2 : Nat) (hK : K.length = 32) (hN : N.length = 12) : (letC K sh N A1 n1 c1 A2 n2 c2).length = 47 := by simp [letC, hK, hN]
theorem letC_key (K N : List UInt8) (sh : Bool) (A1 A2 : Option Addr) (n1 c1 n2 c2 : Nat) (hK : K.length = 32) (j : Nat) (hj : j < 32) : (letC K sh N A1 n1 c1 A2 n2 c2)[j]? = some (B8 (K.getD j 0)) := by
  unfold letC
  rw [List.getElem?_append_left (by simp [hK]; omega)]
  exact getD_map8 K j (by omega)
theorem letC_short (K N : List UInt8) (sh : Bool) (A1 A2 : Option Addr) (n1 c1 n2 c2 : Nat) (hK : K.length = 32) : (letC K sh N A1 n1 c1 A2 n2 c2)[32]? = some (.bool sh) := by
  unfold letC
  rw [List.getElem?_append_right (by simp [hK])]
  simp [hK]
theorem letC_nonce (K N : List UInt8) (sh : Bool) (A1 A2 : Option Addr) (n1 c1 n2 c2 : Nat) (hK : K.length = 32) (hN : N.length = 12) (j : Nat) (v : Value) (hv : (N.map B8)[j]? = some v) : (letC K sh N A1 n1 c1 A2 n2 c2)[33 + j]? = some v := by
  have hj : j < 12 := by have := (List.getElem?_eq_some_iff.1 hv).1; simpa [hN] using this
  unfold letC
  rw [List.getElem?_append_right (by simp [hK]; omega)]
  simp only [List.length_map, hK]
  rw [show 33 + j - 32 = j + 1 by omega, List.getElem?_cons_succ, List.getElem?_append_left (by simp [hN]; omega)]
  exact hv
theorem letC_plain (K N : List UInt8) (sh : Bool) (A1 A2 : Option Addr) (n1 c1 n2 c2 : Nat) (hK : K.length = 32) (hN : N.length = 12) : (letC K sh N A1 n1 c1 A2 n2 c2)[45]? = some (.slice A1 n1 c1) := by
  unfold letC
  rw [List.getElem?_append_right (by simp [hK])]
  simp only [List.length_map, hK]
  rw [show 45 - 32 = 12 + 1 by omega, List.getElem?_cons_succ, List.getElem?_append_right (by simp [hN])]
  simp [hN]
theorem letC_beside (K N : List UInt8) (sh : Bool) (A1 A2 : Option Addr) (n1 c1 n2 c2 : Nat) (hK : K.length = 32) (hN : N.length = 12) : (letC K sh N A1 n1 c1 A2 n2 c2)[46]? = some (.slice A2 n2 c2) := by
  unfold letC
  rw [List.getElem?_append_right (by simp [hK])]
  simp only [List.length_map, hK]
  rw [show 46 - 32 = 13 + 1 by omega, List.getElem?_cons_succ, List.getElem?_append_right (by simp [hN])]
  simp [hN]
theorem src_at {w : World} {A : Option Addr} {g n c : Nat} {s : List UInt8} (h : Src w g A s) (hs : s.length = n) : _root_.Go.Src Try.prog 1 24 (.slice A n c) s.length (s.map B8) w := by
  subst hs
  exact src_in' (c := c) h
/-- A letter's key. -/
def keyOf (K : List UInt8) (sh : Bool) : List UInt8 := if sh then K.take 16 else K
def fours (sh : Bool) : Nat := if sh then 4 else 8
theorem keyOf_length (K : List UInt8) (sh : Bool) (hK : K.length = 32) : (keyOf K sh).length = 4 * fours sh := by
  cases sh
  · simp [keyOf, fours, hK]
  · simp [keyOf, fours, hK]
theorem fours_or (sh : Bool) : fours sh = 4 ∨ fours sh = 8 := by cases sh <;> simp [fours]

set_option maxRecDepth 100000 in
set_option maxHeartbeats 1000000 in
theorem plain_e (K N : List UInt8) (sh : Bool) (A1 A2 : Option Addr) (n1 c1 n2 c2 : Nat) (P : List UInt8) (w : World) (hK : K.length = 32) (hN : N.length = 12) (hP : P.length = n1) (iP : In w w.heap.size A1 c1 P) :
    Calls Try.prog 13 #[.agg (letC K sh N A1 n1 c1 A2 n2 c2).toArray] w fun e w' => ∃ A' n' c', e = .returned (.slice A' n' c') ∧ (P.take 100).length = n' ∧ Buf w' w.heap.size A' n' c' (P.take 100) ∧ Below w.heap.size w w' := by
  have ms : min (n1 : Int) 100 = ((P.take 100).length : Int) := by rw [List.length_take, hP]; omega
  have hle : (P.take 100).length ≤ n1 := by rw [List.length_take, hP]; omega
  have hca := iP.1
  have ip := iP.take 100
  generalize P.take 100 = K1 at *
  obtain ⟨l, hl⟩ : ∃ l, l = K1.length := ⟨_, rfl⟩
  rw [← hl] at ms hle ⊢
  have hc : (w.alloc (.cells (letC K sh N A1 n1 c1 A2 n2 c2).toArray 26)).cell? ⟨w.heap.size, 45, none⟩ = some (.slice A1 n1 c1) := (Blk.new_of w 26 (letC K sh N A1 n1 c1 A2 n2 c2).toArray (letC K sh N A1 n1 c1 A2 n2 c2) rfl).cell 45 |>.trans (letC_plain K N sh A1 A2 n1 c1 n2 c2 hK hN)
  have hc2 : ∀ X : Obj, ((w.alloc (.cells (letC K sh N A1 n1 c1 A2 n2 c2).toArray 26)).alloc X).cell? ⟨w.heap.size, 45, none⟩ = some (.slice A1 n1 c1) := fun X => ((Blk.new_of w 26 (letC K sh N A1 n1 c1 A2 n2 c2).toArray (letC K sh N A1 n1 c1 A2 n2 c2) rfl).alloc X).cell 45 |>.trans (letC_plain K N sh A1 A2 n1 c1 n2 c2 hK hN)
  have hl0 : (0 : Int) ≤ (l : Int) := by omega
  have hl1 : (l : Int) ≤ (n1 : Int) := by omega
  have hl2 : (l : Int) ≤ (c1 : Int) := by omega
  have HL := Lib.hid hl
  have HLB := Lib.hid (show l ≤ 1000 by omega)
  have HIP := Lib.hid ip
  clear hl hP hca ip iP hle
  go_enter Try.func13, Try.ntmps13
  have hL := Blk.new_of w 26 (letC K sh N A1 n1 c1 A2 n2 c2).toArray (letC K sh N A1 n1 c1 A2 n2 c2) rfl
  have hb0 : ∀ X Y : Obj, Below w.heap.size w ((w.alloc X).alloc Y) := fun X Y => ((Below.refl _ _).alloc (Nat.le_refl _) _).alloc (by simp) _
  have hBe := buf_empty (w.alloc (.cells (letC K sh N A1 n1 c1 A2 n2 c2).toArray 26))
  rw [size_alloc'] at hBe
  clear hL
  go_wp2_with ((with_reducible refine (?_ : wpList _ _ _ (Oper.mk (some 11) _ _ _ _ _ :: _) _ _)); go_loud (refine wpList_append_far rfl (.tmp 3) (.tmp 10) 24 rfl (w.heap.size + 1) _ 0 _ [] K1 _ rfl hBe rfl (src_at ((in_up HIP.out (hb0 _ _)).src (Nat.le_refl _)) HL.out.symm) (by have := HL.out; have := HLB.out; omega) (by simp) l (by rw [HL.out]; omega) ?_); intro A5 c5 w5 hB5 hg5 _; have hbw5 := below_own (hb0 _ _) hBe hg5 (Nat.le_succ _) (by simp; omega))
  go_ret
  exact ⟨A5, l, c5, rfl, rfl, by simpa using hB5.base (Nat.le_succ _), hbw5⟩

set_option maxRecDepth 100000 in
set_option maxHeartbeats 1000000 in
theorem beside_e (K N : List UInt8) (sh : Bool) (A1 A2 : Option Addr) (n1 c1 n2 c2 : Nat) (P : List UInt8) (w : World) (hK : K.length = 32) (hN : N.length = 12) (hP : P.length = n2) (iP : In w w.heap.size A2 c2 P) :
    Calls Try.prog 14 #[.agg (letC K sh N A1 n1 c1 A2 n2 c2).toArray] w fun e w' => ∃ A' n' c', e = .returned (.slice A' n' c') ∧ (P.take 60).length = n' ∧ Buf w' w.heap.size A' n' c' (P.take 60) ∧ Below w.heap.size w w' := by
  have ms : min (n2 : Int) 60 = ((P.take 60).length : Int) := by rw [List.length_take, hP]; omega
  have hle : (P.take 60).length ≤ n2 := by rw [List.length_take, hP]; omega
  have hca := iP.1
  have ip := iP.take 60
  generalize P.take 60 = K1 at *
  obtain ⟨l, hl⟩ : ∃ l, l = K1.length := ⟨_, rfl⟩
  rw [← hl] at ms hle ⊢
  have hc : (w.alloc (.cells (letC K sh N A1 n1 c1 A2 n2 c2).toArray 26)).cell? ⟨w.heap.size, 46, none⟩ = some (.slice A2 n2 c2) := (Blk.new_of w 26 (letC K sh N A1 n1 c1 A2 n2 c2).toArray (letC K sh N A1 n1 c1 A2 n2 c2) rfl).cell 46 |>.trans (letC_beside K N sh A1 A2 n1 c1 n2 c2 hK hN)
  have hc2 : ∀ X : Obj, ((w.alloc (.cells (letC K sh N A1 n1 c1 A2 n2 c2).toArray 26)).alloc X).cell? ⟨w.heap.size, 46, none⟩ = some (.slice A2 n2 c2) := fun X => ((Blk.new_of w 26 (letC K sh N A1 n1 c1 A2 n2 c2).toArray (letC K sh N A1 n1 c1 A2 n2 c2) rfl).alloc X).cell 46 |>.trans (letC_beside K N sh A1 A2 n1 c1 n2 c2 hK hN)
  have hl0 : (0 : Int) ≤ (l : Int) := by omega
  have hl1 : (l : Int) ≤ (n2 : Int) := by omega
  have hl2 : (l : Int) ≤ (c2 : Int) := by omega
  have HL := Lib.hid hl
  have HLB := Lib.hid (show l ≤ 1000 by omega)
  have HIP := Lib.hid ip
  clear hl hP hca ip iP hle
  go_enter Try.func14, Try.ntmps14
  have hL := Blk.new_of w 26 (letC K sh N A1 n1 c1 A2 n2 c2).toArray (letC K sh N A1 n1 c1 A2 n2 c2) rfl
  have hb0 : ∀ X Y : Obj, Below w.heap.size w ((w.alloc X).alloc Y) := fun X Y => ((Below.refl _ _).alloc (Nat.le_refl _) _).alloc (by simp) _
  have hBe := buf_empty (w.alloc (.cells (letC K sh N A1 n1 c1 A2 n2 c2).toArray 26))
  rw [size_alloc'] at hBe
  clear hL
  go_wp2_with ((with_reducible refine (?_ : wpList _ _ _ (Oper.mk (some 11) _ _ _ _ _ :: _) _ _)); go_loud (refine wpList_append_far rfl (.tmp 3) (.tmp 10) 24 rfl (w.heap.size + 1) _ 0 _ [] K1 _ rfl hBe rfl (src_at ((in_up HIP.out (hb0 _ _)).src (Nat.le_refl _)) HL.out.symm) (by have := HL.out; have := HLB.out; omega) (by simp) l (by rw [HL.out]; omega) ?_); intro A5 c5 w5 hB5 hg5 _; have hbw5 := below_own (hb0 _ _) hBe hg5 (Nat.le_succ _) (by simp; omega))
  go_ret
  exact ⟨A5, l, c5, rfl, rfl, by simpa using hB5.base (Nat.le_succ _), hbw5⟩

set_option maxRecDepth 100000 in
set_option maxHeartbeats 1000000 in
theorem key_e (K N : List UInt8) (sh : Bool) (A1 A2 : Option Addr) (n1 c1 n2 c2 : Nat) (w : World) (hK : K.length = 32) :
    Calls Try.prog 8 #[.agg (letC K sh N A1 n1 c1 A2 n2 c2).toArray] w fun e w' => ∃ A' n' c', e = .returned (.slice A' n' c') ∧ n' = 4 * fours sh ∧ Buf w' w.heap.size A' n' c' (keyOf K sh) ∧ Below w.heap.size w w' := by
  have hc : ∀ W, Below (w.heap.size + 1) (w.alloc (.cells (letC K sh N A1 n1 c1 A2 n2 c2).toArray 26)) W → W.cell? ⟨w.heap.size, 32, none⟩ = some (.bool sh) := fun W hb => (((Blk.new_of w 26 (letC K sh N A1 n1 c1 A2 n2 c2).toArray (letC K sh N A1 n1 c1 A2 n2 c2) rfl).below hb (Nat.lt_succ_self _)).cell 32).trans (letC_short K N sh A1 A2 n1 c1 n2 c2 hK)
  have hc1 := hc _ (Below.refl _ _)
  have hI : ∀ (n c : Nat) (X : Obj), n ≤ 32 → n ≤ c → c ≤ 32 → In ((w.alloc (.cells (letC K sh N A1 n1 c1 A2 n2 c2).toArray 26)).alloc X) (w.heap.size + 1) (some ⟨w.heap.size, 0, none⟩) c (K.take n) := fun n c X h1 h2 h3 => ⟨by rw [List.length_take]; omega, by omega, fun _ => ⟨w.heap.size, 0, rfl, Nat.lt_succ_self _, fun j hj => by
    rw [List.length_take] at hj
    rw [Nat.zero_add, ((Blk.new_of w 26 (letC K sh N A1 n1 c1 A2 n2 c2).toArray (letC K sh N A1 n1 c1 A2 n2 c2) rfl).alloc X).cell j, letC_key K N sh A1 A2 n1 c1 n2 c2 hK j (by omega)]
    simp [List.getD_eq_getElem?_getD, show j < n by omega]⟩⟩
  have hl16 : (K.take 16).length = 16 := by rw [List.length_take, hK]; rfl
  have hl32 : (K.take 32).length = 32 := by rw [List.length_take, hK]; rfl
  have hK32 : K.take 32 = K := List.take_of_length_le (by omega)
  have HI := Lib.hid hI
  have H16 := Lib.hid hl16
  have H32 := Lib.hid hl32
  have HK32 := Lib.hid hK32
  clear hI hl16 hl32 hK32 hK hc
  go_enter Try.func8, Try.ntmps8
  have hL := Blk.new_of w 26 (letC K sh N A1 n1 c1 A2 n2 c2).toArray (letC K sh N A1 n1 c1 A2 n2 c2) rfl
  have hb0 : ∀ X Y : Obj, Below w.heap.size w ((w.alloc X).alloc Y) := fun X Y => ((Below.refl _ _).alloc (Nat.le_refl _) _).alloc (by simp) _
  have hBe := buf_empty (w.alloc (.cells (letC K sh N A1 n1 c1 A2 n2 c2).toArray 26))
  rw [size_alloc'] at hBe
  clear hL
  cases sh
  case' true =>
    go_wp2_with ((with_reducible refine (?_ : wpList _ _ _ (Oper.mk (some 8) _ _ _ _ _ :: _) _ _)); go_loud (refine wpList_append_far rfl (.tmp 5) (.tmp 7) 24 rfl (w.heap.size + 1) _ 0 _ [] (K.take 16) _ rfl hBe rfl (src_at ((HI.out 16 32 _ (by omega) (by omega) (by omega)).src (Nat.le_refl _)) H16.out) (by rw [H16.out]; omega) (by simp) 16 (by rw [H16.out]) ?_); intro A5 c5 w5 hB5 hg5 _; have hbw5 := below_own (hb0 _ _) hBe hg5 (Nat.le_succ _) (by simp; omega))
    go_ret
    exact ⟨A5, 16, c5, rfl, rfl, by simpa [keyOf] using hB5.base (Nat.le_succ _), hbw5⟩
  case' false =>
    go_wp2_with ((with_reducible refine (?_ : wpList _ _ _ (Oper.mk (some 12) _ _ _ _ _ :: _) _ _)); go_loud (refine wpList_append_far rfl (.tmp 9) (.tmp 11) 24 rfl (w.heap.size + 1) _ 0 _ [] (K.take 32) _ rfl hBe rfl (src_at ((HI.out 32 32 _ (by omega) (by omega) (by omega)).src (Nat.le_refl _)) H32.out) (by rw [H32.out]; omega) (by simp) 32 (by rw [H32.out]) ?_); intro A5 c5 w5 hB5 hg5 _; have hbw5 := below_own (hb0 _ _) hBe hg5 (Nat.le_succ _) (by simp; omega))
    go_ret
    exact ⟨A5, 32, c5, rfl, rfl, by have := hB5.base (Nat.le_succ _); rw [HK32.out] at this; simpa [keyOf] using this, hbw5⟩
end Go.Proofs.Ytefbjhdcmgonbaa
