/-
  A letter that comes in: a key, whether it is short, a nonce, plain bytes, those beside.
-/
import Derived.Test.YtiebdglnkbpajaaGNarr
namespace Go.Proofs.Ytiebdglnkbpajaa
open Go.ChangeShapes Go.WideShapes Go.ChangeAt Go.RowKit

/-- How a letter lies. -/
def letC (K : List UInt8) (sh : Bool) (N : List UInt8) (A1 : Option Addr) (n1 c1 : Nat) (A2 : Option Addr) (n2 c2 : Nat) : List Value :=
  K.map B8 ++ (.bool sh :: (N.map B8 ++ [.slice A1 n1 c1, .slice A2 n2 c2]))
theorem ink_of_cells {H : Type} {enc : TypeId × Value → H} {W : World} {cs : List Value} {x : DataW H × List MemPlace} {fuel : Nat}
    (hf : DataW.trod enc Try.prog W 0 (fun _ => true) true fuel 29 cs = some x) : ∃ (a : Option Addr) (n c : Nat) (xs : List UInt8), cs = [.slice a n c] ∧ xs.length = n ∧ In W W.heap.size a c xs := by
  rcases open_ints Try.underlying29 Try.underlying5 (by kernel_rfl) hf with ⟨hcs, _⟩ | ⟨y, l, c, zs, hcs, _⟩
  · obtain ⟨xs, h1, h2⟩ := ink_of_trod (enc := enc) (W := W) (a := none) (len := 0) (cap := 0) (d := x.1) (p := x.2) ⟨fuel, by rw [hcs] at hf; exact hf⟩
    exact ⟨none, 0, 0, xs, hcs, h1, h2⟩
  · obtain ⟨xs, h1, h2⟩ := ink_of_trod (enc := enc) (W := W) (a := some y) (len := l) (cap := c) (d := x.1) (p := x.2) ⟨fuel, by rw [hcs] at hf; exact hf⟩
    exact ⟨some y, l, c, xs, hcs, h1, h2⟩
theorem bytes12_of_trod {H : Type} {enc : TypeId × Value → H} {W : World} {v : Value} {d : DataW H} {p : List MemPlace}
    (h : DataW.Trod enc Try.prog W 0 (fun _ => true) true 39 v d p) : ∃ xs : List UInt8, xs.length = 12 ∧ v = .agg (xs.map B8).toArray := by
  obtain ⟨xs, hl, rfl, hw⟩ := ints_of_trod (n := 12) (by decide) Try.underlying39 Try.underlying5 (by kernel_rfl) (by kernel_rfl) h
  refine ⟨xs.map fun z => UInt8.ofNat z.toNat, by rw [List.length_map, hl], ?_⟩
  congr 2
  rw [List.map_map]
  apply List.map_congr_left
  intro z hz
  obtain ⟨i, hi, rfl⟩ := List.getElem_of_mem hz
  have h1 := hw i (by omega)
  rw [List.getD_eq_getElem?_getD, List.getElem?_eq_getElem hi] at h1
  simp [Lit.wf, IntKind.min, IntKind.max, IntKind.signed, IntKind.bits] at h1
  show Value.int .u8 xs[i] = .int .u8 (((UInt8.ofNat xs[i].toNat).toNat : Nat) : Int)
  congr 1
  rw [UInt8.toNat_ofNat']
  omega
theorem split47 (L : List Value) (h : L.length = 47) : L = (L.drop 0).take 32 ++ ((L.drop 32).take 1 ++ ((L.drop 33).take 12 ++ ((L.drop 45).take 1 ++ (L.drop 46).take 1))) := by
  have s : ∀ a b, L.drop a = (L.drop a).take b ++ L.drop (a + b) := fun a b => by
    conv => lhs; rw [← List.take_append_drop b (L.drop a), List.drop_drop]
  conv => lhs; rw [show L = L.drop 0 from rfl, s 0 32, s (0 + 32) 1, s (0 + 32 + 1) 12, s (0 + 32 + 1 + 12) 1, s (0 + 32 + 1 + 12 + 1) 1, List.drop_eq_nil_of_le (show L.length ≤ 0 + 32 + 1 + 12 + 1 + 1 by omega), List.append_nil]
theorem letter_of_trod {H : Type} {enc : TypeId × Value → H} {W : World} {v : Value} {d : DataW H} {p : List MemPlace}
    (h : DataW.Trod enc Try.prog W 0 (fun _ => true) true 41 v d p) : ∃ (K : List UInt8) (sh : Bool) (N : List UInt8) (A1 : Option Addr) (n1 c1 : Nat) (P : List UInt8) (A2 : Option Addr) (n2 c2 : Nat) (Q : List UInt8),
      v = .agg (letC K sh N A1 n1 c1 A2 n2 c2).toArray ∧ K.length = 32 ∧ N.length = 12 ∧ P.length = n1 ∧ Q.length = n2 ∧ In W W.heap.size A1 c1 P ∧ In W W.heap.size A2 c2 Q := by
  obtain ⟨fuel, hf⟩ := h
  obtain ⟨xs, n, _, _, hl, hlen, hp⟩ := DataW.trod_struct Try.underlying41 hf
  have c47 : Try.prog.cellsOf 41 = 47 := by kernel_rfl
  rw [c47] at hl
  obtain ⟨cs, rfl⟩ : ∃ cs, v = .agg cs := by
    cases v with
    | agg cs => exact ⟨cs, rfl⟩
    | _ => simp [Value.cells] at hl
  simp only [Value.cells] at hp hl
  match xs, hlen with
  | [y0, y1, y2, y3, y4], _ =>
    have k0 : Try.prog.cellsOf 38 = 32 := by kernel_rfl
    have k1 : Try.prog.cellsOf 4 = 1 := by kernel_rfl
    have k2 : Try.prog.cellsOf 39 = 12 := by kernel_rfl
    have k3 : Try.prog.cellsOf 29 = 1 := by kernel_rfl
    have h0 : DataW.trod enc Try.prog W 0 (fun _ => true) true n 38 ((cs.toList.drop 0).take (Try.prog.cellsOf 38)) = some y0 := hp 0 _ rfl
    have h1 : DataW.trod enc Try.prog W 0 (fun _ => true) true n 4 ((cs.toList.drop 32).take (Try.prog.cellsOf 4)) = some y1 := hp 1 _ rfl
    have h2 : DataW.trod enc Try.prog W 0 (fun _ => true) true n 39 ((cs.toList.drop 33).take (Try.prog.cellsOf 39)) = some y2 := hp 2 _ rfl
    have h3 : DataW.trod enc Try.prog W 0 (fun _ => true) true n 29 ((cs.toList.drop 45).take (Try.prog.cellsOf 29)) = some y3 := hp 3 _ rfl
    have h4 : DataW.trod enc Try.prog W 0 (fun _ => true) true n 29 ((cs.toList.drop 46).take (Try.prog.cellsOf 29)) = some y4 := hp 4 _ rfl
    rw [k0] at h0
    rw [k1] at h1
    rw [k2] at h2
    rw [k3] at h3 h4
    obtain ⟨K, hK, eK⟩ := bytes32_of_trod (v := .agg ((cs.toList.drop 0).take 32).toArray) (d := y0.1) (p := y0.2) ⟨n, by simpa [Value.cells] using h0⟩
    obtain ⟨sh, eS, _⟩ := DataW.trod_bool Try.underlying4 h1
    obtain ⟨N, hN, eN⟩ := bytes12_of_trod (v := .agg ((cs.toList.drop 33).take 12).toArray) (d := y2.1) (p := y2.2) ⟨n, by simpa [Value.cells] using h2⟩
    obtain ⟨A1, n1, c1, P, e3, hP, i1⟩ := ink_of_cells h3
    obtain ⟨A2, n2, c2, Q, e4, hQ, i2⟩ := ink_of_cells h4
    have eK2 : (cs.toList.drop 0).take 32 = K.map B8 := by
      have := congrArg (fun v => match v with | Value.agg a => a.toList | _ => []) eK
      simpa using this
    have eN2 : (cs.toList.drop 33).take 12 = N.map B8 := by
      have := congrArg (fun v => match v with | Value.agg a => a.toList | _ => []) eN
      simpa using this
    refine ⟨K, sh, N, A1, n1, c1, P, A2, n2, c2, Q, ?_, hK, hN, hP, hQ, i1, i2⟩
    congr 1
    apply Array.toList_inj.1
    have e5 := split47 cs.toList hl
    rw [eK2, eS, eN2, e3, e4] at e5
    rw [e5]
    simp [letC]
end Go.Proofs.Ytiebdglnkbpajaa
