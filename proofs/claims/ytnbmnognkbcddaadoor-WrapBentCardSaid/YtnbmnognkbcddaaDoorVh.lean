/-
  A key of the law's: how it lies, what comes in; its key and its secret; and wraps.
-/
import Derived.Test.YtnbmnognkbcddaaDoorVe
import Derived.LaidMore
namespace Go.Proofs.YtnbmnognkbcddaaDoor
open Go.ChangeShapes Go.WideShapes Go.ChangeAt Go.RowKit

/-- How a key lies. -/
def keyC (kind : Int) (A : Option Addr) (n c : Nat) (s0 s1 : UInt8) (Q : List UInt8) (As : Option Addr) (ns cs : Nat) : List Value :=
  .int .i64 kind :: .slice A n c :: B8 s0 :: B8 s1 :: (Q.map B8 ++ [.slice As ns cs])
theorem keyC_length (kind : Int) (A As : Option Addr) (n c ns cs : Nat) (s0 s1 : UInt8) (Q : List UInt8) (hQ : Q.length = 16) : (keyC kind A n c s0 s1 Q As ns cs).length = 21 := by
  unfold keyC; simp [hQ]
theorem keyC_last (kind : Int) (A As : Option Addr) (n c ns cs : Nat) (s0 s1 : UInt8) (Q : List UInt8) (hQ : Q.length = 16) : (keyC kind A n c s0 s1 Q As ns cs)[20]? = some (.slice As ns cs) := by
  unfold keyC; simp [hQ]
theorem in_of_cells {H : Type} {enc : TypeId × Value → H} {W : World} {cs : List Value} {x : DataW H × List MemPlace} {fuel : Nat}
    (hf : DataW.trod enc Tryd.prog W 0 (fun _ => true) true fuel 26 cs = some x) : ∃ (a : Option Addr) (n c : Nat) (xs : List UInt8), cs = [.slice a n c] ∧ xs.length = n ∧ In W W.heap.size a c xs := by
  rcases open_ints Tryd.underlying26 Tryd.underlying5 (by kernel_rfl) hf with ⟨hcs, _⟩ | ⟨y, l, c, zs, hcs, _⟩
  · obtain ⟨xs, h1, h2⟩ := in_of_trod (enc := enc) (W := W) (a := none) (len := 0) (cap := 0) (d := x.1) (p := x.2) ⟨fuel, by rw [hcs] at hf; exact hf⟩
    exact ⟨none, 0, 0, xs, hcs, h1, h2⟩
  · obtain ⟨xs, h1, h2⟩ := in_of_trod (enc := enc) (W := W) (a := some y) (len := l) (cap := c) (d := x.1) (p := x.2) ⟨fuel, by rw [hcs] at hf; exact hf⟩
    exact ⟨some y, l, c, xs, hcs, h1, h2⟩
theorem bytes2_of_trod {H : Type} {enc : TypeId × Value → H} {W : World} {v : Value} {d : DataW H} {p : List MemPlace}
    (h : DataW.Trod enc Tryd.prog W 0 (fun _ => true) true 71 v d p) : ∃ s0 s1 : UInt8, v = .agg #[B8 s0, B8 s1] := by
  obtain ⟨xs, hl, rfl, hw⟩ := ints_of_trod (n := 2) (by decide) Tryd.underlying71 Tryd.underlying5 (by kernel_rfl) (by kernel_rfl) h
  match xs, hl with
  | [a, b], _ =>
    have h0 := hw 0 (by decide)
    have h1 := hw 1 (by decide)
    simp [Lit.wf, IntKind.min, IntKind.max, IntKind.signed, IntKind.bits] at h0 h1
    refine ⟨UInt8.ofNat a.toNat, UInt8.ofNat b.toNat, ?_⟩
    show Value.agg #[.int .u8 a, .int .u8 b] = .agg #[.int .u8 (((UInt8.ofNat a.toNat).toNat : Nat) : Int), .int .u8 (((UInt8.ofNat b.toNat).toNat : Nat) : Int)]
    rw [UInt8.toNat_ofNat', UInt8.toNat_ofNat', show ((a.toNat % 2 ^ 8 : Nat) : Int) = a by omega, show ((b.toNat % 2 ^ 8 : Nat) : Int) = b by omega]
theorem split21 (L : List Value) (h : L.length = 21) : L = (L.drop 0).take 1 ++ ((L.drop 1).take 1 ++ ((L.drop 2).take 2 ++ ((L.drop 4).take 16 ++ (L.drop 20).take 1))) := by
  have s : ∀ a b, L.drop a = (L.drop a).take b ++ L.drop (a + b) := fun a b => by
    conv => lhs; rw [← List.take_append_drop b (L.drop a), List.drop_drop]
  conv => lhs; rw [show L = L.drop 0 from rfl, s 0 1, s (0 + 1) 1, s (0 + 1 + 1) 2, s (0 + 1 + 1 + 2) 16, s (0 + 1 + 1 + 2 + 16) 1, List.drop_eq_nil_of_le (show L.length ≤ 0 + 1 + 1 + 2 + 16 + 1 by omega), List.append_nil]
theorem key_of_trod {H : Type} {enc : TypeId × Value → H} {W : World} {v : Value} {d : DataW H} {p : List MemPlace}
    (h : DataW.Trod enc Tryd.prog W 0 (fun _ => true) true 73 v d p) : ∃ (kind : Int) (A As : Option Addr) (n c ns cs : Nat) (s0 s1 : UInt8) (Q key sec : List UInt8),
      v = .agg (keyC kind A n c s0 s1 Q As ns cs).toArray ∧ Q.length = 16 ∧ key.length = n ∧ sec.length = ns ∧ In W W.heap.size A c key ∧ In W W.heap.size As cs sec := by
  obtain ⟨fuel, hf⟩ := h
  obtain ⟨xs, m, _, _, hl, hlen, hp⟩ := DataW.trod_struct Tryd.underlying73 hf
  have c21 : Tryd.prog.cellsOf 73 = 21 := by kernel_rfl
  rw [c21] at hl
  obtain ⟨cl, rfl⟩ : ∃ cl, v = .agg cl := by
    cases v with
    | agg cl => exact ⟨cl, rfl⟩
    | _ => simp [Value.cells] at hl
  simp only [Value.cells] at hp hl
  match xs, hlen with
  | [y0, y1, y2, y3, y4], _ =>
    have k0 : Tryd.prog.cellsOf 3 = 1 := by kernel_rfl
    have k1 : Tryd.prog.cellsOf 26 = 1 := by kernel_rfl
    have k2 : Tryd.prog.cellsOf 71 = 2 := by kernel_rfl
    have k3 : Tryd.prog.cellsOf 22 = 16 := by kernel_rfl
    have h0 : DataW.trod enc Tryd.prog W 0 (fun _ => true) true m 3 ((cl.toList.drop 0).take (Tryd.prog.cellsOf 3)) = some y0 := hp 0 _ rfl
    have h1 : DataW.trod enc Tryd.prog W 0 (fun _ => true) true m 26 ((cl.toList.drop 1).take (Tryd.prog.cellsOf 26)) = some y1 := hp 1 _ rfl
    have h2 : DataW.trod enc Tryd.prog W 0 (fun _ => true) true m 71 ((cl.toList.drop 2).take (Tryd.prog.cellsOf 71)) = some y2 := hp 2 _ rfl
    have h3 : DataW.trod enc Tryd.prog W 0 (fun _ => true) true m 22 ((cl.toList.drop 4).take (Tryd.prog.cellsOf 22)) = some y3 := hp 3 _ rfl
    have h4 : DataW.trod enc Tryd.prog W 0 (fun _ => true) true m 26 ((cl.toList.drop 20).take (Tryd.prog.cellsOf 26)) = some y4 := hp 4 _ rfl
    rw [k0] at h0
    rw [k1] at h1 h4
    rw [k2] at h2
    rw [k3] at h3
    obtain ⟨kind, eK, _, _⟩ := DataW.trod_int Tryd.underlying3 h0
    obtain ⟨A, n, c, key, e1, hk, i1⟩ := in_of_cells h1
    obtain ⟨s0, s1, eS⟩ := bytes2_of_trod (v := .agg ((cl.toList.drop 2).take 2).toArray) (d := y2.1) (p := y2.2) ⟨m, by simpa [Value.cells] using h2⟩
    obtain ⟨Q, hQ, eQ⟩ := bytes16_of_trod (v := .agg ((cl.toList.drop 4).take 16).toArray) (d := y3.1) (p := y3.2) ⟨m, by simpa [Value.cells] using h3⟩
    obtain ⟨As, ns, cs, sec, e4, hs, i4⟩ := in_of_cells h4
    have eS2 : (cl.toList.drop 2).take 2 = [B8 s0, B8 s1] := by
      have := congrArg (fun v => match v with | Value.agg a => a.toList | _ => []) eS
      simpa using this
    have eQ2 : (cl.toList.drop 4).take 16 = Q.map B8 := by
      have := congrArg (fun v => match v with | Value.agg a => a.toList | _ => []) eQ
      simpa using this
    refine ⟨kind, A, As, n, c, ns, cs, s0, s1, Q, key, sec, ?_, hQ, hk, hs, i1, i4⟩
    refine congrArg Value.agg ?_
    apply Array.toList_inj.1
    have e5 := split21 cl.toList hl
    rw [eK, e1, eS2, eQ2, e4] at e5
    rw [e5]
    rfl
theorem inf21 : (Tryd.prog.info? 73).map (·.size) = some 21 := by kernel_rfl
set_option maxRecDepth 100000 in
set_option maxHeartbeats 1000000 in
theorem lkey_e (kind : Int) (A As : Option Addr) (n c ns cs : Nat) (s0 s1 : UInt8) (Q key sec : List UInt8) (w : World) (_hQ : Q.length = 16) (hk : key.length = n) (_hs : sec.length = ns) (i0 : In w w.heap.size A c key) (_is : In w w.heap.size As cs sec) (m : Nat) (hm : (key.take 250).length = m) :
    Calls Tryd.prog 38 #[.agg (keyC kind A n c s0 s1 Q As ns cs).toArray] w fun e w' => ∃ A' c', e = .returned (.slice A' m c') ∧ Buf w' w.heap.size A' m c' (key.take 250) ∧ Below w.heap.size w w' := by
  have hcl : ((w.alloc (.cells (keyC kind A n c s0 s1 Q As ns cs).toArray 73)).cell? ⟨w.heap.size, 1, none⟩) = some (.slice A n c) := ((Blk.new_of w 73 (keyC kind A n c s0 s1 Q As ns cs).toArray (keyC kind A n c s0 s1 Q As ns cs) rfl).cell 1).trans rfl
  have hlt : w.heap.size < (w.alloc (.cells (keyC kind A n c s0 s1 Q As ns cs).toArray 73)).heap.size := (Blk.new_of w 73 (keyC kind A n c s0 s1 Q As ns cs).toArray (keyC kind A n c s0 s1 Q As ns cs) rfl).lt
  have hmn : min (n : Int) 250 = (m : Int) := by rw [← hm, List.length_take]; omega
  have hmm : m ≤ 250 := by rw [← hm, List.length_take]; omega
  have hmn2 : m ≤ n := by rw [← hm, List.length_take]; omega
  have HJ := Lib.hid (fun (W : World) (h : Below w.heap.size w W) => (show _root_.Go.Src Tryd.prog 1 26 (.slice A m c) (key.take 250).length ((key.take 250).map B8) W from src_at (((i0.take 250).up h).src (Nat.le_refl _)) hm))
  have hmc : m ≤ c := by rw [← hm]; exact (i0.take 250).1
  have HM := Lib.hid hm
  generalize (keyC kind A n c s0 s1 Q As ns cs) = L at *
  clear _hQ hk _hs i0 _is hm
  go_enter Tryd.func38, Tryd.ntmps38
  have hb1 : Below w.heap.size w (w.alloc (.cells L.toArray 73)) := (Below.refl _ _).alloc (Nat.le_refl _) _
  go_upto_region 1 with (fail)
  obtain ⟨g, hg⟩ : ∃ g, g = w.heap.size := ⟨_, rfl⟩
  have HG := Lib.hid (show w.heap.size ≤ g by omega)
  rw [← hg] at hcl hlt
  simp only [← hg]
  have HB1 := Lib.hid hb1
  clear hg hb1
  generalize w.alloc (.cells L.toArray 73) = w1 at *
  have HZ := Lib.hid HB1.out.size
  have hcl2 : (w1.alloc (.cells #[] 5)).cell? ⟨g, 1, none⟩ = some (.slice A n c) := (((Below.refl w1.heap.size w1).alloc (Nat.le_refl _) _).cell (p := ⟨g, 1, none⟩) hlt).trans hcl
  go_wp2_with ((with_reducible refine (?_ : wpList _ _ _ (Oper.mk (some 11) _ _ _ _ _ :: _) _ _)); go_loud (refine wpList_append_far rfl (.tmp 3) (.tmp 10) 26 rfl w1.heap.size _ 0 0 [] (key.take 250) _ rfl (buf_empty w1) rfl (HJ.out _ (HB1.out.alloc HZ.out _)) (by rw [HM.out]; omega) (by simp) m (by rw [HM.out]; omega) ?_); intro A3 c3 w3 hB3 hg3 _)
  go_ret
  exact ⟨A3, c3, rfl, by rw [List.nil_append] at hB3; exact hB3.base HZ.out, below_own (HB1.out.alloc HZ.out _) (buf_empty w1) hg3 HZ.out (by have := HZ.out; simp; omega)⟩
set_option maxRecDepth 100000 in
set_option maxHeartbeats 1000000 in
theorem lsec_e (kind : Int) (A As : Option Addr) (n c ns cs : Nat) (s0 s1 : UInt8) (Q key sec : List UInt8) (w : World) (hQ : Q.length = 16) (_hk : key.length = n) (hs : sec.length = ns) (_i0 : In w w.heap.size A c key) (is : In w w.heap.size As cs sec) (m : Nat) (hm : (sec.take 60).length = m) :
    Calls Tryd.prog 39 #[.agg (keyC kind A n c s0 s1 Q As ns cs).toArray] w fun e w' => ∃ A' c', e = .returned (.slice A' m c') ∧ Buf w' w.heap.size A' m c' (sec.take 60) ∧ Below w.heap.size w w' := by
  have hcl : ((w.alloc (.cells (keyC kind A n c s0 s1 Q As ns cs).toArray 73)).cell? ⟨w.heap.size, 20, none⟩) = some (.slice As ns cs) := ((Blk.new_of w 73 (keyC kind A n c s0 s1 Q As ns cs).toArray (keyC kind A n c s0 s1 Q As ns cs) rfl).cell 20).trans (keyC_last kind A As n c ns cs s0 s1 Q hQ)
  have hlt : w.heap.size < (w.alloc (.cells (keyC kind A n c s0 s1 Q As ns cs).toArray 73)).heap.size := (Blk.new_of w 73 (keyC kind A n c s0 s1 Q As ns cs).toArray (keyC kind A n c s0 s1 Q As ns cs) rfl).lt
  have hmn : min (ns : Int) 60 = (m : Int) := by rw [← hm, List.length_take]; omega
  have hmm : m ≤ 60 := by rw [← hm, List.length_take]; omega
  have hmn2 : m ≤ ns := by rw [← hm, List.length_take]; omega
  have HJ := Lib.hid (fun (W : World) (h : Below w.heap.size w W) => (show _root_.Go.Src Tryd.prog 1 26 (.slice As m cs) (sec.take 60).length ((sec.take 60).map B8) W from src_at (((is.take 60).up h).src (Nat.le_refl _)) hm))
  have hmc : m ≤ cs := by rw [← hm]; exact (is.take 60).1
  have HM := Lib.hid hm
  generalize (keyC kind A n c s0 s1 Q As ns cs) = L at *
  clear hQ _hk hs _i0 is hm
  go_enter Tryd.func39, Tryd.ntmps39
  have hb1 : Below w.heap.size w (w.alloc (.cells L.toArray 73)) := (Below.refl _ _).alloc (Nat.le_refl _) _
  go_upto_region 1 with (fail)
  obtain ⟨g, hg⟩ : ∃ g, g = w.heap.size := ⟨_, rfl⟩
  have HG := Lib.hid (show w.heap.size ≤ g by omega)
  rw [← hg] at hcl hlt
  simp only [← hg]
  have HB1 := Lib.hid hb1
  clear hg hb1
  generalize w.alloc (.cells L.toArray 73) = w1 at *
  have HZ := Lib.hid HB1.out.size
  have hcl2 : (w1.alloc (.cells #[] 5)).cell? ⟨g, 20, none⟩ = some (.slice As ns cs) := (((Below.refl w1.heap.size w1).alloc (Nat.le_refl _) _).cell (p := ⟨g, 20, none⟩) hlt).trans hcl
  go_wp2_with ((with_reducible refine (?_ : wpList _ _ _ (Oper.mk (some 11) _ _ _ _ _ :: _) _ _)); go_loud (refine wpList_append_far rfl (.tmp 3) (.tmp 10) 26 rfl w1.heap.size _ 0 0 [] (sec.take 60) _ rfl (buf_empty w1) rfl (HJ.out _ (HB1.out.alloc HZ.out _)) (by rw [HM.out]; omega) (by simp) m (by rw [HM.out]; omega) ?_); intro A3 c3 w3 hB3 hg3 _)
  go_ret
  exact ⟨A3, c3, rfl, by rw [List.nil_append] at hB3; exact hB3.base HZ.out, below_own (HB1.out.alloc HZ.out _) (buf_empty w1) hg3 HZ.out (by have := HZ.out; simp; omega)⟩
end Go.Proofs.YtnbmnognkbcddaaDoor
