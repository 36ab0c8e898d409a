/-
  The contract of the group's point.
-/
import Derived.Test.YtnkikhnllnbhfaaDoorCw6
namespace Go.Proofs.YtnkikhnllnbhfaaDoor
open Go.RowKit
open CurveMath

theorem list32 (L : List Value) (h : L.length = 32) : ∃ a0 a1 a2 a3 a4 a5 a6 a7 a8 a9 a10 a11 a12 a13 a14 a15 a16 a17 a18 a19 a20 a21 a22 a23 a24 a25 a26 a27 a28 a29 a30 a31, L = [a0, a1, a2, a3, a4, a5, a6, a7, a8, a9, a10, a11, a12, a13, a14, a15, a16, a17, a18, a19, a20, a21, a22, a23, a24, a25, a26, a27, a28, a29, a30, a31] := by
  obtain _ | ⟨a0, L⟩ := L
  · exact absurd h (by simp)
  obtain _ | ⟨a1, L⟩ := L
  · exact absurd h (by simp)
  obtain _ | ⟨a2, L⟩ := L
  · exact absurd h (by simp)
  obtain _ | ⟨a3, L⟩ := L
  · exact absurd h (by simp)
  obtain _ | ⟨a4, L⟩ := L
  · exact absurd h (by simp)
  obtain _ | ⟨a5, L⟩ := L
  · exact absurd h (by simp)
  obtain _ | ⟨a6, L⟩ := L
  · exact absurd h (by simp)
  obtain _ | ⟨a7, L⟩ := L
  · exact absurd h (by simp)
  obtain _ | ⟨a8, L⟩ := L
  · exact absurd h (by simp)
  obtain _ | ⟨a9, L⟩ := L
  · exact absurd h (by simp)
  obtain _ | ⟨a10, L⟩ := L
  · exact absurd h (by simp)
  obtain _ | ⟨a11, L⟩ := L
  · exact absurd h (by simp)
  obtain _ | ⟨a12, L⟩ := L
  · exact absurd h (by simp)
  obtain _ | ⟨a13, L⟩ := L
  · exact absurd h (by simp)
  obtain _ | ⟨a14, L⟩ := L
  · exact absurd h (by simp)
  obtain _ | ⟨a15, L⟩ := L
  · exact absurd h (by simp)
  obtain _ | ⟨a16, L⟩ := L
  · exact absurd h (by simp)
  obtain _ | ⟨a17, L⟩ := L
  · exact absurd h (by simp)
  obtain _ | ⟨a18, L⟩ := L
  · exact absurd h (by simp)
  obtain _ | ⟨a19, L⟩ := L
  · exact absurd h (by simp)
  obtain _ | ⟨a20, L⟩ := L
  · exact absurd h (by simp)
  obtain _ | ⟨a21, L⟩ := L
  · exact absurd h (by simp)
  obtain _ | ⟨a22, L⟩ := L
  · exact absurd h (by simp)
  obtain _ | ⟨a23, L⟩ := L
  · exact absurd h (by simp)
  obtain _ | ⟨a24, L⟩ := L
  · exact absurd h (by simp)
  obtain _ | ⟨a25, L⟩ := L
  · exact absurd h (by simp)
  obtain _ | ⟨a26, L⟩ := L
  · exact absurd h (by simp)
  obtain _ | ⟨a27, L⟩ := L
  · exact absurd h (by simp)
  obtain _ | ⟨a28, L⟩ := L
  · exact absurd h (by simp)
  obtain _ | ⟨a29, L⟩ := L
  · exact absurd h (by simp)
  obtain _ | ⟨a30, L⟩ := L
  · exact absurd h (by simp)
  obtain _ | ⟨a31, L⟩ := L
  · exact absurd h (by simp)
  obtain _ | ⟨_, _⟩ := L
  · exact ⟨a0, a1, a2, a3, a4, a5, a6, a7, a8, a9, a10, a11, a12, a13, a14, a15, a16, a17, a18, a19, a20, a21, a22, a23, a24, a25, a26, a27, a28, a29, a30, a31, rfl⟩
  · simp only [List.length_cons] at h; omega
theorem builtPt' (a0 a1 a2 a3 a4 a5 a6 a7 a8 a9 a10 a11 a12 a13 a14 a15 a16 a17 a18 a19 a20 a21 a22 a23 a24 a25 a26 a27 a28 a29 a30 a31 b0 b1 b2 b3 b4 b5 b6 b7 b8 b9 b10 b11 b12 b13 b14 b15 b16 b17 b18 b19 b20 b21 b22 b23 b24 b25 b26 b27 b28 b29 b30 b31 : Value) : Tryd.prog.built 24 [(0, .agg #[a0, a1, a2, a3, a4, a5, a6, a7, a8, a9, a10, a11, a12, a13, a14, a15, a16, a17, a18, a19, a20, a21, a22, a23, a24, a25, a26, a27, a28, a29, a30, a31]), (1, .agg #[b0, b1, b2, b3, b4, b5, b6, b7, b8, b9, b10, b11, b12, b13, b14, b15, b16, b17, b18, b19, b20, b21, b22, b23, b24, b25, b26, b27, b28, b29, b30, b31])] = some #[a0, a1, a2, a3, a4, a5, a6, a7, a8, a9, a10, a11, a12, a13, a14, a15, a16, a17, a18, a19, a20, a21, a22, a23, a24, a25, a26, a27, a28, a29, a30, a31, b0, b1, b2, b3, b4, b5, b6, b7, b8, b9, b10, b11, b12, b13, b14, b15, b16, b17, b18, b19, b20, b21, b22, b23, b24, b25, b26, b27, b28, b29, b30, b31] := by kernel_rfl
theorem builtPt (X Y : List Value) (hX : X.length = 32) (hY : Y.length = 32) : Tryd.prog.built 24 [(0, .agg X.toArray), (1, .agg Y.toArray)] = some (X ++ Y).toArray := by
  obtain ⟨a0, a1, a2, a3, a4, a5, a6, a7, a8, a9, a10, a11, a12, a13, a14, a15, a16, a17, a18, a19, a20, a21, a22, a23, a24, a25, a26, a27, a28, a29, a30, a31, rfl⟩ := list32 X hX
  obtain ⟨b0, b1, b2, b3, b4, b5, b6, b7, b8, b9, b10, b11, b12, b13, b14, b15, b16, b17, b18, b19, b20, b21, b22, b23, b24, b25, b26, b27, b28, b29, b30, b31, rfl⟩ := list32 Y hY
  exact builtPt' a0 a1 a2 a3 a4 a5 a6 a7 a8 a9 a10 a11 a12 a13 a14 a15 a16 a17 a18 a19 a20 a21 a22 a23 a24 a25 a26 a27 a28 a29 a30 a31 b0 b1 b2 b3 b4 b5 b6 b7 b8 b9 b10 b11 b12 b13 b14 b15 b16 b17 b18 b19 b20 b21 b22 b23 b24 b25 b26 b27 b28 b29 b30 b31
theorem wp_built2 {o : Oper} {a : Act} {w : World} {K : Act → World → Prop} {Q : Exit → Act → World → Prop} (t : TypeId) (x y : Operand) (ho : o.op = .build t #[(0, x), (1, y)]) (v0 v1 : Value) (h0 : a.eval x = v0) (h1 : a.eval y = v1) (cells : Array Value) (hc : Tryd.prog.built t [(0, v0), (1, v1)] = some cells) (h : K (a.put o.dst (.agg cells)) w) : o.wp Tryd.prog a w K Q := by
  subst h0 h1
  have e : ((#[(0, x), (1, y)] : Array (Nat × Operand)).map fun (i, x) => (i, a.eval x)).toList = [(0, a.eval x), (1, a.eval y)] := by simp
  have hc' : Tryd.prog.built t ((#[(0, x), (1, y)] : Array (Nat × Operand)).map fun (i, x) => (i, a.eval x)).toList = some cells := by rw [e]; exact hc
  exact wp_build t _ ho (by rw [hc']; rfl) (by rw [hc']; exact h)
def zero32 : List UInt8 := List.replicate 32 0
/-- A number's bytes. -/
def kB (a : K) : List UInt8 := bsTo (pK a) 32
theorem kB_length (a : K) : (kB a).length = 32 := bsTo_length _ _
def ptK (a b : K) : List Value := ptC (kB a) (kB b)
def ptZ : List Value := ptC zero32 zero32
theorem ptK_length (a b : K) : (ptK a b).length = 64 := ptC_length (kB_length a) (kB_length b)
theorem ptZ_length : ptZ.length = 64 := by decide
def ptV : Pt → List Value
  | none => ptZ
  | some (x, y) => ptK x y
theorem BytK (a : K) (w : World) : Calls Tryd.prog 34 #[.agg (kC a).toArray] w fun e w' => e = .returned (.agg ((kB a).map B8).toArray) ∧ Below w.heap.size w w' := Bytes_any (pK a) w
theorem builtK (a b : K) : Tryd.prog.built 24 [(0, .agg ((kB a).map B8).toArray), (1, .agg ((kB b).map B8).toArray)] = some (ptK a b).toArray := builtPt _ _ (by rw [List.length_map, kB_length]) (by rw [List.length_map, kB_length])
theorem builtZ : Tryd.prog.built 24 [] = some ptZ.toArray := by kernel_rfl
theorem wpList_built0 {ops : Array Oper} {rest : List Oper} {o : Oper} {a : Act} {w : World} {Q : Exit → Act → World → Prop} (hgd : o.guard = none) (t : TypeId) (ho : o.op = .build t #[]) (cells : Array Value) (hc : Tryd.prog.built t [] = some cells) (h : wpList Tryd.prog ops Q rest (a.put o.dst (.agg cells)) w) : wpList Tryd.prog ops Q (o :: rest) a w :=
  wpList_plain hgd fun _ hK => by
    have hc' : Tryd.prog.built t ((#[] : Array (Nat × Operand)).map fun (i, x) => (i, a.eval x)).toList = some cells := by
      simp only [List.map_toArray, List.map_nil]
      exact hc
    exact wp_build t _ ho (by rw [hc']; rfl) (by rw [hc']; exact hK _ _ h)
set_option maxRecDepth 100000 in
set_option maxHeartbeats 2000000 in
theorem point_k (g : Nat) (p : P3) (w : World) (h : GrpAt w g) : Calls Tryd.prog 40 #[.agg #[.pointer (some ⟨g, 0, none⟩)], .agg (spC p).toArray] w fun e w' => e = .returned (.agg (ptV (toPt p)).toArray) ∧ Below w.heap.size w w' := by
  obtain ⟨x, y, z⟩ := p
  obtain ⟨pv, HZ⟩ : ∃ s, Hid (ptV (toPt ⟨x, y, z⟩) = s) := ⟨_, Lib.hid rfl⟩
  rw [HZ.out]
  go_enter Tryd.func40, Tryd.ntmps40
  go_upto_region 1 with (fail)
  obtain ⟨g4, hg4⟩ : ∃ g4, g4 = w.heap.size + 1 + 1 := ⟨_, rfl⟩
  obtain ⟨g1, hg1⟩ : ∃ g1, g1 = w.heap.size + 1 := ⟨_, rfl⟩
  obtain ⟨g0, hg0⟩ : ∃ g0, g0 = w.heap.size := ⟨_, rfl⟩
  have bg0 : Blk (((w.alloc (.cells #[.pointer (some ⟨g, 0, none⟩)] 62)).alloc (.cells (spC ⟨x, y, z⟩).toArray 67)).alloc (.cells (Value.int .u8 0 :: Value.int .u8 0 :: Value.int .u8 0 :: Value.int .u8 0 :: Value.int .u8 0 :: Value.int .u8 0 :: Value.int .u8 0 :: Value.int .u8 0 :: Value.int .u8 0 :: Value.int .u8 0 :: Value.int .u8 0 :: Value.int .u8 0 :: Value.int .u8 0 :: Value.int .u8 0 :: Value.int .u8 0 :: Value.int .u8 0 :: Value.int .u8 0 :: Value.int .u8 0 :: Value.int .u8 0 :: Value.int .u8 0 :: Value.int .u8 0 :: Value.int .u8 0 :: Value.int .u8 0 :: Value.int .u8 0 :: Value.int .u8 0 :: Value.int .u8 0 :: Value.int .u8 0 :: Value.int .u8 0 :: Value.int .u8 0 :: Value.int .u8 0 :: Value.int .u8 0 :: Value.int .u8 0 :: Value.int .u8 0 :: Value.int .u8 0 :: Value.int .u8 0 :: Value.int .u8 0 :: Value.int .u8 0 :: Value.int .u8 0 :: Value.int .u8 0 :: Value.int .u8 0 :: Value.int .u8 0 :: Value.int .u8 0 :: Value.int .u8 0 :: Value.int .u8 0 :: Value.int .u8 0 :: Value.int .u8 0 :: Value.int .u8 0 :: Value.int .u8 0 :: Value.int .u8 0 :: Value.int .u8 0 :: Value.int .u8 0 :: Value.int .u8 0 :: Value.int .u8 0 :: Value.int .u8 0 :: Value.int .u8 0 :: Value.int .u8 0 :: Value.int .u8 0 :: Value.int .u8 0 :: Value.int .u8 0 :: Value.int .u8 0 :: Value.int .u8 0 :: Value.int .u8 0 :: Value.int .u8 0 :: Value.int .u8 0 :: []).toArray 24)) g0 62 ([.pointer (some ⟨g, 0, none⟩)]) := by rw [hg0]; exact blk_allocs [.cells #[.pointer (some ⟨g, 0, none⟩)] 62, .cells (spC ⟨x, y, z⟩).toArray 67, .cells (Value.int .u8 0 :: Value.int .u8 0 :: Value.int .u8 0 :: Value.int .u8 0 :: Value.int .u8 0 :: Value.int .u8 0 :: Value.int .u8 0 :: Value.int .u8 0 :: Value.int .u8 0 :: Value.int .u8 0 :: Value.int .u8 0 :: Value.int .u8 0 :: Value.int .u8 0 :: Value.int .u8 0 :: Value.int .u8 0 :: Value.int .u8 0 :: Value.int .u8 0 :: Value.int .u8 0 :: Value.int .u8 0 :: Value.int .u8 0 :: Value.int .u8 0 :: Value.int .u8 0 :: Value.int .u8 0 :: Value.int .u8 0 :: Value.int .u8 0 :: Value.int .u8 0 :: Value.int .u8 0 :: Value.int .u8 0 :: Value.int .u8 0 :: Value.int .u8 0 :: Value.int .u8 0 :: Value.int .u8 0 :: Value.int .u8 0 :: Value.int .u8 0 :: Value.int .u8 0 :: Value.int .u8 0 :: Value.int .u8 0 :: Value.int .u8 0 :: Value.int .u8 0 :: Value.int .u8 0 :: Value.int .u8 0 :: Value.int .u8 0 :: Value.int .u8 0 :: Value.int .u8 0 :: Value.int .u8 0 :: Value.int .u8 0 :: Value.int .u8 0 :: Value.int .u8 0 :: Value.int .u8 0 :: Value.int .u8 0 :: Value.int .u8 0 :: Value.int .u8 0 :: Value.int .u8 0 :: Value.int .u8 0 :: Value.int .u8 0 :: Value.int .u8 0 :: Value.int .u8 0 :: Value.int .u8 0 :: Value.int .u8 0 :: Value.int .u8 0 :: Value.int .u8 0 :: Value.int .u8 0 :: Value.int .u8 0 :: Value.int .u8 0 :: []).toArray 24] w 0 62 ([.pointer (some ⟨g, 0, none⟩)]) rfl
  have bg1 : Blk (((w.alloc (.cells #[.pointer (some ⟨g, 0, none⟩)] 62)).alloc (.cells (spC ⟨x, y, z⟩).toArray 67)).alloc (.cells (Value.int .u8 0 :: Value.int .u8 0 :: Value.int .u8 0 :: Value.int .u8 0 :: Value.int .u8 0 :: Value.int .u8 0 :: Value.int .u8 0 :: Value.int .u8 0 :: Value.int .u8 0 :: Value.int .u8 0 :: Value.int .u8 0 :: Value.int .u8 0 :: Value.int .u8 0 :: Value.int .u8 0 :: Value.int .u8 0 :: Value.int .u8 0 :: Value.int .u8 0 :: Value.int .u8 0 :: Value.int .u8 0 :: Value.int .u8 0 :: Value.int .u8 0 :: Value.int .u8 0 :: Value.int .u8 0 :: Value.int .u8 0 :: Value.int .u8 0 :: Value.int .u8 0 :: Value.int .u8 0 :: Value.int .u8 0 :: Value.int .u8 0 :: Value.int .u8 0 :: Value.int .u8 0 :: Value.int .u8 0 :: Value.int .u8 0 :: Value.int .u8 0 :: Value.int .u8 0 :: Value.int .u8 0 :: Value.int .u8 0 :: Value.int .u8 0 :: Value.int .u8 0 :: Value.int .u8 0 :: Value.int .u8 0 :: Value.int .u8 0 :: Value.int .u8 0 :: Value.int .u8 0 :: Value.int .u8 0 :: Value.int .u8 0 :: Value.int .u8 0 :: Value.int .u8 0 :: Value.int .u8 0 :: Value.int .u8 0 :: Value.int .u8 0 :: Value.int .u8 0 :: Value.int .u8 0 :: Value.int .u8 0 :: Value.int .u8 0 :: Value.int .u8 0 :: Value.int .u8 0 :: Value.int .u8 0 :: Value.int .u8 0 :: Value.int .u8 0 :: Value.int .u8 0 :: Value.int .u8 0 :: Value.int .u8 0 :: Value.int .u8 0 :: []).toArray 24)) g1 67 (spC ⟨x, y, z⟩) := by rw [hg1]; exact blk_allocs [.cells #[.pointer (some ⟨g, 0, none⟩)] 62, .cells (spC ⟨x, y, z⟩).toArray 67, .cells (Value.int .u8 0 :: Value.int .u8 0 :: Value.int .u8 0 :: Value.int .u8 0 :: Value.int .u8 0 :: Value.int .u8 0 :: Value.int .u8 0 :: Value.int .u8 0 :: Value.int .u8 0 :: Value.int .u8 0 :: Value.int .u8 0 :: Value.int .u8 0 :: Value.int .u8 0 :: Value.int .u8 0 :: Value.int .u8 0 :: Value.int .u8 0 :: Value.int .u8 0 :: Value.int .u8 0 :: Value.int .u8 0 :: Value.int .u8 0 :: Value.int .u8 0 :: Value.int .u8 0 :: Value.int .u8 0 :: Value.int .u8 0 :: Value.int .u8 0 :: Value.int .u8 0 :: Value.int .u8 0 :: Value.int .u8 0 :: Value.int .u8 0 :: Value.int .u8 0 :: Value.int .u8 0 :: Value.int .u8 0 :: Value.int .u8 0 :: Value.int .u8 0 :: Value.int .u8 0 :: Value.int .u8 0 :: Value.int .u8 0 :: Value.int .u8 0 :: Value.int .u8 0 :: Value.int .u8 0 :: Value.int .u8 0 :: Value.int .u8 0 :: Value.int .u8 0 :: Value.int .u8 0 :: Value.int .u8 0 :: Value.int .u8 0 :: Value.int .u8 0 :: Value.int .u8 0 :: Value.int .u8 0 :: Value.int .u8 0 :: Value.int .u8 0 :: Value.int .u8 0 :: Value.int .u8 0 :: Value.int .u8 0 :: Value.int .u8 0 :: Value.int .u8 0 :: Value.int .u8 0 :: Value.int .u8 0 :: Value.int .u8 0 :: Value.int .u8 0 :: Value.int .u8 0 :: Value.int .u8 0 :: Value.int .u8 0 :: Value.int .u8 0 :: []).toArray 24] w 1 67 (spC ⟨x, y, z⟩) rfl
  have bg4 : Blk (((w.alloc (.cells #[.pointer (some ⟨g, 0, none⟩)] 62)).alloc (.cells (spC ⟨x, y, z⟩).toArray 67)).alloc (.cells (Value.int .u8 0 :: Value.int .u8 0 :: Value.int .u8 0 :: Value.int .u8 0 :: Value.int .u8 0 :: Value.int .u8 0 :: Value.int .u8 0 :: Value.int .u8 0 :: Value.int .u8 0 :: Value.int .u8 0 :: Value.int .u8 0 :: Value.int .u8 0 :: Value.int .u8 0 :: Value.int .u8 0 :: Value.int .u8 0 :: Value.int .u8 0 :: Value.int .u8 0 :: Value.int .u8 0 :: Value.int .u8 0 :: Value.int .u8 0 :: Value.int .u8 0 :: Value.int .u8 0 :: Value.int .u8 0 :: Value.int .u8 0 :: Value.int .u8 0 :: Value.int .u8 0 :: Value.int .u8 0 :: Value.int .u8 0 :: Value.int .u8 0 :: Value.int .u8 0 :: Value.int .u8 0 :: Value.int .u8 0 :: Value.int .u8 0 :: Value.int .u8 0 :: Value.int .u8 0 :: Value.int .u8 0 :: Value.int .u8 0 :: Value.int .u8 0 :: Value.int .u8 0 :: Value.int .u8 0 :: Value.int .u8 0 :: Value.int .u8 0 :: Value.int .u8 0 :: Value.int .u8 0 :: Value.int .u8 0 :: Value.int .u8 0 :: Value.int .u8 0 :: Value.int .u8 0 :: Value.int .u8 0 :: Value.int .u8 0 :: Value.int .u8 0 :: Value.int .u8 0 :: Value.int .u8 0 :: Value.int .u8 0 :: Value.int .u8 0 :: Value.int .u8 0 :: Value.int .u8 0 :: Value.int .u8 0 :: Value.int .u8 0 :: Value.int .u8 0 :: Value.int .u8 0 :: Value.int .u8 0 :: Value.int .u8 0 :: Value.int .u8 0 :: []).toArray 24)) g4 24 (ptZ) := by rw [hg4]; exact blk_allocs [.cells #[.pointer (some ⟨g, 0, none⟩)] 62, .cells (spC ⟨x, y, z⟩).toArray 67, .cells (Value.int .u8 0 :: Value.int .u8 0 :: Value.int .u8 0 :: Value.int .u8 0 :: Value.int .u8 0 :: Value.int .u8 0 :: Value.int .u8 0 :: Value.int .u8 0 :: Value.int .u8 0 :: Value.int .u8 0 :: Value.int .u8 0 :: Value.int .u8 0 :: Value.int .u8 0 :: Value.int .u8 0 :: Value.int .u8 0 :: Value.int .u8 0 :: Value.int .u8 0 :: Value.int .u8 0 :: Value.int .u8 0 :: Value.int .u8 0 :: Value.int .u8 0 :: Value.int .u8 0 :: Value.int .u8 0 :: Value.int .u8 0 :: Value.int .u8 0 :: Value.int .u8 0 :: Value.int .u8 0 :: Value.int .u8 0 :: Value.int .u8 0 :: Value.int .u8 0 :: Value.int .u8 0 :: Value.int .u8 0 :: Value.int .u8 0 :: Value.int .u8 0 :: Value.int .u8 0 :: Value.int .u8 0 :: Value.int .u8 0 :: Value.int .u8 0 :: Value.int .u8 0 :: Value.int .u8 0 :: Value.int .u8 0 :: Value.int .u8 0 :: Value.int .u8 0 :: Value.int .u8 0 :: Value.int .u8 0 :: Value.int .u8 0 :: Value.int .u8 0 :: Value.int .u8 0 :: Value.int .u8 0 :: Value.int .u8 0 :: Value.int .u8 0 :: Value.int .u8 0 :: Value.int .u8 0 :: Value.int .u8 0 :: Value.int .u8 0 :: Value.int .u8 0 :: Value.int .u8 0 :: Value.int .u8 0 :: Value.int .u8 0 :: Value.int .u8 0 :: Value.int .u8 0 :: Value.int .u8 0 :: Value.int .u8 0 :: Value.int .u8 0 :: []).toArray 24] w 2 24 (ptZ) rfl
  have hb0 : Below w.heap.size w ((((w.alloc (.cells #[.pointer (some ⟨g, 0, none⟩)] 62)).alloc (.cells (spC ⟨x, y, z⟩).toArray 67)).alloc (.cells (Value.int .u8 0 :: Value.int .u8 0 :: Value.int .u8 0 :: Value.int .u8 0 :: Value.int .u8 0 :: Value.int .u8 0 :: Value.int .u8 0 :: Value.int .u8 0 :: Value.int .u8 0 :: Value.int .u8 0 :: Value.int .u8 0 :: Value.int .u8 0 :: Value.int .u8 0 :: Value.int .u8 0 :: Value.int .u8 0 :: Value.int .u8 0 :: Value.int .u8 0 :: Value.int .u8 0 :: Value.int .u8 0 :: Value.int .u8 0 :: Value.int .u8 0 :: Value.int .u8 0 :: Value.int .u8 0 :: Value.int .u8 0 :: Value.int .u8 0 :: Value.int .u8 0 :: Value.int .u8 0 :: Value.int .u8 0 :: Value.int .u8 0 :: Value.int .u8 0 :: Value.int .u8 0 :: Value.int .u8 0 :: Value.int .u8 0 :: Value.int .u8 0 :: Value.int .u8 0 :: Value.int .u8 0 :: Value.int .u8 0 :: Value.int .u8 0 :: Value.int .u8 0 :: Value.int .u8 0 :: Value.int .u8 0 :: Value.int .u8 0 :: Value.int .u8 0 :: Value.int .u8 0 :: Value.int .u8 0 :: Value.int .u8 0 :: Value.int .u8 0 :: Value.int .u8 0 :: Value.int .u8 0 :: Value.int .u8 0 :: Value.int .u8 0 :: Value.int .u8 0 :: Value.int .u8 0 :: Value.int .u8 0 :: Value.int .u8 0 :: Value.int .u8 0 :: Value.int .u8 0 :: Value.int .u8 0 :: Value.int .u8 0 :: Value.int .u8 0 :: Value.int .u8 0 :: Value.int .u8 0 :: Value.int .u8 0 :: Value.int .u8 0 :: []).toArray 24))) := below_allocs [.cells #[.pointer (some ⟨g, 0, none⟩)] 62, .cells (spC ⟨x, y, z⟩).toArray 67, .cells (Value.int .u8 0 :: Value.int .u8 0 :: Value.int .u8 0 :: Value.int .u8 0 :: Value.int .u8 0 :: Value.int .u8 0 :: Value.int .u8 0 :: Value.int .u8 0 :: Value.int .u8 0 :: Value.int .u8 0 :: Value.int .u8 0 :: Value.int .u8 0 :: Value.int .u8 0 :: Value.int .u8 0 :: Value.int .u8 0 :: Value.int .u8 0 :: Value.int .u8 0 :: Value.int .u8 0 :: Value.int .u8 0 :: Value.int .u8 0 :: Value.int .u8 0 :: Value.int .u8 0 :: Value.int .u8 0 :: Value.int .u8 0 :: Value.int .u8 0 :: Value.int .u8 0 :: Value.int .u8 0 :: Value.int .u8 0 :: Value.int .u8 0 :: Value.int .u8 0 :: Value.int .u8 0 :: Value.int .u8 0 :: Value.int .u8 0 :: Value.int .u8 0 :: Value.int .u8 0 :: Value.int .u8 0 :: Value.int .u8 0 :: Value.int .u8 0 :: Value.int .u8 0 :: Value.int .u8 0 :: Value.int .u8 0 :: Value.int .u8 0 :: Value.int .u8 0 :: Value.int .u8 0 :: Value.int .u8 0 :: Value.int .u8 0 :: Value.int .u8 0 :: Value.int .u8 0 :: Value.int .u8 0 :: Value.int .u8 0 :: Value.int .u8 0 :: Value.int .u8 0 :: Value.int .u8 0 :: Value.int .u8 0 :: Value.int .u8 0 :: Value.int .u8 0 :: Value.int .u8 0 :: Value.int .u8 0 :: Value.int .u8 0 :: Value.int .u8 0 :: Value.int .u8 0 :: Value.int .u8 0 :: Value.int .u8 0 :: Value.int .u8 0 :: []).toArray 24] w
  have HG := Lib.hid (show w.heap.size ≤ g0 ∧ g0 < g1 ∧ g1 < g4 by omega)
  simp only [← hg4]
  simp only [← hg1]
  simp only [← hg0]
  clear hg4
  clear hg1
  clear hg0
  generalize ((w.alloc (.cells #[.pointer (some ⟨g, 0, none⟩)] 62)).alloc (.cells (spC ⟨x, y, z⟩).toArray 67)).alloc (.cells (Value.int .u8 0 :: Value.int .u8 0 :: Value.int .u8 0 :: Value.int .u8 0 :: Value.int .u8 0 :: Value.int .u8 0 :: Value.int .u8 0 :: Value.int .u8 0 :: Value.int .u8 0 :: Value.int .u8 0 :: Value.int .u8 0 :: Value.int .u8 0 :: Value.int .u8 0 :: Value.int .u8 0 :: Value.int .u8 0 :: Value.int .u8 0 :: Value.int .u8 0 :: Value.int .u8 0 :: Value.int .u8 0 :: Value.int .u8 0 :: Value.int .u8 0 :: Value.int .u8 0 :: Value.int .u8 0 :: Value.int .u8 0 :: Value.int .u8 0 :: Value.int .u8 0 :: Value.int .u8 0 :: Value.int .u8 0 :: Value.int .u8 0 :: Value.int .u8 0 :: Value.int .u8 0 :: Value.int .u8 0 :: Value.int .u8 0 :: Value.int .u8 0 :: Value.int .u8 0 :: Value.int .u8 0 :: Value.int .u8 0 :: Value.int .u8 0 :: Value.int .u8 0 :: Value.int .u8 0 :: Value.int .u8 0 :: Value.int .u8 0 :: Value.int .u8 0 :: Value.int .u8 0 :: Value.int .u8 0 :: Value.int .u8 0 :: Value.int .u8 0 :: Value.int .u8 0 :: Value.int .u8 0 :: Value.int .u8 0 :: Value.int .u8 0 :: Value.int .u8 0 :: Value.int .u8 0 :: Value.int .u8 0 :: Value.int .u8 0 :: Value.int .u8 0 :: Value.int .u8 0 :: Value.int .u8 0 :: Value.int .u8 0 :: Value.int .u8 0 :: Value.int .u8 0 :: Value.int .u8 0 :: Value.int .u8 0 :: Value.int .u8 0 :: []).toArray 24) = w1 at *
  have lg0 := bg0.lt
  have lg1 := bg1.lt
  have lg4 := bg4.lt
  have hM := h.up hb0
  by_cases hz : z = 0
  · subst hz
    have HR := Lib.hid (show toPt ⟨x, y, 0⟩ = none from if_pos rfl)
    have hc := bg0.cell 0
    go_upto_region 2 with (first
      | ((with_reducible refine (?_ : wpList _ _ _ (Oper.mk (some 11) _ _ _ _ _ :: _) _ _)); go_loud (refine wpList_load_mid rfl 59 (.tmp 10) rfl g1 8 rfl (kC 0) _ (spot_range2 bg1) Tryd.underlying59 rfl (infoN.trans (by rw [kC_length])) ?_))
      | (go_at_call 55; refine (InvK_bad g w1 hM).mono ?_; rintro e wx ⟨rfl, hbx⟩)
      | ((with_reducible refine (?_ : wpList _ _ _ (Oper.mk none _ _ _ _ _ :: _) _ _)); go_loud (refine wpList_store_blk rfl 59 (.tmp 5) (.tmp 13) rfl rfl wx.heap.size (nC zeroP) rfl rfl _ _ (Blk.new_of wx 59 #[.int .u64 0, .int .u64 0, .int .u64 0, .int .u64 0] (nC zeroP) rfl) (infoN.trans (by rw [nC_length])) (by rw [nC_length]) (one4 _) ?_); intro w2 bn hgs))
    clear hc
    have hxa : Below wx.heap.size wx (wx.alloc (.cells #[.int .u64 0, .int .u64 0, .int .u64 0, .int .u64 0] 59)) := (Below.refl _ _).alloc (Nat.le_refl _) _
    have hxb := hbx.trans ((below_new hxa hgs (Nat.le_refl _) hxa.size).mono hbx.size)
    clear hxa hgs
    obtain ⟨gi, hgi⟩ : ∃ gi, gi = wx.heap.size := ⟨_, rfl⟩
    rw [← hgi] at bn
    simp only [← hgi]
    clear hgi
    replace bg0 := bg0.below hxb lg0
    replace bg1 := bg1.below hxb lg1
    replace bg4 := bg4.below hxb lg4
    replace hM := hM.up hxb
    replace hb0 := hb0.trans (hxb.mono hb0.size)
    clear hxb hbx lg0 lg1 lg4
    have bgi := bn
    clear bn
    have lg0 := bg0.lt
    have lg1 := bg1.lt
    have lg4 := bg4.lt
    have lgi := bgi.lt
    have hGo := HG.out
    have hsz := hb0.size
    go_wp2_with (first
      | ((with_reducible refine (?_ : wpList _ _ _ (Oper.mk (some 17) _ _ _ _ _ :: _) _ _)); go_loud (refine wpList_built0 rfl 24 rfl ptZ.toArray builtZ ?_))
      | ((with_reducible refine (?_ : wpList _ _ _ (Oper.mk none _ _ _ _ _ :: _) _ _)); go_loud (refine wpList_store_blk rfl 24 (.tmp 4) (.tmp 17) rfl rfl g4 ptZ rfl rfl _ _ bg4 (infoPt.trans (by rw [ptZ_length])) (by rw [ptZ_length]) (onePt _ _) ?_); intro wz bn hgs))
    refine bodyPost_ret (v := .agg _) (results_cell_row rfl _ _ g4 24 _ (0, 0) _ rfl bn.raw Tryd.underlying24 rfl (infoPt.trans (by rw [List.size_toArray, ptZ_length]))) rfl ?_
    exact ⟨by rw [← HZ.out, HR.out]; rfl, below_new hb0 hgs (by omega) hsz⟩
  · have hc := bg0.cell 0
    go_upto_region 2 with (first
      | ((with_reducible refine (?_ : wpList _ _ _ (Oper.mk (some 11) _ _ _ _ _ :: _) _ _)); go_loud (refine wpList_load_mid rfl 59 (.tmp 10) rfl g1 8 rfl (kC z) _ (spot_range2 bg1) Tryd.underlying59 rfl (infoN.trans (by rw [kC_length])) ?_))
      | (go_at_call 55; refine (InvK_ok g z w1 hM hz).mono ?_; rintro e wx ⟨rfl, hbx⟩)
      | ((with_reducible refine (?_ : wpList _ _ _ (Oper.mk none _ _ _ _ _ :: _) _ _)); go_loud (refine wpList_store_blk rfl 59 (.tmp 5) (.tmp 13) rfl rfl wx.heap.size (kC (invK z)) rfl rfl _ _ (Blk.new_of wx 59 #[.int .u64 0, .int .u64 0, .int .u64 0, .int .u64 0] (nC zeroP) rfl) (infoN.trans (by rw [kC_length])) (by rw [kC_length, nC_length]) (oneK4 _) ?_); intro w2 bn hgs))
    clear hc
    have hxa : Below wx.heap.size wx (wx.alloc (.cells #[.int .u64 0, .int .u64 0, .int .u64 0, .int .u64 0] 59)) := (Below.refl _ _).alloc (Nat.le_refl _) _
    have hxb := hbx.trans ((below_new hxa hgs (Nat.le_refl _) hxa.size).mono hbx.size)
    clear hxa hgs
    obtain ⟨gi, hgi⟩ : ∃ gi, gi = wx.heap.size := ⟨_, rfl⟩
    rw [← hgi] at bn
    simp only [← hgi]
    clear hgi
    replace bg0 := bg0.below hxb lg0
    replace bg1 := bg1.below hxb lg1
    replace bg4 := bg4.below hxb lg4
    replace hM := hM.up hxb
    replace hb0 := hb0.trans (hxb.mono hb0.size)
    clear hxb hbx lg0 lg1 lg4
    have bgi := bn
    clear bn
    have lg0 := bg0.lt
    have lg1 := bg1.lt
    have lg4 := bg4.lt
    have lgi := bgi.lt
    obtain ⟨px, hpx⟩ : ∃ px, Hid (px = x * invK z) := ⟨_, Lib.hid rfl⟩
    obtain ⟨py, hpy⟩ : ∃ py, Hid (py = y * invK z) := ⟨_, Lib.hid rfl⟩
    have HR := Lib.hid (show toPt ⟨x, y, z⟩ = some (px, py) by rw [hpx.out, hpy.out]; exact if_neg hz)
    clear hz
    go_upto_region 4 with (fail)
    apply wp_region_once_tail (m := 15) (Z := []) (D := [[], [0], [], [2], [], [0, 1, 2, 3, 4], [0, 1, 2, 3, 4, 5], [], [7], [], [9], [], [0, 1, 2, 3, 4, 5, 6, 7, 8, 9, 10, 11], [0, 1, 2, 3, 4, 5, 6, 7, 8, 9, 10, 11, 12], [0, 1, 2, 3, 4, 5, 6, 7, 8, 9, 10, 11, 12, 13], [0, 1, 2, 3, 4, 5, 6, 7, 8, 9, 10, 11, 12, 13, 14]]) (J := [[], [0], [], [2], [], [1, 3, 4], [5], [], [7], [], [9], [], [8, 10, 11], [12], [6, 13]]) (Je := [14]) (Rs := [Is _, Is _, Is _, Is _, Is _, Is _, Is _, Is _, Is _, Is _, Is _, Is _, Is _, Is _, Is _])
    · kernel_rfl
    · kernel_rfl
    · kernel_rfl
    · kernel_rfl
    · kernel_rfl
    · kernel_rfl
    · kernel_rfl
    · exact fun h => absurd rfl h
    · intro u
      simp only [List.take_succ_cons, List.take_zero, List.map_cons, List.map_nil, fillU, List.setIfInBounds_toArray, List.set_cons_zero, List.set_cons_succ, Nat.zero_add, Nat.reduceAdd]
      exact rfl
    · simp only [List.take_succ_cons, List.take_zero]
      refine ⟨fun u W hb hd K hK => ?_, ?_⟩
      · clear hd
        go_simp
        apply hK
        · simp only [Act.put, List.setIfInBounds_toArray, List.set_cons_zero, List.set_cons_succ]
          exact rfl
        · exact Below.refl _ _
        · exact IsOut
      refine ⟨fun u W hb hd K hK => ?_, ?_⟩
      · simp only [Facts, nthR, Is, and_true] at hd
        simp only [hd] at hK ⊢
        clear hd
        have hc := ((bg0.below hb lg0)).cell 0
        go_simp
        apply hK
        · simp only [Act.put, List.setIfInBounds_toArray, List.set_cons_zero, List.set_cons_succ]
          exact rfl
        · exact Below.refl _ _
        · exact IsOut
      refine ⟨fun u W hb hd K hK => ?_, ?_⟩
      · clear hd
        go_simp
        apply hK
        · simp only [Act.put, List.setIfInBounds_toArray, List.set_cons_zero, List.set_cons_succ]
          exact rfl
        · exact Below.refl _ _
        · exact IsOut
      refine ⟨fun u W hb hd K hK => ?_, ?_⟩
      · simp only [Facts, nthR, Is, and_true] at hd
        simp only [hd] at hK ⊢
        clear hd
        rw [if_pos (by rfl)]
        refine wp_load_mid 59 (.tmp 20) rfl g1 0 rfl (kC (x)) _ (spot_range0 (bg1.below hb lg1)) Tryd.underlying59 rfl (infoN.trans (by rw [kC_length])) ?_
        exact hK _ _ _ rfl (Below.refl _ _) IsOut
      refine ⟨fun u W hb hd K hK => ?_, ?_⟩
      · clear hd
        rw [if_pos (by rfl)]
        refine wp_load_mid 59 (.tmp 5) rfl gi 0 rfl (kC (invK z)) _ (rangeAt_of_blk (bgi.below hb lgi)) Tryd.underlying59 rfl (infoN.trans (by rw [kC_length])) ?_
        exact hK _ _ _ rfl (Below.refl _ _) IsOut
      refine ⟨fun u W hb hd K hK => ?_, ?_⟩
      · simp only [Facts, nthR, Is, and_true] at hd
        simp only [hd] at hK ⊢
        clear hd
        go_simp
        refine (MulE hpx (hM.up hb)).mono ?_
        rintro e wy ⟨rfl, hby⟩
        exact hK _ _ _ rfl hby IsOut
      refine ⟨fun u W hb hd K hK => ?_, ?_⟩
      · simp only [Facts, nthR, Is, and_true] at hd
        simp only [hd] at hK ⊢
        clear hd
        go_simp
        refine (BytK px _).mono ?_
        rintro e wy ⟨rfl, hby⟩
        exact hK _ _ _ rfl hby IsOut
      refine ⟨fun u W hb hd K hK => ?_, ?_⟩
      · clear hd
        go_simp
        apply hK
        · simp only [Act.put, List.setIfInBounds_toArray, List.set_cons_zero, List.set_cons_succ]
          exact rfl
        · exact Below.refl _ _
        · exact IsOut
      refine ⟨fun u W hb hd K hK => ?_, ?_⟩
      · simp only [Facts, nthR, Is, and_true] at hd
        simp only [hd] at hK ⊢
        clear hd
        have hc := ((bg0.below hb lg0)).cell 0
        go_simp
        apply hK
        · simp only [Act.put, List.setIfInBounds_toArray, List.set_cons_zero, List.set_cons_succ]
          exact rfl
        · exact Below.refl _ _
        · exact IsOut
      refine ⟨fun u W hb hd K hK => ?_, ?_⟩
      · clear hd
        go_simp
        apply hK
        · simp only [Act.put, List.setIfInBounds_toArray, List.set_cons_zero, List.set_cons_succ]
          exact rfl
        · exact Below.refl _ _
        · exact IsOut
      refine ⟨fun u W hb hd K hK => ?_, ?_⟩
      · simp only [Facts, nthR, Is, and_true] at hd
        simp only [hd] at hK ⊢
        clear hd
        rw [if_pos (by rfl)]
        refine wp_load_mid 59 (.tmp 27) rfl g1 4 rfl (kC (y)) _ (spot_range1 (bg1.below hb lg1)) Tryd.underlying59 rfl (infoN.trans (by rw [kC_length])) ?_
        exact hK _ _ _ rfl (Below.refl _ _) IsOut
      refine ⟨fun u W hb hd K hK => ?_, ?_⟩
      · clear hd
        rw [if_pos (by rfl)]
        refine wp_load_mid 59 (.tmp 5) rfl gi 0 rfl (kC (invK z)) _ (rangeAt_of_blk (bgi.below hb lgi)) Tryd.underlying59 rfl (infoN.trans (by rw [kC_length])) ?_
        exact hK _ _ _ rfl (Below.refl _ _) IsOut
      refine ⟨fun u W hb hd K hK => ?_, ?_⟩
      · simp only [Facts, nthR, Is, and_true] at hd
        simp only [hd] at hK ⊢
        clear hd
        go_simp
        refine (MulE hpy (hM.up hb)).mono ?_
        rintro e wy ⟨rfl, hby⟩
        exact hK _ _ _ rfl hby IsOut
      refine ⟨fun u W hb hd K hK => ?_, ?_⟩
      · simp only [Facts, nthR, Is, and_true] at hd
        simp only [hd] at hK ⊢
        clear hd
        go_simp
        refine (BytK py _).mono ?_
        rintro e wy ⟨rfl, hby⟩
        exact hK _ _ _ rfl hby IsOut
      refine ⟨fun u W hb hd K hK => ?_, ?_⟩
      · simp only [Facts, nthR, Is, and_true] at hd
        simp only [hd] at hK ⊢
        clear hd
        rw [if_pos (by rfl)]
        refine wp_built2 24 (.tmp 24) (.tmp 31) rfl (.agg ((kB px).map B8).toArray) (.agg ((kB py).map B8).toArray) rfl rfl (ptK px py).toArray (builtK px py) ?_
        exact hK _ _ _ rfl (Below.refl _ _) IsOut
      exact trivial
    · skip
      exact trivial
    · exact (.is (.is (.is (.is (.is (.is (.is (.is (.is (.is (.is (.is (.is (.is (.is .nil)))))))))))))))
    · intro u W hb hd
      simp only [List.drop_succ_cons, List.drop_zero]
      simp only [Facts, nthR, Is, and_true] at hd
      have h14 := hd
      clear hd
      simp only [h14]
      clear h14
      clear bg0 lg0 bg1 lg1 bgi lgi
      have lM := hM.lt
      have lG := h.lt
      have hsz := hb0.size
      have hGo := HG.out
      replace bg4 := bg4.below hb lg4
      replace hM := hM.up hb
      replace hb0 := hb0.trans (hb.mono hb0.size)
      clear hb
      go_wp2_with (first
        | ((with_reducible refine (?_ : wpList _ _ _ (Oper.mk none _ _ _ _ _ :: _) _ _)); go_loud (refine wpList_store_blk rfl 24 (.tmp 4) (.tmp 32) rfl rfl g4 (ptK (px) (py)) rfl rfl _ _ (bg4) (infoPt.trans (by rw [ptK_length])) (by first | with_reducible rfl | rw [ptK_length, ptZ_length]) (onePt _ _) ?_); intro wz bn hgs; replace hM := hM.grown hgs (fun e => by omega); replace hb0 := below_new hb0 hgs (by omega) hb0.size; clear hgs bg4; have bg4 := bn; clear bn))
      clear lM lG hsz hGo lg4
      have lg4 := bg4.lt
      refine bodyPost_ret (v := .agg _) (results_cell_row rfl _ _ g4 24 _ (0, 0) _ rfl bg4.raw Tryd.underlying24 rfl (infoPt.trans (by rw [List.size_toArray, ptK_length]))) rfl ?_
      exact ⟨by rw [← HZ.out, HR.out]; rfl, hb0⟩
end Go.Proofs.YtnkikhnllnbhfaaDoor
