/-
 Rows of lines that come in; the contracts of tollgatelaw12's none and pad.
-/
import Derived.Test.YtnjpcbbdhimacaaDoorRk2
import Derived.Test.YtnjpcbbdhimacaaDoorRh6
import Derived.Deep.Strs
namespace Go.Proofs.YtnjpcbbdhimacaaDoor
open Go.RowKit Go.ChangeShapes Go.WideShapes Go.ChangeAt

theorem in_of_cells {H : Type} {enc : TypeId × Value → H} {W : World} {cs : List Value} {x : DataW H × List MemPlace} {fuel : Nat}
  (hf : DataW.trod enc Tryd.prog W 0 (fun _ => true) true fuel 24 cs = some x) : ∃ (a : Option Addr) (n c : Nat) (xs : List UInt8), cs = [.slice a n c] ∧ xs.length = n ∧ In W W.heap.size a c xs := by
 rcases open_ints Tryd.underlying24 Tryd.underlying5 (by kernel_rfl) hf with ⟨hcs, _⟩ | ⟨y, l, c, zs, hcs, _⟩
 ·
  obtain ⟨xs, h1, h2⟩ := in_of_trod (enc := enc) (W := W) (a := none) (len := 0) (cap := 0) (d := x.1) (p := x.2) ⟨fuel, by rw [hcs] at hf; exact hf⟩
  exact ⟨none, 0, 0, xs, hcs, h1, h2⟩
 ·
  obtain ⟨xs, h1, h2⟩ := in_of_trod (enc := enc) (W := W) (a := some y) (len := l) (cap := c) (d := x.1) (p := x.2) ⟨fuel, by rw [hcs] at hf; exact hf⟩
  exact ⟨some y, l, c, xs, hcs, h1, h2⟩
abbrev LineV := Int × List UInt8 × Int
/-- Lines that lie in a row of cells, three for each, all below block B. -/
def LIn (w : World) (B : Nat) (A : Option Addr) (c : Nat) (ls : List LineV) : Prop := ls.length ≤ c ∧ c ≤ 9223372036854775807 ∧ (0 < ls.length → ∃ gp op, A = some ⟨gp, op, none⟩ ∧ gp < B ∧
 ∀ j, j < ls.length → ∃ Aj cj, w.cell? ⟨gp, op + j * 3, none⟩ = some (.int .i64 (ls.getD j (0, [], 0)).1) ∧ w.cell? ⟨gp, op + j * 3 + 1, none⟩ = some (.slice Aj (ls.getD j (0, [], 0)).2.1.length cj) ∧ w.cell? ⟨gp, op + j * 3 + 2, none⟩ = some (.int .i64 (ls.getD j (0, [], 0)).2.2) ∧ In w B Aj cj (ls.getD j (0, [], 0)).2.1)
theorem lin_of_trod {H : Type} {enc : TypeId × Value → H} {W : World} {a : Option Addr} {len cap : Nat} {d : DataW H} {p : List MemPlace}
  (h : DataW.Trod enc Tryd.prog W 0 (fun _ => true) true 23 (.slice a len cap) d p) : ∃ ls : List LineV, ls.length = len ∧ LIn W W.heap.size a cap ls := by
 obtain ⟨fuel, hf⟩ := h
 have c3 : Tryd.prog.cellsOf 39 = 3 := by kernel_rfl
 have k0 : Tryd.prog.cellsOf 3 = 1 := by kernel_rfl
 have k1 : Tryd.prog.cellsOf 24 = 1 := by kernel_rfl
 rcases Go.Deep.open_slice Tryd.underlying23 hf with ⟨hcs, _⟩ | ⟨x, l, c, m, n, D, Pl, hcs, _, hl, hm, hmm, _, hx⟩
 ·
  simp [Value.cells] at hcs
  obtain ⟨rfl, rfl, rfl⟩ := hcs
  exact ⟨[], rfl, by simp, by omega, fun h => absurd h (by simp)⟩
 ·
  simp [Value.cells] at hcs
  obtain ⟨rfl, rfl, rfl⟩ := hcs
  simp only [if_true] at hmm
  subst hmm
  have hadd : ∀ a b : Nat, (x.add a).add b = x.add (a + b) := fun a b => by
   unfold Addr.add
   by_cases ha : a = 0 <;> by_cases hb : b = 0 <;> simp [ha, hb, Nat.add_assoc]
  have each : ∀ i, i < len → ∃ t : LineV, ∃ Aj cj, W.cell? (x.add (i * 3)) = some (.int .i64 t.1) ∧ W.cell? (x.add (i * 3 + 1)) = some (.slice Aj t.2.1.length cj) ∧ W.cell? (x.add (i * 3 + 2)) = some (.int .i64 t.2.2) ∧ In W W.heap.size Aj cj t.2.1 := fun i hi => by
   obtain ⟨cs', h1, h2⟩ := hx i (by omega)
   rw [c3] at h1
   obtain ⟨y0, y1, y2, q, _, hl3, e0, e1, e2⟩ := Go.Deep.trod_struct3 Tryd.underlying39 h2
   rw [c3] at hl3
   have h0 : DataW.trod enc Tryd.prog W 0 (fun _ => true) true q 3 ((cs'.drop 0).take (Tryd.prog.cellsOf 3)) = some y0 := e0
   have h3 : DataW.trod enc Tryd.prog W 0 (fun _ => true) true q 24 ((cs'.drop 1).take (Tryd.prog.cellsOf 24)) = some y1 := e1
   have h4 : DataW.trod enc Tryd.prog W 0 (fun _ => true) true q 3 ((cs'.drop 2).take (Tryd.prog.cellsOf 3)) = some y2 := e2
   rw [k0] at h0 h4
   rw [k1] at h3
   clear e0 e1 e2 h2
   obtain ⟨u0, u1, u2, rfl⟩ : ∃ u0 u1 u2, cs' = [u0, u1, u2] := by
    clear h0 h3 h4 h1
    match cs', hl3 with
    | [a, b, c], _ => exact ⟨a, b, c, rfl⟩
   clear hl3
   have e0' : DataW.trod enc Tryd.prog W 0 (fun _ => true) true q 3 [u0] = some y0 := h0
   have e1' : DataW.trod enc Tryd.prog W 0 (fun _ => true) true q 24 [u1] = some y1 := h3
   have e2' : DataW.trod enc Tryd.prog W 0 (fun _ => true) true q 3 [u2] = some y2 := h4
   obtain ⟨z0, f0, _, _⟩ := DataW.trod_int Tryd.underlying3 e0'
   obtain ⟨Aj, nj, cj, xs, f1, hxl, hxi⟩ := in_of_cells e1'
   obtain ⟨z2, f2, _, _⟩ := DataW.trod_int Tryd.underlying3 e2'
   injection f0 with f0
   injection f1 with f1
   injection f2 with f2
   have hc := World.cells?_some h1
   have g0 := hc.2.2 0 (by omega)
   have g1 := hc.2.2 1 (by omega)
   have g2 := hc.2.2 2 (by omega)
   refine ⟨(z0, xs, z2), Aj, cj, ?_, ?_, ?_, hxi⟩
   ·
    simpa [Addr.add, f0] using g0
   ·
    have g1' : W.cell? ((x.add (i * 3)).add 1) = some u1 := by simpa using g1
    rw [hadd, f1, ← hxl] at g1'
    exact g1'
   ·
    have g2' : W.cell? ((x.add (i * 3)).add 2) = some u2 := by simpa using g2
    rw [hadd, f2] at g2'
    exact g2'
  obtain ⟨T, hT⟩ : ∃ T : Nat → LineV, ∀ i, i < len → ∃ Aj cj, W.cell? (x.add (i * 3)) = some (.int .i64 (T i).1) ∧ W.cell? (x.add (i * 3 + 1)) = some (.slice Aj (T i).2.1.length cj) ∧ W.cell? (x.add (i * 3 + 2)) = some (.int .i64 (T i).2.2) ∧ In W W.heap.size Aj cj (T i).2.1 :=
   ⟨fun i => if h : i < len then Classical.choose (each i h) else (0, [], 0), fun i hi => by simp only [dif_pos hi]; exact Classical.choose_spec (each i hi)⟩
  refine ⟨(List.range len).map T, by simp, by simpa using hl, by simpa [maxLen] using hm, fun h0 => ?_⟩
  have h0' : 0 < len := by simpa using h0
  obtain ⟨b, off, spot⟩ := x
  have hspot : spot = none := by
   obtain ⟨_, _, h, _⟩ := hT 0 h0'
   simpa [Addr.add] using World.cell?_spot h
  subst hspot
  refine ⟨b, off, rfl, ?_, fun j hj => ?_⟩
  ·
   obtain ⟨_, _, h, _⟩ := hT 0 h0'
   exact block_lt_of_cell h
  ·
   have hj' : j < len := by simpa using hj
   have e : ((List.range len).map T).getD j (0, [], 0) = T j := by simp [List.getD_eq_getElem?_getD, hj']
   rw [e]
   obtain ⟨Aj, cj, g0, g1, g2, g3⟩ := hT j hj'
   rw [add_row] at g0 g1 g2
   exact ⟨Aj, cj, g0, by rw [Nat.add_assoc]; exact g1, by rw [Nat.add_assoc]; exact g2, g3⟩
/-- A line's noughts. -/
def padE' (p : Int) : Int := if 200 < p ∧ p < 16000 then 200 else p
set_option maxRecDepth 100000 in
set_option maxHeartbeats 400000 in
theorem rnone_e (w : World) : Calls Tryd.prog 9 #[] w fun e w' => e = .returned (.pointer none) ∧ w' = w := by
 go_enter Tryd.func9, Tryd.ntmps9
 go_wp2
 go_ret
 exact ⟨rfl, rfl⟩
set_option maxRecDepth 100000 in
set_option maxHeartbeats 400000 in
theorem usedNil_e (w : World) : Calls Tryd.prog 13 #[.pointer none] w fun e w' => e = .returned (.int .i64 0) ∧ w' = w := by
 have HEM := Lib.hid (hempty_nil w)
 go_enter Tryd.func13, Tryd.ntmps13
 go_wp2_with (go_at_call 30; refine HEM.out.mono ?_; rintro e w' ⟨rfl, hww⟩; have hw2 := hww.symm; subst hw2)
 go_ret
 exact ⟨rfl, rfl⟩
set_option maxRecDepth 100000 in
set_option maxHeartbeats 400000 in
theorem pad_e (k p : Int) (A : Option Addr) (n c : Nat) (w : World) : Calls Tryd.prog 15 #[.agg #[.int .i64 k, .slice A n c, .int .i64 p]] w fun e w' => e = .returned (.int .i64 (padE' p)) ∧ Below w.heap.size w w' := by
 by_cases h1 : 200 < p
 ·
  by_cases h2 : p < 16000
  ·
   have HZ := Lib.hid (show padE' p = 200 by unfold padE'; rw [if_pos ⟨h1, h2⟩])
   go_enter Tryd.func15, Tryd.ntmps15
   go_wp2
   go_ret
   exact ⟨by rw [HZ.out]; rfl, (Below.refl _ _).alloc (Nat.le_refl _) _⟩
  ·
   have HZ := Lib.hid (show padE' p = p by unfold padE'; rw [if_neg (fun h => h2 h.2)])
   go_enter Tryd.func15, Tryd.ntmps15
   go_wp2
   go_ret
   exact ⟨by rw [HZ.out]; rfl, (Below.refl _ _).alloc (Nat.le_refl _) _⟩
 ·
  have HZ := Lib.hid (show padE' p = p by unfold padE'; rw [if_neg (fun h => h1 h.1)])
  go_enter Tryd.func15, Tryd.ntmps15
  go_wp2
  go_ret
  exact ⟨by rw [HZ.out]; rfl, (Below.refl _ _).alloc (Nat.le_refl _) _⟩
end Go.Proofs.YtnjpcbbdhimacaaDoor
