/-
  The contracts of the state's own calls: New, Put, Sum, Of.
-/
import Derived.Test.YtdjhempfpgcigaaDoorPut
import Derived.Test.YtdjhempfpgcigaaDoorEnd
import Derived.Deep.MidRow
import Derived.Laws.CopyRow
namespace Go.Proofs.YtdjhempfpgcigaaDoor
open Go.RowKit

theorem infoSt : (Tryd.prog.info? 79).map (·.size) = some 73 := by kernel_rfl
theorem info63 : (Tryd.prog.info? 59).map (·.size) = some 8 := by kernel_rfl

/-- Some cells go into a block that is known, from place off on. -/
theorem wpList_store_part {P : Program} {ops : Array Oper} {rest : List Oper} {o : Oper} {a : Act} {w : World} {Q : Exit → Act → World → Prop} (hgd : o.guard = none) (ty : TypeId) (x y : Operand) (ho : o.op = .store ty x y) (hd : o.dst = none)
    (g off : Nat) (cells : List Value) (hx : a.eval x = .pointer (some ⟨g, off, none⟩)) (hy : a.eval y = .agg cells.toArray)
    (t : TypeId) (old : List Value) (hg : Blk w g t old) (hi : (P.info? ty).map (·.size) = some cells.length)
    (hfit : off + cells.length ≤ old.length) (h1 : ∀ v ∈ cells, v.oneCell' = true)
    (h : ∀ w', Blk w' g t (splice old off cells) → w.grownBy w' (some g) → wpList P ops Q rest a w') : wpList P ops Q (o :: rest) a w := by
  have hst := run_storeCells_at P g off t cells 0 old.toArray w hg (by simpa using hfit) h1
  refine wpList_plain hgd fun K hK => ?_
  have hrun : (storeVar ty ⟨g, off, none⟩ (.agg cells.toArray)).run P w = .ok () (w.setRow g (splice old off cells).toArray) := by
    cases hq : P.info? ty with
    | none => simp [hq] at hi
    | some i =>
      have hs : cells.length = i.size := by simp [hq] at hi; omega
      simp only [Nat.add_zero] at hst
      simp [storeVar, sizeOf, typeInfo, hq, Value.cells, hs, hst, splice_eq]
  unfold Oper.wp execOp
  simp only [ho, hx, hy, Instr.storeAt, Instr.sureAddr, Sem.run_bind, Sem.run_pure, Result.andThen_ok, hrun]
  exact hK _ _ (by rw [hd]; exact h _ (hg.row _) (grown_setRow _ _ _))

def zeroSt : St := ⟨0, 0, 0, 0, 0, 0, 0, 0⟩
set_option maxRecDepth 100000 in
set_option maxHeartbeats 600000 in
theorem new_any (w : World) :
    Calls Tryd.prog 38 #[] w fun e w' => e = .returned (.pointer (some ⟨w.heap.size, 0, none⟩)) ∧ Blk w' w.heap.size 79 (stCells zeroSt (List.replicate 64 0) 0) ∧ Below w.heap.size w w' := by
  have hz : ∀ W : World, (zeroValue 79).run Tryd.prog W = .ok (.agg (stCells zeroSt (List.replicate 64 0) 0).toArray) W := fun W => by kernel_rfl
  go_enter Tryd.func38, Tryd.ntmps38
  go_wp2
  go_ret
  exact ⟨rfl, Blk.new_of w _ _ _ (by rfl), (Below.refl _ _).alloc (Nat.le_refl _) _⟩

/-- Block g holds a state to which just the bytes m were put; nothing is asked of the words while m is empty. -/
def HeldN (w : World) (g : Nat) (t : TypeId) (m : List UInt8) : Prop :=
  ∃ (s : St) (R : List UInt8), R.length = 64 ∧ Blk w g t (stCells s R m.length) ∧ (m ≠ [] → s = blocks first m ∧ R.take (m.length % 64) = left m)
theorem HeldN.of_held {w : World} {g : Nat} {t : TypeId} {m : List UInt8} (h : Held w g t m) : HeldN w g t m := by
  obtain ⟨R, h1, h2, h3⟩ := h
  exact ⟨_, R, h1, h3, fun _ => ⟨rfl, h2⟩⟩
theorem HeldN.new {w : World} {g : Nat} {t : TypeId} (h : Blk w g t (stCells zeroSt (List.replicate 64 0) 0)) : HeldN w g t [] :=
  ⟨_, _, by simp, h, fun h => absurd rfl h⟩

/-- The parts that are handed in: each a slice of bytes in another block than g. -/
def Parts (w : World) (g : Nat) (A : Option Addr) (ps : List (List UInt8)) : Prop := 0 < ps.length → ∃ gp op, A = some ⟨gp, op, none⟩ ∧ gp ≠ g ∧
  ∀ j, j < ps.length → ∃ Aj cj, w.cell? ⟨gp, op + j, none⟩ = some (.slice Aj (ps.getD j []).length cj) ∧ (ps.getD j []).length ≤ cj ∧ cj ≤ 9223372036854775807 ∧ Src w g Aj (ps.getD j [])
theorem Parts.keep {w w' : World} {g : Nat} {A : Option Addr} {ps : List (List UInt8)} (h : Parts w g A ps) (hg : w.grownBy w' (some g)) : Parts w' g A ps := fun h0 => by
  obtain ⟨gp, op, e, hn, hj⟩ := h h0
  refine ⟨gp, op, e, hn, fun j hjl => ?_⟩
  obtain ⟨Aj, cj, hc, h1, h2, h3⟩ := hj j hjl
  exact ⟨Aj, cj, (World.cell?_of_block (w := w) (a := ⟨gp, op + j, none⟩) (hg.block gp (block_lt_of_cell hc) (by simp; omega))).trans hc, h1, h2, h3.keep hg⟩
theorem Parts.one {w : World} {g gp : Nat} {A : Option Addr} {c : Nat} {b : List UInt8} (hc : w.cell? ⟨gp, 0, none⟩ = some (.slice A b.length c)) (hn : gp ≠ g) (h1 : b.length ≤ c) (h2 : c ≤ 9223372036854775807) (h3 : Src w g A b) : Parts w g (some ⟨gp, 0, none⟩) [b] := fun _ =>
  ⟨gp, 0, rfl, hn, fun j hj => by
    obtain rfl : j = 0 := by simpa using hj
    exact ⟨A, c, hc, h1, h2, h3⟩⟩

theorem vals_one (s : St) : ∀ v ∈ s.vals, v.oneCell' = true := by
  intro v hv; simp [St.vals] at hv; rcases hv with rfl | rfl | rfl | rfl | rfl | rfl | rfl | rfl <;> rfl
theorem splice_vals (s q : St) (R : List UInt8) (n : Nat) : splice (stCells s R n) 0 q.vals = stCells q R n := by
  simp [splice_eq, stCells, St.vals]

set_option maxRecDepth 100000 in
set_option maxHeartbeats 1000000 in
/-- The loop over the parts: from a state that holds its words. -/
theorem Put_any (g c : Nat) (A : Option Addr) (m : List UInt8) (ps : List (List UInt8)) (w : World) (hn : m.length + ps.flatten.length < 1099511627776) (hpc : ps.length ≤ c) (hcm : c ≤ 9223372036854775807)
    (hA : Parts w g A ps) (hh : HeldN w g 79 m) (ht : Tabs w) (hg0 : g ≠ 0) (hg1 : g ≠ 1) :
    Calls Tryd.prog 39 #[.pointer (some ⟨g, 0, none⟩), .slice A ps.length c] w fun e w' => e = .returned (.tuple #[]) ∧ w.grownBy w' (some g) ∧ Held w' g 79 (m ++ ps.flatten) := by
  obtain ⟨s, R, hR, hs, hm⟩ := hh
  have c72 : w.cell? ⟨g, 72, none⟩ = some (.int .u64 (m.length : Int)) := (hs.cell 72).trans (stCells_72 s R m.length hR)
  by_cases h0 : m = []
  · subst h0
    have HR := Lib.hid hR
    have t0 : w.cell? ⟨0, 0, none⟩ = some (.int .u32 first.a.toNat) := ht.first 0 (by omega)
    have t1 : w.cell? ⟨0, 1, none⟩ = some (.int .u32 first.b.toNat) := ht.first 1 (by omega)
    have t2 : w.cell? ⟨0, 2, none⟩ = some (.int .u32 first.c.toNat) := ht.first 2 (by omega)
    have t3 : w.cell? ⟨0, 3, none⟩ = some (.int .u32 first.d.toNat) := ht.first 3 (by omega)
    have t4 : w.cell? ⟨0, 4, none⟩ = some (.int .u32 first.e.toNat) := ht.first 4 (by omega)
    have t5 : w.cell? ⟨0, 5, none⟩ = some (.int .u32 first.f.toNat) := ht.first 5 (by omega)
    have t6 : w.cell? ⟨0, 6, none⟩ = some (.int .u32 first.g.toNat) := ht.first 6 (by omega)
    have t7 : w.cell? ⟨0, 7, none⟩ = some (.int .u32 first.h.toNat) := ht.first 7 (by omega)
    go_enter Tryd.func39, Tryd.ntmps39
    go_wp2_with (refine wpList_store_part rfl 59 (.tmp 16) (.tmp 14) rfl rfl g 0 first.vals rfl rfl _ _ hs info63 (by rw [stCells_length _ _ _ HR.out]; decide) (vals_one _) ?_; intro w1 hs1 hG)
    clear t0 t1 t2 t3 t4 t5 t6 t7 c72
    rw [splice_vals] at hs1
    have hH : Held w1 g 79 [] := ⟨R, hR, by simp [left], hs1⟩
    replace hA := hA.keep hG
    replace ht := ht.grown hG hg0 hg1
    simp only [List.length_nil, Nat.zero_add] at hn
    go_loopw [19] (fun i wr => ∃ k : Nat, k ≤ ps.length ∧ i = .int .i64 k ∧ Held wr g 79 ([] ++ (ps.take k).flatten) ∧ Parts wr g A ps ∧ Tabs wr ∧ w.grownBy wr (some g)) (fun i _ => ps.length - (intOf i).toNat)
    case atStart => exact ⟨0, by omega, rfl, by simpa using hH, hA, ht, hG⟩
    case round =>
      obtain ⟨k, hk, rfl, hH', hA', ht', hG'⟩ := hrel
      by_cases hlt : k < ps.length
      · have hd : decide ((k : Int) < (ps.length : Int)) = true := by simp; omega
        obtain ⟨gp, op, rfl, hne, hj⟩ := hA' (by omega)
        obtain ⟨Aj, cj, hc, h1, h2, h3⟩ := hj k hlt
        have hfl : (ps.take (k + 1)).flatten = (ps.take k).flatten ++ ps.getD k [] := by
          rw [List.take_succ_eq_append_getElem hlt, List.flatten_append, List.getD_eq_getElem?_getD, List.getElem?_eq_getElem hlt]; simp
        have hle : (ps.take k).flatten.length + (ps.getD k []).length ≤ ps.flatten.length := by
          have h := congrArg List.length (congrArg List.flatten (List.take_append_drop (k + 1) ps))
          rw [List.flatten_append, List.length_append, hfl, List.length_append] at h
          omega
        obtain ⟨b, hb⟩ : ∃ b, b = ps.getD k [] := ⟨_, rfl⟩
        rw [← hb] at hc h1 h3 hfl hle
        have HF := Lib.hid hfl
        clear hfl hb hj
        go_wp2_with (go_at_call 52; refine (put_any g cj Aj _ _ b _ (by simp only [List.nil_append]; omega) h1 h2 h3 hH' ht' hg0 hg1).mono ?_; rintro e w2 ⟨rfl, hg2, hh2⟩)
        go_roundw
        case rel => exact ⟨k + 1, by omega, by go_num, by rw [HF.out, ← List.append_assoc]; exact hh2, hA'.keep hg2, ht'.grown hg2 hg0 hg1, grown_trans hG' hg2⟩
        case measure => simp [intOf]; omega
      · have hd : decide ((k : Int) < (ps.length : Int)) = false := by simp; omega
        rw [List.take_of_length_le (by omega)] at hH'
        go_wp2
        go_end0
        exact ⟨rfl, hG', hH'⟩
  · obtain ⟨rfl, hL⟩ := hm h0
    have hH : Held w g 79 m := ⟨R, hR, hL, hs⟩
    have hml : 0 < m.length := List.length_pos_iff.2 h0
    have hG := grown_refl w (some g)
    have hz : ((m.length : Int) == 0) = false := by simp; omega
    go_enter Tryd.func39, Tryd.ntmps39
    go_wp2
    clear c72 hz
    go_loopw [19] (fun i wr => ∃ k : Nat, k ≤ ps.length ∧ i = .int .i64 k ∧ Held wr g 79 (m ++ (ps.take k).flatten) ∧ Parts wr g A ps ∧ Tabs wr ∧ w.grownBy wr (some g)) (fun i _ => ps.length - (intOf i).toNat)
    case atStart => exact ⟨0, by omega, rfl, by simpa using hH, hA, ht, hG⟩
    case round =>
      obtain ⟨k, hk, rfl, hH', hA', ht', hG'⟩ := hrel
      by_cases hlt : k < ps.length
      · have hd : decide ((k : Int) < (ps.length : Int)) = true := by simp; omega
        obtain ⟨gp, op, rfl, hne, hj⟩ := hA' (by omega)
        obtain ⟨Aj, cj, hc, h1, h2, h3⟩ := hj k hlt
        have hfl : (ps.take (k + 1)).flatten = (ps.take k).flatten ++ ps.getD k [] := by
          rw [List.take_succ_eq_append_getElem hlt, List.flatten_append, List.getD_eq_getElem?_getD, List.getElem?_eq_getElem hlt]; simp
        have hle : (ps.take k).flatten.length + (ps.getD k []).length ≤ ps.flatten.length := by
          have h := congrArg List.length (congrArg List.flatten (List.take_append_drop (k + 1) ps))
          rw [List.flatten_append, List.length_append, hfl, List.length_append] at h
          omega
        obtain ⟨b, hb⟩ : ∃ b, b = ps.getD k [] := ⟨_, rfl⟩
        rw [← hb] at hc h1 h3 hfl hle
        have HF := Lib.hid hfl
        clear hfl hb hj
        go_wp2_with (go_at_call 52; refine (put_any g cj Aj _ _ b _ (by rw [List.length_append]; omega) h1 h2 h3 hH' ht' hg0 hg1).mono ?_; rintro e w2 ⟨rfl, hg2, hh2⟩)
        go_roundw
        case rel => exact ⟨k + 1, by omega, by go_num, by rw [HF.out, ← List.append_assoc]; exact hh2, hA'.keep hg2, ht'.grown hg2 hg0 hg1, grown_trans hG' hg2⟩
        case measure => simp [intOf]; omega
      · have hd : decide ((k : Int) < (ps.length : Int)) = false := by simp; omega
        rw [List.take_of_length_le (by omega)] at hH'
        go_wp2
        go_end0
        exact ⟨rfl, hG', hH'⟩
end Go.Proofs.YtdjhempfpgcigaaDoor
