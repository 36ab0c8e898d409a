/-
  The contracts of package eap's countOf and said, and of bytes.Equal.
-/
import Derived.Test.YtokogedgbegmkaaEb
import Derived.BigQuiet
namespace Go.Proofs.Ytokogedgbegmkaa
open Go.RowKit

theorem i64_or_nat (a b : Nat) (ha : a < 2 ^ 62) (hb : b < 2 ^ 62) : bits .or .i64 (a : Int) (b : Int) = ((a ||| b : Nat) : Int) := by
  have hx : a ||| b < 2 ^ 62 := Nat.or_lt_two_pow ha hb
  show IntKind.i64.wrap ((BitVec.ofInt 64 (a : Int) ||| BitVec.ofInt 64 (b : Int)).toNat : Int) = _
  rw [BitVec.toNat_or, ofInt_u64 a (by omega), ofInt_u64 b (by omega), IntKind.wrap_i64]
  omega
theorem or_byte (x y : UInt8) : bits .or .i64 ((x.toNat : Int) * 256) (y.toNat : Int) = ((x.toNat * 256 + y.toNat : Nat) : Int) := by
  have hx := x.toNat_lt
  have hy := y.toNat_lt
  have e : x.toNat * 256 ||| y.toNat = x.toNat * 256 + y.toNat := by
    rw [show (256 : Nat) = 2 ^ 8 from rfl, ← Nat.shiftLeft_eq, Nat.shiftLeft_add_eq_or_of_lt hy]
  rw [show (x.toNat : Int) * 256 = ((x.toNat * 256 : Nat) : Int) by omega, i64_or_nat _ _ (by omega) (by omega), e]
theorem ix_byte (x : UInt8) : wrap64 (x.toNat : Int) = (x.toNat : Int) ∧ wrap64 ((x.toNat : Int) * 256) = (x.toNat : Int) * 256 ∧ IntKind.i64.wrap (x.toNat : Int) = (x.toNat : Int) ∧ IntKind.i64.wrap ((x.toNat : Int) * 256) = (x.toNat : Int) * 256 := by
  have hx := x.toNat_lt
  generalize x.toNat = a at *
  refine ⟨?_, ?_, ?_, ?_⟩
  · unfold wrap64; omega
  · unfold wrap64; omega
  · rw [IntKind.wrap_i64]; omega
  · rw [IntKind.wrap_i64]; omega
/-- What the two bytes of the count say. -/
def cntE (b : List UInt8) : Nat := (b.getD 2 0).toNat * 256 + (b.getD 3 0).toNat
/-- A byte that came in, in whatever world behind. -/
theorem in_cell {w : World} {gb ob c k : Nat} {b : List UInt8} (iB : In w w.heap.size (some ⟨gb, ob, none⟩) c b) (hk : k < b.length) (W : World) (h : Below w.heap.size w W) : W.cell? ⟨gb, ob + k, none⟩ = some (.int .u8 ((b.getD k 0).toNat : Int)) := by
  obtain ⟨g, o, e, hg, hby⟩ := iB.2.2 (by omega)
  cases e
  exact (World.cell?_of_block (w := w) (w' := W) (a := ⟨gb, ob + k, none⟩) (h.block gb (by omega))).trans (hby k hk)
set_option maxRecDepth 100000 in
set_option maxHeartbeats 1000000 in
theorem countOf_e (A : Option Addr) (c n : Nat) (b : List UInt8) (w : World) (hn : b.length = n) (iB : In w w.heap.size A c b) (h4 : 4 ≤ n) :
    Calls Try.prog 17 #[.slice A n c] w fun e w' => e = .returned (.int .i64 (cntE b : Int)) ∧ Below w.heap.size w w' := by
  obtain ⟨gb, ob, rfl, hgb, hby⟩ := iB.2.2 (by omega)
  have HC2 := Lib.hid (fun (W : World) (h : Below w.heap.size w W) => in_cell iB (show 2 < b.length by omega) W h)
  have HC3 := Lib.hid (fun (W : World) (h : Below w.heap.size w W) => in_cell iB (show 3 < b.length by omega) W h)
  have HE := Lib.hid (show cntE b = (b.getD 2 0).toNat * 256 + (b.getD 3 0).toNat from rfl)
  generalize b.getD 2 0 = x at *
  generalize b.getD 3 0 = y at *
  obtain ⟨hx1, hx2, hx3, hx4⟩ := ix_byte x
  obtain ⟨hy1, hy2, hy3, hy4⟩ := ix_byte y
  have hor := or_byte x y
  rw [← HE.out] at hor
  have h2n : (2 : Int) < (n : Int) := by omega
  have h3n : (3 : Int) < (n : Int) := by omega
  clear hby hn iB h4 hgb hy2 hy4
  go_enter Try.func17, Try.ntmps17
  go_wp2
  refine wp_region_noPanic ?_
  refine wp_region_held_drew (S := fun W => Below w.heap.size w W) (by kernel_rfl) (by exact below_drewN (Below.refl _ _) 1) (fun hHeld => ?_)
  refine wpAnyH_take (i := 0) (oi := ⟨_, _, _, _, _, _⟩) (v := ?_) rfl (by kernel_rfl) (by kernel_rfl) (by kernel_rfl) (fun _ _ _ h => h) (Or.inl ⟨by rfl, ?_⟩) hHeld ?_
  rotate_left 1
  · (intro W hSw; (try dsimp only at hSw); go_simp; try with_reducible rfl)
  try simp only [Act.put, List.setIfInBounds_toArray, List.set_cons_zero, List.set_cons_succ]
  refine wpAnyH_take (i := 1) (oi := ⟨_, _, _, _, _, _⟩) (v := ?_) rfl (by kernel_rfl) (by kernel_rfl) (by kernel_rfl) (fun _ _ _ h => h) (Or.inl ⟨by rfl, ?_⟩) hHeld ?_
  rotate_left 1
  · (intro W hSw; (try dsimp only at hSw); go_simp; try with_reducible rfl)
  try simp only [Act.put, List.setIfInBounds_toArray, List.set_cons_zero, List.set_cons_succ]
  refine wpAnyH_take (i := 2) (oi := ⟨_, _, _, _, _, _⟩) (v := ?_) rfl (by kernel_rfl) (by kernel_rfl) (by kernel_rfl) (fun _ _ _ h => h) (Or.inl ⟨by rfl, ?_⟩) hHeld ?_
  rotate_left 1
  · (intro W hSw; (try dsimp only at hSw); have hcc := HC2.out W hSw; go_simp; try with_reducible rfl)
  try simp only [Act.put, List.setIfInBounds_toArray, List.set_cons_zero, List.set_cons_succ]
  refine wpAnyH_take (i := 3) (oi := ⟨_, _, _, _, _, _⟩) (v := ?_) rfl (by kernel_rfl) (by kernel_rfl) (by kernel_rfl) (fun _ _ _ h => h) (Or.inl ⟨by rfl, ?_⟩) hHeld ?_
  rotate_left 1
  · (intro W hSw; (try dsimp only at hSw); go_simp; try with_reducible rfl)
  try simp only [Act.put, List.setIfInBounds_toArray, List.set_cons_zero, List.set_cons_succ]
  refine wpAnyH_take (i := 4) (oi := ⟨_, _, _, _, _, _⟩) (v := ?_) rfl (by kernel_rfl) (by kernel_rfl) (by kernel_rfl) (fun _ _ _ h => h) (Or.inl ⟨by rfl, ?_⟩) hHeld ?_
  rotate_left 1
  · (intro W hSw; (try dsimp only at hSw); go_simp; try with_reducible rfl)
  try simp only [Act.put, List.setIfInBounds_toArray, List.set_cons_zero, List.set_cons_succ]
  refine wpAnyH_take (i := 5) (oi := ⟨_, _, _, _, _, _⟩) (v := ?_) rfl (by kernel_rfl) (by kernel_rfl) (by kernel_rfl) (fun _ _ _ h => h) (Or.inl ⟨by rfl, ?_⟩) hHeld ?_
  rotate_left 1
  · (intro W hSw; (try dsimp only at hSw); go_simp; try with_reducible rfl)
  try simp only [Act.put, List.setIfInBounds_toArray, List.set_cons_zero, List.set_cons_succ]
  refine wpAnyH_take (i := 6) (oi := ⟨_, _, _, _, _, _⟩) (v := ?_) rfl (by kernel_rfl) (by kernel_rfl) (by kernel_rfl) (fun _ _ _ h => h) (Or.inl ⟨by rfl, ?_⟩) hHeld ?_
  rotate_left 1
  · (intro W hSw; (try dsimp only at hSw); go_simp; try with_reducible rfl)
  try simp only [Act.put, List.setIfInBounds_toArray, List.set_cons_zero, List.set_cons_succ]
  refine wpAnyH_take (i := 7) (oi := ⟨_, _, _, _, _, _⟩) (v := ?_) rfl (by kernel_rfl) (by kernel_rfl) (by kernel_rfl) (fun _ _ _ h => h) (Or.inl ⟨by rfl, ?_⟩) hHeld ?_
  rotate_left 1
  · (intro W hSw; (try dsimp only at hSw); have hcc := HC3.out W hSw; go_simp; try with_reducible rfl)
  try simp only [Act.put, List.setIfInBounds_toArray, List.set_cons_zero, List.set_cons_succ]
  refine wpAnyH_take (i := 8) (oi := ⟨_, _, _, _, _, _⟩) (v := ?_) rfl (by kernel_rfl) (by kernel_rfl) (by kernel_rfl) (fun _ _ _ h => h) (Or.inl ⟨by rfl, ?_⟩) hHeld ?_
  rotate_left 1
  · (intro W hSw; (try dsimp only at hSw); go_simp; try with_reducible rfl)
  try simp only [Act.put, List.setIfInBounds_toArray, List.set_cons_zero, List.set_cons_succ]
  refine wpAnyH_take (i := 9) (oi := ⟨_, _, _, _, _, _⟩) (v := ?_) rfl (by kernel_rfl) (by kernel_rfl) (by kernel_rfl) (fun _ _ _ h => h) (Or.inl ⟨by rfl, ?_⟩) hHeld ?_
  rotate_left 1
  · (intro W hSw; (try dsimp only at hSw); go_simp; try with_reducible rfl)
  try simp only [Act.put, List.setIfInBounds_toArray, List.set_cons_zero, List.set_cons_succ]
  refine wpAnyH_take (i := 10) (oi := ⟨_, _, _, _, _, _⟩) (v := ?_) rfl (by kernel_rfl) (by kernel_rfl) (by kernel_rfl) (fun _ _ _ h => h) (Or.inl ⟨by rfl, ?_⟩) hHeld ?_
  rotate_left 1
  · (intro W hSw; (try dsimp only at hSw); go_simp; try with_reducible rfl)
  try simp only [Act.put, List.setIfInBounds_toArray, List.set_cons_zero, List.set_cons_succ]
  refine wpAnyH_done (by kernel_rfl) ?_ _
  refine NoPanic.normal ?_
  go_wp2
  go_ret
  exact ⟨rfl, hHeld⟩
/-- What the bytes say: Code, Id, Type, Data. -/
def saidE (b : List UInt8) : Int × Int × Int × List UInt8 := (((b.getD 0 0).toNat : Int), ((b.getD 1 0).toNat : Int), if b.length ≤ 4 then 0 else ((b.getD 4 0).toNat : Int), b.drop 5)
/-- A struct goes into a block that is known, at a step of a region that draws its order. -/
theorem step_store_blk {ops : Array Oper} {o : Oper} {a : Act} {w : World} {K : Act → World → Prop} {Q : Exit → Act → World → Prop} {E : Prop} (hgd : o.guard = none) (ty : TypeId) (x y : Operand) (ho : o.op = .store ty x y) (hd : o.dst = none)
    (g : Nat) (cells : List Value) (hx : a.eval x = .pointer (some ⟨g, 0, none⟩)) (hy : a.eval y = .agg cells.toArray)
    (t : TypeId) (old : List Value) (hg : Blk w g t old) (hi : (Try.prog.info? ty).map (·.size) = some cells.length)
    (hold : old.length = cells.length) (h1 : cells.toArray.all (·.oneCell') = true)
    (h : ∀ w', Blk w' g t cells → w.grownBy w' (some g) → K a w') : if Region.wanted o (yielded ops a.tmps) = true then Oper.wp Try.prog o a w K Q else E := by
  have hw : Region.wanted o (yielded ops a.tmps) = true := by simp [Region.wanted, hgd]
  rw [if_pos hw]
  refine wp_store_row ty x y ho g cells.toArray hx hy t old.toArray hg (by simpa using hi) (by simpa using hold) h1 ?_
  rw [hd]
  exact h _ (hg.row _) (grown_setRow _ _ _)
set_option maxRecDepth 100000 in
set_option maxHeartbeats 1000000 in
theorem said_e (A : Option Addr) (c n : Nat) (b : List UInt8) (w : World) (hn : b.length = n) (iB : In w w.heap.size A c b) (h4 : 4 ≤ n) :
    Calls Try.prog 18 #[.slice A n c] w fun e w' => ∃ A' n' c', e = .returned (.agg #[.int .i64 (saidE b).1, .int .i64 (saidE b).2.1, .int .i64 (saidE b).2.2.1, .slice A' n' c']) ∧ (saidE b).2.2.2.length = n' ∧ In w' w'.heap.size A' c' (saidE b).2.2.2 ∧ Below w.heap.size w w' := by
  obtain ⟨gb, ob, rfl, hgb, hby⟩ := iB.2.2 (by omega)
  have HC0 := Lib.hid (fun (W : World) (h : Below w.heap.size w W) => (show W.cell? ⟨gb, ob, none⟩ = _ from in_cell iB (show 0 < b.length by omega) W h))
  have HC1 := Lib.hid (fun (W : World) (h : Below w.heap.size w W) => in_cell iB (show 1 < b.length by omega) W h)
  have HC4 := Lib.hid (fun (h5 : 4 < b.length) (W : World) (h : Below w.heap.size w W) => in_cell iB h5 W h)
  have HS := Lib.hid (show saidE b = (((b.getD 0 0).toNat : Int), ((b.getD 1 0).toNat : Int), if b.length ≤ 4 then 0 else ((b.getD 4 0).toNat : Int), b.drop 5) from rfl)
  have hbc := iB.1
  generalize b.getD 0 0 = x0 at *
  generalize b.getD 1 0 = x1 at *
  generalize b.getD 4 0 = x4 at *
  obtain ⟨hx1, hx2, hx3, hx4⟩ := ix_byte x0
  obtain ⟨hy1, hy2, hy3, hy4⟩ := ix_byte x1
  have h0n : 0 < n := by omega
  have h1n : (1 : Int) < (n : Int) := by omega
  have IB := Lib.hid iB
  have HN := Lib.hid hn
  clear hby hx2 hx4 hy2 hy4 iB
  go_enter Try.func18, Try.ntmps18
  go_upto_region 1 with (fail)
  have hR := Blk.new_of w 29 #[.int .i64 0, .int .i64 0, .int .i64 0, .slice none 0 0] _ rfl
  have hbw : Below w.heap.size w (w.alloc (.cells #[.int .i64 0, .int .i64 0, .int .i64 0, .slice none 0 0] 29)) := (Below.refl _ _).alloc (Nat.le_refl _) _
  have hz1 : (w.alloc (.cells #[.int .i64 0, .int .i64 0, .int .i64 0, .slice none 0 0] 29)).heap.size = w.heap.size + 1 := by simp
  generalize w.alloc (.cells #[.int .i64 0, .int .i64 0, .int .i64 0, .slice none 0 0] 29) = w1 at *
  have HZ1 := Lib.hid hz1
  clear hz1 hn
  refine wp_region_noPanic ?_
  refine wp_region_held_drew (S := fun W => Below w1.heap.size w1 W) (by kernel_rfl) (by exact below_drewN (Below.refl _ _) 1) (fun hHeld => ?_)
  refine wpAnyH_take (i := 0) (oi := ⟨_, _, _, _, _, _⟩) (v := ?_) rfl (by kernel_rfl) (by kernel_rfl) (by kernel_rfl) (fun _ _ _ h => h) (Or.inl ⟨by rfl, ?_⟩) hHeld ?_
  rotate_left 1
  · (intro W hSw; (try dsimp only at hSw); go_simp; try with_reducible rfl)
  try simp only [Act.put, List.setIfInBounds_toArray, List.set_cons_zero, List.set_cons_succ]
  refine wpAnyH_take (i := 1) (oi := ⟨_, _, _, _, _, _⟩) (v := ?_) rfl (by kernel_rfl) (by kernel_rfl) (by kernel_rfl) (fun _ _ _ h => h) (Or.inl ⟨by rfl, ?_⟩) hHeld ?_
  rotate_left 1
  · (intro W hSw; (try dsimp only at hSw); go_simp; try with_reducible rfl)
  try simp only [Act.put, List.setIfInBounds_toArray, List.set_cons_zero, List.set_cons_succ]
  refine wpAnyH_take (i := 2) (oi := ⟨_, _, _, _, _, _⟩) (v := ?_) rfl (by kernel_rfl) (by kernel_rfl) (by kernel_rfl) (fun _ _ _ h => h) (Or.inl ⟨by rfl, ?_⟩) hHeld ?_
  rotate_left 1
  · (intro W hSw; (try dsimp only at hSw); have hcc := HC0.out W (hbw.trans (hSw.mono hbw.size)); go_simp; try with_reducible rfl)
  try simp only [Act.put, List.setIfInBounds_toArray, List.set_cons_zero, List.set_cons_succ]
  refine wpAnyH_take (i := 3) (oi := ⟨_, _, _, _, _, _⟩) (v := ?_) rfl (by kernel_rfl) (by kernel_rfl) (by kernel_rfl) (fun _ _ _ h => h) (Or.inl ⟨by rfl, ?_⟩) hHeld ?_
  rotate_left 1
  · (intro W hSw; (try dsimp only at hSw); go_simp; try with_reducible rfl)
  try simp only [Act.put, List.setIfInBounds_toArray, List.set_cons_zero, List.set_cons_succ]
  refine wpAnyH_take (i := 4) (oi := ⟨_, _, _, _, _, _⟩) (v := ?_) rfl (by kernel_rfl) (by kernel_rfl) (by kernel_rfl) (fun _ _ _ h => h) (Or.inl ⟨by rfl, ?_⟩) hHeld ?_
  rotate_left 1
  · (intro W hSw; (try dsimp only at hSw); go_simp; try with_reducible rfl)
  try simp only [Act.put, List.setIfInBounds_toArray, List.set_cons_zero, List.set_cons_succ]
  refine wpAnyH_take (i := 5) (oi := ⟨_, _, _, _, _, _⟩) (v := ?_) rfl (by kernel_rfl) (by kernel_rfl) (by kernel_rfl) (fun _ _ _ h => h) (Or.inl ⟨by rfl, ?_⟩) hHeld ?_
  rotate_left 1
  · (intro W hSw; (try dsimp only at hSw); go_simp; try with_reducible rfl)
  try simp only [Act.put, List.setIfInBounds_toArray, List.set_cons_zero, List.set_cons_succ]
  refine wpAnyH_take (i := 6) (oi := ⟨_, _, _, _, _, _⟩) (v := ?_) rfl (by kernel_rfl) (by kernel_rfl) (by kernel_rfl) (fun _ _ _ h => h) (Or.inl ⟨by rfl, ?_⟩) hHeld ?_
  rotate_left 1
  · (intro W hSw; (try dsimp only at hSw); have hcc := HC1.out W (hbw.trans (hSw.mono hbw.size)); go_simp; try with_reducible rfl)
  try simp only [Act.put, List.setIfInBounds_toArray, List.set_cons_zero, List.set_cons_succ]
  refine wpAnyH_take (i := 7) (oi := ⟨_, _, _, _, _, _⟩) (v := ?_) rfl (by kernel_rfl) (by kernel_rfl) (by kernel_rfl) (fun _ _ _ h => h) (Or.inl ⟨by rfl, ?_⟩) hHeld ?_
  rotate_left 1
  · (intro W hSw; (try dsimp only at hSw); go_simp; try with_reducible rfl)
  try simp only [Act.put, List.setIfInBounds_toArray, List.set_cons_zero, List.set_cons_succ]
  refine wpAnyH_take (i := 8) (oi := ⟨_, _, _, _, _, _⟩) (v := ?_) rfl (by kernel_rfl) (by kernel_rfl) (by kernel_rfl) (fun _ _ _ h => h) (Or.inl ⟨by rfl, ?_⟩) hHeld ?_
  rotate_left 1
  · (intro W hSw; (try dsimp only at hSw); go_simp; try with_reducible rfl)
  try simp only [Act.put, List.setIfInBounds_toArray, List.set_cons_zero, List.set_cons_succ]
  replace hHeld : Below w1.heap.size w1 w1.drew := hHeld
  generalize w1.drew = wd at *
  have hz := hHeld.size
  refine wpAnyH_ready (rs := [9]) (by kernel_rfl) (by simp) ?_
  refine AllReadyH.cons (o := ⟨_, _, _, _, _, _⟩) rfl (fun K hK => ?_) AllReadyH.nil
  go_simp
  refine hK.out _ _ (hHeld.alloc hz _) (fun hHeld => ?_)
  clear hK K
  try simp only [Act.put, List.setIfInBounds_toArray, List.set_cons_zero, List.set_cons_succ]
  refine wpAnyH_ready (rs := [10]) (by kernel_rfl) (by simp) ?_
  refine AllReadyH.cons (o := ⟨_, _, _, _, _, _⟩) rfl (fun K hK => ?_) AllReadyH.nil
  refine step_store_blk rfl 29 (.tmp 3) (.tmp 13) rfl rfl wd.heap.size [.int .i64 (x0.toNat : Int), .int .i64 (x1.toNat : Int), .int .i64 0, .slice none 0 0] rfl rfl _ _ (Blk.new_of wd _ #[.int .i64 0, .int .i64 0, .int .i64 0, .slice none 0 0] _ rfl) (by kernel_rfl) rfl (by simp [Value.oneCell']) ?_
  intro w3 hP3 hg3
  refine hK.out _ _ (below_new hHeld hg3 hz (by have := hHeld.size; exact this)) (fun hHeld3 => ?_)
  clear hK K
  replace hHeld3 : Below w1.heap.size w1 w3 := hHeld3
  refine wpAnyH_done (by kernel_rfl) ?_ _
  refine NoPanic.normal ?_
  have hR3 := hR.below hHeld3 hR.lt
  have hb3 := hbw.trans (hHeld3.mono hbw.size)
  have hg3z : w.heap.size < wd.heap.size := by have := HZ1.out; have := hHeld.size; have h2 := hz; omega
  clear hg3 hHeld hHeld3 hz hbw hR
  generalize wd.heap.size = g3 at *
  replace hP3 : Blk w3 g3 29 [.int .i64 (x0.toNat : Int), .int .i64 (x1.toNat : Int), .int .i64 0, .slice none 0 0] := hP3
  have h4n : (4 : Int) ≤ (n : Int) := by omega
  have hnc : (n : Int) ≤ (c : Int) := by have := HN.out; omega
  by_cases h5 : n = 4
  · have HS2 := Lib.hid (show b.drop 5 = [] from List.drop_of_length_le (by have := HN.out; omega))
    rw [if_pos (by have := HN.out; omega), HS2.out] at HS
    subst h5
    by_cases hc4 : c = 4
    all_goals (
      go_upto_region 5 with (fail)
      have d0 : w3.cell? ⟨g3, 0, none⟩ = some (.int .i64 (x0.toNat : Int)) := hP3.cell 0
      have d1 : w3.cell? ⟨g3, 1, none⟩ = some (.int .i64 (x1.toNat : Int)) := hP3.cell 1
      have d2 : w3.cell? ⟨g3, 2, none⟩ = some (.int .i64 0) := hP3.cell 2
      have d3 : w3.cell? ⟨g3, 3, none⟩ = some (.slice none 0 0) := hP3.cell 3
      go_wp2_with ((with_reducible refine (?_ : wpList _ _ _ (Oper.mk none _ _ _ _ _ :: _) _ _)); go_loud (refine wpList_store_blk rfl 29 (.tmp 2) (.tmp 27) rfl rfl w.heap.size [.int .i64 (x0.toNat : Int), .int .i64 (x1.toNat : Int), .int .i64 0, .slice none 0 0] rfl rfl _ _ hR3 (by kernel_rfl) rfl (by simp [Value.oneCell']) ?_); intro w9 hQ9 hg9)
      have f0 : w9.cell? ⟨w.heap.size, 0, none⟩ = some (.int .i64 (x0.toNat : Int)) := hQ9.cell 0
      have f1 : w9.cell? ⟨w.heap.size, 1, none⟩ = some (.int .i64 (x1.toNat : Int)) := hQ9.cell 1
      have f2 : w9.cell? ⟨w.heap.size, 2, none⟩ = some (.int .i64 0) := hQ9.cell 2
      have f3 : w9.cell? ⟨w.heap.size, 3, none⟩ = some (.slice none 0 0) := hQ9.cell 3
      have hb9 : Below w.heap.size w w9 := below_new hb3 hg9 (Nat.le_refl _) hb3.size
      refine bodyPost_ret (v := .agg #[.int .i64 (x0.toNat : Int), .int .i64 (x1.toNat : Int), .int .i64 0, .slice none 0 0]) (by simp [results, Try.results18, go_sem, f0, f1, f2, f3]) rfl ⟨_, _, _, by rw [HS.out] <;> rfl, ?_, ?_, hb9⟩
      · rw [HS.out] <;> rfl
      · rw [HS.out]; exact in_nil _ 0 (by decide) _)
  · have hn5 : 4 < n := by omega
    have hc4 : ¬ c = 4 := by omega
    rw [if_neg (by have := HN.out; omega)] at HS
    have HC := Lib.hid hnc
    go_upto_region 4 with (fail)
    have hnn : 0 < n - 4 := by omega
    have h1n4 : (1 : Int) ≤ ((n - 4 : Nat) : Int) := by omega
    have hn4c : ((n - 4 : Nat) : Int) ≤ ((c - 4 : Nat) : Int) := by omega
    obtain ⟨hz1, hz2, hz3, hz4⟩ := ix_byte x4
    replace HC4 := Lib.hid (HC4.out (by have := HN.out; omega))
    have HB3 := Lib.hid hb3
    have HD := Lib.hid (in_drop IB.out 5 (by have := HN.out; omega))
    have hn45 : n - 4 - 1 = n - 5 := by omega
    have hc45 : c - 4 - 1 = c - 5 := by omega
    by_cases h41 : c - 4 = 1
    · skip
      refine wp_region_noPanic ?_
      refine wp_region_held_drew (S := fun W => Below w.heap.size w W) (by kernel_rfl) (by exact below_drewN hb3 1) (fun hHeld => ?_)
      refine wpAnyH_take (i := 0) (oi := ⟨_, _, _, _, _, _⟩) (v := ?_) rfl (by kernel_rfl) (by kernel_rfl) (by kernel_rfl) (fun _ _ _ h => h) (Or.inl ⟨by rfl, ?_⟩) hHeld ?_
      rotate_left 1
      · (intro W hSw; (try dsimp only at hSw); go_simp; try with_reducible rfl)
      try simp only [Act.put, List.setIfInBounds_toArray, List.set_cons_zero, List.set_cons_succ]
      refine wpAnyH_take (i := 1) (oi := ⟨_, _, _, _, _, _⟩) (v := ?_) rfl (by kernel_rfl) (by kernel_rfl) (by kernel_rfl) (fun _ _ _ h => h) (Or.inl ⟨by rfl, ?_⟩) hHeld ?_
      rotate_left 1
      · (intro W hSw; (try dsimp only at hSw); go_simp; try with_reducible rfl)
      try simp only [Act.put, List.setIfInBounds_toArray, List.set_cons_zero, List.set_cons_succ]
      refine wpAnyH_take (i := 2) (oi := ⟨_, _, _, _, _, _⟩) (v := ?_) rfl (by kernel_rfl) (by kernel_rfl) (by kernel_rfl) (fun _ _ _ h => h) (Or.inl ⟨by rfl, ?_⟩) hHeld ?_
      rotate_left 1
      · (intro W hSw; (try dsimp only at hSw); have hcc := HC4.out W hSw; go_simp; try with_reducible rfl)
      try simp only [Act.put, List.setIfInBounds_toArray, List.set_cons_zero, List.set_cons_succ]
      refine wpAnyH_take (i := 3) (oi := ⟨_, _, _, _, _, _⟩) (v := ?_) rfl (by kernel_rfl) (by kernel_rfl) (by kernel_rfl) (fun _ _ _ h => h) (Or.inl ⟨by rfl, ?_⟩) hHeld ?_
      rotate_left 1
      · (intro W hSw; (try dsimp only at hSw); go_simp; try with_reducible rfl)
      try simp only [Act.put, List.setIfInBounds_toArray, List.set_cons_zero, List.set_cons_succ]
      refine wpAnyH_take (i := 4) (oi := ⟨_, _, _, _, _, _⟩) (v := ?_) rfl (by kernel_rfl) (by kernel_rfl) (by kernel_rfl) (fun _ _ _ h => h) (Or.inl ⟨by rfl, ?_⟩) hHeld ?_
      rotate_left 1
      · (intro W hSw; (try dsimp only at hSw); go_simp; try with_reducible rfl)
      try simp only [Act.put, List.setIfInBounds_toArray, List.set_cons_zero, List.set_cons_succ]
      refine wpAnyH_take (i := 5) (oi := ⟨_, _, _, _, _, _⟩) (v := ?_) rfl (by kernel_rfl) (by kernel_rfl) (by kernel_rfl) (fun _ _ _ h => h) (Or.inl ⟨by rfl, ?_⟩) hHeld ?_
      rotate_left 1
      · (intro W hSw; (try dsimp only at hSw); go_simp; try with_reducible rfl)
      try simp only [Act.put, List.setIfInBounds_toArray, List.set_cons_zero, List.set_cons_succ]
      refine wpAnyH_take (i := 6) (oi := ⟨_, _, _, _, _, _⟩) (v := ?_) rfl (by kernel_rfl) (by kernel_rfl) (by kernel_rfl) (fun _ _ _ h => h) (Or.inl ⟨by rfl, ?_⟩) hHeld ?_
      rotate_left 1
      · (intro W hSw; (try dsimp only at hSw); go_simp; try with_reducible rfl)
      try simp only [Act.put, List.setIfInBounds_toArray, List.set_cons_zero, List.set_cons_succ]
      replace hHeld : Below w.heap.size w w3.drew := hHeld
      have hPe := hP3.drew
      have hRe := hR3.drew
      generalize w3.drew = we at *
      have cc2 : we.cell? ⟨g3, 2, none⟩ = some (.int .i64 0) := hPe.cell 2
      have zz2 : we.frozen? ⟨g3, 2, none⟩ = false := hPe.frozen 2
      refine wpAnyH_ready (rs := [7]) (by kernel_rfl) (by simp) ?_
      refine AllReadyH.cons (o := ⟨_, _, _, _, _, _⟩) rfl (fun K hK => ?_) AllReadyH.nil
      go_simp
      refine hK.out _ _ (hHeld.setCell (by show w.heap.size ≤ g3; omega) _) (fun hHeld => ?_)
      clear hK K cc2 zz2
      have hPf := hPe.set_ 2 (.int .i64 (x4.toNat : Int))
      have hRf : Blk (we.setCell ⟨g3, 2, none⟩ (.int .i64 (x4.toNat : Int))) w.heap.size 29 _ := hRe.far (by show w.heap.size ≠ g3; omega) _
      replace hHeld : Below w.heap.size w (we.setCell ⟨g3, 2, none⟩ (.int .i64 (x4.toNat : Int))) := hHeld
      generalize we.setCell ⟨g3, 2, none⟩ (.int .i64 (x4.toNat : Int)) = wf at *
      have cc3 : wf.cell? ⟨g3, 3, none⟩ = some (.slice none 0 0) := hPf.cell 3
      have zz3 : wf.frozen? ⟨g3, 3, none⟩ = false := hPf.frozen 3
      try simp only [Act.put, List.setIfInBounds_toArray, List.set_cons_zero, List.set_cons_succ]
      refine wpAnyH_take (i := 8) (oi := ⟨_, _, _, _, _, _⟩) (v := ?_) rfl (by kernel_rfl) (by kernel_rfl) (by kernel_rfl) (fun _ _ _ h => h) (Or.inl ⟨by rfl, ?_⟩) hHeld ?_
      rotate_left 1
      · (intro W hSw; (try dsimp only at hSw); go_simp; try with_reducible rfl)
      try simp only [Act.put, List.setIfInBounds_toArray, List.set_cons_zero, List.set_cons_succ]
      refine wpAnyH_ready (rs := [9]) (by kernel_rfl) (by simp) ?_
      refine AllReadyH.cons (o := ⟨_, _, _, _, _, _⟩) rfl (fun K hK => ?_) AllReadyH.nil
      go_simp
      refine hK.out _ _ (hHeld.setCell (by show w.heap.size ≤ g3; omega) _) (fun hHeld => ?_)
      clear hK K cc3 zz3
      have hPg := hPf.set_ 3 (.slice (some ⟨gb, ob + 4, none⟩) (n - 5) (0))
      have hRg : Blk (wf.setCell ⟨g3, 3, none⟩ (.slice (some ⟨gb, ob + 4, none⟩) (n - 5) (0))) w.heap.size 29 _ := hRf.far (by show w.heap.size ≠ g3; omega) _
      replace hHeld : Below w.heap.size w (wf.setCell ⟨g3, 3, none⟩ (.slice (some ⟨gb, ob + 4, none⟩) (n - 5) (0))) := hHeld
      generalize wf.setCell ⟨g3, 3, none⟩ (.slice (some ⟨gb, ob + 4, none⟩) (n - 5) (0)) = wg at *
      try simp only [Act.put, List.setIfInBounds_toArray, List.set_cons_zero, List.set_cons_succ]
      refine wpAnyH_done (by kernel_rfl) ?_ _
      refine NoPanic.normal ?_
      have d0 : wg.cell? ⟨g3, 0, none⟩ = some (.int .i64 (x0.toNat : Int)) := hPg.cell 0
      have d1 : wg.cell? ⟨g3, 1, none⟩ = some (.int .i64 (x1.toNat : Int)) := hPg.cell 1
      have d2 : wg.cell? ⟨g3, 2, none⟩ = some (.int .i64 (x4.toNat : Int)) := hPg.cell 2
      have d3 : wg.cell? ⟨g3, 3, none⟩ = some (.slice (some ⟨gb, ob + 4, none⟩) (n - 5) (0)) := hPg.cell 3
      go_wp2_with ((with_reducible refine (?_ : wpList _ _ _ (Oper.mk none _ _ _ _ _ :: _) _ _)); go_loud (refine wpList_store_blk rfl 29 (.tmp 2) (.tmp 27) rfl rfl w.heap.size [.int .i64 (x0.toNat : Int), .int .i64 (x1.toNat : Int), .int .i64 (x4.toNat : Int), .slice (some ⟨gb, ob + 4, none⟩) (n - 5) (0)] rfl rfl _ _ hRg (by kernel_rfl) rfl (by simp [Value.oneCell']) ?_); intro w9 hQ9 hg9)
      have f0 : w9.cell? ⟨w.heap.size, 0, none⟩ = some (.int .i64 (x0.toNat : Int)) := hQ9.cell 0
      have f1 : w9.cell? ⟨w.heap.size, 1, none⟩ = some (.int .i64 (x1.toNat : Int)) := hQ9.cell 1
      have f2 : w9.cell? ⟨w.heap.size, 2, none⟩ = some (.int .i64 (x4.toNat : Int)) := hQ9.cell 2
      have f3 : w9.cell? ⟨w.heap.size, 3, none⟩ = some (.slice (some ⟨gb, ob + 4, none⟩) (n - 5) (0)) := hQ9.cell 3
      have hb9 : Below w.heap.size w w9 := below_new hHeld hg9 (Nat.le_refl _) hHeld.size
      refine bodyPost_ret (v := .agg #[.int .i64 (x0.toNat : Int), .int .i64 (x1.toNat : Int), .int .i64 (x4.toNat : Int), .slice (some ⟨gb, ob + 4, none⟩) (n - 5) (0)]) (by simp [results, Try.results18, go_sem, f0, f1, f2, f3]) rfl ⟨_, _, _, by rw [HS.out] <;> rfl, ?_, ?_, hb9⟩
      · rw [HS.out, List.length_drop, HN.out]
      · rw [HS.out, List.drop_of_length_le (by have := HN.out; have := HC.out; omega)]; exact in_nil _ 0 (by decide) _
    · skip
      refine wp_region_noPanic ?_
      refine wp_region_held_drew (S := fun W => Below w.heap.size w W) (by kernel_rfl) (by exact below_drewN hb3 1) (fun hHeld => ?_)
      refine wpAnyH_take (i := 0) (oi := ⟨_, _, _, _, _, _⟩) (v := ?_) rfl (by kernel_rfl) (by kernel_rfl) (by kernel_rfl) (fun _ _ _ h => h) (Or.inl ⟨by rfl, ?_⟩) hHeld ?_
      rotate_left 1
      · (intro W hSw; (try dsimp only at hSw); go_simp; try with_reducible rfl)
      try simp only [Act.put, List.setIfInBounds_toArray, List.set_cons_zero, List.set_cons_succ]
      refine wpAnyH_take (i := 1) (oi := ⟨_, _, _, _, _, _⟩) (v := ?_) rfl (by kernel_rfl) (by kernel_rfl) (by kernel_rfl) (fun _ _ _ h => h) (Or.inl ⟨by rfl, ?_⟩) hHeld ?_
      rotate_left 1
      · (intro W hSw; (try dsimp only at hSw); go_simp; try with_reducible rfl)
      try simp only [Act.put, List.setIfInBounds_toArray, List.set_cons_zero, List.set_cons_succ]
      refine wpAnyH_take (i := 2) (oi := ⟨_, _, _, _, _, _⟩) (v := ?_) rfl (by kernel_rfl) (by kernel_rfl) (by kernel_rfl) (fun _ _ _ h => h) (Or.inl ⟨by rfl, ?_⟩) hHeld ?_
      rotate_left 1
      · (intro W hSw; (try dsimp only at hSw); have hcc := HC4.out W hSw; go_simp; try with_reducible rfl)
      try simp only [Act.put, List.setIfInBounds_toArray, List.set_cons_zero, List.set_cons_succ]
      refine wpAnyH_take (i := 3) (oi := ⟨_, _, _, _, _, _⟩) (v := ?_) rfl (by kernel_rfl) (by kernel_rfl) (by kernel_rfl) (fun _ _ _ h => h) (Or.inl ⟨by rfl, ?_⟩) hHeld ?_
      rotate_left 1
      · (intro W hSw; (try dsimp only at hSw); go_simp; try with_reducible rfl)
      try simp only [Act.put, List.setIfInBounds_toArray, List.set_cons_zero, List.set_cons_succ]
      refine wpAnyH_take (i := 4) (oi := ⟨_, _, _, _, _, _⟩) (v := ?_) rfl (by kernel_rfl) (by kernel_rfl) (by kernel_rfl) (fun _ _ _ h => h) (Or.inl ⟨by rfl, ?_⟩) hHeld ?_
      rotate_left 1
      · (intro W hSw; (try dsimp only at hSw); go_simp; try with_reducible rfl)
      try simp only [Act.put, List.setIfInBounds_toArray, List.set_cons_zero, List.set_cons_succ]
      refine wpAnyH_take (i := 5) (oi := ⟨_, _, _, _, _, _⟩) (v := ?_) rfl (by kernel_rfl) (by kernel_rfl) (by kernel_rfl) (fun _ _ _ h => h) (Or.inl ⟨by rfl, ?_⟩) hHeld ?_
      rotate_left 1
      · (intro W hSw; (try dsimp only at hSw); go_simp; try with_reducible rfl)
      try simp only [Act.put, List.setIfInBounds_toArray, List.set_cons_zero, List.set_cons_succ]
      refine wpAnyH_take (i := 6) (oi := ⟨_, _, _, _, _, _⟩) (v := ?_) rfl (by kernel_rfl) (by kernel_rfl) (by kernel_rfl) (fun _ _ _ h => h) (Or.inl ⟨by rfl, ?_⟩) hHeld ?_
      rotate_left 1
      · (intro W hSw; (try dsimp only at hSw); go_simp; try with_reducible rfl)
      try simp only [Act.put, List.setIfInBounds_toArray, List.set_cons_zero, List.set_cons_succ]
      replace hHeld : Below w.heap.size w w3.drew := hHeld
      have hPe := hP3.drew
      have hRe := hR3.drew
      generalize w3.drew = we at *
      have cc2 : we.cell? ⟨g3, 2, none⟩ = some (.int .i64 0) := hPe.cell 2
      have zz2 : we.frozen? ⟨g3, 2, none⟩ = false := hPe.frozen 2
      refine wpAnyH_ready (rs := [7]) (by kernel_rfl) (by simp) ?_
      refine AllReadyH.cons (o := ⟨_, _, _, _, _, _⟩) rfl (fun K hK => ?_) AllReadyH.nil
      go_simp
      refine hK.out _ _ (hHeld.setCell (by show w.heap.size ≤ g3; omega) _) (fun hHeld => ?_)
      clear hK K cc2 zz2
      have hPf := hPe.set_ 2 (.int .i64 (x4.toNat : Int))
      have hRf : Blk (we.setCell ⟨g3, 2, none⟩ (.int .i64 (x4.toNat : Int))) w.heap.size 29 _ := hRe.far (by show w.heap.size ≠ g3; omega) _
      replace hHeld : Below w.heap.size w (we.setCell ⟨g3, 2, none⟩ (.int .i64 (x4.toNat : Int))) := hHeld
      generalize we.setCell ⟨g3, 2, none⟩ (.int .i64 (x4.toNat : Int)) = wf at *
      have cc3 : wf.cell? ⟨g3, 3, none⟩ = some (.slice none 0 0) := hPf.cell 3
      have zz3 : wf.frozen? ⟨g3, 3, none⟩ = false := hPf.frozen 3
      try simp only [Act.put, List.setIfInBounds_toArray, List.set_cons_zero, List.set_cons_succ]
      refine wpAnyH_take (i := 8) (oi := ⟨_, _, _, _, _, _⟩) (v := ?_) rfl (by kernel_rfl) (by kernel_rfl) (by kernel_rfl) (fun _ _ _ h => h) (Or.inl ⟨by rfl, ?_⟩) hHeld ?_
      rotate_left 1
      · (intro W hSw; (try dsimp only at hSw); go_simp; try with_reducible rfl)
      try simp only [Act.put, List.setIfInBounds_toArray, List.set_cons_zero, List.set_cons_succ]
      refine wpAnyH_ready (rs := [9]) (by kernel_rfl) (by simp) ?_
      refine AllReadyH.cons (o := ⟨_, _, _, _, _, _⟩) rfl (fun K hK => ?_) AllReadyH.nil
      go_simp
      refine hK.out _ _ (hHeld.setCell (by show w.heap.size ≤ g3; omega) _) (fun hHeld => ?_)
      clear hK K cc3 zz3
      have hPg := hPf.set_ 3 (.slice (some ⟨gb, ob + 4 + 1, none⟩) (n - 5) (c - 5))
      have hRg : Blk (wf.setCell ⟨g3, 3, none⟩ (.slice (some ⟨gb, ob + 4 + 1, none⟩) (n - 5) (c - 5))) w.heap.size 29 _ := hRf.far (by show w.heap.size ≠ g3; omega) _
      replace hHeld : Below w.heap.size w (wf.setCell ⟨g3, 3, none⟩ (.slice (some ⟨gb, ob + 4 + 1, none⟩) (n - 5) (c - 5))) := hHeld
      generalize wf.setCell ⟨g3, 3, none⟩ (.slice (some ⟨gb, ob + 4 + 1, none⟩) (n - 5) (c - 5)) = wg at *
      try simp only [Act.put, List.setIfInBounds_toArray, List.set_cons_zero, List.set_cons_succ]
      refine wpAnyH_done (by kernel_rfl) ?_ _
      refine NoPanic.normal ?_
      have d0 : wg.cell? ⟨g3, 0, none⟩ = some (.int .i64 (x0.toNat : Int)) := hPg.cell 0
      have d1 : wg.cell? ⟨g3, 1, none⟩ = some (.int .i64 (x1.toNat : Int)) := hPg.cell 1
      have d2 : wg.cell? ⟨g3, 2, none⟩ = some (.int .i64 (x4.toNat : Int)) := hPg.cell 2
      have d3 : wg.cell? ⟨g3, 3, none⟩ = some (.slice (some ⟨gb, ob + 4 + 1, none⟩) (n - 5) (c - 5)) := hPg.cell 3
      go_wp2_with ((with_reducible refine (?_ : wpList _ _ _ (Oper.mk none _ _ _ _ _ :: _) _ _)); go_loud (refine wpList_store_blk rfl 29 (.tmp 2) (.tmp 27) rfl rfl w.heap.size [.int .i64 (x0.toNat : Int), .int .i64 (x1.toNat : Int), .int .i64 (x4.toNat : Int), .slice (some ⟨gb, ob + 4 + 1, none⟩) (n - 5) (c - 5)] rfl rfl _ _ hRg (by kernel_rfl) rfl (by simp [Value.oneCell']) ?_); intro w9 hQ9 hg9)
      have f0 : w9.cell? ⟨w.heap.size, 0, none⟩ = some (.int .i64 (x0.toNat : Int)) := hQ9.cell 0
      have f1 : w9.cell? ⟨w.heap.size, 1, none⟩ = some (.int .i64 (x1.toNat : Int)) := hQ9.cell 1
      have f2 : w9.cell? ⟨w.heap.size, 2, none⟩ = some (.int .i64 (x4.toNat : Int)) := hQ9.cell 2
      have f3 : w9.cell? ⟨w.heap.size, 3, none⟩ = some (.slice (some ⟨gb, ob + 4 + 1, none⟩) (n - 5) (c - 5)) := hQ9.cell 3
      have hb9 : Below w.heap.size w w9 := below_new hHeld hg9 (Nat.le_refl _) hHeld.size
      refine bodyPost_ret (v := .agg #[.int .i64 (x0.toNat : Int), .int .i64 (x1.toNat : Int), .int .i64 (x4.toNat : Int), .slice (some ⟨gb, ob + 4 + 1, none⟩) (n - 5) (c - 5)]) (by simp [results, Try.results18, go_sem, f0, f1, f2, f3]) rfl ⟨_, _, _, by rw [HS.out] <;> rfl, ?_, ?_, hb9⟩
      · rw [HS.out, List.length_drop, HN.out]
      · have hd := HD.out
        rw [if_neg (by omega)] at hd
        rw [HS.out]; exact in_up hd hb9
end Go.Proofs.Ytokogedgbegmkaa
