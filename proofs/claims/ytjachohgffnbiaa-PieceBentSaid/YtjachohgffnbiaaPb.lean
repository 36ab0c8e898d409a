/-
  The contract of package piece's partsOf.
-/
import Derived.Test.YtjachohgffnbiaaPa
namespace Go.Proofs.Ytjachohgffnbiaa
open Go.RowKit

/-- What four bytes say. -/
def cntTo (b : List UInt8) : Nat → Nat
  | 0 => 0
  | k + 1 => cntTo b k * 256 + (b.getD k 0).toNat
theorem cntTo_lt (b : List UInt8) (k : Nat) : cntTo b k < 256 ^ k := by
  induction k with
  | zero => simp [cntTo]
  | succ k ih =>
    have := u8_lt (b.getD k 0)
    rw [cntTo, Nat.pow_succ]
    omega
theorem cntTo_small (b : List UInt8) (k : Nat) (h : k ≤ 4) : cntTo b k < 4294967296 := by
  have h1 := cntTo_lt b k
  have h2 : 256 ^ k ≤ 256 ^ 4 := Nat.pow_le_pow_right (by decide) h
  have h3 : (256 : Nat) ^ 4 = 4294967296 := by decide
  omega
theorem i64_or_nat (a b : Nat) (ha : a < 2 ^ 62) (hb : b < 2 ^ 62) : bits .or .i64 (a : Int) (b : Int) = ((a ||| b : Nat) : Int) := by
  have hx : a ||| b < 2 ^ 62 := Nat.or_lt_two_pow ha hb
  show IntKind.i64.wrap ((BitVec.ofInt 64 (a : Int) ||| BitVec.ofInt 64 (b : Int)).toNat : Int) = _
  rw [BitVec.toNat_or, ofInt_u64 a (by omega), ofInt_u64 b (by omega), IntKind.wrap_i64]
  omega
theorem or_num (c : Nat) (hc : c < 4294967296) (y : UInt8) : bits .or .i64 ((c : Int) * 256) (y.toNat : Int) = ((c * 256 + y.toNat : Nat) : Int) := by
  have hy := y.toNat_lt
  have e : c * 256 ||| y.toNat = c * 256 + y.toNat := by
    rw [show (256 : Nat) = 2 ^ 8 from rfl, ← Nat.shiftLeft_eq, Nat.shiftLeft_add_eq_or_of_lt hy]
  rw [show (c : Int) * 256 = ((c * 256 : Nat) : Int) by omega, i64_or_nat _ _ (by omega) (by omega), e]
theorem ix_byte (x : UInt8) : wrap64 (x.toNat : Int) = (x.toNat : Int) ∧ IntKind.i64.wrap (x.toNat : Int) = (x.toNat : Int) := by
  have hx := x.toNat_lt
  generalize x.toNat = a at *
  refine ⟨?_, ?_⟩
  · unfold wrap64; omega
  · rw [IntKind.wrap_i64]; omega
theorem ix_num (c : Nat) (hc : c < 4294967296) : wrap64 ((c : Int) * 256) = (c : Int) * 256 := by
  unfold wrap64; omega
/-- What a piece says: its flags, the count, what it holds, what is wrong. -/
def partsE (b : List UInt8) : UInt8 × Nat × List UInt8 × Nat :=
  if b.length < 1 then (0, 0, [], 3) else if hL (b.getD 0 0) = false then (b.getD 0 0, b.length - 1, b.drop 1, 0) else if b.length - 1 < 4 then (0, 0, [], 3) else (b.getD 0 0, cntTo (b.drop 1) 4, b.drop 5, 0)
/-- A byte that came in, in whatever world behind. -/
theorem in_cell {w : World} {gb ob c k : Nat} {b : List UInt8} (iB : In w w.heap.size (some ⟨gb, ob, none⟩) c b) (hk : k < b.length) (W : World) (h : Below w.heap.size w W) : W.cell? ⟨gb, ob + k, none⟩ = some (.int .u8 ((b.getD k 0).toNat : Int)) := by
  obtain ⟨g, o, e, hg, hby⟩ := iB.2.2 (by omega)
  cases e
  exact (World.cell?_of_block (w := w) (w' := W) (a := ⟨gb, ob + k, none⟩) (h.block gb (by omega))).trans (hby k hk)
/-- A struct goes into a block that is known, at a step of a region that draws its order. -/
theorem step_store_blk {ops : Array Oper} {o : Oper} {a : Act} {w : World} {K : Act → World → Prop} {Q : Exit → Act → World → Prop} {E : Prop} (hgd : o.guard = none) (ty : TypeId) (x y : Operand) (ho : o.op = .store ty x y) (hd : o.dst = none)
    (g : Nat) (cells : List Value) (hx : a.eval x = .pointer (some ⟨g, 0, none⟩)) (hy : a.eval y = .agg cells.toArray)
    (t : TypeId) (old : List Value) (hg : Blk w g t old) (hi : (Try.prog.info? ty).map (·.size) = some cells.length)
    (hold : old.length = cells.length) (h1 : cells.toArray.all (·.oneCell') = true)
    (h : ∀ w', Blk w' g t cells → w.grownBy w' (some g) → K a w') : if Region.wanted o (yielded ops a.tmps) = true then Oper.wp Try.prog o a w K Q else E := by
  have hw : Region.wanted o (yielded ops a.tmps) = true := by simp [Region.wanted, hgd]
  rw [if_pos hw]
  refine wp_store_row ty x y ho g cells.toArray hx hy t old.toArray hg (by simpa using hi) (by simpa using hold) h1 ?_
  rw [hd]
  exact h _ (hg.row _) (grown_setRow _ _ _)
set_option maxRecDepth 100000 in
set_option maxHeartbeats 1000000 in
theorem partsOf_e (A : Option Addr) (c n : Nat) (b : List UInt8) (w : World) (hn : b.length = n) (iB : In w w.heap.size A c b) (hm : n < 1000000) :
    Calls Try.prog 22 #[.slice A n c] w fun e w' => ∃ A' n' c', e = .returned (.tuple #[.agg #[.int .u8 ((partsE b).1.toNat : Int), .int .i64 ((partsE b).2.1 : Int), .slice A' n' c'], .int .i64 ((partsE b).2.2.2 : Int)]) ∧ (partsE b).2.2.1.length = n' ∧ In w' w'.heap.size A' c' (partsE b).2.2.1 ∧ Below w.heap.size w w' := by
  have hR := Blk.new_of w 56 #[.int .u8 0, .int .i64 0, .slice none 0 0] _ rfl
  have hbw : Below w.heap.size w (w.alloc (.cells #[.int .u8 0, .int .i64 0, .slice none 0 0] 56)) := (Below.refl _ _).alloc (Nat.le_refl _) _
  have hz1 : (w.alloc (.cells #[.int .u8 0, .int .i64 0, .slice none 0 0] 56)).heap.size = w.heap.size + 1 := by simp
  by_cases h0 : n = 0
  · have HZ := Lib.hid (show partsE b = (0, 0, [], 3) by unfold partsE; rw [if_pos (by omega)])
    subst h0
    clear hn iB
    go_enter Try.func22, Try.ntmps22
    go_upto_region 1 with (fail)
    generalize w.alloc (.cells #[.int .u8 0, .int .i64 0, .slice none 0 0] 56) = w1 at *
    go_wp2_with ((with_reducible refine (?_ : wpList _ _ _ (Oper.mk none _ _ _ _ _ :: _) _ _)); go_loud (refine wpList_store_blk rfl 56 (.tmp 2) (.tmp 10) rfl rfl w.heap.size [.int .u8 0, .int .i64 0, .slice none 0 0] rfl rfl _ _ hR (by kernel_rfl) rfl (by simp [Value.oneCell']) ?_); intro w9 hQ9 hg9)
    have f0 : w9.cell? ⟨w.heap.size, 0, none⟩ = some (.int .u8 0) := hQ9.cell 0
    have f1 : w9.cell? ⟨w.heap.size, 1, none⟩ = some (.int .i64 0) := hQ9.cell 1
    have f2 : w9.cell? ⟨w.heap.size, 2, none⟩ = some (.slice none 0 0) := hQ9.cell 2
    have hb9 : Below w.heap.size w w9 := below_new hbw hg9 (Nat.le_refl _) hbw.size
    refine bodyPost_ret (v := .tuple #[.agg #[.int .u8 0, .int .i64 0, .slice none 0 0], .int .i64 3]) (by simp [results, Try.results22, go_sem, f0, f1, f2]) rfl ⟨_, _, _, by rw [HZ.out] <;> rfl, ?_, ?_, hb9⟩
    · rw [HZ.out] <;> rfl
    · rw [HZ.out]; exact in_nil _ 0 (by decide) _
  · obtain ⟨gb, ob, rfl, hgb, hby⟩ := iB.2.2 (by omega)
    have HC0 := Lib.hid (fun (W : World) (h : Below w.heap.size w W) => (show W.cell? ⟨gb, ob, none⟩ = _ from in_cell iB (show 0 < b.length by omega) W h))
    have HPE := Lib.hid (show partsE b = if hL (b.getD 0 0) = false then (b.getD 0 0, b.length - 1, b.drop 1, 0) else if b.length - 1 < 4 then (0, 0, [], 3) else (b.getD 0 0, cntTo (b.drop 1) 4, b.drop 5, 0) by unfold partsE; rw [if_neg (by omega)])
    have hcn := iB.1
    rw [hn] at HPE hcn
    have HC := Lib.hid (show n ≤ c ∧ 0 < n from ⟨hcn, by omega⟩)
    have HD1 := Lib.hid (in_drop iB 1 (by omega))
    have HD5 := Lib.hid (fun (h : 5 ≤ b.length) => in_drop iB 5 h)
    have HIB := Lib.hid iB
    have HN := Lib.hid hn
    have HZ1 := Lib.hid hz1
    obtain ⟨x0, hx0⟩ : ∃ x, x = b.getD 0 0 := ⟨_, rfl⟩
    rw [← hx0] at HPE HC0
    have h0n : 0 < n := by omega
    have h1n : (1 : Int) ≤ (n : Int) := by omega
    have hnc : (n : Int) ≤ (c : Int) := by omega
    clear hn iB hby hx0 h0 hz1 hcn
    cases hl : hL x0
    · have HZ := Lib.hid (show partsE b = (x0, n - 1, b.drop 1, 0) by rw [HPE.out, if_pos hl])
      by_cases hc1 : c = 1
      · subst hc1
        obtain rfl : n = 1 := by omega
        go_enter Try.func22, Try.ntmps22
        go_upto_region 1 with (fail)
        generalize w.alloc (.cells #[.int .u8 0, .int .i64 0, .slice none 0 0] 56) = w1 at *
        go_wp2
        refine wp_region_noPanic ?_
        refine wp_region_held_drew (S := fun W => Below w1.heap.size w1 W) (by kernel_rfl) (by exact below_drewN (Below.refl _ _) 1) (fun hHeld => ?_)
        refine wpAnyH_take (i := 0) (oi := ⟨_, _, _, _, _, _⟩) (v := ?_) rfl (by kernel_rfl) (by kernel_rfl) (by kernel_rfl) (fun _ _ _ h => h) (Or.inl ⟨by rfl, ?_⟩) hHeld ?_
        rotate_left 1
        · (intro W hSw; (try dsimp only at hSw); go_simp; try with_reducible rfl)
        try simp only [Act.put, List.setIfInBounds_toArray, List.set_cons_zero, List.set_cons_succ]
        refine wpAnyH_take (i := 1) (oi := ⟨_, _, _, _, _, _⟩) (v := ?_) rfl (by kernel_rfl) (by kernel_rfl) (by kernel_rfl) (fun _ _ _ h => h) (Or.inl ⟨by rfl, ?_⟩) hHeld ?_
        rotate_left 1
        · (intro W hSw; (try dsimp only at hSw); go_simp; try with_reducible rfl)
        try simp only [Act.put, List.setIfInBounds_toArray, List.set_cons_zero, List.set_cons_succ]
        refine wpAnyH_take (i := 2) (oi := ⟨_, _, _, _, _, _⟩) (v := ?_) rfl (by kernel_rfl) (by kernel_rfl) (by kernel_rfl) (fun _ _ _ h => h) (Or.inl ⟨by rfl, ?_⟩) hHeld ?_
        rotate_left 1
        · (intro W hSw; (try dsimp only at hSw); have hcc := HC0.out W (hbw.trans (hSw.mono hbw.size)); go_simp; try with_reducible rfl)
        try simp only [Act.put, List.setIfInBounds_toArray, List.set_cons_zero, List.set_cons_succ]
        refine wpAnyH_take (i := 3) (oi := ⟨_, _, _, _, _, _⟩) (v := ?_) rfl (by kernel_rfl) (by kernel_rfl) (by kernel_rfl) (fun _ _ _ h => h) (Or.inl ⟨by rfl, ?_⟩) hHeld ?_
        rotate_left 1
        · (intro W hSw; (try dsimp only at hSw); go_simp; try with_reducible rfl)
        try simp only [Act.put, List.setIfInBounds_toArray, List.set_cons_zero, List.set_cons_succ]
        refine wpAnyH_take (i := 4) (oi := ⟨_, _, _, _, _, _⟩) (v := ?_) rfl (by kernel_rfl) (by kernel_rfl) (by kernel_rfl) (fun _ _ _ h => h) (Or.inl ⟨by rfl, ?_⟩) hHeld ?_
        rotate_left 1
        · (intro W hSw; (try dsimp only at hSw); go_simp; try with_reducible rfl)
        try simp only [Act.put, List.setIfInBounds_toArray, List.set_cons_zero, List.set_cons_succ]
        refine wpAnyH_take (i := 5) (oi := ⟨_, _, _, _, _, _⟩) (v := ?_) rfl (by kernel_rfl) (by kernel_rfl) (by kernel_rfl) (fun _ _ _ h => h) (Or.inl ⟨by rfl, ?_⟩) hHeld ?_
        rotate_left 1
        · (intro W hSw; (try dsimp only at hSw); go_simp; try with_reducible rfl)
        try simp only [Act.put, List.setIfInBounds_toArray, List.set_cons_zero, List.set_cons_succ]
        replace hHeld : Below w1.heap.size w1 w1.drew := hHeld
        generalize w1.drew = wd at *
        have hz := hHeld.size
        refine wpAnyH_ready (rs := [6]) (by kernel_rfl) (by simp) ?_
        refine AllReadyH.cons (o := ⟨_, _, _, _, _, _⟩) rfl (fun K hK => ?_) AllReadyH.nil
        go_simp
        refine hK.out _ _ (hHeld.alloc hz _) (fun hHeld => ?_)
        clear hK K
        try simp only [Act.put, List.setIfInBounds_toArray, List.set_cons_zero, List.set_cons_succ]
        refine wpAnyH_ready (rs := [7]) (by kernel_rfl) (by simp) ?_
        refine AllReadyH.cons (o := ⟨_, _, _, _, _, _⟩) rfl (fun K hK => ?_) AllReadyH.nil
        refine step_store_blk rfl 56 (.tmp 4) (.tmp 16) rfl rfl wd.heap.size [.int .u8 (x0.toNat : Int), .int .i64 0, .slice (some ⟨gb, ob, none⟩) 0 0] rfl rfl _ _ (Blk.new_of wd _ #[.int .u8 0, .int .i64 0, .slice none 0 0] _ rfl) (by kernel_rfl) rfl (by simp [Value.oneCell']) ?_
        intro w3 hP3 hg3
        refine hK.out _ _ (below_new hHeld hg3 hz (by have := hHeld.size; exact this)) (fun hHeld3 => ?_)
        clear hK K
        replace hHeld3 : Below w1.heap.size w1 w3 := hHeld3
        refine wpAnyH_done (by kernel_rfl) ?_ _
        refine NoPanic.normal ?_
        have hR3 := hR.below hHeld3 hR.lt
        have hb3 := hbw.trans (hHeld3.mono hbw.size)
        have hg3z : w.heap.size < wd.heap.size := by have := HZ1.out; omega
        clear hg3 hHeld hHeld3 hz hbw hR
        generalize wd.heap.size = g3 at *
        replace hP3 : Blk w3 g3 56 [.int .u8 (x0.toNat : Int), .int .i64 0, .slice (some ⟨gb, ob, none⟩) 0 0] := hP3
        have d0 : w3.cell? ⟨g3, 0, none⟩ = some (.int .u8 (x0.toNat : Int)) := hP3.cell 0
        have d1 : w3.cell? ⟨g3, 1, none⟩ = some (.int .i64 0) := hP3.cell 1
        have d2 : w3.cell? ⟨g3, 2, none⟩ = some (.slice (some ⟨gb, ob, none⟩) 0 0) := hP3.cell 2
        have zz1 : w3.frozen? ⟨g3, 1, none⟩ = false := hP3.frozen 1
        have HA := Lib.hid (hasL_e g3 x0 w3 d0 false hl)
        go_upto_region 6 with (go_at_call 24; refine HA.out.mono ?_; rintro e w6 ⟨rfl, hww⟩; have hw2 := hww.symm; subst hw2)
        have hR4 : Blk (w3.setCell ⟨g3, 1, none⟩ (.int .i64 0)) w.heap.size 56 _ := hR3.far (by show w.heap.size ≠ g3; omega) _
        have hP4 := hP3.set_ 1 (.int .i64 0)
        have hb4 : Below w.heap.size w (w3.setCell ⟨g3, 1, none⟩ (.int .i64 0)) := hb3.setCell (by show w.heap.size ≤ g3; omega) _
        clear d0 d1 d2 zz1 hP3 hR3 hb3
        generalize w3.setCell ⟨g3, 1, none⟩ (.int .i64 0) = w4 at *
        have d0 : w4.cell? ⟨g3, 0, none⟩ = some (.int .u8 (x0.toNat : Int)) := hP4.cell 0
        have d1 : w4.cell? ⟨g3, 1, none⟩ = some (.int .i64 0) := hP4.cell 1
        have d2 : w4.cell? ⟨g3, 2, none⟩ = some (.slice (some ⟨gb, ob, none⟩) 0 0) := hP4.cell 2
        go_wp2_with ((with_reducible refine (?_ : wpList _ _ _ (Oper.mk none _ _ _ _ _ :: _) _ _)); go_loud (refine wpList_store_blk rfl 56 (.tmp 2) (.tmp 23) rfl rfl w.heap.size [.int .u8 (x0.toNat : Int), .int .i64 0, .slice (some ⟨gb, ob, none⟩) 0 0] rfl rfl _ _ hR4 (by kernel_rfl) rfl (by simp [Value.oneCell']) ?_); intro w9 hQ9 hg9)
        have f0 : w9.cell? ⟨w.heap.size, 0, none⟩ = some (.int .u8 (x0.toNat : Int)) := hQ9.cell 0
        have f1 : w9.cell? ⟨w.heap.size, 1, none⟩ = some (.int .i64 0) := hQ9.cell 1
        have f2 : w9.cell? ⟨w.heap.size, 2, none⟩ = some (.slice (some ⟨gb, ob, none⟩) 0 0) := hQ9.cell 2
        have hb9 : Below w.heap.size w w9 := below_new hb4 hg9 (Nat.le_refl _) hb4.size
        refine bodyPost_ret (v := .tuple #[.agg #[.int .u8 (x0.toNat : Int), .int .i64 0, .slice (some ⟨gb, ob, none⟩) 0 0], .int .i64 0]) (by simp [results, Try.results22, go_sem, f0, f1, f2]) rfl ⟨_, _, _, by rw [HZ.out] <;> rfl, ?_, ?_, hb9⟩
        · rw [HZ.out, List.length_drop, HN.out]
        · rw [HZ.out]; have hd := HD1.out; rw [if_pos trivial] at hd; exact in_up hd hb9
      · have hc0 : 0 < c := by omega
        go_enter Try.func22, Try.ntmps22
        go_upto_region 1 with (fail)
        generalize w.alloc (.cells #[.int .u8 0, .int .i64 0, .slice none 0 0] 56) = w1 at *
        go_wp2
        refine wp_region_noPanic ?_
        refine wp_region_held_drew (S := fun W => Below w1.heap.size w1 W) (by kernel_rfl) (by exact below_drewN (Below.refl _ _) 1) (fun hHeld => ?_)
        refine wpAnyH_take (i := 0) (oi := ⟨_, _, _, _, _, _⟩) (v := ?_) rfl (by kernel_rfl) (by kernel_rfl) (by kernel_rfl) (fun _ _ _ h => h) (Or.inl ⟨by rfl, ?_⟩) hHeld ?_
        rotate_left 1
        · (intro W hSw; (try dsimp only at hSw); go_simp; try with_reducible rfl)
        try simp only [Act.put, List.setIfInBounds_toArray, List.set_cons_zero, List.set_cons_succ]
        refine wpAnyH_take (i := 1) (oi := ⟨_, _, _, _, _, _⟩) (v := ?_) rfl (by kernel_rfl) (by kernel_rfl) (by kernel_rfl) (fun _ _ _ h => h) (Or.inl ⟨by rfl, ?_⟩) hHeld ?_
        rotate_left 1
        · (intro W hSw; (try dsimp only at hSw); go_simp; try with_reducible rfl)
        try simp only [Act.put, List.setIfInBounds_toArray, List.set_cons_zero, List.set_cons_succ]
        refine wpAnyH_take (i := 2) (oi := ⟨_, _, _, _, _, _⟩) (v := ?_) rfl (by kernel_rfl) (by kernel_rfl) (by kernel_rfl) (fun _ _ _ h => h) (Or.inl ⟨by rfl, ?_⟩) hHeld ?_
        rotate_left 1
        · (intro W hSw; (try dsimp only at hSw); have hcc := HC0.out W (hbw.trans (hSw.mono hbw.size)); go_simp; try with_reducible rfl)
        try simp only [Act.put, List.setIfInBounds_toArray, List.set_cons_zero, List.set_cons_succ]
        refine wpAnyH_take (i := 3) (oi := ⟨_, _, _, _, _, _⟩) (v := ?_) rfl (by kernel_rfl) (by kernel_rfl) (by kernel_rfl) (fun _ _ _ h => h) (Or.inl ⟨by rfl, ?_⟩) hHeld ?_
        rotate_left 1
        · (intro W hSw; (try dsimp only at hSw); go_simp; try with_reducible rfl)
        try simp only [Act.put, List.setIfInBounds_toArray, List.set_cons_zero, List.set_cons_succ]
        refine wpAnyH_take (i := 4) (oi := ⟨_, _, _, _, _, _⟩) (v := ?_) rfl (by kernel_rfl) (by kernel_rfl) (by kernel_rfl) (fun _ _ _ h => h) (Or.inl ⟨by rfl, ?_⟩) hHeld ?_
        rotate_left 1
        · (intro W hSw; (try dsimp only at hSw); go_simp; try with_reducible rfl)
        try simp only [Act.put, List.setIfInBounds_toArray, List.set_cons_zero, List.set_cons_succ]
        refine wpAnyH_take (i := 5) (oi := ⟨_, _, _, _, _, _⟩) (v := ?_) rfl (by kernel_rfl) (by kernel_rfl) (by kernel_rfl) (fun _ _ _ h => h) (Or.inl ⟨by rfl, ?_⟩) hHeld ?_
        rotate_left 1
        · (intro W hSw; (try dsimp only at hSw); go_simp; try with_reducible rfl)
        try simp only [Act.put, List.setIfInBounds_toArray, List.set_cons_zero, List.set_cons_succ]
        replace hHeld : Below w1.heap.size w1 w1.drew := hHeld
        generalize w1.drew = wd at *
        have hz := hHeld.size
        refine wpAnyH_ready (rs := [6]) (by kernel_rfl) (by simp) ?_
        refine AllReadyH.cons (o := ⟨_, _, _, _, _, _⟩) rfl (fun K hK => ?_) AllReadyH.nil
        go_simp
        refine hK.out _ _ (hHeld.alloc hz _) (fun hHeld => ?_)
        clear hK K
        try simp only [Act.put, List.setIfInBounds_toArray, List.set_cons_zero, List.set_cons_succ]
        refine wpAnyH_ready (rs := [7]) (by kernel_rfl) (by simp) ?_
        refine AllReadyH.cons (o := ⟨_, _, _, _, _, _⟩) rfl (fun K hK => ?_) AllReadyH.nil
        refine step_store_blk rfl 56 (.tmp 4) (.tmp 16) rfl rfl wd.heap.size [.int .u8 (x0.toNat : Int), .int .i64 0, .slice (some ⟨gb, ob + 1, none⟩) (n - 1) (c - 1)] rfl rfl _ _ (Blk.new_of wd _ #[.int .u8 0, .int .i64 0, .slice none 0 0] _ rfl) (by kernel_rfl) rfl (by simp [Value.oneCell']) ?_
        intro w3 hP3 hg3
        refine hK.out _ _ (below_new hHeld hg3 hz (by have := hHeld.size; exact this)) (fun hHeld3 => ?_)
        clear hK K
        replace hHeld3 : Below w1.heap.size w1 w3 := hHeld3
        refine wpAnyH_done (by kernel_rfl) ?_ _
        refine NoPanic.normal ?_
        have hR3 := hR.below hHeld3 hR.lt
        have hb3 := hbw.trans (hHeld3.mono hbw.size)
        have hg3z : w.heap.size < wd.heap.size := by have := HZ1.out; omega
        clear hg3 hHeld hHeld3 hz hbw hR
        generalize wd.heap.size = g3 at *
        replace hP3 : Blk w3 g3 56 [.int .u8 (x0.toNat : Int), .int .i64 0, .slice (some ⟨gb, ob + 1, none⟩) (n - 1) (c - 1)] := hP3
        have d0 : w3.cell? ⟨g3, 0, none⟩ = some (.int .u8 (x0.toNat : Int)) := hP3.cell 0
        have d1 : w3.cell? ⟨g3, 1, none⟩ = some (.int .i64 0) := hP3.cell 1
        have d2 : w3.cell? ⟨g3, 2, none⟩ = some (.slice (some ⟨gb, ob + 1, none⟩) (n - 1) (c - 1)) := hP3.cell 2
        have zz1 : w3.frozen? ⟨g3, 1, none⟩ = false := hP3.frozen 1
        have HA := Lib.hid (hasL_e g3 x0 w3 d0 false hl)
        go_upto_region 6 with (go_at_call 24; refine HA.out.mono ?_; rintro e w6 ⟨rfl, hww⟩; have hw2 := hww.symm; subst hw2)
        have hR4 : Blk (w3.setCell ⟨g3, 1, none⟩ (.int .i64 ((n - 1 : Nat) : Int))) w.heap.size 56 _ := hR3.far (by show w.heap.size ≠ g3; omega) _
        have hP4 := hP3.set_ 1 (.int .i64 ((n - 1 : Nat) : Int))
        have hb4 : Below w.heap.size w (w3.setCell ⟨g3, 1, none⟩ (.int .i64 ((n - 1 : Nat) : Int))) := hb3.setCell (by show w.heap.size ≤ g3; omega) _
        clear d0 d1 d2 zz1 hP3 hR3 hb3
        generalize w3.setCell ⟨g3, 1, none⟩ (.int .i64 ((n - 1 : Nat) : Int)) = w4 at *
        have d0 : w4.cell? ⟨g3, 0, none⟩ = some (.int .u8 (x0.toNat : Int)) := hP4.cell 0
        have d1 : w4.cell? ⟨g3, 1, none⟩ = some (.int .i64 ((n - 1 : Nat) : Int)) := hP4.cell 1
        have d2 : w4.cell? ⟨g3, 2, none⟩ = some (.slice (some ⟨gb, ob + 1, none⟩) (n - 1) (c - 1)) := hP4.cell 2
        go_wp2_with ((with_reducible refine (?_ : wpList _ _ _ (Oper.mk none _ _ _ _ _ :: _) _ _)); go_loud (refine wpList_store_blk rfl 56 (.tmp 2) (.tmp 23) rfl rfl w.heap.size [.int .u8 (x0.toNat : Int), .int .i64 ((n - 1 : Nat) : Int), .slice (some ⟨gb, ob + 1, none⟩) (n - 1) (c - 1)] rfl rfl _ _ hR4 (by kernel_rfl) rfl (by simp [Value.oneCell']) ?_); intro w9 hQ9 hg9)
        have f0 : w9.cell? ⟨w.heap.size, 0, none⟩ = some (.int .u8 (x0.toNat : Int)) := hQ9.cell 0
        have f1 : w9.cell? ⟨w.heap.size, 1, none⟩ = some (.int .i64 ((n - 1 : Nat) : Int)) := hQ9.cell 1
        have f2 : w9.cell? ⟨w.heap.size, 2, none⟩ = some (.slice (some ⟨gb, ob + 1, none⟩) (n - 1) (c - 1)) := hQ9.cell 2
        have hb9 : Below w.heap.size w w9 := below_new hb4 hg9 (Nat.le_refl _) hb4.size
        refine bodyPost_ret (v := .tuple #[.agg #[.int .u8 (x0.toNat : Int), .int .i64 ((n - 1 : Nat) : Int), .slice (some ⟨gb, ob + 1, none⟩) (n - 1) (c - 1)], .int .i64 0]) (by simp [results, Try.results22, go_sem, f0, f1, f2]) rfl ⟨_, _, _, by rw [HZ.out] <;> rfl, ?_, ?_, hb9⟩
        · rw [HZ.out, List.length_drop, HN.out]
        · rw [HZ.out]; have hd := HD1.out; rw [if_neg hc1] at hd; exact in_up hd hb9
    · by_cases h4 : n - 1 < 4
      · have HZ := Lib.hid (show partsE b = (0, 0, [], 3) by rw [HPE.out, if_neg (by rw [hl]; decide), if_pos h4])
        by_cases hc1 : c = 1
        · subst hc1
          obtain rfl : n = 1 := by omega
          clear h4
          go_enter Try.func22, Try.ntmps22
          go_upto_region 1 with (fail)
          generalize w.alloc (.cells #[.int .u8 0, .int .i64 0, .slice none 0 0] 56) = w1 at *
          go_wp2
          refine wp_region_noPanic ?_
          refine wp_region_held_drew (S := fun W => Below w1.heap.size w1 W) (by kernel_rfl) (by exact below_drewN (Below.refl _ _) 1) (fun hHeld => ?_)
          refine wpAnyH_take (i := 0) (oi := ⟨_, _, _, _, _, _⟩) (v := ?_) rfl (by kernel_rfl) (by kernel_rfl) (by kernel_rfl) (fun _ _ _ h => h) (Or.inl ⟨by rfl, ?_⟩) hHeld ?_
          rotate_left 1
          · (intro W hSw; (try dsimp only at hSw); go_simp; try with_reducible rfl)
          try simp only [Act.put, List.setIfInBounds_toArray, List.set_cons_zero, List.set_cons_succ]
          refine wpAnyH_take (i := 1) (oi := ⟨_, _, _, _, _, _⟩) (v := ?_) rfl (by kernel_rfl) (by kernel_rfl) (by kernel_rfl) (fun _ _ _ h => h) (Or.inl ⟨by rfl, ?_⟩) hHeld ?_
          rotate_left 1
          · (intro W hSw; (try dsimp only at hSw); go_simp; try with_reducible rfl)
          try simp only [Act.put, List.setIfInBounds_toArray, List.set_cons_zero, List.set_cons_succ]
          refine wpAnyH_take (i := 2) (oi := ⟨_, _, _, _, _, _⟩) (v := ?_) rfl (by kernel_rfl) (by kernel_rfl) (by kernel_rfl) (fun _ _ _ h => h) (Or.inl ⟨by rfl, ?_⟩) hHeld ?_
          rotate_left 1
          · (intro W hSw; (try dsimp only at hSw); have hcc := HC0.out W (hbw.trans (hSw.mono hbw.size)); go_simp; try with_reducible rfl)
          try simp only [Act.put, List.setIfInBounds_toArray, List.set_cons_zero, List.set_cons_succ]
          refine wpAnyH_take (i := 3) (oi := ⟨_, _, _, _, _, _⟩) (v := ?_) rfl (by kernel_rfl) (by kernel_rfl) (by kernel_rfl) (fun _ _ _ h => h) (Or.inl ⟨by rfl, ?_⟩) hHeld ?_
          rotate_left 1
          · (intro W hSw; (try dsimp only at hSw); go_simp; try with_reducible rfl)
          try simp only [Act.put, List.setIfInBounds_toArray, List.set_cons_zero, List.set_cons_succ]
          refine wpAnyH_take (i := 4) (oi := ⟨_, _, _, _, _, _⟩) (v := ?_) rfl (by kernel_rfl) (by kernel_rfl) (by kernel_rfl) (fun _ _ _ h => h) (Or.inl ⟨by rfl, ?_⟩) hHeld ?_
          rotate_left 1
          · (intro W hSw; (try dsimp only at hSw); go_simp; try with_reducible rfl)
          try simp only [Act.put, List.setIfInBounds_toArray, List.set_cons_zero, List.set_cons_succ]
          refine wpAnyH_take (i := 5) (oi := ⟨_, _, _, _, _, _⟩) (v := ?_) rfl (by kernel_rfl) (by kernel_rfl) (by kernel_rfl) (fun _ _ _ h => h) (Or.inl ⟨by rfl, ?_⟩) hHeld ?_
          rotate_left 1
          · (intro W hSw; (try dsimp only at hSw); go_simp; try with_reducible rfl)
          try simp only [Act.put, List.setIfInBounds_toArray, List.set_cons_zero, List.set_cons_succ]
          replace hHeld : Below w1.heap.size w1 w1.drew := hHeld
          generalize w1.drew = wd at *
          have hz := hHeld.size
          refine wpAnyH_ready (rs := [6]) (by kernel_rfl) (by simp) ?_
          refine AllReadyH.cons (o := ⟨_, _, _, _, _, _⟩) rfl (fun K hK => ?_) AllReadyH.nil
          go_simp
          refine hK.out _ _ (hHeld.alloc hz _) (fun hHeld => ?_)
          clear hK K
          try simp only [Act.put, List.setIfInBounds_toArray, List.set_cons_zero, List.set_cons_succ]
          refine wpAnyH_ready (rs := [7]) (by kernel_rfl) (by simp) ?_
          refine AllReadyH.cons (o := ⟨_, _, _, _, _, _⟩) rfl (fun K hK => ?_) AllReadyH.nil
          refine step_store_blk rfl 56 (.tmp 4) (.tmp 16) rfl rfl wd.heap.size [.int .u8 (x0.toNat : Int), .int .i64 0, .slice (some ⟨gb, ob, none⟩) 0 0] rfl rfl _ _ (Blk.new_of wd _ #[.int .u8 0, .int .i64 0, .slice none 0 0] _ rfl) (by kernel_rfl) rfl (by simp [Value.oneCell']) ?_
          intro w3 hP3 hg3
          refine hK.out _ _ (below_new hHeld hg3 hz (by have := hHeld.size; exact this)) (fun hHeld3 => ?_)
          clear hK K
          replace hHeld3 : Below w1.heap.size w1 w3 := hHeld3
          refine wpAnyH_done (by kernel_rfl) ?_ _
          refine NoPanic.normal ?_
          have hR3 := hR.below hHeld3 hR.lt
          have hb3 := hbw.trans (hHeld3.mono hbw.size)
          have hg3z : w.heap.size < wd.heap.size := by have := HZ1.out; omega
          clear hg3 hHeld hHeld3 hz hbw hR
          generalize wd.heap.size = g3 at *
          replace hP3 : Blk w3 g3 56 [.int .u8 (x0.toNat : Int), .int .i64 0, .slice (some ⟨gb, ob, none⟩) 0 0] := hP3
          have d0 : w3.cell? ⟨g3, 0, none⟩ = some (.int .u8 (x0.toNat : Int)) := hP3.cell 0
          have d1 : w3.cell? ⟨g3, 1, none⟩ = some (.int .i64 0) := hP3.cell 1
          have d2 : w3.cell? ⟨g3, 2, none⟩ = some (.slice (some ⟨gb, ob, none⟩) 0 0) := hP3.cell 2
          have zz1 : w3.frozen? ⟨g3, 1, none⟩ = false := hP3.frozen 1
          have HA := Lib.hid (hasL_e g3 x0 w3 d0 true hl)
          go_upto_region 8 with (go_at_call 24; refine HA.out.mono ?_; rintro e w6 ⟨rfl, hww⟩; have hw2 := hww.symm; subst hw2)
          go_wp2_with ((with_reducible refine (?_ : wpList _ _ _ (Oper.mk none _ _ _ _ _ :: _) _ _)); go_loud (refine wpList_store_blk rfl 56 (.tmp 2) (.tmp 28) rfl rfl w.heap.size [.int .u8 0, .int .i64 0, .slice none 0 0] rfl rfl _ _ hR3 (by kernel_rfl) rfl (by simp [Value.oneCell']) ?_); intro w9 hQ9 hg9)
          have f0 : w9.cell? ⟨w.heap.size, 0, none⟩ = some (.int .u8 0) := hQ9.cell 0
          have f1 : w9.cell? ⟨w.heap.size, 1, none⟩ = some (.int .i64 0) := hQ9.cell 1
          have f2 : w9.cell? ⟨w.heap.size, 2, none⟩ = some (.slice none 0 0) := hQ9.cell 2
          have hb9 : Below w.heap.size w w9 := below_new hb3 hg9 (Nat.le_refl _) hb3.size
          refine bodyPost_ret (v := .tuple #[.agg #[.int .u8 0, .int .i64 0, .slice none 0 0], .int .i64 3]) (by simp [results, Try.results22, go_sem, f0, f1, f2]) rfl ⟨_, _, _, by rw [HZ.out] <;> rfl, ?_, ?_, hb9⟩
          · rw [HZ.out] <;> rfl
          · rw [HZ.out]; exact in_nil _ 0 (by decide) _
        · have hc0 : 0 < c := by omega
          have hd4 : ((n - 1 : Nat) : Int) < 4 := by omega
          clear h4
          go_enter Try.func22, Try.ntmps22
          go_upto_region 1 with (fail)
          generalize w.alloc (.cells #[.int .u8 0, .int .i64 0, .slice none 0 0] 56) = w1 at *
          go_wp2
          refine wp_region_noPanic ?_
          refine wp_region_held_drew (S := fun W => Below w1.heap.size w1 W) (by kernel_rfl) (by exact below_drewN (Below.refl _ _) 1) (fun hHeld => ?_)
          refine wpAnyH_take (i := 0) (oi := ⟨_, _, _, _, _, _⟩) (v := ?_) rfl (by kernel_rfl) (by kernel_rfl) (by kernel_rfl) (fun _ _ _ h => h) (Or.inl ⟨by rfl, ?_⟩) hHeld ?_
          rotate_left 1
          · (intro W hSw; (try dsimp only at hSw); go_simp; try with_reducible rfl)
          try simp only [Act.put, List.setIfInBounds_toArray, List.set_cons_zero, List.set_cons_succ]
          refine wpAnyH_take (i := 1) (oi := ⟨_, _, _, _, _, _⟩) (v := ?_) rfl (by kernel_rfl) (by kernel_rfl) (by kernel_rfl) (fun _ _ _ h => h) (Or.inl ⟨by rfl, ?_⟩) hHeld ?_
          rotate_left 1
          · (intro W hSw; (try dsimp only at hSw); go_simp; try with_reducible rfl)
          try simp only [Act.put, List.setIfInBounds_toArray, List.set_cons_zero, List.set_cons_succ]
          refine wpAnyH_take (i := 2) (oi := ⟨_, _, _, _, _, _⟩) (v := ?_) rfl (by kernel_rfl) (by kernel_rfl) (by kernel_rfl) (fun _ _ _ h => h) (Or.inl ⟨by rfl, ?_⟩) hHeld ?_
          rotate_left 1
          · (intro W hSw; (try dsimp only at hSw); have hcc := HC0.out W (hbw.trans (hSw.mono hbw.size)); go_simp; try with_reducible rfl)
          try simp only [Act.put, List.setIfInBounds_toArray, List.set_cons_zero, List.set_cons_succ]
          refine wpAnyH_take (i := 3) (oi := ⟨_, _, _, _, _, _⟩) (v := ?_) rfl (by kernel_rfl) (by kernel_rfl) (by kernel_rfl) (fun _ _ _ h => h) (Or.inl ⟨by rfl, ?_⟩) hHeld ?_
          rotate_left 1
          · (intro W hSw; (try dsimp only at hSw); go_simp; try with_reducible rfl)
          try simp only [Act.put, List.setIfInBounds_toArray, List.set_cons_zero, List.set_cons_succ]
          refine wpAnyH_take (i := 4) (oi := ⟨_, _, _, _, _, _⟩) (v := ?_) rfl (by kernel_rfl) (by kernel_rfl) (by kernel_rfl) (fun _ _ _ h => h) (Or.inl ⟨by rfl, ?_⟩) hHeld ?_
          rotate_left 1
          · (intro W hSw; (try dsimp only at hSw); go_simp; try with_reducible rfl)
          try simp only [Act.put, List.setIfInBounds_toArray, List.set_cons_zero, List.set_cons_succ]
          refine wpAnyH_take (i := 5) (oi := ⟨_, _, _, _, _, _⟩) (v := ?_) rfl (by kernel_rfl) (by kernel_rfl) (by kernel_rfl) (fun _ _ _ h => h) (Or.inl ⟨by rfl, ?_⟩) hHeld ?_
          rotate_left 1
          · (intro W hSw; (try dsimp only at hSw); go_simp; try with_reducible rfl)
          try simp only [Act.put, List.setIfInBounds_toArray, List.set_cons_zero, List.set_cons_succ]
          replace hHeld : Below w1.heap.size w1 w1.drew := hHeld
          generalize w1.drew = wd at *
          have hz := hHeld.size
          refine wpAnyH_ready (rs := [6]) (by kernel_rfl) (by simp) ?_
          refine AllReadyH.cons (o := ⟨_, _, _, _, _, _⟩) rfl (fun K hK => ?_) AllReadyH.nil
          go_simp
          refine hK.out _ _ (hHeld.alloc hz _) (fun hHeld => ?_)
          clear hK K
          try simp only [Act.put, List.setIfInBounds_toArray, List.set_cons_zero, List.set_cons_succ]
          refine wpAnyH_ready (rs := [7]) (by kernel_rfl) (by simp) ?_
          refine AllReadyH.cons (o := ⟨_, _, _, _, _, _⟩) rfl (fun K hK => ?_) AllReadyH.nil
          refine step_store_blk rfl 56 (.tmp 4) (.tmp 16) rfl rfl wd.heap.size [.int .u8 (x0.toNat : Int), .int .i64 0, .slice (some ⟨gb, ob + 1, none⟩) (n - 1) (c - 1)] rfl rfl _ _ (Blk.new_of wd _ #[.int .u8 0, .int .i64 0, .slice none 0 0] _ rfl) (by kernel_rfl) rfl (by simp [Value.oneCell']) ?_
          intro w3 hP3 hg3
          refine hK.out _ _ (below_new hHeld hg3 hz (by have := hHeld.size; exact this)) (fun hHeld3 => ?_)
          clear hK K
          replace hHeld3 : Below w1.heap.size w1 w3 := hHeld3
          refine wpAnyH_done (by kernel_rfl) ?_ _
          refine NoPanic.normal ?_
          have hR3 := hR.below hHeld3 hR.lt
          have hb3 := hbw.trans (hHeld3.mono hbw.size)
          have hg3z : w.heap.size < wd.heap.size := by have := HZ1.out; omega
          clear hg3 hHeld hHeld3 hz hbw hR
          generalize wd.heap.size = g3 at *
          replace hP3 : Blk w3 g3 56 [.int .u8 (x0.toNat : Int), .int .i64 0, .slice (some ⟨gb, ob + 1, none⟩) (n - 1) (c - 1)] := hP3
          have d0 : w3.cell? ⟨g3, 0, none⟩ = some (.int .u8 (x0.toNat : Int)) := hP3.cell 0
          have d1 : w3.cell? ⟨g3, 1, none⟩ = some (.int .i64 0) := hP3.cell 1
          have d2 : w3.cell? ⟨g3, 2, none⟩ = some (.slice (some ⟨gb, ob + 1, none⟩) (n - 1) (c - 1)) := hP3.cell 2
          have zz1 : w3.frozen? ⟨g3, 1, none⟩ = false := hP3.frozen 1
          have HA := Lib.hid (hasL_e g3 x0 w3 d0 true hl)
          go_upto_region 8 with (go_at_call 24; refine HA.out.mono ?_; rintro e w6 ⟨rfl, hww⟩; have hw2 := hww.symm; subst hw2)
          go_wp2_with ((with_reducible refine (?_ : wpList _ _ _ (Oper.mk none _ _ _ _ _ :: _) _ _)); go_loud (refine wpList_store_blk rfl 56 (.tmp 2) (.tmp 28) rfl rfl w.heap.size [.int .u8 0, .int .i64 0, .slice none 0 0] rfl rfl _ _ hR3 (by kernel_rfl) rfl (by simp [Value.oneCell']) ?_); intro w9 hQ9 hg9)
          have f0 : w9.cell? ⟨w.heap.size, 0, none⟩ = some (.int .u8 0) := hQ9.cell 0
          have f1 : w9.cell? ⟨w.heap.size, 1, none⟩ = some (.int .i64 0) := hQ9.cell 1
          have f2 : w9.cell? ⟨w.heap.size, 2, none⟩ = some (.slice none 0 0) := hQ9.cell 2
          have hb9 : Below w.heap.size w w9 := below_new hb3 hg9 (Nat.le_refl _) hb3.size
          refine bodyPost_ret (v := .tuple #[.agg #[.int .u8 0, .int .i64 0, .slice none 0 0], .int .i64 3]) (by simp [results, Try.results22, go_sem, f0, f1, f2]) rfl ⟨_, _, _, by rw [HZ.out] <;> rfl, ?_, ?_, hb9⟩
          · rw [HZ.out] <;> rfl
          · rw [HZ.out]; exact in_nil _ 0 (by decide) _
      · have HZ := Lib.hid (show partsE b = (x0, cntTo (b.drop 1) 4, b.drop 5, 0) by rw [HPE.out, if_neg (by rw [hl]; decide), if_neg h4])
        have hc1 : ¬ c = 1 := by omega
        have hc0 : 0 < c := by omega
        have hd4 : ¬ ((n - 1 : Nat) : Int) < 4 := by omega
        have HB1 := Lib.hid (show ∀ k, k < 4 → ob + 1 + k = ob + (1 + k) ∧ 1 + k < b.length ∧ (b.drop 1).getD k 0 = b.getD (1 + k) 0 from fun k hk => ⟨by omega, by have := HN.out; omega, by rw [List.getD_eq_getElem?_getD, List.getElem?_drop, ← List.getD_eq_getElem?_getD]⟩)
        have hc41 : (4 : Int) ≤ ((c - 1 : Nat) : Int) := by omega
        have hn41 : (4 : Int) ≤ ((n - 1 : Nat) : Int) := by omega
        have hnc1 : ((n - 1 : Nat) : Int) ≤ ((c - 1 : Nat) : Int) := by omega
        have hn15 : n - 1 - 4 = n - 5 := by omega
        have hc15 : c - 1 - 4 = c - 5 := by omega
        clear h4
        go_enter Try.func22, Try.ntmps22
        go_upto_region 1 with (fail)
        generalize w.alloc (.cells #[.int .u8 0, .int .i64 0, .slice none 0 0] 56) = w1 at *
        go_wp2
        refine wp_region_noPanic ?_
        refine wp_region_held_drew (S := fun W => Below w1.heap.size w1 W) (by kernel_rfl) (by exact below_drewN (Below.refl _ _) 1) (fun hHeld => ?_)
        refine wpAnyH_take (i := 0) (oi := ⟨_, _, _, _, _, _⟩) (v := ?_) rfl (by kernel_rfl) (by kernel_rfl) (by kernel_rfl) (fun _ _ _ h => h) (Or.inl ⟨by rfl, ?_⟩) hHeld ?_
        rotate_left 1
        · (intro W hSw; (try dsimp only at hSw); go_simp; try with_reducible rfl)
        try simp only [Act.put, List.setIfInBounds_toArray, List.set_cons_zero, List.set_cons_succ]
        refine wpAnyH_take (i := 1) (oi := ⟨_, _, _, _, _, _⟩) (v := ?_) rfl (by kernel_rfl) (by kernel_rfl) (by kernel_rfl) (fun _ _ _ h => h) (Or.inl ⟨by rfl, ?_⟩) hHeld ?_
        rotate_left 1
        · (intro W hSw; (try dsimp only at hSw); go_simp; try with_reducible rfl)
        try simp only [Act.put, List.setIfInBounds_toArray, List.set_cons_zero, List.set_cons_succ]
        refine wpAnyH_take (i := 2) (oi := ⟨_, _, _, _, _, _⟩) (v := ?_) rfl (by kernel_rfl) (by kernel_rfl) (by kernel_rfl) (fun _ _ _ h => h) (Or.inl ⟨by rfl, ?_⟩) hHeld ?_
        rotate_left 1
        · (intro W hSw; (try dsimp only at hSw); have hcc := HC0.out W (hbw.trans (hSw.mono hbw.size)); go_simp; try with_reducible rfl)
        try simp only [Act.put, List.setIfInBounds_toArray, List.set_cons_zero, List.set_cons_succ]
        refine wpAnyH_take (i := 3) (oi := ⟨_, _, _, _, _, _⟩) (v := ?_) rfl (by kernel_rfl) (by kernel_rfl) (by kernel_rfl) (fun _ _ _ h => h) (Or.inl ⟨by rfl, ?_⟩) hHeld ?_
        rotate_left 1
        · (intro W hSw; (try dsimp only at hSw); go_simp; try with_reducible rfl)
        try simp only [Act.put, List.setIfInBounds_toArray, List.set_cons_zero, List.set_cons_succ]
        refine wpAnyH_take (i := 4) (oi := ⟨_, _, _, _, _, _⟩) (v := ?_) rfl (by kernel_rfl) (by kernel_rfl) (by kernel_rfl) (fun _ _ _ h => h) (Or.inl ⟨by rfl, ?_⟩) hHeld ?_
        rotate_left 1
        · (intro W hSw; (try dsimp only at hSw); go_simp; try with_reducible rfl)
        try simp only [Act.put, List.setIfInBounds_toArray, List.set_cons_zero, List.set_cons_succ]
        refine wpAnyH_take (i := 5) (oi := ⟨_, _, _, _, _, _⟩) (v := ?_) rfl (by kernel_rfl) (by kernel_rfl) (by kernel_rfl) (fun _ _ _ h => h) (Or.inl ⟨by rfl, ?_⟩) hHeld ?_
        rotate_left 1
        · (intro W hSw; (try dsimp only at hSw); go_simp; try with_reducible rfl)
        try simp only [Act.put, List.setIfInBounds_toArray, List.set_cons_zero, List.set_cons_succ]
        replace hHeld : Below w1.heap.size w1 w1.drew := hHeld
        generalize w1.drew = wd at *
        have hz := hHeld.size
        refine wpAnyH_ready (rs := [6]) (by kernel_rfl) (by simp) ?_
        refine AllReadyH.cons (o := ⟨_, _, _, _, _, _⟩) rfl (fun K hK => ?_) AllReadyH.nil
        go_simp
        refine hK.out _ _ (hHeld.alloc hz _) (fun hHeld => ?_)
        clear hK K
        try simp only [Act.put, List.setIfInBounds_toArray, List.set_cons_zero, List.set_cons_succ]
        refine wpAnyH_ready (rs := [7]) (by kernel_rfl) (by simp) ?_
        refine AllReadyH.cons (o := ⟨_, _, _, _, _, _⟩) rfl (fun K hK => ?_) AllReadyH.nil
        refine step_store_blk rfl 56 (.tmp 4) (.tmp 16) rfl rfl wd.heap.size [.int .u8 (x0.toNat : Int), .int .i64 0, .slice (some ⟨gb, ob + 1, none⟩) (n - 1) (c - 1)] rfl rfl _ _ (Blk.new_of wd _ #[.int .u8 0, .int .i64 0, .slice none 0 0] _ rfl) (by kernel_rfl) rfl (by simp [Value.oneCell']) ?_
        intro w3 hP3 hg3
        refine hK.out _ _ (below_new hHeld hg3 hz (by have := hHeld.size; exact this)) (fun hHeld3 => ?_)
        clear hK K
        replace hHeld3 : Below w1.heap.size w1 w3 := hHeld3
        refine wpAnyH_done (by kernel_rfl) ?_ _
        refine NoPanic.normal ?_
        have hR3 := hR.below hHeld3 hR.lt
        have hb3 := hbw.trans (hHeld3.mono hbw.size)
        have hg3z : w.heap.size < wd.heap.size := by have := HZ1.out; omega
        clear hg3 hHeld hHeld3 hz hbw hR
        generalize wd.heap.size = g3 at *
        replace hP3 : Blk w3 g3 56 [.int .u8 (x0.toNat : Int), .int .i64 0, .slice (some ⟨gb, ob + 1, none⟩) (n - 1) (c - 1)] := hP3
        have d0 : w3.cell? ⟨g3, 0, none⟩ = some (.int .u8 (x0.toNat : Int)) := hP3.cell 0
        have d1 : w3.cell? ⟨g3, 1, none⟩ = some (.int .i64 0) := hP3.cell 1
        have d2 : w3.cell? ⟨g3, 2, none⟩ = some (.slice (some ⟨gb, ob + 1, none⟩) (n - 1) (c - 1)) := hP3.cell 2
        have zz1 : w3.frozen? ⟨g3, 1, none⟩ = false := hP3.frozen 1
        have HA := Lib.hid (hasL_e g3 x0 w3 d0 true hl)
        go_upto_region 9 with (go_at_call 24; refine HA.out.mono ?_; rintro e w6 ⟨rfl, hww⟩; have hw2 := hww.symm; subst hw2)
        have HP3 := Lib.hid hP3
        have HR3 := Lib.hid hR3
        have HB3 := Lib.hid hb3
        have HG3 := Lib.hid hg3z
        clear d0 d1 zz1 hP3 hR3 hb3 hg3z hd4
        go_wp2
        clear d2
        go_loopw [6, 33] (fun d i wr => ∃ k : Nat, k ≤ 4 ∧ i = .int .i64 (k : Int) ∧ Blk wr g3 56 [.int .u8 (x0.toNat : Int), .int .i64 (cntTo (b.drop 1) k : Int), .slice (some ⟨gb, ob + 1, none⟩) (n - 1) (c - 1)] ∧ w3.grownBy wr (some g3)) (fun d i _ => 4 - (intOf i).toNat)
        case atStart => exact ⟨0, by omega, rfl, HP3.out, grown_refl _ _⟩
        case round =>
          obtain ⟨k, hk, rfl, hP, hgw⟩ := hrel
          by_cases hlt : k < 4
          · obtain ⟨e1, e2, e3⟩ := HB1.out k hlt
            have hbw := below_new HB3.out hgw (Nat.le_of_lt HG3.out) HB3.out.size
            have hcc : wr.cell? ⟨gb, ob + 1 + k, none⟩ = some (.int .u8 (((b.drop 1).getD k 0).toNat : Int)) := by rw [e1, e3]; exact in_cell HIB.out e2 wr hbw
            have d1 : wr.cell? ⟨g3, 1, none⟩ = some (.int .i64 (cntTo (b.drop 1) k : Int)) := hP.cell 1
            have zz1 : wr.frozen? ⟨g3, 1, none⟩ = false := hP.frozen 1
            have hcs : cntTo (b.drop 1) (k + 1) = cntTo (b.drop 1) k * 256 + ((b.drop 1).getD k 0).toNat := rfl
            have hsm := cntTo_small (b.drop 1) k (by omega)
            obtain ⟨y, hy⟩ : ∃ y, y = (b.drop 1).getD k 0 := ⟨_, rfl⟩
            rw [← hy] at hcc hcs
            have hor := or_num _ hsm y
            rw [← hcs] at hor
            have hw2 := ix_num _ hsm
            obtain ⟨k1, k2⟩ := ix_byte y
            have HCS := Lib.hid hcs
            have hk0 : (0 : Int) ≤ (k : Int) := by omega
            have hd : (k : Int) < 4 := by omega
            have hP1 := hP.set_ 1 (.int .i64 (cntTo (b.drop 1) (k + 1) : Int))
            have HP1 := Lib.hid hP1
            clear hcs hy e1 e2 e3 hP1 hbw hsm
            generalize hc2e : cntTo (b.drop 1) (k + 1) = c2 at *
            have HC2E := Lib.hid hc2e
            clear hc2e
            generalize cntTo (b.drop 1) k = c3 at *
            go_wp2
            go_roundw
            case rel => exact ⟨k + 1, by omega, by go_num, by rw [HC2E.out]; exact HP1.out, grown_setCell (g := g3) (p := ⟨g3, 1, none⟩) hgw (.inl rfl) _⟩
            case measure => simp [intOf]; omega
          · obtain rfl : k = 4 := by omega
            have hR5 := HR3.out.grown hgw (by simp; have := HG3.out; omega)
            have hb5 := below_new HB3.out hgw (Nat.le_of_lt HG3.out) HB3.out.size
            have hg3z := HG3.out
            generalize cntTo (b.drop 1) 4 = cq at *
            have d0 : wr.cell? ⟨g3, 0, none⟩ = some (.int .u8 (x0.toNat : Int)) := hP.cell 0
            have d1 : wr.cell? ⟨g3, 1, none⟩ = some (.int .i64 (cq : Int)) := hP.cell 1
            have d2 : wr.cell? ⟨g3, 2, none⟩ = some (.slice (some ⟨gb, ob + 1, none⟩) (n - 1) (c - 1)) := hP.cell 2
            have zz2 : wr.frozen? ⟨g3, 2, none⟩ = false := hP.frozen 2
            by_cases hc4 : c - 1 = 4
            · have hn50 : n - 5 = 0 := by omega
              have hc50 : c - 5 = 0 := by omega
              go_upto_region 15 with (fail)
              have hR6 : Blk (wr.setCell ⟨g3, 2, none⟩ (.slice (some ⟨gb, ob + 1, none⟩) 0 0)) w.heap.size 56 _ := hR5.far (by show w.heap.size ≠ g3; omega) _
              have hP6 := hP.set_ 2 (.slice (some ⟨gb, ob + 1, none⟩) 0 0)
              have hb6 : Below w.heap.size w (wr.setCell ⟨g3, 2, none⟩ (.slice (some ⟨gb, ob + 1, none⟩) 0 0)) := hb5.setCell (by show w.heap.size ≤ g3; omega) _
              clear d0 d1 d2 zz2 hP hR5 hb5
              generalize wr.setCell ⟨g3, 2, none⟩ (.slice (some ⟨gb, ob + 1, none⟩) 0 0) = w6 at *
              have d0 : w6.cell? ⟨g3, 0, none⟩ = some (.int .u8 (x0.toNat : Int)) := hP6.cell 0
              have d1 : w6.cell? ⟨g3, 1, none⟩ = some (.int .i64 (cq : Int)) := hP6.cell 1
              have d2 : w6.cell? ⟨g3, 2, none⟩ = some (.slice (some ⟨gb, ob + 1, none⟩) 0 0) := hP6.cell 2
              go_wp2_with ((with_reducible refine (?_ : wpList _ _ _ (Oper.mk none _ _ _ _ _ :: _) _ _)); go_loud (refine wpList_store_blk rfl 56 (.tmp 2) (.tmp 49) rfl rfl w.heap.size [.int .u8 (x0.toNat : Int), .int .i64 (cq : Int), .slice (some ⟨gb, ob + 1, none⟩) 0 0] rfl rfl _ _ hR6 (by kernel_rfl) rfl (by simp [Value.oneCell']) ?_); intro w9 hQ9 hg9)
              have f0 : w9.cell? ⟨w.heap.size, 0, none⟩ = some (.int .u8 (x0.toNat : Int)) := hQ9.cell 0
              have f1 : w9.cell? ⟨w.heap.size, 1, none⟩ = some (.int .i64 (cq : Int)) := hQ9.cell 1
              have f2 : w9.cell? ⟨w.heap.size, 2, none⟩ = some (.slice (some ⟨gb, ob + 1, none⟩) 0 0) := hQ9.cell 2
              have hb9 : Below w.heap.size w w9 := below_new hb6 hg9 (Nat.le_refl _) hb6.size
              refine bodyPost_ret (v := .tuple #[.agg #[.int .u8 (x0.toNat : Int), .int .i64 (cq : Int), .slice (some ⟨gb, ob + 1, none⟩) 0 0], .int .i64 0]) (by simp [results, Try.results22, go_sem, f0, f1, f2]) rfl ⟨_, _, _, by rw [HZ.out] <;> rfl, ?_, ?_, hb9⟩
              · rw [HZ.out, List.length_drop, HN.out, hn50]
              · rw [HZ.out, List.drop_of_length_le (by have := HN.out; omega)]; exact in_nil _ 0 (by decide) _
            · have hc51 : ¬ c = 5 := by omega
              go_upto_region 15 with (fail)
              have hR6 : Blk (wr.setCell ⟨g3, 2, none⟩ (.slice (some ⟨gb, ob + 1 + 4, none⟩) (n - 5) (c - 5))) w.heap.size 56 _ := hR5.far (by show w.heap.size ≠ g3; omega) _
              have hP6 := hP.set_ 2 (.slice (some ⟨gb, ob + 1 + 4, none⟩) (n - 5) (c - 5))
              have hb6 : Below w.heap.size w (wr.setCell ⟨g3, 2, none⟩ (.slice (some ⟨gb, ob + 1 + 4, none⟩) (n - 5) (c - 5))) := hb5.setCell (by show w.heap.size ≤ g3; omega) _
              clear d0 d1 d2 zz2 hP hR5 hb5
              generalize wr.setCell ⟨g3, 2, none⟩ (.slice (some ⟨gb, ob + 1 + 4, none⟩) (n - 5) (c - 5)) = w6 at *
              have d0 : w6.cell? ⟨g3, 0, none⟩ = some (.int .u8 (x0.toNat : Int)) := hP6.cell 0
              have d1 : w6.cell? ⟨g3, 1, none⟩ = some (.int .i64 (cq : Int)) := hP6.cell 1
              have d2 : w6.cell? ⟨g3, 2, none⟩ = some (.slice (some ⟨gb, ob + 1 + 4, none⟩) (n - 5) (c - 5)) := hP6.cell 2
              go_wp2_with ((with_reducible refine (?_ : wpList _ _ _ (Oper.mk none _ _ _ _ _ :: _) _ _)); go_loud (refine wpList_store_blk rfl 56 (.tmp 2) (.tmp 49) rfl rfl w.heap.size [.int .u8 (x0.toNat : Int), .int .i64 (cq : Int), .slice (some ⟨gb, ob + 1 + 4, none⟩) (n - 5) (c - 5)] rfl rfl _ _ hR6 (by kernel_rfl) rfl (by simp [Value.oneCell']) ?_); intro w9 hQ9 hg9)
              have f0 : w9.cell? ⟨w.heap.size, 0, none⟩ = some (.int .u8 (x0.toNat : Int)) := hQ9.cell 0
              have f1 : w9.cell? ⟨w.heap.size, 1, none⟩ = some (.int .i64 (cq : Int)) := hQ9.cell 1
              have f2 : w9.cell? ⟨w.heap.size, 2, none⟩ = some (.slice (some ⟨gb, ob + 1 + 4, none⟩) (n - 5) (c - 5)) := hQ9.cell 2
              have hb9 : Below w.heap.size w w9 := below_new hb6 hg9 (Nat.le_refl _) hb6.size
              refine bodyPost_ret (v := .tuple #[.agg #[.int .u8 (x0.toNat : Int), .int .i64 (cq : Int), .slice (some ⟨gb, ob + 1 + 4, none⟩) (n - 5) (c - 5)], .int .i64 0]) (by simp [results, Try.results22, go_sem, f0, f1, f2]) rfl ⟨_, _, _, by rw [HZ.out] <;> rfl, ?_, ?_, hb9⟩
              · rw [HZ.out, List.length_drop, HN.out]
              · rw [HZ.out]; have hd := HD5.out (by have := HN.out; omega); rw [if_neg hc51] at hd; exact in_up hd hb9

end Go.Proofs.Ytjachohgffnbiaa
