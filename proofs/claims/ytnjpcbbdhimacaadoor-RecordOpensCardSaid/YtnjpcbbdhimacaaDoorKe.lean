/-
  Joined: Gm, Gw, Ge, Gf, Gb, Gp, Gq, Gs.
-/
import Derived.Test.YtnjpcbbdhimacaaDoorKa
import Derived.Test.YtnjpcbbdhimacaaDoorKd
import Derived.Deep.DeepCutAuto
namespace Go.Proofs.YtnjpcbbdhimacaaDoor
section
/-- Times x. -/
def gX (v : BitVec 128) : BitVec 128 := (v >>> 1) ^^^ (if v.getLsbD 0 then 0xe1000000000000000000000000000000#128 else 0#128)
def gXn (v : BitVec 128) : Nat → BitVec 128
  | 0 => v
  | k + 1 => gX (gXn v k)
/-- The sum of the first k of a's powers, times b. -/
def gTo (a b : BitVec 128) : Nat → BitVec 128
  | 0 => 0#128
  | k + 1 => gTo a b k ^^^ (if a.getMsbD k then gXn b k else 0#128)
def gmul (a b : BitVec 128) : BitVec 128 := gTo a b 128
theorem x_swap (a b c d : BitVec 128) : (a ^^^ b) ^^^ (c ^^^ d) = (a ^^^ c) ^^^ (b ^^^ d) := by
  rw [BitVec.xor_assoc, ← BitVec.xor_assoc b c d, BitVec.xor_comm b c, BitVec.xor_assoc c b d, ← BitVec.xor_assoc]
theorem gX_xor (u v : BitVec 128) : gX (u ^^^ v) = gX u ^^^ gX v := by
  unfold gX
  have h : (u ^^^ v) >>> 1 = (u >>> 1) ^^^ (v >>> 1) := by
    apply BitVec.eq_of_getLsbD_eq; intro i hi; simp
  rw [h, x_swap]
  congr 1
  rw [BitVec.getLsbD_xor]
  cases u.getLsbD 0 <;> cases v.getLsbD 0 <;> simp
theorem gX_zero : gX 0#128 = 0#128 := by decide
theorem gXn_xor (u v : BitVec 128) (k : Nat) : gXn (u ^^^ v) k = gXn u k ^^^ gXn v k := by
  induction k with
  | zero => rfl
  | succ k ih => rw [gXn, ih, gX_xor]; rfl
theorem gXn_zero (k : Nat) : gXn 0#128 k = 0#128 := by
  induction k with
  | zero => rfl
  | succ k ih => rw [gXn, ih, gX_zero]
theorem gXn_comm (v : BitVec 128) (k : Nat) : gXn (gX v) k = gX (gXn v k) := by
  induction k with
  | zero => rfl
  | succ k ih => rw [gXn, ih]; rfl
theorem gTo_xor (a u v : BitVec 128) (k : Nat) : gTo a (u ^^^ v) k = gTo a u k ^^^ gTo a v k := by
  induction k with
  | zero => simp [gTo]
  | succ k ih =>
    rw [gTo, gTo, gTo, ih, gXn_xor, x_swap]
    congr 1
    split <;> simp
theorem gTo_zero (a : BitVec 128) (k : Nat) : gTo a 0#128 k = 0#128 := by
  induction k with
  | zero => rfl
  | succ k ih => rw [gTo, ih, gXn_zero]; simp
theorem gTo_X (a v : BitVec 128) (k : Nat) : gTo a (gX v) k = gX (gTo a v k) := by
  induction k with
  | zero => rw [gTo, gTo, gX_zero]
  | succ k ih =>
    rw [gTo, gTo, ih, gXn_comm, gX_xor]
    split
    · rfl
    · rw [gX_zero]
theorem gmul_X (a v : BitVec 128) : gmul a (gX v) = gX (gmul a v) := gTo_X a v 128
theorem gmul_Xn (a v : BitVec 128) (k : Nat) : gmul a (gXn v k) = gXn (gmul a v) k := by
  induction k with
  | zero => rfl
  | succ k ih => rw [gXn, gmul_X, ih]; rfl
theorem gmul_xor (a u v : BitVec 128) : gmul a (u ^^^ v) = gmul a u ^^^ gmul a v := gTo_xor a u v 128
theorem gmul_zero (a : BitVec 128) : gmul a 0#128 = 0#128 := gTo_zero a 128
theorem gmul_to (c a b : BitVec 128) (k : Nat) : gmul c (gTo a b k) = gTo a (gmul c b) k := by
  induction k with
  | zero => rw [gTo, gmul_zero]; rfl
  | succ k ih =>
    rw [gTo, gmul_xor, ih, gTo]
    by_cases h : a.getMsbD k
    · rw [if_pos h, if_pos h, gmul_Xn]
    · rw [if_neg h, if_neg h, gmul_zero]
theorem gmul_turn (a b c : BitVec 128) : gmul c (gmul a b) = gmul a (gmul c b) := gmul_to c a b 128
/-- One. -/
def gOne : BitVec 128 := 0x80000000000000000000000000000000#128
set_option maxRecDepth 100000 in
theorem gOne_pow (k : Nat) (hk : k < 128) : gXn gOne k = gOne >>> k := by
  induction k with
  | zero => rfl
  | succ k ih =>
    rw [gXn, ih (by omega)]
    have h : ∀ i : Fin 127, gX (gOne >>> i.val) = gOne >>> (i.val + 1) := by decide +kernel
    exact h ⟨k, by omega⟩
set_option maxRecDepth 100000 in
theorem gOne_bit (k j : Nat) (hk : k < 128) (hj : j < 128) : (gOne >>> k).getMsbD j = decide (j = k) := by
  have h : ∀ k : Fin 128, ∀ j : Fin 128, (gOne >>> k.val).getMsbD j.val = decide (j.val = k.val) := by decide +kernel
  exact h ⟨k, hk⟩ ⟨j, hj⟩
theorem gTo_one (a : BitVec 128) (k : Nat) (hk : k ≤ 128) (j : Nat) (hj : j < 128) : (gTo a gOne k).getMsbD j = (decide (j < k) && a.getMsbD j) := by
  induction k with
  | zero => simp [gTo]
  | succ k ih =>
    rw [gTo, BitVec.getMsbD_xor, ih (by omega), gOne_pow k (by omega)]
    by_cases h : a.getMsbD k
    · rw [if_pos h, gOne_bit k j (by omega) hj]
      by_cases hjk : j = k
      · subst hjk; simp [h]
      · have e : decide (j < k + 1) = decide (j < k) := by simp; omega
        rw [e]; simp [hjk]
    · rw [if_neg h]
      by_cases hjk : j = k
      · subst hjk; simp at h; simp [h]
      · have e : decide (j < k + 1) = decide (j < k) := by simp; omega
        rw [e]; simp
theorem gmul_one (a : BitVec 128) : gmul a gOne = a := by
  apply BitVec.eq_of_getMsbD_eq
  intro j hj
  unfold gmul
  rw [gTo_one a 128 (Nat.le_refl _) j hj]
  simp [hj]
theorem gmul_comm (a b : BitVec 128) : gmul a b = gmul b a := by
  have h := gmul_turn b gOne a
  rw [gmul_one, gmul_one] at h
  exact h
theorem gmul_assoc (a b c : BitVec 128) : gmul (gmul a b) c = gmul a (gmul b c) := by
  rw [gmul_comm (gmul a b) c, gmul_turn a b c, gmul_comm c b]

end
section
def gOver : BitVec 64 := 0xe100000000000000#64
/-- Times x, of two words. -/
def xh (h l : BitVec 64) : BitVec 64 := (h >>> 1) ^^^ ((-(l &&& 1#64)) &&& gOver)
def xl (h l : BitVec 64) : BitVec 64 := (l >>> 1) ||| (h <<< 63)
def cat (h l : BitVec 64) : BitVec 128 := h ++ l
theorem cat_bit (h l : BitVec 64) (i : Nat) : (cat h l).getLsbD i = if i < 64 then l.getLsbD i else h.getLsbD (i - 64) := by
  unfold cat
  rw [BitVec.getLsbD_append]
theorem cat_xor (a b c d : BitVec 64) : cat a b ^^^ cat c d = cat (a ^^^ c) (b ^^^ d) := by
  apply BitVec.eq_of_getLsbD_eq
  intro i hi
  rw [BitVec.getLsbD_xor, cat_bit, cat_bit, cat_bit]
  split <;> simp
theorem neg_one_bit (v : BitVec 64) : -(v &&& 1#64) = if v.getLsbD 0 then BitVec.allOnes 64 else 0#64 := by
  have h : v &&& 1#64 = if v.getLsbD 0 then 1#64 else 0#64 := by
    apply BitVec.eq_of_getLsbD_eq
    intro i hi
    rw [BitVec.getLsbD_and]
    by_cases h0 : v.getLsbD 0
    · rw [if_pos h0]
      by_cases hi0 : i = 0
      · subst hi0; simp [h0]
      · simp [BitVec.getLsbD_one, hi0]
    · rw [if_neg h0]
      by_cases hi0 : i = 0
      · subst hi0; simp at h0; simp [h0]
      · simp [BitVec.getLsbD_one, hi0]
  rw [h]
  split <;> decide
theorem neg_top_bit (v : BitVec 64) : -(v >>> 63) = if v.getLsbD 63 then BitVec.allOnes 64 else 0#64 := by
  have h : v >>> 63 = if v.getLsbD 63 then 1#64 else 0#64 := by
    apply BitVec.eq_of_getLsbD_eq
    intro i hi
    rw [BitVec.getLsbD_ushiftRight]
    by_cases h0 : v.getLsbD 63
    · rw [if_pos h0]
      by_cases hi0 : i = 0
      · subst hi0; simp [h0]
      · simp [BitVec.getLsbD_one, hi0, BitVec.getLsbD_of_ge v (63 + i) (by omega)]
    · rw [if_neg h0]
      by_cases hi0 : i = 0
      · subst hi0; simp at h0; simp [h0]
      · simp [BitVec.getLsbD_of_ge v (63 + i) (by omega)]
  rw [h]
  split <;> decide
theorem cat_X (h l : BitVec 64) : gX (cat h l) = cat (xh h l) (xl h l) := by
  unfold gX
  have e : (if (cat h l).getLsbD 0 then 0xe1000000000000000000000000000000#128 else 0#128) = cat ((-(l &&& 1#64)) &&& gOver) 0#64 := by
    have e0 : (cat h l).getLsbD 0 = l.getLsbD 0 := by rw [cat_bit, if_pos (by decide)]
    rw [e0, neg_one_bit]
    split <;> decide
  have e2 : (cat h l) >>> 1 = cat (h >>> 1) (xl h l) := by
    apply BitVec.eq_of_getLsbD_eq
    intro i hi
    rw [BitVec.getLsbD_ushiftRight, cat_bit, cat_bit]
    unfold xl
    by_cases h1 : i < 63
    · rw [if_pos (by omega), if_pos (by omega)]
      simp [BitVec.getLsbD_or, BitVec.getLsbD_shiftLeft, h1]
    · by_cases h2 : i = 63
      · subst h2
        rw [if_neg (by omega), if_pos (by omega)]
        simp
      · rw [if_neg (by omega), if_neg (by omega), BitVec.getLsbD_ushiftRight]
        congr 1; omega
  rw [e, e2, cat_xor]
  unfold xh
  simp
/-- The words on their way: a's that are left, b's, the sum's. -/
structure G6 where
  a0 : BitVec 64
  a1 : BitVec 64
  b0 : BitVec 64
  b1 : BitVec 64
  s0 : BitVec 64
  s1 : BitVec 64
def gStep (g : G6) : G6 := ⟨(g.a0 <<< 1) ||| (g.a1 >>> 63), g.a1 <<< 1, xh g.b0 g.b1, xl g.b0 g.b1, g.s0 ^^^ (g.b0 &&& (-(g.a0 >>> 63))), g.s1 ^^^ (g.b1 &&& (-(g.a0 >>> 63)))⟩
def gN (a0 a1 b0 b1 : BitVec 64) : Nat → G6
  | 0 => ⟨a0, a1, b0, b1, 0#64, 0#64⟩
  | k + 1 => gStep (gN a0 a1 b0 b1 k)
theorem cat_shl (h l : BitVec 64) : (cat h l) <<< 1 = cat ((h <<< 1) ||| (l >>> 63)) (l <<< 1) := by
  apply BitVec.eq_of_getLsbD_eq
  intro i hi
  rw [BitVec.getLsbD_shiftLeft, cat_bit, cat_bit]
  by_cases h0 : i = 0
  · subst h0; simp
  · by_cases h1 : i < 64
    · rw [if_pos (by omega), if_pos h1, BitVec.getLsbD_shiftLeft]; simp [h0, h1, hi]
    · rw [if_neg h1, BitVec.getLsbD_or, BitVec.getLsbD_shiftLeft, BitVec.getLsbD_ushiftRight]
      by_cases h2 : i = 64
      · subst h2; simp
      · rw [if_neg (by omega)]
        have e1 : i - 1 - 64 = i - 64 - 1 := by omega
        have e3 : l.getLsbD (63 + (i - 64)) = false := BitVec.getLsbD_of_ge l _ (by omega)
        have e4 : decide (i - 64 < 64) = true := by simp; omega
        have e5 : decide (i - 64 < 1) = false := by simp; omega
        have e6 : decide (i < 1) = false := by simp; omega
        have e7 : decide (i < 128) = true := by simp; omega
        rw [e1, e3, e4, e5, e6, e7]; simp
theorem and_ones (v : BitVec 64) : v &&& BitVec.allOnes 64 = v := BitVec.and_allOnes
theorem and_none (v : BitVec 64) : v &&& 0#64 = 0#64 := by simp
theorem gN_spec (a0 a1 b0 b1 : BitVec 64) (k : Nat) (hk : k ≤ 128) :
    cat (gN a0 a1 b0 b1 k).a0 (gN a0 a1 b0 b1 k).a1 = (cat a0 a1) <<< k ∧ cat (gN a0 a1 b0 b1 k).b0 (gN a0 a1 b0 b1 k).b1 = gXn (cat b0 b1) k ∧ cat (gN a0 a1 b0 b1 k).s0 (gN a0 a1 b0 b1 k).s1 = gTo (cat a0 a1) (cat b0 b1) k := by
  induction k with
  | zero =>
    refine ⟨by simp [gN], rfl, ?_⟩
    show cat 0#64 0#64 = 0#128
    decide
  | succ k ih =>
    obtain ⟨h1, h2, h3⟩ := ih (by omega)
    refine ⟨?_, ?_, ?_⟩
    · rw [gN, gStep, ← cat_shl, h1, ← BitVec.shiftLeft_add]
    · rw [gN, gStep, ← cat_X, h2]; rfl
    · have hb : (gN a0 a1 b0 b1 k).a0.getLsbD 63 = (cat a0 a1).getMsbD k := by
        have := cat_bit (gN a0 a1 b0 b1 k).a0 (gN a0 a1 b0 b1 k).a1 127
        rw [if_neg (by omega), h1, BitVec.getLsbD_shiftLeft] at this
        rw [BitVec.getMsbD]
        have e1 : decide (127 < 128) = true := by decide
        have e2 : decide (127 < k) = false := by simp; omega
        have e3 : decide (k < 128) = true := by simp; omega
        rw [e1, e2] at this
        rw [e3]
        have e5 : 127 - 64 = 63 := rfl
        rw [e5] at this
        rw [← this]
        rfl
      have hp : cat ((gN a0 a1 b0 b1 k).b0 &&& (-((gN a0 a1 b0 b1 k).a0 >>> 63))) ((gN a0 a1 b0 b1 k).b1 &&& (-((gN a0 a1 b0 b1 k).a0 >>> 63))) = if (cat a0 a1).getMsbD k then gXn (cat b0 b1) k else 0#128 := by
        rw [neg_top_bit, hb]
        split
        · rw [← h2, and_ones, and_ones]
        · rw [and_none, and_none]; decide
      rw [gN, gStep, ← cat_xor, h3, gTo, hp]
/-- The product of two words and two. -/
theorem gN_mul (a0 a1 b0 b1 : BitVec 64) : cat (gN a0 a1 b0 b1 128).s0 (gN a0 a1 b0 b1 128).s1 = gmul (cat a0 a1) (cat b0 b1) := (gN_spec a0 a1 b0 b1 128 (Nat.le_refl _)).2.2

end
section
open Go.RowKit
theorem infoEl : (Tryd.prog.info? 102).map (·.size) = some 2 := by kernel_rfl
theorem q_neg (v : BitVec 64) : IntKind.u64.wrap (-(v.toNat : Int)) = ((-v).toNat : Int) := by
  rw [IntKind.wrap_u64, BitVec.toNat_neg]
  have := v.isLt
  omega
theorem q_over (a : BitVec 64) : bits .and .u64 (a.toNat : Int) (16212958658533785600 : Int) = ((a &&& gOver).toNat : Int) := q_and a gOver
theorem q_one (a : BitVec 64) : bits .and .u64 (a.toNat : Int) (1 : Int) = ((a &&& 1#64).toNat : Int) := q_and a 1#64
theorem q_shr63 (a : BitVec 64) : (a.toNat : Int) / (9223372036854775808 : Int) = ((a >>> 63).toNat : Int) := q_shr a 63
theorem q_shl63 (a : BitVec 64) : IntKind.u64.wrap ((a.toNat : Int) * (9223372036854775808 : Int)) = ((a <<< 63).toNat : Int) := q_shl a 63
set_option maxRecDepth 100000 in
set_option maxHeartbeats 1000000 in
theorem plus_e (a b c d : BitVec 64) (w : World) : Calls Tryd.prog 56 #[.agg #[.int .u64 (a.toNat : Int), .int .u64 (b.toNat : Int)], .agg #[.int .u64 (c.toNat : Int), .int .u64 (d.toNat : Int)]] w fun e w' => e = .returned (.agg #[.int .u64 ((a ^^^ c).toNat : Int), .int .u64 ((b ^^^ d).toNat : Int)]) ∧ Below w.heap.size w w' := by
  have hA : Blk (((w.alloc (.cells #[.int .u64 (a.toNat : Int), .int .u64 (b.toNat : Int)] 102)).alloc (.cells #[.int .u64 (c.toNat : Int), .int .u64 (d.toNat : Int)] 102)).alloc (.cells #[.int .u64 0, .int .u64 0] 102)) w.heap.size 102 [.int .u64 (a.toNat : Int), .int .u64 (b.toNat : Int)] := ((Blk.new_of w 102 #[.int .u64 (a.toNat : Int), .int .u64 (b.toNat : Int)] [.int .u64 (a.toNat : Int), .int .u64 (b.toNat : Int)] rfl).alloc _).alloc _
  have hB : Blk (((w.alloc (.cells #[.int .u64 (a.toNat : Int), .int .u64 (b.toNat : Int)] 102)).alloc (.cells #[.int .u64 (c.toNat : Int), .int .u64 (d.toNat : Int)] 102)).alloc (.cells #[.int .u64 0, .int .u64 0] 102)) (w.heap.size + 1) 102 [.int .u64 (c.toNat : Int), .int .u64 (d.toNat : Int)] := (Blk.new2_of w (.cells #[.int .u64 (a.toNat : Int), .int .u64 (b.toNat : Int)] 102) 102 #[.int .u64 (c.toNat : Int), .int .u64 (d.toNat : Int)] [.int .u64 (c.toNat : Int), .int .u64 (d.toNat : Int)] rfl).alloc _
  have hO := Blk.new3_of w (.cells #[.int .u64 (a.toNat : Int), .int .u64 (b.toNat : Int)] 102) (.cells #[.int .u64 (c.toNat : Int), .int .u64 (d.toNat : Int)] 102) 102 #[.int .u64 0, .int .u64 0] [.int .u64 0, .int .u64 0] rfl
  have hbw := (((Below.refl w.heap.size w).alloc (Nat.le_refl _) (.cells #[.int .u64 (a.toNat : Int), .int .u64 (b.toNat : Int)] 102)).alloc (by simp) (.cells #[.int .u64 (c.toNat : Int), .int .u64 (d.toNat : Int)] 102)).alloc (by simp; omega) (.cells #[.int .u64 0, .int .u64 0] 102)
  have x0 := q_xor a c
  have x1 := q_xor b d
  go_enter Tryd.func56, Tryd.ntmps56
  have c0 := (show Blk _ _ _ [.int .u64 (a.toNat : Int), .int .u64 (b.toNat : Int)] from hA).cell 0
  have c1 := (show Blk _ _ _ [.int .u64 (a.toNat : Int), .int .u64 (b.toNat : Int)] from hA).cell 1
  have c2 := (show Blk _ _ _ [.int .u64 (c.toNat : Int), .int .u64 (d.toNat : Int)] from hB).cell 0
  have c3 := (show Blk _ _ _ [.int .u64 (c.toNat : Int), .int .u64 (d.toNat : Int)] from hB).cell 1
  simp only [List.getElem?_cons_zero, List.getElem?_cons_succ] at c0 c1 c2 c3
  clear hA hB
  go_wp2_with ((with_reducible refine (?_ : wpList _ _ _ (Oper.mk none (.store 102 (.tmp 4) _) _ _ _ _ :: _) _ _)); go_loud (refine wpList_store_blk rfl 102 (.tmp 4) (.tmp 15) rfl rfl (w.heap.size + 1 + 1) [.int .u64 ((a ^^^ c).toNat : Int), .int .u64 ((b ^^^ d).toNat : Int)] rfl rfl 102 _ hO infoEl rfl (by simp [Value.oneCell']) ?_); intro w7 hA7 hg7)
  refine bodyPost_ret (v := .agg _) (results_cell_row rfl _ _ (w.heap.size + 1 + 1) 102 _ (0, 0) _ rfl hA7.raw Tryd.underlying102 rfl infoEl) rfl ⟨rfl, below_new hbw hg7 (by omega) hbw.size⟩
set_option maxRecDepth 100000 in
set_option maxHeartbeats 1000000 in
theorem timesX_e (h l : BitVec 64) (w : World) : Calls Tryd.prog 78 #[.agg #[.int .u64 (h.toNat : Int), .int .u64 (l.toNat : Int)]] w fun e w' => e = .returned (.agg #[.int .u64 ((xh h l).toNat : Int), .int .u64 ((xl h l).toNat : Int)]) ∧ Below w.heap.size w w' := by
  have hA : Blk ((w.alloc (.cells #[.int .u64 (h.toNat : Int), .int .u64 (l.toNat : Int)] 102)).alloc (.cells #[.int .u64 0, .int .u64 0] 102)) w.heap.size 102 [.int .u64 (h.toNat : Int), .int .u64 (l.toNat : Int)] := (Blk.new_of w 102 #[.int .u64 (h.toNat : Int), .int .u64 (l.toNat : Int)] [.int .u64 (h.toNat : Int), .int .u64 (l.toNat : Int)] rfl).alloc _
  have hO := Blk.new2_of w (.cells #[.int .u64 (h.toNat : Int), .int .u64 (l.toNat : Int)] 102) 102 #[.int .u64 0, .int .u64 0] [.int .u64 0, .int .u64 0] rfl
  have hbw := ((Below.refl w.heap.size w).alloc (Nat.le_refl _) (.cells #[.int .u64 (h.toNat : Int), .int .u64 (l.toNat : Int)] 102)).alloc (by simp) (.cells #[.int .u64 0, .int .u64 0] 102)
  have hxh : xh h l = (h >>> 1) ^^^ ((-(l &&& 1#64)) &&& gOver) := rfl
  have hxl : xl h l = (l >>> 1) ||| (h <<< 63) := rfl
  have e1 := q_shr1 h
  have e2 := q_one l
  generalize l &&& 1#64 = m at *
  have e3 := q_neg m
  generalize -m = m2 at *
  have e4 := q_over m2
  generalize m2 &&& gOver = m3 at *
  generalize h >>> 1 = h1 at *
  have e5 := q_xor h1 m3
  rw [← hxh] at e5
  generalize xh h l = X at *
  have f1 := q_shr1 l
  generalize l >>> 1 = l1 at *
  have f2 := q_shl63 h
  generalize h <<< 63 = h2 at *
  have f3 := q_or l1 h2
  rw [← hxl] at f3
  generalize xl h l = Y at *
  clear hxh hxl
  go_enter Tryd.func78, Tryd.ntmps78
  have c0 := (show Blk _ _ _ [.int .u64 (h.toNat : Int), .int .u64 (l.toNat : Int)] from hA).cell 0
  have c1 := (show Blk _ _ _ [.int .u64 (h.toNat : Int), .int .u64 (l.toNat : Int)] from hA).cell 1
  simp only [List.getElem?_cons_zero, List.getElem?_cons_succ] at c0 c1
  clear hA
  go_wp2_with ((with_reducible refine (?_ : wpList _ _ _ (Oper.mk none (.store 102 (.tmp 2) _) _ _ _ _ :: _) _ _)); go_loud (refine wpList_store_blk rfl 102 (.tmp 2) (.tmp 19) rfl rfl (w.heap.size + 1) [.int .u64 (X.toNat : Int), .int .u64 (Y.toNat : Int)] rfl rfl 102 _ hO infoEl rfl (by simp [Value.oneCell']) ?_); intro w7 hA7 hg7)
  refine bodyPost_ret (v := .agg _) (results_cell_row rfl _ _ (w.heap.size + 1) 102 _ (0, 0) _ rfl hA7.raw Tryd.underlying102 rfl infoEl) rfl ⟨rfl, below_new hbw hg7 (by omega) hbw.size⟩
set_option maxRecDepth 100000 in
set_option maxHeartbeats 1000000 in
theorem times_e (a0 a1 b0 b1 : BitVec 64) (w : World) : Calls Tryd.prog 57 #[.agg #[.int .u64 (a0.toNat : Int), .int .u64 (a1.toNat : Int)], .agg #[.int .u64 (b0.toNat : Int), .int .u64 (b1.toNat : Int)]] w fun e w' => e = .returned (.agg #[.int .u64 ((gN a0 a1 b0 b1 128).s0.toNat : Int), .int .u64 ((gN a0 a1 b0 b1 128).s1.toNat : Int)]) ∧ Below w.heap.size w w' := by
  have hz : ∀ W : World, (zeroValue 102).run Tryd.prog W = .ok (.agg #[.int .u64 0, .int .u64 0]) W := fun W => by kernel_rfl
  go_enter Tryd.func57, Tryd.ntmps57
  go_wp2
  have hA : Blk ((((w.alloc (.cells #[.int .u64 (a0.toNat : Int), .int .u64 (a1.toNat : Int)] 102)).alloc (.cells #[.int .u64 (b0.toNat : Int), .int .u64 (b1.toNat : Int)] 102)).alloc (.cells #[.int .u64 0, .int .u64 0] 102)).alloc (.cells #[.int .u64 0, .int .u64 0] 102)) w.heap.size 102 [.int .u64 (a0.toNat : Int), .int .u64 (a1.toNat : Int)] := (((Blk.new_of w 102 #[.int .u64 (a0.toNat : Int), .int .u64 (a1.toNat : Int)] [.int .u64 (a0.toNat : Int), .int .u64 (a1.toNat : Int)] rfl).alloc _).alloc _).alloc _
  have hB : Blk ((((w.alloc (.cells #[.int .u64 (a0.toNat : Int), .int .u64 (a1.toNat : Int)] 102)).alloc (.cells #[.int .u64 (b0.toNat : Int), .int .u64 (b1.toNat : Int)] 102)).alloc (.cells #[.int .u64 0, .int .u64 0] 102)).alloc (.cells #[.int .u64 0, .int .u64 0] 102)) (w.heap.size + 1) 102 [.int .u64 (b0.toNat : Int), .int .u64 (b1.toNat : Int)] := ((Blk.new2_of w (.cells #[.int .u64 (a0.toNat : Int), .int .u64 (a1.toNat : Int)] 102) 102 #[.int .u64 (b0.toNat : Int), .int .u64 (b1.toNat : Int)] [.int .u64 (b0.toNat : Int), .int .u64 (b1.toNat : Int)] rfl).alloc _).alloc _
  have hR := (Blk.new3_of w (.cells #[.int .u64 (a0.toNat : Int), .int .u64 (a1.toNat : Int)] 102) (.cells #[.int .u64 (b0.toNat : Int), .int .u64 (b1.toNat : Int)] 102) 102 #[.int .u64 0, .int .u64 0] [.int .u64 0, .int .u64 0] rfl).alloc (.cells #[.int .u64 0, .int .u64 0] 102)
  have hS := Blk.new3_of (w.alloc (.cells #[.int .u64 (a0.toNat : Int), .int .u64 (a1.toNat : Int)] 102)) (.cells #[.int .u64 (b0.toNat : Int), .int .u64 (b1.toNat : Int)] 102) (.cells #[.int .u64 0, .int .u64 0] 102) 102 #[.int .u64 0, .int .u64 0] [.int .u64 0, .int .u64 0] rfl
  rw [show (w.alloc (.cells #[.int .u64 (a0.toNat : Int), .int .u64 (a1.toNat : Int)] 102)).heap.size = w.heap.size + 1 by simp] at hS
  have hbw := ((((Below.refl w.heap.size w).alloc (Nat.le_refl _) (.cells #[.int .u64 (a0.toNat : Int), .int .u64 (a1.toNat : Int)] 102)).alloc (by simp) (.cells #[.int .u64 (b0.toNat : Int), .int .u64 (b1.toNat : Int)] 102)).alloc (by simp; omega) (.cells #[.int .u64 0, .int .u64 0] 102)).alloc (by simp; omega) (.cells #[.int .u64 0, .int .u64 0] 102)
  have hne := (show w.heap.size ≠ w.heap.size + 1 ∧ w.heap.size ≠ w.heap.size + 1 + 1 ∧ w.heap.size ≠ w.heap.size + 1 + 1 + 1 ∧ w.heap.size + 1 ≠ w.heap.size + 1 + 1 ∧ w.heap.size + 1 ≠ w.heap.size + 1 + 1 + 1 ∧ w.heap.size + 1 + 1 ≠ w.heap.size + 1 + 1 + 1 ∧ w.heap.size ≤ w.heap.size + 1 ∧ w.heap.size ≤ w.heap.size + 1 + 1 ∧ w.heap.size ≤ w.heap.size + 1 + 1 + 1 by omega)
  clear hz
  generalize w.heap.size + 1 + 1 + 1 = gs at *
  generalize w.heap.size + 1 + 1 = gr at *
  generalize w.heap.size + 1 = gb at *
  go_loopw [7] (fun i wr => ∃ k : Nat, k ≤ 128 ∧ i = .int .i64 (k : Int) ∧ Blk wr w.heap.size 102 [.int .u64 ((gN a0 a1 b0 b1 k).a0.toNat : Int), .int .u64 ((gN a0 a1 b0 b1 k).a1.toNat : Int)] ∧ Blk wr gb 102 [.int .u64 ((gN a0 a1 b0 b1 k).b0.toNat : Int), .int .u64 ((gN a0 a1 b0 b1 k).b1.toNat : Int)] ∧ Blk wr gr 102 [.int .u64 0, .int .u64 0] ∧ Blk wr gs 102 [.int .u64 ((gN a0 a1 b0 b1 k).s0.toNat : Int), .int .u64 ((gN a0 a1 b0 b1 k).s1.toNat : Int)] ∧ Below w.heap.size w wr) (fun i _ => 128 - (intOf i).toNat)
  case atStart => exact ⟨0, by omega, rfl, hA, hB, hR, hS, hbw⟩
  case round =>
    clear hA hB hR hS hbw
    obtain ⟨k, hk, rfl, hA, hB, hR, hS, hbw⟩ := hrel
    by_cases hlt : k < 128
    · have hd : decide ((k : Int) < 128) = true := by simp; omega
      have hst : gN a0 a1 b0 b1 (k + 1) = gStep (gN a0 a1 b0 b1 k) := rfl
      generalize gN a0 a1 b0 b1 k = g0 at *
      obtain ⟨A0, A1, B0, B1, S0, S1⟩ := g0
      have HST := Lib.hid hst
      clear hst
      dsimp only at hA hB hS
      obtain ⟨t, ht⟩ : ∃ t, t = A0 >>> 63 := ⟨_, rfl⟩
      obtain ⟨M, hM⟩ : ∃ M, M = -t := ⟨_, rfl⟩
      obtain ⟨P0, hP0⟩ : ∃ P, P = B0 &&& M := ⟨_, rfl⟩
      obtain ⟨P1, hP1⟩ : ∃ P, P = B1 &&& M := ⟨_, rfl⟩
      obtain ⟨u, hu⟩ : ∃ u, u = A0 <<< 1 := ⟨_, rfl⟩
      obtain ⟨v, hv⟩ : ∃ v, v = A1 >>> 63 := ⟨_, rfl⟩
      obtain ⟨X0, hX0⟩ : ∃ X, X = u ||| v := ⟨_, rfl⟩
      obtain ⟨X1, hX1⟩ : ∃ X, X = A1 <<< 1 := ⟨_, rfl⟩
      have e1 := q_shr63 A0
      rw [← ht] at e1
      have e2 := q_neg t
      rw [← hM] at e2
      have e3 := q_and B0 M
      rw [← hP0] at e3
      have e4 := q_and B1 M
      rw [← hP1] at e4
      have e5 := q_shl1 A0
      rw [← hu] at e5
      have e6 := q_shr63 A1
      rw [← hv] at e6
      have e7 := q_or u v
      rw [← hX0] at e7
      have e8 := q_shl1 A1
      rw [← hX1] at e8
      have HG := Lib.hid (show gN a0 a1 b0 b1 (k + 1) = ⟨X0, X1, xh B0 B1, xl B0 B1, S0 ^^^ P0, S1 ^^^ P1⟩ by rw [HST.out]; unfold gStep; simp only; rw [hX0, hX1, hP0, hP1, hM, ht, hu, hv])
      clear HST ht hM hP0 hP1 hu hv hX0 hX1
      have cP := plus_e S0 S1 P0 P1
      have cX := timesX_e B0 B1
      obtain ⟨T0, hT0⟩ : ∃ T, T = S0 ^^^ P0 := ⟨_, rfl⟩
      obtain ⟨T1, hT1⟩ : ∃ T, T = S1 ^^^ P1 := ⟨_, rfl⟩
      obtain ⟨Y0, hY0⟩ : ∃ T, T = xh B0 B1 := ⟨_, rfl⟩
      obtain ⟨Y1, hY1⟩ : ∃ T, T = xl B0 B1 := ⟨_, rfl⟩
      rw [← hT0, ← hT1] at cP
      rw [← hY0, ← hY1] at cX
      rw [← hT0, ← hT1, ← hY0, ← hY1] at HG
      clear hT0 hT1 hY0 hY1
      have k0 := (show Blk _ _ _ [.int .u64 (A0.toNat : Int), .int .u64 (A1.toNat : Int)] from hA).cell 0
      have k2 := (show Blk _ _ _ [.int .u64 (B0.toNat : Int), .int .u64 (B1.toNat : Int)] from hB).cell 0
      have k3 := (show Blk _ _ _ [.int .u64 (B0.toNat : Int), .int .u64 (B1.toNat : Int)] from hB).cell 1
      simp only [List.getElem?_cons_zero, List.getElem?_cons_succ] at k0 k2 k3
      go_wp2_with (first
        | ((with_reducible refine (?_ : wpList _ _ _ (Oper.mk (some 13) _ _ _ _ _ :: _) _ _)); go_loud (refine wpList_load_blk rfl 102 (.tmp 5) rfl gs rfl 102 _ _ hS Tryd.underlying102 rfl infoEl ?_))
        | (go_at_call 56; go_loud (refine (cP _).mono ?_); rintro e w5 ⟨rfl, hb5⟩)
        | ((with_reducible refine (?_ : wpList _ _ _ (Oper.mk none (.store 102 (.tmp 5) _) _ _ _ _ :: _) _ _)); go_loud (refine wpList_store_blk rfl 102 (.tmp 5) (.tmp 23) rfl rfl gs [.int .u64 (T0.toNat : Int), .int .u64 (T1.toNat : Int)] rfl rfl 102 _ (hS.below hb5 hS.lt) infoEl rfl (by simp [Value.oneCell']) ?_); intro w6 hS6 hg6
           have hA6 := (hA.below hb5 hA.lt).grown hg6 (by simp; exact hne.2.2.1)
           have hB6 := (hB.below hb5 hB.lt).grown hg6 (by simp; exact hne.2.2.2.2.1)
           have hR6 := (hR.below hb5 hR.lt).grown hg6 (by simp; exact hne.2.2.2.2.2.1)
           have hb6 := below_new (hbw.trans (hb5.mono hbw.size)) hg6 hne.2.2.2.2.2.2.2.2 (Nat.le_trans hbw.size hb5.size)
           have m0 := (show Blk _ _ _ [.int .u64 (A0.toNat : Int), .int .u64 (A1.toNat : Int)] from hA6).cell 0
           have m1 := (show Blk _ _ _ [.int .u64 (A0.toNat : Int), .int .u64 (A1.toNat : Int)] from hA6).cell 1
           simp only [List.getElem?_cons_zero, List.getElem?_cons_succ] at m0 m1
           clear k0 k2 k3 hA hB hR hS hbw hb5 hg6)
        | ((with_reducible refine (?_ : wpList _ _ _ (Oper.mk none (.store 102 (.tmp 2) _) _ _ _ _ :: _) _ _)); go_loud (refine wpList_store_blk rfl 102 (.tmp 2) (.tmp 34) rfl rfl w.heap.size [.int .u64 (X0.toNat : Int), .int .u64 (X1.toNat : Int)] rfl rfl 102 _ hA6 infoEl rfl (by simp [Value.oneCell']) ?_); intro w7 hA7 hg7
           have hB7 := hB6.grown hg7 (by simp; exact Ne.symm hne.1)
           have hR7 := hR6.grown hg7 (by simp; exact Ne.symm hne.2.1)
           have hS7 := hS6.grown hg7 (by simp; exact Ne.symm hne.2.2.1)
           have hb7 := below_new hb6 hg7 (Nat.le_refl _) hb6.size
           clear m0 m1 hA6 hB6 hR6 hS6 hb6 hg7)
        | ((with_reducible refine (?_ : wpList _ _ _ (Oper.mk (some 35) _ _ _ _ _ :: _) _ _)); go_loud (refine wpList_load_blk rfl 102 (.tmp 3) rfl gb rfl 102 _ _ hB7 Tryd.underlying102 rfl infoEl ?_))
        | (go_at_call 78; go_loud (refine (cX _).mono ?_); rintro e w8 ⟨rfl, hb8⟩)
        | ((with_reducible refine (?_ : wpList _ _ _ (Oper.mk none (.store 102 (.tmp 3) _) _ _ _ _ :: _) _ _)); go_loud (refine wpList_store_blk rfl 102 (.tmp 3) (.tmp 36) rfl rfl gb [.int .u64 (Y0.toNat : Int), .int .u64 (Y1.toNat : Int)] rfl rfl 102 _ (hB7.below hb8 hB7.lt) infoEl rfl (by simp [Value.oneCell']) ?_); intro w9 hB9 hg9
           have hA9 := (hA7.below hb8 hA7.lt).grown hg9 (by simp; exact hne.1)
           have hR9 := (hR7.below hb8 hR7.lt).grown hg9 (by simp; exact Ne.symm hne.2.2.2.1)
           have hS9 := (hS7.below hb8 hS7.lt).grown hg9 (by simp; exact Ne.symm hne.2.2.2.2.1)
           have hb9 := below_new (hb7.trans (hb8.mono hb7.size)) hg9 hne.2.2.2.2.2.2.1 (Nat.le_trans hb7.size hb8.size)
           clear hA7 hB7 hR7 hS7 hb7 hb8 hg9))
      go_roundw
      case rel => exact ⟨k + 1, by omega, by go_num, by rw [HG.out]; exact hA9, by rw [HG.out]; exact hB9, hR9, by rw [HG.out]; exact hS9, hb9⟩
      case measure => simp [intOf]; omega
    · have hd : decide ((k : Int) < 128) = false := by simp; omega
      obtain rfl : k = 128 := by omega
      obtain ⟨s0, hs0⟩ : ∃ s, s = (gN a0 a1 b0 b1 128).s0 := ⟨_, rfl⟩
      obtain ⟨s1, hs1⟩ : ∃ s, s = (gN a0 a1 b0 b1 128).s1 := ⟨_, rfl⟩
      rw [← hs0, ← hs1] at hS
      have HS0 := Lib.hid hs0
      have HS1 := Lib.hid hs1
      clear hs0 hs1 hA hB
      go_wp2_with (first
        | ((with_reducible refine (?_ : wpList _ _ _ (Oper.mk (some 38) _ _ _ _ _ :: _) _ _)); go_loud (refine wpList_load_blk rfl 102 (.tmp 5) rfl gs rfl 102 _ _ hS Tryd.underlying102 rfl infoEl ?_))
        | ((with_reducible refine (?_ : wpList _ _ _ (Oper.mk none (.store 102 (.tmp 4) _) _ _ _ _ :: _) _ _)); go_loud (refine wpList_store_blk rfl 102 (.tmp 4) (.tmp 38) rfl rfl gr [.int .u64 (s0.toNat : Int), .int .u64 (s1.toNat : Int)] rfl rfl 102 _ hR infoEl rfl (by simp [Value.oneCell']) ?_); intro w7 hA7 hg7))
      refine bodyPost_ret (v := .agg _) (results_cell_row rfl _ _ gr 102 _ (0, 0) _ rfl hA7.raw Tryd.underlying102 rfl infoEl) rfl ⟨by rw [HS0.out, HS1.out], below_new hbw hg7 hne.2.2.2.2.2.2.2.1 hbw.size⟩

end
section
open Go.RowKit
/-- The word of the first k bytes behind o. -/
def wordTo (b : List UInt8) (o : Nat) : Nat → BitVec 64
  | 0 => 0#64
  | k + 1 => (wordTo b o k <<< 8) ||| (b.getD (o + k) 0).toBitVec.setWidth 64
theorem q_shl8 (a : BitVec 64) : IntKind.u64.wrap ((a.toNat : Int) * (256 : Int)) = ((a <<< 8).toNat : Int) := q_shl a 8
theorem q_or8 (a : BitVec 64) (x : UInt8) : bits .or .u64 (a.toNat : Int) (x.toNat : Int) = ((a ||| x.toBitVec.setWidth 64).toNat : Int) := by
  have h : (x.toBitVec.setWidth 64).toNat = x.toNat := by
    rw [BitVec.toNat_setWidth]
    have := u8_lt x
    exact Nat.mod_eq_of_lt (by show x.toNat < 2 ^ 64; omega)
  have := q_or a (x.toBitVec.setWidth 64)
  rw [h] at this
  exact this
theorem q_wrap8 (x : UInt8) : IntKind.u64.wrap (x.toNat : Int) = (x.toNat : Int) := by
  rw [IntKind.wrap_u64]; have := u8_lt x; omega
set_option maxRecDepth 100000 in
set_option maxHeartbeats 1000000 in
theorem elementOf_e (b : List UInt8) (hb : b.length = 16) (w : World) : Calls Tryd.prog 55 #[BV b] w fun e w' => e = .returned (.agg #[.int .u64 ((wordTo b 0 8).toNat : Int), .int .u64 ((wordTo b 8 8).toNat : Int)]) ∧ Below w.heap.size w w' := by
  have hz : ∀ W : World, (zeroValue 102).run Tryd.prog W = .ok (.agg #[.int .u64 0, .int .u64 0]) W := fun W => by kernel_rfl
  have HBL := Lib.hid hb
  clear hb
  go_enter Tryd.func55, Tryd.ntmps55
  go_wp2
  clear hz
  have hB : Blk (((w.alloc (.cells (b.map B8).toArray 56)).alloc (.cells #[.int .u64 0, .int .u64 0] 102)).alloc (.cells #[.int .u64 0, .int .u64 0] 102)) w.heap.size 56 (b.map B8) := ((Blk.new_of w 56 _ (b.map B8) rfl).alloc _).alloc _
  have hR := (Blk.new2_of w (.cells (b.map B8).toArray 56) 102 #[.int .u64 0, .int .u64 0] [.int .u64 0, .int .u64 0] rfl).alloc (.cells #[.int .u64 0, .int .u64 0] 102)
  have hE := Blk.new3_of w (.cells (b.map B8).toArray 56) (.cells #[.int .u64 0, .int .u64 0] 102) 102 #[.int .u64 0, .int .u64 0] [.int .u64 0, .int .u64 0] rfl
  have hbw := (((Below.refl w.heap.size w).alloc (Nat.le_refl _) (.cells (b.map B8).toArray 56)).alloc (by simp) (.cells #[.int .u64 0, .int .u64 0] 102)).alloc (by simp; omega) (.cells #[.int .u64 0, .int .u64 0] 102)
  have hne := (show w.heap.size ≠ w.heap.size + 1 + 1 ∧ w.heap.size + 1 ≠ w.heap.size + 1 + 1 ∧ w.heap.size ≤ w.heap.size + 1 + 1 by omega)
  have hle := (show w.heap.size ≤ w.heap.size + 1 by omega)
  generalize w.heap.size + 1 + 1 = ge at *
  generalize w.heap.size + 1 = gr at *
  go_loopw [4, 5] (fun _ i wr => ∃ k : Nat, k ≤ 8 ∧ i = .int .i64 (k : Int) ∧ Blk wr w.heap.size 56 (b.map B8) ∧ Blk wr ge 102 [.int .u64 ((wordTo b 0 k).toNat : Int), .int .u64 ((wordTo b 8 k).toNat : Int)] ∧ Blk wr gr 102 [.int .u64 0, .int .u64 0] ∧ Below w.heap.size w wr) (fun _ i _ => 8 - (intOf i).toNat)
  case atStart => exact ⟨0, by omega, rfl, hB, hE, hR, hbw⟩
  case round =>
    clear hB hE hR hbw
    obtain ⟨k, hk, rfl, hB, hE, hR, hbw⟩ := hrel
    by_cases hlt : k < 8
    · have hd : decide ((k : Int) < 8) = true := by simp; omega
      obtain ⟨x, hx⟩ : ∃ x, b.getD k 0 = x := ⟨_, rfl⟩
      obtain ⟨y, hy⟩ : ∃ y, b.getD (8 + k) 0 = y := ⟨_, rfl⟩
      obtain ⟨H0, hH0⟩ : ∃ H, H = wordTo b 0 k := ⟨_, rfl⟩
      obtain ⟨L0, hL0⟩ : ∃ H, H = wordTo b 8 k := ⟨_, rfl⟩
      obtain ⟨Hs, hHs⟩ : ∃ H, H = H0 <<< 8 := ⟨_, rfl⟩
      obtain ⟨Ls, hLs⟩ : ∃ H, H = L0 <<< 8 := ⟨_, rfl⟩
      obtain ⟨H1, hH1⟩ : ∃ H, H = Hs ||| x.toBitVec.setWidth 64 := ⟨_, rfl⟩
      obtain ⟨L1, hL1⟩ : ∃ H, H = Ls ||| y.toBitVec.setWidth 64 := ⟨_, rfl⟩
      have H1E := Lib.hid (show wordTo b 0 (k + 1) = H1 by rw [hH1, hHs, hH0, wordTo, Nat.zero_add, hx])
      have L1E := Lib.hid (show wordTo b 8 (k + 1) = L1 by rw [hL1, hLs, hL0, wordTo, hy])
      have e1 := q_shl8 H0
      rw [← hHs] at e1
      have e2 := q_or8 Hs x
      rw [← hH1] at e2
      have e3 := q_shl8 L0
      rw [← hLs] at e3
      have e4 := q_or8 Ls y
      rw [← hL1] at e4
      have e5 := q_wrap8 x
      have e6 := q_wrap8 y
      have e7 : IntKind.i64.wrap (8 + (k : Int)) = 8 + (k : Int) := by rw [IntKind.wrap_i64]; omega
      have e8 : (8 + (k : Int)).toNat = 8 + k := by omega
      have e9 : (0 : Int) ≤ 8 + (k : Int) := by omega
      have e10 : 8 + (k : Int) < 16 := by omega
      have hk0 : (0 : Int) ≤ (k : Int) := by omega
      have hk1 : (k : Int) < 16 := by omega
      rw [← hH0, ← hL0] at hE
      obtain ⟨gb, hgb⟩ : ∃ gb, gb = w.heap.size := ⟨_, rfl⟩
      have HH := Lib.hid (fun (W : World) (hb : Below wr.heap.size wr W) => (show W.cell? ⟨ge, 0, none⟩ = some (.int .u64 (H0.toNat : Int)) from (hE.below hb hE.lt).cell 0))
      have HX := Lib.hid (fun (W : World) (hb : Below wr.heap.size wr W) => (show W.cell? ⟨w.heap.size, k, none⟩ = some (.int .u8 (x.toNat : Int)) from hx ▸ (hB.below hb hB.lt).at8 k (by rw [HBL.out]; omega)))
      clear hH0 hL0 hHs hLs hH1 hL1
      go_wp2
      refine wp_region_noPanic ?_
      apply wp_region_once_tail (m := 9) (Z := []) (D := [[], [0], [0, 1], [], [3], [3, 4], [3, 4, 5], [0, 1, 2, 3, 4, 5, 6], [0, 1, 2, 3, 4, 5, 6, 7], [0, 1, 2, 3, 4, 5, 6, 7, 8]]) (J := [[], [0], [1], [], [3], [4], [5], [2, 6], []]) (Je := [7, 8]) (Rs := [Is _, Is _, Is _, Is _, Is _, Is _, Is _, Is _, Is _])
      · kernel_rfl
      · kernel_rfl
      · kernel_rfl
      · kernel_rfl
      · kernel_rfl
      · kernel_rfl
      · kernel_rfl
      · exact fun h => absurd rfl h
      · intro u
        simp only [List.take_succ_cons, List.take_zero, List.map_cons, List.map_nil, fillU, List.setIfInBounds_toArray, List.set_cons_zero, List.set_cons_succ, Nat.zero_add, Nat.reduceAdd]
        exact rfl
      · simp only [List.take_succ_cons, List.take_zero]
        refine ⟨fun u W hb hd K hK => ?_, ?_⟩
        · clear hd
          go_simp
          apply hK
          · simp only [Act.put, List.setIfInBounds_toArray, List.set_cons_zero, List.set_cons_succ]
            exact rfl
          · exact Below.refl _ _
          · exact IsOut
        refine ⟨fun u W hb hd K hK => ?_, ?_⟩
        · simp only [Facts, nthR, Is, and_true] at hd
          simp only [hd] at hK ⊢
          clear hd
          have hcc := HH.out W hb
          go_simp
          apply hK
          · simp only [Act.put, List.setIfInBounds_toArray, List.set_cons_zero, List.set_cons_succ]
            exact rfl
          · exact Below.refl _ _
          · exact IsOut
        refine ⟨fun u W hb hd K hK => ?_, ?_⟩
        · simp only [Facts, nthR, Is, and_true] at hd
          simp only [hd] at hK ⊢
          clear hd
          go_simp
          apply hK
          · simp only [Act.put, List.setIfInBounds_toArray, List.set_cons_zero, List.set_cons_succ]
            exact rfl
          · exact Below.refl _ _
          · exact IsOut
        refine ⟨fun u W hb hd K hK => ?_, ?_⟩
        · clear hd
          go_simp
          apply hK
          · simp only [Act.put, List.setIfInBounds_toArray, List.set_cons_zero, List.set_cons_succ]
            exact rfl
          · exact Below.refl _ _
          · exact IsOut
        refine ⟨fun u W hb hd K hK => ?_, ?_⟩
        · simp only [Facts, nthR, Is, and_true] at hd
          simp only [hd] at hK ⊢
          clear hd
          go_simp
          apply hK
          · simp only [Act.put, List.setIfInBounds_toArray, List.set_cons_zero, List.set_cons_succ]
            exact rfl
          · exact Below.refl _ _
          · exact IsOut
        refine ⟨fun u W hb hd K hK => ?_, ?_⟩
        · simp only [Facts, nthR, Is, and_true] at hd
          simp only [hd] at hK ⊢
          clear hd
          have hcc := HX.out W hb
          go_simp
          apply hK
          · simp only [Act.put, List.setIfInBounds_toArray, List.set_cons_zero, List.set_cons_succ]
            exact rfl
          · exact Below.refl _ _
          · exact IsOut
        refine ⟨fun u W hb hd K hK => ?_, ?_⟩
        · simp only [Facts, nthR, Is, and_true] at hd
          simp only [hd] at hK ⊢
          clear hd
          go_simp
          apply hK
          · simp only [Act.put, List.setIfInBounds_toArray, List.set_cons_zero, List.set_cons_succ]
            exact rfl
          · exact Below.refl _ _
          · exact IsOut
        refine ⟨fun u W hb hd K hK => ?_, ?_⟩
        · simp only [Facts, nthR, Is, and_true] at hd
          simp only [hd] at hK ⊢
          clear hd
          go_simp
          apply hK
          · simp only [Act.put, List.setIfInBounds_toArray, List.set_cons_zero, List.set_cons_succ]
            exact rfl
          · exact Below.refl _ _
          · exact IsOut
        refine ⟨fun u W hb hd K hK => ?_, ?_⟩
        · clear hd
          go_simp
          apply hK
          · simp only [Act.put, List.setIfInBounds_toArray, List.set_cons_zero, List.set_cons_succ]
            exact rfl
          · exact Below.refl _ _
          · exact IsOut
        exact trivial
      · skip
        exact trivial
      · exact (.is (.is (.is (.is (.is (.is (.is (.is (.is .nil)))))))))
      · intro u W hb hd
        simp only [List.drop_succ_cons, List.drop_zero]
        simp only [Facts, nthR, Is, and_true] at hd
        simp only [hd]
        clear hd
        replace hE := hE.below hb hE.lt
        replace hB := hB.below hb hB.lt
        replace hR := hR.below hb hR.lt
        replace hbw := hbw.trans (hb.mono hbw.size)
        have hcc := (show Blk _ _ _ [.int .u64 (H0.toNat : Int), .int .u64 (L0.toNat : Int)] from hE).cell 0
        simp only [List.getElem?_cons_zero] at hcc
        have hfr := hE.frozen 0
        clear hb HH HX
        go_wp2
        refine NoPanic.normal ?_
        have hE2 := hE.set_ 0 (.int .u64 (H1.toNat : Int))
        simp only [List.set_cons_zero] at hE2
        have hB2 := hB.far (p := ⟨ge, 0, none⟩) (by simp; exact hne.1) (.int .u64 (H1.toNat : Int))
        have hR2 := hR.far (p := ⟨ge, 0, none⟩) (by simp; exact hne.2.1) (.int .u64 (H1.toNat : Int))
        have hb2 := hbw.setCell (p := ⟨ge, 0, none⟩) (by simp; exact hne.2.2) (.int .u64 (H1.toNat : Int))
        clear hcc hfr hE hB hR hbw
        generalize W.setCell ⟨ge, 0, none⟩ (.int .u64 (H1.toNat : Int)) = w6 at *
        have HH := Lib.hid (fun (W : World) (hb : Below w6.heap.size w6 W) => (show W.cell? ⟨ge, 1, none⟩ = some (.int .u64 (L0.toNat : Int)) from (hE2.below hb hE2.lt).cell 1))
        have HX := Lib.hid (fun (W : World) (hb : Below w6.heap.size w6 W) => (show W.cell? ⟨w.heap.size, 8 + k, none⟩ = some (.int .u8 (y.toNat : Int)) from hy ▸ (hB2.below hb hB2.lt).at8 (8 + k) (by rw [HBL.out]; omega)))
        go_wp2
        refine wp_region_noPanic ?_
        apply wp_region_once_tail (m := 10) (Z := []) (D := [[], [0], [0, 1], [], [3], [3, 4], [3, 4, 5], [3, 4, 5, 6], [0, 1, 2, 3, 4, 5, 6, 7], [0, 1, 2, 3, 4, 5, 6, 7, 8], [0, 1, 2, 3, 4, 5, 6, 7, 8, 9]]) (J := [[], [0], [1], [], [3], [4], [5], [6], [2, 7], []]) (Je := [8, 9]) (Rs := [Is _, Is _, Is _, Is _, Is _, Is _, Is _, Is _, Is _, Is _])
        · kernel_rfl
        · kernel_rfl
        · kernel_rfl
        · kernel_rfl
        · kernel_rfl
        · kernel_rfl
        · kernel_rfl
        · exact fun h => absurd rfl h
        · intro u
          simp only [List.take_succ_cons, List.take_zero, List.map_cons, List.map_nil, fillU, List.setIfInBounds_toArray, List.set_cons_zero, List.set_cons_succ, Nat.zero_add, Nat.reduceAdd]
          exact rfl
        · simp only [List.take_succ_cons, List.take_zero]
          refine ⟨fun u W hb hd K hK => ?_, ?_⟩
          · clear hd
            go_simp
            apply hK
            · simp only [Act.put, List.setIfInBounds_toArray, List.set_cons_zero, List.set_cons_succ]
              exact rfl
            · exact Below.refl _ _
            · exact IsOut
          refine ⟨fun u W hb hd K hK => ?_, ?_⟩
          · simp only [Facts, nthR, Is, and_true] at hd
            simp only [hd] at hK ⊢
            clear hd
            have hcc := HH.out W hb
            go_simp
            apply hK
            · simp only [Act.put, List.setIfInBounds_toArray, List.set_cons_zero, List.set_cons_succ]
              exact rfl
            · exact Below.refl _ _
            · exact IsOut
          refine ⟨fun u W hb hd K hK => ?_, ?_⟩
          · simp only [Facts, nthR, Is, and_true] at hd
            simp only [hd] at hK ⊢
            clear hd
            go_simp
            apply hK
            · simp only [Act.put, List.setIfInBounds_toArray, List.set_cons_zero, List.set_cons_succ]
              exact rfl
            · exact Below.refl _ _
            · exact IsOut
          refine ⟨fun u W hb hd K hK => ?_, ?_⟩
          · clear hd
            go_simp
            apply hK
            · simp only [Act.put, List.setIfInBounds_toArray, List.set_cons_zero, List.set_cons_succ]
              exact rfl
            · exact Below.refl _ _
            · exact IsOut
          refine ⟨fun u W hb hd K hK => ?_, ?_⟩
          · simp only [Facts, nthR, Is, and_true] at hd
            simp only [hd] at hK ⊢
            clear hd
            go_simp
            apply hK
            · simp only [Act.put, List.setIfInBounds_toArray, List.set_cons_zero, List.set_cons_succ]
              exact rfl
            · exact Below.refl _ _
            · exact IsOut
          refine ⟨fun u W hb hd K hK => ?_, ?_⟩
          · simp only [Facts, nthR, Is, and_true] at hd
            simp only [hd] at hK ⊢
            clear hd
            go_simp
            apply hK
            · simp only [Act.put, List.setIfInBounds_toArray, List.set_cons_zero, List.set_cons_succ]
              exact rfl
            · exact Below.refl _ _
            · exact IsOut
          refine ⟨fun u W hb hd K hK => ?_, ?_⟩
          · simp only [Facts, nthR, Is, and_true] at hd
            simp only [hd] at hK ⊢
            clear hd
            have hcc := HX.out W hb
            go_simp
            apply hK
            · simp only [Act.put, List.setIfInBounds_toArray, List.set_cons_zero, List.set_cons_succ]
              exact rfl
            · exact Below.refl _ _
            · exact IsOut
          refine ⟨fun u W hb hd K hK => ?_, ?_⟩
          · simp only [Facts, nthR, Is, and_true] at hd
            simp only [hd] at hK ⊢
            clear hd
            go_simp
            apply hK
            · simp only [Act.put, List.setIfInBounds_toArray, List.set_cons_zero, List.set_cons_succ]
              exact rfl
            · exact Below.refl _ _
            · exact IsOut
          refine ⟨fun u W hb hd K hK => ?_, ?_⟩
          · simp only [Facts, nthR, Is, and_true] at hd
            simp only [hd] at hK ⊢
            clear hd
            go_simp
            apply hK
            · simp only [Act.put, List.setIfInBounds_toArray, List.set_cons_zero, List.set_cons_succ]
              exact rfl
            · exact Below.refl _ _
            · exact IsOut
          refine ⟨fun u W hb hd K hK => ?_, ?_⟩
          · clear hd
            go_simp
            apply hK
            · simp only [Act.put, List.setIfInBounds_toArray, List.set_cons_zero, List.set_cons_succ]
              exact rfl
            · exact Below.refl _ _
            · exact IsOut
          exact trivial
        · skip
          exact trivial
        · exact (.is (.is (.is (.is (.is (.is (.is (.is (.is (.is .nil))))))))))
        · intro u W hb hd
          simp only [List.drop_succ_cons, List.drop_zero]
          simp only [Facts, nthR, Is, and_true] at hd
          simp only [hd]
          clear hd
          replace hE2 := hE2.below hb hE2.lt
          replace hB2 := hB2.below hb hB2.lt
          replace hR2 := hR2.below hb hR2.lt
          replace hb2 := hb2.trans (hb.mono hb2.size)
          have hcc := (show Blk _ _ _ [.int .u64 (H1.toNat : Int), .int .u64 (L0.toNat : Int)] from hE2).cell 1
          simp only [List.getElem?_cons_succ, List.getElem?_cons_zero] at hcc
          have hfr := hE2.frozen 1
          clear hb HH HX
          go_wp2
          refine NoPanic.normal ?_
          go_wp2
          go_roundw
          case rel =>
            refine ⟨k + 1, by omega, by go_num, hB2.far (by simp; exact hne.1) _, ?_, hR2.far (by simp; exact hne.2.1) _, hb2.setCell (by simp; exact hne.2.2) _⟩
            rw [H1E.out, L1E.out]
            exact hE2.set_ 1 _
          case measure => simp [intOf]; omega
    · have hd : decide ((k : Int) < 8) = false := by simp; omega
      obtain rfl : k = 8 := by omega
      obtain ⟨s0, hs0⟩ : ∃ s, s = wordTo b 0 8 := ⟨_, rfl⟩
      obtain ⟨s1, hs1⟩ : ∃ s, s = wordTo b 8 8 := ⟨_, rfl⟩
      rw [← hs0, ← hs1] at hE
      have HS0 := Lib.hid hs0
      have HS1 := Lib.hid hs1
      clear hs0 hs1 hB
      go_wp2_with (first
        | ((with_reducible refine (?_ : wpList _ _ _ (Oper.mk (some 28) _ _ _ _ _ :: _) _ _)); go_loud (refine wpList_load_blk rfl 102 (.tmp 3) rfl ge rfl 102 _ _ hE Tryd.underlying102 rfl infoEl ?_))
        | ((with_reducible refine (?_ : wpList _ _ _ (Oper.mk none (.store 102 (.tmp 2) _) _ _ _ _ :: _) _ _)); go_loud (refine wpList_store_blk rfl 102 (.tmp 2) (.tmp 28) rfl rfl gr [.int .u64 (s0.toNat : Int), .int .u64 (s1.toNat : Int)] rfl rfl 102 _ hR infoEl rfl (by simp [Value.oneCell']) ?_); intro w7 hA7 hg7))
      refine bodyPost_ret (v := .agg _) (results_cell_row rfl _ _ gr 102 _ (0, 0) _ rfl hA7.raw Tryd.underlying102 rfl infoEl) rfl ⟨by rw [HS0.out, HS1.out], below_new hbw hg7 hle hbw.size⟩

end
section
open Go.RowKit
def byteE (v : BitVec 64) (k : Nat) : UInt8 := UInt8.ofBitVec ((v >>> (56 - 8 * k)).setWidth 8)
/-- The bytes of two words. -/
def bytesE (h l : BitVec 64) : List UInt8 := (List.range 16).map fun i => if i < 8 then byteE h i else byteE l (i - 8)
theorem bytesE_length (h l : BitVec 64) : (bytesE h l).length = 16 := by simp [bytesE]
theorem bytesE_get (h l : BitVec 64) (i : Nat) (hi : i < 16) : (bytesE h l).getD i 0 = if i < 8 then byteE h i else byteE l (i - 8) := by
  simp [bytesE, List.getD_eq_getElem?_getD, hi]
def halfTo (X : List UInt8) (k : Nat) : List UInt8 := (List.range 16).map fun i => if i % 8 < k then X.getD i 0 else 0
theorem halfTo_length (X : List UInt8) (k : Nat) : (halfTo X k).length = 16 := by simp [halfTo]
theorem halfTo_step (X : List UInt8) (k : Nat) (hk : k < 8) : ((halfTo X k).set k (X.getD k 0)).set (8 + k) (X.getD (8 + k) 0) = halfTo X (k + 1) := by
  have h : k = 0 ∨ k = 1 ∨ k = 2 ∨ k = 3 ∨ k = 4 ∨ k = 5 ∨ k = 6 ∨ k = 7 := by omega
  rcases h with rfl | rfl | rfl | rfl | rfl | rfl | rfl | rfl <;> rfl
theorem halfTo_all (X : List UInt8) (h : X.length = 16) : halfTo X 8 = X := by
  match X, h with
  | [a0, a1, a2, a3, a4, a5, a6, a7, a8, a9, a10, a11, a12, a13, a14, a15], _ => rfl
theorem ix_e (k c : Nat) (hk : k < 8) (hc : c = 56 - 8 * k) : IntKind.i64.wrap (8 * (k : Int)) = 8 * (k : Int) ∧ wrap64 (8 * (k : Int)) = 8 * (k : Int) ∧ wrap64 (56 - 8 * (k : Int)) = (c : Int) ∧ wrap64 (8 + (k : Int)) = 8 + (k : Int) ∧ (8 + (k : Int)).toNat = 8 + k ∧ (0 : Int) ≤ 8 + (k : Int) ∧ 8 + (k : Int) < 16 ∧ (0 : Int) ≤ (k : Int) ∧ (k : Int) < 16 ∧ (0 : Int) ≤ (c : Int) ∧ (c : Int) < 64 := by
  refine ⟨by rw [IntKind.wrap_i64]; omega, by unfold wrap64; omega, by unfold wrap64; omega, by unfold wrap64; omega, by omega, by omega, by omega, by omega, by omega, by omega, by omega⟩
theorem q_shrn (a : BitVec 64) (n : Nat) : (a.toNat : Int) / 2 ^ n = ((a >>> n).toNat : Int) := by
  have := q_shr a n
  rw [Int.natCast_pow] at this
  exact this
theorem q_low8 (a : BitVec 64) : IntKind.u8.wrap (a.toNat : Int) = ((UInt8.ofBitVec (a.setWidth 8)).toNat : Int) := by
  rw [IntKind.wrap_u8]
  show _ = (((a.setWidth 8).toNat : Nat) : Int)
  rw [BitVec.toNat_setWidth]
  omega
set_option maxRecDepth 100000 in
set_option maxHeartbeats 1000000 in
theorem bytes_e (h l : BitVec 64) (w : World) : Calls Tryd.prog 58 #[.agg #[.int .u64 (h.toNat : Int), .int .u64 (l.toNat : Int)]] w fun e w' => e = .returned (BV (bytesE h l)) ∧ Below w.heap.size w w' := by
  have hz : ∀ W : World, (zeroValue 56).run Tryd.prog W = .ok (BV zero16) W := fun W => by kernel_rfl
  obtain ⟨X, hX⟩ : ∃ X, X = bytesE h l := ⟨_, rfl⟩
  have HXL := Lib.hid (show X.length = 16 by rw [hX]; exact bytesE_length h l)
  have HX0 := Lib.hid (show ∀ k, k < 8 → X.getD k 0 = byteE h k by intro k hk; rw [hX, bytesE_get h l k (by omega), if_pos hk])
  have HX1 := Lib.hid (show ∀ k, k < 8 → X.getD (8 + k) 0 = byteE l k by intro k hk; rw [hX, bytesE_get h l (8 + k) (by omega), if_neg (by omega), show 8 + k - 8 = k by omega])
  rw [← hX]
  clear hX
  obtain ⟨Z6, hZ6⟩ : ∃ Z6, Z6 = zero16 := ⟨_, rfl⟩
  have HZ0 := Lib.hid (show halfTo X 0 = Z6 by rw [hZ6]; rfl)
  have HZL := Lib.hid (show Z6.length = 16 by rw [hZ6]; rfl)
  rw [← hZ6] at hz
  clear hZ6
  go_enter Tryd.func58, Tryd.ntmps58
  go_wp2
  clear hz
  have hA : Blk (((w.alloc (.cells #[.int .u64 (h.toNat : Int), .int .u64 (l.toNat : Int)] 102)).alloc (.cells (Z6.map B8).toArray 56)).alloc (.cells (Z6.map B8).toArray 56)) w.heap.size 102 [.int .u64 (h.toNat : Int), .int .u64 (l.toNat : Int)] := ((Blk.new_of w 102 #[.int .u64 (h.toNat : Int), .int .u64 (l.toNat : Int)] [.int .u64 (h.toNat : Int), .int .u64 (l.toNat : Int)] rfl).alloc _).alloc _
  have hR := (Blk.new2_of w (.cells #[.int .u64 (h.toNat : Int), .int .u64 (l.toNat : Int)] 102) 56 (Z6.map B8).toArray (Z6.map B8) rfl).alloc (.cells (Z6.map B8).toArray 56)
  have hB := Blk.new3_of w (.cells #[.int .u64 (h.toNat : Int), .int .u64 (l.toNat : Int)] 102) (.cells (Z6.map B8).toArray 56) 56 (Z6.map B8).toArray (Z6.map B8) rfl
  have hbw := (((Below.refl w.heap.size w).alloc (Nat.le_refl _) (.cells #[.int .u64 (h.toNat : Int), .int .u64 (l.toNat : Int)] 102)).alloc (by simp) (.cells (Z6.map B8).toArray 56)).alloc (by simp; omega) (.cells (Z6.map B8).toArray 56)
  have hne := (show w.heap.size ≠ w.heap.size + 1 + 1 ∧ w.heap.size + 1 ≠ w.heap.size + 1 + 1 ∧ w.heap.size ≤ w.heap.size + 1 + 1 by omega)
  have hle := (show w.heap.size ≤ w.heap.size + 1 by omega)
  generalize w.heap.size + 1 + 1 = gb at *
  generalize w.heap.size + 1 = gr at *
  go_loopw [4, 5] (fun _ i wr => ∃ k : Nat, k ≤ 8 ∧ i = .int .i64 (k : Int) ∧ Blk wr w.heap.size 102 [.int .u64 (h.toNat : Int), .int .u64 (l.toNat : Int)] ∧ Blk wr gb 56 ((halfTo X k).map B8) ∧ Blk wr gr 56 (Z6.map B8) ∧ Below w.heap.size w wr) (fun _ i _ => 8 - (intOf i).toNat)
  case atStart => exact ⟨0, by omega, rfl, hA, by rw [HZ0.out]; exact hB, hR, hbw⟩
  case round =>
    clear hA hB hR hbw
    obtain ⟨k, hk, rfl, hA, hB, hR, hbw⟩ := hrel
    by_cases hlt : k < 8
    · have hd : decide ((k : Int) < 8) = true := by simp; omega
      have HST := Lib.hid (halfTo_step X k hlt)
      have hx0 := HX0.out k hlt
      have hx1 := HX1.out k hlt
      unfold byteE at hx0 hx1
      have e0 := q_shrn h (56 - 8 * k)
      have e1 := q_shrn l (56 - 8 * k)
      generalize h >>> (56 - 8 * k) = h1 at *
      generalize l >>> (56 - 8 * k) = l1 at *
      have f0 := q_low8 h1
      have f1 := q_low8 l1
      rw [← hx0] at f0
      rw [← hx1] at f1
      have f2 : (h1.toNat : Int) % 256 = ((X.getD k 0).toNat : Int) := by rw [← f0, IntKind.wrap_u8]
      have f3 : (l1.toNat : Int) % 256 = ((X.getD (8 + k) 0).toNat : Int) := by rw [← f1, IntKind.wrap_u8]
      have hl16 := halfTo_length X k
      have hc0 := hB.at8 k (by rw [hl16]; omega)
      have hf0 := hB.frozen k
      have hB1 := hB.set_ k (B8 (X.getD k 0))
      rw [map_set8] at hB1
      have hc1 := hB1.at8 (8 + k) (by rw [List.length_set, hl16]; omega)
      have hf1 := hB1.frozen (8 + k)
      generalize X.getD k 0 = x0 at *
      generalize X.getD (8 + k) 0 = x1 at *
      have k0 := (show Blk _ _ _ [.int .u64 (h.toNat : Int), .int .u64 (l.toNat : Int)] from hA).cell 0
      have k1 := (show Blk _ _ _ [.int .u64 (h.toNat : Int), .int .u64 (l.toNat : Int)] from (hA.far (p := ⟨gb, k, none⟩) (by simp; exact hne.1) (B8 x0))).cell 1
      simp only [List.getElem?_cons_zero, List.getElem?_cons_succ] at k0 k1
      obtain ⟨g1, g2, g3, g4, g5, g6, g7, g8, g9, g10, g11⟩ := ix_e k (56 - 8 * k) hlt rfl
      have hA1 := hA.far (p := ⟨gb, k, none⟩) (by simp; exact hne.1) (.int .u8 (x0.toNat : Int))
      have hR1 := hR.far (p := ⟨gb, k, none⟩) (by simp; exact hne.2.1) (.int .u8 (x0.toNat : Int))
      have hbw1 := hbw.setCell (p := ⟨gb, k, none⟩) (by simp; exact hne.2.2) (.int .u8 (x0.toNat : Int))
      change Blk (wr.setCell ⟨gb, k, none⟩ (.int .u8 (x0.toNat : Int))) gb 56 _ at hB1
      change (wr.setCell ⟨gb, k, none⟩ (.int .u8 (x0.toNat : Int))).cell? _ = _ at hc1
      change (wr.setCell ⟨gb, k, none⟩ (.int .u8 (x0.toNat : Int))).frozen? _ = _ at hf1
      change (wr.setCell ⟨gb, k, none⟩ (.int .u8 (x0.toNat : Int))).cell? _ = _ at k1
      replace hc1 := Lib.hid hc1
      replace hf1 := Lib.hid hf1
      replace k1 := Lib.hid k1
      clear hx0 hx1 hl16 hA hR hbw hB
      replace g4 := Lib.hid g4
      replace g5 := Lib.hid g5
      replace g6 := Lib.hid g6
      replace g7 := Lib.hid g7
      replace e1 := Lib.hid e1
      replace f1 := Lib.hid f1
      replace f3 := Lib.hid f3
      clear g1 g3 g10 g11
      go_upto_region 6 with fail
      clear hc0 hf0 k0 e0 f0 f2 g9
      generalize wr.setCell ⟨gb, k, none⟩ (.int .u8 (x0.toNat : Int)) = w6 at *
      replace hc1 := hc1.out
      replace hf1 := hf1.out
      replace k1 := k1.out
      replace g4 := g4.out
      replace g5 := g5.out
      replace g6 := g6.out
      replace g7 := g7.out
      replace e1 := e1.out
      replace f1 := f1.out
      replace f3 := f3.out
      go_wp2
      go_roundw
      case rel =>
        refine ⟨k + 1, by omega, by go_num, hA1.far (by simp; exact hne.1) _, ?_, hR1.far (by simp; exact hne.2.1) _, hbw1.setCell (by simp; exact hne.2.2) _⟩
        rw [← HST.out, ← map_set8]
        exact hB1.set_ (8 + k) _
      case measure => simp [intOf]; omega
    · have hd : decide ((k : Int) < 8) = false := by simp; omega
      obtain rfl : k = 8 := by omega
      rw [halfTo_all X HXL.out] at hB
      clear hA
      go_wp2_with (first
        | (refine wpList_load_blk rfl 56 (.tmp 3) rfl gb rfl 56 _ _ hB Tryd.underlying56 rfl (infoBk.trans (by rw [List.length_map, HXL.out])) ?_)
        | (refine wpList_store_blk rfl 56 (.tmp 2) (.tmp 28) rfl rfl gr _ rfl rfl 56 _ hR (infoBk.trans (by rw [List.length_map, HXL.out])) (by rw [List.length_map, List.length_map, HXL.out, HZL.out]) (one8 _) ?_; intro w7 hA7 hg7))
      refine bodyPost_ret (v := .agg _) (results_cell_row rfl _ _ gr 56 _ (0, 0) _ rfl hA7.raw Tryd.underlying56 rfl (infoBk.trans (by rw [List.size_toArray, List.length_map, HXL.out]))) rfl ⟨rfl, below_new hbw hg7 hle hbw.size⟩

end
section
open Go.RowKit
/-- What sixteen bytes are as an element. -/
def elE (b : List UInt8) : BitVec 128 := cat (wordTo b 0 8) (wordTo b 8 8)
def prodG (a b : List UInt8) : G6 := gN (wordTo a 0 8) (wordTo a 8 8) (wordTo b 0 8) (wordTo b 8 8) 128
def prodE (a b : List UInt8) : List UInt8 := bytesE (prodG a b).s0 (prodG a b).s1
theorem prodE_length (a b : List UInt8) : (prodE a b).length = 16 := bytesE_length _ _
theorem prodG_el (a b : List UInt8) : cat (prodG a b).s0 (prodG a b).s1 = gmul (elE a) (elE b) := gN_mul _ _ _ _
end
section
open Go.RowKit
theorem wordTo_bit (b : List UInt8) (o k : Nat) (hk : k ≤ 8) (j : Nat) (hj : j < 64) : (wordTo b o k).getLsbD j = (decide (j < 8 * k) && (b.getD (o + (k - 1 - j / 8)) 0).toBitVec.getLsbD (j % 8)) := by
  induction k generalizing j with
  | zero => simp [wordTo]
  | succ k ih =>
    rw [wordTo, BitVec.getLsbD_or, BitVec.getLsbD_shiftLeft, BitVec.getLsbD_setWidth]
    by_cases h8 : j < 8
    · have e1 : o + (k + 1 - 1 - j / 8) = o + k := by omega
      have e2 : j % 8 = j := by omega
      have e3 : decide (j < 8 * (k + 1)) = true := by simp; omega
      rw [e1, e2, e3]
      simp [h8, hj]
    · have e0 : (b.getD (o + k) 0).toBitVec.getLsbD j = false := BitVec.getLsbD_of_ge _ _ (by omega)
      rw [ih (by omega) (j - 8) (by omega), e0]
      have e1 : k - 1 - (j - 8) / 8 = k + 1 - 1 - j / 8 := by omega
      have e2 : (j - 8) % 8 = j % 8 := by omega
      have e3 : decide (j - 8 < 8 * k) = decide (j < 8 * (k + 1)) := by
        rw [decide_eq_decide]; omega
      rw [e1, e2, e3]
      simp [hj, h8]
theorem byteE_bit (v : BitVec 64) (k t : Nat) (ht : t < 8) : (byteE v k).toBitVec.getLsbD t = v.getLsbD (56 - 8 * k + t) := by
  show ((v >>> (56 - 8 * k)).setWidth 8).getLsbD t = _
  rw [BitVec.getLsbD_setWidth, BitVec.getLsbD_ushiftRight]
  simp [ht]
theorem word_hi (h l : BitVec 64) : wordTo (bytesE h l) 0 8 = h := by
  apply BitVec.eq_of_getLsbD_eq
  intro j hj
  rw [wordTo_bit _ _ 8 (Nat.le_refl _) j hj, bytesE_get h l _ (by omega), if_pos (by omega), byteE_bit _ _ _ (by omega)]
  have e1 : decide (j < 8 * 8) = true := by simp; omega
  have e2 : 56 - 8 * (0 + (8 - 1 - j / 8)) + j % 8 = j := by omega
  rw [e1, e2]; rfl
theorem word_lo (h l : BitVec 64) : wordTo (bytesE h l) 8 8 = l := by
  apply BitVec.eq_of_getLsbD_eq
  intro j hj
  rw [wordTo_bit _ _ 8 (Nat.le_refl _) j hj, bytesE_get h l _ (by omega), if_neg (by omega), byteE_bit _ _ _ (by omega)]
  have e1 : decide (j < 8 * 8) = true := by simp; omega
  have e2 : 56 - 8 * (8 + (8 - 1 - j / 8) - 8) + j % 8 = j := by omega
  rw [e1, e2]; rfl
theorem elE_bytes (h l : BitVec 64) : elE (bytesE h l) = cat h l := by
  unfold elE
  rw [word_hi, word_lo]
theorem byteE_word (b : List UInt8) (o k : Nat) (hk : k < 8) : byteE (wordTo b o 8) k = b.getD (o + k) 0 := by
  apply UInt8.toBitVec_inj.1
  apply BitVec.eq_of_getLsbD_eq
  intro t ht
  rw [byteE_bit _ _ _ ht, wordTo_bit _ _ 8 (Nat.le_refl _) _ (by omega)]
  have e1 : decide (56 - 8 * k + t < 8 * 8) = true := by simp; omega
  have e2 : 8 - 1 - (56 - 8 * k + t) / 8 = k := by omega
  have e3 : (56 - 8 * k + t) % 8 = t := by omega
  rw [e1, e2, e3]; rfl
theorem bytesE_words (b : List UInt8) (hb : b.length = 16) : bytesE (wordTo b 0 8) (wordTo b 8 8) = b := by
  apply List.ext_getElem?
  intro i
  by_cases hi : i < 16
  · have h1 := bytesE_get (wordTo b 0 8) (wordTo b 8 8) i hi
    have h2 : (bytesE (wordTo b 0 8) (wordTo b 8 8)).getD i 0 = b.getD i 0 := by
      rw [h1]
      by_cases h8 : i < 8
      · rw [if_pos h8, byteE_word b 0 i h8, Nat.zero_add]
      · rw [if_neg h8, byteE_word b 8 (i - 8) (by omega), show 8 + (i - 8) = i by omega]
    rw [List.getD_eq_getElem?_getD, List.getD_eq_getElem?_getD, List.getElem?_eq_getElem (by rw [bytesE_length]; exact hi), List.getElem?_eq_getElem (by omega)] at h2
    rw [List.getElem?_eq_getElem (by rw [bytesE_length]; exact hi), List.getElem?_eq_getElem (by omega)]
    exact congrArg some h2
  · rw [List.getElem?_eq_none (by rw [bytesE_length]; omega), List.getElem?_eq_none (by omega)]
theorem cat_inj {a b c d : BitVec 64} (h : cat a b = cat c d) : a = c ∧ b = d := by
  have hb : ∀ i, (cat a b).getLsbD i = (cat c d).getLsbD i := fun i => by rw [h]
  refine ⟨BitVec.eq_of_getLsbD_eq fun j hj => ?_, BitVec.eq_of_getLsbD_eq fun j hj => ?_⟩
  · have := hb (64 + j)
    rw [cat_bit, cat_bit, if_neg (by omega), if_neg (by omega), show 64 + j - 64 = j by omega] at this
    exact this
  · have := hb j
    rw [cat_bit, cat_bit, if_pos hj, if_pos hj] at this
    exact this
/-- Two rows of sixteen bytes that are one element are one row. -/
theorem elE_inj {a b : List UInt8} (ha : a.length = 16) (hb : b.length = 16) (h : elE a = elE b) : a = b := by
  obtain ⟨h1, h2⟩ := cat_inj h
  rw [← bytesE_words a ha, ← bytesE_words b hb, h1, h2]
theorem elE_prod (a b : List UInt8) : elE (prodE a b) = gmul (elE a) (elE b) := by
  unfold prodE
  rw [elE_bytes, prodG_el]
/-- Two rows put together, byte by byte. -/
def putE (a b : List UInt8) : List UInt8 := List.zipWith (· ^^^ ·) a b
theorem putE_length {a b : List UInt8} (ha : a.length = 16) (hb : b.length = 16) : (putE a b).length = 16 := by simp [putE, ha, hb]
theorem putE_get {a b : List UInt8} (ha : a.length = 16) (hb : b.length = 16) (i : Nat) (hi : i < 16) : (putE a b).getD i 0 = a.getD i 0 ^^^ b.getD i 0 := by
  simp [putE, List.getD_eq_getElem?_getD, ha, hb, hi]
theorem wordTo_put {a b : List UInt8} (ha : a.length = 16) (hb : b.length = 16) (o : Nat) (ho : o ≤ 8) : wordTo (putE a b) o 8 = wordTo a o 8 ^^^ wordTo b o 8 := by
  apply BitVec.eq_of_getLsbD_eq
  intro j hj
  rw [BitVec.getLsbD_xor, wordTo_bit _ _ 8 (Nat.le_refl _) j hj, wordTo_bit _ _ 8 (Nat.le_refl _) j hj, wordTo_bit _ _ 8 (Nat.le_refl _) j hj, putE_get ha hb _ (by omega), UInt8.toBitVec_xor, BitVec.getLsbD_xor]
  have e1 : decide (j < 8 * 8) = true := by simp; omega
  rw [e1]; simp
theorem elE_put {a b : List UInt8} (ha : a.length = 16) (hb : b.length = 16) : elE (putE a b) = elE a ^^^ elE b := by
  unfold elE
  rw [wordTo_put ha hb 0 (by omega), wordTo_put ha hb 8 (by omega), cat_xor]
/-- The laws of products, of bytes. -/
theorem prodE_comm {a b : List UInt8} : prodE a b = prodE b a := elE_inj (prodE_length _ _) (prodE_length _ _) (by rw [elE_prod, elE_prod, gmul_comm])
theorem prodE_assoc {a b c : List UInt8} : prodE (prodE a b) c = prodE a (prodE b c) := elE_inj (prodE_length _ _) (prodE_length _ _) (by rw [elE_prod, elE_prod, elE_prod, elE_prod, gmul_assoc])
theorem prodE_put {a b c : List UInt8} (hb : b.length = 16) (hc : c.length = 16) : prodE a (putE b c) = putE (prodE a b) (prodE a c) :=
  elE_inj (prodE_length _ _) (putE_length (prodE_length _ _) (prodE_length _ _)) (by rw [elE_prod, elE_put hb hc, gmul_xor, elE_put (prodE_length _ _) (prodE_length _ _), elE_prod, elE_prod])

end
section
open Go.RowKit
theorem elE_bit (b : List UInt8) (j : Nat) (hj : j < 128) : (elE b).getLsbD j = (b.getD (15 - j / 8) 0).toBitVec.getLsbD (j % 8) := by
  unfold elE
  rw [cat_bit]
  by_cases h : j < 64
  · rw [if_pos h, wordTo_bit _ _ 8 (Nat.le_refl _) j h]
    have e1 : decide (j < 8 * 8) = true := by simp; omega
    have e2 : 8 + (8 - 1 - j / 8) = 15 - j / 8 := by omega
    rw [e1, e2]; rfl
  · rw [if_neg h, wordTo_bit _ _ 8 (Nat.le_refl _) (j - 64) (by omega)]
    have e1 : decide (j - 64 < 8 * 8) = true := by simp; omega
    have e2 : 0 + (8 - 1 - (j - 64) / 8) = 15 - j / 8 := by omega
    have e3 : (j - 64) % 8 = j % 8 := by omega
    rw [e1, e2, e3]; rfl
/-- Whether the i-th coefficient is there. -/
theorem elE_top (b : List UInt8) (i : Nat) (hi : i < 128) : (elE b).getMsbD i = decide ((b.getD (i / 8) 0).toNat / 2 ^ (7 - i % 8) % 2 = 1) := by
  have e3 : decide (i < 128) = true := by simp; omega
  rw [BitVec.getMsbD, e3, Bool.true_and, elE_bit b _ (by omega)]
  have e1 : 15 - (128 - 1 - i) / 8 = i / 8 := by omega
  have e2 : (128 - 1 - i) % 8 = 7 - i % 8 := by omega
  rw [e1, e2, BitVec.getLsbD, Nat.testBit, Nat.shiftRight_eq_div_pow]
  show (1 &&& _ != 0) = _
  rw [Nat.and_comm, Nat.and_one_is_mod]
  show ((b.getD (i / 8) 0).toNat / 2 ^ (7 - i % 8) % 2 != 0) = _
  rcases Nat.mod_two_eq_zero_or_one ((b.getD (i / 8) 0).toNat / 2 ^ (7 - i % 8)) with h | h <;> rw [h] <;> rfl
/-- All bits one place on. -/
def shrB (v : List UInt8) (k : Nat) : UInt8 := (v.getD k 0 >>> 1) ||| (if k = 0 then (0 : UInt8) else v.getD (k - 1) 0 <<< 7)
def shrE (v : List UInt8) : List UInt8 := (List.range 16).map (shrB v)
theorem shrE_length (v : List UInt8) : (shrE v).length = 16 := by simp [shrE]
theorem shrE_get (v : List UInt8) (k : Nat) (hk : k < 16) : (shrE v).getD k 0 = shrB v k := by
  simp [shrE, List.getD_eq_getElem?_getD, hk]
theorem shr1_bit (x : UInt8) (t : Nat) : (x >>> 1).toBitVec.getLsbD t = x.toBitVec.getLsbD (t + 1) := by
  rw [UInt8.toBitVec_shiftRight]
  show (x.toBitVec >>> (1 % 8)).getLsbD t = _
  rw [BitVec.getLsbD_ushiftRight, show 1 % 8 + t = t + 1 by omega]
theorem shl7_bit (x : UInt8) (t : Nat) (ht : t < 8) : (x <<< 7).toBitVec.getLsbD t = (decide (t = 7) && x.toBitVec.getLsbD 0) := by
  rw [UInt8.toBitVec_shiftLeft]
  show (x.toBitVec <<< (7 % 8)).getLsbD t = _
  rw [BitVec.getLsbD_shiftLeft]
  by_cases h : t = 7
  · subst h; simp
  · have e : decide (t < 7 % 8) = true := by simp; omega
    rw [e]; simp [h]
theorem elE_shr (v : List UInt8) : elE (shrE v) = (elE v) >>> 1 := by
  apply BitVec.eq_of_getLsbD_eq
  intro j hj
  rw [elE_bit _ j hj, shrE_get _ _ (by omega), BitVec.getLsbD_ushiftRight]
  unfold shrB
  rw [UInt8.toBitVec_or, BitVec.getLsbD_or, shr1_bit]
  by_cases h7 : j % 8 = 7
  · have e0 : (v.getD (15 - j / 8) 0).toBitVec.getLsbD (j % 8 + 1) = false := BitVec.getLsbD_of_ge _ _ (by omega)
    rw [e0, Bool.false_or]
    by_cases h0 : 15 - j / 8 = 0
    · rw [if_pos h0, BitVec.getLsbD_of_ge (elE v) (1 + j) (by omega)]
      simp
    · rw [if_neg h0, shl7_bit _ _ (by omega), elE_bit v (1 + j) (by omega)]
      have e1 : 15 - j / 8 - 1 = 15 - (1 + j) / 8 := by omega
      have e2 : (1 + j) % 8 = 0 := by omega
      rw [e1, e2, h7]; rfl
  · rw [elE_bit v (1 + j) (by omega)]
    have e1 : (1 + j) / 8 = j / 8 := by omega
    have e2 : (1 + j) % 8 = j % 8 + 1 := by omega
    have e3 : (if 15 - j / 8 = 0 then (0 : UInt8) else v.getD (15 - j / 8 - 1) 0 <<< 7).toBitVec.getLsbD (j % 8) = false := by
      split
      · simp
      · rw [shl7_bit _ _ (by omega)]; simp [h7]
    rw [e1, e2, e3, Bool.or_false]
def overE : List UInt8 := [0xE1, 0, 0, 0, 0, 0, 0, 0, 0, 0, 0, 0, 0, 0, 0, 0]
theorem elE_over : elE overE = 0xe1000000000000000000000000000000#128 := by decide +kernel
theorem set_over (v : List UInt8) (hv : v.length = 16) : v.set 0 (v.getD 0 0 ^^^ 0xE1) = putE v overE := by
  match v, hv with
  | [a0, a1, a2, a3, a4, a5, a6, a7, a8, a9, a10, a11, a12, a13, a14, a15], _ => simp [putE, overE]
/-- A step's row. -/
def stepE (v : List UInt8) : List UInt8 := if (v.getD 15 0).toNat % 2 = 1 then putE (shrE v) overE else shrE v
theorem stepE_length (v : List UInt8) : (stepE v).length = 16 := by
  unfold stepE
  split
  · exact putE_length (shrE_length v) rfl
  · exact shrE_length v
theorem elE_step (v : List UInt8) : elE (stepE v) = gX (elE v) := by
  have hb : (elE v).getLsbD 0 = decide ((v.getD 15 0).toNat % 2 = 1) := by
    have := elE_top v 127 (by omega)
    rw [BitVec.getMsbD] at this
    have e1 : (128 - 1 - 127) = 0 := rfl
    have e2 : decide (127 < 128) = true := rfl
    have e3 : 2 ^ (7 - 127 % 8) = 1 := rfl
    have e4 : 127 / 8 = 15 := rfl
    rw [e1, e2, e3, e4, Nat.div_one, Bool.true_and] at this
    exact this
  unfold stepE gX
  rw [hb]
  by_cases h : (v.getD 15 0).toNat % 2 = 1
  · rw [if_pos h, elE_put (shrE_length v) rfl, elE_shr, elE_over, if_pos (decide_eq_true h)]
  · rw [if_neg h, elE_shr, if_neg (by rw [decide_eq_false h]; decide), BitVec.xor_zero]
/-- The rows on their way. -/
def vE (b : List UInt8) : Nat → List UInt8
  | 0 => b
  | k + 1 => stepE (vE b k)
def zE (a b : List UInt8) : Nat → List UInt8
  | 0 => [0, 0, 0, 0, 0, 0, 0, 0, 0, 0, 0, 0, 0, 0, 0, 0]
  | k + 1 => if (a.getD (k / 8) 0).toNat / 2 ^ (7 - k % 8) % 2 = 1 then putE (zE a b k) (vE b k) else zE a b k
theorem vE_length {b : List UInt8} (hb : b.length = 16) (k : Nat) : (vE b k).length = 16 := by
  cases k with
  | zero => exact hb
  | succ k => exact stepE_length _
theorem zE_length {a b : List UInt8} (hb : b.length = 16) (k : Nat) : (zE a b k).length = 16 := by
  induction k with
  | zero => rfl
  | succ k ih =>
    rw [zE]
    split
    · exact putE_length ih (vE_length hb k)
    · exact ih
theorem vE_el (b : List UInt8) (k : Nat) : elE (vE b k) = gXn (elE b) k := by
  induction k with
  | zero => rfl
  | succ k ih => rw [vE, elE_step, ih]; rfl
theorem zE_el (a b : List UInt8) (hb : b.length = 16) (k : Nat) (hk : k ≤ 128) : elE (zE a b k) = gTo (elE a) (elE b) k := by
  induction k with
  | zero =>
    show elE [0, 0, 0, 0, 0, 0, 0, 0, 0, 0, 0, 0, 0, 0, 0, 0] = 0#128
    decide +kernel
  | succ k ih =>
    rw [zE, gTo, elE_top a k (by omega)]
    by_cases h : (a.getD (k / 8) 0).toNat / 2 ^ (7 - k % 8) % 2 = 1
    · rw [if_pos h, elE_put (zE_length hb k) (vE_length hb k), ih (by omega), vE_el, if_pos (decide_eq_true h)]
    · rw [if_neg h, ih (by omega), if_neg (by rw [decide_eq_false h]; decide), BitVec.xor_zero]
/-- The reference's product is the code's. -/
theorem zE_prod (a b : List UInt8) (hb : b.length = 16) : zE a b 128 = prodE a b :=
  elE_inj (zE_length hb 128) (prodE_length a b) (by rw [zE_el a b hb 128 (Nat.le_refl _), elE_prod]; rfl)

end
end Go.Proofs.YtnjpcbbdhimacaaDoor
