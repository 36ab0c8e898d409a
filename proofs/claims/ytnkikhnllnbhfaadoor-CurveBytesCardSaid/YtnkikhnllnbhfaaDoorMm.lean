/-
  Mm.
-/
import Derived.WalkKit
namespace Go.Proofs.YtnkikhnllnbhfaaDoor
/-- Four limbs, the lowest first. -/
structure P4 where
  a : Nat
  b : Nat
  c : Nat
  d : Nat
def P4.val (x : P4) : Nat := x.a + 18446744073709551616 * x.b + 340282366920938463463374607431768211456 * x.c + 6277101735386680763835789423207666416102355444464034512896 * x.d
structure P4.ok (x : P4) : Prop where
  a : x.a < 18446744073709551616
  b : x.b < 18446744073709551616
  c : x.c < 18446744073709551616
  d : x.d < 18446744073709551616
/-- 2^256. -/
abbrev B256 : Nat := 115792089237316195423570985008687907853269984665640564039457584007913129639936
theorem P4.lt {x : P4} (h : x.ok) : x.val < B256 := by
  obtain ⟨h1, h2, h3, h4⟩ := h; unfold P4.val B256; omega
theorem P4.ext_val {x y : P4} (hx : x.ok) (hy : y.ok) (h : x.val = y.val) : x = y := by
  obtain ⟨h1, h2, h3, h4⟩ := hx; obtain ⟨g1, g2, g3, g4⟩ := hy
  unfold P4.val at h
  cases x; cases y
  simp only [P4.mk.injEq] at *
  omega
def zeroP : P4 := ⟨0, 0, 0, 0⟩
def oneP : P4 := ⟨1, 0, 0, 0⟩
theorem zeroP_ok : zeroP.ok := ⟨by decide, by decide, by decide, by decide⟩
theorem oneP_ok : oneP.ok := ⟨by decide, by decide, by decide, by decide⟩
theorem zeroP_val : zeroP.val = 0 := rfl
theorem oneP_val : oneP.val = 1 := rfl

/-- A sum of two limbs and a carry: the limb, and what goes over. -/
def adS (x y c : Nat) : Nat := (x + y + c) % 18446744073709551616
def adC (x y c : Nat) : Nat := (x + y + c) / 18446744073709551616
/-- A difference, and what is borrowed. -/
def sbS (x y b : Nat) : Nat := (x + 18446744073709551616 - y - b) % 18446744073709551616
def sbC (x y b : Nat) : Nat := if x < y + b then 1 else 0
theorem adS_lt (x y c : Nat) : adS x y c < 18446744073709551616 := Nat.mod_lt _ (by decide)
theorem sbS_lt (x y c : Nat) : sbS x y c < 18446744073709551616 := Nat.mod_lt _ (by decide)
theorem ad_eq (x y c : Nat) : adS x y c + 18446744073709551616 * adC x y c = x + y + c := Nat.mod_add_div _ _
theorem adC_le {x y c : Nat} (hx : x < 18446744073709551616) (hy : y < 18446744073709551616) (hc : c ≤ 1) : adC x y c ≤ 1 := by
  unfold adC; omega
theorem sbC_le (x y b : Nat) : sbC x y b ≤ 1 := by unfold sbC; split <;> omega
theorem sb_eq {x y b : Nat} (hx : x < 18446744073709551616) (hy : y < 18446744073709551616) (hb : b ≤ 1) : sbS x y b + y + b = x + 18446744073709551616 * sbC x y b := by
  unfold sbS sbC
  split <;> omega

def plusP (x y : P4) : P4 := ⟨adS x.a y.a 0, adS x.b y.b (adC x.a y.a 0), adS x.c y.c (adC x.b y.b (adC x.a y.a 0)), adS x.d y.d (adC x.c y.c (adC x.b y.b (adC x.a y.a 0)))⟩
def plusC (x y : P4) : Nat := adC x.d y.d (adC x.c y.c (adC x.b y.b (adC x.a y.a 0)))
theorem plusP_ok (x y : P4) : (plusP x y).ok := ⟨adS_lt _ _ _, adS_lt _ _ _, adS_lt _ _ _, adS_lt _ _ _⟩
theorem plus_eq (x y : P4) : (plusP x y).val + B256 * plusC x y = x.val + y.val := by
  have h1 := ad_eq x.a y.a 0
  have h2 := ad_eq x.b y.b (adC x.a y.a 0)
  have h3 := ad_eq x.c y.c (adC x.b y.b (adC x.a y.a 0))
  have h4 := ad_eq x.d y.d (adC x.c y.c (adC x.b y.b (adC x.a y.a 0)))
  unfold P4.val plusP plusC B256
  simp only []
  omega
theorem plusC_le {x y : P4} (hx : x.ok) (hy : y.ok) : plusC x y ≤ 1 :=
  adC_le hx.d hy.d (adC_le hx.c hy.c (adC_le hx.b hy.b (adC_le hx.a hy.a (by decide))))

def minusP (x y : P4) : P4 := ⟨sbS x.a y.a 0, sbS x.b y.b (sbC x.a y.a 0), sbS x.c y.c (sbC x.b y.b (sbC x.a y.a 0)), sbS x.d y.d (sbC x.c y.c (sbC x.b y.b (sbC x.a y.a 0)))⟩
def minusC (x y : P4) : Nat := sbC x.d y.d (sbC x.c y.c (sbC x.b y.b (sbC x.a y.a 0)))
theorem minusP_ok (x y : P4) : (minusP x y).ok := ⟨sbS_lt _ _ _, sbS_lt _ _ _, sbS_lt _ _ _, sbS_lt _ _ _⟩
theorem minusC_le (x y : P4) : minusC x y ≤ 1 := sbC_le _ _ _
theorem minus_eq {x y : P4} (hx : x.ok) (hy : y.ok) : (minusP x y).val + y.val = x.val + B256 * minusC x y := by
  have h1 := sb_eq hx.a hy.a (b := 0) (by decide)
  have h2 := sb_eq hx.b hy.b (sbC_le x.a y.a 0)
  have h3 := sb_eq hx.c hy.c (sbC_le x.b y.b (sbC x.a y.a 0))
  have h4 := sb_eq hx.d hy.d (sbC_le x.c y.c (sbC x.b y.b (sbC x.a y.a 0)))
  unfold P4.val minusP minusC B256
  simp only []
  omega
theorem minusC_eq {x y : P4} (hx : x.ok) (hy : y.ok) : minusC x y = if x.val < y.val then 1 else 0 := by
  have h := minus_eq hx hy
  have h1 := P4.lt (minusP_ok x y)
  have h2 := P4.lt hx
  have h3 := P4.lt hy
  have h4 := minusC_le x y
  unfold B256 at *
  split <;> omega
/-- The one or the other. -/
def chooseP (k : Nat) (x y : P4) : P4 := if k = 1 then x else y
theorem chooseP_ok {k : Nat} {x y : P4} (hx : x.ok) (hy : y.ok) : (chooseP k x y).ok := by unfold chooseP; split <;> assumption

/-- So much is put to x times y: the lower and the upper limb. -/
def ppLo (a b x y : Nat) : Nat := (x * y + a + b) % 18446744073709551616
def ppHi (a b x y : Nat) : Nat := (x * y + a + b) / 18446744073709551616
theorem ppLo_lt (a b x y : Nat) : ppLo a b x y < 18446744073709551616 := Nat.mod_lt _ (by decide)
theorem pp_eq (a b x y : Nat) : ppLo a b x y + 18446744073709551616 * ppHi a b x y = x * y + a + b := Nat.mod_add_div _ _
theorem mul_small {x y : Nat} (hx : x < 18446744073709551616) (hy : y < 18446744073709551616) : x * y ≤ 340282366920938463426481119284349108225 := by
  have := Nat.mul_le_mul (show x ≤ 18446744073709551615 by omega) (show y ≤ 18446744073709551615 by omega)
  omega
theorem ppHi_lt {a b x y : Nat} (ha : a < 18446744073709551616) (hb : b < 18446744073709551616) (hx : x < 18446744073709551616) (hy : y < 18446744073709551616) : ppHi a b x y < 18446744073709551616 := by
  have := mul_small hx hy
  unfold ppHi; omega

/-- One step of a product. -/
structure PS where
  s : P4
  top : Nat
def q1 (f : Nat) (y : P4) (t : Nat) (z : PS) : Nat := ppLo z.s.a 0 t y.a * f % 18446744073709551616
def k4 (y : P4) (t : Nat) (z : PS) : Nat := ppHi z.s.d (ppHi z.s.c (ppHi z.s.b (ppHi z.s.a 0 t y.a) t y.b) t y.c) t y.d
def mid (y : P4) (t : Nat) (z : PS) : P4 := ⟨ppLo z.s.a 0 t y.a, ppLo z.s.b (ppHi z.s.a 0 t y.a) t y.b, ppLo z.s.c (ppHi z.s.b (ppHi z.s.a 0 t y.a) t y.b) t y.c, ppLo z.s.d (ppHi z.s.c (ppHi z.s.b (ppHi z.s.a 0 t y.a) t y.b) t y.c) t y.d⟩
def low2 (n : P4) (q : Nat) (m : P4) : P4 × Nat :=
  (⟨ppLo m.b (ppHi m.a 0 q n.a) q n.b, ppLo m.c (ppHi m.b (ppHi m.a 0 q n.a) q n.b) q n.c, ppLo m.d (ppHi m.c (ppHi m.b (ppHi m.a 0 q n.a) q n.b) q n.c) q n.d, 0⟩, ppHi m.d (ppHi m.c (ppHi m.b (ppHi m.a 0 q n.a) q n.b) q n.c) q n.d)
def psStep (n : P4) (f : Nat) (y : P4) (t : Nat) (z : PS) : PS :=
  let m := mid y t z
  let q := q1 f y t z
  let r := low2 n q m
  ⟨⟨r.1.a, r.1.b, r.1.c, adS (adS z.top (k4 y t z) 0) r.2 0⟩, adC z.top (k4 y t z) 0 + adC (adS z.top (k4 y t z) 0) r.2 0⟩
def PS.tot (z : PS) : Nat := z.s.val + B256 * z.top
theorem mid_ok (y : P4) (t : Nat) (z : PS) : (mid y t z).ok := ⟨ppLo_lt _ _ _ _, ppLo_lt _ _ _ _, ppLo_lt _ _ _ _, ppLo_lt _ _ _ _⟩
theorem mid_eq (y : P4) (t : Nat) (z : PS) : (mid y t z).val + B256 * k4 y t z = z.s.val + t * y.val := by
  have h1 := pp_eq z.s.a 0 t y.a
  have h2 := pp_eq z.s.b (ppHi z.s.a 0 t y.a) t y.b
  have h3 := pp_eq z.s.c (ppHi z.s.b (ppHi z.s.a 0 t y.a) t y.b) t y.c
  have h4 := pp_eq z.s.d (ppHi z.s.c (ppHi z.s.b (ppHi z.s.a 0 t y.a) t y.b) t y.c) t y.d
  have e : t * y.val = t * y.a + 18446744073709551616 * (t * y.b) + 340282366920938463463374607431768211456 * (t * y.c) + 6277101735386680763835789423207666416102355444464034512896 * (t * y.d) := by
    unfold P4.val
    rw [Nat.mul_add, Nat.mul_add, Nat.mul_add, Nat.mul_left_comm t, Nat.mul_left_comm t, Nat.mul_left_comm t]
  rw [e]
  unfold P4.val mid k4 B256
  simp only []
  omega
theorem drop_zero {n : P4} {f : Nat} (hf : n.a * f % 18446744073709551616 = 18446744073709551615) (v : Nat) : ppLo v 0 (v * f % 18446744073709551616) n.a = 0 := by
  unfold ppLo
  rw [Nat.add_zero, Nat.add_mod, Nat.mul_mod, Nat.mod_mod, ← Nat.mul_mod, ← Nat.add_mod]
  have e : v * f * n.a + v = v * (n.a * f + 1) := by rw [Nat.mul_add, Nat.mul_one, Nat.mul_assoc, Nat.mul_comm f n.a]
  rw [e, Nat.mul_mod]
  have : (n.a * f + 1) % 18446744073709551616 = 0 := by omega
  rw [this]; simp
theorem low2_eq (n : P4) (q : Nat) (m : P4) (hz : ppLo m.a 0 q n.a = 0) : 18446744073709551616 * ((low2 n q m).1.val + 6277101735386680763835789423207666416102355444464034512896 * (low2 n q m).2) = m.val + q * n.val := by
  have h1 := pp_eq m.a 0 q n.a
  have h2 := pp_eq m.b (ppHi m.a 0 q n.a) q n.b
  have h3 := pp_eq m.c (ppHi m.b (ppHi m.a 0 q n.a) q n.b) q n.c
  have h4 := pp_eq m.d (ppHi m.c (ppHi m.b (ppHi m.a 0 q n.a) q n.b) q n.c) q n.d
  have e : q * n.val = q * n.a + 18446744073709551616 * (q * n.b) + 340282366920938463463374607431768211456 * (q * n.c) + 6277101735386680763835789423207666416102355444464034512896 * (q * n.d) := by
    unfold P4.val
    rw [Nat.mul_add, Nat.mul_add, Nat.mul_add, Nat.mul_left_comm q, Nat.mul_left_comm q, Nat.mul_left_comm q]
  rw [e]
  rw [hz] at h1
  unfold P4.val low2
  simp only []
  omega
theorem psStep_eq {n : P4} {f : Nat} (hf : n.a * f % 18446744073709551616 = 18446744073709551615) (y : P4) (t : Nat) (z : PS) :
    18446744073709551616 * (psStep n f y t z).tot = z.tot + t * y.val + q1 f y t z * n.val := by
  have h1 := mid_eq y t z
  have h2 := low2_eq n (q1 f y t z) (mid y t z) (drop_zero hf _)
  have h3 := ad_eq z.top (k4 y t z) 0
  have h4 := ad_eq (adS z.top (k4 y t z) 0) (low2 n (q1 f y t z) (mid y t z)).2 0
  unfold PS.tot psStep
  simp only [P4.val, B256] at *
  generalize (low2 n (q1 f y t z) (mid y t z)).2 = r2 at *
  have hd : (low2 n (q1 f y t z) (mid y t z)).1.d = 0 := rfl
  rw [hd] at h2
  omega
theorem psStep_ok {n : P4} {f : Nat} {y : P4} {t : Nat} {z : PS} (hn : n.ok) (hy : y.ok) (hz : z.s.ok) (ht : t < 18446744073709551616) (hp : z.top < 18446744073709551616) : (psStep n f y t z).s.ok ∧ (psStep n f y t z).top ≤ 2 ∧ adC z.top (k4 y t z) 0 ≤ 1 := by
  have hq : q1 f y t z < 18446744073709551616 := Nat.mod_lt _ (by decide)
  have hm := mid_ok y t z
  have hk : k4 y t z < 18446744073709551616 := ppHi_lt hz.d (ppHi_lt hz.c (ppHi_lt hz.b (ppHi_lt hz.a (by decide) ht hy.a) ht hy.b) ht hy.c) ht hy.d
  have hr : (low2 n (q1 f y t z) (mid y t z)).2 < 18446744073709551616 := ppHi_lt hm.d (ppHi_lt hm.c (ppHi_lt hm.b (ppHi_lt hm.a (by decide) hq hn.a) hq hn.b) hq hn.c) hq hn.d
  have c1 := adC_le hp hk (c := 0) (by decide)
  have c2 := adC_le (adS_lt z.top (k4 y t z) 0) hr (c := 0) (by decide)
  refine ⟨⟨ppLo_lt _ _ _ _, ppLo_lt _ _ _ _, ppLo_lt _ _ _ _, adS_lt _ _ _⟩, ?_, c1⟩
  unfold psStep
  simp only []
  omega

/-- The limbs in a row. -/
def P4.limb (x : P4) : Nat → Nat
  | 0 => x.a
  | 1 => x.b
  | 2 => x.c
  | _ => x.d
/-- A product on its way, after so many limbs. -/
def psTo (n : P4) (f : Nat) (x y : P4) : Nat → PS
  | 0 => ⟨zeroP, 0⟩
  | i + 1 => psStep n f y (x.limb i) (psTo n f x y i)
theorem limb_lt {x : P4} (h : x.ok) (i : Nat) : x.limb i < 18446744073709551616 := by
  unfold P4.limb; split
  · exact h.a
  · exact h.b
  · exact h.c
  · exact h.d
theorem psTo_ok {n : P4} {f : Nat} {x y : P4} (hn : n.ok) (hx : x.ok) (hy : y.ok) : ∀ i, (psTo n f x y i).s.ok ∧ (psTo n f x y i).top ≤ 2
  | 0 => ⟨zeroP_ok, Nat.zero_le _⟩
  | i + 1 => by
    obtain ⟨h1, h2⟩ := psTo_ok hn hx hy i
    obtain ⟨g1, g2, _⟩ := psStep_ok (f := f) hn hy h1 (limb_lt hx i) (show (psTo n f x y i).top < _ by omega)
    exact ⟨g1, g2⟩
/-- After all four limbs. -/
theorem psTo_four {n : P4} {f : Nat} (hf : n.a * f % 18446744073709551616 = 18446744073709551615) (x y : P4) :
    ∃ Q, Q < B256 ∧ B256 * (psTo n f x y 4).tot = x.val * y.val + Q * n.val := by
  have h0 : (psTo n f x y 0).tot = 0 := rfl
  have h1 := psStep_eq hf y (x.limb 0) (psTo n f x y 0)
  have h2 := psStep_eq hf y (x.limb 1) (psTo n f x y 1)
  have h3 := psStep_eq hf y (x.limb 2) (psTo n f x y 2)
  have h4 := psStep_eq hf y (x.limb 3) (psTo n f x y 3)
  have g1 : q1 f y (x.limb 0) (psTo n f x y 0) < 18446744073709551616 := Nat.mod_lt _ (by decide)
  have g2 : q1 f y (x.limb 1) (psTo n f x y 1) < 18446744073709551616 := Nat.mod_lt _ (by decide)
  have g3 : q1 f y (x.limb 2) (psTo n f x y 2) < 18446744073709551616 := Nat.mod_lt _ (by decide)
  have g4 : q1 f y (x.limb 3) (psTo n f x y 3) < 18446744073709551616 := Nat.mod_lt _ (by decide)
  generalize q1 f y (x.limb 0) (psTo n f x y 0) = qa at *
  generalize q1 f y (x.limb 1) (psTo n f x y 1) = qb at *
  generalize q1 f y (x.limb 2) (psTo n f x y 2) = qc at *
  generalize q1 f y (x.limb 3) (psTo n f x y 3) = qd at *
  refine ⟨qa + 18446744073709551616 * qb + 340282366920938463463374607431768211456 * qc + 6277101735386680763835789423207666416102355444464034512896 * qd, by unfold B256; omega, ?_⟩
  have e1 : psStep n f y (x.limb 0) (psTo n f x y 0) = psTo n f x y 1 := rfl
  have e2 : psStep n f y (x.limb 1) (psTo n f x y 1) = psTo n f x y 2 := rfl
  have e3 : psStep n f y (x.limb 2) (psTo n f x y 2) = psTo n f x y 3 := rfl
  have e4 : psStep n f y (x.limb 3) (psTo n f x y 3) = psTo n f x y 4 := rfl
  rw [e1] at h1; rw [e2] at h2; rw [e3] at h3; rw [e4] at h4
  have l0 : x.limb 0 = x.a := rfl
  have l1 : x.limb 1 = x.b := rfl
  have l2 : x.limb 2 = x.c := rfl
  have l3 : x.limb 3 = x.d := rfl
  rw [l0, h0] at h1; rw [l1] at h2; rw [l2] at h3; rw [l3] at h4
  have ex : x.val * y.val = x.a * y.val + 18446744073709551616 * (x.b * y.val) + 340282366920938463463374607431768211456 * (x.c * y.val) + 6277101735386680763835789423207666416102355444464034512896 * (x.d * y.val) := by
    conv => lhs; unfold P4.val
    rw [Nat.add_mul, Nat.add_mul, Nat.add_mul, Nat.mul_assoc, Nat.mul_assoc, Nat.mul_assoc]
    rfl
  have eq : (qa + 18446744073709551616 * qb + 340282366920938463463374607431768211456 * qc + 6277101735386680763835789423207666416102355444464034512896 * qd) * n.val = qa * n.val + 18446744073709551616 * (qb * n.val) + 340282366920938463463374607431768211456 * (qc * n.val) + 6277101735386680763835789423207666416102355444464034512896 * (qd * n.val) := by
    rw [Nat.add_mul, Nat.add_mul, Nat.add_mul, Nat.mul_assoc, Nat.mul_assoc, Nat.mul_assoc]
  rw [ex, eq]
  unfold B256
  omega

/-- Once the modulus less, if it is in it. -/
def lessenedP (n x : P4) (high : Nat) : P4 := chooseP (sbC high 0 (minusC x n)) x (minusP x n)
theorem lessenedP_ok {n x : P4} (hx : x.ok) (high : Nat) : (lessenedP n x high).ok := chooseP_ok hx (minusP_ok x n)
theorem lessened_eq {n x : P4} {high : Nat} (hn : n.ok) (hx : x.ok) (h : x.val + B256 * high < 2 * n.val) : (lessenedP n x high).val = (x.val + B256 * high) % n.val := by
  have h1 := minus_eq hx hn
  have h2 := minusC_eq hx hn
  have h3 := P4.lt hx
  have h4 := P4.lt hn
  have h5 := P4.lt (minusP_ok x n)
  unfold lessenedP chooseP sbC
  unfold B256 at *
  by_cases hlt : x.val < n.val
  · rw [if_pos hlt] at h2
    by_cases h0 : high = 0
    · subst h0
      rw [h2]
      simp only [Nat.zero_add, if_true, Nat.lt_one_iff]
      rw [Nat.mod_eq_of_lt (by omega)]; omega
    · have : high = 1 := by omega
      subst this
      rw [h2] at h1 ⊢
      rw [if_neg (show ¬ (1 : Nat) < 0 + 1 by omega), if_neg (show ¬ (0 : Nat) = 1 by decide)]
      rw [Nat.mod_eq_sub_mod (by omega), Nat.mod_eq_of_lt (by omega)]
      omega
  · rw [if_neg hlt] at h2
    have : high = 0 := by omega
    subst this
    rw [h2] at h1 ⊢
    rw [if_neg (show ¬ (0 : Nat) < 0 + 0 by omega), if_neg (show ¬ (0 : Nat) = 1 by decide)]
    rw [Nat.mod_eq_sub_mod (by omega), Nat.mod_eq_of_lt (by omega)]
    omega

def productP (n : P4) (f : Nat) (x y : P4) : P4 := lessenedP n (psTo n f x y 4).s (psTo n f x y 4).top
theorem productP_ok {n : P4} {f : Nat} {x y : P4} (hn : n.ok) (hx : x.ok) (hy : y.ok) : (productP n f x y).ok := lessenedP_ok (psTo_ok hn hx hy 4).1 _
/-- **A product by Montgomery's way.** -/
theorem product_eq {n : P4} {f : Nat} {x y : P4} (hf : n.a * f % 18446744073709551616 = 18446744073709551615) (hn : n.ok) (hx : x.ok) (hy : y.ok) (h0 : 0 < n.val) (hlt : x.val < n.val ∨ y.val < n.val) :
    (productP n f x y).val < n.val ∧ B256 * (productP n f x y).val % n.val = x.val * y.val % n.val := by
  obtain ⟨Q, hQ, he⟩ := psTo_four hf x y
  have hxy : x.val * y.val < B256 * n.val := by
    rcases hlt with h | h
    · have := Nat.mul_le_mul (Nat.le_of_lt h) (Nat.le_of_lt (P4.lt hy))
      rcases Nat.eq_zero_or_pos y.val with e | e
      · rw [e, Nat.mul_zero]; exact Nat.mul_pos (by decide) h0
      · calc x.val * y.val < n.val * y.val := Nat.mul_lt_mul_of_pos_right h e
          _ ≤ n.val * B256 := Nat.mul_le_mul_left _ (Nat.le_of_lt (P4.lt hy))
          _ = B256 * n.val := Nat.mul_comm _ _
    · calc x.val * y.val ≤ B256 * y.val := Nat.mul_le_mul_right _ (Nat.le_of_lt (P4.lt hx))
        _ < B256 * n.val := Nat.mul_lt_mul_of_pos_left h (by decide)
  have hQn : Q * n.val ≤ B256 * n.val := Nat.mul_le_mul_right _ (Nat.le_of_lt hQ)
  have htot : (psTo n f x y 4).tot < 2 * n.val := by
    have : B256 * (psTo n f x y 4).tot < B256 * (2 * n.val) := by rw [he]; have : B256 * (2 * n.val) = B256 * n.val + B256 * n.val := by rw [Nat.two_mul, Nat.mul_add]
                                                                  omega
    exact Nat.lt_of_mul_lt_mul_left this
  have hr := lessened_eq (high := (psTo n f x y 4).top) hn (psTo_ok (f := f) hn hx hy 4).1 htot
  have hv : (productP n f x y).val = (psTo n f x y 4).tot % n.val := hr
  refine ⟨by rw [hv]; exact Nat.mod_lt _ h0, ?_⟩
  rw [hv, Nat.mul_mod, Nat.mod_mod, ← Nat.mul_mod, he, Nat.add_mul_mod_self_right]

end Go.Proofs.YtnkikhnllnbhfaaDoor
