/-
  Mi.
-/
import Derived.Test.YtnkikhnllnbhfaaDoorMw7
namespace Go.Proofs.YtnkikhnllnbhfaaDoor
open Go.RowKit
theorem val_mod2 (x : P4) : x.val % 2 = x.a % 2 := by unfold P4.val; omega
theorem minus_val {x y : P4} (hx : x.ok) (hy : y.ok) (h : y.val ≤ x.val) : (minusP x y).val = x.val - y.val := by
  have h1 := minus_eq hx hy
  have h2 := minusC_eq hx hy
  rw [if_neg (by omega)] at h2
  rw [h2] at h1
  omega
theorem diff_val {n x y : P4} (hn : n.ok) (hx : x.ok) (hy : y.ok) (lx : x.val < n.val) (ly : y.val < n.val) :
    (diffP n x y).val = if x.val < y.val then x.val + n.val - y.val else x.val - y.val := by
  have h1 := minus_eq hx hy
  have h2 := minusC_eq hx hy
  have ln := P4.lt hn
  unfold diffP
  by_cases h : x.val < y.val
  · rw [if_pos h] at h2 ⊢
    rw [h2] at h1 ⊢
    have e : chooseP 1 n zeroP = n := if_pos rfl
    rw [e]
    have h3 := plus_eq (minusP x y) n
    have h4 := plusC_le (minusP_ok x y) hn
    have h5 := P4.lt (plusP_ok (minusP x y) n)
    generalize plusC (minusP x y) n = c at *
    unfold B256 at *
    omega
  · rw [if_neg h] at h2 ⊢
    rw [h2] at h1 ⊢
    have e : chooseP 0 n zeroP = zeroP := if_neg (by decide)
    rw [e]
    have h3 := plus_eq (minusP x y) zeroP
    have h4 := plusC_le (minusP_ok x y) zeroP_ok
    have h6 := P4.lt (minusP_ok x y)
    have h7 := P4.lt hx
    rw [zeroP_val] at h3
    generalize plusC (minusP x y) zeroP = c at *
    unfold B256 at *
    omega
theorem hlf_val {n x : P4} (hn : n.ok) (hx : x.ok) : (hlfP n x).val = (x.val + (if x.val % 2 = 1 then n.val else 0)) / 2 := by
  have h2 := val_mod2 x
  unfold hlfP
  by_cases h : x.val % 2 = 1
  · rw [if_pos h]
    have e : x.a % 2 = 1 := by omega
    rw [e, show chooseP 1 n zeroP = n from if_pos rfl, half_eq _ _ (plusC_le hx hn), plus_eq]
  · rw [if_neg h]
    have e : x.a % 2 = 0 := by omega
    rw [e, show chooseP 0 n zeroP = zeroP from if_neg (by decide), half_eq _ _ (plusC_le hx zeroP_ok), plus_eq, zeroP_val]

/-- What holds after so many steps. -/
structure Invs (n x : P4) (z : IS) : Prop where
  ok : z.ok
  odd : z.o.val % 2 = 1
  fl : z.f.val < n.val
  il : z.i.val < n.val
  hf : ∃ q : Int, (x.val : Int) * z.f.val = z.r.val + n.val * q
  hi : ∃ q : Int, (x.val : Int) * z.i.val = z.o.val + n.val * q
  hg : Nat.gcd z.r.val z.o.val = Nat.gcd x.val n.val

theorem gcd_half {k o : Nat} (ho : o % 2 = 1) : Nat.gcd (2 * k) o = Nat.gcd k o :=
  Nat.Coprime.gcd_mul_left_cancel k (by
    show Nat.gcd 2 o = 1
    rw [Nat.gcd_rec, ho]; rfl)
theorem gcd_less {r o : Nat} (h : o ≤ r) : Nat.gcd (r - o) o = Nat.gcd r o := Nat.gcd_sub_self_left h
/-- From twice the number to the number. -/
theorem half_cong {n : Nat} (hn : n % 2 = 1) {x f d r : Int} {e q : Int} (h1 : 2 * f = d + e * n) (h2 : x * d = 2 * r + n * q) : ∃ q' : Int, x * f = r + n * q' := by
  have h3 : 2 * (x * f) = 2 * r + n * (q + x * e) := by
    rw [Int.mul_left_comm, h1, Int.mul_add, h2, Int.mul_add, Int.mul_left_comm x e, Int.mul_left_comm (n : Int) x e, Int.mul_comm (n : Int) e, Int.mul_left_comm e x (n : Int)]
    omega
  have h4 : (q + x * e) % 2 = 0 := by
    generalize q + x * e = m at *
    have h5 : ((n : Int) * m) % 2 = 0 := by omega
    rw [Int.mul_emod, show (n : Int) % 2 = 1 by omega] at h5
    omega
  refine ⟨(q + x * e) / 2, ?_⟩
  have h6 : (q + x * e) = 2 * ((q + x * e) / 2) := by omega
  generalize (q + x * e) / 2 = m at *
  rw [h6, Int.mul_left_comm (n : Int) 2 m] at h3
  omega

theorem isStep_r (n : P4) (z : IS) : (isStep n z).r = halfP (isLess z) 0 := by simp only [isStep]
theorem isStep_f (n : P4) (z : IS) : (isStep n z).f = hlfP n (isDiff n z) := by simp only [isStep]
theorem isStep_o (n : P4) (z : IS) : (isStep n z).o = isOddN z := by simp only [isStep]
theorem isStep_i (n : P4) (z : IS) : (isStep n z).i = isInvN z := by simp only [isStep]
theorem step_even {n : P4} {z : IS} (hn : n.ok) (zok : z.ok) (he : z.r.val % 2 = 0) (hi : 0 < n.val) (hfl : z.f.val < n.val) (hn2 : n.val % 2 = 1) :
    (isStep n z).r.val = z.r.val / 2 ∧ (isStep n z).o = z.o ∧ (isStep n z).i = z.i ∧ ∃ e : Nat, 2 * (isStep n z).f.val = z.f.val + e * n.val ∧ (isStep n z).f.val < n.val := by
  have h1 := val_mod2 z.r
  have hod : odd1 z.r = 0 := by unfold odd1; omega
  have hsw : isSwap z = 0 := by unfold isSwap; rw [hod, Nat.zero_mul]
  have c0 : ∀ a b : P4, chooseP 0 a b = b := fun a b => if_neg (by decide)
  have eO : isOddN z = z.o := by unfold isOddN; rw [hsw, c0]
  have eR : isRestN z = z.r := by unfold isRestN; rw [hsw, c0]
  have eF : isFacN z = z.f := by unfold isFacN; rw [hsw, c0]
  have eI : isInvN z = z.i := by unfold isInvN; rw [hsw, c0]
  have eL : (isLess z).val = z.r.val := by
    unfold isLess
    rw [eR, hod, c0, minus_val zok.r zeroP_ok (by rw [zeroP_val]; omega), zeroP_val]; rfl
  have eD : (isDiff n z).val = z.f.val := by
    unfold isDiff
    rw [eF, hod, c0, diff_val hn zok.f zeroP_ok hfl (by rw [zeroP_val]; exact hi), zeroP_val, if_neg (by omega)]; rfl
  have e1 : (isStep n z).r.val = z.r.val / 2 := by
    rw [isStep_r, half_eq _ _ (by decide), eL]
    rfl
  have e2 : (isStep n z).f.val = (z.f.val + (if z.f.val % 2 = 1 then n.val else 0)) / 2 := by
    rw [isStep_f, hlf_val hn (isDiff_ok n z), eD]
  refine ⟨e1, (isStep_o n z).trans eO, (isStep_i n z).trans eI, ?_⟩
  by_cases h : z.f.val % 2 = 1
  · rw [if_pos h] at e2
    exact ⟨1, by omega, by omega⟩
  · rw [if_neg h] at e2
    exact ⟨0, by omega, by omega⟩
theorem step_ge {n : P4} {z : IS} (hn : n.ok) (zok : z.ok) (ho : z.r.val % 2 = 1) (hoo : z.o.val % 2 = 1) (hge : z.o.val ≤ z.r.val) (hfl : z.f.val < n.val) (hil : z.i.val < n.val) (hn2 : n.val % 2 = 1) :
    2 * (isStep n z).r.val = z.r.val - z.o.val ∧ (isStep n z).o = z.o ∧ (isStep n z).i = z.i ∧ (∃ e : Nat, 2 * (isStep n z).f.val + z.i.val = z.f.val + e * n.val) ∧ (isStep n z).f.val < n.val := by
  have h1 := val_mod2 z.r
  have hod : odd1 z.r = 1 := by unfold odd1; omega
  have hsw : isSwap z = 0 := by unfold isSwap; rw [minusC_eq zok.r zok.o, if_neg (by omega), Nat.mul_zero]
  have c0 : ∀ a b : P4, chooseP 0 a b = b := fun a b => if_neg (by decide)
  have c1 : ∀ a b : P4, chooseP 1 a b = a := fun a b => if_pos rfl
  have eO : isOddN z = z.o := by unfold isOddN; rw [hsw, c0]
  have eR : isRestN z = z.r := by unfold isRestN; rw [hsw, c0]
  have eF : isFacN z = z.f := by unfold isFacN; rw [hsw, c0]
  have eI : isInvN z = z.i := by unfold isInvN; rw [hsw, c0]
  have eL : (isLess z).val = z.r.val - z.o.val := by
    unfold isLess
    rw [eR, hod, c1, eO, minus_val zok.r zok.o hge]
  have eD : (isDiff n z).val = if z.f.val < z.i.val then z.f.val + n.val - z.i.val else z.f.val - z.i.val := by
    unfold isDiff
    rw [eF, hod, c1, eI, diff_val hn zok.f zok.i hfl hil]
  have e1 : (isStep n z).r.val = (z.r.val - z.o.val) / 2 := by
    rw [isStep_r, half_eq _ _ (by decide), eL]
    rfl
  have e2 : (isStep n z).f.val = ((isDiff n z).val + (if (isDiff n z).val % 2 = 1 then n.val else 0)) / 2 := by
    rw [isStep_f, hlf_val hn (isDiff_ok n z)]
  refine ⟨by omega, (isStep_o n z).trans eO, (isStep_i n z).trans eI, ?_⟩
  generalize (isDiff n z).val = d at *
  generalize (isStep n z).f.val = f' at *
  by_cases h : d % 2 = 1
  · rw [if_pos h] at e2
    by_cases hlt : z.f.val < z.i.val
    · rw [if_pos hlt] at eD
      exact ⟨⟨2, by omega⟩, by omega⟩
    · rw [if_neg hlt] at eD
      exact ⟨⟨1, by omega⟩, by omega⟩
  · rw [if_neg h] at e2
    by_cases hlt : z.f.val < z.i.val
    · rw [if_pos hlt] at eD
      exact ⟨⟨1, by omega⟩, by omega⟩
    · rw [if_neg hlt] at eD
      exact ⟨⟨0, by omega⟩, by omega⟩
theorem step_lt {n : P4} {z : IS} (hn : n.ok) (zok : z.ok) (ho : z.r.val % 2 = 1) (hoo : z.o.val % 2 = 1) (hlt : z.r.val < z.o.val) (hfl : z.f.val < n.val) (hil : z.i.val < n.val) (hn2 : n.val % 2 = 1) :
    2 * (isStep n z).r.val = z.o.val - z.r.val ∧ (isStep n z).o = z.r ∧ (isStep n z).i = z.f ∧ (∃ e : Nat, 2 * (isStep n z).f.val + z.f.val = z.i.val + e * n.val) ∧ (isStep n z).f.val < n.val := by
  have h1 := val_mod2 z.r
  have hod : odd1 z.r = 1 := by unfold odd1; omega
  have hsw : isSwap z = 1 := by unfold isSwap; rw [minusC_eq zok.r zok.o, if_pos hlt, hod]
  have c1 : ∀ a b : P4, chooseP 1 a b = a := fun a b => if_pos rfl
  have eO : isOddN z = z.r := by unfold isOddN; rw [hsw, c1]
  have eR : isRestN z = z.o := by unfold isRestN; rw [hsw, c1]
  have eF : isFacN z = z.i := by unfold isFacN; rw [hsw, c1]
  have eI : isInvN z = z.f := by unfold isInvN; rw [hsw, c1]
  have eL : (isLess z).val = z.o.val - z.r.val := by
    unfold isLess
    rw [eR, hod, c1, eO, minus_val zok.o zok.r (by omega)]
  have eD : (isDiff n z).val = if z.i.val < z.f.val then z.i.val + n.val - z.f.val else z.i.val - z.f.val := by
    unfold isDiff
    rw [eF, hod, c1, eI, diff_val hn zok.i zok.f hil hfl]
  have e1 : (isStep n z).r.val = (z.o.val - z.r.val) / 2 := by
    rw [isStep_r, half_eq _ _ (by decide), eL]
    rfl
  have e2 : (isStep n z).f.val = ((isDiff n z).val + (if (isDiff n z).val % 2 = 1 then n.val else 0)) / 2 := by
    rw [isStep_f, hlf_val hn (isDiff_ok n z)]
  refine ⟨by omega, (isStep_o n z).trans eO, (isStep_i n z).trans eI, ?_⟩
  generalize (isDiff n z).val = d at *
  generalize (isStep n z).f.val = f' at *
  by_cases h : d % 2 = 1
  · rw [if_pos h] at e2
    by_cases hlt' : z.i.val < z.f.val
    · rw [if_pos hlt'] at eD
      exact ⟨⟨2, by omega⟩, by omega⟩
    · rw [if_neg hlt'] at eD
      exact ⟨⟨1, by omega⟩, by omega⟩
  · rw [if_neg h] at e2
    by_cases hlt' : z.i.val < z.f.val
    · rw [if_pos hlt'] at eD
      exact ⟨⟨1, by omega⟩, by omega⟩
    · rw [if_neg hlt'] at eD
      exact ⟨⟨0, by omega⟩, by omega⟩
/-- One step keeps what holds, and halves the product. -/
theorem invs_step {n x : P4} {z : IS} (hn : n.ok) (hn2 : n.val % 2 = 1) (h : Invs n x z) : Invs n x (isStep n z) ∧ 2 * ((isStep n z).r.val * (isStep n z).o.val) ≤ z.r.val * z.o.val := by
  obtain ⟨zok, hodd, hfl, hil, ⟨qf, hf⟩, ⟨qi, hi⟩, hg⟩ := h
  have zok' := isStep_ok n zok
  by_cases he : z.r.val % 2 = 0
  · obtain ⟨a1, a2, a3, e, a4, a5⟩ := step_even hn zok he (by omega) hfl hn2
    generalize isStep n z = z' at *
    refine ⟨⟨zok', by rw [a2]; exact hodd, a5, by rw [a3]; exact hil, ?_, ⟨qi, by rw [a2, a3]; exact hi⟩, ?_⟩, ?_⟩
    · exact half_cong hn2 (d := z.f.val) (e := e) (q := qf) (by rw [← Int.natCast_mul]; omega) (by rw [hf]; omega)
    · rw [a2, ← gcd_half hodd, ← hg]
      congr 1; omega
    · rw [a2, ← Nat.mul_assoc]
      exact Nat.mul_le_mul_right _ (by omega)
  · by_cases hge : z.o.val ≤ z.r.val
    · obtain ⟨a1, a2, a3, ⟨e, a4⟩, a5⟩ := step_ge hn zok (by omega) hodd hge hfl hil hn2
      generalize isStep n z = z' at *
      refine ⟨⟨zok', by rw [a2]; exact hodd, a5, by rw [a3]; exact hil, ?_, ⟨qi, by rw [a2, a3]; exact hi⟩, ?_⟩, ?_⟩
      · exact half_cong hn2 (d := z.f.val - z.i.val) (e := e) (q := qf - qi) (by rw [← Int.natCast_mul]; omega) (by rw [Int.mul_sub, hf, hi, Int.mul_sub]; omega)
      · rw [a2, ← gcd_half hodd, a1, gcd_less hge, hg]
      · rw [a2, ← Nat.mul_assoc, a1]
        exact Nat.mul_le_mul_right _ (Nat.sub_le _ _)
    · obtain ⟨a1, a2, a3, ⟨e, a4⟩, a5⟩ := step_lt hn zok (by omega) hodd (by omega) hfl hil hn2
      generalize isStep n z = z' at *
      have hro : z.r.val % 2 = 1 := by omega
      refine ⟨⟨zok', by rw [a2]; exact hro, a5, by rw [a3]; exact hfl, ?_, ⟨qf, by rw [a2, a3]; exact hf⟩, ?_⟩, ?_⟩
      · exact half_cong hn2 (d := z.i.val - z.f.val) (e := e) (q := qi - qf) (by rw [← Int.natCast_mul]; omega) (by rw [Int.mul_sub, hf, hi, Int.mul_sub]; omega)
      · rw [a2, ← gcd_half hro, a1, gcd_less (by omega), Nat.gcd_comm, hg]
      · rw [a2, ← Nat.mul_assoc, a1, Nat.mul_comm z.r.val]
        exact Nat.mul_le_mul_right _ (Nat.sub_le _ _)
theorem invs_to {n x : P4} (hn : n.ok) (hx : x.ok) (hn2 : n.val % 2 = 1) (h1 : 1 < n.val) : ∀ k, Invs n x (isTo n x k) ∧ 2 ^ k * ((isTo n x k).r.val * (isTo n x k).o.val) ≤ x.val * n.val
  | 0 => by
    refine ⟨⟨⟨hx, hn, oneP_ok, zeroP_ok⟩, hn2, ?_, ?_, ⟨0, ?_⟩, ⟨-1, ?_⟩, rfl⟩, ?_⟩
    · show oneP.val < n.val
      rw [oneP_val]; exact h1
    · show zeroP.val < n.val
      rw [zeroP_val]; omega
    · show (x.val : Int) * ((oneP.val : Nat) : Int) = x.val + n.val * 0
      rw [oneP_val]; omega
    · show (x.val : Int) * ((zeroP.val : Nat) : Int) = n.val + n.val * -1
      rw [zeroP_val]; omega
    · show 2 ^ 0 * (x.val * n.val) ≤ _
      omega
  | k + 1 => by
    obtain ⟨a, b⟩ := invs_to hn hx hn2 h1 k
    obtain ⟨c, d⟩ := invs_step hn hn2 a
    rw [isTo_succ]
    refine ⟨c, ?_⟩
    rw [Nat.pow_succ, Nat.mul_assoc]
    exact Nat.le_trans (Nat.mul_le_mul_left _ d) b
theorem inv_last {P a b K : Nat} (hK : 2 ^ K = B256) (ha : a < B256) (hb : b < B256) (h : 2 ^ (K + K) * P ≤ a * b) : P = 0 := by
  rw [Nat.pow_add, hK] at h
  rcases Nat.eq_zero_or_pos P with h0 | h0
  · exact h0
  · exfalso
    have h1 : B256 * B256 ≤ B256 * B256 * P := Nat.le_mul_of_pos_right _ h0
    have h2 : a * b < B256 * B256 := by
      rcases Nat.eq_zero_or_pos b with hb0 | hb0
      · rw [hb0, Nat.mul_zero]; decide
      · exact Nat.lt_of_lt_of_le (Nat.mul_lt_mul_of_pos_right ha hb0) (Nat.mul_le_mul_left _ (Nat.le_of_lt hb))
    omega
theorem inverse_eqK {n x : P4} {z : IS} {K : Nat} (hK : 2 ^ K = B256) (hn : n.ok) (hx : x.ok) (hn2 : n.val % 2 = 1) (h1 : 1 < n.val) (hz : isTo n x (K + K) = z) :
    z.ok ∧ z.o.val = Nat.gcd x.val n.val ∧ z.i.val < n.val ∧ x.val * z.i.val % n.val = z.o.val % n.val := by
  obtain ⟨a, b⟩ := invs_to hn hx hn2 h1 (K + K)
  rw [hz] at a b
  have h0 := inv_last hK (P4.lt hx) (P4.lt hn) b
  obtain ⟨zok, hodd, hfl, hil, ⟨qf, hf⟩, ⟨qi, hi⟩, hg⟩ := a
  have hr : z.r.val = 0 := by
    rcases Nat.mul_eq_zero.1 h0 with h | h
    · exact h
    · omega
  refine ⟨zok, ?_, hil, ?_⟩
  · rw [← hg, hr, Nat.gcd_zero_left]
  · have h3 : (((x.val * z.i.val : Nat)) : Int) % (n.val : Int) = ((z.o.val : Nat) : Int) % (n.val : Int) := by
      rw [Int.natCast_mul, hi, Int.add_mul_emod_self_left]
    have h4 : (((x.val * z.i.val % n.val : Nat)) : Int) = (((z.o.val % n.val : Nat)) : Int) := h3
    omega
/-- **The divisor, and what times the number is it.** -/
theorem inverse_eq {n x : P4} {z : IS} (hn : n.ok) (hx : x.ok) (hn2 : n.val % 2 = 1) (h1 : 1 < n.val) (hz : Hid (z = isTo n x 512)) :
    z.ok ∧ z.o.val = Nat.gcd x.val n.val ∧ z.i.val < n.val ∧ x.val * z.i.val % n.val = z.o.val % n.val := inverse_eqK (K := 256) (by decide) hn hx hn2 h1 hz.out.symm

end Go.Proofs.YtnkikhnllnbhfaaDoor
