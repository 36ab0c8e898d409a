/-
  Mv.
-/
import Derived.Test.YtnkikhnllnbhfaaDoorMi
import Derived.Test.YtnkikhnllnbhfaaDoorMw10
namespace Go.Proofs.YtnkikhnllnbhfaaDoor
open Go.RowKit
theorem cop256 {n : Nat} (h : n % 2 = 1) : Nat.gcd B256 n = 1 := by
  have h2 : Nat.Coprime 2 n := by
    show Nat.gcd 2 n = 1
    rw [Nat.gcd_rec, h]; rfl
  have h3 : Nat.Coprime (2 ^ 256) n := Nat.Coprime.pow_left 256 h2
  rw [two256] at h3
  exact h3
theorem cancel {n c a b : Nat} (hc : Nat.gcd c n = 1) (h : c * a % n = c * b % n) : a % n = b % n := by
  have key : ∀ a b : Nat, a ≤ b → c * a % n = c * b % n → a % n = b % n := by
    intro a b hab h
    have h1 : n ∣ c * (b - a) := by
      rw [Nat.mul_sub]
      exact Nat.dvd_of_mod_eq_zero (Nat.sub_mod_eq_zero_of_mod_eq h.symm)
    have h2 : n ∣ b - a := Nat.Coprime.dvd_of_dvd_mul_left (by show Nat.gcd n c = 1; rw [Nat.gcd_comm]; exact hc) h1
    obtain ⟨q, hq⟩ := h2
    have : b = a + n * q := by omega
    rw [this, Nat.add_mul_mod_self_left]
  rcases Nat.le_total a b with hab | hab
  · exact key a b hab h
  · exact (key b a hab h.symm).symm
theorem md_odd {n sq : P4} {f : Nat} (md : Md n sq f) : n.val % 2 = 1 := by
  have h := md.fac
  rw [val_mod2]
  rcases Nat.mod_two_eq_zero_or_one n.a with h0 | h0
  · exfalso
    have h1 : n.a * f % 2 = 0 := by rw [Nat.mul_mod, h0, Nat.zero_mul]
    omega
  · exact h0
section
variable {n sq : P4} {f : Nat}
theorem md_sqlt (md : Md n sq f) : sq.val < n.val := by rw [md.sqv]; exact Nat.mod_lt _ (by have := md.big; omega)
/-- A product is below the modulus, and 2^256 times it is the product. -/
theorem prod_spec (md : Md n sq f) {x y : P4} (hx : x.ok) (hy : y.ok) (hlt : x.val < n.val ∨ y.val < n.val) :
    (productP n f x y).val < n.val ∧ B256 * (productP n f x y).val % n.val = x.val * y.val % n.val :=
  product_eq md.fac md.ok hx hy (by have := md.big; omega) hlt
/-- Raised: 2^256 times. -/
theorem raised_spec (md : Md n sq f) {x : P4} (hx : x.ok) : (productP n f x sq).val < n.val ∧ (productP n f x sq).val % n.val = B256 * x.val % n.val := by
  obtain ⟨h1, h2⟩ := prod_spec md hx md.sqok (.inr (md_sqlt md))
  refine ⟨h1, cancel (cop256 (md_odd md)) ?_⟩
  have key : ∀ B X : Nat, X * (B * B) = B * (B * X) := fun B X => by rw [Nat.mul_comm, Nat.mul_assoc]
  rw [h2, md.sqv, Nat.mul_mod_mod, key]
theorem lowered_spec (md : Md n sq f) {x : P4} (hx : x.ok) : (lowP n f x).val < n.val ∧ B256 * (lowP n f x).val % n.val = x.val % n.val := by
  have h := prod_spec md hx oneP_ok (.inr (by rw [oneP_val]; have := md.big; omega))
  rw [oneP_val, Nat.mul_one] at h
  exact h
theorem rest_val (md : Md n sq f) {x : P4} (hx : x.ok) : (restP n sq f x).val = x.val % n.val := by
  have hb := md.big
  unfold restP
  rw [lessP_eq hx md.ok]
  by_cases h : x.val < n.val
  · rw [if_pos (by simpa using h), Nat.mod_eq_of_lt h]
  · rw [if_neg (by simpa using h)]
    have hok : (productP n f x sq).ok := productP_ok md.ok hx md.sqok
    obtain ⟨h1, h2⟩ := raised_spec md hx
    obtain ⟨h3, h4⟩ := lowered_spec md hok
    rw [h2] at h4
    have := cancel (cop256 (md_odd md)) h4
    rw [Nat.mod_eq_of_lt h3] at this
    exact this
theorem add_val (md : Md n sq f) {x y : P4} (hx : x.ok) (hy : y.ok) : (addP n sq f x y).val = (x.val + y.val) % n.val := by
  have hb := md.big
  have h1 := rest_val md hx
  have h2 := rest_val md hy
  have l1 := Nat.mod_lt x.val (show 0 < n.val by omega)
  have l2 := Nat.mod_lt y.val (show 0 < n.val by omega)
  have hp := plus_eq (restP n sq f x) (restP n sq f y)
  unfold addP
  rw [lessened_eq md.ok (plusP_ok _ _) (by omega), hp, h1, h2, ← Nat.add_mod]
theorem sub_val (md : Md n sq f) {x y : P4} (hx : x.ok) (hy : y.ok) : (subP n sq f x y).val = (x.val % n.val + n.val - y.val % n.val) % n.val := by
  have hb := md.big
  have h1 := rest_val md hx
  have h2 := rest_val md hy
  have l1 := Nat.mod_lt x.val (show 0 < n.val by omega)
  have l2 := Nat.mod_lt y.val (show 0 < n.val by omega)
  unfold subP
  rw [diff_val md.ok (restP_ok md.ok md.sqok hx) (restP_ok md.ok md.sqok hy) (by omega) (by omega), h1, h2]
  generalize x.val % n.val = a at *
  generalize y.val % n.val = b at *
  by_cases h : a < b
  · rw [if_pos h, Nat.mod_eq_of_lt (by omega)]
  · rw [if_neg h, show a + n.val - b = (a - b) + n.val by omega, Nat.add_mod_right, Nat.mod_eq_of_lt (by omega)]
theorem mul_val (md : Md n sq f) {x y : P4} (hx : x.ok) (hy : y.ok) : (mulP n sq f x y).val = x.val * y.val % n.val := by
  obtain ⟨h1, h2⟩ := raised_spec md hy
  obtain ⟨h3, h4⟩ := prod_spec md hx (productP_ok md.ok hy md.sqok (f := f)) (.inr h1)
  unfold mulP
  rw [← Nat.mod_eq_of_lt h3]
  refine cancel (cop256 (md_odd md)) ?_
  have key : ∀ B X Y : Nat, X * (B * Y) = B * (X * Y) := fun B X Y => Nat.mul_left_comm X B Y
  rw [h4, Nat.mul_mod, h2, ← Nat.mul_mod, key]
end
theorem addP_ok {n sq : P4} {f : Nat} (x y : P4) : (addP n sq f x y).ok := lessenedP_ok (plusP_ok _ _) _
theorem subP_ok {n sq : P4} {f : Nat} (x y : P4) : (subP n sq f x y).ok := diffP_ok _ _ _
theorem mulP_ok {n sq : P4} {f : Nat} (md : Md n sq f) {x y : P4} (hx : x.ok) (hy : y.ok) : (mulP n sq f x y).ok := productP_ok md.ok hx (productP_ok md.ok hy md.sqok)
/-- An inverse: what times the number is one; just if the greatest divisor is one. -/
theorem inv_val {n sq : P4} {f : Nat} (md : Md n sq f) {x : P4} {z : IS} (hx : x.ok) (hz : Hid (z = isTo n x 512)) :
    z.i.ok ∧ z.i.val < n.val ∧ (z.o = oneP ↔ Nat.gcd x.val n.val = 1) ∧ (z.o = oneP → x.val * z.i.val % n.val = 1) := by
  have hb := md.big
  obtain ⟨h1, h2, h3, h4⟩ := inverse_eq md.ok hx (md_odd md) (by omega) hz
  refine ⟨h1.i, h3, ⟨fun h => ?_, fun h => ?_⟩, fun h => ?_⟩
  · rw [← h2, h, oneP_val]
  · refine P4.ext_val h1.o oneP_ok ?_
    rw [h2, h, oneP_val]
  · rw [h4, h, oneP_val, Nat.mod_eq_of_lt (by omega)]

end Go.Proofs.YtnkikhnllnbhfaaDoor
