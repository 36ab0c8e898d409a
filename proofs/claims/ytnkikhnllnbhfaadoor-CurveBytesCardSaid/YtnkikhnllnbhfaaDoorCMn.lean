/-
  The order is prime: so often a point is none only by its multiples.
-/
import Derived.Test.YtnkikhnllnbhfaaDoorCM
namespace Go.Proofs.YtnkikhnllnbhfaaDoor.CurveMath

theorem prime_n191039911 : Prime 191039911 := prime_small (k := 13821) (by decide) (by decide) (by decide +kernel)
theorem prime_n3023 : Prime 3023 := prime_small (k := 54) (by decide) (by decide) (by decide +kernel)
theorem prime_n158385979 : Prime 208150935158385979 := prime_of_big (F := 191039911 * 3023) (by decide) (by decide) fun _ hr hd =>
  dvd_two prime_n191039911 prime_n3023 (by decide) (witness_pm (f := 60) (a := 2) (m := 1089567798) (by decide) prime_n191039911 (by decide) (by decide) (by decide +kernel) (by decide +kernel) hr hd) (witness_pm (f := 60) (a := 2) (m := 68855750962086) (by decide) prime_n3023 (by decide) (by decide) (by decide +kernel) (by decide +kernel) hr hd)
theorem prime_n416773953 : Prime 2624747550333869278416773953 := prime_of_big (F := 208150935158385979) (by decide) (by decide) fun _ hr hd =>
  witness_pm (f := 94) (a := 2) (m := 12609828288) (by decide) prime_n158385979 (by decide) (by decide) (by decide +kernel) (by decide +kernel) hr hd
theorem prime_n3969899 : Prime 3969899 := prime_small (k := 1992) (by decide) (by decide) (by decide +kernel)
theorem prime_n328039319 : Prime 1002328039319 := prime_of_big (F := 3969899) (by decide) (by decide) fun _ hr hd =>
  witness_pm (f := 42) (a := 2) (m := 252482) (by decide) prime_n3969899 (by decide) (by decide) (by decide +kernel) (by decide +kernel) hr hd
theorem prime_n512044369 : Prime 115792089210356248762697446949407573529996955224135760342422259061068512044369 := prime_of_big (F := 2624747550333869278416773953 * 1002328039319) (by decide) (by decide) fun _ hr hd =>
  dvd_two prime_n416773953 prime_n328039319 (by decide) (witness_pm (f := 256) (a := 2) (m := 44115514726598157485257412756682202504057278751056) (by decide) prime_n416773953 (by decide) (by decide) (by decide +kernel) (by decide +kernel) hr hd) (witness_pm (f := 256) (a := 2) (m := 115523146782392231311324540489179156958562150085032625197564538672) (by decide) prime_n328039319 (by decide) (by decide) (by decide +kernel) (by decide +kernel) hr hd)

theorem prime_nN : Prime nN := prime_n512044369
theorem mulG_none (b : Nat) (h : mulG b = none) : ∀ u, mulG (b * u) = none
  | 0 => rfl
  | u + 1 => by
    rw [Nat.mul_add, Nat.mul_one, ← mulG_add, mulG_none b h u, h]
    rfl
/-- A number that the order doesn't part makes a point. -/
theorem mulG_some {b : Nat} (h0 : 0 < b) (hb : b < nN) : mulG b ≠ none := fun h => by
  have hd : ¬ nN ∣ b := fun hd => by
    have := Nat.le_of_dvd h0 hd
    omega
  have h1 : mulG (b ^ (nN - 1)) = none := by
    rw [show nN - 1 = (nN - 2) + 1 by decide, Nat.pow_succ, Nat.mul_comm]
    exact mulG_none b h _
  rw [← mulG_mod, fermat_one prime_nN hd, g_one] at h1
  cases h1
end Go.Proofs.YtnkikhnllnbhfaaDoor.CurveMath
