/-
  Joined: CMa, CMb, CMc, CMd, CMe, CMf, CMg, CMh.
-/
import Derived.Lib.Hide
namespace Go.Proofs.YtnkikhnllnbhfaaDoor.CurveMath

/-- A number that is at least two and has no divisors but one and itself. -/
def Prime (p : Nat) : Prop := 2 ≤ p ∧ ∀ d, d ∣ p → d = 1 ∨ d = p

theorem Prime.coprime {p a : Nat} (hp : Prime p) (h : ¬ p ∣ a) : Nat.Coprime p a := by
  rcases hp.2 _ (Nat.gcd_dvd_left p a) with h1 | h1
  · exact h1
  · exact absurd (h1 ▸ Nat.gcd_dvd_right p a) h
theorem Prime.mul {p a b : Nat} (hp : Prime p) (h : p ∣ a * b) : p ∣ a ∨ p ∣ b := by
  by_cases ha : p ∣ a
  · exact .inl ha
  · exact .inr ((hp.coprime ha).dvd_of_dvd_mul_left h)
theorem prime_factor : ∀ n : Nat, 2 ≤ n → ∃ r, Prime r ∧ r ∣ n := by
  intro n
  induction n using Nat.strongRecOn with
  | _ n ih =>
    intro h
    by_cases hp : Prime n
    · exact ⟨n, hp, Nat.dvd_refl n⟩
    · have : ∃ d, d ∣ n ∧ d ≠ 1 ∧ d ≠ n := by
        refine Classical.byContradiction fun hn => hp ⟨h, fun d hd => ?_⟩
        by_cases h1 : d = 1
        · exact .inl h1
        · exact .inr (Classical.byContradiction fun h2 => hn ⟨d, hd, h1, h2⟩)
      obtain ⟨d, hd, h1, h2⟩ := this
      have hle := Nat.le_of_dvd (by omega) hd
      have h0 : d ≠ 0 := by rintro rfl; have := Nat.eq_zero_of_zero_dvd hd; omega
      obtain ⟨r, hr, hrd⟩ := ih d (by omega) (by omega)
      exact ⟨r, hr, Nat.dvd_trans hrd hd⟩

/-- The numbers of Pascal's triangle. -/
def ch : Nat → Nat → Nat
  | _, 0 => 1
  | 0, _ + 1 => 0
  | n + 1, k + 1 => ch n k + ch n (k + 1)
theorem ch_zero (n : Nat) : ch n 0 = 1 := by cases n <;> rfl
theorem ch_gt : ∀ n k : Nat, n < k → ch n k = 0
  | _, 0, h => absurd h (Nat.not_lt_zero _)
  | 0, _ + 1, _ => rfl
  | n + 1, k + 1, h => by show ch n k + ch n (k + 1) = 0; rw [ch_gt n k (by omega), ch_gt n (k + 1) (by omega)]
theorem ch_self : ∀ n : Nat, ch n n = 1
  | 0 => rfl
  | n + 1 => by show ch n n + ch n (n + 1) = 1; rw [ch_self n, ch_gt n (n + 1) (by omega)]
theorem ch_mul : ∀ n k : Nat, (k + 1) * ch (n + 1) (k + 1) = (n + 1) * ch n k
  | 0, 0 => rfl
  | 0, k + 1 => by show (k + 2) * (ch 0 (k + 1) + ch 0 (k + 2)) = 1 * ch 0 (k + 1); rfl
  | n + 1, 0 => by
    have h : ch (n + 1) 1 = n + 1 := by have h := ch_mul n 0; rw [Nat.zero_add, Nat.one_mul, ch_zero, Nat.mul_one] at h; exact h
    show (0 + 1) * (ch (n + 1) 0 + ch (n + 1) 1) = (n + 2) * ch (n + 1) 0
    rw [h, ch_zero]
    omega
  | n + 1, k + 1 => by
    have h1 := ch_mul n k
    have h2 := ch_mul n (k + 1)
    show (k + 2) * (ch (n + 1) (k + 1) + ch (n + 1) (k + 2)) = (n + 2) * (ch n k + ch n (k + 1))
    have e : ch (n + 1) (k + 1) = ch n k + ch n (k + 1) := rfl
    generalize ch (n + 1) (k + 1) = a at *
    generalize ch (n + 1) (k + 2) = c at *
    generalize ch n k = d at *
    generalize ch n (k + 1) = f at *
    subst e
    have h3 : (k + 2) * c = (n + 1) * f := h2
    have h4 : (k + 2) * (d + f) = (k + 1) * (d + f) + (d + f) := by rw [show k + 2 = (k + 1) + 1 from rfl, Nat.add_mul, Nat.one_mul]
    have h5 : (n + 2) * (d + f) = (n + 1) * d + (n + 1) * f + (d + f) := by rw [show n + 2 = (n + 1) + 1 from rfl, Nat.add_mul, Nat.one_mul, Nat.mul_add]
    rw [Nat.mul_add, h3, h4, h5, h1]
    omega
/-- The sum of the first terms of a power of x + 1. -/
def bin (n x : Nat) : Nat → Nat
  | 0 => 0
  | m + 1 => bin n x m + ch n m * x ^ m
theorem bin_step (n x : Nat) : ∀ m, bin (n + 1) x (m + 1) = bin n x (m + 1) + x * bin n x m
  | 0 => by simp [bin, ch_zero]
  | m + 1 => by
    have ih := bin_step n x m
    rw [bin, ih]
    show _ + (ch n m + ch n (m + 1)) * x ^ (m + 1) = (bin n x (m + 1) + ch n (m + 1) * x ^ (m + 1)) + x * (bin n x m + ch n m * x ^ m)
    rw [Nat.add_mul, Nat.mul_add, show x ^ (m + 1) = x ^ m * x from rfl, show x * (ch n m * x ^ m) = ch n m * (x ^ m * x) by rw [Nat.mul_comm x, Nat.mul_assoc]]
    omega
theorem bin_all (x : Nat) : ∀ n, bin n x (n + 1) = (x + 1) ^ n
  | 0 => by simp [bin, ch]
  | n + 1 => by
    rw [bin_step, show bin n x (n + 1 + 1) = bin n x (n + 1) + ch n (n + 1) * x ^ (n + 1) from rfl, ch_gt n (n + 1) (by omega), bin_all x n, Nat.zero_mul, Nat.add_zero, Nat.pow_succ, Nat.mul_add, Nat.mul_one, Nat.mul_comm x, Nat.add_comm]
theorem Prime.ch {p k : Nat} (hp : Prime p) (h0 : 0 < k) (hk : k < p) : p ∣ CurveMath.ch p k := by
  obtain ⟨n, rfl⟩ : ∃ n, p = n + 1 := ⟨p - 1, by have := hp.1; omega⟩
  obtain ⟨j, rfl⟩ : ∃ j, k = j + 1 := ⟨k - 1, by omega⟩
  have h := ch_mul n j
  have hd : n + 1 ∣ (j + 1) * CurveMath.ch (n + 1) (j + 1) := ⟨_, h⟩
  rcases hp.mul hd with h1 | h1
  · have := Nat.le_of_dvd (by omega) h1; omega
  · exact h1
theorem bin_mod {p : Nat} (hp : Prime p) (x : Nat) : ∀ m, m < p → bin p x (m + 1) % p = 1 % p
  | 0, _ => by simp [bin, ch_zero]
  | m + 1, h => by
    have ih := bin_mod hp x m (by omega)
    rw [bin, Nat.add_mod, ih]
    have : (CurveMath.ch p (m + 1) * x ^ (m + 1)) % p = 0 := Nat.mod_eq_zero_of_dvd (Nat.dvd_trans (hp.ch (by omega) h) (Nat.dvd_mul_right _ _))
    rw [this, Nat.add_zero, Nat.mod_mod]
theorem fermat_step {p : Nat} (hp : Prime p) (x : Nat) : (x + 1) ^ p % p = (x ^ p + 1) % p := by
  rw [← bin_all x p]
  obtain ⟨n, hn⟩ : ∃ n, p = n + 1 := ⟨p - 1, by have := hp.1; omega⟩
  have h := bin_mod hp x n (by omega)
  rw [← hn] at h
  rw [bin, ch_self, Nat.one_mul, Nat.add_mod, h, ← Nat.add_mod, Nat.add_comm]
/-- Fermat's little theorem. -/
theorem fermat {p : Nat} (hp : Prime p) : ∀ x, x ^ p % p = x % p
  | 0 => by rw [Nat.zero_pow (by have := hp.1; omega)]
  | x + 1 => by rw [fermat_step hp, Nat.add_mod, fermat hp x, ← Nat.add_mod]
theorem mod_one_of {p a b : Nat} (hp : Prime p) (hb : ¬ p ∣ b) (h : a * b % p = b % p) : a % p = 1 := by
  have h2 := hp.1
  rcases Nat.eq_zero_or_pos a with rfl | ha
  · rw [Nat.zero_mul, Nat.zero_mod] at h
    exact absurd (Nat.dvd_of_mod_eq_zero h.symm) hb
  · have hd : p ∣ a * b - b := Nat.dvd_of_mod_eq_zero (Nat.sub_mod_eq_zero_of_mod_eq h)
    have he : a * b - b = (a - 1) * b := by rw [Nat.sub_mul, Nat.one_mul]
    rw [he] at hd
    rcases hp.mul hd with h3 | h3
    · obtain ⟨c, hc⟩ := h3
      have : a = 1 + p * c := by omega
      rw [this, Nat.add_mul_mod_self_left, Nat.mod_eq_of_lt (by omega)]
    · exact absurd h3 hb
theorem fermat_one {p x : Nat} (hp : Prime p) (hx : ¬ p ∣ x) : x ^ (p - 1) % p = 1 := by
  obtain ⟨n, hn⟩ : ∃ n, p = n + 1 := ⟨p - 1, by have := hp.1; omega⟩
  have h := fermat hp x
  refine mod_one_of hp hx ?_
  rw [show p - 1 = n by omega]
  have : x ^ p = x ^ n * x := by rw [hn]; rfl
  rw [← this]; exact h
/-- Where two powers of a are one, that of their greatest common divisor is. -/
theorem pow_gcd {r a : Nat} (h1 : 1 < r) : ∀ m n : Nat, a ^ m % r = 1 → a ^ n % r = 1 → a ^ (Nat.gcd m n) % r = 1 := by
  intro m
  induction m using Nat.strongRecOn with
  | _ m ih =>
    intro n hm hn
    by_cases h0 : m = 0
    · subst h0; rw [Nat.gcd_zero_left]; exact hn
    · rw [Nat.gcd_rec]
      refine ih (n % m) (Nat.mod_lt _ (by omega)) m ?_ hm
      have : a ^ n = (a ^ m) ^ (n / m) * a ^ (n % m) := by rw [← Nat.pow_mul, ← Nat.pow_add, Nat.div_add_mod]
      rw [this, Nat.mul_mod, Nat.pow_mod, hm, Nat.one_pow, Nat.mod_eq_of_lt h1, Nat.one_mul, Nat.mod_mod] at hn
      exact hn
/-- A prime divisor q of N - 1 with a witness divides each prime divisor's r - 1. -/
theorem witness {N q a r : Nat} (hN : 1 < N) (hq : Prime q) (hd : q ∣ N - 1) (h1 : a ^ (N - 1) % N = 1) (h2 : Nat.gcd (a ^ ((N - 1) / q) % N + (N - 1)) N = 1) (hr : Prime r) (hrN : r ∣ N) : q ∣ r - 1 := by
  refine Classical.byContradiction fun hn => ?_
  have hr2 := hr.1
  have hmod : ∀ x, x % N % r = x % r := fun x => Nat.mod_mod_of_dvd x hrN
  have e1 : a ^ (N - 1) % r = 1 := by rw [← hmod, h1, Nat.mod_eq_of_lt (by omega)]
  have hra : ¬ r ∣ a := fun h => by
    have h3 : r ∣ a ^ (N - 1) := Nat.dvd_trans h (Nat.dvd_trans (Nat.pow_dvd_pow a (show 1 ≤ N - 1 by omega) |> fun h => by simpa using h) (Nat.dvd_refl _))
    rw [Nat.mod_eq_zero_of_dvd h3] at e1
    exact absurd e1 (by decide)
  have e2 := fermat_one hr hra
  have e3 := pow_gcd (by omega) (N - 1) (r - 1) e1 e2
  have hg1 := Nat.gcd_dvd_left (N - 1) (r - 1)
  have hg2 := Nat.gcd_dvd_right (N - 1) (r - 1)
  generalize Nat.gcd (N - 1) (r - 1) = g at *
  have hqg : ¬ q ∣ g := fun h => hn (Nat.dvd_trans h hg2)
  obtain ⟨m, hm⟩ := hd
  rw [hm] at hg1 h2
  rw [Nat.mul_div_cancel_left m (by have := hq.1; omega)] at h2
  have hgm : g ∣ m := (hq.coprime hqg).symm.dvd_of_dvd_mul_left hg1
  obtain ⟨t, ht⟩ := hgm
  have e4 : a ^ m % r = 1 := by rw [ht, Nat.pow_mul, Nat.pow_mod, e3, Nat.one_pow, Nat.mod_eq_of_lt (by omega)]
  have hdv : r ∣ Nat.gcd (a ^ m % N + q * m) N := by
    refine Nat.dvd_gcd ?_ hrN
    apply Nat.dvd_of_mod_eq_zero
    have hN1 : (q * m + 1) % r = 0 := by rw [← hm, Nat.sub_add_cancel (by omega)]; exact Nat.mod_eq_zero_of_dvd hrN
    rw [Nat.add_mod, hmod, e4, ← Nat.mod_eq_of_lt (show 1 < r by omega), ← Nat.add_mod, Nat.add_comm]
    exact hN1
  rw [h2] at hdv
  have := Nat.le_of_dvd (by decide) hdv
  omega
theorem prime_of_big {N F : Nat} (hN : 1 < N) (hF : N < F * F) (h : ∀ r, Prime r → r ∣ N → F ∣ r - 1) : Prime N := by
  refine ⟨by omega, fun d hd => ?_⟩
  refine Classical.byContradiction fun hn => ?_
  have h0 : d ≠ 0 := by rintro rfl; have := Nat.eq_zero_of_zero_dvd hd; omega
  obtain ⟨e, he⟩ := hd
  have hd2 : 2 ≤ d := by omega
  have he2 : 2 ≤ e := by
    rcases Nat.lt_or_ge e 2 with h2 | h2
    · have : e = 0 ∨ e = 1 := by omega
      rcases this with rfl | rfl
      · omega
      · exact absurd (by omega) (fun hh : d = N => hn (.inr hh))
    · exact h2
  have big : ∀ c, 2 ≤ c → c ∣ N → F < c := fun c hc hcN => by
    obtain ⟨r, hr, hrc⟩ := prime_factor c hc
    have := Nat.le_of_dvd (by have := hr.1; omega) (h r hr (Nat.dvd_trans hrc hcN))
    have := Nat.le_of_dvd (by omega) hrc
    omega
  have h3 := big d hd2 ⟨e, he⟩
  have h4 := big e he2 ⟨d, by rw [he, Nat.mul_comm]⟩
  have := Nat.mul_lt_mul'' h3 h4
  omega
/-- No divisor from 2 to a bound. -/
def noDiv (n : Nat) : Nat → Bool
  | 0 => true
  | k + 1 => (decide (k + 1 < 2) || !(n % (k + 1) == 0)) && noDiv n k
theorem noDiv_spec {n : Nat} : ∀ k, noDiv n k = true → ∀ d, 2 ≤ d → d ≤ k → ¬ d ∣ n
  | 0, _, d, h2, hk => by omega
  | k + 1, h, d, h2, hk => by
    unfold noDiv at h
    simp only [Bool.and_eq_true, Bool.or_eq_true, decide_eq_true_eq, Bool.not_eq_true', beq_eq_false_iff_ne] at h
    rcases Nat.lt_or_ge d (k + 1) with h3 | h3
    · exact noDiv_spec k h.2 d h2 (by omega)
    · obtain rfl : d = k + 1 := by omega
      intro hd
      rcases h.1 with h4 | h4
      · omega
      · exact h4 (Nat.mod_eq_zero_of_dvd hd)
theorem prime_small {n k : Nat} (h2 : 2 ≤ n) (hk : n < (k + 1) * (k + 1)) (h : noDiv n k = true) : Prime n := by
  refine ⟨h2, fun d hd => ?_⟩
  refine Classical.byContradiction fun hn => ?_
  have h0 : d ≠ 0 := by rintro rfl; have := Nat.eq_zero_of_zero_dvd hd; omega
  obtain ⟨e, he⟩ := hd
  have he0 : e ≠ 0 := by rintro rfl; omega
  have he1 : e ≠ 1 := by rintro rfl; omega
  have hs := noDiv_spec k h
  have h3 : k < d := Nat.lt_of_not_le fun hle => hs d (by omega) hle ⟨e, he⟩
  have h4 : k < e := Nat.lt_of_not_le fun hle => hs e (by omega) hle ⟨d, by rw [he, Nat.mul_comm]⟩
  have := Nat.mul_le_mul (show k + 1 ≤ d from h3) (show k + 1 ≤ e from h4)
  omega
theorem dvd_two {q s m : Nat} (hq : Prime q) (hs : Prime s) (hne : q ≠ s) (h1 : q ∣ m) (h2 : s ∣ m) : q * s ∣ m := by
  refine Nat.Coprime.mul_dvd_of_dvd_of_dvd (hq.coprime fun h => ?_) h1 h2
  rcases hs.2 q h with h3 | h3
  · have := hq.1; omega
  · exact hne h3
/-- a to the power e modulo n, by squarings; e has so many bits. -/
def pm : Nat → Nat → Nat → Nat → Nat
  | 0, _, _, n => 1 % n
  | f + 1, a, e, n => if e % 2 = 1 then a * pm f (a * a % n) (e / 2) n % n else pm f (a * a % n) (e / 2) n
theorem pm_eq (n : Nat) : ∀ f a e : Nat, e < 2 ^ f → pm f a e n = a ^ e % n
  | 0, a, e, h => by
    obtain rfl : e = 0 := by simpa using h
    rfl
  | f + 1, a, e, h => by
    unfold pm
    rw [pm_eq n f _ (e / 2) (by rw [Nat.pow_succ] at h; omega)]
    have h2 : (a * a % n) ^ (e / 2) % n = a ^ (2 * (e / 2)) % n := by rw [← Nat.pow_mod, Nat.pow_mul, Nat.pow_two]
    rw [h2]
    by_cases ho : e % 2 = 1
    · rw [if_pos ho, Nat.mul_mod, Nat.mod_mod, ← Nat.mul_mod, ← Nat.pow_succ']
      congr 2
      omega
    · rw [if_neg ho]
      congr 2
      omega
theorem witness_pm {N q a f r m : Nat} (hN : 1 < N) (hq : Prime q) (hm : N - 1 = q * m) (hf : N - 1 < 2 ^ f) (h1 : pm f a (N - 1) N = 1) (h2 : Nat.gcd (pm f a m N + (N - 1)) N = 1) (hr : Prime r) (hrN : r ∣ N) : q ∣ r - 1 := by
  have hq0 := hq.1
  rw [pm_eq N f a _ hf] at h1
  have hml : m < 2 ^ f := Nat.lt_of_le_of_lt (by rw [hm]; exact Nat.le_mul_of_pos_left m (by omega)) hf
  rw [pm_eq N f a _ hml] at h2
  refine witness hN hq ⟨m, hm⟩ h1 ?_ hr hrN
  rw [hm, Nat.mul_div_cancel_left m (by omega), ← hm]
  exact h2

theorem prime_78283 : Prime 78283 := prime_small (k := 279) (by decide) (by decide) (by decide +kernel)
theorem prime_704251 : Prime 704251 := prime_small (k := 839) (by decide) (by decide) (by decide +kernel)
theorem prime_204061199 : Prime 204061199 := prime_small (k := 14285) (by decide) (by decide) (by decide +kernel)
theorem prime_r : Prime 46076956964474543 := prime_of_big (F := 704251 * 78283) (by decide) (by decide) fun _ hr hd =>
  dvd_two prime_704251 prime_78283 (by decide) (witness_pm (f := 60) (a := 2) (m := 65426896042) (by decide) prime_704251 (by decide) (by decide) (by decide +kernel) (by decide +kernel) hr hd)
    (witness_pm (f := 60) (a := 2) (m := 588594675274) (by decide) prime_78283 (by decide) (by decide) (by decide +kernel) (by decide +kernel) hr hd)
theorem prime_s : Prime 34282281433 := prime_of_big (F := 204061199) (by decide) (by decide) fun _ hr hd =>
  witness_pm (f := 40) (a := 2) (m := 168) (by decide) prime_204061199 (by decide) (by decide) (by decide +kernel) (by decide +kernel) hr hd
theorem prime_q2 : Prime 774023187263532362759620327192479577272145303 := prime_of_big (F := 46076956964474543 * 34282281433) (by decide) (by decide) fun _ hr hd =>
  dvd_two prime_r prime_s (by decide) (witness_pm (f := 152) (a := 2) (m := 16798487535978261528513091914) (by decide) prime_r (by decide) (by decide) (by decide +kernel) (by decide +kernel) hr hd)
    (witness_pm (f := 152) (a := 2) (m := 22577936908202977552973533084188294) (by decide) prime_s (by decide) (by decide) (by decide +kernel) (by decide +kernel) hr hd)
theorem prime_q : Prime 835945042244614951780389953367877943453916927241 := prime_of_big (F := 774023187263532362759620327192479577272145303) (by decide) (by decide) fun _ hr hd =>
  witness_pm (f := 160) (a := 2) (m := 1080) (by decide) prime_q2 (by decide) (by decide) (by decide +kernel) (by decide +kernel) hr hd
/-- The curve's prime. -/
theorem prime_p : Prime 115792089210356248762697446949407573530086143415290314195533631308867097853951 := prime_of_big (F := 835945042244614951780389953367877943453916927241) (by decide) (by decide) fun _ hr hd =>
  witness_pm (f := 256) (a := 2) (m := 138516389665330497628477975950) (by decide) prime_q (by decide) (by decide) (by decide +kernel) (by decide +kernel) hr hd
/-- The curve's prime, its field, its number, its base. -/
def pN : Nat := 115792089210356248762697446949407573530086143415290314195533631308867097853951
instance : NeZero pN := ⟨by decide⟩
abbrev K := Fin pN
theorem prime_pN : Prime pN := prime_p
def bN : Nat := 41058363725152142129326129780047268409114441015993725554835256314039467401291
def bK : K := Fin.ofNat pN bN

theorem ofNat_add (a b : Nat) : Fin.ofNat pN (a + b) = Fin.ofNat pN a + Fin.ofNat pN b := by
  apply Fin.ext; simp [Fin.ofNat, Fin.add_def, Nat.add_mod]
theorem ofNat_mul (a b : Nat) : Fin.ofNat pN (a * b) = Fin.ofNat pN a * Fin.ofNat pN b := by
  apply Fin.ext; simp [Fin.ofNat, Fin.mul_def, Nat.mul_mod]
theorem ofNat_mod (a : Nat) : Fin.ofNat pN (a % pN) = Fin.ofNat pN a := by
  apply Fin.ext; simp [Fin.ofNat]
theorem ofNat_zero : Fin.ofNat pN 0 = (0 : K) := rfl
theorem ofNat_one : Fin.ofNat pN 1 = (1 : K) := rfl
theorem ofNat_val (a : K) : Fin.ofNat pN a.val = a := by apply Fin.ext; simp [Fin.ofNat, Nat.mod_eq_of_lt a.isLt]
theorem ofNat_eq_zero {a : Nat} : Fin.ofNat pN a = (0 : K) ↔ pN ∣ a := by
  constructor
  · intro h
    have := congrArg Fin.val h
    exact Nat.dvd_of_mod_eq_zero (by simpa [Fin.ofNat] using this)
  · intro h
    apply Fin.ext
    simpa [Fin.ofNat] using Nat.mod_eq_zero_of_dvd h
/-- No two numbers but noughts make nought. -/
theorem mul_zeroK {a b : K} (h : a * b = 0) : a = 0 ∨ b = 0 := by
  rw [← ofNat_val a, ← ofNat_val b] at h ⊢
  rw [← ofNat_mul, ofNat_eq_zero] at h
  rw [ofNat_eq_zero, ofNat_eq_zero]
  exact prime_pN.mul h
theorem mul_neK {a b : K} (ha : a ≠ 0) (hb : b ≠ 0) : a * b ≠ 0 := fun h => (mul_zeroK h).elim ha hb
theorem powK (a : Nat) : ∀ e, Fin.ofNat pN (a ^ e) = (Fin.ofNat pN a : K) ^ e
  | 0 => rfl
  | e + 1 => by rw [Nat.pow_succ, ofNat_mul, powK a e]; rfl
/-- The inverse, as a power. -/
def invK (a : K) : K := Fin.ofNat pN (pm 256 a.val (pN - 2) pN)
theorem inv_mulK {a : K} (h : a ≠ 0) : a * invK a = 1 := by
  have hd : ¬ pN ∣ a.val := fun hd => h (by rw [← ofNat_val a]; exact ofNat_eq_zero.2 hd)
  have h1 := fermat_one prime_pN hd
  unfold invK
  rw [pm_eq pN 256 _ _ (by decide +kernel), ofNat_mod]
  conv => lhs; lhs; rw [← ofNat_val a]
  rw [← ofNat_mul, ← Nat.pow_succ', show (pN - 2).succ = pN - 1 from rfl, ← ofNat_mod, h1]
  rfl
theorem inv_unique {a i : K} (h : a * i = 1) : i = invK a := by
  have ha : a ≠ 0 := by rintro rfl; rw [Fin.zero_mul] at h; exact absurd h (by decide)
  have h2 := inv_mulK ha
  have h3 : a * (i - invK a) = 0 := by grind
  rcases mul_zeroK h3 with h4 | h4
  · exact absurd h4 ha
  · grind
/-- What is taken times something that isn't nought may be held against what is taken times it. -/
theorem cancelK {a b c : K} (hc : c ≠ 0) (h : a * c = b * c) : a = b := by
  have : (a - b) * c = 0 := by grind
  rcases mul_zeroK this with h1 | h1
  · grind
  · exact absurd h1 hc
theorem twoK : (2 : K) ≠ 0 := by decide
theorem threeK : (3 : K) ≠ 0 := by decide

/-- Numbers of three parts: a + b t + c t t, where t t t = 3 t - bK. -/
structure T3 where
  a : K
  b : K
  c : K
def T3.ev (x : T3) (t : K) : K := x.a + x.b * t + x.c * (t * t)
def T3.mul (x y : T3) : T3 :=
  let d3 := x.b * y.c + x.c * y.b
  let d4 := x.c * y.c
  ⟨x.a * y.a - bK * d3, x.a * y.b + x.b * y.a + 3 * d3 - bK * d4, x.a * y.c + x.b * y.b + x.c * y.a + 3 * d4⟩
theorem T3.ev_mul (x y : T3) {t : K} (ht : t * t * t - 3 * t + bK = 0) : (x.mul y).ev t = x.ev t * y.ev t := by
  obtain ⟨xa, xb, xc⟩ := x
  obtain ⟨ya, yb, yc⟩ := y
  generalize hb : bK = b at *
  simp only [T3.ev, T3.mul, hb]
  grind
def T3.pow : Nat → T3 → Nat → T3
  | 0, _, _ => ⟨1, 0, 0⟩
  | f + 1, x, e => if e % 2 = 1 then x.mul (T3.pow f (x.mul x) (e / 2)) else T3.pow f (x.mul x) (e / 2)
theorem pow_addK (a : K) (m : Nat) : ∀ n, a ^ (m + n) = a ^ m * a ^ n
  | 0 => by show a ^ m = a ^ m * 1; grind
  | n + 1 => by show a ^ (m + n) * a = a ^ m * (a ^ n * a); rw [pow_addK a m n]; grind
theorem pow_mulK (a : K) : ∀ e, (a * a) ^ e = a ^ (2 * e)
  | 0 => rfl
  | e + 1 => by
    show (a * a) ^ e * (a * a) = a ^ (2 * e + 2)
    rw [pow_mulK a e, pow_addK a (2 * e) 2]
    show _ = _ * (1 * a * a)
    grind
theorem T3.ev_pow {t : K} (ht : t * t * t - 3 * t + bK = 0) : ∀ (f : Nat) (x : T3) (e : Nat), e < 2 ^ f → (T3.pow f x e).ev t = x.ev t ^ e
  | 0, x, e, h => by
    obtain rfl : e = 0 := by simpa using h
    show (1 : K) + 0 * t + 0 * (t * t) = 1
    rw [Fin.zero_mul, Fin.zero_mul, Fin.add_zero, Fin.add_zero]
  | f + 1, x, e, h => by
    have ih := T3.ev_pow ht f (x.mul x) (e / 2) (by rw [Nat.pow_succ] at h; omega)
    rw [T3.ev_mul x x ht, pow_mulK] at ih
    unfold T3.pow
    by_cases ho : e % 2 = 1
    · rw [if_pos ho, T3.ev_mul _ _ ht, ih]
      have : e = 1 + 2 * (e / 2) := by omega
      conv => rhs; rw [this, pow_addK]
      show _ = (1 * x.ev t) * _
      grind
    · rw [if_neg ho, ih]
      congr 1
      omega
theorem fermatK (t : K) : t ^ pN = t := by
  have h := fermat prime_pN t.val
  rw [← ofNat_val t, ← powK, ← ofNat_mod, h, ofNat_mod]
def rT : T3 := T3.pow 256 ⟨0, 1, 0⟩ pN
theorem rT_eq : rT = ⟨Fin.ofNat pN 66434390973925144466073271287821796038003695194169110494110089305650096453661, Fin.ofNat pN 12402202686218762177567235911775779164004716598278868847786114277539554646092, Fin.ofNat pN 24678849118215552148312087830792888746041224110560601850711771001608500700145⟩ := by
  have h : ∀ x y : T3, (x.a == y.a && x.b == y.b && x.c == y.c) = true → x = y := by
    rintro ⟨a, b, c⟩ ⟨d, e, f⟩ h
    simp only [Bool.and_eq_true, beq_iff_eq] at h
    obtain ⟨⟨rfl, rfl⟩, rfl⟩ := h
    rfl
  exact h _ _ (by decide +kernel)
/-- The curve's polynomial has no root: there is no point of order two. -/
theorem no_root (t : K) : t * t * t - 3 * t + bK ≠ 0 := by
  intro ht
  have h1 := T3.ev_pow ht 256 ⟨0, 1, 0⟩ pN (by decide)
  have h0 : (⟨0, 1, 0⟩ : T3).ev t = t := by
    show (0 : K) + 1 * t + 0 * (t * t) = t
    grind
  rw [h0, fermatK] at h1
  have h2 : rT.ev t = t := h1
  rw [rT_eq] at h2
  simp only [T3.ev] at h2
  obtain ⟨r0, hr0⟩ : ∃ r0 : K, r0 = Fin.ofNat pN 66434390973925144466073271287821796038003695194169110494110089305650096453661 := ⟨_, rfl⟩
  obtain ⟨r1, hr1⟩ : ∃ r1 : K, r1 = Fin.ofNat pN 12402202686218762177567235911775779164004716598278868847786114277539554646092 := ⟨_, rfl⟩
  obtain ⟨r2, hr2⟩ : ∃ r2 : K, r2 = Fin.ofNat pN 24678849118215552148312087830792888746041224110560601850711771001608500700145 := ⟨_, rfl⟩
  obtain ⟨i2, hi2⟩ : ∃ i2 : K, i2 = Fin.ofNat pN 6131298750951523244562638572856150241732027081162318979957017250921957309260 := ⟨_, rfl⟩
  obtain ⟨al, hal⟩ : ∃ al : K, al = Fin.ofNat pN 46563810869029338183529616443964377923083891821391772790284713373796751190220 := ⟨_, rfl⟩
  obtain ⟨be, hbe⟩ : ∃ be : K, be = Fin.ofNat pN 2 := ⟨_, rfl⟩
  obtain ⟨ig, hig⟩ : ∃ ig : K, ig = Fin.ofNat pN 52608018465713852339899995848108786535529536607091291889139954752671423675232 := ⟨_, rfl⟩
  obtain ⟨ta, hta⟩ : ∃ ta : K, ta = Fin.ofNat pN 13742044279420952356257477354732963185611372711899201259306574315787187171010 := ⟨_, rfl⟩
  have e1 : r2 * i2 = 1 := by rw [hr2, hi2]; decide +kernel
  have e2 : al = (1 - r1) * i2 := by rw [hal, hr1, hi2]; decide +kernel
  have e3 : be = - r0 * i2 := by rw [hbe, hr0, hi2]; decide +kernel
  have e4 : (al * al + be - 3) * ig = 1 := by rw [hal, hbe, hig]; decide +kernel
  have e5 : ta = - (al * be + bK) * ig := by rw [hta, hal, hbe, hig]; decide +kernel
  have e6 : ta * ta * ta - 3 * ta + bK ≠ 0 := by rw [hta]; decide +kernel
  rw [← hr0, ← hr1, ← hr2] at h2
  clear hr0 hr1 hr2 hi2 hal hbe hig hta h1 h0
  generalize bK = b at *
  have f1 : t * t = al * t + be := by grind
  have f2 : (al * al + be - 3) * t + (al * be + b) = 0 := by grind
  have f3 : t = ta := by grind
  rw [f3] at ht
  exact e6 ht
/-- The curve's sum (Renes, Costello, Batina), part by part. -/
def sX (b x1 y1 z1 x2 y2 z2 : K) : K := (x1*y2+y1*x2) * (y1*y2 + 3*((x1*z2+z1*x2) - b*(z1*z2))) - (y1*z2+z1*y2) * (3*((b*(x1*z2+z1*x2) - 3*(z1*z2)) - x1*x2))
def sY (b x1 y1 z1 x2 y2 z2 : K) : K := (y1*y2 + 3*((x1*z2+z1*x2) - b*(z1*z2))) * (y1*y2 - 3*((x1*z2+z1*x2) - b*(z1*z2))) + (3*((b*(x1*z2+z1*x2) - 3*(z1*z2)) - x1*x2)) * (3*(x1*x2) - 3*(z1*z2))
def sZ (b x1 y1 z1 x2 y2 z2 : K) : K := (y1*z2+z1*y2) * (y1*y2 - 3*((x1*z2+z1*x2) - b*(z1*z2))) + (x1*y2+y1*x2) * (3*(x1*x2) - 3*(z1*z2))
theorem scX (b x1 y1 z1 x2 y2 z2 : K) : sX b (x1*z1) (y1*z1) z1 (x2*z2) (y2*z2) z2 = sX b x1 y1 1 x2 y2 1 * (z1*z1*(z2*z2)) := by unfold sX; grind
theorem scY (b x1 y1 z1 x2 y2 z2 : K) : sY b (x1*z1) (y1*z1) z1 (x2*z2) (y2*z2) z2 = sY b x1 y1 1 x2 y2 1 * (z1*z1*(z2*z2)) := by unfold sY; grind
theorem scZ (b x1 y1 z1 x2 y2 z2 : K) : sZ b (x1*z1) (y1*z1) z1 (x2*z2) (y2*z2) z2 = sZ b x1 y1 1 x2 y2 1 * (z1*z1*(z2*z2)) := by unfold sZ; grind
theorem chX {b x1 y1 x2 y2 : K} (h1 : y1*y1 = x1*x1*x1 - 3*x1 + b) (h2 : y2*y2 = x2*x2*x2 - 3*x2 + b) :
   (x2-x1)*(x2-x1)*sX b x1 y1 1 x2 y2 1 = ((y2-y1)*(y2-y1) - (x1+x2)*((x2-x1)*(x2-x1))) * sZ b x1 y1 1 x2 y2 1 := by unfold sX sZ; grind
theorem chZ {b x1 y1 x2 y2 : K} (h1 : y1*y1 = x1*x1*x1 - 3*x1 + b) (h2 : y2*y2 = x2*x2*x2 - 3*x2 + b) :
   sZ b x1 y1 1 x2 y2 1 = - ((y1+y2)*(x1*((x1-x2)*(x1-x2)) - (y1+y2)*(y1+y2) + (x1+x2)*((x1-x2)*(x1-x2))) - y1*((x1-x2)*(x1-x2)*(x1-x2))) := by unfold sZ; grind
theorem chY {b x1 y1 x2 y2 : K} (h1 : y1*y1 = x1*x1*x1 - 3*x1 + b) (h2 : y2*y2 = x2*x2*x2 - 3*x2 + b) :
   (x2-x1)*(x2-x1)*(x2-x1)*sY b x1 y1 1 x2 y2 1 = ((y2-y1)*(x1*((x2-x1)*(x2-x1)) - ((y2-y1)*(y2-y1) - (x1+x2)*((x2-x1)*(x2-x1)))) - y1*((x2-x1)*(x2-x1)*(x2-x1))) * sZ b x1 y1 1 x2 y2 1 := by unfold sY sZ; grind
theorem dbZ {b x y : K} (h1 : y*y = x*x*x - 3*x + b) : sZ b x y 1 x y 1 = 8*(y*y*y) := by unfold sZ; grind
theorem dbX {b x y : K} (h1 : y*y = x*x*x - 3*x + b) : (2*y)*(2*y)*sX b x y 1 x y 1 = (9*(x*x-1)*(x*x-1) - 8*x*y*y) * sZ b x y 1 x y 1 := by unfold sX sZ; grind
theorem dbY {b x y : K} (h1 : y*y = x*x*x - 3*x + b) : (2*y)*(2*y)*(2*y)*sY b x y 1 x y 1 = (3*(x*x-1)*(x*((2*y)*(2*y)) - (9*(x*x-1)*(x*x-1) - 8*x*y*y)) - y*((2*y)*(2*y)*(2*y))) * sZ b x y 1 x y 1 := by unfold sY sZ; grind
theorem opX (b x y : K) : sX b x y 1 x (-y) 1 = 0 := by unfold sX; grind
theorem opZ (b x y : K) : sZ b x y 1 x (-y) 1 = 0 := by unfold sZ; grind
theorem opY {b x y : K} (h1 : y*y = x*x*x - 3*x + b) : sY b x y 1 x (-y) 1 = 3*(x*x-1)*(x*((2*y)*(2*y)) - (9*(x*x-1)*(x*x-1) - 8*x*y*y)) - y*((2*y)*(2*y)*(2*y)) := by unfold sY; grind
set_option maxHeartbeats 2000000 in
theorem closed {b x1 y1 x2 y2 : K} (h1 : y1*y1 = x1*x1*x1 - 3*x1 + b) (h2 : y2*y2 = x2*x2*x2 - 3*x2 + b) :
   sY b x1 y1 1 x2 y2 1*sY b x1 y1 1 x2 y2 1*sZ b x1 y1 1 x2 y2 1 = sX b x1 y1 1 x2 y2 1*sX b x1 y1 1 x2 y2 1*sX b x1 y1 1 x2 y2 1 - 3*sX b x1 y1 1 x2 y2 1*sZ b x1 y1 1 x2 y2 1*sZ b x1 y1 1 x2 y2 1 + b*sZ b x1 y1 1 x2 y2 1*sZ b x1 y1 1 x2 y2 1*sZ b x1 y1 1 x2 y2 1 := by unfold sX sY sZ; grind
/-- A point: none is infinity. -/
abbrev Pt := Option (K × K)
def onPt : Pt → Prop
  | none => True
  | some (x, y) => y * y = x * x * x - 3 * x + bK
/-- A point over a third number. -/
structure P3 where
  x : K
  y : K
  z : K
def Rep (p : P3) : Pt → Prop
  | none => p.x = 0 ∧ p.z = 0 ∧ p.y ≠ 0
  | some (x, y) => p.z ≠ 0 ∧ p.x = x * p.z ∧ p.y = y * p.z
def sum3 (p q : P3) : P3 := ⟨sX bK p.x p.y p.z q.x q.y q.z, sY bK p.x p.y p.z q.x q.y q.z, sZ bK p.x p.y p.z q.x q.y q.z⟩
def toPt (p : P3) : Pt := if p.z = 0 then none else some (p.x * invK p.z, p.y * invK p.z)
/-- A line of a slope through a point, and where it ends. -/
def lineK (s x1 y1 x2 : K) : K × K := (s * s - x1 - x2, s * (x1 - (s * s - x1 - x2)) - y1)
/-- The law of the group, as the document has it. -/
def addPt : Pt → Pt → Pt
  | none, Q => Q
  | P, none => P
  | some (x1, y1), some (x2, y2) =>
    if x1 = x2 then (if y1 + y2 = 0 then none else some (lineK (3 * (x1 * x1 - 1) * invK (y1 + y1)) x1 y1 x2))
    else some (lineK ((y2 - y1) * invK (x2 - x1)) x1 y1 x2)
theorem toPt_rep {p : P3} {P : Pt} (h : Rep p P) : toPt p = P := by
  unfold toPt
  match P, h with
  | none, h => rw [if_pos h.2.1]
  | some (x, y), ⟨h1, h2, h3⟩ =>
    rw [if_neg h1, h2, h3]
    have := inv_mulK h1
    have e1 : x * p.z * invK p.z = x := by grind
    have e2 : y * p.z * invK p.z = y := by grind
    rw [e1, e2]
theorem y_ne {x y : K} (h : y * y = x * x * x - 3 * x + bK) : y ≠ 0 := by
  rintro rfl
  exact no_root x (by rw [← h]; exact Fin.zero_mul 0)
theorem two_mul_ne {y : K} (h : y ≠ 0) : 2 * y ≠ 0 := mul_neK twoK h
theorem eightK : (8 : K) ≠ 0 := by decide
theorem rep_scale {p q : P3} {x1 y1 x2 y2 : K} {P : Pt} (hp : Rep p (some (x1, y1))) (hq : Rep q (some (x2, y2))) (h : Rep ⟨sX bK x1 y1 1 x2 y2 1, sY bK x1 y1 1 x2 y2 1, sZ bK x1 y1 1 x2 y2 1⟩ P) : Rep (sum3 p q) P := by
  obtain ⟨hz1, e1, e2⟩ := hp
  obtain ⟨hz2, e3, e4⟩ := hq
  have hz : p.z * p.z * (q.z * q.z) ≠ 0 := mul_neK (mul_neK hz1 hz1) (mul_neK hz2 hz2)
  unfold sum3
  rw [e1, e2, e3, e4, scX, scY, scZ]
  match P, h with
  | none, ⟨h1, h2, h3⟩ =>
    simp only at h1 h2 h3
    refine ⟨?_, ?_, mul_neK h3 hz⟩
    · show sX bK x1 y1 1 x2 y2 1 * _ = 0
      rw [h1]; exact Fin.zero_mul _
    · show sZ bK x1 y1 1 x2 y2 1 * _ = 0
      rw [h2]; exact Fin.zero_mul _
  | some (x, y), ⟨h1, h2, h3⟩ =>
    simp only at h1 h2 h3
    refine ⟨mul_neK h1 hz, ?_, ?_⟩
    · show sX bK x1 y1 1 x2 y2 1 * _ = x * (sZ bK x1 y1 1 x2 y2 1 * _)
      rw [h2]; grind
    · show sY bK x1 y1 1 x2 y2 1 * _ = y * (sZ bK x1 y1 1 x2 y2 1 * _)
      rw [h3]; grind
/-- A point made by the sum lies on the curve. -/
theorem on_of_rep {x1 y1 x2 y2 x y : K} (h1 : y1*y1 = x1*x1*x1 - 3*x1 + bK) (h2 : y2*y2 = x2*x2*x2 - 3*x2 + bK) (h : Rep ⟨sX bK x1 y1 1 x2 y2 1, sY bK x1 y1 1 x2 y2 1, sZ bK x1 y1 1 x2 y2 1⟩ (some (x, y))) : y*y = x*x*x - 3*x + bK := by
  obtain ⟨hz, hx, hy⟩ := h
  have hc := closed h1 h2
  simp only at hz hx hy
  generalize sX bK x1 y1 1 x2 y2 1 = X at *
  generalize sY bK x1 y1 1 x2 y2 1 = Y at *
  generalize sZ bK x1 y1 1 x2 y2 1 = Z at *
  generalize bK = b at *
  have h3 : (y*y) * (Z*Z*Z) = (x*x*x - 3*x + b) * (Z*Z*Z) := by rw [hx, hy] at hc; grind
  exact cancelK (mul_neK (mul_neK hz hz) hz) h3
theorem sub_zeroK {a b : K} (h : a - b = 0) : a = b := by grind
theorem div_eq {s d i m : K} (hi : d * i = 1) (hm : m = s * i) : s = m * d := by subst hm; grind
theorem chord_e1 {x1 y1 x2 y2 m xd : K} (e0 : y1 + y2 = m * (x1 - x2)) (hxd : xd = m * m - x1 - x2) (hz : - ((y1+y2)*(x1*((x1-x2)*(x1-x2)) - (y1+y2)*(y1+y2) + (x1+x2)*((x1-x2)*(x1-x2))) - y1*((x1-x2)*(x1-x2)*(x1-x2))) = 0) : (m * (x1 - xd) - y1) * ((x1 - x2) * (x1 - x2) * (x1 - x2)) = 0 := by
  rw [e0] at hz
  subst hxd
  clear e0
  grind
theorem chord_e2 {b x1 y1 x2 y2 m xd : K} (e0 : y1 + y2 = m * (x1 - x2)) (hxd : xd = m * m - x1 - x2) (h1 : y1*y1 = x1*x1*x1 - 3*x1 + b) (h2 : y2*y2 = x2*x2*x2 - 3*x2 + b) : (m * (x1 - xd) - y1) * (m * (x1 - xd) - y1) * (x1 - x2) = (xd * xd * xd - 3 * xd + b) * (x1 - x2) := by
  have e : y2 = m * (x1 - x2) - y1 := by grind
  subst e hxd
  clear e0
  grind
theorem chord_z {x1 y1 x2 y2 : K} (h1 : y1*y1 = x1*x1*x1 - 3*x1 + bK) (h2 : y2*y2 = x2*x2*x2 - 3*x2 + bK) (hx : x1 ≠ x2) : sZ bK x1 y1 1 x2 y2 1 ≠ 0 := by
  intro hz
  rw [chZ h1 h2] at hz
  have hd : x1 - x2 ≠ 0 := fun h => hx (sub_zeroK h)
  have hi := inv_mulK hd
  obtain ⟨i, hi0⟩ : ∃ i, i = invK (x1 - x2) := ⟨_, rfl⟩
  rw [← hi0] at hi
  obtain ⟨m, hm⟩ : ∃ m, m = (y1 + y2) * i := ⟨_, rfl⟩
  obtain ⟨xd, hxd⟩ : ∃ xd, xd = m * m - x1 - x2 := ⟨_, rfl⟩
  refine no_root xd ?_
  generalize bK = b at *
  have e0 := div_eq hi hm
  have e1 : m * (x1 - xd) - y1 = 0 := by
    have := chord_e1 e0 hxd hz
    rcases mul_zeroK this with h | h
    · exact h
    · exact absurd h (mul_neK (mul_neK hd hd) hd)
  have e2 := chord_e2 e0 hxd h1 h2
  have e3 := cancelK hd e2
  rw [e1] at e3
  rw [← e3]; exact Fin.zero_mul 0
theorem ringX {X Z d s x1 x2 : K} (hX : d*d*X = (s*d*(s*d) - (x1+x2)*(d*d))*Z) : X*(d*d) = (s*s - x1 - x2)*Z*(d*d) := by grind
theorem ringY {Y Z d s x1 x2 y1 : K} (hY : d*d*d*Y = (s*d*(x1*(d*d) - (s*d*(s*d) - (x1+x2)*(d*d))) - y1*(d*d*d))*Z) : Y*(d*d*d) = (s*(x1 - (s*s - x1 - x2)) - y1)*Z*(d*d*d) := by grind
theorem ring1 (y : K) : 2 * y = y + y := by grind
theorem ring2 (x : K) : 9 * (x * x - 1) * (x * x - 1) = (3 * (x * x - 1)) * (3 * (x * x - 1)) := by grind
theorem ring3 (x y : K) : 8 * x * y * y = (x + x) * ((y + y) * (y + y)) := by grind
theorem ring4 (s d x y : K) : s * d * (x * (d * d) - (s * d * (s * d) - (x + x) * (d * d))) - y * (d * d * d) = (s * (x - (s * s - x - x)) - y) * (d * d * d) := by grind
theorem neg_of {a b : K} (h : a + b = 0) : b = -a := by grind
theorem sq_diff {a b c : K} (h1 : a * a = c) (h2 : b * b = c) : (b - a) * (a + b) = 0 := by grind
theorem dbl_ne {y : K} (h : y ≠ 0) : y + y ≠ 0 := by rw [← ring1]; exact two_mul_ne h
theorem s00x (b a1 b1 : K) : sX b 0 a1 0 0 b1 0 = 0 := by unfold sX; grind
theorem s00z (b a1 b1 : K) : sZ b 0 a1 0 0 b1 0 = 0 := by unfold sZ; grind
theorem s00y (b a1 b1 : K) : sY b 0 a1 0 0 b1 0 = a1 * b1 * (a1 * b1) := by unfold sY; grind
theorem s01x (b a x y z : K) : sX b 0 a 0 (x*z) (y*z) z = x * (a * a * y * (z * z)) := by unfold sX; grind
theorem s01y (b a x y z : K) : sY b 0 a 0 (x*z) (y*z) z = y * (a * a * y * (z * z)) := by unfold sY; grind
theorem s01z (b a x y z : K) : sZ b 0 a 0 (x*z) (y*z) z = a * a * y * (z * z) := by unfold sZ; grind
theorem s10x (b a x y z : K) : sX b (x*z) (y*z) z 0 a 0 = x * (a * a * y * (z * z)) := by unfold sX; grind
theorem s10y (b a x y z : K) : sY b (x*z) (y*z) z 0 a 0 = y * (a * a * y * (z * z)) := by unfold sY; grind
theorem s10z (b a x y z : K) : sZ b (x*z) (y*z) z 0 a 0 = a * a * y * (z * z) := by unfold sZ; grind
theorem rep_chord {x1 y1 x2 y2 : K} (h1 : y1*y1 = x1*x1*x1 - 3*x1 + bK) (h2 : y2*y2 = x2*x2*x2 - 3*x2 + bK) (hx : x1 ≠ x2) :
    Rep ⟨sX bK x1 y1 1 x2 y2 1, sY bK x1 y1 1 x2 y2 1, sZ bK x1 y1 1 x2 y2 1⟩ (some (lineK ((y2 - y1) * invK (x2 - x1)) x1 y1 x2)) := by
  have hz := chord_z h1 h2 hx
  have hX := chX h1 h2
  have hY := chY h1 h2
  have hd : x2 - x1 ≠ 0 := fun h => hx (sub_zeroK h).symm
  have hi := inv_mulK hd
  generalize sX bK x1 y1 1 x2 y2 1 = X at *
  generalize sY bK x1 y1 1 x2 y2 1 = Y at *
  generalize sZ bK x1 y1 1 x2 y2 1 = Z at *
  generalize invK (x2 - x1) = i at *
  obtain ⟨s, hs⟩ : ∃ s, s = (y2 - y1) * i := ⟨_, rfl⟩
  have e0 := div_eq hi hs
  rw [← hs]
  rw [e0] at hX hY
  clear h1 h2 hs hi
  generalize hdd : x2 - x1 = d at *
  refine ⟨hz, ?_, ?_⟩
  · refine cancelK (mul_neK hd hd) ?_
    exact ringX hX
  · refine cancelK (mul_neK (mul_neK hd hd) hd) ?_
    exact ringY hY
theorem rep_double {x y : K} (h : y*y = x*x*x - 3*x + bK) :
    Rep ⟨sX bK x y 1 x y 1, sY bK x y 1 x y 1, sZ bK x y 1 x y 1⟩ (some (lineK (3 * (x * x - 1) * invK (y + y)) x y x)) := by
  have hy := y_ne h
  have hz : sZ bK x y 1 x y 1 ≠ 0 := by rw [dbZ h]; exact mul_neK eightK (mul_neK (mul_neK hy hy) hy)
  have hX := dbX h
  have hY := dbY h
  have hd := dbl_ne hy
  have hi := inv_mulK hd
  generalize sX bK x y 1 x y 1 = X at *
  generalize sY bK x y 1 x y 1 = Y at *
  generalize sZ bK x y 1 x y 1 = Z at *
  generalize invK (y + y) = i at *
  obtain ⟨s, hs⟩ : ∃ s, s = 3 * (x * x - 1) * i := ⟨_, rfl⟩
  have e0 := div_eq hi hs
  rw [← hs]
  have e1 := ring1 y
  have e2 := ring2 x
  have e3 := ring3 x y
  rw [e1, e2, e3, e0] at hX hY
  clear h hs hi e0 e1 e2 e3
  generalize y + y = d at *
  refine ⟨hz, ?_, ?_⟩
  · refine cancelK (mul_neK hd hd) ?_
    exact ringX hX
  · refine cancelK (mul_neK (mul_neK hd hd) hd) ?_
    exact ringY hY
/-- The opposite of a point takes it away. -/
theorem rep_opposite {x y : K} (h : y*y = x*x*x - 3*x + bK) :
    Rep ⟨sX bK x y 1 x (-y) 1, sY bK x y 1 x (-y) 1, sZ bK x y 1 x (-y) 1⟩ none := by
  refine ⟨opX _ _ _, opZ _ _ _, ?_⟩
  show sY bK x y 1 x (-y) 1 ≠ 0
  rw [opY h]
  have hy := y_ne h
  have hr := rep_double h
  have ho := on_of_rep h h hr
  have hn := y_ne ho
  have hd := dbl_ne hy
  have hi := inv_mulK hd
  generalize invK (y + y) = i at *
  obtain ⟨s, hs⟩ : ∃ s, s = 3 * (x * x - 1) * i := ⟨_, rfl⟩
  have e0 := div_eq hi hs
  rw [← hs] at hn
  have e1 := ring1 y
  have e2 := ring2 x
  have e3 := ring3 x y
  rw [e1, e2, e3, e0]
  clear h hs hi e0 e1 e2 e3 hr ho
  generalize y + y = d at *
  rw [ring4]
  exact mul_neK hn (mul_neK (mul_neK hd hd) hd)
theorem sum_rep {p q : P3} {P Q : Pt} (hp : Rep p P) (hq : Rep q Q) (oP : onPt P) (oQ : onPt Q) : Rep (sum3 p q) (addPt P Q) ∧ onPt (addPt P Q) := by
  match P, Q, hp, hq, oP, oQ with
  | none, none, ⟨a1, a2, a3⟩, ⟨b1, b2, b3⟩, _, _ =>
    unfold sum3
    rw [a1, a2, b1, b2, s00x, s00y, s00z]
    exact ⟨⟨rfl, rfl, mul_neK (mul_neK a3 b3) (mul_neK a3 b3)⟩, trivial⟩
  | none, some (x, y), ⟨a1, a2, a3⟩, ⟨b1, b2, b3⟩, _, o =>
    have hm := mul_neK (mul_neK (mul_neK a3 a3) (y_ne o)) (mul_neK b1 b1)
    unfold sum3
    rw [a1, a2, b2, b3, s01x, s01y, s01z]
    exact ⟨⟨hm, rfl, rfl⟩, o⟩
  | some (x, y), none, ⟨a1, a2, a3⟩, ⟨b1, b2, b3⟩, o, _ =>
    have hm := mul_neK (mul_neK (mul_neK b3 b3) (y_ne o)) (mul_neK a1 a1)
    unfold sum3
    rw [a2, a3, b1, b2, s10x, s10y, s10z]
    exact ⟨⟨hm, rfl, rfl⟩, o⟩
  | some (x1, y1), some (x2, y2), hp, hq, o1, o2 =>
    show Rep _ (if x1 = x2 then (if y1 + y2 = 0 then none else some (lineK (3 * (x1 * x1 - 1) * invK (y1 + y1)) x1 y1 x2)) else some (lineK ((y2 - y1) * invK (x2 - x1)) x1 y1 x2)) ∧ onPt (if x1 = x2 then (if y1 + y2 = 0 then none else some (lineK (3 * (x1 * x1 - 1) * invK (y1 + y1)) x1 y1 x2)) else some (lineK ((y2 - y1) * invK (x2 - x1)) x1 y1 x2))
    by_cases hx : x1 = x2
    · subst hx
      rw [if_pos rfl]
      by_cases hy : y1 + y2 = 0
      · rw [if_pos hy]
        have e := neg_of hy
        subst e
        exact ⟨rep_scale hp hq (rep_opposite o1), trivial⟩
      · rw [if_neg hy]
        have e : y2 = y1 := by
          have : (y2 - y1) * (y1 + y2) = 0 := sq_diff o1 o2
          rcases mul_zeroK this with h | h
          · exact sub_zeroK h
          · exact absurd h hy
        subst e
        have hr := rep_double o1
        exact ⟨rep_scale hp hq hr, on_of_rep o1 o1 hr⟩
    · rw [if_neg hx]
      have hr := rep_chord o1 o2 hx
      exact ⟨rep_scale hp hq hr, on_of_rep o1 o2 hr⟩
/-- What reckons with polynomials: its words. -/
structure Ops (A : Type) where
  cst : Nat → A
  add : A → A → A
  mul : A → A → A
  neg : A → A
  isz : A → Bool
/-- What they mean in the field. -/
structure Hom {A : Type} (O : Ops A) (ev : A → K) : Prop where
  cst : ∀ n, ev (O.cst n) = Fin.ofNat pN n
  add : ∀ a b, ev (O.add a b) = ev a + ev b
  mul : ∀ a b, ev (O.mul a b) = ev a * ev b
  neg : ∀ a, ev (O.neg a) = - ev a
  isz : ∀ a, O.isz a = true → ev a = 0
def natOps : Ops Nat := ⟨fun n => n % pN, fun a b => (a + b) % pN, fun a b => a * b % pN, fun a => (pN - a % pN) % pN, fun a => a % pN == 0⟩
theorem neg_uniqueK {a b : K} (h : a + b = 0) : b = - a := by grind
theorem natHom : Hom natOps (fun a => Fin.ofNat pN a) where
  cst n := ofNat_mod n
  add a b := by show Fin.ofNat pN ((a + b) % pN) = _; rw [ofNat_mod, ofNat_add]
  mul a b := by show Fin.ofNat pN (a * b % pN) = _; rw [ofNat_mod, ofNat_mul]
  neg a := by
    show Fin.ofNat pN ((pN - a % pN) % pN) = _
    rw [ofNat_mod]
    refine neg_uniqueK ?_
    have h : Fin.ofNat pN (a % pN + (pN - a % pN)) = (0 : K) := by
      rw [ofNat_eq_zero, Nat.add_sub_cancel' (Nat.le_of_lt (Nat.mod_lt a (by decide)))]
      exact Nat.dvd_refl _
    rw [ofNat_add, ofNat_mod] at h
    exact h
  isz a h := by
    have h1 : (a % pN == 0) = true := h
    rw [beq_iff_eq] at h1
    exact ofNat_eq_zero.2 (Nat.dvd_of_mod_eq_zero h1)
def addL {A : Type} (O : Ops A) : List A → List A → List A
  | [], q => q
  | a :: p, [] => a :: p
  | a :: p, b :: q => O.add a b :: addL O p q
def mulL {A : Type} (O : Ops A) : List A → List A → List A
  | [], _ => []
  | a :: p, q => addL O (q.map (O.mul a)) (O.cst 0 :: mulL O p q)
/-- A part ahead of others; no noughts at the end. -/
def consT {A : Type} (O : Ops A) (a : A) : List A → List A
  | [] => if O.isz a then [] else [a]
  | b :: p => a :: b :: p
def trim {A : Type} (O : Ops A) : List A → List A
  | [] => []
  | a :: p => consT O a (trim O p)
def polyOps {A : Type} (O : Ops A) : Ops (List A) := ⟨fun n => [O.cst n], fun p q => trim O (addL O p q), fun p q => trim O (mulL O p q), fun p => p.map O.neg, fun p => p.all O.isz⟩
def evL {A : Type} (ev : A → K) (t : K) : List A → K
  | [] => 0
  | a :: p => ev a + t * evL ev t p
theorem zeroK : Fin.ofNat pN 0 = (0 : K) := rfl
theorem pr1 (a b t p q : K) : a + b + t * (p + q) = a + t * p + (b + t * q) := by grind
theorem pr2 (a b t p : K) : a * b + t * (a * p) = a * (b + t * p) := by grind
theorem pr3 (a t p q : K) : a * q + (0 + t * (p * q)) = (a + t * p) * q := by grind
theorem pr4 (a t p : K) : -a + t * -p = -(a + t * p) := by grind
theorem pr5 (a t : K) : a + t * 0 = a := by grind
theorem pr6 (t : K) : (0 : K) + t * 0 = 0 := pr5 0 t
theorem pr7 (a : K) : 0 + a = a := by grind
theorem pr8 (a : K) : a + 0 = a := by grind
theorem pr9 (a : K) : a * 0 = 0 := by grind
theorem pr10 (a : K) : 0 * a = 0 := by grind
theorem pr12 (a : K) : a - 0 = a := by grind
theorem pr11 : (0 : K) = -0 := by rw [show (-(0 : K)) = 0 - 0 by grind]; exact (pr12 0).symm
theorem evL_add {A : Type} {O : Ops A} {ev : A → K} (h : Hom O ev) (t : K) : ∀ p q, evL ev t (addL O p q) = evL ev t p + evL ev t q
  | [], q => (pr7 _).symm
  | a :: p, [] => (pr8 _).symm
  | a :: p, b :: q => by
    show ev (O.add a b) + t * evL ev t (addL O p q) = _
    rw [h.add, evL_add h t p q]
    exact pr1 _ _ _ _ _
theorem evL_scale {A : Type} {O : Ops A} {ev : A → K} (h : Hom O ev) (t : K) (a : A) : ∀ q, evL ev t (q.map (O.mul a)) = ev a * evL ev t q
  | [] => (pr9 _).symm
  | b :: q => by
    show ev (O.mul a b) + t * evL ev t (q.map (O.mul a)) = _
    rw [h.mul, evL_scale h t a q]
    exact pr2 _ _ _ _
theorem evL_mul {A : Type} {O : Ops A} {ev : A → K} (h : Hom O ev) (t : K) : ∀ p q, evL ev t (mulL O p q) = evL ev t p * evL ev t q
  | [], q => (pr10 _).symm
  | a :: p, q => by
    show evL ev t (addL O (q.map (O.mul a)) (O.cst 0 :: mulL O p q)) = _
    rw [evL_add h, evL_scale h]
    show _ + (ev (O.cst 0) + t * evL ev t (mulL O p q)) = _
    rw [h.cst, zeroK, evL_mul h t p q]
    exact pr3 _ _ _ _
theorem evL_trim {A : Type} {O : Ops A} {ev : A → K} (h : Hom O ev) (t : K) : ∀ p, evL ev t (trim O p) = evL ev t p
  | [] => rfl
  | a :: p => by
    have ih := evL_trim h t p
    show evL ev t (consT O a (trim O p)) = ev a + t * evL ev t p
    rw [← ih]
    cases hp : trim O p with
    | nil =>
      show evL ev t (if O.isz a then [] else [a]) = ev a + t * 0
      cases hz : O.isz a with
      | true => rw [if_pos rfl, h.isz a hz]; exact (pr6 t).symm
      | false => rw [if_neg (by decide)]; rfl
    | cons b q => rfl
theorem polyHom {A : Type} {O : Ops A} {ev : A → K} (h : Hom O ev) (t : K) : Hom (polyOps O) (evL ev t) where
  cst n := by show ev (O.cst n) + t * 0 = _; rw [h.cst]; exact pr5 _ _
  add p q := (evL_trim h t _).trans (evL_add h t p q)
  mul p q := (evL_trim h t _).trans (evL_mul h t p q)
  neg p := by
    show evL ev t (p.map O.neg) = _
    induction p with
    | nil => exact pr11
    | cons a p ih => show ev (O.neg a) + t * evL ev t (p.map O.neg) = _; rw [h.neg, ih]; exact pr4 _ _ _
  isz p hz0 := by
    have hz : p.all O.isz = true := hz0
    clear hz0
    revert hz
    induction p with
    | nil => intro _; rfl
    | cons a p ih =>
      intro hz
      rw [List.all_cons, Bool.and_eq_true] at hz
      show ev a + t * evL ev t p = 0
      rw [h.isz a hz.1, ih hz.2]
      exact pr6 t
/-- a + b y, where y y = f. -/
def quadOps {A : Type} (O : Ops A) (f : A) : Ops (A × A) := ⟨fun n => (O.cst n, O.cst 0), fun a b => (O.add a.1 b.1, O.add a.2 b.2), fun a b => (O.add (O.mul a.1 b.1) (O.mul (O.mul a.2 b.2) f), O.add (O.mul a.1 b.2) (O.mul a.2 b.1)), fun a => (O.neg a.1, O.neg a.2), fun a => O.isz a.1 && O.isz a.2⟩
def evQ {A : Type} (ev : A → K) (y : K) (a : A × A) : K := ev a.1 + y * ev a.2
theorem qr2 {a b c d f y : K} (h : y * y = f) : a * c + b * d * f + y * (a * d + b * c) = (a + y * b) * (c + y * d) := by grind
theorem quadHom {A : Type} {O : Ops A} {ev : A → K} (h : Hom O ev) {f : A} {y : K} (hy : y * y = ev f) : Hom (quadOps O f) (evQ ev y) where
  cst n := by show ev (O.cst n) + y * ev (O.cst 0) = _; rw [h.cst, h.cst, zeroK]; exact pr5 _ _
  add a b := by show ev (O.add a.1 b.1) + y * ev (O.add a.2 b.2) = _; rw [h.add, h.add]; exact pr1 _ _ _ _ _
  mul a b := by
    show ev (O.add (O.mul a.1 b.1) (O.mul (O.mul a.2 b.2) f)) + y * ev (O.add (O.mul a.1 b.2) (O.mul a.2 b.1)) = _
    rw [h.add, h.add, h.mul, h.mul, h.mul, h.mul, h.mul]
    exact qr2 hy
  neg a := by show ev (O.neg a.1) + y * ev (O.neg a.2) = _; rw [h.neg, h.neg]; exact pr4 _ _ _
  isz a hz := by
    have hz : (O.isz a.1 && O.isz a.2) = true := hz
    rw [Bool.and_eq_true] at hz
    show ev a.1 + y * ev a.2 = 0
    rw [h.isz _ hz.1, h.isz _ hz.2]
    exact pr6 y
section
variable {A : Type} (O : Ops A)
def Ops.sub (a b : A) : A := O.add a (O.neg b)
def gX (b x1 y1 z1 x2 y2 z2 : A) : A :=
  let xy := O.add (O.mul x1 y2) (O.mul y1 x2)
  let xz := O.add (O.mul x1 z2) (O.mul z1 x2)
  let yz := O.add (O.mul y1 z2) (O.mul z1 y2)
  let zz := O.mul z1 z2
  O.sub (O.mul xy (O.add (O.mul y1 y2) (O.mul (O.cst 3) (O.sub xz (O.mul b zz))))) (O.mul yz (O.mul (O.cst 3) (O.sub (O.sub (O.mul b xz) (O.mul (O.cst 3) zz)) (O.mul x1 x2))))
def gY (b x1 y1 z1 x2 y2 z2 : A) : A :=
  let xz := O.add (O.mul x1 z2) (O.mul z1 x2)
  let zz := O.mul z1 z2
  let xx := O.mul x1 x2
  let yy := O.mul y1 y2
  let a := O.mul (O.cst 3) (O.sub xz (O.mul b zz))
  O.add (O.mul (O.add yy a) (O.sub yy a)) (O.mul (O.mul (O.cst 3) (O.sub (O.sub (O.mul b xz) (O.mul (O.cst 3) zz)) xx)) (O.sub (O.mul (O.cst 3) xx) (O.mul (O.cst 3) zz)))
def gZ (b x1 y1 z1 x2 y2 z2 : A) : A :=
  let xy := O.add (O.mul x1 y2) (O.mul y1 x2)
  let xz := O.add (O.mul x1 z2) (O.mul z1 x2)
  let yz := O.add (O.mul y1 z2) (O.mul z1 y2)
  let zz := O.mul z1 z2
  O.add (O.mul yz (O.sub (O.mul y1 y2) (O.mul (O.cst 3) (O.sub xz (O.mul b zz))))) (O.mul xy (O.sub (O.mul (O.cst 3) (O.mul x1 x2)) (O.mul (O.cst 3) zz)))
end
section
variable {A : Type} {O : Ops A} {ev : A → K} (h : Hom O ev)
include h
theorem Hom.sub (a b : A) : ev (O.sub a b) = ev a - ev b := by unfold Ops.sub; rw [h.add, h.neg]; grind
theorem three_ev : ev (O.cst 3) = (3 : K) := by rw [h.cst]; rfl
theorem gX_ev (b x1 y1 z1 x2 y2 z2 : A) : ev (gX O b x1 y1 z1 x2 y2 z2) = sX (ev b) (ev x1) (ev y1) (ev z1) (ev x2) (ev y2) (ev z2) := by
  unfold gX sX
  simp only [h.add, h.mul, h.sub, three_ev h]
theorem gY_ev (b x1 y1 z1 x2 y2 z2 : A) : ev (gY O b x1 y1 z1 x2 y2 z2) = sY (ev b) (ev x1) (ev y1) (ev z1) (ev x2) (ev y2) (ev z2) := by
  unfold gY sY
  simp only [h.add, h.mul, h.sub, three_ev h]
theorem gZ_ev (b x1 y1 z1 x2 y2 z2 : A) : ev (gZ O b x1 y1 z1 x2 y2 z2) = sZ (ev b) (ev x1) (ev y1) (ev z1) (ev x2) (ev y2) (ev z2) := by
  unfold gZ sZ
  simp only [h.add, h.mul, h.sub, three_ev h]
end
/-- Both ways to put three points together, held against each other. -/
def cross {A : Type} (O : Ops A) (b x1 y1 x2 y2 x3 y3 : A) : Bool :=
  let o := O.cst 1
  let lx := gX O b (gX O b x1 y1 o x2 y2 o) (gY O b x1 y1 o x2 y2 o) (gZ O b x1 y1 o x2 y2 o) x3 y3 o
  let ly := gY O b (gX O b x1 y1 o x2 y2 o) (gY O b x1 y1 o x2 y2 o) (gZ O b x1 y1 o x2 y2 o) x3 y3 o
  let lz := gZ O b (gX O b x1 y1 o x2 y2 o) (gY O b x1 y1 o x2 y2 o) (gZ O b x1 y1 o x2 y2 o) x3 y3 o
  let rx := gX O b x1 y1 o (gX O b x2 y2 o x3 y3 o) (gY O b x2 y2 o x3 y3 o) (gZ O b x2 y2 o x3 y3 o)
  let ry := gY O b x1 y1 o (gX O b x2 y2 o x3 y3 o) (gY O b x2 y2 o x3 y3 o) (gZ O b x2 y2 o x3 y3 o)
  let rz := gZ O b x1 y1 o (gX O b x2 y2 o x3 y3 o) (gY O b x2 y2 o x3 y3 o) (gZ O b x2 y2 o x3 y3 o)
  O.isz (O.sub (O.mul lx rz) (O.mul rx lz)) && O.isz (O.sub (O.mul ly rz) (O.mul ry lz)) && O.isz (O.sub (O.mul lx ry) (O.mul rx ly))
def gxN : Nat := 48439561293906451759052585252797914202762949526041747995844080717082404635286
def gyN : Nat := 36134250956749795798585127919587881956611106672985015071877198253568414405109
/-- Polynomials in x1 whose parts are polynomials in x2, with y1 and y2. -/
def O2 := polyOps (polyOps natOps)
def f1 : List (List Nat) := [[bN], [pN - 3], [0], [1]]
def f2 : List (List Nat) := [[bN, pN - 3, 0, 1]]
def O3 := quadOps O2 f1
def O4 := quadOps O3 (f2, [])
def vx1 : (List (List Nat) × List (List Nat)) × (List (List Nat) × List (List Nat)) := (([[], [1]], []), ([], []))
def vx2 : (List (List Nat) × List (List Nat)) × (List (List Nat) × List (List Nat)) := (([[0, 1]], []), ([], []))
def vy1 : (List (List Nat) × List (List Nat)) × (List (List Nat) × List (List Nat)) := (([], [[1]]), ([], []))
def vy2 : (List (List Nat) × List (List Nat)) × (List (List Nat) × List (List Nat)) := (([], []), ([[1]], []))
set_option maxRecDepth 1000000 in
theorem cross_true : cross O4 (O4.cst bN) vx1 vy1 vx2 vy2 (O4.cst gxN) (O4.cst gyN) = true := by decide +kernel
def gx : K := Fin.ofNat pN gxN
def gy : K := Fin.ofNat pN gyN
def gPt : Pt := some (gx, gy)
theorem g_on : onPt gPt := by
  show gy * gy = gx * gx * gx - 3 * gx + bK
  decide +kernel
theorem ev_f1 (x1 x2 : K) : evL (evL (fun a => Fin.ofNat pN a) x2) x1 f1 = x1 * x1 * x1 - 3 * x1 + bK := by
  have e3 : Fin.ofNat pN (pN - 3) = (-3 : K) := by decide +kernel
  show (Fin.ofNat pN bN + x2 * 0) + x1 * ((Fin.ofNat pN (pN - 3) + x2 * 0) + x1 * ((Fin.ofNat pN 0 + x2 * 0) + x1 * ((Fin.ofNat pN 1 + x2 * 0) + x1 * 0))) = _
  rw [e3, zeroK, ofNat_one, show Fin.ofNat pN bN = bK from rfl]
  generalize bK = b
  grind
theorem ev_f2 (x1 x2 : K) : evL (evL (fun a => Fin.ofNat pN a) x2) x1 f2 = x2 * x2 * x2 - 3 * x2 + bK := by
  have e3 : Fin.ofNat pN (pN - 3) = (-3 : K) := by decide +kernel
  show (Fin.ofNat pN bN + x2 * (Fin.ofNat pN (pN - 3) + x2 * (Fin.ofNat pN 0 + x2 * (Fin.ofNat pN 1 + x2 * 0)))) + x1 * 0 = _
  rw [e3, zeroK, ofNat_one, show Fin.ofNat pN bN = bK from rfl]
  generalize bK = b
  grind
theorem cross_ev {A : Type} {O : Ops A} {ev : A → K} (h : Hom O ev) {b x1 y1 x2 y2 x3 y3 : A} (hc : cross O b x1 y1 x2 y2 x3 y3 = true) (eb : ev b = bK) :
    let L := sum3 (sum3 ⟨ev x1, ev y1, 1⟩ ⟨ev x2, ev y2, 1⟩) ⟨ev x3, ev y3, 1⟩
    let R := sum3 ⟨ev x1, ev y1, 1⟩ (sum3 ⟨ev x2, ev y2, 1⟩ ⟨ev x3, ev y3, 1⟩)
    L.x * R.z - R.x * L.z = 0 ∧ L.y * R.z - R.y * L.z = 0 ∧ L.x * R.y - R.x * L.y = 0 := by
  unfold cross at hc
  simp only [Bool.and_eq_true] at hc
  have h1 : ev (O.cst 1) = (1 : K) := by rw [h.cst]; rfl
  have a := h.isz _ hc.1.1
  have b' := h.isz _ hc.1.2
  have c := h.isz _ hc.2
  simp only [h.sub, h.mul, gX_ev h, gY_ev h, gZ_ev h, h1, eb] at a b' c
  exact ⟨a, b', c⟩
theorem assoc_cross {x1 y1 x2 y2 : K} (h1 : y1*y1 = x1*x1*x1 - 3*x1 + bK) (h2 : y2*y2 = x2*x2*x2 - 3*x2 + bK) :
    let L := sum3 (sum3 ⟨x1, y1, 1⟩ ⟨x2, y2, 1⟩) ⟨gx, gy, 1⟩
    let R := sum3 ⟨x1, y1, 1⟩ (sum3 ⟨x2, y2, 1⟩ ⟨gx, gy, 1⟩)
    L.x * R.z - R.x * L.z = 0 ∧ L.y * R.z - R.y * L.z = 0 ∧ L.x * R.y - R.x * L.y = 0 := by
  have hO2 : Hom O2 (evL (evL (fun a => Fin.ofNat pN a) x2) x1) := polyHom (polyHom natHom x2) x1
  have hO3 : Hom O3 (evQ (evL (evL (fun a => Fin.ofNat pN a) x2) x1) y1) := quadHom hO2 (by rw [ev_f1]; exact h1)
  have hO4 : Hom O4 (evQ (evQ (evL (evL (fun a => Fin.ofNat pN a) x2) x1) y1) y2) := quadHom hO3 (by
    show _ = evL (evL (fun a => Fin.ofNat pN a) x2) x1 f2 + y1 * 0
    rw [ev_f2, h2]
    exact (pr5 _ _).symm)
  have hc := cross_ev hO4 cross_true (by rw [hO4.cst]; rfl)
  have c1 : Fin.ofNat pN 1 = (1 : K) := rfl
  have e1 : evQ (evQ (evL (evL (fun a => Fin.ofNat pN a) x2) x1) y1) y2 vx1 = x1 := by
    show (0 + x1 * ((Fin.ofNat pN 1 + x2 * 0) + x1 * 0)) + y1 * 0 + y2 * (0 + y1 * 0) = x1
    rw [c1]; clear hc hO2 hO3 hO4 h1 h2; grind
  have e2 : evQ (evQ (evL (evL (fun a => Fin.ofNat pN a) x2) x1) y1) y2 vx2 = x2 := by
    show ((Fin.ofNat pN 0 + x2 * (Fin.ofNat pN 1 + x2 * 0)) + x1 * 0) + y1 * 0 + y2 * (0 + y1 * 0) = x2
    rw [c1, zeroK]; clear hc hO2 hO3 hO4 h1 h2; grind
  have e3 : evQ (evQ (evL (evL (fun a => Fin.ofNat pN a) x2) x1) y1) y2 vy1 = y1 := by
    show 0 + y1 * ((Fin.ofNat pN 1 + x2 * 0) + x1 * 0) + y2 * (0 + y1 * 0) = y1
    rw [c1]; clear hc hO2 hO3 hO4 h1 h2; grind
  have e4 : evQ (evQ (evL (evL (fun a => Fin.ofNat pN a) x2) x1) y1) y2 vy2 = y2 := by
    show 0 + y1 * 0 + y2 * (((Fin.ofNat pN 1 + x2 * 0) + x1 * 0) + y1 * 0) = y2
    rw [c1]; clear hc hO2 hO3 hO4 h1 h2; grind
  have e5 : evQ (evQ (evL (evL (fun a => Fin.ofNat pN a) x2) x1) y1) y2 (O4.cst gxN) = gx := hO4.cst gxN
  have e6 : evQ (evQ (evL (evL (fun a => Fin.ofNat pN a) x2) x1) y1) y2 (O4.cst gyN) = gy := hO4.cst gyN
  rw [e1, e2, e3, e4, e5, e6] at hc
  exact hc
theorem ring5 {x x' a b : K} (h : x * a * b - x' * b * a = 0) : x * (a * b) = x' * (a * b) := by grind
theorem ring6 (x : K) : x * 1 = x := by grind
theorem rep_cross {p q : P3} {P Q : Pt} (hp : Rep p P) (hq : Rep q Q) (h1 : p.x * q.z - q.x * p.z = 0) (h2 : p.y * q.z - q.y * p.z = 0) : P = Q := by
  match P, Q, hp, hq with
  | none, none, _, _ => rfl
  | none, some (x, y), ⟨a1, a2, a3⟩, ⟨b1, b2, b3⟩ =>
    rw [a2, pr9] at h2
    rw [show p.y * q.z - 0 = p.y * q.z from pr12 _] at h2
    exact absurd h2 (mul_neK a3 b1)
  | some (x, y), none, ⟨a1, a2, a3⟩, ⟨b1, b2, b3⟩ =>
    rw [b2, pr9] at h2
    exact absurd (sub_zeroK h2).symm (mul_neK b3 a1)
  | some (x, y), some (x', y'), ⟨a1, a2, a3⟩, ⟨b1, b2, b3⟩ =>
    have e1 : x = x' := by
      refine cancelK (mul_neK a1 b1) ?_
      rw [a2, b2] at h1
      exact ring5 h1
    have e2 : y = y' := by
      refine cancelK (mul_neK a1 b1) ?_
      rw [a3, b3] at h2
      exact ring5 h2
    rw [e1, e2]
theorem oneK : (1 : K) ≠ 0 := by decide
theorem rep_one (x y : K) : Rep ⟨x, y, 1⟩ (some (x, y)) := ⟨oneK, (ring6 x).symm, (ring6 y).symm⟩
theorem add_none (P : Pt) : addPt P none = P := by cases P <;> rfl
theorem none_add (P : Pt) : addPt none P = P := rfl
theorem g_rep : Rep ⟨gx, gy, 1⟩ gPt := rep_one gx gy
theorem on_add {P Q : Pt} (hP : onPt P) (hQ : onPt Q) : onPt (addPt P Q) := by
  have rp : ∀ P : Pt, ∃ p, Rep p P := fun P => by
    cases P with
    | none => exact ⟨⟨0, 1, 0⟩, rfl, rfl, by decide⟩
    | some a => exact ⟨⟨a.1, a.2, 1⟩, rep_one _ _⟩
  obtain ⟨p, hp⟩ := rp P
  obtain ⟨q, hq⟩ := rp Q
  exact (sum_rep hp hq hP hQ).2
/-- Three points, the last of them the base, may be put together in either order. -/
theorem add_assoc_g (P Q : Pt) (hP : onPt P) (hQ : onPt Q) : addPt (addPt P Q) gPt = addPt P (addPt Q gPt) := by
  match P, Q, hP, hQ with
  | none, Q, _, _ => rfl
  | some P, none, _, _ => rw [add_none, none_add]
  | some (x1, y1), some (x2, y2), h1, h2 =>
    have r1 := rep_one x1 y1
    have r2 := rep_one x2 y2
    obtain ⟨s1, o1⟩ := sum_rep r1 r2 h1 h2
    obtain ⟨s2, o2⟩ := sum_rep s1 g_rep o1 g_on
    obtain ⟨s3, o3⟩ := sum_rep r2 g_rep h2 g_on
    obtain ⟨s4, o4⟩ := sum_rep r1 s3 h1 o3
    obtain ⟨a, b, _⟩ := assoc_cross h1 h2
    exact rep_cross s2 s4 a b
/-- The base, so often. -/
def mulG : Nat → Pt
  | 0 => none
  | n + 1 => addPt (mulG n) gPt
theorem on_mulG : ∀ n, onPt (mulG n)
  | 0 => trivial
  | n + 1 => on_add (on_mulG n) g_on
theorem mulG_add (a : Nat) : ∀ b, addPt (mulG a) (mulG b) = mulG (a + b)
  | 0 => add_none _
  | b + 1 => by
    show addPt (mulG a) (addPt (mulG b) gPt) = addPt (mulG (a + b)) gPt
    rw [← add_assoc_g _ _ (on_mulG a) (on_mulG b), mulG_add a b]
/-- By a number's bits, from the k-th on: doubled, and with p where the bit is one. -/
def times3 (n : Nat) (p : P3) : Nat → P3
  | 0 => ⟨0, 1, 0⟩
  | k + 1 =>
    let d := sum3 (times3 n p k) (times3 n p k)
    if n / 2 ^ (255 - k) % 2 = 1 then sum3 d p else d
theorem times_rep {n m : Nat} {p : P3} (hp : Rep p (mulG m)) (hn : n < 2 ^ 256) : ∀ k, k ≤ 256 → Rep (times3 n p k) (mulG (n / 2 ^ (256 - k) * m))
  | 0, _ => by
    rw [Nat.div_eq_of_lt (by simpa using hn), Nat.zero_mul]
    exact ⟨rfl, rfl, oneK⟩
  | k + 1, hk => by
    have ih := times_rep hp hn k (by omega)
    have hd := (sum_rep ih ih (on_mulG _) (on_mulG _)).1
    rw [mulG_add] at hd
    obtain ⟨v, hv⟩ : ∃ v, v = n / 2 ^ (255 - k) := ⟨_, rfl⟩
    have e1 : n / 2 ^ (256 - k) = v / 2 := by
      rw [hv, Nat.div_div_eq_div_mul, ← Nat.pow_succ]
      congr 2
      omega
    have e2 : 256 - (k + 1) = 255 - k := by omega
    rw [e2, ← hv]
    unfold times3
    rw [← hv]
    rw [e1] at hd
    by_cases h1 : v % 2 = 1
    · rw [if_pos h1]
      have hs := (sum_rep hd hp (on_mulG _) (on_mulG _)).1
      rw [mulG_add] at hs
      have : v / 2 * m + v / 2 * m + m = v * m := by
        rw [← Nat.add_mul]
        have : (v / 2 + v / 2) * m + m = (v / 2 + v / 2 + 1) * m := by rw [Nat.add_mul (v / 2 + v / 2), Nat.one_mul]
        rw [this]
        congr 1
        omega
      rw [← this]; exact hs
    · rw [if_neg h1]
      have : v / 2 * m + v / 2 * m = v * m := by
        rw [← Nat.add_mul]
        congr 1
        omega
      rw [← this]; exact hd
/-- How many points there are. -/
def nN : Nat := 115792089210356248762697446949407573529996955224135760342422259061068512044369
theorem times_mul {n m : Nat} {p : P3} (hp : Rep p (mulG m)) (hn : n < 2 ^ 256) : Rep (times3 n p 256) (mulG (n * m)) := by
  have := times_rep hp hn 256 (Nat.le_refl _)
  rwa [show 256 - 256 = 0 from rfl, Nat.pow_zero, Nat.div_one] at this
theorem g_one : mulG 1 = gPt := rfl
theorem g_rep1 : Rep ⟨gx, gy, 1⟩ (mulG 1) := g_rep
theorem order_z : (times3 nN ⟨gx, gy, 1⟩ 256).z = 0 := by decide +kernel
theorem none_of_z {n : Nat} (hn : n < 2 ^ 256) (hz : (times3 n ⟨gx, gy, 1⟩ 256).z = 0) : mulG n = none := by
  have h := toPt_rep (times_mul g_rep1 hn)
  rw [Nat.mul_one] at h
  unfold toPt at h
  rw [if_pos hz] at h
  exact h.symm
theorem mulG_order : mulG nN = none := none_of_z (by decide +kernel) order_z
theorem mulG_periods (a : Nat) : ∀ k, mulG (a + nN * k) = mulG a
  | 0 => rfl
  | k + 1 => by
    have ih := mulG_periods a k
    have e : a + nN * (k + 1) = a + nN * k + nN := by rw [Nat.mul_succ, Nat.add_assoc]
    rw [e, ← mulG_add, ih, mulG_order]
    exact add_none _
theorem mulG_mod (a : Nat) : mulG (a % nN) = mulG a := by
  have := mulG_periods (a % nN) (a / nN)
  rw [Nat.mod_add_div] at this
  exact this.symm
theorem mulG_comm (a b : Nat) : addPt (mulG a) (mulG b) = addPt (mulG b) (mulG a) := by rw [mulG_add, mulG_add, Nat.add_comm]
theorem mulG_assoc (a b c : Nat) : addPt (addPt (mulG a) (mulG b)) (mulG c) = addPt (mulG a) (addPt (mulG b) (mulG c)) := by rw [mulG_add, mulG_add, mulG_add, mulG_add, Nat.add_assoc]
/-- What takes a point away is its opposite. -/
theorem add_eq_none {x y : K} {Q : Pt} (h : addPt (some (x, y)) Q = none) : Q = some (x, -y) := by
  match Q, h with
  | none, h => cases h
  | some (x2, y2), h =>
    have h : (if x = x2 then (if y + y2 = 0 then none else some (lineK (3 * (x * x - 1) * invK (y + y)) x y x2)) else some (lineK ((y2 - y) * invK (x2 - x)) x y x2)) = none := h
    by_cases hx : x = x2
    · rw [if_pos hx] at h
      by_cases hy : y + y2 = 0
      · rw [neg_of hy, hx]
      · rw [if_neg hy] at h; cases h
    · rw [if_neg hx] at h; cases h
theorem opp_mulG (n : Nat) {x y : K} (h : mulG n = some (x, y)) : mulG ((nN - 1) * n) = some (x, -y) := by
  apply add_eq_none
  rw [← h, mulG_add]
  have : n + (nN - 1) * n = 0 + nN * n := by
    rw [Nat.zero_add]
    have e : nN = (nN - 1) + 1 := by decide +kernel
    conv => rhs; rw [e, Nat.add_mul, Nat.one_mul]
    exact Nat.add_comm _ _
  rw [this, mulG_periods]
  rfl
def twoX : Nat := 56515219790691171413109057904011688695424810155802929973526481321309856242040
def twoY : Nat := 3377031843712258259223711451491452598088675519751548567112458094635497583569
theorem mulG_two : mulG 2 = some (Fin.ofNat pN twoX, Fin.ofNat pN twoY) := by
  have h := toPt_rep (times_mul g_rep1 (show 2 < 2 ^ 256 by decide +kernel))
  have h2 : (match toPt (times3 2 ⟨gx, gy, 1⟩ 256) with | some (x, y) => x == Fin.ofNat pN twoX && y == Fin.ofNat pN twoY | none => false) = true := by decide +kernel
  rw [h] at h2
  show mulG (2 * 1) = _
  match mulG (2 * 1), h2 with
  | some (x, y), h2 =>
    simp only [Bool.and_eq_true, beq_iff_eq] at h2
    rw [h2.1, h2.2]
  | none, h2 => exact absurd h2 (by decide)
theorem infinity_off : ¬ ((0 : K) * 0 = 0 * 0 * 0 - 3 * 0 + bK) := by decide +kernel
end Go.Proofs.YtnkikhnllnbhfaaDoor.CurveMath
