/-
  A key's Open behind its Seal, and its Seal behind its Open.
-/
import Derived.Test.YtefbjhdcmgonbaaBMath
namespace Go.Proofs.Ytefbjhdcmgonbaa
open Go.RowKit

def put8 (x : UInt32) (b : UInt8) : UInt32 := (x <<< 8) ||| b.toUInt32
theorem put8_nat (x : UInt32) (b : UInt8) : (put8 x b).toNat = x.toNat % 16777216 * 256 + b.toNat := by
  have hb : b.toNat < 2 ^ 8 := b.toNat_lt
  have hx := x.toNat_lt
  unfold put8
  rw [UInt32.toNat_or, UInt32.toNat_shiftLeft]
  have m1 : (8 : UInt32).toNat % 32 = 8 := rfl
  rw [m1, Nat.shiftLeft_eq, show x.toNat * 2 ^ 8 % 2 ^ 32 = x.toNat % 16777216 * 2 ^ 8 by omega, Nat.mul_comm _ (2 ^ 8), UInt8.toNat_toUInt32, ← Nat.two_pow_add_eq_or_of_lt hb]
def w4 (p q r t : UInt8) : UInt32 := put8 (put8 (put8 (put8 0 p) q) r) t
theorem w4_nat (p q r t : UInt8) : (w4 p q r t).toNat = p.toNat * 16777216 + q.toNat * 65536 + r.toNat * 256 + t.toNat := by
  have h0 := p.toNat_lt
  have h1 := q.toNat_lt
  have h2 := r.toNat_lt
  have h3 := t.toNat_lt
  unfold w4
  simp only [put8_nat, UInt32.toNat_zero]
  omega
theorem cut8_nat (x : UInt32) (n : Nat) (hn : n < 32) : ((x >>> UInt32.ofNat n).toUInt8).toNat = x.toNat / 2 ^ n % 256 := by
  have m1 : (UInt32.ofNat n).toNat % 32 = n := by simp; omega
  rw [UInt32.toNat_toUInt8, UInt32.toNat_shiftRight, m1, Nat.shiftRight_eq_div_pow]
theorem cut_a (p q r t : UInt8) : (w4 p q r t >>> UInt32.ofNat 24).toUInt8 = p := by
  have h0 := p.toNat_lt; have h1 := q.toNat_lt; have h2 := r.toNat_lt; have h3 := t.toNat_lt
  apply UInt8.toNat_inj.mp
  rw [cut8_nat _ _ (by decide), w4_nat]; omega
theorem cut_b (p q r t : UInt8) : (w4 p q r t >>> UInt32.ofNat 16).toUInt8 = q := by
  have h0 := p.toNat_lt; have h1 := q.toNat_lt; have h2 := r.toNat_lt; have h3 := t.toNat_lt
  apply UInt8.toNat_inj.mp
  rw [cut8_nat _ _ (by decide), w4_nat]; omega
theorem cut_c (p q r t : UInt8) : (w4 p q r t >>> UInt32.ofNat 8).toUInt8 = r := by
  have h0 := p.toNat_lt; have h1 := q.toNat_lt; have h2 := r.toNat_lt; have h3 := t.toNat_lt
  apply UInt8.toNat_inj.mp
  rw [cut8_nat _ _ (by decide), w4_nat]; omega
theorem cut_d (p q r t : UInt8) : (w4 p q r t >>> UInt32.ofNat 0).toUInt8 = t := by
  have h0 := p.toNat_lt; have h1 := q.toNat_lt; have h2 := r.toNat_lt; have h3 := t.toNat_lt
  apply UInt8.toNat_inj.mp
  rw [cut8_nat _ _ (by decide), w4_nat]; omega
theorem w4_cut (x : UInt32) : w4 (x >>> UInt32.ofNat 24).toUInt8 (x >>> UInt32.ofNat 16).toUInt8 (x >>> UInt32.ofNat 8).toUInt8 (x >>> UInt32.ofNat 0).toUInt8 = x := by
  have hx := x.toNat_lt
  apply UInt32.toNat_inj.mp
  rw [w4_nat, cut8_nat _ _ (by decide), cut8_nat _ _ (by decide), cut8_nat _ _ (by decide), cut8_nat _ _ (by decide)]
  omega
theorem stTo_step (b : List UInt8) (k r : Nat) (L : List UInt32) (h : stTo b k = L) (hr : k % 4 = r) : stTo b (k + 1) = L.set r (put8 (L.getD r 0) (b.getD k 0)) := by
  rw [stTo, h, hr]; rfl
theorem stTo_four (b : List UInt8) (m : Nat) (p q r s : UInt32) (h : stTo b (4 * m) = [p, q, r, s]) : stTo b (4 * m + 1 + 1 + 1 + 1) = [put8 p (b.getD (4 * m) 0), put8 q (b.getD (4 * m + 1) 0), put8 r (b.getD (4 * m + 1 + 1) 0), put8 s (b.getD (4 * m + 1 + 1 + 1) 0)] :=
  stTo_step b _ 3 _ (stTo_step b _ 2 _ (stTo_step b _ 1 _ (stTo_step b _ 0 _ h (by omega)) (by omega)) (by omega)) (by omega)
theorem state_of (b0 b1 b2 b3 b4 b5 b6 b7 b8 b9 b10 b11 b12 b13 b14 b15 : UInt8) : stateS [b0, b1, b2, b3, b4, b5, b6, b7, b8, b9, b10, b11, b12, b13, b14, b15] = [w4 b0 b4 b8 b12, w4 b1 b5 b9 b13, w4 b2 b6 b10 b14, w4 b3 b7 b11 b15] := by
  have h0 : stTo [b0, b1, b2, b3, b4, b5, b6, b7, b8, b9, b10, b11, b12, b13, b14, b15] (4 * 0) = [0, 0, 0, 0] := rfl
  have h1 := stTo_four _ 0 _ _ _ _ h0
  have h2 := stTo_four _ 1 _ _ _ _ h1
  have h3 := stTo_four _ 2 _ _ _ _ h2
  have h4 := stTo_four _ 3 _ _ _ _ h3
  exact h4
theorem bytes_of (s0 s1 s2 s3 : UInt32) : bytesS [s0, s1, s2, s3] = [(s0 >>> UInt32.ofNat 24).toUInt8, (s1 >>> UInt32.ofNat 24).toUInt8, (s2 >>> UInt32.ofNat 24).toUInt8, (s3 >>> UInt32.ofNat 24).toUInt8, (s0 >>> UInt32.ofNat 16).toUInt8, (s1 >>> UInt32.ofNat 16).toUInt8, (s2 >>> UInt32.ofNat 16).toUInt8, (s3 >>> UInt32.ofNat 16).toUInt8, (s0 >>> UInt32.ofNat 8).toUInt8, (s1 >>> UInt32.ofNat 8).toUInt8, (s2 >>> UInt32.ofNat 8).toUInt8, (s3 >>> UInt32.ofNat 8).toUInt8, (s0 >>> UInt32.ofNat 0).toUInt8, (s1 >>> UInt32.ofNat 0).toUInt8, (s2 >>> UInt32.ofNat 0).toUInt8, (s3 >>> UInt32.ofNat 0).toUInt8] := rfl
theorem bytes_state (b : List UInt8) (hb : b.length = 16) : bytesS (stateS b) = b := by
  match b, hb with
  | [b0, b1, b2, b3, b4, b5, b6, b7, b8, b9, b10, b11, b12, b13, b14, b15], _ =>
    rw [state_of, bytes_of]
    simp only [cut_a, cut_b, cut_c, cut_d]
theorem state_bytes (s : List UInt32) (h : s.length = 4) : stateS (bytesS s) = s := by
  obtain ⟨s0, s1, s2, s3, rfl⟩ := four s h
  rw [bytes_of, state_of]
  simp only [w4_cut]
/-- The rounds of a key, each of four rows. -/
def Four (L : List UInt32) (R : Nat) : Prop := 4 * R ≤ L.length
theorem Four.at {L : List UInt32} {R : Nat} (h : Four L R) {j : Nat} (hj : j < R) : (rndS L j).length = 4 := rndS_length (by unfold Four at h; omega)
theorem open_inner (L : List UInt32) (l : Nat) (hF : Four L (l + 1)) (s0 c : List UInt32) (hs : s0.length = 4) (m : Nat) (hm : m + 1 ≤ l) (hl : openTo L l c 0 = sealTo L s0 (l - 1)) :
    ∀ j, j ≤ l - 1 → openTo L l c j = sealTo L s0 (l - 1 - j) := by
  intro j
  induction j with
  | zero => intro _; exact hl
  | succ j ih =>
    intro hj
    obtain ⟨k, hk⟩ : ∃ k, l - 1 - j = k + 1 := ⟨l - 1 - j - 1, by omega⟩
    have e : l - 1 - (j + 1) = k := by omega
    have hk4 := hF.at (j := k + 1) (by omega)
    have hsk : (sealTo L s0 k).length = 4 := sealTo_length hs k (by have := hF; unfold Four at this; omega)
    rw [openTo, ih (by omega), hk, e, sealTo, plus_two _ _ (mixS_length _) hk4, mix_four _ (shiftS_length _), shift_four _ (eachS_length _ _), each_back _ _ res_sub _ hsk]
theorem open_seal (L : List UInt32) (R : Nat) (hF : Four L R) (hR : 2 ≤ R) (b : List UInt8) (hb : b.length = 16) : openS L R (sealS L R b) = b := by
  obtain ⟨l, rfl⟩ : ∃ l, R = l + 1 := ⟨R - 1, by omega⟩
  have h0 := hF.at (j := 0) (by omega)
  have hl := hF.at (j := l) (by omega)
  have e1 : l + 1 - 1 = l := by omega
  have e2 : l + 1 - 2 = l - 1 := by omega
  have hsk : ∀ k, k < l + 1 → (sealTo L (stateS b) k).length = 4 := fun k hk => sealTo_length (stateS_length b) k (by have := hF; unfold Four at this; omega)
  have hz : openTo L l (stateS (sealS L (l + 1) b)) 0 = sealTo L (stateS b) (l - 1) := by
    rw [openTo, sealS, e1, e2, state_bytes _ (plusS_length (shiftS_length _) hl), plus_two _ _ (shiftS_length _) hl, shift_four _ (eachS_length _ _), each_back _ _ res_sub _ (hsk _ (by omega))]
  have hi := open_inner L l hF (stateS b) _ (stateS_length b) 0 (by omega) hz (l - 1) (Nat.le_refl _)
  rw [openS, e1, e2, hi, Nat.sub_self, sealTo, plus_two _ _ (stateS_length b) h0, bytes_state b hb]
theorem seal_open (L : List UInt32) (R : Nat) (hF : Four L R) (hR : 2 ≤ R) (b : List UInt8) (hb : b.length = 16) : sealS L R (openS L R b) = b := by
  obtain ⟨l, rfl⟩ : ∃ l, R = l + 1 := ⟨R - 1, by omega⟩
  have h0 := hF.at (j := 0) (by omega)
  have hl := hF.at (j := l) (by omega)
  have e1 : l + 1 - 1 = l := by omega
  have e2 : l + 1 - 2 = l - 1 := by omega
  have hi : ∀ j, j ≤ l - 1 → sealTo L (stateS (openS L (l + 1) b)) j = openTo L l (stateS b) (l - 1 - j) := by
    intro j
    induction j with
    | zero =>
      intro _
      rw [sealTo, openS, e1, e2, state_bytes _ (plusS_length (openTo_length _ _ _ _) h0), plus_two _ _ (openTo_length _ _ _ _) h0, Nat.sub_zero]
    | succ j ih =>
      intro hj
      obtain ⟨k, hk⟩ : ∃ k, l - 1 - j = k + 1 := ⟨l - 1 - j - 1, by omega⟩
      have e : l - 1 - (j + 1) = k := by omega
      have ek : l - 1 - k = j + 1 := by omega
      have hk4 := hF.at (j := j + 1) (by omega)
      have hpl : (plusS (openTo L l (stateS b) k) (rndS L (j + 1))).length = 4 := plusS_length (openTo_length _ _ _ _) hk4
      rw [sealTo, ih (by omega), hk, e, openTo, ek, each_back _ _ sub_res _ (shiftS_length _), shift_four _ (mixS_length _), mix_four _ hpl, plus_two _ _ (openTo_length _ _ _ _) hk4]
  have hlast := hi (l - 1) (Nat.le_refl _)
  rw [Nat.sub_self] at hlast
  have hpl : (plusS (stateS b) (rndS L l)).length = 4 := plusS_length (stateS_length b) hl
  rw [sealS, e1, e2, hlast, openTo, each_back _ _ sub_res _ (shiftS_length _), shift_four _ hpl, plus_two _ _ (stateS_length b) hl, bytes_state b hb]
end Go.Proofs.Ytefbjhdcmgonbaa
