/-
  The reference's rounds, of bytes, are the states' rounds, of words.
-/
import Derived.Test.YtefbjhdcmgonbaaRk
namespace Go.Proofs.Ytefbjhdcmgonbaa
open Go.RowKit

def addR (b k : List UInt8) : List UInt8 := List.zipWith (· ^^^ ·) b k
def subR (b : List UInt8) : List UInt8 := (List.range 16).map fun i => boxR (b.getD ((i + 4 * (i % 4)) % 16) 0)
def mixB (s : List UInt8) (i : Nat) : UInt8 := ((mulR (s.getD i 0) 2 ^^^ mulR (s.getD (i / 4 * 4 + (i + 1) % 4) 0) 3) ^^^ s.getD (i / 4 * 4 + (i + 2) % 4) 0) ^^^ s.getD (i / 4 * 4 + (i + 3) % 4) 0
def mixR (s : List UInt8) : List UInt8 := (List.range 16).map (mixB s)
def kb (F : List UInt8) (r : Nat) : List UInt8 := (F.drop (16 * r)).take 16
theorem bytes_cut (a b c d : UInt32) : bytesS [a, b, c, d] = [cut a 0, cut b 0, cut c 0, cut d 0, cut a 1, cut b 1, cut c 1, cut d 1, cut a 2, cut b 2, cut c 2, cut d 2, cut a 3, cut b 3, cut c 3, cut d 3] := rfl
theorem bytes_plus (s t : List UInt32) (hs : s.length = 4) (ht : t.length = 4) : bytesS (plusS s t) = addR (bytesS s) (bytesS t) := by
  obtain ⟨a, b, c, d, rfl⟩ := four s hs
  obtain ⟨e, f, g, h, rfl⟩ := four t ht
  rw [show plusS [a, b, c, d] [e, f, g, h] = [a ^^^ e, b ^^^ f, c ^^^ g, d ^^^ h] from rfl, bytes_cut, bytes_cut, bytes_cut]
  simp only [cut_xor]
  rfl
theorem cut_hi (v : BitVec 64) (k : Nat) (hk : k < 4) : cut (hi32 v) k = ofB (lane (7 - k) v) := by
  apply u8_ext
  have h : (hi32 v).toNat = v.toNat / 4294967296 := by
    unfold hi32
    have := v.isLt
    simp [Nat.shiftRight_eq_div_pow]
    omega
  rw [cut_nat, ofB_nat, lane_nat, h]
  rcases four_k hk with rfl | rfl | rfl | rfl <;> simp <;> omega
theorem box_hi (x y : UInt32) (k : Nat) (hk : k < 4) : cut (hi32 (sub64 (cat32 x y))) k = boxR (cut x k) := by
  rw [cut_hi _ _ hk, lane_sub _ _ (by omega), ← box_of, ← cut_hi _ _ hk, hi_cat]
theorem box_lo (x y : UInt32) (k : Nat) (hk : k < 4) : cut (lo32 (sub64 (cat32 x y))) k = boxR (cut y k) := by
  rw [cut_lo _ _ hk, lane_sub _ _ (by omega), ← box_of, ← cut_lo _ _ hk, lo_cat]
theorem v3_eq (p q r t : Nat) : t * 16777216 + ((p * 256 + q) * 256 + r) = ((t * 256 + p) * 256 + q) * 256 + r := by omega
theorem four_bytes (a b c d : Nat) (ha : a < 256) (hb : b < 256) (hc : c < 256) (hd : d < 256) :
    (((a * 256 + b) * 256 + c) * 256 + d) / 2 ^ 24 % 256 = a ∧ (((a * 256 + b) * 256 + c) * 256 + d) / 2 ^ 16 % 256 = b ∧ (((a * 256 + b) * 256 + c) * 256 + d) / 2 ^ 8 % 256 = c ∧ (((a * 256 + b) * 256 + c) * 256 + d) / 2 ^ 0 % 256 = d := by
  have h2 : (((a * 256 + b) * 256 + c) * 256 + d) / 2 ^ 16 = a * 256 + b := by omega
  have h1 : (((a * 256 + b) * 256 + c) * 256 + d) / 2 ^ 8 = (a * 256 + b) * 256 + c := by omega
  refine ⟨by omega, ?_, ?_, by omega⟩
  · rw [h2]; omega
  · rw [h1]; omega
set_option maxRecDepth 100000 in
theorem rot_any (i : Nat) (hi : i < 4) (x : UInt32) (k : Nat) (hk : k < 4) : cut (rotl (8 * i) x) k = cut x ((k + i) % 4) := by
  by_cases h0 : i = 0
  · subst h0
    rw [Nat.mul_zero, rotl_zero, Nat.add_zero, Nat.mod_eq_of_lt hk]
  apply u8_ext
  rw [cut_nat, cut_nat, rotl_nat _ _ (by omega) (by omega)]
  have h := w4_nat (x >>> UInt32.ofNat 24).toUInt8 (x >>> UInt32.ofNat 16).toUInt8 (x >>> UInt32.ofNat 8).toUInt8 (x >>> UInt32.ofNat 0).toUInt8
  rw [w4_cut] at h
  have hp := u8_lt (x >>> UInt32.ofNat 24).toUInt8
  have hq := u8_lt (x >>> UInt32.ofNat 16).toUInt8
  have hr := u8_lt (x >>> UInt32.ofNat 8).toUInt8
  have ht := u8_lt (x >>> UInt32.ofNat 0).toUInt8
  generalize (x >>> UInt32.ofNat 24).toUInt8.toNat = p at *
  generalize (x >>> UInt32.ofNat 16).toUInt8.toNat = q at *
  generalize (x >>> UInt32.ofNat 8).toUInt8.toNat = r at *
  generalize (x >>> UInt32.ofNat 0).toUInt8.toNat = t at *
  generalize x.toNat = X at *
  have d1 : X / 16777216 = p := by omega
  have d2 : X / 65536 = p * 256 + q := by omega
  have d3 : X / 256 = (p * 256 + q) * 256 + r := by omega
  have m1 : X % 16777216 = (q * 256 + r) * 256 + t := by omega
  have m2 : X % 65536 = r * 256 + t := by omega
  have m3 : X % 256 = t := by omega
  have hX : X = ((p * 256 + q) * 256 + r) * 256 + t := by omega
  clear h
  obtain ⟨x0, x1, x2, x3⟩ := four_bytes p q r t hp hq hr ht
  rw [← hX] at x0 x1 x2 x3
  have hi' : i = 1 ∨ i = 2 ∨ i = 3 := by omega
  have v1 : X % 16777216 * 256 + X / 16777216 = ((q * 256 + r) * 256 + t) * 256 + p := by omega
  have v2 : X % 65536 * 65536 + X / 65536 = ((r * 256 + t) * 256 + p) * 256 + q := by omega
  have v3 : X % 256 * 16777216 + X / 256 = ((t * 256 + p) * 256 + q) * 256 + r := (congrArg (· + X / 256) (congrArg (· * 16777216) m3)).trans ((congrArg (t * 16777216 + ·) d3).trans (v3_eq p q r t))
  obtain ⟨a0, a1, a2, a3⟩ := four_bytes q r t p hq hr ht hp
  obtain ⟨b0, b1, b2, b3⟩ := four_bytes r t p q hr ht hp hq
  obtain ⟨c0, c1, c2, c3⟩ := four_bytes t p q r ht hp hq hr
  rw [← v1] at a0 a1 a2 a3
  rw [← v2] at b0 b1 b2 b3
  rw [← v3] at c0 c1 c2 c3
  rcases hi' with rfl | rfl | rfl <;> rcases four_k hk with rfl | rfl | rfl | rfl
  · exact a0.trans x1.symm
  · exact a1.trans x2.symm
  · exact a2.trans x3.symm
  · exact a3.trans x0.symm
  · exact b0.trans x2.symm
  · exact b1.trans x3.symm
  · exact b2.trans x0.symm
  · exact b3.trans x1.symm
  · exact c0.trans x3.symm
  · exact c1.trans x0.symm
  · exact c2.trans x1.symm
  · exact c3.trans x2.symm
theorem bytes_sub (s : List UInt32) (hs : s.length = 4) : bytesS (shiftS (eachS sub64 s)) = subR (bytesS s) := by
  obtain ⟨a, b, c, d, rfl⟩ := four s hs
  rw [show shiftS (eachS sub64 [a, b, c, d]) = [rotl (8 * 0) (hi32 (sub64 (cat32 a b))), rotl (8 * 1) (lo32 (sub64 (cat32 a b))), rotl (8 * 2) (hi32 (sub64 (cat32 c d))), rotl (8 * 3) (lo32 (sub64 (cat32 c d)))] from rfl]
  rw [show subR (bytesS [a, b, c, d]) = [boxR (cut a 0), boxR (cut b 1), boxR (cut c 2), boxR (cut d 3), boxR (cut a 1), boxR (cut b 2), boxR (cut c 3), boxR (cut d 0), boxR (cut a 2), boxR (cut b 3), boxR (cut c 0), boxR (cut d 1), boxR (cut a 3), boxR (cut b 0), boxR (cut c 1), boxR (cut d 2)] from rfl, bytes_cut]
  have h0 := fun k hk => (rot_any 0 (by omega) (hi32 (sub64 (cat32 a b))) k hk).trans (box_hi a b _ (Nat.mod_lt _ (by omega)))
  have h1 := fun k hk => (rot_any 1 (by omega) (lo32 (sub64 (cat32 a b))) k hk).trans (box_lo a b _ (Nat.mod_lt _ (by omega)))
  have h2 := fun k hk => (rot_any 2 (by omega) (hi32 (sub64 (cat32 c d))) k hk).trans (box_hi c d _ (Nat.mod_lt _ (by omega)))
  have h3 := fun k hk => (rot_any 3 (by omega) (lo32 (sub64 (cat32 c d))) k hk).trans (box_lo c d _ (Nat.mod_lt _ (by omega)))
  rw [h0 0 (by omega), h1 0 (by omega), h2 0 (by omega), h3 0 (by omega), h0 1 (by omega), h1 1 (by omega), h2 1 (by omega), h3 1 (by omega), h0 2 (by omega), h1 2 (by omega), h2 2 (by omega), h3 2 (by omega), h0 3 (by omega), h1 3 (by omega), h2 3 (by omega), h3 3 (by omega)]
theorem cut_dbl (x : UInt32) (k : Nat) (hk : k < 4) : cut (dbl32 x) k = mulR (cut x k) 2 := by
  unfold dbl32
  rw [cut_lo _ _ hk, lane_dbl _ _ (by omega), ← mul2_of, ← cut_wide x k hk]
theorem mul3 (y : UInt8) : mulR y 3 = mulR y 2 ^^^ y := by
  have h3 := mul3_of y.toBitVec
  have h2 := mul2_of y.toBitVec
  have e : ofB y.toBitVec = y := rfl
  rw [e] at h3 h2
  rw [h3, h2]; rfl
theorem cut_mix (a b c d : UInt32) (k : Nat) (hk : k < 4) : cut (((dbl32 (a ^^^ b) ^^^ b) ^^^ c) ^^^ d) k = ((mulR (cut a k) 2 ^^^ mulR (cut b k) 3) ^^^ cut c k) ^^^ cut d k := by
  rw [cut_xor, cut_xor, cut_xor, dbl32_xor, cut_xor, cut_dbl _ _ hk, cut_dbl _ _ hk, mul3, UInt8.xor_assoc (mulR (cut a k) 2)]
theorem bytes_mix (s : List UInt32) (hs : s.length = 4) : bytesS (mixS s) = mixR (bytesS s) := by
  obtain ⟨a, b, c, d, rfl⟩ := four s hs
  rw [mix_eq, show mixR (bytesS [a, b, c, d]) = [((mulR (cut a 0) 2 ^^^ mulR (cut b 0) 3) ^^^ cut c 0) ^^^ cut d 0, ((mulR (cut b 0) 2 ^^^ mulR (cut c 0) 3) ^^^ cut d 0) ^^^ cut a 0, ((mulR (cut c 0) 2 ^^^ mulR (cut d 0) 3) ^^^ cut a 0) ^^^ cut b 0, ((mulR (cut d 0) 2 ^^^ mulR (cut a 0) 3) ^^^ cut b 0) ^^^ cut c 0, ((mulR (cut a 1) 2 ^^^ mulR (cut b 1) 3) ^^^ cut c 1) ^^^ cut d 1, ((mulR (cut b 1) 2 ^^^ mulR (cut c 1) 3) ^^^ cut d 1) ^^^ cut a 1, ((mulR (cut c 1) 2 ^^^ mulR (cut d 1) 3) ^^^ cut a 1) ^^^ cut b 1, ((mulR (cut d 1) 2 ^^^ mulR (cut a 1) 3) ^^^ cut b 1) ^^^ cut c 1, ((mulR (cut a 2) 2 ^^^ mulR (cut b 2) 3) ^^^ cut c 2) ^^^ cut d 2, ((mulR (cut b 2) 2 ^^^ mulR (cut c 2) 3) ^^^ cut d 2) ^^^ cut a 2, ((mulR (cut c 2) 2 ^^^ mulR (cut d 2) 3) ^^^ cut a 2) ^^^ cut b 2, ((mulR (cut d 2) 2 ^^^ mulR (cut a 2) 3) ^^^ cut b 2) ^^^ cut c 2, ((mulR (cut a 3) 2 ^^^ mulR (cut b 3) 3) ^^^ cut c 3) ^^^ cut d 3, ((mulR (cut b 3) 2 ^^^ mulR (cut c 3) 3) ^^^ cut d 3) ^^^ cut a 3, ((mulR (cut c 3) 2 ^^^ mulR (cut d 3) 3) ^^^ cut a 3) ^^^ cut b 3, ((mulR (cut d 3) 2 ^^^ mulR (cut a 3) 3) ^^^ cut b 3) ^^^ cut c 3] from rfl, bytes_cut]
  have h0 := cut_mix a b c d
  have h1 := cut_mix b c d a
  have h2 := cut_mix c d a b
  have h3 := cut_mix d a b c
  rw [h0 0 (by omega), h1 0 (by omega), h2 0 (by omega), h3 0 (by omega), h0 1 (by omega), h1 1 (by omega), h2 1 (by omega), h3 1 (by omega), h0 2 (by omega), h1 2 (by omega), h2 2 (by omega), h3 2 (by omega), h0 3 (by omega), h1 3 (by omega), h2 3 (by omega), h3 3 (by omega)]
/-- The rounds of a key. -/
theorem low8 (z : UInt32) : z.toUInt8.toUInt32 = z &&& 255 := by
  apply UInt32.toNat_inj.1
  rw [UInt32.toNat_and]
  simp
  exact (Nat.and_two_pow_sub_one_eq_mod z.toNat 8).symm
theorem put_cut (x y : UInt32) (r : Nat) : (x <<< 8) ||| ((y >>> UInt32.ofNat (24 - 8 * r)) &&& 255) = put8 x (cut y r) := by
  unfold put8 cut
  rw [low8]
theorem rRow_get (Ws L : List UInt32) (k R : Nat) (hL : L.length = 4 * R) (hk : k < 4 * R) (r : Nat) : r ≤ 4 → ∀ i, (rRow Ws k L r).getD i 0 = if i / 4 = k / 4 ∧ i % 4 < r then put8 (L.getD i 0) (cut (Ws.getD k 0) (i % 4)) else L.getD i 0 := by
  induction r with
  | zero => intro _ i; rw [if_neg (by omega)]; rfl
  | succ r ih =>
    intro hr i
    have ih := ih (by omega)
    rw [rRow, set_getD _ _ _ _ (by rw [rRow_length, hL]; unfold rPos; omega), put_cut]
    by_cases hi : i = rPos k r
    · have hq : i / 4 = k / 4 := by rw [hi]; unfold rPos; omega
      have hm : i % 4 = r := by rw [hi]; unfold rPos; omega
      rw [if_pos hi, if_pos ⟨hq, by omega⟩, ← hi, ih, if_neg (by omega), hm]
    · have hne : ¬ (i / 4 = k / 4 ∧ i % 4 = r) := fun h => hi (by unfold rPos; omega)
      rw [if_neg hi, ih]
      by_cases h2 : i / 4 = k / 4 ∧ i % 4 < r
      · rw [if_pos h2, if_pos ⟨h2.1, by omega⟩]
      · rw [if_neg h2, if_neg (by omega)]
theorem rTo_get (Ws : List UInt32) (R k : Nat) (hk : k < 4 * R) (i : Nat) : (rTo Ws (4 * R) (k + 1)).getD i 0 = if i / 4 = k / 4 then put8 ((rTo Ws (4 * R) k).getD i 0) (cut (Ws.getD k 0) (i % 4)) else (rTo Ws (4 * R) k).getD i 0 := by
  rw [rTo, rRow_get Ws _ k R (rTo_length _ _ _) hk 4 (Nat.le_refl _)]
  by_cases h : i / 4 = k / 4
  · rw [if_pos h, if_pos ⟨h, by omega⟩]
  · rw [if_neg h, if_neg (by omega)]
theorem rTo_four (Ws : List UInt32) (R m : Nat) : m ≤ R → ∀ i, (rTo Ws (4 * R) (4 * m)).getD i 0 = if i < 4 * m then w4 (cut (Ws.getD (i / 4 * 4) 0) (i % 4)) (cut (Ws.getD (i / 4 * 4 + 1) 0) (i % 4)) (cut (Ws.getD (i / 4 * 4 + 2) 0) (i % 4)) (cut (Ws.getD (i / 4 * 4 + 3) 0) (i % 4)) else 0 := by
  induction m with
  | zero =>
    intro _ i
    rw [if_neg (by omega)]
    show (List.replicate (4 * R) (0 : UInt32)).getD i 0 = 0
    rw [List.getD_eq_getElem?_getD, List.getElem?_replicate]
    split <;> rfl
  | succ m ih =>
    intro hm i
    have ih := ih (by omega)
    rw [show 4 * (m + 1) = 4 * m + 1 + 1 + 1 + 1 by omega]
    rw [rTo_get _ _ _ (by omega), rTo_get _ _ (4 * m + 1 + 1) (by omega), rTo_get _ _ (4 * m + 1) (by omega), rTo_get _ _ (4 * m) (by omega)]
    rw [show (4 * m + 1 + 1 + 1) / 4 = m by omega, show (4 * m + 1 + 1) / 4 = m by omega, show (4 * m + 1) / 4 = m by omega, show 4 * m / 4 = m by omega]
    by_cases hi : i / 4 = m
    · rw [if_pos hi, if_pos hi, if_pos hi, if_pos hi, ih, if_neg (by omega), if_pos (by omega), hi, Nat.mul_comm m 4]
      rfl
    · rw [if_neg hi, if_neg hi, if_neg hi, if_neg hi, ih]
      by_cases h2 : i < 4 * m
      · rw [if_pos h2, if_pos (by omega)]
      · rw [if_neg h2, if_neg (by omega)]
theorem take_range (L : List UInt8) (a n : Nat) (h : a + n ≤ L.length) : (L.drop a).take n = (List.range n).map fun i => L.getD (a + i) 0 := by
  apply List.ext_getElem?
  intro i
  rw [List.getElem?_take, List.getElem?_map]
  by_cases hi : i < n
  · rw [if_pos hi, List.getElem?_drop, List.getElem?_range hi, List.getElem?_eq_getElem (by omega)]
    simp [List.getD_eq_getElem?_getD, List.getElem?_eq_getElem (show a + i < L.length by omega)]
  · rw [if_neg hi, List.getElem?_eq_none (by simp; omega)]; rfl
theorem bytes_range (s : List UInt32) : bytesS s = (List.range 16).map fun i => cut (s.getD (i % 4) 0) (i / 4) := by
  unfold bytesS cut
  simp only [Nat.mul_comm 8]
theorem rnd_get (L : List UInt32) (r j : Nat) (_h : 4 * r + 4 ≤ L.length) (hj : j < 4) : (rndS L r).getD j 0 = L.getD (4 * r + j) 0 := by
  unfold rndS
  rw [List.getD_eq_getElem?_getD, List.getElem?_take, if_pos hj, List.getElem?_drop, Nat.mul_comm r 4, ← List.getD_eq_getElem?_getD]
theorem bytes_rnd (n : Nat) (key : List UInt8) (r : Nat) (hr : r < n + 7) : bytesS (rndS (keyL n key) r) = kb (flatK (kWords n key)) r := by
  have hl := kWords_len n key
  rw [kb, take_range _ _ _ (by rw [flatK_length, hl]; omega), bytes_range]
  apply List.map_congr_left
  intro i hi
  have hi := List.mem_range.1 hi
  rw [rnd_get _ _ _ (by rw [keyL_length]; omega) (Nat.mod_lt _ (by omega))]
  have h4 := rTo_four (kWords n key) (n + 7) (n + 7) (Nat.le_refl _) (4 * r + i % 4)
  rw [if_pos (by omega), show (4 * r + i % 4) / 4 * 4 = 4 * r by omega, show (4 * r + i % 4) % 4 = i % 4 by omega] at h4
  have hk : keyL n key = rTo (kWords n key) (4 * (n + 7)) (4 * (n + 7)) := by unfold keyL rAll; rw [hl]
  rw [hk, h4, cut_w4 _ _ _ _ _ (by omega)]
  have hf := flatK_get (kWords n key) (4 * r + i / 4) (i % 4) (by omega) (Nat.mod_lt _ (by omega))
  rw [show 4 * (4 * r + i / 4) + i % 4 = 16 * r + i by omega] at hf
  rw [hf]
  have hq : i / 4 < 4 := by omega
  rcases four_k hq with h | h | h | h <;> rw [h] <;> rfl
/-- A block behind so many rounds, as the reference says. -/
def outR (F : List UInt8) (R : Nat) (b : List UInt8) : Nat → List UInt8
  | 0 => addR b (kb F 0)
  | j + 1 => addR (if j + 1 < R - 1 then mixR (subR (outR F R b j)) else subR (outR F R b j)) (kb F (j + 1))
theorem out_to (n : Nat) (key b : List UInt8) (hb : b.length = 16) (j : Nat) (hj : j + 1 < n + 7) : bytesS (sealTo (keyL n key) (stateS b) j) = outR (flatK (kWords n key)) (n + 7) b j := by
  have hL : ∀ i, i < n + 7 → (rndS (keyL n key) i).length = 4 := fun i hi => rndS_length (by rw [keyL_length]; omega)
  have hS : ∀ i, i < n + 7 → (sealTo (keyL n key) (stateS b) i).length = 4 := fun i hi => sealTo_length (stateS_length b) i (by rw [keyL_length]; omega)
  induction j with
  | zero =>
    rw [sealTo, bytes_plus _ _ (stateS_length b) (hL 0 (by omega)), bytes_state b hb, bytes_rnd n key 0 (by omega)]
    rfl
  | succ j ih =>
    rw [sealTo, bytes_plus _ _ (mixS_length _) (hL (j + 1) (by omega)), bytes_mix _ (shiftS_length _), bytes_sub _ (hS j (by omega)), ih (by omega), bytes_rnd n key (j + 1) (by omega), outR, if_pos (by omega)]
theorem seal_out (n : Nat) (key b : List UInt8) (hb : b.length = 16) : outR (flatK (kWords n key)) (n + 7) b (n + 6) = sealS (keyL n key) (n + 7) b := by
  unfold sealS
  rw [show n + 7 - 2 = n + 5 by omega, show n + 7 - 1 = n + 6 by omega, bytes_plus _ _ (shiftS_length _) (rndS_length (by rw [keyL_length]; omega)), bytes_sub _ (sealTo_length (stateS_length b) (n + 5) (by rw [keyL_length]; omega)), bytes_rnd n key (n + 6) (by omega), out_to n key b hb (n + 5) (by omega)]
  rw [outR, if_neg (by omega)]
theorem addR_length {b k : List UInt8} (hb : b.length = 16) (hk : k.length = 16) : (addR b k).length = 16 := by simp [addR, hb, hk]
theorem addR_get {b k : List UInt8} (hb : b.length = 16) (hk : k.length = 16) (i : Nat) (hi : i < 16) : (addR b k).getD i 0 = b.getD i 0 ^^^ k.getD i 0 := by
  simp [addR, List.getD_eq_getElem?_getD, hb, hk, hi]
theorem subR_length (b : List UInt8) : (subR b).length = 16 := by simp [subR]
theorem subR_get (b : List UInt8) (i : Nat) (hi : i < 16) : (subR b).getD i 0 = boxR (b.getD ((i + 4 * (i % 4)) % 16) 0) := by
  simp [subR, List.getD_eq_getElem?_getD, hi]
theorem mixR_length (b : List UInt8) : (mixR b).length = 16 := by simp [mixR]
theorem mixR_get (b : List UInt8) (i : Nat) (hi : i < 16) : (mixR b).getD i 0 = mixB b i := by
  simp [mixR, List.getD_eq_getElem?_getD, hi]
theorem kb_length {F : List UInt8} {R r : Nat} (hF : F.length = 16 * R) (hr : r < R) : (kb F r).length = 16 := by simp [kb]; omega
theorem kb_get {F : List UInt8} {R r : Nat} (_hF : F.length = 16 * R) (_hr : r < R) (i : Nat) (hi : i < 16) : (kb F r).getD i 0 = F.getD (r * 16 + i) 0 := by
  unfold kb
  rw [List.getD_eq_getElem?_getD, List.getElem?_take, if_pos hi, List.getElem?_drop, Nat.mul_comm 16 r, ← List.getD_eq_getElem?_getD]
theorem outR_length {F : List UInt8} {R : Nat} {b : List UInt8} (hF : F.length = 16 * R) (hb : b.length = 16) (j : Nat) (hj : j < R) : (outR F R b j).length = 16 := by
  cases j with
  | zero => exact addR_length hb (kb_length hF hj)
  | succ j =>
    rw [outR]
    refine addR_length ?_ (kb_length hF hj)
    split
    · exact mixR_length _
    · exact subR_length _
end Go.Proofs.Ytefbjhdcmgonbaa
