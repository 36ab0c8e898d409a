/-
  The keys of the reference, as bytes: plain words.
-/
import Derived.Test.YtefbjhdcmgonbaaRr2
namespace Go.Proofs.Ytefbjhdcmgonbaa
open Go.RowKit

/-- A word's bytes, the highest first. -/
def cut (x : UInt32) (k : Nat) : UInt8 := (x >>> UInt32.ofNat (24 - 8 * k)).toUInt8
theorem cut_nat (x : UInt32) (k : Nat) : (cut x k).toNat = x.toNat / 2 ^ (24 - 8 * k) % 256 := cut8_nat x _ (by omega)
theorem u8_ext {a b : UInt8} (h : a.toNat = b.toNat) : a = b := UInt8.toNat_inj.1 h
theorem four_k {k : Nat} (h : k < 4) : k = 0 ∨ k = 1 ∨ k = 2 ∨ k = 3 := by omega
theorem cut_xor (x y : UInt32) (k : Nat) : cut (x ^^^ y) k = cut x k ^^^ cut y k := by
  unfold cut
  rw [UInt32.shiftRight_xor, UInt32.toUInt8_xor]
def ofB (v : BitVec 8) : UInt8 := UInt8.ofBitVec v
theorem ofB_nat (v : BitVec 8) : (ofB v).toNat = v.toNat := rfl
theorem lo32_nat (v : BitVec 64) : (lo32 v).toNat = v.toNat % 4294967296 := by
  unfold lo32; simp
theorem cut_lo (v : BitVec 64) (k : Nat) (hk : k < 4) : cut (lo32 v) k = ofB (lane (3 - k) v) := by
  apply u8_ext
  rw [cut_nat, ofB_nat, lane_nat, lo32_nat]
  rcases four_k hk with rfl | rfl | rfl | rfl <;> simp <;> omega
theorem cut_wide (x : UInt32) (k : Nat) (hk : k < 4) : cut x k = ofB (lane (3 - k) (wide x)) := by
  apply u8_ext
  rw [cut_nat, ofB_nat, lane_nat, wide_nat]
  rcases four_k hk with rfl | rfl | rfl | rfl <;> simp
theorem box_of (v : BitVec 8) : boxR (ofB v) = ofB (sub8 v) := box_spec v.toFin
theorem mul2_of (v : BitVec 8) : mulR (ofB v) 2 = ofB (dbl8 v) := mul2_spec v.toFin
theorem mul3_of (v : BitVec 8) : mulR (ofB v) 3 = ofB (dbl8 v ^^^ v) := mul3_spec v.toFin
theorem cut_subw (x : UInt32) (k : Nat) (hk : k < 4) : cut (subw x) k = boxR (cut x k) := by
  unfold subw
  rw [cut_lo _ _ hk, lane_sub _ _ (by omega), cut_wide x k hk, box_of]
theorem rot_words (x p q r t k : Nat) (hk : k = 0 ∨ k = 1 ∨ k = 2 ∨ k = 3) (h : x = p * 16777216 + q * 65536 + r * 256 + t) (hp : p < 256) (hq : q < 256) (hr : r < 256) (ht : t < 256) :
    (x % 16777216 * 256 + x / 16777216) / 2 ^ (24 - 8 * k) % 256 = x / 2 ^ (24 - 8 * ((k + 1) % 4)) % 256 := by
  have e1 : x % 16777216 = q * 65536 + r * 256 + t := by omega
  have e2 : x / 16777216 = p := by omega
  rw [e1, e2]
  have f1 : ((q * 65536 + r * 256 + t) * 256 + p) / 16777216 = q := by omega
  have f2 : ((q * 65536 + r * 256 + t) * 256 + p) / 65536 = q * 256 + r := by omega
  have f3 : ((q * 65536 + r * 256 + t) * 256 + p) / 256 = (q * 256 + r) * 256 + t := by omega
  have g1 : x / 65536 = p * 256 + q := by omega
  have g2 : x / 256 = (p * 256 + q) * 256 + r := by omega
  rcases hk with rfl | rfl | rfl | rfl
  · show _ / 16777216 % 256 = _ / 65536 % 256; rw [f1, g1]; omega
  · show _ / 65536 % 256 = _ / 256 % 256; rw [f2, g2]; omega
  · show _ / 256 % 256 = _ / 1 % 256; rw [f3]; omega
  · show _ / 1 % 256 = _ / 16777216 % 256; rw [e2]; omega
theorem cut_rot (x : UInt32) (k : Nat) (hk : k < 4) : cut (rotl (8 * 1) x) k = cut x ((k + 1) % 4) := by
  apply u8_ext
  rw [cut_nat, cut_nat, rotl_nat _ _ (by omega) (by omega)]
  have h := w4_nat (x >>> UInt32.ofNat 24).toUInt8 (x >>> UInt32.ofNat 16).toUInt8 (x >>> UInt32.ofNat 8).toUInt8 (x >>> UInt32.ofNat 0).toUInt8
  rw [w4_cut] at h
  exact rot_words _ _ _ _ _ k (four_k hk) h (u8_lt _) (u8_lt _) (u8_lt _) (u8_lt _)
theorem cut_top (c : BitVec 64) (k : Nat) (hk : k < 4) : cut (lo32 c <<< 24) k = if k = 0 then ofB (lane 0 c) else 0 := by
  apply u8_ext
  have h : (lo32 c <<< 24).toNat = (c.toNat % 4294967296 * 16777216) % 4294967296 := by
    rw [UInt32.toNat_shiftLeft, lo32_nat]; simp [Nat.shiftLeft_eq]
  rw [cut_nat, h]
  rcases four_k hk with rfl | rfl | rfl | rfl
  · rw [if_pos rfl, ofB_nat, lane_nat]; simp; omega
  · rw [if_neg (by omega)]; simp; omega
  · rw [if_neg (by omega)]; simp; omega
  · rw [if_neg (by omega)]; simp; omega
theorem cut_w4 (p q r t : UInt8) (k : Nat) (hk : k < 4) : cut (w4 p q r t) k = [p, q, r, t].getD k 0 := by
  rcases four_k hk with rfl | rfl | rfl | rfl
  · exact cut_a p q r t
  · exact cut_b p q r t
  · exact cut_c p q r t
  · exact cut_d p q r t
theorem w4_cuts (x : UInt32) : w4 (cut x 0) (cut x 1) (cut x 2) (cut x 3) = x := w4_cut x
/-- All words' bytes. -/
def flatK (K : List UInt32) : List UInt8 := (List.range (4 * K.length)).map fun i => cut (K.getD (i / 4) 0) (i % 4)
theorem flatK_length (K : List UInt32) : (flatK K).length = 4 * K.length := by simp [flatK]
theorem flatK_get (K : List UInt32) (i k : Nat) (hi : i < K.length) (hk : k < 4) : (flatK K).getD (4 * i + k) 0 = cut (K.getD i 0) k := by
  have h : 4 * i + k < 4 * K.length := by omega
  rw [flatK, List.getD_eq_getElem?_getD, List.getElem?_map, List.getElem?_range h]
  simp only [Option.map_some, Option.getD_some]
  rw [show (4 * i + k) / 4 = i by omega, show (4 * i + k) % 4 = k by omega]
theorem set_getD (L : List UInt32) (i j : Nat) (x : UInt32) (hi : i < L.length) : (L.set i x).getD j 0 = if j = i then x else L.getD j 0 := by
  by_cases h : j = i
  · subst h; rw [if_pos rfl]; simp [List.getD_eq_getElem?_getD, hi]
  · rw [if_neg h]; simp [List.getD_eq_getElem?_getD, List.getElem?_set_ne (Ne.symm h)]
/-- The first words. -/
theorem w1To_len (n : Nat) (key : List UInt8) (k : Nat) : (w1To n key k).length = 4 * (n + 7) := by
  induction k with
  | zero => simp [w1To]
  | succ k ih => rw [w1To, List.length_set, ih]
theorem w1To_get (n : Nat) (key : List UInt8) (k i : Nat) (hk : k < 4 * n) : (w1To n key (k + 1)).getD i 0 = if i = k / 4 then put8 ((w1To n key k).getD (k / 4) 0) (key.getD k 0) else (w1To n key k).getD i 0 := by
  rw [w1To, set_getD _ _ _ _ (by rw [w1To_len]; omega)]; rfl
theorem w1To_four (n : Nat) (key : List UInt8) (m : Nat) : m ≤ n → ∀ i, (w1To n key (4 * m)).getD i 0 = if i < m then w4 (key.getD (4 * i) 0) (key.getD (4 * i + 1) 0) (key.getD (4 * i + 2) 0) (key.getD (4 * i + 3) 0) else 0 := by
  induction m with
  | zero =>
    intro _ i
    rw [if_neg (by omega)]
    show (List.replicate (4 * (n + 7)) (0 : UInt32)).getD i 0 = 0
    rw [List.getD_eq_getElem?_getD, List.getElem?_replicate]
    split <;> rfl
  | succ m ih =>
    intro hm i
    have ih := ih (by omega)
    rw [show 4 * (m + 1) = 4 * m + 1 + 1 + 1 + 1 by omega]
    have q0 : 4 * m / 4 = m := by omega
    have q1 : (4 * m + 1) / 4 = m := by omega
    have q2 : (4 * m + 1 + 1) / 4 = m := by omega
    have q3 : (4 * m + 1 + 1 + 1) / 4 = m := by omega
    rw [w1To_get _ _ _ _ (by omega), w1To_get _ _ (4 * m + 1 + 1) i (by omega), w1To_get _ _ (4 * m + 1) i (by omega), w1To_get _ _ (4 * m) i (by omega), q0, q1, q2, q3]
    by_cases hi : i = m
    · subst hi
      rw [if_pos rfl, if_pos (by omega), w1To_get _ _ (4 * i + 1 + 1) i (by omega), q2, if_pos rfl, w1To_get _ _ (4 * i + 1) i (by omega), q1, if_pos rfl, w1To_get _ _ (4 * i) i (by omega), q0, if_pos rfl, ih, if_neg (by omega)]
      rfl
    · rw [if_neg hi, if_neg hi, if_neg hi, if_neg hi, ih]
      by_cases h2 : i < m
      · rw [if_pos h2, if_pos (by omega)]
      · rw [if_neg h2, if_neg (by omega)]
theorem kTo_len (n : Nat) (L0 : List UInt32) (j : Nat) : (kTo n L0 j).1.length = L0.length := by
  induction j with
  | zero => rfl
  | succ j ih => simp only [kTo]; rw [List.length_set, ih]
theorem kTo_keep (n : Nat) (L0 : List UInt32) (j m i : Nat) (hi : i < n + j) : (kTo n L0 (j + m)).1.getD i 0 = (kTo n L0 j).1.getD i 0 := by
  induction m with
  | zero => rfl
  | succ m ih =>
    rw [← ih, ← Nat.add_assoc]
    simp only [kTo]
    rw [List.getD_eq_getElem?_getD, List.getElem?_set_ne (by omega), ← List.getD_eq_getElem?_getD]
/-- What a round's constant is. -/
def cK (n : Nat) (key : List UInt8) (j : Nat) : UInt8 := ofB (lane 0 (kTo n (w1To n key (4 * n)) j).2)
theorem cK_zero (n : Nat) (key : List UInt8) : cK n key 0 = 1 := by
  show ofB (lane 0 1#64) = 1
  decide
theorem cK_step (n : Nat) (key : List UInt8) (j : Nat) : cK n key (j + 1) = if (n + j) % n = 0 then mulR (cK n key j) 2 else cK n key j := by
  unfold cK
  simp only [kTo]
  split
  · rw [lane_dbl 0 _ (by omega), mul2_of]
  · rfl
theorem kWords_first (n : Nat) (key : List UInt8) (i : Nat) (hi : i < n) : (kWords n key).getD i 0 = w4 (key.getD (4 * i) 0) (key.getD (4 * i + 1) 0) (key.getD (4 * i + 2) 0) (key.getD (4 * i + 3) 0) := by
  have := kTo_keep n (w1To n key (4 * n)) 0 (3 * n + 28) i (by omega)
  rw [Nat.zero_add] at this
  unfold kWords
  rw [this]
  show (w1To n key (4 * n)).getD i 0 = _
  rw [w1To_four n key n (Nat.le_refl _), if_pos hi]
theorem kWords_next (n : Nat) (key : List UInt8) (j : Nat) (hn : 0 < n) (hj : j < 3 * n + 28) :
    (kWords n key).getD (n + j) 0 = (kWords n key).getD j 0 ^^^ kNew n ((kWords n key)) (kTo n (w1To n key (4 * n)) j).2 (n + j) := by
  have e : 3 * n + 28 = (j + 1) + (3 * n + 27 - j) := by omega
  have e' : 3 * n + 28 = j + (3 * n + 28 - j) := by omega
  have h1 : (kWords n key).getD (n + j) 0 = (kTo n (w1To n key (4 * n)) (j + 1)).1.getD (n + j) 0 := by
    unfold kWords; rw [e]; exact kTo_keep _ _ _ _ _ (by omega)
  have h2 : ∀ i, i < n + j → (kWords n key).getD i 0 = (kTo n (w1To n key (4 * n)) j).1.getD i 0 := fun i hi => by
    unfold kWords; rw [e']; exact kTo_keep _ _ _ _ _ hi
  rw [h1, h2 j (by omega)]
  have h3 : kNew n (kWords n key) (kTo n (w1To n key (4 * n)) j).2 (n + j) = kNew n (kTo n (w1To n key (4 * n)) j).1 (kTo n (w1To n key (4 * n)) j).2 (n + j) := by
    unfold kNew
    rw [h2 (n + j - 1) (by omega)]
  rw [h3]
  simp only [kTo]
  rw [set_getD _ _ _ _ (by rw [kTo_len, w1To_len]; omega), if_pos rfl]
/-- A new word's bytes, ahead of the old word. -/
def newB (n i : Nat) (c : UInt8) (x : List UInt8) : List UInt8 :=
  if i % n = 0 then [boxR (x.getD 1 0) ^^^ c, boxR (x.getD 2 0), boxR (x.getD 3 0), boxR (x.getD 0 0)]
  else if n = 8 ∧ i % n = 4 then [boxR (x.getD 0 0), boxR (x.getD 1 0), boxR (x.getD 2 0), boxR (x.getD 3 0)] else x
def wordB (F : List UInt8) (i : Nat) : List UInt8 := [F.getD (4 * i) 0, F.getD (4 * i + 1) 0, F.getD (4 * i + 2) 0, F.getD (4 * i + 3) 0]
theorem kWords_len (n : Nat) (key : List UInt8) : (kWords n key).length = 4 * (n + 7) := kWords_length n key
theorem flat_first (n : Nat) (key : List UInt8) (i : Nat) (hi : i < n) : wordB (flatK (kWords n key)) i = wordB key i := by
  have hl := kWords_len n key
  unfold wordB
  have h := fun k hk => flatK_get (kWords n key) i k (by omega) hk
  have h0 := h 0 (by omega)
  rw [Nat.add_zero] at h0
  rw [h0, h 1 (by omega), h 2 (by omega), h 3 (by omega), kWords_first n key i hi]
  rw [cut_w4 _ _ _ _ 0 (by omega), cut_w4 _ _ _ _ 1 (by omega), cut_w4 _ _ _ _ 2 (by omega), cut_w4 _ _ _ _ 3 (by omega)]
  rfl
theorem cut_kNew (n : Nat) (hn : n = 4 ∨ n = 8) (K : List UInt32) (c : BitVec 64) (i k : Nat) (hk : k < 4) :
    cut (kNew n K c i) k = (newB n i (ofB (lane 0 c)) [cut (K.getD (i - 1) 0) 0, cut (K.getD (i - 1) 0) 1, cut (K.getD (i - 1) 0) 2, cut (K.getD (i - 1) 0) 3]).getD k 0 := by
  generalize hx : K.getD (i - 1) 0 = x
  unfold kNew newB
  rw [hx]
  by_cases h0 : i % n = 0
  · rw [if_pos h0, if_pos h0, cut_xor, cut_top _ _ hk, cut_subw _ _ hk, cut_rot _ _ hk]
    rcases four_k hk with rfl | rfl | rfl | rfl <;> simp [List.getD_eq_getElem?_getD]
  · rw [if_neg h0, if_neg h0]
    by_cases h4 : i % n = 4
    · have h8 : n = 8 := by
        rcases hn with rfl | rfl
        · omega
        · rfl
      rw [if_pos h4, if_pos ⟨h8, h4⟩, cut_subw _ _ hk]
      rcases four_k hk with rfl | rfl | rfl | rfl <;> simp [List.getD_eq_getElem?_getD]
    · rw [if_neg h4, if_neg (fun h => h4 h.2)]
      rcases four_k hk with rfl | rfl | rfl | rfl <;> simp [List.getD_eq_getElem?_getD]
theorem flat_next (n : Nat) (hn : n = 4 ∨ n = 8) (key : List UInt8) (j k : Nat) (hj : j < 3 * n + 28) (hk : k < 4) :
    (flatK (kWords n key)).getD (4 * (n + j) + k) 0 = (flatK (kWords n key)).getD (4 * j + k) 0 ^^^ (newB n (n + j) (cK n key j) (wordB (flatK (kWords n key)) (n + j - 1))).getD k 0 := by
  have hl := kWords_len n key
  have h := fun k hk => flatK_get (kWords n key) (n + j - 1) k (by omega) hk
  have h0 := h 0 (by omega)
  rw [Nat.add_zero] at h0
  rw [flatK_get _ _ _ (by omega) hk, flatK_get _ _ _ (by omega) hk, kWords_next n key j (by omega) hj, cut_xor, cut_kNew n hn _ _ _ _ hk]
  unfold wordB cK
  rw [h0, h 1 (by omega), h 2 (by omega), h 3 (by omega)]
end Go.Proofs.Ytefbjhdcmgonbaa
