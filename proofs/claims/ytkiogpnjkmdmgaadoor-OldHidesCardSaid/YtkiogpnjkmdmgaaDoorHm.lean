/-
  Plain mathematics: bytes hidden by sums of a secret and of what stands ahead, block by block; and back.
-/
import Derived.Test.YtkiogpnjkmdmgaaDoorMd5
namespace Go.Proofs.YtkiogpnjkmdmgaaDoor

/-- The k-th block of sixteen bytes. -/
def sl (P : List UInt8) (k : Nat) : List UInt8 := (P.drop (16 * k)).take 16
def x16 (a m : List UInt8) : List UInt8 := List.zipWith (· ^^^ ·) a m
/-- What stands ahead of the k-th block. -/
def hAh (back : Bool) (sec beg P : List UInt8) : Nat → List UInt8
  | 0 => beg
  | k + 1 => if back then sl P k else x16 (sl P k) (md5 (sec ++ hAh back sec beg P k))
/-- What becomes of the k-th block. -/
def hOb (back : Bool) (sec beg P : List UInt8) (k : Nat) : List UInt8 := x16 (sl P k) (md5 (sec ++ hAh back sec beg P k))
def hDone (back : Bool) (sec beg P : List UInt8) : Nat → List UInt8
  | 0 => []
  | k + 1 => hDone back sec beg P k ++ hOb back sec beg P k

section
variable {back : Bool} {sec beg P : List UInt8} {k n : Nat}
theorem sl_length (h : 16 * (k + 1) ≤ P.length) : (sl P k).length = 16 := by simp [sl]; omega
theorem hOb_length (h : 16 * (k + 1) ≤ P.length) : (hOb back sec beg P k).length = 16 := by
  simp [hOb, x16, sl_length h, md5_length]
theorem hDone_length (h : 16 * k ≤ P.length) : (hDone back sec beg P k).length = 16 * k := by
  induction k with
  | zero => rfl
  | succ k ih => rw [hDone, List.length_append, ih (by omega), hOb_length h]; omega
theorem hAh_true (k : Nat) : hAh true sec beg P (k + 1) = sl P k := by simp [hAh]
theorem hAh_false (k : Nat) : hAh false sec beg P (k + 1) = hOb false sec beg P k := by simp [hAh, hOb]
theorem hAh_length (h : 16 * k ≤ P.length) : (hAh back sec beg P k).length ≤ beg.length + 16 := by
  cases k with
  | zero => simp [hAh]
  | succ k =>
    cases back with
    | true => rw [hAh_true, sl_length h]; omega
    | false => rw [hAh_false, hOb_length h]; omega
theorem getD_take (L : List UInt8) (m i : Nat) (h : i < m) : (L.take m).getD i 0 = L.getD i 0 := by
  simp [List.getD_eq_getElem?_getD, List.getElem?_take, h]
theorem sl_get {i : Nat} (hi : i < 16) : (sl P k).getD i 0 = P.getD (16 * k + i) 0 := by
  rw [sl, getD_take _ _ _ hi, List.getD_eq_getElem?_getD, List.getElem?_drop, ← List.getD_eq_getElem?_getD]
theorem hOb_get {i : Nat} (h : 16 * (k + 1) ≤ P.length) (hi : i < 16) : (hOb back sec beg P k).getD i 0 = P.getD (16 * k + i) 0 ^^^ (md5 (sec ++ hAh back sec beg P k)).getD i 0 := by
  rw [← sl_get hi, hOb]
  have h1 := sl_length h
  have h2 := md5_length (sec ++ hAh back sec beg P k)
  generalize md5 (sec ++ hAh back sec beg P k) = m at *
  simp [x16, List.getD_eq_getElem?_getD, List.getElem?_eq_getElem (show i < (sl P k).length by omega), List.getElem?_eq_getElem (show i < m.length by omega), List.getElem?_eq_getElem (show i < (List.zipWith (· ^^^ ·) (sl P k) m).length by simp; omega)]
end
/-- One place more of a row that is being made. -/
theorem set_mid (D X R : List UInt8) (o i : Nat) (hD : D.length = o) (hi : i < X.length) (hR : o + i < R.length) :
    (D ++ X.take i ++ R.drop (o + i)).set (o + i) (X.getD i 0) = D ++ X.take (i + 1) ++ R.drop (o + i + 1) := by
  have h1 : (D ++ X.take i).length = o + i := by rw [List.length_append, List.length_take, hD]; omega
  rw [List.set_append_right _ _ (by omega), h1, Nat.sub_self, List.drop_eq_getElem_cons hR, List.set_cons_zero]
  have e : List.take (i + 1) X = List.take i X ++ [X.getD i 0] := by
    rw [List.take_succ_eq_append_getElem hi]; simp [List.getD_eq_getElem?_getD, List.getElem?_eq_getElem hi]
  rw [e]; simp
theorem get_mid (D X R : List UInt8) (o i : Nat) (hD : D.length = o) (hi : i < X.length) (hR : o + i < R.length) :
    (D ++ X.take i ++ R.drop (o + i)).getD (o + i) 0 = R.getD (o + i) 0 := by
  have h1 : (D ++ X.take i).length = o + i := by rw [List.length_append, List.length_take, hD]; omega
  rw [List.getD_eq_getElem?_getD, List.getElem?_append_right (by omega), h1, Nat.sub_self, List.getElem?_drop, Nat.add_zero, ← List.getD_eq_getElem?_getD]
theorem mid_length (D X R : List UInt8) (o i : Nat) (hD : D.length = o) (hi : i ≤ X.length) (hR : o + i ≤ R.length) :
    (D ++ X.take i ++ R.drop (o + i)).length = R.length := by
  simp; omega
theorem x16_x16 (a m : List UInt8) (h : a.length ≤ m.length) : x16 (x16 a m) m = a := by
  induction a generalizing m with
  | nil => simp [x16]
  | cons y a ih =>
    cases m with
    | nil => simp at h
    | cons z m =>
      have := ih m (by simpa using h)
      simp only [x16] at this
      simp [x16, this, UInt8.xor_assoc]
section
variable {sec beg P : List UInt8}
theorem sl_hDone {back : Bool} {n k : Nat} (h : 16 * n ≤ P.length) (hk : k < n) : sl (hDone back sec beg P n) k = hOb back sec beg P k := by
  induction n with
  | zero => omega
  | succ n ih =>
    have hl := hDone_length (back := back) (sec := sec) (beg := beg) (P := P) (k := n) (by omega)
    have hl2 := hOb_length (back := back) (sec := sec) (beg := beg) (P := P) (k := n) (by omega)
    rw [hDone, sl]
    rcases Nat.lt_or_ge k n with hlt | hge
    · rw [List.drop_append_of_le_length (by omega), List.take_append_of_le_length (by rw [List.length_drop]; omega)]
      exact ih (by omega) hlt
    · obtain rfl : k = n := by omega
      rw [List.drop_append, hl, Nat.sub_self, List.drop_eq_nil_of_le (by omega), List.nil_append, List.drop_zero, List.take_of_length_le (by omega)]
/-- What is hidden is shown again. -/
theorem hidden_shown {n : Nat} (h : 16 * n ≤ P.length) (k : Nat) (hk : k ≤ n) :
    hAh true sec beg (hDone false sec beg P n) k = hAh false sec beg P k ∧ hDone true sec beg (hDone false sec beg P n) k = P.take (16 * k) := by
  induction k with
  | zero => simp [hAh, hDone]
  | succ k ih =>
    obtain ⟨h1, h2⟩ := ih (by omega)
    have hs := sl_hDone (back := false) (sec := sec) (beg := beg) h (show k < n by omega)
    refine ⟨by rw [hAh_true, hAh_false, hs], ?_⟩
    rw [hDone, h2, hOb, hs, h1, hOb, x16_x16 _ _ (by rw [sl_length (by omega), md5_length]; omega), sl]
    rw [show 16 * (k + 1) = 16 * k + 16 by omega, List.take_add]
end
end Go.Proofs.YtkiogpnjkmdmgaaDoor
