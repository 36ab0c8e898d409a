/-
  Plain mathematics, no program: MD5 over lists of bytes and words of 32 bits.
-/
import Derived.Test.YtkiogpnjkmdmgaaDoorSha
import Derived.Test.YtkiogpnjkmdmgaaDoorFold
namespace Go.Proofs.YtkiogpnjkmdmgaaDoor
open Go.RowKit

/-- The word that stands at place i of a block, the lowest byte first. -/
def leWord (b : List UInt8) (i : Nat) : UInt32 :=
  (b.getD (4 * i) 0).toUInt32 ||| ((b.getD (4 * i + 1) 0).toUInt32 <<< 8) ||| ((b.getD (4 * i + 2) 0).toUInt32 <<< 16) ||| ((b.getD (4 * i + 3) 0).toUInt32 <<< 24)
def sineTab : List UInt32 := [
    0xd76aa478, 0xe8c7b756, 0x242070db, 0xc1bdceee, 0xf57c0faf, 0x4787c62a, 0xa8304613, 0xfd469501,
    0x698098d8, 0x8b44f7af, 0xffff5bb1, 0x895cd7be, 0x6b901122, 0xfd987193, 0xa679438e, 0x49b40821,
    0xf61e2562, 0xc040b340, 0x265e5a51, 0xe9b6c7aa, 0xd62f105d, 0x02441453, 0xd8a1e681, 0xe7d3fbc8,
    0x21e1cde6, 0xc33707d6, 0xf4d50d87, 0x455a14ed, 0xa9e3e905, 0xfcefa3f8, 0x676f02d9, 0x8d2a4c8a,
    0xfffa3942, 0x8771f681, 0x6d9d6122, 0xfde5380c, 0xa4beea44, 0x4bdecfa9, 0xf6bb4b60, 0xbebfbc70,
    0x289b7ec6, 0xeaa127fa, 0xd4ef3085, 0x04881d05, 0xd9d4d039, 0xe6db99e5, 0x1fa27cf8, 0xc4ac5665,
    0xf4292244, 0x432aff97, 0xab9423a7, 0xfc93a039, 0x655b59c3, 0x8f0ccc92, 0xffeff47d, 0x85845dd1,
    0x6fa87e4f, 0xfe2ce6e0, 0xa3014314, 0x4e0811a1, 0xf7537e82, 0xbd3af235, 0x2ad7d2bb, 0xeb86d391]
def shiftTab : List Nat := [7, 12, 17, 22, 5, 9, 14, 20, 4, 11, 16, 23, 6, 10, 15, 21]
/-- How far step i turns. -/
def shiftOf (i : Nat) : Nat := shiftTab.getD (i / 16 * 4 + i % 4) 0
/-- Which word of the block step i takes. -/
def atOf (i : Nat) : Nat := if i < 16 then i else if i < 32 then (5 * i + 1) % 16 else if i < 48 then (3 * i + 5) % 16 else 7 * i % 16
/-- How step i mixes three words. -/
def mixOf (i : Nat) (b c d : UInt32) : UInt32 :=
  if i < 16 then (b &&& c) ||| (~~~b &&& d) else if i < 32 then (b &&& d) ||| (c &&& ~~~d) else if i < 48 then (b ^^^ c) ^^^ d else c ^^^ (b ||| ~~~d)
/-- Four words. -/
structure Qd where
  a : UInt32
  b : UInt32
  c : UInt32
  d : UInt32
def firstQ : Qd := ⟨0x67452301, 0xefcdab89, 0x98badcfe, 0x10325476⟩
def Qd.vals (s : Qd) : List Value := [U32 s.a, U32 s.b, U32 s.c, U32 s.d]
def stepQ (x : List UInt8) (i : Nat) (s : Qd) : Qd :=
  ⟨s.d, s.b + rotl (shiftOf i) (s.a + mixOf i s.b s.c s.d + sineTab.getD i 0 + leWord x (atOf i)), s.b, s.c⟩
def stepsQ (x : List UInt8) : Nat → Qd → Qd
  | 0, s => s
  | n + 1, s => stepQ x n (stepsQ x n s)
def addQ (s t : Qd) : Qd := ⟨s.a + t.a, s.b + t.b, s.c + t.c, s.d + t.d⟩
/-- What a block of 64 bytes makes of the words. -/
def compQ (s : Qd) (b : List UInt8) : Qd := addQ s (stepsQ b 64 s)
/-- The words after so many blocks. -/
def foldQ : Nat → Qd → List UInt8 → Qd
  | 0, s, _ => s
  | n + 1, s, m => foldQ n (compQ s (m.take 64)) (m.drop 64)
def blocksQ (s : Qd) (m : List UInt8) : Qd := foldQ (m.length / 64) s m
def leBytes4 (x : UInt32) : List UInt8 := [x.toUInt8, (x >>> 8).toUInt8, (x >>> 16).toUInt8, (x >>> 24).toUInt8]
def bytesQ (s : Qd) : List UInt8 := leBytes4 s.a ++ leBytes4 s.b ++ leBytes4 s.c ++ leBytes4 s.d
/-- A count in eight bytes, the lowest first. -/
def le8 (c : Nat) : List UInt8 := (be8 c).reverse
/-- What stands behind n bytes to make whole blocks. -/
def padQ (n : Nat) : List UInt8 := 128 :: List.replicate ((119 - n % 64) % 64) 0 ++ le8 (n * 8)
/-- MD5 of a row of bytes. -/
def md5 (m : List UInt8) : List UInt8 := bytesQ (blocksQ firstQ (m ++ padQ m.length))
theorem md5_length (m : List UInt8) : (md5 m).length = 16 := rfl
theorem md5_abc : md5 [97, 98, 99] = [0x90, 0x01, 0x50, 0x98, 0x3C, 0xD2, 0x4F, 0xB0, 0xD6, 0x96, 0x3F, 0x7D, 0x28, 0xE1, 0x7F, 0x72] := by decide +kernel

theorem blocksQ_short (s : Qd) (m : List UInt8) (h : m.length < 64) : blocksQ s m = s := by
  unfold blocksQ; rw [Nat.div_eq_of_lt h]; rfl
theorem blocksQ_step (s : Qd) (m : List UInt8) (h : 64 ≤ m.length) : blocksQ s m = blocksQ (compQ s (m.take 64)) (m.drop 64) := by
  unfold blocksQ
  have e : m.length / 64 = (m.drop 64).length / 64 + 1 := by rw [List.length_drop]; omega
  rw [e]; rfl
theorem foldQ_append (n : Nat) : ∀ (s : Qd) (x y : List UInt8), x.length = n * 64 → foldQ (n + y.length / 64) s (x ++ y) = foldQ (y.length / 64) (foldQ n s x) y := by
  induction n with
  | zero => intro s x y h; have : x = [] := List.eq_nil_of_length_eq_zero (by omega); subst this; simp [foldQ]
  | succ n ih =>
    intro s x y h
    rw [show n + 1 + y.length / 64 = (n + y.length / 64) + 1 by omega]
    simp only [foldQ]
    rw [List.take_append_of_le_length (by omega), List.drop_append_of_le_length (by omega), ih _ (x.drop 64) y (by rw [List.length_drop]; omega)]
theorem blocksQ_append (s : Qd) (m b : List UInt8) : blocksQ s (m ++ b) = blocksQ (blocksQ s m) (left m ++ b) := by
  have hm : m = m.take (m.length / 64 * 64) ++ left m := by unfold left; rw [List.take_append_drop]
  have hl := left_length m
  have ht : (m.take (m.length / 64 * 64)).length = m.length / 64 * 64 := by rw [List.length_take]; omega
  have h1 : blocksQ s (m ++ b) = foldQ (m.length / 64 + (left m ++ b).length / 64) s (m.take (m.length / 64 * 64) ++ (left m ++ b)) := by
    unfold blocksQ
    rw [← List.append_assoc, ← hm]
    congr 1
    rw [List.length_append, List.length_append, hl]; omega
  have h2 : blocksQ s m = foldQ (m.length / 64) s (m.take (m.length / 64 * 64)) := by
    have h3 := foldQ_append (m.length / 64) s (m.take (m.length / 64 * 64)) (left m) ht
    rw [← hm] at h3
    have h4 : (left m).length / 64 = 0 := by omega
    rw [h4] at h3
    exact h3
  rw [h1, foldQ_append _ _ _ _ ht, ← h2]
  rfl

/-- How a state lies in its block: four words, 64 bytes, the size. -/
def sqCells (s : Qd) (R : List UInt8) (n : Nat) : List Value := s.vals ++ (R.map B8 ++ [.int .u64 (n : Int)])
theorem sqCells_length (s : Qd) (R : List UInt8) (n : Nat) (h : R.length = 64) : (sqCells s R n).length = 69 := by
  simp [sqCells, Qd.vals, h]
theorem sqCells_68 (s : Qd) (R : List UInt8) (n : Nat) (h : R.length = 64) : (sqCells s R n)[68]? = some (.int .u64 (n : Int)) := by
  simp [sqCells, Qd.vals, h]
theorem sqCells_rest (s : Qd) (R : List UInt8) (n j : Nat) (hj : j < R.length) : (sqCells s R n)[4 + j]? = some (B8 (R.getD j 0)) := by
  have h1 : (sqCells s R n)[4 + j]? = (R.map B8 ++ [.int .u64 (n : Int)])[j]? := by
    unfold sqCells
    rw [List.getElem?_append_right (by simp [Qd.vals])]
    simp [Qd.vals]
  rw [h1, List.getElem?_append_left (by simpa using hj)]
  exact getD_map8 R j hj
theorem sqCells_set68 (s : Qd) (R : List UInt8) (n m : Nat) (h : R.length = 64) : (sqCells s R n).set 68 (.int .u64 (m : Int)) = sqCells s R m := by
  unfold sqCells
  rw [List.set_append_right _ _ (by simp [Qd.vals])]
  rw [List.set_append_right _ _ (by simp [Qd.vals, h])]
  simp [Qd.vals, h]
theorem sqCells_splice (s : Qd) (R cs : List UInt8) (n h : Nat) (hR : R.length = 64) (hh : h + cs.length ≤ 64) :
    splice (sqCells s R n) (4 + h) (cs.map B8) = sqCells s (splice R h cs) n := by
  have e1 : (sqCells s R n).take (4 + h) = s.vals ++ (R.take h).map B8 := by
    unfold sqCells
    rw [List.take_append, List.take_of_length_le (by simp [Qd.vals]), List.take_append_of_le_length (by simp [Qd.vals, hR]; omega)]
    simp [Qd.vals, List.map_take]
  have e2 : (sqCells s R n).drop (4 + h + cs.length) = (R.drop (h + cs.length)).map B8 ++ [.int .u64 (n : Int)] := by
    unfold sqCells
    rw [List.drop_append, List.drop_eq_nil_of_le (by simp [Qd.vals]; omega), List.drop_append_of_le_length (by simp [Qd.vals, hR]; omega)]
    simp [Qd.vals, List.map_drop, show 4 + h + cs.length - 4 = h + cs.length by omega]
  rw [splice_eq, List.length_map, e1, e2]
  simp [sqCells, splice_eq, List.append_assoc]
theorem Blk.restQ {w : World} {g : Nat} {t : TypeId} {s : Qd} {R : List UInt8} {n : Nat} (h : Blk w g t (sqCells s R n)) : Bytes w g 4 R := fun j hj => (h.cell (4 + j)).trans (sqCells_rest s R n j hj)
end Go.Proofs.YtkiogpnjkmdmgaaDoor
