/-
  Joined: Md5, QTurn, QPut, QEnd, QOf.
-/
import Derived.Test.YtbomckbekcaemaaDoorWa
import Derived.Test.YtbomckbekcaemaaDoorWf
import Derived.BigQuiet
import Derived.Deep.QuietTactic
import Derived.StillTailTactics
import Derived.Lib.SlBytesConst
import Derived.Lib.SmallJoins
namespace Go.Proofs.YtbomckbekcaemaaDoor
section
open Go.RowKit
/-- The word that stands at place i of a block, the lowest byte first. -/
def leWord (b : List UInt8) (i : Nat) : UInt32 :=
  (b.getD (4 * i) 0).toUInt32 ||| ((b.getD (4 * i + 1) 0).toUInt32 <<< 8) ||| ((b.getD (4 * i + 2) 0).toUInt32 <<< 16) ||| ((b.getD (4 * i + 3) 0).toUInt32 <<< 24)
def sineTab : List UInt32 := [
    0xd76aa478, 0xe8c7b756, 0x242070db, 0xc1bdceee, 0xf57c0faf, 0x4787c62a, 0xa8304613, 0xfd469501,
    0x698098d8, 0x8b44f7af, 0xffff5bb1, 0x895cd7be, 0x6b901122, 0xfd987193, 0xa679438e, 0x49b40821,
    0xf61e2562, 0xc040b340, 0x265e5a51, 0xe9b6c7aa, 0xd62f105d, 0x02441453, 0xd8a1e681, 0xe7d3fbc8,
    0x21e1cde6, 0xc33707d6, 0xf4d50d87, 0x455a14ed, 0xa9e3e905, 0xfcefa3f8, 0x676f02d9, 0x8d2a4c8a,
    0xfffa3942, 0x8771f681, 0x6d9d6122, 0xfde5380c, 0xa4beea44, 0x4bdecfa9, 0xf6bb4b60, 0xbebfbc70,
    0x289b7ec6, 0xeaa127fa, 0xd4ef3085, 0x04881d05, 0xd9d4d039, 0xe6db99e5, 0x1fa27cf8, 0xc4ac5665,
    0xf4292244, 0x432aff97, 0xab9423a7, 0xfc93a039, 0x655b59c3, 0x8f0ccc92, 0xffeff47d, 0x85845dd1,
    0x6fa87e4f, 0xfe2ce6e0, 0xa3014314, 0x4e0811a1, 0xf7537e82, 0xbd3af235, 0x2ad7d2bb, 0xeb86d391]
def shiftTab : List Nat := [7, 12, 17, 22, 5, 9, 14, 20, 4, 11, 16, 23, 6, 10, 15, 21]
/-- How far step i turns. -/
def shiftOf (i : Nat) : Nat := shiftTab.getD (i / 16 * 4 + i % 4) 0
/-- Which word of the block step i takes. -/
def atOf (i : Nat) : Nat := if i < 16 then i else if i < 32 then (5 * i + 1) % 16 else if i < 48 then (3 * i + 5) % 16 else 7 * i % 16
/-- How step i mixes three words. -/
def mixOf (i : Nat) (b c d : UInt32) : UInt32 :=
  if i < 16 then (b &&& c) ||| (~~~b &&& d) else if i < 32 then (b &&& d) ||| (c &&& ~~~d) else if i < 48 then (b ^^^ c) ^^^ d else c ^^^ (b ||| ~~~d)
/-- Four words. -/
structure Qd where
  a : UInt32
  b : UInt32
  c : UInt32
  d : UInt32
def firstQ : Qd := ⟨0x67452301, 0xefcdab89, 0x98badcfe, 0x10325476⟩
def Qd.vals (s : Qd) : List Value := [U32 s.a, U32 s.b, U32 s.c, U32 s.d]
def stepQ (x : List UInt8) (i : Nat) (s : Qd) : Qd :=
  ⟨s.d, s.b + rotl (shiftOf i) (s.a + mixOf i s.b s.c s.d + sineTab.getD i 0 + leWord x (atOf i)), s.b, s.c⟩
def stepsQ (x : List UInt8) : Nat → Qd → Qd
  | 0, s => s
  | n + 1, s => stepQ x n (stepsQ x n s)
def addQ (s t : Qd) : Qd := ⟨s.a + t.a, s.b + t.b, s.c + t.c, s.d + t.d⟩
/-- What a block of 64 bytes makes of the words. -/
def compQ (s : Qd) (b : List UInt8) : Qd := addQ s (stepsQ b 64 s)
/-- The words after so many blocks. -/
def foldQ : Nat → Qd → List UInt8 → Qd
  | 0, s, _ => s
  | n + 1, s, m => foldQ n (compQ s (m.take 64)) (m.drop 64)
def blocksQ (s : Qd) (m : List UInt8) : Qd := foldQ (m.length / 64) s m
def leBytes4 (x : UInt32) : List UInt8 := [x.toUInt8, (x >>> 8).toUInt8, (x >>> 16).toUInt8, (x >>> 24).toUInt8]
def bytesQ (s : Qd) : List UInt8 := leBytes4 s.a ++ leBytes4 s.b ++ leBytes4 s.c ++ leBytes4 s.d
/-- A count in eight bytes, the lowest first. -/
def le8 (c : Nat) : List UInt8 := (be8 c).reverse
/-- What stands behind n bytes to make whole blocks. -/
def padQ (n : Nat) : List UInt8 := 128 :: List.replicate ((119 - n % 64) % 64) 0 ++ le8 (n * 8)
/-- MD5 of a row of bytes. -/
def md5 (m : List UInt8) : List UInt8 := bytesQ (blocksQ firstQ (m ++ padQ m.length))
theorem md5_length (m : List UInt8) : (md5 m).length = 16 := rfl
theorem md5_abc : md5 [97, 98, 99] = [0x90, 0x01, 0x50, 0x98, 0x3C, 0xD2, 0x4F, 0xB0, 0xD6, 0x96, 0x3F, 0x7D, 0x28, 0xE1, 0x7F, 0x72] := by decide +kernel

theorem blocksQ_short (s : Qd) (m : List UInt8) (h : m.length < 64) : blocksQ s m = s := by
  unfold blocksQ; rw [Nat.div_eq_of_lt h]; rfl
theorem blocksQ_step (s : Qd) (m : List UInt8) (h : 64 ≤ m.length) : blocksQ s m = blocksQ (compQ s (m.take 64)) (m.drop 64) := by
  unfold blocksQ
  have e : m.length / 64 = (m.drop 64).length / 64 + 1 := by rw [List.length_drop]; omega
  rw [e]; rfl
theorem foldQ_append (n : Nat) : ∀ (s : Qd) (x y : List UInt8), x.length = n * 64 → foldQ (n + y.length / 64) s (x ++ y) = foldQ (y.length / 64) (foldQ n s x) y := by
  induction n with
  | zero => intro s x y h; have : x = [] := List.eq_nil_of_length_eq_zero (by omega); subst this; simp [foldQ]
  | succ n ih =>
    intro s x y h
    rw [show n + 1 + y.length / 64 = (n + y.length / 64) + 1 by omega]
    simp only [foldQ]
    rw [List.take_append_of_le_length (by omega), List.drop_append_of_le_length (by omega), ih _ (x.drop 64) y (by rw [List.length_drop]; omega)]
theorem blocksQ_append (s : Qd) (m b : List UInt8) : blocksQ s (m ++ b) = blocksQ (blocksQ s m) (left m ++ b) := by
  have hm : m = m.take (m.length / 64 * 64) ++ left m := by unfold left; rw [List.take_append_drop]
  have hl := left_length m
  have ht : (m.take (m.length / 64 * 64)).length = m.length / 64 * 64 := by rw [List.length_take]; omega
  have h1 : blocksQ s (m ++ b) = foldQ (m.length / 64 + (left m ++ b).length / 64) s (m.take (m.length / 64 * 64) ++ (left m ++ b)) := by
    unfold blocksQ
    rw [← List.append_assoc, ← hm]
    congr 1
    rw [List.length_append, List.length_append, hl]; omega
  have h2 : blocksQ s m = foldQ (m.length / 64) s (m.take (m.length / 64 * 64)) := by
    have h3 := foldQ_append (m.length / 64) s (m.take (m.length / 64 * 64)) (left m) ht
    rw [← hm] at h3
    have h4 : (left m).length / 64 = 0 := by omega
    rw [h4] at h3
    exact h3
  rw [h1, foldQ_append _ _ _ _ ht, ← h2]
  rfl

/-- How a state lies in its block: four words, 64 bytes, the size. -/
def sqCells (s : Qd) (R : List UInt8) (n : Nat) : List Value := s.vals ++ (R.map B8 ++ [.int .u64 (n : Int)])
theorem sqCells_length (s : Qd) (R : List UInt8) (n : Nat) (h : R.length = 64) : (sqCells s R n).length = 69 := by
  simp [sqCells, Qd.vals, h]
theorem sqCells_68 (s : Qd) (R : List UInt8) (n : Nat) (h : R.length = 64) : (sqCells s R n)[68]? = some (.int .u64 (n : Int)) := by
  simp [sqCells, Qd.vals, h]
theorem sqCells_rest (s : Qd) (R : List UInt8) (n j : Nat) (hj : j < R.length) : (sqCells s R n)[4 + j]? = some (B8 (R.getD j 0)) := by
  have h1 : (sqCells s R n)[4 + j]? = (R.map B8 ++ [.int .u64 (n : Int)])[j]? := by
    unfold sqCells
    rw [List.getElem?_append_right (by simp [Qd.vals])]
    simp [Qd.vals]
  rw [h1, List.getElem?_append_left (by simpa using hj)]
  exact getD_map8 R j hj
theorem sqCells_set68 (s : Qd) (R : List UInt8) (n m : Nat) (h : R.length = 64) : (sqCells s R n).set 68 (.int .u64 (m : Int)) = sqCells s R m := by
  unfold sqCells
  rw [List.set_append_right _ _ (by simp [Qd.vals])]
  rw [List.set_append_right _ _ (by simp [Qd.vals, h])]
  simp [Qd.vals, h]
theorem sqCells_splice (s : Qd) (R cs : List UInt8) (n h : Nat) (hR : R.length = 64) (hh : h + cs.length ≤ 64) :
    splice (sqCells s R n) (4 + h) (cs.map B8) = sqCells s (splice R h cs) n := by
  have e1 : (sqCells s R n).take (4 + h) = s.vals ++ (R.take h).map B8 := by
    unfold sqCells
    rw [List.take_append, List.take_of_length_le (by simp [Qd.vals]), List.take_append_of_le_length (by simp [Qd.vals, hR]; omega)]
    simp [Qd.vals, List.map_take]
  have e2 : (sqCells s R n).drop (4 + h + cs.length) = (R.drop (h + cs.length)).map B8 ++ [.int .u64 (n : Int)] := by
    unfold sqCells
    rw [List.drop_append, List.drop_eq_nil_of_le (by simp [Qd.vals]; omega), List.drop_append_of_le_length (by simp [Qd.vals, hR]; omega)]
    simp [Qd.vals, List.map_drop, show 4 + h + cs.length - 4 = h + cs.length by omega]
  rw [splice_eq, List.length_map, e1, e2]
  simp [sqCells, splice_eq, List.append_assoc]
theorem Blk.restQ {w : World} {g : Nat} {t : TypeId} {s : Qd} {R : List UInt8} {n : Nat} (h : Blk w g t (sqCells s R n)) : Bytes w g 4 R := fun j hj => (h.cell (4 + j)).trans (sqCells_rest s R n j hj)

end
section
open Go.RowKit
/-- The two tables of package old hold what RFC 1321 says. -/
structure TabsQ (w : World) : Prop where
  sines : ∀ i, i < 64 → w.cell? ⟨1, i, none⟩ = some (.int .u32 (sineTab.getD i 0).toNat)
  shifts : ∀ i, i < 16 → w.cell? ⟨2, i, none⟩ = some (.int .i64 ((shiftTab.getD i 0 : Nat) : Int))
theorem TabsQ.keep {w w' : World} (h : TabsQ w) (k : ∀ p : Addr, p.block = 1 ∨ p.block = 2 → w'.cell? p = w.cell? p) : TabsQ w' :=
  ⟨fun i hi => (k _ (.inl rfl)).trans (h.sines i hi), fun i hi => (k _ (.inr rfl)).trans (h.shifts i hi)⟩
theorem TabsQ.lt0 {w : World} (h : TabsQ w) : 1 < w.heap.size := block_lt_of_cell (h.sines 0 (by omega))
theorem TabsQ.lt1 {w : World} (h : TabsQ w) : 2 < w.heap.size := block_lt_of_cell (h.shifts 0 (by omega))
theorem TabsQ.below {w w' : World} (h : TabsQ w) (hb : Below w.heap.size w w') : TabsQ w' :=
  h.keep fun p hp => hb.cell (by rcases hp with hp | hp <;> rw [hp]; exact h.lt0; exact h.lt1)
theorem TabsQ.drewN {w : World} (h : TabsQ w) (n : Nat) : TabsQ (w.drewN n) := ⟨h.sines, h.shifts⟩
theorem TabsQ.grown {w w' : World} {g : Nat} (h : TabsQ w) (hb : w.grownBy w' (some g)) (h0 : g ≠ 1) (h1 : g ≠ 2) : TabsQ w' :=
  h.keep fun p hp => World.cell?_of_block (hb.block p.block (by rcases hp with hp | hp <;> rw [hp]; exact h.lt0; exact h.lt1) (by rcases hp with hp | hp <;> rw [hp] <;> simp <;> omega))

theorem w_andnot (a b : UInt32) : bits .andNot .u32 (a.toNat : Int) (b.toNat : Int) = ((a &&& ~~~b).toNat : Int) := by
  rw [u32_andNot_nat _ _ (u32_lt a) (u32_lt b), UInt32.toNat_and, UInt32.toNat_not]
  rfl
set_option maxHeartbeats 400000 in
theorem step_any (i : Nat) (b c d : UInt32) (w : World) (hi : i < 64) :
    Calls Tryd.prog 90 #[.int .i64 i, .int .u32 b.toNat, .int .u32 c.toNat, .int .u32 d.toNat] w fun e w' => e = .returned (.tuple #[.int .u32 (mixOf i b c d).toNat, .int .i64 (atOf i : Int)]) ∧ w = w' := by
  have i0 : (0 : Int) ≤ (i : Int) := by omega
  have i1 : (i : Int) < 64 := by omega
  by_cases h1 : i < 16
  · have HM : Hid (mixOf i b c d = (b &&& c) ||| (~~~b &&& d)) := Lib.hid (by unfold mixOf; rw [if_pos h1])
    have HA : Hid (atOf i = i) := Lib.hid (by unfold atOf; rw [if_pos h1])
    have e0 : ((i : Int) / 16 == 0) = true := by simp; omega
    clear h1
    go_enter Tryd.func90, Tryd.ntmps90
    go_wp2
    go_ret2
    exact ⟨by rw [HM.out, HA.out]; first | rfl | (rw [w_not, w_and, w_and, w_or]; rfl), rfl⟩
  by_cases h2 : i < 32
  · have HM : Hid (mixOf i b c d = (b &&& d) ||| (c &&& ~~~d)) := Lib.hid (by unfold mixOf; rw [if_neg h1, if_pos h2])
    have HA : Hid (atOf i = (5 * i + 1) % 16) := Lib.hid (by unfold atOf; rw [if_neg h1, if_pos h2])
    have e0 : ((i : Int) / 16 == 0) = false := by simp; omega
    have e1 : ((i : Int) / 16 == 1) = true := by simp; omega
    clear h1 h2
    go_enter Tryd.func90, Tryd.ntmps90
    go_wp2
    go_ret2
    exact ⟨by rw [HM.out, HA.out, w_and, w_andnot, w_or]; rfl, rfl⟩
  by_cases h3 : i < 48
  · have HM : Hid (mixOf i b c d = (b ^^^ c) ^^^ d) := Lib.hid (by unfold mixOf; rw [if_neg h1, if_neg h2, if_pos h3])
    have HA : Hid (atOf i = (3 * i + 5) % 16) := Lib.hid (by unfold atOf; rw [if_neg h1, if_neg h2, if_pos h3])
    have e0 : ((i : Int) / 16 == 0) = false := by simp; omega
    have e1 : ((i : Int) / 16 == 1) = false := by simp; omega
    have e2 : ((i : Int) / 16 == 2) = true := by simp; omega
    clear h1 h2 h3
    go_enter Tryd.func90, Tryd.ntmps90
    go_wp2
    go_ret2
    exact ⟨by rw [HM.out, HA.out]; first | rfl | (rw [w_xor, w_xor]; rfl), rfl⟩
  · have HM : Hid (mixOf i b c d = c ^^^ (b ||| ~~~d)) := Lib.hid (by unfold mixOf; rw [if_neg h1, if_neg h2, if_neg h3])
    have HA : Hid (atOf i = 7 * i % 16) := Lib.hid (by unfold atOf; rw [if_neg h1, if_neg h2, if_neg h3])
    have e0 : ((i : Int) / 16 == 0) = false := by simp; omega
    have e1 : ((i : Int) / 16 == 1) = false := by simp; omega
    have e2 : ((i : Int) / 16 == 2) = false := by simp; omega
    clear h1 h2 h3
    go_enter Tryd.func90, Tryd.ntmps90
    go_wp2
    go_ret2
    exact ⟨by rw [HM.out, HA.out]; first | rfl | (rw [w_not, w_or, w_xor]; rfl), rfl⟩
/-- The words of a block, so many of them. -/
def xTo (b : List UInt8) : Nat → List UInt32
  | 0 => List.replicate 16 0
  | k + 1 => (xTo b k).set k (leWord b k)
theorem xTo_length (b : List UInt8) : ∀ k, (xTo b k).length = 16
  | 0 => by simp [xTo]
  | k + 1 => by rw [xTo, List.length_set]; exact xTo_length b k
theorem xTo_getD (b : List UInt8) : ∀ k, k ≤ 16 → ∀ j, j < k → (xTo b k).getD j 0 = leWord b j
  | 0, _, j, hj => absurd hj (by omega)
  | k + 1, hk, j, hj => by
    have hl := xTo_length b k
    rw [xTo, List.getD_eq_getElem?_getD, List.getElem?_set]
    by_cases h : k = j
    · subst h
      rw [if_pos rfl, if_pos (by omega)]; rfl
    · rw [if_neg h, ← List.getD_eq_getElem?_getD]
      exact xTo_getD b k (by omega) j (by omega)
theorem atOf_lt (i : Nat) (_ : i < 64) : atOf i < 16 := by unfold atOf; split <;> (try split) <;> (try split) <;> omega
theorem shift_range : ∀ j : Fin 16, 0 < shiftTab.getD j.val 0 ∧ shiftTab.getD j.val 0 < 32 ∧ bits .and .u64 (IntKind.u64.wrap ((shiftTab.getD j.val 0 : Nat) : Int)) 31 = ((shiftTab.getD j.val 0 : Nat) : Int) := by decide +kernel
theorem shift_ix_all : ∀ k : Fin 64, IntKind.i64.wrap (IntKind.i64.wrap (IntKind.i64.wrap ((k.val : Int) / 16) * 4) + (k.val : Int).tmod 4) = ((k.val / 16 * 4 + k.val % 4 : Nat) : Int) := by decide +kernel
theorem shift_ix (k : Nat) (hk : k < 64) : IntKind.i64.wrap (IntKind.i64.wrap (IntKind.i64.wrap ((k : Int) / 16) * 4) + (k : Int).tmod 4) = ((k / 16 * 4 + k % 4 : Nat) : Int) := shift_ix_all ⟨k, hk⟩
theorem le_eq (a b c d : UInt8) :
    bits .or .u32 (bits .or .u32 (bits .or .u32 ((a.toNat : Int) % 4294967296) ((b.toNat : Int) % 4294967296 * 256 % 4294967296)) ((c.toNat : Int) % 4294967296 * 65536 % 4294967296)) ((d.toNat : Int) % 4294967296 * 16777216 % 4294967296)
      = ((a.toUInt32 ||| (b.toUInt32 <<< 8) ||| (c.toUInt32 <<< 16) ||| (d.toUInt32 <<< 24)).toNat : Int) := by
  rw [u8_mod, u8_mod, u8_mod, u8_mod, w_shl24, w_shl16, w_shl8, w_or, w_or, w_or]
theorem leWord_eq (bs : List UInt8) (k : Nat) :
    bits .or .u32 (bits .or .u32 (bits .or .u32 (((bs[4 * k]?.getD 0).toNat : Int) % 4294967296) (((bs[4 * k + 1]?.getD 0).toNat : Int) % 4294967296 * 256 % 4294967296)) (((bs[4 * k + 2]?.getD 0).toNat : Int) % 4294967296 * 65536 % 4294967296)) (((bs[4 * k + 3]?.getD 0).toNat : Int) % 4294967296 * 16777216 % 4294967296)
      = ((leWord bs k).toNat : Int) := by
  rw [le_eq]; simp only [leWord, List.getD_eq_getElem?_getD]
set_option maxRecDepth 100000 in
set_option maxHeartbeats 2000000 in
theorem qturn_any (g gb ob cap : Nat) (t : TypeId) (s : Qd) (R : List Value) (bs : List UInt8) (w : World) (hl : bs.length = 64) (hcap : 64 ≤ cap) (hcm : cap ≤ 9223372036854775807)
    (hb : Bytes w gb ob bs) (hs : Blk w g t (s.vals ++ R)) (ht : TabsQ w) :
    Calls Tryd.prog 86 #[.pointer (some ⟨g, 0, none⟩), .slice (some ⟨gb, ob, none⟩) 64 cap] w fun e w' => e = .returned (.tuple #[]) ∧ Blk w' g t ((compQ s bs).vals ++ R) ∧ w.grownBy w' (some g) := by
  have hgb := hb.lt (by omega)
  have hgs := hs.lt
  go_enter Tryd.func86, Tryd.ntmps86
  go_wp2
  go_loopw [15] (fun i wr => ∃ k : Nat, k ≤ 16 ∧ i = .int .i64 k ∧ Blk wr w.heap.size 143 ((xTo bs k).map U32) ∧ Below w.heap.size w wr) (fun i _ => 16 - (intOf i).toNat)
  case atStart => exact ⟨0, by omega, rfl, Blk.new_of w _ _ _ (by rfl), (Below.refl _ _).alloc (Nat.le_refl _) _⟩
  case round =>
    obtain ⟨k, hk, rfl, hB, hbl⟩ := hrel
    by_cases hlt : k < 16
    · have hd : decide ((k : Int) < 16) = true := by simp; omega
      have HL : Hid (xTo bs (k + 1) = (xTo bs k).set k (leWord bs k)) := Lib.hid rfl
      have hb' := hb.below hbl hgb
      have lB := hB.lt
      have hX := fun (V : World) (h : Below wr.heap.size wr V) => (show V.cell? ⟨gb, ob + 4 * k, none⟩ = some (.int .u8 (bs.getD (4 * k) 0).toNat) ∧ V.cell? ⟨gb, ob + 4 * k + 1, none⟩ = some (.int .u8 (bs.getD (4 * k + 1) 0).toNat) ∧ V.cell? ⟨gb, ob + 4 * k + 2, none⟩ = some (.int .u8 (bs.getD (4 * k + 2) 0).toNat) ∧ V.cell? ⟨gb, ob + 4 * k + 3, none⟩ = some (.int .u8 (bs.getD (4 * k + 3) 0).toNat) from
        ⟨(hb'.below h (Nat.lt_of_lt_of_le hgb hbl.size)) (4 * k) (by omega), (hb'.below h (Nat.lt_of_lt_of_le hgb hbl.size)) (4 * k + 1) (by omega), (hb'.below h (Nat.lt_of_lt_of_le hgb hbl.size)) (4 * k + 2) (by omega), (hb'.below h (Nat.lt_of_lt_of_le hgb hbl.size)) (4 * k + 3) (by omega)⟩)
      have hk0 : (0 : Int) ≤ (k : Int) := by omega
      have hk1 : (k : Int) < 16 := by omega
      clear hb' hb
      go_wp2
      simp only [show 4 * k + 4 - 4 * k = 4 by omega]
      apply wp_region_once_tail (m := 24) (Z := []) (D := [[], [], [1], [1, 2], [1, 2, 3], [], [5], [5, 6], [5, 6, 7], [5, 6, 7, 8], [1, 2, 3, 4, 5, 6, 7, 8, 9], [], [11], [11, 12], [11, 12, 13], [11, 12, 13, 14], [1, 2, 3, 4, 5, 6, 7, 8, 9, 10, 11, 12, 13, 14, 15], [], [17], [17, 18], [17, 18, 19], [17, 18, 19, 20], [1, 2, 3, 4, 5, 6, 7, 8, 9, 10, 11, 12, 13, 14, 15, 16, 17, 18, 19, 20, 21], [0, 1, 2, 3, 4, 5, 6, 7, 8, 9, 10, 11, 12, 13, 14, 15, 16, 17, 18, 19, 20, 21, 22], [0, 1, 2, 3, 4, 5, 6, 7, 8, 9, 10, 11, 12, 13, 14, 15, 16, 17, 18, 19, 20, 21, 22, 23]]) (J := [[], [], [1], [2], [3], [], [5], [6], [7], [8], [4, 9], [], [11], [12], [13], [14], [10, 15], [], [17], [18], [19], [20], [16, 21], [0]]) (Je := [22, 23]) (Rs := [Is _, Is _, Is _, Is _, Is _, Is _, Is _, Is _, Is _, Is _, Is _, Is _, Is _, Is _, Is _, Is _, Is _, Is _, Is _, Is _, Is _, Is _, Is _, Is _])
      · kernel_rfl
      · kernel_rfl
      · kernel_rfl
      · kernel_rfl
      · kernel_rfl
      · kernel_rfl
      · kernel_rfl
      · exact fun h => absurd rfl h
      · intro u
        simp only [List.take_succ_cons, List.take_zero, List.map_cons, List.map_nil, fillU, List.setIfInBounds_toArray, List.set_cons_zero, List.set_cons_succ, Nat.zero_add, Nat.reduceAdd]
        exact rfl
      · simp only [List.take_succ_cons, List.take_zero]
        refine ⟨fun u W hb hd K hK => ?_, ?_⟩
        · clear hd
          go_simp
          apply hK
          · simp only [Act.put, List.setIfInBounds_toArray, List.set_cons_zero, List.set_cons_succ]
            exact rfl
          · exact Below.refl _ _
          · exact IsOut
        refine ⟨fun u W hb hd K hK => ?_, ?_⟩
        · clear hd
          go_simp
          apply hK
          · simp only [Act.put, List.setIfInBounds_toArray, List.set_cons_zero, List.set_cons_succ]
            exact rfl
          · exact Below.refl _ _
          · exact IsOut
        refine ⟨fun u W hb hd K hK => ?_, ?_⟩
        · simp only [Facts, nthR, Is, and_true] at hd
          simp only [hd] at hK ⊢
          clear hd
          go_simp
          apply hK
          · simp only [Act.put, List.setIfInBounds_toArray, List.set_cons_zero, List.set_cons_succ]
            exact rfl
          · exact Below.refl _ _
          · exact IsOut
        refine ⟨fun u W hb hd K hK => ?_, ?_⟩
        · simp only [Facts, nthR, Is, and_true] at hd
          simp only [hd] at hK ⊢
          clear hd
          go_simp
          apply hK
          · simp only [Act.put, List.setIfInBounds_toArray, List.set_cons_zero, List.set_cons_succ]
            exact rfl
          · exact Below.refl _ _
          · exact IsOut
        refine ⟨fun u W hb hd K hK => ?_, ?_⟩
        · simp only [Facts, nthR, Is, and_true] at hd
          simp only [hd] at hK ⊢
          clear hd
          go_simp
          apply hK
          · simp only [Act.put, List.setIfInBounds_toArray, List.set_cons_zero, List.set_cons_succ]
            exact rfl
          · exact Below.refl _ _
          · exact IsOut
        refine ⟨fun u W hb hd K hK => ?_, ?_⟩
        · clear hd
          go_simp
          apply hK
          · simp only [Act.put, List.setIfInBounds_toArray, List.set_cons_zero, List.set_cons_succ]
            exact rfl
          · exact Below.refl _ _
          · exact IsOut
        refine ⟨fun u W hb hd K hK => ?_, ?_⟩
        · simp only [Facts, nthR, Is, and_true] at hd
          simp only [hd] at hK ⊢
          clear hd
          go_simp
          apply hK
          · simp only [Act.put, List.setIfInBounds_toArray, List.set_cons_zero, List.set_cons_succ]
            exact rfl
          · exact Below.refl _ _
          · exact IsOut
        refine ⟨fun u W hb hd K hK => ?_, ?_⟩
        · simp only [Facts, nthR, Is, and_true] at hd
          simp only [hd] at hK ⊢
          clear hd
          go_simp
          apply hK
          · simp only [Act.put, List.setIfInBounds_toArray, List.set_cons_zero, List.set_cons_succ]
            exact rfl
          · exact Below.refl _ _
          · exact IsOut
        refine ⟨fun u W hb hd K hK => ?_, ?_⟩
        · simp only [Facts, nthR, Is, and_true] at hd
          simp only [hd] at hK ⊢
          clear hd
          go_simp
          apply hK
          · simp only [Act.put, List.setIfInBounds_toArray, List.set_cons_zero, List.set_cons_succ]
            exact rfl
          · exact Below.refl _ _
          · exact IsOut
        refine ⟨fun u W hb hd K hK => ?_, ?_⟩
        · simp only [Facts, nthR, Is, and_true] at hd
          simp only [hd] at hK ⊢
          clear hd
          go_simp
          apply hK
          · simp only [Act.put, List.setIfInBounds_toArray, List.set_cons_zero, List.set_cons_succ]
            exact rfl
          · exact Below.refl _ _
          · exact IsOut
        refine ⟨fun u W hb hd K hK => ?_, ?_⟩
        · simp only [Facts, nthR, Is, and_true] at hd
          simp only [hd] at hK ⊢
          clear hd
          go_simp
          apply hK
          · simp only [Act.put, List.setIfInBounds_toArray, List.set_cons_zero, List.set_cons_succ]
            exact rfl
          · exact Below.refl _ _
          · exact IsOut
        refine ⟨fun u W hb hd K hK => ?_, ?_⟩
        · clear hd
          go_simp
          apply hK
          · simp only [Act.put, List.setIfInBounds_toArray, List.set_cons_zero, List.set_cons_succ]
            exact rfl
          · exact Below.refl _ _
          · exact IsOut
        refine ⟨fun u W hb hd K hK => ?_, ?_⟩
        · simp only [Facts, nthR, Is, and_true] at hd
          simp only [hd] at hK ⊢
          clear hd
          go_simp
          apply hK
          · simp only [Act.put, List.setIfInBounds_toArray, List.set_cons_zero, List.set_cons_succ]
            exact rfl
          · exact Below.refl _ _
          · exact IsOut
        refine ⟨fun u W hb hd K hK => ?_, ?_⟩
        · simp only [Facts, nthR, Is, and_true] at hd
          simp only [hd] at hK ⊢
          clear hd
          go_simp
          apply hK
          · simp only [Act.put, List.setIfInBounds_toArray, List.set_cons_zero, List.set_cons_succ]
            exact rfl
          · exact Below.refl _ _
          · exact IsOut
        refine ⟨fun u W hb hd K hK => ?_, ?_⟩
        · simp only [Facts, nthR, Is, and_true] at hd
          simp only [hd] at hK ⊢
          clear hd
          go_simp
          apply hK
          · simp only [Act.put, List.setIfInBounds_toArray, List.set_cons_zero, List.set_cons_succ]
            exact rfl
          · exact Below.refl _ _
          · exact IsOut
        refine ⟨fun u W hb hd K hK => ?_, ?_⟩
        · simp only [Facts, nthR, Is, and_true] at hd
          simp only [hd] at hK ⊢
          clear hd
          go_simp
          apply hK
          · simp only [Act.put, List.setIfInBounds_toArray, List.set_cons_zero, List.set_cons_succ]
            exact rfl
          · exact Below.refl _ _
          · exact IsOut
        refine ⟨fun u W hb hd K hK => ?_, ?_⟩
        · simp only [Facts, nthR, Is, and_true] at hd
          simp only [hd] at hK ⊢
          clear hd
          go_simp
          apply hK
          · simp only [Act.put, List.setIfInBounds_toArray, List.set_cons_zero, List.set_cons_succ]
            exact rfl
          · exact Below.refl _ _
          · exact IsOut
        refine ⟨fun u W hb hd K hK => ?_, ?_⟩
        · clear hd
          go_simp
          apply hK
          · simp only [Act.put, List.setIfInBounds_toArray, List.set_cons_zero, List.set_cons_succ]
            exact rfl
          · exact Below.refl _ _
          · exact IsOut
        refine ⟨fun u W hb hd K hK => ?_, ?_⟩
        · simp only [Facts, nthR, Is, and_true] at hd
          simp only [hd] at hK ⊢
          clear hd
          go_simp
          apply hK
          · simp only [Act.put, List.setIfInBounds_toArray, List.set_cons_zero, List.set_cons_succ]
            exact rfl
          · exact Below.refl _ _
          · exact IsOut
        refine ⟨fun u W hb hd K hK => ?_, ?_⟩
        · simp only [Facts, nthR, Is, and_true] at hd
          simp only [hd] at hK ⊢
          clear hd
          go_simp
          apply hK
          · simp only [Act.put, List.setIfInBounds_toArray, List.set_cons_zero, List.set_cons_succ]
            exact rfl
          · exact Below.refl _ _
          · exact IsOut
        refine ⟨fun u W hb hd K hK => ?_, ?_⟩
        · simp only [Facts, nthR, Is, and_true] at hd
          simp only [hd] at hK ⊢
          clear hd
          go_simp
          apply hK
          · simp only [Act.put, List.setIfInBounds_toArray, List.set_cons_zero, List.set_cons_succ]
            exact rfl
          · exact Below.refl _ _
          · exact IsOut
        refine ⟨fun u W hb hd K hK => ?_, ?_⟩
        · simp only [Facts, nthR, Is, and_true] at hd
          simp only [hd] at hK ⊢
          clear hd
          go_simp
          apply hK
          · simp only [Act.put, List.setIfInBounds_toArray, List.set_cons_zero, List.set_cons_succ]
            exact rfl
          · exact Below.refl _ _
          · exact IsOut
        refine ⟨fun u W hb hd K hK => ?_, ?_⟩
        · simp only [Facts, nthR, Is, and_true] at hd
          simp only [hd] at hK ⊢
          clear hd
          go_simp
          apply hK
          · simp only [Act.put, List.setIfInBounds_toArray, List.set_cons_zero, List.set_cons_succ]
            exact rfl
          · exact Below.refl _ _
          · exact IsOut
        refine ⟨fun u W hb hd K hK => ?_, ?_⟩
        · simp only [Facts, nthR, Is, and_true] at hd
          simp only [hd] at hK ⊢
          clear hd
          go_simp
          apply hK
          · simp only [Act.put, List.setIfInBounds_toArray, List.set_cons_zero, List.set_cons_succ]
            exact rfl
          · exact Below.refl _ _
          · exact IsOut
        exact trivial
      · skip
        exact trivial
      · exact (.is (.is (.is (.is (.is (.is (.is (.is (.is (.is (.is (.is (.is (.is (.is (.is (.is (.is (.is (.is (.is (.is (.is (.is .nil))))))))))))))))))))))))
      · intro u W hb5 hd
        simp only [List.drop_succ_cons, List.drop_zero]
        simp only [Facts, nthR, Is, and_true] at hd
        simp only [hd]
        replace hB := hB.below hb5 lB
        replace hbl := hbl.trans (hb5.mono hbl.size)
        clear hX
        have cf := hB.frozen k
        have cw := hB.at32 k (by rw [xTo_length]; omega)
        go_wp2
        go_roundw
        case rel =>
          refine ⟨k + 1, by omega, by go_num, ?_, hbl.setCell (by simp) _⟩
          rw [HL.out, leWord_eq, ← map_set32]
          exact hB.set_ k _
        case measure => simp [intOf]; omega
    · have hd : decide ((k : Int) < 16) = false := by simp; omega
      have hk16 : k = 16 := by omega
      replace hB : Blk wr w.heap.size 143 ((xTo bs 16).map U32) := hk16 ▸ hB
      replace hs := hs.below hbl hgs
      replace ht := ht.below hbl
      clear hlt hk hb hk16
      have XG : ∀ j, j < 16 → (xTo bs 16).getD j 0 = leWord bs j := fun j hj => xTo_getD bs 16 (by omega) j hj
      have XL := xTo_length bs 16
      obtain ⟨X, hX⟩ : ∃ X, X = xTo bs 16 := ⟨_, rfl⟩
      rw [← hX] at hB XG XL
      have HXG := Lib.hid XG
      have HXL := Lib.hid XL
      clear hX XG XL
      have c0 : wr.cell? ⟨g, 0, none⟩ = some (.int .u32 s.a.toNat) := hs.cell 0
      have c1 : wr.cell? ⟨g, 1, none⟩ = some (.int .u32 s.b.toNat) := hs.cell 1
      have c2 : wr.cell? ⟨g, 2, none⟩ = some (.int .u32 s.c.toNat) := hs.cell 2
      have c3 : wr.cell? ⟨g, 3, none⟩ = some (.int .u32 s.d.toNat) := hs.cell 3
      go_wp2
      go_quiet (fail)
      replace hs := hs.drewN nq
      replace hB := hB.drewN nq
      replace ht := ht.drewN nq
      replace hbl := below_drewN hbl nq
      clear c0 c1 c2 c3
      obtain ⟨w3, hw3⟩ : ∃ w3, w3 = wr.drewN nq := ⟨_, rfl⟩
      rw [← hw3] at hs hB ht hbl ⊢
      clear hw3 nq
      go_wp2
      have lB := hB.lt
      go_loopw [7, 8, 9, 10, 70] (fun va vb vc vd i wr => ∃ (k : Nat) (q : Qd), k ≤ 64 ∧ i = .int .i64 k ∧ va = .int .u32 q.a.toNat ∧ vb = .int .u32 q.b.toNat ∧ vc = .int .u32 q.c.toNat ∧ vd = .int .u32 q.d.toNat ∧ Hid (q = stepsQ bs k s) ∧ Blk wr g t (s.vals ++ R) ∧ Blk wr w.heap.size 143 (X.map U32) ∧ TabsQ wr ∧ Below w.heap.size w wr)
        (fun _ _ _ _ i _ => 64 - (intOf i).toNat)
      case atStart => exact ⟨0, s, by omega, rfl, rfl, rfl, rfl, rfl, (show _ = _ from rfl), hs, hB, ht, hbl⟩
      case round =>
        obtain ⟨k, q, hk, rfl, rfl, rfl, rfl, rfl, HQ, hs, hB, ht, hbl⟩ := hrel
        by_cases hlk : k < 64
        · have hd : decide ((k : Int) < 64) = true := by simp; omega
          have hat := atOf_lt k hlk
          have LA := Lib.hid hat
          have hst := shift_range ⟨k / 16 * 4 + k % 4, by omega⟩
          have ls := hs.lt
          have lB := hB.lt
          have hT := fun (V : World) (h : Below wr.heap.size wr V) => (show V.cell? ⟨1, k, none⟩ = some (.int .u32 (sineTab.getD k 0).toNat) ∧ V.cell? ⟨2, k / 16 * 4 + k % 4, none⟩ = some (.int .i64 ((shiftOf k : Nat) : Int)) ∧ V.cell? ⟨w.heap.size, atOf k, none⟩ = some (.int .u32 (leWord bs (atOf k)).toNat) from
            ⟨(ht.below h).sines k hlk, (ht.below h).shifts (k / 16 * 4 + k % 4) (by omega), by rw [← HXG.out _ LA.out]; exact (hB.below h lB).at32 (atOf k) (by rw [HXL.out]; exact LA.out)⟩)
          have HST : Hid (0 < shiftOf k ∧ shiftOf k < 32 ∧ bits .and .u64 (IntKind.u64.wrap ((shiftOf k : Nat) : Int)) 31 = ((shiftOf k : Nat) : Int)) := Lib.hid hst
          have ha1 : ((atOf k : Nat) : Int) < 16 := by omega
          have HS : Hid (stepsQ bs (k + 1) s = ⟨q.d, q.b + rotl (shiftOf k) (q.a + mixOf k q.b q.c q.d + sineTab.getD k 0 + leWord bs (atOf k)), q.b, q.c⟩) := Lib.hid (by
            show stepQ bs k (stepsQ bs k s) = _
            rw [← HQ.out]; rfl)
          have b0 : (0 : Int) ≤ (k : Int) := by omega
          have b1 : (k : Int) < 64 := by omega
          clear hst hat
          go_wp2_with (go_at_call 90; refine (step_any k q.b q.c q.d _ hlk).mono ?_; rintro e w' ⟨rfl, rfl⟩)
          generalize mixOf k q.b q.c q.d = mx at *
          generalize leWord bs (atOf k) = wd at *
          generalize atOf k = at_ at *
          generalize shiftOf k = sh at *
          generalize sineTab.getD k 0 = sn at *
          have b5 := shift_ix k hlk
          have b2 : ((k / 16 * 4 + k % 4 : Nat) : Int) < 16 := by omega
          generalize k / 16 * 4 + k % 4 = jj at *
          have q1 := w_add q.a mx
          have q2 := w_add (q.a + mx) sn
          have q3 := w_add (q.a + mx + sn) wd
          have RO := fun W => rotl_any (q.a + mx + sn + wd) (sh : Int) sh W HST.out.1 HST.out.2.1 HST.out.2.2
          apply wp_region_once (D := [[], [], [0, 1], [], [3], [3, 4], [0, 1, 2, 3, 4, 5], [], [7], [7, 8], [0, 1, 2, 3, 4, 5, 6, 7, 8, 9], [], [11], [11, 12], [], [14], [11, 12, 13, 14, 15], [11, 12, 13, 14, 15, 16], [11, 12, 13, 14, 15, 16, 17], [0, 1, 2, 3, 4, 5, 6, 7, 8, 9, 10, 11, 12, 13, 14, 15, 16, 17, 18], [0, 1, 2, 3, 4, 5, 6, 7, 8, 9, 10, 11, 12, 13, 14, 15, 16, 17, 18, 19]]) (J := [[], [], [0, 1], [], [3], [4], [2, 5], [], [7], [8], [6, 9], [], [11], [12], [], [14], [13, 15], [16], [17], [10, 18], [19]]) (Je := [20]) (Rs := [Is _, Is _, Is _, Is _, Is _, Is _, Is _, Is _, Is _, Is _, Is _, Is _, Is _, Is _, Is _, Is _, Is _, Is _, Is _, Is _, Is _])
          · kernel_rfl
          · kernel_rfl
          · kernel_rfl
          · kernel_rfl
          · kernel_rfl
          · kernel_rfl
          · intro u
            simp only [List.map_cons, List.map_nil, fillU, List.setIfInBounds_toArray, List.set_cons_zero, List.set_cons_succ, Nat.zero_add, Nat.reduceAdd]
            exact rfl
          · skip
            refine ⟨fun u W hb hd K hK => ?_, ?_⟩
            · clear hd
              go_simp
              apply hK
              · simp only [Act.put, List.setIfInBounds_toArray, List.set_cons_zero, List.set_cons_succ]
                exact rfl
              · exact Below.refl _ _
              · exact IsOut
            refine ⟨fun u W hb hd K hK => ?_, ?_⟩
            · clear hd
              go_simp
              apply hK
              · simp only [Act.put, List.setIfInBounds_toArray, List.set_cons_zero, List.set_cons_succ]
                exact rfl
              · exact Below.refl _ _
              · exact IsOut
            refine ⟨fun u W hb hd K hK => ?_, ?_⟩
            · simp only [Facts, nthR, Is, and_true] at hd
              simp only [hd] at hK ⊢
              clear hd
              go_simp
              apply hK
              · simp only [Act.put, List.setIfInBounds_toArray, List.set_cons_zero, List.set_cons_succ]
                exact rfl
              · exact Below.refl _ _
              · exact IsOut
            refine ⟨fun u W hb hd K hK => ?_, ?_⟩
            · clear hd
              go_simp
              apply hK
              · simp only [Act.put, List.setIfInBounds_toArray, List.set_cons_zero, List.set_cons_succ]
                exact rfl
              · exact Below.refl _ _
              · exact IsOut
            refine ⟨fun u W hb hd K hK => ?_, ?_⟩
            · simp only [Facts, nthR, Is, and_true] at hd
              simp only [hd] at hK ⊢
              clear hd
              go_simp
              apply hK
              · simp only [Act.put, List.setIfInBounds_toArray, List.set_cons_zero, List.set_cons_succ]
                exact rfl
              · exact Below.refl _ _
              · exact IsOut
            refine ⟨fun u W hb hd K hK => ?_, ?_⟩
            · simp only [Facts, nthR, Is, and_true] at hd
              simp only [hd] at hK ⊢
              clear hd
              go_simp
              apply hK
              · simp only [Act.put, List.setIfInBounds_toArray, List.set_cons_zero, List.set_cons_succ]
                exact rfl
              · exact Below.refl _ _
              · exact IsOut
            refine ⟨fun u W hb hd K hK => ?_, ?_⟩
            · simp only [Facts, nthR, Is, and_true] at hd
              simp only [hd] at hK ⊢
              clear hd
              go_simp
              apply hK
              · simp only [Act.put, List.setIfInBounds_toArray, List.set_cons_zero, List.set_cons_succ]
                exact rfl
              · exact Below.refl _ _
              · exact IsOut
            refine ⟨fun u W hb hd K hK => ?_, ?_⟩
            · clear hd
              go_simp
              apply hK
              · simp only [Act.put, List.setIfInBounds_toArray, List.set_cons_zero, List.set_cons_succ]
                exact rfl
              · exact Below.refl _ _
              · exact IsOut
            refine ⟨fun u W hb hd K hK => ?_, ?_⟩
            · simp only [Facts, nthR, Is, and_true] at hd
              simp only [hd] at hK ⊢
              clear hd
              go_simp
              apply hK
              · simp only [Act.put, List.setIfInBounds_toArray, List.set_cons_zero, List.set_cons_succ]
                exact rfl
              · exact Below.refl _ _
              · exact IsOut
            refine ⟨fun u W hb hd K hK => ?_, ?_⟩
            · simp only [Facts, nthR, Is, and_true] at hd
              simp only [hd] at hK ⊢
              clear hd
              go_simp
              apply hK
              · simp only [Act.put, List.setIfInBounds_toArray, List.set_cons_zero, List.set_cons_succ]
                exact rfl
              · exact Below.refl _ _
              · exact IsOut
            refine ⟨fun u W hb hd K hK => ?_, ?_⟩
            · simp only [Facts, nthR, Is, and_true] at hd
              simp only [hd] at hK ⊢
              clear hd
              go_simp
              apply hK
              · simp only [Act.put, List.setIfInBounds_toArray, List.set_cons_zero, List.set_cons_succ]
                exact rfl
              · exact Below.refl _ _
              · exact IsOut
            refine ⟨fun u W hb hd K hK => ?_, ?_⟩
            · clear hd
              go_simp
              apply hK
              · simp only [Act.put, List.setIfInBounds_toArray, List.set_cons_zero, List.set_cons_succ]
                exact rfl
              · exact Below.refl _ _
              · exact IsOut
            refine ⟨fun u W hb hd K hK => ?_, ?_⟩
            · simp only [Facts, nthR, Is, and_true] at hd
              simp only [hd] at hK ⊢
              clear hd
              go_simp
              apply hK
              · simp only [Act.put, List.setIfInBounds_toArray, List.set_cons_zero, List.set_cons_succ]
                exact rfl
              · exact Below.refl _ _
              · exact IsOut
            refine ⟨fun u W hb hd K hK => ?_, ?_⟩
            · simp only [Facts, nthR, Is, and_true] at hd
              simp only [hd] at hK ⊢
              clear hd
              go_simp
              apply hK
              · simp only [Act.put, List.setIfInBounds_toArray, List.set_cons_zero, List.set_cons_succ]
                exact rfl
              · exact Below.refl _ _
              · exact IsOut
            refine ⟨fun u W hb hd K hK => ?_, ?_⟩
            · clear hd
              go_simp
              apply hK
              · simp only [Act.put, List.setIfInBounds_toArray, List.set_cons_zero, List.set_cons_succ]
                exact rfl
              · exact Below.refl _ _
              · exact IsOut
            refine ⟨fun u W hb hd K hK => ?_, ?_⟩
            · simp only [Facts, nthR, Is, and_true] at hd
              simp only [hd] at hK ⊢
              clear hd
              go_simp
              apply hK
              · simp only [Act.put, List.setIfInBounds_toArray, List.set_cons_zero, List.set_cons_succ]
                exact rfl
              · exact Below.refl _ _
              · exact IsOut
            refine ⟨fun u W hb hd K hK => ?_, ?_⟩
            · simp only [Facts, nthR, Is, and_true] at hd
              simp only [hd] at hK ⊢
              clear hd
              go_simp
              apply hK
              · simp only [Act.put, List.setIfInBounds_toArray, List.set_cons_zero, List.set_cons_succ]
                exact rfl
              · exact Below.refl _ _
              · exact IsOut
            refine ⟨fun u W hb hd K hK => ?_, ?_⟩
            · simp only [Facts, nthR, Is, and_true] at hd
              simp only [hd] at hK ⊢
              clear hd
              go_simp
              apply hK
              · simp only [Act.put, List.setIfInBounds_toArray, List.set_cons_zero, List.set_cons_succ]
                exact rfl
              · exact Below.refl _ _
              · exact IsOut
            refine ⟨fun u W hb hd K hK => ?_, ?_⟩
            · simp only [Facts, nthR, Is, and_true] at hd
              simp only [hd] at hK ⊢
              clear hd
              go_simp
              apply hK
              · simp only [Act.put, List.setIfInBounds_toArray, List.set_cons_zero, List.set_cons_succ]
                exact rfl
              · exact Below.refl _ _
              · exact IsOut
            refine ⟨fun u W hb hd K hK => ?_, ?_⟩
            · simp only [Facts, nthR, Is, and_true] at hd
              simp only [hd] at hK ⊢
              clear hd
              go_simp
              refine (RO W).mono ?_
              rintro e wy ⟨rfl, rfl⟩
              exact hK _ _ _ rfl (Below.refl _ _) IsOut
            refine ⟨fun u W hb hd K hK => ?_, ?_⟩
            · simp only [Facts, nthR, Is, and_true] at hd
              simp only [hd] at hK ⊢
              clear hd
              go_simp
              apply hK
              · simp only [Act.put, List.setIfInBounds_toArray, List.set_cons_zero, List.set_cons_succ]
                exact rfl
              · exact Below.refl _ _
              · exact IsOut
            exact trivial
          · exact (.is (.is (.is (.is (.is (.is (.is (.is (.is (.is (.is (.is (.is (.is (.is (.is (.is (.is (.is (.is (.is .nil)))))))))))))))))))))
          · intro u W hb hd
            simp only [Facts, nthR, Is, and_true] at hd
            simp only [hd]
            replace hs := hs.below hb ls
            replace hB := hB.below hb lB
            replace ht := ht.below hb
            replace hbl := hbl.trans (hb.mono hbl.size)
            clear hT hb q1 q2 q3 RO b2 b5
            have q4 := w_add q.b (rotl sh (q.a + mx + sn + wd))
            go_wp2
            go_roundw
            case rel => exact ⟨k + 1, _, by omega, by go_num, rfl, rfl, rfl, rfl, HS.out.symm, hs, hB, ht, hbl⟩
            case measure => simp [intOf]; omega
        · have hd : decide ((k : Int) < 64) = false := by simp; omega
          have hC : compQ s bs = addQ s q := by
            unfold compQ
            rw [HQ.out, show k = 64 by omega]
          have HC := Lib.hid hC
          have hg3 := grown_of_below hbl (some g)
          clear hC HQ hB ht hk hlk hbl HXG HXL
          go_wp2
          replace hs : Blk wr g t ([U32 s.a, U32 s.b, U32 s.c, U32 s.d] ++ R) := hs
          have c : wr.cell? ⟨g, 0, none⟩ = some (.int .u32 s.a.toNat) := hs.cell 0
          have f := hs.frozen 0
          go_still_tail 10, (by kernel_rfl)
          change wpList _ _ _ _ _ wr.drew
          go_wp2
          clear c f
          replace hs : Blk (wr.setCell ⟨g, 0, none⟩ (.int .u32 (((s.a.toNat : Int) + (q.a.toNat : Int)) % 4294967296))).drew g t (([U32 s.a, U32 s.b, U32 s.c, U32 s.d] ++ R).set 0 (.int .u32 (((s.a.toNat : Int) + (q.a.toNat : Int)) % 4294967296))) := (hs.set_ 0 _).drew
          replace hg3 := grown_drew (grown_setCell hg3 (p := ⟨g, 0, none⟩) (.inl rfl) (.int .u32 (((s.a.toNat : Int) + (q.a.toNat : Int)) % 4294967296)))
          generalize (wr.setCell ⟨g, 0, none⟩ (.int .u32 (((s.a.toNat : Int) + (q.a.toNat : Int)) % 4294967296))).drew = wr at *
          rw [w_add] at hs
          replace hs : Blk wr g t ([U32 (s.a + q.a), U32 s.b, U32 s.c, U32 s.d] ++ R) := hs
          have c : wr.cell? ⟨g, 1, none⟩ = some (.int .u32 s.b.toNat) := hs.cell 1
          have f := hs.frozen 1
          go_still_tail 10, (by kernel_rfl)
          change wpList _ _ _ _ _ wr.drew
          go_wp2
          clear c f
          replace hs : Blk (wr.setCell ⟨g, 1, none⟩ (.int .u32 (((s.b.toNat : Int) + (q.b.toNat : Int)) % 4294967296))).drew g t (([U32 (s.a + q.a), U32 s.b, U32 s.c, U32 s.d] ++ R).set 1 (.int .u32 (((s.b.toNat : Int) + (q.b.toNat : Int)) % 4294967296))) := (hs.set_ 1 _).drew
          replace hg3 := grown_drew (grown_setCell hg3 (p := ⟨g, 1, none⟩) (.inl rfl) (.int .u32 (((s.b.toNat : Int) + (q.b.toNat : Int)) % 4294967296)))
          generalize (wr.setCell ⟨g, 1, none⟩ (.int .u32 (((s.b.toNat : Int) + (q.b.toNat : Int)) % 4294967296))).drew = wr at *
          rw [w_add] at hs
          replace hs : Blk wr g t ([U32 (s.a + q.a), U32 (s.b + q.b), U32 s.c, U32 s.d] ++ R) := hs
          have c : wr.cell? ⟨g, 2, none⟩ = some (.int .u32 s.c.toNat) := hs.cell 2
          have f := hs.frozen 2
          go_still_tail 10, (by kernel_rfl)
          change wpList _ _ _ _ _ wr.drew
          go_wp2
          clear c f
          replace hs : Blk (wr.setCell ⟨g, 2, none⟩ (.int .u32 (((s.c.toNat : Int) + (q.c.toNat : Int)) % 4294967296))).drew g t (([U32 (s.a + q.a), U32 (s.b + q.b), U32 s.c, U32 s.d] ++ R).set 2 (.int .u32 (((s.c.toNat : Int) + (q.c.toNat : Int)) % 4294967296))) := (hs.set_ 2 _).drew
          replace hg3 := grown_drew (grown_setCell hg3 (p := ⟨g, 2, none⟩) (.inl rfl) (.int .u32 (((s.c.toNat : Int) + (q.c.toNat : Int)) % 4294967296)))
          generalize (wr.setCell ⟨g, 2, none⟩ (.int .u32 (((s.c.toNat : Int) + (q.c.toNat : Int)) % 4294967296))).drew = wr at *
          rw [w_add] at hs
          replace hs : Blk wr g t ([U32 (s.a + q.a), U32 (s.b + q.b), U32 (s.c + q.c), U32 s.d] ++ R) := hs
          have c : wr.cell? ⟨g, 3, none⟩ = some (.int .u32 s.d.toNat) := hs.cell 3
          have f := hs.frozen 3
          go_still_tail 10, (by kernel_rfl)
          change wpList _ _ _ _ _ wr.drew
          go_wp2
          clear c f
          replace hs : Blk (wr.setCell ⟨g, 3, none⟩ (.int .u32 (((s.d.toNat : Int) + (q.d.toNat : Int)) % 4294967296))).drew g t (([U32 (s.a + q.a), U32 (s.b + q.b), U32 (s.c + q.c), U32 s.d] ++ R).set 3 (.int .u32 (((s.d.toNat : Int) + (q.d.toNat : Int)) % 4294967296))) := (hs.set_ 3 _).drew
          replace hg3 := grown_drew (grown_setCell hg3 (p := ⟨g, 3, none⟩) (.inl rfl) (.int .u32 (((s.d.toNat : Int) + (q.d.toNat : Int)) % 4294967296)))
          generalize (wr.setCell ⟨g, 3, none⟩ (.int .u32 (((s.d.toNat : Int) + (q.d.toNat : Int)) % 4294967296))).drew = wr at *
          rw [w_add] at hs
          replace hs : Blk wr g t ([U32 (s.a + q.a), U32 (s.b + q.b), U32 (s.c + q.c), U32 (s.d + q.d)] ++ R) := hs
          go_end0
          exact ⟨rfl, by rw [HC.out]; exact hs, hg3⟩

end
section
open Go.RowKit
set_option maxRecDepth 100000 in
set_option maxHeartbeats 1000000 in
theorem qput_zero (g cap : Nat) (A : Option Addr) (t : TypeId) (s : Qd) (R b : List UInt8) (n : Nat) (w : World) (hR : R.length = 64) (hn : n + b.length < 1099511627776) (h0 : n % 64 = 0)
    (hbc : b.length ≤ cap) (hcm : cap ≤ 9223372036854775807) (hA : Src w g A b) (hs : Blk w g t (sqCells s R n)) (ht : TabsQ w) (hg0 : g ≠ 1) (hg1 : g ≠ 2) :
    Calls Tryd.prog 73 #[.pointer (some ⟨g, 0, none⟩), .slice A b.length cap] w fun e w' => e = .returned (.tuple #[]) ∧ w.grownBy w' (some g) ∧
      ∃ R', R'.length = 64 ∧ R'.take ((n + b.length) % 64) = left b ∧ Blk w' g t (sqCells (blocksQ s b) R' (n + b.length)) := by
  have HRL := Lib.hid hR
  have c68 : w.cell? ⟨g, 68, none⟩ = some (.int .u64 (n : Int)) := (hs.cell 68).trans (sqCells_68 s R n hR)
  have f68 := hs.frozen 68
  have hh : (n : Int) % 64 = 0 := by omega
  go_enter Tryd.func73, Tryd.ntmps73
  go_wp2
  clear hh
  have hg : w.grownBy (w.setCell ⟨g, 68, none⟩ (.int .u64 ((n : Int) + (b.length : Int)))) (some g) := grown_setCell (grown_refl w _) (.inl rfl) _
  replace hs : Blk (w.setCell ⟨g, 68, none⟩ (.int .u64 ((n : Int) + (b.length : Int)))) g t ((sqCells s R n).set 68 (.int .u64 ((n : Int) + (b.length : Int)))) := hs.set_ 68 _
  replace ht := ht.grown hg hg0 hg1
  replace hA := hA.keep hg
  clear c68 f68
  generalize w.setCell ⟨g, 68, none⟩ (.int .u64 ((n : Int) + (b.length : Int))) = w1 at *
  rw [show (n : Int) + (b.length : Int) = ((n + b.length : Nat) : Int) from by omega, sqCells_set68 _ _ _ _ hR] at hs
  go_loopw [1] (fun v wr => ∃ (A' : Option Addr) (c : Nat) (ys : List UInt8) (q : Qd), v = .slice A' ys.length c ∧ ys.length ≤ c ∧ c ≤ 9223372036854775807 ∧ Hid (blocksQ q ys = blocksQ s b ∧ left ys = left b) ∧ Src wr g A' ys ∧ Blk wr g t (sqCells q R (n + b.length)) ∧ TabsQ wr ∧ w.grownBy wr (some g)) (fun v _ => lenOf v)
  case atStart => exact ⟨A, cap, b, s, rfl, hbc, hcm, show _ ∧ _ from ⟨rfl, rfl⟩, hA, hs, ht, hg⟩
  case round =>
    obtain ⟨A', c, ys, q, rfl, hyc, hcm', HB, hA', hs', ht', hg'⟩ := hrel
    by_cases h64 : 64 ≤ ys.length
    · have hd : decide ((64 : Int) ≤ (ys.length : Int)) = true := by simp; omega
      obtain ⟨gb, ob, rfl, hne, hby⟩ := hA' (by omega)
      have HS := Lib.hid (blocksQ_step q ys h64)
      have HL := Lib.hid (left_step ys h64)
      clear hA'
      have a1 : 64 ≤ c := by omega
      have a2 : (64 : Int) ≤ (c : Int) := by omega
      rcases Decidable.em (c = 64) with rfl | hc
      · go_wp2_with fail
        refine (qturn_any g gb ob _ t q (R.map B8 ++ [.int .u64 ((n + b.length : Nat) : Int)]) (ys.take 64) _ (by rw [List.length_take]; omega) (by omega) hcm' (hby.take 64) hs' ht').mono ?_
        rintro e w2 ⟨rfl, hs2, hg2⟩
        have hby2 := Src.drop64 (g := g) (fun j hj => (World.cell?_of_block (w := wr) (a := ⟨gb, ob + j, none⟩) (hg2.block gb (hby.lt (by omega)) (by simp; omega))).trans (hby j hj)) hne 64 _ h64 hyc
        go_wp2
        go_roundw
        case rel =>
          refine ⟨_, 0, ys.drop 64, compQ q (ys.take 64), ?_, by rw [List.length_drop]; omega, by omega, show _ ∧ _ from ⟨HS.out ▸ HB.out.1, HL.out ▸ HB.out.2⟩, hby2, hs2, ht'.grown hg2 hg0 hg1, grown_trans hg' hg2⟩
          simp [*]
        case measure => simp [lenOf]; omega
      · go_wp2_with fail
        refine (qturn_any g gb ob _ t q (R.map B8 ++ [.int .u64 ((n + b.length : Nat) : Int)]) (ys.take 64) _ (by rw [List.length_take]; omega) (by omega) hcm' (hby.take 64) hs' ht').mono ?_
        rintro e w2 ⟨rfl, hs2, hg2⟩
        have hby2 := Src.drop64 (g := g) (fun j hj => (World.cell?_of_block (w := wr) (a := ⟨gb, ob + j, none⟩) (hg2.block gb (hby.lt (by omega)) (by simp; omega))).trans (hby j hj)) hne 64 _ h64 hyc
        go_wp2
        go_roundw
        case rel =>
          refine ⟨_, (c - 64), ys.drop 64, compQ q (ys.take 64), ?_, by rw [List.length_drop]; omega, by omega, show _ ∧ _ from ⟨HS.out ▸ HB.out.1, HL.out ▸ HB.out.2⟩, hby2, hs2, ht'.grown hg2 hg0 hg1, grown_trans hg' hg2⟩
          simp [*]
        case measure => simp [lenOf]; omega
    · have hd : decide ((64 : Int) ≤ (ys.length : Int)) = false := by simp; omega
      have HP : Hid (0 < (ys.map B8).length → (some (⟨g, 4, none⟩ : Addr)) = some ⟨g, 4, none⟩ ∧ ∃ gb ob, A' = some ⟨gb, ob, none⟩ ∧ ∀ j v, (ys.map B8)[j]? = some v → wr.cell? ⟨gb, ob + j, none⟩ = some v) := Src.cells hA'
      go_wp2_with (with_reducible refine wpList_copy_blk rfl (.tmp 56) (.tmp 57) 26 26 rfl 5 Tryd.underlying26 info8 _ _ _ _ _ _ rfl rfl g 4 _ t hs' (ys.map B8) (by rw [List.length_map]; exact (Nat.min_eq_left (by omega)).symm) HP.out (by rw [sqCells_length _ _ _ HRL.out, List.length_map]; omega) (oneB8 _) ?_; intro w' hs2 hg2)
      go_wp2
      go_end0
      have e1 := sqCells_splice q R ys (n + b.length) 0 HRL.out (by omega)
      have e2 := HB.out.1
      have e3 := HB.out.2
      rw [blocksQ_short _ _ (by omega)] at e2
      rw [left_short _ (by omega)] at e3
      refine ⟨rfl, grown_trans hg' hg2, splice R 0 ys, by rw [splice_length _ _ _ (by rw [HRL.out]; omega), HRL.out], ?_, ?_⟩
      · have h := splice_take R 0 ys (by omega)
        have hl : (n + b.length) % 64 = 0 + ys.length := by
          have := congrArg List.length e3
          rw [left_length] at this
          omega
        rw [hl, h]
        simpa using e3
      · rw [← e2, ← e1]; exact hs2

set_option maxRecDepth 100000 in
set_option maxHeartbeats 1000000 in
theorem qput_short (g cap : Nat) (A : Option Addr) (t : TypeId) (s : Qd) (R b : List UInt8) (n h : Nat) (w : World) (hR : R.length = 64) (hn : n + b.length < 1099511627776) (h0 : n % 64 = h) (hp : 0 < h) (hsh : h + b.length < 64)
    (hbc : b.length ≤ cap) (hcm : cap ≤ 9223372036854775807) (hA : Src w g A b) (hs : Blk w g t (sqCells s R n)) :
    Calls Tryd.prog 73 #[.pointer (some ⟨g, 0, none⟩), .slice A b.length cap] w fun e w' => e = .returned (.tuple #[]) ∧ w.grownBy w' (some g) ∧
      Blk w' g t (sqCells s (splice R h b) (n + b.length)) := by
  have HRL := Lib.hid hR
  have c68 : w.cell? ⟨g, 68, none⟩ = some (.int .u64 (n : Int)) := (hs.cell 68).trans (sqCells_68 s R n hR)
  have f68 := hs.frozen 68
  have hh : (n : Int) % 64 = (h : Int) := by omega
  have hp' : (0 : Int) < (h : Int) := by omega
  have hp2 : (h : Int) ≤ 64 := by omega
  have hp3 : ¬ 64 = h := by omega
  have hd5 : decide ((h : Int) + (b.length : Int) < 64) = true := by simp; omega
  clear h0
  have hg : w.grownBy (w.setCell ⟨g, 68, none⟩ (.int .u64 ((n : Int) + (b.length : Int)))) (some g) := grown_setCell (grown_refl w _) (.inl rfl) _
  have hs1 : Blk (w.setCell ⟨g, 68, none⟩ (.int .u64 ((n : Int) + (b.length : Int)))) g t ((sqCells s R n).set 68 (.int .u64 ((n : Int) + (b.length : Int)))) := hs.set_ 68 _
  rw [show (sqCells s R n).set 68 (.int .u64 ((n : Int) + (b.length : Int))) = sqCells s R (n + b.length) from by rw [show (n : Int) + (b.length : Int) = ((n + b.length : Nat) : Int) from by omega, sqCells_set68 _ _ _ _ hR]] at hs1
  have hA1 := hA.keep hg
  have hl : ((64 : Int) - (h : Int)).toNat = 64 - h := by omega
  have HP : Hid (0 < (b.map B8).length → (some (⟨g, 4 + h, none⟩ : Addr)) = some ⟨g, 4 + h, none⟩ ∧ ∃ gb ob, A = some ⟨gb, ob, none⟩ ∧ ∀ j v, (b.map B8)[j]? = some v → (w.setCell ⟨g, 68, none⟩ (.int .u64 ((n : Int) + (b.length : Int)))).cell? ⟨gb, ob + j, none⟩ = some v) := Src.cells hA1
  go_enter Tryd.func73, Tryd.ntmps73
  go_wp2_with (with_reducible refine wpList_copy_blk rfl (.tmp 28) (.tmp 29) 26 26 rfl 5 Tryd.underlying26 info8 _ _ _ _ _ _ rfl rfl g (4 + h) _ t hs1 (b.map B8) (by rw [List.length_map]; exact (Nat.min_eq_left (by omega)).symm) HP.out (by rw [sqCells_length _ _ _ HRL.out, List.length_map]; omega) (oneB8 _) ?_; intro w' hs2 hg2)
  refine bodyPost_ret (results_none rfl _ _ _) rfl ?_
  rw [sqCells_splice _ _ _ _ _ HRL.out (by omega)] at hs2
  exact ⟨rfl, grown_trans hg hg2, hs2⟩

set_option maxRecDepth 100000 in
set_option maxHeartbeats 2000000 in
theorem qput_more (g gb ob cap : Nat) (t : TypeId) (s : Qd) (R p r : List UInt8) (n h k : Nat) (w : World) (hR : R.length = 64) (hn : n + (k + r.length) < 1099511627776) (h0 : n % 64 = h) (hp : 0 < h) (hk : h + k = 64) (hpl : p.length = k)
    (hbc : k + r.length ≤ cap) (hcm : cap ≤ 9223372036854775807) (hne : gb ≠ g) (hby : Bytes w gb ob (p ++ r)) (hs : Blk w g t (sqCells s R n)) (ht : TabsQ w) (hg0 : g ≠ 1) (hg1 : g ≠ 2) :
    Calls Tryd.prog 73 #[.pointer (some ⟨g, 0, none⟩), .slice (some ⟨gb, ob, none⟩) (k + r.length) cap] w fun e w' => e = .returned (.tuple #[]) ∧ w.grownBy w' (some g) ∧
      ∃ R', R'.length = 64 ∧ R'.take ((n + (k + r.length)) % 64) = left r ∧ Blk w' g t (sqCells (blocksQ (compQ s (R.take h ++ p)) r) R' (n + (k + r.length))) := by
  have HRL := Lib.hid hR
  have HPL := Lib.hid hpl
  have HRL1 : Hid ((R.take h ++ p).length = 64) := (show _ = _ by rw [List.length_append, List.length_take]; omega)
  have c68 : w.cell? ⟨g, 68, none⟩ = some (.int .u64 (n : Int)) := (hs.cell 68).trans (sqCells_68 s R n hR)
  have f68 := hs.frozen 68
  have hh : (n : Int) % 64 = (h : Int) := by omega
  have hp' : (0 : Int) < (h : Int) := by omega
  have hp2 : (h : Int) ≤ 64 := by omega
  have hp3 : ¬ 64 = h := by omega
  have hd5 : decide ((h : Int) + (k : Int) < 64) = false := by simp; omega
  have hg : w.grownBy (w.setCell ⟨g, 68, none⟩ (.int .u64 ((n : Int) + ((k : Int) + (r.length : Int))))) (some g) := grown_setCell (grown_refl w _) (.inl rfl) _
  have hs1 : Blk (w.setCell ⟨g, 68, none⟩ (.int .u64 ((n : Int) + ((k : Int) + (r.length : Int))))) g t ((sqCells s R n).set 68 (.int .u64 ((n : Int) + ((k : Int) + (r.length : Int))))) := hs.set_ 68 _
  rw [show (sqCells s R n).set 68 (.int .u64 ((n : Int) + ((k : Int) + (r.length : Int)))) = sqCells s R (n + (k + r.length)) from by rw [show (n : Int) + ((k : Int) + (r.length : Int)) = ((n + (k + r.length) : Nat) : Int) from by omega, sqCells_set68 _ _ _ _ hR]] at hs1
  have ht1 := ht.grown hg hg0 hg1
  have hA1 : Src (w.setCell ⟨g, 68, none⟩ (.int .u64 ((n : Int) + ((k : Int) + (r.length : Int))))) g (some ⟨gb, ob, none⟩) (p ++ r) := Src.keep (fun _ => ⟨gb, ob, rfl, hne, hby⟩) hg
  have hbr : (p ++ r).length = k + r.length := by rw [List.length_append, hpl]
  have HP : Hid (0 < (p.map B8).length → (some (⟨g, 4 + h, none⟩ : Addr)) = some ⟨g, 4 + h, none⟩ ∧ ∃ gb' ob', (some (⟨gb, ob, none⟩ : Addr)) = some ⟨gb', ob', none⟩ ∧ ∀ j v, (p.map B8)[j]? = some v → (w.setCell ⟨g, 68, none⟩ (.int .u64 ((n : Int) + ((k : Int) + (r.length : Int))))).cell? ⟨gb', ob' + j, none⟩ = some v) :=
    Src.cells (g := g) (fun h1 => by
      obtain ⟨gb', ob', e, hne', hb'⟩ := hA1 (by omega)
      have := hb'.take p.length
      rw [List.take_left] at this
      exact ⟨gb', ob', e, hne', this⟩)
  have hby1 := fun (j : Nat) (hj : j < (p ++ r).length) => (World.cell?_of_block (w := w) (a := ⟨gb, ob + j, none⟩) (hg.block gb (hby.lt (by omega)) (by simp; omega))).trans (hby j hj)
  have HK := Lib.hid hk
  have HBR := Lib.hid hbr
  have HH0 := Lib.hid h0
  have hk6 : k ≤ 64 := by omega
  clear h0 hA1 hk hbr hby hs ht hR
  go_enter Tryd.func73, Tryd.ntmps73
  go_wp2_with (with_reducible refine wpList_copy_blk rfl (.tmp 28) (.tmp 29) 26 26 rfl 5 Tryd.underlying26 info8 _ _ _ _ _ _ rfl rfl g (4 + h) _ t hs1 (p.map B8) (by rw [List.length_map, HPL.out]; show _ = min _ _; have := HK.out; omega) HP.out (by rw [sqCells_length _ _ _ HRL.out, List.length_map, HPL.out]; have := HK.out; omega) (oneB8 _) ?_; intro w2 hs2 hg2)
  clear hpl hd5
  rw [sqCells_splice _ _ _ _ _ HRL.out (by rw [HPL.out]; have := HK.out; omega)] at hs2
  have e1 : splice R h p = R.take h ++ p := by
    rw [splice_eq, List.drop_eq_nil_of_le (by rw [HRL.out, HPL.out]; have := HK.out; omega), List.append_nil]
  rw [e1] at hs2
  have ht2 := ht1.grown hg2 hg0 hg1
  have hgA := grown_trans hg hg2
  have hlt0 : gb < (w.setCell ⟨g, 68, none⟩ (.int .u64 ((n : Int) + ((k : Int) + (r.length : Int))))).heap.size := block_lt_of_cell (hby1 0 (by have := HBR.out; have := HK.out; omega))
  have hby2 : Bytes w2 gb ob (p ++ r) := fun j hj => (World.cell?_of_block (a := ⟨gb, ob + j, none⟩) (hg2.block gb hlt0 (by simp; omega))).trans (hby1 j hj)
  clear hg2 ht1 hs1 hby1 hg c68 f68 HP hh e1 hlt0
  refine (qturn_any g g 4 64 t s ((R.take h ++ p).map B8 ++ [.int .u64 ((n + (k + r.length) : Nat) : Int)]) (R.take h ++ p) _ HRL1.out (by omega) (by omega) hs2.restQ hs2 ht2).mono ?_
  rintro e w3 ⟨rfl, hs3, hg3⟩
  have hby3 : Bytes w3 gb ob (p ++ r) := fun j hj => (World.cell?_of_block (w := w2) (a := ⟨gb, ob + j, none⟩) (hg3.block gb (hby2.lt (by have := HBR.out; have := HK.out; omega)) (by simp; omega))).trans (hby2 j hj)
  have ht3 := ht2.grown hg3 hg0 hg1
  have hgB := grown_trans hgA hg3
  have hA3 := Src.drop64 hby3 hne k cap (by rw [HBR.out]; omega) (by rw [HBR.out]; exact hbc)
  have e2 : (p ++ r).drop k = r := by rw [← HPL.out, List.drop_left]
  rw [e2] at hA3
  replace hs3 : Blk w3 g t (sqCells (compQ s (R.take h ++ p)) (R.take h ++ p) (n + (k + r.length))) := hs3
  clear hs2 hg3 hgA ht2 hby2 hby3 e2 HBR HPL
  obtain ⟨AA, hAA⟩ : ∃ AA, AA = (if cap = k then some (⟨gb, ob, none⟩ : Addr) else some ⟨gb, ob + k, none⟩) := ⟨_, rfl⟩
  rw [← hAA] at hA3
  have hk1 : (k : Int) ≤ (k : Int) + (r.length : Int) := by omega
  have hsl : ∀ W, (Instr.slice 26 (.slice (some ⟨gb, ob, none⟩) (k + r.length) cap) (some (.int .i64 (k : Int))) none none).run Tryd.prog W = .ok (.slice AA r.length (cap - k)) W := fun W => by
    rw [hAA]
    by_cases hc : cap = k
    · subst hc
      obtain rfl : r = [] := List.eq_nil_of_length_eq_zero (by omega)
      go_simp
    · go_simp
  clear hAA
  go_wp2
  clear hsl
  go_loopw [1] (fun v wr => ∃ (A' : Option Addr) (c : Nat) (ys : List UInt8) (q : Qd), v = .slice A' ys.length c ∧ ys.length ≤ c ∧ c ≤ 9223372036854775807 ∧ Hid (blocksQ q ys = blocksQ (compQ s (R.take h ++ p)) r ∧ left ys = left r) ∧ Src wr g A' ys ∧ Blk wr g t (sqCells q (R.take h ++ p) (n + (k + r.length))) ∧ TabsQ wr ∧ w.grownBy wr (some g)) (fun v _ => lenOf v)
  case atStart => exact ⟨AA, cap - k, r, compQ s (R.take h ++ p), rfl, by omega, by omega, show _ ∧ _ from ⟨rfl, rfl⟩, hA3, hs3, ht3, hgB⟩
  case round =>
    obtain ⟨A', c, ys, q, rfl, hyc, hcm', HB, hA', hs', ht', hg'⟩ := hrel
    by_cases h64 : 64 ≤ ys.length
    · have hd : decide ((64 : Int) ≤ (ys.length : Int)) = true := by simp; omega
      obtain ⟨gb, ob, rfl, hne, hby⟩ := hA' (by omega)
      have HS := Lib.hid (blocksQ_step q ys h64)
      have HL := Lib.hid (left_step ys h64)
      clear hA'
      have a1 : 64 ≤ c := by omega
      have a2 : (64 : Int) ≤ (c : Int) := by omega
      rcases Decidable.em (c = 64) with rfl | hc
      · go_wp2_with fail
        refine (qturn_any g gb ob _ t q ((R.take h ++ p).map B8 ++ [.int .u64 ((n + (k + r.length) : Nat) : Int)]) (ys.take 64) _ (by rw [List.length_take]; omega) (by omega) hcm' (hby.take 64) hs' ht').mono ?_
        rintro e w2 ⟨rfl, hs2, hg2⟩
        have hby2 := Src.drop64 (g := g) (fun j hj => (World.cell?_of_block (w := wr) (a := ⟨gb, ob + j, none⟩) (hg2.block gb (hby.lt (by omega)) (by simp; omega))).trans (hby j hj)) hne 64 _ h64 hyc
        go_wp2
        go_roundw
        case rel =>
          refine ⟨_, 0, ys.drop 64, compQ q (ys.take 64), ?_, by rw [List.length_drop]; omega, by omega, show _ ∧ _ from ⟨HS.out ▸ HB.out.1, HL.out ▸ HB.out.2⟩, hby2, hs2, ht'.grown hg2 hg0 hg1, grown_trans hg' hg2⟩
          simp [*]
        case measure => simp [lenOf]; omega
      · go_wp2_with fail
        refine (qturn_any g gb ob _ t q ((R.take h ++ p).map B8 ++ [.int .u64 ((n + (k + r.length) : Nat) : Int)]) (ys.take 64) _ (by rw [List.length_take]; omega) (by omega) hcm' (hby.take 64) hs' ht').mono ?_
        rintro e w2 ⟨rfl, hs2, hg2⟩
        have hby2 := Src.drop64 (g := g) (fun j hj => (World.cell?_of_block (w := wr) (a := ⟨gb, ob + j, none⟩) (hg2.block gb (hby.lt (by omega)) (by simp; omega))).trans (hby j hj)) hne 64 _ h64 hyc
        go_wp2
        go_roundw
        case rel =>
          refine ⟨_, (c - 64), ys.drop 64, compQ q (ys.take 64), ?_, by rw [List.length_drop]; omega, by omega, show _ ∧ _ from ⟨HS.out ▸ HB.out.1, HL.out ▸ HB.out.2⟩, hby2, hs2, ht'.grown hg2 hg0 hg1, grown_trans hg' hg2⟩
          simp [*]
        case measure => simp [lenOf]; omega
    · have hd : decide ((64 : Int) ≤ (ys.length : Int)) = false := by simp; omega
      have HP : Hid (0 < (ys.map B8).length → (some (⟨g, 4, none⟩ : Addr)) = some ⟨g, 4, none⟩ ∧ ∃ gb ob, A' = some ⟨gb, ob, none⟩ ∧ ∀ j v, (ys.map B8)[j]? = some v → wr.cell? ⟨gb, ob + j, none⟩ = some v) := Src.cells hA'
      go_wp2_with (with_reducible refine wpList_copy_blk rfl (.tmp 56) (.tmp 57) 26 26 rfl 5 Tryd.underlying26 info8 _ _ _ _ _ _ rfl rfl g 4 _ t hs' (ys.map B8) (by rw [List.length_map]; exact (Nat.min_eq_left (by omega)).symm) HP.out (by rw [sqCells_length _ _ _ HRL1.out, List.length_map]; omega) (oneB8 _) ?_; intro w' hs2 hg2)
      go_wp2
      go_end0
      have e1 := sqCells_splice q (R.take h ++ p) ys (n + (k + r.length)) 0 HRL1.out (by omega)
      have e2 := HB.out.1
      have e3 := HB.out.2
      rw [blocksQ_short _ _ (by omega)] at e2
      rw [left_short _ (by omega)] at e3
      refine ⟨rfl, grown_trans hg' hg2, splice (R.take h ++ p) 0 ys, by rw [splice_length _ _ _ (by rw [HRL1.out]; omega), HRL1.out], ?_, ?_⟩
      · have h := splice_take (R.take h ++ p) 0 ys (by omega)
        have hl : (n + (k + r.length)) % 64 = 0 + ys.length := by
          have h3 := congrArg List.length e3
          rw [left_length] at h3
          have h1 := HK.out
          have h2 := HH0.out
          omega
        rw [hl, h]
        simpa using e3
      · rw [← e2, ← e1]; exact hs2

/-- Block g holds a state to which just the bytes m were put. -/
def HeldQ (w : World) (g : Nat) (t : TypeId) (m : List UInt8) : Prop :=
  ∃ R : List UInt8, R.length = 64 ∧ R.take (m.length % 64) = left m ∧ Blk w g t (sqCells (blocksQ firstQ m) R m.length)

theorem qput_any (g cap : Nat) (A : Option Addr) (t : TypeId) (m b : List UInt8) (w : World) (hn : m.length + b.length < 1099511627776)
    (hbc : b.length ≤ cap) (hcm : cap ≤ 9223372036854775807) (hA : Src w g A b) (hh : HeldQ w g t m) (ht : TabsQ w) (hg0 : g ≠ 1) (hg1 : g ≠ 2) :
    Calls Tryd.prog 73 #[.pointer (some ⟨g, 0, none⟩), .slice A b.length cap] w fun e w' => e = .returned (.tuple #[]) ∧ w.grownBy w' (some g) ∧ HeldQ w' g t (m ++ b) := by
  obtain ⟨R, hR, hL, hs⟩ := hh
  have hll := left_length m
  have hml : (m ++ b).length = m.length + b.length := List.length_append
  rcases Nat.eq_zero_or_pos (m.length % 64) with h0 | hp
  · have hl0 : left m = [] := List.eq_nil_of_length_eq_zero (by omega)
    refine (qput_zero g cap A t (blocksQ firstQ m) R b m.length w hR hn h0 hbc hcm hA hs ht hg0 hg1).mono fun e w' ⟨he, hg, R', hR', hL', hs'⟩ => ⟨he, hg, R', hR', ?_, ?_⟩
    · rw [hml, hL', left_append, hl0, List.nil_append]
    · rw [blocksQ_append, hl0, List.nil_append, hml]; exact hs'
  · by_cases hsh : m.length % 64 + b.length < 64
    · refine (qput_short g cap A t (blocksQ firstQ m) R b m.length (m.length % 64) w hR hn rfl hp hsh hbc hcm hA hs).mono fun e w' ⟨he, hg, hs'⟩ => ⟨he, hg, splice R (m.length % 64) b, by rw [splice_length _ _ _ (by omega), hR], ?_, ?_⟩
      · have e1 : (m ++ b).length % 64 = m.length % 64 + b.length := by rw [hml]; omega
        rw [e1, splice_take _ _ _ (by omega), hL, left_append, left_short (left m ++ b) (by rw [List.length_append]; omega)]
      · rw [blocksQ_append, blocksQ_short _ (left m ++ b) (by rw [List.length_append]; omega), hml]; exact hs'
    · obtain ⟨gb, ob, rfl, hne, hby⟩ := hA (by omega)
      obtain ⟨k, hk⟩ : ∃ k, m.length % 64 + k = 64 := ⟨64 - m.length % 64, by omega⟩
      have hpl : (b.take k).length = k := by rw [List.length_take]; omega
      have hbl : b.length = k + (b.drop k).length := by rw [List.length_drop]; omega
      have hb : b = b.take k ++ b.drop k := (List.take_append_drop k b).symm
      rw [hb] at hby
      rw [hbl] at hbc hn ⊢
      refine (qput_more g gb ob cap t (blocksQ firstQ m) R (b.take k) (b.drop k) m.length (m.length % 64) k w hR hn rfl hp hk hpl hbc hcm hne hby hs ht hg0 hg1).mono fun e w' ⟨he, hg, R', hR', hL', hs'⟩ => ⟨he, hg, R', hR', ?_, ?_⟩
      all_goals
        have e3 : (left m ++ b).take 64 = left m ++ b.take k := by
          rw [List.take_append, List.take_of_length_le (by omega), hll, show 64 - m.length % 64 = k by omega]
        have e4 : (left m ++ b).drop 64 = b.drop k := by
          rw [List.drop_append, List.drop_eq_nil_of_le (by omega), hll, show 64 - m.length % 64 = k by omega, List.nil_append]
      · rw [hml, hbl, hL', left_append, left_step (left m ++ b) (by rw [List.length_append]; omega), e4]
      · rw [blocksQ_append, blocksQ_step _ (left m ++ b) (by rw [List.length_append]; omega), e3, e4, hml, hbl, ← hL]; exact hs'

end
section
open Go.RowKit
theorem infoH : (Tryd.prog.info? 22).map (·.size) = some 16 := by kernel_rfl
theorem indexQ (s : Qd) (k : Nat) (h : k < 4) (W : World) : (Instr.index 120 (.agg #[.int .u32 s.a.toNat, .int .u32 s.b.toNat, .int .u32 s.c.toNat, .int .u32 s.d.toNat]) (.int .i64 (k : Int))).run Tryd.prog W = .ok (.int .u32 (([s.a, s.b, s.c, s.d] : List UInt32).getD k 0).toNat) W := by
  obtain rfl | rfl | rfl | rfl : k = 0 ∨ k = 1 ∨ k = 2 ∨ k = 3 := by omega
  · kernel_rfl
  · kernel_rfl
  · kernel_rfl
  · kernel_rfl
/-- The bytes of the words, the lowest first, after k of them. -/
def bytesQTo (ws : List UInt32) : Nat → List UInt8
  | 0 => List.replicate 16 0
  | k + 1 => ((((bytesQTo ws k).set (4 * k) (ws.getD k 0).toUInt8).set (4 * k + 1) ((ws.getD k 0) >>> 8).toUInt8).set (4 * k + 2) ((ws.getD k 0) >>> 16).toUInt8).set (4 * k + 3) ((ws.getD k 0) >>> 24).toUInt8
theorem bytesQTo_length (ws : List UInt32) (k : Nat) : (bytesQTo ws k).length = 16 := by
  induction k with
  | zero => simp [bytesQTo]
  | succ k ih => simp [bytesQTo, ih]
theorem bytesQTo_all (s : Qd) : bytesQTo [s.a, s.b, s.c, s.d] 4 = bytesQ s := by
  simp [bytesQTo, bytesQ, leBytes4, List.replicate]
/-- A count's bytes, the lowest first, so many. -/
def leTo (c : Nat) : Nat → List UInt8
  | 0 => []
  | k + 1 => leTo c k ++ [UInt8.ofNat (c / 2 ^ (8 * k))]
theorem leTo_length (c : Nat) : ∀ k, (leTo c k).length = k
  | 0 => rfl
  | k + 1 => by rw [leTo, List.length_append, leTo_length c k]; rfl
theorem leTo_eight (c : Nat) : leTo c 8 = le8 c := by
  simp only [leTo, le8, be8, List.nil_append, List.cons_append, List.reverse_cons, List.reverse_nil, Nat.mul_zero, Nat.reduceMul, Nat.reducePow, Nat.div_one]
theorem w_shr8k (c k : Nat) : (Value.int .u8 (((c : Int) / 2 ^ (8 * k)) % 256)) = B8 (UInt8.ofNat (c / 2 ^ (8 * k))) := by
  show Value.int .u8 _ = Value.int .u8 _
  congr 1
theorem begun_any (w : World) : Calls Tryd.prog 72 #[] w fun e w' => e = .returned (.pointer (some ⟨w.heap.size, 0, none⟩)) ∧ HeldQ w' w.heap.size 135 [] ∧ Below w.heap.size w w' := by
  have hz : ∀ W : World, (zeroValue 135).run Tryd.prog W = .ok (.agg (sqCells ⟨0, 0, 0, 0⟩ (List.replicate 64 0) 0).toArray) W := fun W => by kernel_rfl
  go_enter Tryd.func72, Tryd.ntmps72
  go_wp2
  go_ret
  exact ⟨rfl, ⟨List.replicate 64 0, by simp, rfl, Blk.new_of w _ _ _ (by rfl)⟩, (Below.refl _ _).alloc (Nat.le_refl _) _⟩
theorem padQ_length (n : Nat) : (padQ n).length = 9 + (119 - n % 64) % 64 := by
  simp [padQ, le8, be8]; omega
theorem fresh_pair (w : World) (X Y : Obj) : Below w.heap.size w ((w.alloc X).alloc Y) := ((Below.refl _ _).alloc (Nat.le_refl _) _).alloc (by simp) _
set_option maxRecDepth 100000 in
set_option maxHeartbeats 2000000 in
theorem qend_any (g : Nat) (t : TypeId) (m : List UInt8) (w : World) (hn : m.length < 549755813888) (hh : HeldQ w g t m) (ht : TabsQ w) (hg0 : g ≠ 1) (hg1 : g ≠ 2) :
    Calls Tryd.prog 74 #[.pointer (some ⟨g, 0, none⟩)] w fun e w' => e = .returned (.agg ((md5 m).map B8).toArray) ∧ w.grownBy w' (some g) := by
  obtain ⟨R, hR, hL, hs⟩ := hh
  have hlt := hs.lt
  have HR := Lib.hid hR
  obtain ⟨n, hnn⟩ : ∃ n, n = m.length := ⟨_, rfl⟩
  rw [← hnn] at hn hs hL
  have HNN := Lib.hid hnn
  clear hnn
  have c68 : w.cell? ⟨g, 68, none⟩ = some (.int .u64 (n : Int)) := (hs.cell 68).trans (sqCells_68 _ R n hR)
  obtain ⟨z, hz⟩ : ∃ z, z = (119 - n % 64) % 64 := ⟨_, rfl⟩
  have HPAD : Hid (padQ n = 128 :: List.replicate z 0 ++ leTo (n * 8) 8) := Lib.hid (by rw [leTo_eight, hz]; rfl)
  have z1 : ((119 : Int) - (n : Int) % 64) % 64 = (z : Int) := by omega
  have z2 : ((119 : Int) - (n : Int)) % 64 = (z : Int) := by omega
  have hz64 : z < 64 := by omega
  have hmk : ∀ W, (Instr.makeSlice 26 (.int .u64 (1 + (z : Int))) (.int .u64 (1 + (z : Int) + 8))).run Tryd.prog W = .ok (.slice (some ⟨W.heap.size, 0, none⟩) (1 + z) (1 + z + 8)) (W.alloc (.cells ((List.replicate (1 + z + 8) (0 : UInt8)).map B8).toArray 5)) := fun W => by
    have h := run_make_bytes .u64 .u64 (1 + z) (1 + z + 8) (by omega) (by omega) W
    rw [← one_plus8, ← one_plus] at h
    exact h
  have hown : ∀ W : World, Own (W.alloc (.cells ((Array.replicate (1 + z + 8) (B8 0)).setIfInBounds 0 (.int .u8 128)) 5)) W.heap.size (.slice (some ⟨W.heap.size, 0, none⟩) (1 + z) (1 + z + 8)) (128 :: List.replicate z 0) := fun W => by
    refine Own.made _ W.heap.size (1 + z) (1 + z + 8) _ (List.replicate 8 0) (Blk.new_of W _ _ _ ?_) (by simp; omega) (by simp; omega) (by simp only [maxLen]; omega) _ (Nat.le_refl _)
    apply Array.toList_inj.1
    have e : List.replicate (z + 8) (B8 0) = List.replicate z (B8 0) ++ List.replicate 8 (B8 0) := (List.replicate_append_replicate).symm
    rw [show 1 + z + 8 = (z + 8) + 1 by omega]
    simp only [Array.toList_setIfInBounds, Array.toList_replicate, List.replicate_succ (n := z + 8), List.set_cons_zero, e, List.map_append, List.map_cons, List.map_replicate, List.cons_append]
    rfl
  have hbsl : (128 :: List.replicate z (0 : UInt8)).length < 100 := by simp; omega
  clear hz
  go_enter Tryd.func74, Tryd.ntmps74
  go_wp2
  clear hmk
  simp only [z1]
  clear z1 z2
  obtain ⟨c, hc⟩ : ∃ c : Nat, c = n * 8 := ⟨_, rfl⟩
  rw [← hc] at HPAD
  have hci : (n : Int) * 8 = (c : Int) := by omega
  simp only [hci]
  clear hci hc c68
  have hown1 := hown (w.alloc (.cells ((List.replicate 16 (0 : UInt8)).map B8).toArray 22))
  clear hown
  rw [show (w.alloc (.cells ((List.replicate 16 (0 : UInt8)).map B8).toArray 22)).heap.size = w.heap.size + 1 by simp] at hown1
  have hw1 : (w.alloc (.cells ((List.replicate 16 (0 : UInt8)).map B8).toArray 22)) = w.alloc (.cells #[.int .u8 0, .int .u8 0, .int .u8 0, .int .u8 0, .int .u8 0, .int .u8 0, .int .u8 0, .int .u8 0, .int .u8 0, .int .u8 0, .int .u8 0, .int .u8 0, .int .u8 0, .int .u8 0, .int .u8 0, .int .u8 0] 22) := by rfl
  have hA0 := (Blk.new_of w 22 _ ((List.replicate 16 (0 : UInt8)).map B8) rfl).alloc (.cells ((Array.replicate (1 + z + 8) (B8 0)).setIfInBounds 0 (.int .u8 128)) 5)
  have hs0 := (hs.alloc (.cells ((List.replicate 16 (0 : UInt8)).map B8).toArray 22)).alloc (.cells ((Array.replicate (1 + z + 8) (B8 0)).setIfInBounds 0 (.int .u8 128)) 5)
  have hb0 := fresh_pair w (.cells ((List.replicate 16 (0 : UInt8)).map B8).toArray 22) (.cells ((Array.replicate (1 + z + 8) (B8 0)).setIfInBounds 0 (.int .u8 128)) 5)
  rw [hw1] at hA0 hs0 hown1 hb0
  clear hw1 hs
  generalize (w.alloc (.cells #[.int .u8 0, .int .u8 0, .int .u8 0, .int .u8 0, .int .u8 0, .int .u8 0, .int .u8 0, .int .u8 0, .int .u8 0, .int .u8 0, .int .u8 0, .int .u8 0, .int .u8 0, .int .u8 0, .int .u8 0, .int .u8 0] 22)).alloc (.cells ((Array.replicate (1 + z + 8) (B8 0)).setIfInBounds 0 (.int .u8 128)) 5) = w1 at *
  generalize hb1e : (128 :: List.replicate z (0 : UInt8)) = b0 at *
  have HB0 := Lib.hid hb1e
  clear hb1e
  generalize hcs : sqCells (blocksQ firstQ m) R n = cs at *
  have HCS := Lib.hid hcs
  clear hcs
  go_loopw [5, 6] (fun v i wr => ∃ k : Nat, k ≤ 8 ∧ i = .int .i64 (8 * (k : Int)) ∧ Own wr (w.heap.size + 1) v (b0 ++ leTo c k) ∧ Blk wr w.heap.size 22 ((List.replicate 16 (0 : UInt8)).map B8) ∧ Blk wr g t cs ∧ Below w.heap.size w wr) (fun _ i _ => 64 - (intOf i).toNat)
  case atStart => exact ⟨0, by omega, rfl, by rw [show leTo c 0 = [] from rfl, List.append_nil]; exact hown1, hA0, hs0, hb0⟩
  case round =>
    obtain ⟨k, hk, rfl, hown, hA, hs, hb⟩ := hrel
    clear hown1 hA0 hs0 hb0
    have lA := hA.lt
    by_cases hlt : k < 8
    · have hd : decide (8 * (k : Int) < 64) = true := by simp; omega
      have HL : Hid (leTo c (k + 1) = leTo c k ++ [UInt8.ofNat (c / 2 ^ (8 * k))]) := Lib.hid rfl
      have hll := leTo_length c k
      have HD := Lib.hid (show (b0 ++ leTo c k).length ≤ 1099511627776 by rw [List.length_append]; omega)
      have HW := Lib.hid (w_shr8k c k)
      have h8 : 0 ≤ 8 * (k : Int) := by omega
      have h9 : 8 * (k : Int) < 64 := by omega
      have h10 : (8 * (k : Int)).toNat = 8 * k := by omega
      clear hll
      go_wp2_with (at_builtin; refine wpList_append_byte rfl (.tmp 34) (.tmp 39) rfl (w.heap.size + 1) _ _ rfl (hown.alloc _) _ (UInt8.ofNat (c / 2 ^ (8 * k))) rfl (by refine (new_cell _ _ _).trans ?_; exact congrArg some HW.out) HD.out (le_alloc (by omega) _) ?_; intro v1 w' hown' hb' _)
      go_roundw
      case rel =>
        exact ⟨k + 1, by omega, by go_num, by rw [HL.out, ← List.append_assoc]; exact hown', (hA.alloc _).below hb' (by omega), (hs.alloc _).below hb' (by omega), (hb.alloc hb.size _).trans (hb'.mono (by omega))⟩
      case measure => simp [intOf]; omega
    · have hd : decide (8 * (k : Int) < 64) = false := by simp; omega
      obtain rfl : k = 8 := by omega
      clear hd hlt hk
      obtain ⟨A, ca, rfl, hAc, hcm, hsrc⟩ := hown.slice
      have hsz := hb.size
      have hsr := hsrc g (by omega)
      rw [← HPAD.out] at hsr hAc ⊢
      clear hsrc hown
      have hh : HeldQ wr g t m := ⟨R, HR.out, by rw [← HNN.out]; exact hL, by rw [← HNN.out, HCS.out]; exact hs⟩
      have hpl := padQ_length n
      have hmn := HNN.out
      have P := qput_any g ca A t m (padQ n) wr (by omega) hAc hcm hsr hh (ht.below hb) hg0 hg1
      clear hpl hmn hh hsr hs hL
      generalize hpd : padQ n = pd at *
      have HPD := Lib.hid hpd
      clear hpd
      go_wp2_with fail
      refine P.mono ?_
      rintro e w2 ⟨rfl, hg2, hh2⟩
      replace hA := hA.grown hg2 (fun h => by have := Option.some.inj h; omega)
      have hgw := grown_trans (grown_of_below hb (some g)) hg2
      clear P hg2 hb
      obtain ⟨R2, _, _, hs2⟩ := hh2
      have HQ := Lib.hid (show blocksQ firstQ (m ++ pd) = blocksQ firstQ (m ++ pd) from rfl)
      clear HQ
      generalize hq : blocksQ firstQ (m ++ pd) = q at *
      have HQ := Lib.hid hq
      clear hq
      have c0 : ∀ ob : Obj, (w2.alloc ob).cell? ⟨g, 0, none⟩ = some (.int .u32 q.a.toNat) := fun ob => (hs2.alloc ob).cell 0
      have c1 : ∀ ob : Obj, (w2.alloc ob).cell? ⟨g, 1, none⟩ = some (.int .u32 q.b.toNat) := fun ob => (hs2.alloc ob).cell 1
      have c2 : ∀ ob : Obj, (w2.alloc ob).cell? ⟨g, 2, none⟩ = some (.int .u32 q.c.toNat) := fun ob => (hs2.alloc ob).cell 2
      have c3 : ∀ ob : Obj, (w2.alloc ob).cell? ⟨g, 3, none⟩ = some (.int .u32 q.d.toNat) := fun ob => (hs2.alloc ob).cell 3
      have l2 := hA.lt
      have lg2 := hs2.lt
      go_wp2
      have hB0 := Blk.new_of w2 22 #[.int .u8 0, .int .u8 0, .int .u8 0, .int .u8 0, .int .u8 0, .int .u8 0, .int .u8 0, .int .u8 0, .int .u8 0, .int .u8 0, .int .u8 0, .int .u8 0, .int .u8 0, .int .u8 0, .int .u8 0, .int .u8 0] ((List.replicate 16 (0 : UInt8)).map B8) rfl
      replace hA := hA.alloc (.cells #[.int .u8 0, .int .u8 0, .int .u8 0, .int .u8 0, .int .u8 0, .int .u8 0, .int .u8 0, .int .u8 0, .int .u8 0, .int .u8 0, .int .u8 0, .int .u8 0, .int .u8 0, .int .u8 0, .int .u8 0, .int .u8 0] 22)
      replace hgw := grown_alloc hgw (.cells #[.int .u8 0, .int .u8 0, .int .u8 0, .int .u8 0, .int .u8 0, .int .u8 0, .int .u8 0, .int .u8 0, .int .u8 0, .int .u8 0, .int .u8 0, .int .u8 0, .int .u8 0, .int .u8 0, .int .u8 0, .int .u8 0] 22)
      have hsz2 : w.heap.size < w2.heap.size := l2
      clear c0 c1 c2 c3 hs2 lg2 l2
      generalize w2.alloc (.cells #[.int .u8 0, .int .u8 0, .int .u8 0, .int .u8 0, .int .u8 0, .int .u8 0, .int .u8 0, .int .u8 0, .int .u8 0, .int .u8 0, .int .u8 0, .int .u8 0, .int .u8 0, .int .u8 0, .int .u8 0, .int .u8 0] 22) = w3 at *
      generalize w2.heap.size = gB at *
      clear wr lA hsz
      go_loopw [48] (fun i wr => ∃ k : Nat, k ≤ 4 ∧ i = .int .i64 k ∧ Blk wr gB 22 ((bytesQTo [q.a, q.b, q.c, q.d] k).map B8) ∧ Blk wr w.heap.size 22 ((List.replicate 16 (0 : UInt8)).map B8) ∧ w.grownBy wr (some g)) (fun i _ => 4 - (intOf i).toNat)
      case atStart => exact ⟨0, by omega, rfl, hB0, hA, hgw⟩
      case round =>
        obtain ⟨k, hk, rfl, hB, hA, hgw⟩ := hrel
        by_cases hlt : k < 4
        · have hd : decide ((k : Int) < 4) = true := by simp; omega
          have hix := indexQ q k hlt
          obtain ⟨x, hx⟩ : ∃ x, x = ([q.a, q.b, q.c, q.d] : List UInt32).getD k 0 := ⟨_, rfl⟩
          rw [← hx] at hix
          have HX := Lib.hid hx
          clear hx
          have hl := bytesQTo_length [q.a, q.b, q.c, q.d] k
          have c0 := hB.at8 (4 * k) (by omega)
          have c1 := fun X => (cell_past wr gB (4 * k) (4 * k + 1) (by omega) X).trans (hB.at8 (4 * k + 1) (by omega))
          have c2 := fun X Y => (cell_past (wr.setCell ⟨gB, 4 * k, none⟩ X) gB (4 * k + 1) (4 * k + 2) (by omega) Y).trans ((cell_past wr _ (4 * k) (4 * k + 2) (by omega) X).trans (hB.at8 (4 * k + 2) (by omega)))
          have c3 := fun X Y Z => (cell_past ((wr.setCell ⟨gB, 4 * k, none⟩ X).setCell ⟨gB, 4 * k + 1, none⟩ Y) gB (4 * k + 2) (4 * k + 3) (by omega) Z).trans ((cell_past (wr.setCell ⟨gB, 4 * k, none⟩ X) _ (4 * k + 1) (4 * k + 3) (by omega) Y).trans ((cell_past wr _ (4 * k) (4 * k + 3) (by omega) X).trans (hB.at8 (4 * k + 3) (by omega))))
          have f0 := hB.frozen (4 * k)
          have f1 := hB.frozen (4 * k + 1)
          have f2 := hB.frozen (4 * k + 2)
          have f3 := hB.frozen (4 * k + 3)
          clear hl
          go_wp2
          go_roundw
          case rel =>
            have e : bytesQTo [q.a, q.b, q.c, q.d] (k + 1) = ((((bytesQTo [q.a, q.b, q.c, q.d] k).set (4 * k) x.toUInt8).set (4 * k + 1) (x >>> 8).toUInt8).set (4 * k + 2) (x >>> 16).toUInt8).set (4 * k + 3) (x >>> 24).toUInt8 := by rw [HX.out]; rfl
            refine ⟨k + 1, by omega, by go_num, ?_, ?_, ?_⟩
            · rw [e, w_byte24, w_byte16, w_byte8, w_byte0, ← map_set8, ← map_set8, ← map_set8, ← map_set8]
              exact (((hB.set_ _ _).set_ _ _).set_ _ _).set_ _ _
            · exact (((hA.far (by simp; omega) _).far (by simp; omega) _).far (by simp; omega) _).far (by simp; omega) _
            · exact grown_setCell (grown_setCell (grown_setCell (grown_setCell hgw (.inr (by simp; omega)) _) (.inr (by simp; omega)) _) (.inr (by simp; omega)) _) (.inr (by simp; omega)) _
          case measure => simp [intOf]; omega
        · have hd : decide ((k : Int) < 4) = false := by simp; omega
          obtain rfl : k = 4 := by omega
          rw [bytesQTo_all] at hB
          have hfin : bytesQ q = md5 m := by
            rw [← HQ.out, ← HPD.out, HNN.out]; rfl
          have hb16 : (bytesQ q).length = 16 := rfl
          rw [hfin] at hB
          have hl16 := md5_length m
          obtain ⟨dm, hdm⟩ : ∃ dm, dm = md5 m := ⟨_, rfl⟩
          rw [← hdm] at hB hl16
          have HDM := Lib.hid hdm
          clear hdm hfin hb16
          go_wp2_with (first
            | (refine wpList_load_blk rfl 22 (.tmp 7) rfl gB rfl 22 _ _ hB Tryd.underlying22 rfl (infoH.trans (by simp [hl16])) ?_)
            | (refine wpList_store_blk rfl 22 (.tmp 2) (.tmp 79) rfl rfl w.heap.size _ rfl rfl 22 _ hA (infoH.trans (by simp [hl16])) (by simp [hl16]) (one8 _) ?_; intro w5 hA5 hg5))
          refine bodyPost_ret (v := .agg _) (results_cell_row rfl _ _ w.heap.size 22 _ (0, 0) _ rfl hA5.raw Tryd.underlying22 rfl (infoH.trans (by simp [hl16]))) rfl ⟨by rw [← HDM.out], grown_new hgw hg5 (Nat.le_refl _)⟩

end
section
open Go.RowKit
set_option maxRecDepth 100000 in
set_option maxHeartbeats 1000000 in
theorem qOf_any (c : Nat) (A : Option Addr) (ps : List (List UInt8)) (w : World) (hn : ps.flatten.length < 549755813888) (hpc : ps.length ≤ c) (hcm : c ≤ 9223372036854775807)
    (hA : ∀ g, w.heap.size ≤ g → Parts w g A ps) (ht : TabsQ w) :
    Calls Tryd.prog 52 #[.slice A ps.length c] w fun e w' => e = .returned (.agg ((md5 ps.flatten).map B8).toArray) ∧ Below w.heap.size w w' := by
  have ht0 := ht.lt0
  have ht1 := ht.lt1
  go_enter Tryd.func52, Tryd.ntmps52
  go_wp2_with fail
  refine (begun_any _).mono ?_
  rintro e w1 ⟨rfl, hs1, hb1⟩
  have hb0 : Below w.heap.size w w1 := ((Below.refl _ _).alloc (Nat.le_refl _) _).trans (hb1.mono (by simp))
  have hA1 := ((Blk.new_of w 22 _ ((List.replicate 16 (0 : UInt8)).map B8) (by rfl))).below hb1 (by simp)
  rw [size_alloc] at hs1 ⊢
  have hsz1 : w.heap.size + 1 < w1.heap.size := by obtain ⟨_, _, _, h⟩ := hs1; exact h.lt
  have hP1 := (hA (w.heap.size + 1) (by omega)).keep (grown_of_below hb0 _)
  have ht2 := ht.below hb0
  clear hb1 ht
  go_wp2
  go_loopw [9] (fun i wr => ∃ k : Nat, k ≤ ps.length ∧ i = .int .i64 k ∧ HeldQ wr (w.heap.size + 1) 135 (ps.take k).flatten ∧ Parts wr (w.heap.size + 1) A ps ∧ TabsQ wr ∧ Blk wr w.heap.size 22 ((List.replicate 16 (0 : UInt8)).map B8) ∧ Below w.heap.size w wr) (fun i _ => ps.length - (intOf i).toNat)
  case atStart => exact ⟨0, by omega, rfl, hs1, hP1, ht2, hA1, hb0⟩
  case round =>
    obtain ⟨k, hk, rfl, hH', hA', ht', hR', hb'⟩ := hrel
    clear hs1 hP1 ht2 hA1 hb0
    by_cases hlt : k < ps.length
    · have hd : decide ((k : Int) < (ps.length : Int)) = true := by simp; omega
      obtain ⟨gp, op, rfl, hne, hj⟩ := hA' (by omega)
      obtain ⟨Aj, cj, hc, h1, h2, h3⟩ := hj k hlt
      have hfl : (ps.take (k + 1)).flatten = (ps.take k).flatten ++ ps.getD k [] := by
        rw [List.take_succ_eq_append_getElem hlt, List.flatten_append, List.getD_eq_getElem?_getD, List.getElem?_eq_getElem hlt]; simp
      have hle : (ps.take k).flatten.length + (ps.getD k []).length ≤ ps.flatten.length := by
        have h := congrArg List.length (congrArg List.flatten (List.take_append_drop (k + 1) ps))
        rw [List.flatten_append, List.length_append, hfl, List.length_append] at h
        omega
      obtain ⟨b, hb⟩ : ∃ b, b = ps.getD k [] := ⟨_, rfl⟩
      rw [← hb] at hc h1 h3 hfl hle
      have HF := Lib.hid hfl
      clear hfl hb hj
      have P := qput_any (w.heap.size + 1) cj Aj _ _ b wr (by omega) h1 h2 h3 hH' ht' (by omega) (by omega)
      go_wp2_with (go_at_call 73; with_reducible refine P.mono ?_; rintro e w2 ⟨rfl, hg2, hh2⟩)
      go_roundw
      case rel => exact ⟨k + 1, by omega, by go_num, by rw [HF.out]; exact hh2, hA'.keep hg2, ht'.grown hg2 (by omega) (by omega), hR'.grown hg2 (by simp), below_new hb' hg2 (by omega) hb'.size⟩
      case measure => simp [intOf]; omega
    · have hd : decide ((k : Int) < (ps.length : Int)) = false := by simp; omega
      rw [List.take_of_length_le (by omega)] at hH'
      have E := qend_any (w.heap.size + 1) 135 ps.flatten wr hn hH' ht' (by omega) (by omega)
      have hl16 := md5_length ps.flatten
      go_wp2_with (first
        | (go_at_call 74; refine E.mono ?_; rintro e w4 ⟨rfl, hg4⟩; have hA4 := hR'.grown hg4 (by simp); have hb4 := below_new hb' hg4 (by omega) hb'.size)
        | (refine wpList_store_blk rfl 22 (.tmp 2) (.tmp 18) rfl rfl w.heap.size _ rfl rfl 22 _ hA4 (infoH.trans (by simp [md5_length])) (by simp [md5_length]) (one8 _) ?_; intro w6 hA6 hg6))
      refine bodyPost_ret (v := .agg _) (results_cell_row rfl _ _ w.heap.size 22 _ (0, 0) _ rfl hA6.raw Tryd.underlying22 rfl (infoH.trans (by simp [md5_length]))) rfl ⟨rfl, below_new hb4 hg6 (Nat.le_refl _) hb4.size⟩
end
end Go.Proofs.YtbomckbekcaemaaDoor
