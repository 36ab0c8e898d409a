/-
  Plain mathematics, no program: whole blocks and what is left of a row of bytes; how a state of the sum lies in memory.
-/
import Derived.Test.YtefbjhdcmgonbaaMem
import Derived.Laws.CopyOwn
namespace Go.Proofs.Ytefbjhdcmgonbaa
open Go.RowKit

def foldB : Nat → St → List UInt8 → St
  | 0, s, _ => s
  | n + 1, s, m => foldB n (comp s (m.take 64)) (m.drop 64)
/-- What the whole blocks of m make of the words s. -/
def blocks (s : St) (m : List UInt8) : St := foldB (m.length / 64) s m
/-- What is left of m behind its whole blocks. -/
def left (m : List UInt8) : List UInt8 := m.drop (m.length / 64 * 64)

theorem blocks_short (s : St) (m : List UInt8) (h : m.length < 64) : blocks s m = s := by
  unfold blocks; rw [show m.length / 64 = 0 by omega]; rfl
theorem left_short (m : List UInt8) (h : m.length < 64) : left m = m := by
  unfold left; rw [show m.length / 64 = 0 by omega]; simp
theorem blocks_step (s : St) (m : List UInt8) (h : 64 ≤ m.length) : blocks s m = blocks (comp s (m.take 64)) (m.drop 64) := by
  unfold blocks
  rw [show m.length / 64 = (m.drop 64).length / 64 + 1 by simp; omega]
  rfl
theorem left_step (m : List UInt8) (h : 64 ≤ m.length) : left m = left (m.drop 64) := by
  unfold left
  rw [List.drop_drop, List.length_drop]
  congr 1; omega
theorem left_length (m : List UInt8) : (left m).length = m.length % 64 := by
  unfold left; rw [List.length_drop]; omega

theorem foldB_append (n : Nat) : ∀ (s : St) (x y : List UInt8), x.length = n * 64 → foldB (n + y.length / 64) s (x ++ y) = foldB (y.length / 64) (foldB n s x) y := by
  induction n with
  | zero =>
    intro s x y h
    have hx : x = [] := List.eq_nil_of_length_eq_zero (by omega)
    subst hx; simp [foldB]
  | succ n ih =>
    intro s x y h
    rw [show n + 1 + y.length / 64 = (n + y.length / 64) + 1 by omega]
    show foldB (n + y.length / 64) (comp s ((x ++ y).take 64)) ((x ++ y).drop 64) = foldB (y.length / 64) (foldB n (comp s (x.take 64)) (x.drop 64)) y
    rw [List.take_append_of_le_length (by omega), List.drop_append_of_le_length (by omega)]
    exact ih _ _ _ (by rw [List.length_drop]; omega)
/-- More bytes: the whole blocks of what was left and of the new ones go on from the words so far. -/
theorem blocks_append (s : St) (m b : List UInt8) : blocks s (m ++ b) = blocks (blocks s m) (left m ++ b) := by
  have e : m ++ b = m.take (m.length / 64 * 64) ++ (left m ++ b) := by
    unfold left; rw [← List.append_assoc, List.take_append_drop]
  have h1 : (m.take (m.length / 64 * 64)).length = m.length / 64 * 64 := by rw [List.length_take]; omega
  have h2 : blocks s m = foldB (m.length / 64) s (m.take (m.length / 64 * 64)) := by
    have h := foldB_append (m.length / 64) s (m.take (m.length / 64 * 64)) (left m) h1
    rw [left_length, show m.length % 64 / 64 = 0 by omega] at h
    unfold left at h
    rw [List.take_append_drop] at h
    unfold blocks
    simpa [foldB] using h
  have h3 := foldB_append (m.length / 64) s (m.take (m.length / 64 * 64)) (left m ++ b) h1
  rw [← e] at h3
  have h4 : (m ++ b).length / 64 = m.length / 64 + (left m ++ b).length / 64 := by
    rw [List.length_append, List.length_append, left_length]; omega
  rw [h2]
  unfold blocks
  rw [h4, h3]
theorem left_append (m b : List UInt8) : left (m ++ b) = left (left m ++ b) := by
  have h4 : (m ++ b).length / 64 = m.length / 64 + (left m ++ b).length / 64 := by
    rw [List.length_append, List.length_append, left_length]; omega
  have e : left m ++ b = (m ++ b).drop (m.length / 64 * 64) := by
    unfold left; rw [List.drop_append_of_le_length (by omega)]
  show (m ++ b).drop ((m ++ b).length / 64 * 64) = (left m ++ b).drop ((left m ++ b).length / 64 * 64)
  rw [h4]
  conv => rhs; rw [e, List.drop_drop]
  congr 1
  rw [← e]; omega

/-- How a state lies in its block: eight words, 64 bytes, the size. -/
def stCells (s : St) (R : List UInt8) (n : Nat) : List Value := s.vals ++ (R.map B8 ++ [.int .u64 (n : Int)])
theorem stCells_length (s : St) (R : List UInt8) (n : Nat) (h : R.length = 64) : (stCells s R n).length = 73 := by
  simp [stCells, St.vals, h]
theorem stCells_72 (s : St) (R : List UInt8) (n : Nat) (h : R.length = 64) : (stCells s R n)[72]? = some (.int .u64 (n : Int)) := by
  simp [stCells, St.vals, h]
theorem stCells_rest (s : St) (R : List UInt8) (n j : Nat) (hj : j < R.length) : (stCells s R n)[8 + j]? = some (B8 (R.getD j 0)) := by
  have h1 : (stCells s R n)[8 + j]? = (R.map B8 ++ [.int .u64 (n : Int)])[j]? := by
    unfold stCells
    rw [List.getElem?_append_right (by simp [St.vals])]
    simp [St.vals]
  rw [h1, List.getElem?_append_left (by simpa using hj)]
  exact getD_map8 R j hj
theorem stCells_set72 (s : St) (R : List UInt8) (n m : Nat) (h : R.length = 64) : (stCells s R n).set 72 (.int .u64 (m : Int)) = stCells s R m := by
  unfold stCells
  rw [List.set_append_right _ _ (by simp [St.vals])]
  rw [List.set_append_right _ _ (by simp [St.vals, h])]
  simp [St.vals, h]
theorem splice_eq {α : Type} (L : List α) (o : Nat) (cs : List α) : splice L o cs = L.take o ++ (cs ++ L.drop (o + cs.length)) := rfl
theorem stCells_splice (s : St) (R cs : List UInt8) (n h : Nat) (hR : R.length = 64) (hh : h + cs.length ≤ 64) :
    splice (stCells s R n) (8 + h) (cs.map B8) = stCells s (splice R h cs) n := by
  have e1 : (stCells s R n).take (8 + h) = s.vals ++ (R.take h).map B8 := by
    unfold stCells
    rw [List.take_append, List.take_of_length_le (by simp [St.vals]), List.take_append_of_le_length (by simp [St.vals, hR]; omega)]
    simp [St.vals, List.map_take]
  have e2 : (stCells s R n).drop (8 + h + cs.length) = (R.drop (h + cs.length)).map B8 ++ [.int .u64 (n : Int)] := by
    unfold stCells
    rw [List.drop_append, List.drop_eq_nil_of_le (by simp [St.vals]; omega), List.drop_append_of_le_length (by simp [St.vals, hR]; omega)]
    simp [St.vals, List.map_drop, show 8 + h + cs.length - 8 = h + cs.length by omega]
  rw [splice_eq, List.length_map, e1, e2]
  simp [stCells, splice_eq, List.append_assoc]
theorem splice_length {α : Type} (L : List α) (o : Nat) (cs : List α) (h : o + cs.length ≤ L.length) : (splice L o cs).length = L.length := length_splice L o cs h
theorem splice_take {α : Type} (L : List α) (o : Nat) (cs : List α) (h : o ≤ L.length) : (splice L o cs).take (o + cs.length) = L.take o ++ cs := by
  have e : o + cs.length = (L.take o ++ cs).length := by simp; omega
  rw [splice_eq, ← List.append_assoc, e, List.take_left]
theorem splice_nil {α : Type} (L : List α) (o : Nat) : splice L o [] = L := by simp [splice_eq]

/-- Bytes that are handed in, in another block than g: nil and empty rows are let in. -/
def Src (w : World) (g : Nat) (A : Option Addr) (xs : List UInt8) : Prop := 0 < xs.length → ∃ gb ob, A = some ⟨gb, ob, none⟩ ∧ gb ≠ g ∧ Bytes w gb ob xs
theorem Src.keep {w w' : World} {g : Nat} {A : Option Addr} {xs : List UInt8} (h : Src w g A xs) (hg : w.grownBy w' (some g)) : Src w' g A xs := fun h0 => by
  obtain ⟨gb, ob, e, hn, hb⟩ := h h0
  have hlt := hb.lt h0
  exact ⟨gb, ob, e, hn, fun j hj => (World.cell?_of_block (w := w) (a := ⟨gb, ob + j, none⟩) (hg.block gb hlt (by simp; omega))).trans (hb j hj)⟩
theorem Src.drop64 {w : World} {g gb ob : Nat} {xs : List UInt8} (h : Bytes w gb ob xs) (hn : gb ≠ g) (k c : Nat) (hk : k ≤ xs.length) (hc : xs.length ≤ c) :
    Src w g (if c = k then some ⟨gb, ob, none⟩ else some ⟨gb, ob + k, none⟩) (xs.drop k) := fun h0 => by
  rw [List.length_drop] at h0
  refine ⟨gb, ob + k, by rw [if_neg (by omega)], hn, fun j hj => ?_⟩
  rw [List.length_drop] at hj
  have := h (k + j) (by omega)
  rw [Nat.add_assoc, this]
  simp [List.getD_eq_getElem?_getD, List.getElem?_drop]
theorem Bytes.take {w : World} {g o : Nat} {xs : List UInt8} (h : Bytes w g o xs) (k : Nat) : Bytes w g o (xs.take k) := fun j hj => by
  rw [List.length_take] at hj
  rw [h j (by omega)]
  simp [List.getD_eq_getElem?_getD, show j < k by omega]
theorem Blk.rest {w : World} {g : Nat} {t : TypeId} {s : St} {R : List UInt8} {n : Nat} (h : Blk w g t (stCells s R n)) : Bytes w g 8 R := fun j hj => (h.cell (8 + j)).trans (stCells_rest s R n j hj)

theorem Src.cells {w : World} {g : Nat} {A : Option Addr} {ys : List UInt8} {x : Addr} (h : Src w g A ys) :
    0 < (ys.map B8).length → some x = some x ∧ ∃ gb ob, A = some ⟨gb, ob, none⟩ ∧ ∀ j v, (ys.map B8)[j]? = some v → w.cell? ⟨gb, ob + j, none⟩ = some v := fun hp => by
  obtain ⟨gb, ob, rfl, _, hby⟩ := h (by simpa using hp)
  refine ⟨rfl, gb, ob, rfl, fun j v hv => ?_⟩
  have hj : j < ys.length := by have := (List.getElem?_eq_some_iff.1 hv).1; simpa using this
  rw [getD_map8 ys j hj] at hv
  rw [← Option.some.inj hv]
  exact hby j hj
/-- 'copy' into a block that is known, of bytes that lie elsewhere (or in it), nil and empty ones let in: the frame is that block alone. -/
theorem wpList_copy_blk {P : Program} {w : World} {ops : Array Oper} {rest : List Oper} {o : Oper} {a : Act} {Q : Exit → Act → World → Prop} (hgd : o.guard = none) (d s : Operand) (dT sT : TypeId)
    (ho : o.op = .call { callee := .builtin .copy, args := #[d, s], argTypes := #[dT, sT] }) (elem : TypeId) (hu : P.underlying dT = some (.slice elem)) (hsz : (P.info? elem).map (·.size) = some 1)
    (dp sp : Option Addr) (dLen dCap sLen sCap : Nat) (hd : a.eval d = .slice dp dLen dCap) (hs : a.eval s = .slice sp sLen sCap)
    (g off : Nat) (cur : List Value) (t : TypeId) (hg : Blk w g t cur) (cs : List Value) (hn : cs.length = Nat.min sLen dLen)
    (hpos : 0 < cs.length → dp = some ⟨g, off, none⟩ ∧ ∃ gb ob, sp = some ⟨gb, ob, none⟩ ∧ ∀ j v, cs[j]? = some v → w.cell? ⟨gb, ob + j, none⟩ = some v)
    (hfit : off + cs.length ≤ cur.length) (h1 : ∀ v ∈ cs, v.oneCell' = true)
    (h : ∀ w', Blk w' g t (splice cur off cs) → w.grownBy w' (some g) → wpList P ops Q rest (a.put o.dst (goInt cs.length)) w') :
    wpList P ops Q (o :: rest) a w := by
  by_cases h0 : cs.length = 0
  · obtain rfl : cs = [] := List.eq_nil_of_length_eq_zero h0
    refine wpList_copy_nothing hgd d s dT sT ho elem hu hsz dp sp dLen dCap sLen sCap hd hs (by simpa using hn.symm) ?_
    exact h w (by rw [splice_nil]; exact hg) (grown_refl _ _)
  · obtain ⟨rfl, gb, ob, rfl, hsrc⟩ := hpos (by omega)
    refine wpList_copy_own hgd d s dT sT ho elem hu hsz g off dLen dCap ⟨gb, ob, none⟩ sLen sCap hd hs cur.toArray t hg cs hn (fun j v hv => by rw [add_row]; exact hsrc j v hv) (by simpa using hfit) h1 ?_
    refine h _ ?_ (grown_setRow _ _ _)
    have := hg.row (splice cur off cs)
    simpa [splice_eq] using this

/-- Eight bytes, the highest first. -/
def be8 (c : Nat) : List UInt8 := [UInt8.ofNat (c / 72057594037927936), UInt8.ofNat (c / 281474976710656), UInt8.ofNat (c / 1099511627776), UInt8.ofNat (c / 4294967296), UInt8.ofNat (c / 16777216), UInt8.ofNat (c / 65536), UInt8.ofNat (c / 256), UInt8.ofNat c]
/-- What stands behind n bytes: a one bit, noughts, the count of bits. -/
def padB (n : Nat) : List UInt8 := 128 :: List.replicate ((119 - n % 64) % 64) 0 ++ be8 (n * 8)
theorem padB_length (n : Nat) : (padB n).length = 9 + (119 - n % 64) % 64 := by
  simp [padB, be8]; omega
/-- The four bytes of a word, the highest first. -/
def word4 (x : UInt32) : List UInt8 := [(x >>> 24).toUInt8, (x >>> 16).toUInt8, (x >>> 8).toUInt8, x.toUInt8]
def bytesOf (s : St) : List UInt8 := word4 s.a ++ word4 s.b ++ word4 s.c ++ word4 s.d ++ word4 s.e ++ word4 s.f ++ word4 s.g ++ word4 s.h
theorem w_byte (x : UInt32) (n : Nat) (hn : n < 32) : (x.toNat : Int) / 2 ^ n % 256 = (((x >>> UInt32.ofNat n).toUInt8).toNat : Int) := by
  rw [w_shr x n hn]; simp
theorem n_byte (c d : Nat) : (c : Int) / (d : Int) % 256 = ((UInt8.ofNat (c / d)).toNat : Int) := by simp

def lenOf : Value → Nat
  | .slice _ n _ => n
  | _ => 0

end Go.Proofs.Ytefbjhdcmgonbaa
