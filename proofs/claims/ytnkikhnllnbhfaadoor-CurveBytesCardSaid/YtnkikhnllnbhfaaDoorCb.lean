/-
  Rows of bytes.
-/
import Derived.Test.YtnkikhnllnbhfaaDoorSx
import Derived.Test.YtnkikhnllnbhfaaDoorCnf
import Derived.WalkKit
import Derived.WalkSpells
import Derived.WalkLawsBesides
import Derived.Lib.Hide
import Derived.Below
import Derived.Laws.OwnMore
import Derived.Deep.Draws
import Derived.Laws.Rows
import Derived.Laws.Tables
import Derived.Laws.CopyOwn
import Derived.Deep.MidRow
import Derived.Maps.AppendAt
import Derived.Deep.AppendLies
import Derived.Laws.CopyRow
import Derived.Deep.AppendSrc
import Derived.Deep.Upon
import Derived.Laws.IdiomStrings
import Derived.Lib.MinMax
import Derived.Stop.BytesEq
import Derived.Deep.Matrix
import Derived.OpenShut
import Derived.ProofKit
import Derived.ShutString
import Derived.ChangeOld
import Derived.LaidMore
import Derived.Lib.LaidTab
import Derived.SevenTiedAt
import Derived.Stop.Joined
import Derived.Lib.LazyBuf
namespace Go.Proofs.YtnkikhnllnbhfaaDoor
open Go.RowKit
def foldB : Nat → St → List UInt8 → St
  | 0, s, _ => s
  | n + 1, s, m => foldB n (comp s (m.take 64)) (m.drop 64)
/-- What the whole blocks of m make of the words s. -/
def blocks (s : St) (m : List UInt8) : St := foldB (m.length / 64) s m
/-- What is left of m behind its whole blocks. -/
def left (m : List UInt8) : List UInt8 := m.drop (m.length / 64 * 64)

theorem blocks_short (s : St) (m : List UInt8) (h : m.length < 64) : blocks s m = s := by
  unfold blocks; rw [show m.length / 64 = 0 by omega]; rfl
theorem left_short (m : List UInt8) (h : m.length < 64) : left m = m := by
  unfold left; rw [show m.length / 64 = 0 by omega]; simp
theorem blocks_step (s : St) (m : List UInt8) (h : 64 ≤ m.length) : blocks s m = blocks (comp s (m.take 64)) (m.drop 64) := by
  unfold blocks
  rw [show m.length / 64 = (m.drop 64).length / 64 + 1 by simp; omega]
  rfl
theorem left_step (m : List UInt8) (h : 64 ≤ m.length) : left m = left (m.drop 64) := by
  unfold left
  rw [List.drop_drop, List.length_drop]
  congr 1; omega
theorem left_length (m : List UInt8) : (left m).length = m.length % 64 := by
  unfold left; rw [List.length_drop]; omega

theorem foldB_append (n : Nat) : ∀ (s : St) (x y : List UInt8), x.length = n * 64 → foldB (n + y.length / 64) s (x ++ y) = foldB (y.length / 64) (foldB n s x) y := by
  induction n with
  | zero =>
    intro s x y h
    have hx : x = [] := List.eq_nil_of_length_eq_zero (by omega)
    subst hx; simp [foldB]
  | succ n ih =>
    intro s x y h
    rw [show n + 1 + y.length / 64 = (n + y.length / 64) + 1 by omega]
    show foldB (n + y.length / 64) (comp s ((x ++ y).take 64)) ((x ++ y).drop 64) = foldB (y.length / 64) (foldB n (comp s (x.take 64)) (x.drop 64)) y
    rw [List.take_append_of_le_length (by omega), List.drop_append_of_le_length (by omega)]
    exact ih _ _ _ (by rw [List.length_drop]; omega)
/-- More bytes: the whole blocks of what was left and of the new ones go on from the words so far. -/
theorem blocks_append (s : St) (m b : List UInt8) : blocks s (m ++ b) = blocks (blocks s m) (left m ++ b) := by
  have e : m ++ b = m.take (m.length / 64 * 64) ++ (left m ++ b) := by
    unfold left; rw [← List.append_assoc, List.take_append_drop]
  have h1 : (m.take (m.length / 64 * 64)).length = m.length / 64 * 64 := by rw [List.length_take]; omega
  have h2 : blocks s m = foldB (m.length / 64) s (m.take (m.length / 64 * 64)) := by
    have h := foldB_append (m.length / 64) s (m.take (m.length / 64 * 64)) (left m) h1
    rw [left_length, show m.length % 64 / 64 = 0 by omega] at h
    unfold left at h
    rw [List.take_append_drop] at h
    unfold blocks
    simpa [foldB] using h
  have h3 := foldB_append (m.length / 64) s (m.take (m.length / 64 * 64)) (left m ++ b) h1
  rw [← e] at h3
  have h4 : (m ++ b).length / 64 = m.length / 64 + (left m ++ b).length / 64 := by
    rw [List.length_append, List.length_append, left_length]; omega
  rw [h2]
  unfold blocks
  rw [h4, h3]
theorem left_append (m b : List UInt8) : left (m ++ b) = left (left m ++ b) := by
  have h4 : (m ++ b).length / 64 = m.length / 64 + (left m ++ b).length / 64 := by
    rw [List.length_append, List.length_append, left_length]; omega
  have e : left m ++ b = (m ++ b).drop (m.length / 64 * 64) := by
    unfold left; rw [List.drop_append_of_le_length (by omega)]
  show (m ++ b).drop ((m ++ b).length / 64 * 64) = (left m ++ b).drop ((left m ++ b).length / 64 * 64)
  rw [h4]
  conv => rhs; rw [e, List.drop_drop]
  congr 1
  rw [← e]; omega

/-- How a state lies in its block: eight words, 64 bytes, the size. -/
def stCells (s : St) (R : List UInt8) (n : Nat) : List Value := s.vals ++ (R.map B8 ++ [.int .u64 (n : Int)])
theorem stCells_length (s : St) (R : List UInt8) (n : Nat) (h : R.length = 64) : (stCells s R n).length = 73 := by
  simp [stCells, St.vals, h]
theorem stCells_72 (s : St) (R : List UInt8) (n : Nat) (h : R.length = 64) : (stCells s R n)[72]? = some (.int .u64 (n : Int)) := by
  simp [stCells, St.vals, h]
theorem stCells_rest (s : St) (R : List UInt8) (n j : Nat) (hj : j < R.length) : (stCells s R n)[8 + j]? = some (B8 (R.getD j 0)) := by
  have h1 : (stCells s R n)[8 + j]? = (R.map B8 ++ [.int .u64 (n : Int)])[j]? := by
    unfold stCells
    rw [List.getElem?_append_right (by simp [St.vals])]
    simp [St.vals]
  rw [h1, List.getElem?_append_left (by simpa using hj)]
  exact getD_map8 R j hj
theorem stCells_set72 (s : St) (R : List UInt8) (n m : Nat) (h : R.length = 64) : (stCells s R n).set 72 (.int .u64 (m : Int)) = stCells s R m := by
  unfold stCells
  rw [List.set_append_right _ _ (by simp [St.vals])]
  rw [List.set_append_right _ _ (by simp [St.vals, h])]
  simp [St.vals, h]
theorem splice_eq {α : Type} (L : List α) (o : Nat) (cs : List α) : splice L o cs = L.take o ++ (cs ++ L.drop (o + cs.length)) := rfl
theorem stCells_splice (s : St) (R cs : List UInt8) (n h : Nat) (hR : R.length = 64) (hh : h + cs.length ≤ 64) :
    splice (stCells s R n) (8 + h) (cs.map B8) = stCells s (splice R h cs) n := by
  have e1 : (stCells s R n).take (8 + h) = s.vals ++ (R.take h).map B8 := by
    unfold stCells
    rw [List.take_append, List.take_of_length_le (by simp [St.vals]), List.take_append_of_le_length (by simp [St.vals, hR]; omega)]
    simp [St.vals, List.map_take]
  have e2 : (stCells s R n).drop (8 + h + cs.length) = (R.drop (h + cs.length)).map B8 ++ [.int .u64 (n : Int)] := by
    unfold stCells
    rw [List.drop_append, List.drop_eq_nil_of_le (by simp [St.vals]; omega), List.drop_append_of_le_length (by simp [St.vals, hR]; omega)]
    simp [St.vals, List.map_drop, show 8 + h + cs.length - 8 = h + cs.length by omega]
  rw [splice_eq, List.length_map, e1, e2]
  simp [stCells, splice_eq, List.append_assoc]
theorem splice_length {α : Type} (L : List α) (o : Nat) (cs : List α) (h : o + cs.length ≤ L.length) : (splice L o cs).length = L.length := length_splice L o cs h
theorem splice_take {α : Type} (L : List α) (o : Nat) (cs : List α) (h : o ≤ L.length) : (splice L o cs).take (o + cs.length) = L.take o ++ cs := by
  have e : o + cs.length = (L.take o ++ cs).length := by simp; omega
  rw [splice_eq, ← List.append_assoc, e, List.take_left]
theorem splice_nil {α : Type} (L : List α) (o : Nat) : splice L o [] = L := by simp [splice_eq]

/-- Bytes that are handed in, in another block than g: nil and empty rows are let in. -/
def Src (w : World) (g : Nat) (A : Option Addr) (xs : List UInt8) : Prop := 0 < xs.length → ∃ gb ob, A = some ⟨gb, ob, none⟩ ∧ gb ≠ g ∧ Bytes w gb ob xs
theorem Src.keep {w w' : World} {g : Nat} {A : Option Addr} {xs : List UInt8} (h : Src w g A xs) (hg : w.grownBy w' (some g)) : Src w' g A xs := fun h0 => by
  obtain ⟨gb, ob, e, hn, hb⟩ := h h0
  have hlt := hb.lt h0
  exact ⟨gb, ob, e, hn, fun j hj => (World.cell?_of_block (w := w) (a := ⟨gb, ob + j, none⟩) (hg.block gb hlt (by simp; omega))).trans (hb j hj)⟩
theorem Src.drop64 {w : World} {g gb ob : Nat} {xs : List UInt8} (h : Bytes w gb ob xs) (hn : gb ≠ g) (k c : Nat) (hk : k ≤ xs.length) (hc : xs.length ≤ c) :
    Src w g (if c = k then some ⟨gb, ob, none⟩ else some ⟨gb, ob + k, none⟩) (xs.drop k) := fun h0 => by
  rw [List.length_drop] at h0
  refine ⟨gb, ob + k, by rw [if_neg (by omega)], hn, fun j hj => ?_⟩
  rw [List.length_drop] at hj
  have := h (k + j) (by omega)
  rw [Nat.add_assoc, this]
  simp [List.getD_eq_getElem?_getD, List.getElem?_drop]
theorem Bytes.take {w : World} {g o : Nat} {xs : List UInt8} (h : Bytes w g o xs) (k : Nat) : Bytes w g o (xs.take k) := fun j hj => by
  rw [List.length_take] at hj
  rw [h j (by omega)]
  simp [List.getD_eq_getElem?_getD, show j < k by omega]
theorem Blk.rest {w : World} {g : Nat} {t : TypeId} {s : St} {R : List UInt8} {n : Nat} (h : Blk w g t (stCells s R n)) : Bytes w g 8 R := fun j hj => (h.cell (8 + j)).trans (stCells_rest s R n j hj)

theorem Src.cells {w : World} {g : Nat} {A : Option Addr} {ys : List UInt8} {x : Addr} (h : Src w g A ys) :
    0 < (ys.map B8).length → some x = some x ∧ ∃ gb ob, A = some ⟨gb, ob, none⟩ ∧ ∀ j v, (ys.map B8)[j]? = some v → w.cell? ⟨gb, ob + j, none⟩ = some v := fun hp => by
  obtain ⟨gb, ob, rfl, _, hby⟩ := h (by simpa using hp)
  refine ⟨rfl, gb, ob, rfl, fun j v hv => ?_⟩
  have hj : j < ys.length := by have := (List.getElem?_eq_some_iff.1 hv).1; simpa using this
  rw [getD_map8 ys j hj] at hv
  rw [← Option.some.inj hv]
  exact hby j hj
/-- 'copy' into a block that is known, of bytes that lie elsewhere (or in it), nil and empty ones let in: the frame is that block alone. -/
theorem wpList_copy_blk {P : Program} {w : World} {ops : Array Oper} {rest : List Oper} {o : Oper} {a : Act} {Q : Exit → Act → World → Prop} (hgd : o.guard = none) (d s : Operand) (dT sT : TypeId)
    (ho : o.op = .call { callee := .builtin .copy, args := #[d, s], argTypes := #[dT, sT] }) (elem : TypeId) (hu : P.underlying dT = some (.slice elem)) (hsz : (P.info? elem).map (·.size) = some 1)
    (dp sp : Option Addr) (dLen dCap sLen sCap : Nat) (hd : a.eval d = .slice dp dLen dCap) (hs : a.eval s = .slice sp sLen sCap)
    (g off : Nat) (cur : List Value) (t : TypeId) (hg : Blk w g t cur) (cs : List Value) (hn : cs.length = Nat.min sLen dLen)
    (hpos : 0 < cs.length → dp = some ⟨g, off, none⟩ ∧ ∃ gb ob, sp = some ⟨gb, ob, none⟩ ∧ ∀ j v, cs[j]? = some v → w.cell? ⟨gb, ob + j, none⟩ = some v)
    (hfit : off + cs.length ≤ cur.length) (h1 : ∀ v ∈ cs, v.oneCell' = true)
    (h : ∀ w', Blk w' g t (splice cur off cs) → w.grownBy w' (some g) → wpList P ops Q rest (a.put o.dst (goInt cs.length)) w') :
    wpList P ops Q (o :: rest) a w := by
  by_cases h0 : cs.length = 0
  · obtain rfl : cs = [] := List.eq_nil_of_length_eq_zero h0
    refine wpList_copy_nothing hgd d s dT sT ho elem hu hsz dp sp dLen dCap sLen sCap hd hs (by simpa using hn.symm) ?_
    exact h w (by rw [splice_nil]; exact hg) (grown_refl _ _)
  · obtain ⟨rfl, gb, ob, rfl, hsrc⟩ := hpos (by omega)
    refine wpList_copy_own hgd d s dT sT ho elem hu hsz g off dLen dCap ⟨gb, ob, none⟩ sLen sCap hd hs cur.toArray t hg cs hn (fun j v hv => by rw [add_row]; exact hsrc j v hv) (by simpa using hfit) h1 ?_
    refine h _ ?_ (grown_setRow _ _ _)
    have := hg.row (splice cur off cs)
    simpa [splice_eq] using this

/-- Eight bytes, the highest first. -/
def be8 (c : Nat) : List UInt8 := [UInt8.ofNat (c / 72057594037927936), UInt8.ofNat (c / 281474976710656), UInt8.ofNat (c / 1099511627776), UInt8.ofNat (c / 4294967296), UInt8.ofNat (c / 16777216), UInt8.ofNat (c / 65536), UInt8.ofNat (c / 256), UInt8.ofNat c]
/-- What stands behind n bytes: a one bit, noughts, the count of bits. -/
def padB (n : Nat) : List UInt8 := 128 :: List.replicate ((119 - n % 64) % 64) 0 ++ be8 (n * 8)
theorem padB_length (n : Nat) : (padB n).length = 9 + (119 - n % 64) % 64 := by
  simp [padB, be8]; omega
/-- The four bytes of a word, the highest first. -/
def word4 (x : UInt32) : List UInt8 := [(x >>> 24).toUInt8, (x >>> 16).toUInt8, (x >>> 8).toUInt8, x.toUInt8]
def bytesOf (s : St) : List UInt8 := word4 s.a ++ word4 s.b ++ word4 s.c ++ word4 s.d ++ word4 s.e ++ word4 s.f ++ word4 s.g ++ word4 s.h
theorem w_byte (x : UInt32) (n : Nat) (hn : n < 32) : (x.toNat : Int) / 2 ^ n % 256 = (((x >>> UInt32.ofNat n).toUInt8).toNat : Int) := by
  rw [w_shr x n hn]; simp
theorem n_byte (c d : Nat) : (c : Int) / (d : Int) % 256 = ((UInt8.ofNat (c / d)).toNat : Int) := by simp

def lenOf : Value → Nat
  | .slice _ n _ => n
  | _ => 0


theorem infoB : (Tryd.prog.info? 5).map (fun i => (i.zero, i.size, i.bytes)) = some (some (.int .u8 0), 1, 1) := by kernel_rfl
theorem oneB8 (cs : List UInt8) : ∀ v ∈ cs.map B8, v.oneCell' = true := by
  intro v hv; simp at hv; obtain ⟨x, _, rfl⟩ := hv; rfl
/-- The slice of n bytes with room for c behind A holds just bs, in a block of the call's own (from base on) all of whose places may be written. -/
def Buf (w : World) (base : Nat) (A : Option Addr) (n c : Nat) (bs : List UInt8) : Prop :=
  bs.length = n ∧ ((A = none ∧ n = 0 ∧ c = 0) ∨
    ∃ g, A = some ⟨g, 0, none⟩ ∧ base ≤ g ∧ g < w.heap.size ∧ n ≤ c ∧ c ≤ maxLen ∧ Bytes w g 0 bs ∧ ∀ j, j < c → (w.cell? ⟨g, j, none⟩).isSome = true ∧ w.frozen? ⟨g, j, none⟩ = false)

def ownOf : Option Addr → Option Nat
  | some a => some a.block
  | none => none

theorem Buf.nil (w : World) (base : Nat) : Buf w base none 0 0 [] := ⟨rfl, .inl ⟨rfl, rfl, rfl⟩⟩
theorem Buf.len {w : World} {base n c : Nat} {A : Option Addr} {bs : List UInt8} (h : Buf w base A n c bs) : bs.length = n := h.1
theorem Buf.le {w : World} {base n c : Nat} {A : Option Addr} {bs : List UInt8} (h : Buf w base A n c bs) : n ≤ c ∧ c ≤ 9223372036854775807 := by
  rcases h.2 with ⟨_, rfl, rfl⟩ | ⟨g, _, _, _, h1, h2, _⟩
  · omega
  · exact ⟨h1, by simpa [maxLen] using h2⟩
theorem Buf.kept {w w' : World} {base n c : Nat} {A : Option Addr} {bs : List UInt8} {row : Option Nat} (h : Buf w base A n c bs) (hg : w.grownBy w' row) (hne : ∀ g, A = some ⟨g, 0, none⟩ → some g ≠ row) : Buf w' base A n c bs := by
  refine ⟨h.1, ?_⟩
  rcases h.2 with hn | ⟨g, rfl, hb, hlt, h1, h2, hby, hall⟩
  · exact .inl hn
  · have hB := hg.block g hlt (hne g rfl)
    refine .inr ⟨g, rfl, hb, Nat.lt_of_lt_of_le hlt hg.size, h1, h2, fun j hj => (World.cell?_of_block (a := ⟨g, 0 + j, none⟩) hB).trans (hby j hj), fun j hj => ?_⟩
    rw [World.cell?_of_block (a := ⟨g, j, none⟩) hB, World.frozen?_of_block (a := ⟨g, j, none⟩) hB]
    exact hall j hj
theorem Buf.below {w w' : World} {base n c : Nat} {A : Option Addr} {bs : List UInt8} (h : Buf w base A n c bs) (hg : Below w.heap.size w w') : Buf w' base A n c bs :=
  h.kept (grown_of_below hg none) (fun _ _ => by simp)
theorem Buf.alloc {w : World} {base n c : Nat} {A : Option Addr} {bs : List UInt8} (h : Buf w base A n c bs) (o : Obj) : Buf (w.alloc o) base A n c bs := h.below ((Below.refl _ _).alloc (Nat.le_refl _) o)
theorem Buf.drewN {w : World} {base n c : Nat} {A : Option Addr} {bs : List UInt8} (h : Buf w base A n c bs) (k : Nat) : Buf (w.drewN k) base A n c bs := h
theorem Buf.drew {w : World} {base n c : Nat} {A : Option Addr} {bs : List UInt8} (h : Buf w base A n c bs) : Buf w.drew base A n c bs := h
theorem Buf.base {w : World} {base base' n c : Nat} {A : Option Addr} {bs : List UInt8} (h : Buf w base A n c bs) (hb : base' ≤ base) : Buf w base' A n c bs := by
  refine ⟨h.1, ?_⟩
  rcases h.2 with hn | ⟨g, e, hb', r⟩
  · exact .inl hn
  · exact .inr ⟨g, e, by omega, r⟩
theorem Buf.lt {w : World} {base n c : Nat} {A : Option Addr} {bs : List UInt8} (h : Buf w base A n c bs) {k : Nat} (e : A = some ⟨k, 0, none⟩) : base ≤ k ∧ k < w.heap.size := by
  rcases h.2 with ⟨rfl, _⟩ | ⟨k', rfl, hb, hlt, _⟩
  · cases e
  · injection e with e; injection e with e; omega
theorem Buf.at {w : World} {base n c : Nat} {A : Option Addr} {bs : List UInt8} (h : Buf w base A n c bs) (h0 : 0 < n) : ∃ g, A = some ⟨g, 0, none⟩ ∧ base ≤ g ∧ g < w.heap.size ∧ Bytes w g 0 bs := by
  rcases h.2 with ⟨_, hn, _⟩ | ⟨k, rfl, hb, hlt, _, _, hby, _⟩
  · omega
  · exact ⟨k, rfl, hb, hlt, hby⟩

/-- A new block that begins with these bytes, whatever mark stands behind its places. -/
theorem Buf.made {w : World} {base n c : Nat} {bs : List UInt8} (cells : Array Value) (t : TypeId) (f0 f1 : Nat) (hb : base ≤ w.heap.size) (hn : bs.length = n) (hnc : n ≤ c) (hc : c ≤ maxLen) (hs : cells.size = c)
    (hf : c ≤ f0 ∨ f1 = 0) (hcells : ∀ j, j < n → cells[j]? = some (B8 (bs.getD j 0))) : Buf (w.alloc (.cells cells t (f0, f1))) base (some ⟨w.heap.size, 0, none⟩) n c bs := by
  have hB : (w.alloc (.cells cells t (f0, f1))).heap[w.heap.size]? = some (.cells cells t (f0, f1)) := heap_alloc_new w _
  refine ⟨hn, .inr ⟨w.heap.size, rfl, hb, by simp, hnc, hc, fun j hj => ?_, fun j hj => ⟨?_, ?_⟩⟩⟩
  · rw [Nat.zero_add, cell_of_row _ _ j cells t (f0, f1) hB]
    exact hcells j (by omega)
  · rw [cell_of_row _ _ j cells t (f0, f1) hB, Array.getElem?_eq_getElem (by omega)]; rfl
  · simp only [World.frozen?, hB, Bool.and_eq_false_iff, decide_eq_false_iff_not]
    rcases hf with hf | hf
    · left; omega
    · right; omega
theorem grown_setCells (w : World) (g o : Nat) (vs : List Value) : w.grownBy (w.setCells g o vs) (some g) := by
  induction vs generalizing w o with
  | nil => exact grown_refl _ _
  | cons v r ih =>
    rw [World.setCells]
    exact grown_trans (grown_setCell (grown_refl w _) (.inl rfl) v) (ih _ _)

/-- What an append of bytes makes, from whatever source. -/
theorem run_append_buf (tx ty : TypeId) (base : Nat) (A : Option Addr) (n c : Nat) (bs ys : List UInt8) (x : Value) (w : World) (hb : Buf w base A n c bs) (hs : _root_.Go.Src Tryd.prog 1 tx x ys.length (ys.map B8) w)
    (hn : n + ys.length ≤ 1099511627776) (hbase : base ≤ w.heap.size) :
    ∃ A' c' w', (Builtin.append_ #[47, tx] ty #[.slice A n c, x]).run Tryd.prog w = .ok (.slice A' (n + ys.length) c') w' ∧ Buf w' base A' (n + ys.length) c' (bs ++ ys) ∧ w.grownBy w' (ownOf A) := by
  obtain ⟨i, hi, hz, hsz, hby⟩ := info_parts infoB
  have hl : (bs ++ ys).length = n + ys.length := by rw [List.length_append, hb.1]
  have hs' : _root_.Go.Src Tryd.prog i.size tx x ys.length (ys.map B8) w := by rw [hsz]; exact hs
  have hone := hb.le
  by_cases hroom : n + ys.length ≤ c
  · rcases hb.2 with ⟨rfl, rfl, rfl⟩ | ⟨g, rfl, hbg, hlt, hnc, hcm, hbytes, hall⟩
    · have hy : ys = [] := List.eq_nil_of_length_eq_zero (by omega)
      subst hy
      have hbs : bs = [] := List.eq_nil_of_length_eq_zero hb.1
      subst hbs
      exact ⟨none, 0, w, run_append_nothing w 47 tx ty 5 i Tryd.underlying47 hi none 0 0 (Nat.le_refl _) x hs', Buf.nil _ _, grown_refl _ _⟩
    · have hr := run_append_room_src w 47 tx ty 5 i Tryd.underlying47 hi g 0 n c x ys.length (ys.map B8) hs' hroom (fun j hj => (hall (0 + n * i.size + j) (by rw [hsz]; simp at hj; omega)).1) (fun j hj => (hall (0 + n * i.size + j) (by rw [hsz]; simp at hj; omega)).2)
      rw [hsz] at hr
      simp only [Nat.zero_add, Nat.mul_one] at hr
      refine ⟨_, _, _, hr, ⟨hl, .inr ⟨g, rfl, hbg, ?_, hroom, hcm, fun j hj => ?_, fun j hj => ⟨?_, ?_⟩⟩⟩, grown_setCells _ _ _ _⟩
      · exact Nat.lt_of_lt_of_le hlt (grown_setCells w g n (ys.map B8)).size
      · rw [Nat.zero_add]
        by_cases hjn : j < n
        · rw [World.cell?_setCells_out g _ n w _ (fun _ _ => .inl hjn)]
          have := hbytes j (by rw [hb.1]; exact hjn)
          rw [Nat.zero_add] at this
          rw [this]
          simp [List.getD_eq_getElem?_getD, List.getElem?_append_left (show j < bs.length by rw [hb.1]; exact hjn)]
        · obtain ⟨k, rfl⟩ : ∃ k, j = n + k := ⟨j - n, by omega⟩
          have hk : k < ys.length := by omega
          rw [World.cell?_setCells_in g (ys.map B8) n w (fun k hk => (hall (n + k) (by simp at hk; omega)).1) k (by simpa using hk)]
          have e : (bs ++ ys).getD (n + k) 0 = ys.getD k 0 := by
            rw [List.getD_eq_getElem?_getD, List.getElem?_append_right (by rw [hb.1]; omega), hb.1, show n + k - n = k by omega, ← List.getD_eq_getElem?_getD]
          rw [e]
          simp [List.getD_eq_getElem?_getD, List.getElem?_eq_getElem hk]
      · exact World.isSome_setCells g _ n w _ (hall j hj).1
      · rw [World.frozen?_setCells]; exact (hall j hj).2
  · have hold : (Builtin.firstCells i.size n (.slice A n c)).run Tryd.prog w.drew = .ok ((bs.map B8).toArray) w.drew := by
      rcases hb.2 with ⟨rfl, rfl, rfl⟩ | ⟨g, rfl, hbg, hlt, hnc, hcm, hbytes, hall⟩
      · have hbs : bs = [] := List.eq_nil_of_length_eq_zero hb.1
        subst hbs
        exact run_firstCells_none w.drew i.size 0 0 0
      · refine run_firstCells_some w.drew i.size n ⟨g, 0, none⟩ n c (bs.map B8) (by rw [hsz, List.length_map, hb.1, Nat.mul_one]) (fun j u hu => ?_)
        have hj : j < bs.length := by have := (List.getElem?_eq_some_iff.1 hu).1; simpa using this
        rw [getD_map8 bs j hj] at hu
        rw [← Option.some.inj hu, add_row]
        exact hbytes j hj
    have hcap := grownCap_ge w (n + ys.length) c 5
    have hcap2 := grownCap_le_maxLen w (n + ys.length) c 5 (by simp only [maxLen]; omega)
    have hnext : Builtin.nextslicecap (n + ys.length) c * i.bytes ≤ 281474976710656 := by
      rw [hby, Nat.mul_one]
      have := nextslicecap_le (show c < n + ys.length by omega)
      omega
    have hr := run_append_grow_src w 47 tx ty 5 i (.int .u8 0) Tryd.underlying47 hi hz A n c (bs.map B8) hold x ys.length (ys.map B8) hs' (by omega) (by omega) hnext
    refine ⟨_, _, _, hr, ?_, grown_alloc (grown_drew (grown_refl _ _)) _⟩
    refine Buf.made (w := w.drew) (n := n + ys.length) _ _ 0 0 hbase hl hcap hcap2 ?_ (.inr rfl) (fun j hj => ?_)
    · simp [size_zeroCells, Value.cells, hb.1]; omega
    · rw [← List.map_append, Array.getElem?_append_left (by simp [hb.1]; omega)]
      rw [List.getElem?_toArray]
      exact getD_map8 _ j (by omega)

theorem ownOf_fresh {base g : Nat} {A : Option Addr} {w : World} {n c : Nat} {bs : List UInt8} (h : Buf w base A n c bs) (hg : g < base) : some g ≠ ownOf A := by
  rcases h.2 with ⟨rfl, _⟩ | ⟨k, rfl, hb, _⟩
  · simp [ownOf]
  · simp [ownOf]; omega
theorem below_own {B base n c : Nat} {A : Option Addr} {bs : List UInt8} {a w w' : World} (h : Below B a w) (hb : Buf w base A n c bs) (hg : w.grownBy w' (ownOf A)) (hB : B ≤ base) (hs : B ≤ w.heap.size) : Below B a w' :=
  h.trans ⟨hg.os, hg.tape, hg.output, hg.size, fun k hk => hg.block k (by omega) (ownOf_fresh hb (by omega))⟩

/-- Bytes more behind a row of the call's own, from whatever source. -/
theorem wpList_append_buf {ops : Array Oper} {rest : List Oper} {o : Oper} {a : Act} {w : World} {Q : Exit → Act → World → Prop} (hgd : o.guard = none) (s x : Operand) (tx : TypeId)
    (ho : o.op = .call { callee := .builtin .append, args := #[s, x], argTypes := #[47, tx] })
    (base : Nat) (A : Option Addr) (n c : Nat) (bs ys : List UInt8) (v : Value) (hs : a.eval s = .slice A n c) (hb : Buf w base A n c bs) (hx : a.eval x = v) (hsrc : _root_.Go.Src Tryd.prog 1 tx v ys.length (ys.map B8) w)
    (hn : n + ys.length ≤ 1099511627776) (hbase : base ≤ w.heap.size)
    (h : ∀ A' c' w', Buf w' base A' (n + ys.length) c' (bs ++ ys) → w.grownBy w' (ownOf A) → wpList Tryd.prog ops Q rest (a.put o.dst (.slice A' (n + ys.length) c')) w') : wpList Tryd.prog ops Q (o :: rest) a w := by
  refine wpList_plain hgd fun K hK' => ?_
  obtain ⟨A', c', w', hr, h1, h2⟩ := run_append_buf tx o.type base A n c bs ys v w hb hsrc hn hbase
  unfold Oper.wp execOp
  simp only [ho, resolve, invoke, builtin, Sem.run_bind, Sem.run_pure, Result.andThen_ok, List.map_toArray, List.map_cons, List.map_nil, hs, hx, hr]
  exact hK' _ _ (h A' c' w' h1 h2)
/-- A source of one byte, in a block of one cell. -/
theorem src_byte {w : World} {g : Nat} {y : UInt8} (h : w.cell? ⟨g, 0, none⟩ = some (B8 y)) : _root_.Go.Src Tryd.prog 1 47 (.slice (some ⟨g, 0, none⟩) 1 1) 1 ([y].map B8) w :=
  _root_.Go.Src.ofSlice w Tryd.underlying47 ⟨g, 0, none⟩ 1 1 _ rfl (fun j u hu => by
    match j, hu with
    | 0, hu => simp at hu; subst hu; simpa [Addr.add] using h
    | j + 1, hu => simp at hu) (oneB8 _)

/-- Bytes that came in, below block B. -/
def In (w : World) (B : Nat) (A : Option Addr) (c : Nat) (xs : List UInt8) : Prop := xs.length ≤ c ∧ c ≤ 9223372036854775807 ∧ (0 < xs.length → ∃ gb ob, A = some ⟨gb, ob, none⟩ ∧ gb < B ∧ Bytes w gb ob xs)
theorem In.src {w : World} {B g : Nat} {A : Option Addr} {c : Nat} {xs : List UInt8} (h : In w B A c xs) (hg : B ≤ g) : Src w g A xs := fun h0 => by
  obtain ⟨gb, ob, e, hb, hby⟩ := h.2.2 h0
  exact ⟨gb, ob, e, by omega, hby⟩
theorem In.below {w w' : World} {B : Nat} {A : Option Addr} {c : Nat} {xs : List UInt8} (h : In w B A c xs) (hb : Below B w w') : In w' B A c xs :=
  ⟨h.1, h.2.1, fun h0 => by
    obtain ⟨gb, ob, e, hl, hby⟩ := h.2.2 h0
    exact ⟨gb, ob, e, hl, hby.below hb hl⟩⟩
theorem In.take {w : World} {B : Nat} {A : Option Addr} {c : Nat} {xs : List UInt8} (h : In w B A c xs) (k : Nat) : In w B A c (xs.take k) :=
  ⟨by have := h.1; rw [List.length_take]; omega, h.2.1, fun h0 => by
    obtain ⟨gb, ob, e, hl, hby⟩ := h.2.2 (by rw [List.length_take] at h0; omega)
    exact ⟨gb, ob, e, hl, hby.take k⟩⟩
theorem Src.alloc {w : World} {g : Nat} {A : Option Addr} {xs : List UInt8} (h : Src w g A xs) (o : Obj) : Src (w.alloc o) g A xs := h.keep (grown_alloc (grown_refl _ _) _)

theorem size8 (w : World) : (sizeOf 5).run Tryd.prog w = .ok 1 w := by
  obtain ⟨i, hi, hz, hs, hb⟩ := info_parts infoB
  simp [sizeOf, typeInfo, hi, hs]
def Parts (w : World) (g : Nat) (A : Option Addr) (ps : List (List UInt8)) : Prop := 0 < ps.length → ∃ gp op, A = some ⟨gp, op, none⟩ ∧ gp ≠ g ∧
  ∀ j, j < ps.length → ∃ Aj cj, w.cell? ⟨gp, op + j, none⟩ = some (.slice Aj (ps.getD j []).length cj) ∧ (ps.getD j []).length ≤ cj ∧ cj ≤ 9223372036854775807 ∧ Src w g Aj (ps.getD j [])
theorem Parts.keep {w w' : World} {g : Nat} {A : Option Addr} {ps : List (List UInt8)} (h : Parts w g A ps) (hg : w.grownBy w' (some g)) : Parts w' g A ps := fun h0 => by
  obtain ⟨gp, op, e, hn, hj⟩ := h h0
  refine ⟨gp, op, e, hn, fun j hjl => ?_⟩
  obtain ⟨Aj, cj, hc, h1, h2, h3⟩ := hj j hjl
  exact ⟨Aj, cj, (World.cell?_of_block (w := w) (a := ⟨gp, op + j, none⟩) (hg.block gp (block_lt_of_cell hc) (by simp; omega))).trans hc, h1, h2, h3.keep hg⟩
theorem cell_past (w : World) (g i j : Nat) (h : i ≠ j) (x : Value) : (w.setCell ⟨g, i, none⟩ x).cell? ⟨g, j, none⟩ = w.cell? ⟨g, j, none⟩ :=
  World.cell?_setCell_other w ⟨g, i, none⟩ ⟨g, j, none⟩ x (fun e => by injection e; omega)
theorem frozen_past (w : World) (p q : Addr) (x : Value) : (w.setCell p x).frozen? q = w.frozen? q := by simp

theorem Buf.src {w : World} {base n c g : Nat} {A : Option Addr} {bs : List UInt8} (h : Buf w base A n c bs) (hg : ∀ k, A = some ⟨k, 0, none⟩ → k ≠ g) : Src w g A bs := fun h0 => by
  rcases h.2 with ⟨_, hn, _⟩ | ⟨k, rfl, _, hlt, _, _, hby, _⟩
  · have := h.1; omega
  · exact ⟨k, 0, rfl, hg k rfl, hby⟩
theorem Buf.toIn {w : World} {base n c B : Nat} {A : Option Addr} {bs : List UInt8} (h : Buf w base A n c bs) (hB : w.heap.size ≤ B) : In w B A c bs := by
  refine ⟨by rw [h.1]; exact h.le.1, h.le.2, fun h0 => ?_⟩
  rcases h.2 with ⟨_, hn, _⟩ | ⟨k, rfl, _, hlt, _, _, hby, _⟩
  · have := h.1; omega
  · exact ⟨k, 0, rfl, by omega, hby⟩
/-- A source of bytes that came in. -/
theorem src_in {w : World} {A : Option Addr} {g c : Nat} {ys : List UInt8} (h : Src w g A ys) (hc : A = none → ys = []) : _root_.Go.Src Tryd.prog 1 47 (.slice A ys.length c) ys.length (ys.map B8) w := by
  cases A with
  | none =>
    obtain rfl := hc rfl
    exact _root_.Go.Src.ofNil w Tryd.underlying47 c
  | some ad =>
    refine _root_.Go.Src.ofSlice w Tryd.underlying47 ad ys.length c _ (by simp) (fun j u hu => ?_) (oneB8 _)
    have hj : j < ys.length := by have := (List.getElem?_eq_some_iff.1 hu).1; simpa using this
    obtain ⟨gb, ob, e, _, hby⟩ := h (by omega)
    rw [getD_map8 ys j hj] at hu
    rw [← Option.some.inj hu, Option.some.inj e, add_row]
    exact hby j hj
theorem src_in' {w : World} {A : Option Addr} {g c : Nat} {ys : List UInt8} (h : Src w g A ys) : _root_.Go.Src Tryd.prog 1 47 (.slice A ys.length c) ys.length (ys.map B8) w := by
  refine src_in h fun hA => ?_
  rcases Nat.eq_zero_or_pos ys.length with h0 | h0
  · exact List.eq_nil_of_length_eq_zero h0
  · obtain ⟨_, _, e, _⟩ := h h0
    rw [hA] at e; cases e
/-- A source that is a string. -/
theorem src_string (w : World) (s : List UInt8) : _root_.Go.Src Tryd.prog 1 9 (.string ⟨s.toArray⟩) s.length (s.map B8) w := by
  have h := _root_.Go.Src.ofString (P := Tryd.prog) w Tryd.underlying9 ⟨s.toArray⟩
  have e : byteCells ⟨s.toArray⟩ = s.map B8 := by simp [byteCells]
  rw [e] at h
  exact h

theorem bytesRow_at (s : List UInt8) (cap j : Nat) (hj : j < s.length) : (bytesRow ⟨s.toArray⟩ cap)[j]? = some (B8 (s.getD j 0)) := by
  unfold bytesRow
  rw [Array.getElem?_append_left (by simpa using hj)]
  simp [List.getD_eq_getElem?_getD, List.getElem?_eq_getElem hj]
theorem bytesRow_size (s : List UInt8) (cap : Nat) (h : s.length ≤ cap) : (bytesRow ⟨s.toArray⟩ cap).size = cap := by
  have e : (⟨s.toArray⟩ : ByteArray).size = s.length := rfl
  unfold bytesRow
  simp [e]; omega
/-- The bytes of a string: a row of the call's own. -/
theorem wpList_bytes_of {ops : Array Oper} {rest : List Oper} {o : Oper} {a : Act} {w : World} {Q : Exit → Act → World → Prop} (hgd : o.guard = none) (x : Operand) (ho : o.op = .convert 9 47 x)
    (s : List UInt8) (hx : a.eval x = .string ⟨s.toArray⟩) (hn : s.length ≤ 1099511627776)
    (h : ∀ c w', Buf w' w.heap.size (some ⟨w.heap.size, 0, none⟩) s.length c s → Below w.heap.size w w' → wpList Tryd.prog ops Q rest (a.put o.dst (.slice (some ⟨w.heap.size, 0, none⟩) s.length c)) w') : wpList Tryd.prog ops Q (o :: rest) a w := by
  refine wpList_plain hgd fun K hK' => ?_
  have hr := run_bytes_of_string (P := Tryd.prog) w 9 47 5 ⟨s.toArray⟩ Tryd.underlying9 Tryd.underlying47 Tryd.underlying5
  have e : (⟨s.toArray⟩ : ByteArray).size = s.length := rfl
  have h1 := grownCap_ge w s.length 0 5
  have h2 := grownCap_le_maxLen w s.length 0 5 (by simp only [maxLen]; omega)
  rw [e] at hr
  have h3 := bytesRow_size s (grownCap w s.length 0 5) h1
  unfold Oper.wp execOp
  simp only [ho, hx, hr, Sem.run_bind, Result.andThen_ok, Sem.run_pure]
  refine hK' _ _ (h _ _ (Buf.made (w := w.drew) (n := s.length) _ _ _ _ (Nat.le_refl _) rfl h1 h2 h3 (.inl (by rw [h3]; exact Nat.le_refl _)) (fun j hj => bytesRow_at s _ j hj)) ?_)
  exact (below_drewN (Below.refl _ _) 1).alloc (Nat.le_refl _) _
/-- The string of a row of bytes. -/
theorem wpList_string_of {ops : Array Oper} {rest : List Oper} {o : Oper} {a : Act} {w : World} {Q : Exit → Act → World → Prop} (hgd : o.guard = none) (x : Operand) (ho : o.op = .convert 47 9 x)
    (s : List UInt8) (A : Option Addr) (c g : Nat) (hx : a.eval x = .slice A s.length c) (hs : Src w g A s)
    (h : wpList Tryd.prog ops Q rest (a.put o.dst (.string ⟨s.toArray⟩)) w) : wpList Tryd.prog ops Q (o :: rest) a w := by
  refine wpList_plain hgd fun K hK' => ?_
  have hr : (convert 47 9 (.slice A s.length c)).run Tryd.prog w = .ok (.string ⟨s.toArray⟩) w := by
    rcases Nat.eq_zero_or_pos s.length with h0 | h0
    · obtain rfl : s = [] := List.eq_nil_of_length_eq_zero h0
      rw [run_convert_bytes_string w _ _ _ A _ c Tryd.underlying47 Tryd.underlying5 Tryd.underlying9]
      cases A <;> rfl
    · obtain ⟨gb, ob, rfl, _, hby⟩ := hs h0
      refine run_convert_bytes_back w 47 9 5 ⟨gb, ob, none⟩ c s Tryd.underlying47 Tryd.underlying5 Tryd.underlying9 (fun j hj => ?_)
      rw [add_row, hby j hj]
      simp [List.getD_eq_getElem?_getD, List.getElem?_eq_getElem hj]
  unfold Oper.wp execOp
  simp only [ho, hx, hr, Sem.run_bind, Result.andThen_ok, Sem.run_pure]
  exact hK' _ _ h
theorem conv_in {W : World} {B n c : Nat} {A : Option Addr} {y : List UInt8} (hn : y.length = n) (h : In W B A c y) : (convert 47 9 (.slice A n c)).run Tryd.prog W = .ok (.string ⟨y.toArray⟩) W := by
  subst hn
  rcases Nat.eq_zero_or_pos y.length with h0 | h0
  · obtain rfl : y = [] := List.eq_nil_of_length_eq_zero h0
    rw [run_convert_bytes_string W _ _ _ A _ c Tryd.underlying47 Tryd.underlying5 Tryd.underlying9]
    cases A <;> rfl
  · obtain ⟨gb, ob, rfl, _, hby⟩ := h.2.2 h0
    refine run_convert_bytes_back W 47 9 5 ⟨gb, ob, none⟩ c y Tryd.underlying47 Tryd.underlying5 Tryd.underlying9 (fun j hj => ?_)
    rw [add_row, hby j hj]
    simp [List.getD_eq_getElem?_getD, List.getElem?_eq_getElem hj]
theorem bytes_append (x y : List UInt8) : (⟨x.toArray⟩ ++ ⟨y.toArray⟩ : ByteArray) = ⟨(x ++ y).toArray⟩ := by
  apply ByteArray.ext
  simp
theorem in_weak {w : World} {B B' c : Nat} {A : Option Addr} {xs : List UInt8} (h : In w B A c xs) (hB : B ≤ B') : In w B' A c xs :=
  ⟨h.1, h.2.1, fun h0 => by
    obtain ⟨gb, ob, e, hb, hby⟩ := h.2.2 h0
    exact ⟨gb, ob, e, by omega, hby⟩⟩
theorem in_up {w w' : World} {c : Nat} {A : Option Addr} {xs : List UInt8} (h : In w w.heap.size A c xs) (hb : Below w.heap.size w w') : In w' w'.heap.size A c xs := in_weak (h.below hb) hb.size
theorem in_blk {w : World} {g n : Nat} {t : TypeId} {xs : List UInt8} (h : Blk w g t (xs.map B8)) (hn : xs.length = n) (hm : n < 1000) : In w w.heap.size (some ⟨g, 0, none⟩) n xs :=
  ⟨by omega, by omega, fun _ => ⟨g, 0, rfl, h.lt, fun j hj => by rw [Nat.zero_add]; exact h.at8 j hj⟩⟩
theorem in_of_blk {w W : World} {g n : Nat} {t : TypeId} {xs : List UInt8} (h : Blk w g t (xs.map B8)) (hn : xs.length = n) (hm : n < 1000) (hb : Below w.heap.size w W) : In W W.heap.size (some ⟨g, 0, none⟩) n xs := in_blk (h.below hb h.lt) hn hm
theorem in_nil (w : World) (c : Nat) (hc : c ≤ 9223372036854775807) (A : Option Addr) : In w w.heap.size A c [] := ⟨Nat.zero_le _, hc, fun h => absurd h (by simp)⟩

/-- Rows of bytes that came in, all below block B. -/
def PIn (w : World) (B : Nat) (A : Option Addr) (c : Nat) (ps : List (List UInt8)) : Prop := ps.length ≤ c ∧ c ≤ 9223372036854775807 ∧ (0 < ps.length → ∃ gp op, A = some ⟨gp, op, none⟩ ∧ gp < B ∧
  ∀ j, j < ps.length → ∃ Aj cj, w.cell? ⟨gp, op + j, none⟩ = some (.slice Aj (ps.getD j []).length cj) ∧ In w B Aj cj (ps.getD j []))
theorem PIn.below {w w' : World} {B : Nat} {A : Option Addr} {c : Nat} {ps : List (List UInt8)} (h : PIn w B A c ps) (hb : Below B w w') : PIn w' B A c ps :=
  ⟨h.1, h.2.1, fun h0 => by
    obtain ⟨gp, op, e, hl, hj⟩ := h.2.2 h0
    refine ⟨gp, op, e, hl, fun j hjl => ?_⟩
    obtain ⟨Aj, cj, hc, hi⟩ := hj j hjl
    exact ⟨Aj, cj, (hb.cell (p := ⟨gp, op + j, none⟩) hl).trans hc, hi.below hb⟩⟩
theorem PIn.parts {w : World} {B g : Nat} {A : Option Addr} {c : Nat} {ps : List (List UInt8)} (h : PIn w B A c ps) (hg : B ≤ g) : Parts w g A ps := fun h0 => by
  obtain ⟨gp, op, e, hl, hj⟩ := h.2.2 h0
  refine ⟨gp, op, e, by omega, fun j hjl => ?_⟩
  obtain ⟨Aj, cj, hc, hi⟩ := hj j hjl
  exact ⟨Aj, cj, hc, hi.1, hi.2.1, hi.src hg⟩

/-- Block g' of a later row stands behind those of all earlier ones. -/
def ownLt : Option Addr → Option Addr → Prop
  | some a, some b => a.block < b.block
  | _, _ => True

/-- Rows of bytes of the call's own (from block base on), behind a slice of its own; each may be written. -/
def Rws (w : World) (base : Nat) (v : Value) (ps : List (List UInt8)) : Prop :=
  ∃ cells : List Value, w.ownsRow base 47 1 v ps.length cells ∧
    (∀ j, j < ps.length → ∃ Aj cj, cells[j]? = some (.slice Aj (ps.getD j []).length cj) ∧ Buf w base Aj (ps.getD j []).length cj (ps.getD j []) ∧ ∀ k, v.ownBlock = some k → ∀ a, Aj = some a → a.block ≠ k) ∧
    (∀ i j, i < j → j < ps.length → ∀ Ai Aj ni nj ci cj, cells[i]? = some (.slice Ai ni ci) → cells[j]? = some (.slice Aj nj cj) → ownLt Ai Aj)
theorem Rws.nil (w : World) (base : Nat) : Rws w base (.slice none 0 0) [] := ⟨[], World.ownsRow_nil w base _ 1, fun j hj => by simp at hj, fun i j _ hj => by simp at hj⟩
/-- Whatever is written elsewhere, the rows stay. -/
theorem Rws.kept {w w' : World} {base : Nat} {v : Value} {ps : List (List UInt8)} {row : Option Nat} (h : Rws w base v ps) (hg : w.grownBy w' row) (hr : ∀ k, row = some k → k < base) : Rws w' base v ps := by
  obtain ⟨cells, ho, hc, hl⟩ := h
  refine ⟨cells, ho.kept hg ?_, fun j hj => ?_, hl⟩
  · cases e : v.ownBlock with
    | none => exact .inl rfl
    | some k =>
      right
      intro e2
      have := (ho.lt k e).1
      have := hr k e2.symm
      omega
  · obtain ⟨Aj, cj, h1, h2, h3⟩ := hc j hj
    refine ⟨Aj, cj, h1, h2.kept hg (fun g e e2 => ?_), h3⟩
    have := (h2.lt e).1
    have := hr g e2.symm
    omega
theorem Rws.below {w w' : World} {base : Nat} {v : Value} {ps : List (List UInt8)} (h : Rws w base v ps) (hg : Below w.heap.size w w') : Rws w' base v ps :=
  h.kept (grown_of_below hg none) (fun _ e => by cases e)
theorem Rws.alloc {w : World} {base : Nat} {v : Value} {ps : List (List UInt8)} (h : Rws w base v ps) (o : Obj) : Rws (w.alloc o) base v ps := h.below ((Below.refl _ _).alloc (Nat.le_refl _) o)
theorem Rws.drew {w : World} {base : Nat} {v : Value} {ps : List (List UInt8)} (h : Rws w base v ps) : Rws w.drew base v ps := h
theorem Rws.base_le {w : World} {base base' : Nat} {v : Value} {ps : List (List UInt8)} (h : Rws w base v ps) (hb : base' ≤ base) : Rws w base' v ps := by
  obtain ⟨cells, ho, hc, hl⟩ := h
  refine ⟨cells, ⟨ho.1, ?_⟩, fun j hj => ?_, hl⟩
  · rcases ho.2 with h0 | ⟨g, cap, cur, e, hbg, r⟩
    · exact .inl h0
    · exact .inr ⟨g, cap, cur, e, by omega, r⟩
  · obtain ⟨Aj, cj, h1, h2, h3⟩ := hc j hj
    exact ⟨Aj, cj, h1, h2.base hb, h3⟩
theorem Rws.slice {w : World} {base : Nat} {v : Value} {ps : List (List UInt8)} (h : Rws w base v ps) :
    ∃ A c, v = .slice A ps.length c ∧ PIn w w.heap.size A c ps ∧ ∀ g, g < base → Parts w g A ps := by
  obtain ⟨cells, ho, hc, hl⟩ := h
  rcases ho.2 with ⟨rfl, h0⟩ | ⟨g, cap, cur, rfl, hb, hg, hnc, hcm, hcs, ht⟩
  · exact ⟨none, 0, by rw [h0], ⟨by omega, by omega, fun h1 => by omega⟩, fun g hg h1 => by omega⟩
  · have hlt : g < w.heap.size := by
      rcases Nat.lt_or_ge g w.heap.size with hlt | hge
      · exact hlt
      · rw [Array.getElem?_eq_none hge] at hg; cases hg
    have hcell : ∀ j, j < ps.length → w.cell? ⟨g, 0 + j, none⟩ = cells[j]? := fun j hj => by
      rw [Nat.zero_add, ho.cellAt j (by omega)]
    have hmx : cap ≤ 9223372036854775807 := by simpa [maxLen] using hcm
    refine ⟨some ⟨g, 0, none⟩, cap, rfl, ⟨hnc, hmx, fun _ => ⟨g, 0, rfl, hlt, fun j hj => ?_⟩⟩, fun g' hg' _ => ⟨g, 0, rfl, by omega, fun j hj => ?_⟩⟩
    · obtain ⟨Aj, cj, h1, h2, h3⟩ := hc j hj
      exact ⟨Aj, cj, (hcell j hj).trans h1, h2.toIn (Nat.le_refl _)⟩
    · obtain ⟨Aj, cj, h1, h2, h3⟩ := hc j hj
      refine ⟨Aj, cj, (hcell j hj).trans h1, h2.le.1, h2.le.2, h2.src (fun k e => ?_)⟩
      have := (h2.lt e).1
      omega

/-- Bytes more behind a row of the call's own, at a step of a region that draws its order. -/
theorem step_append_bufm {ops : Array Oper} {o : Oper} {a : Act} {w : World} {K : Act → World → Prop} {Q : Exit → Act → World → Prop} {E : Prop} (hgd : o.guard = none) (s x : Operand) (tx : TypeId)
    (ho : o.op = .call { callee := .builtin .append, args := #[s, x], argTypes := #[47, tx] })
    (base : Nat) (A : Option Addr) (n c : Nat) (bs ys : List UInt8) (v : Value) (hs : a.eval s = .slice A n c) (hb : Buf w base A n c bs) (hx : a.eval x = v) (hsrc : _root_.Go.Src Tryd.prog 1 tx v ys.length (ys.map B8) w)
    (hn : n + ys.length ≤ 1099511627776) (hbase : base ≤ w.heap.size) (m : Nat) (hm : m = n + ys.length)
    (h : ∀ A' c' w', Buf w' base A' m c' (bs ++ ys) → w.grownBy w' (ownOf A) → K (a.put o.dst (.slice A' m c')) w') : if Region.wanted o (yielded ops a.tmps) = true then Oper.wp Tryd.prog o a w K Q else E := by
  subst hm
  have hw : Region.wanted o (yielded ops a.tmps) = true := by simp [Region.wanted, hgd]
  rw [if_pos hw]
  obtain ⟨A', c', w', hr, h1, h2⟩ := run_append_buf tx o.type base A n c bs ys v w hb hsrc hn hbase
  unfold Oper.wp execOp
  simp only [ho, resolve, invoke, builtin, Sem.run_bind, Sem.run_pure, Result.andThen_ok, List.map_toArray, List.map_cons, List.map_nil, hs, hx, hr]
  exact h A' c' w' h1 h2

theorem Rws.lt {w : World} {base : Nat} {v : Value} {ps : List (List UInt8)} (h : Rws w base v ps) : ∀ k, v.ownBlock = some k → base ≤ k ∧ k < w.heap.size := by
  obtain ⟨cells, ho, _⟩ := h; exact ho.lt
/-- Where a row lies behind an append: where it lay, or in a new block. -/
def Fresh (w : World) (A A' : Option Addr) : Prop := A' = A ∨ ∃ g, A' = some ⟨g, 0, none⟩ ∧ w.heap.size ≤ g
/-- Two rows that lie in two blocks. -/
def Apart (A B : Option Addr) : Prop := ∀ a b, A = some a → B = some b → a.block ≠ b.block
theorem Apart.symm {A B : Option Addr} (h : Apart A B) : Apart B A := fun a b e1 e2 e3 => h b a e2 e1 e3.symm
theorem Apart.fresh {w : World} {base n c : Nat} {A A' B : Option Addr} {bs : List UInt8} (h : Apart A B) (hb : Buf w base B n c bs) (hf : Fresh w A A') : Apart A' B := by
  rcases hf with rfl | ⟨g, rfl, hg⟩
  · exact h
  · intro a b e1 e2
    cases e1
    rcases hb.2 with ⟨rfl, _⟩ | ⟨q, rfl, _, hq, _⟩
    · cases e2
    · cases e2; show g ≠ q; omega
theorem Buf.apart {w w' : World} {base n c : Nat} {A B : Option Addr} {bs : List UInt8} (h : Buf w base B n c bs) (hg : w.grownBy w' (ownOf A)) (ha : Apart A B) : Buf w' base B n c bs :=
  h.kept hg (fun g e e2 => by
    cases A with
    | none => simp [ownOf] at e2
    | some a => simp only [ownOf, Option.some.injEq] at e2; exact ha a _ rfl e e2.symm)
/-- What an append of bytes makes, from whatever source; what was appended to reads as it did. -/
theorem run_append_far (tx ty : TypeId) (base : Nat) (A : Option Addr) (n c : Nat) (bs ys : List UInt8) (x : Value) (w : World) (hb : Buf w base A n c bs) (hs : _root_.Go.Src Tryd.prog 1 tx x ys.length (ys.map B8) w)
    (hn : n + ys.length ≤ 1099511627776) (hbase : base ≤ w.heap.size) :
    ∃ A' c' w', (Builtin.append_ #[47, tx] ty #[.slice A n c, x]).run Tryd.prog w = .ok (.slice A' (n + ys.length) c') w' ∧ Buf w' base A' (n + ys.length) c' (bs ++ ys) ∧ w.grownBy w' (ownOf A) ∧ Buf w' base A n c bs ∧ Fresh w A A' := by
  obtain ⟨i, hi, hz, hsz, hby⟩ := info_parts infoB
  have hl : (bs ++ ys).length = n + ys.length := by rw [List.length_append, hb.1]
  have hs' : _root_.Go.Src Tryd.prog i.size tx x ys.length (ys.map B8) w := by rw [hsz]; exact hs
  have hone := hb.le
  by_cases hroom : n + ys.length ≤ c
  · rcases hb.2 with ⟨rfl, rfl, rfl⟩ | ⟨g, rfl, hbg, hlt, hnc, hcm, hbytes, hall⟩
    · have hy : ys = [] := List.eq_nil_of_length_eq_zero (by omega)
      subst hy
      have hbs : bs = [] := List.eq_nil_of_length_eq_zero hb.1
      subst hbs
      exact ⟨none, 0, w, run_append_nothing w 47 tx ty 5 i Tryd.underlying47 hi none 0 0 (Nat.le_refl _) x hs', Buf.nil _ _, grown_refl _ _, hb, .inl rfl⟩
    · have hr := run_append_room_src w 47 tx ty 5 i Tryd.underlying47 hi g 0 n c x ys.length (ys.map B8) hs' hroom (fun j hj => (hall (0 + n * i.size + j) (by rw [hsz]; simp at hj; omega)).1) (fun j hj => (hall (0 + n * i.size + j) (by rw [hsz]; simp at hj; omega)).2)
      rw [hsz] at hr
      simp only [Nat.zero_add, Nat.mul_one] at hr
      have hkeep : Buf (w.setCells g n (ys.map B8)) base (some ⟨g, 0, none⟩) n c bs := ⟨hb.1, .inr ⟨g, rfl, hbg, Nat.lt_of_lt_of_le hlt (grown_setCells w g n (ys.map B8)).size, hnc, hcm, fun j hj => by
          have := hbytes j hj
          rw [Nat.zero_add] at this ⊢
          rw [World.cell?_setCells_out g _ n w _ (fun _ _ => .inl (show j < n by rw [hb.1] at hj; exact hj)), this], fun j hj => ⟨World.isSome_setCells g _ n w _ (hall j hj).1, by rw [World.frozen?_setCells]; exact (hall j hj).2⟩⟩⟩
      refine ⟨_, _, _, hr, ⟨hl, .inr ⟨g, rfl, hbg, ?_, hroom, hcm, fun j hj => ?_, fun j hj => ⟨?_, ?_⟩⟩⟩, grown_setCells _ _ _ _, hkeep, .inl rfl⟩
      · exact Nat.lt_of_lt_of_le hlt (grown_setCells w g n (ys.map B8)).size
      · rw [Nat.zero_add]
        by_cases hjn : j < n
        · rw [World.cell?_setCells_out g _ n w _ (fun _ _ => .inl hjn)]
          have := hbytes j (by rw [hb.1]; exact hjn)
          rw [Nat.zero_add] at this
          rw [this]
          simp [List.getD_eq_getElem?_getD, List.getElem?_append_left (show j < bs.length by rw [hb.1]; exact hjn)]
        · obtain ⟨k, rfl⟩ : ∃ k, j = n + k := ⟨j - n, by omega⟩
          have hk : k < ys.length := by omega
          rw [World.cell?_setCells_in g (ys.map B8) n w (fun k hk => (hall (n + k) (by simp at hk; omega)).1) k (by simpa using hk)]
          have e : (bs ++ ys).getD (n + k) 0 = ys.getD k 0 := by
            rw [List.getD_eq_getElem?_getD, List.getElem?_append_right (by rw [hb.1]; omega), hb.1, show n + k - n = k by omega, ← List.getD_eq_getElem?_getD]
          rw [e]
          simp [List.getD_eq_getElem?_getD, List.getElem?_eq_getElem hk]
      · exact World.isSome_setCells g _ n w _ (hall j hj).1
      · rw [World.frozen?_setCells]; exact (hall j hj).2
  · have hold : (Builtin.firstCells i.size n (.slice A n c)).run Tryd.prog w.drew = .ok ((bs.map B8).toArray) w.drew := by
      rcases hb.2 with ⟨rfl, rfl, rfl⟩ | ⟨g, rfl, hbg, hlt, hnc, hcm, hbytes, hall⟩
      · have hbs : bs = [] := List.eq_nil_of_length_eq_zero hb.1
        subst hbs
        exact run_firstCells_none w.drew i.size 0 0 0
      · refine run_firstCells_some w.drew i.size n ⟨g, 0, none⟩ n c (bs.map B8) (by rw [hsz, List.length_map, hb.1, Nat.mul_one]) (fun j u hu => ?_)
        have hj : j < bs.length := by have := (List.getElem?_eq_some_iff.1 hu).1; simpa using this
        rw [getD_map8 bs j hj] at hu
        rw [← Option.some.inj hu, add_row]
        exact hbytes j hj
    have hcap := grownCap_ge w (n + ys.length) c 5
    have hcap2 := grownCap_le_maxLen w (n + ys.length) c 5 (by simp only [maxLen]; omega)
    have hnext : Builtin.nextslicecap (n + ys.length) c * i.bytes ≤ 281474976710656 := by
      rw [hby, Nat.mul_one]
      have := nextslicecap_le (show c < n + ys.length by omega)
      omega
    have hr := run_append_grow_src w 47 tx ty 5 i (.int .u8 0) Tryd.underlying47 hi hz A n c (bs.map B8) hold x ys.length (ys.map B8) hs' (by omega) (by omega) hnext
    refine ⟨_, _, _, hr, ?_, grown_alloc (grown_drew (grown_refl _ _)) _, (hb.drew).alloc _, .inr ⟨_, rfl, Nat.le_refl _⟩⟩
    refine Buf.made (w := w.drew) (n := n + ys.length) _ _ 0 0 hbase hl hcap hcap2 ?_ (.inr rfl) (fun j hj => ?_)
    · simp [size_zeroCells, Value.cells, hb.1]; omega
    · rw [← List.map_append, Array.getElem?_append_left (by simp [hb.1]; omega)]
      rw [List.getElem?_toArray]
      exact getD_map8 _ j (by omega)
theorem run_append_keep (tx ty : TypeId) (base : Nat) (A : Option Addr) (n c : Nat) (bs ys : List UInt8) (x : Value) (w : World) (hb : Buf w base A n c bs) (hs : _root_.Go.Src Tryd.prog 1 tx x ys.length (ys.map B8) w)
    (hn : n + ys.length ≤ 1099511627776) (hbase : base ≤ w.heap.size) :
    ∃ A' c' w', (Builtin.append_ #[47, tx] ty #[.slice A n c, x]).run Tryd.prog w = .ok (.slice A' (n + ys.length) c') w' ∧ Buf w' base A' (n + ys.length) c' (bs ++ ys) ∧ w.grownBy w' (ownOf A) ∧ Buf w' base A n c bs := by
  obtain ⟨A', c', w', h1, h2, h3, h4, _⟩ := run_append_far tx ty base A n c bs ys x w hb hs hn hbase
  exact ⟨A', c', w', h1, h2, h3, h4⟩
/-- Bytes more behind a row of the call's own, at a step of a region that draws its order; the row itself reads as it did. -/
theorem step_append_keep {ops : Array Oper} {o : Oper} {a : Act} {w : World} {K : Act → World → Prop} {Q : Exit → Act → World → Prop} {E : Prop} (hwt : Region.wanted o (yielded ops a.tmps) = true) (s x : Operand) (tx : TypeId)
    (ho : o.op = .call { callee := .builtin .append, args := #[s, x], argTypes := #[47, tx] })
    (base : Nat) (A : Option Addr) (n c : Nat) (bs ys : List UInt8) (v : Value) (hs : a.eval s = .slice A n c) (hb : Buf w base A n c bs) (hx : a.eval x = v) (hsrc : _root_.Go.Src Tryd.prog 1 tx v ys.length (ys.map B8) w)
    (hn : n + ys.length ≤ 1099511627776) (hbase : base ≤ w.heap.size) (m : Nat) (hm : m = n + ys.length)
    (h : ∀ A' c' w', Buf w' base A' m c' (bs ++ ys) → w.grownBy w' (ownOf A) → Buf w' base A n c bs → K (a.put o.dst (.slice A' m c')) w') : if Region.wanted o (yielded ops a.tmps) = true then Oper.wp Tryd.prog o a w K Q else E := by
  subst hm
  rw [if_pos hwt]
  obtain ⟨A', c', w', hr, h1, h2, h3⟩ := run_append_keep tx o.type base A n c bs ys v w hb hsrc hn hbase
  unfold Oper.wp execOp
  simp only [ho, resolve, invoke, builtin, Sem.run_bind, Sem.run_pure, Result.andThen_ok, List.map_toArray, List.map_cons, List.map_nil, hs, hx, hr]
  exact h A' c' w' h1 h2 h3
/-- The same in a plain region. -/
theorem wpList_append_keep {ops : Array Oper} {rest : List Oper} {o : Oper} {a : Act} {w : World} {Q : Exit → Act → World → Prop} (hgd : o.guard = none) (s x : Operand) (tx : TypeId)
    (ho : o.op = .call { callee := .builtin .append, args := #[s, x], argTypes := #[47, tx] })
    (base : Nat) (A : Option Addr) (n c : Nat) (bs ys : List UInt8) (v : Value) (hs : a.eval s = .slice A n c) (hb : Buf w base A n c bs) (hx : a.eval x = v) (hsrc : _root_.Go.Src Tryd.prog 1 tx v ys.length (ys.map B8) w)
    (hn : n + ys.length ≤ 1099511627776) (hbase : base ≤ w.heap.size) (m : Nat) (hm : m = n + ys.length)
    (h : ∀ A' c' w', Buf w' base A' m c' (bs ++ ys) → w.grownBy w' (ownOf A) → Buf w' base A n c bs → wpList Tryd.prog ops Q rest (a.put o.dst (.slice A' m c')) w') : wpList Tryd.prog ops Q (o :: rest) a w := by
  subst hm
  refine wpList_plain hgd fun K hK' => ?_
  obtain ⟨A', c', w', hr, h1, h2, h3⟩ := run_append_keep tx o.type base A n c bs ys v w hb hsrc hn hbase
  unfold Oper.wp execOp
  simp only [ho, resolve, invoke, builtin, Sem.run_bind, Sem.run_pure, Result.andThen_ok, List.map_toArray, List.map_cons, List.map_nil, hs, hx, hr]
  exact hK' _ _ (h A' c' w' h1 h2 h3)
theorem buf_empty (w : World) : Buf (w.alloc (.cells #[] 5)) w.heap.size (some ⟨w.heap.size, 0, none⟩) 0 0 [] :=
  Buf.made (w := w) #[] 5 0 0 (Nat.le_refl _) rfl (Nat.le_refl _) (by decide) rfl (.inr rfl) (fun j hj => by omega)
theorem In.up {w w' : World} {A : Option Addr} {c : Nat} {xs : List UInt8} (h : In w w.heap.size A c xs) (hb : Below w.heap.size w w') : In w' w'.heap.size A c xs :=
  ⟨h.1, h.2.1, fun h0 => by
    obtain ⟨gb, ob, e, hl, hby⟩ := h.2.2 h0
    exact ⟨gb, ob, e, Nat.lt_of_lt_of_le hl hb.size, hby.below hb hl⟩⟩
theorem Bytes.set {w : World} {g i : Nat} {bs : List UInt8} (h : Bytes w g 0 bs) (hi : i < bs.length) (y : UInt8) : Bytes (w.setCell ⟨g, i, none⟩ (B8 y)) g 0 (bs.set i y) := fun j hj => by
  rw [List.length_set] at hj
  have h1 := h j hj
  rw [Nat.zero_add] at h1 ⊢
  by_cases e : i = j
  · subst e
    rw [World.cell?_setCell_same _ _ _ h1]
    simp [List.getD_eq_getElem?_getD, hi]
  · rw [cell_past w g i j e, h1]
    simp [List.getD_eq_getElem?_getD, e]
theorem Buf.notFrozen {w : World} {base n c g j : Nat} {bs : List UInt8} (h : Buf w base (some ⟨g, 0, none⟩) n c bs) (hj : j < c) : w.frozen? ⟨g, j, none⟩ = false := by
  rcases h.2 with ⟨e, _⟩ | ⟨q, e, _, _, _, _, _, hall⟩
  · cases e
  · cases e; exact (hall j hj).2
/-- One place of a row of the call's own is written. -/
theorem Buf.set {w : World} {base n c g i : Nat} {bs : List UInt8} (h : Buf w base (some ⟨g, 0, none⟩) n c bs) (hi : i < n) (y : UInt8) : Buf (w.setCell ⟨g, i, none⟩ (B8 y)) base (some ⟨g, 0, none⟩) n c (bs.set i y) := by
  refine ⟨by rw [List.length_set]; exact h.1, ?_⟩
  rcases h.2 with ⟨e, _⟩ | ⟨q, e, h1, h2, h3, h4, h5, hall⟩
  · cases e
  · cases e
    refine .inr ⟨g, rfl, h1, by simpa [World.setCell] using h2, h3, h4, h5.set (by rw [h.1]; exact hi) y, fun j hj => ⟨?_, ?_⟩⟩
    · by_cases e : i = j
      · subst e
        obtain ⟨v, hv⟩ := Option.isSome_iff_exists.1 (hall i hj).1
        rw [World.cell?_setCell_same _ _ _ hv]; rfl
      · rw [cell_past w g i j e]; exact (hall j hj).1
    · rw [frozen_past]; exact (hall j hj).2
/-- The same in a plain region, and where the row lies. -/
theorem wpList_append_far {ops : Array Oper} {rest : List Oper} {o : Oper} {a : Act} {w : World} {Q : Exit → Act → World → Prop} (hgd : o.guard = none) (s x : Operand) (tx : TypeId)
    (ho : o.op = .call { callee := .builtin .append, args := #[s, x], argTypes := #[47, tx] })
    (base : Nat) (A : Option Addr) (n c : Nat) (bs ys : List UInt8) (v : Value) (hs : a.eval s = .slice A n c) (hb : Buf w base A n c bs) (hx : a.eval x = v) (hsrc : _root_.Go.Src Tryd.prog 1 tx v ys.length (ys.map B8) w)
    (hn : n + ys.length ≤ 1099511627776) (hbase : base ≤ w.heap.size) (m : Nat) (hm : m = n + ys.length)
    (h : ∀ A' c' w', Buf w' base A' m c' (bs ++ ys) → w.grownBy w' (ownOf A) → Fresh w A A' → wpList Tryd.prog ops Q rest (a.put o.dst (.slice A' m c')) w') : wpList Tryd.prog ops Q (o :: rest) a w := by
  subst hm
  refine wpList_plain hgd fun K hK' => ?_
  obtain ⟨A', c', w', hr, h1, h2, _, h3⟩ := run_append_far tx o.type base A n c bs ys v w hb hsrc hn hbase
  unfold Oper.wp execOp
  simp only [ho, resolve, invoke, builtin, Sem.run_bind, Sem.run_pure, Result.andThen_ok, List.map_toArray, List.map_cons, List.map_nil, hs, hx, hr]
  exact hK' _ _ (h A' c' w' h1 h2 h3)

open Go.ChangeShapes Go.WideShapes Go.ChangeAt Go.RowKit
/-- A slice of bytes that reads comes in as bytes. -/
theorem in_of_trod {H : Type} {enc : TypeId × Value → H} {W : World} {a : Option Addr} {len cap : Nat} {d : DataW H} {p : List MemPlace}
    (h : DataW.Trod enc Tryd.prog W 0 (fun _ => true) true 47 (.slice a len cap) d p) : ∃ xs : List UInt8, xs.length = len ∧ In W W.heap.size a cap xs := by
  obtain ⟨fuel, hf⟩ := h
  rcases open_ints Tryd.underlying47 Tryd.underlying5 (by kernel_rfl) hf with ⟨hcs, _⟩ | ⟨x, l, c, zs, hcs, _, hl, hm, hz, _, hcell, hwz⟩
  · simp [Value.cells] at hcs
    obtain ⟨rfl, rfl, rfl⟩ := hcs
    exact ⟨[], rfl, by simp, by omega, fun h => absurd h (by simp)⟩
  · simp [Value.cells] at hcs
    obtain ⟨rfl, rfl, rfl⟩ := hcs
    have hzc : zs.length = cap := by simpa using hz
    refine ⟨(zs.take len).map fun n => UInt8.ofNat n.toNat, by simp; omega, by simp; omega, by simpa [maxLen] using hm, fun h0 => ?_⟩
    have h0' : 0 < zs.length := by simp at h0; omega
    obtain ⟨b, off, rfl, hc⟩ := ints_at hcell h0'
    refine ⟨b, off, rfl, block_lt_of_cell (hc 0 h0'), fun j hj => ?_⟩
    have hj' : j < zs.length := by simp at hj; omega
    have hjl : j < len := by simp at hj; omega
    rw [hc j hj']
    have hw := hwz (zs.getD j 0) (by rw [List.getD_eq_getElem?_getD, List.getElem?_eq_getElem hj']; exact List.getElem_mem _)
    have hb : 0 ≤ zs.getD j 0 ∧ zs.getD j 0 ≤ 255 := by simpa [Lit.wf, IntKind.min, IntKind.max, IntKind.signed, IntKind.bits] using hw
    have e : ((zs.take len).map fun n => UInt8.ofNat n.toNat).getD j 0 = UInt8.ofNat (zs.getD j 0).toNat := by
      simp [List.getD_eq_getElem?_getD, hjl, List.getElem?_eq_getElem hj']
    rw [e]
    have e2 : ((UInt8.ofNat (zs.getD j 0).toNat).toNat : Int) = zs.getD j 0 := by
      rw [UInt8.toNat_ofNat']
      omega
    rw [e2]

theorem in_drop {w : World} {B gb ob c : Nat} {xs : List UInt8} (h : In w B (some ⟨gb, ob, none⟩) c xs) (k : Nat) (hk : k ≤ xs.length) :
    In w B (if c = k then some ⟨gb, ob, none⟩ else some ⟨gb, ob + k, none⟩) (c - k) (xs.drop k) :=
  ⟨by have := h.1; rw [List.length_drop]; omega, by have := h.2.1; omega, fun h0 => by
    rw [List.length_drop] at h0
    obtain ⟨g', o', e, hl, hby⟩ := h.2.2 (by omega)
    cases e
    have hc := h.1
    refine ⟨gb, ob + k, if_neg (by omega), hl, fun j hj => ?_⟩
    rw [List.length_drop] at hj
    have := hby (k + j) (by omega)
    rw [Nat.add_assoc, this]
    simp [List.getD_eq_getElem?_getD, List.getElem?_drop]⟩
theorem wrap_ofNat (n : Nat) : IntKind.u8.wrap (n : Int) = ((UInt8.ofNat n).toNat : Int) := by
  rw [IntKind.wrap_u8]; simp
theorem buf_lit (w : World) (xs : List UInt8) (n : Nat) (t : TypeId) (hn : xs.length = n) (hm : n < 1000) : Buf (w.alloc (.cells (xs.map B8).toArray t)) w.heap.size (some ⟨w.heap.size, 0, none⟩) n n xs :=
  Buf.made _ t _ _ (Nat.le_refl _) hn (Nat.le_refl _) (by unfold maxLen; omega) (by simpa using hn) (.inr rfl) (fun j hj => by
    rw [List.getElem?_toArray]
    exact getD_map8 xs j (by omega))
theorem eql_nil_slice (w : World) (a : Option Addr) (l c : Nat) : (binOp .eql 47 (.slice a l c) (.slice none 0 0)).run Tryd.prog w = .ok (.bool a.isNone) w := by
  exact _root_.Go.run_eql_slice_nil w _ _ a l c Tryd.underlying47
theorem src_at {w : World} {A : Option Addr} {g n c : Nat} {s : List UInt8} (h : Src w g A s) (hs : s.length = n) : _root_.Go.Src Tryd.prog 1 47 (.slice A n c) s.length (s.map B8) w := by
  have := src_in' (c := c) h
  rwa [hs] at this ⊢
theorem buf_zeros (w : World) (n : Nat) (hm : n ≤ 1000000) : Buf (w.alloc (.cells ((List.replicate n (0 : UInt8)).map B8).toArray 5)) w.heap.size (some ⟨w.heap.size, 0, none⟩) n n (List.replicate n 0) :=
  Buf.made _ _ _ _ (Nat.le_refl _) List.length_replicate (Nat.le_refl _) (by unfold maxLen; omega) (by simp) (.inr rfl) (fun j hj => by
    rw [List.getElem?_toArray]
    exact getD_map8 _ j (by rw [List.length_replicate]; exact hj))
theorem madeCells_zeros (c : Nat) : madeCells #[.int .u8 0] c = ((List.replicate c (0 : UInt8)).map B8).toArray := by
  have h := toList_madeCells_one (.int .u8 0) c
  apply Array.toList_inj.1
  rw [h, List.map_replicate]; rfl

theorem run_make_bytes (kl kc : IntKind) (n c : Nat) (hnc : n ≤ c) (hc : c ≤ 1099511627776) (w : World) :
    (Instr.makeSlice 47 (.int kl (n : Int)) (.int kc (c : Int))).run Tryd.prog w = .ok (.slice (some ⟨w.heap.size, 0, none⟩) n c) (w.alloc (.cells ((List.replicate c (0 : UInt8)).map B8).toArray 5)) := by
  obtain ⟨i, hi, hz, hs, hb⟩ := info_parts infoB
  have h := run_make (P := Tryd.prog) w 47 5 i (.int .u8 0) Tryd.underlying47 hi hz kl kc n c (by omega) (by omega) (by rw [hb]; omega) (by omega)
  rw [h, hs]
  simp only [Int.toNat_natCast, Nat.mul_one]
  rw [show Value.cells (.int .u8 0) = #[.int .u8 0] from rfl, madeCells_zeros]
end Go.Proofs.YtnkikhnllnbhfaaDoor
