/-
  Joined: Sha, Mem, Fold.
-/
import Derived.WalkKit
import Derived.WalkSpells
import Derived.WalkLawsBesides
import Derived.Lib.Hide
import Derived.Below
import Derived.Laws.OwnMore
import Derived.Deep.Draws
import Derived.Laws.Rows
import Derived.Laws.Tables
import Derived.Laws.CopyOwn
namespace Go.Proofs.YtagblbfbjemfhaaDoor
section
open Go.RowKit
abbrev U32 (x : UInt32) : Value := .int .u32 (x.toNat : Int)
abbrev B8 (x : UInt8) : Value := .int .u8 (x.toNat : Int)

/-- A word turned to the right by n bits. -/
def rotr (n : Nat) (x : UInt32) : UInt32 := (x <<< UInt32.ofNat (32 - n)) ||| (x >>> UInt32.ofNat n)
/-- A word turned to the left by n bits. -/
def rotl (n : Nat) (x : UInt32) : UInt32 := (x <<< UInt32.ofNat n) ||| (x >>> UInt32.ofNat (32 - n))

/-- The word that stands at place i of a block, the highest byte first. -/
def beWord (b : List UInt8) (i : Nat) : UInt32 :=
  ((b.getD (4 * i) 0).toUInt32 <<< 24) ||| ((b.getD (4 * i + 1) 0).toUInt32 <<< 16) ||| ((b.getD (4 * i + 2) 0).toUInt32 <<< 8) ||| (b.getD (4 * i + 3) 0).toUInt32
def small0 (x : UInt32) : UInt32 := rotr 7 x ^^^ rotr 18 x ^^^ (x >>> 3)
def small1 (y : UInt32) : UInt32 := rotr 17 y ^^^ rotr 19 y ^^^ (y >>> 10)
/-- The schedule of a block after i of its 64 words. -/
def schedTo (b : List UInt8) : Nat → List UInt32
  | 0 => List.replicate 64 0
  | i + 1 =>
    let L := schedTo b i
    L.set i (if i < 16 then beWord b i else L.getD (i - 16) 0 + small0 (L.getD (i - 15) 0) + L.getD (i - 7) 0 + small1 (L.getD (i - 2) 0))
/-- What the rounds add: the fractions of the cube roots of the first 64 primes. -/
def kTab : List UInt32 := [1116352408, 1899447441, 3049323471, 3921009573, 961987163, 1508970993, 2453635748, 2870763221, 3624381080, 310598401, 607225278, 1426881987, 1925078388, 2162078206, 2614888103, 3248222580, 3835390401, 4022224774, 264347078, 604807628, 770255983, 1249150122, 1555081692, 1996064986, 2554220882, 2821834349, 2952996808, 3210313671, 3336571891, 3584528711, 113926993, 338241895, 666307205, 773529912, 1294757372, 1396182291, 1695183700, 1986661051, 2177026350, 2456956037, 2730485921, 2820302411, 3259730800, 3345764771, 3516065817, 3600352804, 4094571909, 275423344, 430227734, 506948616, 659060556, 883997877, 958139571, 1322822218, 1537002063, 1747873779, 1955562222, 2024104815, 2227730452, 2361852424, 2428436474, 2756734187, 3204031479, 3329325298]
/-- Eight words. -/
structure St where
  a : UInt32
  b : UInt32
  c : UInt32
  d : UInt32
  e : UInt32
  f : UInt32
  g : UInt32
  h : UInt32
/-- The fractions of the square roots of the first eight primes. -/
def first : St := ⟨1779033703, 3144134277, 1013904242, 2773480762, 1359893119, 2600822924, 528734635, 1541459225⟩
def St.words (s : St) : List UInt32 := [s.a, s.b, s.c, s.d, s.e, s.f, s.g, s.h]
def St.vals (s : St) : List Value := [U32 s.a, U32 s.b, U32 s.c, U32 s.d, U32 s.e, U32 s.f, U32 s.g, U32 s.h]
def big1 (e : UInt32) : UInt32 := rotr 6 e ^^^ rotr 11 e ^^^ rotr 25 e
def big0 (a : UInt32) : UInt32 := rotr 2 a ^^^ rotr 13 a ^^^ rotr 22 a
def choice (e f g : UInt32) : UInt32 := (e &&& f) ^^^ (~~~e &&& g)
def majority (a b c : UInt32) : UInt32 := (a &&& b) ^^^ (a &&& c) ^^^ (b &&& c)
/-- One round. -/
def rnd (k w : UInt32) (s : St) : St :=
  let t1 := s.h + big1 s.e + choice s.e s.f s.g + k + w
  ⟨t1 + (big0 s.a + majority s.a s.b s.c), s.a, s.b, s.c, s.d + t1, s.e, s.f, s.g⟩
def rnds (W : List UInt32) : Nat → St → St
  | 0, s => s
  | n + 1, s => rnd (kTab.getD n 0) (W.getD n 0) (rnds W n s)
def addSt (s t : St) : St := ⟨s.a + t.a, s.b + t.b, s.c + t.c, s.d + t.d, s.e + t.e, s.f + t.f, s.g + t.g, s.h + t.h⟩
/-- What a block of 64 bytes makes of the words. -/
def comp (s : St) (b : List UInt8) : St := addSt s (rnds (schedTo b 64) 64 s)

end
section
open Go.RowKit
def Blk (w : World) (g : Nat) (t : TypeId) (cs : List Value) : Prop := w.heap[g]? = some (.cells cs.toArray t (0, 0))

section
variable {w w' : World} {g : Nat} {t : TypeId} {cs : List Value}
theorem Blk.lt (h : Blk w g t cs) : g < w.heap.size := by
  rcases Nat.lt_or_ge g w.heap.size with hlt | hge
  · exact hlt
  · unfold Blk at h; rw [Array.getElem?_eq_none hge] at h; cases h
theorem Blk.cell (h : Blk w g t cs) (i : Nat) : w.cell? ⟨g, i, none⟩ = cs[i]? := by
  rw [cell_of_row w g i cs.toArray t (0, 0) h]; simp
theorem Blk.frozen (h : Blk w g t cs) (i : Nat) : w.frozen? ⟨g, i, none⟩ = false := by
  unfold Blk at h
  simp [World.frozen?, h]
theorem Blk.new (w : World) (t : TypeId) (cs : List Value) : Blk (w.alloc (.cells cs.toArray t)) w.heap.size t cs := heap_alloc_new w _
theorem Blk.new_of (w : World) (t : TypeId) (arr : Array Value) (cs : List Value) (h : arr = cs.toArray) : Blk (w.alloc (.cells arr t)) w.heap.size t cs := by subst h; exact heap_alloc_new w _
theorem Blk.row (h : Blk w g t cs) (ds : List Value) : Blk (w.setRow g ds.toArray) g t ds := setRow_heap w g cs.toArray ds.toArray t (0, 0) h
theorem Blk.drewN (h : Blk w g t cs) (n : Nat) : Blk (w.drewN n) g t cs := h
theorem Blk.set_ (h : Blk w g t cs) (i : Nat) (u : Value) : Blk (w.setCell ⟨g, i, none⟩ u) g t (cs.set i u) := by
  unfold Blk at h ⊢
  simp [World.setCell, Array.getElem?_modify, h]
theorem Blk.below {B : Nat} (h : Blk w g t cs) (hb : Below B w w') (hg : g < B) : Blk w' g t cs := (hb.block g hg).trans h
theorem Blk.grown {row : Option Nat} (h : Blk w g t cs) (hb : w.grownBy w' row) (hg : some g ≠ row) : Blk w' g t cs := (hb.block g h.lt hg).trans h
end
theorem add_row (g o n : Nat) : (⟨g, o, none⟩ : Addr).add n = ⟨g, o + n, none⟩ := by
  unfold Addr.add; split <;> simp_all

/-- The cells of block g from place o on hold these bytes. -/
def Bytes (w : World) (g o : Nat) (bs : List UInt8) : Prop := ∀ j, j < bs.length → w.cell? ⟨g, o + j, none⟩ = some (.int .u8 (bs.getD j 0).toNat)
theorem Bytes.below {w w' : World} {g o B : Nat} {bs : List UInt8} (h : Bytes w g o bs) (hb : Below B w w') (hg : g < B) : Bytes w' g o bs :=
  fun j hj => (hb.cell (p := ⟨g, o + j, none⟩) hg).trans (h j hj)
theorem getD_map8 (L : List UInt8) (i : Nat) (h : i < L.length) : (L.map B8)[i]? = some (B8 (L.getD i 0)) := by
  simp [List.getElem?_map, List.getD_eq_getElem?_getD, List.getElem?_eq_getElem h]
theorem one8 (L : List UInt8) : (L.map B8).toArray.all (·.oneCell') = true := by
  rw [Array.all_eq_true_iff_forall_mem]; intro v hv; simp at hv; obtain ⟨x, _, rfl⟩ := hv; rfl
theorem below_drewN {B : Nat} {a w : World} (h : Below B a w) (n : Nat) : Below B a (w.drewN n) := ⟨h.os, h.tape, h.output, h.size, h.block⟩
theorem Blk.at8 {w : World} {g : Nat} {t : TypeId} {L : List UInt8} (h : Blk w g t (L.map B8)) (i : Nat) (hi : i < L.length) : w.cell? ⟨g, i, none⟩ = some (.int .u8 (L.getD i 0).toNat) :=
  (h.cell i).trans (getD_map8 L i hi)

theorem grown_setRow (w : World) (g : Nat) (cs : Array Value) : w.grownBy (w.setRow g cs) (some g) :=
  ⟨rfl, rfl, rfl, by simp [World.setRow], fun k _ hk => setRow_other w g k cs (fun e => hk (by rw [e]))⟩
theorem grown_refl (w : World) (r : Option Nat) : w.grownBy w r := ⟨rfl, rfl, rfl, Nat.le_refl _, fun _ _ _ => rfl⟩
theorem grown_trans {a b c : World} {r : Option Nat} (h : a.grownBy b r) (k : b.grownBy c r) : a.grownBy c r :=
  ⟨k.os.trans h.os, k.tape.trans h.tape, k.output.trans h.output, Nat.le_trans h.size k.size, fun i hi hn => (k.block i (Nat.lt_of_lt_of_le hi h.size) hn).trans (h.block i hi hn)⟩
theorem grown_of_below {a w : World} (h : Below a.heap.size a w) (r : Option Nat) : a.grownBy w r := ⟨h.os, h.tape, h.output, h.size, fun i hi _ => h.block i hi⟩
theorem grown_below {B g : Nat} {a w : World} (h : a.grownBy w (some g)) (hB : B ≤ g) (hs : B ≤ a.heap.size) : Below B a w :=
  ⟨h.os, h.tape, h.output, h.size, fun i hi => h.block i (by omega) (by simp; omega)⟩
theorem grown_drew {a w : World} {r : Option Nat} (h : a.grownBy w r) : a.grownBy w.drew r := ⟨h.os, h.tape, h.output, h.size, h.block⟩
theorem grown_from_drew {a w : World} {r : Option Nat} (h : a.drew.grownBy w r) : a.grownBy w r := ⟨h.os, h.tape, h.output, h.size, h.block⟩
theorem grown_alloc {a w : World} {r : Option Nat} (h : a.grownBy w r) (o : Obj) : a.grownBy (w.alloc o) r :=
  ⟨h.os, h.tape, h.output, Nat.le_trans h.size (by simp), fun i hi hne => (Below.heap_alloc w o i (Nat.lt_of_lt_of_le hi h.size)).trans (h.block i hi hne)⟩
theorem grown_setCell {a w : World} {g : Nat} (h : a.grownBy w (some g)) {p : Addr} (hp : p.block = g ∨ a.heap.size ≤ p.block) (u : Value) : a.grownBy (w.setCell p u) (some g) :=
  ⟨h.os, h.tape, h.output, by simpa [World.setCell] using h.size, fun i hi hne => (Below.heap_setCell w p u i (by
    rintro rfl
    rcases hp with hp | hp
    · exact hne (by rw [hp])
    · omega)).trans (h.block i hi hne)⟩
theorem below_new {B : Nat} {a b c : World} {g' : Nat} (h : Below B a b) (k : b.grownBy c (some g')) (hg : B ≤ g') (hB : B ≤ b.heap.size) : Below B a c :=
  h.trans (grown_below k hg hB)

/-- A whole row goes into a block that is known. -/
theorem wpList_store_blk {P : Program} {ops : Array Oper} {rest : List Oper} {o : Oper} {a : Act} {w : World} {Q : Exit → Act → World → Prop} (hgd : o.guard = none) (ty : TypeId) (x y : Operand) (ho : o.op = .store ty x y) (hd : o.dst = none)
    (g : Nat) (cells : List Value) (hx : a.eval x = .pointer (some ⟨g, 0, none⟩)) (hy : a.eval y = .agg cells.toArray)
    (t : TypeId) (old : List Value) (hg : Blk w g t old) (hi : (P.info? ty).map (·.size) = some cells.length)
    (hold : old.length = cells.length) (h1 : cells.toArray.all (·.oneCell') = true)
    (h : ∀ w', Blk w' g t cells → w.grownBy w' (some g) → wpList P ops Q rest a w') : wpList P ops Q (o :: rest) a w :=
  wpList_store_row hgd ty x y ho g cells.toArray hx hy t old.toArray hg (by simpa using hi) (by simpa using hold) h1 (by rw [hd]; exact h _ (hg.row _) (grown_setRow _ _ _))
end
section
open Go.RowKit
def foldB : Nat → St → List UInt8 → St
  | 0, s, _ => s
  | n + 1, s, m => foldB n (comp s (m.take 64)) (m.drop 64)
/-- What the whole blocks of m make of the words s. -/
def blocks (s : St) (m : List UInt8) : St := foldB (m.length / 64) s m
/-- What is left of m behind its whole blocks. -/
def left (m : List UInt8) : List UInt8 := m.drop (m.length / 64 * 64)

/-- How a state lies in its block: eight words, 64 bytes, the size. -/
def stCells (s : St) (R : List UInt8) (n : Nat) : List Value := s.vals ++ (R.map B8 ++ [.int .u64 (n : Int)])
theorem splice_eq {α : Type} (L : List α) (o : Nat) (cs : List α) : splice L o cs = L.take o ++ (cs ++ L.drop (o + cs.length)) := rfl
/-- Bytes that are handed in, in another block than g: nil and empty rows are let in. -/
def Src (w : World) (g : Nat) (A : Option Addr) (xs : List UInt8) : Prop := 0 < xs.length → ∃ gb ob, A = some ⟨gb, ob, none⟩ ∧ gb ≠ g ∧ Bytes w gb ob xs
theorem Bytes.take {w : World} {g o : Nat} {xs : List UInt8} (h : Bytes w g o xs) (k : Nat) : Bytes w g o (xs.take k) := fun j hj => by
  rw [List.length_take] at hj
  rw [h j (by omega)]
  simp [List.getD_eq_getElem?_getD, show j < k by omega]
/-- Eight bytes, the highest first. -/
def be8 (c : Nat) : List UInt8 := [UInt8.ofNat (c / 72057594037927936), UInt8.ofNat (c / 281474976710656), UInt8.ofNat (c / 1099511627776), UInt8.ofNat (c / 4294967296), UInt8.ofNat (c / 16777216), UInt8.ofNat (c / 65536), UInt8.ofNat (c / 256), UInt8.ofNat c]
/-- What stands behind n bytes: a one bit, noughts, the count of bits. -/
def padB (n : Nat) : List UInt8 := 128 :: List.replicate ((119 - n % 64) % 64) 0 ++ be8 (n * 8)
/-- The four bytes of a word, the highest first. -/
def word4 (x : UInt32) : List UInt8 := [(x >>> 24).toUInt8, (x >>> 16).toUInt8, (x >>> 8).toUInt8, x.toUInt8]
def bytesOf (s : St) : List UInt8 := word4 s.a ++ word4 s.b ++ word4 s.c ++ word4 s.d ++ word4 s.e ++ word4 s.f ++ word4 s.g ++ word4 s.h
theorem n_byte (c d : Nat) : (c : Int) / (d : Int) % 256 = ((UInt8.ofNat (c / d)).toNat : Int) := by simp

def lenOf : Value → Nat
  | .slice _ n _ => n
  | _ => 0


end
end Go.Proofs.YtagblbfbjemfhaaDoor
