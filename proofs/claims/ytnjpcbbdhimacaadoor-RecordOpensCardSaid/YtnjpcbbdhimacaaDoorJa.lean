/-
 Joined: Sha, Mem, Bits, Fold, Own, Sched, Turn, Put, End, State, Sum, In.
-/
import Derived.WalkKit
import Derived.WalkSpells
import Derived.WalkLawsBesides
import Derived.Lib.Hide
import Derived.Below
import Derived.Laws.OwnMore
import Derived.Deep.Draws
import Derived.Laws.Rows
import Derived.Laws.Tables
import Derived.Test.YtnjpcbbdhimacaaDoorProg
import Derived.Deep.QuietTactic
import Derived.BigQuiet
import Derived.Laws.CopyOwn
import Derived.Maps.AppendAt
import Derived.Deep.AppendLies
import Derived.StillTailTactics
import Derived.BigRegion
import Derived.IntWalk
import Derived.Deep.MidRow
import Derived.Laws.CopyRow
import Derived.Lib.MinMax
import Derived.Stop.BytesEq
namespace Go.Proofs.YtnjpcbbdhimacaaDoor
section
open Go.RowKit
abbrev U32 (x : UInt32) : Value := .int .u32 (x.toNat : Int)
abbrev B8 (x : UInt8) : Value := .int .u8 (x.toNat : Int)

theorem u32_lt (x : UInt32) : x.toNat < 4294967296 := by have := x.toNat_lt; omega
theorem u8_lt (x : UInt8) : x.toNat < 256 := by have := x.toNat_lt; omega

theorem w_xor (a b : UInt32) : bits .xor .u32 (a.toNat : Int) (b.toNat : Int) = ((a ^^^ b).toNat : Int) := by
 rw [u32_xor_nat _ _ (u32_lt a) (u32_lt b), UInt32.toNat_xor]
theorem w_and (a b : UInt32) : bits .and .u32 (a.toNat : Int) (b.toNat : Int) = ((a &&& b).toNat : Int) := by
 rw [u32_and_nat _ _ (u32_lt a) (u32_lt b), UInt32.toNat_and]
theorem w_or (a b : UInt32) : bits .or .u32 (a.toNat : Int) (b.toNat : Int) = ((a ||| b).toNat : Int) := by
 rw [u32_or_nat _ _ (u32_lt a) (u32_lt b), UInt32.toNat_or]
theorem w_add (a b : UInt32) : ((a.toNat : Int) + (b.toNat : Int)) % 4294967296 = ((a + b).toNat : Int) := by
 rw [UInt32.toNat_add]; omega
theorem w_add3 (a b c : UInt32) : ((a.toNat : Int) + (b.toNat : Int) + (c.toNat : Int)) % 4294967296 = ((a + b + c).toNat : Int) := by
 rw [UInt32.toNat_add, UInt32.toNat_add]; omega
theorem w_add4 (a b c d : UInt32) : ((a.toNat : Int) + (b.toNat : Int) + (c.toNat : Int) + (d.toNat : Int)) % 4294967296 = ((a + b + c + d).toNat : Int) := by
 rw [UInt32.toNat_add, UInt32.toNat_add, UInt32.toNat_add]; omega
theorem w_add5 (a b c d e : UInt32) : ((a.toNat : Int) + (b.toNat : Int) + (c.toNat : Int) + (d.toNat : Int) + (e.toNat : Int)) % 4294967296 = ((a + b + c + d + e).toNat : Int) := by
 rw [UInt32.toNat_add, UInt32.toNat_add, UInt32.toNat_add, UInt32.toNat_add]; omega
theorem w_shl (a : UInt32) (n : Nat) (hn : n < 32) : ((a.toNat : Int) * 2 ^ n) % 4294967296 = ((a <<< UInt32.ofNat n).toNat : Int) := by
 rw [UInt32.toNat_shiftLeft, UInt32.toNat_ofNat_of_lt' (by simp [UInt32.size]; omega), Nat.mod_eq_of_lt hn, Nat.shiftLeft_eq]
 simp
theorem w_shr (a : UInt32) (n : Nat) (hn : n < 32) : (a.toNat : Int) / 2 ^ n = ((a >>> UInt32.ofNat n).toNat : Int) := by
 rw [UInt32.toNat_shiftRight, UInt32.toNat_ofNat_of_lt' (by simp [UInt32.size]; omega), Nat.mod_eq_of_lt hn, Nat.shiftRight_eq_div_pow]
 simp

/-- A word turned to the right by n bits. -/
def rotr (n : Nat) (x : UInt32) : UInt32 := (x <<< UInt32.ofNat (32 - n)) ||| (x >>> UInt32.ofNat n)
/-- A word turned to the left by n bits. -/
def rotl (n : Nat) (x : UInt32) : UInt32 := (x <<< UInt32.ofNat n) ||| (x >>> UInt32.ofNat (32 - n))

theorem rotr_flip (n : Nat) (x : UInt32) : (x >>> UInt32.ofNat n) ||| (x <<< UInt32.ofNat (32 - n)) = rotr n x := by
 unfold rotr; rw [UInt32.or_comm]
theorem rotl_rotr (n : Nat) (hn : n ≤ 32) (x : UInt32) : rotl (32 - n) x = rotr n x := by
 unfold rotr rotl; rw [show 32 - (32 - n) = n by omega]

theorem u8_u32 (b : UInt8) : (b.toNat : Int) = ((b.toUInt32).toNat : Int) := by simp

/-- The word that stands at place i of a block, the highest byte first. -/
def beWord (b : List UInt8) (i : Nat) : UInt32 :=
 ((b.getD (4 * i) 0).toUInt32 <<< 24) ||| ((b.getD (4 * i + 1) 0).toUInt32 <<< 16) ||| ((b.getD (4 * i + 2) 0).toUInt32 <<< 8) ||| (b.getD (4 * i + 3) 0).toUInt32
def small0 (x : UInt32) : UInt32 := rotr 7 x ^^^ rotr 18 x ^^^ (x >>> 3)
def small1 (y : UInt32) : UInt32 := rotr 17 y ^^^ rotr 19 y ^^^ (y >>> 10)
/-- The schedule of a block after i of its 64 words. -/
def schedTo (b : List UInt8) : Nat → List UInt32
 | 0 => List.replicate 64 0
 | i + 1 =>
  let L := schedTo b i
  L.set i (if i < 16 then beWord b i else L.getD (i - 16) 0 + small0 (L.getD (i - 15) 0) + L.getD (i - 7) 0 + small1 (L.getD (i - 2) 0))
theorem schedTo_length (b : List UInt8) (i : Nat) : (schedTo b i).length = 64 := by
 induction i with
 | zero => simp [schedTo]
 | succ i ih => simp [schedTo, ih]
theorem schedTo_low (b : List UInt8) (i : Nat) (h : i < 16) : schedTo b (i + 1) = (schedTo b i).set i (beWord b i) := by
 simp [schedTo, h]
theorem schedTo_high (b : List UInt8) (i : Nat) (h : ¬ i < 16) : schedTo b (i + 1) = (schedTo b i).set i ((schedTo b i).getD (i - 16) 0 + small0 ((schedTo b i).getD (i - 15) 0) + (schedTo b i).getD (i - 7) 0 + small1 ((schedTo b i).getD (i - 2) 0)) := by
 simp [schedTo, h]

theorem w_shl24 (x : UInt32) : ((x.toNat : Int) * (16777216 : Int)) % (4294967296 : Int) = ((x <<< 24).toNat : Int) := w_shl x 24 (by decide)
theorem w_shl16 (x : UInt32) : ((x.toNat : Int) * (65536 : Int)) % (4294967296 : Int) = ((x <<< 16).toNat : Int) := w_shl x 16 (by decide)
theorem w_shl8 (x : UInt32) : ((x.toNat : Int) * (256 : Int)) % (4294967296 : Int) = ((x <<< 8).toNat : Int) := w_shl x 8 (by decide)
theorem w_shr3 (x : UInt32) : (x.toNat : Int) / (8 : Int) = ((x >>> 3).toNat : Int) := w_shr x 3 (by decide)
theorem w_shr10 (x : UInt32) : (x.toNat : Int) / (1024 : Int) = ((x >>> 10).toNat : Int) := w_shr x 10 (by decide)
theorem u8_mod (b : UInt8) : (b.toNat : Int) % (4294967296 : Int) = ((b.toUInt32).toNat : Int) := by
 have := u8_lt b
 rw [← u8_u32]; omega

theorem be_eq (a b c d : UInt8) :
  bits .or .u32 (bits .or .u32 (bits .or .u32 ((a.toNat : Int) % 4294967296 * 16777216 % 4294967296) ((b.toNat : Int) % 4294967296 * 65536 % 4294967296)) ((c.toNat : Int) % 4294967296 * 256 % 4294967296)) ((d.toNat : Int) % 4294967296)
   = (((a.toUInt32 <<< 24) ||| (b.toUInt32 <<< 16) ||| (c.toUInt32 <<< 8) ||| d.toUInt32).toNat : Int) := by
 rw [u8_mod, u8_mod, u8_mod, u8_mod, w_shl24, w_shl16, w_shl8, w_or, w_or, w_or]
theorem beWord_eq (bs : List UInt8) (k : Nat) :
  bits .or .u32 (bits .or .u32 (bits .or .u32 (((bs[4 * k]?.getD 0).toNat : Int) % 4294967296 * 16777216 % 4294967296) (((bs[4 * k + 1]?.getD 0).toNat : Int) % 4294967296 * 65536 % 4294967296)) (((bs[4 * k + 2]?.getD 0).toNat : Int) % 4294967296 * 256 % 4294967296)) (((bs[4 * k + 3]?.getD 0).toNat : Int) % 4294967296)
   = ((beWord bs k).toNat : Int) := by
 rw [be_eq]; simp only [beWord, List.getD_eq_getElem?_getD]
theorem s0_eq (x : UInt32) : bits .xor .u32 (bits .xor .u32 ((rotr 7 x).toNat : Int) ((rotr 18 x).toNat : Int)) ((x.toNat : Int) / 8) = ((small0 x).toNat : Int) := by
 rw [w_shr3, w_xor, w_xor]; rfl
theorem s1_eq (x : UInt32) : bits .xor .u32 (bits .xor .u32 ((rotr 17 x).toNat : Int) ((rotr 19 x).toNat : Int)) ((x.toNat : Int) / 1024) = ((small1 x).toNat : Int) := by
 rw [w_shr10, w_xor, w_xor]; rfl

/-- What the rounds add: the fractions of the cube roots of the first 64 primes. -/
def kTab : List UInt32 := [1116352408, 1899447441, 3049323471, 3921009573, 961987163, 1508970993, 2453635748, 2870763221, 3624381080, 310598401, 607225278, 1426881987, 1925078388, 2162078206, 2614888103, 3248222580, 3835390401, 4022224774, 264347078, 604807628, 770255983, 1249150122, 1555081692, 1996064986, 2554220882, 2821834349, 2952996808, 3210313671, 3336571891, 3584528711, 113926993, 338241895, 666307205, 773529912, 1294757372, 1396182291, 1695183700, 1986661051, 2177026350, 2456956037, 2730485921, 2820302411, 3259730800, 3345764771, 3516065817, 3600352804, 4094571909, 275423344, 430227734, 506948616, 659060556, 883997877, 958139571, 1322822218, 1537002063, 1747873779, 1955562222, 2024104815, 2227730452, 2361852424, 2428436474, 2756734187, 3204031479, 3329325298]
/-- Eight words. -/
structure St where
 a : UInt32
 b : UInt32
 c : UInt32
 d : UInt32
 e : UInt32
 f : UInt32
 g : UInt32
 h : UInt32
/-- The fractions of the square roots of the first eight primes. -/
def first : St := ⟨1779033703, 3144134277, 1013904242, 2773480762, 1359893119, 2600822924, 528734635, 1541459225⟩
def St.words (s : St) : List UInt32 := [s.a, s.b, s.c, s.d, s.e, s.f, s.g, s.h]
def St.vals (s : St) : List Value := [U32 s.a, U32 s.b, U32 s.c, U32 s.d, U32 s.e, U32 s.f, U32 s.g, U32 s.h]
def big1 (e : UInt32) : UInt32 := rotr 6 e ^^^ rotr 11 e ^^^ rotr 25 e
def big0 (a : UInt32) : UInt32 := rotr 2 a ^^^ rotr 13 a ^^^ rotr 22 a
def choice (e f g : UInt32) : UInt32 := (e &&& f) ^^^ (~~~e &&& g)
def majority (a b c : UInt32) : UInt32 := (a &&& b) ^^^ (a &&& c) ^^^ (b &&& c)
/-- One round. -/
def rnd (k w : UInt32) (s : St) : St :=
 let t1 := s.h + big1 s.e + choice s.e s.f s.g + k + w
 ⟨t1 + (big0 s.a + majority s.a s.b s.c), s.a, s.b, s.c, s.d + t1, s.e, s.f, s.g⟩
def rnds (W : List UInt32) : Nat → St → St
 | 0, s => s
 | n + 1, s => rnd (kTab.getD n 0) (W.getD n 0) (rnds W n s)
def addSt (s t : St) : St := ⟨s.a + t.a, s.b + t.b, s.c + t.c, s.d + t.d, s.e + t.e, s.f + t.f, s.g + t.g, s.h + t.h⟩
/-- What a block of 64 bytes makes of the words. -/
def comp (s : St) (b : List UInt8) : St := addSt s (rnds (schedTo b 64) 64 s)

theorem w_not (a : UInt32) : bits .xor .u32 IntKind.u32.max (a.toNat : Int) = ((~~~a).toNat : Int) := by
 have h : IntKind.u32.max = (((4294967295 : UInt32).toNat : Nat) : Int) := by decide
 rw [h, w_xor]
 have e : (4294967295 : UInt32) ^^^ a = ~~~a := by
  have e1 : (4294967295 : UInt32) = -1 := by decide
  rw [e1, UInt32.neg_one_xor]
 rw [e]

end
section
open Go.RowKit
def Blk (w : World) (g : Nat) (t : TypeId) (cs : List Value) : Prop := w.heap[g]? = some (.cells cs.toArray t (0, 0))

section
variable {w w' : World} {g : Nat} {t : TypeId} {cs : List Value}
theorem Blk.lt (h : Blk w g t cs) : g < w.heap.size := by
 rcases Nat.lt_or_ge g w.heap.size with hlt | hge
 ·
  exact hlt
 ·
  unfold Blk at h; rw [Array.getElem?_eq_none hge] at h; cases h
theorem Blk.cell (h : Blk w g t cs) (i : Nat) : w.cell? ⟨g, i, none⟩ = cs[i]? := by
 rw [cell_of_row w g i cs.toArray t (0, 0) h]; simp
theorem Blk.cellD (h : Blk w g t cs) (i : Nat) (d : Value) (hi : i < cs.length) : w.cell? ⟨g, i, none⟩ = some (cs.getD i d) := by
 rw [h.cell, List.getD_eq_getElem?_getD, List.getElem?_eq_getElem hi]; rfl
theorem Blk.frozen (h : Blk w g t cs) (i : Nat) : w.frozen? ⟨g, i, none⟩ = false := by
 unfold Blk at h
 simp [World.frozen?, h]
theorem Blk.new (w : World) (t : TypeId) (cs : List Value) : Blk (w.alloc (.cells cs.toArray t)) w.heap.size t cs := heap_alloc_new w _
theorem Blk.new_of (w : World) (t : TypeId) (arr : Array Value) (cs : List Value) (h : arr = cs.toArray) : Blk (w.alloc (.cells arr t)) w.heap.size t cs := by subst h; exact heap_alloc_new w _
theorem Blk.new2_of (w : World) (A : Obj) (t : TypeId) (arr : Array Value) (cs : List Value) (h : arr = cs.toArray) : Blk ((w.alloc A).alloc (.cells arr t)) (w.heap.size + 1) t cs := by subst h; exact heap_alloc2_new w A _
theorem Blk.raw (h : Blk w g t cs) : w.heap[g]? = some (.cells cs.toArray t (0, 0)) := h
theorem Blk.row (h : Blk w g t cs) (ds : List Value) : Blk (w.setRow g ds.toArray) g t ds := setRow_heap w g cs.toArray ds.toArray t (0, 0) h
theorem Blk.drew (h : Blk w g t cs) : Blk w.drew g t cs := h
theorem Blk.drewN (h : Blk w g t cs) (n : Nat) : Blk (w.drewN n) g t cs := h
theorem Blk.alloc (h : Blk w g t cs) (o : Obj) : Blk (w.alloc o) g t cs := (Below.heap_alloc w o g h.lt).trans h
theorem Blk.set_ (h : Blk w g t cs) (i : Nat) (u : Value) : Blk (w.setCell ⟨g, i, none⟩ u) g t (cs.set i u) := by
 unfold Blk at h ⊢
 simp [World.setCell, Array.getElem?_modify, h]
theorem Blk.far (h : Blk w g t cs) {p : Addr} (hp : g ≠ p.block) (u : Value) : Blk (w.setCell p u) g t cs := (Below.heap_setCell w p u g hp).trans h
theorem Blk.below {B : Nat} (h : Blk w g t cs) (hb : Below B w w') (hg : g < B) : Blk w' g t cs := (hb.block g hg).trans h
theorem Blk.grown {row : Option Nat} (h : Blk w g t cs) (hb : w.grownBy w' row) (hg : some g ≠ row) : Blk w' g t cs := (hb.block g h.lt hg).trans h
end
theorem new_cell (w : World) (t : TypeId) (u : Value) : (w.alloc (.cells #[u] t)).cell? ⟨w.heap.size, 0, none⟩ = some u := (Blk.new_of w t #[u] [u] rfl).cell 0
theorem block_of_add (a : Addr) (n : Nat) : (a.add n).block = a.block := by unfold Addr.add; split <;> rfl
theorem add_of_add (a : Addr) (i j : Nat) : (a.add i).add j = a.add (i + j) := by
 unfold Addr.add
 by_cases hi : i = 0 <;> by_cases hj : j = 0 <;> simp [hi, hj, Nat.add_assoc]
theorem add_row (g o n : Nat) : (⟨g, o, none⟩ : Addr).add n = ⟨g, o + n, none⟩ := by
 unfold Addr.add; split <;> simp_all

/-- The cells of block g from place o on hold these bytes. -/
def Bytes (w : World) (g o : Nat) (bs : List UInt8) : Prop := ∀ j, j < bs.length → w.cell? ⟨g, o + j, none⟩ = some (.int .u8 (bs.getD j 0).toNat)
theorem Bytes.below {w w' : World} {g o B : Nat} {bs : List UInt8} (h : Bytes w g o bs) (hb : Below B w w') (hg : g < B) : Bytes w' g o bs :=
 fun j hj => (hb.cell (p := ⟨g, o + j, none⟩) hg).trans (h j hj)
theorem Bytes.drew {w : World} {g o : Nat} {bs : List UInt8} (h : Bytes w g o bs) : Bytes w.drew g o bs := h
theorem Bytes.drewN {w : World} {g o : Nat} {bs : List UInt8} (h : Bytes w g o bs) (n : Nat) : Bytes (w.drewN n) g o bs := h
theorem Bytes.lt {w : World} {g o : Nat} {bs : List UInt8} (h : Bytes w g o bs) (h0 : 0 < bs.length) : g < w.heap.size := block_lt_of_cell (h 0 h0)

theorem getD_map32 (L : List UInt32) (i : Nat) (h : i < L.length) : (L.map U32)[i]? = some (U32 (L.getD i 0)) := by
 simp [List.getElem?_map, List.getD_eq_getElem?_getD, List.getElem?_eq_getElem h]
theorem getD_map8 (L : List UInt8) (i : Nat) (h : i < L.length) : (L.map B8)[i]? = some (B8 (L.getD i 0)) := by
 simp [List.getElem?_map, List.getD_eq_getElem?_getD, List.getElem?_eq_getElem h]
theorem one32 (L : List UInt32) : (L.map U32).toArray.all (·.oneCell') = true := by
 rw [Array.all_eq_true_iff_forall_mem]; intro v hv; simp at hv; obtain ⟨x, _, rfl⟩ := hv; rfl
theorem one8 (L : List UInt8) : (L.map B8).toArray.all (·.oneCell') = true := by
 rw [Array.all_eq_true_iff_forall_mem]; intro v hv; simp at hv; obtain ⟨x, _, rfl⟩ := hv; rfl
theorem below_drewN {B : Nat} {a w : World} (h : Below B a w) (n : Nat) : Below B a (w.drewN n) := ⟨h.os, h.tape, h.output, h.size, h.block⟩
theorem below_setRow' {B g : Nat} {w0 w : World} (hb : Below B w0 w) (hBg : B ≤ g) (cs : Array Value) : Below B w0 (w.setRow g cs) :=
 hb.trans ⟨rfl, rfl, rfl, by simp [World.setRow], fun k hk => setRow_other w g k cs (by omega)⟩
theorem map_set32 (L : List UInt32) (i : Nat) (x : UInt32) : (L.map U32).set i (U32 x) = (L.set i x).map U32 := by
 rw [List.map_set]
theorem map_set8 (L : List UInt8) (i : Nat) (x : UInt8) : (L.map B8).set i (B8 x) = (L.set i x).map B8 := by
 rw [List.map_set]
theorem Blk.at32 {w : World} {g : Nat} {t : TypeId} {L : List UInt32} (h : Blk w g t (L.map U32)) (i : Nat) (hi : i < L.length) : w.cell? ⟨g, i, none⟩ = some (.int .u32 (L.getD i 0).toNat) :=
 (h.cell i).trans (getD_map32 L i hi)
theorem Blk.at8 {w : World} {g : Nat} {t : TypeId} {L : List UInt8} (h : Blk w g t (L.map B8)) (i : Nat) (hi : i < L.length) : w.cell? ⟨g, i, none⟩ = some (.int .u8 (L.getD i 0).toNat) :=
 (h.cell i).trans (getD_map8 L i hi)

theorem grown_setRow (w : World) (g : Nat) (cs : Array Value) : w.grownBy (w.setRow g cs) (some g) :=
 ⟨rfl, rfl, rfl, by simp [World.setRow], fun k _ hk => setRow_other w g k cs (fun e => hk (by rw [e]))⟩
theorem grown_refl (w : World) (r : Option Nat) : w.grownBy w r := ⟨rfl, rfl, rfl, Nat.le_refl _, fun _ _ _ => rfl⟩
theorem grown_trans {a b c : World} {r : Option Nat} (h : a.grownBy b r) (k : b.grownBy c r) : a.grownBy c r :=
 ⟨k.os.trans h.os, k.tape.trans h.tape, k.output.trans h.output, Nat.le_trans h.size k.size, fun i hi hn => (k.block i (Nat.lt_of_lt_of_le hi h.size) hn).trans (h.block i hi hn)⟩
theorem grown_of_below {a w : World} (h : Below a.heap.size a w) (r : Option Nat) : a.grownBy w r := ⟨h.os, h.tape, h.output, h.size, fun i hi _ => h.block i hi⟩
theorem grown_below {B g : Nat} {a w : World} (h : a.grownBy w (some g)) (hB : B ≤ g) (hs : B ≤ a.heap.size) : Below B a w :=
 ⟨h.os, h.tape, h.output, h.size, fun i hi => h.block i (by omega) (by simp; omega)⟩
theorem grown_drewN {a w : World} {r : Option Nat} (h : a.grownBy w r) (n : Nat) : a.grownBy (w.drewN n) r := ⟨h.os, h.tape, h.output, h.size, h.block⟩
theorem grown_drew {a w : World} {r : Option Nat} (h : a.grownBy w r) : a.grownBy w.drew r := ⟨h.os, h.tape, h.output, h.size, h.block⟩
theorem grown_from_drew {a w : World} {r : Option Nat} (h : a.drew.grownBy w r) : a.grownBy w r := ⟨h.os, h.tape, h.output, h.size, h.block⟩
theorem grown_from_drewN {a w : World} {r : Option Nat} {n : Nat} (h : (a.drewN n).grownBy w r) : a.grownBy w r := ⟨h.os, h.tape, h.output, h.size, h.block⟩
theorem grown_alloc {a w : World} {r : Option Nat} (h : a.grownBy w r) (o : Obj) : a.grownBy (w.alloc o) r :=
 ⟨h.os, h.tape, h.output, Nat.le_trans h.size (by simp), fun i hi hne => (Below.heap_alloc w o i (Nat.lt_of_lt_of_le hi h.size)).trans (h.block i hi hne)⟩
theorem grown_setCell {a w : World} {g : Nat} (h : a.grownBy w (some g)) {p : Addr} (hp : p.block = g ∨ a.heap.size ≤ p.block) (u : Value) : a.grownBy (w.setCell p u) (some g) :=
 ⟨h.os, h.tape, h.output, by simpa [World.setCell] using h.size, fun i hi hne => (Below.heap_setCell w p u i (by
  rintro rfl
  rcases hp with hp | hp
  ·
   exact hne (by rw [hp])
  ·
   omega)).trans (h.block i hi hne)⟩
/-- What is a block of the call's own may be written besides: the frame is the same. -/
theorem grown_new {a b c : World} {g g' : Nat} (h : a.grownBy b (some g)) (k : b.grownBy c (some g')) (hg : a.heap.size ≤ g') : a.grownBy c (some g) :=
 ⟨k.os.trans h.os, k.tape.trans h.tape, k.output.trans h.output, Nat.le_trans h.size k.size, fun i hi hn => (k.block i (Nat.lt_of_lt_of_le hi h.size) (by simp; omega)).trans (h.block i hi hn)⟩
theorem below_new {B : Nat} {a b c : World} {g' : Nat} (h : Below B a b) (k : b.grownBy c (some g')) (hg : B ≤ g') (hB : B ≤ b.heap.size) : Below B a c :=
 h.trans (grown_below k hg hB)

/-- A whole row goes into a block that is known. -/
theorem wpList_store_blk {P : Program} {ops : Array Oper} {rest : List Oper} {o : Oper} {a : Act} {w : World} {Q : Exit → Act → World → Prop} (hgd : o.guard = none) (ty : TypeId) (x y : Operand) (ho : o.op = .store ty x y) (hd : o.dst = none)
  (g : Nat) (cells : List Value) (hx : a.eval x = .pointer (some ⟨g, 0, none⟩)) (hy : a.eval y = .agg cells.toArray)
  (t : TypeId) (old : List Value) (hg : Blk w g t old) (hi : (P.info? ty).map (·.size) = some cells.length)
  (hold : old.length = cells.length) (h1 : cells.toArray.all (·.oneCell') = true)
  (h : ∀ w', Blk w' g t cells → w.grownBy w' (some g) → wpList P ops Q rest a w') : wpList P ops Q (o :: rest) a w :=
 wpList_store_row hgd ty x y ho g cells.toArray hx hy t old.toArray hg (by simpa using hi) (by simpa using hold) h1 (by rw [hd]; exact h _ (hg.row _) (grown_setRow _ _ _))
/-- A whole row is read out of a block that is known. -/
theorem wpList_load_blk {P : Program} {ops : Array Oper} {rest : List Oper} {o : Oper} {a : Act} {w : World} {Q : Exit → Act → World → Prop} (hgd : o.guard = none) (ty : TypeId) (x : Operand) (ho : o.op = .load ty x)
  (g : Nat) (hx : a.eval x = .pointer (some ⟨g, 0, none⟩)) (t : TypeId) (cs : List Value) (d : TypeDesc) (hg : Blk w g t cs)
  (hu : P.underlying ty = some d) (hd : (match d with | .struct _ | .array _ _ => true | _ => false) = true) (hi : (P.info? ty).map (·.size) = some cs.length)
  (h : wpList P ops Q rest (a.put o.dst (.agg cs.toArray)) w) : wpList P ops Q (o :: rest) a w :=
 wpList_load_row hgd ty x ho g hx t cs.toArray (0, 0) d hg hu hd (by simpa using hi) h

end
section
open Go.RowKit
theorem ret_val {a b : Value} (h : a = b) : Ending.returned a = Ending.returned b := by rw [h]

set_option maxHeartbeats 400000 in
theorem rotl_any (x : UInt32) (k : Int) (n : Nat) (w : World) (hn0 : 0 < n) (hn : n < 32) (hk : bits .and .u64 (IntKind.u64.wrap k) 31 = (n : Int)) :
  Calls Tryd.prog 74 #[.int .u32 x.toNat, .int .i64 k] w fun e w' => e = .returned (.int .u32 (rotl n x).toNat) ∧ w = w' := by
 have H1 := Lib.hid (w_shl x n hn)
 have H2 := Lib.hid (w_shr x (32 - n) (by omega))
 have hs : ((32 : Int) - n) = ((32 - n : Nat) : Int) := by omega
 have h0 : ¬ ((32 : Int) - n < 0) := by omega
 have e1 : min n 32 = n := by omega
 have e2 : min (32 - n) 32 = 32 - n := by omega
 go_enter Tryd.func74, Tryd.ntmps74
 go_wp2
 go_ret
 exact ⟨by rw [H1.out, H2.out, w_or]; rfl, rfl⟩

set_option maxHeartbeats 400000 in
theorem turn_any (x : UInt32) (n : Nat) (w : World) (hn0 : 0 < n) (hn : n < 32) :
  Calls Tryd.prog 96 #[.int .u32 x.toNat, .int .i64 n] w fun e w' => e = .returned (.int .u32 (rotr n x).toNat) ∧ ∃ k, w' = w.drewN k := by
 have H1 := Lib.hid (w_shl x (32 - n) (by omega))
 have H2 := Lib.hid (w_shr x n hn)
 have hs : ((32 : Int) - n) = ((32 - n : Nat) : Int) := by omega
 have h0 : ¬ ((32 : Int) - n < 0) := by omega
 have h1 : 0 ≤ (n : Int) := by omega
 have e1 : min n 32 = n := by omega
 have e2 : min (32 - n) 32 = 32 - n := by omega
 go_enter Tryd.func96, Tryd.ntmps96
 go_wp2
 go_quiet (fail)
 go_wp2
 go_ret
 refine ⟨?_, _, rfl⟩
 rw [H1.out, H2.out, w_or, rotr_flip]
 rfl

theorem neg_count : ∀ n : Fin 31, bits .and .u64 (IntKind.u64.wrap (-((n.val : Int) + 1))) 31 = ((31 - n.val : Nat) : Int) := by decide +kernel

/-- As the code calls it to turn to the right: by a count below nought. -/
theorem rot_any (x : UInt32) (k : Int) (w : World) (h0 : -31 ≤ k) (h1 : k ≤ -1) :
  Calls Tryd.prog 74 #[.int .u32 x.toNat, .int .i64 k] w fun e w' => e = .returned (.int .u32 (rotr (-k).toNat x).toNat) ∧ w = w' := by
 obtain ⟨n, hn⟩ : ∃ n : Nat, k = -((n : Int) + 1) := ⟨(-k - 1).toNat, by omega⟩
 subst hn
 have h := neg_count ⟨n, by omega⟩
 refine (rotl_any x _ (31 - n) w (by omega) (by omega) h).mono fun e w' ⟨he, hw⟩ => ⟨?_, hw⟩
 rw [he, show (-(-((n : Int) + 1))).toNat = n + 1 by omega, ← rotl_rotr (n + 1) (by omega), show 32 - (n + 1) = 31 - n by omega]

end
section
open Go.RowKit
def foldB : Nat → St → List UInt8 → St
 | 0, s, _ => s
 | n + 1, s, m => foldB n (comp s (m.take 64)) (m.drop 64)
/-- What the whole blocks of m make of the words s. -/
def blocks (s : St) (m : List UInt8) : St := foldB (m.length / 64) s m
/-- What is left of m behind its whole blocks. -/
def left (m : List UInt8) : List UInt8 := m.drop (m.length / 64 * 64)

theorem blocks_short (s : St) (m : List UInt8) (h : m.length < 64) : blocks s m = s := by
 unfold blocks; rw [show m.length / 64 = 0 by omega]; rfl
theorem left_short (m : List UInt8) (h : m.length < 64) : left m = m := by
 unfold left; rw [show m.length / 64 = 0 by omega]; simp
theorem blocks_step (s : St) (m : List UInt8) (h : 64 ≤ m.length) : blocks s m = blocks (comp s (m.take 64)) (m.drop 64) := by
 unfold blocks
 rw [show m.length / 64 = (m.drop 64).length / 64 + 1 by simp; omega]
 rfl
theorem left_step (m : List UInt8) (h : 64 ≤ m.length) : left m = left (m.drop 64) := by
 unfold left
 rw [List.drop_drop, List.length_drop]
 congr 1; omega
theorem left_length (m : List UInt8) : (left m).length = m.length % 64 := by
 unfold left; rw [List.length_drop]; omega

theorem foldB_append (n : Nat) : ∀ (s : St) (x y : List UInt8), x.length = n * 64 → foldB (n + y.length / 64) s (x ++ y) = foldB (y.length / 64) (foldB n s x) y := by
 induction n with
 | zero =>
  intro s x y h
  have hx : x = [] := List.eq_nil_of_length_eq_zero (by omega)
  subst hx; simp [foldB]
 | succ n ih =>
  intro s x y h
  rw [show n + 1 + y.length / 64 = (n + y.length / 64) + 1 by omega]
  show foldB (n + y.length / 64) (comp s ((x ++ y).take 64)) ((x ++ y).drop 64) = foldB (y.length / 64) (foldB n (comp s (x.take 64)) (x.drop 64)) y
  rw [List.take_append_of_le_length (by omega), List.drop_append_of_le_length (by omega)]
  exact ih _ _ _ (by rw [List.length_drop]; omega)
/-- More bytes: the whole blocks of what was left and of the new ones go on from the words so far. -/
theorem blocks_append (s : St) (m b : List UInt8) : blocks s (m ++ b) = blocks (blocks s m) (left m ++ b) := by
 have e : m ++ b = m.take (m.length / 64 * 64) ++ (left m ++ b) := by
  unfold left; rw [← List.append_assoc, List.take_append_drop]
 have h1 : (m.take (m.length / 64 * 64)).length = m.length / 64 * 64 := by rw [List.length_take]; omega
 have h2 : blocks s m = foldB (m.length / 64) s (m.take (m.length / 64 * 64)) := by
  have h := foldB_append (m.length / 64) s (m.take (m.length / 64 * 64)) (left m) h1
  rw [left_length, show m.length % 64 / 64 = 0 by omega] at h
  unfold left at h
  rw [List.take_append_drop] at h
  unfold blocks
  simpa [foldB] using h
 have h3 := foldB_append (m.length / 64) s (m.take (m.length / 64 * 64)) (left m ++ b) h1
 rw [← e] at h3
 have h4 : (m ++ b).length / 64 = m.length / 64 + (left m ++ b).length / 64 := by
  rw [List.length_append, List.length_append, left_length]; omega
 rw [h2]
 unfold blocks
 rw [h4, h3]
theorem left_append (m b : List UInt8) : left (m ++ b) = left (left m ++ b) := by
 have h4 : (m ++ b).length / 64 = m.length / 64 + (left m ++ b).length / 64 := by
  rw [List.length_append, List.length_append, left_length]; omega
 have e : left m ++ b = (m ++ b).drop (m.length / 64 * 64) := by
  unfold left; rw [List.drop_append_of_le_length (by omega)]
 show (m ++ b).drop ((m ++ b).length / 64 * 64) = (left m ++ b).drop ((left m ++ b).length / 64 * 64)
 rw [h4]
 conv => rhs; rw [e, List.drop_drop]
 congr 1
 rw [← e]; omega

/-- How a state lies in its block: eight words, 64 bytes, the size. -/
def stCells (s : St) (R : List UInt8) (n : Nat) : List Value := s.vals ++ (R.map B8 ++ [.int .u64 (n : Int)])
theorem stCells_length (s : St) (R : List UInt8) (n : Nat) (h : R.length = 64) : (stCells s R n).length = 73 := by
 simp [stCells, St.vals, h]
theorem stCells_72 (s : St) (R : List UInt8) (n : Nat) (h : R.length = 64) : (stCells s R n)[72]? = some (.int .u64 (n : Int)) := by
 simp [stCells, St.vals, h]
theorem stCells_rest (s : St) (R : List UInt8) (n j : Nat) (hj : j < R.length) : (stCells s R n)[8 + j]? = some (B8 (R.getD j 0)) := by
 have h1 : (stCells s R n)[8 + j]? = (R.map B8 ++ [.int .u64 (n : Int)])[j]? := by
  unfold stCells
  rw [List.getElem?_append_right (by simp [St.vals])]
  simp [St.vals]
 rw [h1, List.getElem?_append_left (by simpa using hj)]
 exact getD_map8 R j hj
theorem stCells_set72 (s : St) (R : List UInt8) (n m : Nat) (h : R.length = 64) : (stCells s R n).set 72 (.int .u64 (m : Int)) = stCells s R m := by
 unfold stCells
 rw [List.set_append_right _ _ (by simp [St.vals])]
 rw [List.set_append_right _ _ (by simp [St.vals, h])]
 simp [St.vals, h]
theorem splice_eq {α : Type} (L : List α) (o : Nat) (cs : List α) : splice L o cs = L.take o ++ (cs ++ L.drop (o + cs.length)) := rfl
theorem stCells_splice (s : St) (R cs : List UInt8) (n h : Nat) (hR : R.length = 64) (hh : h + cs.length ≤ 64) :
  splice (stCells s R n) (8 + h) (cs.map B8) = stCells s (splice R h cs) n := by
 have e1 : (stCells s R n).take (8 + h) = s.vals ++ (R.take h).map B8 := by
  unfold stCells
  rw [List.take_append, List.take_of_length_le (by simp [St.vals]), List.take_append_of_le_length (by simp [St.vals, hR]; omega)]
  simp [St.vals, List.map_take]
 have e2 : (stCells s R n).drop (8 + h + cs.length) = (R.drop (h + cs.length)).map B8 ++ [.int .u64 (n : Int)] := by
  unfold stCells
  rw [List.drop_append, List.drop_eq_nil_of_le (by simp [St.vals]; omega), List.drop_append_of_le_length (by simp [St.vals, hR]; omega)]
  simp [St.vals, List.map_drop, show 8 + h + cs.length - 8 = h + cs.length by omega]
 rw [splice_eq, List.length_map, e1, e2]
 simp [stCells, splice_eq, List.append_assoc]
theorem splice_length {α : Type} (L : List α) (o : Nat) (cs : List α) (h : o + cs.length ≤ L.length) : (splice L o cs).length = L.length := length_splice L o cs h
theorem splice_take {α : Type} (L : List α) (o : Nat) (cs : List α) (h : o ≤ L.length) : (splice L o cs).take (o + cs.length) = L.take o ++ cs := by
 have e : o + cs.length = (L.take o ++ cs).length := by simp; omega
 rw [splice_eq, ← List.append_assoc, e, List.take_left]
theorem splice_nil {α : Type} (L : List α) (o : Nat) : splice L o [] = L := by simp [splice_eq]

/-- Bytes that are handed in, in another block than g: nil and empty rows are let in. -/
def Src (w : World) (g : Nat) (A : Option Addr) (xs : List UInt8) : Prop := 0 < xs.length → ∃ gb ob, A = some ⟨gb, ob, none⟩ ∧ gb ≠ g ∧ Bytes w gb ob xs
theorem Src.keep {w w' : World} {g : Nat} {A : Option Addr} {xs : List UInt8} (h : Src w g A xs) (hg : w.grownBy w' (some g)) : Src w' g A xs := fun h0 => by
 obtain ⟨gb, ob, e, hn, hb⟩ := h h0
 have hlt := hb.lt h0
 exact ⟨gb, ob, e, hn, fun j hj => (World.cell?_of_block (w := w) (a := ⟨gb, ob + j, none⟩) (hg.block gb hlt (by simp; omega))).trans (hb j hj)⟩
theorem Src.drop64 {w : World} {g gb ob : Nat} {xs : List UInt8} (h : Bytes w gb ob xs) (hn : gb ≠ g) (k c : Nat) (hk : k ≤ xs.length) (hc : xs.length ≤ c) :
  Src w g (if c = k then some ⟨gb, ob, none⟩ else some ⟨gb, ob + k, none⟩) (xs.drop k) := fun h0 => by
 rw [List.length_drop] at h0
 refine ⟨gb, ob + k, by rw [if_neg (by omega)], hn, fun j hj => ?_⟩
 rw [List.length_drop] at hj
 have := h (k + j) (by omega)
 rw [Nat.add_assoc, this]
 simp [List.getD_eq_getElem?_getD, List.getElem?_drop]
theorem Bytes.take {w : World} {g o : Nat} {xs : List UInt8} (h : Bytes w g o xs) (k : Nat) : Bytes w g o (xs.take k) := fun j hj => by
 rw [List.length_take] at hj
 rw [h j (by omega)]
 simp [List.getD_eq_getElem?_getD, show j < k by omega]
theorem Blk.rest {w : World} {g : Nat} {t : TypeId} {s : St} {R : List UInt8} {n : Nat} (h : Blk w g t (stCells s R n)) : Bytes w g 8 R := fun j hj => (h.cell (8 + j)).trans (stCells_rest s R n j hj)

theorem Src.cells {w : World} {g : Nat} {A : Option Addr} {ys : List UInt8} {x : Addr} (h : Src w g A ys) :
  0 < (ys.map B8).length → some x = some x ∧ ∃ gb ob, A = some ⟨gb, ob, none⟩ ∧ ∀ j v, (ys.map B8)[j]? = some v → w.cell? ⟨gb, ob + j, none⟩ = some v := fun hp => by
 obtain ⟨gb, ob, rfl, _, hby⟩ := h (by simpa using hp)
 refine ⟨rfl, gb, ob, rfl, fun j v hv => ?_⟩
 have hj : j < ys.length := by have := (List.getElem?_eq_some_iff.1 hv).1; simpa using this
 rw [getD_map8 ys j hj] at hv
 rw [← Option.some.inj hv]
 exact hby j hj
/-- 'copy' into a block that is known, of bytes that lie elsewhere (or in it), nil and empty ones let in: the frame is that block alone. -/
theorem wpList_copy_blk {P : Program} {w : World} {ops : Array Oper} {rest : List Oper} {o : Oper} {a : Act} {Q : Exit → Act → World → Prop} (hgd : o.guard = none) (d s : Operand) (dT sT : TypeId)
  (ho : o.op = .call { callee := .builtin .copy, args := #[d, s], argTypes := #[dT, sT] }) (elem : TypeId) (hu : P.underlying dT = some (.slice elem)) (hsz : (P.info? elem).map (·.size) = some 1)
  (dp sp : Option Addr) (dLen dCap sLen sCap : Nat) (hd : a.eval d = .slice dp dLen dCap) (hs : a.eval s = .slice sp sLen sCap)
  (g off : Nat) (cur : List Value) (t : TypeId) (hg : Blk w g t cur) (cs : List Value) (hn : cs.length = Nat.min sLen dLen)
  (hpos : 0 < cs.length → dp = some ⟨g, off, none⟩ ∧ ∃ gb ob, sp = some ⟨gb, ob, none⟩ ∧ ∀ j v, cs[j]? = some v → w.cell? ⟨gb, ob + j, none⟩ = some v)
  (hfit : off + cs.length ≤ cur.length) (h1 : ∀ v ∈ cs, v.oneCell' = true)
  (h : ∀ w', Blk w' g t (splice cur off cs) → w.grownBy w' (some g) → wpList P ops Q rest (a.put o.dst (goInt cs.length)) w') :
  wpList P ops Q (o :: rest) a w := by
 by_cases h0 : cs.length = 0
 ·
  obtain rfl : cs = [] := List.eq_nil_of_length_eq_zero h0
  refine wpList_copy_nothing hgd d s dT sT ho elem hu hsz dp sp dLen dCap sLen sCap hd hs (by simpa using hn.symm) ?_
  exact h w (by rw [splice_nil]; exact hg) (grown_refl _ _)
 ·
  obtain ⟨rfl, gb, ob, rfl, hsrc⟩ := hpos (by omega)
  refine wpList_copy_own hgd d s dT sT ho elem hu hsz g off dLen dCap ⟨gb, ob, none⟩ sLen sCap hd hs cur.toArray t hg cs hn (fun j v hv => by rw [add_row]; exact hsrc j v hv) (by simpa using hfit) h1 ?_
  refine h _ ?_ (grown_setRow _ _ _)
  have := hg.row (splice cur off cs)
  simpa [splice_eq] using this

/-- Eight bytes, the highest first. -/
def be8 (c : Nat) : List UInt8 := [UInt8.ofNat (c / 72057594037927936), UInt8.ofNat (c / 281474976710656), UInt8.ofNat (c / 1099511627776), UInt8.ofNat (c / 4294967296), UInt8.ofNat (c / 16777216), UInt8.ofNat (c / 65536), UInt8.ofNat (c / 256), UInt8.ofNat c]
/-- What stands behind n bytes: a one bit, noughts, the count of bits. -/
def padB (n : Nat) : List UInt8 := 128 :: List.replicate ((119 - n % 64) % 64) 0 ++ be8 (n * 8)
theorem padB_length (n : Nat) : (padB n).length = 9 + (119 - n % 64) % 64 := by
 simp [padB, be8]; omega
/-- The four bytes of a word, the highest first. -/
def word4 (x : UInt32) : List UInt8 := [(x >>> 24).toUInt8, (x >>> 16).toUInt8, (x >>> 8).toUInt8, x.toUInt8]
def bytesOf (s : St) : List UInt8 := word4 s.a ++ word4 s.b ++ word4 s.c ++ word4 s.d ++ word4 s.e ++ word4 s.f ++ word4 s.g ++ word4 s.h
theorem w_byte (x : UInt32) (n : Nat) (hn : n < 32) : (x.toNat : Int) / 2 ^ n % 256 = (((x >>> UInt32.ofNat n).toUInt8).toNat : Int) := by
 rw [w_shr x n hn]; simp
theorem n_byte (c d : Nat) : (c : Int) / (d : Int) % 256 = ((UInt8.ofNat (c / d)).toNat : Int) := by simp

def lenOf : Value → Nat
 | .slice _ n _ => n
 | _ => 0

end
section
open Go.RowKit
theorem infoB : (Tryd.prog.info? 5).map (fun i => (i.zero, i.size, i.bytes)) = some (some (.int .u8 0), 1, 1) := by kernel_rfl

/-- What the slice value v owns, from block base on, is just these bytes. -/
def Own (w : World) (base : Nat) (v : Value) (bs : List UInt8) : Prop := w.ownsRow base 5 1 v bs.length (bs.map B8)

theorem madeCells_zeros (c : Nat) : madeCells #[.int .u8 0] c = ((List.replicate c (0 : UInt8)).map B8).toArray := by
 have h := toList_madeCells_one (.int .u8 0) c
 apply Array.toList_inj.1
 rw [h, List.map_replicate]; rfl

theorem run_make_bytes (kl kc : IntKind) (n c : Nat) (hnc : n ≤ c) (hc : c ≤ 1099511627776) (w : World) :
  (Instr.makeSlice 24 (.int kl (n : Int)) (.int kc (c : Int))).run Tryd.prog w = .ok (.slice (some ⟨w.heap.size, 0, none⟩) n c) (w.alloc (.cells ((List.replicate c (0 : UInt8)).map B8).toArray 5)) := by
 obtain ⟨i, hi, hz, hs, hb⟩ := info_parts infoB
 have h := run_make (P := Tryd.prog) w 24 5 i (.int .u8 0) Tryd.underlying24 hi hz kl kc n c (by omega) (by omega) (by rw [hb]; omega) (by omega)
 rw [h, hs]
 simp only [Int.toNat_natCast, Nat.mul_one]
 rw [show Value.cells (.int .u8 0) = #[.int .u8 0] from rfl, madeCells_zeros]

theorem Own.form {w : World} {base : Nat} {v : Value} {bs : List UInt8} (h : Own w base v bs) (h0 : 0 < bs.length) :
  ∃ g c, v = .slice (some ⟨g, 0, none⟩) bs.length c ∧ base ≤ g ∧ g < w.heap.size ∧ bs.length ≤ c ∧ c ≤ maxLen ∧ Bytes w g 0 bs := by
 obtain ⟨hlen, hown⟩ := h
 rcases hown with ⟨_, hn⟩ | ⟨g, cap, cur, hv, hb, hg, hnc, hcm, hcs, ht⟩
 ·
  omega
 ·
  have hlt : g < w.heap.size := by
   rcases Nat.lt_or_ge g w.heap.size with hlt | hge
   ·
    exact hlt
   ·
    rw [Array.getElem?_eq_none hge] at hg; cases hg
  refine ⟨g, cap, hv, hb, hlt, hnc, hcm, fun j hj => ?_⟩
  rw [Nat.zero_add, cell_of_row w g j cur _ _ hg]
  have h1 : (cur.toList.take (bs.length * 1))[j]? = some (B8 (bs.getD j 0)) := by rw [ht]; exact getD_map8 bs j hj
  rw [List.getElem?_take] at h1
  split at h1
  ·
   rw [← h1]; simp
  ·
   cases h1
theorem Own.slice {w : World} {base : Nat} {v : Value} {bs : List UInt8} (h : Own w base v bs) :
  ∃ A c, v = .slice A bs.length c ∧ bs.length ≤ c ∧ c ≤ 9223372036854775807 ∧ ∀ g, g < base → Src w g A bs := by
 rcases Nat.eq_zero_or_pos bs.length with h0 | h0
 ·
  rcases h.2 with ⟨hv, _⟩ | ⟨g, cap, cur, hv, _, _, hnc, hcm, _⟩
  ·
   exact ⟨none, 0, by rw [hv, h0], by omega, by omega, fun g _ hp => by omega⟩
  ·
   exact ⟨_, cap, hv, hnc, by simpa [maxLen] using hcm, fun g _ hp => by omega⟩
 ·
  obtain ⟨g, c, hv, hb, _, hc, hcm, hby⟩ := h.form h0
  exact ⟨_, c, hv, hc, by simpa [maxLen] using hcm, fun g' hg' _ => ⟨g, 0, rfl, by omega, hby⟩⟩

theorem Own.alloc {w : World} {base : Nat} {v : Value} {bs : List UInt8} (h : Own w base v bs) (o : Obj) : Own (w.alloc o) base v bs := World.ownsRow.alloc h o
theorem Own.drewN {w : World} {base : Nat} {v : Value} {bs : List UInt8} (h : Own w base v bs) (n : Nat) : Own (w.drewN n) base v bs := h
theorem Own.nil (w : World) (base : Nat) : Own w base (.slice none 0 0) [] := World.ownsRow_nil w base _ 1
theorem Own.made (w : World) (g n c : Nat) (bs zs : List UInt8) (hg : Blk w g 5 ((bs ++ zs).map B8)) (hn : bs.length = n) (hc : bs.length + zs.length = c) (hcm : c ≤ maxLen) (base : Nat) (hb : base ≤ g) :
  Own w base (.slice (some ⟨g, 0, none⟩) n c) bs := by
 subst hn
 refine ⟨by simp, .inr ⟨g, c, _, rfl, hb, hg, by omega, hcm, by simp; omega, ?_⟩⟩
 simp
theorem le_alloc {w : World} {B : Nat} (h : B ≤ w.heap.size) (o : Obj) : B ≤ (w.alloc o).heap.size := by simp; omega
/-- One byte more behind a row of the call's own. -/
theorem wpList_append_byte {ops : Array Oper} {rest : List Oper} {o : Oper} {a : Act} {w : World} {Q : Exit → Act → World → Prop} (hgd : o.guard = none) (s x : Operand)
  (ho : o.op = .call { callee := .builtin .append, args := #[s, x], argTypes := #[24, 24] })
  (base : Nat) (v : Value) (bs : List UInt8) (hs : a.eval s = v) (hown : Own w base v bs)
  (gx : Nat) (y : UInt8) (hx : a.eval x = .slice (some ⟨gx, 0, none⟩) 1 1) (hc : w.cell? ⟨gx, 0, none⟩ = some (B8 y))
  (hn : bs.length ≤ 1099511627776) (hbase : base ≤ w.heap.size)
  (h : ∀ v' w', Own w' base v' (bs ++ [y]) → Below base w w' → w.grownBy w' v.ownBlock → wpList Tryd.prog ops Q rest (a.put o.dst v') w') : wpList Tryd.prog ops Q (o :: rest) a w := by
 obtain ⟨i, hi, hz, hsz, hb⟩ := info_parts infoB
 refine wpList_append_own w hgd s x 24 ho base 5 i (.int .u8 0) 1 1 Tryd.underlying24 hi hz hsz hb rfl (by decide) v bs.length (bs.map B8) hs hown ⟨gx, 0, none⟩ 1 1 [B8 y] hx rfl ?_ ?_ (by simp only [maxLen]; omega) (by omega) hbase ?_
 ·
  intro j u hj
  match j, hj with
  | 0, hj => simp at hj; subst hj; simpa [Addr.add] using hc
  | j + 1, hj => simp at hj
 ·
  intro u hu; simp at hu; subst hu; rfl
 ·
  intro v' w' hown' hg _
  refine h v' w' ?_ ?_ hg
  ·
   have e : (bs ++ [y]).map B8 = bs.map B8 ++ [B8 y] := by simp
   unfold Own
   rw [e, List.length_append]; exact hown'
  ·
   exact ⟨hg.os, hg.tape, hg.output, hg.size, fun k hk => hg.block k (by omega) (fun e => by have := (hown.lt k e.symm).1; omega)⟩

end
section
open Go.RowKit
theorem info64 : (Tryd.prog.info? 148).map (·.size) = some 64 := by kernel_rfl

set_option maxRecDepth 100000 in
set_option maxHeartbeats 400000 in
theorem sched_any (gb ob : Nat) (cap : Nat) (bs : List UInt8) (w : World) (hl : bs.length = 64) (hcap : 64 ≤ cap) (hcm : cap ≤ 9223372036854775807) (hb : Bytes w gb ob bs) :
  Calls Tryd.prog 98 #[.slice (some ⟨gb, ob, none⟩) 64 cap] w fun e w' => e = .returned (.agg ((schedTo bs 64).map U32).toArray) ∧ Below w.heap.size w w' := by
 have hgb := hb.lt (by omega)
 go_enter Tryd.func98, Tryd.ntmps98
 go_wp2
 go_loopw [11] (fun i wr => ∃ k : Nat, k ≤ 16 ∧ i = .int .i64 k ∧ Blk wr (w.heap.size + 1) 148 ((schedTo bs k).map U32) ∧ Blk wr (w.heap.size) 148 ((schedTo bs 0).map U32) ∧ Below (w.heap.size) w wr) (fun i _ => 16 - (intOf i).toNat)
 case atStart => exact ⟨0, by omega, rfl, Blk.new2_of w _ _ _ _ (by rfl), (Blk.new_of w _ _ _ (by rfl)).alloc _, ((Below.refl _ _).alloc (Nat.le_refl _) _).alloc (by simp) _⟩
 case round =>
  obtain ⟨k, hk, rfl, hB, hA, hbl⟩ := hrel
  by_cases hlt : k < 16
  ·
   have hd : decide ((k : Int) < 16) = true := by simp; omega
   have HL := Lib.hid (schedTo_low bs k hlt)
   have hb' := hb.below hbl hgb
   have c0 := hb' (4 * k) (by omega)
   have c1 := hb' (4 * k + 1) (by omega)
   have c2 := hb' (4 * k + 2) (by omega)
   have c3 := hb' (4 * k + 3) (by omega)
   simp only [← Nat.add_assoc] at c1 c2 c3
   clear hb' hb
   have cw := hB.at32 k (by rw [schedTo_length]; omega)
   have cf := hB.frozen k
   go_wp2
   go_still_tail 23, (by kernel_rfl)
   change wpList _ _ _ _ _ wr.drew
   go_wp2
   go_roundw
   case rel =>
    refine ⟨k + 1, by omega, by go_num, ?_, (hA.far (p := ⟨w.heap.size + 1, k, none⟩) (by simp) _).drew, (hbl.setCell (by simp) _).drew⟩
    rw [HL.out, beWord_eq, ← map_set32]
    exact (hB.set_ k _).drew
   case measure => simp [intOf]; omega
  ·
   have hd : decide ((k : Int) < 16) = false := by simp; omega
   have hk16 : k = 16 := by omega
   replace hB : Blk wr (w.heap.size + 1) 148 ((schedTo bs 16).map U32) := hk16 ▸ hB
   clear hlt hk hb hk16
   go_wp2
   obtain ⟨wo, rfl⟩ : ∃ wo : World, wo = wr := ⟨_, rfl⟩
   go_loopw [6] (fun i wr => ∃ k : Nat, 16 ≤ k ∧ k ≤ 64 ∧ i = .int .i64 k ∧ Blk wr (w.heap.size + 1) 148 ((schedTo bs k).map U32) ∧ Blk wr (w.heap.size) 148 ((schedTo bs 0).map U32) ∧ Below (w.heap.size) w wr) (fun i _ => 64 - (intOf i).toNat)
   case atStart => exact ⟨16, by omega, by omega, rfl, hB, hA, hbl⟩
   case round =>
    obtain ⟨k, hk0, hk, rfl, hB, hA, hbl⟩ := hrel
    by_cases hlt : k < 64
    ·
     have hd : decide ((k : Int) < 64) = true := by simp; omega
     have HL := Lib.hid (schedTo_high bs k (by omega))
     have l64 := schedTo_length bs k
     have c15 := hB.at32 (k - 15) (by omega)
     have c2 := hB.at32 (k - 2) (by omega)
     go_wp2
     go_quiet (fail)
     replace hB := hB.drewN nq
     replace hA := hA.drewN nq
     replace hbl := below_drewN hbl nq
     clear c15 c2
     generalize wr.drewN nq = w1 at *
     have c16 := hB.at32 (k - 16) (by omega)
     have c7 := hB.at32 (k - 7) (by omega)
     have cw := hB.at32 k (by omega)
     have cf := hB.frozen k
     clear l64
     go_wp2_with (go_at_call 74; refine (rot_any _ _ _ (by omega) (by omega)).mono ?_; rintro e w' ⟨rfl, rfl⟩)
     go_wp2
     have a1 : IntKind.i64.wrap ((k : Int) - 16) = (k : Int) - 16 := IntWalk.i64_in _ (by omega)
     have a2 : IntKind.i64.wrap ((k : Int) - 7) = (k : Int) - 7 := IntWalk.i64_in _ (by omega)
     have a3 : (0 : Int) ≤ (k : Int) - 16 := by omega
     have a4 : (k : Int) - 16 < 64 := by omega
     have a5 : (0 : Int) ≤ (k : Int) - 7 := by omega
     have a6 : (k : Int) - 7 < 64 := by omega
     have a7 : ((k : Int) - 16).toNat = k - 16 := by omega
     have a8 : ((k : Int) - 7).toNat = k - 7 := by omega
     have b1 : (16 : Int) ≤ (k : Int) := by omega
     have b2 : (7 : Int) ≤ (k : Int) := by omega
     go_still_tail 14, (by kernel_rfl)
     clear a1 a2 a3 a4 a5 a6 a7 a8 b1 b2
     change wpList _ _ _ _ _ w1.drew
     go_wp2
     go_roundw
     case rel =>
      refine ⟨k + 1, by omega, by omega, by go_num, ?_, ?_, ?_⟩
      ·
       rw [HL.out, s0_eq, s1_eq, w_add4, ← map_set32]
       exact (hB.set_ k _).drew
      ·
       exact (hA.far (p := ⟨w.heap.size + 1, k, none⟩) (by simp) _).drew
      ·
       exact (hbl.setCell (by simp) _).drew
     case measure => simp [intOf]; omega
    ·
     have hd : decide ((k : Int) < 64) = false := by simp; omega
     obtain rfl : k = 64 := by omega
     go_wp2_with (first
      | (refine wpList_load_row rfl 148 (.tmp 3) rfl (w.heap.size + 1) rfl 148 _ (0, 0) _ hB.raw Tryd.underlying148 rfl (info64.trans (by simp [schedTo_length])) ?_)
      | (refine wpList_store_row rfl 148 (.tmp 2) (.tmp 89) rfl w.heap.size _ rfl rfl 148 _ hA.raw (info64.trans (by simp [schedTo_length])) (by simp [schedTo_length]) (one32 _) ?_))
     refine bodyPost_ret (v := .agg _) (results_cell_row rfl _ _ w.heap.size 148 _ (0, 0) _ rfl (hA.row _).raw Tryd.underlying148 rfl (info64.trans (by simp [schedTo_length]))) rfl ⟨rfl, below_setRow' hbl (by omega) _⟩

end
section
open Go.RowKit
/-- The two tables of package hash hold what the standard says. -/
structure Tabs (w : World) : Prop where
 first : ∀ i, i < 8 → w.cell? ⟨0, i, none⟩ = some (.int .u32 (first.words.getD i 0).toNat)
 rounds : ∀ i, i < 64 → w.cell? ⟨1, i, none⟩ = some (.int .u32 (kTab.getD i 0).toNat)
theorem Tabs.keep {w w' : World} (h : Tabs w) (k : ∀ p : Addr, p.block = 0 ∨ p.block = 1 → w'.cell? p = w.cell? p) : Tabs w' :=
 ⟨fun i hi => (k _ (.inl rfl)).trans (h.first i hi), fun i hi => (k _ (.inr rfl)).trans (h.rounds i hi)⟩
theorem Tabs.lt0 {w : World} (h : Tabs w) : 0 < w.heap.size := block_lt_of_cell (h.first 0 (by omega))
theorem Tabs.lt1 {w : World} (h : Tabs w) : 1 < w.heap.size := block_lt_of_cell (h.rounds 0 (by omega))
theorem Tabs.below {w w' : World} (h : Tabs w) (hb : Below w.heap.size w w') : Tabs w' :=
 h.keep fun p hp => hb.cell (by rcases hp with hp | hp <;> rw [hp]; exact h.lt0; exact h.lt1)
theorem Tabs.drew {w : World} (h : Tabs w) : Tabs w.drew := ⟨h.first, h.rounds⟩
theorem Tabs.drewN {w : World} (h : Tabs w) (n : Nat) : Tabs (w.drewN n) := ⟨h.first, h.rounds⟩
theorem Tabs.grown {w w' : World} {g : Nat} (h : Tabs w) (hb : w.grownBy w' (some g)) (h0 : g ≠ 0) (h1 : g ≠ 1) : Tabs w' :=
 h.keep fun p hp => World.cell?_of_block (hb.block p.block (by rcases hp with hp | hp <;> rw [hp]; exact h.lt0; exact h.lt1) (by rcases hp with hp | hp <;> rw [hp] <;> simp <;> omega))

set_option maxRecDepth 100000 in
set_option maxHeartbeats 2000000 in
theorem hturn_any (g gb ob cap : Nat) (t : TypeId) (s : St) (R : List Value) (bs : List UInt8) (w : World) (hl : bs.length = 64) (hcap : 64 ≤ cap) (hcm : cap ≤ 9223372036854775807)
  (hb : Bytes w gb ob bs) (hs : Blk w g t (s.vals ++ R)) (ht : Tabs w) :
  Calls Tryd.prog 93 #[.pointer (some ⟨g, 0, none⟩), .slice (some ⟨gb, ob, none⟩) 64 cap] w fun e w' => e = .returned (.tuple #[]) ∧ Blk w' g t ((comp s bs).vals ++ R) ∧ w.grownBy w' (some g) := by
 go_enter Tryd.func93, Tryd.ntmps93
 go_wp2_with fail
 refine (sched_any gb ob cap bs w hl hcap hcm hb).mono ?_
 rintro e w1 ⟨rfl, hb1⟩
 replace ht := ht.below hb1
 replace hs := hs.below hb1 hs.lt
 go_wp2_with (refine wpList_store_blk rfl 148 (.tmp 4) (.tmp 21) rfl rfl w1.heap.size _ rfl rfl 148 ((List.replicate 64 (0 : UInt32)).map U32) (Blk.new_of w1 _ _ _ (by rfl)) (info64.trans (by simp [schedTo_length])) (by simp [schedTo_length]) (one32 _) ?_; intro w2 hW hg2)
 have hsz : w.heap.size ≤ w1.heap.size := hb1.size
 have hlt := hs.lt
 replace hs := (hs.alloc _).grown hg2 (by simp; omega)
 replace hb1 := below_new (hb1.alloc hb1.size _) hg2 hb1.size (by simp; omega)
 replace ht := (ht.below ((Below.refl _ _).alloc (Nat.le_refl _) _)).grown hg2 (by have := ht.lt0; omega) (by have := ht.lt1; omega)
 clear hg2
 generalize w1.heap.size = G at *
 clear w1
 obtain ⟨W, hWW⟩ : ∃ W, W = schedTo bs 64 := ⟨_, rfl⟩
 rw [← hWW] at hW
 have hWl : W.length = 64 := by rw [hWW]; exact schedTo_length _ _
 have HW := Lib.hid hWW
 have HWl := Lib.hid hWl
 clear hWW hWl
 have c0 : w2.cell? ⟨g, 0, none⟩ = some (.int .u32 s.a.toNat) := hs.cell 0
 have c1 : w2.cell? ⟨g, 1, none⟩ = some (.int .u32 s.b.toNat) := hs.cell 1
 have c2 : w2.cell? ⟨g, 2, none⟩ = some (.int .u32 s.c.toNat) := hs.cell 2
 have c3 : w2.cell? ⟨g, 3, none⟩ = some (.int .u32 s.d.toNat) := hs.cell 3
 go_quiet (fail)
 replace hs := hs.drewN nq
 replace hW := hW.drewN nq
 replace ht := ht.drewN nq
 replace hb1 := below_drewN hb1 nq
 clear c0 c1 c2 c3
 generalize w2.drewN nq = w2 at *
 clear nq
 have c4 : w2.cell? ⟨g, 4, none⟩ = some (.int .u32 s.e.toNat) := hs.cell 4
 have c5 : w2.cell? ⟨g, 5, none⟩ = some (.int .u32 s.f.toNat) := hs.cell 5
 have c6 : w2.cell? ⟨g, 6, none⟩ = some (.int .u32 s.g.toNat) := hs.cell 6
 have c7 : w2.cell? ⟨g, 7, none⟩ = some (.int .u32 s.h.toNat) := hs.cell 7
 go_wp2
 go_quiet (fail)
 replace hs := hs.drewN nq
 replace hW := hW.drewN nq
 replace ht := ht.drewN nq
 replace hb1 := below_drewN hb1 nq
 clear c4 c5 c6 c7
 generalize w2.drewN nq = w3 at *
 clear nq
 go_wp2
 have hsg : IntKind.u32.signed = false := rfl
 go_loopw [5, 6, 7, 8, 9, 10, 11, 12, 54] (fun va vb vc vd ve vf vg vh i wr => ∃ (k : Nat) (q : St) (n : Nat), k ≤ 64 ∧ i = .int .i64 k ∧ va = .int .u32 q.a.toNat ∧ vb = .int .u32 q.b.toNat ∧ vc = .int .u32 q.c.toNat ∧ vd = .int .u32 q.d.toNat ∧ ve = .int .u32 q.e.toNat ∧ vf = .int .u32 q.f.toNat ∧ vg = .int .u32 q.g.toNat ∧ vh = .int .u32 q.h.toNat ∧ Hid (q = rnds W k s) ∧ wr = w3.drewN n)
  (fun _ _ _ _ _ _ _ _ i _ => 64 - (intOf i).toNat)
 case atStart => exact ⟨0, s, 0, by omega, rfl, rfl, rfl, rfl, rfl, rfl, rfl, rfl, rfl, (show _ = _ from rfl), rfl⟩
 case round =>
  obtain ⟨k, q, n, hk, rfl, rfl, rfl, rfl, rfl, rfl, rfl, rfl, rfl, HQ, rfl⟩ := hrel
  by_cases hlk : k < 64
  ·
   have hd : decide ((k : Int) < 64) = true := by simp; omega
   have cK := ht.rounds k hlk
   have cW := hW.at32 k (by rw [HWl.out]; exact hlk)
   have b0 : (0 : Int) ≤ (k : Int) := by omega
   have b1 : (k : Int) < 64 := by omega
   go_wp2_with (go_at_call 74; refine (rot_any _ _ _ (by omega) (by omega)).mono ?_; rintro e w' ⟨rfl, rfl⟩)
   go_quiet (fail)
   go_wp2_with (go_at_call 74; refine (rot_any _ _ _ (by omega) (by omega)).mono ?_; rintro e w' ⟨rfl, rfl⟩)
   go_roundw
   case rel =>
    refine ⟨k + 1, rnd (kTab.getD k 0) (W.getD k 0) q, n + nq, by omega, by go_num, ?_, rfl, rfl, rfl, ?_, rfl, rfl, rfl, ?_, rfl⟩
    ·
     simp only [w_not, w_xor, w_and, w_add5, w_add]; rfl
    ·
     simp only [w_not, w_xor, w_and, w_add5, w_add]; rfl
    ·
     show _ = _
     rw [HQ.out]; rfl
   case measure => simp [intOf]; omega
  ·
   have hd : decide ((k : Int) < 64) = false := by simp; omega
   have hg3 := grown_of_below (below_drewN hb1 n) (some g)
   replace hs := hs.drewN n
   have hC : comp s bs = addSt s q := by
    unfold comp
    rw [HQ.out, HW.out, show k = 64 by omega]
   have HC := Lib.hid hC
   clear hC HQ HW hW ht hb1 hk hlk hb
   go_wp2
   generalize w3.drewN n = w4 at *
   have c : w4.cell? ⟨g, 0, none⟩ = some (.int .u32 s.a.toNat) := hs.cell 0
   have f := hs.frozen 0
   go_still_tail 8, (by kernel_rfl)
   change wpList _ _ _ _ _ w4.drew
   go_wp2
   clear c f
   replace hs : Blk (w4.setCell ⟨g, 0, none⟩ (.int .u32 (((s.a.toNat : Int) + (q.a.toNat : Int)) % 4294967296))).drew g t (([U32 s.a, U32 s.b, U32 s.c, U32 s.d, U32 s.e, U32 s.f, U32 s.g, U32 s.h] ++ R).set 0 (.int .u32 (((s.a.toNat : Int) + (q.a.toNat : Int)) % 4294967296))) := (hs.set_ 0 _).drew
   replace hg3 := grown_drew (grown_setCell hg3 (p := ⟨g, 0, none⟩) (.inl rfl) (.int .u32 (((s.a.toNat : Int) + (q.a.toNat : Int)) % 4294967296)))
   generalize (w4.setCell ⟨g, 0, none⟩ (.int .u32 (((s.a.toNat : Int) + (q.a.toNat : Int)) % 4294967296))).drew = w4 at *
   rw [w_add] at hs
   replace hs : Blk w4 g t ([U32 (s.a + q.a), U32 s.b, U32 s.c, U32 s.d, U32 s.e, U32 s.f, U32 s.g, U32 s.h] ++ R) := hs
   have c : w4.cell? ⟨g, 1, none⟩ = some (.int .u32 s.b.toNat) := hs.cell 1
   have f := hs.frozen 1
   go_still_tail 8, (by kernel_rfl)
   change wpList _ _ _ _ _ w4.drew
   go_wp2
   clear c f
   replace hs : Blk (w4.setCell ⟨g, 1, none⟩ (.int .u32 (((s.b.toNat : Int) + (q.b.toNat : Int)) % 4294967296))).drew g t (([U32 (s.a + q.a), U32 s.b, U32 s.c, U32 s.d, U32 s.e, U32 s.f, U32 s.g, U32 s.h] ++ R).set 1 (.int .u32 (((s.b.toNat : Int) + (q.b.toNat : Int)) % 4294967296))) := (hs.set_ 1 _).drew
   replace hg3 := grown_drew (grown_setCell hg3 (p := ⟨g, 1, none⟩) (.inl rfl) (.int .u32 (((s.b.toNat : Int) + (q.b.toNat : Int)) % 4294967296)))
   generalize (w4.setCell ⟨g, 1, none⟩ (.int .u32 (((s.b.toNat : Int) + (q.b.toNat : Int)) % 4294967296))).drew = w4 at *
   rw [w_add] at hs
   replace hs : Blk w4 g t ([U32 (s.a + q.a), U32 (s.b + q.b), U32 s.c, U32 s.d, U32 s.e, U32 s.f, U32 s.g, U32 s.h] ++ R) := hs
   have c : w4.cell? ⟨g, 2, none⟩ = some (.int .u32 s.c.toNat) := hs.cell 2
   have f := hs.frozen 2
   go_still_tail 8, (by kernel_rfl)
   change wpList _ _ _ _ _ w4.drew
   go_wp2
   clear c f
   replace hs : Blk (w4.setCell ⟨g, 2, none⟩ (.int .u32 (((s.c.toNat : Int) + (q.c.toNat : Int)) % 4294967296))).drew g t (([U32 (s.a + q.a), U32 (s.b + q.b), U32 s.c, U32 s.d, U32 s.e, U32 s.f, U32 s.g, U32 s.h] ++ R).set 2 (.int .u32 (((s.c.toNat : Int) + (q.c.toNat : Int)) % 4294967296))) := (hs.set_ 2 _).drew
   replace hg3 := grown_drew (grown_setCell hg3 (p := ⟨g, 2, none⟩) (.inl rfl) (.int .u32 (((s.c.toNat : Int) + (q.c.toNat : Int)) % 4294967296)))
   generalize (w4.setCell ⟨g, 2, none⟩ (.int .u32 (((s.c.toNat : Int) + (q.c.toNat : Int)) % 4294967296))).drew = w4 at *
   rw [w_add] at hs
   replace hs : Blk w4 g t ([U32 (s.a + q.a), U32 (s.b + q.b), U32 (s.c + q.c), U32 s.d, U32 s.e, U32 s.f, U32 s.g, U32 s.h] ++ R) := hs
   have c : w4.cell? ⟨g, 3, none⟩ = some (.int .u32 s.d.toNat) := hs.cell 3
   have f := hs.frozen 3
   go_still_tail 8, (by kernel_rfl)
   change wpList _ _ _ _ _ w4.drew
   go_wp2
   clear c f
   replace hs : Blk (w4.setCell ⟨g, 3, none⟩ (.int .u32 (((s.d.toNat : Int) + (q.d.toNat : Int)) % 4294967296))).drew g t (([U32 (s.a + q.a), U32 (s.b + q.b), U32 (s.c + q.c), U32 s.d, U32 s.e, U32 s.f, U32 s.g, U32 s.h] ++ R).set 3 (.int .u32 (((s.d.toNat : Int) + (q.d.toNat : Int)) % 4294967296))) := (hs.set_ 3 _).drew
   replace hg3 := grown_drew (grown_setCell hg3 (p := ⟨g, 3, none⟩) (.inl rfl) (.int .u32 (((s.d.toNat : Int) + (q.d.toNat : Int)) % 4294967296)))
   generalize (w4.setCell ⟨g, 3, none⟩ (.int .u32 (((s.d.toNat : Int) + (q.d.toNat : Int)) % 4294967296))).drew = w4 at *
   rw [w_add] at hs
   replace hs : Blk w4 g t ([U32 (s.a + q.a), U32 (s.b + q.b), U32 (s.c + q.c), U32 (s.d + q.d), U32 s.e, U32 s.f, U32 s.g, U32 s.h] ++ R) := hs
   have c : w4.cell? ⟨g, 4, none⟩ = some (.int .u32 s.e.toNat) := hs.cell 4
   have f := hs.frozen 4
   go_still_tail 8, (by kernel_rfl)
   change wpList _ _ _ _ _ w4.drew
   go_wp2
   clear c f
   replace hs : Blk (w4.setCell ⟨g, 4, none⟩ (.int .u32 (((s.e.toNat : Int) + (q.e.toNat : Int)) % 4294967296))).drew g t (([U32 (s.a + q.a), U32 (s.b + q.b), U32 (s.c + q.c), U32 (s.d + q.d), U32 s.e, U32 s.f, U32 s.g, U32 s.h] ++ R).set 4 (.int .u32 (((s.e.toNat : Int) + (q.e.toNat : Int)) % 4294967296))) := (hs.set_ 4 _).drew
   replace hg3 := grown_drew (grown_setCell hg3 (p := ⟨g, 4, none⟩) (.inl rfl) (.int .u32 (((s.e.toNat : Int) + (q.e.toNat : Int)) % 4294967296)))
   generalize (w4.setCell ⟨g, 4, none⟩ (.int .u32 (((s.e.toNat : Int) + (q.e.toNat : Int)) % 4294967296))).drew = w4 at *
   rw [w_add] at hs
   replace hs : Blk w4 g t ([U32 (s.a + q.a), U32 (s.b + q.b), U32 (s.c + q.c), U32 (s.d + q.d), U32 (s.e + q.e), U32 s.f, U32 s.g, U32 s.h] ++ R) := hs
   have c : w4.cell? ⟨g, 5, none⟩ = some (.int .u32 s.f.toNat) := hs.cell 5
   have f := hs.frozen 5
   go_still_tail 8, (by kernel_rfl)
   change wpList _ _ _ _ _ w4.drew
   go_wp2
   clear c f
   replace hs : Blk (w4.setCell ⟨g, 5, none⟩ (.int .u32 (((s.f.toNat : Int) + (q.f.toNat : Int)) % 4294967296))).drew g t (([U32 (s.a + q.a), U32 (s.b + q.b), U32 (s.c + q.c), U32 (s.d + q.d), U32 (s.e + q.e), U32 s.f, U32 s.g, U32 s.h] ++ R).set 5 (.int .u32 (((s.f.toNat : Int) + (q.f.toNat : Int)) % 4294967296))) := (hs.set_ 5 _).drew
   replace hg3 := grown_drew (grown_setCell hg3 (p := ⟨g, 5, none⟩) (.inl rfl) (.int .u32 (((s.f.toNat : Int) + (q.f.toNat : Int)) % 4294967296)))
   generalize (w4.setCell ⟨g, 5, none⟩ (.int .u32 (((s.f.toNat : Int) + (q.f.toNat : Int)) % 4294967296))).drew = w4 at *
   rw [w_add] at hs
   replace hs : Blk w4 g t ([U32 (s.a + q.a), U32 (s.b + q.b), U32 (s.c + q.c), U32 (s.d + q.d), U32 (s.e + q.e), U32 (s.f + q.f), U32 s.g, U32 s.h] ++ R) := hs
   have c : w4.cell? ⟨g, 6, none⟩ = some (.int .u32 s.g.toNat) := hs.cell 6
   have f := hs.frozen 6
   go_still_tail 8, (by kernel_rfl)
   change wpList _ _ _ _ _ w4.drew
   go_wp2
   clear c f
   replace hs : Blk (w4.setCell ⟨g, 6, none⟩ (.int .u32 (((s.g.toNat : Int) + (q.g.toNat : Int)) % 4294967296))).drew g t (([U32 (s.a + q.a), U32 (s.b + q.b), U32 (s.c + q.c), U32 (s.d + q.d), U32 (s.e + q.e), U32 (s.f + q.f), U32 s.g, U32 s.h] ++ R).set 6 (.int .u32 (((s.g.toNat : Int) + (q.g.toNat : Int)) % 4294967296))) := (hs.set_ 6 _).drew
   replace hg3 := grown_drew (grown_setCell hg3 (p := ⟨g, 6, none⟩) (.inl rfl) (.int .u32 (((s.g.toNat : Int) + (q.g.toNat : Int)) % 4294967296)))
   generalize (w4.setCell ⟨g, 6, none⟩ (.int .u32 (((s.g.toNat : Int) + (q.g.toNat : Int)) % 4294967296))).drew = w4 at *
   rw [w_add] at hs
   replace hs : Blk w4 g t ([U32 (s.a + q.a), U32 (s.b + q.b), U32 (s.c + q.c), U32 (s.d + q.d), U32 (s.e + q.e), U32 (s.f + q.f), U32 (s.g + q.g), U32 s.h] ++ R) := hs
   have c : w4.cell? ⟨g, 7, none⟩ = some (.int .u32 s.h.toNat) := hs.cell 7
   have f := hs.frozen 7
   go_still_tail 8, (by kernel_rfl)
   change wpList _ _ _ _ _ w4.drew
   go_wp2
   clear c f
   replace hs : Blk (w4.setCell ⟨g, 7, none⟩ (.int .u32 (((s.h.toNat : Int) + (q.h.toNat : Int)) % 4294967296))).drew g t (([U32 (s.a + q.a), U32 (s.b + q.b), U32 (s.c + q.c), U32 (s.d + q.d), U32 (s.e + q.e), U32 (s.f + q.f), U32 (s.g + q.g), U32 s.h] ++ R).set 7 (.int .u32 (((s.h.toNat : Int) + (q.h.toNat : Int)) % 4294967296))) := (hs.set_ 7 _).drew
   replace hg3 := grown_drew (grown_setCell hg3 (p := ⟨g, 7, none⟩) (.inl rfl) (.int .u32 (((s.h.toNat : Int) + (q.h.toNat : Int)) % 4294967296)))
   generalize (w4.setCell ⟨g, 7, none⟩ (.int .u32 (((s.h.toNat : Int) + (q.h.toNat : Int)) % 4294967296))).drew = w4 at *
   rw [w_add] at hs
   replace hs : Blk w4 g t ([U32 (s.a + q.a), U32 (s.b + q.b), U32 (s.c + q.c), U32 (s.d + q.d), U32 (s.e + q.e), U32 (s.f + q.f), U32 (s.g + q.g), U32 (s.h + q.h)] ++ R) := hs
   go_end0
   exact ⟨rfl, by rw [HC.out]; exact hs, hg3⟩

end
section
open Go.RowKit
theorem info8 : (Tryd.prog.info? 5).map (·.size) = some 1 := by kernel_rfl

/-- The loop over whole blocks and the last copy: from a state whose bytes so far make whole blocks. -/
theorem oneB8 (cs : List UInt8) : ∀ v ∈ cs.map B8, v.oneCell' = true := by
 intro v hv; simp at hv; obtain ⟨x, _, rfl⟩ := hv; rfl

set_option maxRecDepth 100000 in
set_option maxHeartbeats 1000000 in
theorem put_zero (g cap : Nat) (A : Option Addr) (t : TypeId) (s : St) (R b : List UInt8) (n : Nat) (w : World) (hR : R.length = 64) (hn : n + b.length < 1099511627776) (h0 : n % 64 = 0)
  (hbc : b.length ≤ cap) (hcm : cap ≤ 9223372036854775807) (hA : Src w g A b) (hs : Blk w g t (stCells s R n)) (ht : Tabs w) (hg0 : g ≠ 0) (hg1 : g ≠ 1) :
  Calls Tryd.prog 81 #[.pointer (some ⟨g, 0, none⟩), .slice A b.length cap] w fun e w' => e = .returned (.tuple #[]) ∧ w.grownBy w' (some g) ∧
   ∃ R', R'.length = 64 ∧ R'.take ((n + b.length) % 64) = left b ∧ Blk w' g t (stCells (blocks s b) R' (n + b.length)) := by
 have HRL := Lib.hid hR
 have c72 : w.cell? ⟨g, 72, none⟩ = some (.int .u64 (n : Int)) := (hs.cell 72).trans (stCells_72 s R n hR)
 have f72 := hs.frozen 72
 have hh : (n : Int) % 64 = 0 := by omega
 go_enter Tryd.func81, Tryd.ntmps81
 go_wp2
 clear hh
 have hg : w.grownBy (w.setCell ⟨g, 72, none⟩ (.int .u64 ((n : Int) + (b.length : Int)))) (some g) := grown_setCell (grown_refl w _) (.inl rfl) _
 replace hs : Blk (w.setCell ⟨g, 72, none⟩ (.int .u64 ((n : Int) + (b.length : Int)))) g t ((stCells s R n).set 72 (.int .u64 ((n : Int) + (b.length : Int)))) := hs.set_ 72 _
 replace ht := ht.grown hg hg0 hg1
 replace hA := hA.keep hg
 clear c72 f72
 generalize w.setCell ⟨g, 72, none⟩ (.int .u64 ((n : Int) + (b.length : Int))) = w1 at *
 rw [show (n : Int) + (b.length : Int) = ((n + b.length : Nat) : Int) from by omega, stCells_set72 _ _ _ _ hR] at hs
 go_loopw [1] (fun v wr => ∃ (A' : Option Addr) (c : Nat) (ys : List UInt8) (q : St), v = .slice A' ys.length c ∧ ys.length ≤ c ∧ c ≤ 9223372036854775807 ∧ Hid (blocks q ys = blocks s b ∧ left ys = left b) ∧ Src wr g A' ys ∧ Blk wr g t (stCells q R (n + b.length)) ∧ Tabs wr ∧ w.grownBy wr (some g)) (fun v _ => lenOf v)
 case atStart => exact ⟨A, cap, b, s, rfl, hbc, hcm, show _ ∧ _ from ⟨rfl, rfl⟩, hA, hs, ht, hg⟩
 case round =>
  obtain ⟨A', c, ys, q, rfl, hyc, hcm', HB, hA', hs', ht', hg'⟩ := hrel
  by_cases h64 : 64 ≤ ys.length
  ·
   have hd : decide ((64 : Int) ≤ (ys.length : Int)) = true := by simp; omega
   obtain ⟨gb, ob, rfl, hne, hby⟩ := hA' (by omega)
   have HS := Lib.hid (blocks_step q ys h64)
   have HL := Lib.hid (left_step ys h64)
   clear hA'
   have a1 : 64 ≤ c := by omega
   have a2 : (64 : Int) ≤ (c : Int) := by omega
   rcases Decidable.em (c = 64) with rfl | hc
   ·
    go_wp2
    go_still_tail 5, (by kernel_rfl)
    change wpList _ _ _ _ _ wr.drew
    go_wp2_with fail
    refine (hturn_any g gb ob _ t q (R.map B8 ++ [.int .u64 ((n + b.length : Nat) : Int)]) (ys.take 64) _ (by rw [List.length_take]; omega) (by omega) hcm' (hby.take 64).drew hs'.drew ht'.drew).mono ?_
    rintro e w2 ⟨rfl, hs2, hg2⟩
    replace hg2 : wr.grownBy w2 (some g) := grown_from_drew hg2
    have hby2 := Src.drop64 (g := g) (fun j hj => (World.cell?_of_block (w := wr) (a := ⟨gb, ob + j, none⟩) (hg2.block gb (hby.lt (by omega)) (by simp; omega))).trans (hby j hj)) hne 64 _ h64 hyc
    go_wp2
    go_roundw
    case rel =>
     refine ⟨_, 0, ys.drop 64, comp q (ys.take 64), ?_, by rw [List.length_drop]; omega, by omega, show _ ∧ _ from ⟨HS.out ▸ HB.out.1, HL.out ▸ HB.out.2⟩, hby2, hs2, ht'.grown hg2 hg0 hg1, grown_trans hg' hg2⟩
     simp [*]
    case measure => simp [lenOf]; omega
   ·
    go_wp2
    go_still_tail 5, (by kernel_rfl)
    change wpList _ _ _ _ _ wr.drew
    go_wp2_with fail
    refine (hturn_any g gb ob _ t q (R.map B8 ++ [.int .u64 ((n + b.length : Nat) : Int)]) (ys.take 64) _ (by rw [List.length_take]; omega) (by omega) hcm' (hby.take 64).drew hs'.drew ht'.drew).mono ?_
    rintro e w2 ⟨rfl, hs2, hg2⟩
    replace hg2 : wr.grownBy w2 (some g) := grown_from_drew hg2
    have hby2 := Src.drop64 (g := g) (fun j hj => (World.cell?_of_block (w := wr) (a := ⟨gb, ob + j, none⟩) (hg2.block gb (hby.lt (by omega)) (by simp; omega))).trans (hby j hj)) hne 64 _ h64 hyc
    go_wp2
    go_roundw
    case rel =>
     refine ⟨_, (c - 64), ys.drop 64, comp q (ys.take 64), ?_, by rw [List.length_drop]; omega, by omega, show _ ∧ _ from ⟨HS.out ▸ HB.out.1, HL.out ▸ HB.out.2⟩, hby2, hs2, ht'.grown hg2 hg0 hg1, grown_trans hg' hg2⟩
     simp [*]
    case measure => simp [lenOf]; omega
  ·
   have hd : decide ((64 : Int) ≤ (ys.length : Int)) = false := by simp; omega
   have HP : Hid (0 < (ys.map B8).length → (some (⟨g, 8, none⟩ : Addr)) = some ⟨g, 8, none⟩ ∧ ∃ gb ob, A' = some ⟨gb, ob, none⟩ ∧ ∀ j v, (ys.map B8)[j]? = some v → wr.cell? ⟨gb, ob + j, none⟩ = some v) := Src.cells hA'
   go_wp2_with (with_reducible refine wpList_copy_blk rfl (.tmp 60) (.tmp 61) 24 24 rfl 5 Tryd.underlying24 info8 _ _ _ _ _ _ rfl rfl g 8 _ t hs' (ys.map B8) (by rw [List.length_map]; exact (Nat.min_eq_left (by omega)).symm) HP.out (by rw [stCells_length _ _ _ HRL.out, List.length_map]; omega) (oneB8 _) ?_; intro w' hs2 hg2)
   go_wp2
   go_end0
   have e1 := stCells_splice q R ys (n + b.length) 0 HRL.out (by omega)
   have e2 := HB.out.1
   have e3 := HB.out.2
   rw [blocks_short _ _ (by omega)] at e2
   rw [left_short _ (by omega)] at e3
   refine ⟨rfl, grown_trans hg' hg2, splice R 0 ys, by rw [splice_length _ _ _ (by rw [HRL.out]; omega), HRL.out], ?_, ?_⟩
   ·
    have h := splice_take R 0 ys (by omega)
    have hl : (n + b.length) % 64 = 0 + ys.length := by
     have := congrArg List.length e3
     rw [left_length] at this
     omega
    rw [hl, h]
    simpa using e3
   ·
    rw [← e2, ← e1]; exact hs2

set_option maxRecDepth 100000 in
set_option maxHeartbeats 1000000 in
theorem put_short (g cap : Nat) (A : Option Addr) (t : TypeId) (s : St) (R b : List UInt8) (n h : Nat) (w : World) (hR : R.length = 64) (hn : n + b.length < 1099511627776) (h0 : n % 64 = h) (hp : 0 < h) (hsh : h + b.length < 64)
  (hbc : b.length ≤ cap) (hcm : cap ≤ 9223372036854775807) (hA : Src w g A b) (hs : Blk w g t (stCells s R n)) :
  Calls Tryd.prog 81 #[.pointer (some ⟨g, 0, none⟩), .slice A b.length cap] w fun e w' => e = .returned (.tuple #[]) ∧ w.grownBy w' (some g) ∧
   Blk w' g t (stCells s (splice R h b) (n + b.length)) := by
 have HRL := Lib.hid hR
 have c72 : w.cell? ⟨g, 72, none⟩ = some (.int .u64 (n : Int)) := (hs.cell 72).trans (stCells_72 s R n hR)
 have f72 := hs.frozen 72
 have hh : (n : Int) % 64 = (h : Int) := by omega
 have hp' : (0 : Int) < (h : Int) := by omega
 have hp2 : (h : Int) ≤ 64 := by omega
 have hp3 : ¬ 64 = h := by omega
 have hd5 : decide ((h : Int) + (b.length : Int) < 64) = true := by simp; omega
 clear h0
 have hg : w.grownBy (w.setCell ⟨g, 72, none⟩ (.int .u64 ((n : Int) + (b.length : Int)))) (some g) := grown_setCell (grown_refl w _) (.inl rfl) _
 have hs1 : Blk (w.setCell ⟨g, 72, none⟩ (.int .u64 ((n : Int) + (b.length : Int)))) g t ((stCells s R n).set 72 (.int .u64 ((n : Int) + (b.length : Int)))) := hs.set_ 72 _
 rw [show (stCells s R n).set 72 (.int .u64 ((n : Int) + (b.length : Int))) = stCells s R (n + b.length) from by rw [show (n : Int) + (b.length : Int) = ((n + b.length : Nat) : Int) from by omega, stCells_set72 _ _ _ _ hR]] at hs1
 have hA1 := hA.keep hg
 have hl : ((64 : Int) - (h : Int)).toNat = 64 - h := by omega
 have HP : Hid (0 < (b.map B8).length → (some (⟨g, 8 + h, none⟩ : Addr)) = some ⟨g, 8 + h, none⟩ ∧ ∃ gb ob, A = some ⟨gb, ob, none⟩ ∧ ∀ j v, (b.map B8)[j]? = some v → (w.setCell ⟨g, 72, none⟩ (.int .u64 ((n : Int) + (b.length : Int)))).cell? ⟨gb, ob + j, none⟩ = some v) := Src.cells hA1
 go_enter Tryd.func81, Tryd.ntmps81
 go_wp2_with (with_reducible refine wpList_copy_blk rfl (.tmp 28) (.tmp 29) 24 24 rfl 5 Tryd.underlying24 info8 _ _ _ _ _ _ rfl rfl g (8 + h) _ t hs1 (b.map B8) (by rw [List.length_map]; exact (Nat.min_eq_left (by omega)).symm) HP.out (by rw [stCells_length _ _ _ HRL.out, List.length_map]; omega) (oneB8 _) ?_; intro w' hs2 hg2)
 refine bodyPost_ret (results_none rfl _ _ _) rfl ?_
 rw [stCells_splice _ _ _ _ _ HRL.out (by omega)] at hs2
 exact ⟨rfl, grown_trans hg hg2, hs2⟩

set_option maxRecDepth 100000 in
set_option maxHeartbeats 2000000 in
theorem put_more (g gb ob cap : Nat) (t : TypeId) (s : St) (R p r : List UInt8) (n h k : Nat) (w : World) (hR : R.length = 64) (hn : n + (k + r.length) < 1099511627776) (h0 : n % 64 = h) (hp : 0 < h) (hk : h + k = 64) (hpl : p.length = k)
  (hbc : k + r.length ≤ cap) (hcm : cap ≤ 9223372036854775807) (hne : gb ≠ g) (hby : Bytes w gb ob (p ++ r)) (hs : Blk w g t (stCells s R n)) (ht : Tabs w) (hg0 : g ≠ 0) (hg1 : g ≠ 1) :
  Calls Tryd.prog 81 #[.pointer (some ⟨g, 0, none⟩), .slice (some ⟨gb, ob, none⟩) (k + r.length) cap] w fun e w' => e = .returned (.tuple #[]) ∧ w.grownBy w' (some g) ∧
   ∃ R', R'.length = 64 ∧ R'.take ((n + (k + r.length)) % 64) = left r ∧ Blk w' g t (stCells (blocks (comp s (R.take h ++ p)) r) R' (n + (k + r.length))) := by
 have HRL := Lib.hid hR
 have HPL := Lib.hid hpl
 have HRL1 : Hid ((R.take h ++ p).length = 64) := (show _ = _ by rw [List.length_append, List.length_take]; omega)
 have c72 : w.cell? ⟨g, 72, none⟩ = some (.int .u64 (n : Int)) := (hs.cell 72).trans (stCells_72 s R n hR)
 have f72 := hs.frozen 72
 have hh : (n : Int) % 64 = (h : Int) := by omega
 have hp' : (0 : Int) < (h : Int) := by omega
 have hp2 : (h : Int) ≤ 64 := by omega
 have hp3 : ¬ 64 = h := by omega
 have hd5 : decide ((h : Int) + (k : Int) < 64) = false := by simp; omega
 have hg : w.grownBy (w.setCell ⟨g, 72, none⟩ (.int .u64 ((n : Int) + ((k : Int) + (r.length : Int))))) (some g) := grown_setCell (grown_refl w _) (.inl rfl) _
 have hs1 : Blk (w.setCell ⟨g, 72, none⟩ (.int .u64 ((n : Int) + ((k : Int) + (r.length : Int))))) g t ((stCells s R n).set 72 (.int .u64 ((n : Int) + ((k : Int) + (r.length : Int))))) := hs.set_ 72 _
 rw [show (stCells s R n).set 72 (.int .u64 ((n : Int) + ((k : Int) + (r.length : Int)))) = stCells s R (n + (k + r.length)) from by rw [show (n : Int) + ((k : Int) + (r.length : Int)) = ((n + (k + r.length) : Nat) : Int) from by omega, stCells_set72 _ _ _ _ hR]] at hs1
 have ht1 := ht.grown hg hg0 hg1
 have hA1 : Src (w.setCell ⟨g, 72, none⟩ (.int .u64 ((n : Int) + ((k : Int) + (r.length : Int))))) g (some ⟨gb, ob, none⟩) (p ++ r) := Src.keep (fun _ => ⟨gb, ob, rfl, hne, hby⟩) hg
 have hbr : (p ++ r).length = k + r.length := by rw [List.length_append, hpl]
 have HP : Hid (0 < (p.map B8).length → (some (⟨g, 8 + h, none⟩ : Addr)) = some ⟨g, 8 + h, none⟩ ∧ ∃ gb' ob', (some (⟨gb, ob, none⟩ : Addr)) = some ⟨gb', ob', none⟩ ∧ ∀ j v, (p.map B8)[j]? = some v → (w.setCell ⟨g, 72, none⟩ (.int .u64 ((n : Int) + ((k : Int) + (r.length : Int))))).cell? ⟨gb', ob' + j, none⟩ = some v) :=
  Src.cells (g := g) (fun h1 => by
   obtain ⟨gb', ob', e, hne', hb'⟩ := hA1 (by omega)
   have := hb'.take p.length
   rw [List.take_left] at this
   exact ⟨gb', ob', e, hne', this⟩)
 have hby1 := fun (j : Nat) (hj : j < (p ++ r).length) => (World.cell?_of_block (w := w) (a := ⟨gb, ob + j, none⟩) (hg.block gb (hby.lt (by omega)) (by simp; omega))).trans (hby j hj)
 have HK := Lib.hid hk
 have HBR := Lib.hid hbr
 have HH0 := Lib.hid h0
 have hk6 : k ≤ 64 := by omega
 clear h0 hA1 hk hbr hby hs ht hR
 go_enter Tryd.func81, Tryd.ntmps81
 go_wp2_with (with_reducible refine wpList_copy_blk rfl (.tmp 28) (.tmp 29) 24 24 rfl 5 Tryd.underlying24 info8 _ _ _ _ _ _ rfl rfl g (8 + h) _ t hs1 (p.map B8) (by rw [List.length_map, HPL.out]; show _ = min _ _; have := HK.out; omega) HP.out (by rw [stCells_length _ _ _ HRL.out, List.length_map, HPL.out]; have := HK.out; omega) (oneB8 _) ?_; intro w2 hs2 hg2)
 clear hpl hd5
 rw [stCells_splice _ _ _ _ _ HRL.out (by rw [HPL.out]; have := HK.out; omega)] at hs2
 have e1 : splice R h p = R.take h ++ p := by
  rw [splice_eq, List.drop_eq_nil_of_le (by rw [HRL.out, HPL.out]; have := HK.out; omega), List.append_nil]
 rw [e1] at hs2
 have ht2 := ht1.grown hg2 hg0 hg1
 have hgA := grown_trans hg hg2
 have hlt0 : gb < (w.setCell ⟨g, 72, none⟩ (.int .u64 ((n : Int) + ((k : Int) + (r.length : Int))))).heap.size := block_lt_of_cell (hby1 0 (by have := HBR.out; have := HK.out; omega))
 have hby2 : Bytes w2 gb ob (p ++ r) := fun j hj => (World.cell?_of_block (a := ⟨gb, ob + j, none⟩) (hg2.block gb hlt0 (by simp; omega))).trans (hby1 j hj)
 clear hg2 ht1 hs1 hby1 hg c72 f72 HP hh e1 hlt0
 go_still_tail 7, (by kernel_rfl)
 change wpList _ _ _ _ _ w2.drew
 go_wp2_with fail
 refine (hturn_any g g 8 64 t s ((R.take h ++ p).map B8 ++ [.int .u64 ((n + (k + r.length) : Nat) : Int)]) (R.take h ++ p) _ HRL1.out (by omega) (by omega) hs2.rest.drew hs2.drew ht2.drew).mono ?_
 rintro e w3 ⟨rfl, hs3, hg3⟩
 replace hg3 : w2.grownBy w3 (some g) := grown_from_drew hg3
 have hby3 : Bytes w3 gb ob (p ++ r) := fun j hj => (World.cell?_of_block (w := w2) (a := ⟨gb, ob + j, none⟩) (hg3.block gb (hby2.lt (by have := HBR.out; have := HK.out; omega)) (by simp; omega))).trans (hby2 j hj)
 have ht3 := ht2.grown hg3 hg0 hg1
 have hgB := grown_trans hgA hg3
 have hA3 := Src.drop64 hby3 hne k cap (by rw [HBR.out]; omega) (by rw [HBR.out]; exact hbc)
 have e2 : (p ++ r).drop k = r := by rw [← HPL.out, List.drop_left]
 rw [e2] at hA3
 replace hs3 : Blk w3 g t (stCells (comp s (R.take h ++ p)) (R.take h ++ p) (n + (k + r.length))) := hs3
 clear hs2 hg3 hgA ht2 hby2 hby3 e2 HBR HPL
 obtain ⟨AA, hAA⟩ : ∃ AA, AA = (if cap = k then some (⟨gb, ob, none⟩ : Addr) else some ⟨gb, ob + k, none⟩) := ⟨_, rfl⟩
 rw [← hAA] at hA3
 have hk1 : (k : Int) ≤ (k : Int) + (r.length : Int) := by omega
 have hsl : ∀ W, (Instr.slice 24 (.slice (some ⟨gb, ob, none⟩) (k + r.length) cap) (some (.int .i64 (k : Int))) none none).run Tryd.prog W = .ok (.slice AA r.length (cap - k)) W := fun W => by
  rw [hAA]
  by_cases hc : cap = k
  ·
   subst hc
   obtain rfl : r = [] := List.eq_nil_of_length_eq_zero (by omega)
   go_simp
  ·
   go_simp
 clear hAA
 go_wp2
 clear hsl
 go_loopw [1] (fun v wr => ∃ (A' : Option Addr) (c : Nat) (ys : List UInt8) (q : St), v = .slice A' ys.length c ∧ ys.length ≤ c ∧ c ≤ 9223372036854775807 ∧ Hid (blocks q ys = blocks (comp s (R.take h ++ p)) r ∧ left ys = left r) ∧ Src wr g A' ys ∧ Blk wr g t (stCells q (R.take h ++ p) (n + (k + r.length))) ∧ Tabs wr ∧ w.grownBy wr (some g)) (fun v _ => lenOf v)
 case atStart => exact ⟨AA, cap - k, r, comp s (R.take h ++ p), rfl, by omega, by omega, show _ ∧ _ from ⟨rfl, rfl⟩, hA3, hs3, ht3, hgB⟩
 case round =>
  obtain ⟨A', c, ys, q, rfl, hyc, hcm', HB, hA', hs', ht', hg'⟩ := hrel
  by_cases h64 : 64 ≤ ys.length
  ·
   have hd : decide ((64 : Int) ≤ (ys.length : Int)) = true := by simp; omega
   obtain ⟨gb, ob, rfl, hne, hby⟩ := hA' (by omega)
   have HS := Lib.hid (blocks_step q ys h64)
   have HL := Lib.hid (left_step ys h64)
   clear hA'
   have a1 : 64 ≤ c := by omega
   have a2 : (64 : Int) ≤ (c : Int) := by omega
   rcases Decidable.em (c = 64) with rfl | hc
   ·
    go_wp2
    go_still_tail 5, (by kernel_rfl)
    change wpList _ _ _ _ _ wr.drew
    go_wp2_with fail
    refine (hturn_any g gb ob _ t q ((R.take h ++ p).map B8 ++ [.int .u64 ((n + (k + r.length) : Nat) : Int)]) (ys.take 64) _ (by rw [List.length_take]; omega) (by omega) hcm' (hby.take 64).drew hs'.drew ht'.drew).mono ?_
    rintro e w2 ⟨rfl, hs2, hg2⟩
    replace hg2 : wr.grownBy w2 (some g) := grown_from_drew hg2
    have hby2 := Src.drop64 (g := g) (fun j hj => (World.cell?_of_block (w := wr) (a := ⟨gb, ob + j, none⟩) (hg2.block gb (hby.lt (by omega)) (by simp; omega))).trans (hby j hj)) hne 64 _ h64 hyc
    go_wp2
    go_roundw
    case rel =>
     refine ⟨_, 0, ys.drop 64, comp q (ys.take 64), ?_, by rw [List.length_drop]; omega, by omega, show _ ∧ _ from ⟨HS.out ▸ HB.out.1, HL.out ▸ HB.out.2⟩, hby2, hs2, ht'.grown hg2 hg0 hg1, grown_trans hg' hg2⟩
     simp [*]
    case measure => simp [lenOf]; omega
   ·
    go_wp2
    go_still_tail 5, (by kernel_rfl)
    change wpList _ _ _ _ _ wr.drew
    go_wp2_with fail
    refine (hturn_any g gb ob _ t q ((R.take h ++ p).map B8 ++ [.int .u64 ((n + (k + r.length) : Nat) : Int)]) (ys.take 64) _ (by rw [List.length_take]; omega) (by omega) hcm' (hby.take 64).drew hs'.drew ht'.drew).mono ?_
    rintro e w2 ⟨rfl, hs2, hg2⟩
    replace hg2 : wr.grownBy w2 (some g) := grown_from_drew hg2
    have hby2 := Src.drop64 (g := g) (fun j hj => (World.cell?_of_block (w := wr) (a := ⟨gb, ob + j, none⟩) (hg2.block gb (hby.lt (by omega)) (by simp; omega))).trans (hby j hj)) hne 64 _ h64 hyc
    go_wp2
    go_roundw
    case rel =>
     refine ⟨_, (c - 64), ys.drop 64, comp q (ys.take 64), ?_, by rw [List.length_drop]; omega, by omega, show _ ∧ _ from ⟨HS.out ▸ HB.out.1, HL.out ▸ HB.out.2⟩, hby2, hs2, ht'.grown hg2 hg0 hg1, grown_trans hg' hg2⟩
     simp [*]
    case measure => simp [lenOf]; omega
  ·
   have hd : decide ((64 : Int) ≤ (ys.length : Int)) = false := by simp; omega
   have HP : Hid (0 < (ys.map B8).length → (some (⟨g, 8, none⟩ : Addr)) = some ⟨g, 8, none⟩ ∧ ∃ gb ob, A' = some ⟨gb, ob, none⟩ ∧ ∀ j v, (ys.map B8)[j]? = some v → wr.cell? ⟨gb, ob + j, none⟩ = some v) := Src.cells hA'
   go_wp2_with (with_reducible refine wpList_copy_blk rfl (.tmp 60) (.tmp 61) 24 24 rfl 5 Tryd.underlying24 info8 _ _ _ _ _ _ rfl rfl g 8 _ t hs' (ys.map B8) (by rw [List.length_map]; exact (Nat.min_eq_left (by omega)).symm) HP.out (by rw [stCells_length _ _ _ HRL1.out, List.length_map]; omega) (oneB8 _) ?_; intro w' hs2 hg2)
   go_wp2
   go_end0
   have e1 := stCells_splice q (R.take h ++ p) ys (n + (k + r.length)) 0 HRL1.out (by omega)
   have e2 := HB.out.1
   have e3 := HB.out.2
   rw [blocks_short _ _ (by omega)] at e2
   rw [left_short _ (by omega)] at e3
   refine ⟨rfl, grown_trans hg' hg2, splice (R.take h ++ p) 0 ys, by rw [splice_length _ _ _ (by rw [HRL1.out]; omega), HRL1.out], ?_, ?_⟩
   ·
    have h := splice_take (R.take h ++ p) 0 ys (by omega)
    have hl : (n + (k + r.length)) % 64 = 0 + ys.length := by
     have h3 := congrArg List.length e3
     rw [left_length] at h3
     have h1 := HK.out
     have h2 := HH0.out
     omega
    rw [hl, h]
    simpa using e3
   ·
    rw [← e2, ← e1]; exact hs2

/-- Block g holds a state to which just the bytes m were put. -/
def Held (w : World) (g : Nat) (t : TypeId) (m : List UInt8) : Prop :=
 ∃ R : List UInt8, R.length = 64 ∧ R.take (m.length % 64) = left m ∧ Blk w g t (stCells (blocks first m) R m.length)

theorem put_any (g cap : Nat) (A : Option Addr) (t : TypeId) (m b : List UInt8) (w : World) (hn : m.length + b.length < 1099511627776)
  (hbc : b.length ≤ cap) (hcm : cap ≤ 9223372036854775807) (hA : Src w g A b) (hh : Held w g t m) (ht : Tabs w) (hg0 : g ≠ 0) (hg1 : g ≠ 1) :
  Calls Tryd.prog 81 #[.pointer (some ⟨g, 0, none⟩), .slice A b.length cap] w fun e w' => e = .returned (.tuple #[]) ∧ w.grownBy w' (some g) ∧ Held w' g t (m ++ b) := by
 obtain ⟨R, hR, hL, hs⟩ := hh
 have hll := left_length m
 have hml : (m ++ b).length = m.length + b.length := List.length_append
 rcases Nat.eq_zero_or_pos (m.length % 64) with h0 | hp
 ·
  have hl0 : left m = [] := List.eq_nil_of_length_eq_zero (by omega)
  refine (put_zero g cap A t (blocks first m) R b m.length w hR hn h0 hbc hcm hA hs ht hg0 hg1).mono fun e w' ⟨he, hg, R', hR', hL', hs'⟩ => ⟨he, hg, R', hR', ?_, ?_⟩
  ·
   rw [hml, hL', left_append, hl0, List.nil_append]
  ·
   rw [blocks_append, hl0, List.nil_append, hml]; exact hs'
 ·
  by_cases hsh : m.length % 64 + b.length < 64
  ·
   refine (put_short g cap A t (blocks first m) R b m.length (m.length % 64) w hR hn rfl hp hsh hbc hcm hA hs).mono fun e w' ⟨he, hg, hs'⟩ => ⟨he, hg, splice R (m.length % 64) b, by rw [splice_length _ _ _ (by omega), hR], ?_, ?_⟩
   ·
    have e1 : (m ++ b).length % 64 = m.length % 64 + b.length := by rw [hml]; omega
    rw [e1, splice_take _ _ _ (by omega), hL, left_append, left_short (left m ++ b) (by rw [List.length_append]; omega)]
   ·
    rw [blocks_append, blocks_short _ (left m ++ b) (by rw [List.length_append]; omega), hml]; exact hs'
  ·
   obtain ⟨gb, ob, rfl, hne, hby⟩ := hA (by omega)
   obtain ⟨k, hk⟩ : ∃ k, m.length % 64 + k = 64 := ⟨64 - m.length % 64, by omega⟩
   have hpl : (b.take k).length = k := by rw [List.length_take]; omega
   have hbl : b.length = k + (b.drop k).length := by rw [List.length_drop]; omega
   have hb : b = b.take k ++ b.drop k := (List.take_append_drop k b).symm
   rw [hb] at hby
   rw [hbl] at hbc hn ⊢
   refine (put_more g gb ob cap t (blocks first m) R (b.take k) (b.drop k) m.length (m.length % 64) k w hR hn rfl hp hk hpl hbc hcm hne hby hs ht hg0 hg1).mono fun e w' ⟨he, hg, R', hR', hL', hs'⟩ => ⟨he, hg, R', hR', ?_, ?_⟩
   all_goals
    have e3 : (left m ++ b).take 64 = left m ++ b.take k := by
     rw [List.take_append, List.take_of_length_le (by omega), hll, show 64 - m.length % 64 = k by omega]
    have e4 : (left m ++ b).drop 64 = b.drop k := by
     rw [List.drop_append, List.drop_eq_nil_of_le (by omega), hll, show 64 - m.length % 64 = k by omega, List.nil_append]
   ·
    rw [hml, hbl, hL', left_append, left_step (left m ++ b) (by rw [List.length_append]; omega), e4]
   ·
    rw [blocks_append, blocks_step _ (left m ++ b) (by rw [List.length_append]; omega), e3, e4, hml, hbl, ← hL]; exact hs'

end
section
open Go.RowKit
theorem info32 : (Tryd.prog.info? 22).map (·.size) = some 32 := by kernel_rfl

/-- The bytes of the words, after k of them. -/
def bytesTo (ws : List UInt32) : Nat → List UInt8
 | 0 => List.replicate 32 0
 | k + 1 => ((((bytesTo ws k).set (4 * k) ((ws.getD k 0) >>> 24).toUInt8).set (4 * k + 1) ((ws.getD k 0) >>> 16).toUInt8).set (4 * k + 2) ((ws.getD k 0) >>> 8).toUInt8).set (4 * k + 3) (ws.getD k 0).toUInt8
theorem bytesTo_length (ws : List UInt32) (k : Nat) : (bytesTo ws k).length = 32 := by
 induction k with
 | zero => simp [bytesTo]
 | succ k ih => simp [bytesTo, ih]
theorem bytesTo_all (s : St) : bytesTo s.words 8 = bytesOf s := by
 simp [bytesTo, bytesOf, word4, St.words, List.replicate]
theorem w_byte24 (x : UInt32) : (x.toNat : Int) / (16777216 : Int) % (256 : Int) = (((x >>> 24).toUInt8).toNat : Int) := w_byte x 24 (by decide)
theorem w_byte16 (x : UInt32) : (x.toNat : Int) / (65536 : Int) % (256 : Int) = (((x >>> 16).toUInt8).toNat : Int) := w_byte x 16 (by decide)
theorem w_byte8 (x : UInt32) : (x.toNat : Int) / (256 : Int) % (256 : Int) = (((x >>> 8).toUInt8).toNat : Int) := w_byte x 8 (by decide)
theorem w_byte0 (x : UInt32) : (x.toNat : Int) % (256 : Int) = ((x.toUInt8).toNat : Int) := by simp
theorem cell_past (w : World) (g i j : Nat) (h : i ≠ j) (x : Value) : (w.setCell ⟨g, i, none⟩ x).cell? ⟨g, j, none⟩ = w.cell? ⟨g, j, none⟩ :=
 World.cell?_setCell_other w ⟨g, i, none⟩ ⟨g, j, none⟩ x (fun e => by injection e; omega)
theorem frozen_past (w : World) (p q : Addr) (x : Value) : (w.setCell p x).frozen? q = w.frozen? q := by simp

theorem index8_0 (s : St) (W : World) : (Instr.index 127 (.agg #[.int .u32 s.a.toNat, .int .u32 s.b.toNat, .int .u32 s.c.toNat, .int .u32 s.d.toNat, .int .u32 s.e.toNat, .int .u32 s.f.toNat, .int .u32 s.g.toNat, .int .u32 s.h.toNat]) (.int .i64 0)).run Tryd.prog W = .ok (.int .u32 s.a.toNat) W := by kernel_rfl
theorem index8_1 (s : St) (W : World) : (Instr.index 127 (.agg #[.int .u32 s.a.toNat, .int .u32 s.b.toNat, .int .u32 s.c.toNat, .int .u32 s.d.toNat, .int .u32 s.e.toNat, .int .u32 s.f.toNat, .int .u32 s.g.toNat, .int .u32 s.h.toNat]) (.int .i64 1)).run Tryd.prog W = .ok (.int .u32 s.b.toNat) W := by kernel_rfl
theorem index8_2 (s : St) (W : World) : (Instr.index 127 (.agg #[.int .u32 s.a.toNat, .int .u32 s.b.toNat, .int .u32 s.c.toNat, .int .u32 s.d.toNat, .int .u32 s.e.toNat, .int .u32 s.f.toNat, .int .u32 s.g.toNat, .int .u32 s.h.toNat]) (.int .i64 2)).run Tryd.prog W = .ok (.int .u32 s.c.toNat) W := by kernel_rfl
theorem index8_3 (s : St) (W : World) : (Instr.index 127 (.agg #[.int .u32 s.a.toNat, .int .u32 s.b.toNat, .int .u32 s.c.toNat, .int .u32 s.d.toNat, .int .u32 s.e.toNat, .int .u32 s.f.toNat, .int .u32 s.g.toNat, .int .u32 s.h.toNat]) (.int .i64 3)).run Tryd.prog W = .ok (.int .u32 s.d.toNat) W := by kernel_rfl
theorem index8_4 (s : St) (W : World) : (Instr.index 127 (.agg #[.int .u32 s.a.toNat, .int .u32 s.b.toNat, .int .u32 s.c.toNat, .int .u32 s.d.toNat, .int .u32 s.e.toNat, .int .u32 s.f.toNat, .int .u32 s.g.toNat, .int .u32 s.h.toNat]) (.int .i64 4)).run Tryd.prog W = .ok (.int .u32 s.e.toNat) W := by kernel_rfl
theorem index8_5 (s : St) (W : World) : (Instr.index 127 (.agg #[.int .u32 s.a.toNat, .int .u32 s.b.toNat, .int .u32 s.c.toNat, .int .u32 s.d.toNat, .int .u32 s.e.toNat, .int .u32 s.f.toNat, .int .u32 s.g.toNat, .int .u32 s.h.toNat]) (.int .i64 5)).run Tryd.prog W = .ok (.int .u32 s.f.toNat) W := by kernel_rfl
theorem index8_6 (s : St) (W : World) : (Instr.index 127 (.agg #[.int .u32 s.a.toNat, .int .u32 s.b.toNat, .int .u32 s.c.toNat, .int .u32 s.d.toNat, .int .u32 s.e.toNat, .int .u32 s.f.toNat, .int .u32 s.g.toNat, .int .u32 s.h.toNat]) (.int .i64 6)).run Tryd.prog W = .ok (.int .u32 s.g.toNat) W := by kernel_rfl
theorem index8_7 (s : St) (W : World) : (Instr.index 127 (.agg #[.int .u32 s.a.toNat, .int .u32 s.b.toNat, .int .u32 s.c.toNat, .int .u32 s.d.toNat, .int .u32 s.e.toNat, .int .u32 s.f.toNat, .int .u32 s.g.toNat, .int .u32 s.h.toNat]) (.int .i64 7)).run Tryd.prog W = .ok (.int .u32 s.h.toNat) W := by kernel_rfl
theorem index8 (s : St) (k : Nat) (h : k < 8) (W : World) : (Instr.index 127 (.agg #[.int .u32 s.a.toNat, .int .u32 s.b.toNat, .int .u32 s.c.toNat, .int .u32 s.d.toNat, .int .u32 s.e.toNat, .int .u32 s.f.toNat, .int .u32 s.g.toNat, .int .u32 s.h.toNat]) (.int .i64 (k : Int))).run Tryd.prog W = .ok (.int .u32 (s.words.getD k 0).toNat) W := by
 obtain rfl | rfl | rfl | rfl | rfl | rfl | rfl | rfl : k = 0 ∨ k = 1 ∨ k = 2 ∨ k = 3 ∨ k = 4 ∨ k = 5 ∨ k = 6 ∨ k = 7 := by omega
 ·
  exact index8_0 s W
 ·
  exact index8_1 s W
 ·
  exact index8_2 s W
 ·
  exact index8_3 s W
 ·
  exact index8_4 s W
 ·
  exact index8_5 s W
 ·
  exact index8_6 s W
 ·
  exact index8_7 s W
theorem Blk.new3_of (w : World) (A B : Obj) (t : TypeId) (arr : Array Value) (cs : List Value) (h : arr = cs.toArray) : Blk (((w.alloc A).alloc B).alloc (.cells arr t)) (w.heap.size + 1 + 1) t cs := by
 have h1 := Blk.new2_of (w.alloc A) B t arr cs h
 have e : (w.alloc A).heap.size + 1 = w.heap.size + 1 + 1 := by simp
 rw [e] at h1; exact h1

set_option maxRecDepth 100000 in
set_option maxHeartbeats 600000 in
theorem bytesOf_any (s : St) (w : World) :
  Calls Tryd.prog 83 #[.agg #[.int .u32 s.a.toNat, .int .u32 s.b.toNat, .int .u32 s.c.toNat, .int .u32 s.d.toNat, .int .u32 s.e.toNat, .int .u32 s.f.toNat, .int .u32 s.g.toNat, .int .u32 s.h.toNat]] w fun e w' => e = .returned (.agg ((bytesOf s).map B8).toArray) ∧ Below w.heap.size w w' := by
 go_enter Tryd.func83, Tryd.ntmps83
 go_wp2
 go_loopw [7] (fun i wr => ∃ k : Nat, k ≤ 8 ∧ i = .int .i64 k ∧ Blk wr (w.heap.size + 1 + 1) 22 ((bytesTo s.words k).map B8) ∧ Blk wr (w.heap.size + 1) 22 ((bytesTo s.words 0).map B8) ∧ Below w.heap.size w wr) (fun i _ => 8 - (intOf i).toNat)
 case atStart => exact ⟨0, by omega, rfl, Blk.new3_of w _ _ _ _ _ (by rfl), (Blk.new2_of w _ _ _ _ (by rfl)).alloc _, (((Below.refl _ _).alloc (Nat.le_refl _) _).alloc (by simp) _).alloc (by simp; omega) _⟩
 case round =>
  obtain ⟨k, hk, rfl, hB, hA, hbl⟩ := hrel
  by_cases hlt : k < 8
  ·
   have hd : decide ((k : Int) < 8) = true := by simp; omega
   have hix := index8 s k hlt
   obtain ⟨x, hx⟩ : ∃ x, x = s.words.getD k 0 := ⟨_, rfl⟩
   rw [← hx] at hix
   have HX := Lib.hid hx
   clear hx
   have hl := bytesTo_length s.words k
   have c0 := hB.at8 (4 * k) (by omega)
   have c1 := fun X => (cell_past wr (w.heap.size + 1 + 1) (4 * k) (4 * k + 1) (by omega) X).trans (hB.at8 (4 * k + 1) (by omega))
   have c2 := fun X Y => (cell_past (wr.setCell ⟨w.heap.size + 1 + 1, 4 * k, none⟩ X) (w.heap.size + 1 + 1) (4 * k + 1) (4 * k + 2) (by omega) Y).trans ((cell_past wr _ (4 * k) (4 * k + 2) (by omega) X).trans (hB.at8 (4 * k + 2) (by omega)))
   have c3 := fun X Y Z => (cell_past ((wr.setCell ⟨w.heap.size + 1 + 1, 4 * k, none⟩ X).setCell ⟨w.heap.size + 1 + 1, 4 * k + 1, none⟩ Y) (w.heap.size + 1 + 1) (4 * k + 2) (4 * k + 3) (by omega) Z).trans ((cell_past (wr.setCell ⟨w.heap.size + 1 + 1, 4 * k, none⟩ X) _ (4 * k + 1) (4 * k + 3) (by omega) Y).trans ((cell_past wr _ (4 * k) (4 * k + 3) (by omega) X).trans (hB.at8 (4 * k + 3) (by omega))))
   have f0 := hB.frozen (4 * k)
   have f1 := hB.frozen (4 * k + 1)
   have f2 := hB.frozen (4 * k + 2)
   have f3 := hB.frozen (4 * k + 3)
   clear hl
   go_wp2
   go_roundw
   case rel =>
    have e : bytesTo s.words (k + 1) = ((((bytesTo s.words k).set (4 * k) (x >>> 24).toUInt8).set (4 * k + 1) (x >>> 16).toUInt8).set (4 * k + 2) (x >>> 8).toUInt8).set (4 * k + 3) x.toUInt8 := by rw [HX.out]; rfl
    refine ⟨k + 1, by omega, by go_num, ?_, ?_, ?_⟩
    ·
     rw [e, w_byte24, w_byte16, w_byte8, w_byte0, ← map_set8, ← map_set8, ← map_set8, ← map_set8]
     exact (((hB.set_ _ _).set_ _ _).set_ _ _).set_ _ _
    ·
     exact (((hA.far (by simp) _).far (by simp) _).far (by simp) _).far (by simp) _
    ·
     exact (((hbl.setCell (by simp; omega) _).setCell (by simp; omega) _).setCell (by simp; omega) _).setCell (by simp; omega) _
   case measure => simp [intOf]; omega
  ·
   have hd : decide ((k : Int) < 8) = false := by simp; omega
   obtain rfl : k = 8 := by omega
   rw [bytesTo_all] at hB
   have hbl32 : (bytesOf s).length = 32 := rfl
   go_wp2_with (first
    | (refine wpList_load_blk rfl 22 (.tmp 3) rfl (w.heap.size + 1 + 1) rfl 22 _ _ hB Tryd.underlying22 rfl (info32.trans (by simp [hbl32])) ?_)
    | (refine wpList_store_blk rfl 22 (.tmp 2) (.tmp 38) rfl rfl (w.heap.size + 1) _ rfl rfl 22 _ hA (info32.trans (by simp [hbl32])) (by simp [bytesTo_length, hbl32]) (one8 _) ?_; intro w2 hA2 hg2))
   refine bodyPost_ret (v := .agg _) (results_cell_row rfl _ _ (w.heap.size + 1) 22 _ (0, 0) _ rfl hA2.raw Tryd.underlying22 rfl (info32.trans (by simp [hbl32]))) rfl ⟨rfl, below_new hbl hg2 (by omega) hbl.size⟩

theorem one_plus (z : Nat) : (1 : Int) + (z : Int) = ((1 + z : Nat) : Int) := by omega
theorem one_plus8 (z : Nat) : (((1 + z : Nat) : Int)) + 8 = ((1 + z + 8 : Nat) : Int) := by omega
set_option maxRecDepth 100000 in
set_option maxHeartbeats 1000000 in
theorem ending_any (n z : Nat) (hn : n < 1099511627776) (w : World) (hz : z = (119 - n % 64) % 64) :
  Calls Tryd.prog 82 #[.int .u64 (n : Int)] w fun e w' => ∃ v, e = .returned v ∧ Own w' w.heap.size v (padB n) ∧ Below w.heap.size w w' := by
 have hpad : padB n = ((((((((128 :: List.replicate z 0) ++ [UInt8.ofNat (n * 8 / 72057594037927936)]) ++ [UInt8.ofNat (n * 8 / 281474976710656)]) ++ [UInt8.ofNat (n * 8 / 1099511627776)]) ++ [UInt8.ofNat (n * 8 / 4294967296)]) ++ [UInt8.ofNat (n * 8 / 16777216)]) ++ [UInt8.ofNat (n * 8 / 65536)]) ++ [UInt8.ofNat (n * 8 / 256)]) ++ [UInt8.ofNat (n * 8)] := by
  unfold padB be8; rw [← hz]; simp
 have HP := Lib.hid hpad
 clear hpad
 have z1 : ((119 : Int) - (n : Int) % 64) % 64 = (z : Int) := by omega
 have z2 : ((119 : Int) - (n : Int)) % 64 = (z : Int) := by omega
 have hz64 : z < 64 := by omega
 have hmk : ∀ W, (Instr.makeSlice 24 (.int .u64 (1 + (z : Int))) (.int .u64 (1 + (z : Int) + 8))).run Tryd.prog W = .ok (.slice (some ⟨W.heap.size, 0, none⟩) (1 + z) (1 + z + 8)) (W.alloc (.cells ((List.replicate (1 + z + 8) (0 : UInt8)).map B8).toArray 5)) := fun W => by
  have h := run_make_bytes .u64 .u64 (1 + z) (1 + z + 8) (by omega) (by omega) W
  rw [← one_plus8, ← one_plus] at h
  exact h
 clear hz
 have hown : Own (w.alloc (.cells ((Array.replicate (1 + z + 8) (B8 0)).setIfInBounds 0 (.int .u8 128)) 5)) w.heap.size (.slice (some ⟨w.heap.size, 0, none⟩) (1 + z) (1 + z + 8)) (128 :: List.replicate z 0) := by
  refine Own.made _ w.heap.size (1 + z) (1 + z + 8) _ (List.replicate 8 0) (Blk.new_of w _ _ _ ?_) (by simp; omega) (by simp; omega) (by simp only [maxLen]; omega) _ (Nat.le_refl _)
  apply Array.toList_inj.1
  have e : List.replicate (z + 8) (B8 0) = List.replicate z (B8 0) ++ List.replicate 8 (B8 0) := (List.replicate_append_replicate).symm
  rw [show 1 + z + 8 = (z + 8) + 1 by omega]
  simp only [Array.toList_setIfInBounds, Array.toList_replicate, List.replicate_succ (n := z + 8), List.set_cons_zero, e, List.map_append, List.map_cons, List.map_replicate, List.cons_append]
  rfl
 have hbl : Below w.heap.size w (w.alloc (.cells ((Array.replicate (1 + z + 8) (B8 0)).setIfInBounds 0 (.int .u8 128)) 5)) := (Below.refl _ _).alloc (Nat.le_refl _) _
 have hbsl : (128 :: List.replicate z (0 : UInt8)).length < 100 := by simp; omega
 go_enter Tryd.func82, Tryd.ntmps82
 go_wp2
 clear hmk z1 z2
 generalize w.alloc (.cells ((Array.replicate (1 + z + 8) (B8 0)).setIfInBounds 0 (.int .u8 128)) 5) = w1 at *
 generalize (128 :: List.replicate z (0 : UInt8)) = b0 at *
 refine wp_loop_rounds 9 ?_
 have HD := Lib.hid (show b0.length ≤ 1099511627776 by omega)
 rw [rounds_succ]
 go_wp2_with (at_builtin; refine wpList_append_byte rfl (.tmp 25) (.tmp 30) rfl w.heap.size _ _ rfl (hown.alloc _) _ (UInt8.ofNat (n * 8 / 72057594037927936)) rfl (by refine (new_cell _ _ _).trans ?_; first | (simp; done) | (simp; omega)) HD.out (le_alloc hbl.size _) ?_; intro v0 w' hown' hb' _)
 replace hbl := (hbl.alloc hbl.size _).trans hb'
 replace hown := hown'
 clear hown' hb' HD
 have hl : (b0 ++ [(UInt8.ofNat (n * 8 / 72057594037927936))]).length < 101 := by rw [List.length_append, List.length_singleton]; omega
 clear hbsl
 have hbsl := hl
 clear hl
 obtain ⟨b1, E1⟩ : ∃ b, b = b0 ++ [(UInt8.ofNat (n * 8 / 72057594037927936))] := ⟨_, rfl⟩
 rw [← E1] at hown hbsl
 replace E1 := Lib.hid E1
 generalize w' = w1 at *
 have HD := Lib.hid (show b1.length ≤ 1099511627776 by omega)
 rw [rounds_succ]
 go_wp2_with (at_builtin; refine wpList_append_byte rfl (.tmp 25) (.tmp 30) rfl w.heap.size _ _ rfl (hown.alloc _) _ (UInt8.ofNat (n * 8 / 281474976710656)) rfl (by refine (new_cell _ _ _).trans ?_; first | (simp; done) | (simp; omega)) HD.out (le_alloc hbl.size _) ?_; intro v1 w' hown' hb' _)
 replace hbl := (hbl.alloc hbl.size _).trans hb'
 replace hown := hown'
 clear hown' hb' HD
 have hl : (b1 ++ [(UInt8.ofNat (n * 8 / 281474976710656))]).length < 102 := by rw [List.length_append, List.length_singleton]; omega
 clear hbsl
 have hbsl := hl
 clear hl
 obtain ⟨b2, E2⟩ : ∃ b, b = b1 ++ [(UInt8.ofNat (n * 8 / 281474976710656))] := ⟨_, rfl⟩
 rw [← E2] at hown hbsl
 replace E2 := Lib.hid E2
 generalize w' = w1 at *
 have HD := Lib.hid (show b2.length ≤ 1099511627776 by omega)
 rw [rounds_succ]
 go_wp2_with (at_builtin; refine wpList_append_byte rfl (.tmp 25) (.tmp 30) rfl w.heap.size _ _ rfl (hown.alloc _) _ (UInt8.ofNat (n * 8 / 1099511627776)) rfl (by refine (new_cell _ _ _).trans ?_; first | (simp; done) | (simp; omega)) HD.out (le_alloc hbl.size _) ?_; intro v2 w' hown' hb' _)
 replace hbl := (hbl.alloc hbl.size _).trans hb'
 replace hown := hown'
 clear hown' hb' HD
 have hl : (b2 ++ [(UInt8.ofNat (n * 8 / 1099511627776))]).length < 103 := by rw [List.length_append, List.length_singleton]; omega
 clear hbsl
 have hbsl := hl
 clear hl
 obtain ⟨b3, E3⟩ : ∃ b, b = b2 ++ [(UInt8.ofNat (n * 8 / 1099511627776))] := ⟨_, rfl⟩
 rw [← E3] at hown hbsl
 replace E3 := Lib.hid E3
 generalize w' = w1 at *
 have HD := Lib.hid (show b3.length ≤ 1099511627776 by omega)
 rw [rounds_succ]
 go_wp2_with (at_builtin; refine wpList_append_byte rfl (.tmp 25) (.tmp 30) rfl w.heap.size _ _ rfl (hown.alloc _) _ (UInt8.ofNat (n * 8 / 4294967296)) rfl (by refine (new_cell _ _ _).trans ?_; first | (simp; done) | (simp; omega)) HD.out (le_alloc hbl.size _) ?_; intro v3 w' hown' hb' _)
 replace hbl := (hbl.alloc hbl.size _).trans hb'
 replace hown := hown'
 clear hown' hb' HD
 have hl : (b3 ++ [(UInt8.ofNat (n * 8 / 4294967296))]).length < 104 := by rw [List.length_append, List.length_singleton]; omega
 clear hbsl
 have hbsl := hl
 clear hl
 obtain ⟨b4, E4⟩ : ∃ b, b = b3 ++ [(UInt8.ofNat (n * 8 / 4294967296))] := ⟨_, rfl⟩
 rw [← E4] at hown hbsl
 replace E4 := Lib.hid E4
 generalize w' = w1 at *
 have HD := Lib.hid (show b4.length ≤ 1099511627776 by omega)
 rw [rounds_succ]
 go_wp2_with (at_builtin; refine wpList_append_byte rfl (.tmp 25) (.tmp 30) rfl w.heap.size _ _ rfl (hown.alloc _) _ (UInt8.ofNat (n * 8 / 16777216)) rfl (by refine (new_cell _ _ _).trans ?_; first | (simp; done) | (simp; omega)) HD.out (le_alloc hbl.size _) ?_; intro v4 w' hown' hb' _)
 replace hbl := (hbl.alloc hbl.size _).trans hb'
 replace hown := hown'
 clear hown' hb' HD
 have hl : (b4 ++ [(UInt8.ofNat (n * 8 / 16777216))]).length < 105 := by rw [List.length_append, List.length_singleton]; omega
 clear hbsl
 have hbsl := hl
 clear hl
 obtain ⟨b5, E5⟩ : ∃ b, b = b4 ++ [(UInt8.ofNat (n * 8 / 16777216))] := ⟨_, rfl⟩
 rw [← E5] at hown hbsl
 replace E5 := Lib.hid E5
 generalize w' = w1 at *
 have HD := Lib.hid (show b5.length ≤ 1099511627776 by omega)
 rw [rounds_succ]
 go_wp2_with (at_builtin; refine wpList_append_byte rfl (.tmp 25) (.tmp 30) rfl w.heap.size _ _ rfl (hown.alloc _) _ (UInt8.ofNat (n * 8 / 65536)) rfl (by refine (new_cell _ _ _).trans ?_; first | (simp; done) | (simp; omega)) HD.out (le_alloc hbl.size _) ?_; intro v5 w' hown' hb' _)
 replace hbl := (hbl.alloc hbl.size _).trans hb'
 replace hown := hown'
 clear hown' hb' HD
 have hl : (b5 ++ [(UInt8.ofNat (n * 8 / 65536))]).length < 106 := by rw [List.length_append, List.length_singleton]; omega
 clear hbsl
 have hbsl := hl
 clear hl
 obtain ⟨b6, E6⟩ : ∃ b, b = b5 ++ [(UInt8.ofNat (n * 8 / 65536))] := ⟨_, rfl⟩
 rw [← E6] at hown hbsl
 replace E6 := Lib.hid E6
 generalize w' = w1 at *
 have HD := Lib.hid (show b6.length ≤ 1099511627776 by omega)
 rw [rounds_succ]
 go_wp2_with (at_builtin; refine wpList_append_byte rfl (.tmp 25) (.tmp 30) rfl w.heap.size _ _ rfl (hown.alloc _) _ (UInt8.ofNat (n * 8 / 256)) rfl (by refine (new_cell _ _ _).trans ?_; first | (simp; done) | (simp; omega)) HD.out (le_alloc hbl.size _) ?_; intro v6 w' hown' hb' _)
 replace hbl := (hbl.alloc hbl.size _).trans hb'
 replace hown := hown'
 clear hown' hb' HD
 have hl : (b6 ++ [(UInt8.ofNat (n * 8 / 256))]).length < 107 := by rw [List.length_append, List.length_singleton]; omega
 clear hbsl
 have hbsl := hl
 clear hl
 obtain ⟨b7, E7⟩ : ∃ b, b = b6 ++ [(UInt8.ofNat (n * 8 / 256))] := ⟨_, rfl⟩
 rw [← E7] at hown hbsl
 replace E7 := Lib.hid E7
 generalize w' = w1 at *
 have HD := Lib.hid (show b7.length ≤ 1099511627776 by omega)
 rw [rounds_succ]
 go_wp2_with (at_builtin; refine wpList_append_byte rfl (.tmp 25) (.tmp 30) rfl w.heap.size _ _ rfl (hown.alloc _) _ (UInt8.ofNat (n * 8)) rfl (by refine (new_cell _ _ _).trans ?_; first | (simp; done) | (simp; omega)) HD.out (le_alloc hbl.size _) ?_; intro v7 w' hown' hb' _)
 replace hbl := (hbl.alloc hbl.size _).trans hb'
 replace hown := hown'
 clear hown' hb' HD
 have hl : (b7 ++ [(UInt8.ofNat (n * 8))]).length < 108 := by rw [List.length_append, List.length_singleton]; omega
 clear hbsl
 have hbsl := hl
 clear hl
 obtain ⟨b8, E8⟩ : ∃ b, b = b7 ++ [(UInt8.ofNat (n * 8))] := ⟨_, rfl⟩
 rw [← E8] at hown hbsl
 replace E8 := Lib.hid E8
 generalize w' = w1 at *
 rw [rounds_succ]
 go_wp2
 go_ret
 exact ⟨_, rfl, by rw [HP.out, ← E1.out, ← E2.out, ← E3.out, ← E4.out, ← E5.out, ← E6.out, ← E7.out, ← E8.out]; exact hown, hbl⟩

end
section
open Go.RowKit
theorem infoSt : (Tryd.prog.info? 130).map (·.size) = some 73 := by kernel_rfl
theorem info63 : (Tryd.prog.info? 127).map (·.size) = some 8 := by kernel_rfl

/-- Some cells go into a block that is known, from place off on. -/
theorem wpList_store_part {P : Program} {ops : Array Oper} {rest : List Oper} {o : Oper} {a : Act} {w : World} {Q : Exit → Act → World → Prop} (hgd : o.guard = none) (ty : TypeId) (x y : Operand) (ho : o.op = .store ty x y) (hd : o.dst = none)
  (g off : Nat) (cells : List Value) (hx : a.eval x = .pointer (some ⟨g, off, none⟩)) (hy : a.eval y = .agg cells.toArray)
  (t : TypeId) (old : List Value) (hg : Blk w g t old) (hi : (P.info? ty).map (·.size) = some cells.length)
  (hfit : off + cells.length ≤ old.length) (h1 : ∀ v ∈ cells, v.oneCell' = true)
  (h : ∀ w', Blk w' g t (splice old off cells) → w.grownBy w' (some g) → wpList P ops Q rest a w') : wpList P ops Q (o :: rest) a w := by
 have hst := run_storeCells_at P g off t cells 0 old.toArray w hg (by simpa using hfit) h1
 refine wpList_plain hgd fun K hK => ?_
 have hrun : (storeVar ty ⟨g, off, none⟩ (.agg cells.toArray)).run P w = .ok () (w.setRow g (splice old off cells).toArray) := by
  cases hq : P.info? ty with
  | none => simp [hq] at hi
  | some i =>
   have hs : cells.length = i.size := by simp [hq] at hi; omega
   simp only [Nat.add_zero] at hst
   simp [storeVar, sizeOf, typeInfo, hq, Value.cells, hs, hst, splice_eq]
 unfold Oper.wp execOp
 simp only [ho, hx, hy, Instr.storeAt, Instr.sureAddr, Sem.run_bind, Sem.run_pure, Result.andThen_ok, hrun]
 exact hK _ _ (by rw [hd]; exact h _ (hg.row _) (grown_setRow _ _ _))

def zeroSt : St := ⟨0, 0, 0, 0, 0, 0, 0, 0⟩
set_option maxRecDepth 100000 in
set_option maxHeartbeats 600000 in
theorem new_any (w : World) :
  Calls Tryd.prog 62 #[] w fun e w' => e = .returned (.pointer (some ⟨w.heap.size, 0, none⟩)) ∧ Blk w' w.heap.size 130 (stCells zeroSt (List.replicate 64 0) 0) ∧ Below w.heap.size w w' := by
 have hz : ∀ W : World, (zeroValue 130).run Tryd.prog W = .ok (.agg (stCells zeroSt (List.replicate 64 0) 0).toArray) W := fun W => by kernel_rfl
 go_enter Tryd.func62, Tryd.ntmps62
 go_wp2
 go_ret
 exact ⟨rfl, Blk.new_of w _ _ _ (by rfl), (Below.refl _ _).alloc (Nat.le_refl _) _⟩

/-- Block g holds a state to which just the bytes m were put; nothing is asked of the words while m is empty. -/
def HeldN (w : World) (g : Nat) (t : TypeId) (m : List UInt8) : Prop :=
 ∃ (s : St) (R : List UInt8), R.length = 64 ∧ Blk w g t (stCells s R m.length) ∧ (m ≠ [] → s = blocks first m ∧ R.take (m.length % 64) = left m)
theorem HeldN.of_held {w : World} {g : Nat} {t : TypeId} {m : List UInt8} (h : Held w g t m) : HeldN w g t m := by
 obtain ⟨R, h1, h2, h3⟩ := h
 exact ⟨_, R, h1, h3, fun _ => ⟨rfl, h2⟩⟩
theorem HeldN.new {w : World} {g : Nat} {t : TypeId} (h : Blk w g t (stCells zeroSt (List.replicate 64 0) 0)) : HeldN w g t [] :=
 ⟨_, _, by simp, h, fun h => absurd rfl h⟩

/-- The parts that are handed in: each a slice of bytes in another block than g. -/
def Parts (w : World) (g : Nat) (A : Option Addr) (ps : List (List UInt8)) : Prop := 0 < ps.length → ∃ gp op, A = some ⟨gp, op, none⟩ ∧ gp ≠ g ∧
 ∀ j, j < ps.length → ∃ Aj cj, w.cell? ⟨gp, op + j, none⟩ = some (.slice Aj (ps.getD j []).length cj) ∧ (ps.getD j []).length ≤ cj ∧ cj ≤ 9223372036854775807 ∧ Src w g Aj (ps.getD j [])
theorem Parts.keep {w w' : World} {g : Nat} {A : Option Addr} {ps : List (List UInt8)} (h : Parts w g A ps) (hg : w.grownBy w' (some g)) : Parts w' g A ps := fun h0 => by
 obtain ⟨gp, op, e, hn, hj⟩ := h h0
 refine ⟨gp, op, e, hn, fun j hjl => ?_⟩
 obtain ⟨Aj, cj, hc, h1, h2, h3⟩ := hj j hjl
 exact ⟨Aj, cj, (World.cell?_of_block (w := w) (a := ⟨gp, op + j, none⟩) (hg.block gp (block_lt_of_cell hc) (by simp; omega))).trans hc, h1, h2, h3.keep hg⟩
theorem Parts.one {w : World} {g gp : Nat} {A : Option Addr} {c : Nat} {b : List UInt8} (hc : w.cell? ⟨gp, 0, none⟩ = some (.slice A b.length c)) (hn : gp ≠ g) (h1 : b.length ≤ c) (h2 : c ≤ 9223372036854775807) (h3 : Src w g A b) : Parts w g (some ⟨gp, 0, none⟩) [b] := fun _ =>
 ⟨gp, 0, rfl, hn, fun j hj => by
  obtain rfl : j = 0 := by simpa using hj
  exact ⟨A, c, hc, h1, h2, h3⟩⟩

theorem vals_one (s : St) : ∀ v ∈ s.vals, v.oneCell' = true := by
 intro v hv; simp [St.vals] at hv; rcases hv with rfl | rfl | rfl | rfl | rfl | rfl | rfl | rfl <;> rfl
theorem splice_vals (s q : St) (R : List UInt8) (n : Nat) : splice (stCells s R n) 0 q.vals = stCells q R n := by
 simp [splice_eq, stCells, St.vals]

set_option maxRecDepth 100000 in
set_option maxHeartbeats 1000000 in
/-- The loop over the parts: from a state that holds its words. -/
theorem Put_any (g c : Nat) (A : Option Addr) (m : List UInt8) (ps : List (List UInt8)) (w : World) (hn : m.length + ps.flatten.length < 1099511627776) (hpc : ps.length ≤ c) (hcm : c ≤ 9223372036854775807)
  (hA : Parts w g A ps) (hh : HeldN w g 130 m) (ht : Tabs w) (hg0 : g ≠ 0) (hg1 : g ≠ 1) :
  Calls Tryd.prog 63 #[.pointer (some ⟨g, 0, none⟩), .slice A ps.length c] w fun e w' => e = .returned (.tuple #[]) ∧ w.grownBy w' (some g) ∧ Held w' g 130 (m ++ ps.flatten) := by
 obtain ⟨s, R, hR, hs, hm⟩ := hh
 have c72 : w.cell? ⟨g, 72, none⟩ = some (.int .u64 (m.length : Int)) := (hs.cell 72).trans (stCells_72 s R m.length hR)
 by_cases h0 : m = []
 ·
  subst h0
  have HR := Lib.hid hR
  have t0 : w.cell? ⟨0, 0, none⟩ = some (.int .u32 first.a.toNat) := ht.first 0 (by omega)
  have t1 : w.cell? ⟨0, 1, none⟩ = some (.int .u32 first.b.toNat) := ht.first 1 (by omega)
  have t2 : w.cell? ⟨0, 2, none⟩ = some (.int .u32 first.c.toNat) := ht.first 2 (by omega)
  have t3 : w.cell? ⟨0, 3, none⟩ = some (.int .u32 first.d.toNat) := ht.first 3 (by omega)
  have t4 : w.cell? ⟨0, 4, none⟩ = some (.int .u32 first.e.toNat) := ht.first 4 (by omega)
  have t5 : w.cell? ⟨0, 5, none⟩ = some (.int .u32 first.f.toNat) := ht.first 5 (by omega)
  have t6 : w.cell? ⟨0, 6, none⟩ = some (.int .u32 first.g.toNat) := ht.first 6 (by omega)
  have t7 : w.cell? ⟨0, 7, none⟩ = some (.int .u32 first.h.toNat) := ht.first 7 (by omega)
  go_enter Tryd.func63, Tryd.ntmps63
  go_wp2_with (refine wpList_store_part rfl 127 (.tmp 16) (.tmp 14) rfl rfl g 0 first.vals rfl rfl _ _ hs info63 (by rw [stCells_length _ _ _ HR.out]; decide) (vals_one _) ?_; intro w1 hs1 hG)
  clear t0 t1 t2 t3 t4 t5 t6 t7 c72
  rw [splice_vals] at hs1
  have hH : Held w1 g 130 [] := ⟨R, hR, by simp [left], hs1⟩
  replace hA := hA.keep hG
  replace ht := ht.grown hG hg0 hg1
  simp only [List.length_nil, Nat.zero_add] at hn
  go_loopw [19] (fun i wr => ∃ k : Nat, k ≤ ps.length ∧ i = .int .i64 k ∧ Held wr g 130 ([] ++ (ps.take k).flatten) ∧ Parts wr g A ps ∧ Tabs wr ∧ w.grownBy wr (some g)) (fun i _ => ps.length - (intOf i).toNat)
  case atStart => exact ⟨0, by omega, rfl, by simpa using hH, hA, ht, hG⟩
  case round =>
   obtain ⟨k, hk, rfl, hH', hA', ht', hG'⟩ := hrel
   by_cases hlt : k < ps.length
   ·
    have hd : decide ((k : Int) < (ps.length : Int)) = true := by simp; omega
    obtain ⟨gp, op, rfl, hne, hj⟩ := hA' (by omega)
    obtain ⟨Aj, cj, hc, h1, h2, h3⟩ := hj k hlt
    have hfl : (ps.take (k + 1)).flatten = (ps.take k).flatten ++ ps.getD k [] := by
     rw [List.take_succ_eq_append_getElem hlt, List.flatten_append, List.getD_eq_getElem?_getD, List.getElem?_eq_getElem hlt]; simp
    have hle : (ps.take k).flatten.length + (ps.getD k []).length ≤ ps.flatten.length := by
     have h := congrArg List.length (congrArg List.flatten (List.take_append_drop (k + 1) ps))
     rw [List.flatten_append, List.length_append, hfl, List.length_append] at h
     omega
    obtain ⟨b, hb⟩ : ∃ b, b = ps.getD k [] := ⟨_, rfl⟩
    rw [← hb] at hc h1 h3 hfl hle
    have HF := Lib.hid hfl
    clear hfl hb hj
    go_wp2_with (go_at_call 81; refine (put_any g cj Aj _ _ b _ (by simp only [List.nil_append]; omega) h1 h2 h3 hH' ht' hg0 hg1).mono ?_; rintro e w2 ⟨rfl, hg2, hh2⟩)
    go_roundw
    case rel => exact ⟨k + 1, by omega, by go_num, by rw [HF.out, ← List.append_assoc]; exact hh2, hA'.keep hg2, ht'.grown hg2 hg0 hg1, grown_trans hG' hg2⟩
    case measure => simp [intOf]; omega
   ·
    have hd : decide ((k : Int) < (ps.length : Int)) = false := by simp; omega
    rw [List.take_of_length_le (by omega)] at hH'
    go_wp2
    go_end0
    exact ⟨rfl, hG', hH'⟩
 ·
  obtain ⟨rfl, hL⟩ := hm h0
  have hH : Held w g 130 m := ⟨R, hR, hL, hs⟩
  have hml : 0 < m.length := List.length_pos_iff.2 h0
  have hG := grown_refl w (some g)
  have hz : ((m.length : Int) == 0) = false := by simp; omega
  go_enter Tryd.func63, Tryd.ntmps63
  go_wp2
  clear c72 hz
  go_loopw [19] (fun i wr => ∃ k : Nat, k ≤ ps.length ∧ i = .int .i64 k ∧ Held wr g 130 (m ++ (ps.take k).flatten) ∧ Parts wr g A ps ∧ Tabs wr ∧ w.grownBy wr (some g)) (fun i _ => ps.length - (intOf i).toNat)
  case atStart => exact ⟨0, by omega, rfl, by simpa using hH, hA, ht, hG⟩
  case round =>
   obtain ⟨k, hk, rfl, hH', hA', ht', hG'⟩ := hrel
   by_cases hlt : k < ps.length
   ·
    have hd : decide ((k : Int) < (ps.length : Int)) = true := by simp; omega
    obtain ⟨gp, op, rfl, hne, hj⟩ := hA' (by omega)
    obtain ⟨Aj, cj, hc, h1, h2, h3⟩ := hj k hlt
    have hfl : (ps.take (k + 1)).flatten = (ps.take k).flatten ++ ps.getD k [] := by
     rw [List.take_succ_eq_append_getElem hlt, List.flatten_append, List.getD_eq_getElem?_getD, List.getElem?_eq_getElem hlt]; simp
    have hle : (ps.take k).flatten.length + (ps.getD k []).length ≤ ps.flatten.length := by
     have h := congrArg List.length (congrArg List.flatten (List.take_append_drop (k + 1) ps))
     rw [List.flatten_append, List.length_append, hfl, List.length_append] at h
     omega
    obtain ⟨b, hb⟩ : ∃ b, b = ps.getD k [] := ⟨_, rfl⟩
    rw [← hb] at hc h1 h3 hfl hle
    have HF := Lib.hid hfl
    clear hfl hb hj
    go_wp2_with (go_at_call 81; refine (put_any g cj Aj _ _ b _ (by rw [List.length_append]; omega) h1 h2 h3 hH' ht' hg0 hg1).mono ?_; rintro e w2 ⟨rfl, hg2, hh2⟩)
    go_roundw
    case rel => exact ⟨k + 1, by omega, by go_num, by rw [HF.out, ← List.append_assoc]; exact hh2, hA'.keep hg2, ht'.grown hg2 hg0 hg1, grown_trans hG' hg2⟩
    case measure => simp [intOf]; omega
   ·
    have hd : decide ((k : Int) < (ps.length : Int)) = false := by simp; omega
    rw [List.take_of_length_le (by omega)] at hH'
    go_wp2
    go_end0
    exact ⟨rfl, hG', hH'⟩

end
section
open Go.RowKit
/-- SHA-256 of a row of bytes. -/
def sha (m : List UInt8) : List UInt8 := bytesOf (blocks first (m ++ padB m.length))
theorem sha_length (m : List UInt8) : (sha m).length = 32 := rfl

theorem size_alloc (w : World) (o : Obj) : (w.alloc o).heap.size = w.heap.size + 1 := by simp
theorem st_one (s : St) (R : List UInt8) (n : Nat) : (stCells s R n).toArray.all (·.oneCell') = true := by
 rw [Array.all_eq_true_iff_forall_mem]
 intro v hv
 simp only [List.mem_toArray, stCells, List.mem_append] at hv
 rcases hv with hv | hv | hv
 ·
  exact vals_one s v hv
 ·
  exact oneB8 R v hv
 ·
  simp at hv; subst hv; rfl

set_option maxRecDepth 100000 in
set_option maxHeartbeats 1000000 in
theorem Sum_held (g : Nat) (m : List UInt8) (w : World) (hn : m.length < 549755813888) (hh : HeldN w g 130 m) (ht : Tabs w) :
  Calls Tryd.prog 64 #[.pointer (some ⟨g, 0, none⟩)] w fun e w' => e = .returned (.agg ((sha m).map B8).toArray) ∧ Below w.heap.size w w' := by
 obtain ⟨s, R, hR, hs, hm⟩ := hh
 have hlt := hs.lt
 have HR := Lib.hid hR
 have c72 : w.cell? ⟨g, 72, none⟩ = some (.int .u64 (m.length : Int)) := (hs.cell 72).trans (stCells_72 s R m.length hR)
 have ht0 := ht.lt0
 have ht1 := ht.lt1
 have hz : ∀ W : World, (zeroValue 130).run Tryd.prog W = .ok (.agg (stCells zeroSt (List.replicate 64 0) 0).toArray) W := fun W => by kernel_rfl
 go_enter Tryd.func64, Tryd.ntmps64
 go_wp2_with (first
  | (refine wpList_load_blk rfl 130 (.tmp 8) rfl g rfl _ _ _ (hs.alloc _) Tryd.underlying130 rfl (infoSt.trans (by rw [stCells_length _ _ _ HR.out])) ?_)
  | (refine wpList_store_blk rfl 130 (.tmp 3) (.tmp 9) rfl rfl (w.heap.size + 1) _ rfl rfl 130 (stCells zeroSt (List.replicate 64 0) 0) (Blk.new2_of w _ _ _ _ (by rfl)) (infoSt.trans (by rw [stCells_length _ _ _ HR.out])) (by rw [stCells_length _ _ _ HR.out]; rfl) (st_one _ _ _) ?_; intro w1 hs1 hg1; have hA1 := ((Blk.new_of w 22 _ ((List.replicate 32 (0 : UInt8)).map B8) (by rfl)).alloc _).grown hg1 (by simp); have hb1 := below_new (((Below.refl w.heap.size w).alloc (Nat.le_refl _) _).alloc (by simp) _) hg1 (by omega) (by simp; omega); have hsz1 : w.heap.size + 1 < w1.heap.size := hs1.lt; have c1 := (((hs.alloc _).alloc _).grown hg1 (by simp; omega)).cell 72; rw [stCells_72 s R m.length HR.out] at c1))
 clear hg1 c72
 refine (ending_any m.length _ (by omega) _ rfl).mono ?_
 rintro e w2 ⟨v, rfl, hown, hb2⟩
 obtain ⟨A, c, rfl, hAc, hcm, hsrc⟩ := hown.slice
 replace hs1 := hs1.below hb2 hsz1
 replace hA1 := hA1.below hb2 (by omega)
 replace hb1 := hb1.trans (hb2.mono (by omega))
 have hsz2 : w.heap.size + 1 < w2.heap.size := hs1.lt
 clear hown hb2 c1
 go_wp2_with fail
 have hpar : Parts (w2.alloc (.cells #[.slice A (padB m.length).length c] 24)) (w.heap.size + 1) (some ⟨w2.heap.size, 0, none⟩) [padB m.length] :=
  Parts.one (new_cell _ _ _) (by omega) hAc hcm (Src.keep (hsrc _ hsz1) (grown_alloc (grown_refl _ _) _))
 have hheld : HeldN (w2.alloc (.cells #[.slice A (padB m.length).length c] 24)) (w.heap.size + 1) 130 m := ⟨s, R, hR, hs1.alloc _, hm⟩
 have hp9 := padB_length m.length
 refine (Put_any (w.heap.size + 1) 1 _ m [padB m.length] _ (by simp; omega) (by simp) (by omega) hpar hheld ((ht.below hb1).below ((Below.refl _ _).alloc (Nat.le_refl _) _)) (by omega) (by omega)).mono ?_
 rintro e w3 ⟨rfl, hg3, R3, hR3, hL3, hs3⟩
 have hA3 := (hA1.alloc _).grown hg3 (by simp)
 have hb3 := below_new (hb1.alloc (by omega) _) hg3 (by omega) (by simp; omega)
 obtain ⟨q, hq⟩ : ∃ q, q = blocks first (m ++ [padB m.length].flatten) := ⟨_, rfl⟩
 rw [← hq] at hs3
 have HQ := Lib.hid hq
 clear hq hg3 hpar hheld hp9 hb1 hA1 hs1
 have c0 : w3.cell? ⟨w.heap.size + 1, 0, none⟩ = some (.int .u32 q.a.toNat) := hs3.cell 0
 have c1 : w3.cell? ⟨w.heap.size + 1, 1, none⟩ = some (.int .u32 q.b.toNat) := hs3.cell 1
 have c2 : w3.cell? ⟨w.heap.size + 1, 2, none⟩ = some (.int .u32 q.c.toNat) := hs3.cell 2
 have c3 : w3.cell? ⟨w.heap.size + 1, 3, none⟩ = some (.int .u32 q.d.toNat) := hs3.cell 3
 have c4 : w3.cell? ⟨w.heap.size + 1, 4, none⟩ = some (.int .u32 q.e.toNat) := hs3.cell 4
 have c5 : w3.cell? ⟨w.heap.size + 1, 5, none⟩ = some (.int .u32 q.f.toNat) := hs3.cell 5
 have c6 : w3.cell? ⟨w.heap.size + 1, 6, none⟩ = some (.int .u32 q.g.toNat) := hs3.cell 6
 have c7 : w3.cell? ⟨w.heap.size + 1, 7, none⟩ = some (.int .u32 q.h.toNat) := hs3.cell 7
 go_wp2_with fail
 refine (bytesOf_any q _).mono ?_
 rintro e w4 ⟨rfl, hb4⟩
 have hA4 := hA3.below hb4 hA3.lt
 have hb5 := hb3.trans (hb4.mono hb3.size)
 clear c0 c1 c2 c3 c4 c5 c6 c7
 have hsha : bytesOf q = sha m := by rw [HQ.out]; unfold sha; simp
 rw [hsha]
 have hl32 := sha_length m
 go_wp2_with (refine wpList_store_blk rfl 22 (.tmp 2) (.tmp 19) rfl rfl w.heap.size _ rfl rfl 22 _ hA4 (info32.trans (by simp [sha_length])) (by simp [sha_length]) (one8 _) ?_; intro w6 hA6 hg6)
 refine bodyPost_ret (v := .agg _) (results_cell_row rfl _ _ w.heap.size 22 _ (0, 0) _ rfl hA6.raw Tryd.underlying22 rfl (info32.trans (by simp [sha_length]))) rfl ⟨rfl, below_new hb5 hg6 (Nat.le_refl _) hb5.size⟩

set_option maxRecDepth 100000 in
set_option maxHeartbeats 1000000 in
theorem Of_any (c : Nat) (A : Option Addr) (ps : List (List UInt8)) (w : World) (hn : ps.flatten.length < 549755813888) (hpc : ps.length ≤ c) (hcm : c ≤ 9223372036854775807)
  (hA : ∀ g, w.heap.size ≤ g → Parts w g A ps) (ht : Tabs w) :
  Calls Tryd.prog 29 #[.slice A ps.length c] w fun e w' => e = .returned (.agg ((sha ps.flatten).map B8).toArray) ∧ Below w.heap.size w w' := by
 have ht0 := ht.lt0
 have ht1 := ht.lt1
 go_enter Tryd.func29, Tryd.ntmps29
 go_wp2_with fail
 refine (new_any _).mono ?_
 rintro e w1 ⟨rfl, hs1, hb1⟩
 have hb0 : Below w.heap.size w w1 := ((Below.refl _ _).alloc (Nat.le_refl _) _).trans (hb1.mono (by simp))
 have hA1 := ((Blk.new_of w 22 _ ((List.replicate 32 (0 : UInt8)).map B8) (by rfl))).below hb1 (by simp)
 rw [size_alloc] at hs1
 have hsz1 : w.heap.size + 1 < w1.heap.size := hs1.lt
 have hP1 := (hA (w.heap.size + 1) (by omega)).keep (grown_of_below hb0 _)
 go_wp2_with fail
 refine (Put_any (w.heap.size + 1) c A [] ps _ (by simp only [List.length_nil]; omega) hpc hcm hP1 (HeldN.new hs1) (ht.below hb0) (by omega) (by omega)).mono ?_
 rintro e w2 ⟨rfl, hg2, hh2⟩
 rw [List.nil_append] at hh2
 have hA2 := hA1.grown hg2 (by simp)
 have hb2 := below_new hb0 hg2 (by omega) (by omega)
 go_wp2_with fail
 refine (Sum_held (w.heap.size + 1) ps.flatten _ hn (HeldN.of_held hh2) (ht.below hb2)).mono ?_
 rintro e w3 ⟨rfl, hb3⟩
 have hA3 := hA2.below hb3 hA2.lt
 have hb4 := hb2.trans (hb3.mono hb2.size)
 go_wp2_with (refine wpList_store_blk rfl 22 (.tmp 2) (.tmp 9) rfl rfl w.heap.size _ rfl rfl 22 _ hA3 (info32.trans (by simp [sha_length])) (by simp [sha_length]) (one8 _) ?_; intro w6 hA6 hg6)
 refine bodyPost_ret (v := .agg _) (results_cell_row rfl _ _ w.heap.size 22 _ (0, 0) _ rfl hA6.raw Tryd.underlying22 rfl (info32.trans (by simp [sha_length]))) rfl ⟨rfl, below_new hb4 hg6 (Nat.le_refl _) hb4.size⟩

end
section
open Go.RowKit
/-- Bytes that came in, below block B. -/
def In (w : World) (B : Nat) (A : Option Addr) (c : Nat) (xs : List UInt8) : Prop := xs.length ≤ c ∧ c ≤ 9223372036854775807 ∧ (0 < xs.length → ∃ gb ob, A = some ⟨gb, ob, none⟩ ∧ gb < B ∧ Bytes w gb ob xs)
theorem In.src {w : World} {B g : Nat} {A : Option Addr} {c : Nat} {xs : List UInt8} (h : In w B A c xs) (hg : B ≤ g) : Src w g A xs := fun h0 => by
 obtain ⟨gb, ob, e, hb, hby⟩ := h.2.2 h0
 exact ⟨gb, ob, e, by omega, hby⟩
theorem In.below {w w' : World} {B : Nat} {A : Option Addr} {c : Nat} {xs : List UInt8} (h : In w B A c xs) (hb : Below B w w') : In w' B A c xs :=
 ⟨h.1, h.2.1, fun h0 => by
  obtain ⟨gb, ob, e, hl, hby⟩ := h.2.2 h0
  exact ⟨gb, ob, e, hl, hby.below hb hl⟩⟩
theorem In.take {w : World} {B : Nat} {A : Option Addr} {c : Nat} {xs : List UInt8} (h : In w B A c xs) (k : Nat) : In w B A c (xs.take k) :=
 ⟨by have := h.1; rw [List.length_take]; omega, h.2.1, fun h0 => by
  obtain ⟨gb, ob, e, hl, hby⟩ := h.2.2 (by rw [List.length_take] at h0; omega)
  exact ⟨gb, ob, e, hl, hby.take k⟩⟩
theorem Src.alloc {w : World} {g : Nat} {A : Option Addr} {xs : List UInt8} (h : Src w g A xs) (o : Obj) : Src (w.alloc o) g A xs := h.keep (grown_alloc (grown_refl _ _) _)

theorem parts1 {w : World} {B g : Nat} {A : Option Addr} {c : Nat} {b : List UInt8} (t : TypeId) (h : In w B A c b) (hg : g ≠ w.heap.size) (hB : B ≤ g) :
  Parts (w.alloc (.cells #[.slice A b.length c] t)) g (some ⟨w.heap.size, 0, none⟩) [b] := fun _ =>
 ⟨w.heap.size, 0, rfl, by omega, fun j hj => by
  have hC := Blk.new_of w t #[.slice A b.length c] _ rfl
  obtain rfl : j = 0 := by have : j < 1 := hj; omega
  exact ⟨A, c, hC.cell 0, h.1, h.2.1, (h.src hB).alloc _⟩⟩
theorem parts2 {w : World} {B g : Nat} {A A' : Option Addr} {c c' : Nat} {b b' : List UInt8} (t : TypeId) (h : In w B A c b) (h' : In w B A' c' b') (hg : g ≠ w.heap.size) (hB : B ≤ g) :
  Parts (w.alloc (.cells #[.slice A b.length c, .slice A' b'.length c'] t)) g (some ⟨w.heap.size, 0, none⟩) [b, b'] := fun _ =>
 ⟨w.heap.size, 0, rfl, by omega, fun j hj => by
  have hC := Blk.new_of w t #[.slice A b.length c, .slice A' b'.length c'] _ rfl
  obtain rfl | rfl : j = 0 ∨ j = 1 := by have : j < 2 := hj; omega
  ·
   exact ⟨A, c, hC.cell 0, h.1, h.2.1, (h.src hB).alloc _⟩
  ·
   exact ⟨A', c', hC.cell 1, h'.1, h'.2.1, (h'.src hB).alloc _⟩⟩
theorem parts3 {w : World} {B g : Nat} {A A' A'' : Option Addr} {c c' c'' : Nat} {b b' b'' : List UInt8} (t : TypeId) (h : In w B A c b) (h' : In w B A' c' b') (h'' : In w B A'' c'' b'') (hg : g ≠ w.heap.size) (hB : B ≤ g) :
  Parts (w.alloc (.cells #[.slice A b.length c, .slice A' b'.length c', .slice A'' b''.length c''] t)) g (some ⟨w.heap.size, 0, none⟩) [b, b', b''] := fun _ =>
 ⟨w.heap.size, 0, rfl, by omega, fun j hj => by
  have hC := Blk.new_of w t #[.slice A b.length c, .slice A' b'.length c', .slice A'' b''.length c''] _ rfl
  obtain rfl | rfl | rfl : j = 0 ∨ j = 1 ∨ j = 2 := by have : j < 3 := hj; omega
  ·
   exact ⟨A, c, hC.cell 0, h.1, h.2.1, (h.src hB).alloc _⟩
  ·
   exact ⟨A', c', hC.cell 1, h'.1, h'.2.1, (h'.src hB).alloc _⟩
  ·
   exact ⟨A'', c'', hC.cell 2, h''.1, h''.2.1, (h''.src hB).alloc _⟩⟩
theorem HeldN.lt {w : World} {g : Nat} {t : TypeId} {m : List UInt8} (h : HeldN w g t m) : g < w.heap.size := by
 obtain ⟨_, _, _, hs, _⟩ := h; exact hs.lt
theorem HeldN.below {w w' : World} {g : Nat} {t : TypeId} {m : List UInt8} (h : HeldN w g t m) (hb : Below w.heap.size w w') : HeldN w' g t m := by
 obtain ⟨s, R, hR, hs, hm⟩ := h
 exact ⟨s, R, hR, hs.below hb hs.lt, hm⟩
theorem HeldN.grown {w w' : World} {g g' : Nat} {t : TypeId} {m : List UInt8} (h : HeldN w g t m) (hb : w.grownBy w' (some g')) (hne : g ≠ g') : HeldN w' g t m := by
 obtain ⟨s, R, hR, hs, hm⟩ := h
 exact ⟨s, R, hR, hs.grown hb (by simpa using hne), hm⟩
theorem HeldN.alloc {w : World} {g : Nat} {t : TypeId} {m : List UInt8} (h : HeldN w g t m) (o : Obj) : HeldN (w.alloc o) g t m := h.below ((Below.refl _ _).alloc (Nat.le_refl _) _)

theorem size8 (w : World) : (sizeOf 5).run Tryd.prog w = .ok 1 w := by
 obtain ⟨i, hi, hz, hs, hb⟩ := info_parts infoB
 simp [sizeOf, typeInfo, hi, hs]
theorem eq32 (L : List UInt8) (h : L.length = 32) (W : World) : (binOp .eql 22 (.agg (L.map B8).toArray) (.agg (L.map B8).toArray)).run Tryd.prog W = .ok (.bool true) W := by
 have := run_eql_bytes (P := Tryd.prog) W 22 5 32 Tryd.underlying22 Tryd.underlying5 size8 L L h h
 rw [beq_self_eq_true] at this
 exact this

end
end Go.Proofs.YtnjpcbbdhimacaaDoor
