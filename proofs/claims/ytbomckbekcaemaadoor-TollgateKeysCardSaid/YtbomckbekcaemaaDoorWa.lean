/-
  Joined: Sha, Mem, Bits, Fold, Own, Sched, Turn, Put, End, State, Sum, In.
-/
import Derived.WalkKit
import Derived.WalkSpells
import Derived.WalkLawsBesides
import Derived.Lib.Hide
import Derived.Below
import Derived.Laws.OwnMore
import Derived.Deep.Draws
import Derived.Laws.Rows
import Derived.Laws.Tables
import Derived.Test.YtbomckbekcaemaaDoorProg
import Derived.Deep.QuietTactic
import Derived.BigQuiet
import Derived.Laws.CopyOwn
import Derived.Maps.AppendAt
import Derived.Deep.AppendLies
import Derived.StillTailTactics
import Derived.BigRegion
import Derived.IntWalk
import Derived.Deep.MidRow
import Derived.Laws.CopyRow
import Derived.Lib.MinMax
import Derived.Stop.BytesEq
namespace Go.Proofs.YtbomckbekcaemaaDoor
section
open Go.RowKit
abbrev U32 (x : UInt32) : Value := .int .u32 (x.toNat : Int)
abbrev B8 (x : UInt8) : Value := .int .u8 (x.toNat : Int)

theorem u32_lt (x : UInt32) : x.toNat < 4294967296 := by have := x.toNat_lt; omega
theorem u8_lt (x : UInt8) : x.toNat < 256 := by have := x.toNat_lt; omega

theorem w_xor (a b : UInt32) : bits .xor .u32 (a.toNat : Int) (b.toNat : Int) = ((a ^^^ b).toNat : Int) := by
  rw [u32_xor_nat _ _ (u32_lt a) (u32_lt b), UInt32.toNat_xor]
theorem w_and (a b : UInt32) : bits .and .u32 (a.toNat : Int) (b.toNat : Int) = ((a &&& b).toNat : Int) := by
  rw [u32_and_nat _ _ (u32_lt a) (u32_lt b), UInt32.toNat_and]
theorem w_or (a b : UInt32) : bits .or .u32 (a.toNat : Int) (b.toNat : Int) = ((a ||| b).toNat : Int) := by
  rw [u32_or_nat _ _ (u32_lt a) (u32_lt b), UInt32.toNat_or]
theorem w_add (a b : UInt32) : ((a.toNat : Int) + (b.toNat : Int)) % 4294967296 = ((a + b).toNat : Int) := by
  rw [UInt32.toNat_add]; omega
theorem w_add3 (a b c : UInt32) : ((a.toNat : Int) + (b.toNat : Int) + (c.toNat : Int)) % 4294967296 = ((a + b + c).toNat : Int) := by
  rw [UInt32.toNat_add, UInt32.toNat_add]; omega
theorem w_add4 (a b c d : UInt32) : ((a.toNat : Int) + (b.toNat : Int) + (c.toNat : Int) + (d.toNat : Int)) % 4294967296 = ((a + b + c + d).toNat : Int) := by
  rw [UInt32.toNat_add, UInt32.toNat_add, UInt32.toNat_add]; omega
theorem w_add5 (a b c d e : UInt32) : ((a.toNat : Int) + (b.toNat : Int) + (c.toNat : Int) + (d.toNat : Int) + (e.toNat : Int)) % 4294967296 = ((a + b + c + d + e).toNat : Int) := by
  rw [UInt32.toNat_add, UInt32.toNat_add, UInt32.toNat_add, UInt32.toNat_add]; omega
theorem w_shl (a : UInt32) (n : Nat) (hn : n < 32) : ((a.toNat : Int) * 2 ^ n) % 4294967296 = ((a <<< UInt32.ofNat n).toNat : Int) := by
  rw [UInt32.toNat_shiftLeft, UInt32.toNat_ofNat_of_lt' (by simp [UInt32.size]; omega), Nat.mod_eq_of_lt hn, Nat.shiftLeft_eq]
  simp
theorem w_shr (a : UInt32) (n : Nat) (hn : n < 32) : (a.toNat : Int) / 2 ^ n = ((a >>> UInt32.ofNat n).toNat : Int) := by
  rw [UInt32.toNat_shiftRight, UInt32.toNat_ofNat_of_lt' (by simp [UInt32.size]; omega), Nat.mod_eq_of_lt hn, Nat.shiftRight_eq_div_pow]
  simp

/-- A word turned to the right by n bits. -/
def rotr (n : Nat) (x : UInt32) : UInt32 := (x <<< UInt32.ofNat (32 - n)) ||| (x >>> UInt32.ofNat n)
/-- A word turned to the left by n bits. -/
def rotl (n : Nat) (x : UInt32) : UInt32 := (x <<< UInt32.ofNat n) ||| (x >>> UInt32.ofNat (32 - n))

theorem rotr_flip (n : Nat) (x : UInt32) : (x >>> UInt32.ofNat n) ||| (x <<< UInt32.ofNat (32 - n)) = rotr n x := by
  unfold rotr; rw [UInt32.or_comm]
theorem rotl_rotr (n : Nat) (hn : n ≤ 32) (x : UInt32) : rotl (32 - n) x = rotr n x := by
  unfold rotr rotl; rw [show 32 - (32 - n) = n by omega]

theorem u8_u32 (b : UInt8) : (b.toNat : Int) = ((b.toUInt32).toNat : Int) := by simp

/-- The word that stands at place i of a block, the highest byte first. -/
def beWord (b : List UInt8) (i : Nat) : UInt32 :=
  ((b.getD (4 * i) 0).toUInt32 <<< 24) ||| ((b.getD (4 * i + 1) 0).toUInt32 <<< 16) ||| ((b.getD (4 * i + 2) 0).toUInt32 <<< 8) ||| (b.getD (4 * i + 3) 0).toUInt32
def small0 (x : UInt32) : UInt32 := rotr 7 x ^^^ rotr 18 x ^^^ (x >>> 3)
def small1 (y : UInt32) : UInt32 := rotr 17 y ^^^ rotr 19 y ^^^ (y >>> 10)
/-- The schedule of a block after i of its 64 words. -/
def schedTo (b : List UInt8) : Nat → List UInt32
  | 0 => List.replicate 64 0
  | i + 1 =>
    let L := schedTo b i
    L.set i (if i < 16 then beWord b i else L.getD (i - 16) 0 + small0 (L.getD (i - 15) 0) + L.getD (i - 7) 0 + small1 (L.getD (i - 2) 0))
theorem schedTo_length (b : List UInt8) (i : Nat) : (schedTo b i).length = 64 := by
  induction i with
  | zero => simp [schedTo]
  | succ i ih => simp [schedTo, ih]
theorem schedTo_low (b : List UInt8) (i : Nat) (h : i < 16) : schedTo b (i + 1) = (schedTo b i).set i (beWord b i) := by
  simp [schedTo, h]
theorem schedTo_high (b : List UInt8) (i : Nat) (h : ¬ i < 16) : schedTo b (i + 1) = (schedTo b i).set i ((schedTo b i).getD (i - 16) 0 + small0 ((schedTo b i).getD (i - 15) 0) + (schedTo b i).getD (i - 7) 0 + small1 ((schedTo b i).getD (i - 2) 0)) := by
  simp [schedTo, h]

theorem w_shl24 (x : UInt32) : ((x.toNat : Int) * (16777216 : Int)) % (4294967296 : Int) = ((x <<< 24).toNat : Int) := w_shl x 24 (by decide)
theorem w_shl16 (x : UInt32) : ((x.toNat : Int) * (65536 : Int)) % (4294967296 : Int) = ((x <<< 16).toNat : Int) := w_shl x 16 (by decide)
theorem w_shl8 (x : UInt32) : ((x.toNat : Int) * (256 : Int)) % (4294967296 : Int) = ((x <<< 8).toNat : Int) := w_shl x 8 (by decide)
theorem w_shr3 (x : UInt32) : (x.toNat : Int) / (8 : Int) = ((x >>> 3).toNat : Int) := w_shr x 3 (by decide)
theorem w_shr10 (x : UInt32) : (x.toNat : Int) / (1024 : Int) = ((x >>> 10).toNat : Int) := w_shr x 10 (by decide)
theorem u8_mod (b : UInt8) : (b.toNat : Int) % (4294967296 : Int) = ((b.toUInt32).toNat : Int) := by
  have := u8_lt b
  rw [← u8_u32]; omega

theorem be_eq (a b c d : UInt8) :
    bits .or .u32 (bits .or .u32 (bits .or .u32 ((a.toNat : Int) % 4294967296 * 16777216 % 4294967296) ((b.toNat : Int) % 4294967296 * 65536 % 4294967296)) ((c.toNat : Int) % 4294967296 * 256 % 4294967296)) ((d.toNat : Int) % 4294967296)
      = (((a.toUInt32 <<< 24) ||| (b.toUInt32 <<< 16) ||| (c.toUInt32 <<< 8) ||| d.toUInt32).toNat : Int) := by
  rw [u8_mod, u8_mod, u8_mod, u8_mod, w_shl24, w_shl16, w_shl8, w_or, w_or, w_or]
theorem beWord_eq (bs : List UInt8) (k : Nat) :
    bits .or .u32 (bits .or .u32 (bits .or .u32 (((bs[4 * k]?.getD 0).toNat : Int) % 4294967296 * 16777216 % 4294967296) (((bs[4 * k + 1]?.getD 0).toNat : Int) % 4294967296 * 65536 % 4294967296)) (((bs[4 * k + 2]?.getD 0).toNat : Int) % 4294967296 * 256 % 4294967296)) (((bs[4 * k + 3]?.getD 0).toNat : Int) % 4294967296)
      = ((beWord bs k).toNat : Int) := by
  rw [be_eq]; simp only [beWord, List.getD_eq_getElem?_getD]
theorem s0_eq (x : UInt32) : bits .xor .u32 (bits .xor .u32 ((rotr 7 x).toNat : Int) ((rotr 18 x).toNat : Int)) ((x.toNat : Int) / 8) = ((small0 x).toNat : Int) := by
  rw [w_shr3, w_xor, w_xor]; rfl
theorem s1_eq (x : UInt32) : bits .xor .u32 (bits .xor .u32 ((rotr 17 x).toNat : Int) ((rotr 19 x).toNat : Int)) ((x.toNat : Int) / 1024) = ((small1 x).toNat : Int) := by
  rw [w_shr10, w_xor, w_xor]; rfl

/-- What the rounds add: the fractions of the cube roots of the first 64 primes. -/
def kTab : List UInt32 := [1116352408, 1899447441, 3049323471, 3921009573, 961987163, 1508970993, 2453635748, 2870763221, 3624381080, 310598401, 607225278, 1426881987, 1925078388, 2162078206, 2614888103, 3248222580, 3835390401, 4022224774, 264347078, 604807628, 770255983, 1249150122, 1555081692, 1996064986, 2554220882, 2821834349, 2952996808, 3210313671, 3336571891, 3584528711, 113926993, 338241895, 666307205, 773529912, 1294757372, 1396182291, 1695183700, 1986661051, 2177026350, 2456956037, 2730485921, 2820302411, 3259730800, 3345764771, 3516065817, 3600352804, 4094571909, 275423344, 430227734, 506948616, 659060556, 883997877, 958139571, 1322822218, 1537002063, 1747873779, 1955562222, 2024104815, 2227730452, 2361852424, 2428436474, 2756734187, 3204031479, 3329325298]
/-- Eight words. -/
structure St where
  a : UInt32
  b : UInt32
  c : UInt32
  d : UInt32
  e : UInt32
  f : UInt32
  g : UInt32
  h : UInt32
/-- The fractions of the square roots of the first eight primes. -/
def first : St := ⟨1779033703, 3144134277, 1013904242, 2773480762, 1359893119, 2600822924, 528734635, 1541459225⟩
def St.words (s : St) : List UInt32 := [s.a, s.b, s.c, s.d, s.e, s.f, s.g, s.h]
def St.vals (s : St) : List Value := [U32 s.a, U32 s.b, U32 s.c, U32 s.d, U32 s.e, U32 s.f, U32 s.g, U32 s.h]
def big1 (e : UInt32) : UInt32 := rotr 6 e ^^^ rotr 11 e ^^^ rotr 25 e
def big0 (a : UInt32) : UInt32 := rotr 2 a ^^^ rotr 13 a ^^^ rotr 22 a
def choice (e f g : UInt32) : UInt32 := (e &&& f) ^^^ (~~~e &&& g)
def majority (a b c : UInt32) : UInt32 := (a &&& b) ^^^ (a &&& c) ^^^ (b &&& c)
/-- One round. -/
def rnd (k w : UInt32) (s : St) : St :=
  let t1 := s.h + big1 s.e + choice s.e s.f s.g + k + w
  ⟨t1 + (big0 s.a + majority s.a s.b s.c), s.a, s.b, s.c, s.d + t1, s.e, s.f, s.g⟩
def rnds (W : List UInt32) : Nat → St → St
  | 0, s => s
  | n + 1, s => rnd (kTab.getD n 0) (W.getD n 0) (rnds W n s)
def addSt (s t : St) : St := ⟨s.a + t.a, s.b + t.b, s.c + t.c, s.d + t.d, s.e + t.e, s.f + t.f, s.g + t.g, s.h + t.h⟩
/-- What a block of 64 bytes makes of the words. -/
def comp (s : St) (b : List UInt8) : St := addSt s (rnds (schedTo b 64) 64 s)

theorem w_not (a : UInt32) : bits .xor .u32 IntKind.u32.max (a.toNat : Int) = ((~~~a).toNat : Int) := by
  have h : IntKind.u32.max = (((4294967295 : UInt32).toNat : Nat) : Int) := by decide
  rw [h, w_xor]
  have e : (4294967295 : UInt32) ^^^ a = ~~~a := by
    have e1 : (4294967295 : UInt32) = -1 := by decide
    rw [e1, UInt32.neg_one_xor]
  rw [e]


end
section
open Go.RowKit
def Blk (w : World) (g : Nat) (t : TypeId) (cs : List Value) : Prop := w.heap[g]? = some (.cells cs.toArray t (0, 0))

section
variable {w w' : World} {g : Nat} {t : TypeId} {cs : List Value}
theorem Blk.lt (h : Blk w g t cs) : g < w.heap.size := by
  rcases Nat.lt_or_ge g w.heap.size with hlt | hge
  · exact hlt
  · unfold Blk at h; rw [Array.getElem?_eq_none hge] at h; cases h
theorem Blk.cell (h : Blk w g t cs) (i : Nat) : w.cell? ⟨g, i, none⟩ = cs[i]? := by
  rw [cell_of_row w g i cs.toArray t (0, 0) h]; simp
theorem Blk.cellD (h : Blk w g t cs) (i : Nat) (d : Value) (hi : i < cs.length) : w.cell? ⟨g, i, none⟩ = some (cs.getD i d) := by
  rw [h.cell, List.getD_eq_getElem?_getD, List.getElem?_eq_getElem hi]; rfl
theorem Blk.frozen (h : Blk w g t cs) (i : Nat) : w.frozen? ⟨g, i, none⟩ = false := by
  unfold Blk at h
  simp [World.frozen?, h]
theorem Blk.new (w : World) (t : TypeId) (cs : List Value) : Blk (w.alloc (.cells cs.toArray t)) w.heap.size t cs := heap_alloc_new w _
theorem Blk.new_of (w : World) (t : TypeId) (arr : Array Value) (cs : List Value) (h : arr = cs.toArray) : Blk (w.alloc (.cells arr t)) w.heap.size t cs := by subst h; exact heap_alloc_new w _
theorem Blk.new2_of (w : World) (A : Obj) (t : TypeId) (arr : Array Value) (cs : List Value) (h : arr = cs.toArray) : Blk ((w.alloc A).alloc (.cells arr t)) (w.heap.size + 1) t cs := by subst h; exact heap_alloc2_new w A _
theorem Blk.raw (h : Blk w g t cs) : w.heap[g]? = some (.cells cs.toArray t (0, 0)) := h
theorem Blk.row (h : Blk w g t cs) (ds : List Value) : Blk (w.setRow g ds.toArray) g t ds := setRow_heap w g cs.toArray ds.toArray t (0, 0) h
theorem Blk.drew (h : Blk w g t cs) : Blk w.drew g t cs := h
theorem Blk.drewN (h : Blk w g t cs) (n : Nat) : Blk (w.drewN n) g t cs := h
theorem Blk.alloc (h : Blk w g t cs) (o : Obj) : Blk (w.alloc o) g t cs := (Below.heap_alloc w o g h.lt).trans h
theorem Blk.set_ (h : Blk w g t cs) (i : Nat) (u : Value) : Blk (w.setCell ⟨g, i, none⟩ u) g t (cs.set i u) := by
  unfold Blk at h ⊢
  simp [World.setCell, Array.getElem?_modify, h]
theorem Blk.far (h : Blk w g t cs) {p : Addr} (hp : g ≠ p.block) (u : Value) : Blk (w.setCell p u) g t cs := (Below.heap_setCell w p u g hp).trans h
theorem Blk.below {B : Nat} (h : Blk w g t cs) (hb : Below B w w') (hg : g < B) : Blk w' g t cs := (hb.block g hg).trans h
theorem Blk.grown {row : Option Nat} (h : Blk w g t cs) (hb : w.grownBy w' row) (hg : some g ≠ row) : Blk w' g t cs := (hb.block g h.lt hg).trans h
end
theorem new_cell (w : World) (t : TypeId) (u : Value) : (w.alloc (.cells #[u] t)).cell? ⟨w.heap.size, 0, none⟩ = some u := (Blk.new_of w t #[u] [u] rfl).cell 0
theorem block_of_add (a : Addr) (n : Nat) : (a.add n).block = a.block := by unfold Addr.add; split <;> rfl
theorem add_of_add (a : Addr) (i j : Nat) : (a.add i).add j = a.add (i + j) := by
  unfold Addr.add
  by_cases hi : i = 0 <;> by_cases hj : j = 0 <;> simp [hi, hj, Nat.add_assoc]
theorem add_row (g o n : Nat) : (⟨g, o, none⟩ : Addr).add n = ⟨g, o + n, none⟩ := by
  unfold Addr.add; split <;> simp_all

/-- The cells of block g from place o on hold these bytes. -/
def Bytes (w : World) (g o : Nat) (bs : List UInt8) : Prop := ∀ j, j < bs.length → w.cell? ⟨g, o + j, none⟩ = some (.int .u8 (bs.getD j 0).toNat)
theorem Bytes.below {w w' : World} {g o B : Nat} {bs : List UInt8} (h : Bytes w g o bs) (hb : Below B w w') (hg : g < B) : Bytes w' g o bs :=
  fun j hj => (hb.cell (p := ⟨g, o + j, none⟩) hg).trans (h j hj)
theorem Bytes.drew {w : World} {g o : Nat} {bs : List UInt8} (h : Bytes w g o bs) : Bytes w.drew g o bs := h
theorem Bytes.drewN {w : World} {g o : Nat} {bs : List UInt8} (h : Bytes w g o bs) (n : Nat) : Bytes (w.drewN n) g o bs := h
theorem Bytes.lt {w : World} {g o : Nat} {bs : List UInt8} (h : Bytes w g o bs) (h0 : 0 < bs.length) : g < w.heap.size := block_lt_of_cell (h 0 h0)

theorem getD_map32 (L : List UInt32) (i : Nat) (h : i < L.length) : (L.map U32)[i]? = some (U32 (L.getD i 0)) := by
  simp [List.getElem?_map, List.getD_eq_getElem?_getD, List.getElem?_eq_getElem h]
theorem getD_map8 (L : List UInt8) (i : Nat) (h : i < L.length) : (L.map B8)[i]? = some (B8 (L.getD i 0)) := by
  simp [List.getElem?_map, List.getD_eq_getElem?_getD, List.getElem?_eq_getElem h]
theorem one32 (L : List UInt32) : (L.map U32).toArray.all (·.oneCell') = true := by
  rw [Array.all_eq_true_iff_forall_mem]; intro v hv; simp at hv; obtain ⟨x, _, rfl⟩ := hv; rfl
theorem one8 (L : List UInt8) : (L.map B8).toArray.all (·.oneCell') = true := by
  rw [Array.all_eq_true_iff_forall_mem]; intro v hv; simp at hv; obtain ⟨x, _, rfl⟩ := hv; rfl
theorem below_drewN {B : Nat} {a w : World} (h : Below B a w) (n : Nat) : Below B a (w.drewN n) := ⟨h.os, h.tape, h.output, h.size, h.block⟩
theorem below_setRow' {B g : Nat} {w0 w : World} (hb : Below B w0 w) (hBg : B ≤ g) (cs : Array Value) : Below B w0 (w.setRow g cs) :=
  hb.trans ⟨rfl, rfl, rfl, by simp [World.setRow], fun k hk => setRow_other w g k cs (by omega)⟩
theorem map_set32 (L : List UInt32) (i : Nat) (x : UInt32) : (L.map U32).set i (U32 x) = (L.set i x).map U32 := by
  rw [List.map_set]
theorem map_set8 (L : List UInt8) (i : Nat) (x : UInt8) : (L.map B8).set i (B8 x) = (L.set i x).map B8 := by
  rw [List.map_set]
theorem Blk.at32 {w : World} {g : Nat} {t : TypeId} {L : List UInt32} (h : Blk w g t (L.map U32)) (i : Nat) (hi : i < L.length) : w.cell? ⟨g, i, none⟩ = some (.int .u32 (L.getD i 0).toNat) :=
  (h.cell i).trans (getD_map32 L i hi)
theorem Blk.at8 {w : World} {g : Nat} {t : TypeId} {L : List UInt8} (h : Blk w g t (L.map B8)) (i : Nat) (hi : i < L.length) : w.cell? ⟨g, i, none⟩ = some (.int .u8 (L.getD i 0).toNat) :=
  (h.cell i).trans (getD_map8 L i hi)

theorem grown_setRow (w : World) (g : Nat) (cs : Array Value) : w.grownBy (w.setRow g cs) (some g) :=
  ⟨rfl, rfl, rfl, by simp [World.setRow], fun k _ hk => setRow_other w g k cs (fun e => hk (by rw [e]))⟩
theorem grown_refl (w : World) (r : Option Nat) : w.grownBy w r := ⟨rfl, rfl, rfl, Nat.le_refl _, fun _ _ _ => rfl⟩
theorem grown_trans {a b c : World} {r : Option Nat} (h : a.grownBy b r) (k : b.grownBy c r) : a.grownBy c r :=
  ⟨k.os.trans h.os, k.tape.trans h.tape, k.output.trans h.output, Nat.le_trans h.size k.size, fun i hi hn => (k.block i (Nat.lt_of_lt_of_le hi h.size) hn).trans (h.block i hi hn)⟩
theorem grown_of_below {a w : World} (h : Below a.heap.size a w) (r : Option Nat) : a.grownBy w r := ⟨h.os, h.tape, h.output, h.size, fun i hi _ => h.block i hi⟩
theorem grown_below {B g : Nat} {a w : World} (h : a.grownBy w (some g)) (hB : B ≤ g) (hs : B ≤ a.heap.size) : Below B a w :=
  ⟨h.os, h.tape, h.output, h.size, fun i hi => h.block i (by omega) (by simp; omega)⟩
theorem grown_drewN {a w : World} {r : Option Nat} (h : a.grownBy w r) (n : Nat) : a.grownBy (w.drewN n) r := ⟨h.os, h.tape, h.output, h.size, h.block⟩
theorem grown_drew {a w : World} {r : Option Nat} (h : a.grownBy w r) : a.grownBy w.drew r := ⟨h.os, h.tape, h.output, h.size, h.block⟩
theorem grown_from_drew {a w : World} {r : Option Nat} (h : a.drew.grownBy w r) : a.grownBy w r := ⟨h.os, h.tape, h.output, h.size, h.block⟩
theorem grown_from_drewN {a w : World} {r : Option Nat} {n : Nat} (h : (a.drewN n).grownBy w r) : a.grownBy w r := ⟨h.os, h.tape, h.output, h.size, h.block⟩
theorem grown_alloc {a w : World} {r : Option Nat} (h : a.grownBy w r) (o : Obj) : a.grownBy (w.alloc o) r :=
  ⟨h.os, h.tape, h.output, Nat.le_trans h.size (by simp), fun i hi hne => (Below.heap_alloc w o i (Nat.lt_of_lt_of_le hi h.size)).trans (h.block i hi hne)⟩
theorem grown_setCell {a w : World} {g : Nat} (h : a.grownBy w (some g)) {p : Addr} (hp : p.block = g ∨ a.heap.size ≤ p.block) (u : Value) : a.grownBy (w.setCell p u) (some g) :=
  ⟨h.os, h.tape, h.output, by simpa [World.setCell] using h.size, fun i hi hne => (Below.heap_setCell w p u i (by
    rintro rfl
    rcases hp with hp | hp
    · exact hne (by rw [hp])
    · omega)).trans (h.block i hi hne)⟩
/-- What is a block of the call's own may be written besides: the frame is the same. -/
theorem grown_new {a b c : World} {g g' : Nat} (h : a.grownBy b (some g)) (k : b.grownBy c (some g')) (hg : a.heap.size ≤ g') : a.grownBy c (some g) :=
  ⟨k.os.trans h.os, k.tape.trans h.tape, k.output.trans h.output, Nat.le_trans h.size k.size, fun i hi hn => (k.block i (Nat.lt_of_lt_of_le hi h.size) (by simp; omega)).trans (h.block i hi hn)⟩
theorem below_new {B : Nat} {a b c : World} {g' : Nat} (h : Below B a b) (k : b.grownBy c (some g')) (hg : B ≤ g') (hB : B ≤ b.heap.size) : Below B a c :=
  h.trans (grown_below k hg hB)

/-- A whole row goes into a block that is known. -/
theorem wpList_store_blk {P : Program} {ops : Array Oper} {rest : List Oper} {o : Oper} {a : Act} {w : World} {Q : Exit → Act → World → Prop} (hgd : o.guard = none) (ty : TypeId) (x y : Operand) (ho : o.op = .store ty x y) (hd : o.dst = none)
    (g : Nat) (cells : List Value) (hx : a.eval x = .pointer (some ⟨g, 0, none⟩)) (hy : a.eval y = .agg cells.toArray)
    (t : TypeId) (old : List Value) (hg : Blk w g t old) (hi : (P.info? ty).map (·.size) = some cells.length)
    (hold : old.length = cells.length) (h1 : cells.toArray.all (·.oneCell') = true)
    (h : ∀ w', Blk w' g t cells → w.grownBy w' (some g) → wpList P ops Q rest a w') : wpList P ops Q (o :: rest) a w :=
  wpList_store_row hgd ty x y ho g cells.toArray hx hy t old.toArray hg (by simpa using hi) (by simpa using hold) h1 (by rw [hd]; exact h _ (hg.row _) (grown_setRow _ _ _))
/-- A whole row is read out of a block that is known. -/
theorem wpList_load_blk {P : Program} {ops : Array Oper} {rest : List Oper} {o : Oper} {a : Act} {w : World} {Q : Exit → Act → World → Prop} (hgd : o.guard = none) (ty : TypeId) (x : Operand) (ho : o.op = .load ty x)
    (g : Nat) (hx : a.eval x = .pointer (some ⟨g, 0, none⟩)) (t : TypeId) (cs : List Value) (d : TypeDesc) (hg : Blk w g t cs)
    (hu : P.underlying ty = some d) (hd : (match d with | .struct _ | .array _ _ => true | _ => false) = true) (hi : (P.info? ty).map (·.size) = some cs.length)
    (h : wpList P ops Q rest (a.put o.dst (.agg cs.toArray)) w) : wpList P ops Q (o :: rest) a w :=
  wpList_load_row hgd ty x ho g hx t cs.toArray (0, 0) d hg hu hd (by simpa using hi) h


end
section
open Go.RowKit
theorem ret_val {a b : Value} (h : a = b) : Ending.returned a = Ending.returned b := by rw [h]

set_option maxHeartbeats 400000 in
theorem rotl_any (x : UInt32) (k : Int) (n : Nat) (w : World) (hn0 : 0 < n) (hn : n < 32) (hk : bits .and .u64 (IntKind.u64.wrap k) 31 = (n : Int)) :
    Calls Tryd.prog 91 #[.int .u32 x.toNat, .int .i64 k] w fun e w' => e = .returned (.int .u32 (rotl n x).toNat) ∧ w = w' := by
  have H1 := Lib.hid (w_shl x n hn)
  have H2 := Lib.hid (w_shr x (32 - n) (by omega))
  have hs : ((32 : Int) - n) = ((32 - n : Nat) : Int) := by omega
  have h0 : ¬ ((32 : Int) - n < 0) := by omega
  have e1 : min n 32 = n := by omega
  have e2 : min (32 - n) 32 = 32 - n := by omega
  go_enter Tryd.func91, Tryd.ntmps91
  go_wp2
  go_ret
  exact ⟨by rw [H1.out, H2.out, w_or]; rfl, rfl⟩

theorem neg_count : ∀ n : Fin 31, bits .and .u64 (IntKind.u64.wrap (-((n.val : Int) + 1))) 31 = ((31 - n.val : Nat) : Int) := by decide +kernel

/-- As the code calls it to turn to the right: by a count below nought. -/
theorem rot_any (x : UInt32) (k : Int) (w : World) (h0 : -31 ≤ k) (h1 : k ≤ -1) :
    Calls Tryd.prog 91 #[.int .u32 x.toNat, .int .i64 k] w fun e w' => e = .returned (.int .u32 (rotr (-k).toNat x).toNat) ∧ w = w' := by
  obtain ⟨n, hn⟩ : ∃ n : Nat, k = -((n : Int) + 1) := ⟨(-k - 1).toNat, by omega⟩
  subst hn
  have h := neg_count ⟨n, by omega⟩
  refine (rotl_any x _ (31 - n) w (by omega) (by omega) h).mono fun e w' ⟨he, hw⟩ => ⟨?_, hw⟩
  rw [he, show (-(-((n : Int) + 1))).toNat = n + 1 by omega, ← rotl_rotr (n + 1) (by omega), show 32 - (n + 1) = 31 - n by omega]

end
section
open Go.RowKit
def foldB : Nat → St → List UInt8 → St
  | 0, s, _ => s
  | n + 1, s, m => foldB n (comp s (m.take 64)) (m.drop 64)
/-- What the whole blocks of m make of the words s. -/
def blocks (s : St) (m : List UInt8) : St := foldB (m.length / 64) s m
/-- What is left of m behind its whole blocks. -/
def left (m : List UInt8) : List UInt8 := m.drop (m.length / 64 * 64)

theorem blocks_short (s : St) (m : List UInt8) (h : m.length < 64) : blocks s m = s := by
  unfold blocks; rw [show m.length / 64 = 0 by omega]; rfl
theorem left_short (m : List UInt8) (h : m.length < 64) : left m = m := by
  unfold left; rw [show m.length / 64 = 0 by omega]; simp
theorem blocks_step (s : St) (m : List UInt8) (h : 64 ≤ m.length) : blocks s m = blocks (comp s (m.take 64)) (m.drop 64) := by
  unfold blocks
  rw [show m.length / 64 = (m.drop 64).length / 64 + 1 by simp; omega]
  rfl
theorem left_step (m : List UInt8) (h : 64 ≤ m.length) : left m = left (m.drop 64) := by
  unfold left
  rw [List.drop_drop, List.length_drop]
  congr 1; omega
theorem left_length (m : List UInt8) : (left m).length = m.length % 64 := by
  unfold left; rw [List.length_drop]; omega

theorem foldB_append (n : Nat) : ∀ (s : St) (x y : List UInt8), x.length = n * 64 → foldB (n + y.length / 64) s (x ++ y) = foldB (y.length / 64) (foldB n s x) y := by
  induction n with
  | zero =>
    intro s x y h
    have hx : x = [] := List.eq_nil_of_length_eq_zero (by omega)
    subst hx; simp [foldB]
  | succ n ih =>
    intro s x y h
    rw [show n + 1 + y.length / 64 = (n + y.length / 64) + 1 by omega]
    show foldB (n + y.length / 64) (comp s ((x ++ y).take 64)) ((x ++ y).drop 64) = foldB (y.length / 64) (foldB n (comp s (x.take 64)) (x.drop 64)) y
    rw [List.take_append_of_le_length (by omega), List.drop_append_of_le_length (by omega)]
    exact ih _ _ _ (by rw [List.length_drop]; omega)
/-- More bytes: the whole blocks of what was left and of the new ones go on from the words so far. -/
theorem blocks_append (s : St) (m b : List UInt8) : blocks s (m ++ b) = blocks (blocks s m) (left m ++ b) := by
  have e : m ++ b = m.take (m.length / 64 * 64) ++ (left m ++ b) := by
    unfold left; rw [← List.append_assoc, List.take_append_drop]
  have h1 : (m.take (m.length / 64 * 64)).length = m.length / 64 * 64 := by rw [List.length_take]; omega
  have h2 : blocks s m = foldB (m.length / 64) s (m.take (m.length / 64 * 64)) := by
    have h := foldB_append (m.length / 64) s (m.take (m.length / 64 * 64)) (left m) h1
    rw [left_length, show m.length % 64 / 64 = 0 by omega] at h
    unfold left at h
    rw [List.take_append_drop] at h
    unfold blocks
    simpa [foldB] using h
  have h3 := foldB_append (m.length / 64) s (m.take (m.length / 64 * 64)) (left m ++ b) h1
  rw [← e] at h3
  have h4 : (m ++ b).length / 64 = m.length / 64 + (left m ++ b).length / 64 := by
    rw [List.length_append, List.length_append, left_length]; omega
  rw [h2]
  unfold blocks
  rw [h4, h3]
theorem left_append (m b : List UInt8) : left (m ++ b) = left (left m ++ b) := by
  have h4 : (m ++ b).length / 64 = m.length / 64 + (left m ++ b).length / 64 := by
    rw [List.length_append, List.length_append, left_length]; omega
  have e : left m ++ b = (m ++ b).drop (m.length / 64 * 64) := by
    unfold left; rw [List.drop_append_of_le_length (by omega)]
  show (m ++ b).drop ((m ++ b).length / 64 * 64) = (left m ++ b).drop ((left m ++ b).length / 64 * 64)
  rw [h4]
  conv => rhs; rw [e, List.drop_drop]
  congr 1
  rw [← e]; omega

/-- How a state lies in its block: eight words, 64 bytes, the size. -/
def stCells (s : St) (R : List UInt8) (n : Nat) : List Value := s.vals ++ (R.map B8 ++ [.int .u64 (n : Int)])
theorem stCells_length (s : St) (R : List UInt8) (n : Nat) (h : R.length = 64) : (stCells s R n).length = 73 := by
  simp [stCells, St.vals, h]
theorem stCells_72 (s : St) (R : List UInt8) (n : Nat) (h : R.length = 64) : (stCells s R n)[72]? = some (.int .u64 (n : Int)) := by
  simp [stCells, St.vals, h]
theorem stCells_rest (s : St) (R : List UInt8) (n j : Nat) (hj : j < R.length) : (stCells s R n)[8 + j]? = some (B8 (R.getD j 0)) := by
  have h1 : (stCells s R n)[8 + j]? = (R.map B8 ++ [.int .u64 (n : Int)])[j]? := by
    unfold stCells
    rw [List.getElem?_append_right (by simp [St.vals])]
    simp [St.vals]
  rw [h1, List.getElem?_append_left (by simpa using hj)]
  exact getD_map8 R j hj
theorem stCells_set72 (s : St) (R : List UInt8) (n m : Nat) (h : R.length = 64) : (stCells s R n).set 72 (.int .u64 (m : Int)) = stCells s R m := by
  unfold stCells
  rw [List.set_append_right _ _ (by simp [St.vals])]
  rw [List.set_append_right _ _ (by simp [St.vals, h])]
  simp [St.vals, h]
theorem splice_eq {α : Type} (L : List α) (o : Nat) (cs : List α) : splice L o cs = L.take o ++ (cs ++ L.drop (o + cs.length)) := rfl
theorem stCells_splice (s : St) (R cs : List UInt8) (n h : Nat) (hR : R.length = 64) (hh : h + cs.length ≤ 64) :
    splice (stCells s R n) (8 + h) (cs.map B8) = stCells s (splice R h cs) n := by
  have e1 : (stCells s R n).take (8 + h) = s.vals ++ (R.take h).map B8 := by
    unfold stCells
    rw [List.take_append, List.take_of_length_le (by simp [St.vals]), List.take_append_of_le_length (by simp [St.vals, hR]; omega)]
    simp [St.vals, List.map_take]
  have e2 : (stCells s R n).drop (8 + h + cs.length) = (R.drop (h + cs.length)).map B8 ++ [.int .u64 (n : Int)] := by
    unfold stCells
    rw [List.drop_append, List.drop_eq_nil_of_le (by simp [St.vals]; omega), List.drop_append_of_le_length (by simp [St.vals, hR]; omega)]
    simp [St.vals, List.map_drop, show 8 + h + cs.length - 8 = h + cs.length by omega]
  rw [splice_eq, List.length_map, e1, e2]
  simp [stCells, splice_eq, List.append_assoc]
theorem splice_length {α : Type} (L : List α) (o : Nat) (cs : List α) (h : o + cs.length ≤ L.length) : (splice L o cs).length = L.length := length_splice L o cs h
theorem splice_take {α : Type} (L : List α) (o : Nat) (cs : List α) (h : o ≤ L.length) : (splice L o cs).take (o + cs.length) = L.take o ++ cs := by
  have e : o + cs.length = (L.take o ++ cs).length := by simp; omega
  rw [splice_eq, ← List.append_assoc, e, List.take_left]
theorem splice_nil {α : Type} (L : List α) (o : Nat) : splice L o [] = L := by simp [splice_eq]

/-- Bytes that are handed in, in another block than g: nil and empty rows are let in. -/
def Src (w : World) (g : Nat) (A : Option Addr) (xs : List UInt8) : Prop := 0 < xs.length → ∃ gb ob, A = some ⟨gb, ob, none⟩ ∧ gb ≠ g ∧ Bytes w gb ob xs
theorem Src.keep {w w' : World} {g : Nat} {A : Option Addr} {xs : List UInt8} (h : Src w g A xs) (hg : w.grownBy w' (some g)) : Src w' g A xs := fun h0 => by
  obtain ⟨gb, ob, e, hn, hb⟩ := h h0
  have hlt := hb.lt h0
  exact ⟨gb, ob, e, hn, fun j hj => (World.cell?_of_block (w := w) (a := ⟨gb, ob + j, none⟩) (hg.block gb hlt (by simp; omega))).trans (hb j hj)⟩
theorem Src.drop64 {w : World} {g gb ob : Nat} {xs : List UInt8} (h : Bytes w gb ob xs) (hn : gb ≠ g) (k c : Nat) (hk : k ≤ xs.length) (hc : xs.length ≤ c) :
    Src w g (if c = k then some ⟨gb, ob, none⟩ else some ⟨gb, ob + k, none⟩) (xs.drop k) := fun h0 => by
  rw [List.length_drop] at h0
  refine ⟨gb, ob + k, by rw [if_neg (by omega)], hn, fun j hj => ?_⟩
  rw [List.length_drop] at hj
  have := h (k + j) (by omega)
  rw [Nat.add_assoc, this]
  simp [List.getD_eq_getElem?_getD, List.getElem?_drop]
theorem Bytes.take {w : World} {g o : Nat} {xs : List UInt8} (h : Bytes w g o xs) (k : Nat) : Bytes w g o (xs.take k) := fun j hj => by
  rw [List.length_take] at hj
  rw [h j (by omega)]
  simp [List.getD_eq_getElem?_getD, show j < k by omega]
theorem Blk.rest {w : World} {g : Nat} {t : TypeId} {s : St} {R : List UInt8} {n : Nat} (h : Blk w g t (stCells s R n)) : Bytes w g 8 R := fun j hj => (h.cell (8 + j)).trans (stCells_rest s R n j hj)

theorem Src.cells {w : World} {g : Nat} {A : Option Addr} {ys : List UInt8} {x : Addr} (h : Src w g A ys) :
    0 < (ys.map B8).length → some x = some x ∧ ∃ gb ob, A = some ⟨gb, ob, none⟩ ∧ ∀ j v, (ys.map B8)[j]? = some v → w.cell? ⟨gb, ob + j, none⟩ = some v := fun hp => by
  obtain ⟨gb, ob, rfl, _, hby⟩ := h (by simpa using hp)
  refine ⟨rfl, gb, ob, rfl, fun j v hv => ?_⟩
  have hj : j < ys.length := by have := (List.getElem?_eq_some_iff.1 hv).1; simpa using this
  rw [getD_map8 ys j hj] at hv
  rw [← Option.some.inj hv]
  exact hby j hj
/-- 'copy' into a block that is known, of bytes that lie elsewhere (or in it), nil and empty ones let in: the frame is that block alone. -/
theorem wpList_copy_blk {P : Program} {w : World} {ops : Array Oper} {rest : List Oper} {o : Oper} {a : Act} {Q : Exit → Act → World → Prop} (hgd : o.guard = none) (d s : Operand) (dT sT : TypeId)
    (ho : o.op = .call { callee := .builtin .copy, args := #[d, s], argTypes := #[dT, sT] }) (elem : TypeId) (hu : P.underlying dT = some (.slice elem)) (hsz : (P.info? elem).map (·.size) = some 1)
    (dp sp : Option Addr) (dLen dCap sLen sCap : Nat) (hd : a.eval d = .slice dp dLen dCap) (hs : a.eval s = .slice sp sLen sCap)
    (g off : Nat) (cur : List Value) (t : TypeId) (hg : Blk w g t cur) (cs : List Value) (hn : cs.length = Nat.min sLen dLen)
    (hpos : 0 < cs.length → dp = some ⟨g, off, none⟩ ∧ ∃ gb ob, sp = some ⟨gb, ob, none⟩ ∧ ∀ j v, cs[j]? = some v → w.cell? ⟨gb, ob + j, none⟩ = some v)
    (hfit : off + cs.length ≤ cur.length) (h1 : ∀ v ∈ cs, v.oneCell' = true)
    (h : ∀ w', Blk w' g t (splice cur off cs) → w.grownBy w' (some g) → wpList P ops Q rest (a.put o.dst (goInt cs.length)) w') :
    wpList P ops Q (o :: rest) a w := by
  by_cases h0 : cs.length = 0
  · obtain rfl : cs = [] := List.eq_nil_of_length_eq_zero h0
    refine wpList_copy_nothing hgd d s dT sT ho elem hu hsz dp sp dLen dCap sLen sCap hd hs (by simpa using hn.symm) ?_
    exact h w (by rw [splice_nil]; exact hg) (grown_refl _ _)
  · obtain ⟨rfl, gb, ob, rfl, hsrc⟩ := hpos (by omega)
    refine wpList_copy_own hgd d s dT sT ho elem hu hsz g off dLen dCap ⟨gb, ob, none⟩ sLen sCap hd hs cur.toArray t hg cs hn (fun j v hv => by rw [add_row]; exact hsrc j v hv) (by simpa using hfit) h1 ?_
    refine h _ ?_ (grown_setRow _ _ _)
    have := hg.row (splice cur off cs)
    simpa [splice_eq] using this

/-- Eight bytes, the highest first. -/
def be8 (c : Nat) : List UInt8 := [UInt8.ofNat (c / 72057594037927936), UInt8.ofNat (c / 281474976710656), UInt8.ofNat (c / 1099511627776), UInt8.ofNat (c / 4294967296), UInt8.ofNat (c / 16777216), UInt8.ofNat (c / 65536), UInt8.ofNat (c / 256), UInt8.ofNat c]
/-- What stands behind n bytes: a one bit, noughts, the count of bits. -/
def padB (n : Nat) : List UInt8 := 128 :: List.replicate ((119 - n % 64) % 64) 0 ++ be8 (n * 8)
theorem padB_length (n : Nat) : (padB n).length = 9 + (119 - n % 64) % 64 := by
  simp [padB, be8]; omega
/-- The four bytes of a word, the highest first. -/
def word4 (x : UInt32) : List UInt8 := [(x >>> 24).toUInt8, (x >>> 16).toUInt8, (x >>> 8).toUInt8, x.toUInt8]
def bytesOf (s : St) : List UInt8 := word4 s.a ++ word4 s.b ++ word4 s.c ++ word4 s.d ++ word4 s.e ++ word4 s.f ++ word4 s.g ++ word4 s.h
theorem w_byte (x : UInt32) (n : Nat) (hn : n < 32) : (x.toNat : Int) / 2 ^ n % 256 = (((x >>> UInt32.ofNat n).toUInt8).toNat : Int) := by
  rw [w_shr x n hn]; simp
theorem n_byte (c d : Nat) : (c : Int) / (d : Int) % 256 = ((UInt8.ofNat (c / d)).toNat : Int) := by simp

def lenOf : Value → Nat
  | .slice _ n _ => n
  | _ => 0


end
section
open Go.RowKit
theorem infoB : (Tryd.prog.info? 5).map (fun i => (i.zero, i.size, i.bytes)) = some (some (.int .u8 0), 1, 1) := by kernel_rfl

/-- What the slice value v owns, from block base on, is just these bytes. -/
def Own (w : World) (base : Nat) (v : Value) (bs : List UInt8) : Prop := w.ownsRow base 5 1 v bs.length (bs.map B8)

theorem madeCells_zeros (c : Nat) : madeCells #[.int .u8 0] c = ((List.replicate c (0 : UInt8)).map B8).toArray := by
  have h := toList_madeCells_one (.int .u8 0) c
  apply Array.toList_inj.1
  rw [h, List.map_replicate]; rfl

theorem run_make_bytes (kl kc : IntKind) (n c : Nat) (hnc : n ≤ c) (hc : c ≤ 1099511627776) (w : World) :
    (Instr.makeSlice 26 (.int kl (n : Int)) (.int kc (c : Int))).run Tryd.prog w = .ok (.slice (some ⟨w.heap.size, 0, none⟩) n c) (w.alloc (.cells ((List.replicate c (0 : UInt8)).map B8).toArray 5)) := by
  obtain ⟨i, hi, hz, hs, hb⟩ := info_parts infoB
  have h := run_make (P := Tryd.prog) w 26 5 i (.int .u8 0) Tryd.underlying26 hi hz kl kc n c (by omega) (by omega) (by rw [hb]; omega) (by omega)
  rw [h, hs]
  simp only [Int.toNat_natCast, Nat.mul_one]
  rw [show Value.cells (.int .u8 0) = #[.int .u8 0] from rfl, madeCells_zeros]

theorem Own.form {w : World} {base : Nat} {v : Value} {bs : List UInt8} (h : Own w base v bs) (h0 : 0 < bs.length) :
    ∃ g c, v = .slice (some ⟨g, 0, none⟩) bs.length c ∧ base ≤ g ∧ g < w.heap.size ∧ bs.length ≤ c ∧ c ≤ maxLen ∧ Bytes w g 0 bs := by
  obtain ⟨hlen, hown⟩ := h
  rcases hown with ⟨_, hn⟩ | ⟨g, cap, cur, hv, hb, hg, hnc, hcm, hcs, ht⟩
  · omega
  · have hlt : g < w.heap.size := by
      rcases Nat.lt_or_ge g w.heap.size with hlt | hge
      · exact hlt
      · rw [Array.getElem?_eq_none hge] at hg; cases hg
    refine ⟨g, cap, hv, hb, hlt, hnc, hcm, fun j hj => ?_⟩
    rw [Nat.zero_add, cell_of_row w g j cur _ _ hg]
    have h1 : (cur.toList.take (bs.length * 1))[j]? = some (B8 (bs.getD j 0)) := by rw [ht]; exact getD_map8 bs j hj
    rw [List.getElem?_take] at h1
    split at h1
    · rw [← h1]; simp
    · cases h1
theorem Own.slice {w : World} {base : Nat} {v : Value} {bs : List UInt8} (h : Own w base v bs) :
    ∃ A c, v = .slice A bs.length c ∧ bs.length ≤ c ∧ c ≤ 9223372036854775807 ∧ ∀ g, g < base → Src w g A bs := by
  rcases Nat.eq_zero_or_pos bs.length with h0 | h0
  · rcases h.2 with ⟨hv, _⟩ | ⟨g, cap, cur, hv, _, _, hnc, hcm, _⟩
    · exact ⟨none, 0, by rw [hv, h0], by omega, by omega, fun g _ hp => by omega⟩
    · exact ⟨_, cap, hv, hnc, by simpa [maxLen] using hcm, fun g _ hp => by omega⟩
  · obtain ⟨g, c, hv, hb, _, hc, hcm, hby⟩ := h.form h0
    exact ⟨_, c, hv, hc, by simpa [maxLen] using hcm, fun g' hg' _ => ⟨g, 0, rfl, by omega, hby⟩⟩

theorem Own.alloc {w : World} {base : Nat} {v : Value} {bs : List UInt8} (h : Own w base v bs) (o : Obj) : Own (w.alloc o) base v bs := World.ownsRow.alloc h o
theorem Own.drewN {w : World} {base : Nat} {v : Value} {bs : List UInt8} (h : Own w base v bs) (n : Nat) : Own (w.drewN n) base v bs := h
theorem Own.nil (w : World) (base : Nat) : Own w base (.slice none 0 0) [] := World.ownsRow_nil w base _ 1
theorem Own.made (w : World) (g n c : Nat) (bs zs : List UInt8) (hg : Blk w g 5 ((bs ++ zs).map B8)) (hn : bs.length = n) (hc : bs.length + zs.length = c) (hcm : c ≤ maxLen) (base : Nat) (hb : base ≤ g) :
    Own w base (.slice (some ⟨g, 0, none⟩) n c) bs := by
  subst hn
  refine ⟨by simp, .inr ⟨g, c, _, rfl, hb, hg, by omega, hcm, by simp; omega, ?_⟩⟩
  simp
theorem le_alloc {w : World} {B : Nat} (h : B ≤ w.heap.size) (o : Obj) : B ≤ (w.alloc o).heap.size := by simp; omega
/-- One byte more behind a row of the call's own. -/
theorem wpList_append_byte {ops : Array Oper} {rest : List Oper} {o : Oper} {a : Act} {w : World} {Q : Exit → Act → World → Prop} (hgd : o.guard = none) (s x : Operand)
    (ho : o.op = .call { callee := .builtin .append, args := #[s, x], argTypes := #[26, 26] })
    (base : Nat) (v : Value) (bs : List UInt8) (hs : a.eval s = v) (hown : Own w base v bs)
    (gx : Nat) (y : UInt8) (hx : a.eval x = .slice (some ⟨gx, 0, none⟩) 1 1) (hc : w.cell? ⟨gx, 0, none⟩ = some (B8 y))
    (hn : bs.length ≤ 1099511627776) (hbase : base ≤ w.heap.size)
    (h : ∀ v' w', Own w' base v' (bs ++ [y]) → Below base w w' → w.grownBy w' v.ownBlock → wpList Tryd.prog ops Q rest (a.put o.dst v') w') : wpList Tryd.prog ops Q (o :: rest) a w := by
  obtain ⟨i, hi, hz, hsz, hb⟩ := info_parts infoB
  refine wpList_append_own w hgd s x 26 ho base 5 i (.int .u8 0) 1 1 Tryd.underlying26 hi hz hsz hb rfl (by decide) v bs.length (bs.map B8) hs hown ⟨gx, 0, none⟩ 1 1 [B8 y] hx rfl ?_ ?_ (by simp only [maxLen]; omega) (by omega) hbase ?_
  · intro j u hj
    match j, hj with
    | 0, hj => simp at hj; subst hj; simpa [Addr.add] using hc
    | j + 1, hj => simp at hj
  · intro u hu; simp at hu; subst hu; rfl
  · intro v' w' hown' hg _
    refine h v' w' ?_ ?_ hg
    · have e : (bs ++ [y]).map B8 = bs.map B8 ++ [B8 y] := by simp
      unfold Own
      rw [e, List.length_append]; exact hown'
    · exact ⟨hg.os, hg.tape, hg.output, hg.size, fun k hk => hg.block k (by omega) (fun e => by have := (hown.lt k e.symm).1; omega)⟩

end
section
open Go.RowKit
theorem info64 : (Tryd.prog.info? 118).map (·.size) = some 64 := by kernel_rfl

end
section
open Go.RowKit
end
section
open Go.RowKit
theorem info8 : (Tryd.prog.info? 5).map (·.size) = some 1 := by kernel_rfl

/-- The loop over whole blocks and the last copy: from a state whose bytes so far make whole blocks. -/
theorem oneB8 (cs : List UInt8) : ∀ v ∈ cs.map B8, v.oneCell' = true := by
  intro v hv; simp at hv; obtain ⟨x, _, rfl⟩ := hv; rfl

/-- Block g holds a state to which just the bytes m were put. -/
def Held (w : World) (g : Nat) (t : TypeId) (m : List UInt8) : Prop :=
  ∃ R : List UInt8, R.length = 64 ∧ R.take (m.length % 64) = left m ∧ Blk w g t (stCells (blocks first m) R m.length)

end
section
open Go.RowKit
/-- The bytes of the words, after k of them. -/
def bytesTo (ws : List UInt32) : Nat → List UInt8
  | 0 => List.replicate 32 0
  | k + 1 => ((((bytesTo ws k).set (4 * k) ((ws.getD k 0) >>> 24).toUInt8).set (4 * k + 1) ((ws.getD k 0) >>> 16).toUInt8).set (4 * k + 2) ((ws.getD k 0) >>> 8).toUInt8).set (4 * k + 3) (ws.getD k 0).toUInt8
theorem bytesTo_length (ws : List UInt32) (k : Nat) : (bytesTo ws k).length = 32 := by
  induction k with
  | zero => simp [bytesTo]
  | succ k ih => simp [bytesTo, ih]
theorem bytesTo_all (s : St) : bytesTo s.words 8 = bytesOf s := by
  simp [bytesTo, bytesOf, word4, St.words, List.replicate]
theorem w_byte24 (x : UInt32) : (x.toNat : Int) / (16777216 : Int) % (256 : Int) = (((x >>> 24).toUInt8).toNat : Int) := w_byte x 24 (by decide)
theorem w_byte16 (x : UInt32) : (x.toNat : Int) / (65536 : Int) % (256 : Int) = (((x >>> 16).toUInt8).toNat : Int) := w_byte x 16 (by decide)
theorem w_byte8 (x : UInt32) : (x.toNat : Int) / (256 : Int) % (256 : Int) = (((x >>> 8).toUInt8).toNat : Int) := w_byte x 8 (by decide)
theorem w_byte0 (x : UInt32) : (x.toNat : Int) % (256 : Int) = ((x.toUInt8).toNat : Int) := by simp
theorem cell_past (w : World) (g i j : Nat) (h : i ≠ j) (x : Value) : (w.setCell ⟨g, i, none⟩ x).cell? ⟨g, j, none⟩ = w.cell? ⟨g, j, none⟩ :=
  World.cell?_setCell_other w ⟨g, i, none⟩ ⟨g, j, none⟩ x (fun e => by injection e; omega)
theorem frozen_past (w : World) (p q : Addr) (x : Value) : (w.setCell p x).frozen? q = w.frozen? q := by simp

theorem Blk.new3_of (w : World) (A B : Obj) (t : TypeId) (arr : Array Value) (cs : List Value) (h : arr = cs.toArray) : Blk (((w.alloc A).alloc B).alloc (.cells arr t)) (w.heap.size + 1 + 1) t cs := by
  have h1 := Blk.new2_of (w.alloc A) B t arr cs h
  have e : (w.alloc A).heap.size + 1 = w.heap.size + 1 + 1 := by simp
  rw [e] at h1; exact h1

theorem one_plus (z : Nat) : (1 : Int) + (z : Int) = ((1 + z : Nat) : Int) := by omega
theorem one_plus8 (z : Nat) : (((1 + z : Nat) : Int)) + 8 = ((1 + z + 8 : Nat) : Int) := by omega
end
section
open Go.RowKit
/-- Some cells go into a block that is known, from place off on. -/
theorem wpList_store_part {P : Program} {ops : Array Oper} {rest : List Oper} {o : Oper} {a : Act} {w : World} {Q : Exit → Act → World → Prop} (hgd : o.guard = none) (ty : TypeId) (x y : Operand) (ho : o.op = .store ty x y) (hd : o.dst = none)
    (g off : Nat) (cells : List Value) (hx : a.eval x = .pointer (some ⟨g, off, none⟩)) (hy : a.eval y = .agg cells.toArray)
    (t : TypeId) (old : List Value) (hg : Blk w g t old) (hi : (P.info? ty).map (·.size) = some cells.length)
    (hfit : off + cells.length ≤ old.length) (h1 : ∀ v ∈ cells, v.oneCell' = true)
    (h : ∀ w', Blk w' g t (splice old off cells) → w.grownBy w' (some g) → wpList P ops Q rest a w') : wpList P ops Q (o :: rest) a w := by
  have hst := run_storeCells_at P g off t cells 0 old.toArray w hg (by simpa using hfit) h1
  refine wpList_plain hgd fun K hK => ?_
  have hrun : (storeVar ty ⟨g, off, none⟩ (.agg cells.toArray)).run P w = .ok () (w.setRow g (splice old off cells).toArray) := by
    cases hq : P.info? ty with
    | none => simp [hq] at hi
    | some i =>
      have hs : cells.length = i.size := by simp [hq] at hi; omega
      simp only [Nat.add_zero] at hst
      simp [storeVar, sizeOf, typeInfo, hq, Value.cells, hs, hst, splice_eq]
  unfold Oper.wp execOp
  simp only [ho, hx, hy, Instr.storeAt, Instr.sureAddr, Sem.run_bind, Sem.run_pure, Result.andThen_ok, hrun]
  exact hK _ _ (by rw [hd]; exact h _ (hg.row _) (grown_setRow _ _ _))

def zeroSt : St := ⟨0, 0, 0, 0, 0, 0, 0, 0⟩
/-- Block g holds a state to which just the bytes m were put; nothing is asked of the words while m is empty. -/
def HeldN (w : World) (g : Nat) (t : TypeId) (m : List UInt8) : Prop :=
  ∃ (s : St) (R : List UInt8), R.length = 64 ∧ Blk w g t (stCells s R m.length) ∧ (m ≠ [] → s = blocks first m ∧ R.take (m.length % 64) = left m)
theorem HeldN.of_held {w : World} {g : Nat} {t : TypeId} {m : List UInt8} (h : Held w g t m) : HeldN w g t m := by
  obtain ⟨R, h1, h2, h3⟩ := h
  exact ⟨_, R, h1, h3, fun _ => ⟨rfl, h2⟩⟩
theorem HeldN.new {w : World} {g : Nat} {t : TypeId} (h : Blk w g t (stCells zeroSt (List.replicate 64 0) 0)) : HeldN w g t [] :=
  ⟨_, _, by simp, h, fun h => absurd rfl h⟩

/-- The parts that are handed in: each a slice of bytes in another block than g. -/
def Parts (w : World) (g : Nat) (A : Option Addr) (ps : List (List UInt8)) : Prop := 0 < ps.length → ∃ gp op, A = some ⟨gp, op, none⟩ ∧ gp ≠ g ∧
  ∀ j, j < ps.length → ∃ Aj cj, w.cell? ⟨gp, op + j, none⟩ = some (.slice Aj (ps.getD j []).length cj) ∧ (ps.getD j []).length ≤ cj ∧ cj ≤ 9223372036854775807 ∧ Src w g Aj (ps.getD j [])
theorem Parts.keep {w w' : World} {g : Nat} {A : Option Addr} {ps : List (List UInt8)} (h : Parts w g A ps) (hg : w.grownBy w' (some g)) : Parts w' g A ps := fun h0 => by
  obtain ⟨gp, op, e, hn, hj⟩ := h h0
  refine ⟨gp, op, e, hn, fun j hjl => ?_⟩
  obtain ⟨Aj, cj, hc, h1, h2, h3⟩ := hj j hjl
  exact ⟨Aj, cj, (World.cell?_of_block (w := w) (a := ⟨gp, op + j, none⟩) (hg.block gp (block_lt_of_cell hc) (by simp; omega))).trans hc, h1, h2, h3.keep hg⟩
theorem Parts.one {w : World} {g gp : Nat} {A : Option Addr} {c : Nat} {b : List UInt8} (hc : w.cell? ⟨gp, 0, none⟩ = some (.slice A b.length c)) (hn : gp ≠ g) (h1 : b.length ≤ c) (h2 : c ≤ 9223372036854775807) (h3 : Src w g A b) : Parts w g (some ⟨gp, 0, none⟩) [b] := fun _ =>
  ⟨gp, 0, rfl, hn, fun j hj => by
    obtain rfl : j = 0 := by simpa using hj
    exact ⟨A, c, hc, h1, h2, h3⟩⟩

theorem vals_one (s : St) : ∀ v ∈ s.vals, v.oneCell' = true := by
  intro v hv; simp [St.vals] at hv; rcases hv with rfl | rfl | rfl | rfl | rfl | rfl | rfl | rfl <;> rfl
theorem splice_vals (s q : St) (R : List UInt8) (n : Nat) : splice (stCells s R n) 0 q.vals = stCells q R n := by
  simp [splice_eq, stCells, St.vals]

end
section
open Go.RowKit
/-- SHA-256 of a row of bytes. -/
def sha (m : List UInt8) : List UInt8 := bytesOf (blocks first (m ++ padB m.length))
theorem sha_length (m : List UInt8) : (sha m).length = 32 := rfl

theorem size_alloc (w : World) (o : Obj) : (w.alloc o).heap.size = w.heap.size + 1 := by simp
theorem st_one (s : St) (R : List UInt8) (n : Nat) : (stCells s R n).toArray.all (·.oneCell') = true := by
  rw [Array.all_eq_true_iff_forall_mem]
  intro v hv
  simp only [List.mem_toArray, stCells, List.mem_append] at hv
  rcases hv with hv | hv | hv
  · exact vals_one s v hv
  · exact oneB8 R v hv
  · simp at hv; subst hv; rfl

end
section
open Go.RowKit
/-- Bytes that came in, below block B. -/
def In (w : World) (B : Nat) (A : Option Addr) (c : Nat) (xs : List UInt8) : Prop := xs.length ≤ c ∧ c ≤ 9223372036854775807 ∧ (0 < xs.length → ∃ gb ob, A = some ⟨gb, ob, none⟩ ∧ gb < B ∧ Bytes w gb ob xs)
theorem In.src {w : World} {B g : Nat} {A : Option Addr} {c : Nat} {xs : List UInt8} (h : In w B A c xs) (hg : B ≤ g) : Src w g A xs := fun h0 => by
  obtain ⟨gb, ob, e, hb, hby⟩ := h.2.2 h0
  exact ⟨gb, ob, e, by omega, hby⟩
theorem In.below {w w' : World} {B : Nat} {A : Option Addr} {c : Nat} {xs : List UInt8} (h : In w B A c xs) (hb : Below B w w') : In w' B A c xs :=
  ⟨h.1, h.2.1, fun h0 => by
    obtain ⟨gb, ob, e, hl, hby⟩ := h.2.2 h0
    exact ⟨gb, ob, e, hl, hby.below hb hl⟩⟩
theorem In.take {w : World} {B : Nat} {A : Option Addr} {c : Nat} {xs : List UInt8} (h : In w B A c xs) (k : Nat) : In w B A c (xs.take k) :=
  ⟨by have := h.1; rw [List.length_take]; omega, h.2.1, fun h0 => by
    obtain ⟨gb, ob, e, hl, hby⟩ := h.2.2 (by rw [List.length_take] at h0; omega)
    exact ⟨gb, ob, e, hl, hby.take k⟩⟩
theorem Src.alloc {w : World} {g : Nat} {A : Option Addr} {xs : List UInt8} (h : Src w g A xs) (o : Obj) : Src (w.alloc o) g A xs := h.keep (grown_alloc (grown_refl _ _) _)

theorem parts1 {w : World} {B g : Nat} {A : Option Addr} {c : Nat} {b : List UInt8} (t : TypeId) (h : In w B A c b) (hg : g ≠ w.heap.size) (hB : B ≤ g) :
    Parts (w.alloc (.cells #[.slice A b.length c] t)) g (some ⟨w.heap.size, 0, none⟩) [b] := fun _ =>
  ⟨w.heap.size, 0, rfl, by omega, fun j hj => by
    have hC := Blk.new_of w t #[.slice A b.length c] _ rfl
    obtain rfl : j = 0 := by have : j < 1 := hj; omega
    exact ⟨A, c, hC.cell 0, h.1, h.2.1, (h.src hB).alloc _⟩⟩
theorem parts2 {w : World} {B g : Nat} {A A' : Option Addr} {c c' : Nat} {b b' : List UInt8} (t : TypeId) (h : In w B A c b) (h' : In w B A' c' b') (hg : g ≠ w.heap.size) (hB : B ≤ g) :
    Parts (w.alloc (.cells #[.slice A b.length c, .slice A' b'.length c'] t)) g (some ⟨w.heap.size, 0, none⟩) [b, b'] := fun _ =>
  ⟨w.heap.size, 0, rfl, by omega, fun j hj => by
    have hC := Blk.new_of w t #[.slice A b.length c, .slice A' b'.length c'] _ rfl
    obtain rfl | rfl : j = 0 ∨ j = 1 := by have : j < 2 := hj; omega
    · exact ⟨A, c, hC.cell 0, h.1, h.2.1, (h.src hB).alloc _⟩
    · exact ⟨A', c', hC.cell 1, h'.1, h'.2.1, (h'.src hB).alloc _⟩⟩
theorem parts3 {w : World} {B g : Nat} {A A' A'' : Option Addr} {c c' c'' : Nat} {b b' b'' : List UInt8} (t : TypeId) (h : In w B A c b) (h' : In w B A' c' b') (h'' : In w B A'' c'' b'') (hg : g ≠ w.heap.size) (hB : B ≤ g) :
    Parts (w.alloc (.cells #[.slice A b.length c, .slice A' b'.length c', .slice A'' b''.length c''] t)) g (some ⟨w.heap.size, 0, none⟩) [b, b', b''] := fun _ =>
  ⟨w.heap.size, 0, rfl, by omega, fun j hj => by
    have hC := Blk.new_of w t #[.slice A b.length c, .slice A' b'.length c', .slice A'' b''.length c''] _ rfl
    obtain rfl | rfl | rfl : j = 0 ∨ j = 1 ∨ j = 2 := by have : j < 3 := hj; omega
    · exact ⟨A, c, hC.cell 0, h.1, h.2.1, (h.src hB).alloc _⟩
    · exact ⟨A', c', hC.cell 1, h'.1, h'.2.1, (h'.src hB).alloc _⟩
    · exact ⟨A'', c'', hC.cell 2, h''.1, h''.2.1, (h''.src hB).alloc _⟩⟩
theorem HeldN.lt {w : World} {g : Nat} {t : TypeId} {m : List UInt8} (h : HeldN w g t m) : g < w.heap.size := by
  obtain ⟨_, _, _, hs, _⟩ := h; exact hs.lt
theorem HeldN.below {w w' : World} {g : Nat} {t : TypeId} {m : List UInt8} (h : HeldN w g t m) (hb : Below w.heap.size w w') : HeldN w' g t m := by
  obtain ⟨s, R, hR, hs, hm⟩ := h
  exact ⟨s, R, hR, hs.below hb hs.lt, hm⟩
theorem HeldN.grown {w w' : World} {g g' : Nat} {t : TypeId} {m : List UInt8} (h : HeldN w g t m) (hb : w.grownBy w' (some g')) (hne : g ≠ g') : HeldN w' g t m := by
  obtain ⟨s, R, hR, hs, hm⟩ := h
  exact ⟨s, R, hR, hs.grown hb (by simpa using hne), hm⟩
theorem HeldN.alloc {w : World} {g : Nat} {t : TypeId} {m : List UInt8} (h : HeldN w g t m) (o : Obj) : HeldN (w.alloc o) g t m := h.below ((Below.refl _ _).alloc (Nat.le_refl _) _)

theorem size8 (w : World) : (sizeOf 5).run Tryd.prog w = .ok 1 w := by
  obtain ⟨i, hi, hz, hs, hb⟩ := info_parts infoB
  simp [sizeOf, typeInfo, hi, hs]
end
end Go.Proofs.YtbomckbekcaemaaDoor
