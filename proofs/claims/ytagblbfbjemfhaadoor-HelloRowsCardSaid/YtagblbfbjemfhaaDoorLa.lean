/-
  Joined: Sha, Mem, Fold.
-/
import Derived.WalkKit
import Derived.WalkSpells
import Derived.WalkLawsBesides
import Derived.Lib.Hide
import Derived.Below
import Derived.Laws.OwnMore
import Derived.Deep.Draws
import Derived.Laws.Rows
import Derived.Laws.Tables
import Derived.Laws.CopyOwn
namespace Go.Proofs.YtagblbfbjemfhaaDoor
section
open Go.RowKit
abbrev U32 (x : UInt32) : Value := .int .u32 (x.toNat : Int)
abbrev B8 (x : UInt8) : Value := .int .u8 (x.toNat : Int)

theorem u32_lt (x : UInt32) : x.toNat < 4294967296 := by have := x.toNat_lt; omega
theorem u8_lt (x : UInt8) : x.toNat < 256 := by have := x.toNat_lt; omega

theorem w_xor (a b : UInt32) : bits .xor .u32 (a.toNat : Int) (b.toNat : Int) = ((a ^^^ b).toNat : Int) := by
  rw [u32_xor_nat _ _ (u32_lt a) (u32_lt b), UInt32.toNat_xor]
theorem w_and (a b : UInt32) : bits .and .u32 (a.toNat : Int) (b.toNat : Int) = ((a &&& b).toNat : Int) := by
  rw [u32_and_nat _ _ (u32_lt a) (u32_lt b), UInt32.toNat_and]
theorem w_or (a b : UInt32) : bits .or .u32 (a.toNat : Int) (b.toNat : Int) = ((a ||| b).toNat : Int) := by
  rw [u32_or_nat _ _ (u32_lt a) (u32_lt b), UInt32.toNat_or]
theorem w_add (a b : UInt32) : ((a.toNat : Int) + (b.toNat : Int)) % 4294967296 = ((a + b).toNat : Int) := by
  rw [UInt32.toNat_add]; omega
theorem w_add3 (a b c : UInt32) : ((a.toNat : Int) + (b.toNat : Int) + (c.toNat : Int)) % 4294967296 = ((a + b + c).toNat : Int) := by
  rw [UInt32.toNat_add, UInt32.toNat_add]; omega
theorem w_add4 (a b c d : UInt32) : ((a.toNat : Int) + (b.toNat : Int) + (c.toNat : Int) + (d.toNat : Int)) % 4294967296 = ((a + b + c + d).toNat : Int) := by
  rw [UInt32.toNat_add, UInt32.toNat_add, UInt32.toNat_add]; omega
theorem w_add5 (a b c d e : UInt32) : ((a.toNat : Int) + (b.toNat : Int) + (c.toNat : Int) + (d.toNat : Int) + (e.toNat : Int)) % 4294967296 = ((a + b + c + d + e).toNat : Int) := by
  rw [UInt32.toNat_add, UInt32.toNat_add, UInt32.toNat_add, UInt32.toNat_add]; omega
theorem w_shl (a : UInt32) (n : Nat) (hn : n < 32) : ((a.toNat : Int) * 2 ^ n) % 4294967296 = ((a <<< UInt32.ofNat n).toNat : Int) := by
  rw [UInt32.toNat_shiftLeft, UInt32.toNat_ofNat_of_lt' (by simp [UInt32.size]; omega), Nat.mod_eq_of_lt hn, Nat.shiftLeft_eq]
  simp
theorem w_shr (a : UInt32) (n : Nat) (hn : n < 32) : (a.toNat : Int) / 2 ^ n = ((a >>> UInt32.ofNat n).toNat : Int) := by
  rw [UInt32.toNat_shiftRight, UInt32.toNat_ofNat_of_lt' (by simp [UInt32.size]; omega), Nat.mod_eq_of_lt hn, Nat.shiftRight_eq_div_pow]
  simp

/-- A word turned to the right by n bits. -/
def rotr (n : Nat) (x : UInt32) : UInt32 := (x <<< UInt32.ofNat (32 - n)) ||| (x >>> UInt32.ofNat n)
/-- A word turned to the left by n bits. -/
def rotl (n : Nat) (x : UInt32) : UInt32 := (x <<< UInt32.ofNat n) ||| (x >>> UInt32.ofNat (32 - n))

theorem rotr_flip (n : Nat) (x : UInt32) : (x >>> UInt32.ofNat n) ||| (x <<< UInt32.ofNat (32 - n)) = rotr n x := by
  unfold rotr; rw [UInt32.or_comm]
theorem rotl_rotr (n : Nat) (hn : n ≤ 32) (x : UInt32) : rotl (32 - n) x = rotr n x := by
  unfold rotr rotl; rw [show 32 - (32 - n) = n by omega]

theorem u8_u32 (b : UInt8) : (b.toNat : Int) = ((b.toUInt32).toNat : Int) := by simp

/-- The word that stands at place i of a block, the highest byte first. -/
def beWord (b : List UInt8) (i : Nat) : UInt32 :=
  ((b.getD (4 * i) 0).toUInt32 <<< 24) ||| ((b.getD (4 * i + 1) 0).toUInt32 <<< 16) ||| ((b.getD (4 * i + 2) 0).toUInt32 <<< 8) ||| (b.getD (4 * i + 3) 0).toUInt32
def small0 (x : UInt32) : UInt32 := rotr 7 x ^^^ rotr 18 x ^^^ (x >>> 3)
def small1 (y : UInt32) : UInt32 := rotr 17 y ^^^ rotr 19 y ^^^ (y >>> 10)
/-- The schedule of a block after i of its 64 words. -/
def schedTo (b : List UInt8) : Nat → List UInt32
  | 0 => List.replicate 64 0
  | i + 1 =>
    let L := schedTo b i
    L.set i (if i < 16 then beWord b i else L.getD (i - 16) 0 + small0 (L.getD (i - 15) 0) + L.getD (i - 7) 0 + small1 (L.getD (i - 2) 0))
theorem schedTo_length (b : List UInt8) (i : Nat) : (schedTo b i).length = 64 := by
  induction i with
  | zero => simp [schedTo]
  | succ i ih => simp [schedTo, ih]
theorem schedTo_low (b : List UInt8) (i : Nat) (h : i < 16) : schedTo b (i + 1) = (schedTo b i).set i (beWord b i) := by
  simp [schedTo, h]
theorem schedTo_high (b : List UInt8) (i : Nat) (h : ¬ i < 16) : schedTo b (i + 1) = (schedTo b i).set i ((schedTo b i).getD (i - 16) 0 + small0 ((schedTo b i).getD (i - 15) 0) + (schedTo b i).getD (i - 7) 0 + small1 ((schedTo b i).getD (i - 2) 0)) := by
  simp [schedTo, h]

theorem w_shl24 (x : UInt32) : ((x.toNat : Int) * (16777216 : Int)) % (4294967296 : Int) = ((x <<< 24).toNat : Int) := w_shl x 24 (by decide)
theorem w_shl16 (x : UInt32) : ((x.toNat : Int) * (65536 : Int)) % (4294967296 : Int) = ((x <<< 16).toNat : Int) := w_shl x 16 (by decide)
theorem w_shl8 (x : UInt32) : ((x.toNat : Int) * (256 : Int)) % (4294967296 : Int) = ((x <<< 8).toNat : Int) := w_shl x 8 (by decide)
theorem w_shr3 (x : UInt32) : (x.toNat : Int) / (8 : Int) = ((x >>> 3).toNat : Int) := w_shr x 3 (by decide)
theorem w_shr10 (x : UInt32) : (x.toNat : Int) / (1024 : Int) = ((x >>> 10).toNat : Int) := w_shr x 10 (by decide)
theorem u8_mod (b : UInt8) : (b.toNat : Int) % (4294967296 : Int) = ((b.toUInt32).toNat : Int) := by
  have := u8_lt b
  rw [← u8_u32]; omega

theorem be_eq (a b c d : UInt8) :
    bits .or .u32 (bits .or .u32 (bits .or .u32 ((a.toNat : Int) % 4294967296 * 16777216 % 4294967296) ((b.toNat : Int) % 4294967296 * 65536 % 4294967296)) ((c.toNat : Int) % 4294967296 * 256 % 4294967296)) ((d.toNat : Int) % 4294967296)
      = (((a.toUInt32 <<< 24) ||| (b.toUInt32 <<< 16) ||| (c.toUInt32 <<< 8) ||| d.toUInt32).toNat : Int) := by
  rw [u8_mod, u8_mod, u8_mod, u8_mod, w_shl24, w_shl16, w_shl8, w_or, w_or, w_or]
theorem beWord_eq (bs : List UInt8) (k : Nat) :
    bits .or .u32 (bits .or .u32 (bits .or .u32 (((bs[4 * k]?.getD 0).toNat : Int) % 4294967296 * 16777216 % 4294967296) (((bs[4 * k + 1]?.getD 0).toNat : Int) % 4294967296 * 65536 % 4294967296)) (((bs[4 * k + 2]?.getD 0).toNat : Int) % 4294967296 * 256 % 4294967296)) (((bs[4 * k + 3]?.getD 0).toNat : Int) % 4294967296)
      = ((beWord bs k).toNat : Int) := by
  rw [be_eq]; simp only [beWord, List.getD_eq_getElem?_getD]
theorem s0_eq (x : UInt32) : bits .xor .u32 (bits .xor .u32 ((rotr 7 x).toNat : Int) ((rotr 18 x).toNat : Int)) ((x.toNat : Int) / 8) = ((small0 x).toNat : Int) := by
  rw [w_shr3, w_xor, w_xor]; rfl
theorem s1_eq (x : UInt32) : bits .xor .u32 (bits .xor .u32 ((rotr 17 x).toNat : Int) ((rotr 19 x).toNat : Int)) ((x.toNat : Int) / 1024) = ((small1 x).toNat : Int) := by
  rw [w_shr10, w_xor, w_xor]; rfl

/-- What the rounds add: the fractions of the cube roots of the first 64 primes. -/
def kTab : List UInt32 := [1116352408, 1899447441, 3049323471, 3921009573, 961987163, 1508970993, 2453635748, 2870763221, 3624381080, 310598401, 607225278, 1426881987, 1925078388, 2162078206, 2614888103, 3248222580, 3835390401, 4022224774, 264347078, 604807628, 770255983, 1249150122, 1555081692, 1996064986, 2554220882, 2821834349, 2952996808, 3210313671, 3336571891, 3584528711, 113926993, 338241895, 666307205, 773529912, 1294757372, 1396182291, 1695183700, 1986661051, 2177026350, 2456956037, 2730485921, 2820302411, 3259730800, 3345764771, 3516065817, 3600352804, 4094571909, 275423344, 430227734, 506948616, 659060556, 883997877, 958139571, 1322822218, 1537002063, 1747873779, 1955562222, 2024104815, 2227730452, 2361852424, 2428436474, 2756734187, 3204031479, 3329325298]
/-- Eight words. -/
structure St where
  a : UInt32
  b : UInt32
  c : UInt32
  d : UInt32
  e : UInt32
  f : UInt32
  g : UInt32
  h : UInt32
/-- The fractions of the square roots of the first eight primes. -/
def first : St := ⟨1779033703, 3144134277, 1013904242, 2773480762, 1359893119, 2600822924, 528734635, 1541459225⟩
def St.words (s : St) : List UInt32 := [s.a, s.b, s.c, s.d, s.e, s.f, s.g, s.h]
def St.vals (s : St) : List Value := [U32 s.a, U32 s.b, U32 s.c, U32 s.d, U32 s.e, U32 s.f, U32 s.g, U32 s.h]
def big1 (e : UInt32) : UInt32 := rotr 6 e ^^^ rotr 11 e ^^^ rotr 25 e
def big0 (a : UInt32) : UInt32 := rotr 2 a ^^^ rotr 13 a ^^^ rotr 22 a
def choice (e f g : UInt32) : UInt32 := (e &&& f) ^^^ (~~~e &&& g)
def majority (a b c : UInt32) : UInt32 := (a &&& b) ^^^ (a &&& c) ^^^ (b &&& c)
/-- One round. -/
def rnd (k w : UInt32) (s : St) : St :=
  let t1 := s.h + big1 s.e + choice s.e s.f s.g + k + w
  ⟨t1 + (big0 s.a + majority s.a s.b s.c), s.a, s.b, s.c, s.d + t1, s.e, s.f, s.g⟩
def rnds (W : List UInt32) : Nat → St → St
  | 0, s => s
  | n + 1, s => rnd (kTab.getD n 0) (W.getD n 0) (rnds W n s)
def addSt (s t : St) : St := ⟨s.a + t.a, s.b + t.b, s.c + t.c, s.d + t.d, s.e + t.e, s.f + t.f, s.g + t.g, s.h + t.h⟩
/-- What a block of 64 bytes makes of the words. -/
def comp (s : St) (b : List UInt8) : St := addSt s (rnds (schedTo b 64) 64 s)

theorem w_not (a : UInt32) : bits .xor .u32 IntKind.u32.max (a.toNat : Int) = ((~~~a).toNat : Int) := by
  have h : IntKind.u32.max = (((4294967295 : UInt32).toNat : Nat) : Int) := by decide
  rw [h, w_xor]
  have e : (4294967295 : UInt32) ^^^ a = ~~~a := by
    have e1 : (4294967295 : UInt32) = -1 := by decide
    rw [e1, UInt32.neg_one_xor]
  rw [e]


end
section
open Go.RowKit
def Blk (w : World) (g : Nat) (t : TypeId) (cs : List Value) : Prop := w.heap[g]? = some (.cells cs.toArray t (0, 0))

section
variable {w w' : World} {g : Nat} {t : TypeId} {cs : List Value}
theorem Blk.lt (h : Blk w g t cs) : g < w.heap.size := by
  rcases Nat.lt_or_ge g w.heap.size with hlt | hge
  · exact hlt
  · unfold Blk at h; rw [Array.getElem?_eq_none hge] at h; cases h
theorem Blk.cell (h : Blk w g t cs) (i : Nat) : w.cell? ⟨g, i, none⟩ = cs[i]? := by
  rw [cell_of_row w g i cs.toArray t (0, 0) h]; simp
theorem Blk.cellD (h : Blk w g t cs) (i : Nat) (d : Value) (hi : i < cs.length) : w.cell? ⟨g, i, none⟩ = some (cs.getD i d) := by
  rw [h.cell, List.getD_eq_getElem?_getD, List.getElem?_eq_getElem hi]; rfl
theorem Blk.frozen (h : Blk w g t cs) (i : Nat) : w.frozen? ⟨g, i, none⟩ = false := by
  unfold Blk at h
  simp [World.frozen?, h]
theorem Blk.new (w : World) (t : TypeId) (cs : List Value) : Blk (w.alloc (.cells cs.toArray t)) w.heap.size t cs := heap_alloc_new w _
theorem Blk.new_of (w : World) (t : TypeId) (arr : Array Value) (cs : List Value) (h : arr = cs.toArray) : Blk (w.alloc (.cells arr t)) w.heap.size t cs := by subst h; exact heap_alloc_new w _
theorem Blk.new2_of (w : World) (A : Obj) (t : TypeId) (arr : Array Value) (cs : List Value) (h : arr = cs.toArray) : Blk ((w.alloc A).alloc (.cells arr t)) (w.heap.size + 1) t cs := by subst h; exact heap_alloc2_new w A _
theorem Blk.raw (h : Blk w g t cs) : w.heap[g]? = some (.cells cs.toArray t (0, 0)) := h
theorem Blk.row (h : Blk w g t cs) (ds : List Value) : Blk (w.setRow g ds.toArray) g t ds := setRow_heap w g cs.toArray ds.toArray t (0, 0) h
theorem Blk.drew (h : Blk w g t cs) : Blk w.drew g t cs := h
theorem Blk.drewN (h : Blk w g t cs) (n : Nat) : Blk (w.drewN n) g t cs := h
theorem Blk.alloc (h : Blk w g t cs) (o : Obj) : Blk (w.alloc o) g t cs := (Below.heap_alloc w o g h.lt).trans h
theorem Blk.set_ (h : Blk w g t cs) (i : Nat) (u : Value) : Blk (w.setCell ⟨g, i, none⟩ u) g t (cs.set i u) := by
  unfold Blk at h ⊢
  simp [World.setCell, Array.getElem?_modify, h]
theorem Blk.far (h : Blk w g t cs) {p : Addr} (hp : g ≠ p.block) (u : Value) : Blk (w.setCell p u) g t cs := (Below.heap_setCell w p u g hp).trans h
theorem Blk.below {B : Nat} (h : Blk w g t cs) (hb : Below B w w') (hg : g < B) : Blk w' g t cs := (hb.block g hg).trans h
theorem Blk.grown {row : Option Nat} (h : Blk w g t cs) (hb : w.grownBy w' row) (hg : some g ≠ row) : Blk w' g t cs := (hb.block g h.lt hg).trans h
end
theorem new_cell (w : World) (t : TypeId) (u : Value) : (w.alloc (.cells #[u] t)).cell? ⟨w.heap.size, 0, none⟩ = some u := (Blk.new_of w t #[u] [u] rfl).cell 0
theorem block_of_add (a : Addr) (n : Nat) : (a.add n).block = a.block := by unfold Addr.add; split <;> rfl
theorem add_of_add (a : Addr) (i j : Nat) : (a.add i).add j = a.add (i + j) := by
  unfold Addr.add
  by_cases hi : i = 0 <;> by_cases hj : j = 0 <;> simp [hi, hj, Nat.add_assoc]
theorem add_row (g o n : Nat) : (⟨g, o, none⟩ : Addr).add n = ⟨g, o + n, none⟩ := by
  unfold Addr.add; split <;> simp_all

/-- The cells of block g from place o on hold these bytes. -/
def Bytes (w : World) (g o : Nat) (bs : List UInt8) : Prop := ∀ j, j < bs.length → w.cell? ⟨g, o + j, none⟩ = some (.int .u8 (bs.getD j 0).toNat)
theorem Bytes.below {w w' : World} {g o B : Nat} {bs : List UInt8} (h : Bytes w g o bs) (hb : Below B w w') (hg : g < B) : Bytes w' g o bs :=
  fun j hj => (hb.cell (p := ⟨g, o + j, none⟩) hg).trans (h j hj)
theorem Bytes.drew {w : World} {g o : Nat} {bs : List UInt8} (h : Bytes w g o bs) : Bytes w.drew g o bs := h
theorem Bytes.drewN {w : World} {g o : Nat} {bs : List UInt8} (h : Bytes w g o bs) (n : Nat) : Bytes (w.drewN n) g o bs := h
theorem Bytes.lt {w : World} {g o : Nat} {bs : List UInt8} (h : Bytes w g o bs) (h0 : 0 < bs.length) : g < w.heap.size := block_lt_of_cell (h 0 h0)

theorem getD_map32 (L : List UInt32) (i : Nat) (h : i < L.length) : (L.map U32)[i]? = some (U32 (L.getD i 0)) := by
  simp [List.getElem?_map, List.getD_eq_getElem?_getD, List.getElem?_eq_getElem h]
theorem getD_map8 (L : List UInt8) (i : Nat) (h : i < L.length) : (L.map B8)[i]? = some (B8 (L.getD i 0)) := by
  simp [List.getElem?_map, List.getD_eq_getElem?_getD, List.getElem?_eq_getElem h]
theorem one32 (L : List UInt32) : (L.map U32).toArray.all (·.oneCell') = true := by
  rw [Array.all_eq_true_iff_forall_mem]; intro v hv; simp at hv; obtain ⟨x, _, rfl⟩ := hv; rfl
theorem one8 (L : List UInt8) : (L.map B8).toArray.all (·.oneCell') = true := by
  rw [Array.all_eq_true_iff_forall_mem]; intro v hv; simp at hv; obtain ⟨x, _, rfl⟩ := hv; rfl
theorem below_drewN {B : Nat} {a w : World} (h : Below B a w) (n : Nat) : Below B a (w.drewN n) := ⟨h.os, h.tape, h.output, h.size, h.block⟩
theorem below_setRow' {B g : Nat} {w0 w : World} (hb : Below B w0 w) (hBg : B ≤ g) (cs : Array Value) : Below B w0 (w.setRow g cs) :=
  hb.trans ⟨rfl, rfl, rfl, by simp [World.setRow], fun k hk => setRow_other w g k cs (by omega)⟩
theorem map_set32 (L : List UInt32) (i : Nat) (x : UInt32) : (L.map U32).set i (U32 x) = (L.set i x).map U32 := by
  rw [List.map_set]
theorem map_set8 (L : List UInt8) (i : Nat) (x : UInt8) : (L.map B8).set i (B8 x) = (L.set i x).map B8 := by
  rw [List.map_set]
theorem Blk.at32 {w : World} {g : Nat} {t : TypeId} {L : List UInt32} (h : Blk w g t (L.map U32)) (i : Nat) (hi : i < L.length) : w.cell? ⟨g, i, none⟩ = some (.int .u32 (L.getD i 0).toNat) :=
  (h.cell i).trans (getD_map32 L i hi)
theorem Blk.at8 {w : World} {g : Nat} {t : TypeId} {L : List UInt8} (h : Blk w g t (L.map B8)) (i : Nat) (hi : i < L.length) : w.cell? ⟨g, i, none⟩ = some (.int .u8 (L.getD i 0).toNat) :=
  (h.cell i).trans (getD_map8 L i hi)

theorem grown_setRow (w : World) (g : Nat) (cs : Array Value) : w.grownBy (w.setRow g cs) (some g) :=
  ⟨rfl, rfl, rfl, by simp [World.setRow], fun k _ hk => setRow_other w g k cs (fun e => hk (by rw [e]))⟩
theorem grown_refl (w : World) (r : Option Nat) : w.grownBy w r := ⟨rfl, rfl, rfl, Nat.le_refl _, fun _ _ _ => rfl⟩
theorem grown_trans {a b c : World} {r : Option Nat} (h : a.grownBy b r) (k : b.grownBy c r) : a.grownBy c r :=
  ⟨k.os.trans h.os, k.tape.trans h.tape, k.output.trans h.output, Nat.le_trans h.size k.size, fun i hi hn => (k.block i (Nat.lt_of_lt_of_le hi h.size) hn).trans (h.block i hi hn)⟩
theorem grown_of_below {a w : World} (h : Below a.heap.size a w) (r : Option Nat) : a.grownBy w r := ⟨h.os, h.tape, h.output, h.size, fun i hi _ => h.block i hi⟩
theorem grown_below {B g : Nat} {a w : World} (h : a.grownBy w (some g)) (hB : B ≤ g) (hs : B ≤ a.heap.size) : Below B a w :=
  ⟨h.os, h.tape, h.output, h.size, fun i hi => h.block i (by omega) (by simp; omega)⟩
theorem grown_drewN {a w : World} {r : Option Nat} (h : a.grownBy w r) (n : Nat) : a.grownBy (w.drewN n) r := ⟨h.os, h.tape, h.output, h.size, h.block⟩
theorem grown_drew {a w : World} {r : Option Nat} (h : a.grownBy w r) : a.grownBy w.drew r := ⟨h.os, h.tape, h.output, h.size, h.block⟩
theorem grown_from_drew {a w : World} {r : Option Nat} (h : a.drew.grownBy w r) : a.grownBy w r := ⟨h.os, h.tape, h.output, h.size, h.block⟩
theorem grown_from_drewN {a w : World} {r : Option Nat} {n : Nat} (h : (a.drewN n).grownBy w r) : a.grownBy w r := ⟨h.os, h.tape, h.output, h.size, h.block⟩
theorem grown_alloc {a w : World} {r : Option Nat} (h : a.grownBy w r) (o : Obj) : a.grownBy (w.alloc o) r :=
  ⟨h.os, h.tape, h.output, Nat.le_trans h.size (by simp), fun i hi hne => (Below.heap_alloc w o i (Nat.lt_of_lt_of_le hi h.size)).trans (h.block i hi hne)⟩
theorem grown_setCell {a w : World} {g : Nat} (h : a.grownBy w (some g)) {p : Addr} (hp : p.block = g ∨ a.heap.size ≤ p.block) (u : Value) : a.grownBy (w.setCell p u) (some g) :=
  ⟨h.os, h.tape, h.output, by simpa [World.setCell] using h.size, fun i hi hne => (Below.heap_setCell w p u i (by
    rintro rfl
    rcases hp with hp | hp
    · exact hne (by rw [hp])
    · omega)).trans (h.block i hi hne)⟩
/-- What is a block of the call's own may be written besides: the frame is the same. -/
theorem grown_new {a b c : World} {g g' : Nat} (h : a.grownBy b (some g)) (k : b.grownBy c (some g')) (hg : a.heap.size ≤ g') : a.grownBy c (some g) :=
  ⟨k.os.trans h.os, k.tape.trans h.tape, k.output.trans h.output, Nat.le_trans h.size k.size, fun i hi hn => (k.block i (Nat.lt_of_lt_of_le hi h.size) (by simp; omega)).trans (h.block i hi hn)⟩
theorem below_new {B : Nat} {a b c : World} {g' : Nat} (h : Below B a b) (k : b.grownBy c (some g')) (hg : B ≤ g') (hB : B ≤ b.heap.size) : Below B a c :=
  h.trans (grown_below k hg hB)

/-- A whole row goes into a block that is known. -/
theorem wpList_store_blk {P : Program} {ops : Array Oper} {rest : List Oper} {o : Oper} {a : Act} {w : World} {Q : Exit → Act → World → Prop} (hgd : o.guard = none) (ty : TypeId) (x y : Operand) (ho : o.op = .store ty x y) (hd : o.dst = none)
    (g : Nat) (cells : List Value) (hx : a.eval x = .pointer (some ⟨g, 0, none⟩)) (hy : a.eval y = .agg cells.toArray)
    (t : TypeId) (old : List Value) (hg : Blk w g t old) (hi : (P.info? ty).map (·.size) = some cells.length)
    (hold : old.length = cells.length) (h1 : cells.toArray.all (·.oneCell') = true)
    (h : ∀ w', Blk w' g t cells → w.grownBy w' (some g) → wpList P ops Q rest a w') : wpList P ops Q (o :: rest) a w :=
  wpList_store_row hgd ty x y ho g cells.toArray hx hy t old.toArray hg (by simpa using hi) (by simpa using hold) h1 (by rw [hd]; exact h _ (hg.row _) (grown_setRow _ _ _))
/-- A whole row is read out of a block that is known. -/
theorem wpList_load_blk {P : Program} {ops : Array Oper} {rest : List Oper} {o : Oper} {a : Act} {w : World} {Q : Exit → Act → World → Prop} (hgd : o.guard = none) (ty : TypeId) (x : Operand) (ho : o.op = .load ty x)
    (g : Nat) (hx : a.eval x = .pointer (some ⟨g, 0, none⟩)) (t : TypeId) (cs : List Value) (d : TypeDesc) (hg : Blk w g t cs)
    (hu : P.underlying ty = some d) (hd : (match d with | .struct _ | .array _ _ => true | _ => false) = true) (hi : (P.info? ty).map (·.size) = some cs.length)
    (h : wpList P ops Q rest (a.put o.dst (.agg cs.toArray)) w) : wpList P ops Q (o :: rest) a w :=
  wpList_load_row hgd ty x ho g hx t cs.toArray (0, 0) d hg hu hd (by simpa using hi) h


end
section
open Go.RowKit
def foldB : Nat → St → List UInt8 → St
  | 0, s, _ => s
  | n + 1, s, m => foldB n (comp s (m.take 64)) (m.drop 64)
/-- What the whole blocks of m make of the words s. -/
def blocks (s : St) (m : List UInt8) : St := foldB (m.length / 64) s m
/-- What is left of m behind its whole blocks. -/
def left (m : List UInt8) : List UInt8 := m.drop (m.length / 64 * 64)

theorem blocks_short (s : St) (m : List UInt8) (h : m.length < 64) : blocks s m = s := by
  unfold blocks; rw [show m.length / 64 = 0 by omega]; rfl
theorem left_short (m : List UInt8) (h : m.length < 64) : left m = m := by
  unfold left; rw [show m.length / 64 = 0 by omega]; simp
theorem blocks_step (s : St) (m : List UInt8) (h : 64 ≤ m.length) : blocks s m = blocks (comp s (m.take 64)) (m.drop 64) := by
  unfold blocks
  rw [show m.length / 64 = (m.drop 64).length / 64 + 1 by simp; omega]
  rfl
theorem left_step (m : List UInt8) (h : 64 ≤ m.length) : left m = left (m.drop 64) := by
  unfold left
  rw [List.drop_drop, List.length_drop]
  congr 1; omega
theorem left_length (m : List UInt8) : (left m).length = m.length % 64 := by
  unfold left; rw [List.length_drop]; omega

theorem foldB_append (n : Nat) : ∀ (s : St) (x y : List UInt8), x.length = n * 64 → foldB (n + y.length / 64) s (x ++ y) = foldB (y.length / 64) (foldB n s x) y := by
  induction n with
  | zero =>
    intro s x y h
    have hx : x = [] := List.eq_nil_of_length_eq_zero (by omega)
    subst hx; simp [foldB]
  | succ n ih =>
    intro s x y h
    rw [show n + 1 + y.length / 64 = (n + y.length / 64) + 1 by omega]
    show foldB (n + y.length / 64) (comp s ((x ++ y).take 64)) ((x ++ y).drop 64) = foldB (y.length / 64) (foldB n (comp s (x.take 64)) (x.drop 64)) y
    rw [List.take_append_of_le_length (by omega), List.drop_append_of_le_length (by omega)]
    exact ih _ _ _ (by rw [List.length_drop]; omega)
/-- More bytes: the whole blocks of what was left and of the new ones go on from the words so far. -/
theorem blocks_append (s : St) (m b : List UInt8) : blocks s (m ++ b) = blocks (blocks s m) (left m ++ b) := by
  have e : m ++ b = m.take (m.length / 64 * 64) ++ (left m ++ b) := by
    unfold left; rw [← List.append_assoc, List.take_append_drop]
  have h1 : (m.take (m.length / 64 * 64)).length = m.length / 64 * 64 := by rw [List.length_take]; omega
  have h2 : blocks s m = foldB (m.length / 64) s (m.take (m.length / 64 * 64)) := by
    have h := foldB_append (m.length / 64) s (m.take (m.length / 64 * 64)) (left m) h1
    rw [left_length, show m.length % 64 / 64 = 0 by omega] at h
    unfold left at h
    rw [List.take_append_drop] at h
    unfold blocks
    simpa [foldB] using h
  have h3 := foldB_append (m.length / 64) s (m.take (m.length / 64 * 64)) (left m ++ b) h1
  rw [← e] at h3
  have h4 : (m ++ b).length / 64 = m.length / 64 + (left m ++ b).length / 64 := by
    rw [List.length_append, List.length_append, left_length]; omega
  rw [h2]
  unfold blocks
  rw [h4, h3]
theorem left_append (m b : List UInt8) : left (m ++ b) = left (left m ++ b) := by
  have h4 : (m ++ b).length / 64 = m.length / 64 + (left m ++ b).length / 64 := by
    rw [List.length_append, List.length_append, left_length]; omega
  have e : left m ++ b = (m ++ b).drop (m.length / 64 * 64) := by
    unfold left; rw [List.drop_append_of_le_length (by omega)]
  show (m ++ b).drop ((m ++ b).length / 64 * 64) = (left m ++ b).drop ((left m ++ b).length / 64 * 64)
  rw [h4]
  conv => rhs; rw [e, List.drop_drop]
  congr 1
  rw [← e]; omega

/-- How a state lies in its block: eight words, 64 bytes, the size. -/
def stCells (s : St) (R : List UInt8) (n : Nat) : List Value := s.vals ++ (R.map B8 ++ [.int .u64 (n : Int)])
theorem stCells_length (s : St) (R : List UInt8) (n : Nat) (h : R.length = 64) : (stCells s R n).length = 73 := by
  simp [stCells, St.vals, h]
theorem stCells_72 (s : St) (R : List UInt8) (n : Nat) (h : R.length = 64) : (stCells s R n)[72]? = some (.int .u64 (n : Int)) := by
  simp [stCells, St.vals, h]
theorem stCells_rest (s : St) (R : List UInt8) (n j : Nat) (hj : j < R.length) : (stCells s R n)[8 + j]? = some (B8 (R.getD j 0)) := by
  have h1 : (stCells s R n)[8 + j]? = (R.map B8 ++ [.int .u64 (n : Int)])[j]? := by
    unfold stCells
    rw [List.getElem?_append_right (by simp [St.vals])]
    simp [St.vals]
  rw [h1, List.getElem?_append_left (by simpa using hj)]
  exact getD_map8 R j hj
theorem stCells_set72 (s : St) (R : List UInt8) (n m : Nat) (h : R.length = 64) : (stCells s R n).set 72 (.int .u64 (m : Int)) = stCells s R m := by
  unfold stCells
  rw [List.set_append_right _ _ (by simp [St.vals])]
  rw [List.set_append_right _ _ (by simp [St.vals, h])]
  simp [St.vals, h]
theorem splice_eq {α : Type} (L : List α) (o : Nat) (cs : List α) : splice L o cs = L.take o ++ (cs ++ L.drop (o + cs.length)) := rfl
theorem stCells_splice (s : St) (R cs : List UInt8) (n h : Nat) (hR : R.length = 64) (hh : h + cs.length ≤ 64) :
    splice (stCells s R n) (8 + h) (cs.map B8) = stCells s (splice R h cs) n := by
  have e1 : (stCells s R n).take (8 + h) = s.vals ++ (R.take h).map B8 := by
    unfold stCells
    rw [List.take_append, List.take_of_length_le (by simp [St.vals]), List.take_append_of_le_length (by simp [St.vals, hR]; omega)]
    simp [St.vals, List.map_take]
  have e2 : (stCells s R n).drop (8 + h + cs.length) = (R.drop (h + cs.length)).map B8 ++ [.int .u64 (n : Int)] := by
    unfold stCells
    rw [List.drop_append, List.drop_eq_nil_of_le (by simp [St.vals]; omega), List.drop_append_of_le_length (by simp [St.vals, hR]; omega)]
    simp [St.vals, List.map_drop, show 8 + h + cs.length - 8 = h + cs.length by omega]
  rw [splice_eq, List.length_map, e1, e2]
  simp [stCells, splice_eq, List.append_assoc]
theorem splice_length {α : Type} (L : List α) (o : Nat) (cs : List α) (h : o + cs.length ≤ L.length) : (splice L o cs).length = L.length := length_splice L o cs h
theorem splice_take {α : Type} (L : List α) (o : Nat) (cs : List α) (h : o ≤ L.length) : (splice L o cs).take (o + cs.length) = L.take o ++ cs := by
  have e : o + cs.length = (L.take o ++ cs).length := by simp; omega
  rw [splice_eq, ← List.append_assoc, e, List.take_left]
theorem splice_nil {α : Type} (L : List α) (o : Nat) : splice L o [] = L := by simp [splice_eq]

/-- Bytes that are handed in, in another block than g: nil and empty rows are let in. -/
def Src (w : World) (g : Nat) (A : Option Addr) (xs : List UInt8) : Prop := 0 < xs.length → ∃ gb ob, A = some ⟨gb, ob, none⟩ ∧ gb ≠ g ∧ Bytes w gb ob xs
theorem Src.keep {w w' : World} {g : Nat} {A : Option Addr} {xs : List UInt8} (h : Src w g A xs) (hg : w.grownBy w' (some g)) : Src w' g A xs := fun h0 => by
  obtain ⟨gb, ob, e, hn, hb⟩ := h h0
  have hlt := hb.lt h0
  exact ⟨gb, ob, e, hn, fun j hj => (World.cell?_of_block (w := w) (a := ⟨gb, ob + j, none⟩) (hg.block gb hlt (by simp; omega))).trans (hb j hj)⟩
theorem Src.drop64 {w : World} {g gb ob : Nat} {xs : List UInt8} (h : Bytes w gb ob xs) (hn : gb ≠ g) (k c : Nat) (hk : k ≤ xs.length) (hc : xs.length ≤ c) :
    Src w g (if c = k then some ⟨gb, ob, none⟩ else some ⟨gb, ob + k, none⟩) (xs.drop k) := fun h0 => by
  rw [List.length_drop] at h0
  refine ⟨gb, ob + k, by rw [if_neg (by omega)], hn, fun j hj => ?_⟩
  rw [List.length_drop] at hj
  have := h (k + j) (by omega)
  rw [Nat.add_assoc, this]
  simp [List.getD_eq_getElem?_getD, List.getElem?_drop]
theorem Bytes.take {w : World} {g o : Nat} {xs : List UInt8} (h : Bytes w g o xs) (k : Nat) : Bytes w g o (xs.take k) := fun j hj => by
  rw [List.length_take] at hj
  rw [h j (by omega)]
  simp [List.getD_eq_getElem?_getD, show j < k by omega]
theorem Blk.rest {w : World} {g : Nat} {t : TypeId} {s : St} {R : List UInt8} {n : Nat} (h : Blk w g t (stCells s R n)) : Bytes w g 8 R := fun j hj => (h.cell (8 + j)).trans (stCells_rest s R n j hj)

theorem Src.cells {w : World} {g : Nat} {A : Option Addr} {ys : List UInt8} {x : Addr} (h : Src w g A ys) :
    0 < (ys.map B8).length → some x = some x ∧ ∃ gb ob, A = some ⟨gb, ob, none⟩ ∧ ∀ j v, (ys.map B8)[j]? = some v → w.cell? ⟨gb, ob + j, none⟩ = some v := fun hp => by
  obtain ⟨gb, ob, rfl, _, hby⟩ := h (by simpa using hp)
  refine ⟨rfl, gb, ob, rfl, fun j v hv => ?_⟩
  have hj : j < ys.length := by have := (List.getElem?_eq_some_iff.1 hv).1; simpa using this
  rw [getD_map8 ys j hj] at hv
  rw [← Option.some.inj hv]
  exact hby j hj
/-- 'copy' into a block that is known, of bytes that lie elsewhere (or in it), nil and empty ones let in: the frame is that block alone. -/
theorem wpList_copy_blk {P : Program} {w : World} {ops : Array Oper} {rest : List Oper} {o : Oper} {a : Act} {Q : Exit → Act → World → Prop} (hgd : o.guard = none) (d s : Operand) (dT sT : TypeId)
    (ho : o.op = .call { callee := .builtin .copy, args := #[d, s], argTypes := #[dT, sT] }) (elem : TypeId) (hu : P.underlying dT = some (.slice elem)) (hsz : (P.info? elem).map (·.size) = some 1)
    (dp sp : Option Addr) (dLen dCap sLen sCap : Nat) (hd : a.eval d = .slice dp dLen dCap) (hs : a.eval s = .slice sp sLen sCap)
    (g off : Nat) (cur : List Value) (t : TypeId) (hg : Blk w g t cur) (cs : List Value) (hn : cs.length = Nat.min sLen dLen)
    (hpos : 0 < cs.length → dp = some ⟨g, off, none⟩ ∧ ∃ gb ob, sp = some ⟨gb, ob, none⟩ ∧ ∀ j v, cs[j]? = some v → w.cell? ⟨gb, ob + j, none⟩ = some v)
    (hfit : off + cs.length ≤ cur.length) (h1 : ∀ v ∈ cs, v.oneCell' = true)
    (h : ∀ w', Blk w' g t (splice cur off cs) → w.grownBy w' (some g) → wpList P ops Q rest (a.put o.dst (goInt cs.length)) w') :
    wpList P ops Q (o :: rest) a w := by
  by_cases h0 : cs.length = 0
  · obtain rfl : cs = [] := List.eq_nil_of_length_eq_zero h0
    refine wpList_copy_nothing hgd d s dT sT ho elem hu hsz dp sp dLen dCap sLen sCap hd hs (by simpa using hn.symm) ?_
    exact h w (by rw [splice_nil]; exact hg) (grown_refl _ _)
  · obtain ⟨rfl, gb, ob, rfl, hsrc⟩ := hpos (by omega)
    refine wpList_copy_own hgd d s dT sT ho elem hu hsz g off dLen dCap ⟨gb, ob, none⟩ sLen sCap hd hs cur.toArray t hg cs hn (fun j v hv => by rw [add_row]; exact hsrc j v hv) (by simpa using hfit) h1 ?_
    refine h _ ?_ (grown_setRow _ _ _)
    have := hg.row (splice cur off cs)
    simpa [splice_eq] using this

/-- Eight bytes, the highest first. -/
def be8 (c : Nat) : List UInt8 := [UInt8.ofNat (c / 72057594037927936), UInt8.ofNat (c / 281474976710656), UInt8.ofNat (c / 1099511627776), UInt8.ofNat (c / 4294967296), UInt8.ofNat (c / 16777216), UInt8.ofNat (c / 65536), UInt8.ofNat (c / 256), UInt8.ofNat c]
/-- What stands behind n bytes: a one bit, noughts, the count of bits. -/
def padB (n : Nat) : List UInt8 := 128 :: List.replicate ((119 - n % 64) % 64) 0 ++ be8 (n * 8)
theorem padB_length (n : Nat) : (padB n).length = 9 + (119 - n % 64) % 64 := by
  simp [padB, be8]; omega
/-- The four bytes of a word, the highest first. -/
def word4 (x : UInt32) : List UInt8 := [(x >>> 24).toUInt8, (x >>> 16).toUInt8, (x >>> 8).toUInt8, x.toUInt8]
def bytesOf (s : St) : List UInt8 := word4 s.a ++ word4 s.b ++ word4 s.c ++ word4 s.d ++ word4 s.e ++ word4 s.f ++ word4 s.g ++ word4 s.h
theorem w_byte (x : UInt32) (n : Nat) (hn : n < 32) : (x.toNat : Int) / 2 ^ n % 256 = (((x >>> UInt32.ofNat n).toUInt8).toNat : Int) := by
  rw [w_shr x n hn]; simp
theorem n_byte (c d : Nat) : (c : Int) / (d : Int) % 256 = ((UInt8.ofNat (c / d)).toNat : Int) := by simp

def lenOf : Value → Nat
  | .slice _ n _ => n
  | _ => 0


end
end Go.Proofs.YtagblbfbjemfhaaDoor
