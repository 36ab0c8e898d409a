/-
  Sha.
-/
import Derived.WalkKit
import Derived.WalkSpells
import Derived.WalkLawsBesides
import Derived.Lib.Hide
namespace Go.Proofs.YtnkikhnllnbhfaaDoor
open Go.RowKit
abbrev U32 (x : UInt32) : Value := .int .u32 (x.toNat : Int)
abbrev B8 (x : UInt8) : Value := .int .u8 (x.toNat : Int)

theorem u32_lt (x : UInt32) : x.toNat < 4294967296 := by have := x.toNat_lt; omega
theorem u8_lt (x : UInt8) : x.toNat < 256 := by have := x.toNat_lt; omega

theorem w_xor (a b : UInt32) : bits .xor .u32 (a.toNat : Int) (b.toNat : Int) = ((a ^^^ b).toNat : Int) := by
  rw [u32_xor_nat _ _ (u32_lt a) (u32_lt b), UInt32.toNat_xor]
theorem w_and (a b : UInt32) : bits .and .u32 (a.toNat : Int) (b.toNat : Int) = ((a &&& b).toNat : Int) := by
  rw [u32_and_nat _ _ (u32_lt a) (u32_lt b), UInt32.toNat_and]
theorem w_or (a b : UInt32) : bits .or .u32 (a.toNat : Int) (b.toNat : Int) = ((a ||| b).toNat : Int) := by
  rw [u32_or_nat _ _ (u32_lt a) (u32_lt b), UInt32.toNat_or]
theorem w_add (a b : UInt32) : ((a.toNat : Int) + (b.toNat : Int)) % 4294967296 = ((a + b).toNat : Int) := by
  rw [UInt32.toNat_add]; omega
theorem w_add3 (a b c : UInt32) : ((a.toNat : Int) + (b.toNat : Int) + (c.toNat : Int)) % 4294967296 = ((a + b + c).toNat : Int) := by
  rw [UInt32.toNat_add, UInt32.toNat_add]; omega
theorem w_add4 (a b c d : UInt32) : ((a.toNat : Int) + (b.toNat : Int) + (c.toNat : Int) + (d.toNat : Int)) % 4294967296 = ((a + b + c + d).toNat : Int) := by
  rw [UInt32.toNat_add, UInt32.toNat_add, UInt32.toNat_add]; omega
theorem w_add5 (a b c d e : UInt32) : ((a.toNat : Int) + (b.toNat : Int) + (c.toNat : Int) + (d.toNat : Int) + (e.toNat : Int)) % 4294967296 = ((a + b + c + d + e).toNat : Int) := by
  rw [UInt32.toNat_add, UInt32.toNat_add, UInt32.toNat_add, UInt32.toNat_add]; omega
theorem w_shl (a : UInt32) (n : Nat) (hn : n < 32) : ((a.toNat : Int) * 2 ^ n) % 4294967296 = ((a <<< UInt32.ofNat n).toNat : Int) := by
  rw [UInt32.toNat_shiftLeft, UInt32.toNat_ofNat_of_lt' (by simp [UInt32.size]; omega), Nat.mod_eq_of_lt hn, Nat.shiftLeft_eq]
  simp
theorem w_shr (a : UInt32) (n : Nat) (hn : n < 32) : (a.toNat : Int) / 2 ^ n = ((a >>> UInt32.ofNat n).toNat : Int) := by
  rw [UInt32.toNat_shiftRight, UInt32.toNat_ofNat_of_lt' (by simp [UInt32.size]; omega), Nat.mod_eq_of_lt hn, Nat.shiftRight_eq_div_pow]
  simp

/-- A word turned to the right by n bits. -/
def rotr (n : Nat) (x : UInt32) : UInt32 := (x <<< UInt32.ofNat (32 - n)) ||| (x >>> UInt32.ofNat n)
/-- A word turned to the left by n bits. -/
def rotl (n : Nat) (x : UInt32) : UInt32 := (x <<< UInt32.ofNat n) ||| (x >>> UInt32.ofNat (32 - n))

theorem rotr_flip (n : Nat) (x : UInt32) : (x >>> UInt32.ofNat n) ||| (x <<< UInt32.ofNat (32 - n)) = rotr n x := by
  unfold rotr; rw [UInt32.or_comm]
theorem rotl_rotr (n : Nat) (hn : n ≤ 32) (x : UInt32) : rotl (32 - n) x = rotr n x := by
  unfold rotr rotl; rw [show 32 - (32 - n) = n by omega]

theorem u8_u32 (b : UInt8) : (b.toNat : Int) = ((b.toUInt32).toNat : Int) := by simp

/-- The word that stands at place i of a block, the highest byte first. -/
def beWord (b : List UInt8) (i : Nat) : UInt32 :=
  ((b.getD (4 * i) 0).toUInt32 <<< 24) ||| ((b.getD (4 * i + 1) 0).toUInt32 <<< 16) ||| ((b.getD (4 * i + 2) 0).toUInt32 <<< 8) ||| (b.getD (4 * i + 3) 0).toUInt32
def small0 (x : UInt32) : UInt32 := rotr 7 x ^^^ rotr 18 x ^^^ (x >>> 3)
def small1 (y : UInt32) : UInt32 := rotr 17 y ^^^ rotr 19 y ^^^ (y >>> 10)
/-- The schedule of a block after i of its 64 words. -/
def schedTo (b : List UInt8) : Nat → List UInt32
  | 0 => List.replicate 64 0
  | i + 1 =>
    let L := schedTo b i
    L.set i (if i < 16 then beWord b i else L.getD (i - 16) 0 + small0 (L.getD (i - 15) 0) + L.getD (i - 7) 0 + small1 (L.getD (i - 2) 0))
theorem schedTo_length (b : List UInt8) (i : Nat) : (schedTo b i).length = 64 := by
  induction i with
  | zero => simp [schedTo]
  | succ i ih => simp [schedTo, ih]
theorem schedTo_low (b : List UInt8) (i : Nat) (h : i < 16) : schedTo b (i + 1) = (schedTo b i).set i (beWord b i) := by
  simp [schedTo, h]
theorem schedTo_high (b : List UInt8) (i : Nat) (h : ¬ i < 16) : schedTo b (i + 1) = (schedTo b i).set i ((schedTo b i).getD (i - 16) 0 + small0 ((schedTo b i).getD (i - 15) 0) + (schedTo b i).getD (i - 7) 0 + small1 ((schedTo b i).getD (i - 2) 0)) := by
  simp [schedTo, h]

theorem w_shl24 (x : UInt32) : ((x.toNat : Int) * (16777216 : Int)) % (4294967296 : Int) = ((x <<< 24).toNat : Int) := w_shl x 24 (by decide)
theorem w_shl16 (x : UInt32) : ((x.toNat : Int) * (65536 : Int)) % (4294967296 : Int) = ((x <<< 16).toNat : Int) := w_shl x 16 (by decide)
theorem w_shl8 (x : UInt32) : ((x.toNat : Int) * (256 : Int)) % (4294967296 : Int) = ((x <<< 8).toNat : Int) := w_shl x 8 (by decide)
theorem w_shr3 (x : UInt32) : (x.toNat : Int) / (8 : Int) = ((x >>> 3).toNat : Int) := w_shr x 3 (by decide)
theorem w_shr10 (x : UInt32) : (x.toNat : Int) / (1024 : Int) = ((x >>> 10).toNat : Int) := w_shr x 10 (by decide)
theorem u8_mod (b : UInt8) : (b.toNat : Int) % (4294967296 : Int) = ((b.toUInt32).toNat : Int) := by
  have := u8_lt b
  rw [← u8_u32]; omega

theorem be_eq (a b c d : UInt8) :
    bits .or .u32 (bits .or .u32 (bits .or .u32 ((a.toNat : Int) % 4294967296 * 16777216 % 4294967296) ((b.toNat : Int) % 4294967296 * 65536 % 4294967296)) ((c.toNat : Int) % 4294967296 * 256 % 4294967296)) ((d.toNat : Int) % 4294967296)
      = (((a.toUInt32 <<< 24) ||| (b.toUInt32 <<< 16) ||| (c.toUInt32 <<< 8) ||| d.toUInt32).toNat : Int) := by
  rw [u8_mod, u8_mod, u8_mod, u8_mod, w_shl24, w_shl16, w_shl8, w_or, w_or, w_or]
theorem beWord_eq (bs : List UInt8) (k : Nat) :
    bits .or .u32 (bits .or .u32 (bits .or .u32 (((bs[4 * k]?.getD 0).toNat : Int) % 4294967296 * 16777216 % 4294967296) (((bs[4 * k + 1]?.getD 0).toNat : Int) % 4294967296 * 65536 % 4294967296)) (((bs[4 * k + 2]?.getD 0).toNat : Int) % 4294967296 * 256 % 4294967296)) (((bs[4 * k + 3]?.getD 0).toNat : Int) % 4294967296)
      = ((beWord bs k).toNat : Int) := by
  rw [be_eq]; simp only [beWord, List.getD_eq_getElem?_getD]
theorem s0_eq (x : UInt32) : bits .xor .u32 (bits .xor .u32 ((rotr 7 x).toNat : Int) ((rotr 18 x).toNat : Int)) ((x.toNat : Int) / 8) = ((small0 x).toNat : Int) := by
  rw [w_shr3, w_xor, w_xor]; rfl
theorem s1_eq (x : UInt32) : bits .xor .u32 (bits .xor .u32 ((rotr 17 x).toNat : Int) ((rotr 19 x).toNat : Int)) ((x.toNat : Int) / 1024) = ((small1 x).toNat : Int) := by
  rw [w_shr10, w_xor, w_xor]; rfl

/-- What the rounds add: the fractions of the cube roots of the first 64 primes. -/
def kTab : List UInt32 := [1116352408, 1899447441, 3049323471, 3921009573, 961987163, 1508970993, 2453635748, 2870763221, 3624381080, 310598401, 607225278, 1426881987, 1925078388, 2162078206, 2614888103, 3248222580, 3835390401, 4022224774, 264347078, 604807628, 770255983, 1249150122, 1555081692, 1996064986, 2554220882, 2821834349, 2952996808, 3210313671, 3336571891, 3584528711, 113926993, 338241895, 666307205, 773529912, 1294757372, 1396182291, 1695183700, 1986661051, 2177026350, 2456956037, 2730485921, 2820302411, 3259730800, 3345764771, 3516065817, 3600352804, 4094571909, 275423344, 430227734, 506948616, 659060556, 883997877, 958139571, 1322822218, 1537002063, 1747873779, 1955562222, 2024104815, 2227730452, 2361852424, 2428436474, 2756734187, 3204031479, 3329325298]
/-- Eight words. -/
structure St where
  a : UInt32
  b : UInt32
  c : UInt32
  d : UInt32
  e : UInt32
  f : UInt32
  g : UInt32
  h : UInt32
/-- The fractions of the square roots of the first eight primes. -/
def first : St := ⟨1779033703, 3144134277, 1013904242, 2773480762, 1359893119, 2600822924, 528734635, 1541459225⟩
def St.words (s : St) : List UInt32 := [s.a, s.b, s.c, s.d, s.e, s.f, s.g, s.h]
def St.vals (s : St) : List Value := [U32 s.a, U32 s.b, U32 s.c, U32 s.d, U32 s.e, U32 s.f, U32 s.g, U32 s.h]
def big1 (e : UInt32) : UInt32 := rotr 6 e ^^^ rotr 11 e ^^^ rotr 25 e
def big0 (a : UInt32) : UInt32 := rotr 2 a ^^^ rotr 13 a ^^^ rotr 22 a
def choice (e f g : UInt32) : UInt32 := (e &&& f) ^^^ (~~~e &&& g)
def majority (a b c : UInt32) : UInt32 := (a &&& b) ^^^ (a &&& c) ^^^ (b &&& c)
/-- One round. -/
def rnd (k w : UInt32) (s : St) : St :=
  let t1 := s.h + big1 s.e + choice s.e s.f s.g + k + w
  ⟨t1 + (big0 s.a + majority s.a s.b s.c), s.a, s.b, s.c, s.d + t1, s.e, s.f, s.g⟩
def rnds (W : List UInt32) : Nat → St → St
  | 0, s => s
  | n + 1, s => rnd (kTab.getD n 0) (W.getD n 0) (rnds W n s)
def addSt (s t : St) : St := ⟨s.a + t.a, s.b + t.b, s.c + t.c, s.d + t.d, s.e + t.e, s.f + t.f, s.g + t.g, s.h + t.h⟩
/-- What a block of 64 bytes makes of the words. -/
def comp (s : St) (b : List UInt8) : St := addSt s (rnds (schedTo b 64) 64 s)

theorem w_not (a : UInt32) : bits .xor .u32 IntKind.u32.max (a.toNat : Int) = ((~~~a).toNat : Int) := by
  have h : IntKind.u32.max = (((4294967295 : UInt32).toNat : Nat) : Int) := by decide
  rw [h, w_xor]
  have e : (4294967295 : UInt32) ^^^ a = ~~~a := by
    have e1 : (4294967295 : UInt32) = -1 := by decide
    rw [e1, UInt32.neg_one_xor]
  rw [e]


end Go.Proofs.YtnkikhnllnbhfaaDoor
