/-
  The walk of the statement GcmBent.
-/
import Derived.Test.YtefbjhdcmgonbaaMOpen
import Derived.Test.YtefbjhdcmgonbaaGrf
import Derived.Test.YtefbjhdcmgonbaaMTag
import Derived.Test.YtefbjhdcmgonbaaMLet
import Derived.BigQuiet
namespace Go.Proofs.Ytefbjhdcmgonbaa
open Go.RowKit

theorem gmul_xor_left (u v a : BitVec 128) : gmul (u ^^^ v) a = gmul u a ^^^ gmul v a := by
  rw [gmul_comm, gmul_xor, gmul_comm a u, gmul_comm a v]
theorem gmul_zero_left (a : BitVec 128) : gmul 0#128 a = 0#128 := by rw [gmul_comm, gmul_zero]
def gsq (a : BitVec 128) : BitVec 128 := gmul a a
theorem gsq_xor (u v : BitVec 128) : gsq (u ^^^ v) = gsq u ^^^ gsq v := by
  unfold gsq
  rw [gmul_xor, gmul_xor_left, gmul_xor_left, gmul_comm v u, x_swap, BitVec.xor_comm (gmul u v) (gmul v v), ← BitVec.xor_assoc]
  rw [BitVec.xor_assoc (gmul u u), BitVec.xor_comm (gmul u v), BitVec.xor_assoc (gmul u u), BitVec.xor_assoc (gmul v v), BitVec.xor_self]
  simp
theorem gmul_four (a b c d : BitVec 128) : gmul (gmul a b) (gmul c d) = gmul (gmul a c) (gmul b d) := by
  rw [gmul_assoc, gmul_assoc, ← gmul_assoc b c d, gmul_comm b c, gmul_assoc c b d]
theorem gsq_mul (a b : BitVec 128) : gsq (gmul a b) = gmul (gsq a) (gsq b) := gmul_four a b a b
def gsqn (a : BitVec 128) : Nat → BitVec 128
  | 0 => a
  | k + 1 => gsq (gsqn a k)
theorem gsqn_xor (u v : BitVec 128) (k : Nat) : gsqn (u ^^^ v) k = gsqn u k ^^^ gsqn v k := by
  induction k with
  | zero => rfl
  | succ k ih => rw [gsqn, ih, gsq_xor]; rfl
theorem gsqn_mul (u v : BitVec 128) (k : Nat) : gsqn (gmul u v) k = gmul (gsqn u k) (gsqn v k) := by
  induction k with
  | zero => rfl
  | succ k ih => rw [gsqn, ih, gsq_mul]; rfl

/-- Products of numbers, for the kernel to reckon. -/
def nX (v : Nat) : Nat := (v >>> 1) ^^^ ((v % 2) * 0xe1000000000000000000000000000000)
def nTo (a : Nat) : Nat → Nat → Nat → Nat
  | 0, _, z => z
  | k + 1, v, z => nTo a k (nX v) (z ^^^ ((a >>> k) % 2 * v))
def nMul (a b : Nat) : Nat := nTo a 128 b 0
theorem nX_e (v : BitVec 128) : nX v.toNat = (gX v).toNat := by
  unfold nX gX
  rw [BitVec.toNat_xor, BitVec.toNat_ushiftRight]
  congr 1
  have h : v.getLsbD 0 = decide (v.toNat % 2 = 1) := by rw [BitVec.getLsbD, Nat.testBit_zero]
  rw [h]
  rcases Nat.mod_two_eq_zero_or_one v.toNat with e | e <;> rw [e] <;> simp
theorem nTo_e (a b : BitVec 128) (k : Nat) : ∀ m, k + m = 128 → nTo a.toNat k (gXn b m).toNat (gTo a b m).toNat = (gmul a b).toNat := by
  induction k with
  | zero => intro m hm; have : m = 128 := by omega
            subst this; rfl
  | succ k ih =>
    intro m hm
    rw [nTo, nX_e]
    have e : (gTo a b m).toNat ^^^ ((a.toNat >>> k) % 2 * (gXn b m).toNat) = (gTo a b (m + 1)).toNat := by
      rw [gTo, BitVec.toNat_xor]
      congr 1
      have h : a.getMsbD m = decide ((a.toNat >>> k) % 2 = 1) := by
        rw [BitVec.getMsbD, show 128 - 1 - m = k by omega, BitVec.getLsbD, Nat.testBit_eq_decide_div_mod_eq, Nat.shiftRight_eq_div_pow]
        simp; omega
      rw [h]
      rcases Nat.mod_two_eq_zero_or_one (a.toNat >>> k) with e | e <;> rw [e] <;> simp
    rw [e]
    exact ih (m + 1) (by omega)
theorem nMul_e (a b : BitVec 128) : nMul a.toNat b.toNat = (gmul a b).toNat := nTo_e a b 128 0 rfl

/-- What is the same by all units is the same by all elements. -/
theorem add_ext (f g : BitVec 128 → BitVec 128) (hf : ∀ u v, f (u ^^^ v) = f u ^^^ f v) (hg : ∀ u v, g (u ^^^ v) = g u ^^^ g v) (h : ∀ k, k < 128 → f (gOne >>> k) = g (gOne >>> k)) (a : BitVec 128) : f a = g a := by
  have f0 : f 0#128 = 0#128 := by have := hf 0#128 0#128; simp at this; exact this
  have g0 : g 0#128 = 0#128 := by have := hg 0#128 0#128; simp at this; exact this
  have : ∀ k, k ≤ 128 → f (gTo a gOne k) = g (gTo a gOne k) := by
    intro k hk
    induction k with
    | zero => rw [gTo, f0, g0]
    | succ k ih =>
      rw [gTo, hf, hg, ih (by omega)]
      congr 1
      by_cases hb : a.getMsbD k
      · rw [if_pos hb, gOne_pow k (by omega), h k (by omega)]
      · rw [if_neg hb, f0, g0]
  have e := this 128 (Nat.le_refl _)
  rw [show gTo a gOne 128 = gmul a gOne from rfl, gmul_one] at e
  exact e

/-- x to the powers of two. -/
def xPows : List Nat := [0x40000000000000000000000000000000, 0x20000000000000000000000000000000, 0x8000000000000000000000000000000, 0x800000000000000000000000000000, 0x8000000000000000000000000000, 0x800000000000000000000000, 0x8000000000000000, 0xe1000000000000000000000000000000, 0xa8020000000000000000000000000000, 0x88800008000000000000000000000000, 0x80808000000000800000000000000000, 0x80008000800000000000000000008000, 0x800000008000000080000000e1000000, 0x61000000000000005753840000000000, 0x13f3efc9753840000000000000000000, 0x20aaa0aa8aaa0822a220a8020000000, 0xef71e969867f1888690888888008008, 0xe19e18aee34963c96361282a4b028061, 0x785720fb8871865780a6b48cd90a96d1, 0x2d88cd0cb4ac0b531aa6aeed729aa8ed, 0x9d417fa61f65872a7bfa7acbff7bf580, 0xb79a60390f91418442aac91ac0c52d88, 0xb2647d77e1a28de9c9ea5b79eac8a5c1, 0xb5a27b9f018a8b1cfbbd41a96f89b5c1, 0xb812f046d6c9e958b286b56ae8251fe3, 0x9c32f33e16afd2976599aea96fd221dd, 0x22432c6ec1cdb55ab0ac8660bc1bdc34, 0x941ccfc3a9964ef84c4fe3cac43f6f24, 0xca397a34a3f7eda541facf68c22c70a8, 0x98cb5ab9e31ce8915144b4e3dd7667d3, 0x436f1cf28e241ddfe614f342cee58ccb, 0xd447b1696790646493f8f4b277b3b06, 0x54a0a9601f5eee84180dcbba9950b41e, 0x4de588da952e507bf0cc9d6c4404c373, 0xe5e71bb22de5001fa5a4890bb4d8b53, 0x2ebb098302a3680ee4700e3207ecafcb, 0x25e8ff5e0055dd90103d8b8387440d04, 0x7b26a5ce8f4657a57535ce5ae2784638, 0x1f65c18795b5cb8347f4051d1a5cd557, 0xb07728cee03947744549a13f3a757ffb, 0x4853d688639329e8717b2f6dd12a2a18, 0x1557933238ec620a36cd08f5167dbbe5, 0x9908abb046ebdee7cd32cdae007043e3, 0xa130c91a4110a1c770289d5e9ae5eb77, 0x377e04f142dcfd9b9269c56b9bbe01cb, 0x12880c1a5d5b58be5660dae3faa1df26, 0x555ae6d0da8bc5d56299dd997c90508e, 0x78dcd0eef63684661385220e9be643f5, 0xbf81d79b681eb87f1840494ee86d68c7, 0x367b8429a883e1daf3134227831f3df, 0x6566f1bd032c6e16a7bd8d175a714cb2, 0xdb2710668fd84d13ef212d779431aeb2, 0x692ed23988cad9c9b616ef174b65be90, 0xc4205b1a258cdd336c2c02e38ac11206, 0xfa0946c96284c5d57dcd49e325281a3c, 0xef061d18dc8af3dfb2234ad1a349bf6f, 0xce981e35ae0dc847c9bd2c2ac24a402e, 0x15aaeacec86144dd41e6280d88c02eed, 0xace9dbeef679a0728561f1422ee72528, 0x699b5ad1f25d14e6b4efade7522be0f9, 0x2226150e1942b16745c23c5e41707c1e, 0x5cd315661f6f7bbb6ac191dcbf0f6b79, 0xf2176b4964a57635aeeafc7ec8362bbc, 0x354f8595ec875581a181858074d4726f, 0x6f9945a9e519a7229d4c1ad657f8a686, 0xa6547e1b63494270c3d302b7670cb93e, 0x3dc56ce9bea6fe2bca6ff45b8c7ea343, 0x292586a6284cd3aaff71fd2b15b5a4c7, 0x562ae9f5d02642d49f3f080f892211fd, 0x56f0d1c87c63aaf697e28236338ff22e, 0xac39a95e530cbd2277395dde8852b4ef, 0x37e9d3f4379c3cbb93eb3b6a760e9f8c, 0x9823eb3e3b72089f2fc8d277b8f0bf53, 0x766c05ab72402f4932fffedcecc06d63, 0xdd9aeca000210297bd81b9403e20d2df, 0xc444a78bc0d634400d435612dac2483a, 0xbcdadc6d27d8d3006a2b6b6622812d7b, 0x4637bc74001c8ac45634538328c0f138, 0x1bda5786f1695f2d9af1dbe0545f2955, 0x7669665f7c02c37891fe5392f858b75d, 0x5e27788143e15420ee953b2d4cabc59e, 0x998fba95e3f81ac8dc9307fe6f5b2e53, 0xa2b722231ebd8221ce8e45a8984fcb49, 0xb7973bfd607323fbe0cdb2368da4a4a0, 0x5d7a5bb02210b70099da0122a722059a, 0xdce474a33289001ef72dd81e9a11266b, 0x8c6972ea34058b59b86393058a266414, 0x1c551edf5c813cb32fcf1e04e6e2613e, 0x60c42fb6d5fbf292b5c6075c2cf30349, 0x22a7bd56589f6535eceb3e533e052eaa, 0xc3a11f9613e149e1bbc3d291e2e5b5dd, 0xdafac54f4c6070af51546f69082db61c, 0xe9cf1574d6a6c218a44126ca02a2dbf7, 0xcd02d8e98804a38fb22677366a204261, 0xaa301e2ec7617120e63f1e30b044a6f9, 0xb9e65740d5fb553c4cbe107a85248c36, 0xdebb046b71ae153b531960a283fb4702, 0x85411decb270c794db0fc890ae57de84, 0x2a8ab4d60f034a2465cf41f1ae393318, 0x3ee39d1c6663f2ff6b6d5d7ca9119f45, 0xaa9c0a807dbcf3ad87daaf8dcc5846d1, 0x8fb58c8bff4cb5da373bf185927c0265, 0x1b83535ac077e5b18c2005adca2c84e3, 0x197bce1a22310942bdaf34e3091a1d5f, 0x6464014e790495d59cea8d6913dcdf18, 0xca7dbf9ff1d8d21aad0b4e3d18327547, 0xc5eaee4e263ddfe46d67af1a87e7fefd, 0x205aed936cf7c3f91d09c7a2a92c2e, 0xb8968f5ee66af5d7b914d75220e3eecd, 0xf07e05941a5bcd62b638ffd5e9a52bb0, 0x46a277ddd4228cdf113a49a16a5e509c, 0x532f01730288c9b1109f231beb6440f7, 0xab26eafada1fbd6243b422e8d8c25ee3, 0x4aef7084e6966d3978addbe4a1b1af55, 0x833547603428c348073beabf4366e57d, 0x16b7d35a6395d440e66daae62761d18e, 0xb9eeeca089f5e5ee762f6071fce745d7, 0x35c8f66c4af0bdd7d08f3d474459b659, 0x36ee41547366d4d5ccf0d126e200c90c, 0xa3313c7cfac5a806ad5438287b8226fb, 0x9de8f5fe47d524519fb0d52c96a68410, 0x60f2901470dd606182981d04b9186186, 0xa5ae586d815ec618867625c71e534d34, 0x1994ed4a7cab35d7575149610cb2cb2c, 0x49f36de7140092dbae792410c38e38e3, 0x356dcf3ca28aebaedb6d75d7df7d75d7, 0x5aa28a28514514518618618659659659, 0x25b6db6db6db6db64924924924924924, 0x40000000000000000000000000000000]
def chainOk : List Nat → Bool
  | a :: b :: l => (nMul a a == b) && chainOk (b :: l)
  | _ => true
set_option maxRecDepth 100000 in
theorem xPows_ok : chainOk xPows = true := by decide +kernel
theorem chain_get : ∀ (l : List Nat), chainOk l = true → ∀ k, k + 1 < l.length → nMul (l.getD k 0) (l.getD k 0) = l.getD (k + 1) 0
  | [], _, k, h => by simp at h
  | [_], _, k, h => by simp at h
  | a :: b :: l, h, k, hk => by
    rw [chainOk, Bool.and_eq_true, beq_iff_eq] at h
    cases k with
    | zero => exact h.1
    | succ k => exact chain_get (b :: l) h.2 k (by simpa using hk)
theorem gsqn_x (k : Nat) (hk : k ≤ 128) : (gsqn (gX gOne) k).toNat = xPows.getD k 0 := by
  induction k with
  | zero => decide +kernel
  | succ k ih =>
    rw [gsqn, gsq, ← nMul_e, ih (by omega)]
    exact chain_get xPows xPows_ok k (by have : xPows.length = 129 := by decide +kernel
                                         omega)
theorem gsqn_x128 : gsqn (gX gOne) 128 = gX gOne := by
  apply BitVec.eq_of_toNat_eq
  rw [gsqn_x 128 (Nat.le_refl _)]
  decide +kernel
theorem gsqn_one (k : Nat) : gsqn gOne k = gOne := by
  induction k with
  | zero => rfl
  | succ k ih => rw [gsqn, ih, gsq, gmul_one]
/-- Every element to the 2^128 is itself. -/
theorem gsqn_128 (a : BitVec 128) : gsqn a 128 = a := by
  refine add_ext (fun a => gsqn a 128) (fun a => a) (fun u v => gsqn_xor u v 128) (fun _ _ => rfl) (fun k hk => ?_) a
  rw [← gOne_pow k hk]
  have : ∀ j, gsqn (gXn gOne j) 128 = gXn gOne j := by
    intro j
    induction j with
    | zero => exact gsqn_one 128
    | succ j ih =>
      have e : gXn gOne (j + 1) = gmul (gXn gOne j) (gX gOne) := by rw [gmul_X, gmul_one]; rfl
      rw [e, gsqn_mul, ih, gsqn_x128]
  exact this k

/-- A sum of rows, for each bit from the highest on. -/
def lTo (v : BitVec 128) : List Nat → Nat → BitVec 128
  | [], _ => 0#128
  | m :: l, k => (if v.getMsbD k then BitVec.ofNat 128 m else 0#128) ^^^ lTo v l (k + 1)
theorem lTo_xor (u v : BitVec 128) : ∀ (l : List Nat) (k : Nat), lTo (u ^^^ v) l k = lTo u l k ^^^ lTo v l k
  | [], _ => by simp [lTo]
  | m :: l, k => by
    rw [lTo, lTo, lTo, lTo_xor u v l, x_swap, BitVec.getMsbD_xor]
    congr 1
    cases u.getMsbD k <;> cases v.getMsbD k <;> simp
def nLin (v : Nat) : List Nat → Nat → Nat → Nat
  | [], _, z => z
  | m :: l, k, z => nLin v l (k - 1) (z ^^^ ((v >>> k) % 2 * m))
theorem nLin_e (v : BitVec 128) : ∀ (l : List Nat) (k : Nat) (z : BitVec 128), k + l.length = 128 → (∀ m ∈ l, m < 2 ^ 128) → nLin v.toNat l (127 - k) z.toNat = (z ^^^ lTo v l k).toNat
  | [], _, z, _, _ => by simp [nLin, lTo]
  | m :: l, k, z, h, hm => by
    have hl : k + 1 + l.length = 128 := by rw [List.length_cons] at h; omega
    have e : z.toNat ^^^ ((v.toNat >>> (127 - k)) % 2 * m) = (z ^^^ (if v.getMsbD k then BitVec.ofNat 128 m else 0#128)).toNat := by
      rw [BitVec.toNat_xor]
      congr 1
      have h : v.getMsbD k = decide ((v.toNat >>> (127 - k)) % 2 = 1) := by
        rw [BitVec.getMsbD, show 128 - 1 - k = 127 - k by omega, BitVec.getLsbD, Nat.testBit_eq_decide_div_mod_eq, Nat.shiftRight_eq_div_pow]
        simp; omega
      rw [h]
      have hm1 : m < 2 ^ 128 := hm m (by simp)
      rcases Nat.mod_two_eq_zero_or_one (v.toNat >>> (127 - k)) with e | e <;> rw [e] <;> simp
      exact (Nat.mod_eq_of_lt hm1).symm
    rw [nLin, e, show 127 - k - 1 = 127 - (k + 1) by omega, nLin_e v l (k + 1) _ hl (fun x hx => hm x (by simp [hx])), lTo, BitVec.xor_assoc]
/-- What undoes the sum of a number and its square. -/
def undo : List Nat := [0x10d04d25f93556e69f58ce2f8d035a94, 0x202f566ef59a994991d0e977a9aa5ba7, 0x602f566ef59a994991d0e977a9aa5ba7, 0x3045202cccefc1ee67fd0ac2e3641972, 0x402f566ef59a994991d0e977a9aa5ba7, 0x5672e0c1d328e3be0d2c5beb59e57554, 0x2045202cccefc1ee67fd0ac2e3641972, 0x187f9b4b8cafcfaf8e88275824a90133, 0x482f566ef59a994991d0e977a9aa5ba7, 0x22da13517461d3ee69739a8be16c1972, 0x5272e0c1d328e3be0d2c5beb59e57554, 0x6aff55603cd3fceff55228f556d54755, 0x2245202cccefc1ee67fd0ac2e3641972, 0x46fc06025397fc91bb49eab33e4cf467, 0x197f9b4b8cafcfaf8e88275824a90133, 0x646dca2be3d6cc87d093e2fc4c0f4ad5, 0x48af566ef59a994991d0e977a9aa5ba7, 0x5cea2fd59105659e2d1ccaeb5d2c7d54, 0x229a13517461d3ee69739a8be16c1972, 0x3f46a4c41f7d395874f4e33b9d331780, 0x5252e0c1d328e3be0d2c5beb59e57554, 0x312701524d961730583bcf844c342240, 0x6aef55603cd3fceff55228f556d54755, 0x144559bb6c9ffcd7bc4c239cf48626f3, 0x224d202cccefc1ee67fd0ac2e3641972, 0x1a24eaea541cab0f9092b01169688933, 0x46f806025397fc91bb49eab33e4cf467, 0x2c14dba71e26fe964f314b9433eb3eb2, 0x197d9b4b8cafcfaf8e88275824a90133, 0x2561da58536a903fe562896ae4899333, 0x646cca2be3d6cc87d093e2fc4c0f4ad5, 0x41d77800d619af2838dab35b297373a6, 0x48afd66ef59a994991d0e977a9aa5ba7, 0x5ce7c3e3968e47f62e5390ab45fe70d4, 0x5cea6fd59105659e2d1ccaeb5d2c7d54, 0x428019a11caacb8824c8241264b2fba6, 0x229a33517461d3ee69739a8be16c1972, 0x258e6f54b84bf6f7ef54f70e70ef2ef3, 0x3f46b4c41f7d395874f4e33b9d331780, 0x1af0929921b9589f9fb368dce89d2373, 0x5252e8c1d328e3be0d2c5beb59e57554, 0x3bdc8ad604f36599e246fae899f68fc1, 0x312705524d961730583bcf844c342240, 0x38e6217d7e479d8109554569546afc0, 0x6aef57603cd3fceff55228f556d54755, 0x2bd77bb364ab6b3fc733d8875e039333, 0x144558bb6c9ffcd7bc4c239cf48626f3, 0x698e6217d7fb8627ef6aa903c013fa95, 0x224d20acccefc1ee67fd0ac2e3641972, 0x21ce3a83c07704de74dad50f0d583b32, 0x1a24eaaa541cab0f9092b01169688933, 0x56f3167fe31312df9eb885b869165d55, 0x46f806225397fc91bb49eab33e4cf467, 0x77dcb1c60e3ad1c9e2190477682adba7, 0x2c14dbb71e26fe964f314b9433eb3eb2, 0x7348a7e5645f92d076e747a9d181ec26, 0x197d9b438cafcfaf8e88275824a90133, 0x2cfbb4409945161e45d21862e0409b32, 0x2561da5c536a903fe562896ae4899333, 0x36e717e02724b8f1d1527df73b8e8241, 0x646cca29e3d6cc87d093e2fc4c0f4ad5, 0x7adc3b3404788e11d4cfd6f8f5447467, 0x41d77801d619af2838dab35b297373a6, 0x4a2ade42a1db559927495c4d4e62fc1, 0x48afd66e759a994991d0e977a9aa5ba7, 0x329f337db88e12004e8e904902080000, 0x5ce7c3e3d68e47f62e5390ab45fe70d4, 0x36e9eb0be64d6b99d3ec2e5e502bb781, 0x5cea6fd5b105659e2d1ccaeb5d2c7d54, 0x4622ba58b211bb21b69fb337b1785627, 0x428019a10caacb8824c8241264b2fba6, 0x49a065cd7758d5196f0e3578d383201, 0x229a33517c61d3ee69739a8be16c1972, 0x55aabdbeec28a2078079924a4cd2f295, 0x258e6f54bc4bf6f7ef54f70e70ef2ef3, 0x7986f6afcfc951e9cb9188c1a5beebe7, 0x3f46b4c41d7d395874f4e33b9d331780, 0x2f76850d57908a5e54a716d46cf0bb32, 0x1af0929920b9589f9fb368dce89d2373, 0x489a0b11781e0c1196cc4fdebc394c27, 0x5252e8c1d3a8e3be0d2c5beb59e57554, 0x72ccff3fd3d186182e1ce9a41041041, 0x3bdc8ad604b36599e246fae899f68fc1, 0x5c33b52f8947e9462158188b7248d294, 0x312705524db61730583bcf844c342240, 0x79880aa666d696d9c926622882fff1e7, 0x38e6217d7f479d8109554569546afc0, 0x285aabc679b16ad7d6c2852abfdb1eb3, 0x6aef57603cdbfceff55228f556d54755, 0x26d44eb77ddd535ff0b1c738de72bb33, 0x2bd77bb364af6b3fc733d8875e039333, 0x3cfddc25f2ae2df86391fd8d3387a7c0, 0x144558bb6c9dfcd7bc4c239cf48626f3, 0x457534e82f16f649aa2d862c91005ba7, 0x698e6217d7fa8627ef6aa903c013fa95, 0x4bf8b9d33b8f38198de17cdee54751e7, 0x224d20acccef41ee67fd0ac2e3641972, 0x634efa836deeebf650dae654442b4894, 0x21ce3a83c07744de74dad50f0d583b32, 0x4bf6a9a1f02e1f698fec4b1a74166be7, 0x1a24eaaa541c8b0f9092b01169688933, 0x6462e2cc93c28627d2d0526e0d66c2d5, 0x56f3167fe31302df9eb885b869165d55, 0x79b07befedd921e9cd751ec18ebeebe7, 0x46f806225397f491bb49eab33e4cf467, 0x701c741cbd9fc8b06b94eadf79b8c426, 0x77dcb1c60e3ad5c9e2190477682adba7, 0x44eaa59bd8819a999287fa5ed58ad81, 0x2c14dbb71e26fc964f314b9433eb3eb2, 0x602105ae977251e64834e0c2dd2d5a94, 0x7348a7e5645f93d076e747a9d181ec26, 0x645919a4b35879f7d7a68d71cb5770d5, 0x197d9b438cafcf2f8e88275824a90133, 0xd94d9da18080030c4db699e5dc0, 0x2cfbb4409945165e45d21862e0409b32, 0x99a6e1cca2f8641a0b0910804c90841, 0x2561da5c536a901fe562896ae4899333, 0x5f86cdbc744e28fe3430f49ddf071154, 0x36e717e02724b8e1d1527df73b8e8241, 0x51eae8be2fe60df61bf9191de1788d94, 0x646cca29e3d6cc8fd093e2fc4c0f4ad5, 0x5f67891c31b7edb03c86875f90384d1c, 0x7adc3b3404788e15d4cfd6f8f5447467, 0x36dc3b3404788e15d4cfd6f8f5447461, 0x41d77801d619af2a38dab35b297373a6, 0x35bd0e43ef6cf78dcef750ee63bd3171, 0x4a2ade42a1db558927495c4d4e62fc1, 0x0]
set_option maxRecDepth 100000 in
theorem undo_length : undo.length = 128 := by decide +kernel
set_option maxRecDepth 100000 in
theorem undo_small : ∀ m ∈ undo, m < 2 ^ 128 := by decide +kernel
def undoOk : Nat → Bool
  | 0 => true
  | k + 1 => (nLin (nMul (2 ^ k) (2 ^ k) ^^^ 2 ^ k) undo 127 0 == (if k = 127 then 0 else 2 ^ k)) && undoOk k
set_option maxRecDepth 100000 in
theorem undo_ok : undoOk 128 = true := by decide +kernel
theorem undo_at : ∀ n, undoOk n = true → ∀ k, k < n → nLin (nMul (2 ^ k) (2 ^ k) ^^^ 2 ^ k) undo 127 0 = (if k = 127 then 0 else 2 ^ k)
  | 0, _, k, h => by omega
  | n + 1, h, k, hk => by
    rw [undoOk, Bool.and_eq_true, beq_iff_eq] at h
    by_cases e : k = n
    · subst e; exact h.1
    · exact undo_at n h.2 k (by omega)
theorem one_nat (k : Nat) (hk : k < 128) : (gOne >>> k).toNat = 2 ^ (127 - k) := by
  have h : ∀ k : Fin 128, (gOne >>> k.val).toNat = 2 ^ (127 - k.val) := by decide +kernel
  exact h ⟨k, hk⟩
/-- The number without its unit's bit. -/
def rest (a : BitVec 128) : BitVec 128 := a &&& ~~~gOne
theorem undo_e (a : BitVec 128) : lTo (gsq a ^^^ a) undo 0 = rest a := by
  refine add_ext (fun a => lTo (gsq a ^^^ a) undo 0) rest (fun u v => ?_) (fun u v => ?_) (fun k hk => ?_) a
  · show lTo (gsq (u ^^^ v) ^^^ (u ^^^ v)) undo 0 = _
    rw [gsq_xor, x_swap, lTo_xor]
  · unfold rest
    apply BitVec.eq_of_getLsbD_eq; intro i hi; simp
    cases u.getLsbD i <;> cases v.getLsbD i <;> simp
  · apply BitVec.eq_of_toNat_eq
    have h := nLin_e (gsq (gOne >>> k) ^^^ (gOne >>> k)) undo 0 0#128 (by rw [undo_length]) undo_small
    rw [BitVec.zero_xor] at h
    show (lTo (gsq (gOne >>> k) ^^^ gOne >>> k) undo 0).toNat = _
    rw [← h, BitVec.toNat_xor, gsq, ← nMul_e, one_nat k hk]
    have h2 := undo_at 128 undo_ok (127 - k) (by omega)
    rw [show (0#128).toNat = 0 from rfl]
    refine h2.trans ?_
    have h3 : ∀ k : Fin 128, (if 127 - k.val = 127 then 0 else 2 ^ (127 - k.val)) = (rest (gOne >>> k.val)).toNat := by decide +kernel
    exact h3 ⟨k, hk⟩
theorem own_square (a : BitVec 128) (h : gsq a = a) : a = 0#128 ∨ a = gOne := by
  have e := undo_e a
  rw [h, BitVec.xor_self] at e
  have z : lTo 0#128 undo 0 = 0#128 := by
    have := lTo_xor 0#128 0#128 undo 0
    simpa using this
  rw [z] at e
  unfold rest at e
  by_cases hb : a.getMsbD 0
  · right
    apply BitVec.eq_of_getMsbD_eq; intro i hi
    have e1 := gOne_bit 0 i (by omega) hi
    rw [show gOne >>> 0 = gOne from rfl] at e1
    rw [e1]
    by_cases h0 : i = 0
    · subst h0; simp [hb]
    · have e2 : (0#128).getMsbD i = (a &&& ~~~gOne).getMsbD i := by rw [← e]
      rw [BitVec.getMsbD_and, BitVec.getMsbD_not, e1] at e2
      simp [hi, h0] at e2
      simp [e2, h0]
  · left
    apply BitVec.eq_of_getMsbD_eq; intro i hi
    by_cases h0 : i = 0
    · subst h0; simpa using hb
    · have e1 := gOne_bit 0 i (by omega) hi
      rw [show gOne >>> 0 = gOne from rfl] at e1
      have e2 : (0#128).getMsbD i = (a &&& ~~~gOne).getMsbD i := by rw [← e]
      rw [BitVec.getMsbD_and, BitVec.getMsbD_not, e1] at e2
      simp [hi, h0] at e2
      simp [e2]
/-- The product of the first k squares. -/
def gRow (a : BitVec 128) : Nat → BitVec 128
  | 0 => gOne
  | k + 1 => gmul (gRow a k) (gsqn a k)
theorem gRow_sq (a : BitVec 128) (k : Nat) : gmul a (gsq (gRow a k)) = gRow a (k + 1) := by
  induction k with
  | zero => rw [gRow, gRow, gRow, gsq, gmul_one, gmul_one, gmul_comm gOne, gmul_one]; rfl
  | succ k ih =>
    rw [gRow, gsq_mul, ← gmul_assoc, ih, gRow]
    rfl
theorem gRow_mul (a : BitVec 128) (k : Nat) : gmul a (gRow a k) = gsqn a k := by
  induction k with
  | zero => exact gmul_one a
  | succ k ih => rw [gRow, ← gmul_assoc, ih]; rfl
theorem gmul_none (a b : BitVec 128) (ha : a ≠ 0#128) (h : gmul a b = 0#128) : b = 0#128 := by
  have hS : gmul a (gsq (gRow a 127)) = gRow a 128 := gRow_sq a 127
  have hR : gsq (gRow a 128) = gRow a 128 := by
    rw [show gRow a 128 = gmul (gRow a 127) (gsqn a 127) from rfl, gsq_mul, show gsq (gsqn a 127) = gsqn a 128 from rfl, gsqn_128, gmul_comm, hS]
    rfl
  rcases own_square _ hR with e | e
  · exfalso
    apply ha
    have h4 := gRow_mul a 128
    rw [e, gmul_zero, gsqn_128] at h4
    exact h4.symm
  · have h1 : gmul (gsq (gRow a 127)) (gmul a b) = b := by
      rw [← gmul_assoc, gmul_comm _ a, hS, e, gmul_comm, gmul_one]
    rw [h, gmul_zero] at h1
    exact h1.symm

theorem maskE_twice (L : List UInt32) (R : Nat) (N P : List UInt8) : maskE L R N (maskE L R N P) = P := by
  refine List.ext_getElem (by rw [maskE_length, maskE_length]) fun i h1 h2 => ?_
  have e := maskE_get L R N (maskE L R N P) i (by rw [maskE_length]; exact h2)
  rw [maskE_get L R N P i h2, UInt8.xor_assoc, UInt8.xor_self, UInt8.xor_zero] at e
  rw [List.getD_eq_getElem?_getD, List.getD_eq_getElem?_getD, List.getElem?_eq_getElem h1, List.getElem?_eq_getElem h2] at e
  exact e
theorem elE_zero16 : elE zero16 = 0#128 := by decide +kernel
theorem elE_ne {F : List UInt8} (hF : F.length = 16) (h : F ≠ zero16) : elE F ≠ 0#128 := fun e => h (elE_inj hF rfl (e.trans elE_zero16.symm))
theorem xor_none {a b : BitVec 128} (h : a ^^^ b = 0#128) : a = b := by
  have := congrArg (· ^^^ b) h
  simpa [BitVec.xor_assoc] using this
theorem prodE_inj {F a b : List UInt8} (hF : F.length = 16) (hz : F ≠ zero16) (ha : a.length = 16) (hb : b.length = 16) (h : prodE a F = prodE b F) : a = b := by
  have e := congrArg elE h
  rw [elE_prod, elE_prod, gmul_comm, gmul_comm (elE b)] at e
  refine elE_inj ha hb (xor_none (gmul_none _ _ (elE_ne hF hz) ?_))
  rw [gmul_xor, e, BitVec.xor_self]
theorem putE_inj {a b c : List UInt8} (ha : a.length = 16) (hb : b.length = 16) (hc : c.length = 16) (h : putE a c = putE b c) : a = b := by
  have e := congrArg elE h
  rw [elE_put ha hc, elE_put hb hc] at e
  refine elE_inj ha hb ?_
  have := congrArg (· ^^^ elE c) e
  simpa [BitVec.xor_assoc] using this
theorem putE_inj2 {a b c : List UInt8} (ha : a.length = 16) (hb : b.length = 16) (hc : c.length = 16) (h : putE c a = putE c b) : a = b := by
  have e := congrArg elE h
  rw [elE_put hc ha, elE_put hc hb] at e
  refine elE_inj ha hb ?_
  have := congrArg (elE c ^^^ ·) e
  simpa [← BitVec.xor_assoc] using this
theorem fStep_inj {F y z P : List UInt8} (hF : F.length = 16) (hz : F ≠ zero16) (hy : y.length = 16) (hy2 : z.length = 16) (m : Nat) (h : fStep F y P m = fStep F z P m) : y = z := by
  induction m with
  | zero => exact h
  | succ m ih =>
    refine ih ?_
    have l1 := fStep_length (F := F) (P := P) hy m
    have l2 := fStep_length (F := F) (P := P) hy2 m
    exact putE_inj l1 l2 (padE_length _) (prodE_inj hF hz (putE_length l1 (padE_length _)) (putE_length l2 (padE_length _)) h)
theorem dropB_getD (r : List UInt8) (a i : Nat) : (r.drop a).getD i 0 = r.getD (a + i) 0 := by
  simp [List.getD_eq_getElem?_getD]
theorem setB_getD (r : List UInt8) (k i : Nat) (v : UInt8) : (r.set k v).getD i 0 = if i = k ∧ k < r.length then v else r.getD i 0 := by
  simp only [List.getD_eq_getElem?_getD, List.getElem?_set]
  by_cases h : k = i
  · subst h
    by_cases h2 : k < r.length
    · simp [h2]
    · simp [h2]
  · rw [if_neg h, if_neg (by omega)]
theorem pad_same (P : List UInt8) (k m : Nat) (v : UInt8) (h : m ≠ k / 16) : padE ((P.set k v).drop (16 * m)) = padE (P.drop (16 * m)) := by
  refine List.ext_getElem (by rw [padE_length, padE_length]) fun i h1 h2 => ?_
  have hi : i < 16 := by rw [padE_length] at h1; exact h1
  have e : (padE ((P.set k v).drop (16 * m))).getD i 0 = (padE (P.drop (16 * m))).getD i 0 := by
    rw [padE_get _ i hi, padE_get _ i hi, List.length_drop, List.length_drop, List.length_set, dropB_getD, dropB_getD, setB_getD]
    have e2 : ¬ (16 * m + i = k ∧ k < P.length) := by omega
    simp only [if_neg e2]
  rwa [List.getD_eq_getElem?_getD, List.getD_eq_getElem?_getD, List.getElem?_eq_getElem h1, List.getElem?_eq_getElem h2] at e
theorem pad_other (P : List UInt8) (k : Nat) (v : UInt8) (hk : k < P.length) (hv : v ≠ P.getD k 0) : padE ((P.set k v).drop (16 * (k / 16))) ≠ padE (P.drop (16 * (k / 16))) := fun h => by
  have hi : k % 16 < 16 := by omega
  have e := congrArg (fun l => l.getD (k % 16) 0) h
  have hq : 16 * (k / 16) + k % 16 = k := by omega
  rw [padE_get _ _ hi, padE_get _ _ hi, List.length_drop, List.length_drop, List.length_set, dropB_getD, dropB_getD, hq, setB_getD, if_pos (by omega), if_pos ⟨rfl, hk⟩, if_pos (by omega)] at e
  exact hv e
theorem fStep_bent {F y P : List UInt8} (hF : F.length = 16) (hz : F ≠ zero16) (hy : y.length = 16) (k : Nat) (v : UInt8) (hk : k < P.length) (hv : v ≠ P.getD k 0) (m : Nat) :
    (m ≤ k / 16 → fStep F y (P.set k v) m = fStep F y P m) ∧ (k / 16 < m → fStep F y (P.set k v) m ≠ fStep F y P m) := by
  induction m with
  | zero => exact ⟨fun _ => rfl, fun h => by omega⟩
  | succ m ih =>
    have l1 := fStep_length (F := F) (P := P.set k v) hy m
    have l2 := fStep_length (F := F) (P := P) hy m
    constructor
    · intro h
      rw [fStep, fStep, ih.1 (by omega), pad_same P k m v (by omega)]
    · intro h e
      have e2 := prodE_inj hF hz (putE_length l1 (padE_length _)) (putE_length l2 (padE_length _)) e
      by_cases hm : m = k / 16
      · subst hm
        rw [ih.1 (Nat.le_refl _)] at e2
        exact pad_other P k v hk hv (putE_inj2 (padE_length _) (padE_length _) l2 e2)
      · rw [pad_same P k m v hm] at e2
        exact ih.2 (by omega) (putE_inj l1 l2 (padE_length _) e2)
theorem gPart_bent {F y P : List UInt8} (hF : F.length = 16) (hz : F ≠ zero16) (hy : y.length = 16) (k : Nat) (v : UInt8) (hk : k < P.length) (hv : v ≠ P.getD k 0) : gPart F y (P.set k v) ≠ gPart F y P := by
  unfold gPart
  rw [List.length_set]
  exact (fStep_bent hF hz hy k v hk hv _).2 (by omega)
theorem gPart_inj {F y z P : List UInt8} (hF : F.length = 16) (hz : F ≠ zero16) (hy : y.length = 16) (hy2 : z.length = 16) (h : gPart F y P = gPart F z P) : y = z := fStep_inj hF hz hy hy2 _ h
theorem tag_bent (L : List UInt32) (R : Nat) (N hid bes : List UInt8) (k : Nat) (v : UInt8) (hk : k < hid.length) (hv : v ≠ hid.getD k 0) (h : tagE L R N (hid.set k v) bes = tagE L R N hid bes) : sealS L R zero16 = zero16 := by
  by_cases hz : sealS L R zero16 = zero16
  · exact hz
  · exfalso
    have hF := sealS_length L R zero16
    have e := putE_inj (sumE_length _ _ _ _) (sumE_length _ _ _ _) (sealS_length _ _ _) h
    unfold sumE gFold at e
    simp only [List.foldl_cons, List.foldl_nil] at e
    have ec : cntE [bes, hid.set k v] = cntE [bes, hid] := by simp [cntE]
    rw [ec] at e
    have l0 : (gPart (sealS L R zero16) zero16 bes).length = 16 := gPart_length rfl
    exact gPart_bent hF hz l0 k v hk hv (gPart_inj hF hz (gPart_length l0) (gPart_length l0) e)
/-- A byte that is changed. -/
def bendB (X : List UInt8) (k : Nat) (y : UInt8) : List UInt8 := X.set k (X.getD k 0 ^^^ y)
theorem bendB_length (X : List UInt8) (k : Nat) (y : UInt8) : (bendB X k y).length = X.length := List.length_set ..
theorem bendB_none (X : List UInt8) (k : Nat) : bendB X k 0 = X := by
  unfold bendB
  refine List.ext_getElem (by simp) fun i h1 h2 => ?_
  by_cases h : k = i
  · subst h; simp [List.getD_eq_getElem?_getD, List.getElem?_eq_getElem h2]
  · simp [h]
theorem bent_ne (a y : UInt8) (hy : y ≠ 0) : a ^^^ y ≠ a := fun h => hy (by
  have := congrArg (a ^^^ ·) h
  simpa [← UInt8.xor_assoc] using this)
theorem bent_seal (L : List UInt32) (R : Nat) (N P bes : List UInt8) (n k : Nat) (y : UInt8) (hn : P.length = n) (hk : k < n + 16) (hy : y ≠ 0)
    (h : tagE L R N ((bendB (boxE L R N P bes) k y).take n) bes = (bendB (boxE L R N P bes) k y).drop n) : sealS L R zero16 = zero16 := by
  have hml : (maskE L R N P).length = n := by rw [maskE_length, hn]
  have htl := tagE_length L R N (maskE L R N P) bes
  unfold bendB boxE at h
  have ht := fun (a : List UInt8) => tagE_length L R N a bes
  obtain ⟨M, hM⟩ : ∃ M, M = maskE L R N P := ⟨_, rfl⟩
  rw [← hM] at h hml htl
  obtain ⟨T, hT⟩ : ∃ T, T = tagE L R N M bes := ⟨_, rfl⟩
  rw [← hT] at h htl
  by_cases hc : k < n
  · have e1 : (M ++ T).getD k 0 = M.getD k 0 := by
      rw [List.getD_eq_getElem?_getD, List.getElem?_append_left (by omega), ← List.getD_eq_getElem?_getD]
    rw [e1, List.set_append_left _ _ (by omega), List.take_append_of_le_length (by rw [List.length_set]; omega), List.take_of_length_le (by rw [List.length_set]; omega),
      List.drop_append_of_le_length (by rw [List.length_set]; omega), List.drop_of_length_le (by rw [List.length_set]; omega), List.nil_append, hT] at h
    exact tag_bent L R N M bes k _ (by omega) (bent_ne _ _ hy) h
  · exfalso
    have e1 : (M ++ T).getD k 0 = T.getD (k - n) 0 := by
      rw [List.getD_eq_getElem?_getD, List.getElem?_append_right (by omega), ← List.getD_eq_getElem?_getD, hml]
    rw [e1, List.set_append_right _ _ (by omega), List.take_append_of_le_length (by omega), List.take_of_length_le (by omega),
      List.drop_append_of_le_length (by omega), List.drop_of_length_le (by omega), List.nil_append, ← hT, hml] at h
    have e2 := congrArg (fun l => l.getD (k - n) 0) h
    rw [setB_getD, if_pos ⟨rfl, by omega⟩] at e2
    exact bent_ne _ _ hy e2.symm

theorem Buf.cell_ {w : World} {base n c g k : Nat} {bs : List UInt8} (h : Buf w base (some ⟨g, 0, none⟩) n c bs) (hk : k < n) : w.cell? ⟨g, k, none⟩ = some (B8 (bs.getD k 0)) := by
  obtain ⟨g', e, _, _, hb⟩ := h.at (by omega)
  cases e
  have := hb k (by rw [h.1]; exact hk)
  rwa [Nat.zero_add] at this
theorem eq16f (L : List UInt8) (h : L.length = 16) (W : World) : (binOp .eql 42 (BV L) (BV L)).run Try.prog W = .ok (.bool true) W := by
  have := run_eql_bytes (P := Try.prog) W 42 5 16 Try.underlying42 Try.underlying5 size8 L L h h
  rw [beq_self_eq_true] at this
  exact this
theorem u8_of {a : Int} (h : IntKind.u8.wrap a = a) : a = ((UInt8.ofNat a.toNat).toNat : Int) := by
  rw [IntKind.wrap_u8] at h
  simp; omega
theorem infoLet : (Try.prog.info? 26).map (·.size) = some 47 := by kernel_rfl

set_option maxRecDepth 100000 in
set_option maxHeartbeats 1000000 in
theorem gcmBent_walk (K N P Q : List UInt8) (sh : Bool) (A1 A2 : Option Addr) (n1 c1 n2 c2 : Nat) (a yi : Int) (y : UInt8) (hyi : yi = (y.toNat : Int)) (w : World) (hK : K.length = 32) (hN : N.length = 12) (hP : P.length = n1) (hQ : Q.length = n2)
    (iP : In w w.heap.size A1 c1 P) (iQ : In w w.heap.size A2 c2 Q) :
    Calls Try.prog 5 #[.agg (letC K sh N A1 n1 c1 A2 n2 c2).toArray, .int .i64 a, .int .u8 yi] w fun e w' => e = .returned (.bool true) ∧ Below w.heap.size w w' := by
  have kk := fun (W : World) => key_e K N sh A1 A2 n1 c1 n2 c2 W hK
  have kp := fun (W : World) (i : In W W.heap.size A1 c1 P) => plain_e K N sh A1 A2 n1 c1 n2 c2 P W hK hN hP i
  have kb := fun (W : World) (i : In W W.heap.size A2 c2 Q) => beside_e K N sh A1 A2 n1 c1 n2 c2 Q W hK hN hQ i
  have hkl := keyOf_length K sh hK
  have hln := letC_nonce K N sh A1 A2 n1 c1 n2 c2 hK hN
  have hll := letC_length K N sh A1 A2 n1 c1 n2 c2 hK hN
  have hpl : (P.take 100).length ≤ 100 := by rw [List.length_take]; omega
  have hbl : (Q.take 60).length ≤ 60 := by rw [List.length_take]; omega
  have hnw := fun (W : World) (A : Option Addr) (c : Nat) (i : In W W.heap.size A c (keyOf K sh)) => bnew_any A c W.heap.size (fours sh) (keyOf K sh) W (Nat.le_refl _) (ink i) hkl (fours_or sh)
  have kz := fun (W : World) => refSeal_at (fours sh) (fours_or sh) (keyOf K sh) zero16 hkl rfl W
  simp only [hkl] at hnw
  generalize P.take 100 = P1 at *
  generalize Q.take 60 = B1 at *
  generalize keyOf K sh = KK at *
  obtain ⟨LL, hLL⟩ : ∃ LL, LL = letC K sh N A1 n1 c1 A2 n2 c2 := ⟨_, rfl⟩
  rw [← hLL] at kk kp kb hln hll ⊢
  obtain ⟨nk, hnk⟩ : ∃ nk, nk = 4 * fours sh := ⟨_, rfl⟩
  rw [← hnk] at hnw hkl
  simp only [← hnk] at kk
  obtain ⟨L, hLk⟩ : ∃ L, L = keyL (fours sh) KK := ⟨_, rfl⟩
  rw [← hLk] at hnw
  simp only [← hLk] at kz
  obtain ⟨R, hR⟩ : ∃ R, R = fours sh + 7 := ⟨_, rfl⟩
  rw [← hR] at hnw
  simp only [← hR] at kz
  clear hLL hnk hLk hR
  obtain ⟨np, hnp⟩ : ∃ np, np = P1.length := ⟨_, rfl⟩
  obtain ⟨nb, hnb⟩ : ∃ nb, nb = B1.length := ⟨_, rfl⟩
  obtain ⟨ns, hns⟩ : ∃ ns, ns = np + 16 := ⟨_, rfl⟩
  rw [← hnp] at hpl
  rw [← hnb] at hbl
  have hsl := boxE_length L R N P1 B1
  rw [← hnp, ← hns] at hsl
  have kse := fun (W : World) (gx gk gr cp cb : Nat) (Ap Ab : Option Addr) (h : BoxAt W gx gk gr R L) (ip : In W W.heap.size Ap cp P1) (ib : In W W.heap.size Ab cb B1) => seal_e gx gk gr R np nb cp cb Ap Ab L N P1 B1 W h hN ip ib hnp.symm hnb.symm (by omega) (by omega)
  have kse2 := fun (W : World) (gx gk gr cp cb : Nat) (Ap Ab : Option Addr) (N1 O1 BB : List UInt8) (h : BoxAt W gx gk gr R L) (l1 : N1.length = 12) (l2 : O1.length = np) (l3 : BB.length = nb) (ip : In W W.heap.size Ap cp O1) (ib : In W W.heap.size Ab cb BB) => seal_e gx gk gr R np nb cp cb Ap Ab L N1 O1 BB W h l1 ip ib l2 l3 (by omega) (by omega)
  simp only [← hns] at kse kse2
  have kop := fun (W : World) (gx gk gr cs cb : Nat) (As Ab : Option Addr) (N1 C T BB : List UInt8) (h : BoxAt W gx gk gr R L) (l1 : N1.length = 12) (l2 : C.length = np) (l3 : T.length = 16) (l4 : BB.length = nb) (is : In W W.heap.size As cs (C ++ T)) (ib : In W W.heap.size Ab cb BB) => open_e gx gk gr R ns np nb cs cb As Ab L N1 C T BB W h l1 is ib l2 l3 hns l4 (by omega) (by omega)
  have hz1 := fun (k : Nat) (hk : k < np + 16) (hy : y ≠ 0) h => bent_seal L R N P1 B1 np k y hnp.symm hk hy h
  have hsp : boxE L R N P1 B1 = maskE L R N P1 ++ tagE L R N (maskE L R N P1) B1 := rfl
  have hml : (maskE L R N P1).length = np := by rw [maskE_length, ← hnp]
  have htl := tagE_length L R N (maskE L R N P1) B1
  have hmm := maskE_twice L R N P1
  obtain ⟨S1, hS1⟩ : ∃ S1, S1 = boxE L R N P1 B1 := ⟨_, rfl⟩
  rw [← hS1] at kse hsl hsp hz1
  have HKK := Lib.hid kk
  have HPE := Lib.hid kp
  have HBE := Lib.hid kb
  have HNW := Lib.hid hnw
  have HKZ0 := Lib.hid kz
  have HSE := Lib.hid kse
  have HSE2 := Lib.hid kse2
  have HOP := Lib.hid kop
  have HZ1 := Lib.hid hz1
  have HSP := Lib.hid (And.intro hsp (And.intro hml (And.intro htl hmm)))
  have HLN := Lib.hid hln
  have HLL := Lib.hid hll
  have LN := Lib.hid hN
  have LK := Lib.hid hkl
  have HNP := Lib.hid hnp.symm
  have HNB := Lib.hid hnb.symm
  have HSL := Lib.hid hsl
  have HNS := Lib.hid hns
  have HNS0 := Lib.hid (show 0 < ns by omega)
  have hns2 : ns ≤ 116 := by omega
  have HYI := Lib.hid hyi
  clear kk kp kb hnw kz kse kse2 kop hz1 hsp hml htl hmm hS1 hln hll hN hkl hnp hnb hsl hns hK hP hQ hyi hpl
  obtain ⟨m, hm⟩ : ∃ m, m = ns + 12 + nb := ⟨_, rfl⟩
  obtain ⟨k, hk⟩ : ∃ k : Nat, (k : Int) = IntKind.u64.wrap a % (m : Int) := ⟨(IntKind.u64.wrap a % (m : Int)).toNat, Int.toNat_of_nonneg (Int.emod_nonneg _ (by omega))⟩
  have HKW := Lib.hid (show wrap64 ((IntKind.u64.wrap a).tmod ((ns : Int) + 12 + (nb : Int))) = (k : Int) by
    have hu0 : (0 : Int) ≤ IntKind.u64.wrap a := by rw [IntKind.wrap_u64]; omega
    have hmi : (ns : Int) + 12 + (nb : Int) = (m : Int) := by omega
    have hlt := Int.emod_lt_of_pos (IntKind.u64.wrap a) (show (0 : Int) < (m : Int) by omega)
    rw [hmi, Int.tmod_eq_emod_of_nonneg hu0, ← hk]
    unfold wrap64; omega)
  have hkm : k < ns + 12 + nb := by
    have hlt := Int.emod_lt_of_pos (IntKind.u64.wrap a) (show (0 : Int) < (m : Int) by omega)
    omega
  clear hk hm
  go_enter Try.func5, Try.ntmps5
  have hL := Blk.new_of w 26 LL.toArray LL rfl
  have hbw : Below w.heap.size w (w.alloc (.cells LL.toArray 26)) := (Below.refl _ _).alloc (Nat.le_refl _) _
  go_upto_region 5 with (first
    | ((with_reducible refine (?_ : wpList _ _ _ (Oper.mk (some 16) _ _ _ _ _ :: _) _ _)); go_loud (refine wpList_load_blk rfl 26 (.tmp 3) rfl (w.heap.size) rfl 26 _ _ hL Try.underlying26 rfl (infoLet.trans (by rw [HLL.out])) ?_))
    | (go_at_call 8; go_loud (refine (HKK.out _).mono ?_); rintro e w2 ⟨Ak, nk', ck, rfl, hnk, hBk, hb2⟩; subst hnk; replace hL := hL.below hb2 hL.lt; replace hbw := hbw.trans (hb2.mono hbw.size); have hIk := hBk.toIn (Nat.le_refl _); clear hb2 hBk)
    | (go_at_call 7; go_loud (refine (HNW.out _ _ _ hIk).mono ?_); rintro e w3 ⟨gx, gk, gr, rfl, _, hX, hb3⟩; replace hL := hL.below hb3 hL.lt; replace hbw := hbw.trans (hb3.mono hbw.size); clear hb3 hIk)
    | (go_at_call 9; go_loud (refine (boxes_e _).mono ?_); rintro e w8 ⟨rfl, hb8⟩; replace hL := hL.below hb8 hL.lt; replace hX := hX.below hb8; replace hbw := hbw.trans (hb8.mono hbw.size); clear hb8)
    | ((with_reducible refine (?_ : wpList _ _ _ (Oper.mk (some 27) _ _ _ _ _ :: _) _ _)); go_loud (refine wpList_load_blk rfl 26 (.tmp 3) rfl (w.heap.size) rfl 26 _ _ hL Try.underlying26 rfl (infoLet.trans (by rw [HLL.out])) ?_))
    | (go_at_call 14; go_loud (refine (HBE.out _ (in_up iQ hbw)).mono ?_); rintro e w4 ⟨Ab, nb', cb, rfl, hnb, hBb, hb4⟩; have hnb2 : nb = nb' := (by rw [← hnb]; exact HNB.out.symm); subst hnb2; have hx8 := And.intro hX.box.lt (And.intro hX.key.key.lt (And.intro hX.key.rounds.lt (And.intro hL.lt hbw.size))); replace hL := hL.below hb4 hL.lt; replace hX := hX.below hb4; replace hbw := hbw.trans (hb4.mono hbw.size); have hz8 := hb4.size; clear hb4 hnb))
  have hbb := hBb
  obtain ⟨z4, hz4⟩ : ∃ z4, z4 = w4.heap.size := ⟨_, rfl⟩
  apply wp_region_once (D := [[], [], [1], [], [3], [], [0, 1, 2, 3, 4, 5], [0, 1, 2, 3, 4, 5, 6]]) (J := [[], [], [1], [], [3], [], [0, 2, 4, 5], [6]]) (Je := [7]) (Rs := [Is _, Is _, Is _, Is _, fun v V => ∃ (A' : Option Addr) (c' : Nat), v = .slice A' np c' ∧ In V V.heap.size A' c' P1, Is _, fun v V => ∃ (A' : Option Addr) (c' : Nat), v = .slice A' ns c' ∧ Buf V z4 A' ns c' S1, fun v V => ∃ (A' : Option Addr) (c' : Nat), v = .slice A' ns c' ∧ Buf V z4 A' ns c' S1])
  · kernel_rfl
  · kernel_rfl
  · kernel_rfl
  · kernel_rfl
  · kernel_rfl
  · kernel_rfl
  · intro u
    simp only [List.map_cons, List.map_nil, fillU, List.setIfInBounds_toArray, List.set_cons_zero, List.set_cons_succ, Nat.zero_add, Nat.reduceAdd]
    exact rfl
  · skip
    refine ⟨fun u V hb hd K hK => ?_, ?_⟩
    · clear hd
      go_simp
      apply hK
      · simp only [Act.put, List.setIfInBounds_toArray, List.set_cons_zero, List.set_cons_succ]
        exact rfl
      · exact Below.refl _ _
      · exact IsOut
    refine ⟨fun u V hb hd K hK => ?_, ?_⟩
    · clear hd
      go_simp
      apply hK
      · simp only [Act.put, List.setIfInBounds_toArray, List.set_cons_zero, List.set_cons_succ]
        exact rfl
      · exact Below.refl _ _
      · exact IsOut
    refine ⟨fun u V hb hd K hK => ?_, ?_⟩
    · simp only [Facts, nthR, Is, and_true] at hd
      simp only [hd] at hK ⊢
      clear hd
      rw [if_pos (by rfl)]
      refine wp_load_mid 23 (.tmp 30) rfl (w.heap.size) (33) rfl (N.map B8) _ ((fun j v hv => ((hL.below hb hL.lt).cell (33 + j)).trans (HLN.out j v hv))) Try.underlying23 rfl (info12.trans (by rw [List.length_map, LN.out])) ?_
      exact hK _ _ _ rfl (Below.refl _ _) IsOut
    refine ⟨fun u V hb hd K hK => ?_, ?_⟩
    · clear hd
      rw [if_pos (by rfl)]
      refine wp_load_mid 26 (.tmp 3) rfl (w.heap.size) 0 rfl (LL) _ (rangeAt_blk (hL.below hb hL.lt)) Try.underlying26 rfl (infoLet.trans (by rw [HLL.out])) ?_
      exact hK _ _ _ rfl (Below.refl _ _) IsOut
    refine ⟨fun u V hb hd K hK => ?_, ?_⟩
    · simp only [Facts, nthR, Is, and_true] at hd
      simp only [hd] at hK ⊢
      clear hd
      go_simp
      refine (HPE.out V (in_up iP (hbw.trans (hb.mono hbw.size)))).mono ?_
      rintro e wy ⟨A', n', c', rfl, hn', hB', hby⟩
      have hn2 : n' = np := by rw [← hn']; exact HNP.out
      subst hn2
      exact hK _ _ _ rfl hby ⟨A', c', rfl, hB'.toIn (Nat.le_refl _)⟩
    refine ⟨fun u V hb hd K hK => ?_, ?_⟩
    · clear hd
      go_simp
      apply hK
      · simp only [Act.put, List.setIfInBounds_toArray, List.set_cons_zero, List.set_cons_succ]
        exact rfl
      · exact Below.refl _ _
      · exact IsOut
    refine ⟨fun u V hb hd K hK => ?_, ?_⟩
    · simp only [Facts, nthR, Is, and_true] at hd
      obtain ⟨h0, h1, ⟨Ap, cp, h2, ip⟩, h3⟩ := hd
      simp only [h0, h1, h2, h3] at hK ⊢
      clear h0 h1 h2 h3
      go_simp
      refine (HSE.out V gx gk gr _ _ _ _ (hX.below hb) ip ((hBb.below hb).toIn (Nat.le_refl _))).mono ?_
      rintro e wy ⟨A', n', c', rfl, hn', hB', hby⟩
      subst hn'
      exact hK _ _ _ rfl hby ⟨A', c', rfl, hB'.base (by rw [hz4]; exact hb.size)⟩
    refine ⟨fun u V hb hd K hK => ?_, ?_⟩
    · simp only [Facts, nthR, and_true] at hd
      obtain ⟨A', c', h1, hi'⟩ := hd
      simp only [h1] at hK ⊢
      clear h1
      go_simp
      apply hK
      · simp only [Act.put, List.setIfInBounds_toArray, List.set_cons_zero, List.set_cons_succ]
        exact rfl
      · exact Below.refl _ _
      · exact ⟨A', c', rfl, hi'⟩
    exact trivial
  · exact (.is (.is (.is (.is (.cons (fun v V V' ⟨A', c', h1, h2⟩ hb => ⟨A', c', h1, in_up h2 hb⟩) (.is (.cons (fun v V V' ⟨A', c', h1, h2⟩ hb => ⟨A', c', h1, h2.below hb⟩) (.cons (fun v V V' ⟨A', c', h1, h2⟩ hb => ⟨A', c', h1, h2.below hb⟩) .nil))))))))
  · intro u V hb hd
    simp only [Facts, nthR, and_true] at hd
    obtain ⟨As, cs, h10, hBs⟩ := hd
    simp only [h10]
    clear h10
    replace hbw := hbw.trans (hb.mono hbw.size)
    replace hL := hL.below hb hL.lt
    replace hX := hX.below hb
    replace hBb := hBb.below hb
    have hzv : z4 ≤ V.heap.size := by rw [hz4]; exact hb.size
    clear hb
    obtain ⟨gs, rfl, hgs, hgs2, _⟩ := hBs.at HNS0.out
    go_upto_region 7 with (first
      | ((with_reducible refine (?_ : wpList _ _ _ (Oper.mk (some 37) _ _ _ _ _ :: _) _ _)); go_loud (refine wpList_load_mid rfl 23 (.tmp 36) rfl (w.heap.size) 33 rfl (N.map B8) _ (fun j v hv => (hL.cell (33 + j)).trans (HLN.out j v hv)) Try.underlying23 rfl (info12.trans (by rw [List.length_map, LN.out])) ?_))
      | ((with_reducible refine (?_ : wpList _ _ _ (Oper.mk none (.store 23 (.tmp 11) _) _ _ _ _ :: _) _ _)); go_loud (refine wpList_store_blk rfl 23 (.tmp 11) (.tmp 37) rfl rfl (V.heap.size) _ rfl rfl 23 _ (Blk.new_of V 23 _ (zero12.map B8) (by rfl)) (info12.trans (by rw [List.length_map, LN.out])) (by rw [List.length_map, List.length_map, LN.out]; rfl) (one8 _) ?_); intro w6 hG hg6))
    have hb6 := below_new ((Below.refl V.heap.size V).alloc (Nat.le_refl _) _) hg6 (Nat.le_refl _) (by simp)
    have hgn : gs < V.heap.size := hgs2
    replace hbw := hbw.trans (hb6.mono hbw.size)
    replace hL := hL.below hb6 hL.lt
    replace hX := hX.below hb6
    replace hBb := hBb.below hb6
    replace hBs := hBs.below hb6
    clear hb6 hg6
    generalize V.heap.size = gn at *
    go_upto_region 9 with (fail)
    rw [show wrap64 ((IntKind.u64.wrap a).tmod ((ns : Int) + 12 + (nb : Int))) = (k : Int) from HKW.out]
    generalize (IntKind.u64.wrap a).tmod ((ns : Int) + 12 + (nb : Int)) = tm
    generalize IntKind.u64.wrap a = ua
    by_cases hA : k < ns
    · skip
      have d1 : decide ((k : Int) < (ns : Int)) = true := by simp; omega
      have hkn : (k : Int) < (ns : Int) := by omega
      have hk0 : (0 : Int) ≤ (k : Int) := by omega
      obtain ⟨x, hx⟩ : ∃ x, x = S1.getD k 0 := ⟨_, rfl⟩
      obtain ⟨x1, hx1⟩ : ∃ x1, x1 = x ^^^ y := ⟨_, rfl⟩
      have hxx : bits .xor .u8 (x.toNat : Int) yi = (x1.toNat : Int) := by rw [HYI.out, b_xor, hx1]
      have hcc := hBs.cell_ hA
      rw [← hx] at hcc
      have HX := Lib.hid hx
      have HX1 := Lib.hid hx1
      clear hx hx1
      have hff := hBs.notFrozen (j := k) (by have := hBs.le; omega)
      go_upto_region 13 with (fail)
      replace hBs := hBs.set (i := k) (by omega) x1
      rw [show S1.set k x1 = bendB S1 k y by rw [HX1.out, HX.out]; rfl] at hBs
      replace hG := hG.far (p := ⟨gs, k, none⟩) (by simp; omega) (B8 x1)
      replace hBb := hBb.kept (grown_setCell (grown_refl w6 (some gs)) (p := ⟨gs, k, none⟩) (.inl rfl) (B8 x1)) (fun g e h => by have h1 := hbb.lt e; injection h with h; omega)
      have hX := (show BoxAt (w6.setCell ⟨gs, k, none⟩ (B8 x1)) gx gk gr R L from ⟨hX.box.far (by simp; omega) _, ⟨hX.key.key.far (by simp; omega) _, hX.key.rounds.far (by simp; omega) _, hX.key.len⟩, hX.lo, hX.hi⟩)
      replace hL := hL.far (p := ⟨gs, k, none⟩) (by simp; omega) (B8 x1)
      replace hbw := hbw.setCell (p := ⟨gs, k, none⟩) (by simp; omega) (B8 x1)
      clear hff hcc hxx HX HX1
      generalize w6.setCell ⟨gs, k, none⟩ (B8 x1) = w7 at *
      obtain ⟨N1, hN1⟩ : ∃ N1, N1 = N := ⟨_, rfl⟩
      obtain ⟨BB, hBB⟩ : ∃ BB, BB = B1 := ⟨_, rfl⟩
      obtain ⟨C, hC⟩ : ∃ C, C = List.take np (bendB S1 k y) := ⟨_, rfl⟩
      obtain ⟨T, hT⟩ : ∃ T, T = List.drop np (bendB S1 k y) := ⟨_, rfl⟩
      have hCT : C ++ T = bendB S1 k y := by rw [hC, hT]; exact List.take_append_drop ..
      have LN1 := Lib.hid (show N1.length = 12 by rw [hN1]; first | exact LN.out | (rw [bendB_length]; exact LN.out))
      have LBB := Lib.hid (show BB.length = nb by rw [hBB]; first | exact HNB.out | (rw [bendB_length]; exact HNB.out))
      have LC := Lib.hid (show C.length = np by rw [hC, List.length_take]; try rw [bendB_length]
                                                rw [HSL.out]; have := HNS.out; omega)
      have LT := Lib.hid (show T.length = 16 by rw [hT, List.length_drop]; try rw [bendB_length]
                                                rw [HSL.out]; have := HNS.out; omega)
      have H0 := Lib.hid (show y = 0 → tagE L R N1 C BB = T ∧ maskE L R N1 C = P1 by
        intro hy
        obtain ⟨e1, e2, e3, e4⟩ := HSP.out
        rw [hN1, hBB, hC, hT, hy]
        try rw [bendB_none]
        rw [e1, List.take_append_of_le_length (by omega), List.take_of_length_le (by omega), List.drop_append_of_le_length (by omega), List.drop_of_length_le (by omega), List.nil_append]
        exact ⟨rfl, e4⟩)
      have H1 := Lib.hid (show y ≠ 0 → tagE L R N1 C BB = T → sealS L R zero16 = zero16 by
        intro hy h
        rw [hN1, hBB, hC, hT] at h
        exact HZ1.out k (by have := HNS.out; omega) hy h)
      have hS := hBs.toIn (Nat.le_refl _)
      rw [← hCT] at hS
      have hB := hBb.toIn (Nat.le_refl _)
      rw [← hN1] at hG
      rw [← hBB] at hB
      clear hC hT hCT hN1 hBB hBs hBb d1 hk0 hx8 hz8 hzv hgs hgs2 hgn hbl hns2 hkm hz4
      by_cases hT : tagE L R N1 C BB = T
      · skip
        have HO1 := Lib.hid (fun (W : World) (cs cb : Nat) (As Ab : Option Addr) (h : BoxAt W gx gk gr R L) (is : In W W.heap.size As cs (C ++ T)) (ib : In W W.heap.size Ab cb BB) => (HOP.out W gx gk gr cs cb As Ab N1 C T BB h LN1.out LC.out LT.out LBB.out is ib).mono (fun e w' ⟨hb, hh⟩ => show Below W.heap.size W w' ∧ ∃ A' c', e = Ending.returned (.tuple #[.slice A' np c', .int .i64 0]) ∧ Buf w' W.heap.size A' np c' (maskE L R N1 C) from ⟨hb, hh.elim (fun h => h.2) (fun h => absurd hT h.1)⟩))
        have hml := show (maskE L R N1 C).length = np by rw [maskE_length, LC.out]
        have HMO := Lib.hid hml
        clear hml
        go_upto_region 14 with (first | ((with_reducible refine (?_ : wpList _ _ _ (Oper.mk (some 89) _ _ _ _ _ :: _) _ _)); go_loud (refine wpList_load_blk rfl 23 (.tmp 11) rfl (gn) rfl 23 _ _ hG Try.underlying23 rfl (info12.trans (by rw [List.length_map, LN1.out])) ?_)) | (go_at_call 12; go_loud (refine (HO1.out _ _ _ _ _ hX hS hB).mono ?_); rintro e w7 ⟨hb6, Ao, co, rfl, hBo⟩; replace hL := hL.below hb6 hL.lt; replace hG := hG.below hb6 hG.lt; replace hX := hX.below hb6; replace hB := in_up hB hb6; replace hS := in_up hS hb6; replace hbw := hbw.trans (hb6.mono hbw.size); have io := hBo.toIn (Nat.le_refl _); clear hb6 hBo))
        have HIO := Lib.hid io
        have HIS := Lib.hid hS
        have HIB := Lib.hid hB
        clear io hS hB
        by_cases hy : y = 0
        · skip
          have hyb : (yi == 0) = true := by rw [HYI.out, hy]; rfl
          have hop := (H0.out hy).2
          rw [hop] at HIO
          go_upto_region 15 with (fail)
          apply wp_region_once (D := [[], [0], [0, 1], [0, 1, 2], [0, 1, 2, 3], [0, 1, 2], [0, 1, 2, 5], [0, 1, 2, 5, 6], [0, 1, 2, 3, 4, 5, 6, 7], [0, 1, 2, 3, 4, 5, 6, 7, 8], [0, 1, 2, 3, 4, 5, 6, 7, 8, 9]]) (J := [[], [0], [1], [2], [2, 3], [2], [2, 5], [2, 6], [2, 4, 7], [2, 8], [9]]) (Je := [10]) (Rs := [Is _, Is _, Is _, Is _, Is _, Is _, fun v V => ∃ (A' : Option Addr) (c' : Nat), v = .slice A' np c' ∧ In V V.heap.size A' c' P1, Is _, Is _, Is _, Is _])
          · kernel_rfl
          · kernel_rfl
          · kernel_rfl
          · kernel_rfl
          · kernel_rfl
          · kernel_rfl
          · intro u
            simp only [List.map_cons, List.map_nil, fillU, List.setIfInBounds_toArray, List.set_cons_zero, List.set_cons_succ, Nat.zero_add, Nat.reduceAdd]
            exact rfl
          · skip
            refine ⟨fun u V hb hd K hK => ?_, ?_⟩
            · clear hd
              go_simp
              apply hK
              · simp only [Act.put, List.setIfInBounds_toArray, List.set_cons_zero, List.set_cons_succ]
                exact rfl
              · exact Below.refl _ _
              · exact IsOut
            refine ⟨fun u V hb hd K hK => ?_, ?_⟩
            · simp only [Facts, nthR, Is, and_true] at hd
              simp only [hd] at hK ⊢
              clear hd
              go_simp
              apply hK
              · simp only [Act.put, List.setIfInBounds_toArray, List.set_cons_zero, List.set_cons_succ]
                exact rfl
              · exact Below.refl _ _
              · exact IsOut
            refine ⟨fun u V hb hd K hK => ?_, ?_⟩
            · simp only [Facts, nthR, Is, and_true] at hd
              simp only [hd] at hK ⊢
              clear hd
              go_simp
              apply hK
              · simp only [Act.put, List.setIfInBounds_toArray, List.set_cons_zero, List.set_cons_succ]
                exact rfl
              · exact Below.refl _ _
              · exact IsOut
            refine ⟨fun u V hb hd K hK => ?_, ?_⟩
            · simp only [Facts, nthR, Is, and_true] at hd
              simp only [hd] at hK ⊢
              clear hd
              go_simp
              apply hK
              · simp only [Act.put, List.setIfInBounds_toArray, List.set_cons_zero, List.set_cons_succ]
                exact rfl
              · exact Below.refl _ _
              · exact IsOut
            refine ⟨fun u V hb hd K hK => ?_, ?_⟩
            · simp only [Facts, nthR, Is, and_true] at hd
              simp only [hd] at hK ⊢
              clear hd
              have hcv := conv_in HNP.out (in_up HIO.out hb)
              go_simp
              apply hK
              · simp only [Act.put, List.setIfInBounds_toArray, List.set_cons_zero, List.set_cons_succ]
                exact rfl
              · exact Below.refl _ _
              · exact IsOut
            refine ⟨fun u V hb hd K hK => ?_, ?_⟩
            · simp only [Facts, nthR, Is, and_true] at hd
              simp only [hd] at hK ⊢
              clear hd
              rw [if_pos (by rfl)]
              refine wp_load_mid 26 (.tmp 3) rfl (w.heap.size) 0 rfl (LL) _ (rangeAt_blk (hL.below hb hL.lt)) Try.underlying26 rfl (infoLet.trans (by rw [HLL.out])) ?_
              exact hK _ _ _ rfl (Below.refl _ _) IsOut
            refine ⟨fun u V hb hd K hK => ?_, ?_⟩
            · simp only [Facts, nthR, Is, and_true] at hd
              simp only [hd] at hK ⊢
              clear hd
              go_simp
              refine (HPE.out V (in_up iP (hbw.trans (hb.mono hbw.size)))).mono ?_
              rintro e wy ⟨A', n', c', rfl, hn', hB', hby⟩
              have hn2 : n' = np := by rw [← hn']; exact HNP.out
              subst hn2
              exact hK _ _ _ rfl hby ⟨A', c', rfl, hB'.toIn (Nat.le_refl _)⟩
            refine ⟨fun u V hb hd K hK => ?_, ?_⟩
            · simp only [Facts, nthR, Is, and_true] at hd
              obtain ⟨h0, ⟨A', c', h1, iR⟩⟩ := hd
              simp only [h0, h1] at hK ⊢
              clear h0 h1
              have hcv := conv_in HNP.out iR
              go_simp
              apply hK
              · simp only [Act.put, List.setIfInBounds_toArray, List.set_cons_zero, List.set_cons_succ]
                exact rfl
              · exact Below.refl _ _
              · exact IsOut
            refine ⟨fun u V hb hd K hK => ?_, ?_⟩
            · simp only [Facts, nthR, Is, and_true] at hd
              simp only [hd] at hK ⊢
              clear hd
              go_simp
              apply hK
              · simp only [Act.put, List.setIfInBounds_toArray, List.set_cons_zero, List.set_cons_succ]
                exact rfl
              · exact Below.refl _ _
              · exact IsOut
            refine ⟨fun u V hb hd K hK => ?_, ?_⟩
            · simp only [Facts, nthR, Is, and_true] at hd
              simp only [hd] at hK ⊢
              clear hd
              go_simp
              apply hK
              · simp only [Act.put, List.setIfInBounds_toArray, List.set_cons_zero, List.set_cons_succ]
                exact rfl
              · exact Below.refl _ _
              · exact IsOut
            refine ⟨fun u V hb hd K hK => ?_, ?_⟩
            · simp only [Facts, nthR, Is, and_true] at hd
              simp only [hd] at hK ⊢
              clear hd
              go_simp
              apply hK
              · simp only [Act.put, List.setIfInBounds_toArray, List.set_cons_zero, List.set_cons_succ]
                exact rfl
              · exact Below.refl _ _
              · exact IsOut
            exact trivial
          · exact (.is (.is (.is (.is (.is (.is (.cons (fun v V V' ⟨A', c', h1, h2⟩ hb => ⟨A', c', h1, in_up h2 hb⟩) (.is (.is (.is (.is .nil)))))))))))
          · intro u V hb hd
            simp only [Facts, nthR, Is, and_true] at hd
            simp only [hd]
            replace hbw := hbw.trans (hb.mono hbw.size)
            clear hb
            go_wp2
            go_ret
            exact ⟨rfl, hbw⟩
        · skip
          have hyb : (yi == 0) = false := by
            rw [beq_eq_false_iff_ne, HYI.out]
            exact fun h => hy (UInt8.toNat_inj.1 (by simpa using h))
          obtain ⟨Z, hZ⟩ : ∃ Z, Z = zero16 := ⟨_, rfl⟩
          have hqe : ∀ W : World, (binOp .eql 42 (BV Z) (.agg #[.int .u8 0, .int .u8 0, .int .u8 0, .int .u8 0, .int .u8 0, .int .u8 0, .int .u8 0, .int .u8 0, .int .u8 0, .int .u8 0, .int .u8 0, .int .u8 0, .int .u8 0, .int .u8 0, .int .u8 0, .int .u8 0])).run Try.prog W = .ok (.bool true) W := fun W => by rw [hZ]; exact eq16f zero16 rfl W
          have HKZ : Hid (∀ W : World, Calls Try.prog 18 #[.string ⟨KK.toArray⟩, .agg #[.int .u8 0, .int .u8 0, .int .u8 0, .int .u8 0, .int .u8 0, .int .u8 0, .int .u8 0, .int .u8 0, .int .u8 0, .int .u8 0, .int .u8 0, .int .u8 0, .int .u8 0, .int .u8 0, .int .u8 0, .int .u8 0]] W fun e w' => e = .returned (BV Z) ∧ Below W.heap.size W w') := fun W => by
            have := HKZ0.out W
            rw [H1.out hy hT] at this
            rw [hZ]
            exact this
          have HQE := Lib.hid hqe
          clear hZ hqe
          go_wp2_with (first
            | ((with_reducible refine (?_ : wpList _ _ _ (Oper.mk (some 114) _ _ _ _ _ :: _) _ _)); refine wpList_step (fun K hK => ?_); rw [if_pos (by rfl)]; go_loud (refine wp_load_mid 26 (.tmp 3) rfl (w.heap.size) 0 rfl LL _ (rangeAt_blk hL) Try.underlying26 rfl (infoLet.trans (by rw [HLL.out])) ?_); apply hK; clear hK)
            | (go_at_call 8; go_loud (refine (HKK.out _).mono ?_); rintro e w8 ⟨Ak, nk', ck, rfl, hnk, hBk, hb8⟩; subst hnk; replace hbw := hbw.trans (hb8.mono hbw.size); have hcv := conv_in LK.out (hBk.toIn (Nat.le_refl _)); clear hb8 hBk)
            | (go_at_call 18; go_loud (refine (HKZ.out _).mono ?_); rintro e w9 ⟨rfl, hb9⟩; replace hbw := hbw.trans (hb9.mono hbw.size); clear hb9; have hqe := HQE.out))
          go_ret
          exact ⟨rfl, hbw⟩
      · skip
        by_cases hy : y = 0
        · exact absurd (H0.out hy).1 hT
        have hyb : (yi == 0) = false := by
          rw [beq_eq_false_iff_ne, HYI.out]
          exact fun h => hy (UInt8.toNat_inj.1 (by simpa using h))
        have HO2 := Lib.hid (fun (W : World) (cs cb : Nat) (As Ab : Option Addr) (h : BoxAt W gx gk gr R L) (is : In W W.heap.size As cs (C ++ T)) (ib : In W W.heap.size Ab cb BB) => (HOP.out W gx gk gr cs cb As Ab N1 C T BB h LN1.out LC.out LT.out LBB.out is ib).mono (fun e w' ⟨hb, hh⟩ => show Below W.heap.size W w' ∧ e = Ending.returned (.tuple #[.slice none 0 0, .int .i64 5]) from ⟨hb, hh.elim (fun h => absurd h.1 hT) (fun h => h.2)⟩))
        go_upto_region 14 with (first | ((with_reducible refine (?_ : wpList _ _ _ (Oper.mk (some 89) _ _ _ _ _ :: _) _ _)); go_loud (refine wpList_load_blk rfl 23 (.tmp 11) rfl (gn) rfl 23 _ _ hG Try.underlying23 rfl (info12.trans (by rw [List.length_map, LN1.out])) ?_)) | (go_at_call 12; go_loud (refine (HO2.out _ _ _ _ _ hX hS hB).mono ?_); rintro e w7 ⟨hb6, rfl⟩; replace hL := hL.below hb6 hL.lt; replace hG := hG.below hb6 hG.lt; replace hX := hX.below hb6; replace hB := in_up hB hb6; replace hS := in_up hS hb6; replace hbw := hbw.trans (hb6.mono hbw.size); clear hb6))
        go_wp2
        go_ret
        exact ⟨rfl, hbw⟩
    by_cases hC : k < ns + 12
    · skip
      obtain ⟨q, hq⟩ : ∃ q, q = k - ns := ⟨_, rfl⟩
      have d1 : decide ((k : Int) < (ns : Int)) = false := by simp; omega
      have d2 : decide ((k : Int) < (ns : Int) + 12) = true := by simp; omega
      have hkn : ¬ (k : Int) < (ns : Int) := by omega
      have hq1 : (k : Int) - (ns : Int) = (q : Int) := by omega
      have hq2 : (q : Int) < 12 := by omega
      have hq0 : (0 : Int) ≤ (q : Int) := by omega
      clear hq
      obtain ⟨x, hx⟩ : ∃ x, x = N.getD q 0 := ⟨_, rfl⟩
      obtain ⟨x1, hx1⟩ : ∃ x1, x1 = x ^^^ y := ⟨_, rfl⟩
      have hxx : bits .xor .u8 (x.toNat : Int) yi = (x1.toNat : Int) := by rw [HYI.out, b_xor, hx1]
      have hcc : w6.cell? ⟨gn, q, none⟩ = some (B8 (N.getD q 0)) := hG.at8 q (by rw [LN.out]; omega)
      rw [← hx] at hcc
      have HX := Lib.hid hx
      have HX1 := Lib.hid hx1
      clear hx hx1
      have hff := hG.frozen q
      go_upto_region 13 with (fail)
      replace hG := hG.set_ q (B8 x1)
      rw [map_set8, show N.set q x1 = bendB N q y by rw [HX1.out, HX.out]; rfl] at hG
      replace hBs := hBs.kept (grown_setCell (grown_refl w6 (some gn)) (p := ⟨gn, q, none⟩) (.inl rfl) (B8 x1)) (fun g e h => by injection e with e; injection e with e; injection h with h; omega)
      replace hBb := hBb.kept (grown_setCell (grown_refl w6 (some gn)) (p := ⟨gn, q, none⟩) (.inl rfl) (B8 x1)) (fun g e h => by have h1 := hbb.lt e; injection h with h; omega)
      have hX := (show BoxAt (w6.setCell ⟨gn, q, none⟩ (B8 x1)) gx gk gr R L from ⟨hX.box.far (by simp; omega) _, ⟨hX.key.key.far (by simp; omega) _, hX.key.rounds.far (by simp; omega) _, hX.key.len⟩, hX.lo, hX.hi⟩)
      replace hL := hL.far (p := ⟨gn, q, none⟩) (by simp; omega) (B8 x1)
      replace hbw := hbw.setCell (p := ⟨gn, q, none⟩) (by simp; omega) (B8 x1)
      clear hff hcc hxx HX HX1
      generalize w6.setCell ⟨gn, q, none⟩ (B8 x1) = w7 at *
      obtain ⟨N1, hN1⟩ : ∃ N1, N1 = bendB N q y := ⟨_, rfl⟩
      obtain ⟨BB, hBB⟩ : ∃ BB, BB = B1 := ⟨_, rfl⟩
      obtain ⟨C, hC⟩ : ∃ C, C = List.take np (S1) := ⟨_, rfl⟩
      obtain ⟨T, hT⟩ : ∃ T, T = List.drop np (S1) := ⟨_, rfl⟩
      have hCT : C ++ T = S1 := by rw [hC, hT]; exact List.take_append_drop ..
      have LN1 := Lib.hid (show N1.length = 12 by rw [hN1]; first | exact LN.out | (rw [bendB_length]; exact LN.out))
      have LBB := Lib.hid (show BB.length = nb by rw [hBB]; first | exact HNB.out | (rw [bendB_length]; exact HNB.out))
      have LC := Lib.hid (show C.length = np by rw [hC, List.length_take]; try rw [bendB_length]
                                                rw [HSL.out]; have := HNS.out; omega)
      have LT := Lib.hid (show T.length = 16 by rw [hT, List.length_drop]; try rw [bendB_length]
                                                rw [HSL.out]; have := HNS.out; omega)
      have H0 := Lib.hid (show y = 0 → tagE L R N1 C BB = T ∧ maskE L R N1 C = P1 by
        intro hy
        obtain ⟨e1, e2, e3, e4⟩ := HSP.out
        rw [hN1, hBB, hC, hT, hy]
        try rw [bendB_none]
        rw [e1, List.take_append_of_le_length (by omega), List.take_of_length_le (by omega), List.drop_append_of_le_length (by omega), List.drop_of_length_le (by omega), List.nil_append]
        exact ⟨rfl, e4⟩)
      have HCT := Lib.hid hCT
      have hS := hBs.toIn (Nat.le_refl _)
      rw [← hCT] at hS
      have hB := hBb.toIn (Nat.le_refl _)
      rw [← hN1] at hG
      rw [← hBB] at hB
      clear hC hT hCT hN1 hBB hBs hBb d1 d2 hq1 hq2 hq0 hx8 hz8 hzv hgs hgs2 hgn hbl hns2 hkm hz4
      by_cases hT : tagE L R N1 C BB = T
      · skip
        have HO1 := Lib.hid (fun (W : World) (cs cb : Nat) (As Ab : Option Addr) (h : BoxAt W gx gk gr R L) (is : In W W.heap.size As cs (C ++ T)) (ib : In W W.heap.size Ab cb BB) => (HOP.out W gx gk gr cs cb As Ab N1 C T BB h LN1.out LC.out LT.out LBB.out is ib).mono (fun e w' ⟨hb, hh⟩ => show Below W.heap.size W w' ∧ ∃ A' c', e = Ending.returned (.tuple #[.slice A' np c', .int .i64 0]) ∧ Buf w' W.heap.size A' np c' (maskE L R N1 C) from ⟨hb, hh.elim (fun h => h.2) (fun h => absurd hT h.1)⟩))
        have hml := show (maskE L R N1 C).length = np by rw [maskE_length, LC.out]
        have HMO := Lib.hid hml
        clear hml
        go_upto_region 14 with (first | ((with_reducible refine (?_ : wpList _ _ _ (Oper.mk (some 89) _ _ _ _ _ :: _) _ _)); go_loud (refine wpList_load_blk rfl 23 (.tmp 11) rfl (gn) rfl 23 _ _ hG Try.underlying23 rfl (info12.trans (by rw [List.length_map, LN1.out])) ?_)) | (go_at_call 12; go_loud (refine (HO1.out _ _ _ _ _ hX hS hB).mono ?_); rintro e w7 ⟨hb6, Ao, co, rfl, hBo⟩; replace hL := hL.below hb6 hL.lt; replace hG := hG.below hb6 hG.lt; replace hX := hX.below hb6; replace hB := in_up hB hb6; replace hS := in_up hS hb6; replace hbw := hbw.trans (hb6.mono hbw.size); have io := hBo.toIn (Nat.le_refl _); clear hb6 hBo))
        have HIO := Lib.hid io
        have HIS := Lib.hid hS
        have HIB := Lib.hid hB
        clear io hS hB
        by_cases hy : y = 0
        · skip
          have hyb : (yi == 0) = true := by rw [HYI.out, hy]; rfl
          have hop := (H0.out hy).2
          rw [hop] at HIO
          go_upto_region 15 with (fail)
          apply wp_region_once (D := [[], [0], [0, 1], [0, 1, 2], [0, 1, 2, 3], [0, 1, 2], [0, 1, 2, 5], [0, 1, 2, 5, 6], [0, 1, 2, 3, 4, 5, 6, 7], [0, 1, 2, 3, 4, 5, 6, 7, 8], [0, 1, 2, 3, 4, 5, 6, 7, 8, 9]]) (J := [[], [0], [1], [2], [2, 3], [2], [2, 5], [2, 6], [2, 4, 7], [2, 8], [9]]) (Je := [10]) (Rs := [Is _, Is _, Is _, Is _, Is _, Is _, fun v V => ∃ (A' : Option Addr) (c' : Nat), v = .slice A' np c' ∧ In V V.heap.size A' c' P1, Is _, Is _, Is _, Is _])
          · kernel_rfl
          · kernel_rfl
          · kernel_rfl
          · kernel_rfl
          · kernel_rfl
          · kernel_rfl
          · intro u
            simp only [List.map_cons, List.map_nil, fillU, List.setIfInBounds_toArray, List.set_cons_zero, List.set_cons_succ, Nat.zero_add, Nat.reduceAdd]
            exact rfl
          · skip
            refine ⟨fun u V hb hd K hK => ?_, ?_⟩
            · clear hd
              go_simp
              apply hK
              · simp only [Act.put, List.setIfInBounds_toArray, List.set_cons_zero, List.set_cons_succ]
                exact rfl
              · exact Below.refl _ _
              · exact IsOut
            refine ⟨fun u V hb hd K hK => ?_, ?_⟩
            · simp only [Facts, nthR, Is, and_true] at hd
              simp only [hd] at hK ⊢
              clear hd
              go_simp
              apply hK
              · simp only [Act.put, List.setIfInBounds_toArray, List.set_cons_zero, List.set_cons_succ]
                exact rfl
              · exact Below.refl _ _
              · exact IsOut
            refine ⟨fun u V hb hd K hK => ?_, ?_⟩
            · simp only [Facts, nthR, Is, and_true] at hd
              simp only [hd] at hK ⊢
              clear hd
              go_simp
              apply hK
              · simp only [Act.put, List.setIfInBounds_toArray, List.set_cons_zero, List.set_cons_succ]
                exact rfl
              · exact Below.refl _ _
              · exact IsOut
            refine ⟨fun u V hb hd K hK => ?_, ?_⟩
            · simp only [Facts, nthR, Is, and_true] at hd
              simp only [hd] at hK ⊢
              clear hd
              go_simp
              apply hK
              · simp only [Act.put, List.setIfInBounds_toArray, List.set_cons_zero, List.set_cons_succ]
                exact rfl
              · exact Below.refl _ _
              · exact IsOut
            refine ⟨fun u V hb hd K hK => ?_, ?_⟩
            · simp only [Facts, nthR, Is, and_true] at hd
              simp only [hd] at hK ⊢
              clear hd
              have hcv := conv_in HNP.out (in_up HIO.out hb)
              go_simp
              apply hK
              · simp only [Act.put, List.setIfInBounds_toArray, List.set_cons_zero, List.set_cons_succ]
                exact rfl
              · exact Below.refl _ _
              · exact IsOut
            refine ⟨fun u V hb hd K hK => ?_, ?_⟩
            · simp only [Facts, nthR, Is, and_true] at hd
              simp only [hd] at hK ⊢
              clear hd
              rw [if_pos (by rfl)]
              refine wp_load_mid 26 (.tmp 3) rfl (w.heap.size) 0 rfl (LL) _ (rangeAt_blk (hL.below hb hL.lt)) Try.underlying26 rfl (infoLet.trans (by rw [HLL.out])) ?_
              exact hK _ _ _ rfl (Below.refl _ _) IsOut
            refine ⟨fun u V hb hd K hK => ?_, ?_⟩
            · simp only [Facts, nthR, Is, and_true] at hd
              simp only [hd] at hK ⊢
              clear hd
              go_simp
              refine (HPE.out V (in_up iP (hbw.trans (hb.mono hbw.size)))).mono ?_
              rintro e wy ⟨A', n', c', rfl, hn', hB', hby⟩
              have hn2 : n' = np := by rw [← hn']; exact HNP.out
              subst hn2
              exact hK _ _ _ rfl hby ⟨A', c', rfl, hB'.toIn (Nat.le_refl _)⟩
            refine ⟨fun u V hb hd K hK => ?_, ?_⟩
            · simp only [Facts, nthR, Is, and_true] at hd
              obtain ⟨h0, ⟨A', c', h1, iR⟩⟩ := hd
              simp only [h0, h1] at hK ⊢
              clear h0 h1
              have hcv := conv_in HNP.out iR
              go_simp
              apply hK
              · simp only [Act.put, List.setIfInBounds_toArray, List.set_cons_zero, List.set_cons_succ]
                exact rfl
              · exact Below.refl _ _
              · exact IsOut
            refine ⟨fun u V hb hd K hK => ?_, ?_⟩
            · simp only [Facts, nthR, Is, and_true] at hd
              simp only [hd] at hK ⊢
              clear hd
              go_simp
              apply hK
              · simp only [Act.put, List.setIfInBounds_toArray, List.set_cons_zero, List.set_cons_succ]
                exact rfl
              · exact Below.refl _ _
              · exact IsOut
            refine ⟨fun u V hb hd K hK => ?_, ?_⟩
            · simp only [Facts, nthR, Is, and_true] at hd
              simp only [hd] at hK ⊢
              clear hd
              go_simp
              apply hK
              · simp only [Act.put, List.setIfInBounds_toArray, List.set_cons_zero, List.set_cons_succ]
                exact rfl
              · exact Below.refl _ _
              · exact IsOut
            refine ⟨fun u V hb hd K hK => ?_, ?_⟩
            · simp only [Facts, nthR, Is, and_true] at hd
              simp only [hd] at hK ⊢
              clear hd
              go_simp
              apply hK
              · simp only [Act.put, List.setIfInBounds_toArray, List.set_cons_zero, List.set_cons_succ]
                exact rfl
              · exact Below.refl _ _
              · exact IsOut
            exact trivial
          · exact (.is (.is (.is (.is (.is (.is (.cons (fun v V V' ⟨A', c', h1, h2⟩ hb => ⟨A', c', h1, in_up h2 hb⟩) (.is (.is (.is (.is .nil)))))))))))
          · intro u V hb hd
            simp only [Facts, nthR, Is, and_true] at hd
            simp only [hd]
            replace hbw := hbw.trans (hb.mono hbw.size)
            clear hb
            go_wp2
            go_ret
            exact ⟨rfl, hbw⟩
        · skip
          have hyb : (yi == 0) = false := by
            rw [beq_eq_false_iff_ne, HYI.out]
            exact fun h => hy (UInt8.toNat_inj.1 (by simpa using h))
          go_upto_region 18 with (fail)
          have HS2 := Lib.hid (fun (W : World) (cp cb : Nat) (Ap Ab : Option Addr) (h : BoxAt W gx gk gr R L) (ip : In W W.heap.size Ap cp (maskE L R N1 C)) (ib : In W W.heap.size Ab cb BB) => HSE2.out W gx gk gr cp cb Ap Ab N1 (maskE L R N1 C) BB h LN1.out HMO.out LBB.out ip ib)
          rw [show boxE L R N1 (maskE L R N1 C) BB = S1 by unfold boxE; rw [maskE_twice, hT, HCT.out]] at HS2
          rw [HCT.out] at HIS
          generalize maskE L R N1 C = O1 at *
          apply wp_region_once (D := [[], [0], [0, 1], [0, 1, 2], [0, 1, 2], [0, 1, 2], [0, 1, 2], [0, 1, 2, 3, 4, 5, 6], [0, 1, 2, 3, 4, 5, 6, 7], [0, 1, 2], [0, 1, 2, 9], [0, 1, 2, 3, 4, 5, 6, 7, 8, 9, 10], [0, 1, 2, 3, 4, 5, 6, 7, 8, 9, 10, 11], [0, 1, 2, 3, 4, 5, 6, 7, 8, 9, 10, 11, 12]]) (J := [[], [0], [1], [2], [2], [2], [2], [2, 3, 4, 5, 6], [2, 7], [2], [2, 9], [2, 8, 10], [2, 11], [12]]) (Je := [13]) (Rs := [Is _, Is _, Is _, Is _, Is _, Is _, Is _, fun v V => ∃ (A' : Option Addr) (c' : Nat), v = .slice A' ns c' ∧ In V V.heap.size A' c' S1, Is _, Is _, Is _, Is _, Is _, Is _])
          · kernel_rfl
          · kernel_rfl
          · kernel_rfl
          · kernel_rfl
          · kernel_rfl
          · kernel_rfl
          · intro u
            simp only [List.map_cons, List.map_nil, fillU, List.setIfInBounds_toArray, List.set_cons_zero, List.set_cons_succ, Nat.zero_add, Nat.reduceAdd]
            exact rfl
          · skip
            refine ⟨fun u V hb hd K hK => ?_, ?_⟩
            · clear hd
              go_simp
              apply hK
              · simp only [Act.put, List.setIfInBounds_toArray, List.set_cons_zero, List.set_cons_succ]
                exact rfl
              · exact Below.refl _ _
              · exact IsOut
            refine ⟨fun u V hb hd K hK => ?_, ?_⟩
            · simp only [Facts, nthR, Is, and_true] at hd
              simp only [hd] at hK ⊢
              clear hd
              go_simp
              apply hK
              · simp only [Act.put, List.setIfInBounds_toArray, List.set_cons_zero, List.set_cons_succ]
                exact rfl
              · exact Below.refl _ _
              · exact IsOut
            refine ⟨fun u V hb hd K hK => ?_, ?_⟩
            · simp only [Facts, nthR, Is, and_true] at hd
              simp only [hd] at hK ⊢
              clear hd
              go_simp
              apply hK
              · simp only [Act.put, List.setIfInBounds_toArray, List.set_cons_zero, List.set_cons_succ]
                exact rfl
              · exact Below.refl _ _
              · exact IsOut
            refine ⟨fun u V hb hd K hK => ?_, ?_⟩
            · simp only [Facts, nthR, Is, and_true] at hd
              simp only [hd] at hK ⊢
              clear hd
              go_simp
              apply hK
              · simp only [Act.put, List.setIfInBounds_toArray, List.set_cons_zero, List.set_cons_succ]
                exact rfl
              · exact Below.refl _ _
              · exact IsOut
            refine ⟨fun u V hb hd K hK => ?_, ?_⟩
            · simp only [Facts, nthR, Is, and_true] at hd
              simp only [hd] at hK ⊢
              clear hd
              rw [if_pos (by rfl)]
              refine wp_load_mid 23 (.tmp 11) rfl (gn) (0) rfl (N1.map B8) _ ((rangeAt_blk (hG.below hb hG.lt))) Try.underlying23 rfl (info12.trans (by rw [List.length_map, LN1.out])) ?_
              exact hK _ _ _ rfl (Below.refl _ _) IsOut
            refine ⟨fun u V hb hd K hK => ?_, ?_⟩
            · simp only [Facts, nthR, Is, and_true] at hd
              simp only [hd] at hK ⊢
              clear hd
              go_simp
              apply hK
              · simp only [Act.put, List.setIfInBounds_toArray, List.set_cons_zero, List.set_cons_succ]
                exact rfl
              · exact Below.refl _ _
              · exact IsOut
            refine ⟨fun u V hb hd K hK => ?_, ?_⟩
            · simp only [Facts, nthR, Is, and_true] at hd
              simp only [hd] at hK ⊢
              clear hd
              go_simp
              apply hK
              · simp only [Act.put, List.setIfInBounds_toArray, List.set_cons_zero, List.set_cons_succ]
                exact rfl
              · exact Below.refl _ _
              · exact IsOut
            refine ⟨fun u V hb hd K hK => ?_, ?_⟩
            · simp only [Facts, nthR, Is, and_true] at hd
              simp only [hd] at hK ⊢
              clear hd
              go_simp
              refine (HS2.out V _ _ _ _ (hX.below hb) (in_up HIO.out hb) (in_up HIB.out hb)).mono ?_
              rintro e wy ⟨A', n', c', rfl, hn', hB', hby⟩
              subst hn'
              exact hK _ _ _ rfl hby ⟨A', c', rfl, hB'.toIn (Nat.le_refl _)⟩
            refine ⟨fun u V hb hd K hK => ?_, ?_⟩
            · simp only [Facts, nthR, Is, and_true] at hd
              obtain ⟨h0, ⟨A', c', h1, iR⟩⟩ := hd
              simp only [h0, h1] at hK ⊢
              clear h0 h1
              have hcv := conv_in HSL.out iR
              go_simp
              apply hK
              · simp only [Act.put, List.setIfInBounds_toArray, List.set_cons_zero, List.set_cons_succ]
                exact rfl
              · exact Below.refl _ _
              · exact IsOut
            refine ⟨fun u V hb hd K hK => ?_, ?_⟩
            · simp only [Facts, nthR, Is, and_true] at hd
              simp only [hd] at hK ⊢
              clear hd
              go_simp
              apply hK
              · simp only [Act.put, List.setIfInBounds_toArray, List.set_cons_zero, List.set_cons_succ]
                exact rfl
              · exact Below.refl _ _
              · exact IsOut
            refine ⟨fun u V hb hd K hK => ?_, ?_⟩
            · simp only [Facts, nthR, Is, and_true] at hd
              simp only [hd] at hK ⊢
              clear hd
              have hcv := conv_in HSL.out (in_up HIS.out hb)
              go_simp
              apply hK
              · simp only [Act.put, List.setIfInBounds_toArray, List.set_cons_zero, List.set_cons_succ]
                exact rfl
              · exact Below.refl _ _
              · exact IsOut
            refine ⟨fun u V hb hd K hK => ?_, ?_⟩
            · simp only [Facts, nthR, Is, and_true] at hd
              simp only [hd] at hK ⊢
              clear hd
              go_simp
              apply hK
              · simp only [Act.put, List.setIfInBounds_toArray, List.set_cons_zero, List.set_cons_succ]
                exact rfl
              · exact Below.refl _ _
              · exact IsOut
            refine ⟨fun u V hb hd K hK => ?_, ?_⟩
            · simp only [Facts, nthR, Is, and_true] at hd
              simp only [hd] at hK ⊢
              clear hd
              go_simp
              apply hK
              · simp only [Act.put, List.setIfInBounds_toArray, List.set_cons_zero, List.set_cons_succ]
                exact rfl
              · exact Below.refl _ _
              · exact IsOut
            refine ⟨fun u V hb hd K hK => ?_, ?_⟩
            · simp only [Facts, nthR, Is, and_true] at hd
              simp only [hd] at hK ⊢
              clear hd
              go_simp
              apply hK
              · simp only [Act.put, List.setIfInBounds_toArray, List.set_cons_zero, List.set_cons_succ]
                exact rfl
              · exact Below.refl _ _
              · exact IsOut
            exact trivial
          · exact (.is (.is (.is (.is (.is (.is (.is (.cons (fun v V V' ⟨A', c', h1, h2⟩ hb => ⟨A', c', h1, in_up h2 hb⟩) (.is (.is (.is (.is (.is (.is .nil))))))))))))))
          · intro u V hb hd
            simp only [Facts, nthR, Is, and_true] at hd
            simp only [hd]
            replace hbw := hbw.trans (hb.mono hbw.size)
            clear hb
            go_wp2
            go_ret
            exact ⟨rfl, hbw⟩
      · skip
        by_cases hy : y = 0
        · exact absurd (H0.out hy).1 hT
        have hyb : (yi == 0) = false := by
          rw [beq_eq_false_iff_ne, HYI.out]
          exact fun h => hy (UInt8.toNat_inj.1 (by simpa using h))
        have HO2 := Lib.hid (fun (W : World) (cs cb : Nat) (As Ab : Option Addr) (h : BoxAt W gx gk gr R L) (is : In W W.heap.size As cs (C ++ T)) (ib : In W W.heap.size Ab cb BB) => (HOP.out W gx gk gr cs cb As Ab N1 C T BB h LN1.out LC.out LT.out LBB.out is ib).mono (fun e w' ⟨hb, hh⟩ => show Below W.heap.size W w' ∧ e = Ending.returned (.tuple #[.slice none 0 0, .int .i64 5]) from ⟨hb, hh.elim (fun h => absurd h.1 hT) (fun h => h.2)⟩))
        go_upto_region 14 with (first | ((with_reducible refine (?_ : wpList _ _ _ (Oper.mk (some 89) _ _ _ _ _ :: _) _ _)); go_loud (refine wpList_load_blk rfl 23 (.tmp 11) rfl (gn) rfl 23 _ _ hG Try.underlying23 rfl (info12.trans (by rw [List.length_map, LN1.out])) ?_)) | (go_at_call 12; go_loud (refine (HO2.out _ _ _ _ _ hX hS hB).mono ?_); rintro e w7 ⟨hb6, rfl⟩; replace hL := hL.below hb6 hL.lt; replace hG := hG.below hb6 hG.lt; replace hX := hX.below hb6; replace hB := in_up hB hb6; replace hS := in_up hS hb6; replace hbw := hbw.trans (hb6.mono hbw.size); clear hb6))
        go_upto_region 18 with (fail)
        apply wp_region_once (D := [[], [0], [0, 1], [0, 1, 2], [0, 1, 2], [0, 1, 2], [0, 1, 2], [0, 1, 2, 3, 4, 5, 6], [0, 1, 2, 3, 4, 5, 6, 7], [0, 1, 2], [0, 1, 2, 9], [0, 1, 2, 3, 4, 5, 6, 7, 8, 9, 10], [0, 1, 2, 3, 4, 5, 6, 7, 8, 9, 10, 11], [0, 1, 2, 3, 4, 5, 6, 7, 8, 9, 10, 11, 12]]) (J := [[], [0], [1], [2], [2], [2], [2], [2, 3, 4, 5, 6], [2, 7], [2], [2, 9], [2, 8, 10], [2, 11], [12]]) (Je := [13]) (Rs := [Is _, Is _, Is _, Is _, Is _, Is _, Is _, Is _, Is _, Is _, Is _, Is _, Is _, Is _])
        · kernel_rfl
        · kernel_rfl
        · kernel_rfl
        · kernel_rfl
        · kernel_rfl
        · kernel_rfl
        · intro u
          simp only [List.map_cons, List.map_nil, fillU, List.setIfInBounds_toArray, List.set_cons_zero, List.set_cons_succ, Nat.zero_add, Nat.reduceAdd]
          exact rfl
        · skip
          refine ⟨fun u V hb hd K hK => ?_, ?_⟩
          · clear hd
            go_simp
            apply hK
            · simp only [Act.put, List.setIfInBounds_toArray, List.set_cons_zero, List.set_cons_succ]
              exact rfl
            · exact Below.refl _ _
            · exact IsOut
          refine ⟨fun u V hb hd K hK => ?_, ?_⟩
          · simp only [Facts, nthR, Is, and_true] at hd
            simp only [hd] at hK ⊢
            clear hd
            go_simp
            apply hK
            · simp only [Act.put, List.setIfInBounds_toArray, List.set_cons_zero, List.set_cons_succ]
              exact rfl
            · exact Below.refl _ _
            · exact IsOut
          refine ⟨fun u V hb hd K hK => ?_, ?_⟩
          · simp only [Facts, nthR, Is, and_true] at hd
            simp only [hd] at hK ⊢
            clear hd
            go_simp
            apply hK
            · simp only [Act.put, List.setIfInBounds_toArray, List.set_cons_zero, List.set_cons_succ]
              exact rfl
            · exact Below.refl _ _
            · exact IsOut
          refine ⟨fun u V hb hd K hK => ?_, ?_⟩
          · simp only [Facts, nthR, Is, and_true] at hd
            simp only [hd] at hK ⊢
            clear hd
            go_simp
            apply hK
            · simp only [Act.put, List.setIfInBounds_toArray, List.set_cons_zero, List.set_cons_succ]
              exact rfl
            · exact Below.refl _ _
            · exact IsOut
          refine ⟨fun u V hb hd K hK => ?_, ?_⟩
          · simp only [Facts, nthR, Is, and_true] at hd
            simp only [hd] at hK ⊢
            clear hd
            go_simp
            apply hK
            · simp only [Act.put, List.setIfInBounds_toArray, List.set_cons_zero, List.set_cons_succ]
              exact rfl
            · exact Below.refl _ _
            · exact IsOut
          refine ⟨fun u V hb hd K hK => ?_, ?_⟩
          · simp only [Facts, nthR, Is, and_true] at hd
            simp only [hd] at hK ⊢
            clear hd
            go_simp
            apply hK
            · simp only [Act.put, List.setIfInBounds_toArray, List.set_cons_zero, List.set_cons_succ]
              exact rfl
            · exact Below.refl _ _
            · exact IsOut
          refine ⟨fun u V hb hd K hK => ?_, ?_⟩
          · simp only [Facts, nthR, Is, and_true] at hd
            simp only [hd] at hK ⊢
            clear hd
            go_simp
            apply hK
            · simp only [Act.put, List.setIfInBounds_toArray, List.set_cons_zero, List.set_cons_succ]
              exact rfl
            · exact Below.refl _ _
            · exact IsOut
          refine ⟨fun u V hb hd K hK => ?_, ?_⟩
          · simp only [Facts, nthR, Is, and_true] at hd
            simp only [hd] at hK ⊢
            clear hd
            go_simp
            apply hK
            · simp only [Act.put, List.setIfInBounds_toArray, List.set_cons_zero, List.set_cons_succ]
              exact rfl
            · exact Below.refl _ _
            · exact IsOut
          refine ⟨fun u V hb hd K hK => ?_, ?_⟩
          · simp only [Facts, nthR, Is, and_true] at hd
            simp only [hd] at hK ⊢
            clear hd
            go_simp
            apply hK
            · simp only [Act.put, List.setIfInBounds_toArray, List.set_cons_zero, List.set_cons_succ]
              exact rfl
            · exact Below.refl _ _
            · exact IsOut
          refine ⟨fun u V hb hd K hK => ?_, ?_⟩
          · simp only [Facts, nthR, Is, and_true] at hd
            simp only [hd] at hK ⊢
            clear hd
            go_simp
            apply hK
            · simp only [Act.put, List.setIfInBounds_toArray, List.set_cons_zero, List.set_cons_succ]
              exact rfl
            · exact Below.refl _ _
            · exact IsOut
          refine ⟨fun u V hb hd K hK => ?_, ?_⟩
          · simp only [Facts, nthR, Is, and_true] at hd
            simp only [hd] at hK ⊢
            clear hd
            go_simp
            apply hK
            · simp only [Act.put, List.setIfInBounds_toArray, List.set_cons_zero, List.set_cons_succ]
              exact rfl
            · exact Below.refl _ _
            · exact IsOut
          refine ⟨fun u V hb hd K hK => ?_, ?_⟩
          · simp only [Facts, nthR, Is, and_true] at hd
            simp only [hd] at hK ⊢
            clear hd
            go_simp
            apply hK
            · simp only [Act.put, List.setIfInBounds_toArray, List.set_cons_zero, List.set_cons_succ]
              exact rfl
            · exact Below.refl _ _
            · exact IsOut
          refine ⟨fun u V hb hd K hK => ?_, ?_⟩
          · simp only [Facts, nthR, Is, and_true] at hd
            simp only [hd] at hK ⊢
            clear hd
            go_simp
            apply hK
            · simp only [Act.put, List.setIfInBounds_toArray, List.set_cons_zero, List.set_cons_succ]
              exact rfl
            · exact Below.refl _ _
            · exact IsOut
          refine ⟨fun u V hb hd K hK => ?_, ?_⟩
          · simp only [Facts, nthR, Is, and_true] at hd
            simp only [hd] at hK ⊢
            clear hd
            go_simp
            apply hK
            · simp only [Act.put, List.setIfInBounds_toArray, List.set_cons_zero, List.set_cons_succ]
              exact rfl
            · exact Below.refl _ _
            · exact IsOut
          exact trivial
        · exact (.is (.is (.is (.is (.is (.is (.is (.is (.is (.is (.is (.is (.is (.is .nil))))))))))))))
        · intro u V hb hd
          simp only [Facts, nthR, Is, and_true] at hd
          simp only [hd]
          replace hbw := hbw.trans (hb.mono hbw.size)
          clear hb
          go_wp2
          go_ret
          exact ⟨rfl, hbw⟩
    obtain ⟨q, hq⟩ : ∃ q, q = k - ns - 12 := ⟨_, rfl⟩
    obtain ⟨q1, hq1⟩ : ∃ q1, q1 = k - ns := ⟨_, rfl⟩
    have d1 : decide ((k : Int) < (ns : Int)) = false := by simp; omega
    have d2 : decide ((k : Int) < (ns : Int) + 12) = false := by simp; omega
    have hkn : ¬ (k : Int) < (ns : Int) := by omega
    have hq3 : (k : Int) - (ns : Int) = (q1 : Int) := by omega
    have hq4 : (q1 : Int) - 12 = (q : Int) := by omega
    have hq2 : (q : Int) < (nb : Int) := by omega
    have hq0 : (0 : Int) ≤ (q : Int) := by omega
    clear hq hq1
    obtain ⟨gb, rfl, hgb, hgb2, _⟩ := hBb.at (by omega)
    obtain ⟨x, hx⟩ : ∃ x, x = B1.getD q 0 := ⟨_, rfl⟩
    obtain ⟨x1, hx1⟩ : ∃ x1, x1 = x ^^^ y := ⟨_, rfl⟩
    have hxx : bits .xor .u8 (x.toNat : Int) yi = (x1.toNat : Int) := by rw [HYI.out, b_xor, hx1]
    have hcc := hBb.cell_ (k := q) (by omega)
    rw [← hx] at hcc
    have HX := Lib.hid hx
    have HX1 := Lib.hid hx1
    clear hx hx1
    have hff := hBb.notFrozen (j := q) (by have := hBb.le; omega)
    have hgb3 := (hbb.lt rfl).2
    go_upto_region 13 with (fail)
    replace hBb := hBb.set (i := q) (by omega) x1
    rw [show B1.set q x1 = bendB B1 q y by rw [HX1.out, HX.out]; rfl] at hBb
    replace hG := hG.far (p := ⟨gb, q, none⟩) (by simp; omega) (B8 x1)
    replace hBs := hBs.kept (grown_setCell (grown_refl w6 (some gb)) (p := ⟨gb, q, none⟩) (.inl rfl) (B8 x1)) (fun g e h => by injection e with e; injection e with e; injection h with h; omega)
    have hX := (show BoxAt (w6.setCell ⟨gb, q, none⟩ (B8 x1)) gx gk gr R L from ⟨hX.box.far (by simp; omega) _, ⟨hX.key.key.far (by simp; omega) _, hX.key.rounds.far (by simp; omega) _, hX.key.len⟩, hX.lo, hX.hi⟩)
    replace hL := hL.far (p := ⟨gb, q, none⟩) (by simp; omega) (B8 x1)
    replace hbw := hbw.setCell (p := ⟨gb, q, none⟩) (by simp; omega) (B8 x1)
    clear hff hcc hxx HX HX1
    generalize w6.setCell ⟨gb, q, none⟩ (B8 x1) = w7 at *
    obtain ⟨N1, hN1⟩ : ∃ N1, N1 = N := ⟨_, rfl⟩
    obtain ⟨BB, hBB⟩ : ∃ BB, BB = bendB B1 q y := ⟨_, rfl⟩
    obtain ⟨C, hC⟩ : ∃ C, C = List.take np (S1) := ⟨_, rfl⟩
    obtain ⟨T, hT⟩ : ∃ T, T = List.drop np (S1) := ⟨_, rfl⟩
    have hCT : C ++ T = S1 := by rw [hC, hT]; exact List.take_append_drop ..
    have LN1 := Lib.hid (show N1.length = 12 by rw [hN1]; first | exact LN.out | (rw [bendB_length]; exact LN.out))
    have LBB := Lib.hid (show BB.length = nb by rw [hBB]; first | exact HNB.out | (rw [bendB_length]; exact HNB.out))
    have LC := Lib.hid (show C.length = np by rw [hC, List.length_take]; try rw [bendB_length]
                                              rw [HSL.out]; have := HNS.out; omega)
    have LT := Lib.hid (show T.length = 16 by rw [hT, List.length_drop]; try rw [bendB_length]
                                              rw [HSL.out]; have := HNS.out; omega)
    have H0 := Lib.hid (show y = 0 → tagE L R N1 C BB = T ∧ maskE L R N1 C = P1 by
      intro hy
      obtain ⟨e1, e2, e3, e4⟩ := HSP.out
      rw [hN1, hBB, hC, hT, hy]
      try rw [bendB_none]
      rw [e1, List.take_append_of_le_length (by omega), List.take_of_length_le (by omega), List.drop_append_of_le_length (by omega), List.drop_of_length_le (by omega), List.nil_append]
      exact ⟨rfl, e4⟩)
    have HCT := Lib.hid hCT
    have hS := hBs.toIn (Nat.le_refl _)
    rw [← hCT] at hS
    have hB := hBb.toIn (Nat.le_refl _)
    rw [← hN1] at hG
    rw [← hBB] at hB
    clear hC hT hCT hN1 hBB hBs hBb d1 d2 hq2 hq0 hq3 hq4 hx8 hz8 hzv hgs hgs2 hgn hbl hns2 hkm hz4
    by_cases hT : tagE L R N1 C BB = T
    · skip
      have HO1 := Lib.hid (fun (W : World) (cs cb : Nat) (As Ab : Option Addr) (h : BoxAt W gx gk gr R L) (is : In W W.heap.size As cs (C ++ T)) (ib : In W W.heap.size Ab cb BB) => (HOP.out W gx gk gr cs cb As Ab N1 C T BB h LN1.out LC.out LT.out LBB.out is ib).mono (fun e w' ⟨hb, hh⟩ => show Below W.heap.size W w' ∧ ∃ A' c', e = Ending.returned (.tuple #[.slice A' np c', .int .i64 0]) ∧ Buf w' W.heap.size A' np c' (maskE L R N1 C) from ⟨hb, hh.elim (fun h => h.2) (fun h => absurd hT h.1)⟩))
      have hml := show (maskE L R N1 C).length = np by rw [maskE_length, LC.out]
      have HMO := Lib.hid hml
      clear hml
      go_upto_region 14 with (first | ((with_reducible refine (?_ : wpList _ _ _ (Oper.mk (some 89) _ _ _ _ _ :: _) _ _)); go_loud (refine wpList_load_blk rfl 23 (.tmp 11) rfl (gn) rfl 23 _ _ hG Try.underlying23 rfl (info12.trans (by rw [List.length_map, LN1.out])) ?_)) | (go_at_call 12; go_loud (refine (HO1.out _ _ _ _ _ hX hS hB).mono ?_); rintro e w7 ⟨hb6, Ao, co, rfl, hBo⟩; replace hL := hL.below hb6 hL.lt; replace hG := hG.below hb6 hG.lt; replace hX := hX.below hb6; replace hB := in_up hB hb6; replace hS := in_up hS hb6; replace hbw := hbw.trans (hb6.mono hbw.size); have io := hBo.toIn (Nat.le_refl _); clear hb6 hBo))
      have HIO := Lib.hid io
      have HIS := Lib.hid hS
      have HIB := Lib.hid hB
      clear io hS hB
      by_cases hy : y = 0
      · skip
        have hyb : (yi == 0) = true := by rw [HYI.out, hy]; rfl
        have hop := (H0.out hy).2
        rw [hop] at HIO
        go_upto_region 15 with (fail)
        apply wp_region_once (D := [[], [0], [0, 1], [0, 1, 2], [0, 1, 2, 3], [0, 1, 2], [0, 1, 2, 5], [0, 1, 2, 5, 6], [0, 1, 2, 3, 4, 5, 6, 7], [0, 1, 2, 3, 4, 5, 6, 7, 8], [0, 1, 2, 3, 4, 5, 6, 7, 8, 9]]) (J := [[], [0], [1], [2], [2, 3], [2], [2, 5], [2, 6], [2, 4, 7], [2, 8], [9]]) (Je := [10]) (Rs := [Is _, Is _, Is _, Is _, Is _, Is _, fun v V => ∃ (A' : Option Addr) (c' : Nat), v = .slice A' np c' ∧ In V V.heap.size A' c' P1, Is _, Is _, Is _, Is _])
        · kernel_rfl
        · kernel_rfl
        · kernel_rfl
        · kernel_rfl
        · kernel_rfl
        · kernel_rfl
        · intro u
          simp only [List.map_cons, List.map_nil, fillU, List.setIfInBounds_toArray, List.set_cons_zero, List.set_cons_succ, Nat.zero_add, Nat.reduceAdd]
          exact rfl
        · skip
          refine ⟨fun u V hb hd K hK => ?_, ?_⟩
          · clear hd
            go_simp
            apply hK
            · simp only [Act.put, List.setIfInBounds_toArray, List.set_cons_zero, List.set_cons_succ]
              exact rfl
            · exact Below.refl _ _
            · exact IsOut
          refine ⟨fun u V hb hd K hK => ?_, ?_⟩
          · simp only [Facts, nthR, Is, and_true] at hd
            simp only [hd] at hK ⊢
            clear hd
            go_simp
            apply hK
            · simp only [Act.put, List.setIfInBounds_toArray, List.set_cons_zero, List.set_cons_succ]
              exact rfl
            · exact Below.refl _ _
            · exact IsOut
          refine ⟨fun u V hb hd K hK => ?_, ?_⟩
          · simp only [Facts, nthR, Is, and_true] at hd
            simp only [hd] at hK ⊢
            clear hd
            go_simp
            apply hK
            · simp only [Act.put, List.setIfInBounds_toArray, List.set_cons_zero, List.set_cons_succ]
              exact rfl
            · exact Below.refl _ _
            · exact IsOut
          refine ⟨fun u V hb hd K hK => ?_, ?_⟩
          · simp only [Facts, nthR, Is, and_true] at hd
            simp only [hd] at hK ⊢
            clear hd
            go_simp
            apply hK
            · simp only [Act.put, List.setIfInBounds_toArray, List.set_cons_zero, List.set_cons_succ]
              exact rfl
            · exact Below.refl _ _
            · exact IsOut
          refine ⟨fun u V hb hd K hK => ?_, ?_⟩
          · simp only [Facts, nthR, Is, and_true] at hd
            simp only [hd] at hK ⊢
            clear hd
            have hcv := conv_in HNP.out (in_up HIO.out hb)
            go_simp
            apply hK
            · simp only [Act.put, List.setIfInBounds_toArray, List.set_cons_zero, List.set_cons_succ]
              exact rfl
            · exact Below.refl _ _
            · exact IsOut
          refine ⟨fun u V hb hd K hK => ?_, ?_⟩
          · simp only [Facts, nthR, Is, and_true] at hd
            simp only [hd] at hK ⊢
            clear hd
            rw [if_pos (by rfl)]
            refine wp_load_mid 26 (.tmp 3) rfl (w.heap.size) 0 rfl (LL) _ (rangeAt_blk (hL.below hb hL.lt)) Try.underlying26 rfl (infoLet.trans (by rw [HLL.out])) ?_
            exact hK _ _ _ rfl (Below.refl _ _) IsOut
          refine ⟨fun u V hb hd K hK => ?_, ?_⟩
          · simp only [Facts, nthR, Is, and_true] at hd
            simp only [hd] at hK ⊢
            clear hd
            go_simp
            refine (HPE.out V (in_up iP (hbw.trans (hb.mono hbw.size)))).mono ?_
            rintro e wy ⟨A', n', c', rfl, hn', hB', hby⟩
            have hn2 : n' = np := by rw [← hn']; exact HNP.out
            subst hn2
            exact hK _ _ _ rfl hby ⟨A', c', rfl, hB'.toIn (Nat.le_refl _)⟩
          refine ⟨fun u V hb hd K hK => ?_, ?_⟩
          · simp only [Facts, nthR, Is, and_true] at hd
            obtain ⟨h0, ⟨A', c', h1, iR⟩⟩ := hd
            simp only [h0, h1] at hK ⊢
            clear h0 h1
            have hcv := conv_in HNP.out iR
            go_simp
            apply hK
            · simp only [Act.put, List.setIfInBounds_toArray, List.set_cons_zero, List.set_cons_succ]
              exact rfl
            · exact Below.refl _ _
            · exact IsOut
          refine ⟨fun u V hb hd K hK => ?_, ?_⟩
          · simp only [Facts, nthR, Is, and_true] at hd
            simp only [hd] at hK ⊢
            clear hd
            go_simp
            apply hK
            · simp only [Act.put, List.setIfInBounds_toArray, List.set_cons_zero, List.set_cons_succ]
              exact rfl
            · exact Below.refl _ _
            · exact IsOut
          refine ⟨fun u V hb hd K hK => ?_, ?_⟩
          · simp only [Facts, nthR, Is, and_true] at hd
            simp only [hd] at hK ⊢
            clear hd
            go_simp
            apply hK
            · simp only [Act.put, List.setIfInBounds_toArray, List.set_cons_zero, List.set_cons_succ]
              exact rfl
            · exact Below.refl _ _
            · exact IsOut
          refine ⟨fun u V hb hd K hK => ?_, ?_⟩
          · simp only [Facts, nthR, Is, and_true] at hd
            simp only [hd] at hK ⊢
            clear hd
            go_simp
            apply hK
            · simp only [Act.put, List.setIfInBounds_toArray, List.set_cons_zero, List.set_cons_succ]
              exact rfl
            · exact Below.refl _ _
            · exact IsOut
          exact trivial
        · exact (.is (.is (.is (.is (.is (.is (.cons (fun v V V' ⟨A', c', h1, h2⟩ hb => ⟨A', c', h1, in_up h2 hb⟩) (.is (.is (.is (.is .nil)))))))))))
        · intro u V hb hd
          simp only [Facts, nthR, Is, and_true] at hd
          simp only [hd]
          replace hbw := hbw.trans (hb.mono hbw.size)
          clear hb
          go_wp2
          go_ret
          exact ⟨rfl, hbw⟩
      · skip
        have hyb : (yi == 0) = false := by
          rw [beq_eq_false_iff_ne, HYI.out]
          exact fun h => hy (UInt8.toNat_inj.1 (by simpa using h))
        go_upto_region 18 with (fail)
        have HS2 := Lib.hid (fun (W : World) (cp cb : Nat) (Ap Ab : Option Addr) (h : BoxAt W gx gk gr R L) (ip : In W W.heap.size Ap cp (maskE L R N1 C)) (ib : In W W.heap.size Ab cb BB) => HSE2.out W gx gk gr cp cb Ap Ab N1 (maskE L R N1 C) BB h LN1.out HMO.out LBB.out ip ib)
        rw [show boxE L R N1 (maskE L R N1 C) BB = S1 by unfold boxE; rw [maskE_twice, hT, HCT.out]] at HS2
        rw [HCT.out] at HIS
        generalize maskE L R N1 C = O1 at *
        apply wp_region_once (D := [[], [0], [0, 1], [0, 1, 2], [0, 1, 2], [0, 1, 2], [0, 1, 2], [0, 1, 2, 3, 4, 5, 6], [0, 1, 2, 3, 4, 5, 6, 7], [0, 1, 2], [0, 1, 2, 9], [0, 1, 2, 3, 4, 5, 6, 7, 8, 9, 10], [0, 1, 2, 3, 4, 5, 6, 7, 8, 9, 10, 11], [0, 1, 2, 3, 4, 5, 6, 7, 8, 9, 10, 11, 12]]) (J := [[], [0], [1], [2], [2], [2], [2], [2, 3, 4, 5, 6], [2, 7], [2], [2, 9], [2, 8, 10], [2, 11], [12]]) (Je := [13]) (Rs := [Is _, Is _, Is _, Is _, Is _, Is _, Is _, fun v V => ∃ (A' : Option Addr) (c' : Nat), v = .slice A' ns c' ∧ In V V.heap.size A' c' S1, Is _, Is _, Is _, Is _, Is _, Is _])
        · kernel_rfl
        · kernel_rfl
        · kernel_rfl
        · kernel_rfl
        · kernel_rfl
        · kernel_rfl
        · intro u
          simp only [List.map_cons, List.map_nil, fillU, List.setIfInBounds_toArray, List.set_cons_zero, List.set_cons_succ, Nat.zero_add, Nat.reduceAdd]
          exact rfl
        · skip
          refine ⟨fun u V hb hd K hK => ?_, ?_⟩
          · clear hd
            go_simp
            apply hK
            · simp only [Act.put, List.setIfInBounds_toArray, List.set_cons_zero, List.set_cons_succ]
              exact rfl
            · exact Below.refl _ _
            · exact IsOut
          refine ⟨fun u V hb hd K hK => ?_, ?_⟩
          · simp only [Facts, nthR, Is, and_true] at hd
            simp only [hd] at hK ⊢
            clear hd
            go_simp
            apply hK
            · simp only [Act.put, List.setIfInBounds_toArray, List.set_cons_zero, List.set_cons_succ]
              exact rfl
            · exact Below.refl _ _
            · exact IsOut
          refine ⟨fun u V hb hd K hK => ?_, ?_⟩
          · simp only [Facts, nthR, Is, and_true] at hd
            simp only [hd] at hK ⊢
            clear hd
            go_simp
            apply hK
            · simp only [Act.put, List.setIfInBounds_toArray, List.set_cons_zero, List.set_cons_succ]
              exact rfl
            · exact Below.refl _ _
            · exact IsOut
          refine ⟨fun u V hb hd K hK => ?_, ?_⟩
          · simp only [Facts, nthR, Is, and_true] at hd
            simp only [hd] at hK ⊢
            clear hd
            go_simp
            apply hK
            · simp only [Act.put, List.setIfInBounds_toArray, List.set_cons_zero, List.set_cons_succ]
              exact rfl
            · exact Below.refl _ _
            · exact IsOut
          refine ⟨fun u V hb hd K hK => ?_, ?_⟩
          · simp only [Facts, nthR, Is, and_true] at hd
            simp only [hd] at hK ⊢
            clear hd
            rw [if_pos (by rfl)]
            refine wp_load_mid 23 (.tmp 11) rfl (gn) (0) rfl (N1.map B8) _ ((rangeAt_blk (hG.below hb hG.lt))) Try.underlying23 rfl (info12.trans (by rw [List.length_map, LN1.out])) ?_
            exact hK _ _ _ rfl (Below.refl _ _) IsOut
          refine ⟨fun u V hb hd K hK => ?_, ?_⟩
          · simp only [Facts, nthR, Is, and_true] at hd
            simp only [hd] at hK ⊢
            clear hd
            go_simp
            apply hK
            · simp only [Act.put, List.setIfInBounds_toArray, List.set_cons_zero, List.set_cons_succ]
              exact rfl
            · exact Below.refl _ _
            · exact IsOut
          refine ⟨fun u V hb hd K hK => ?_, ?_⟩
          · simp only [Facts, nthR, Is, and_true] at hd
            simp only [hd] at hK ⊢
            clear hd
            go_simp
            apply hK
            · simp only [Act.put, List.setIfInBounds_toArray, List.set_cons_zero, List.set_cons_succ]
              exact rfl
            · exact Below.refl _ _
            · exact IsOut
          refine ⟨fun u V hb hd K hK => ?_, ?_⟩
          · simp only [Facts, nthR, Is, and_true] at hd
            simp only [hd] at hK ⊢
            clear hd
            go_simp
            refine (HS2.out V _ _ _ _ (hX.below hb) (in_up HIO.out hb) (in_up HIB.out hb)).mono ?_
            rintro e wy ⟨A', n', c', rfl, hn', hB', hby⟩
            subst hn'
            exact hK _ _ _ rfl hby ⟨A', c', rfl, hB'.toIn (Nat.le_refl _)⟩
          refine ⟨fun u V hb hd K hK => ?_, ?_⟩
          · simp only [Facts, nthR, Is, and_true] at hd
            obtain ⟨h0, ⟨A', c', h1, iR⟩⟩ := hd
            simp only [h0, h1] at hK ⊢
            clear h0 h1
            have hcv := conv_in HSL.out iR
            go_simp
            apply hK
            · simp only [Act.put, List.setIfInBounds_toArray, List.set_cons_zero, List.set_cons_succ]
              exact rfl
            · exact Below.refl _ _
            · exact IsOut
          refine ⟨fun u V hb hd K hK => ?_, ?_⟩
          · simp only [Facts, nthR, Is, and_true] at hd
            simp only [hd] at hK ⊢
            clear hd
            go_simp
            apply hK
            · simp only [Act.put, List.setIfInBounds_toArray, List.set_cons_zero, List.set_cons_succ]
              exact rfl
            · exact Below.refl _ _
            · exact IsOut
          refine ⟨fun u V hb hd K hK => ?_, ?_⟩
          · simp only [Facts, nthR, Is, and_true] at hd
            simp only [hd] at hK ⊢
            clear hd
            have hcv := conv_in HSL.out (in_up HIS.out hb)
            go_simp
            apply hK
            · simp only [Act.put, List.setIfInBounds_toArray, List.set_cons_zero, List.set_cons_succ]
              exact rfl
            · exact Below.refl _ _
            · exact IsOut
          refine ⟨fun u V hb hd K hK => ?_, ?_⟩
          · simp only [Facts, nthR, Is, and_true] at hd
            simp only [hd] at hK ⊢
            clear hd
            go_simp
            apply hK
            · simp only [Act.put, List.setIfInBounds_toArray, List.set_cons_zero, List.set_cons_succ]
              exact rfl
            · exact Below.refl _ _
            · exact IsOut
          refine ⟨fun u V hb hd K hK => ?_, ?_⟩
          · simp only [Facts, nthR, Is, and_true] at hd
            simp only [hd] at hK ⊢
            clear hd
            go_simp
            apply hK
            · simp only [Act.put, List.setIfInBounds_toArray, List.set_cons_zero, List.set_cons_succ]
              exact rfl
            · exact Below.refl _ _
            · exact IsOut
          refine ⟨fun u V hb hd K hK => ?_, ?_⟩
          · simp only [Facts, nthR, Is, and_true] at hd
            simp only [hd] at hK ⊢
            clear hd
            go_simp
            apply hK
            · simp only [Act.put, List.setIfInBounds_toArray, List.set_cons_zero, List.set_cons_succ]
              exact rfl
            · exact Below.refl _ _
            · exact IsOut
          exact trivial
        · exact (.is (.is (.is (.is (.is (.is (.is (.cons (fun v V V' ⟨A', c', h1, h2⟩ hb => ⟨A', c', h1, in_up h2 hb⟩) (.is (.is (.is (.is (.is (.is .nil))))))))))))))
        · intro u V hb hd
          simp only [Facts, nthR, Is, and_true] at hd
          simp only [hd]
          replace hbw := hbw.trans (hb.mono hbw.size)
          clear hb
          go_wp2
          go_ret
          exact ⟨rfl, hbw⟩
    · skip
      by_cases hy : y = 0
      · exact absurd (H0.out hy).1 hT
      have hyb : (yi == 0) = false := by
        rw [beq_eq_false_iff_ne, HYI.out]
        exact fun h => hy (UInt8.toNat_inj.1 (by simpa using h))
      have HO2 := Lib.hid (fun (W : World) (cs cb : Nat) (As Ab : Option Addr) (h : BoxAt W gx gk gr R L) (is : In W W.heap.size As cs (C ++ T)) (ib : In W W.heap.size Ab cb BB) => (HOP.out W gx gk gr cs cb As Ab N1 C T BB h LN1.out LC.out LT.out LBB.out is ib).mono (fun e w' ⟨hb, hh⟩ => show Below W.heap.size W w' ∧ e = Ending.returned (.tuple #[.slice none 0 0, .int .i64 5]) from ⟨hb, hh.elim (fun h => absurd h.1 hT) (fun h => h.2)⟩))
      go_upto_region 14 with (first | ((with_reducible refine (?_ : wpList _ _ _ (Oper.mk (some 89) _ _ _ _ _ :: _) _ _)); go_loud (refine wpList_load_blk rfl 23 (.tmp 11) rfl (gn) rfl 23 _ _ hG Try.underlying23 rfl (info12.trans (by rw [List.length_map, LN1.out])) ?_)) | (go_at_call 12; go_loud (refine (HO2.out _ _ _ _ _ hX hS hB).mono ?_); rintro e w7 ⟨hb6, rfl⟩; replace hL := hL.below hb6 hL.lt; replace hG := hG.below hb6 hG.lt; replace hX := hX.below hb6; replace hB := in_up hB hb6; replace hS := in_up hS hb6; replace hbw := hbw.trans (hb6.mono hbw.size); clear hb6))
      go_upto_region 18 with (fail)
      apply wp_region_once (D := [[], [0], [0, 1], [0, 1, 2], [0, 1, 2], [0, 1, 2], [0, 1, 2], [0, 1, 2, 3, 4, 5, 6], [0, 1, 2, 3, 4, 5, 6, 7], [0, 1, 2], [0, 1, 2, 9], [0, 1, 2, 3, 4, 5, 6, 7, 8, 9, 10], [0, 1, 2, 3, 4, 5, 6, 7, 8, 9, 10, 11], [0, 1, 2, 3, 4, 5, 6, 7, 8, 9, 10, 11, 12]]) (J := [[], [0], [1], [2], [2], [2], [2], [2, 3, 4, 5, 6], [2, 7], [2], [2, 9], [2, 8, 10], [2, 11], [12]]) (Je := [13]) (Rs := [Is _, Is _, Is _, Is _, Is _, Is _, Is _, Is _, Is _, Is _, Is _, Is _, Is _, Is _])
      · kernel_rfl
      · kernel_rfl
      · kernel_rfl
      · kernel_rfl
      · kernel_rfl
      · kernel_rfl
      · intro u
        simp only [List.map_cons, List.map_nil, fillU, List.setIfInBounds_toArray, List.set_cons_zero, List.set_cons_succ, Nat.zero_add, Nat.reduceAdd]
        exact rfl
      · skip
        refine ⟨fun u V hb hd K hK => ?_, ?_⟩
        · clear hd
          go_simp
          apply hK
          · simp only [Act.put, List.setIfInBounds_toArray, List.set_cons_zero, List.set_cons_succ]
            exact rfl
          · exact Below.refl _ _
          · exact IsOut
        refine ⟨fun u V hb hd K hK => ?_, ?_⟩
        · simp only [Facts, nthR, Is, and_true] at hd
          simp only [hd] at hK ⊢
          clear hd
          go_simp
          apply hK
          · simp only [Act.put, List.setIfInBounds_toArray, List.set_cons_zero, List.set_cons_succ]
            exact rfl
          · exact Below.refl _ _
          · exact IsOut
        refine ⟨fun u V hb hd K hK => ?_, ?_⟩
        · simp only [Facts, nthR, Is, and_true] at hd
          simp only [hd] at hK ⊢
          clear hd
          go_simp
          apply hK
          · simp only [Act.put, List.setIfInBounds_toArray, List.set_cons_zero, List.set_cons_succ]
            exact rfl
          · exact Below.refl _ _
          · exact IsOut
        refine ⟨fun u V hb hd K hK => ?_, ?_⟩
        · simp only [Facts, nthR, Is, and_true] at hd
          simp only [hd] at hK ⊢
          clear hd
          go_simp
          apply hK
          · simp only [Act.put, List.setIfInBounds_toArray, List.set_cons_zero, List.set_cons_succ]
            exact rfl
          · exact Below.refl _ _
          · exact IsOut
        refine ⟨fun u V hb hd K hK => ?_, ?_⟩
        · simp only [Facts, nthR, Is, and_true] at hd
          simp only [hd] at hK ⊢
          clear hd
          go_simp
          apply hK
          · simp only [Act.put, List.setIfInBounds_toArray, List.set_cons_zero, List.set_cons_succ]
            exact rfl
          · exact Below.refl _ _
          · exact IsOut
        refine ⟨fun u V hb hd K hK => ?_, ?_⟩
        · simp only [Facts, nthR, Is, and_true] at hd
          simp only [hd] at hK ⊢
          clear hd
          go_simp
          apply hK
          · simp only [Act.put, List.setIfInBounds_toArray, List.set_cons_zero, List.set_cons_succ]
            exact rfl
          · exact Below.refl _ _
          · exact IsOut
        refine ⟨fun u V hb hd K hK => ?_, ?_⟩
        · simp only [Facts, nthR, Is, and_true] at hd
          simp only [hd] at hK ⊢
          clear hd
          go_simp
          apply hK
          · simp only [Act.put, List.setIfInBounds_toArray, List.set_cons_zero, List.set_cons_succ]
            exact rfl
          · exact Below.refl _ _
          · exact IsOut
        refine ⟨fun u V hb hd K hK => ?_, ?_⟩
        · simp only [Facts, nthR, Is, and_true] at hd
          simp only [hd] at hK ⊢
          clear hd
          go_simp
          apply hK
          · simp only [Act.put, List.setIfInBounds_toArray, List.set_cons_zero, List.set_cons_succ]
            exact rfl
          · exact Below.refl _ _
          · exact IsOut
        refine ⟨fun u V hb hd K hK => ?_, ?_⟩
        · simp only [Facts, nthR, Is, and_true] at hd
          simp only [hd] at hK ⊢
          clear hd
          go_simp
          apply hK
          · simp only [Act.put, List.setIfInBounds_toArray, List.set_cons_zero, List.set_cons_succ]
            exact rfl
          · exact Below.refl _ _
          · exact IsOut
        refine ⟨fun u V hb hd K hK => ?_, ?_⟩
        · simp only [Facts, nthR, Is, and_true] at hd
          simp only [hd] at hK ⊢
          clear hd
          go_simp
          apply hK
          · simp only [Act.put, List.setIfInBounds_toArray, List.set_cons_zero, List.set_cons_succ]
            exact rfl
          · exact Below.refl _ _
          · exact IsOut
        refine ⟨fun u V hb hd K hK => ?_, ?_⟩
        · simp only [Facts, nthR, Is, and_true] at hd
          simp only [hd] at hK ⊢
          clear hd
          go_simp
          apply hK
          · simp only [Act.put, List.setIfInBounds_toArray, List.set_cons_zero, List.set_cons_succ]
            exact rfl
          · exact Below.refl _ _
          · exact IsOut
        refine ⟨fun u V hb hd K hK => ?_, ?_⟩
        · simp only [Facts, nthR, Is, and_true] at hd
          simp only [hd] at hK ⊢
          clear hd
          go_simp
          apply hK
          · simp only [Act.put, List.setIfInBounds_toArray, List.set_cons_zero, List.set_cons_succ]
            exact rfl
          · exact Below.refl _ _
          · exact IsOut
        refine ⟨fun u V hb hd K hK => ?_, ?_⟩
        · simp only [Facts, nthR, Is, and_true] at hd
          simp only [hd] at hK ⊢
          clear hd
          go_simp
          apply hK
          · simp only [Act.put, List.setIfInBounds_toArray, List.set_cons_zero, List.set_cons_succ]
            exact rfl
          · exact Below.refl _ _
          · exact IsOut
        refine ⟨fun u V hb hd K hK => ?_, ?_⟩
        · simp only [Facts, nthR, Is, and_true] at hd
          simp only [hd] at hK ⊢
          clear hd
          go_simp
          apply hK
          · simp only [Act.put, List.setIfInBounds_toArray, List.set_cons_zero, List.set_cons_succ]
            exact rfl
          · exact Below.refl _ _
          · exact IsOut
        exact trivial
      · exact (.is (.is (.is (.is (.is (.is (.is (.is (.is (.is (.is (.is (.is (.is .nil))))))))))))))
      · intro u V hb hd
        simp only [Facts, nthR, Is, and_true] at hd
        simp only [hd]
        replace hbw := hbw.trans (hb.mono hbw.size)
        clear hb
        go_wp2
        go_ret
        exact ⟨rfl, hbw⟩
end Go.Proofs.Ytefbjhdcmgonbaa
