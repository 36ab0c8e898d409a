/-
  Rc1.
-/
import Derived.Test.YtnjpcbbdhimacaaDoorJb
import Derived.Test.YtnjpcbbdhimacaaDoorJf
namespace Go.Proofs.YtnjpcbbdhimacaaDoor
open Go.RowKit
/-- Is it a record's kind? -/
def kindB (k : Int) : Bool := k == 21 || k == 22 || k == 23
theorem isKind_e (k : Int) (w : World) : Calls Tryd.prog 31 #[.int .i64 k] w fun e w' => e = .returned (.bool (kindB k)) ∧ w' = w := by
  go_enter Tryd.func31, Tryd.ntmps31
  by_cases h1 : k = 21
  · subst h1
    go_wp2
    go_ret
    exact ⟨rfl, rfl⟩
  · by_cases h2 : k = 22
    · subst h2
      go_wp2
      go_ret
      exact ⟨rfl, rfl⟩
    · have e1 : (k == 21) = false := by simpa using h1
      have e2 : (k == 22) = false := by simpa using h2
      go_wp2
      go_ret
      exact ⟨by simp [kindB, e1, e2], rfl⟩
/-- What stands ahead of a record's body. -/
def headE (k n : Nat) : List UInt8 := [UInt8.ofNat k, 3, 3, UInt8.ofNat (n / 256), UInt8.ofNat n]
theorem wrap_ofNat (n : Nat) : IntKind.u8.wrap (n : Int) = ((UInt8.ofNat n).toNat : Int) := by
  rw [IntKind.wrap_u8]; simp
theorem buf_lit (w : World) (xs : List UInt8) (n : Nat) (t : TypeId) (hn : xs.length = n) (hm : n < 1000) : Buf (w.alloc (.cells (xs.map B8).toArray t)) w.heap.size (some ⟨w.heap.size, 0, none⟩) n n xs :=
  Buf.made _ t _ _ (Nat.le_refl _) hn (Nat.le_refl _) (by unfold maxLen; omega) (by simpa using hn) (.inr rfl) (fun j hj => by
    rw [List.getElem?_toArray]
    exact getD_map8 xs j (by omega))
theorem head_e (k n : Nat) (_hk : k < 1000) (_hn : n < 65536) (w : World) : Calls Tryd.prog 32 #[.int .i64 (k : Int), .int .i64 (n : Int)] w fun e w' => ∃ A, e = .returned (.slice A 5 5) ∧ Buf w' w.heap.size A 5 5 (headE k n) ∧ Below w.heap.size w w' := by
  have c1 := wrap_ofNat k
  have c2 := wrap_ofNat n
  have c3 : IntKind.u8.wrap ((n : Int) / 256) = ((UInt8.ofNat (n / 256)).toNat : Int) := by rw [← wrap_ofNat]; rfl
  generalize hx : UInt8.ofNat k = x at *
  generalize hy : UInt8.ofNat n = y at *
  generalize hz : UInt8.ofNat (n / 256) = z at *
  have HE := Lib.hid (show headE k n = [x, 3, 3, z, y] by unfold headE; rw [hx, hy, hz])
  clear hx hy hz
  go_enter Tryd.func32, Tryd.ntmps32
  go_wp2
  go_ret
  refine ⟨_, rfl, ?_, (Below.refl _ _).alloc (Nat.le_refl _) _⟩
  rw [HE.out]
  exact buf_lit w [x, 3, 3, z, y] 5 5 rfl (by decide)
/-- Are the first k bytes those of a record? -/
def begTo (b : List UInt8) : Nat → Bool
  | 0 => true
  | k + 1 => begTo b k && (if k = 0 then kindB ((b.getD 0 0).toNat : Int) else b.getD k 0 == 3)
def beginsE (b : List UInt8) : Bool := begTo b (min b.length 3)
theorem begTo_down (b : List UInt8) (k m : Nat) (h : begTo b k = false) (hm : k ≤ m) : begTo b m = false := by
  induction m with
  | zero => obtain rfl : k = 0 := by omega
            exact h
  | succ m ih =>
    rcases Nat.lt_or_ge m k with h1 | h1
    · obtain rfl : k = m + 1 := by omega
      exact h
    · rw [begTo, ih h1]; rfl
theorem beginsOne_e (A : Option Addr) (c n B : Nat) (b : List UInt8) (w : World) (hn : b.length = n) (iB : In w B A c b) :
    Calls Tryd.prog 84 #[.slice A n c] w fun e w' => e = .returned (.bool (beginsE b)) ∧ w' = w := by
  obtain ⟨m, hm⟩ : ∃ m, m = min n 3 := ⟨_, rfl⟩
  have HBE := Lib.hid (show beginsE b = begTo b m by unfold beginsE; rw [hn, hm])
  have hmi : min (n : Int) 3 = (m : Int) := by omega
  have hm0 : (0 : Int) ≤ (m : Int) := by omega
  have hc := iB.1
  have hmc : (m : Int) ≤ (c : Int) := by omega
  have hm3 : m ≤ 3 := by omega
  have hmn : m ≤ b.length := by omega
  have IB := Lib.hid iB
  clear hm hc hn iB
  go_enter Tryd.func84, Tryd.ntmps84
  go_wp2
  go_loopw [11] (fun i wr => ∃ k : Nat, k ≤ m ∧ i = .int .i64 (k : Int) ∧ Hid (begTo b k = true) ∧ wr = w) (fun i _ => m - (intOf i).toNat)
  case atStart => exact ⟨0, by omega, rfl, rfl, rfl⟩
  case round =>
    obtain ⟨k, hk, rfl, HK, rfl⟩ := hrel
    by_cases hlt : k < m
    · have hd : (k : Int) < (m : Int) := by omega
      obtain ⟨gb, ob, rfl, _, hby⟩ := IB.out.2.2 (by omega)
      have hcc := hby k (by omega)
      obtain ⟨x, hx⟩ : ∃ x, x = b.getD k 0 := ⟨_, rfl⟩
      rw [← hx] at hcc
      have HX := Lib.hid hx
      have hwx : wrap64 (x.toNat : Int) = (x.toNat : Int) := by have := x.toNat_lt; unfold wrap64; omega
      clear hx hby hmi hm0
      by_cases h0 : k = 0
      · rw [h0, Nat.add_zero] at hcc
        rw [show (k : Int) = 0 by omega]
        subst h0
        have HM1 := Lib.hid (show 1 ≤ m by omega)
        clear hk hlt hd
        have HN := Lib.hid (show begTo b 1 = kindB (x.toNat : Int) by rw [HX.out]; simp [begTo])
        by_cases hkb : kindB (x.toNat : Int) = true
        · rw [hkb] at HN
          go_wp2_with (go_at_call 31; refine (isKind_e _ _).mono ?_; rintro e w' ⟨rfl, rfl⟩)
          go_roundw
          case rel => exact ⟨1, HM1.out, by go_num, HN, trivial⟩
          case measure => simp [intOf]; omega
        · rw [Bool.not_eq_true] at hkb
          rw [hkb] at HN
          go_wp2_with (go_at_call 31; refine (isKind_e _ _).mono ?_; rintro e w' ⟨rfl, rfl⟩)
          go_ret
          exact ⟨by rw [HBE.out, begTo_down b 1 m HN.out HM1.out]; rfl, rfl⟩
      · have hk0 : ¬ (k : Int) = 0 := by omega
        have hkp : (0 : Int) < (k : Int) := by omega
        have hkb : ((k : Int) == 0) = false := by simpa using h0
        have HN := Lib.hid (show begTo b (k + 1) = (x == 3) by rw [begTo, HK.out, if_neg h0, HX.out]; rfl)
        by_cases h3 : x = 3
        · rw [h3] at HN
          have h3i : (x.toNat : Int) = 3 := by rw [h3]; rfl
          clear h0 h3
          go_wp2
          go_roundw
          case rel => exact ⟨k + 1, by omega, by go_num, HN, trivial⟩
          case measure => simp [intOf]; omega
        · have hf : (x == 3) = false := by simpa using h3
          rw [hf] at HN
          have h3i : ¬ (x.toNat : Int) = 3 := fun h => h3 (UInt8.toNat_inj.1 (by show x.toNat = 3; omega))
          clear h0 h3 hf
          go_wp2
          go_ret
          exact ⟨by rw [HBE.out, begTo_down b (k + 1) m HN.out (by omega)]; rfl, rfl⟩
    · have hd : ¬ (k : Int) < (m : Int) := by omega
      obtain rfl : k = m := by omega
      go_wp2
      go_ret
      exact ⟨by rw [HBE.out, HK.out]; rfl, rfl⟩

end Go.Proofs.YtnjpcbbdhimacaaDoor
