/-
  The contracts of package piece's small calls: later, first, Start, Ack, has, isNew, mayCome, Waits, New.
-/
import Derived.Test.YtjachohgffnbiaaLe
import Derived.Test.YtjachohgffnbiaaLd
import Derived.Deep.DeepCutAuto
namespace Go.Proofs.Ytjachohgffnbiaa
open Go.RowKit

/-- The byte that is left of a number. -/
def ub (x : Int) : UInt8 := UInt8.ofNat (x % 256).toNat
theorem ub_wrap (x : Int) : IntKind.u8.wrap x = ((ub x).toNat : Int) := by
  rw [IntKind.wrap_u8]; unfold ub; rw [UInt8.toNat_ofNat']; omega
def hL (f : UInt8) : Bool := decide (128 ≤ f.toNat)
def hM (f : UInt8) : Bool := decide (f.toNat / 64 % 2 = 1)
def hX (f : UInt8) : Bool := decide (f.toNat % 64 ≠ 0)
theorem and_L (f : UInt8) : bits .and .u8 (f.toNat : Int) 128 = if hL f then 128 else 0 := by
  have h : ∀ x : Fin 256, bits .and .u8 ((UInt8.ofNat x.1).toNat : Int) 128 = if hL (UInt8.ofNat x.1) then 128 else 0 := by decide +kernel
  have := h ⟨f.toNat, f.toNat_lt⟩
  simpa using this
theorem and_M (f : UInt8) : bits .and .u8 (f.toNat : Int) 64 = if hM f then 64 else 0 := by
  have h : ∀ x : Fin 256, bits .and .u8 ((UInt8.ofNat x.1).toNat : Int) 64 = if hM (UInt8.ofNat x.1) then 64 else 0 := by decide +kernel
  have := h ⟨f.toNat, f.toNat_lt⟩
  simpa using this
theorem and_X (f : UInt8) : bits .and .u8 (f.toNat : Int) 63 = ((f.toNat % 64 : Nat) : Int) := by
  have h : ∀ x : Fin 256, bits .and .u8 ((UInt8.ofNat x.1).toNat : Int) 63 = (((UInt8.ofNat x.1).toNat % 64 : Nat) : Int) := by decide +kernel
  have := h ⟨f.toNat, f.toNat_lt⟩
  simpa using this
theorem andNot_X (f : UInt8) : bits .andNot .u8 (f.toNat : Int) 192 = ((f.toNat % 64 : Nat) : Int) := by
  have h : ∀ x : Fin 256, bits .andNot .u8 ((UInt8.ofNat x.1).toNat : Int) 192 = (((UInt8.ofNat x.1).toNat % 64 : Nat) : Int) := by decide +kernel
  have := h ⟨f.toNat, f.toNat_lt⟩
  simpa using this
/-- Four bytes of a number, the highest first. -/
def be4 (m : Nat) : List UInt8 := [ub ((m : Int) / 16777216), ub ((m : Int) / 65536), ub ((m : Int) / 256), ub (m : Int)]
set_option maxRecDepth 100000 in
set_option maxHeartbeats 1000000 in
theorem later_e (f : UInt8) (A : Option Addr) (c n : Nat) (b : List UInt8) (w : World) (hn : b.length = n) (iB : In w w.heap.size A c b) (hm : n < 1000000) :
    Calls Try.prog 18 #[.int .u8 (f.toNat : Int), .slice A n c] w fun e w' => ∃ A' c', e = .returned (.slice A' (1 + n) c') ∧ Buf w' w.heap.size A' (1 + n) c' (f :: b) ∧ Below w.heap.size w w' := by
  have HB := Lib.hid (buf_lit w [f] 1 5 rfl (by decide))
  have HA := Lib.hid ((Below.refl w.heap.size w).alloc (Nat.le_refl _) (.cells ([f].map B8).toArray 5))
  have IB := Lib.hid iB
  have HN := Lib.hid hn
  clear iB hn
  go_enter Try.func18, Try.ntmps18
  go_wp2_with ((with_reducible refine (?_ : wpList _ _ _ (Oper.mk (some 8) _ _ _ _ _ :: _) _ _)); go_loud (refine wpList_append_far rfl (.tmp 6) (.tmp 7) 23 rfl (w.heap.size) _ 1 1 [f] b _ rfl HB.out rfl (src_at ((in_up IB.out HA.out).src (Nat.le_refl _)) HN.out) (by rw [HN.out]; omega) (by simp) (1 + n) (by rw [HN.out]) ?_); intro A5 c5 w5 hB5 hg5 _; have hb5 := below_own HA.out HB.out hg5 (Nat.le_refl _) (by simp))
  go_ret
  exact ⟨_, _, rfl, hB5, hb5⟩
set_option maxRecDepth 100000 in
set_option maxHeartbeats 1000000 in
theorem first_e (m : Nat) (A : Option Addr) (c n : Nat) (b : List UInt8) (w : World) (hn : b.length = n) (iB : In w w.heap.size A c b) (hm : n < 1000000) :
    Calls Try.prog 19 #[.int .i64 (m : Int), .slice A n c] w fun e w' => ∃ A' c', e = .returned (.slice A' (5 + n) c') ∧ Buf w' w.heap.size A' (5 + n) c' (192 :: (be4 m ++ b)) ∧ Below w.heap.size w w' := by
  have HE := Lib.hid (show (192 :: (be4 m ++ b) : List UInt8) = [192, ub ((m : Int) / 16777216), ub ((m : Int) / 65536), ub ((m : Int) / 256), ub (m : Int)] ++ b from rfl)
  have u1 := ub_wrap ((m : Int) / 16777216)
  have u2 := ub_wrap ((m : Int) / 65536)
  have u3 := ub_wrap ((m : Int) / 256)
  have u4 := ub_wrap (m : Int)
  generalize ub ((m : Int) / 16777216) = x1 at *
  generalize ub ((m : Int) / 65536) = x2 at *
  generalize ub ((m : Int) / 256) = x3 at *
  generalize ub (m : Int) = x4 at *
  have HB := Lib.hid (buf_lit w [192, x1, x2, x3, x4] 5 5 rfl (by decide))
  have HA := Lib.hid ((Below.refl w.heap.size w).alloc (Nat.le_refl _) (.cells ([192, x1, x2, x3, x4].map B8).toArray 5))
  have IB := Lib.hid iB
  have HN := Lib.hid hn
  clear iB hn
  go_enter Try.func19, Try.ntmps19
  go_wp2_with ((with_reducible refine (?_ : wpList _ _ _ (Oper.mk (some 18) _ _ _ _ _ :: _) _ _)); go_loud (refine wpList_append_far rfl (.tmp 16) (.tmp 17) 23 rfl (w.heap.size) _ 5 5 [192, x1, x2, x3, x4] b _ rfl HB.out rfl (src_at ((in_up IB.out HA.out).src (Nat.le_refl _)) HN.out) (by rw [HN.out]; omega) (by simp) (5 + n) (by rw [HN.out]) ?_); intro A5 c5 w5 hB5 hg5 _; have hb5 := below_own HA.out HB.out hg5 (Nat.le_refl _) (by simp))
  go_ret
  exact ⟨_, _, rfl, by rw [HE.out]; exact hB5, hb5⟩
set_option maxRecDepth 100000 in
set_option maxHeartbeats 1000000 in
theorem start_e (w : World) : Calls Try.prog 20 #[] w fun e w' => ∃ A', e = .returned (.slice A' 1 1) ∧ Buf w' w.heap.size A' 1 1 [32] ∧ Below w.heap.size w w' := by
  go_enter Try.func20, Try.ntmps20
  go_wp2
  go_ret
  exact ⟨_, rfl, buf_lit w [32] 1 5 rfl (by decide), (Below.refl _ _).alloc (Nat.le_refl _) _⟩
set_option maxRecDepth 100000 in
set_option maxHeartbeats 1000000 in
theorem ack_e (w : World) : Calls Try.prog 21 #[] w fun e w' => ∃ A', e = .returned (.slice A' 1 1) ∧ Buf w' w.heap.size A' 1 1 [0] ∧ Below w.heap.size w w' := by
  go_enter Try.func21, Try.ntmps21
  go_wp2
  go_ret
  exact ⟨_, rfl, buf_lit w [0] 1 5 rfl (by decide), (Below.refl _ _).alloc (Nat.le_refl _) _⟩
set_option maxRecDepth 100000 in
set_option maxHeartbeats 1000000 in
theorem hasL_e (p : Nat) (f : UInt8) (w : World) (h0 : w.cell? ⟨p, 0, none⟩ = some (.int .u8 (f.toNat : Int))) (r : Bool) (hr : hL f = r) : Calls Try.prog 24 #[.pointer (some ⟨p, 0, none⟩), .int .u8 128] w fun e w' => e = .returned (.bool r) ∧ w' = w := by
  have ha := and_L f
  rw [hr] at ha
  clear hr
  cases r
  · replace ha : bits .and .u8 (f.toNat : Int) 128 = 0 := ha
    go_enter Try.func24, Try.ntmps24
    go_wp2
    go_ret
    exact ⟨rfl, rfl⟩
  · replace ha : bits .and .u8 (f.toNat : Int) 128 = 128 := ha
    go_enter Try.func24, Try.ntmps24
    go_wp2
    go_ret
    exact ⟨rfl, rfl⟩
set_option maxRecDepth 100000 in
set_option maxHeartbeats 1000000 in
theorem hasM_e (p : Nat) (f : UInt8) (w : World) (h0 : w.cell? ⟨p, 0, none⟩ = some (.int .u8 (f.toNat : Int))) (r : Bool) (hr : hM f = r) : Calls Try.prog 24 #[.pointer (some ⟨p, 0, none⟩), .int .u8 64] w fun e w' => e = .returned (.bool r) ∧ w' = w := by
  have ha := and_M f
  rw [hr] at ha
  clear hr
  cases r
  · replace ha : bits .and .u8 (f.toNat : Int) 64 = 0 := ha
    go_enter Try.func24, Try.ntmps24
    go_wp2
    go_ret
    exact ⟨rfl, rfl⟩
  · replace ha : bits .and .u8 (f.toNat : Int) 64 = 64 := ha
    go_enter Try.func24, Try.ntmps24
    go_wp2
    go_ret
    exact ⟨rfl, rfl⟩
set_option maxRecDepth 100000 in
set_option maxHeartbeats 1000000 in
theorem isNew_e (g : Nat) (A : Option Addr) (n c : Nat) (w : World) (h0 : w.cell? ⟨g, 0, none⟩ = some (.slice A n c)) (r : Bool) (hr : decide (n = 0) = r) : Calls Try.prog 27 #[.pointer (some ⟨g, 0, none⟩)] w fun e w' => e = .returned (.bool r) ∧ w' = w := by
  cases r
  · have hq : ((n : Int) == 0) = false := by simpa using hr
    clear hr
    go_enter Try.func27, Try.ntmps27
    go_wp2
    go_ret
    exact ⟨rfl, rfl⟩
  · have hq : n = 0 := by simpa using hr
    subst hq
    clear hr
    go_enter Try.func27, Try.ntmps27
    go_wp2
    go_ret
    exact ⟨rfl, rfl⟩
/-- Has a piece the flags that one at this place has? -/
def mayB (n : Nat) (f : UInt8) : Bool := if hX f then false else if n = 0 then (hL f || !hM f) else !hL f
set_option maxRecDepth 100000 in
set_option maxHeartbeats 1000000 in
theorem mayCome_e (g p : Nat) (A : Option Addr) (n c : Nat) (f : UInt8) (w : World) (h0 : w.cell? ⟨g, 0, none⟩ = some (.slice A n c)) (k0 : w.cell? ⟨p, 0, none⟩ = some (.int .u8 (f.toNat : Int))) (r : Bool) (hr : mayB n f = r) :
    Calls Try.prog 26 #[.pointer (some ⟨g, 0, none⟩), .pointer (some ⟨p, 0, none⟩)] w fun e w' => e = .returned (.bool r) ∧ w' = w := by
  have hX0 := andNot_X f
  cases hx : hX f
  · have hz : f.toNat % 64 = 0 := by simpa [hX] using hx
    rw [hz] at hX0
    by_cases hn : n = 0
    · have HN := Lib.hid (isNew_e g A n c w h0 true (by simpa using hn))
      cases hl : hL f
      · cases hm : hM f
        all_goals (
          have HR := Lib.hid (show r = !hM f by rw [← hr]; unfold mayB; rw [hx, if_neg (by decide), if_pos hn, hl]; rfl)
          rw [hm] at HR
          have HL := Lib.hid (hasL_e p f w k0 _ hl)
          have HM := Lib.hid (hasM_e p f w k0 _ hm)
          clear hr hz hx hl hm hn
          go_enter Try.func26, Try.ntmps26
          go_wp2_with (first
            | (go_at_call 27; refine HN.out.mono ?_; rintro e w6 ⟨rfl, hww⟩; have hw2 := hww.symm; subst hw2)
            | (go_at_call 24; ((with_reducible refine HL.out.mono ?_); rintro e w6 ⟨rfl, hww⟩; have hw2 := hww.symm; subst hw2))
            | (go_at_call 24; ((with_reducible refine HM.out.mono ?_); rintro e w6 ⟨rfl, hww⟩; have hw2 := hww.symm; subst hw2)))
          go_ret
          exact ⟨by rw [HR.out] <;> rfl, rfl⟩)
      · have HR := Lib.hid (show r = true by rw [← hr]; unfold mayB; rw [hx, if_neg (by decide), if_pos hn, hl]; rfl)
        have HL := Lib.hid (hasL_e p f w k0 _ hl)
        clear hr hz hx hl hn
        go_enter Try.func26, Try.ntmps26
        go_wp2_with (first
          | (go_at_call 27; refine HN.out.mono ?_; rintro e w6 ⟨rfl, hww⟩; have hw2 := hww.symm; subst hw2)
          | (go_at_call 24; ((with_reducible refine HL.out.mono ?_); rintro e w6 ⟨rfl, hww⟩; have hw2 := hww.symm; subst hw2)))
        go_ret
        exact ⟨by rw [HR.out] <;> rfl, rfl⟩
    · have HN := Lib.hid (isNew_e g A n c w h0 false (by simpa using hn))
      have HR := Lib.hid (show r = !hL f by rw [← hr]; unfold mayB; rw [hx, if_neg (by decide), if_neg hn])
      obtain ⟨l, hl⟩ : ∃ l, hL f = l := ⟨_, rfl⟩
      have HL := Lib.hid (hasL_e p f w k0 _ hl)
      rw [hl] at HR
      clear hr hz hx hl hn
      go_enter Try.func26, Try.ntmps26
      go_wp2_with (first
        | (go_at_call 27; refine HN.out.mono ?_; rintro e w6 ⟨rfl, hww⟩; have hw2 := hww.symm; subst hw2)
        | (go_at_call 24; ((with_reducible refine HL.out.mono ?_); rintro e w6 ⟨rfl, hww⟩; have hw2 := hww.symm; subst hw2)))
      go_ret
      exact ⟨by rw [HR.out] <;> rfl, rfl⟩
  · have hz : ¬ f.toNat % 64 = 0 := by simpa [hX] using hx
    obtain ⟨z, hzz⟩ : ∃ z, z = f.toNat % 64 := ⟨_, rfl⟩
    rw [← hzz] at hX0 hz
    have hz2 : ((z : Int) == 0) = false := by simpa using hz
    have hz3 : ¬ (z : Int) = 0 := by omega
    have HR := Lib.hid (show r = false by rw [← hr]; unfold mayB; rw [hx]; rfl)
    clear hr hx hzz hz
    go_enter Try.func26, Try.ntmps26
    go_wp2
    go_ret
    exact ⟨by rw [HR.out] <;> rfl, rfl⟩
end Go.Proofs.Ytjachohgffnbiaa
