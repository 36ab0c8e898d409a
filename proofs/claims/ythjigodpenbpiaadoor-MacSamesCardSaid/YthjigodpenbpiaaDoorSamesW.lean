/-
  The walk of the statement MacSames.
-/
import Derived.Test.YthjigodpenbpiaaDoorSame
import Derived.Test.YthjigodpenbpiaaDoorKeep
import Derived.Test.YthjigodpenbpiaaDoorEnds
namespace Go.Proofs.YthjigodpenbpiaaDoor
open Go.RowKit

theorem In.weaken' {w : World} {B B' : Nat} {A : Option Addr} {c : Nat} {xs : List UInt8} (h : In w B A c xs) (hB : B ≤ B') : In w B' A c xs :=
  ⟨h.1, h.2.1, fun h0 => by obtain ⟨gb, ob, e, hl, hby⟩ := h.2.2 h0; exact ⟨gb, ob, e, by omega, hby⟩⟩
theorem same_here {A A' : Option Addr} {c c' : Nat} {a b : List UInt8} {w : World} {r : Bool} (ha : In w w.heap.size A c a) (hb : In w w.heap.size A' c' b) (hr : decide (a = b) = r) :
    Calls Tryd.prog 44 #[.slice A a.length c, .slice A' b.length c'] w fun e w' => e = .returned (.bool r) ∧ ∃ k, w' = w.drewN k := by
  have := same_any A A' c c' w.heap.size a b w ha hb
  rwa [hr] at this

theorem same_here_n {A A' : Option Addr} {c c' n : Nat} {a b : List UInt8} {w : World} {r : Bool} (ha : In w w.heap.size A c a) (hb : In w w.heap.size A' c' b) (hn : b.length = n) (hr : decide (a = b) = r) :
    Calls Tryd.prog 44 #[.slice A a.length c, .slice A' n c'] w fun e w' => e = .returned (.bool r) ∧ ∃ k, w' = w.drewN k := by
  subst hn
  exact same_here ha hb hr

/-- What holds through the statement's great condition: what came in, and the copy. -/
def SamS (w : World) (base : Nat) (A : Option Addr) (n c : Nat) (ys : List UInt8) (W : World) : Prop := Below w.heap.size w W ∧ Buf W base A n c ys ∧ base ≤ W.heap.size
section
variable {w W W' : World} {base n c : Nat} {A : Option Addr} {ys : List UInt8}
theorem SamS.drewN (h : SamS w base A n c ys W) (k : Nat) : SamS w base A n c ys (W.drewN k) := ⟨below_drewN h.1 k, h.2.1.drewN k, h.2.2⟩
theorem SamS.drewNN {j k : Nat} (h : SamS w base A n c ys (W.drewN j)) : SamS w base A n c ys (W.drewN k) := ⟨⟨h.1.os, h.1.tape, h.1.output, h.1.size, h.1.block⟩, h.2.1, h.2.2⟩
theorem SamS.step (h : SamS w base A n c ys W) (hb : Below W.heap.size W W') : SamS w base A n c ys W' := ⟨h.1.trans (hb.mono h.1.size), h.2.1.below hb, Nat.le_trans h.2.2 hb.size⟩
theorem SamS.alloc (h : SamS w base A n c ys W) (o : Obj) : SamS w base A n c ys (W.alloc o) := h.step ((Below.refl _ _).alloc (Nat.le_refl _) o)
end

set_option maxRecDepth 100000 in
set_option maxHeartbeats 4000000 in
theorem macSames_walk (A B : Option Addr) (ca cb : Nat) (xa xb : List UInt8) (n0 : Int) (w : World) (ia : In w w.heap.size A ca xa) (ib : In w w.heap.size B cb xb) (ht : Tabs w) :
    Calls Tryd.prog 12 #[.slice A xa.length ca, .slice B xb.length cb, .int .i64 n0] w fun e w' => e = .returned (.bool true) ∧ Below w.heap.size w w' := by
  have ma : min (xa.length : Int) 300 = ((xa.take 300).length : Int) := by rw [List.length_take]; omega
  have mb : min (xb.length : Int) 300 = ((xb.take 300).length : Int) := by rw [List.length_take]; omega
  have ja := ia.take 300
  have jb := ib.take 300
  have la2 : (xa.take 300).length ≤ 300 := by rw [List.length_take]; omega
  have la3 : (xa.take 300).length ≤ xa.length := by rw [List.length_take]; omega
  have lb2 : (xb.take 300).length ≤ 300 := by rw [List.length_take]; omega
  have lb3 : (xb.take 300).length ≤ xb.length := by rw [List.length_take]; omega
  obtain ⟨ha, hca, _⟩ := ia
  obtain ⟨hb, hcb, _⟩ := ib
  have ja0 := ja
  have jb0 := jb
  have ka := ja.1
  have kb := jb.1
  generalize xa.take 300 = ya at *
  generalize xb.take 300 = yb at *
  go_enter Tryd.func12, Tryd.ntmps12
  go_wp2
  go_quiet (fail)
  clear ma mb la3 lb3 ha hb
  have hb1 : Below w.heap.size w (w.drewN nq) := below_drewN (Below.refl _ _) nq
  replace ja := ja.up hb1
  replace jb := jb.up hb1
  obtain ⟨w1, hw1⟩ : ∃ w1, w1 = w.drewN nq := ⟨_, rfl⟩
  rw [← hw1] at hb1 ja jb ⊢
  clear hw1
  have hbuf := buf_empty w1
  have hbl0 : Below w1.heap.size w1 (w1.alloc (.cells #[] 5)) := (Below.refl _ _).alloc (Nat.le_refl _) _
  have hsrc : _root_.Go.Src Tryd.prog 1 27 (.slice A ya.length ca) ya.length (ya.map B8) (w1.alloc (.cells #[] 5)) := src_in' ((ja.below hbl0).src (g := w1.heap.size) (Nat.le_refl _))
  go_wp2_with (refine wpList_append_keep rfl (.tmp 18) (.tmp 19) 27 rfl w1.heap.size _ 0 0 [] ya _ rfl hbuf rfl hsrc (by omega) (by simp) ya.length (by omega) ?_; intro A3 c3 w3 hB3 hg3 _)
  have hb13 := below_own hbl0 hbuf hg3 (Nat.le_refl _) (by simp)
  rw [List.nil_append] at hB3
  have hb3 := hb1.trans (hb13.mono hb1.size)
  clear hsrc hbuf hbl0 hg3
  have hbs3 := hb3.size
  have hb1s := hb1.size
  have HS0 := Lib.hid (show SamS w w1.heap.size A3 ya.length c3 ya w3.drew from ⟨below_drewN hb3 1, hB3.drew, hb13.size⟩)
  have HT := Lib.hid (fun (W : World) (h : SamS w w1.heap.size A3 ya.length c3 ya W) => ht.below h.1)
  have HS2 := Lib.hid (fun (W : World) (h : SamS w w1.heap.size A3 ya.length c3 ya W) => same_here (ja0.up h.1) (h.2.1.toIn (Nat.le_refl _)) (r := true) (by simp))
  have hcva := fun (W : World) (h : SamS w w1.heap.size A3 ya.length c3 ya W) => conv_in rfl (ja0.up h.1)
  have hcvb := fun (W : World) (h : SamS w w1.heap.size A3 ya.length c3 ya W) => conv_in rfl (jb0.up h.1)
  have HA := Lib.hid (fun (W : World) (h : SamS w w1.heap.size A3 ya.length c3 ya W) => ja0.up h.1)
  obtain ⟨r, hr⟩ : ∃ r, decide (ya = yb) = r := ⟨_, rfl⟩
  have HS1 := Lib.hid (fun (W : World) (h : SamS w w1.heap.size A3 ya.length c3 ya W) => same_here (ja0.up h.1) (jb0.up h.1) hr)
  have hr2 : (ya == yb) = r := by
    rw [← hr]
    by_cases h : ya = yb
    · subst h; simp
    · simp [h]
  clear hr ht hca hcb
  clear ja jb hB3 hb3 hb13 hb1
  go_region_held3 (SamS w w1.heap.size A3 ya.length c3 ya)
    (first
      | exact HS0.out
      | assumption
      | exact SamS.drewN (by assumption) _
      | exact SamS.drewNN (by assumption)
      | exact SamS.step (by assumption) (by assumption)
      | exact SamS.alloc (by assumption) _)
    (first
      | (go_at_call 37; ((with_reducible refine (macs_any _ (HT.out _ (by assumption))).mono ?_); rintro e w7 ⟨rfl, hb7⟩))
      | (go_at_call 44; ((with_reducible refine (HS1.out _ (by assumption)).mono ?_); rintro e w7 ⟨rfl, k7, rfl⟩))
      | (go_at_call 44; ((with_reducible refine (HS2.out _ (by assumption)).mono ?_); rintro e w7 ⟨rfl, k7, rfl⟩))
      | (go_at_call 44; ((with_reducible refine (same_here_n (HA.out _ (by assumption)) (by assumption : In _ _ A4 c4 (ya ++ [0])) (n := ya.length + 1) (by simp) (r := false) (by simp)).mono ?_); rintro e w7 ⟨rfl, k7, rfl⟩))
      | (refine step_append_keep (by rfl) (.tmp 42) (.tmp 43) 27 rfl w1.heap.size A3 ya.length c3 ya [0] _ rfl ((by assumption : SamS w w1.heap.size A3 ya.length c3 ya _).2.1) rfl (src_byte (new_cell _ _ _)) (by simp; omega) ((by assumption : SamS w w1.heap.size A3 ya.length c3 ya _).2.2) (ya.length + 1) (by simp) ?_; intro A4 c4 w8 hB4 hg4 hk4;
         have hS7 := (by assumption : SamS w w1.heap.size A3 ya.length c3 ya _);
         have hS8 : SamS w w1.heap.size A3 ya.length c3 ya w8 := ⟨below_own hS7.1 hS7.2.1 hg4 hb1s hS7.1.size, hk4, Nat.le_trans hS7.2.2 hg4.size⟩; have hI8 := hB4.toIn (Nat.le_refl _)))
  have hS := (by assumption : SamS w w1.heap.size A3 ya.length c3 ya _)
  obtain ⟨hbe, hBe, hbe2⟩ := hS
  have hbz := hbe.size
  by_cases h0 : ya.length = 0
  · obtain rfl : ya = [] := List.eq_nil_of_length_eq_zero h0
    have hn : ∀ W : World, In W W.heap.size none 0 [] := fun W => ⟨by simp, by simp, fun h => absurd h (by simp)⟩
    have hcal := fun W : World => fun (hw : In W W.heap.size A3 c3 []) => same_here (a := []) (hn W) hw (r := true) (by simp)
    simp only [List.length_nil] at hcal hBe ⊢
    go_wp2_with (go_at_call 44; ((with_reducible refine (hcal _ (hBe.toIn (Nat.le_refl _))).mono ?_); rintro e w7 ⟨rfl, k7, rfl⟩))
    go_ret
    exact ⟨rfl, ⟨hbe.os, hbe.tape, hbe.output, hbe.size, hbe.block⟩⟩
  · have hd : ((ya.length : Int) == 0) = false := by rw [beq_eq_false_iff_ne]; omega
    obtain ⟨m, hm⟩ : ∃ m : Nat, IntKind.u64.wrap n0 = (m : Int) := ⟨_, u64_wrap_nat n0⟩
    obtain ⟨i, hi⟩ : ∃ i : Nat, (m : Int) % (ya.length : Int) = (i : Int) := ⟨m % ya.length, by rw [Int.natCast_emod]⟩
    obtain ⟨k, hk⟩ : ∃ k : Nat, (m : Int) % 8 = (k : Int) := ⟨m % 8, by omega⟩
    have hi1 : i < ya.length := by have := Int.emod_lt_of_pos (m : Int) (show (0 : Int) < (ya.length : Int) by omega); omega
    have hk1 : k < 8 := by omega
    have hi2 : (i : Int) < (ya.length : Int) := by omega
    have hi0 : (0 : Int) ≤ (i : Int) := by omega
    obtain ⟨g3, rfl, hg3, hg3', hby⟩ := hBe.at (by omega)
    have hl0 : (0 : Int) < (ya.length : Int) := by omega
    have c1 := hby i hi1
    rw [Nat.zero_add] at c1
    have f1 := hBe.notFrozen (j := i) (by have := hBe.le.1; omega)
    have hlc := hBe.le.1
    obtain ⟨d, hd2, hd3⟩ : ∃ d : UInt8, (2 : Int) ^ k % 256 = (d.toNat : Int) ∧ d ≠ 0 := by
      refine ⟨UInt8.ofNat (2 ^ k), ?_, ?_⟩ <;> (obtain rfl | rfl | rfl | rfl | rfl | rfl | rfl | rfl : k = 0 ∨ k = 1 ∨ k = 2 ∨ k = 3 ∨ k = 4 ∨ k = 5 ∨ k = 6 ∨ k = 7 := by omega) <;> decide
    obtain ⟨x, hx⟩ : ∃ x, x = ya.getD i 0 := ⟨_, rfl⟩
    rw [← hx] at c1
    have hne : decide (ya = ya.set i (x ^^^ d)) = false := by
      rw [decide_eq_false_iff_not]
      intro e
      have h2 := congrArg (fun l => l.getD i 0) e
      simp only [List.getD_eq_getElem?_getD, List.getElem?_set_self hi1] at h2
      rw [hx, List.getD_eq_getElem?_getD] at h2
      simp only [Option.getD_some] at h2
      exact hd3 (UInt8.xor_right_inj (ya[i]?.getD 0) |>.1 (by rw [← h2]; simp))
    have hB6 := fun W (h : Buf W w1.heap.size (some ⟨g3, 0, none⟩) ya.length c3 ya) => (h.set hi1 (x ^^^ d)).toIn (Nat.le_refl _)
    have HB6 := Lib.hid hB6
    have HX := Lib.hid hx
    have HNE := Lib.hid hne
    clear hS8 hk4 hS7 HS0 HT HS2 hB4 hI8 hx hne hB6
    generalize w8.drewN k7 = W at *
    have hfin : Below w.heap.size w (W.setCell ⟨g3, i, none⟩ (B8 (x ^^^ d))) := hbe.setCell (show w.heap.size ≤ g3 by omega) _
    have hcal := Lib.hid (same_here_n (ja0.up hfin) (HB6.out W hBe) (by rw [List.length_set]) HNE.out)
    go_wp2_with (go_at_call 44; rw [b_xor]; ((with_reducible refine hcal.out.mono ?_); rintro e w9 ⟨rfl, k9, rfl⟩))
    go_ret
    exact ⟨rfl, below_drewN hfin _⟩
end Go.Proofs.YthjigodpenbpiaaDoor
