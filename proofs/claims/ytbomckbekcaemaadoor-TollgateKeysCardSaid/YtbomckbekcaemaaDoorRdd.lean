/-
  The contract of package radius's Write.
-/
import Derived.Test.YtbomckbekcaemaaDoorRdc
namespace Go.Proofs.YtbomckbekcaemaaDoor
open Go.RowKit

/-- What Write tells. -/
def writeE (code id : Int) (Q : List UInt8) (la : Attrs) : List UInt8 × Nat := if pkOK code id la = true then (pkB code id Q la, 0) else ([], 2)
theorem pk_ranges {code id : Int} {la : Attrs} (h : pkOK code id la = true) : (0 ≤ code ∧ code ≤ 255) ∧ (0 ≤ id ∧ id ≤ 255) ∧ attrsOK la = true := by
  unfold pkOK codeOK at h
  simp at h
  refine ⟨?_, ⟨h.1.1.2, h.1.2⟩, h.2⟩
  rcases h.1.1.1 with ((h | h) | h) | h <;> omega
set_option maxRecDepth 100000 in
set_option maxHeartbeats 1000000 in
theorem write_e (c n : Nat) (code id : Int) (Q : List UInt8) (A : Option Addr) (la : Attrs) (w : World) (hQ : Q.length = 16) (hn : la.length = n) (hA : AIn w w.heap.size A c la) :
    Calls Tryd.prog 13 #[.agg (pkC code id Q A n c).toArray] w (WrapPost (writeE code id Q la) w) := by
  have HIN := Lib.hid (fun (g : Nat) (W : World) (h : Below w.heap.size w W) (hP : Blk W g 30 (pkC code id Q A n c)) => inForm_e g c n code id A la W (hP.cell 0) (hP.cell 1) ((hP.cell 18).trans (pkC_last code id Q A n c hQ)) hn (hA.up h))
  have HWH := Lib.hid (fun (hok : pkOK code id la = true) (g : Nat) (W : World) (h : Below w.heap.size w W) (hP : Blk W g 30 (pkC code id Q A n c)) => whole_r g c n code id Q A la W hP hQ (pk_ranges hok).1 (pk_ranges hok).2.1 hn (hA.up h) (pk_ranges hok).2.2)
  by_cases hok : pkOK code id la = true
  · have HZ := Lib.hid (show writeE code id Q la = (pkB code id Q la, 0) by unfold writeE; rw [if_pos hok])
    have HW2 := Lib.hid (HWH.out hok)
    rw [hok] at HIN
    generalize writeE code id Q la = E at *
    generalize pkC code id Q A n c = PL at *
    clear hok HWH hQ hn hA
    go_enter Tryd.func13, Tryd.ntmps13
    go_upto_region 1 with (fail)
    have hP := Blk.new_of w 30 PL.toArray PL rfl
    have hb0 : Below w.heap.size w (w.alloc (.cells PL.toArray 30)) := (Below.refl _ _).alloc (Nat.le_refl _) _
    obtain ⟨g, hg⟩ : ∃ g, g = w.heap.size := ⟨_, rfl⟩
    rw [← hg] at hP
    simp only [← hg]
    have HP := Lib.hid hP
    have HB := Lib.hid hb0
    clear hg hP hb0
    generalize w.alloc (.cells PL.toArray 30) = w1 at *
    go_wp2_with (first
      | (go_at_call 44; refine (HIN.out g w1 HB.out HP.out).mono ?_; rintro e w2 ⟨rfl, hb2⟩; have hP2 := HP.out.below hb2 HP.out.lt; have hB2 := HB.out.trans (hb2.mono HB.out.size))
      | (go_at_call 45; refine (HW2.out g w2 hB2 hP2).mono ?_; rintro e w3 ⟨A3, c3, rfl, hB3, hb3⟩))
    go_ret2
    exact ⟨A3, _, c3, by rw [HZ.out] <;> rfl, by rw [HZ.out]; exact hB3.base hB2.size, hB2.trans (hb3.mono hB2.size)⟩
  · have HZ := Lib.hid (show writeE code id Q la = ([], 2) by unfold writeE; rw [if_neg hok])
    have hf : pkOK code id la = false := by simpa using hok
    rw [hf] at HIN
    generalize writeE code id Q la = E at *
    generalize pkC code id Q A n c = PL at *
    clear hok hf HWH hQ hn hA
    go_enter Tryd.func13, Tryd.ntmps13
    go_upto_region 1 with (fail)
    have hP := Blk.new_of w 30 PL.toArray PL rfl
    have hb0 : Below w.heap.size w (w.alloc (.cells PL.toArray 30)) := (Below.refl _ _).alloc (Nat.le_refl _) _
    obtain ⟨g, hg⟩ : ∃ g, g = w.heap.size := ⟨_, rfl⟩
    rw [← hg] at hP
    simp only [← hg]
    have HP := Lib.hid hP
    have HB := Lib.hid hb0
    clear hg hP hb0
    generalize w.alloc (.cells PL.toArray 30) = w1 at *
    go_wp2_with (go_at_call 44; refine (HIN.out g w1 HB.out HP.out).mono ?_; rintro e w2 ⟨rfl, hb2⟩)
    go_ret2
    exact ⟨none, 0, 0, by rw [HZ.out] <;> rfl, by rw [HZ.out]; exact Buf.nil _ _, HB.out.trans (hb2.mono HB.out.size)⟩
end Go.Proofs.YtbomckbekcaemaaDoor
