/-
  The contract of package radius's inForm.
-/
import Derived.Test.YtbomckbekcaemaaDoorRda
namespace Go.Proofs.YtbomckbekcaemaaDoor
open Go.RowKit

def codeOK (code : Int) : Bool := decide (code = 1) || decide (code = 2) || decide (code = 3) || decide (code = 11)
/-- Is a packet in form? -/
def pkOK (code id : Int) (la : Attrs) : Bool := codeOK code && decide (0 ≤ id) && decide (id ≤ 255) && attrsOK la
theorem pk_code {code id : Int} {la : Attrs} (h : codeOK code = false) : pkOK code id la = false := by unfold pkOK; simp [h]
theorem pk_id {code id : Int} {la : Attrs} (h : ¬ (0 ≤ id ∧ id ≤ 255)) : pkOK code id la = false := by
  unfold pkOK
  by_cases h0 : 0 ≤ id
  · have h1 : ¬ id ≤ 255 := fun h1 => h ⟨h0, h1⟩
    simp [h1]
  · simp [h0]
theorem pk_attrs {code id : Int} {la : Attrs} (hc : codeOK code = true) (h : 0 ≤ id ∧ id ≤ 255) : pkOK code id la = attrsOK la := by unfold pkOK; simp [hc, h.1, h.2]
set_option maxRecDepth 100000 in
set_option maxHeartbeats 1000000 in
theorem inForm_none (g c n : Nat) (code id : Int) (A : Option Addr) (la : Attrs) (w : World) (h0 : w.cell? ⟨g, 0, none⟩ = some (.int .i64 code)) (_h1 : w.cell? ⟨g, 1, none⟩ = some (.int .i64 id)) (_h18 : w.cell? ⟨g, 18, none⟩ = some (.slice A n c)) (_hn : la.length = n) (_hA : AIn w w.heap.size A c la) (h : codeOK code = false) :
    Calls Tryd.prog 44 #[.pointer (some ⟨g, 0, none⟩)] w fun e w' => e = .returned (.bool (pkOK code id la)) ∧ Below w.heap.size w w' := by
  have HZ := Lib.hid (pk_code (id := id) (la := la) h)
  have h2 : ¬ code = 1 ∧ ¬ code = 2 ∧ ¬ code = 3 ∧ ¬ code = 11 := by unfold codeOK at h; simpa [and_assoc] using h
  obtain ⟨k1, k2, k3, k4⟩ := h2
  have j1 : (code == 1) = false := by simpa using k1
  have j2 : (code == 2) = false := by simpa using k2
  have j3 : (code == 3) = false := by simpa using k3
  have j4 : (code == 11) = false := by simpa using k4
  clear h _hA _hn _h18 _h1
  go_enter Tryd.func44, Tryd.ntmps44
  go_wp2
  go_ret
  exact ⟨by rw [HZ.out]; rfl, Below.refl _ _⟩
set_option maxRecDepth 100000 in
set_option maxHeartbeats 1000000 in
theorem inForm_1 (g c n : Nat) (id : Int) (A : Option Addr) (la : Attrs) (w : World) (h0 : w.cell? ⟨g, 0, none⟩ = some (.int .i64 1)) (h1 : w.cell? ⟨g, 1, none⟩ = some (.int .i64 id)) (h18 : w.cell? ⟨g, 18, none⟩ = some (.slice A n c)) (hn : la.length = n) (hA : AIn w w.heap.size A c la) :
    Calls Tryd.prog 44 #[.pointer (some ⟨g, 0, none⟩)] w fun e w' => e = .returned (.bool (pkOK 1 id la)) ∧ Below w.heap.size w w' := by
  have HI := Lib.hid (attrsInForm_e A c n la w hn hA)
  clear hA hn
  by_cases hlo : 0 ≤ id
  · by_cases hhi : id ≤ 255
    · rw [pk_attrs (code := 1) (by decide) ⟨hlo, hhi⟩]
      generalize attrsOK la = r at *
      go_enter Tryd.func44, Tryd.ntmps44
      go_wp2_with (go_at_call 62; refine HI.out.mono ?_; rintro e w2 ⟨rfl, hb2⟩)
      go_ret
      exact ⟨rfl, hb2⟩
    · have HZ := Lib.hid (pk_id (code := 1) (id := id) (la := la) (fun h => hhi h.2))
      have hd : decide (id ≤ 255) = false := by simpa using hhi
      have hd2 : decide (0 ≤ id) = true := by simpa using hlo
      clear HI h18
      go_enter Tryd.func44, Tryd.ntmps44
      go_wp2
      go_ret
      exact ⟨by rw [HZ.out]; rfl, Below.refl _ _⟩
  · have HZ := Lib.hid (pk_id (code := 1) (id := id) (la := la) (fun h => hlo h.1))
    have hd2 : decide (0 ≤ id) = false := by simpa using hlo
    clear HI h18
    go_enter Tryd.func44, Tryd.ntmps44
    go_wp2
    go_ret
    exact ⟨by rw [HZ.out]; rfl, Below.refl _ _⟩
set_option maxRecDepth 100000 in
set_option maxHeartbeats 1000000 in
theorem inForm_2 (g c n : Nat) (id : Int) (A : Option Addr) (la : Attrs) (w : World) (h0 : w.cell? ⟨g, 0, none⟩ = some (.int .i64 2)) (h1 : w.cell? ⟨g, 1, none⟩ = some (.int .i64 id)) (h18 : w.cell? ⟨g, 18, none⟩ = some (.slice A n c)) (hn : la.length = n) (hA : AIn w w.heap.size A c la) :
    Calls Tryd.prog 44 #[.pointer (some ⟨g, 0, none⟩)] w fun e w' => e = .returned (.bool (pkOK 2 id la)) ∧ Below w.heap.size w w' := by
  have HI := Lib.hid (attrsInForm_e A c n la w hn hA)
  clear hA hn
  by_cases hlo : 0 ≤ id
  · by_cases hhi : id ≤ 255
    · rw [pk_attrs (code := 2) (by decide) ⟨hlo, hhi⟩]
      generalize attrsOK la = r at *
      go_enter Tryd.func44, Tryd.ntmps44
      go_wp2_with (go_at_call 62; refine HI.out.mono ?_; rintro e w2 ⟨rfl, hb2⟩)
      go_ret
      exact ⟨rfl, hb2⟩
    · have HZ := Lib.hid (pk_id (code := 2) (id := id) (la := la) (fun h => hhi h.2))
      have hd : decide (id ≤ 255) = false := by simpa using hhi
      have hd2 : decide (0 ≤ id) = true := by simpa using hlo
      clear HI h18
      go_enter Tryd.func44, Tryd.ntmps44
      go_wp2
      go_ret
      exact ⟨by rw [HZ.out]; rfl, Below.refl _ _⟩
  · have HZ := Lib.hid (pk_id (code := 2) (id := id) (la := la) (fun h => hlo h.1))
    have hd2 : decide (0 ≤ id) = false := by simpa using hlo
    clear HI h18
    go_enter Tryd.func44, Tryd.ntmps44
    go_wp2
    go_ret
    exact ⟨by rw [HZ.out]; rfl, Below.refl _ _⟩
set_option maxRecDepth 100000 in
set_option maxHeartbeats 1000000 in
theorem inForm_3 (g c n : Nat) (id : Int) (A : Option Addr) (la : Attrs) (w : World) (h0 : w.cell? ⟨g, 0, none⟩ = some (.int .i64 3)) (h1 : w.cell? ⟨g, 1, none⟩ = some (.int .i64 id)) (h18 : w.cell? ⟨g, 18, none⟩ = some (.slice A n c)) (hn : la.length = n) (hA : AIn w w.heap.size A c la) :
    Calls Tryd.prog 44 #[.pointer (some ⟨g, 0, none⟩)] w fun e w' => e = .returned (.bool (pkOK 3 id la)) ∧ Below w.heap.size w w' := by
  have HI := Lib.hid (attrsInForm_e A c n la w hn hA)
  clear hA hn
  by_cases hlo : 0 ≤ id
  · by_cases hhi : id ≤ 255
    · rw [pk_attrs (code := 3) (by decide) ⟨hlo, hhi⟩]
      generalize attrsOK la = r at *
      go_enter Tryd.func44, Tryd.ntmps44
      go_wp2_with (go_at_call 62; refine HI.out.mono ?_; rintro e w2 ⟨rfl, hb2⟩)
      go_ret
      exact ⟨rfl, hb2⟩
    · have HZ := Lib.hid (pk_id (code := 3) (id := id) (la := la) (fun h => hhi h.2))
      have hd : decide (id ≤ 255) = false := by simpa using hhi
      have hd2 : decide (0 ≤ id) = true := by simpa using hlo
      clear HI h18
      go_enter Tryd.func44, Tryd.ntmps44
      go_wp2
      go_ret
      exact ⟨by rw [HZ.out]; rfl, Below.refl _ _⟩
  · have HZ := Lib.hid (pk_id (code := 3) (id := id) (la := la) (fun h => hlo h.1))
    have hd2 : decide (0 ≤ id) = false := by simpa using hlo
    clear HI h18
    go_enter Tryd.func44, Tryd.ntmps44
    go_wp2
    go_ret
    exact ⟨by rw [HZ.out]; rfl, Below.refl _ _⟩
set_option maxRecDepth 100000 in
set_option maxHeartbeats 1000000 in
theorem inForm_11 (g c n : Nat) (id : Int) (A : Option Addr) (la : Attrs) (w : World) (h0 : w.cell? ⟨g, 0, none⟩ = some (.int .i64 11)) (h1 : w.cell? ⟨g, 1, none⟩ = some (.int .i64 id)) (h18 : w.cell? ⟨g, 18, none⟩ = some (.slice A n c)) (hn : la.length = n) (hA : AIn w w.heap.size A c la) :
    Calls Tryd.prog 44 #[.pointer (some ⟨g, 0, none⟩)] w fun e w' => e = .returned (.bool (pkOK 11 id la)) ∧ Below w.heap.size w w' := by
  have HI := Lib.hid (attrsInForm_e A c n la w hn hA)
  clear hA hn
  by_cases hlo : 0 ≤ id
  · by_cases hhi : id ≤ 255
    · rw [pk_attrs (code := 11) (by decide) ⟨hlo, hhi⟩]
      generalize attrsOK la = r at *
      go_enter Tryd.func44, Tryd.ntmps44
      go_wp2_with (go_at_call 62; refine HI.out.mono ?_; rintro e w2 ⟨rfl, hb2⟩)
      go_ret
      exact ⟨rfl, hb2⟩
    · have HZ := Lib.hid (pk_id (code := 11) (id := id) (la := la) (fun h => hhi h.2))
      have hd : decide (id ≤ 255) = false := by simpa using hhi
      have hd2 : decide (0 ≤ id) = true := by simpa using hlo
      clear HI h18
      go_enter Tryd.func44, Tryd.ntmps44
      go_wp2
      go_ret
      exact ⟨by rw [HZ.out]; rfl, Below.refl _ _⟩
  · have HZ := Lib.hid (pk_id (code := 11) (id := id) (la := la) (fun h => hlo h.1))
    have hd2 : decide (0 ≤ id) = false := by simpa using hlo
    clear HI h18
    go_enter Tryd.func44, Tryd.ntmps44
    go_wp2
    go_ret
    exact ⟨by rw [HZ.out]; rfl, Below.refl _ _⟩
set_option maxRecDepth 100000 in
set_option maxHeartbeats 1000000 in
theorem inForm_e (g c n : Nat) (code id : Int) (A : Option Addr) (la : Attrs) (w : World) (h0 : w.cell? ⟨g, 0, none⟩ = some (.int .i64 code)) (h1 : w.cell? ⟨g, 1, none⟩ = some (.int .i64 id)) (h18 : w.cell? ⟨g, 18, none⟩ = some (.slice A n c)) (hn : la.length = n) (hA : AIn w w.heap.size A c la) :
    Calls Tryd.prog 44 #[.pointer (some ⟨g, 0, none⟩)] w fun e w' => e = .returned (.bool (pkOK code id la)) ∧ Below w.heap.size w w' := by
  by_cases hc : codeOK code = true
  · have h2 : code = 1 ∨ code = 2 ∨ code = 3 ∨ code = 11 := by unfold codeOK at hc; simpa [or_assoc] using hc
    rcases h2 with rfl | rfl | rfl | rfl
    · exact inForm_1 g c n id A la w h0 h1 h18 hn hA
    · exact inForm_2 g c n id A la w h0 h1 h18 hn hA
    · exact inForm_3 g c n id A la w h0 h1 h18 hn hA
    · exact inForm_11 g c n id A la w h0 h1 h18 hn hA
  · exact inForm_none g c n code id A la w h0 h1 h18 hn hA (by simpa using hc)
end Go.Proofs.YtbomckbekcaemaaDoor
