/-
  The contracts of the document's own answer for layer 14 (keys).
-/
import Derived.Test.YtdjhempfpgcigaaDoorKe
namespace Go.Proofs.YtdjhempfpgcigaaDoor
open Go.RowKit

set_option maxRecDepth 100000 in
set_option maxHeartbeats 1000000 in
theorem refZero_any (w : World) :
    Calls Tryd.prog 33 #[] w fun e w' => e = .returned (.string ⟨zero32.toArray⟩) ∧ Below w.heap.size w w' := by
  have hmk : ∀ W : World, (Instr.makeSlice 26 (.int .i64 32) (.int .i64 32)).run Tryd.prog W = .ok (.slice (some ⟨W.heap.size, 0, none⟩) 32 32) (W.alloc (.cells (zero32.map B8).toArray 5)) := fun W => run_make_bytes .i64 .i64 32 32 (Nat.le_refl _) (by omega) W
  have hB := Blk.new_of w 5 (zero32.map B8).toArray (zero32.map B8) rfl
  have hI := in_of_blk hB zero32_length (Below.refl _ _)
  have hb : Below w.heap.size w (w.alloc (.cells (zero32.map B8).toArray 5)) := (Below.refl _ _).alloc (Nat.le_refl _) _
  go_enter Tryd.func33, Tryd.ntmps33
  go_wp2_with ((with_reducible refine (?_ : wpList _ _ _ (Oper.mk (some 2) _ _ _ _ _ :: _) _ _)); go_loud (refine wpList_string_of rfl (.tmp 1) rfl zero32 (some ⟨w.heap.size, 0, none⟩) 32 _ rfl (hI.src (Nat.le_refl _)) ?_))
  go_ret
  exact ⟨rfl, hb⟩

theorem refSum_nil (w : World) : Calls Tryd.prog 35 #[.string ⟨#[]⟩] w fun e w' => e = .returned (.string ⟨sha0.toArray⟩) ∧ Below w.heap.size w w' := refSum_any [] w (by decide)
theorem refLabel_lab (lab key m : List UInt8) (w : World) (hk : key.length < 100000) (hl : lab.length ≤ 249) (hc : m.length ≤ 255) :
    Calls Tryd.prog 37 #[.string ⟨key.toArray⟩, .string ⟨lab.toArray⟩, .string ⟨m.toArray⟩, .int .i64 32] w fun e w' => e = .returned (.tuple #[.string ⟨(deriveS lab key m).toArray⟩, .int .i64 0]) ∧ Below w.heap.size w w' := refLabel_any 32 key lab m w hk (by decide) hl hc
theorem refFin_lab (key : List UInt8) (w : World) (hk : key.length < 100000) :
    Calls Tryd.prog 37 #[.string ⟨key.toArray⟩, .string ⟨#[102, 105, 110, 105, 115, 104, 101, 100]⟩, .string ⟨#[]⟩, .int .i64 32] w fun e w' => e = .returned (.tuple #[.string ⟨(deriveS [102, 105, 110, 105, 115, 104, 101, 100] key []).toArray⟩, .int .i64 0]) ∧ Below w.heap.size w w' := refLabel_lab [102, 105, 110, 105, 115, 104, 101, 100] key [] w hk (by decide) (by decide)
set_option maxRecDepth 100000 in
set_option maxHeartbeats 1000000 in
theorem refDerive_ok (lab key m : List UInt8) (w : World) (hk : key.length < 100000) (hl : lab.length ≤ 249) (hc : m.length ≤ 255) :
    Calls Tryd.prog 34 #[.string ⟨key.toArray⟩, .string ⟨lab.toArray⟩, .string ⟨m.toArray⟩] w fun e w' => e = .returned (.string ⟨(deriveS lab key m).toArray⟩) ∧ Below w.heap.size w w' := by
  go_enter Tryd.func34, Tryd.ntmps34
  go_wp2_with fail
  refine (refLabel_lab lab key m _ hk hl hc).mono ?_
  rintro e w1 ⟨rfl, hb1⟩
  go_wp2
  go_ret
  exact ⟨rfl, hb1⟩

set_option maxRecDepth 100000 in
set_option maxHeartbeats 1000000 in
theorem refDerive_bad (lab key m : List UInt8) (w : World) (hl : 249 < lab.length ∨ 255 < m.length) (hl2 : lab.length < 549755813888) :
    Calls Tryd.prog 34 #[.string ⟨key.toArray⟩, .string ⟨lab.toArray⟩, .string ⟨m.toArray⟩] w fun e w' => e = .returned (.string ⟨zero32.toArray⟩) ∧ Below w.heap.size w w' := by
  go_enter Tryd.func34, Tryd.ntmps34
  go_wp2_with fail
  refine (refLabel_bad key lab m 32 _ (by omega) hl2).mono ?_
  rintro e w1 ⟨rfl, hb1⟩
  go_wp2_with fail
  refine (refZero_any _).mono ?_
  rintro e w2 ⟨rfl, hb2⟩
  replace hb2 := hb1.trans (hb2.mono hb1.size)
  go_wp2
  go_ret
  exact ⟨rfl, hb2⟩

theorem refDerive_der (key : List UInt8) (w : World) (hk : key.length < 100000) :
    Calls Tryd.prog 34 #[.string ⟨key.toArray⟩, .string ⟨#[100, 101, 114, 105, 118, 101, 100]⟩, .string ⟨sha0.toArray⟩] w fun e w' => e = .returned (.string ⟨(deriveS [100, 101, 114, 105, 118, 101, 100] key sha0).toArray⟩) ∧ Below w.heap.size w w' := refDerive_ok [100, 101, 114, 105, 118, 101, 100] key sha0 w hk (by decide) (by rw [sha0_length]; decide)
theorem refDerive_bin (key : List UInt8) (w : World) (hk : key.length < 100000) :
    Calls Tryd.prog 34 #[.string ⟨key.toArray⟩, .string ⟨#[114, 101, 115, 32, 98, 105, 110, 100, 101, 114]⟩, .string ⟨sha0.toArray⟩] w fun e w' => e = .returned (.string ⟨(deriveS [114, 101, 115, 32, 98, 105, 110, 100, 101, 114] key sha0).toArray⟩) ∧ Below w.heap.size w w' := refDerive_ok [114, 101, 115, 32, 98, 105, 110, 100, 101, 114] key sha0 w hk (by decide) (by rw [sha0_length]; decide)
set_option maxRecDepth 100000 in
set_option maxHeartbeats 1000000 in
theorem refEarly_any (p : List UInt8) (w : World) (hp : p.length = 32) :
    Calls Tryd.prog 10 #[.string ⟨p.toArray⟩] w fun e w' => e = .returned (.string ⟨(earlyS p).toArray⟩) ∧ Below w.heap.size w w' := by
  go_enter Tryd.func10, Tryd.ntmps10
  go_wp2_with fail
  refine (refZero_any _).mono ?_
  rintro e w1 ⟨rfl, hb1⟩
  go_wp2_with fail
  refine (refMac_any zero32 p _ (by rw [zero32_length]; decide) (by omega)).mono ?_
  rintro e w2 ⟨rfl, hb2⟩
  replace hb2 := hb1.trans (hb2.mono hb1.size)
  go_wp2
  go_ret
  exact ⟨rfl, hb2⟩

set_option maxRecDepth 100000 in
set_option maxHeartbeats 1000000 in
theorem refHands_any (s f : List UInt8) (w : World) (hs : s.length = 32) (hf : f.length = 32) :
    Calls Tryd.prog 11 #[.string ⟨s.toArray⟩, .string ⟨f.toArray⟩] w fun e w' => e = .returned (.string ⟨(nextS s f).toArray⟩) ∧ Below w.heap.size w w' := by
  go_enter Tryd.func11, Tryd.ntmps11
  go_wp2_with fail
  refine (refSum_nil _).mono ?_
  rintro e w1 ⟨rfl, hb1⟩
  go_wp2_with fail
  refine (refDerive_der s _ (by omega)).mono ?_
  rintro e w2 ⟨rfl, hb2⟩
  replace hb2 := hb1.trans (hb2.mono hb1.size)
  go_wp2_with fail
  refine (refMac_any (deriveS [100, 101, 114, 105, 118, 101, 100] s sha0) f _ (by rw [deriveS_length]; decide) (by omega)).mono ?_
  rintro e w3 ⟨rfl, hb3⟩
  replace hb3 := hb2.trans (hb3.mono hb2.size)
  go_wp2
  go_ret
  exact ⟨rfl, hb3⟩

set_option maxRecDepth 100000 in
set_option maxHeartbeats 1000000 in
theorem refMaster_any (s : List UInt8) (w : World) (hs : s.length = 32) :
    Calls Tryd.prog 13 #[.string ⟨s.toArray⟩] w fun e w' => e = .returned (.string ⟨(nextS s zero32).toArray⟩) ∧ Below w.heap.size w w' := by
  go_enter Tryd.func13, Tryd.ntmps13
  go_wp2_with fail
  refine (refSum_nil _).mono ?_
  rintro e w1 ⟨rfl, hb1⟩
  go_wp2_with fail
  refine (refDerive_der s _ (by omega)).mono ?_
  rintro e w2 ⟨rfl, hb2⟩
  replace hb2 := hb1.trans (hb2.mono hb1.size)
  go_wp2_with fail
  refine (refZero_any _).mono ?_
  rintro e w3 ⟨rfl, hb3⟩
  replace hb3 := hb2.trans (hb3.mono hb2.size)
  go_wp2_with fail
  refine (refMac_any (deriveS [100, 101, 114, 105, 118, 101, 100] s sha0) zero32 _ (by rw [deriveS_length]; decide) (by rw [zero32_length]; decide)).mono ?_
  rintro e w4 ⟨rfl, hb4⟩
  replace hb4 := hb3.trans (hb4.mono hb3.size)
  go_wp2
  go_ret
  exact ⟨rfl, hb4⟩

set_option maxRecDepth 100000 in
set_option maxHeartbeats 1000000 in
theorem refFinish_any (t s : List UInt8) (w : World) (hk : t.length = 32) (hs : s.length = 32) :
    Calls Tryd.prog 18 #[.string ⟨t.toArray⟩, .string ⟨s.toArray⟩] w fun e w' => e = .returned (.string ⟨(finishS t s).toArray⟩) ∧ Below w.heap.size w w' := by
  go_enter Tryd.func18, Tryd.ntmps18
  go_wp2_with fail
  refine (refFin_lab t _ (by omega)).mono ?_
  rintro e w1 ⟨rfl, hb1⟩
  go_wp2_with fail
  refine (refMac_any (deriveS [102, 105, 110, 105, 115, 104, 101, 100] t []) s _ (by rw [deriveS_length]; decide) (by omega)).mono ?_
  rintro e w2 ⟨rfl, hb2⟩
  replace hb2 := hb1.trans (hb2.mono hb1.size)
  go_wp2
  go_ret
  exact ⟨rfl, hb2⟩

set_option maxRecDepth 100000 in
set_option maxHeartbeats 1000000 in
theorem refBinder_any (t s : List UInt8) (w : World) (hk : t.length = 32) (hs : s.length = 32) :
    Calls Tryd.prog 17 #[.string ⟨t.toArray⟩, .string ⟨s.toArray⟩] w fun e w' => e = .returned (.string ⟨(binderS t s).toArray⟩) ∧ Below w.heap.size w w' := by
  go_enter Tryd.func17, Tryd.ntmps17
  go_wp2_with fail
  refine (refSum_nil _).mono ?_
  rintro e w1 ⟨rfl, hb1⟩
  go_wp2_with fail
  refine (refDerive_bin t _ (by omega)).mono ?_
  rintro e w2 ⟨rfl, hb2⟩
  replace hb2 := hb1.trans (hb2.mono hb1.size)
  go_wp2_with fail
  refine (refFinish_any (deriveS [114, 101, 115, 32, 98, 105, 110, 100, 101, 114] t sha0) s _ (deriveS_length _ _ _) hs).mono ?_
  rintro e w3 ⟨rfl, hb3⟩
  replace hb3 := hb2.trans (hb3.mono hb2.size)
  go_wp2
  go_ret
  exact ⟨rfl, hb3⟩

end Go.Proofs.YtdjhempfpgcigaaDoor
