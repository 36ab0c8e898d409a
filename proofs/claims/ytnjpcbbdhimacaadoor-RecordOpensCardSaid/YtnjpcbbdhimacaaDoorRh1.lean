/-
 Rh1.
-/
import Derived.Test.YtnjpcbbdhimacaaDoorRc4
import Derived.Test.YtnjpcbbdhimacaaDoorKh
namespace Go.Proofs.YtnjpcbbdhimacaaDoor
open Go.RowKit
theorem infoHalf : (Tryd.prog.info? 74).map (·.size) = some 14 := by kernel_rfl
def halfC (gx : Nat) (iv : List UInt8) (u : Nat) : List Value := .pointer (some ⟨gx, 0, none⟩) :: (iv.map B8 ++ [.int .i64 (u : Int)])
/-- A half that is ready: its box, its beginning, how many were used. -/
structure HalfAt (w : World) (gh gx gk gr R : Nat) (L : List UInt32) (iv : List UInt8) (u : Nat) : Prop where
 half : Blk w gh 74 (halfC gx iv u)
 box : BoxAt w gx gk gr R L
 len : iv.length = 12
 far : gx ≠ gh ∧ gk ≠ gh ∧ gr ≠ gh
theorem HalfAt.below {w w' : World} {gh gx gk gr R u : Nat} {L : List UInt32} {iv : List UInt8} (h : HalfAt w gh gx gk gr R L iv u) (hb : Below w.heap.size w w') : HalfAt w' gh gx gk gr R L iv u :=
 ⟨h.half.below hb h.half.lt, h.box.below hb, h.len, h.far⟩
theorem HalfAt.used {w : World} {gh gx gk gr R u : Nat} {L : List UInt32} {iv : List UInt8} (h : HalfAt w gh gx gk gr R L iv u) : w.cell? ⟨gh, 13, none⟩ = some (.int .i64 (u : Int)) := by
 rw [h.half.cell 13]
 have := h.len
 simp [halfC, this]
theorem HalfAt.first {w : World} {gh gx gk gr R u : Nat} {L : List UInt32} {iv : List UInt8} (h : HalfAt w gh gx gk gr R L iv u) : w.cell? ⟨gh, 0, none⟩ = some (.pointer (some ⟨gx, 0, none⟩)) := h.half.cell 0
theorem HalfAt.iv {w : World} {gh gx gk gr R u : Nat} {L : List UInt32} {iv : List UInt8} (h : HalfAt w gh gx gk gr R L iv u) : w.rangeAt gh 1 (iv.map B8) := fun j v hv => by
 rw [h.half.cell (1 + j)]
 have hj : j < (iv.map B8).length := (List.getElem?_eq_some_iff.1 hv).1
 rw [halfC, Nat.add_comm 1 j, List.getElem?_cons_succ, List.getElem?_append_left hj]
 exact hv
set_option maxRecDepth 100000 in
set_option maxHeartbeats 1000000 in
theorem hempty_no {w : World} {gh gx gk gr R u : Nat} {L : List UInt32} {iv : List UInt8} (h : HalfAt w gh gx gk gr R L iv u) :
  Calls Tryd.prog 30 #[.pointer (some ⟨gh, 0, none⟩)] w fun e w' => e = .returned (.bool false) ∧ w' = w := by
 have hc := h.first
 go_enter Tryd.func30, Tryd.ntmps30
 go_wp2
 go_ret
 exact ⟨rfl, rfl⟩
theorem hempty_nil (w : World) : Calls Tryd.prog 30 #[.pointer none] w fun e w' => e = .returned (.bool true) ∧ w' = w := by
 go_enter Tryd.func30, Tryd.ntmps30
 go_wp2
 go_ret
 exact ⟨rfl, rfl⟩
set_option maxRecDepth 100000 in
set_option maxHeartbeats 1000000 in
theorem used_e {w : World} {gh gx gk gr R u : Nat} {L : List UInt32} {iv : List UInt8} (h : HalfAt w gh gx gk gr R L iv u) :
  Calls Tryd.prog 13 #[.pointer (some ⟨gh, 0, none⟩)] w fun e w' => e = .returned (.int .i64 (u : Int)) ∧ w' = w := by
 have hc := h.used
 have HE := Lib.hid (hempty_no h)
 go_enter Tryd.func13, Tryd.ntmps13
 go_wp2_with (go_at_call 30; refine HE.out.mono ?_; rintro e w' ⟨rfl, hww⟩; subst hww)
 go_ret
 exact ⟨rfl, rfl⟩
theorem used_nil (w : World) : Calls Tryd.prog 13 #[.pointer none] w fun e w' => e = .returned (.int .i64 0) ∧ w' = w := by
 go_enter Tryd.func13, Tryd.ntmps13
 go_wp2_with (go_at_call 30; refine (hempty_nil _).mono ?_; rintro e w' ⟨rfl, hww⟩; subst hww)
 go_ret
 exact ⟨rfl, rfl⟩
theorem half_build (gx : Nat) (V : List UInt8) (h : V.length = 12) : List.foldl (fun (cs : Array Value) (x : Value × Nat) => cs.setIfInBounds (1 + x.snd) x.fst) #[.pointer (some ⟨gx, 0, none⟩), .int .u8 0, .int .u8 0, .int .u8 0, .int .u8 0, .int .u8 0, .int .u8 0, .int .u8 0, .int .u8 0, .int .u8 0, .int .u8 0, .int .u8 0, .int .u8 0, .int .i64 0] (V.map B8).zipIdx = (halfC gx V 0).toArray := by
 rcases V with _ | ⟨a0, V⟩
 ·
  simp at h
 rcases V with _ | ⟨a1, V⟩
 ·
  simp at h
 rcases V with _ | ⟨a2, V⟩
 ·
  simp at h
 rcases V with _ | ⟨a3, V⟩
 ·
  simp at h
 rcases V with _ | ⟨a4, V⟩
 ·
  simp at h
 rcases V with _ | ⟨a5, V⟩
 ·
  simp at h
 rcases V with _ | ⟨a6, V⟩
 ·
  simp at h
 rcases V with _ | ⟨a7, V⟩
 ·
  simp at h
 rcases V with _ | ⟨a8, V⟩
 ·
  simp at h
 rcases V with _ | ⟨a9, V⟩
 ·
  simp at h
 rcases V with _ | ⟨a10, V⟩
 ·
  simp at h
 rcases V with _ | ⟨a11, V⟩
 ·
  simp at h
 obtain rfl : V = [] := List.eq_nil_of_length_eq_zero (by simpa using h)
 simp [halfC, List.zipIdx]
def keyN : List UInt8 := [107, 101, 121]
def ivN : List UInt8 := [105, 118]
/-- What a secret's key and beginning are. -/
def keyH (S : List UInt8) : List UInt8 := expand S (labelInfo keyN [] 16) 16
def ivH (S : List UInt8) : List UInt8 := expand S (labelInfo ivN [] 12) 12
set_option maxRecDepth 100000 in
set_option maxHeartbeats 1000000 in
theorem hnew_e (S : List UInt8) (w : World) (hS : S.length = 32) (ht : Tabs w) :
  Calls Tryd.prog 14 #[BV S] w fun e w' => ∃ gh gx gk gr, e = .returned (.pointer (some ⟨gh, 0, none⟩)) ∧ w.heap.size ≤ gh ∧ w.heap.size ≤ gx ∧ HalfAt w' gh gx gk gr 11 (keyL 4 (keyH S)) (ivH S) 0 ∧ Below w.heap.size w w' := by
 have k1 : ∀ W : World, Tabs W → Calls Tryd.prog 38 #[.agg (S.map B8).toArray, .string ⟨#[107, 101, 121]⟩, .slice none 0 0, .int .i64 16] W fun e w' => ∃ g, e = .returned (.tuple #[.slice (some ⟨g, 0, none⟩) 16 16, .int .i64 0]) ∧ W.heap.size ≤ g ∧ Blk w' g 5 ((expand S (labelInfo keyN [] 16) 16).map B8) ∧ Below W.heap.size W w' := fun W t => label_any none 0 16 S keyN [] W hS (in_nil W 0 (by decide) none) (by decide) (by decide) (by decide) t
 have k2 : ∀ W : World, Tabs W → Calls Tryd.prog 38 #[.agg (S.map B8).toArray, .string ⟨#[105, 118]⟩, .slice none 0 0, .int .i64 12] W fun e w' => ∃ g, e = .returned (.tuple #[.slice (some ⟨g, 0, none⟩) 12 12, .int .i64 0]) ∧ W.heap.size ≤ g ∧ Blk w' g 5 ((expand S (labelInfo ivN [] 12) 12).map B8) ∧ Below W.heap.size W w' := fun W t => label_any none 0 12 S ivN [] W hS (in_nil W 0 (by decide) none) (by decide) (by decide) (by decide) t
 have l1 := expand_length S (labelInfo keyN [] 16) 16
 have l2 := expand_length S (labelInfo ivN [] 12) 12
 rw [show expand S (labelInfo keyN [] 16) 16 = keyH S from rfl] at k1 l1
 rw [show expand S (labelInfo ivN [] 12) 12 = ivH S from rfl] at k2 l2
 generalize keyH S = K at *
 generalize ivH S = V at *
 have k3 := fun (W : World) (g : Nat) (h : Blk W g 5 (K.map B8)) => bnew_any (some ⟨g, 0, none⟩) 16 W.heap.size 4 K W (Nat.le_refl _) (ink (in_blk h l1 (by decide))) l1 (.inl rfl)
 rw [l1] at k3
 generalize keyL 4 K = L at *
 have HK1 := Lib.hid k1
 have HK2 := Lib.hid k2
 have HK3 := Lib.hid k3
 have HL1 := Lib.hid l1
 have HL2 := Lib.hid l2
 have HSL := Lib.hid hS
 have HT := Lib.hid ht
 clear k1 k2 k3 l1 l2 hS ht
 go_enter Tryd.func14, Tryd.ntmps14
 have hA := Blk.new_of w 22 _ (S.map B8) rfl
 have hbw : Below w.heap.size w (w.alloc (.cells (S.map B8).toArray 22)) := (Below.refl _ _).alloc (Nat.le_refl _) _
 go_upto_region 4 with (first
  | ((with_reducible refine (?_ : wpList _ _ _ (Oper.mk (some 10) _ _ _ _ _ :: _) _ _)); go_loud (refine wpList_load_blk rfl 22 (.tmp 1) rfl (w.heap.size) rfl 22 _ _ hA Tryd.underlying22 rfl (info32.trans (by rw [List.length_map, HSL.out])) ?_))
  | ((with_reducible refine (?_ : wpList _ _ _ (Oper.mk (some 15) _ _ _ _ _ :: _) _ _)); go_loud (refine wpList_load_blk rfl 22 (.tmp 1) rfl (w.heap.size) rfl 22 _ _ hA Tryd.underlying22 rfl (info32.trans (by rw [List.length_map, HSL.out])) ?_))
  | (go_at_call 38; with_reducible refine (HK1.out _ (HT.out.below hbw)).mono ?_; rintro e w2 ⟨g1, rfl, hg1, hX1, hb2⟩; replace hA := hA.below hb2 hA.lt; replace hbw := hbw.trans (hb2.mono hbw.size); clear hb2)
  | (go_at_call 38; with_reducible refine (HK2.out _ (HT.out.below hbw)).mono ?_; rintro e w3 ⟨g2, rfl, hg2, hX2, hb3⟩; replace hX1 := hX1.below hb3 hX1.lt; replace hbw := hbw.trans (hb3.mono hbw.size); clear hb3)
  | (go_at_call 23; go_loud (refine (HK3.out _ _ hX1).mono ?_); rintro e w4 ⟨gx, gk, gr, rfl, hgx, hbx, hb4⟩; replace hX2 := hX2.below hb4 hX2.lt; have hbw4 := hbw.size; replace hbw := hbw.trans (hb4.mono hbw.size); clear hb4))
 have hv12 := HL2.out
 have hfb := half_build gx V hv12
 have harr : ∀ W : World, (Instr.arrayAt 48 (.slice (some ⟨g2, 0, none⟩) 12 12)).run Tryd.prog W = .ok (.pointer (some ⟨g2, 0, none⟩)) W := fun W => by kernel_rfl
 go_wp2_with (first
  | ((with_reducible refine (?_ : wpList _ _ _ (Oper.mk (some 27) _ _ _ _ _ :: _) _ _)); go_loud (refine wpList_load_blk rfl 48 (.tmp 26) rfl g2 rfl 5 _ _ hX2 Tryd.underlying48 rfl (info12.trans (by rw [List.length_map, HL2.out])) ?_)))
 go_ret
 have hH := Blk.new_of w4 74 (halfC gx V 0).toArray (halfC gx V 0) rfl
 have l1 := hbx.box.lt
 have l2 := hbx.key.key.lt
 have l3 := hbx.key.rounds.lt
 exact ⟨w4.heap.size, gx, gk, gr, rfl, hbw.size, Nat.le_trans hbw4 hgx, ⟨hH, hbx.below ((Below.refl _ _).alloc (Nat.le_refl _) _), hv12, by omega⟩, hbw.alloc hbw.size _⟩

end Go.Proofs.YtnjpcbbdhimacaaDoor
