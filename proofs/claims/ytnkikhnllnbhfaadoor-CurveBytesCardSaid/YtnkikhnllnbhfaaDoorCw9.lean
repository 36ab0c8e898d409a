/-
  The contracts of package curve's Times and Add.
-/
import Derived.Test.YtnkikhnllnbhfaaDoorCw8
namespace Go.Proofs.YtnkikhnllnbhfaaDoor
open Go.RowKit
open CurveMath

theorem ptV_length (P : Pt) : (ptV P).length = 64 := by
  match P with
  | none => exact ptZ_length
  | some (x, y) => exact ptK_length x y
theorem onePv (P : Pt) : (ptV P).toArray.all (·.oneCell') = true := by
  match P with
  | none => exact onePt _ _
  | some (x, y) => exact onePt _ _
theorem SpoE {g : Nat} {X Y : List UInt8} {s : P3} {w : World} (e : Hid (s = spotP X Y)) (h : GrpAt w g) (hT : TabsC w) (hX : Hid (X.length = 32)) (hY : Hid (Y.length = 32)) : Calls Tryd.prog 43 #[.agg #[.pointer (some ⟨g, 0, none⟩)], .agg (ptC X Y).toArray] w fun e w' => e = .returned (.agg (spC s).toArray) ∧ Below w.heap.size w w' := by rw [e.out]; exact spot_k g X Y w h hT hX hY
theorem TimE {g : Nat} {n : P4} {p r : P3} {w : World} (e : Hid (r = times3 n.val p 256)) (h : GrpAt w g) (hT : TabsC w) (hn : n.ok) : Calls Tryd.prog 41 #[.agg #[.pointer (some ⟨g, 0, none⟩)], .agg (nC n).toArray, .agg (spC p).toArray] w fun e w' => e = .returned (.agg (spC r).toArray) ∧ Below w.heap.size w w' := by rw [e.out]; exact times_k g n p w h hT hn
theorem PoiE {g : Nat} {p : P3} {P : Pt} {w : World} (e : Hid (P = toPt p)) (h : GrpAt w g) : Calls Tryd.prog 40 #[.agg #[.pointer (some ⟨g, 0, none⟩)], .agg (spC p).toArray] w fun e w' => e = .returned (.agg (ptV P).toArray) ∧ Below w.heap.size w w' := by rw [e.out]; exact point_k g p w h
set_option maxRecDepth 100000 in
set_option maxHeartbeats 2000000 in
theorem curveTimes_k (B X Y : List UInt8) (w : World) (hT : TabsC w) (hB : Hid (B.length = 32)) (hX : Hid (X.length = 32)) (hY : Hid (Y.length = 32)) : Calls Tryd.prog 22 #[.agg (B.map B8).toArray, .agg (ptC X Y).toArray] w fun e w' => e = .returned (.agg (ptV (toPt (times3 (ofTo B 32).val (spotP X Y) 256))).toArray) ∧ Below w.heap.size w w' := by
  obtain ⟨pv, HZ⟩ : ∃ s, Hid (ptV (toPt (times3 (ofTo B 32).val (spotP X Y) 256)) = s) := ⟨_, Lib.hid rfl⟩
  rw [HZ.out]
  obtain ⟨n, hnB⟩ : ∃ n, Hid (ofTo B 32 = n) := ⟨_, Lib.hid rfl⟩
  have hn : n.ok := by rw [← hnB.out]; exact ofTo_ok _ _
  obtain ⟨sp, hsp⟩ : ∃ s, Hid (s = spotP X Y) := ⟨_, Lib.hid rfl⟩
  obtain ⟨ti, hti⟩ : ∃ s, Hid (s = times3 n.val sp 256) := ⟨_, Lib.hid rfl⟩
  obtain ⟨pt, hpt⟩ : ∃ s, Hid (s = toPt ti) := ⟨_, Lib.hid rfl⟩
  go_enter Tryd.func22, Tryd.ntmps22
  go_upto_region 1 with (fail)
  obtain ⟨g4, hg4⟩ : ∃ g4, g4 = w.heap.size + 1 + 1 := ⟨_, rfl⟩
  obtain ⟨g3, hg3⟩ : ∃ g3, g3 = w.heap.size + 1 := ⟨_, rfl⟩
  obtain ⟨g2, hg2⟩ : ∃ g2, g2 = w.heap.size := ⟨_, rfl⟩
  have bg2 : Blk (((w.alloc (.cells (B.map B8).toArray 22)).alloc (.cells (ptC X Y).toArray 24)).alloc (.cells (Value.int .u8 0 :: Value.int .u8 0 :: Value.int .u8 0 :: Value.int .u8 0 :: Value.int .u8 0 :: Value.int .u8 0 :: Value.int .u8 0 :: Value.int .u8 0 :: Value.int .u8 0 :: Value.int .u8 0 :: Value.int .u8 0 :: Value.int .u8 0 :: Value.int .u8 0 :: Value.int .u8 0 :: Value.int .u8 0 :: Value.int .u8 0 :: Value.int .u8 0 :: Value.int .u8 0 :: Value.int .u8 0 :: Value.int .u8 0 :: Value.int .u8 0 :: Value.int .u8 0 :: Value.int .u8 0 :: Value.int .u8 0 :: Value.int .u8 0 :: Value.int .u8 0 :: Value.int .u8 0 :: Value.int .u8 0 :: Value.int .u8 0 :: Value.int .u8 0 :: Value.int .u8 0 :: Value.int .u8 0 :: Value.int .u8 0 :: Value.int .u8 0 :: Value.int .u8 0 :: Value.int .u8 0 :: Value.int .u8 0 :: Value.int .u8 0 :: Value.int .u8 0 :: Value.int .u8 0 :: Value.int .u8 0 :: Value.int .u8 0 :: Value.int .u8 0 :: Value.int .u8 0 :: Value.int .u8 0 :: Value.int .u8 0 :: Value.int .u8 0 :: Value.int .u8 0 :: Value.int .u8 0 :: Value.int .u8 0 :: Value.int .u8 0 :: Value.int .u8 0 :: Value.int .u8 0 :: Value.int .u8 0 :: Value.int .u8 0 :: Value.int .u8 0 :: Value.int .u8 0 :: Value.int .u8 0 :: Value.int .u8 0 :: Value.int .u8 0 :: Value.int .u8 0 :: Value.int .u8 0 :: Value.int .u8 0 :: Value.int .u8 0 :: []).toArray 24)) g2 22 (B.map B8) := by rw [hg2]; exact blk_allocs [.cells (B.map B8).toArray 22, .cells (ptC X Y).toArray 24, .cells (Value.int .u8 0 :: Value.int .u8 0 :: Value.int .u8 0 :: Value.int .u8 0 :: Value.int .u8 0 :: Value.int .u8 0 :: Value.int .u8 0 :: Value.int .u8 0 :: Value.int .u8 0 :: Value.int .u8 0 :: Value.int .u8 0 :: Value.int .u8 0 :: Value.int .u8 0 :: Value.int .u8 0 :: Value.int .u8 0 :: Value.int .u8 0 :: Value.int .u8 0 :: Value.int .u8 0 :: Value.int .u8 0 :: Value.int .u8 0 :: Value.int .u8 0 :: Value.int .u8 0 :: Value.int .u8 0 :: Value.int .u8 0 :: Value.int .u8 0 :: Value.int .u8 0 :: Value.int .u8 0 :: Value.int .u8 0 :: Value.int .u8 0 :: Value.int .u8 0 :: Value.int .u8 0 :: Value.int .u8 0 :: Value.int .u8 0 :: Value.int .u8 0 :: Value.int .u8 0 :: Value.int .u8 0 :: Value.int .u8 0 :: Value.int .u8 0 :: Value.int .u8 0 :: Value.int .u8 0 :: Value.int .u8 0 :: Value.int .u8 0 :: Value.int .u8 0 :: Value.int .u8 0 :: Value.int .u8 0 :: Value.int .u8 0 :: Value.int .u8 0 :: Value.int .u8 0 :: Value.int .u8 0 :: Value.int .u8 0 :: Value.int .u8 0 :: Value.int .u8 0 :: Value.int .u8 0 :: Value.int .u8 0 :: Value.int .u8 0 :: Value.int .u8 0 :: Value.int .u8 0 :: Value.int .u8 0 :: Value.int .u8 0 :: Value.int .u8 0 :: Value.int .u8 0 :: Value.int .u8 0 :: Value.int .u8 0 :: Value.int .u8 0 :: []).toArray 24] w 0 22 (B.map B8) rfl
  have bg3 : Blk (((w.alloc (.cells (B.map B8).toArray 22)).alloc (.cells (ptC X Y).toArray 24)).alloc (.cells (Value.int .u8 0 :: Value.int .u8 0 :: Value.int .u8 0 :: Value.int .u8 0 :: Value.int .u8 0 :: Value.int .u8 0 :: Value.int .u8 0 :: Value.int .u8 0 :: Value.int .u8 0 :: Value.int .u8 0 :: Value.int .u8 0 :: Value.int .u8 0 :: Value.int .u8 0 :: Value.int .u8 0 :: Value.int .u8 0 :: Value.int .u8 0 :: Value.int .u8 0 :: Value.int .u8 0 :: Value.int .u8 0 :: Value.int .u8 0 :: Value.int .u8 0 :: Value.int .u8 0 :: Value.int .u8 0 :: Value.int .u8 0 :: Value.int .u8 0 :: Value.int .u8 0 :: Value.int .u8 0 :: Value.int .u8 0 :: Value.int .u8 0 :: Value.int .u8 0 :: Value.int .u8 0 :: Value.int .u8 0 :: Value.int .u8 0 :: Value.int .u8 0 :: Value.int .u8 0 :: Value.int .u8 0 :: Value.int .u8 0 :: Value.int .u8 0 :: Value.int .u8 0 :: Value.int .u8 0 :: Value.int .u8 0 :: Value.int .u8 0 :: Value.int .u8 0 :: Value.int .u8 0 :: Value.int .u8 0 :: Value.int .u8 0 :: Value.int .u8 0 :: Value.int .u8 0 :: Value.int .u8 0 :: Value.int .u8 0 :: Value.int .u8 0 :: Value.int .u8 0 :: Value.int .u8 0 :: Value.int .u8 0 :: Value.int .u8 0 :: Value.int .u8 0 :: Value.int .u8 0 :: Value.int .u8 0 :: Value.int .u8 0 :: Value.int .u8 0 :: Value.int .u8 0 :: Value.int .u8 0 :: Value.int .u8 0 :: Value.int .u8 0 :: []).toArray 24)) g3 24 (ptC X Y) := by rw [hg3]; exact blk_allocs [.cells (B.map B8).toArray 22, .cells (ptC X Y).toArray 24, .cells (Value.int .u8 0 :: Value.int .u8 0 :: Value.int .u8 0 :: Value.int .u8 0 :: Value.int .u8 0 :: Value.int .u8 0 :: Value.int .u8 0 :: Value.int .u8 0 :: Value.int .u8 0 :: Value.int .u8 0 :: Value.int .u8 0 :: Value.int .u8 0 :: Value.int .u8 0 :: Value.int .u8 0 :: Value.int .u8 0 :: Value.int .u8 0 :: Value.int .u8 0 :: Value.int .u8 0 :: Value.int .u8 0 :: Value.int .u8 0 :: Value.int .u8 0 :: Value.int .u8 0 :: Value.int .u8 0 :: Value.int .u8 0 :: Value.int .u8 0 :: Value.int .u8 0 :: Value.int .u8 0 :: Value.int .u8 0 :: Value.int .u8 0 :: Value.int .u8 0 :: Value.int .u8 0 :: Value.int .u8 0 :: Value.int .u8 0 :: Value.int .u8 0 :: Value.int .u8 0 :: Value.int .u8 0 :: Value.int .u8 0 :: Value.int .u8 0 :: Value.int .u8 0 :: Value.int .u8 0 :: Value.int .u8 0 :: Value.int .u8 0 :: Value.int .u8 0 :: Value.int .u8 0 :: Value.int .u8 0 :: Value.int .u8 0 :: Value.int .u8 0 :: Value.int .u8 0 :: Value.int .u8 0 :: Value.int .u8 0 :: Value.int .u8 0 :: Value.int .u8 0 :: Value.int .u8 0 :: Value.int .u8 0 :: Value.int .u8 0 :: Value.int .u8 0 :: Value.int .u8 0 :: Value.int .u8 0 :: Value.int .u8 0 :: Value.int .u8 0 :: Value.int .u8 0 :: Value.int .u8 0 :: Value.int .u8 0 :: Value.int .u8 0 :: []).toArray 24] w 1 24 (ptC X Y) rfl
  have bg4 : Blk (((w.alloc (.cells (B.map B8).toArray 22)).alloc (.cells (ptC X Y).toArray 24)).alloc (.cells (Value.int .u8 0 :: Value.int .u8 0 :: Value.int .u8 0 :: Value.int .u8 0 :: Value.int .u8 0 :: Value.int .u8 0 :: Value.int .u8 0 :: Value.int .u8 0 :: Value.int .u8 0 :: Value.int .u8 0 :: Value.int .u8 0 :: Value.int .u8 0 :: Value.int .u8 0 :: Value.int .u8 0 :: Value.int .u8 0 :: Value.int .u8 0 :: Value.int .u8 0 :: Value.int .u8 0 :: Value.int .u8 0 :: Value.int .u8 0 :: Value.int .u8 0 :: Value.int .u8 0 :: Value.int .u8 0 :: Value.int .u8 0 :: Value.int .u8 0 :: Value.int .u8 0 :: Value.int .u8 0 :: Value.int .u8 0 :: Value.int .u8 0 :: Value.int .u8 0 :: Value.int .u8 0 :: Value.int .u8 0 :: Value.int .u8 0 :: Value.int .u8 0 :: Value.int .u8 0 :: Value.int .u8 0 :: Value.int .u8 0 :: Value.int .u8 0 :: Value.int .u8 0 :: Value.int .u8 0 :: Value.int .u8 0 :: Value.int .u8 0 :: Value.int .u8 0 :: Value.int .u8 0 :: Value.int .u8 0 :: Value.int .u8 0 :: Value.int .u8 0 :: Value.int .u8 0 :: Value.int .u8 0 :: Value.int .u8 0 :: Value.int .u8 0 :: Value.int .u8 0 :: Value.int .u8 0 :: Value.int .u8 0 :: Value.int .u8 0 :: Value.int .u8 0 :: Value.int .u8 0 :: Value.int .u8 0 :: Value.int .u8 0 :: Value.int .u8 0 :: Value.int .u8 0 :: Value.int .u8 0 :: Value.int .u8 0 :: Value.int .u8 0 :: []).toArray 24)) g4 24 (ptZ) := by rw [hg4]; exact blk_allocs [.cells (B.map B8).toArray 22, .cells (ptC X Y).toArray 24, .cells (Value.int .u8 0 :: Value.int .u8 0 :: Value.int .u8 0 :: Value.int .u8 0 :: Value.int .u8 0 :: Value.int .u8 0 :: Value.int .u8 0 :: Value.int .u8 0 :: Value.int .u8 0 :: Value.int .u8 0 :: Value.int .u8 0 :: Value.int .u8 0 :: Value.int .u8 0 :: Value.int .u8 0 :: Value.int .u8 0 :: Value.int .u8 0 :: Value.int .u8 0 :: Value.int .u8 0 :: Value.int .u8 0 :: Value.int .u8 0 :: Value.int .u8 0 :: Value.int .u8 0 :: Value.int .u8 0 :: Value.int .u8 0 :: Value.int .u8 0 :: Value.int .u8 0 :: Value.int .u8 0 :: Value.int .u8 0 :: Value.int .u8 0 :: Value.int .u8 0 :: Value.int .u8 0 :: Value.int .u8 0 :: Value.int .u8 0 :: Value.int .u8 0 :: Value.int .u8 0 :: Value.int .u8 0 :: Value.int .u8 0 :: Value.int .u8 0 :: Value.int .u8 0 :: Value.int .u8 0 :: Value.int .u8 0 :: Value.int .u8 0 :: Value.int .u8 0 :: Value.int .u8 0 :: Value.int .u8 0 :: Value.int .u8 0 :: Value.int .u8 0 :: Value.int .u8 0 :: Value.int .u8 0 :: Value.int .u8 0 :: Value.int .u8 0 :: Value.int .u8 0 :: Value.int .u8 0 :: Value.int .u8 0 :: Value.int .u8 0 :: Value.int .u8 0 :: Value.int .u8 0 :: Value.int .u8 0 :: Value.int .u8 0 :: Value.int .u8 0 :: Value.int .u8 0 :: Value.int .u8 0 :: Value.int .u8 0 :: Value.int .u8 0 :: []).toArray 24] w 2 24 (ptZ) rfl
  have hb0 : Below w.heap.size w ((((w.alloc (.cells (B.map B8).toArray 22)).alloc (.cells (ptC X Y).toArray 24)).alloc (.cells (Value.int .u8 0 :: Value.int .u8 0 :: Value.int .u8 0 :: Value.int .u8 0 :: Value.int .u8 0 :: Value.int .u8 0 :: Value.int .u8 0 :: Value.int .u8 0 :: Value.int .u8 0 :: Value.int .u8 0 :: Value.int .u8 0 :: Value.int .u8 0 :: Value.int .u8 0 :: Value.int .u8 0 :: Value.int .u8 0 :: Value.int .u8 0 :: Value.int .u8 0 :: Value.int .u8 0 :: Value.int .u8 0 :: Value.int .u8 0 :: Value.int .u8 0 :: Value.int .u8 0 :: Value.int .u8 0 :: Value.int .u8 0 :: Value.int .u8 0 :: Value.int .u8 0 :: Value.int .u8 0 :: Value.int .u8 0 :: Value.int .u8 0 :: Value.int .u8 0 :: Value.int .u8 0 :: Value.int .u8 0 :: Value.int .u8 0 :: Value.int .u8 0 :: Value.int .u8 0 :: Value.int .u8 0 :: Value.int .u8 0 :: Value.int .u8 0 :: Value.int .u8 0 :: Value.int .u8 0 :: Value.int .u8 0 :: Value.int .u8 0 :: Value.int .u8 0 :: Value.int .u8 0 :: Value.int .u8 0 :: Value.int .u8 0 :: Value.int .u8 0 :: Value.int .u8 0 :: Value.int .u8 0 :: Value.int .u8 0 :: Value.int .u8 0 :: Value.int .u8 0 :: Value.int .u8 0 :: Value.int .u8 0 :: Value.int .u8 0 :: Value.int .u8 0 :: Value.int .u8 0 :: Value.int .u8 0 :: Value.int .u8 0 :: Value.int .u8 0 :: Value.int .u8 0 :: Value.int .u8 0 :: Value.int .u8 0 :: Value.int .u8 0 :: []).toArray 24))) := below_allocs [.cells (B.map B8).toArray 22, .cells (ptC X Y).toArray 24, .cells (Value.int .u8 0 :: Value.int .u8 0 :: Value.int .u8 0 :: Value.int .u8 0 :: Value.int .u8 0 :: Value.int .u8 0 :: Value.int .u8 0 :: Value.int .u8 0 :: Value.int .u8 0 :: Value.int .u8 0 :: Value.int .u8 0 :: Value.int .u8 0 :: Value.int .u8 0 :: Value.int .u8 0 :: Value.int .u8 0 :: Value.int .u8 0 :: Value.int .u8 0 :: Value.int .u8 0 :: Value.int .u8 0 :: Value.int .u8 0 :: Value.int .u8 0 :: Value.int .u8 0 :: Value.int .u8 0 :: Value.int .u8 0 :: Value.int .u8 0 :: Value.int .u8 0 :: Value.int .u8 0 :: Value.int .u8 0 :: Value.int .u8 0 :: Value.int .u8 0 :: Value.int .u8 0 :: Value.int .u8 0 :: Value.int .u8 0 :: Value.int .u8 0 :: Value.int .u8 0 :: Value.int .u8 0 :: Value.int .u8 0 :: Value.int .u8 0 :: Value.int .u8 0 :: Value.int .u8 0 :: Value.int .u8 0 :: Value.int .u8 0 :: Value.int .u8 0 :: Value.int .u8 0 :: Value.int .u8 0 :: Value.int .u8 0 :: Value.int .u8 0 :: Value.int .u8 0 :: Value.int .u8 0 :: Value.int .u8 0 :: Value.int .u8 0 :: Value.int .u8 0 :: Value.int .u8 0 :: Value.int .u8 0 :: Value.int .u8 0 :: Value.int .u8 0 :: Value.int .u8 0 :: Value.int .u8 0 :: Value.int .u8 0 :: Value.int .u8 0 :: Value.int .u8 0 :: Value.int .u8 0 :: Value.int .u8 0 :: Value.int .u8 0 :: []).toArray 24] w
  have HG := Lib.hid (show w.heap.size ≤ g2 ∧ g2 < g3 ∧ g3 < g4 by omega)
  simp only [← hg4]
  simp only [← hg3]
  simp only [← hg2]
  clear hg4
  clear hg3
  clear hg2
  generalize ((w.alloc (.cells (B.map B8).toArray 22)).alloc (.cells (ptC X Y).toArray 24)).alloc (.cells (Value.int .u8 0 :: Value.int .u8 0 :: Value.int .u8 0 :: Value.int .u8 0 :: Value.int .u8 0 :: Value.int .u8 0 :: Value.int .u8 0 :: Value.int .u8 0 :: Value.int .u8 0 :: Value.int .u8 0 :: Value.int .u8 0 :: Value.int .u8 0 :: Value.int .u8 0 :: Value.int .u8 0 :: Value.int .u8 0 :: Value.int .u8 0 :: Value.int .u8 0 :: Value.int .u8 0 :: Value.int .u8 0 :: Value.int .u8 0 :: Value.int .u8 0 :: Value.int .u8 0 :: Value.int .u8 0 :: Value.int .u8 0 :: Value.int .u8 0 :: Value.int .u8 0 :: Value.int .u8 0 :: Value.int .u8 0 :: Value.int .u8 0 :: Value.int .u8 0 :: Value.int .u8 0 :: Value.int .u8 0 :: Value.int .u8 0 :: Value.int .u8 0 :: Value.int .u8 0 :: Value.int .u8 0 :: Value.int .u8 0 :: Value.int .u8 0 :: Value.int .u8 0 :: Value.int .u8 0 :: Value.int .u8 0 :: Value.int .u8 0 :: Value.int .u8 0 :: Value.int .u8 0 :: Value.int .u8 0 :: Value.int .u8 0 :: Value.int .u8 0 :: Value.int .u8 0 :: Value.int .u8 0 :: Value.int .u8 0 :: Value.int .u8 0 :: Value.int .u8 0 :: Value.int .u8 0 :: Value.int .u8 0 :: Value.int .u8 0 :: Value.int .u8 0 :: Value.int .u8 0 :: Value.int .u8 0 :: Value.int .u8 0 :: Value.int .u8 0 :: Value.int .u8 0 :: Value.int .u8 0 :: Value.int .u8 0 :: Value.int .u8 0 :: []).toArray 24) = w1 at *
  have lg2 := bg2.lt
  have lg3 := bg3.lt
  have lg4 := bg4.lt
  have hT1 := hT.below hb0
  go_upto_region 2 with (first
    | (go_at_call 35; refine (newGroup_k w1 hT1).mono ?_; rintro e wx ⟨g, rfl, hgl, hM, hbx⟩)
    | ((with_reducible refine (?_ : wpList _ _ _ (Oper.mk none _ _ _ _ _ :: _) _ _)); go_loud (refine wpList_store_blk rfl 62 (.tmp 5) (.tmp 6) rfl rfl wx.heap.size [.pointer (some ⟨g, 0, none⟩)] rfl rfl _ _ (Blk.new_of wx 62 #[.pointer none] [.pointer none] rfl) infoG rfl (by simp [Value.oneCell']) ?_); intro w2 bg5 hgs))
  have hxa : Below wx.heap.size wx (wx.alloc (.cells #[.pointer none] 62)) := (Below.refl _ _).alloc (Nat.le_refl _) _
  have hxc := below_new hxa hgs (Nat.le_refl _) hxa.size
  have hxb := hbx.trans (hxc.mono hbx.size)
  replace hM := hM.up hxc
  clear hxa hgs hT1 hxc
  obtain ⟨g5, hg5⟩ : ∃ g5, g5 = wx.heap.size := ⟨_, rfl⟩
  have hG5 := Lib.hid (show g4 < w1.heap.size ∧ w.heap.size ≤ w1.heap.size ∧ w1.heap.size ≤ g ∧ w1.heap.size ≤ g5 from ⟨lg4, hb0.size, hgl, by rw [hg5]; exact hbx.size⟩)
  rw [← hg5] at bg5
  simp only [← hg5]
  clear hg5 hgl hbx
  replace HG := Lib.hid (And.intro HG.out hG5.out)
  clear hG5
  replace bg2 := bg2.below hxb lg2
  replace bg3 := bg3.below hxb lg3
  replace bg4 := bg4.below hxb lg4
  replace hb0 := hb0.trans (hxb.mono hb0.size)
  clear hxb lg2 lg3 lg4
  have lg2 := bg2.lt
  have lg3 := bg3.lt
  have lg4 := bg4.lt
  have lg5 := bg5.lt
  have h := hM
  apply wp_region_once_tail (m := 9) (Z := []) (D := [[], [], [], [2], [], [], [2, 3, 4, 5], [1, 2, 3, 4, 5, 6], [0, 1, 2, 3, 4, 5, 6, 7], [0, 1, 2, 3, 4, 5, 6, 7, 8]]) (J := [[], [], [], [2], [], [], [4, 5], [1, 3, 6], [0, 7]]) (Je := [8]) (Rs := [Is _, Is _, Is _, Is _, Is _, Is _, Is _, Is _, Is _])
  · kernel_rfl
  · kernel_rfl
  · kernel_rfl
  · kernel_rfl
  · kernel_rfl
  · kernel_rfl
  · kernel_rfl
  · exact fun h => absurd rfl h
  · intro u
    simp only [List.take_succ_cons, List.take_zero, List.map_cons, List.map_nil, fillU, List.setIfInBounds_toArray, List.set_cons_zero, List.set_cons_succ, Nat.zero_add, Nat.reduceAdd]
    exact rfl
  · simp only [List.take_succ_cons, List.take_zero]
    refine ⟨fun u W hb hd K hK => ?_, ?_⟩
    · clear hd
      rw [if_pos (by rfl)]
      refine wp_load_mid 62 (.tmp 5) rfl g5 0 rfl ([.pointer (some ⟨g, 0, none⟩)]) _ (rangeAt_of_blk (bg5.below hb lg5)) Tryd.underlying62 rfl (infoG.trans rfl) ?_
      exact hK _ _ _ rfl (Below.refl _ _) IsOut
    refine ⟨fun u W hb hd K hK => ?_, ?_⟩
    · clear hd
      rw [if_pos (by rfl)]
      refine wp_load_mid 62 (.tmp 5) rfl g5 0 rfl ([.pointer (some ⟨g, 0, none⟩)]) _ (rangeAt_of_blk (bg5.below hb lg5)) Tryd.underlying62 rfl (infoG.trans rfl) ?_
      exact hK _ _ _ rfl (Below.refl _ _) IsOut
    refine ⟨fun u W hb hd K hK => ?_, ?_⟩
    · clear hd
      rw [if_pos (by rfl)]
      refine wp_load_mid 22 (.tmp 2) rfl g2 0 rfl (B.map B8) _ (rangeAt_of_blk (bg2.below hb lg2)) Tryd.underlying22 rfl (info40.trans (by rw [List.length_map, hB.out])) ?_
      exact hK _ _ _ rfl (Below.refl _ _) IsOut
    refine ⟨fun u W hb hd K hK => ?_, ?_⟩
    · simp only [Facts, nthR, Is, and_true] at hd
      simp only [hd] at hK ⊢
      clear hd
      go_simp
      refine (OfN hnB hB _).mono ?_
      rintro e wy ⟨rfl, hby⟩
      exact hK _ _ _ rfl hby IsOut
    refine ⟨fun u W hb hd K hK => ?_, ?_⟩
    · clear hd
      rw [if_pos (by rfl)]
      refine wp_load_mid 62 (.tmp 5) rfl g5 0 rfl ([.pointer (some ⟨g, 0, none⟩)]) _ (rangeAt_of_blk (bg5.below hb lg5)) Tryd.underlying62 rfl (infoG.trans rfl) ?_
      exact hK _ _ _ rfl (Below.refl _ _) IsOut
    refine ⟨fun u W hb hd K hK => ?_, ?_⟩
    · clear hd
      rw [if_pos (by rfl)]
      refine wp_load_mid 24 (.tmp 3) rfl g3 0 rfl (ptC X Y) _ (rangeAt_of_blk (bg3.below hb lg3)) Tryd.underlying24 rfl (infoPt.trans (by rw [ptC_length hX.out hY.out])) ?_
      exact hK _ _ _ rfl (Below.refl _ _) IsOut
    refine ⟨fun u W hb hd K hK => ?_, ?_⟩
    · simp only [Facts, nthR, Is, and_true] at hd
      simp only [hd] at hK ⊢
      clear hd
      go_simp
      refine (SpoE hsp (hM.up hb) (hT.up hb0 hb) hX hY).mono ?_
      rintro e wy ⟨rfl, hby⟩
      exact hK _ _ _ rfl hby IsOut
    refine ⟨fun u W hb hd K hK => ?_, ?_⟩
    · simp only [Facts, nthR, Is, and_true] at hd
      simp only [hd] at hK ⊢
      clear hd
      go_simp
      refine (TimE hti (hM.up hb) (hT.up hb0 hb) hn).mono ?_
      rintro e wy ⟨rfl, hby⟩
      exact hK _ _ _ rfl hby IsOut
    refine ⟨fun u W hb hd K hK => ?_, ?_⟩
    · simp only [Facts, nthR, Is, and_true] at hd
      simp only [hd] at hK ⊢
      clear hd
      go_simp
      refine (PoiE hpt (hM.up hb)).mono ?_
      rintro e wy ⟨rfl, hby⟩
      exact hK _ _ _ rfl hby IsOut
    exact trivial
  · skip
    exact trivial
  · exact (.is (.is (.is (.is (.is (.is (.is (.is (.is .nil)))))))))
  · intro u W hb hd
    simp only [List.drop_succ_cons, List.drop_zero]
    simp only [Facts, nthR, Is, and_true] at hd
    have h8 := hd
    clear hd
    simp only [h8]
    clear h8
    clear bg2 lg2 bg3 lg3 bg5 lg5
    have lM := hM.lt
    have lG := h.lt
    have hsz := hb0.size
    have hGo := HG.out
    replace bg4 := bg4.below hb lg4
    replace hM := hM.up hb
    replace hb0 := hb0.trans (hb.mono hb0.size)
    clear hb
    go_wp2_with (first
      | ((with_reducible refine (?_ : wpList _ _ _ (Oper.mk none _ _ _ _ _ :: _) _ _)); go_loud (refine wpList_store_blk rfl 24 (.tmp 4) (.tmp 15) rfl rfl g4 (ptV (pt)) rfl rfl _ _ (bg4) (infoPt.trans (by rw [ptV_length])) (by first | with_reducible rfl | rw [ptV_length, ptZ_length]) (onePv _) ?_); intro wz bn hgs; replace hM := hM.grown hgs (fun e => by omega); replace hb0 := below_new hb0 hgs (by omega) hb0.size; clear hgs bg4; have bg4 := bn; clear bn))
    clear lM lG hsz hGo lg4
    have lg4 := bg4.lt
    refine bodyPost_ret (v := .agg _) (results_cell_row rfl _ _ g4 24 _ (0, 0) _ rfl bg4.raw Tryd.underlying24 rfl (infoPt.trans (by rw [List.size_toArray, ptV_length]))) rfl ?_
    exact ⟨by rw [← HZ.out, hpt.out, hti.out, hsp.out, hnB.out], hb0⟩
set_option maxRecDepth 100000 in
set_option maxHeartbeats 2000000 in
theorem curveAdd_k (X Y X' Y' : List UInt8) (w : World) (hT : TabsC w) (hX : Hid (X.length = 32)) (hY : Hid (Y.length = 32)) (hX' : Hid (X'.length = 32)) (hY' : Hid (Y'.length = 32)) : Calls Tryd.prog 24 #[.agg (ptC X Y).toArray, .agg (ptC X' Y').toArray] w fun e w' => e = .returned (.agg (ptV (toPt (sum3 (spotP X Y) (spotP X' Y')))).toArray) ∧ Below w.heap.size w w' := by
  obtain ⟨pv, HZ⟩ : ∃ s, Hid (ptV (toPt (sum3 (spotP X Y) (spotP X' Y'))) = s) := ⟨_, Lib.hid rfl⟩
  rw [HZ.out]
  obtain ⟨sp, hsp⟩ : ∃ s, Hid (s = spotP X Y) := ⟨_, Lib.hid rfl⟩
  obtain ⟨sq, hsq⟩ : ∃ s, Hid (s = spotP X' Y') := ⟨_, Lib.hid rfl⟩
  obtain ⟨su, hsu⟩ : ∃ s, Hid (s = sum3 sp sq) := ⟨_, Lib.hid rfl⟩
  obtain ⟨pt, hpt⟩ : ∃ s, Hid (s = toPt su) := ⟨_, Lib.hid rfl⟩
  go_enter Tryd.func24, Tryd.ntmps24
  go_upto_region 1 with (fail)
  obtain ⟨g4, hg4⟩ : ∃ g4, g4 = w.heap.size + 1 + 1 := ⟨_, rfl⟩
  obtain ⟨g3, hg3⟩ : ∃ g3, g3 = w.heap.size + 1 := ⟨_, rfl⟩
  obtain ⟨g2, hg2⟩ : ∃ g2, g2 = w.heap.size := ⟨_, rfl⟩
  have bg2 : Blk (((w.alloc (.cells (ptC X Y).toArray 24)).alloc (.cells (ptC X' Y').toArray 24)).alloc (.cells (Value.int .u8 0 :: Value.int .u8 0 :: Value.int .u8 0 :: Value.int .u8 0 :: Value.int .u8 0 :: Value.int .u8 0 :: Value.int .u8 0 :: Value.int .u8 0 :: Value.int .u8 0 :: Value.int .u8 0 :: Value.int .u8 0 :: Value.int .u8 0 :: Value.int .u8 0 :: Value.int .u8 0 :: Value.int .u8 0 :: Value.int .u8 0 :: Value.int .u8 0 :: Value.int .u8 0 :: Value.int .u8 0 :: Value.int .u8 0 :: Value.int .u8 0 :: Value.int .u8 0 :: Value.int .u8 0 :: Value.int .u8 0 :: Value.int .u8 0 :: Value.int .u8 0 :: Value.int .u8 0 :: Value.int .u8 0 :: Value.int .u8 0 :: Value.int .u8 0 :: Value.int .u8 0 :: Value.int .u8 0 :: Value.int .u8 0 :: Value.int .u8 0 :: Value.int .u8 0 :: Value.int .u8 0 :: Value.int .u8 0 :: Value.int .u8 0 :: Value.int .u8 0 :: Value.int .u8 0 :: Value.int .u8 0 :: Value.int .u8 0 :: Value.int .u8 0 :: Value.int .u8 0 :: Value.int .u8 0 :: Value.int .u8 0 :: Value.int .u8 0 :: Value.int .u8 0 :: Value.int .u8 0 :: Value.int .u8 0 :: Value.int .u8 0 :: Value.int .u8 0 :: Value.int .u8 0 :: Value.int .u8 0 :: Value.int .u8 0 :: Value.int .u8 0 :: Value.int .u8 0 :: Value.int .u8 0 :: Value.int .u8 0 :: Value.int .u8 0 :: Value.int .u8 0 :: Value.int .u8 0 :: Value.int .u8 0 :: Value.int .u8 0 :: []).toArray 24)) g2 24 (ptC X Y) := by rw [hg2]; exact blk_allocs [.cells (ptC X Y).toArray 24, .cells (ptC X' Y').toArray 24, .cells (Value.int .u8 0 :: Value.int .u8 0 :: Value.int .u8 0 :: Value.int .u8 0 :: Value.int .u8 0 :: Value.int .u8 0 :: Value.int .u8 0 :: Value.int .u8 0 :: Value.int .u8 0 :: Value.int .u8 0 :: Value.int .u8 0 :: Value.int .u8 0 :: Value.int .u8 0 :: Value.int .u8 0 :: Value.int .u8 0 :: Value.int .u8 0 :: Value.int .u8 0 :: Value.int .u8 0 :: Value.int .u8 0 :: Value.int .u8 0 :: Value.int .u8 0 :: Value.int .u8 0 :: Value.int .u8 0 :: Value.int .u8 0 :: Value.int .u8 0 :: Value.int .u8 0 :: Value.int .u8 0 :: Value.int .u8 0 :: Value.int .u8 0 :: Value.int .u8 0 :: Value.int .u8 0 :: Value.int .u8 0 :: Value.int .u8 0 :: Value.int .u8 0 :: Value.int .u8 0 :: Value.int .u8 0 :: Value.int .u8 0 :: Value.int .u8 0 :: Value.int .u8 0 :: Value.int .u8 0 :: Value.int .u8 0 :: Value.int .u8 0 :: Value.int .u8 0 :: Value.int .u8 0 :: Value.int .u8 0 :: Value.int .u8 0 :: Value.int .u8 0 :: Value.int .u8 0 :: Value.int .u8 0 :: Value.int .u8 0 :: Value.int .u8 0 :: Value.int .u8 0 :: Value.int .u8 0 :: Value.int .u8 0 :: Value.int .u8 0 :: Value.int .u8 0 :: Value.int .u8 0 :: Value.int .u8 0 :: Value.int .u8 0 :: Value.int .u8 0 :: Value.int .u8 0 :: Value.int .u8 0 :: Value.int .u8 0 :: Value.int .u8 0 :: []).toArray 24] w 0 24 (ptC X Y) rfl
  have bg3 : Blk (((w.alloc (.cells (ptC X Y).toArray 24)).alloc (.cells (ptC X' Y').toArray 24)).alloc (.cells (Value.int .u8 0 :: Value.int .u8 0 :: Value.int .u8 0 :: Value.int .u8 0 :: Value.int .u8 0 :: Value.int .u8 0 :: Value.int .u8 0 :: Value.int .u8 0 :: Value.int .u8 0 :: Value.int .u8 0 :: Value.int .u8 0 :: Value.int .u8 0 :: Value.int .u8 0 :: Value.int .u8 0 :: Value.int .u8 0 :: Value.int .u8 0 :: Value.int .u8 0 :: Value.int .u8 0 :: Value.int .u8 0 :: Value.int .u8 0 :: Value.int .u8 0 :: Value.int .u8 0 :: Value.int .u8 0 :: Value.int .u8 0 :: Value.int .u8 0 :: Value.int .u8 0 :: Value.int .u8 0 :: Value.int .u8 0 :: Value.int .u8 0 :: Value.int .u8 0 :: Value.int .u8 0 :: Value.int .u8 0 :: Value.int .u8 0 :: Value.int .u8 0 :: Value.int .u8 0 :: Value.int .u8 0 :: Value.int .u8 0 :: Value.int .u8 0 :: Value.int .u8 0 :: Value.int .u8 0 :: Value.int .u8 0 :: Value.int .u8 0 :: Value.int .u8 0 :: Value.int .u8 0 :: Value.int .u8 0 :: Value.int .u8 0 :: Value.int .u8 0 :: Value.int .u8 0 :: Value.int .u8 0 :: Value.int .u8 0 :: Value.int .u8 0 :: Value.int .u8 0 :: Value.int .u8 0 :: Value.int .u8 0 :: Value.int .u8 0 :: Value.int .u8 0 :: Value.int .u8 0 :: Value.int .u8 0 :: Value.int .u8 0 :: Value.int .u8 0 :: Value.int .u8 0 :: Value.int .u8 0 :: Value.int .u8 0 :: Value.int .u8 0 :: []).toArray 24)) g3 24 (ptC X' Y') := by rw [hg3]; exact blk_allocs [.cells (ptC X Y).toArray 24, .cells (ptC X' Y').toArray 24, .cells (Value.int .u8 0 :: Value.int .u8 0 :: Value.int .u8 0 :: Value.int .u8 0 :: Value.int .u8 0 :: Value.int .u8 0 :: Value.int .u8 0 :: Value.int .u8 0 :: Value.int .u8 0 :: Value.int .u8 0 :: Value.int .u8 0 :: Value.int .u8 0 :: Value.int .u8 0 :: Value.int .u8 0 :: Value.int .u8 0 :: Value.int .u8 0 :: Value.int .u8 0 :: Value.int .u8 0 :: Value.int .u8 0 :: Value.int .u8 0 :: Value.int .u8 0 :: Value.int .u8 0 :: Value.int .u8 0 :: Value.int .u8 0 :: Value.int .u8 0 :: Value.int .u8 0 :: Value.int .u8 0 :: Value.int .u8 0 :: Value.int .u8 0 :: Value.int .u8 0 :: Value.int .u8 0 :: Value.int .u8 0 :: Value.int .u8 0 :: Value.int .u8 0 :: Value.int .u8 0 :: Value.int .u8 0 :: Value.int .u8 0 :: Value.int .u8 0 :: Value.int .u8 0 :: Value.int .u8 0 :: Value.int .u8 0 :: Value.int .u8 0 :: Value.int .u8 0 :: Value.int .u8 0 :: Value.int .u8 0 :: Value.int .u8 0 :: Value.int .u8 0 :: Value.int .u8 0 :: Value.int .u8 0 :: Value.int .u8 0 :: Value.int .u8 0 :: Value.int .u8 0 :: Value.int .u8 0 :: Value.int .u8 0 :: Value.int .u8 0 :: Value.int .u8 0 :: Value.int .u8 0 :: Value.int .u8 0 :: Value.int .u8 0 :: Value.int .u8 0 :: Value.int .u8 0 :: Value.int .u8 0 :: Value.int .u8 0 :: Value.int .u8 0 :: []).toArray 24] w 1 24 (ptC X' Y') rfl
  have bg4 : Blk (((w.alloc (.cells (ptC X Y).toArray 24)).alloc (.cells (ptC X' Y').toArray 24)).alloc (.cells (Value.int .u8 0 :: Value.int .u8 0 :: Value.int .u8 0 :: Value.int .u8 0 :: Value.int .u8 0 :: Value.int .u8 0 :: Value.int .u8 0 :: Value.int .u8 0 :: Value.int .u8 0 :: Value.int .u8 0 :: Value.int .u8 0 :: Value.int .u8 0 :: Value.int .u8 0 :: Value.int .u8 0 :: Value.int .u8 0 :: Value.int .u8 0 :: Value.int .u8 0 :: Value.int .u8 0 :: Value.int .u8 0 :: Value.int .u8 0 :: Value.int .u8 0 :: Value.int .u8 0 :: Value.int .u8 0 :: Value.int .u8 0 :: Value.int .u8 0 :: Value.int .u8 0 :: Value.int .u8 0 :: Value.int .u8 0 :: Value.int .u8 0 :: Value.int .u8 0 :: Value.int .u8 0 :: Value.int .u8 0 :: Value.int .u8 0 :: Value.int .u8 0 :: Value.int .u8 0 :: Value.int .u8 0 :: Value.int .u8 0 :: Value.int .u8 0 :: Value.int .u8 0 :: Value.int .u8 0 :: Value.int .u8 0 :: Value.int .u8 0 :: Value.int .u8 0 :: Value.int .u8 0 :: Value.int .u8 0 :: Value.int .u8 0 :: Value.int .u8 0 :: Value.int .u8 0 :: Value.int .u8 0 :: Value.int .u8 0 :: Value.int .u8 0 :: Value.int .u8 0 :: Value.int .u8 0 :: Value.int .u8 0 :: Value.int .u8 0 :: Value.int .u8 0 :: Value.int .u8 0 :: Value.int .u8 0 :: Value.int .u8 0 :: Value.int .u8 0 :: Value.int .u8 0 :: Value.int .u8 0 :: Value.int .u8 0 :: Value.int .u8 0 :: []).toArray 24)) g4 24 (ptZ) := by rw [hg4]; exact blk_allocs [.cells (ptC X Y).toArray 24, .cells (ptC X' Y').toArray 24, .cells (Value.int .u8 0 :: Value.int .u8 0 :: Value.int .u8 0 :: Value.int .u8 0 :: Value.int .u8 0 :: Value.int .u8 0 :: Value.int .u8 0 :: Value.int .u8 0 :: Value.int .u8 0 :: Value.int .u8 0 :: Value.int .u8 0 :: Value.int .u8 0 :: Value.int .u8 0 :: Value.int .u8 0 :: Value.int .u8 0 :: Value.int .u8 0 :: Value.int .u8 0 :: Value.int .u8 0 :: Value.int .u8 0 :: Value.int .u8 0 :: Value.int .u8 0 :: Value.int .u8 0 :: Value.int .u8 0 :: Value.int .u8 0 :: Value.int .u8 0 :: Value.int .u8 0 :: Value.int .u8 0 :: Value.int .u8 0 :: Value.int .u8 0 :: Value.int .u8 0 :: Value.int .u8 0 :: Value.int .u8 0 :: Value.int .u8 0 :: Value.int .u8 0 :: Value.int .u8 0 :: Value.int .u8 0 :: Value.int .u8 0 :: Value.int .u8 0 :: Value.int .u8 0 :: Value.int .u8 0 :: Value.int .u8 0 :: Value.int .u8 0 :: Value.int .u8 0 :: Value.int .u8 0 :: Value.int .u8 0 :: Value.int .u8 0 :: Value.int .u8 0 :: Value.int .u8 0 :: Value.int .u8 0 :: Value.int .u8 0 :: Value.int .u8 0 :: Value.int .u8 0 :: Value.int .u8 0 :: Value.int .u8 0 :: Value.int .u8 0 :: Value.int .u8 0 :: Value.int .u8 0 :: Value.int .u8 0 :: Value.int .u8 0 :: Value.int .u8 0 :: Value.int .u8 0 :: Value.int .u8 0 :: Value.int .u8 0 :: Value.int .u8 0 :: []).toArray 24] w 2 24 (ptZ) rfl
  have hb0 : Below w.heap.size w ((((w.alloc (.cells (ptC X Y).toArray 24)).alloc (.cells (ptC X' Y').toArray 24)).alloc (.cells (Value.int .u8 0 :: Value.int .u8 0 :: Value.int .u8 0 :: Value.int .u8 0 :: Value.int .u8 0 :: Value.int .u8 0 :: Value.int .u8 0 :: Value.int .u8 0 :: Value.int .u8 0 :: Value.int .u8 0 :: Value.int .u8 0 :: Value.int .u8 0 :: Value.int .u8 0 :: Value.int .u8 0 :: Value.int .u8 0 :: Value.int .u8 0 :: Value.int .u8 0 :: Value.int .u8 0 :: Value.int .u8 0 :: Value.int .u8 0 :: Value.int .u8 0 :: Value.int .u8 0 :: Value.int .u8 0 :: Value.int .u8 0 :: Value.int .u8 0 :: Value.int .u8 0 :: Value.int .u8 0 :: Value.int .u8 0 :: Value.int .u8 0 :: Value.int .u8 0 :: Value.int .u8 0 :: Value.int .u8 0 :: Value.int .u8 0 :: Value.int .u8 0 :: Value.int .u8 0 :: Value.int .u8 0 :: Value.int .u8 0 :: Value.int .u8 0 :: Value.int .u8 0 :: Value.int .u8 0 :: Value.int .u8 0 :: Value.int .u8 0 :: Value.int .u8 0 :: Value.int .u8 0 :: Value.int .u8 0 :: Value.int .u8 0 :: Value.int .u8 0 :: Value.int .u8 0 :: Value.int .u8 0 :: Value.int .u8 0 :: Value.int .u8 0 :: Value.int .u8 0 :: Value.int .u8 0 :: Value.int .u8 0 :: Value.int .u8 0 :: Value.int .u8 0 :: Value.int .u8 0 :: Value.int .u8 0 :: Value.int .u8 0 :: Value.int .u8 0 :: Value.int .u8 0 :: Value.int .u8 0 :: Value.int .u8 0 :: Value.int .u8 0 :: []).toArray 24))) := below_allocs [.cells (ptC X Y).toArray 24, .cells (ptC X' Y').toArray 24, .cells (Value.int .u8 0 :: Value.int .u8 0 :: Value.int .u8 0 :: Value.int .u8 0 :: Value.int .u8 0 :: Value.int .u8 0 :: Value.int .u8 0 :: Value.int .u8 0 :: Value.int .u8 0 :: Value.int .u8 0 :: Value.int .u8 0 :: Value.int .u8 0 :: Value.int .u8 0 :: Value.int .u8 0 :: Value.int .u8 0 :: Value.int .u8 0 :: Value.int .u8 0 :: Value.int .u8 0 :: Value.int .u8 0 :: Value.int .u8 0 :: Value.int .u8 0 :: Value.int .u8 0 :: Value.int .u8 0 :: Value.int .u8 0 :: Value.int .u8 0 :: Value.int .u8 0 :: Value.int .u8 0 :: Value.int .u8 0 :: Value.int .u8 0 :: Value.int .u8 0 :: Value.int .u8 0 :: Value.int .u8 0 :: Value.int .u8 0 :: Value.int .u8 0 :: Value.int .u8 0 :: Value.int .u8 0 :: Value.int .u8 0 :: Value.int .u8 0 :: Value.int .u8 0 :: Value.int .u8 0 :: Value.int .u8 0 :: Value.int .u8 0 :: Value.int .u8 0 :: Value.int .u8 0 :: Value.int .u8 0 :: Value.int .u8 0 :: Value.int .u8 0 :: Value.int .u8 0 :: Value.int .u8 0 :: Value.int .u8 0 :: Value.int .u8 0 :: Value.int .u8 0 :: Value.int .u8 0 :: Value.int .u8 0 :: Value.int .u8 0 :: Value.int .u8 0 :: Value.int .u8 0 :: Value.int .u8 0 :: Value.int .u8 0 :: Value.int .u8 0 :: Value.int .u8 0 :: Value.int .u8 0 :: Value.int .u8 0 :: Value.int .u8 0 :: []).toArray 24] w
  have HG := Lib.hid (show w.heap.size ≤ g2 ∧ g2 < g3 ∧ g3 < g4 by omega)
  simp only [← hg4]
  simp only [← hg3]
  simp only [← hg2]
  clear hg4
  clear hg3
  clear hg2
  generalize ((w.alloc (.cells (ptC X Y).toArray 24)).alloc (.cells (ptC X' Y').toArray 24)).alloc (.cells (Value.int .u8 0 :: Value.int .u8 0 :: Value.int .u8 0 :: Value.int .u8 0 :: Value.int .u8 0 :: Value.int .u8 0 :: Value.int .u8 0 :: Value.int .u8 0 :: Value.int .u8 0 :: Value.int .u8 0 :: Value.int .u8 0 :: Value.int .u8 0 :: Value.int .u8 0 :: Value.int .u8 0 :: Value.int .u8 0 :: Value.int .u8 0 :: Value.int .u8 0 :: Value.int .u8 0 :: Value.int .u8 0 :: Value.int .u8 0 :: Value.int .u8 0 :: Value.int .u8 0 :: Value.int .u8 0 :: Value.int .u8 0 :: Value.int .u8 0 :: Value.int .u8 0 :: Value.int .u8 0 :: Value.int .u8 0 :: Value.int .u8 0 :: Value.int .u8 0 :: Value.int .u8 0 :: Value.int .u8 0 :: Value.int .u8 0 :: Value.int .u8 0 :: Value.int .u8 0 :: Value.int .u8 0 :: Value.int .u8 0 :: Value.int .u8 0 :: Value.int .u8 0 :: Value.int .u8 0 :: Value.int .u8 0 :: Value.int .u8 0 :: Value.int .u8 0 :: Value.int .u8 0 :: Value.int .u8 0 :: Value.int .u8 0 :: Value.int .u8 0 :: Value.int .u8 0 :: Value.int .u8 0 :: Value.int .u8 0 :: Value.int .u8 0 :: Value.int .u8 0 :: Value.int .u8 0 :: Value.int .u8 0 :: Value.int .u8 0 :: Value.int .u8 0 :: Value.int .u8 0 :: Value.int .u8 0 :: Value.int .u8 0 :: Value.int .u8 0 :: Value.int .u8 0 :: Value.int .u8 0 :: Value.int .u8 0 :: Value.int .u8 0 :: []).toArray 24) = w1 at *
  have lg2 := bg2.lt
  have lg3 := bg3.lt
  have lg4 := bg4.lt
  have hT1 := hT.below hb0
  go_upto_region 2 with (first
    | (go_at_call 35; refine (newGroup_k w1 hT1).mono ?_; rintro e wx ⟨g, rfl, hgl, hM, hbx⟩)
    | ((with_reducible refine (?_ : wpList _ _ _ (Oper.mk none _ _ _ _ _ :: _) _ _)); go_loud (refine wpList_store_blk rfl 62 (.tmp 5) (.tmp 6) rfl rfl wx.heap.size [.pointer (some ⟨g, 0, none⟩)] rfl rfl _ _ (Blk.new_of wx 62 #[.pointer none] [.pointer none] rfl) infoG rfl (by simp [Value.oneCell']) ?_); intro w2 bg5 hgs))
  have hxa : Below wx.heap.size wx (wx.alloc (.cells #[.pointer none] 62)) := (Below.refl _ _).alloc (Nat.le_refl _) _
  have hxc := below_new hxa hgs (Nat.le_refl _) hxa.size
  have hxb := hbx.trans (hxc.mono hbx.size)
  replace hM := hM.up hxc
  clear hxa hgs hT1 hxc
  obtain ⟨g5, hg5⟩ : ∃ g5, g5 = wx.heap.size := ⟨_, rfl⟩
  have hG5 := Lib.hid (show g4 < w1.heap.size ∧ w.heap.size ≤ w1.heap.size ∧ w1.heap.size ≤ g ∧ w1.heap.size ≤ g5 from ⟨lg4, hb0.size, hgl, by rw [hg5]; exact hbx.size⟩)
  rw [← hg5] at bg5
  simp only [← hg5]
  clear hg5 hgl hbx
  replace HG := Lib.hid (And.intro HG.out hG5.out)
  clear hG5
  replace bg2 := bg2.below hxb lg2
  replace bg3 := bg3.below hxb lg3
  replace bg4 := bg4.below hxb lg4
  replace hb0 := hb0.trans (hxb.mono hb0.size)
  clear hxb lg2 lg3 lg4
  have lg2 := bg2.lt
  have lg3 := bg3.lt
  have lg4 := bg4.lt
  have lg5 := bg5.lt
  have h := hM
  apply wp_region_once_tail (m := 10) (Z := []) (D := [[], [], [], [], [2, 3], [], [], [2, 3, 4, 5, 6], [1, 2, 3, 4, 5, 6, 7], [0, 1, 2, 3, 4, 5, 6, 7, 8], [0, 1, 2, 3, 4, 5, 6, 7, 8, 9]]) (J := [[], [], [], [], [2, 3], [], [], [5, 6], [1, 4, 7], [0, 8]]) (Je := [9]) (Rs := [Is _, Is _, Is _, Is _, Is _, Is _, Is _, Is _, Is _, Is _])
  · kernel_rfl
  · kernel_rfl
  · kernel_rfl
  · kernel_rfl
  · kernel_rfl
  · kernel_rfl
  · kernel_rfl
  · exact fun h => absurd rfl h
  · intro u
    simp only [List.take_succ_cons, List.take_zero, List.map_cons, List.map_nil, fillU, List.setIfInBounds_toArray, List.set_cons_zero, List.set_cons_succ, Nat.zero_add, Nat.reduceAdd]
    exact rfl
  · simp only [List.take_succ_cons, List.take_zero]
    refine ⟨fun u W hb hd K hK => ?_, ?_⟩
    · clear hd
      rw [if_pos (by rfl)]
      refine wp_load_mid 62 (.tmp 5) rfl g5 0 rfl ([.pointer (some ⟨g, 0, none⟩)]) _ (rangeAt_of_blk (bg5.below hb lg5)) Tryd.underlying62 rfl (infoG.trans rfl) ?_
      exact hK _ _ _ rfl (Below.refl _ _) IsOut
    refine ⟨fun u W hb hd K hK => ?_, ?_⟩
    · clear hd
      rw [if_pos (by rfl)]
      refine wp_load_mid 62 (.tmp 5) rfl g5 0 rfl ([.pointer (some ⟨g, 0, none⟩)]) _ (rangeAt_of_blk (bg5.below hb lg5)) Tryd.underlying62 rfl (infoG.trans rfl) ?_
      exact hK _ _ _ rfl (Below.refl _ _) IsOut
    refine ⟨fun u W hb hd K hK => ?_, ?_⟩
    · clear hd
      rw [if_pos (by rfl)]
      refine wp_load_mid 62 (.tmp 5) rfl g5 0 rfl ([.pointer (some ⟨g, 0, none⟩)]) _ (rangeAt_of_blk (bg5.below hb lg5)) Tryd.underlying62 rfl (infoG.trans rfl) ?_
      exact hK _ _ _ rfl (Below.refl _ _) IsOut
    refine ⟨fun u W hb hd K hK => ?_, ?_⟩
    · clear hd
      rw [if_pos (by rfl)]
      refine wp_load_mid 24 (.tmp 2) rfl g2 0 rfl (ptC X Y) _ (rangeAt_of_blk (bg2.below hb lg2)) Tryd.underlying24 rfl (infoPt.trans (by rw [ptC_length hX.out hY.out])) ?_
      exact hK _ _ _ rfl (Below.refl _ _) IsOut
    refine ⟨fun u W hb hd K hK => ?_, ?_⟩
    · simp only [Facts, nthR, Is, and_true] at hd
      simp only [hd] at hK ⊢
      clear hd
      go_simp
      refine (SpoE hsp (hM.up hb) (hT.up hb0 hb) hX hY).mono ?_
      rintro e wy ⟨rfl, hby⟩
      exact hK _ _ _ rfl hby IsOut
    refine ⟨fun u W hb hd K hK => ?_, ?_⟩
    · clear hd
      rw [if_pos (by rfl)]
      refine wp_load_mid 62 (.tmp 5) rfl g5 0 rfl ([.pointer (some ⟨g, 0, none⟩)]) _ (rangeAt_of_blk (bg5.below hb lg5)) Tryd.underlying62 rfl (infoG.trans rfl) ?_
      exact hK _ _ _ rfl (Below.refl _ _) IsOut
    refine ⟨fun u W hb hd K hK => ?_, ?_⟩
    · clear hd
      rw [if_pos (by rfl)]
      refine wp_load_mid 24 (.tmp 3) rfl g3 0 rfl (ptC X' Y') _ (rangeAt_of_blk (bg3.below hb lg3)) Tryd.underlying24 rfl (infoPt.trans (by rw [ptC_length hX'.out hY'.out])) ?_
      exact hK _ _ _ rfl (Below.refl _ _) IsOut
    refine ⟨fun u W hb hd K hK => ?_, ?_⟩
    · simp only [Facts, nthR, Is, and_true] at hd
      simp only [hd] at hK ⊢
      clear hd
      go_simp
      refine (SpoE hsq (hM.up hb) (hT.up hb0 hb) hX' hY').mono ?_
      rintro e wy ⟨rfl, hby⟩
      exact hK _ _ _ rfl hby IsOut
    refine ⟨fun u W hb hd K hK => ?_, ?_⟩
    · simp only [Facts, nthR, Is, and_true] at hd
      simp only [hd] at hK ⊢
      clear hd
      go_simp
      refine (SumE hsu (hM.up hb) (hT.up hb0 hb)).mono ?_
      rintro e wy ⟨rfl, hby⟩
      exact hK _ _ _ rfl hby IsOut
    refine ⟨fun u W hb hd K hK => ?_, ?_⟩
    · simp only [Facts, nthR, Is, and_true] at hd
      simp only [hd] at hK ⊢
      clear hd
      go_simp
      refine (PoiE hpt (hM.up hb)).mono ?_
      rintro e wy ⟨rfl, hby⟩
      exact hK _ _ _ rfl hby IsOut
    exact trivial
  · skip
    exact trivial
  · exact (.is (.is (.is (.is (.is (.is (.is (.is (.is (.is .nil))))))))))
  · intro u W hb hd
    simp only [List.drop_succ_cons, List.drop_zero]
    simp only [Facts, nthR, Is, and_true] at hd
    have h9 := hd
    clear hd
    simp only [h9]
    clear h9
    clear bg2 lg2 bg3 lg3 bg5 lg5
    have lM := hM.lt
    have lG := h.lt
    have hsz := hb0.size
    have hGo := HG.out
    replace bg4 := bg4.below hb lg4
    replace hM := hM.up hb
    replace hb0 := hb0.trans (hb.mono hb0.size)
    clear hb
    go_wp2_with (first
      | ((with_reducible refine (?_ : wpList _ _ _ (Oper.mk none _ _ _ _ _ :: _) _ _)); go_loud (refine wpList_store_blk rfl 24 (.tmp 4) (.tmp 16) rfl rfl g4 (ptV (pt)) rfl rfl _ _ (bg4) (infoPt.trans (by rw [ptV_length])) (by first | with_reducible rfl | rw [ptV_length, ptZ_length]) (onePv _) ?_); intro wz bn hgs; replace hM := hM.grown hgs (fun e => by omega); replace hb0 := below_new hb0 hgs (by omega) hb0.size; clear hgs bg4; have bg4 := bn; clear bn))
    clear lM lG hsz hGo lg4
    have lg4 := bg4.lt
    refine bodyPost_ret (v := .agg _) (results_cell_row rfl _ _ g4 24 _ (0, 0) _ rfl bg4.raw Tryd.underlying24 rfl (infoPt.trans (by rw [List.size_toArray, ptV_length]))) rfl ?_
    exact ⟨by rw [← HZ.out, hpt.out, hsu.out, hsp.out, hsq.out], hb0⟩
end Go.Proofs.YtnkikhnllnbhfaaDoor
