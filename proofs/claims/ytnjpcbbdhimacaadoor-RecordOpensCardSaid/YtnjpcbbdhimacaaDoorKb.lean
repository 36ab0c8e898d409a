/-
 Joined: Bs3, Bs4, Bs5, Bk.
-/
import Derived.Test.YtnjpcbbdhimacaaDoorKa
import Derived.Test.YtnjpcbbdhimacaaDoorJf
import Derived.Test.YtnjpcbbdhimacaaDoorJa
import Derived.Deep.AppendLies
import Derived.Maps.AppendAt
namespace Go.Proofs.YtnjpcbbdhimacaaDoor
section
open Go.RowKit
theorem rotl_zero (x : UInt32) : rotl 0 x = x := by
 unfold rotl
 have h : UInt32.ofNat (32 - 0) = 32 := rfl
 rw [h]
 apply UInt32.toNat_inj.1
 simp
set_option maxRecDepth 100000 in
set_option maxHeartbeats 1000000 in
theorem rot_none (x : UInt32) (w : World) :
  Calls Tryd.prog 74 #[.int .u32 x.toNat, .int .i64 0] w fun e w' => e = .returned (.int .u32 (rotl (8 * 0) x).toNat) ∧ Below w.heap.size w w' := by
 rw [show 8 * 0 = 0 from rfl, rotl_zero]
 have h0 : bits .and .u64 0 31 = 0 := by decide +kernel
 go_enter Tryd.func74, Tryd.ntmps74
 go_wp2
 go_ret
 refine ⟨?_, Below.refl _ _⟩
 have h1 : bits .or .u32 (x.toNat : Int) 0 = ((x ||| 0).toNat : Int) := w_or x 0
 rw [UInt32.or_zero] at h1
 have e1 : (x.toNat : Int) % 4294967296 = (x.toNat : Int) := by have := u32_lt x; omega
 have e2 : (x.toNat : Int) / 4294967296 = 0 := by have := u32_lt x; omega
 rw [e1, e2, h1]
 rfl
theorem rot_1 (x : UInt32) (w : World) :
  Calls Tryd.prog 74 #[.int .u32 x.toNat, .int .i64 8] w fun e w' => e = .returned (.int .u32 (rotl (8 * 1) x).toNat) ∧ Below w.heap.size w w' :=
 (rotl_any x 8 (8 * 1) w (by decide) (by decide) (by decide +kernel)).mono fun e w' ⟨h, hw⟩ => ⟨h, by subst hw; exact Below.refl _ _⟩
theorem rot_2 (x : UInt32) (w : World) :
  Calls Tryd.prog 74 #[.int .u32 x.toNat, .int .i64 16] w fun e w' => e = .returned (.int .u32 (rotl (8 * 2) x).toNat) ∧ Below w.heap.size w w' :=
 (rotl_any x 16 (8 * 2) w (by decide) (by decide) (by decide +kernel)).mono fun e w' ⟨h, hw⟩ => ⟨h, by subst hw; exact Below.refl _ _⟩
theorem rot_3 (x : UInt32) (w : World) :
  Calls Tryd.prog 74 #[.int .u32 x.toNat, .int .i64 24] w fun e w' => e = .returned (.int .u32 (rotl (8 * 3) x).toNat) ∧ Below w.heap.size w w' :=
 (rotl_any x 24 (8 * 3) w (by decide) (by decide) (by decide +kernel)).mono fun e w' ⟨h, hw⟩ => ⟨h, by subst hw; exact Below.refl _ _⟩
/-- Rows shifted. -/
def shiftS (s : List UInt32) : List UInt32 := (List.range 4).map fun i => rotl (8 * i) (s.getD i 0)
theorem shiftS_length (s : List UInt32) : (shiftS s).length = 4 := by simp [shiftS]
theorem shiftS_get (s : List UInt32) (k : Nat) (hk : k < 4) : (shiftS s).getD k 0 = rotl (8 * k) (s.getD k 0) := by
 simp [shiftS, List.getD_eq_getElem?_getD, hk]
set_option maxRecDepth 100000 in
set_option maxHeartbeats 1000000 in
theorem shifted_any (s : List UInt32) (hs : s.length = 4) (w : World) :
  Calls Tryd.prog 52 #[SV s] w fun e w' => e = .returned (SV (shiftS s)) ∧ Below w.heap.size w w' := by
 have HS := Lib.hid hs
 have hXl := shiftS_length s
 have hXg := shiftS_get s
 obtain ⟨X, hX⟩ : ∃ X, X = shiftS s := ⟨_, rfl⟩
 rw [← hX] at hXl hXg ⊢
 have HXL := Lib.hid hXl
 have HXG := Lib.hid hXg
 clear hs hXl hXg hX
 have hz : ∀ W : World, (zeroValue 94).run Tryd.prog W = .ok (SV zero4) W := fun W => by kernel_rfl
 go_enter Tryd.func52, Tryd.ntmps52
 go_wp2_with (refine wpList_load_blk rfl 94 (.tmp 1) rfl w.heap.size rfl 94 _ _ ((Blk.new_of w 94 _ (s.map U32) (by rfl)).alloc _) Tryd.underlying94 rfl (infoStB.trans (by rw [List.length_map, HS.out])) ?_)
 go_loopw [6] (fun i wr => ∃ k : Nat, k ≤ 4 ∧ i = .int .i64 (k : Int) ∧ Blk wr w.heap.size 94 ((X.take k ++ s.drop k).map U32) ∧ Blk wr (w.heap.size + 1) 94 (zero4.map U32) ∧ Below w.heap.size w wr) (fun i _ => 4 - (intOf i).toNat)
 case atStart => exact ⟨0, by omega, rfl, (Blk.new_of w 94 _ (s.map U32) (by rfl)).alloc _, Blk.new2_of w _ _ _ _ (by rfl), ((Below.refl _ _).alloc (Nat.le_refl _) _).alloc (by simp) _⟩
 case round =>
  obtain ⟨k, hk, rfl, hB, hZ, hbl⟩ := hrel
  by_cases hlt : k < 4
  ·
   have hd : decide ((k : Int) < 4) = true := by simp; omega
   have hix := index_words 4 94 s HS.out Tryd.underlying94 k hlt
   have hlen := len_to X s k (by rw [HXL.out]; omega) (by rw [HXL.out, HS.out])
   have hc := hB.at32 k (by rw [hlen, HS.out]; omega)
   have hf := hB.frozen k
   have hX := HXG.out k hlt
   have hst := set_to X s k 0 (by rw [HXL.out]; omega) (by rw [HS.out]; omega)
   generalize (X.take k ++ s.drop k).getD k 0 = x0 at *
   generalize s.getD k 0 = x1 at *
   generalize X.getD k 0 = x3 at *
   have HST := Lib.hid hst
   have HX := Lib.hid hX
   clear hst hlen hX
   generalize X.take k ++ s.drop k = L at *
   have hlB := hB.lt
   have hlZ := hZ.lt
   obtain rfl | rfl | rfl | rfl : k = 0 ∨ k = 1 ∨ k = 2 ∨ k = 3 := by omega
   ·
    have hix1 := fun W => (show (Instr.index 94 (.agg (s.map U32).toArray) (.int .i64 0)).run Tryd.prog W = .ok (.int .u32 x1.toNat) W from hix W)
    clear hix
    go_wp2_with (go_at_call 74; with_reducible refine (rot_none _ _).mono ?_; rintro e w1 ⟨rfl, hb1⟩; replace hf := (hb1.frozen (p := ⟨w.heap.size, 0, none⟩) hlB).trans hf; replace hc := (hb1.cell (p := ⟨w.heap.size, 0, none⟩) hlB).trans hc; replace hB := hB.below hb1 hlB; replace hZ := hZ.below hb1 hlZ; replace hbl := hbl.trans (hb1.mono hbl.size))
    go_roundw
    case rel =>
     refine ⟨1, by omega, by rfl, ?_, hZ.far (show w.heap.size + 1 ≠ w.heap.size by omega) _, hbl.setCell (show w.heap.size ≤ w.heap.size from Nat.le_refl _) _⟩
     rw [show 1 = 0 + 1 from rfl, ← HST.out, ← map_set32, HX.out]
     exact hB.set_ 0 _
    case measure => simp [intOf]
   ·
    have hix1 := fun W => (show (Instr.index 94 (.agg (s.map U32).toArray) (.int .i64 1)).run Tryd.prog W = .ok (.int .u32 x1.toNat) W from hix W)
    clear hix
    go_wp2_with (go_at_call 74; with_reducible refine (rot_1 _ _).mono ?_; rintro e w1 ⟨rfl, hb1⟩; replace hf := (hb1.frozen (p := ⟨w.heap.size, 1, none⟩) hlB).trans hf; replace hc := (hb1.cell (p := ⟨w.heap.size, 1, none⟩) hlB).trans hc; replace hB := hB.below hb1 hlB; replace hZ := hZ.below hb1 hlZ; replace hbl := hbl.trans (hb1.mono hbl.size))
    go_roundw
    case rel =>
     refine ⟨2, by omega, by rfl, ?_, hZ.far (show w.heap.size + 1 ≠ w.heap.size by omega) _, hbl.setCell (show w.heap.size ≤ w.heap.size from Nat.le_refl _) _⟩
     rw [show 2 = 1 + 1 from rfl, ← HST.out, ← map_set32, HX.out]
     exact hB.set_ 1 _
    case measure => simp [intOf]
   ·
    have hix1 := fun W => (show (Instr.index 94 (.agg (s.map U32).toArray) (.int .i64 2)).run Tryd.prog W = .ok (.int .u32 x1.toNat) W from hix W)
    clear hix
    go_wp2_with (go_at_call 74; with_reducible refine (rot_2 _ _).mono ?_; rintro e w1 ⟨rfl, hb1⟩; replace hf := (hb1.frozen (p := ⟨w.heap.size, 2, none⟩) hlB).trans hf; replace hc := (hb1.cell (p := ⟨w.heap.size, 2, none⟩) hlB).trans hc; replace hB := hB.below hb1 hlB; replace hZ := hZ.below hb1 hlZ; replace hbl := hbl.trans (hb1.mono hbl.size))
    go_roundw
    case rel =>
     refine ⟨3, by omega, by rfl, ?_, hZ.far (show w.heap.size + 1 ≠ w.heap.size by omega) _, hbl.setCell (show w.heap.size ≤ w.heap.size from Nat.le_refl _) _⟩
     rw [show 3 = 2 + 1 from rfl, ← HST.out, ← map_set32, HX.out]
     exact hB.set_ 2 _
    case measure => simp [intOf]
   ·
    have hix1 := fun W => (show (Instr.index 94 (.agg (s.map U32).toArray) (.int .i64 3)).run Tryd.prog W = .ok (.int .u32 x1.toNat) W from hix W)
    clear hix
    go_wp2_with (go_at_call 74; with_reducible refine (rot_3 _ _).mono ?_; rintro e w1 ⟨rfl, hb1⟩; replace hf := (hb1.frozen (p := ⟨w.heap.size, 3, none⟩) hlB).trans hf; replace hc := (hb1.cell (p := ⟨w.heap.size, 3, none⟩) hlB).trans hc; replace hB := hB.below hb1 hlB; replace hZ := hZ.below hb1 hlZ; replace hbl := hbl.trans (hb1.mono hbl.size))
    go_roundw
    case rel =>
     refine ⟨4, by omega, by rfl, ?_, hZ.far (show w.heap.size + 1 ≠ w.heap.size by omega) _, hbl.setCell (show w.heap.size ≤ w.heap.size from Nat.le_refl _) _⟩
     rw [show 4 = 3 + 1 from rfl, ← HST.out, ← map_set32, HX.out]
     exact hB.set_ 3 _
    case measure => simp [intOf]
  ·
   have hd : decide ((k : Int) < 4) = false := by simp; omega
   obtain rfl : k = 4 := by omega
   rw [List.take_of_length_le (by rw [HXL.out]; omega), List.drop_eq_nil_of_le (by rw [HS.out]; omega), List.append_nil] at hB
   go_wp2_with (first
    | (refine wpList_load_blk rfl 94 (.tmp 1) rfl w.heap.size rfl 94 _ _ hB Tryd.underlying94 rfl (infoStB.trans (by rw [List.length_map, HXL.out])) ?_)
    | (refine wpList_store_blk rfl 94 (.tmp 2) (.tmp 17) rfl rfl (w.heap.size + 1) _ rfl rfl 94 _ hZ (infoStB.trans (by rw [List.length_map, HXL.out])) (by rw [List.length_map, List.length_map, HXL.out]; rfl) (one32 _) ?_; intro w2 hA2 hg2))
   refine bodyPost_ret (v := .agg _) (results_cell_row rfl _ _ (w.heap.size + 1) 94 _ (0, 0) _ rfl hA2.raw Tryd.underlying94 rfl (infoStB.trans (by rw [List.size_toArray, List.length_map, HXL.out]))) rfl ⟨rfl, below_new hbl hg2 (by omega) hbl.size⟩
end
section
open Go.RowKit
def lo32 (x : BitVec 64) : UInt32 := UInt32.ofBitVec (x.setWidth 32)
def hi32 (x : BitVec 64) : UInt32 := UInt32.ofBitVec ((x >>> 32).setWidth 32)
def wide (x : UInt32) : BitVec 64 := x.toBitVec.setWidth 64
def cat32 (x y : UInt32) : BitVec 64 := (wide x <<< 32) ||| wide y
theorem wide_nat (x : UInt32) : (wide x).toNat = x.toNat := by
 simp [wide]
theorem w_lo (x : BitVec 64) : IntKind.u32.wrap (x.toNat : Int) = ((lo32 x).toNat : Int) := by
 rw [IntKind.wrap_u32]; simp [lo32]
theorem w_lo' (x : BitVec 64) : (x.toNat : Int) % (4294967296 : Int) = ((lo32 x).toNat : Int) := by
 simp [lo32]
theorem wrap64_u32 (x : UInt32) : IntKind.u64.wrap (x.toNat : Int) = (x.toNat : Int) := by
 rw [IntKind.wrap_u64]; have := u32_lt x; omega
def dbl32 (x : UInt32) : UInt32 := lo32 (dbl64 (wide x))
theorem doubled_32 (z : UInt32) (w : World) : Calls Tryd.prog 75 #[.int .u64 (z.toNat : Int)] w fun e w' => e = .returned (.int .u64 ((dbl64 (wide z)).toNat : Int)) ∧ Below w.heap.size w w' := by
 have := doubled_any (wide z) w
 rw [wide_nat] at this
 exact this.mono fun e w' ⟨h1, h2⟩ => ⟨h1, by subst h2; exact Below.refl _ _⟩
/-- Columns mixed. -/
def mixS (s : List UInt32) : List UInt32 := (List.range 4).map fun i => ((dbl32 (s.getD i 0 ^^^ s.getD ((i + 1) % 4) 0) ^^^ s.getD ((i + 1) % 4) 0) ^^^ s.getD ((i + 2) % 4) 0) ^^^ s.getD ((i + 3) % 4) 0
theorem mixS_length (s : List UInt32) : (mixS s).length = 4 := by simp [mixS]
theorem mixS_get (s : List UInt32) (k : Nat) (hk : k < 4) : (mixS s).getD k 0 = ((dbl32 (s.getD k 0 ^^^ s.getD ((k + 1) % 4) 0) ^^^ s.getD ((k + 1) % 4) 0) ^^^ s.getD ((k + 2) % 4) 0) ^^^ s.getD ((k + 3) % 4) 0 := by
 simp [mixS, List.getD_eq_getElem?_getD, hk]
set_option maxRecDepth 100000 in
set_option maxHeartbeats 2000000 in
theorem mixed_any (s : List UInt32) (hs : s.length = 4) (w : World) :
  Calls Tryd.prog 53 #[SV s] w fun e w' => e = .returned (SV (mixS s)) ∧ Below w.heap.size w w' := by
 have HS := Lib.hid hs
 have hXl := mixS_length s
 have hXg := mixS_get s
 obtain ⟨X, hX⟩ : ∃ X, X = mixS s := ⟨_, rfl⟩
 rw [← hX] at hXl hXg ⊢
 have HXL := Lib.hid hXl
 have HXG := Lib.hid hXg
 clear hs hXl hXg hX
 have hz : ∀ W : World, (zeroValue 94).run Tryd.prog W = .ok (SV zero4) W := fun W => by kernel_rfl
 go_enter Tryd.func53, Tryd.ntmps53
 go_wp2_with (refine wpList_load_blk rfl 94 (.tmp 1) rfl w.heap.size rfl 94 _ _ (((Blk.new_of w 94 _ (s.map U32) (by rfl)).alloc _).alloc _) Tryd.underlying94 rfl (infoStB.trans (by rw [List.length_map, HS.out])) ?_)
 go_loopw [8] (fun i wr => ∃ k : Nat, k ≤ 4 ∧ i = .int .i64 (k : Int) ∧ Blk wr (w.heap.size + 1 + 1) 94 ((X.take k ++ zero4.drop k).map U32) ∧ Blk wr (w.heap.size + 1) 94 (zero4.map U32) ∧ Blk wr w.heap.size 94 (s.map U32) ∧ Below w.heap.size w wr) (fun i _ => 4 - (intOf i).toNat)
 case atStart => exact ⟨0, by omega, rfl, Blk.new3_of w _ _ _ _ _ (by rfl), (Blk.new2_of w _ _ _ _ (by rfl)).alloc _, ((Blk.new_of w 94 _ (s.map U32) (by rfl)).alloc _).alloc _, (((Below.refl _ _).alloc (Nat.le_refl _) _).alloc (by simp) _).alloc (by simp; omega) _⟩
 case round =>
  obtain ⟨k, hk, rfl, hB, hZ, hR, hbl⟩ := hrel
  by_cases hlt : k < 4
  ·
   have hd : decide ((k : Int) < 4) = true := by simp; omega
   have hix := index_words 4 94 s HS.out Tryd.underlying94 k hlt
   have hlen := len_to X zero4 k (by rw [HXL.out]; omega) (by rw [HXL.out]; rfl)
   have hf := hB.frozen k
   have hc0 := hB.at32 k (by rw [hlen]; exact hlt)
   have hX := HXG.out k hlt
   have hst := set_to X zero4 k 0 (by rw [HXL.out]; omega) hlt
   have hi1 : (k + 1) % 4 < 4 := Nat.mod_lt _ (by decide)
   have hi2 : (k + 2) % 4 < 4 := Nat.mod_lt _ (by decide)
   have hi3 : (k + 3) % 4 < 4 := Nat.mod_lt _ (by decide)
   have hlB := hB.lt
   have hlR := hR.lt
   have hlZ := hZ.lt
   have q1 := fun V (h : Below wr.heap.size wr V) => (hR.below h hlR).at32 ((k + 1) % 4) (by rw [HS.out]; exact hi1)
   have q2 := fun V (h : Below wr.heap.size wr V) => (hR.below h hlR).at32 ((k + 2) % 4) (by rw [HS.out]; exact hi2)
   have q3 := fun V (h : Below wr.heap.size wr V) => (hR.below h hlR).at32 ((k + 3) % 4) (by rw [HS.out]; exact hi3)
   generalize (X.take k ++ zero4.drop k).getD k 0 = x0 at *
   generalize s.getD k 0 = y0 at *
   generalize s.getD ((k + 1) % 4) 0 = y1 at *
   generalize s.getD ((k + 2) % 4) 0 = y2 at *
   generalize s.getD ((k + 3) % 4) 0 = y3 at *
   generalize X.getD k 0 = x3 at *
   have q1' := q1 wr (Below.refl _ _)
   have d0 := fun W => doubled_32 (y0 ^^^ y1) W
   have e0 := w_xor y0 y1
   have ew := wrap64_u32 (y0 ^^^ y1)
   have e1 := w_lo (dbl64 (wide (y0 ^^^ y1)))
   have e2 := w_xor (dbl32 (y0 ^^^ y1)) y1
   have e3 := w_xor (dbl32 (y0 ^^^ y1) ^^^ y1) y2
   have e4 := w_xor ((dbl32 (y0 ^^^ y1) ^^^ y1) ^^^ y2) y3
   rw [← hX] at e4
   have HD : Hid (dbl32 (y0 ^^^ y1) = lo32 (dbl64 (wide (y0 ^^^ y1)))) := Lib.hid rfl
   rw [← HD.out] at e1
   generalize (dbl32 (y0 ^^^ y1) ^^^ y1) ^^^ y2 = z3 at *
   generalize dbl32 (y0 ^^^ y1) ^^^ y1 = z2 at *
   generalize dbl32 (y0 ^^^ y1) = z1 at *
   generalize dbl64 (wide (y0 ^^^ y1)) = v at *
   generalize y0 ^^^ y1 = z0 at *
   have HST := Lib.hid hst
   clear hst hlen hX HD hi1 hi2 hi3
   generalize X.take k ++ zero4.drop k = L at *
   obtain rfl | rfl | rfl | rfl : k = 0 ∨ k = 1 ∨ k = 2 ∨ k = 3 := by omega
   ·
    have hix1 := fun W => (show (Instr.index 94 (.agg (s.map U32).toArray) (.int .i64 0)).run Tryd.prog W = .ok (.int .u32 y0.toNat) W from hix W)
    simp only [Nat.reduceAdd, Nat.reduceMod] at q1 q2 q3 q1'
    have m2 : (IntKind.i64.wrap (2 : Int)).tmod 4 = 2 := by decide +kernel
    have m3 : (IntKind.i64.wrap (3 : Int)).tmod 4 = 3 := by decide +kernel
    clear hix
    go_wp2
    refine wp_region_noPanic ?_
    apply wp_region_once_tail (m := 22) (Z := []) (D := [[], [], [], [1, 2], [1, 2, 3], [1, 2, 3, 4], [1, 2, 3, 4, 5], [], [1, 2, 3, 4, 5, 6, 7], [], [9], [9, 10], [9, 10, 11], [9, 10, 11, 12], [1, 2, 3, 4, 5, 6, 7, 8, 9, 10, 11, 12, 13], [], [15], [15, 16], [15, 16, 17], [15, 16, 17, 18], [1, 2, 3, 4, 5, 6, 7, 8, 9, 10, 11, 12, 13, 14, 15, 16, 17, 18, 19], [0, 1, 2, 3, 4, 5, 6, 7, 8, 9, 10, 11, 12, 13, 14, 15, 16, 17, 18, 19, 20], [0, 1, 2, 3, 4, 5, 6, 7, 8, 9, 10, 11, 12, 13, 14, 15, 16, 17, 18, 19, 20, 21]]) (J := [[], [], [], [1, 2], [3], [4], [5], [], [6, 7], [], [9], [10], [11], [12], [8, 13], [], [15], [16], [17], [18], [14, 19], [0]]) (Je := [20, 21]) (Rs := [Is _, Is _, Is _, Is _, Is _, Is _, Is _, Is _, Is _, Is _, Is _, Is _, Is _, Is _, Is _, Is _, Is _, Is _, Is _, Is _, Is _, Is _])
    ·
     kernel_rfl
    ·
     kernel_rfl
    ·
     kernel_rfl
    ·
     kernel_rfl
    ·
     kernel_rfl
    ·
     kernel_rfl
    ·
     kernel_rfl
    ·
     exact fun h => absurd rfl h
    ·
     intro u
     simp only [List.take_succ_cons, List.take_zero, List.map_cons, List.map_nil, fillU, List.setIfInBounds_toArray, List.set_cons_zero, List.set_cons_succ, Nat.zero_add, Nat.reduceAdd]
     exact rfl
    ·
     simp only [List.take_succ_cons, List.take_zero]
     refine ⟨fun u W hb hd K hK => ?_, ?_⟩
     ·
      clear hd
      go_simp
      apply hK
      ·
       simp only [Act.put, List.setIfInBounds_toArray, List.set_cons_zero, List.set_cons_succ]
       exact rfl
      ·
       exact Below.refl _ _
      ·
       exact IsOut
     refine ⟨fun u W hb hd K hK => ?_, ?_⟩
     ·
      clear hd
      go_simp
      apply hK
      ·
       simp only [Act.put, List.setIfInBounds_toArray, List.set_cons_zero, List.set_cons_succ]
       exact rfl
      ·
       exact Below.refl _ _
      ·
       exact IsOut
     refine ⟨fun u W hb hd K hK => ?_, ?_⟩
     ·
      clear hd
      go_simp
      apply hK
      ·
       simp only [Act.put, List.setIfInBounds_toArray, List.set_cons_zero, List.set_cons_succ]
       exact rfl
      ·
       exact Below.refl _ _
      ·
       exact IsOut
     refine ⟨fun u W hb hd K hK => ?_, ?_⟩
     ·
      simp only [Facts, nthR, Is, and_true] at hd
      simp only [hd] at hK ⊢
      clear hd
      go_simp
      apply hK
      ·
       simp only [Act.put, List.setIfInBounds_toArray, List.set_cons_zero, List.set_cons_succ]
       exact rfl
      ·
       exact Below.refl _ _
      ·
       exact IsOut
     refine ⟨fun u W hb hd K hK => ?_, ?_⟩
     ·
      simp only [Facts, nthR, Is, and_true] at hd
      simp only [hd] at hK ⊢
      clear hd
      go_simp
      apply hK
      ·
       simp only [Act.put, List.setIfInBounds_toArray, List.set_cons_zero, List.set_cons_succ]
       exact rfl
      ·
       exact Below.refl _ _
      ·
       exact IsOut
     refine ⟨fun u W hb hd K hK => ?_, ?_⟩
     ·
      simp only [Facts, nthR, Is, and_true] at hd
      simp only [hd] at hK ⊢
      clear hd
      go_simp
      with_reducible refine (d0 _).mono ?_
      rintro e wy ⟨rfl, hby⟩
      exact hK _ _ _ rfl hby IsOut
     refine ⟨fun u W hb hd K hK => ?_, ?_⟩
     ·
      simp only [Facts, nthR, Is, and_true] at hd
      simp only [hd] at hK ⊢
      clear hd
      go_simp
      apply hK
      ·
       simp only [Act.put, List.setIfInBounds_toArray, List.set_cons_zero, List.set_cons_succ]
       exact rfl
      ·
       exact Below.refl _ _
      ·
       exact IsOut
     refine ⟨fun u W hb hd K hK => ?_, ?_⟩
     ·
      clear hd
      go_simp
      apply hK
      ·
       simp only [Act.put, List.setIfInBounds_toArray, List.set_cons_zero, List.set_cons_succ]
       exact rfl
      ·
       exact Below.refl _ _
      ·
       exact IsOut
     refine ⟨fun u W hb hd K hK => ?_, ?_⟩
     ·
      simp only [Facts, nthR, Is, and_true] at hd
      simp only [hd] at hK ⊢
      clear hd
      go_simp
      apply hK
      ·
       simp only [Act.put, List.setIfInBounds_toArray, List.set_cons_zero, List.set_cons_succ]
       exact rfl
      ·
       exact Below.refl _ _
      ·
       exact IsOut
     refine ⟨fun u W hb hd K hK => ?_, ?_⟩
     ·
      clear hd
      go_simp
      apply hK
      ·
       simp only [Act.put, List.setIfInBounds_toArray, List.set_cons_zero, List.set_cons_succ]
       exact rfl
      ·
       exact Below.refl _ _
      ·
       exact IsOut
     refine ⟨fun u W hb hd K hK => ?_, ?_⟩
     ·
      simp only [Facts, nthR, Is, and_true] at hd
      simp only [hd] at hK ⊢
      clear hd
      go_simp
      apply hK
      ·
       simp only [Act.put, List.setIfInBounds_toArray, List.set_cons_zero, List.set_cons_succ]
       exact rfl
      ·
       exact Below.refl _ _
      ·
       exact IsOut
     refine ⟨fun u W hb hd K hK => ?_, ?_⟩
     ·
      simp only [Facts, nthR, Is, and_true] at hd
      simp only [hd] at hK ⊢
      clear hd
      go_simp
      apply hK
      ·
       simp only [Act.put, List.setIfInBounds_toArray, List.set_cons_zero, List.set_cons_succ]
       exact rfl
      ·
       exact Below.refl _ _
      ·
       exact IsOut
     refine ⟨fun u W hb hd K hK => ?_, ?_⟩
     ·
      simp only [Facts, nthR, Is, and_true] at hd
      simp only [hd] at hK ⊢
      clear hd
      go_simp
      apply hK
      ·
       simp only [Act.put, List.setIfInBounds_toArray, List.set_cons_zero, List.set_cons_succ]
       exact rfl
      ·
       exact Below.refl _ _
      ·
       exact IsOut
     refine ⟨fun u W hb hd K hK => ?_, ?_⟩
     ·
      simp only [Facts, nthR, Is, and_true] at hd
      simp only [hd] at hK ⊢
      clear hd
      go_simp
      apply hK
      ·
       simp only [Act.put, List.setIfInBounds_toArray, List.set_cons_zero, List.set_cons_succ]
       exact rfl
      ·
       exact Below.refl _ _
      ·
       exact IsOut
     refine ⟨fun u W hb hd K hK => ?_, ?_⟩
     ·
      simp only [Facts, nthR, Is, and_true] at hd
      simp only [hd] at hK ⊢
      clear hd
      go_simp
      apply hK
      ·
       simp only [Act.put, List.setIfInBounds_toArray, List.set_cons_zero, List.set_cons_succ]
       exact rfl
      ·
       exact Below.refl _ _
      ·
       exact IsOut
     refine ⟨fun u W hb hd K hK => ?_, ?_⟩
     ·
      clear hd
      go_simp
      apply hK
      ·
       simp only [Act.put, List.setIfInBounds_toArray, List.set_cons_zero, List.set_cons_succ]
       exact rfl
      ·
       exact Below.refl _ _
      ·
       exact IsOut
     refine ⟨fun u W hb hd K hK => ?_, ?_⟩
     ·
      simp only [Facts, nthR, Is, and_true] at hd
      simp only [hd] at hK ⊢
      clear hd
      go_simp
      apply hK
      ·
       simp only [Act.put, List.setIfInBounds_toArray, List.set_cons_zero, List.set_cons_succ]
       exact rfl
      ·
       exact Below.refl _ _
      ·
       exact IsOut
     refine ⟨fun u W hb hd K hK => ?_, ?_⟩
     ·
      simp only [Facts, nthR, Is, and_true] at hd
      simp only [hd] at hK ⊢
      clear hd
      go_simp
      apply hK
      ·
       simp only [Act.put, List.setIfInBounds_toArray, List.set_cons_zero, List.set_cons_succ]
       exact rfl
      ·
       exact Below.refl _ _
      ·
       exact IsOut
     refine ⟨fun u W hb hd K hK => ?_, ?_⟩
     ·
      simp only [Facts, nthR, Is, and_true] at hd
      simp only [hd] at hK ⊢
      clear hd
      go_simp
      apply hK
      ·
       simp only [Act.put, List.setIfInBounds_toArray, List.set_cons_zero, List.set_cons_succ]
       exact rfl
      ·
       exact Below.refl _ _
      ·
       exact IsOut
     refine ⟨fun u W hb hd K hK => ?_, ?_⟩
     ·
      simp only [Facts, nthR, Is, and_true] at hd
      simp only [hd] at hK ⊢
      clear hd
      go_simp
      apply hK
      ·
       simp only [Act.put, List.setIfInBounds_toArray, List.set_cons_zero, List.set_cons_succ]
       exact rfl
      ·
       exact Below.refl _ _
      ·
       exact IsOut
     refine ⟨fun u W hb hd K hK => ?_, ?_⟩
     ·
      simp only [Facts, nthR, Is, and_true] at hd
      simp only [hd] at hK ⊢
      clear hd
      go_simp
      apply hK
      ·
       simp only [Act.put, List.setIfInBounds_toArray, List.set_cons_zero, List.set_cons_succ]
       exact rfl
      ·
       exact Below.refl _ _
      ·
       exact IsOut
     refine ⟨fun u W hb hd K hK => ?_, ?_⟩
     ·
      simp only [Facts, nthR, Is, and_true] at hd
      simp only [hd] at hK ⊢
      clear hd
      go_simp
      apply hK
      ·
       simp only [Act.put, List.setIfInBounds_toArray, List.set_cons_zero, List.set_cons_succ]
       exact rfl
      ·
       exact Below.refl _ _
      ·
       exact IsOut
     exact trivial
    ·
     skip
     exact trivial
    ·
     exact (.is (.is (.is (.is (.is (.is (.is (.is (.is (.is (.is (.is (.is (.is (.is (.is (.is (.is (.is (.is (.is (.is .nil))))))))))))))))))))))
    ·
     intro u W hb hd
     simp only [List.drop_succ_cons, List.drop_zero]
     simp only [Facts, nthR, Is, and_true] at hd
     simp only [hd]
     clear hd
     replace hf := (hb.frozen (p := ⟨w.heap.size + 1 + 1, 0, none⟩) hlB).trans hf
     replace hc0 := (hb.cell (p := ⟨w.heap.size + 1 + 1, 0, none⟩) hlB).trans hc0
     replace hB := hB.below hb hlB
     replace hZ := hZ.below hb hlZ
     replace hR := hR.below hb hlR
     replace hbl := hbl.trans (hb.mono hbl.size)
     clear hb q1 q2 q3 q1' d0
     go_wp2
     refine NoPanic.normal ?_
     go_wp2
     go_roundw
     case rel =>
      refine ⟨1, by omega, by rfl, ?_, hZ.far (show w.heap.size + 1 ≠ w.heap.size + 1 + 1 by omega) _, hR.far (show w.heap.size ≠ w.heap.size + 1 + 1 by omega) _, hbl.setCell (show w.heap.size ≤ w.heap.size + 1 + 1 by omega) _⟩
      rw [show 1 = 0 + 1 from rfl, ← HST.out, ← map_set32]
      exact hB.set_ 0 _
     case measure => simp [intOf]
   ·
    have hix1 := fun W => (show (Instr.index 94 (.agg (s.map U32).toArray) (.int .i64 1)).run Tryd.prog W = .ok (.int .u32 y0.toNat) W from hix W)
    simp only [Nat.reduceAdd, Nat.reduceMod] at q1 q2 q3 q1'
    have m2 : (IntKind.i64.wrap (3 : Int)).tmod 4 = 3 := by decide +kernel
    have m3 : (IntKind.i64.wrap (4 : Int)).tmod 4 = 0 := by decide +kernel
    clear hix
    go_wp2
    refine wp_region_noPanic ?_
    apply wp_region_once_tail (m := 22) (Z := []) (D := [[], [], [], [1, 2], [1, 2, 3], [1, 2, 3, 4], [1, 2, 3, 4, 5], [], [1, 2, 3, 4, 5, 6, 7], [], [9], [9, 10], [9, 10, 11], [9, 10, 11, 12], [1, 2, 3, 4, 5, 6, 7, 8, 9, 10, 11, 12, 13], [], [15], [15, 16], [15, 16, 17], [15, 16, 17, 18], [1, 2, 3, 4, 5, 6, 7, 8, 9, 10, 11, 12, 13, 14, 15, 16, 17, 18, 19], [0, 1, 2, 3, 4, 5, 6, 7, 8, 9, 10, 11, 12, 13, 14, 15, 16, 17, 18, 19, 20], [0, 1, 2, 3, 4, 5, 6, 7, 8, 9, 10, 11, 12, 13, 14, 15, 16, 17, 18, 19, 20, 21]]) (J := [[], [], [], [1, 2], [3], [4], [5], [], [6, 7], [], [9], [10], [11], [12], [8, 13], [], [15], [16], [17], [18], [14, 19], [0]]) (Je := [20, 21]) (Rs := [Is _, Is _, Is _, Is _, Is _, Is _, Is _, Is _, Is _, Is _, Is _, Is _, Is _, Is _, Is _, Is _, Is _, Is _, Is _, Is _, Is _, Is _])
    ·
     kernel_rfl
    ·
     kernel_rfl
    ·
     kernel_rfl
    ·
     kernel_rfl
    ·
     kernel_rfl
    ·
     kernel_rfl
    ·
     kernel_rfl
    ·
     exact fun h => absurd rfl h
    ·
     intro u
     simp only [List.take_succ_cons, List.take_zero, List.map_cons, List.map_nil, fillU, List.setIfInBounds_toArray, List.set_cons_zero, List.set_cons_succ, Nat.zero_add, Nat.reduceAdd]
     exact rfl
    ·
     simp only [List.take_succ_cons, List.take_zero]
     refine ⟨fun u W hb hd K hK => ?_, ?_⟩
     ·
      clear hd
      go_simp
      apply hK
      ·
       simp only [Act.put, List.setIfInBounds_toArray, List.set_cons_zero, List.set_cons_succ]
       exact rfl
      ·
       exact Below.refl _ _
      ·
       exact IsOut
     refine ⟨fun u W hb hd K hK => ?_, ?_⟩
     ·
      clear hd
      go_simp
      apply hK
      ·
       simp only [Act.put, List.setIfInBounds_toArray, List.set_cons_zero, List.set_cons_succ]
       exact rfl
      ·
       exact Below.refl _ _
      ·
       exact IsOut
     refine ⟨fun u W hb hd K hK => ?_, ?_⟩
     ·
      clear hd
      go_simp
      apply hK
      ·
       simp only [Act.put, List.setIfInBounds_toArray, List.set_cons_zero, List.set_cons_succ]
       exact rfl
      ·
       exact Below.refl _ _
      ·
       exact IsOut
     refine ⟨fun u W hb hd K hK => ?_, ?_⟩
     ·
      simp only [Facts, nthR, Is, and_true] at hd
      simp only [hd] at hK ⊢
      clear hd
      go_simp
      apply hK
      ·
       simp only [Act.put, List.setIfInBounds_toArray, List.set_cons_zero, List.set_cons_succ]
       exact rfl
      ·
       exact Below.refl _ _
      ·
       exact IsOut
     refine ⟨fun u W hb hd K hK => ?_, ?_⟩
     ·
      simp only [Facts, nthR, Is, and_true] at hd
      simp only [hd] at hK ⊢
      clear hd
      go_simp
      apply hK
      ·
       simp only [Act.put, List.setIfInBounds_toArray, List.set_cons_zero, List.set_cons_succ]
       exact rfl
      ·
       exact Below.refl _ _
      ·
       exact IsOut
     refine ⟨fun u W hb hd K hK => ?_, ?_⟩
     ·
      simp only [Facts, nthR, Is, and_true] at hd
      simp only [hd] at hK ⊢
      clear hd
      go_simp
      with_reducible refine (d0 _).mono ?_
      rintro e wy ⟨rfl, hby⟩
      exact hK _ _ _ rfl hby IsOut
     refine ⟨fun u W hb hd K hK => ?_, ?_⟩
     ·
      simp only [Facts, nthR, Is, and_true] at hd
      simp only [hd] at hK ⊢
      clear hd
      go_simp
      apply hK
      ·
       simp only [Act.put, List.setIfInBounds_toArray, List.set_cons_zero, List.set_cons_succ]
       exact rfl
      ·
       exact Below.refl _ _
      ·
       exact IsOut
     refine ⟨fun u W hb hd K hK => ?_, ?_⟩
     ·
      clear hd
      go_simp
      apply hK
      ·
       simp only [Act.put, List.setIfInBounds_toArray, List.set_cons_zero, List.set_cons_succ]
       exact rfl
      ·
       exact Below.refl _ _
      ·
       exact IsOut
     refine ⟨fun u W hb hd K hK => ?_, ?_⟩
     ·
      simp only [Facts, nthR, Is, and_true] at hd
      simp only [hd] at hK ⊢
      clear hd
      go_simp
      apply hK
      ·
       simp only [Act.put, List.setIfInBounds_toArray, List.set_cons_zero, List.set_cons_succ]
       exact rfl
      ·
       exact Below.refl _ _
      ·
       exact IsOut
     refine ⟨fun u W hb hd K hK => ?_, ?_⟩
     ·
      clear hd
      go_simp
      apply hK
      ·
       simp only [Act.put, List.setIfInBounds_toArray, List.set_cons_zero, List.set_cons_succ]
       exact rfl
      ·
       exact Below.refl _ _
      ·
       exact IsOut
     refine ⟨fun u W hb hd K hK => ?_, ?_⟩
     ·
      simp only [Facts, nthR, Is, and_true] at hd
      simp only [hd] at hK ⊢
      clear hd
      go_simp
      apply hK
      ·
       simp only [Act.put, List.setIfInBounds_toArray, List.set_cons_zero, List.set_cons_succ]
       exact rfl
      ·
       exact Below.refl _ _
      ·
       exact IsOut
     refine ⟨fun u W hb hd K hK => ?_, ?_⟩
     ·
      simp only [Facts, nthR, Is, and_true] at hd
      simp only [hd] at hK ⊢
      clear hd
      go_simp
      apply hK
      ·
       simp only [Act.put, List.setIfInBounds_toArray, List.set_cons_zero, List.set_cons_succ]
       exact rfl
      ·
       exact Below.refl _ _
      ·
       exact IsOut
     refine ⟨fun u W hb hd K hK => ?_, ?_⟩
     ·
      simp only [Facts, nthR, Is, and_true] at hd
      simp only [hd] at hK ⊢
      clear hd
      go_simp
      apply hK
      ·
       simp only [Act.put, List.setIfInBounds_toArray, List.set_cons_zero, List.set_cons_succ]
       exact rfl
      ·
       exact Below.refl _ _
      ·
       exact IsOut
     refine ⟨fun u W hb hd K hK => ?_, ?_⟩
     ·
      simp only [Facts, nthR, Is, and_true] at hd
      simp only [hd] at hK ⊢
      clear hd
      go_simp
      apply hK
      ·
       simp only [Act.put, List.setIfInBounds_toArray, List.set_cons_zero, List.set_cons_succ]
       exact rfl
      ·
       exact Below.refl _ _
      ·
       exact IsOut
     refine ⟨fun u W hb hd K hK => ?_, ?_⟩
     ·
      simp only [Facts, nthR, Is, and_true] at hd
      simp only [hd] at hK ⊢
      clear hd
      go_simp
      apply hK
      ·
       simp only [Act.put, List.setIfInBounds_toArray, List.set_cons_zero, List.set_cons_succ]
       exact rfl
      ·
       exact Below.refl _ _
      ·
       exact IsOut
     refine ⟨fun u W hb hd K hK => ?_, ?_⟩
     ·
      clear hd
      go_simp
      apply hK
      ·
       simp only [Act.put, List.setIfInBounds_toArray, List.set_cons_zero, List.set_cons_succ]
       exact rfl
      ·
       exact Below.refl _ _
      ·
       exact IsOut
     refine ⟨fun u W hb hd K hK => ?_, ?_⟩
     ·
      simp only [Facts, nthR, Is, and_true] at hd
      simp only [hd] at hK ⊢
      clear hd
      go_simp
      apply hK
      ·
       simp only [Act.put, List.setIfInBounds_toArray, List.set_cons_zero, List.set_cons_succ]
       exact rfl
      ·
       exact Below.refl _ _
      ·
       exact IsOut
     refine ⟨fun u W hb hd K hK => ?_, ?_⟩
     ·
      simp only [Facts, nthR, Is, and_true] at hd
      simp only [hd] at hK ⊢
      clear hd
      go_simp
      apply hK
      ·
       simp only [Act.put, List.setIfInBounds_toArray, List.set_cons_zero, List.set_cons_succ]
       exact rfl
      ·
       exact Below.refl _ _
      ·
       exact IsOut
     refine ⟨fun u W hb hd K hK => ?_, ?_⟩
     ·
      simp only [Facts, nthR, Is, and_true] at hd
      simp only [hd] at hK ⊢
      clear hd
      go_simp
      apply hK
      ·
       simp only [Act.put, List.setIfInBounds_toArray, List.set_cons_zero, List.set_cons_succ]
       exact rfl
      ·
       exact Below.refl _ _
      ·
       exact IsOut
     refine ⟨fun u W hb hd K hK => ?_, ?_⟩
     ·
      simp only [Facts, nthR, Is, and_true] at hd
      simp only [hd] at hK ⊢
      clear hd
      go_simp
      apply hK
      ·
       simp only [Act.put, List.setIfInBounds_toArray, List.set_cons_zero, List.set_cons_succ]
       exact rfl
      ·
       exact Below.refl _ _
      ·
       exact IsOut
     refine ⟨fun u W hb hd K hK => ?_, ?_⟩
     ·
      simp only [Facts, nthR, Is, and_true] at hd
      simp only [hd] at hK ⊢
      clear hd
      go_simp
      apply hK
      ·
       simp only [Act.put, List.setIfInBounds_toArray, List.set_cons_zero, List.set_cons_succ]
       exact rfl
      ·
       exact Below.refl _ _
      ·
       exact IsOut
     refine ⟨fun u W hb hd K hK => ?_, ?_⟩
     ·
      simp only [Facts, nthR, Is, and_true] at hd
      simp only [hd] at hK ⊢
      clear hd
      go_simp
      apply hK
      ·
       simp only [Act.put, List.setIfInBounds_toArray, List.set_cons_zero, List.set_cons_succ]
       exact rfl
      ·
       exact Below.refl _ _
      ·
       exact IsOut
     exact trivial
    ·
     skip
     exact trivial
    ·
     exact (.is (.is (.is (.is (.is (.is (.is (.is (.is (.is (.is (.is (.is (.is (.is (.is (.is (.is (.is (.is (.is (.is .nil))))))))))))))))))))))
    ·
     intro u W hb hd
     simp only [List.drop_succ_cons, List.drop_zero]
     simp only [Facts, nthR, Is, and_true] at hd
     simp only [hd]
     clear hd
     replace hf := (hb.frozen (p := ⟨w.heap.size + 1 + 1, 1, none⟩) hlB).trans hf
     replace hc0 := (hb.cell (p := ⟨w.heap.size + 1 + 1, 1, none⟩) hlB).trans hc0
     replace hB := hB.below hb hlB
     replace hZ := hZ.below hb hlZ
     replace hR := hR.below hb hlR
     replace hbl := hbl.trans (hb.mono hbl.size)
     clear hb q1 q2 q3 q1' d0
     go_wp2
     refine NoPanic.normal ?_
     go_wp2
     go_roundw
     case rel =>
      refine ⟨2, by omega, by rfl, ?_, hZ.far (show w.heap.size + 1 ≠ w.heap.size + 1 + 1 by omega) _, hR.far (show w.heap.size ≠ w.heap.size + 1 + 1 by omega) _, hbl.setCell (show w.heap.size ≤ w.heap.size + 1 + 1 by omega) _⟩
      rw [show 2 = 1 + 1 from rfl, ← HST.out, ← map_set32]
      exact hB.set_ 1 _
     case measure => simp [intOf]
   ·
    have hix1 := fun W => (show (Instr.index 94 (.agg (s.map U32).toArray) (.int .i64 2)).run Tryd.prog W = .ok (.int .u32 y0.toNat) W from hix W)
    simp only [Nat.reduceAdd, Nat.reduceMod] at q1 q2 q3 q1'
    have m2 : (IntKind.i64.wrap (4 : Int)).tmod 4 = 0 := by decide +kernel
    have m3 : (IntKind.i64.wrap (5 : Int)).tmod 4 = 1 := by decide +kernel
    clear hix
    go_wp2
    refine wp_region_noPanic ?_
    apply wp_region_once_tail (m := 22) (Z := []) (D := [[], [], [], [1, 2], [1, 2, 3], [1, 2, 3, 4], [1, 2, 3, 4, 5], [], [1, 2, 3, 4, 5, 6, 7], [], [9], [9, 10], [9, 10, 11], [9, 10, 11, 12], [1, 2, 3, 4, 5, 6, 7, 8, 9, 10, 11, 12, 13], [], [15], [15, 16], [15, 16, 17], [15, 16, 17, 18], [1, 2, 3, 4, 5, 6, 7, 8, 9, 10, 11, 12, 13, 14, 15, 16, 17, 18, 19], [0, 1, 2, 3, 4, 5, 6, 7, 8, 9, 10, 11, 12, 13, 14, 15, 16, 17, 18, 19, 20], [0, 1, 2, 3, 4, 5, 6, 7, 8, 9, 10, 11, 12, 13, 14, 15, 16, 17, 18, 19, 20, 21]]) (J := [[], [], [], [1, 2], [3], [4], [5], [], [6, 7], [], [9], [10], [11], [12], [8, 13], [], [15], [16], [17], [18], [14, 19], [0]]) (Je := [20, 21]) (Rs := [Is _, Is _, Is _, Is _, Is _, Is _, Is _, Is _, Is _, Is _, Is _, Is _, Is _, Is _, Is _, Is _, Is _, Is _, Is _, Is _, Is _, Is _])
    ·
     kernel_rfl
    ·
     kernel_rfl
    ·
     kernel_rfl
    ·
     kernel_rfl
    ·
     kernel_rfl
    ·
     kernel_rfl
    ·
     kernel_rfl
    ·
     exact fun h => absurd rfl h
    ·
     intro u
     simp only [List.take_succ_cons, List.take_zero, List.map_cons, List.map_nil, fillU, List.setIfInBounds_toArray, List.set_cons_zero, List.set_cons_succ, Nat.zero_add, Nat.reduceAdd]
     exact rfl
    ·
     simp only [List.take_succ_cons, List.take_zero]
     refine ⟨fun u W hb hd K hK => ?_, ?_⟩
     ·
      clear hd
      go_simp
      apply hK
      ·
       simp only [Act.put, List.setIfInBounds_toArray, List.set_cons_zero, List.set_cons_succ]
       exact rfl
      ·
       exact Below.refl _ _
      ·
       exact IsOut
     refine ⟨fun u W hb hd K hK => ?_, ?_⟩
     ·
      clear hd
      go_simp
      apply hK
      ·
       simp only [Act.put, List.setIfInBounds_toArray, List.set_cons_zero, List.set_cons_succ]
       exact rfl
      ·
       exact Below.refl _ _
      ·
       exact IsOut
     refine ⟨fun u W hb hd K hK => ?_, ?_⟩
     ·
      clear hd
      go_simp
      apply hK
      ·
       simp only [Act.put, List.setIfInBounds_toArray, List.set_cons_zero, List.set_cons_succ]
       exact rfl
      ·
       exact Below.refl _ _
      ·
       exact IsOut
     refine ⟨fun u W hb hd K hK => ?_, ?_⟩
     ·
      simp only [Facts, nthR, Is, and_true] at hd
      simp only [hd] at hK ⊢
      clear hd
      go_simp
      apply hK
      ·
       simp only [Act.put, List.setIfInBounds_toArray, List.set_cons_zero, List.set_cons_succ]
       exact rfl
      ·
       exact Below.refl _ _
      ·
       exact IsOut
     refine ⟨fun u W hb hd K hK => ?_, ?_⟩
     ·
      simp only [Facts, nthR, Is, and_true] at hd
      simp only [hd] at hK ⊢
      clear hd
      go_simp
      apply hK
      ·
       simp only [Act.put, List.setIfInBounds_toArray, List.set_cons_zero, List.set_cons_succ]
       exact rfl
      ·
       exact Below.refl _ _
      ·
       exact IsOut
     refine ⟨fun u W hb hd K hK => ?_, ?_⟩
     ·
      simp only [Facts, nthR, Is, and_true] at hd
      simp only [hd] at hK ⊢
      clear hd
      go_simp
      with_reducible refine (d0 _).mono ?_
      rintro e wy ⟨rfl, hby⟩
      exact hK _ _ _ rfl hby IsOut
     refine ⟨fun u W hb hd K hK => ?_, ?_⟩
     ·
      simp only [Facts, nthR, Is, and_true] at hd
      simp only [hd] at hK ⊢
      clear hd
      go_simp
      apply hK
      ·
       simp only [Act.put, List.setIfInBounds_toArray, List.set_cons_zero, List.set_cons_succ]
       exact rfl
      ·
       exact Below.refl _ _
      ·
       exact IsOut
     refine ⟨fun u W hb hd K hK => ?_, ?_⟩
     ·
      clear hd
      go_simp
      apply hK
      ·
       simp only [Act.put, List.setIfInBounds_toArray, List.set_cons_zero, List.set_cons_succ]
       exact rfl
      ·
       exact Below.refl _ _
      ·
       exact IsOut
     refine ⟨fun u W hb hd K hK => ?_, ?_⟩
     ·
      simp only [Facts, nthR, Is, and_true] at hd
      simp only [hd] at hK ⊢
      clear hd
      go_simp
      apply hK
      ·
       simp only [Act.put, List.setIfInBounds_toArray, List.set_cons_zero, List.set_cons_succ]
       exact rfl
      ·
       exact Below.refl _ _
      ·
       exact IsOut
     refine ⟨fun u W hb hd K hK => ?_, ?_⟩
     ·
      clear hd
      go_simp
      apply hK
      ·
       simp only [Act.put, List.setIfInBounds_toArray, List.set_cons_zero, List.set_cons_succ]
       exact rfl
      ·
       exact Below.refl _ _
      ·
       exact IsOut
     refine ⟨fun u W hb hd K hK => ?_, ?_⟩
     ·
      simp only [Facts, nthR, Is, and_true] at hd
      simp only [hd] at hK ⊢
      clear hd
      go_simp
      apply hK
      ·
       simp only [Act.put, List.setIfInBounds_toArray, List.set_cons_zero, List.set_cons_succ]
       exact rfl
      ·
       exact Below.refl _ _
      ·
       exact IsOut
     refine ⟨fun u W hb hd K hK => ?_, ?_⟩
     ·
      simp only [Facts, nthR, Is, and_true] at hd
      simp only [hd] at hK ⊢
      clear hd
      go_simp
      apply hK
      ·
       simp only [Act.put, List.setIfInBounds_toArray, List.set_cons_zero, List.set_cons_succ]
       exact rfl
      ·
       exact Below.refl _ _
      ·
       exact IsOut
     refine ⟨fun u W hb hd K hK => ?_, ?_⟩
     ·
      simp only [Facts, nthR, Is, and_true] at hd
      simp only [hd] at hK ⊢
      clear hd
      go_simp
      apply hK
      ·
       simp only [Act.put, List.setIfInBounds_toArray, List.set_cons_zero, List.set_cons_succ]
       exact rfl
      ·
       exact Below.refl _ _
      ·
       exact IsOut
     refine ⟨fun u W hb hd K hK => ?_, ?_⟩
     ·
      simp only [Facts, nthR, Is, and_true] at hd
      simp only [hd] at hK ⊢
      clear hd
      go_simp
      apply hK
      ·
       simp only [Act.put, List.setIfInBounds_toArray, List.set_cons_zero, List.set_cons_succ]
       exact rfl
      ·
       exact Below.refl _ _
      ·
       exact IsOut
     refine ⟨fun u W hb hd K hK => ?_, ?_⟩
     ·
      simp only [Facts, nthR, Is, and_true] at hd
      simp only [hd] at hK ⊢
      clear hd
      go_simp
      apply hK
      ·
       simp only [Act.put, List.setIfInBounds_toArray, List.set_cons_zero, List.set_cons_succ]
       exact rfl
      ·
       exact Below.refl _ _
      ·
       exact IsOut
     refine ⟨fun u W hb hd K hK => ?_, ?_⟩
     ·
      clear hd
      go_simp
      apply hK
      ·
       simp only [Act.put, List.setIfInBounds_toArray, List.set_cons_zero, List.set_cons_succ]
       exact rfl
      ·
       exact Below.refl _ _
      ·
       exact IsOut
     refine ⟨fun u W hb hd K hK => ?_, ?_⟩
     ·
      simp only [Facts, nthR, Is, and_true] at hd
      simp only [hd] at hK ⊢
      clear hd
      go_simp
      apply hK
      ·
       simp only [Act.put, List.setIfInBounds_toArray, List.set_cons_zero, List.set_cons_succ]
       exact rfl
      ·
       exact Below.refl _ _
      ·
       exact IsOut
     refine ⟨fun u W hb hd K hK => ?_, ?_⟩
     ·
      simp only [Facts, nthR, Is, and_true] at hd
      simp only [hd] at hK ⊢
      clear hd
      go_simp
      apply hK
      ·
       simp only [Act.put, List.setIfInBounds_toArray, List.set_cons_zero, List.set_cons_succ]
       exact rfl
      ·
       exact Below.refl _ _
      ·
       exact IsOut
     refine ⟨fun u W hb hd K hK => ?_, ?_⟩
     ·
      simp only [Facts, nthR, Is, and_true] at hd
      simp only [hd] at hK ⊢
      clear hd
      go_simp
      apply hK
      ·
       simp only [Act.put, List.setIfInBounds_toArray, List.set_cons_zero, List.set_cons_succ]
       exact rfl
      ·
       exact Below.refl _ _
      ·
       exact IsOut
     refine ⟨fun u W hb hd K hK => ?_, ?_⟩
     ·
      simp only [Facts, nthR, Is, and_true] at hd
      simp only [hd] at hK ⊢
      clear hd
      go_simp
      apply hK
      ·
       simp only [Act.put, List.setIfInBounds_toArray, List.set_cons_zero, List.set_cons_succ]
       exact rfl
      ·
       exact Below.refl _ _
      ·
       exact IsOut
     refine ⟨fun u W hb hd K hK => ?_, ?_⟩
     ·
      simp only [Facts, nthR, Is, and_true] at hd
      simp only [hd] at hK ⊢
      clear hd
      go_simp
      apply hK
      ·
       simp only [Act.put, List.setIfInBounds_toArray, List.set_cons_zero, List.set_cons_succ]
       exact rfl
      ·
       exact Below.refl _ _
      ·
       exact IsOut
     refine ⟨fun u W hb hd K hK => ?_, ?_⟩
     ·
      simp only [Facts, nthR, Is, and_true] at hd
      simp only [hd] at hK ⊢
      clear hd
      go_simp
      apply hK
      ·
       simp only [Act.put, List.setIfInBounds_toArray, List.set_cons_zero, List.set_cons_succ]
       exact rfl
      ·
       exact Below.refl _ _
      ·
       exact IsOut
     exact trivial
    ·
     skip
     exact trivial
    ·
     exact (.is (.is (.is (.is (.is (.is (.is (.is (.is (.is (.is (.is (.is (.is (.is (.is (.is (.is (.is (.is (.is (.is .nil))))))))))))))))))))))
    ·
     intro u W hb hd
     simp only [List.drop_succ_cons, List.drop_zero]
     simp only [Facts, nthR, Is, and_true] at hd
     simp only [hd]
     clear hd
     replace hf := (hb.frozen (p := ⟨w.heap.size + 1 + 1, 2, none⟩) hlB).trans hf
     replace hc0 := (hb.cell (p := ⟨w.heap.size + 1 + 1, 2, none⟩) hlB).trans hc0
     replace hB := hB.below hb hlB
     replace hZ := hZ.below hb hlZ
     replace hR := hR.below hb hlR
     replace hbl := hbl.trans (hb.mono hbl.size)
     clear hb q1 q2 q3 q1' d0
     go_wp2
     refine NoPanic.normal ?_
     go_wp2
     go_roundw
     case rel =>
      refine ⟨3, by omega, by rfl, ?_, hZ.far (show w.heap.size + 1 ≠ w.heap.size + 1 + 1 by omega) _, hR.far (show w.heap.size ≠ w.heap.size + 1 + 1 by omega) _, hbl.setCell (show w.heap.size ≤ w.heap.size + 1 + 1 by omega) _⟩
      rw [show 3 = 2 + 1 from rfl, ← HST.out, ← map_set32]
      exact hB.set_ 2 _
     case measure => simp [intOf]
   ·
    have hix1 := fun W => (show (Instr.index 94 (.agg (s.map U32).toArray) (.int .i64 3)).run Tryd.prog W = .ok (.int .u32 y0.toNat) W from hix W)
    simp only [Nat.reduceAdd, Nat.reduceMod] at q1 q2 q3 q1'
    have m2 : (IntKind.i64.wrap (5 : Int)).tmod 4 = 1 := by decide +kernel
    have m3 : (IntKind.i64.wrap (6 : Int)).tmod 4 = 2 := by decide +kernel
    clear hix
    go_wp2
    refine wp_region_noPanic ?_
    apply wp_region_once_tail (m := 22) (Z := []) (D := [[], [], [], [1, 2], [1, 2, 3], [1, 2, 3, 4], [1, 2, 3, 4, 5], [], [1, 2, 3, 4, 5, 6, 7], [], [9], [9, 10], [9, 10, 11], [9, 10, 11, 12], [1, 2, 3, 4, 5, 6, 7, 8, 9, 10, 11, 12, 13], [], [15], [15, 16], [15, 16, 17], [15, 16, 17, 18], [1, 2, 3, 4, 5, 6, 7, 8, 9, 10, 11, 12, 13, 14, 15, 16, 17, 18, 19], [0, 1, 2, 3, 4, 5, 6, 7, 8, 9, 10, 11, 12, 13, 14, 15, 16, 17, 18, 19, 20], [0, 1, 2, 3, 4, 5, 6, 7, 8, 9, 10, 11, 12, 13, 14, 15, 16, 17, 18, 19, 20, 21]]) (J := [[], [], [], [1, 2], [3], [4], [5], [], [6, 7], [], [9], [10], [11], [12], [8, 13], [], [15], [16], [17], [18], [14, 19], [0]]) (Je := [20, 21]) (Rs := [Is _, Is _, Is _, Is _, Is _, Is _, Is _, Is _, Is _, Is _, Is _, Is _, Is _, Is _, Is _, Is _, Is _, Is _, Is _, Is _, Is _, Is _])
    ·
     kernel_rfl
    ·
     kernel_rfl
    ·
     kernel_rfl
    ·
     kernel_rfl
    ·
     kernel_rfl
    ·
     kernel_rfl
    ·
     kernel_rfl
    ·
     exact fun h => absurd rfl h
    ·
     intro u
     simp only [List.take_succ_cons, List.take_zero, List.map_cons, List.map_nil, fillU, List.setIfInBounds_toArray, List.set_cons_zero, List.set_cons_succ, Nat.zero_add, Nat.reduceAdd]
     exact rfl
    ·
     simp only [List.take_succ_cons, List.take_zero]
     refine ⟨fun u W hb hd K hK => ?_, ?_⟩
     ·
      clear hd
      go_simp
      apply hK
      ·
       simp only [Act.put, List.setIfInBounds_toArray, List.set_cons_zero, List.set_cons_succ]
       exact rfl
      ·
       exact Below.refl _ _
      ·
       exact IsOut
     refine ⟨fun u W hb hd K hK => ?_, ?_⟩
     ·
      clear hd
      go_simp
      apply hK
      ·
       simp only [Act.put, List.setIfInBounds_toArray, List.set_cons_zero, List.set_cons_succ]
       exact rfl
      ·
       exact Below.refl _ _
      ·
       exact IsOut
     refine ⟨fun u W hb hd K hK => ?_, ?_⟩
     ·
      clear hd
      go_simp
      apply hK
      ·
       simp only [Act.put, List.setIfInBounds_toArray, List.set_cons_zero, List.set_cons_succ]
       exact rfl
      ·
       exact Below.refl _ _
      ·
       exact IsOut
     refine ⟨fun u W hb hd K hK => ?_, ?_⟩
     ·
      simp only [Facts, nthR, Is, and_true] at hd
      simp only [hd] at hK ⊢
      clear hd
      go_simp
      apply hK
      ·
       simp only [Act.put, List.setIfInBounds_toArray, List.set_cons_zero, List.set_cons_succ]
       exact rfl
      ·
       exact Below.refl _ _
      ·
       exact IsOut
     refine ⟨fun u W hb hd K hK => ?_, ?_⟩
     ·
      simp only [Facts, nthR, Is, and_true] at hd
      simp only [hd] at hK ⊢
      clear hd
      go_simp
      apply hK
      ·
       simp only [Act.put, List.setIfInBounds_toArray, List.set_cons_zero, List.set_cons_succ]
       exact rfl
      ·
       exact Below.refl _ _
      ·
       exact IsOut
     refine ⟨fun u W hb hd K hK => ?_, ?_⟩
     ·
      simp only [Facts, nthR, Is, and_true] at hd
      simp only [hd] at hK ⊢
      clear hd
      go_simp
      with_reducible refine (d0 _).mono ?_
      rintro e wy ⟨rfl, hby⟩
      exact hK _ _ _ rfl hby IsOut
     refine ⟨fun u W hb hd K hK => ?_, ?_⟩
     ·
      simp only [Facts, nthR, Is, and_true] at hd
      simp only [hd] at hK ⊢
      clear hd
      go_simp
      apply hK
      ·
       simp only [Act.put, List.setIfInBounds_toArray, List.set_cons_zero, List.set_cons_succ]
       exact rfl
      ·
       exact Below.refl _ _
      ·
       exact IsOut
     refine ⟨fun u W hb hd K hK => ?_, ?_⟩
     ·
      clear hd
      go_simp
      apply hK
      ·
       simp only [Act.put, List.setIfInBounds_toArray, List.set_cons_zero, List.set_cons_succ]
       exact rfl
      ·
       exact Below.refl _ _
      ·
       exact IsOut
     refine ⟨fun u W hb hd K hK => ?_, ?_⟩
     ·
      simp only [Facts, nthR, Is, and_true] at hd
      simp only [hd] at hK ⊢
      clear hd
      go_simp
      apply hK
      ·
       simp only [Act.put, List.setIfInBounds_toArray, List.set_cons_zero, List.set_cons_succ]
       exact rfl
      ·
       exact Below.refl _ _
      ·
       exact IsOut
     refine ⟨fun u W hb hd K hK => ?_, ?_⟩
     ·
      clear hd
      go_simp
      apply hK
      ·
       simp only [Act.put, List.setIfInBounds_toArray, List.set_cons_zero, List.set_cons_succ]
       exact rfl
      ·
       exact Below.refl _ _
      ·
       exact IsOut
     refine ⟨fun u W hb hd K hK => ?_, ?_⟩
     ·
      simp only [Facts, nthR, Is, and_true] at hd
      simp only [hd] at hK ⊢
      clear hd
      go_simp
      apply hK
      ·
       simp only [Act.put, List.setIfInBounds_toArray, List.set_cons_zero, List.set_cons_succ]
       exact rfl
      ·
       exact Below.refl _ _
      ·
       exact IsOut
     refine ⟨fun u W hb hd K hK => ?_, ?_⟩
     ·
      simp only [Facts, nthR, Is, and_true] at hd
      simp only [hd] at hK ⊢
      clear hd
      go_simp
      apply hK
      ·
       simp only [Act.put, List.setIfInBounds_toArray, List.set_cons_zero, List.set_cons_succ]
       exact rfl
      ·
       exact Below.refl _ _
      ·
       exact IsOut
     refine ⟨fun u W hb hd K hK => ?_, ?_⟩
     ·
      simp only [Facts, nthR, Is, and_true] at hd
      simp only [hd] at hK ⊢
      clear hd
      go_simp
      apply hK
      ·
       simp only [Act.put, List.setIfInBounds_toArray, List.set_cons_zero, List.set_cons_succ]
       exact rfl
      ·
       exact Below.refl _ _
      ·
       exact IsOut
     refine ⟨fun u W hb hd K hK => ?_, ?_⟩
     ·
      simp only [Facts, nthR, Is, and_true] at hd
      simp only [hd] at hK ⊢
      clear hd
      go_simp
      apply hK
      ·
       simp only [Act.put, List.setIfInBounds_toArray, List.set_cons_zero, List.set_cons_succ]
       exact rfl
      ·
       exact Below.refl _ _
      ·
       exact IsOut
     refine ⟨fun u W hb hd K hK => ?_, ?_⟩
     ·
      simp only [Facts, nthR, Is, and_true] at hd
      simp only [hd] at hK ⊢
      clear hd
      go_simp
      apply hK
      ·
       simp only [Act.put, List.setIfInBounds_toArray, List.set_cons_zero, List.set_cons_succ]
       exact rfl
      ·
       exact Below.refl _ _
      ·
       exact IsOut
     refine ⟨fun u W hb hd K hK => ?_, ?_⟩
     ·
      clear hd
      go_simp
      apply hK
      ·
       simp only [Act.put, List.setIfInBounds_toArray, List.set_cons_zero, List.set_cons_succ]
       exact rfl
      ·
       exact Below.refl _ _
      ·
       exact IsOut
     refine ⟨fun u W hb hd K hK => ?_, ?_⟩
     ·
      simp only [Facts, nthR, Is, and_true] at hd
      simp only [hd] at hK ⊢
      clear hd
      go_simp
      apply hK
      ·
       simp only [Act.put, List.setIfInBounds_toArray, List.set_cons_zero, List.set_cons_succ]
       exact rfl
      ·
       exact Below.refl _ _
      ·
       exact IsOut
     refine ⟨fun u W hb hd K hK => ?_, ?_⟩
     ·
      simp only [Facts, nthR, Is, and_true] at hd
      simp only [hd] at hK ⊢
      clear hd
      go_simp
      apply hK
      ·
       simp only [Act.put, List.setIfInBounds_toArray, List.set_cons_zero, List.set_cons_succ]
       exact rfl
      ·
       exact Below.refl _ _
      ·
       exact IsOut
     refine ⟨fun u W hb hd K hK => ?_, ?_⟩
     ·
      simp only [Facts, nthR, Is, and_true] at hd
      simp only [hd] at hK ⊢
      clear hd
      go_simp
      apply hK
      ·
       simp only [Act.put, List.setIfInBounds_toArray, List.set_cons_zero, List.set_cons_succ]
       exact rfl
      ·
       exact Below.refl _ _
      ·
       exact IsOut
     refine ⟨fun u W hb hd K hK => ?_, ?_⟩
     ·
      simp only [Facts, nthR, Is, and_true] at hd
      simp only [hd] at hK ⊢
      clear hd
      go_simp
      apply hK
      ·
       simp only [Act.put, List.setIfInBounds_toArray, List.set_cons_zero, List.set_cons_succ]
       exact rfl
      ·
       exact Below.refl _ _
      ·
       exact IsOut
     refine ⟨fun u W hb hd K hK => ?_, ?_⟩
     ·
      simp only [Facts, nthR, Is, and_true] at hd
      simp only [hd] at hK ⊢
      clear hd
      go_simp
      apply hK
      ·
       simp only [Act.put, List.setIfInBounds_toArray, List.set_cons_zero, List.set_cons_succ]
       exact rfl
      ·
       exact Below.refl _ _
      ·
       exact IsOut
     refine ⟨fun u W hb hd K hK => ?_, ?_⟩
     ·
      simp only [Facts, nthR, Is, and_true] at hd
      simp only [hd] at hK ⊢
      clear hd
      go_simp
      apply hK
      ·
       simp only [Act.put, List.setIfInBounds_toArray, List.set_cons_zero, List.set_cons_succ]
       exact rfl
      ·
       exact Below.refl _ _
      ·
       exact IsOut
     exact trivial
    ·
     skip
     exact trivial
    ·
     exact (.is (.is (.is (.is (.is (.is (.is (.is (.is (.is (.is (.is (.is (.is (.is (.is (.is (.is (.is (.is (.is (.is .nil))))))))))))))))))))))
    ·
     intro u W hb hd
     simp only [List.drop_succ_cons, List.drop_zero]
     simp only [Facts, nthR, Is, and_true] at hd
     simp only [hd]
     clear hd
     replace hf := (hb.frozen (p := ⟨w.heap.size + 1 + 1, 3, none⟩) hlB).trans hf
     replace hc0 := (hb.cell (p := ⟨w.heap.size + 1 + 1, 3, none⟩) hlB).trans hc0
     replace hB := hB.below hb hlB
     replace hZ := hZ.below hb hlZ
     replace hR := hR.below hb hlR
     replace hbl := hbl.trans (hb.mono hbl.size)
     clear hb q1 q2 q3 q1' d0
     go_wp2
     refine NoPanic.normal ?_
     go_wp2
     go_roundw
     case rel =>
      refine ⟨4, by omega, by rfl, ?_, hZ.far (show w.heap.size + 1 ≠ w.heap.size + 1 + 1 by omega) _, hR.far (show w.heap.size ≠ w.heap.size + 1 + 1 by omega) _, hbl.setCell (show w.heap.size ≤ w.heap.size + 1 + 1 by omega) _⟩
      rw [show 4 = 3 + 1 from rfl, ← HST.out, ← map_set32]
      exact hB.set_ 3 _
     case measure => simp [intOf]
  ·
   have hd : decide ((k : Int) < 4) = false := by simp; omega
   obtain rfl : k = 4 := by omega
   rw [List.take_of_length_le (by rw [HXL.out]; omega), List.drop_eq_nil_of_le (show zero4.length ≤ 4 by decide), List.append_nil] at hB
   go_wp2_with (first
    | (refine wpList_load_blk rfl 94 (.tmp 3) rfl (w.heap.size + 1 + 1) rfl 94 _ _ hB Tryd.underlying94 rfl (infoStB.trans (by rw [List.length_map, HXL.out])) ?_)
    | (refine wpList_store_blk rfl 94 (.tmp 2) (.tmp 40) rfl rfl (w.heap.size + 1) _ rfl rfl 94 _ hZ (infoStB.trans (by rw [List.length_map, HXL.out])) (by rw [List.length_map, List.length_map, HXL.out]; rfl) (one32 _) ?_; intro w2 hA2 hg2))
   refine bodyPost_ret (v := .agg _) (results_cell_row rfl _ _ (w.heap.size + 1) 94 _ (0, 0) _ rfl hA2.raw Tryd.underlying94 rfl (infoStB.trans (by rw [List.size_toArray, List.length_map, HXL.out]))) rfl ⟨rfl, below_new hbl hg2 (by omega) hbl.size⟩
end
section
open Go.RowKit
def eachS (f : BitVec 64 → BitVec 64) (s : List UInt32) : List UInt32 :=
 [hi32 (f (cat32 (s.getD 0 0) (s.getD 1 0))), lo32 (f (cat32 (s.getD 0 0) (s.getD 1 0))), hi32 (f (cat32 (s.getD 2 0) (s.getD 3 0))), lo32 (f (cat32 (s.getD 2 0) (s.getD 3 0)))]
theorem eachS_length (f : BitVec 64 → BitVec 64) (s : List UInt32) : (eachS f s).length = 4 := rfl
theorem q_hi (x : UInt32) : IntKind.u64.wrap ((x.toNat : Int) * (4294967296 : Int)) = ((wide x <<< 32).toNat : Int) := by
 have := q_shl (wide x) 32
 rw [wide_nat] at this
 exact this
theorem q_cat (x y : UInt32) : bits .or .u64 ((wide x <<< 32).toNat : Int) (y.toNat : Int) = ((cat32 x y).toNat : Int) := by
 have := q_or (wide x <<< 32) (wide y)
 rw [wide_nat] at this
 exact this
theorem q_top (v : BitVec 64) : (v.toNat : Int) / (4294967296 : Int) = ((v >>> 32).toNat : Int) := q_shr v 32
theorem w_hi (v : BitVec 64) : IntKind.u32.wrap ((v >>> 32).toNat : Int) = ((hi32 v).toNat : Int) := w_lo (v >>> 32)
set_option maxRecDepth 100000 in
set_option maxHeartbeats 1000000 in
theorem each_sub64 (s : List UInt32) (hs : s.length = 4) (w : World) :
  Calls Tryd.prog 50 #[SV s, .func (.func 51) #[] #[]] w fun e w' => e = .returned (SV (eachS sub64 s)) ∧ Below w.heap.size w w' := by
 have hz : ∀ W : World, (zeroValue 94).run Tryd.prog W = .ok (SV zero4) W := fun W => by kernel_rfl
 have hE : eachS sub64 s = [hi32 (sub64 (cat32 (s.getD 0 0) (s.getD 1 0))), lo32 (sub64 (cat32 (s.getD 0 0) (s.getD 1 0))), hi32 (sub64 (cat32 (s.getD 2 0) (s.getD 3 0))), lo32 (sub64 (cat32 (s.getD 2 0) (s.getD 3 0)))] := rfl
 have hB0 : Blk ((w.alloc (.cells (s.map U32).toArray 94)).alloc (.cells (zero4.map U32).toArray 94)) w.heap.size 94 (s.map U32) := (Blk.new_of w 94 _ (s.map U32) rfl).alloc _
 have hZ0 := Blk.new2_of w (.cells (s.map U32).toArray 94) 94 (zero4.map U32).toArray (zero4.map U32) rfl
 have hb0 := ((Below.refl w.heap.size w).alloc (Nat.le_refl _) (.cells (s.map U32).toArray 94)).alloc (by simp) (.cells (zero4.map U32).toArray 94)
 have k0 := hB0.at32 0 (by omega)
 have k1 := hB0.at32 1 (by omega)
 have e0 := wrap64_u32 (s.getD 0 0)
 have e1 := wrap64_u32 (s.getD 1 0)
 have e2 := wrap64_u32 (s.getD 2 0)
 have e3 := wrap64_u32 (s.getD 3 0)
 have f0 := q_hi (s.getD 0 0)
 have f2 := q_hi (s.getD 2 0)
 have g0 := q_cat (s.getD 0 0) (s.getD 1 0)
 have g2 := q_cat (s.getD 2 0) (s.getD 3 0)
 have p0 := fun W => substituted_any (cat32 (s.getD 0 0) (s.getD 1 0)) W
 have p2 := fun W => substituted_any (cat32 (s.getD 2 0) (s.getD 3 0)) W
 generalize cat32 (s.getD 0 0) (s.getD 1 0) = c0 at *
 generalize cat32 (s.getD 2 0) (s.getD 3 0) = c2 at *
 obtain ⟨v0, hv0⟩ : ∃ v, v = sub64 c0 := ⟨_, rfl⟩
 obtain ⟨v2, hv2⟩ : ∃ v, v = sub64 c2 := ⟨_, rfl⟩
 rw [← hv0] at p0 hE
 rw [← hv2] at p2 hE
 have t0 := q_top v0
 have t2 := q_top v2
 have h0 := w_hi v0
 have h2 := w_hi v2
 have l0 := w_lo v0
 have l2 := w_lo v2
 have HE := Lib.hid hE
 have HK := Lib.hid (fun (W : World) (h : Blk W w.heap.size 94 (s.map U32)) => (show W.cell? ⟨w.heap.size, 2, none⟩ = some (.int .u32 (s.getD 2 0).toNat) ∧ W.cell? ⟨w.heap.size, 3, none⟩ = some (.int .u32 (s.getD 3 0).toNat) from ⟨h.at32 2 (by omega), h.at32 3 (by omega)⟩))
 have HP0 := Lib.hid p0
 have HP2 := Lib.hid p2
 clear hE hv0 hv2 p0 p2 hs
 generalize s.getD 0 0 = s0 at *
 generalize s.getD 1 0 = s1 at *
 generalize s.getD 2 0 = s2 at *
 generalize s.getD 3 0 = s3 at *
 generalize wide s0 <<< 32 = d0 at *
 generalize wide s2 <<< 32 = d2 at *
 generalize v0 >>> 32 = x0 at *
 generalize v2 >>> 32 = x2 at *
 generalize hi32 v0 = y0 at *
 generalize lo32 v0 = y1 at *
 generalize hi32 v2 = y2 at *
 generalize lo32 v2 = y3 at *
 go_enter Tryd.func50, Tryd.ntmps50
 go_wp2_with (first
  | (go_at_call 51; with_reducible refine (HP0.out _).mono ?_; rintro e w1 ⟨rfl, kk, hw1⟩; have hb1 : Below w.heap.size w w1 := (by subst hw1; exact below_drewN hb0 kk); have hB1 : Blk w1 w.heap.size 94 (s.map U32) := (by subst hw1; exact hB0.drewN kk); have hZ1 : Blk w1 (w.heap.size + 1) 94 (zero4.map U32) := (by subst hw1; exact hZ0.drewN kk); have k23 := HK.out _ hB1; clear hw1)
  | (go_at_call 51; with_reducible refine (HP2.out _).mono ?_; rintro e w2 ⟨rfl, kk2, hw2⟩; have hb2 : Below w.heap.size w w2 := (by subst hw2; exact below_drewN hb1 kk2); have hZ2 : Blk w2 (w.heap.size + 1) 94 (zero4.map U32) := (by subst hw2; exact hZ1.drewN kk2); clear hw2)
  | ((with_reducible refine (?_ : wpList _ _ _ (Oper.mk none _ _ _ _ _ :: _) _ _)); go_loud (refine wpList_store_blk rfl 94 (.tmp 4) (.tmp 37) rfl rfl (w.heap.size + 1) [U32 y0, U32 y1, U32 y2, U32 y3] rfl rfl 94 _ hZ2 infoStB rfl (one32 [y0, y1, y2, y3]) ?_); intro w3 hA3 hg3))
 refine bodyPost_ret (v := .agg _) (results_cell_row rfl _ _ (w.heap.size + 1) 94 _ (0, 0) _ rfl hA3.raw Tryd.underlying94 rfl infoStB) rfl ⟨by rw [HE.out]; rfl, below_new hb2 hg3 (by omega) hb2.size⟩
end
section
open Go.RowKit
def subw (x : UInt32) : UInt32 := lo32 (sub64 (wide x))
set_option maxRecDepth 100000 in
set_option maxHeartbeats 1000000 in
theorem subw_any (x : UInt32) (w : World) : Calls Tryd.prog 73 #[.int .u32 (x.toNat : Int)] w fun e w' => e = .returned (.int .u32 ((subw x).toNat : Int)) ∧ Below w.heap.size w w' := by
 have h := fun W => substituted_any (wide x) W
 simp only [wide_nat] at h
 have e0 := wrap64_u32 x
 have e1 := w_lo (sub64 (wide x))
 have HD : Hid (subw x = lo32 (sub64 (wide x))) := Lib.hid rfl
 generalize sub64 (wide x) = v at *
 generalize lo32 v = y at *
 go_enter Tryd.func73, Tryd.ntmps73
 go_wp2_with (go_at_call 51; with_reducible refine (h _).mono ?_; rintro e w1 ⟨rfl, kk, hw1⟩; subst hw1)
 go_ret
 exact ⟨by rw [HD.out]; rfl, below_drewN (Below.refl _ _) _⟩
theorem infoW : (Tryd.prog.info? 92).map (fun i => (i.zero, i.size, i.bytes)) = some (some (.int .u32 0), 1, 4) := by kernel_rfl
theorem madeCells_words (c : Nat) : madeCells #[.int .u32 0] c = ((List.replicate c (0 : UInt32)).map U32).toArray := by
 apply Array.toList_inj.1
 rw [toList_madeCells_one (.int .u32 0) c, List.map_replicate]; rfl
theorem run_make_words (n : Nat) (hn : n ≤ 1000) (w : World) :
  (Instr.makeSlice 86 (.int .i64 (n : Int)) (.int .i64 (n : Int))).run Tryd.prog w = .ok (.slice (some ⟨w.heap.size, 0, none⟩) n n) (w.alloc (.cells ((List.replicate n (0 : UInt32)).map U32).toArray 92)) := by
 obtain ⟨i, hi, hz, hs, hb⟩ := info_parts infoW
 have h := run_make (P := Tryd.prog) w 86 92 i (.int .u32 0) Tryd.underlying86 hi hz .i64 .i64 n n (by omega) (by omega) (by rw [hb]; omega) (by omega)
 rw [h, hs]
 simp only [Int.toNat_natCast, Nat.mul_one]
 rw [show Value.cells (.int .u32 0) = #[.int .u32 0] from rfl, madeCells_words]
/-- Bytes that came in, below block B. -/
def InK (w : World) (B : Nat) (A : Option Addr) (c : Nat) (xs : List UInt8) : Prop := xs.length ≤ c ∧ c ≤ 9223372036854775807 ∧ (0 < xs.length → ∃ gb ob, A = some ⟨gb, ob, none⟩ ∧ gb < B ∧ Bytes w gb ob xs)
theorem InK.below {w w' : World} {B : Nat} {A : Option Addr} {c : Nat} {xs : List UInt8} (h : InK w B A c xs) (hb : Below B w w') : InK w' B A c xs :=
 ⟨h.1, h.2.1, fun h0 => by
  obtain ⟨gb, ob, e, hl, hby⟩ := h.2.2 h0
  exact ⟨gb, ob, e, hl, hby.below hb hl⟩⟩

/-- The words that a key's bytes begin, after k of them. -/
def w1To (n : Nat) (key : List UInt8) : Nat → List UInt32
 | 0 => List.replicate (4 * (n + 7)) 0
 | k + 1 => (w1To n key k).set (k / 4) (((w1To n key k).getD (k / 4) 0 <<< 8) ||| (key.getD k 0).toUInt32)
theorem w1To_length (n : Nat) (key : List UInt8) (k : Nat) : (w1To n key k).length = 4 * (n + 7) := by
 induction k with
 | zero => simp [w1To]
 | succ k ih => rw [w1To, List.length_set, ih]
/-- What a word is put together with. -/
def kNew (n : Nat) (L : List UInt32) (c : BitVec 64) (i : Nat) : UInt32 :=
 if i % n = 0 then subw (rotl (8 * 1) (L.getD (i - 1) 0)) ^^^ (lo32 c <<< 24) else if i % n = 4 then subw (L.getD (i - 1) 0) else L.getD (i - 1) 0
def kTo (n : Nat) (L0 : List UInt32) : Nat → List UInt32 × BitVec 64
 | 0 => (L0, 1#64)
 | j + 1 => let p := kTo n L0 j; (p.1.set (n + j) (p.1.getD j 0 ^^^ kNew n p.1 p.2 (n + j)), if (n + j) % n = 0 then dbl64 p.2 else p.2)
theorem kTo_length (n : Nat) (L0 : List UInt32) (j : Nat) : (kTo n L0 j).1.length = L0.length := by
 induction j with
 | zero => rfl
 | succ j ih => simp only [kTo]; rw [List.length_set, ih]
def kWords (n : Nat) (key : List UInt8) : List UInt32 := (kTo n (w1To n key (4 * n)) (3 * n + 28)).1
theorem kWords_length (n : Nat) (key : List UInt8) : (kWords n key).length = 4 * (n + 7) := by rw [kWords, kTo_length, w1To_length]
theorem w_shl24' (x : UInt32) : IntKind.u32.wrap ((x.toNat : Int) * (16777216 : Int)) = ((x <<< 24).toNat : Int) := by
 rw [IntKind.wrap_u32]; exact w_shl24 x
theorem tdivn (k : Nat) (d : Nat) : (k : Int).tdiv (d : Int) = ((k / d : Nat) : Int) := by rw [Int.tdiv_eq_ediv_of_nonneg (by omega)]; simp
theorem tmodn (k : Nat) (d : Nat) : (k : Int).tmod (d : Int) = ((k % d : Nat) : Int) := by rw [Int.tmod_eq_emod_of_nonneg (by omega)]; simp
set_option maxRecDepth 100000 in
set_option maxHeartbeats 2000000 in
theorem wordsOf_any (A : Option Addr) (c B n : Nat) (key : List UInt8) (w : World) (hB : B ≤ w.heap.size) (ik : InK w B A c key) (hl : key.length = 4 * n) (hn : n = 4 ∨ n = 8) :
  Calls Tryd.prog 46 #[.slice A key.length c] w fun e w' => e = .returned (.slice (some ⟨w.heap.size, 0, none⟩) (4 * (n + 7)) (4 * (n + 7))) ∧ Blk w' w.heap.size 92 ((kWords n key).map U32) ∧ Below w.heap.size w w' := by
 obtain ⟨T, hT⟩ : ∃ T, T = 4 * (n + 7) := ⟨_, rfl⟩
 have hT0 : T ≤ 60 := by omega
 have hmk := run_make_words T (by omega) w
 have d1 : (key.length : Int) / 4 = (n : Int) := by omega
 have d1' : (key.length : Int).tdiv 4 = (n : Int) := by rw [Int.tdiv_eq_ediv_of_nonneg (by omega)]; omega
 have d2 : (4 : Int) * ((n : Int) + 7) = (T : Int) := by omega
 have hn8 : n ≤ 8 := by omega
 have hkl : key.length ≤ 32 := by omega
 have hw0 : List.replicate T (0 : UInt32) = w1To n key 0 := by rw [hT]; rfl
 rw [hw0] at hmk
 have HT := Lib.hid (show T = 4 * (n + 7) ∧ key.length = 4 * n ∧ (n = 4 ∨ n = 8) from ⟨hT, hl, hn⟩)
 have HW : Hid (kWords n key = (kTo n (w1To n key (4 * n)) (3 * n + 28)).1) := Lib.hid rfl
 have HWL := Lib.hid (w1To_length n key)
 rw [← hT]
 obtain ⟨hkc, hkm, hke⟩ := id ik
 obtain ⟨gb, ob, rfl, hgb, hby⟩ := hke (by omega)
 clear hT hl hn hw0 hke ik
 go_enter Tryd.func46, Tryd.ntmps46
 go_wp2
 clear d1 d1' d2 hmk
 go_loopw [19] (fun i wr => ∃ k : Nat, k ≤ key.length ∧ i = .int .i64 (k : Int) ∧ Blk wr w.heap.size 92 ((w1To n key k).map U32) ∧ Below w.heap.size w wr) (fun i _ => key.length - (intOf i).toNat)
 case atStart => exact ⟨0, Nat.zero_le _, rfl, Blk.new_of w _ _ _ (by rfl), (Below.refl _ _).alloc (Nat.le_refl _) _⟩
 case round =>
  obtain ⟨k, hk, rfl, hW, hb⟩ := hrel
  by_cases hlt : k < key.length
  ·
   have hd : decide ((k : Int) < (key.length : Int)) = true := by simp; omega
   have hcb := (hb.cell (p := ⟨gb, ob + k, none⟩) (by show gb < _; omega)).trans (hby k hlt)
   have e : w1To n key (k + 1) = (w1To n key k).set (k / 4) (((w1To n key k).getD (k / 4) 0 <<< 8) ||| (key.getD k 0).toUInt32) := rfl
   have hq := tdiv4 k
   have hq' := tdiv4' k
   have hwl := HWL.out k
   have hq4 : k / 4 < T := by have := HT.out; omega
   obtain ⟨q, hqq⟩ : ∃ q, q = k / 4 := ⟨_, rfl⟩
   rw [← hqq] at e hq hq' hq4
   have hc := hW.at32 q (by have := HT.out; omega)
   have hf := hW.frozen q
   generalize key.getD k 0 = x1 at *
   generalize (w1To n key k).getD q 0 = x2 at *
   have HE := Lib.hid e
   have h1 := w_shl8 x2
   have h1' := w_shl8' x2
   have h2 := u8_mod x1
   have h2' := w_u8 x1
   have h3 := w_or (x2 <<< 8) x1.toUInt32
   have hk0 : (0 : Int) ≤ (k : Int) := by omega
   have hk1 : (k : Int) < (key.length : Int) := by omega
   have hq0 : (0 : Int) ≤ (q : Int) := by omega
   have hq1 : (q : Int) < (T : Int) := by omega
   generalize w1To n key k = L at *
   generalize x2 <<< 8 = x3 at *
   generalize x1.toUInt32 = x4 at *
   clear e hwl hqq
   go_wp2
   go_roundw
   case rel =>
    refine ⟨k + 1, by omega, by go_num, ?_, hb.setCell (Nat.le_refl _) _⟩
    rw [HE.out, ← map_set32]
    exact hW.set_ q _
   case measure => simp [intOf]; omega
  ·
   have hd : decide ((k : Int) < (key.length : Int)) = false := by simp; omega
   have hke : k = 4 * n := by have := HT.out; omega
   rw [hke] at hW
   have hL0 := HWL.out (4 * n)
   generalize w1To n key (4 * n) = L0 at *
   have HL0 := Lib.hid hL0
   clear hby hL0 hke
   go_wp2
   clear hd hlt hk
   go_loopw [7, 8] (fun cv i wr => ∃ (j m : Nat), j ≤ 3 * n + 28 ∧ Hid (m = n + j) ∧ i = .int .i64 (m : Int) ∧ cv = .int .u64 ((kTo n L0 j).2.toNat : Int) ∧ Blk wr w.heap.size 92 ((kTo n L0 j).1.map U32) ∧ Below w.heap.size w wr) (fun _ i _ => T - (intOf i).toNat)
   case atStart => exact ⟨0, n, Nat.zero_le _, (show _ = _ from rfl), rfl, rfl, hW, hb⟩
   case round =>
    clear hW hb
    obtain ⟨j, m, hj, HM, rfl, rfl, hW, hb⟩ := hrel
    have hmj : m = n + j := HM.out
    have htt := HT.out
    by_cases hlt : m < T
    ·
     have hd : decide ((m : Int) < (T : Int)) = true := by simp; omega
     have e1 : (kTo n L0 (j + 1)).1 = (kTo n L0 j).1.set (n + j) ((kTo n L0 j).1.getD j 0 ^^^ kNew n (kTo n L0 j).1 (kTo n L0 j).2 (n + j)) := rfl
     have e2 : (kTo n L0 (j + 1)).2 = if (n + j) % n = 0 then dbl64 (kTo n L0 j).2 else (kTo n L0 j).2 := rfl
     have hkl' := kTo_length n L0 j
     rw [HL0.out, ← htt.1] at hkl'
     rw [← hmj] at e1 e2
     generalize (kTo n L0 j).1 = L at *
     generalize (kTo n L0 j).2 = cc at *
     have hca := hW.at32 (m - 1) (by omega)
     have hco := hW.at32 j (by omega)
     have hcn := hW.at32 m (by omega)
     have hfn := hW.frozen m
     have hm1 : (m : Int) - 1 = ((m - 1 : Nat) : Int) := by omega
     have hmn : (m : Int) - (n : Int) = (j : Int) := by omega
     have hN : kNew n L cc m = if m % n = 0 then subw (rotl (8 * 1) (L.getD (m - 1) 0)) ^^^ (lo32 cc <<< 24) else if m % n = 4 then subw (L.getD (m - 1) 0) else L.getD (m - 1) 0 := rfl
     have hr := tmodn m n
     have hn0 : ¬ (n : Int) = 0 := by omega
     obtain ⟨r, hrr⟩ : ∃ r, r = m % n := ⟨_, rfl⟩
     rw [← hrr] at hr e2 hN
     generalize hYY : kNew n L cc m = Y at *
     generalize L.getD (m - 1) 0 = a at *
     generalize L.getD j 0 = ow at *
     generalize L.getD m 0 = mw at *
     obtain ⟨m', hm'⟩ : ∃ m', m' = m - 1 := ⟨_, rfl⟩
     rw [← hm'] at hca hm1
     have hb1 : (m' : Int) < (T : Int) := by omega
     have hb2 : (0 : Int) ≤ (m' : Int) := by omega
     have hb3 : (j : Int) < (T : Int) := by omega
     have hb4 : (0 : Int) ≤ (j : Int) := by omega
     have hb5 : (m : Int) < (T : Int) := by omega
     have hb6 : (0 : Int) ≤ (m : Int) := by omega
     have hx := w_xor ow Y
     have HE1 := Lib.hid e1
     have HE2 := Lib.hid e2
     have hgl := hW.lt
     have HJ := Lib.hid (show j + 1 ≤ 3 * n + 28 ∧ m + 1 = n + (j + 1) from ⟨by omega, by omega⟩)
     clear hm' hrr e1 e2 hmj htt hkl' hYY
     by_cases hr0 : r = 0
     ·
      subst hr0
      have hN' : Y = subw (rotl (8 * 1) a) ^^^ (lo32 cc <<< 24) := by rw [hN]; rfl
      have hs1 := w_lo cc
      have hs2 := w_shl24 (lo32 cc)
      have hs3 := w_shl24' (lo32 cc)
      have hs4 := w_xor (subw (rotl (8 * 1) a)) (lo32 cc <<< 24)
      rw [← hN'] at hs4
      have c1 := fun W => rot_1 a W
      have c2 := fun W => subw_any (rotl (8 * 1) a) W
      have c3 := fun W => doubled_any cc W
      generalize lo32 cc <<< 24 = z1 at *
      generalize lo32 cc = z2 at *
      generalize subw (rotl (8 * 1) a) = z3 at *
      generalize rotl (8 * 1) a = z4 at *
      clear hN hN'
      go_wp2_with (first
       | (go_at_call 74; with_reducible refine (c1 _).mono ?_; rintro e w1 ⟨rfl, hx1⟩; replace hco := (hx1.cell (p := ⟨w.heap.size, j, none⟩) hgl).trans hco; replace hcn := (hx1.cell (p := ⟨w.heap.size, m, none⟩) hgl).trans hcn; replace hfn := (hx1.frozen (p := ⟨w.heap.size, m, none⟩) hgl).trans hfn; replace hW := hW.below hx1 hgl; replace hb := hb.trans (hx1.mono hb.size); replace hgl := hW.lt; clear hx1)
       | (go_at_call 73; with_reducible refine (c2 _).mono ?_; rintro e w2 ⟨rfl, hx1⟩; replace hco := (hx1.cell (p := ⟨w.heap.size, j, none⟩) hgl).trans hco; replace hcn := (hx1.cell (p := ⟨w.heap.size, m, none⟩) hgl).trans hcn; replace hfn := (hx1.frozen (p := ⟨w.heap.size, m, none⟩) hgl).trans hfn; replace hW := hW.below hx1 hgl; replace hb := hb.trans (hx1.mono hb.size); replace hgl := hW.lt; clear hx1)
       | (go_at_call 75; with_reducible refine (c3 _).mono ?_; rintro e w3 ⟨rfl, hw3⟩; subst hw3))
      go_roundw
      case rel =>
       refine ⟨j + 1, m + 1, HJ.out.1, HJ.out.2, by go_num, by rw [HE2.out]; simp only [if_true], ?_, hb.setCell (Nat.le_refl _) _⟩
       rw [HE1.out, ← map_set32]
       exact hW.set_ m _
      case measure => simp [intOf]; omega
     ·
      have hri : ((r : Int) == 0) = false := by simp; omega
      rw [if_neg hr0] at hN
      by_cases hr4 : r = 4
      ·
       subst hr4
       have hN' : Y = subw a := by rw [hN, if_pos rfl]
       have c2 := fun W => subw_any a W
       rw [← hN'] at c2
       clear hN hN'
       go_wp2_with (go_at_call 73; with_reducible refine (c2 _).mono ?_; rintro e w2 ⟨rfl, hx1⟩; replace hco := (hx1.cell (p := ⟨w.heap.size, j, none⟩) hgl).trans hco; replace hcn := (hx1.cell (p := ⟨w.heap.size, m, none⟩) hgl).trans hcn; replace hfn := (hx1.frozen (p := ⟨w.heap.size, m, none⟩) hgl).trans hfn; replace hW := hW.below hx1 hgl; replace hb := hb.trans (hx1.mono hb.size); replace hgl := hW.lt; clear hx1)
       go_roundw
       case rel =>
        refine ⟨j + 1, m + 1, HJ.out.1, HJ.out.2, by go_num, by rw [HE2.out]; simp only [if_neg (show ¬ (4 = 0) by decide)], ?_, hb.setCell (Nat.le_refl _) _⟩
        rw [HE1.out, ← map_set32]
        exact hW.set_ m _
       case measure => simp [intOf]; omega
      ·
       have hri4 : ((r : Int) == 4) = false := by simp; omega
       have hN' : Y = a := by rw [hN, if_neg hr4]
       clear hN
       subst hN'
       go_wp2
       go_roundw
       case rel =>
        refine ⟨j + 1, m + 1, HJ.out.1, HJ.out.2, by go_num, by rw [HE2.out]; simp only [if_neg hr0], ?_, hb.setCell (Nat.le_refl _) _⟩
        rw [HE1.out, ← map_set32]
        exact hW.set_ m _
       case measure => simp [intOf]; omega
    ·
     have hd : decide ((m : Int) < (T : Int)) = false := by simp; omega
     have hje : j = 3 * n + 28 := by omega
     subst hje
     rw [← HW.out] at hW
     clear hmj htt
     go_wp2
     go_ret
     exact ⟨rfl, hW, hb⟩

end
end Go.Proofs.YtnjpcbbdhimacaaDoor
