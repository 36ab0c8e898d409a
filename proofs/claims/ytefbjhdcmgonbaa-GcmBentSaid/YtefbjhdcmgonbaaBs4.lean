/-
  The contracts of package block's states: columns mixed; all bytes turned.
-/
import Derived.Test.YtefbjhdcmgonbaaBs3
namespace Go.Proofs.Ytefbjhdcmgonbaa
open Go.RowKit

def lo32 (x : BitVec 64) : UInt32 := UInt32.ofBitVec (x.setWidth 32)
def hi32 (x : BitVec 64) : UInt32 := UInt32.ofBitVec ((x >>> 32).setWidth 32)
def wide (x : UInt32) : BitVec 64 := x.toBitVec.setWidth 64
def cat32 (x y : UInt32) : BitVec 64 := (wide x <<< 32) ||| wide y
theorem wide_nat (x : UInt32) : (wide x).toNat = x.toNat := by
  simp [wide]
theorem w_lo (x : BitVec 64) : IntKind.u32.wrap (x.toNat : Int) = ((lo32 x).toNat : Int) := by
  rw [IntKind.wrap_u32]; simp [lo32]
theorem w_lo' (x : BitVec 64) : (x.toNat : Int) % (4294967296 : Int) = ((lo32 x).toNat : Int) := by
  simp [lo32]
theorem wrap64_u32 (x : UInt32) : IntKind.u64.wrap (x.toNat : Int) = (x.toNat : Int) := by
  rw [IntKind.wrap_u64]; have := u32_lt x; omega
def dbl32 (x : UInt32) : UInt32 := lo32 (dbl64 (wide x))
theorem doubled_32 (z : UInt32) (w : World) : Calls Try.prog 54 #[.int .u64 (z.toNat : Int)] w fun e w' => e = .returned (.int .u64 ((dbl64 (wide z)).toNat : Int)) ∧ Below w.heap.size w w' := by
  have := doubled_any (wide z) w
  rw [wide_nat] at this
  exact this.mono fun e w' ⟨h1, h2⟩ => ⟨h1, by subst h2; exact Below.refl _ _⟩
/-- Columns mixed. -/
def mixS (s : List UInt32) : List UInt32 := (List.range 4).map fun i => ((dbl32 (s.getD i 0 ^^^ s.getD ((i + 1) % 4) 0) ^^^ s.getD ((i + 1) % 4) 0) ^^^ s.getD ((i + 2) % 4) 0) ^^^ s.getD ((i + 3) % 4) 0
theorem mixS_length (s : List UInt32) : (mixS s).length = 4 := by simp [mixS]
theorem mixS_get (s : List UInt32) (k : Nat) (hk : k < 4) : (mixS s).getD k 0 = ((dbl32 (s.getD k 0 ^^^ s.getD ((k + 1) % 4) 0) ^^^ s.getD ((k + 1) % 4) 0) ^^^ s.getD ((k + 2) % 4) 0) ^^^ s.getD ((k + 3) % 4) 0 := by
  simp [mixS, List.getD_eq_getElem?_getD, hk]
set_option maxRecDepth 100000 in
set_option maxHeartbeats 2000000 in
theorem mixed_any (s : List UInt32) (hs : s.length = 4) (w : World) :
    Calls Try.prog 42 #[SV s] w fun e w' => e = .returned (SV (mixS s)) ∧ Below w.heap.size w w' := by
  have HS := Lib.hid hs
  have hXl := mixS_length s
  have hXg := mixS_get s
  obtain ⟨X, hX⟩ : ∃ X, X = mixS s := ⟨_, rfl⟩
  rw [← hX] at hXl hXg ⊢
  have HXL := Lib.hid hXl
  have HXG := Lib.hid hXg
  clear hs hXl hXg hX
  have hz : ∀ W : World, (zeroValue 73).run Try.prog W = .ok (SV zero4) W := fun W => by kernel_rfl
  go_enter Try.func42, Try.ntmps42
  go_wp2_with (refine wpList_load_blk rfl 73 (.tmp 1) rfl w.heap.size rfl 73 _ _ (((Blk.new_of w 73 _ (s.map U32) (by rfl)).alloc _).alloc _) Try.underlying73 rfl (infoSt.trans (by rw [List.length_map, HS.out])) ?_)
  go_loopw [8] (fun i wr => ∃ k : Nat, k ≤ 4 ∧ i = .int .i64 (k : Int) ∧ Blk wr (w.heap.size + 1 + 1) 73 ((X.take k ++ zero4.drop k).map U32) ∧ Blk wr (w.heap.size + 1) 73 (zero4.map U32) ∧ Blk wr w.heap.size 73 (s.map U32) ∧ Below w.heap.size w wr) (fun i _ => 4 - (intOf i).toNat)
  case atStart => exact ⟨0, by omega, rfl, Blk.new3_of w _ _ _ _ _ (by rfl), (Blk.new2_of w _ _ _ _ (by rfl)).alloc _, ((Blk.new_of w 73 _ (s.map U32) (by rfl)).alloc _).alloc _, (((Below.refl _ _).alloc (Nat.le_refl _) _).alloc (by simp) _).alloc (by simp; omega) _⟩
  case round =>
    obtain ⟨k, hk, rfl, hB, hZ, hR, hbl⟩ := hrel
    by_cases hlt : k < 4
    · have hd : decide ((k : Int) < 4) = true := by simp; omega
      have hix := index_words 4 73 s HS.out Try.underlying73 k hlt
      have hlen := len_to X zero4 k (by rw [HXL.out]; omega) (by rw [HXL.out]; rfl)
      have hf := hB.frozen k
      have hc0 := hB.at32 k (by rw [hlen]; exact hlt)
      have hX := HXG.out k hlt
      have hst := set_to X zero4 k 0 (by rw [HXL.out]; omega) hlt
      have hi1 : (k + 1) % 4 < 4 := Nat.mod_lt _ (by decide)
      have hi2 : (k + 2) % 4 < 4 := Nat.mod_lt _ (by decide)
      have hi3 : (k + 3) % 4 < 4 := Nat.mod_lt _ (by decide)
      have hlB := hB.lt
      have hlR := hR.lt
      have hlZ := hZ.lt
      have q1 := fun V (h : Below wr.heap.size wr V) => (hR.below h hlR).at32 ((k + 1) % 4) (by rw [HS.out]; exact hi1)
      have q2 := fun V (h : Below wr.heap.size wr V) => (hR.below h hlR).at32 ((k + 2) % 4) (by rw [HS.out]; exact hi2)
      have q3 := fun V (h : Below wr.heap.size wr V) => (hR.below h hlR).at32 ((k + 3) % 4) (by rw [HS.out]; exact hi3)
      generalize (X.take k ++ zero4.drop k).getD k 0 = x0 at *
      generalize s.getD k 0 = y0 at *
      generalize s.getD ((k + 1) % 4) 0 = y1 at *
      generalize s.getD ((k + 2) % 4) 0 = y2 at *
      generalize s.getD ((k + 3) % 4) 0 = y3 at *
      generalize X.getD k 0 = x3 at *
      have q1' := q1 wr (Below.refl _ _)
      have d0 := fun W => doubled_32 (y0 ^^^ y1) W
      have e0 := w_xor y0 y1
      have ew := wrap64_u32 (y0 ^^^ y1)
      have e1 := w_lo (dbl64 (wide (y0 ^^^ y1)))
      have e2 := w_xor (dbl32 (y0 ^^^ y1)) y1
      have e3 := w_xor (dbl32 (y0 ^^^ y1) ^^^ y1) y2
      have e4 := w_xor ((dbl32 (y0 ^^^ y1) ^^^ y1) ^^^ y2) y3
      rw [← hX] at e4
      have HD : Hid (dbl32 (y0 ^^^ y1) = lo32 (dbl64 (wide (y0 ^^^ y1)))) := Lib.hid rfl
      rw [← HD.out] at e1
      generalize (dbl32 (y0 ^^^ y1) ^^^ y1) ^^^ y2 = z3 at *
      generalize dbl32 (y0 ^^^ y1) ^^^ y1 = z2 at *
      generalize dbl32 (y0 ^^^ y1) = z1 at *
      generalize dbl64 (wide (y0 ^^^ y1)) = v at *
      generalize y0 ^^^ y1 = z0 at *
      have HST := Lib.hid hst
      clear hst hlen hX HD hi1 hi2 hi3
      generalize X.take k ++ zero4.drop k = L at *
      obtain rfl | rfl | rfl | rfl : k = 0 ∨ k = 1 ∨ k = 2 ∨ k = 3 := by omega
      · have hix1 := fun W => (show (Instr.index 73 (.agg (s.map U32).toArray) (.int .i64 0)).run Try.prog W = .ok (.int .u32 y0.toNat) W from hix W)
        simp only [Nat.reduceAdd, Nat.reduceMod] at q1 q2 q3 q1'
        have m2 : (IntKind.i64.wrap (2 : Int)).tmod 4 = 2 := by decide +kernel
        have m3 : (IntKind.i64.wrap (3 : Int)).tmod 4 = 3 := by decide +kernel
        clear hix
        go_wp2
        refine wp_region_noPanic ?_
        apply wp_region_once_tail (m := 22) (Z := []) (D := [[], [], [], [1, 2], [1, 2, 3], [1, 2, 3, 4], [1, 2, 3, 4, 5], [], [1, 2, 3, 4, 5, 6, 7], [], [9], [9, 10], [9, 10, 11], [9, 10, 11, 12], [1, 2, 3, 4, 5, 6, 7, 8, 9, 10, 11, 12, 13], [], [15], [15, 16], [15, 16, 17], [15, 16, 17, 18], [1, 2, 3, 4, 5, 6, 7, 8, 9, 10, 11, 12, 13, 14, 15, 16, 17, 18, 19], [0, 1, 2, 3, 4, 5, 6, 7, 8, 9, 10, 11, 12, 13, 14, 15, 16, 17, 18, 19, 20], [0, 1, 2, 3, 4, 5, 6, 7, 8, 9, 10, 11, 12, 13, 14, 15, 16, 17, 18, 19, 20, 21]]) (J := [[], [], [], [1, 2], [3], [4], [5], [], [6, 7], [], [9], [10], [11], [12], [8, 13], [], [15], [16], [17], [18], [14, 19], [0]]) (Je := [20, 21]) (Rs := [Is _, Is _, Is _, Is _, Is _, Is _, Is _, Is _, Is _, Is _, Is _, Is _, Is _, Is _, Is _, Is _, Is _, Is _, Is _, Is _, Is _, Is _])
        · kernel_rfl
        · kernel_rfl
        · kernel_rfl
        · kernel_rfl
        · kernel_rfl
        · kernel_rfl
        · kernel_rfl
        · exact fun h => absurd rfl h
        · intro u
          simp only [List.take_succ_cons, List.take_zero, List.map_cons, List.map_nil, fillU, List.setIfInBounds_toArray, List.set_cons_zero, List.set_cons_succ, Nat.zero_add, Nat.reduceAdd]
          exact rfl
        · simp only [List.take_succ_cons, List.take_zero]
          refine ⟨fun u W hb hd K hK => ?_, ?_⟩
          · clear hd
            go_simp
            apply hK
            · simp only [Act.put, List.setIfInBounds_toArray, List.set_cons_zero, List.set_cons_succ]
              exact rfl
            · exact Below.refl _ _
            · exact IsOut
          refine ⟨fun u W hb hd K hK => ?_, ?_⟩
          · clear hd
            go_simp
            apply hK
            · simp only [Act.put, List.setIfInBounds_toArray, List.set_cons_zero, List.set_cons_succ]
              exact rfl
            · exact Below.refl _ _
            · exact IsOut
          refine ⟨fun u W hb hd K hK => ?_, ?_⟩
          · clear hd
            go_simp
            apply hK
            · simp only [Act.put, List.setIfInBounds_toArray, List.set_cons_zero, List.set_cons_succ]
              exact rfl
            · exact Below.refl _ _
            · exact IsOut
          refine ⟨fun u W hb hd K hK => ?_, ?_⟩
          · simp only [Facts, nthR, Is, and_true] at hd
            simp only [hd] at hK ⊢
            clear hd
            go_simp
            apply hK
            · simp only [Act.put, List.setIfInBounds_toArray, List.set_cons_zero, List.set_cons_succ]
              exact rfl
            · exact Below.refl _ _
            · exact IsOut
          refine ⟨fun u W hb hd K hK => ?_, ?_⟩
          · simp only [Facts, nthR, Is, and_true] at hd
            simp only [hd] at hK ⊢
            clear hd
            go_simp
            apply hK
            · simp only [Act.put, List.setIfInBounds_toArray, List.set_cons_zero, List.set_cons_succ]
              exact rfl
            · exact Below.refl _ _
            · exact IsOut
          refine ⟨fun u W hb hd K hK => ?_, ?_⟩
          · simp only [Facts, nthR, Is, and_true] at hd
            simp only [hd] at hK ⊢
            clear hd
            go_simp
            with_reducible refine (d0 _).mono ?_
            rintro e wy ⟨rfl, hby⟩
            exact hK _ _ _ rfl hby IsOut
          refine ⟨fun u W hb hd K hK => ?_, ?_⟩
          · simp only [Facts, nthR, Is, and_true] at hd
            simp only [hd] at hK ⊢
            clear hd
            go_simp
            apply hK
            · simp only [Act.put, List.setIfInBounds_toArray, List.set_cons_zero, List.set_cons_succ]
              exact rfl
            · exact Below.refl _ _
            · exact IsOut
          refine ⟨fun u W hb hd K hK => ?_, ?_⟩
          · clear hd
            go_simp
            apply hK
            · simp only [Act.put, List.setIfInBounds_toArray, List.set_cons_zero, List.set_cons_succ]
              exact rfl
            · exact Below.refl _ _
            · exact IsOut
          refine ⟨fun u W hb hd K hK => ?_, ?_⟩
          · simp only [Facts, nthR, Is, and_true] at hd
            simp only [hd] at hK ⊢
            clear hd
            go_simp
            apply hK
            · simp only [Act.put, List.setIfInBounds_toArray, List.set_cons_zero, List.set_cons_succ]
              exact rfl
            · exact Below.refl _ _
            · exact IsOut
          refine ⟨fun u W hb hd K hK => ?_, ?_⟩
          · clear hd
            go_simp
            apply hK
            · simp only [Act.put, List.setIfInBounds_toArray, List.set_cons_zero, List.set_cons_succ]
              exact rfl
            · exact Below.refl _ _
            · exact IsOut
          refine ⟨fun u W hb hd K hK => ?_, ?_⟩
          · simp only [Facts, nthR, Is, and_true] at hd
            simp only [hd] at hK ⊢
            clear hd
            go_simp
            apply hK
            · simp only [Act.put, List.setIfInBounds_toArray, List.set_cons_zero, List.set_cons_succ]
              exact rfl
            · exact Below.refl _ _
            · exact IsOut
          refine ⟨fun u W hb hd K hK => ?_, ?_⟩
          · simp only [Facts, nthR, Is, and_true] at hd
            simp only [hd] at hK ⊢
            clear hd
            go_simp
            apply hK
            · simp only [Act.put, List.setIfInBounds_toArray, List.set_cons_zero, List.set_cons_succ]
              exact rfl
            · exact Below.refl _ _
            · exact IsOut
          refine ⟨fun u W hb hd K hK => ?_, ?_⟩
          · simp only [Facts, nthR, Is, and_true] at hd
            simp only [hd] at hK ⊢
            clear hd
            go_simp
            apply hK
            · simp only [Act.put, List.setIfInBounds_toArray, List.set_cons_zero, List.set_cons_succ]
              exact rfl
            · exact Below.refl _ _
            · exact IsOut
          refine ⟨fun u W hb hd K hK => ?_, ?_⟩
          · simp only [Facts, nthR, Is, and_true] at hd
            simp only [hd] at hK ⊢
            clear hd
            go_simp
            apply hK
            · simp only [Act.put, List.setIfInBounds_toArray, List.set_cons_zero, List.set_cons_succ]
              exact rfl
            · exact Below.refl _ _
            · exact IsOut
          refine ⟨fun u W hb hd K hK => ?_, ?_⟩
          · simp only [Facts, nthR, Is, and_true] at hd
            simp only [hd] at hK ⊢
            clear hd
            go_simp
            apply hK
            · simp only [Act.put, List.setIfInBounds_toArray, List.set_cons_zero, List.set_cons_succ]
              exact rfl
            · exact Below.refl _ _
            · exact IsOut
          refine ⟨fun u W hb hd K hK => ?_, ?_⟩
          · clear hd
            go_simp
            apply hK
            · simp only [Act.put, List.setIfInBounds_toArray, List.set_cons_zero, List.set_cons_succ]
              exact rfl
            · exact Below.refl _ _
            · exact IsOut
          refine ⟨fun u W hb hd K hK => ?_, ?_⟩
          · simp only [Facts, nthR, Is, and_true] at hd
            simp only [hd] at hK ⊢
            clear hd
            go_simp
            apply hK
            · simp only [Act.put, List.setIfInBounds_toArray, List.set_cons_zero, List.set_cons_succ]
              exact rfl
            · exact Below.refl _ _
            · exact IsOut
          refine ⟨fun u W hb hd K hK => ?_, ?_⟩
          · simp only [Facts, nthR, Is, and_true] at hd
            simp only [hd] at hK ⊢
            clear hd
            go_simp
            apply hK
            · simp only [Act.put, List.setIfInBounds_toArray, List.set_cons_zero, List.set_cons_succ]
              exact rfl
            · exact Below.refl _ _
            · exact IsOut
          refine ⟨fun u W hb hd K hK => ?_, ?_⟩
          · simp only [Facts, nthR, Is, and_true] at hd
            simp only [hd] at hK ⊢
            clear hd
            go_simp
            apply hK
            · simp only [Act.put, List.setIfInBounds_toArray, List.set_cons_zero, List.set_cons_succ]
              exact rfl
            · exact Below.refl _ _
            · exact IsOut
          refine ⟨fun u W hb hd K hK => ?_, ?_⟩
          · simp only [Facts, nthR, Is, and_true] at hd
            simp only [hd] at hK ⊢
            clear hd
            go_simp
            apply hK
            · simp only [Act.put, List.setIfInBounds_toArray, List.set_cons_zero, List.set_cons_succ]
              exact rfl
            · exact Below.refl _ _
            · exact IsOut
          refine ⟨fun u W hb hd K hK => ?_, ?_⟩
          · simp only [Facts, nthR, Is, and_true] at hd
            simp only [hd] at hK ⊢
            clear hd
            go_simp
            apply hK
            · simp only [Act.put, List.setIfInBounds_toArray, List.set_cons_zero, List.set_cons_succ]
              exact rfl
            · exact Below.refl _ _
            · exact IsOut
          refine ⟨fun u W hb hd K hK => ?_, ?_⟩
          · simp only [Facts, nthR, Is, and_true] at hd
            simp only [hd] at hK ⊢
            clear hd
            go_simp
            apply hK
            · simp only [Act.put, List.setIfInBounds_toArray, List.set_cons_zero, List.set_cons_succ]
              exact rfl
            · exact Below.refl _ _
            · exact IsOut
          exact trivial
        · skip
          exact trivial
        · exact (.is (.is (.is (.is (.is (.is (.is (.is (.is (.is (.is (.is (.is (.is (.is (.is (.is (.is (.is (.is (.is (.is .nil))))))))))))))))))))))
        · intro u W hb hd
          simp only [List.drop_succ_cons, List.drop_zero]
          simp only [Facts, nthR, Is, and_true] at hd
          simp only [hd]
          clear hd
          replace hf := (hb.frozen (p := ⟨w.heap.size + 1 + 1, 0, none⟩) hlB).trans hf
          replace hc0 := (hb.cell (p := ⟨w.heap.size + 1 + 1, 0, none⟩) hlB).trans hc0
          replace hB := hB.below hb hlB
          replace hZ := hZ.below hb hlZ
          replace hR := hR.below hb hlR
          replace hbl := hbl.trans (hb.mono hbl.size)
          clear hb q1 q2 q3 q1' d0
          go_wp2
          refine NoPanic.normal ?_
          go_wp2
          go_roundw
          case rel =>
            refine ⟨1, by omega, by rfl, ?_, hZ.far (show w.heap.size + 1 ≠ w.heap.size + 1 + 1 by omega) _, hR.far (show w.heap.size ≠ w.heap.size + 1 + 1 by omega) _, hbl.setCell (show w.heap.size ≤ w.heap.size + 1 + 1 by omega) _⟩
            rw [show 1 = 0 + 1 from rfl, ← HST.out, ← map_set32]
            exact hB.set_ 0 _
          case measure => simp [intOf]
      · have hix1 := fun W => (show (Instr.index 73 (.agg (s.map U32).toArray) (.int .i64 1)).run Try.prog W = .ok (.int .u32 y0.toNat) W from hix W)
        simp only [Nat.reduceAdd, Nat.reduceMod] at q1 q2 q3 q1'
        have m2 : (IntKind.i64.wrap (3 : Int)).tmod 4 = 3 := by decide +kernel
        have m3 : (IntKind.i64.wrap (4 : Int)).tmod 4 = 0 := by decide +kernel
        clear hix
        go_wp2
        refine wp_region_noPanic ?_
        apply wp_region_once_tail (m := 22) (Z := []) (D := [[], [], [], [1, 2], [1, 2, 3], [1, 2, 3, 4], [1, 2, 3, 4, 5], [], [1, 2, 3, 4, 5, 6, 7], [], [9], [9, 10], [9, 10, 11], [9, 10, 11, 12], [1, 2, 3, 4, 5, 6, 7, 8, 9, 10, 11, 12, 13], [], [15], [15, 16], [15, 16, 17], [15, 16, 17, 18], [1, 2, 3, 4, 5, 6, 7, 8, 9, 10, 11, 12, 13, 14, 15, 16, 17, 18, 19], [0, 1, 2, 3, 4, 5, 6, 7, 8, 9, 10, 11, 12, 13, 14, 15, 16, 17, 18, 19, 20], [0, 1, 2, 3, 4, 5, 6, 7, 8, 9, 10, 11, 12, 13, 14, 15, 16, 17, 18, 19, 20, 21]]) (J := [[], [], [], [1, 2], [3], [4], [5], [], [6, 7], [], [9], [10], [11], [12], [8, 13], [], [15], [16], [17], [18], [14, 19], [0]]) (Je := [20, 21]) (Rs := [Is _, Is _, Is _, Is _, Is _, Is _, Is _, Is _, Is _, Is _, Is _, Is _, Is _, Is _, Is _, Is _, Is _, Is _, Is _, Is _, Is _, Is _])
        · kernel_rfl
        · kernel_rfl
        · kernel_rfl
        · kernel_rfl
        · kernel_rfl
        · kernel_rfl
        · kernel_rfl
        · exact fun h => absurd rfl h
        · intro u
          simp only [List.take_succ_cons, List.take_zero, List.map_cons, List.map_nil, fillU, List.setIfInBounds_toArray, List.set_cons_zero, List.set_cons_succ, Nat.zero_add, Nat.reduceAdd]
          exact rfl
        · simp only [List.take_succ_cons, List.take_zero]
          refine ⟨fun u W hb hd K hK => ?_, ?_⟩
          · clear hd
            go_simp
            apply hK
            · simp only [Act.put, List.setIfInBounds_toArray, List.set_cons_zero, List.set_cons_succ]
              exact rfl
            · exact Below.refl _ _
            · exact IsOut
          refine ⟨fun u W hb hd K hK => ?_, ?_⟩
          · clear hd
            go_simp
            apply hK
            · simp only [Act.put, List.setIfInBounds_toArray, List.set_cons_zero, List.set_cons_succ]
              exact rfl
            · exact Below.refl _ _
            · exact IsOut
          refine ⟨fun u W hb hd K hK => ?_, ?_⟩
          · clear hd
            go_simp
            apply hK
            · simp only [Act.put, List.setIfInBounds_toArray, List.set_cons_zero, List.set_cons_succ]
              exact rfl
            · exact Below.refl _ _
            · exact IsOut
          refine ⟨fun u W hb hd K hK => ?_, ?_⟩
          · simp only [Facts, nthR, Is, and_true] at hd
            simp only [hd] at hK ⊢
            clear hd
            go_simp
            apply hK
            · simp only [Act.put, List.setIfInBounds_toArray, List.set_cons_zero, List.set_cons_succ]
              exact rfl
            · exact Below.refl _ _
            · exact IsOut
          refine ⟨fun u W hb hd K hK => ?_, ?_⟩
          · simp only [Facts, nthR, Is, and_true] at hd
            simp only [hd] at hK ⊢
            clear hd
            go_simp
            apply hK
            · simp only [Act.put, List.setIfInBounds_toArray, List.set_cons_zero, List.set_cons_succ]
              exact rfl
            · exact Below.refl _ _
            · exact IsOut
          refine ⟨fun u W hb hd K hK => ?_, ?_⟩
          · simp only [Facts, nthR, Is, and_true] at hd
            simp only [hd] at hK ⊢
            clear hd
            go_simp
            with_reducible refine (d0 _).mono ?_
            rintro e wy ⟨rfl, hby⟩
            exact hK _ _ _ rfl hby IsOut
          refine ⟨fun u W hb hd K hK => ?_, ?_⟩
          · simp only [Facts, nthR, Is, and_true] at hd
            simp only [hd] at hK ⊢
            clear hd
            go_simp
            apply hK
            · simp only [Act.put, List.setIfInBounds_toArray, List.set_cons_zero, List.set_cons_succ]
              exact rfl
            · exact Below.refl _ _
            · exact IsOut
          refine ⟨fun u W hb hd K hK => ?_, ?_⟩
          · clear hd
            go_simp
            apply hK
            · simp only [Act.put, List.setIfInBounds_toArray, List.set_cons_zero, List.set_cons_succ]
              exact rfl
            · exact Below.refl _ _
            · exact IsOut
          refine ⟨fun u W hb hd K hK => ?_, ?_⟩
          · simp only [Facts, nthR, Is, and_true] at hd
            simp only [hd] at hK ⊢
            clear hd
            go_simp
            apply hK
            · simp only [Act.put, List.setIfInBounds_toArray, List.set_cons_zero, List.set_cons_succ]
              exact rfl
            · exact Below.refl _ _
            · exact IsOut
          refine ⟨fun u W hb hd K hK => ?_, ?_⟩
          · clear hd
            go_simp
            apply hK
            · simp only [Act.put, List.setIfInBounds_toArray, List.set_cons_zero, List.set_cons_succ]
              exact rfl
            · exact Below.refl _ _
            · exact IsOut
          refine ⟨fun u W hb hd K hK => ?_, ?_⟩
          · simp only [Facts, nthR, Is, and_true] at hd
            simp only [hd] at hK ⊢
            clear hd
            go_simp
            apply hK
            · simp only [Act.put, List.setIfInBounds_toArray, List.set_cons_zero, List.set_cons_succ]
              exact rfl
            · exact Below.refl _ _
            · exact IsOut
          refine ⟨fun u W hb hd K hK => ?_, ?_⟩
          · simp only [Facts, nthR, Is, and_true] at hd
            simp only [hd] at hK ⊢
            clear hd
            go_simp
            apply hK
            · simp only [Act.put, List.setIfInBounds_toArray, List.set_cons_zero, List.set_cons_succ]
              exact rfl
            · exact Below.refl _ _
            · exact IsOut
          refine ⟨fun u W hb hd K hK => ?_, ?_⟩
          · simp only [Facts, nthR, Is, and_true] at hd
            simp only [hd] at hK ⊢
            clear hd
            go_simp
            apply hK
            · simp only [Act.put, List.setIfInBounds_toArray, List.set_cons_zero, List.set_cons_succ]
              exact rfl
            · exact Below.refl _ _
            · exact IsOut
          refine ⟨fun u W hb hd K hK => ?_, ?_⟩
          · simp only [Facts, nthR, Is, and_true] at hd
            simp only [hd] at hK ⊢
            clear hd
            go_simp
            apply hK
            · simp only [Act.put, List.setIfInBounds_toArray, List.set_cons_zero, List.set_cons_succ]
              exact rfl
            · exact Below.refl _ _
            · exact IsOut
          refine ⟨fun u W hb hd K hK => ?_, ?_⟩
          · simp only [Facts, nthR, Is, and_true] at hd
            simp only [hd] at hK ⊢
            clear hd
            go_simp
            apply hK
            · simp only [Act.put, List.setIfInBounds_toArray, List.set_cons_zero, List.set_cons_succ]
              exact rfl
            · exact Below.refl _ _
            · exact IsOut
          refine ⟨fun u W hb hd K hK => ?_, ?_⟩
          · clear hd
            go_simp
            apply hK
            · simp only [Act.put, List.setIfInBounds_toArray, List.set_cons_zero, List.set_cons_succ]
              exact rfl
            · exact Below.refl _ _
            · exact IsOut
          refine ⟨fun u W hb hd K hK => ?_, ?_⟩
          · simp only [Facts, nthR, Is, and_true] at hd
            simp only [hd] at hK ⊢
            clear hd
            go_simp
            apply hK
            · simp only [Act.put, List.setIfInBounds_toArray, List.set_cons_zero, List.set_cons_succ]
              exact rfl
            · exact Below.refl _ _
            · exact IsOut
          refine ⟨fun u W hb hd K hK => ?_, ?_⟩
          · simp only [Facts, nthR, Is, and_true] at hd
            simp only [hd] at hK ⊢
            clear hd
            go_simp
            apply hK
            · simp only [Act.put, List.setIfInBounds_toArray, List.set_cons_zero, List.set_cons_succ]
              exact rfl
            · exact Below.refl _ _
            · exact IsOut
          refine ⟨fun u W hb hd K hK => ?_, ?_⟩
          · simp only [Facts, nthR, Is, and_true] at hd
            simp only [hd] at hK ⊢
            clear hd
            go_simp
            apply hK
            · simp only [Act.put, List.setIfInBounds_toArray, List.set_cons_zero, List.set_cons_succ]
              exact rfl
            · exact Below.refl _ _
            · exact IsOut
          refine ⟨fun u W hb hd K hK => ?_, ?_⟩
          · simp only [Facts, nthR, Is, and_true] at hd
            simp only [hd] at hK ⊢
            clear hd
            go_simp
            apply hK
            · simp only [Act.put, List.setIfInBounds_toArray, List.set_cons_zero, List.set_cons_succ]
              exact rfl
            · exact Below.refl _ _
            · exact IsOut
          refine ⟨fun u W hb hd K hK => ?_, ?_⟩
          · simp only [Facts, nthR, Is, and_true] at hd
            simp only [hd] at hK ⊢
            clear hd
            go_simp
            apply hK
            · simp only [Act.put, List.setIfInBounds_toArray, List.set_cons_zero, List.set_cons_succ]
              exact rfl
            · exact Below.refl _ _
            · exact IsOut
          refine ⟨fun u W hb hd K hK => ?_, ?_⟩
          · simp only [Facts, nthR, Is, and_true] at hd
            simp only [hd] at hK ⊢
            clear hd
            go_simp
            apply hK
            · simp only [Act.put, List.setIfInBounds_toArray, List.set_cons_zero, List.set_cons_succ]
              exact rfl
            · exact Below.refl _ _
            · exact IsOut
          exact trivial
        · skip
          exact trivial
        · exact (.is (.is (.is (.is (.is (.is (.is (.is (.is (.is (.is (.is (.is (.is (.is (.is (.is (.is (.is (.is (.is (.is .nil))))))))))))))))))))))
        · intro u W hb hd
          simp only [List.drop_succ_cons, List.drop_zero]
          simp only [Facts, nthR, Is, and_true] at hd
          simp only [hd]
          clear hd
          replace hf := (hb.frozen (p := ⟨w.heap.size + 1 + 1, 1, none⟩) hlB).trans hf
          replace hc0 := (hb.cell (p := ⟨w.heap.size + 1 + 1, 1, none⟩) hlB).trans hc0
          replace hB := hB.below hb hlB
          replace hZ := hZ.below hb hlZ
          replace hR := hR.below hb hlR
          replace hbl := hbl.trans (hb.mono hbl.size)
          clear hb q1 q2 q3 q1' d0
          go_wp2
          refine NoPanic.normal ?_
          go_wp2
          go_roundw
          case rel =>
            refine ⟨2, by omega, by rfl, ?_, hZ.far (show w.heap.size + 1 ≠ w.heap.size + 1 + 1 by omega) _, hR.far (show w.heap.size ≠ w.heap.size + 1 + 1 by omega) _, hbl.setCell (show w.heap.size ≤ w.heap.size + 1 + 1 by omega) _⟩
            rw [show 2 = 1 + 1 from rfl, ← HST.out, ← map_set32]
            exact hB.set_ 1 _
          case measure => simp [intOf]
      · have hix1 := fun W => (show (Instr.index 73 (.agg (s.map U32).toArray) (.int .i64 2)).run Try.prog W = .ok (.int .u32 y0.toNat) W from hix W)
        simp only [Nat.reduceAdd, Nat.reduceMod] at q1 q2 q3 q1'
        have m2 : (IntKind.i64.wrap (4 : Int)).tmod 4 = 0 := by decide +kernel
        have m3 : (IntKind.i64.wrap (5 : Int)).tmod 4 = 1 := by decide +kernel
        clear hix
        go_wp2
        refine wp_region_noPanic ?_
        apply wp_region_once_tail (m := 22) (Z := []) (D := [[], [], [], [1, 2], [1, 2, 3], [1, 2, 3, 4], [1, 2, 3, 4, 5], [], [1, 2, 3, 4, 5, 6, 7], [], [9], [9, 10], [9, 10, 11], [9, 10, 11, 12], [1, 2, 3, 4, 5, 6, 7, 8, 9, 10, 11, 12, 13], [], [15], [15, 16], [15, 16, 17], [15, 16, 17, 18], [1, 2, 3, 4, 5, 6, 7, 8, 9, 10, 11, 12, 13, 14, 15, 16, 17, 18, 19], [0, 1, 2, 3, 4, 5, 6, 7, 8, 9, 10, 11, 12, 13, 14, 15, 16, 17, 18, 19, 20], [0, 1, 2, 3, 4, 5, 6, 7, 8, 9, 10, 11, 12, 13, 14, 15, 16, 17, 18, 19, 20, 21]]) (J := [[], [], [], [1, 2], [3], [4], [5], [], [6, 7], [], [9], [10], [11], [12], [8, 13], [], [15], [16], [17], [18], [14, 19], [0]]) (Je := [20, 21]) (Rs := [Is _, Is _, Is _, Is _, Is _, Is _, Is _, Is _, Is _, Is _, Is _, Is _, Is _, Is _, Is _, Is _, Is _, Is _, Is _, Is _, Is _, Is _])
        · kernel_rfl
        · kernel_rfl
        · kernel_rfl
        · kernel_rfl
        · kernel_rfl
        · kernel_rfl
        · kernel_rfl
        · exact fun h => absurd rfl h
        · intro u
          simp only [List.take_succ_cons, List.take_zero, List.map_cons, List.map_nil, fillU, List.setIfInBounds_toArray, List.set_cons_zero, List.set_cons_succ, Nat.zero_add, Nat.reduceAdd]
          exact rfl
        · simp only [List.take_succ_cons, List.take_zero]
          refine ⟨fun u W hb hd K hK => ?_, ?_⟩
          · clear hd
            go_simp
            apply hK
            · simp only [Act.put, List.setIfInBounds_toArray, List.set_cons_zero, List.set_cons_succ]
              exact rfl
            · exact Below.refl _ _
            · exact IsOut
          refine ⟨fun u W hb hd K hK => ?_, ?_⟩
          · clear hd
            go_simp
            apply hK
            · simp only [Act.put, List.setIfInBounds_toArray, List.set_cons_zero, List.set_cons_succ]
              exact rfl
            · exact Below.refl _ _
            · exact IsOut
          refine ⟨fun u W hb hd K hK => ?_, ?_⟩
          · clear hd
            go_simp
            apply hK
            · simp only [Act.put, List.setIfInBounds_toArray, List.set_cons_zero, List.set_cons_succ]
              exact rfl
            · exact Below.refl _ _
            · exact IsOut
          refine ⟨fun u W hb hd K hK => ?_, ?_⟩
          · simp only [Facts, nthR, Is, and_true] at hd
            simp only [hd] at hK ⊢
            clear hd
            go_simp
            apply hK
            · simp only [Act.put, List.setIfInBounds_toArray, List.set_cons_zero, List.set_cons_succ]
              exact rfl
            · exact Below.refl _ _
            · exact IsOut
          refine ⟨fun u W hb hd K hK => ?_, ?_⟩
          · simp only [Facts, nthR, Is, and_true] at hd
            simp only [hd] at hK ⊢
            clear hd
            go_simp
            apply hK
            · simp only [Act.put, List.setIfInBounds_toArray, List.set_cons_zero, List.set_cons_succ]
              exact rfl
            · exact Below.refl _ _
            · exact IsOut
          refine ⟨fun u W hb hd K hK => ?_, ?_⟩
          · simp only [Facts, nthR, Is, and_true] at hd
            simp only [hd] at hK ⊢
            clear hd
            go_simp
            with_reducible refine (d0 _).mono ?_
            rintro e wy ⟨rfl, hby⟩
            exact hK _ _ _ rfl hby IsOut
          refine ⟨fun u W hb hd K hK => ?_, ?_⟩
          · simp only [Facts, nthR, Is, and_true] at hd
            simp only [hd] at hK ⊢
            clear hd
            go_simp
            apply hK
            · simp only [Act.put, List.setIfInBounds_toArray, List.set_cons_zero, List.set_cons_succ]
              exact rfl
            · exact Below.refl _ _
            · exact IsOut
          refine ⟨fun u W hb hd K hK => ?_, ?_⟩
          · clear hd
            go_simp
            apply hK
            · simp only [Act.put, List.setIfInBounds_toArray, List.set_cons_zero, List.set_cons_succ]
              exact rfl
            · exact Below.refl _ _
            · exact IsOut
          refine ⟨fun u W hb hd K hK => ?_, ?_⟩
          · simp only [Facts, nthR, Is, and_true] at hd
            simp only [hd] at hK ⊢
            clear hd
            go_simp
            apply hK
            · simp only [Act.put, List.setIfInBounds_toArray, List.set_cons_zero, List.set_cons_succ]
              exact rfl
            · exact Below.refl _ _
            · exact IsOut
          refine ⟨fun u W hb hd K hK => ?_, ?_⟩
          · clear hd
            go_simp
            apply hK
            · simp only [Act.put, List.setIfInBounds_toArray, List.set_cons_zero, List.set_cons_succ]
              exact rfl
            · exact Below.refl _ _
            · exact IsOut
          refine ⟨fun u W hb hd K hK => ?_, ?_⟩
          · simp only [Facts, nthR, Is, and_true] at hd
            simp only [hd] at hK ⊢
            clear hd
            go_simp
            apply hK
            · simp only [Act.put, List.setIfInBounds_toArray, List.set_cons_zero, List.set_cons_succ]
              exact rfl
            · exact Below.refl _ _
            · exact IsOut
          refine ⟨fun u W hb hd K hK => ?_, ?_⟩
          · simp only [Facts, nthR, Is, and_true] at hd
            simp only [hd] at hK ⊢
            clear hd
            go_simp
            apply hK
            · simp only [Act.put, List.setIfInBounds_toArray, List.set_cons_zero, List.set_cons_succ]
              exact rfl
            · exact Below.refl _ _
            · exact IsOut
          refine ⟨fun u W hb hd K hK => ?_, ?_⟩
          · simp only [Facts, nthR, Is, and_true] at hd
            simp only [hd] at hK ⊢
            clear hd
            go_simp
            apply hK
            · simp only [Act.put, List.setIfInBounds_toArray, List.set_cons_zero, List.set_cons_succ]
              exact rfl
            · exact Below.refl _ _
            · exact IsOut
          refine ⟨fun u W hb hd K hK => ?_, ?_⟩
          · simp only [Facts, nthR, Is, and_true] at hd
            simp only [hd] at hK ⊢
            clear hd
            go_simp
            apply hK
            · simp only [Act.put, List.setIfInBounds_toArray, List.set_cons_zero, List.set_cons_succ]
              exact rfl
            · exact Below.refl _ _
            · exact IsOut
          refine ⟨fun u W hb hd K hK => ?_, ?_⟩
          · simp only [Facts, nthR, Is, and_true] at hd
            simp only [hd] at hK ⊢
            clear hd
            go_simp
            apply hK
            · simp only [Act.put, List.setIfInBounds_toArray, List.set_cons_zero, List.set_cons_succ]
              exact rfl
            · exact Below.refl _ _
            · exact IsOut
          refine ⟨fun u W hb hd K hK => ?_, ?_⟩
          · clear hd
            go_simp
            apply hK
            · simp only [Act.put, List.setIfInBounds_toArray, List.set_cons_zero, List.set_cons_succ]
              exact rfl
            · exact Below.refl _ _
            · exact IsOut
          refine ⟨fun u W hb hd K hK => ?_, ?_⟩
          · simp only [Facts, nthR, Is, and_true] at hd
            simp only [hd] at hK ⊢
            clear hd
            go_simp
            apply hK
            · simp only [Act.put, List.setIfInBounds_toArray, List.set_cons_zero, List.set_cons_succ]
              exact rfl
            · exact Below.refl _ _
            · exact IsOut
          refine ⟨fun u W hb hd K hK => ?_, ?_⟩
          · simp only [Facts, nthR, Is, and_true] at hd
            simp only [hd] at hK ⊢
            clear hd
            go_simp
            apply hK
            · simp only [Act.put, List.setIfInBounds_toArray, List.set_cons_zero, List.set_cons_succ]
              exact rfl
            · exact Below.refl _ _
            · exact IsOut
          refine ⟨fun u W hb hd K hK => ?_, ?_⟩
          · simp only [Facts, nthR, Is, and_true] at hd
            simp only [hd] at hK ⊢
            clear hd
            go_simp
            apply hK
            · simp only [Act.put, List.setIfInBounds_toArray, List.set_cons_zero, List.set_cons_succ]
              exact rfl
            · exact Below.refl _ _
            · exact IsOut
          refine ⟨fun u W hb hd K hK => ?_, ?_⟩
          · simp only [Facts, nthR, Is, and_true] at hd
            simp only [hd] at hK ⊢
            clear hd
            go_simp
            apply hK
            · simp only [Act.put, List.setIfInBounds_toArray, List.set_cons_zero, List.set_cons_succ]
              exact rfl
            · exact Below.refl _ _
            · exact IsOut
          refine ⟨fun u W hb hd K hK => ?_, ?_⟩
          · simp only [Facts, nthR, Is, and_true] at hd
            simp only [hd] at hK ⊢
            clear hd
            go_simp
            apply hK
            · simp only [Act.put, List.setIfInBounds_toArray, List.set_cons_zero, List.set_cons_succ]
              exact rfl
            · exact Below.refl _ _
            · exact IsOut
          refine ⟨fun u W hb hd K hK => ?_, ?_⟩
          · simp only [Facts, nthR, Is, and_true] at hd
            simp only [hd] at hK ⊢
            clear hd
            go_simp
            apply hK
            · simp only [Act.put, List.setIfInBounds_toArray, List.set_cons_zero, List.set_cons_succ]
              exact rfl
            · exact Below.refl _ _
            · exact IsOut
          exact trivial
        · skip
          exact trivial
        · exact (.is (.is (.is (.is (.is (.is (.is (.is (.is (.is (.is (.is (.is (.is (.is (.is (.is (.is (.is (.is (.is (.is .nil))))))))))))))))))))))
        · intro u W hb hd
          simp only [List.drop_succ_cons, List.drop_zero]
          simp only [Facts, nthR, Is, and_true] at hd
          simp only [hd]
          clear hd
          replace hf := (hb.frozen (p := ⟨w.heap.size + 1 + 1, 2, none⟩) hlB).trans hf
          replace hc0 := (hb.cell (p := ⟨w.heap.size + 1 + 1, 2, none⟩) hlB).trans hc0
          replace hB := hB.below hb hlB
          replace hZ := hZ.below hb hlZ
          replace hR := hR.below hb hlR
          replace hbl := hbl.trans (hb.mono hbl.size)
          clear hb q1 q2 q3 q1' d0
          go_wp2
          refine NoPanic.normal ?_
          go_wp2
          go_roundw
          case rel =>
            refine ⟨3, by omega, by rfl, ?_, hZ.far (show w.heap.size + 1 ≠ w.heap.size + 1 + 1 by omega) _, hR.far (show w.heap.size ≠ w.heap.size + 1 + 1 by omega) _, hbl.setCell (show w.heap.size ≤ w.heap.size + 1 + 1 by omega) _⟩
            rw [show 3 = 2 + 1 from rfl, ← HST.out, ← map_set32]
            exact hB.set_ 2 _
          case measure => simp [intOf]
      · have hix1 := fun W => (show (Instr.index 73 (.agg (s.map U32).toArray) (.int .i64 3)).run Try.prog W = .ok (.int .u32 y0.toNat) W from hix W)
        simp only [Nat.reduceAdd, Nat.reduceMod] at q1 q2 q3 q1'
        have m2 : (IntKind.i64.wrap (5 : Int)).tmod 4 = 1 := by decide +kernel
        have m3 : (IntKind.i64.wrap (6 : Int)).tmod 4 = 2 := by decide +kernel
        clear hix
        go_wp2
        refine wp_region_noPanic ?_
        apply wp_region_once_tail (m := 22) (Z := []) (D := [[], [], [], [1, 2], [1, 2, 3], [1, 2, 3, 4], [1, 2, 3, 4, 5], [], [1, 2, 3, 4, 5, 6, 7], [], [9], [9, 10], [9, 10, 11], [9, 10, 11, 12], [1, 2, 3, 4, 5, 6, 7, 8, 9, 10, 11, 12, 13], [], [15], [15, 16], [15, 16, 17], [15, 16, 17, 18], [1, 2, 3, 4, 5, 6, 7, 8, 9, 10, 11, 12, 13, 14, 15, 16, 17, 18, 19], [0, 1, 2, 3, 4, 5, 6, 7, 8, 9, 10, 11, 12, 13, 14, 15, 16, 17, 18, 19, 20], [0, 1, 2, 3, 4, 5, 6, 7, 8, 9, 10, 11, 12, 13, 14, 15, 16, 17, 18, 19, 20, 21]]) (J := [[], [], [], [1, 2], [3], [4], [5], [], [6, 7], [], [9], [10], [11], [12], [8, 13], [], [15], [16], [17], [18], [14, 19], [0]]) (Je := [20, 21]) (Rs := [Is _, Is _, Is _, Is _, Is _, Is _, Is _, Is _, Is _, Is _, Is _, Is _, Is _, Is _, Is _, Is _, Is _, Is _, Is _, Is _, Is _, Is _])
        · kernel_rfl
        · kernel_rfl
        · kernel_rfl
        · kernel_rfl
        · kernel_rfl
        · kernel_rfl
        · kernel_rfl
        · exact fun h => absurd rfl h
        · intro u
          simp only [List.take_succ_cons, List.take_zero, List.map_cons, List.map_nil, fillU, List.setIfInBounds_toArray, List.set_cons_zero, List.set_cons_succ, Nat.zero_add, Nat.reduceAdd]
          exact rfl
        · simp only [List.take_succ_cons, List.take_zero]
          refine ⟨fun u W hb hd K hK => ?_, ?_⟩
          · clear hd
            go_simp
            apply hK
            · simp only [Act.put, List.setIfInBounds_toArray, List.set_cons_zero, List.set_cons_succ]
              exact rfl
            · exact Below.refl _ _
            · exact IsOut
          refine ⟨fun u W hb hd K hK => ?_, ?_⟩
          · clear hd
            go_simp
            apply hK
            · simp only [Act.put, List.setIfInBounds_toArray, List.set_cons_zero, List.set_cons_succ]
              exact rfl
            · exact Below.refl _ _
            · exact IsOut
          refine ⟨fun u W hb hd K hK => ?_, ?_⟩
          · clear hd
            go_simp
            apply hK
            · simp only [Act.put, List.setIfInBounds_toArray, List.set_cons_zero, List.set_cons_succ]
              exact rfl
            · exact Below.refl _ _
            · exact IsOut
          refine ⟨fun u W hb hd K hK => ?_, ?_⟩
          · simp only [Facts, nthR, Is, and_true] at hd
            simp only [hd] at hK ⊢
            clear hd
            go_simp
            apply hK
            · simp only [Act.put, List.setIfInBounds_toArray, List.set_cons_zero, List.set_cons_succ]
              exact rfl
            · exact Below.refl _ _
            · exact IsOut
          refine ⟨fun u W hb hd K hK => ?_, ?_⟩
          · simp only [Facts, nthR, Is, and_true] at hd
            simp only [hd] at hK ⊢
            clear hd
            go_simp
            apply hK
            · simp only [Act.put, List.setIfInBounds_toArray, List.set_cons_zero, List.set_cons_succ]
              exact rfl
            · exact Below.refl _ _
            · exact IsOut
          refine ⟨fun u W hb hd K hK => ?_, ?_⟩
          · simp only [Facts, nthR, Is, and_true] at hd
            simp only [hd] at hK ⊢
            clear hd
            go_simp
            with_reducible refine (d0 _).mono ?_
            rintro e wy ⟨rfl, hby⟩
            exact hK _ _ _ rfl hby IsOut
          refine ⟨fun u W hb hd K hK => ?_, ?_⟩
          · simp only [Facts, nthR, Is, and_true] at hd
            simp only [hd] at hK ⊢
            clear hd
            go_simp
            apply hK
            · simp only [Act.put, List.setIfInBounds_toArray, List.set_cons_zero, List.set_cons_succ]
              exact rfl
            · exact Below.refl _ _
            · exact IsOut
          refine ⟨fun u W hb hd K hK => ?_, ?_⟩
          · clear hd
            go_simp
            apply hK
            · simp only [Act.put, List.setIfInBounds_toArray, List.set_cons_zero, List.set_cons_succ]
              exact rfl
            · exact Below.refl _ _
            · exact IsOut
          refine ⟨fun u W hb hd K hK => ?_, ?_⟩
          · simp only [Facts, nthR, Is, and_true] at hd
            simp only [hd] at hK ⊢
            clear hd
            go_simp
            apply hK
            · simp only [Act.put, List.setIfInBounds_toArray, List.set_cons_zero, List.set_cons_succ]
              exact rfl
            · exact Below.refl _ _
            · exact IsOut
          refine ⟨fun u W hb hd K hK => ?_, ?_⟩
          · clear hd
            go_simp
            apply hK
            · simp only [Act.put, List.setIfInBounds_toArray, List.set_cons_zero, List.set_cons_succ]
              exact rfl
            · exact Below.refl _ _
            · exact IsOut
          refine ⟨fun u W hb hd K hK => ?_, ?_⟩
          · simp only [Facts, nthR, Is, and_true] at hd
            simp only [hd] at hK ⊢
            clear hd
            go_simp
            apply hK
            · simp only [Act.put, List.setIfInBounds_toArray, List.set_cons_zero, List.set_cons_succ]
              exact rfl
            · exact Below.refl _ _
            · exact IsOut
          refine ⟨fun u W hb hd K hK => ?_, ?_⟩
          · simp only [Facts, nthR, Is, and_true] at hd
            simp only [hd] at hK ⊢
            clear hd
            go_simp
            apply hK
            · simp only [Act.put, List.setIfInBounds_toArray, List.set_cons_zero, List.set_cons_succ]
              exact rfl
            · exact Below.refl _ _
            · exact IsOut
          refine ⟨fun u W hb hd K hK => ?_, ?_⟩
          · simp only [Facts, nthR, Is, and_true] at hd
            simp only [hd] at hK ⊢
            clear hd
            go_simp
            apply hK
            · simp only [Act.put, List.setIfInBounds_toArray, List.set_cons_zero, List.set_cons_succ]
              exact rfl
            · exact Below.refl _ _
            · exact IsOut
          refine ⟨fun u W hb hd K hK => ?_, ?_⟩
          · simp only [Facts, nthR, Is, and_true] at hd
            simp only [hd] at hK ⊢
            clear hd
            go_simp
            apply hK
            · simp only [Act.put, List.setIfInBounds_toArray, List.set_cons_zero, List.set_cons_succ]
              exact rfl
            · exact Below.refl _ _
            · exact IsOut
          refine ⟨fun u W hb hd K hK => ?_, ?_⟩
          · simp only [Facts, nthR, Is, and_true] at hd
            simp only [hd] at hK ⊢
            clear hd
            go_simp
            apply hK
            · simp only [Act.put, List.setIfInBounds_toArray, List.set_cons_zero, List.set_cons_succ]
              exact rfl
            · exact Below.refl _ _
            · exact IsOut
          refine ⟨fun u W hb hd K hK => ?_, ?_⟩
          · clear hd
            go_simp
            apply hK
            · simp only [Act.put, List.setIfInBounds_toArray, List.set_cons_zero, List.set_cons_succ]
              exact rfl
            · exact Below.refl _ _
            · exact IsOut
          refine ⟨fun u W hb hd K hK => ?_, ?_⟩
          · simp only [Facts, nthR, Is, and_true] at hd
            simp only [hd] at hK ⊢
            clear hd
            go_simp
            apply hK
            · simp only [Act.put, List.setIfInBounds_toArray, List.set_cons_zero, List.set_cons_succ]
              exact rfl
            · exact Below.refl _ _
            · exact IsOut
          refine ⟨fun u W hb hd K hK => ?_, ?_⟩
          · simp only [Facts, nthR, Is, and_true] at hd
            simp only [hd] at hK ⊢
            clear hd
            go_simp
            apply hK
            · simp only [Act.put, List.setIfInBounds_toArray, List.set_cons_zero, List.set_cons_succ]
              exact rfl
            · exact Below.refl _ _
            · exact IsOut
          refine ⟨fun u W hb hd K hK => ?_, ?_⟩
          · simp only [Facts, nthR, Is, and_true] at hd
            simp only [hd] at hK ⊢
            clear hd
            go_simp
            apply hK
            · simp only [Act.put, List.setIfInBounds_toArray, List.set_cons_zero, List.set_cons_succ]
              exact rfl
            · exact Below.refl _ _
            · exact IsOut
          refine ⟨fun u W hb hd K hK => ?_, ?_⟩
          · simp only [Facts, nthR, Is, and_true] at hd
            simp only [hd] at hK ⊢
            clear hd
            go_simp
            apply hK
            · simp only [Act.put, List.setIfInBounds_toArray, List.set_cons_zero, List.set_cons_succ]
              exact rfl
            · exact Below.refl _ _
            · exact IsOut
          refine ⟨fun u W hb hd K hK => ?_, ?_⟩
          · simp only [Facts, nthR, Is, and_true] at hd
            simp only [hd] at hK ⊢
            clear hd
            go_simp
            apply hK
            · simp only [Act.put, List.setIfInBounds_toArray, List.set_cons_zero, List.set_cons_succ]
              exact rfl
            · exact Below.refl _ _
            · exact IsOut
          refine ⟨fun u W hb hd K hK => ?_, ?_⟩
          · simp only [Facts, nthR, Is, and_true] at hd
            simp only [hd] at hK ⊢
            clear hd
            go_simp
            apply hK
            · simp only [Act.put, List.setIfInBounds_toArray, List.set_cons_zero, List.set_cons_succ]
              exact rfl
            · exact Below.refl _ _
            · exact IsOut
          exact trivial
        · skip
          exact trivial
        · exact (.is (.is (.is (.is (.is (.is (.is (.is (.is (.is (.is (.is (.is (.is (.is (.is (.is (.is (.is (.is (.is (.is .nil))))))))))))))))))))))
        · intro u W hb hd
          simp only [List.drop_succ_cons, List.drop_zero]
          simp only [Facts, nthR, Is, and_true] at hd
          simp only [hd]
          clear hd
          replace hf := (hb.frozen (p := ⟨w.heap.size + 1 + 1, 3, none⟩) hlB).trans hf
          replace hc0 := (hb.cell (p := ⟨w.heap.size + 1 + 1, 3, none⟩) hlB).trans hc0
          replace hB := hB.below hb hlB
          replace hZ := hZ.below hb hlZ
          replace hR := hR.below hb hlR
          replace hbl := hbl.trans (hb.mono hbl.size)
          clear hb q1 q2 q3 q1' d0
          go_wp2
          refine NoPanic.normal ?_
          go_wp2
          go_roundw
          case rel =>
            refine ⟨4, by omega, by rfl, ?_, hZ.far (show w.heap.size + 1 ≠ w.heap.size + 1 + 1 by omega) _, hR.far (show w.heap.size ≠ w.heap.size + 1 + 1 by omega) _, hbl.setCell (show w.heap.size ≤ w.heap.size + 1 + 1 by omega) _⟩
            rw [show 4 = 3 + 1 from rfl, ← HST.out, ← map_set32]
            exact hB.set_ 3 _
          case measure => simp [intOf]
    · have hd : decide ((k : Int) < 4) = false := by simp; omega
      obtain rfl : k = 4 := by omega
      rw [List.take_of_length_le (by rw [HXL.out]; omega), List.drop_eq_nil_of_le (show zero4.length ≤ 4 by decide), List.append_nil] at hB
      go_wp2_with (first
        | (refine wpList_load_blk rfl 73 (.tmp 3) rfl (w.heap.size + 1 + 1) rfl 73 _ _ hB Try.underlying73 rfl (infoSt.trans (by rw [List.length_map, HXL.out])) ?_)
        | (refine wpList_store_blk rfl 73 (.tmp 2) (.tmp 40) rfl rfl (w.heap.size + 1) _ rfl rfl 73 _ hZ (infoSt.trans (by rw [List.length_map, HXL.out])) (by rw [List.length_map, List.length_map, HXL.out]; rfl) (one32 _) ?_; intro w2 hA2 hg2))
      refine bodyPost_ret (v := .agg _) (results_cell_row rfl _ _ (w.heap.size + 1) 73 _ (0, 0) _ rfl hA2.raw Try.underlying73 rfl (infoSt.trans (by rw [List.size_toArray, List.length_map, HXL.out]))) rfl ⟨rfl, below_new hbl hg2 (by omega) hbl.size⟩
set_option maxRecDepth 100000 in
set_option maxHeartbeats 1000000 in
theorem unmixed_any (s : List UInt32) (hs : s.length = 4) (w : World) :
    Calls Try.prog 46 #[SV s] w fun e w' => e = .returned (SV (mixS (mixS (mixS s)))) ∧ Below w.heap.size w w' := by
  have l1 : (mixS s).length = 4 := mixS_length s
  have l2 : (mixS (mixS s)).length = 4 := mixS_length _
  have l3 : (mixS (mixS (mixS s))).length = 4 := mixS_length _
  have hz : ∀ W : World, (zeroValue 73).run Try.prog W = .ok (SV zero4) W := fun W => by kernel_rfl
  have c1 := fun W => mixed_any s hs W
  have c2 := fun W => mixed_any (mixS s) l1 W
  have c3 := fun W => mixed_any (mixS (mixS s)) l2 W
  generalize mixS (mixS (mixS s)) = s3 at *
  generalize mixS (mixS s) = s2 at *
  generalize mixS s = s1 at *
  have HS := Lib.hid hs
  have HL3 := Lib.hid l3
  have C1 := Lib.hid c1
  have C2 := Lib.hid c2
  have C3 := Lib.hid c3
  clear hs l1 l2 l3 c1 c2 c3
  go_enter Try.func46, Try.ntmps46
  have hZ0 := Blk.new2_of w (.cells (s.map U32).toArray 73) 73 (zero4.map U32).toArray (zero4.map U32) rfl
  have hb0 := ((Below.refl w.heap.size w).alloc (Nat.le_refl _) (.cells (s.map U32).toArray 73)).alloc (by simp) (.cells (zero4.map U32).toArray 73)
  go_wp2_with (first
    | (refine wpList_load_blk rfl 73 (.tmp 1) rfl w.heap.size rfl 73 _ _ ((Blk.new_of w 73 _ (s.map U32) (by rfl)).alloc _) Try.underlying73 rfl (infoSt.trans (by rw [List.length_map, HS.out])) ?_)
    | (go_at_call 42; with_reducible refine (C1.out _).mono ?_; rintro e w1 ⟨rfl, hb1⟩; have hZ1 := hZ0.below hb1 hZ0.lt; replace hb1 := hb0.trans (hb1.mono (by simp; omega)))
    | (go_at_call 42; with_reducible refine (C2.out _).mono ?_; rintro e w2 ⟨rfl, hb2⟩; have hZ2 := hZ1.below hb2 hZ1.lt; replace hb2 := hb1.trans (hb2.mono hb1.size))
    | (go_at_call 42; with_reducible refine (C3.out _).mono ?_; rintro e w3 ⟨rfl, hb3⟩; have hZ3 := hZ2.below hb3 hZ2.lt; replace hb3 := hb2.trans (hb3.mono hb2.size))
    | (refine wpList_store_blk rfl 73 (.tmp 2) (.tmp 6) rfl rfl (w.heap.size + 1) _ rfl rfl 73 _ hZ3 (infoSt.trans (by rw [List.length_map, HL3.out])) (by rw [List.length_map, List.length_map, HL3.out]; rfl) (one32 _) ?_; intro w4 hA4 hg4))
  refine bodyPost_ret (v := .agg _) (results_cell_row rfl _ _ (w.heap.size + 1) 73 _ (0, 0) _ rfl hA4.raw Try.underlying73 rfl (infoSt.trans (by rw [List.size_toArray, List.length_map, HL3.out]))) rfl ⟨rfl, below_new hb3 hg4 (by omega) hb3.size⟩
end Go.Proofs.Ytefbjhdcmgonbaa
