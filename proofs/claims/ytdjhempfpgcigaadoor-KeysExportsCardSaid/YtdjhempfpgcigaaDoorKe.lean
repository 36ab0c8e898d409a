/-
  The contracts of package keys: Early, next, Handshake, Master, Finish, Binder.
-/
import Derived.Test.YtdjhempfpgcigaaDoorLabelAll
import Derived.Test.YtdjhempfpgcigaaDoorMacs
import Derived.Test.YtdjhempfpgcigaaDoorFree
namespace Go.Proofs.YtdjhempfpgcigaaDoor
open Go.RowKit

def zero32 : List UInt8 := List.replicate 32 0
def sha0 : List UInt8 := sha []
/-- What the chapter makes of a secret by a name and a sum. -/
def deriveS (lab : List UInt8) (s m : List UInt8) : List UInt8 := expand s (labelInfo lab m 32) 32
def nextS (s f : List UInt8) : List UInt8 := hmac (deriveS [100, 101, 114, 105, 118, 101, 100] s sha0) f
def earlyS (p : List UInt8) : List UInt8 := hmac zero32 p
def finishS (t s : List UInt8) : List UInt8 := hmac (deriveS [102, 105, 110, 105, 115, 104, 101, 100] t []) s
def binderS (e s : List UInt8) : List UInt8 := finishS (deriveS [114, 101, 115, 32, 98, 105, 110, 100, 101, 114] e sha0) s
theorem deriveS_length (lab s m : List UInt8) : (deriveS lab s m).length = 32 := expand_length _ _ _
theorem nextS_length (s f : List UInt8) : (nextS s f).length = 32 := hmac_length _ _
theorem earlyS_length (p : List UInt8) : (earlyS p).length = 32 := hmac_length _ _
theorem finishS_length (t s : List UInt8) : (finishS t s).length = 32 := hmac_length _ _
theorem binderS_length (e s : List UInt8) : (binderS e s).length = 32 := finishS_length _ _
theorem sha0_length : sha0.length = 32 := sha_length _
theorem zero32_length : zero32.length = 32 := rfl

theorem of_nil (w : World) (ht : Tabs w) : Calls Tryd.prog 25 #[.slice none 0 0] w fun e w' => e = .returned (.agg (sha0.map B8).toArray) ∧ Below w.heap.size w w' := by
  have := Of_any 0 none [] w (by decide) (by decide) (by omega) (fun g hg h0 => absurd h0 (by simp)) ht
  simpa [sha0] using this
theorem derive_lab (lab s m : List UInt8) (w : World) (hs : s.length = 32) (hm : m.length = 32) (hl : lab.length ≤ 249) (ht : Tabs w) :
    Calls Tryd.prog 26 #[.agg (s.map B8).toArray, .string ⟨lab.toArray⟩, .agg (m.map B8).toArray] w fun e w' => e = .returned (.agg ((deriveS lab s m).map B8).toArray) ∧ Below w.heap.size w w' := derive_any s lab m w hs hm hl ht
theorem in_of_blk {w W : World} {g : Nat} {t : TypeId} {xs : List UInt8} (h : Blk w g t (xs.map B8)) (hn : xs.length = 32) (hb : Below w.heap.size w W) : In W W.heap.size (some ⟨g, 0, none⟩) 32 xs :=
  in_blk (h.below hb h.lt) hn (by omega)
theorem extract_two {w W : World} {g g' : Nat} {t t' : TypeId} {x y z : List UInt8} (h : Blk w g t (x.map B8)) (h' : Blk w g' t' (y.map B8)) (hx : x.length = 32) (hy : y.length = 32) (hz : z = hmac x y) (ht : Tabs w) (hb : Below w.heap.size w W) :
    Calls Tryd.prog 29 #[.slice (some ⟨g, 0, none⟩) 32 32, .slice (some ⟨g', 0, none⟩) 32 32] W fun e w' => e = .returned (.agg (z.map B8).toArray) ∧ Below W.heap.size W w' :=
  extract_here (in_of_blk h hx hb) hx (in_of_blk h' hy hb) hy (by omega) (by omega) hz (ht.below hb)

set_option maxRecDepth 100000 in
set_option maxHeartbeats 1000000 in
theorem early_any (p : List UInt8) (w : World) (hp : p.length = 32) (ht : Tabs w) :
    Calls Tryd.prog 7 #[.agg (p.map B8).toArray] w fun e w' => e = .returned (.agg ((earlyS p).map B8).toArray) ∧ Below w.heap.size w w' := by
  have hxl := earlyS_length p
  have hx0 : earlyS p = hmac zero32 p := rfl
  obtain ⟨X, hX⟩ : ∃ X, X = earlyS p := ⟨_, rfl⟩
  rw [← hX] at hxl hx0 ⊢
  have hz : ∀ W : World, (zeroValue 22).run Tryd.prog W = .ok (.agg (zero32.map B8).toArray) W := fun W => by kernel_rfl
  obtain ⟨Z, hZ⟩ : ∃ Z, Z = zero32 := ⟨_, rfl⟩
  have HZL := Lib.hid (show Z.length = 32 by rw [hZ]; rfl)
  rw [← hZ] at hz
  rw [← hZ] at hx0
  have HX := Lib.hid hx0
  have HXL := Lib.hid hxl
  have HP := Lib.hid hp
  clear hX hx0 hxl hp hZ
  go_enter Tryd.func7, Tryd.ntmps7
  go_wp2
  clear hz
  have hA : Blk (((w.alloc (.cells (p.map B8).toArray 22)).alloc (.cells (Z.map B8).toArray 22)).alloc (.cells (Z.map B8).toArray 22)) w.heap.size 22 _ := ((Blk.new_of w 22 _ _ rfl).alloc _).alloc _
  have hB : Blk (((w.alloc (.cells (p.map B8).toArray 22)).alloc (.cells (Z.map B8).toArray 22)).alloc (.cells (Z.map B8).toArray 22)) (w.heap.size + 1) 22 _ := (Blk.new2_of w (.cells (p.map B8).toArray 22) 22 _ _ rfl).alloc _
  have hC : Blk (((w.alloc (.cells (p.map B8).toArray 22)).alloc (.cells (Z.map B8).toArray 22)).alloc (.cells (Z.map B8).toArray 22)) (w.heap.size + 1 + 1) 22 _ := Blk.new3_of w (.cells (p.map B8).toArray 22) (.cells (Z.map B8).toArray 22) 22 _ _ rfl
  have hbw : Below w.heap.size w (((w.alloc (.cells (p.map B8).toArray 22)).alloc (.cells (Z.map B8).toArray 22)).alloc (.cells (Z.map B8).toArray 22)) := (((Below.refl w.heap.size w).alloc (Nat.le_refl _) _).alloc (by simp) _).alloc (by simp; omega) _
  have hl1 : w.heap.size ≤ w.heap.size + 1 := by omega
  have hl2 : w.heap.size ≤ w.heap.size + 1 + 1 := by omega
  generalize w.heap.size + 1 + 1 = gc at *
  generalize w.heap.size + 1 = gb at *
  generalize ((w.alloc (.cells (p.map B8).toArray 22)).alloc (.cells (Z.map B8).toArray 22)).alloc (.cells (Z.map B8).toArray 22) = w1 at *
  replace ht := ht.below hbw
  apply wp_region_once_tail (m := 3) (Z := []) (D := [[], [], [0, 1], [0, 1, 2]]) (J := [[], [], [0, 1]]) (Je := [2]) (Rs := [Is _, Is _, Is _])
  · kernel_rfl
  · kernel_rfl
  · kernel_rfl
  · kernel_rfl
  · kernel_rfl
  · kernel_rfl
  · kernel_rfl
  · exact fun h => absurd rfl h
  · intro u
    simp only [List.take_succ_cons, List.take_zero, List.map_cons, List.map_nil, fillU, List.setIfInBounds_toArray, List.set_cons_zero, List.set_cons_succ, Nat.zero_add, Nat.reduceAdd]
    exact rfl
  · simp only [List.take_succ_cons, List.take_zero]
    refine ⟨fun u W hb hd K hK => ?_, ?_⟩
    · clear hd
      go_simp
      apply hK
      · simp only [Act.put, List.setIfInBounds_toArray, List.set_cons_zero, List.set_cons_succ]
        exact rfl
      · exact Below.refl _ _
      · exact IsOut
    refine ⟨fun u W hb hd K hK => ?_, ?_⟩
    · clear hd
      go_simp
      apply hK
      · simp only [Act.put, List.setIfInBounds_toArray, List.set_cons_zero, List.set_cons_succ]
        exact rfl
      · exact Below.refl _ _
      · exact IsOut
    refine ⟨fun u W hb hd K hK => ?_, ?_⟩
    · simp only [Facts, nthR, Is, and_true] at hd
      simp only [hd] at hK ⊢
      clear hd
      go_simp
      refine (extract_two hC hA HZL.out HP.out HX.out ht hb).mono ?_
      rintro e wy ⟨rfl, hby⟩
      exact hK _ _ _ rfl hby IsOut
    exact trivial
  · skip
    exact trivial
  · exact (.is (.is (.is .nil)))
  · intro u W hb hd
    simp only [List.drop_succ_cons, List.drop_zero]
    simp only [Facts, nthR, Is, and_true] at hd
    simp only [hd]
    clear hd
    replace hB := hB.below hb hB.lt
    replace hbw := hbw.trans (hb.mono hbw.size)
    clear hb hA hC
    go_wp2_with (refine wpList_store_blk rfl 22 (.tmp 2) (.tmp 6) rfl rfl (gb) _ rfl rfl 22 _ hB (info32.trans (by rw [List.length_map, HXL.out])) (by rw [List.length_map, List.length_map, HXL.out, HZL.out]) (one8 _) ?_; intro w7 hR7 hg7)
    go_wp2
    refine bodyPost_ret (v := .agg _) (results_cell_row rfl _ _ (gb) 22 _ (0, 0) _ rfl hR7.raw Tryd.underlying22 rfl (info32.trans (by rw [List.size_toArray, List.length_map, HXL.out]))) rfl ⟨rfl, below_new hbw hg7 hl1 hbw.size⟩

set_option maxRecDepth 100000 in
set_option maxHeartbeats 1000000 in
theorem next_any (s f : List UInt8) (w : World) (hs : s.length = 32) (hf : f.length = 32) (ht : Tabs w) :
    Calls Tryd.prog 31 #[.agg (s.map B8).toArray, .agg (f.map B8).toArray] w fun e w' => e = .returned (.agg ((nextS s f).map B8).toArray) ∧ Below w.heap.size w w' := by
  have hxl := nextS_length s f
  obtain ⟨D, hD⟩ : ∃ D, D = deriveS [100, 101, 114, 105, 118, 101, 100] s sha0 := ⟨_, rfl⟩
  have hx0 : nextS s f = hmac D f := by rw [hD]; rfl
  have hder : ∀ W : World, Tabs W → Calls Tryd.prog 26 #[.agg (s.map B8).toArray, .string ⟨#[100, 101, 114, 105, 118, 101, 100]⟩, .agg (sha0.map B8).toArray] W fun e w' => e = .returned (.agg (D.map B8).toArray) ∧ Below W.heap.size W w' := fun W hW => by
    rw [hD]
    exact derive_lab [100, 101, 114, 105, 118, 101, 100] s sha0 W hs sha0_length (by decide) hW
  have hdl : D.length = 32 := by rw [hD]; exact deriveS_length _ _ _
  obtain ⟨X, hX⟩ : ∃ X, X = nextS s f := ⟨_, rfl⟩
  rw [← hX] at hxl hx0 ⊢
  have hz : ∀ W : World, (zeroValue 22).run Tryd.prog W = .ok (.agg (zero32.map B8).toArray) W := fun W => by kernel_rfl
  obtain ⟨Z, hZ⟩ : ∃ Z, Z = zero32 := ⟨_, rfl⟩
  have HZL := Lib.hid (show Z.length = 32 by rw [hZ]; rfl)
  rw [← hZ] at hz
  have HX := Lib.hid hx0
  have HXL := Lib.hid hxl
  have HS := Lib.hid hs
  have HF := Lib.hid hf
  have HD := Lib.hid hdl
  have HDE := Lib.hid hder
  clear hX hx0 hxl hs hf hZ hD hdl hder
  go_enter Tryd.func31, Tryd.ntmps31
  go_wp2
  have hA : Blk (((w.alloc (.cells (s.map B8).toArray 22)).alloc (.cells (f.map B8).toArray 22)).alloc (.cells (Z.map B8).toArray 22)) w.heap.size 22 _ := ((Blk.new_of w 22 _ _ rfl).alloc _).alloc _
  have hB : Blk (((w.alloc (.cells (s.map B8).toArray 22)).alloc (.cells (f.map B8).toArray 22)).alloc (.cells (Z.map B8).toArray 22)) (w.heap.size + 1) 22 _ := (Blk.new2_of w (.cells (s.map B8).toArray 22) 22 _ _ rfl).alloc _
  have hC : Blk (((w.alloc (.cells (s.map B8).toArray 22)).alloc (.cells (f.map B8).toArray 22)).alloc (.cells (Z.map B8).toArray 22)) (w.heap.size + 1 + 1) 22 _ := Blk.new3_of w (.cells (s.map B8).toArray 22) (.cells (f.map B8).toArray 22) 22 _ _ rfl
  have hbw : Below w.heap.size w (((w.alloc (.cells (s.map B8).toArray 22)).alloc (.cells (f.map B8).toArray 22)).alloc (.cells (Z.map B8).toArray 22)) := (((Below.refl w.heap.size w).alloc (Nat.le_refl _) _).alloc (by simp) _).alloc (by simp; omega) _
  have hl1 : w.heap.size ≤ w.heap.size + 1 := by omega
  have hl2 : w.heap.size ≤ w.heap.size + 1 + 1 := by omega
  generalize w.heap.size + 1 + 1 = gc at *
  generalize w.heap.size + 1 = gb at *
  generalize ((w.alloc (.cells (s.map B8).toArray 22)).alloc (.cells (f.map B8).toArray 22)).alloc (.cells (Z.map B8).toArray 22) = w1 at *
  replace ht := ht.below hbw
  apply wp_region_once_tail (m := 4) (Z := []) (D := [[], [], [0, 1], [], [0, 1, 2, 3]]) (J := [[], [], [0, 1], []]) (Je := [2, 3]) (Rs := [Is _, Is _, Is _, fun v V => ∃ g, v = .pointer (some ⟨g, 0, none⟩) ∧ w1.heap.size ≤ g ∧ Blk V g 22 (Z.map B8)])
  · kernel_rfl
  · kernel_rfl
  · kernel_rfl
  · kernel_rfl
  · kernel_rfl
  · kernel_rfl
  · kernel_rfl
  · exact fun h => absurd rfl h
  · intro u
    simp only [List.take_succ_cons, List.take_zero, List.map_cons, List.map_nil, fillU, List.setIfInBounds_toArray, List.set_cons_zero, List.set_cons_succ, Nat.zero_add, Nat.reduceAdd]
    exact rfl
  · simp only [List.take_succ_cons, List.take_zero]
    refine ⟨fun u W hb hd K hK => ?_, ?_⟩
    · clear hd
      rw [if_pos (by rfl)]
      refine wp_load_mid 22 (.tmp 2) rfl (w.heap.size) 0 rfl (s.map B8) _ (rangeAt_of_blk (hA.below hb hA.lt)) Tryd.underlying22 rfl (info32.trans (by rw [List.length_map, HS.out])) ?_
      exact hK _ _ _ rfl (Below.refl _ _) IsOut
    refine ⟨fun u W hb hd K hK => ?_, ?_⟩
    · clear hd
      go_simp
      refine (of_nil _ (ht.below hb)).mono ?_
      rintro e wy ⟨rfl, hby⟩
      exact hK _ _ _ rfl hby IsOut
    refine ⟨fun u W hb hd K hK => ?_, ?_⟩
    · simp only [Facts, nthR, Is, and_true] at hd
      simp only [hd] at hK ⊢
      clear hd
      go_simp
      refine (HDE.out _ (ht.below hb)).mono ?_
      rintro e wy ⟨rfl, hby⟩
      exact hK _ _ _ rfl hby IsOut
    refine ⟨fun u W hb hd K hK => ?_, ?_⟩
    · clear hd
      go_simp
      apply hK
      · simp only [Act.put, List.setIfInBounds_toArray, List.set_cons_zero, List.set_cons_succ]
        exact rfl
      · exact (Below.refl _ _).alloc (Nat.le_refl _) _
      · exact ⟨_, rfl, hb.size, Blk.new_of _ _ _ _ (by rfl)⟩
    exact trivial
  · skip
    exact trivial
  · exact (.is (.is (.is (.cons (fun v V V' ⟨g, h1, h2, h3⟩ hb => ⟨g, h1, h2, h3.below hb h3.lt⟩) .nil))))
  · intro u W hb hd
    simp only [List.drop_succ_cons, List.drop_zero]
    simp only [Facts, nthR, Is, and_true] at hd
    obtain ⟨h2, g, h3, hgl, hG⟩ := hd
    simp only [h2, h3]
    clear h2 h3 hz
    go_wp2_with (refine wpList_store_blk rfl 22 (.tmp 5) (.tmp 8) rfl rfl (g) _ rfl rfl 22 _ hG (info32.trans (by rw [List.length_map, HD.out])) (by rw [List.length_map, List.length_map, HD.out, HZL.out]) (one8 _) ?_; intro w7 hR7 hg7)
    have hbT := below_new hb hg7 hgl hb.size
    replace hB := hB.below hbT hB.lt
    replace hC := hC.below hbT hC.lt
    replace ht := ht.below hbT
    replace hbw := hbw.trans (hbT.mono hbw.size)
    clear hb hA hG hg7 hbT hgl
    apply wp_region_once_tail (m := 3) (Z := []) (D := [[], [], [0, 1], [0, 1, 2]]) (J := [[], [], [0, 1]]) (Je := [2]) (Rs := [Is _, Is _, Is _])
    · kernel_rfl
    · kernel_rfl
    · kernel_rfl
    · kernel_rfl
    · kernel_rfl
    · kernel_rfl
    · kernel_rfl
    · exact fun h => absurd rfl h
    · intro u
      simp only [List.take_succ_cons, List.take_zero, List.map_cons, List.map_nil, fillU, List.setIfInBounds_toArray, List.set_cons_zero, List.set_cons_succ, Nat.zero_add, Nat.reduceAdd]
      exact rfl
    · simp only [List.take_succ_cons, List.take_zero]
      refine ⟨fun u W hb hd K hK => ?_, ?_⟩
      · clear hd
        go_simp
        apply hK
        · simp only [Act.put, List.setIfInBounds_toArray, List.set_cons_zero, List.set_cons_succ]
          exact rfl
        · exact Below.refl _ _
        · exact IsOut
      refine ⟨fun u W hb hd K hK => ?_, ?_⟩
      · clear hd
        go_simp
        apply hK
        · simp only [Act.put, List.setIfInBounds_toArray, List.set_cons_zero, List.set_cons_succ]
          exact rfl
        · exact Below.refl _ _
        · exact IsOut
      refine ⟨fun u W hb hd K hK => ?_, ?_⟩
      · simp only [Facts, nthR, Is, and_true] at hd
        simp only [hd] at hK ⊢
        clear hd
        go_simp
        refine (extract_two hR7 hB HD.out HF.out HX.out ht hb).mono ?_
        rintro e wy ⟨rfl, hby⟩
        exact hK _ _ _ rfl hby IsOut
      exact trivial
    · skip
      exact trivial
    · exact (.is (.is (.is .nil)))
    · intro u W hb hd
      simp only [List.drop_succ_cons, List.drop_zero]
      simp only [Facts, nthR, Is, and_true] at hd
      simp only [hd]
      clear hd
      replace hC := hC.below hb hC.lt
      replace hbw := hbw.trans (hb.mono hbw.size)
      clear hb hB hR7
      go_wp2_with (refine wpList_store_blk rfl 22 (.tmp 4) (.tmp 11) rfl rfl (gc) _ rfl rfl 22 _ hC (info32.trans (by rw [List.length_map, HXL.out])) (by rw [List.length_map, List.length_map, HXL.out, HZL.out]) (one8 _) ?_; intro w8 hR8 hg8)
      go_wp2
      refine bodyPost_ret (v := .agg _) (results_cell_row rfl _ _ (gc) 22 _ (0, 0) _ rfl hR8.raw Tryd.underlying22 rfl (info32.trans (by rw [List.size_toArray, List.length_map, HXL.out]))) rfl ⟨rfl, below_new hbw hg8 hl2 hbw.size⟩

set_option maxRecDepth 100000 in
set_option maxHeartbeats 1000000 in
theorem handshake_any (s f : List UInt8) (w : World) (hs : s.length = 32) (hf : f.length = 32) (ht : Tabs w) :
    Calls Tryd.prog 8 #[.agg (s.map B8).toArray, .agg (f.map B8).toArray] w fun e w' => e = .returned (.agg ((nextS s f).map B8).toArray) ∧ Below w.heap.size w w' := by
  have hnx := fun (W : World) (h : Tabs W) => next_any s f W hs hf h
  have hxl := nextS_length s f
  obtain ⟨X, hX⟩ : ∃ X, X = nextS s f := ⟨_, rfl⟩
  rw [← hX] at hxl ⊢
  rw [← hX] at hnx
  have hz : ∀ W : World, (zeroValue 22).run Tryd.prog W = .ok (.agg (zero32.map B8).toArray) W := fun W => by kernel_rfl
  obtain ⟨Z, hZ⟩ : ∃ Z, Z = zero32 := ⟨_, rfl⟩
  have HZL := Lib.hid (show Z.length = 32 by rw [hZ]; rfl)
  rw [← hZ] at hz
  have HN := Lib.hid hnx
  have HXL := Lib.hid hxl
  have HS := Lib.hid hs
  have HF := Lib.hid hf
  clear hX hxl hs hf hZ hnx
  go_enter Tryd.func8, Tryd.ntmps8
  have hA : Blk (((w.alloc (.cells (s.map B8).toArray 22)).alloc (.cells (f.map B8).toArray 22)).alloc (.cells (Z.map B8).toArray 22)) w.heap.size 22 _ := ((Blk.new_of w 22 _ _ rfl).alloc _).alloc _
  have hB : Blk (((w.alloc (.cells (s.map B8).toArray 22)).alloc (.cells (f.map B8).toArray 22)).alloc (.cells (Z.map B8).toArray 22)) (w.heap.size + 1) 22 _ := (Blk.new2_of w (.cells (s.map B8).toArray 22) 22 _ _ rfl).alloc _
  have hC : Blk (((w.alloc (.cells (s.map B8).toArray 22)).alloc (.cells (f.map B8).toArray 22)).alloc (.cells (Z.map B8).toArray 22)) (w.heap.size + 1 + 1) 22 _ := Blk.new3_of w (.cells (s.map B8).toArray 22) (.cells (f.map B8).toArray 22) 22 _ _ rfl
  have hbw : Below w.heap.size w (((w.alloc (.cells (s.map B8).toArray 22)).alloc (.cells (f.map B8).toArray 22)).alloc (.cells (Z.map B8).toArray 22)) := (((Below.refl w.heap.size w).alloc (Nat.le_refl _) _).alloc (by simp) _).alloc (by simp; omega) _
  have hl1 : w.heap.size ≤ w.heap.size + 1 := by omega
  have hl2 : w.heap.size ≤ w.heap.size + 1 + 1 := by omega
  go_wp2_with (first
    | ((with_reducible refine (?_ : wpList _ _ _ (Oper.mk (some 5) _ _ _ _ _ :: _) _ _)); go_loud (refine wpList_load_blk rfl 22 (.tmp 2) rfl (w.heap.size) rfl 22 _ _ hA Tryd.underlying22 rfl (info32.trans (by rw [List.length_map, HS.out])) ?_))
    | ((with_reducible refine (?_ : wpList _ _ _ (Oper.mk (some 6) _ _ _ _ _ :: _) _ _)); go_loud (refine wpList_load_blk rfl 22 (.tmp 3) rfl (w.heap.size + 1) rfl 22 _ _ hB Tryd.underlying22 rfl (info32.trans (by rw [List.length_map, HF.out])) ?_))
    | (go_at_call 31; refine (HN.out _ (ht.below hbw)).mono ?_; rintro e w2 ⟨rfl, hb2⟩; have hC2 := hC.below hb2 hC.lt; have hbw2 := hbw.trans (hb2.mono hbw.size))
    | (refine wpList_store_blk rfl 22 (.tmp 4) (.tmp 7) rfl rfl (w.heap.size + 1 + 1) _ rfl rfl 22 _ hC2 (info32.trans (by rw [List.length_map, HXL.out])) (by rw [List.length_map, List.length_map, HXL.out, HZL.out]) (one8 _) ?_; intro w7 hR7 hg7))
  refine bodyPost_ret (v := .agg _) (results_cell_row rfl _ _ (w.heap.size + 1 + 1) 22 _ (0, 0) _ rfl hR7.raw Tryd.underlying22 rfl (info32.trans (by rw [List.size_toArray, List.length_map, HXL.out]))) rfl ⟨rfl, below_new hbw2 hg7 hl2 hbw2.size⟩

set_option maxRecDepth 100000 in
set_option maxHeartbeats 1000000 in
theorem master_any (s : List UInt8) (w : World) (hs : s.length = 32) (ht : Tabs w) :
    Calls Tryd.prog 9 #[.agg (s.map B8).toArray] w fun e w' => e = .returned (.agg ((nextS s zero32).map B8).toArray) ∧ Below w.heap.size w w' := by
  have hnx := fun (W : World) (h : Tabs W) => next_any s zero32 W hs zero32_length h
  have hxl := nextS_length s zero32
  obtain ⟨X, hX⟩ : ∃ X, X = nextS s zero32 := ⟨_, rfl⟩
  rw [← hX] at hxl ⊢
  rw [← hX] at hnx
  have hz : ∀ W : World, (zeroValue 22).run Tryd.prog W = .ok (.agg (zero32.map B8).toArray) W := fun W => by kernel_rfl
  obtain ⟨Z, hZ⟩ : ∃ Z, Z = zero32 := ⟨_, rfl⟩
  have HZL := Lib.hid (show Z.length = 32 by rw [hZ]; rfl)
  rw [← hZ] at hz
  rw [← hZ] at hnx
  have HN := Lib.hid hnx
  have HXL := Lib.hid hxl
  have HS := Lib.hid hs
  clear hX hxl hs hZ hnx
  have hA : Blk ((w.alloc (.cells (s.map B8).toArray 22)).alloc (.cells (Z.map B8).toArray 22)) w.heap.size 22 _ := (Blk.new_of w 22 _ _ rfl).alloc _
  have hB : Blk ((w.alloc (.cells (s.map B8).toArray 22)).alloc (.cells (Z.map B8).toArray 22)) (w.heap.size + 1) 22 _ := Blk.new2_of w (.cells (s.map B8).toArray 22) 22 _ _ rfl
  have hbw : Below w.heap.size w ((w.alloc (.cells (s.map B8).toArray 22)).alloc (.cells (Z.map B8).toArray 22)) := ((Below.refl w.heap.size w).alloc (Nat.le_refl _) _).alloc (by simp) _
  go_enter Tryd.func9, Tryd.ntmps9
  go_wp2_with (first
    | ((with_reducible refine (?_ : wpList _ _ _ (Oper.mk (some 3) _ _ _ _ _ :: _) _ _)); go_loud (refine wpList_load_blk rfl 22 (.tmp 1) rfl (w.heap.size) rfl 22 _ _ hA Tryd.underlying22 rfl (info32.trans (by rw [List.length_map, HS.out])) ?_))
    | (go_at_call 31; refine (HN.out _ (ht.below hbw)).mono ?_; rintro e w2 ⟨rfl, hb2⟩; have hB2 := hB.below hb2 hB.lt; have hbw2 := hbw.trans (hb2.mono hbw.size))
    | (refine wpList_store_blk rfl 22 (.tmp 2) (.tmp 5) rfl rfl (w.heap.size + 1) _ rfl rfl 22 _ hB2 (info32.trans (by rw [List.length_map, HXL.out])) (by rw [List.length_map, List.length_map, HXL.out, HZL.out]) (one8 _) ?_; intro w7 hR7 hg7))
  refine bodyPost_ret (v := .agg _) (results_cell_row rfl _ _ (w.heap.size + 1) 22 _ (0, 0) _ rfl hR7.raw Tryd.underlying22 rfl (info32.trans (by rw [List.size_toArray, List.length_map, HXL.out]))) rfl ⟨rfl, below_new hbw2 hg7 (by omega) hbw2.size⟩

theorem label_fin (t : List UInt8) (w : World) (hk : t.length = 32) (ht : Tabs w) :
    Calls Tryd.prog 27 #[.agg (t.map B8).toArray, .string ⟨#[102, 105, 110, 105, 115, 104, 101, 100]⟩, .slice none 0 0, .int .i64 32] w fun e w' => ∃ g, e = .returned (.tuple #[.slice (some ⟨g, 0, none⟩) 32 32, .int .i64 0]) ∧ w.heap.size ≤ g ∧ Blk w' g 5 ((deriveS [102, 105, 110, 105, 115, 104, 101, 100] t []).map B8) ∧ Below w.heap.size w w' :=
  label_any none 0 32 t [102, 105, 110, 105, 115, 104, 101, 100] [] w hk ⟨Nat.le_refl _, by omega, fun h => absurd h (by simp)⟩ (by decide) (by decide) (by decide) ht
set_option maxRecDepth 100000 in
set_option maxHeartbeats 1000000 in
theorem finish_any (t s : List UInt8) (w : World) (hk : t.length = 32) (hs : s.length = 32) (ht : Tabs w) :
    Calls Tryd.prog 15 #[.agg (t.map B8).toArray, .agg (s.map B8).toArray] w fun e w' => e = .returned (.agg ((finishS t s).map B8).toArray) ∧ Below w.heap.size w w' := by
  have hfin := fun (W : World) (h : Tabs W) => label_fin t W hk h
  have hdl := deriveS_length [102, 105, 110, 105, 115, 104, 101, 100] t []
  have hxl := finishS_length t s
  have hx0 : finishS t s = hmac (deriveS [102, 105, 110, 105, 115, 104, 101, 100] t []) s := rfl
  obtain ⟨X, hX⟩ : ∃ X, X = finishS t s := ⟨_, rfl⟩
  rw [← hX] at hxl hx0 ⊢
  obtain ⟨D, hD⟩ : ∃ D, D = deriveS [102, 105, 110, 105, 115, 104, 101, 100] t [] := ⟨_, rfl⟩
  rw [← hD] at hx0 hdl
  simp only [← hD] at hfin
  have hz : ∀ W : World, (zeroValue 22).run Tryd.prog W = .ok (.agg (zero32.map B8).toArray) W := fun W => by kernel_rfl
  obtain ⟨Z, hZ⟩ : ∃ Z, Z = zero32 := ⟨_, rfl⟩
  have HZL := Lib.hid (show Z.length = 32 by rw [hZ]; rfl)
  rw [← hZ] at hz
  have HN := Lib.hid hfin
  have HX := Lib.hid hx0
  have HXL := Lib.hid hxl
  have HDL := Lib.hid hdl
  have HS := Lib.hid hs
  have HT := Lib.hid hk
  clear hX hx0 hxl hdl hs hk hZ hD hfin
  go_enter Tryd.func15, Tryd.ntmps15
  have hA : Blk (((w.alloc (.cells (t.map B8).toArray 22)).alloc (.cells (s.map B8).toArray 22)).alloc (.cells (Z.map B8).toArray 22)) w.heap.size 22 _ := ((Blk.new_of w 22 _ _ rfl).alloc _).alloc _
  have hB : Blk (((w.alloc (.cells (t.map B8).toArray 22)).alloc (.cells (s.map B8).toArray 22)).alloc (.cells (Z.map B8).toArray 22)) (w.heap.size + 1) 22 _ := (Blk.new2_of w (.cells (t.map B8).toArray 22) 22 _ _ rfl).alloc _
  have hC : Blk (((w.alloc (.cells (t.map B8).toArray 22)).alloc (.cells (s.map B8).toArray 22)).alloc (.cells (Z.map B8).toArray 22)) (w.heap.size + 1 + 1) 22 _ := Blk.new3_of w (.cells (t.map B8).toArray 22) (.cells (s.map B8).toArray 22) 22 _ _ rfl
  have hbw : Below w.heap.size w (((w.alloc (.cells (t.map B8).toArray 22)).alloc (.cells (s.map B8).toArray 22)).alloc (.cells (Z.map B8).toArray 22)) := (((Below.refl w.heap.size w).alloc (Nat.le_refl _) _).alloc (by simp) _).alloc (by simp; omega) _
  have hl1 : w.heap.size ≤ w.heap.size + 1 := by omega
  have hl2 : w.heap.size ≤ w.heap.size + 1 + 1 := by omega
  go_wp2_with (first
    | ((with_reducible refine (?_ : wpList _ _ _ (Oper.mk (some 8) _ _ _ _ _ :: _) _ _)); go_loud (refine wpList_load_blk rfl 22 (.tmp 2) rfl (w.heap.size) rfl 22 _ _ hA Tryd.underlying22 rfl (info32.trans (by rw [List.length_map, HT.out])) ?_))
    | (go_at_call 27; refine (HN.out _ (ht.below hbw)).mono ?_; rintro e w2 ⟨g, rfl, hg, hG, hb2⟩; have hB2 := hB.below hb2 hB.lt; have hC2 := hC.below hb2 hC.lt; have hbw2 := hbw.trans (hb2.mono hbw.size); have hal := (Below.refl w2.heap.size w2).alloc (Nat.le_refl _) (.cells #[.slice (some ⟨w.heap.size + 1, 0, none⟩) 32 32] 26))
    | (go_at_call 30; refine (mac_one (in_of_blk hG HDL.out hal) HDL.out (in_of_blk hB2 HS.out hal) HS.out (new_cell _ _ _) (by omega) (by omega) HX.out (ht.below (hbw2.trans (hal.mono hbw2.size)))).mono ?_; rintro e w3 ⟨rfl, hb3⟩; have hC3 := hC2.below (hal.trans (hb3.mono hal.size)) hC2.lt; have hbw3 := (hbw2.trans (hal.mono hbw2.size)).trans (hb3.mono (hbw2.trans (hal.mono hbw2.size)).size))
    | (refine wpList_store_blk rfl 22 (.tmp 4) (.tmp 15) rfl rfl (w.heap.size + 1 + 1) _ rfl rfl 22 _ hC3 (info32.trans (by rw [List.length_map, HXL.out])) (by rw [List.length_map, List.length_map, HXL.out, HZL.out]) (one8 _) ?_; intro w7 hR7 hg7))
  refine bodyPost_ret (v := .agg _) (results_cell_row rfl _ _ (w.heap.size + 1 + 1) 22 _ (0, 0) _ rfl hR7.raw Tryd.underlying22 rfl (info32.trans (by rw [List.size_toArray, List.length_map, HXL.out]))) rfl ⟨rfl, below_new hbw3 hg7 hl2 hbw3.size⟩

set_option maxRecDepth 100000 in
set_option maxHeartbeats 1000000 in
theorem binder_any (s f : List UInt8) (w : World) (hs : s.length = 32) (hf : f.length = 32) (ht : Tabs w) :
    Calls Tryd.prog 14 #[.agg (s.map B8).toArray, .agg (f.map B8).toArray] w fun e w' => e = .returned (.agg ((binderS s f).map B8).toArray) ∧ Below w.heap.size w w' := by
  have hxl := binderS_length s f
  obtain ⟨D, hD⟩ : ∃ D, D = deriveS [114, 101, 115, 32, 98, 105, 110, 100, 101, 114] s sha0 := ⟨_, rfl⟩
  have hder : ∀ W : World, Tabs W → Calls Tryd.prog 26 #[.agg (s.map B8).toArray, .string ⟨#[114, 101, 115, 32, 98, 105, 110, 100, 101, 114]⟩, .agg (sha0.map B8).toArray] W fun e w' => e = .returned (.agg (D.map B8).toArray) ∧ Below W.heap.size W w' := fun W hW => by
    rw [hD]
    exact derive_lab [114, 101, 115, 32, 98, 105, 110, 100, 101, 114] s sha0 W hs sha0_length (by decide) hW
  have hdl : D.length = 32 := by rw [hD]; exact deriveS_length _ _ _
  have hfi := fun (W : World) (h : Tabs W) => finish_any D f W hdl hf h
  have hx0 : binderS s f = finishS D f := by rw [hD]; rfl
  rw [← hx0] at hfi
  obtain ⟨X, hX⟩ : ∃ X, X = binderS s f := ⟨_, rfl⟩
  rw [← hX] at hxl ⊢
  rw [← hX] at hfi
  have hz : ∀ W : World, (zeroValue 22).run Tryd.prog W = .ok (.agg (zero32.map B8).toArray) W := fun W => by kernel_rfl
  obtain ⟨Z, hZ⟩ : ∃ Z, Z = zero32 := ⟨_, rfl⟩
  have HZL := Lib.hid (show Z.length = 32 by rw [hZ]; rfl)
  rw [← hZ] at hz
  have HFI := Lib.hid hfi
  have HXL := Lib.hid hxl
  have HS := Lib.hid hs
  have HF := Lib.hid hf
  have HDE := Lib.hid hder
  clear hX hx0 hxl hs hf hZ hD hdl hder hfi
  go_enter Tryd.func14, Tryd.ntmps14
  go_wp2
  clear hz
  have hA : Blk (((w.alloc (.cells (s.map B8).toArray 22)).alloc (.cells (f.map B8).toArray 22)).alloc (.cells (Z.map B8).toArray 22)) w.heap.size 22 _ := ((Blk.new_of w 22 _ _ rfl).alloc _).alloc _
  have hB : Blk (((w.alloc (.cells (s.map B8).toArray 22)).alloc (.cells (f.map B8).toArray 22)).alloc (.cells (Z.map B8).toArray 22)) (w.heap.size + 1) 22 _ := (Blk.new2_of w (.cells (s.map B8).toArray 22) 22 _ _ rfl).alloc _
  have hC : Blk (((w.alloc (.cells (s.map B8).toArray 22)).alloc (.cells (f.map B8).toArray 22)).alloc (.cells (Z.map B8).toArray 22)) (w.heap.size + 1 + 1) 22 _ := Blk.new3_of w (.cells (s.map B8).toArray 22) (.cells (f.map B8).toArray 22) 22 _ _ rfl
  have hbw : Below w.heap.size w (((w.alloc (.cells (s.map B8).toArray 22)).alloc (.cells (f.map B8).toArray 22)).alloc (.cells (Z.map B8).toArray 22)) := (((Below.refl w.heap.size w).alloc (Nat.le_refl _) _).alloc (by simp) _).alloc (by simp; omega) _
  have hl1 : w.heap.size ≤ w.heap.size + 1 := by omega
  have hl2 : w.heap.size ≤ w.heap.size + 1 + 1 := by omega
  generalize w.heap.size + 1 + 1 = gc at *
  generalize w.heap.size + 1 = gb at *
  generalize ((w.alloc (.cells (s.map B8).toArray 22)).alloc (.cells (f.map B8).toArray 22)).alloc (.cells (Z.map B8).toArray 22) = w1 at *
  replace ht := ht.below hbw
  apply wp_region_once_tail (m := 5) (Z := []) (D := [[], [], [0, 1], [], [0, 1, 2, 3], [0, 1, 2, 3, 4]]) (J := [[], [], [0, 1], [], [2, 3]]) (Je := [4]) (Rs := [Is _, Is _, Is _, Is _, Is _])
  · kernel_rfl
  · kernel_rfl
  · kernel_rfl
  · kernel_rfl
  · kernel_rfl
  · kernel_rfl
  · kernel_rfl
  · exact fun h => absurd rfl h
  · intro u
    simp only [List.take_succ_cons, List.take_zero, List.map_cons, List.map_nil, fillU, List.setIfInBounds_toArray, List.set_cons_zero, List.set_cons_succ, Nat.zero_add, Nat.reduceAdd]
    exact rfl
  · simp only [List.take_succ_cons, List.take_zero]
    refine ⟨fun u W hb hd K hK => ?_, ?_⟩
    · clear hd
      rw [if_pos (by rfl)]
      refine wp_load_mid 22 (.tmp 2) rfl (w.heap.size) 0 rfl (s.map B8) _ (rangeAt_of_blk (hA.below hb hA.lt)) Tryd.underlying22 rfl (info32.trans (by rw [List.length_map, HS.out])) ?_
      exact hK _ _ _ rfl (Below.refl _ _) IsOut
    refine ⟨fun u W hb hd K hK => ?_, ?_⟩
    · clear hd
      go_simp
      refine (of_nil _ (ht.below hb)).mono ?_
      rintro e wy ⟨rfl, hby⟩
      exact hK _ _ _ rfl hby IsOut
    refine ⟨fun u W hb hd K hK => ?_, ?_⟩
    · simp only [Facts, nthR, Is, and_true] at hd
      simp only [hd] at hK ⊢
      clear hd
      go_simp
      refine (HDE.out _ (ht.below hb)).mono ?_
      rintro e wy ⟨rfl, hby⟩
      exact hK _ _ _ rfl hby IsOut
    refine ⟨fun u W hb hd K hK => ?_, ?_⟩
    · clear hd
      rw [if_pos (by rfl)]
      refine wp_load_mid 22 (.tmp 3) rfl (gb) 0 rfl (f.map B8) _ (rangeAt_of_blk (hB.below hb hB.lt)) Tryd.underlying22 rfl (info32.trans (by rw [List.length_map, HF.out])) ?_
      exact hK _ _ _ rfl (Below.refl _ _) IsOut
    refine ⟨fun u W hb hd K hK => ?_, ?_⟩
    · simp only [Facts, nthR, Is, and_true] at hd
      simp only [hd] at hK ⊢
      clear hd
      go_simp
      refine (HFI.out _ (ht.below hb)).mono ?_
      rintro e wy ⟨rfl, hby⟩
      exact hK _ _ _ rfl hby IsOut
    exact trivial
  · skip
    exact trivial
  · exact (.is (.is (.is (.is (.is .nil)))))
  · intro u W hb hd
    simp only [List.drop_succ_cons, List.drop_zero]
    simp only [Facts, nthR, Is, and_true] at hd
    simp only [hd]
    clear hd
    replace hC := hC.below hb hC.lt
    replace hbw := hbw.trans (hb.mono hbw.size)
    clear hb hA hB
    go_wp2_with (refine wpList_store_blk rfl 22 (.tmp 4) (.tmp 9) rfl rfl (gc) _ rfl rfl 22 _ hC (info32.trans (by rw [List.length_map, HXL.out])) (by rw [List.length_map, List.length_map, HXL.out, HZL.out]) (one8 _) ?_; intro w8 hR8 hg8)
    go_wp2
    refine bodyPost_ret (v := .agg _) (results_cell_row rfl _ _ (gc) 22 _ (0, 0) _ rfl hR8.raw Tryd.underlying22 rfl (info32.trans (by rw [List.size_toArray, List.length_map, HXL.out]))) rfl ⟨rfl, below_new hbw hg8 hl2 hbw.size⟩

end Go.Proofs.YtdjhempfpgcigaaDoor
