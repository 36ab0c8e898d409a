/-
  The contracts of package keys: Signed, Retried; and of the document's Signed.
-/
import Derived.Test.YtdjhempfpgcigaaDoorKt
namespace Go.Proofs.YtdjhempfpgcigaaDoor
open Go.RowKit

def spaces : List UInt8 := List.replicate 64 32
def srvL : List UInt8 := [84, 76, 83, 32, 49, 46, 51, 44, 32, 115, 101, 114, 118, 101, 114, 32, 67, 101, 114, 116, 105, 102, 105, 99, 97, 116, 101, 86, 101, 114, 105, 102, 121]
def cliL : List UInt8 := [84, 76, 83, 32, 49, 46, 51, 44, 32, 99, 108, 105, 101, 110, 116, 32, 67, 101, 114, 116, 105, 102, 105, 99, 97, 116, 101, 86, 101, 114, 105, 102, 121]
def headL : List UInt8 := [254, 0, 0, 32]
def signedS (who s : List UInt8) : List UInt8 := sha ([spaces, who, [0], s] : List (List UInt8)).flatten
theorem signedS_length (who s : List UInt8) : (signedS who s).length = 32 := sha_length _

theorem in_weak {w : World} {B B' c : Nat} {A : Option Addr} {xs : List UInt8} (h : In w B A c xs) (hB : B ≤ B') : In w B' A c xs :=
  ⟨h.1, h.2.1, fun h0 => by
    obtain ⟨gb, ob, e, hb, hby⟩ := h.2.2 h0
    exact ⟨gb, ob, e, by omega, hby⟩⟩
theorem in_up {w w' : World} {c : Nat} {A : Option Addr} {xs : List UInt8} (h : In w w.heap.size A c xs) (hb : Below w.heap.size w w') : In w' w'.heap.size A c xs := in_weak (h.below hb) hb.size
theorem pin_up {w w' : World} {A : Option Addr} {c : Nat} {ps : List (List UInt8)} (h : PIn w w.heap.size A c ps) (hb : Below w.heap.size w w') : PIn w' w'.heap.size A c ps := by
  have h2 := h.below hb
  refine ⟨h2.1, h2.2.1, fun h0 => ?_⟩
  obtain ⟨gp, op, e, hl, hj⟩ := h2.2.2 h0
  refine ⟨gp, op, e, Nat.lt_of_lt_of_le hl hb.size, fun j hjl => ?_⟩
  obtain ⟨Aj, cj, hc, hi⟩ := hj j hjl
  exact ⟨Aj, cj, hc, in_weak hi hb.size⟩
theorem pin4 {w : World} {A0 A1 A2 A3 : Option Addr} {c0 c1 c2 c3 n0 n1 n2 n3 : Nat} {b0 b1 b2 b3 : List UInt8} (t : TypeId) (h0 : In w w.heap.size A0 c0 b0) (h1 : In w w.heap.size A1 c1 b1) (h2 : In w w.heap.size A2 c2 b2) (h3 : In w w.heap.size A3 c3 b3)
    (e0 : b0.length = n0) (e1 : b1.length = n1) (e2 : b2.length = n2) (e3 : b3.length = n3) :
    PIn (w.alloc (.cells #[.slice A0 n0 c0, .slice A1 n1 c1, .slice A2 n2 c2, .slice A3 n3 c3] t)) (w.alloc (.cells #[.slice A0 n0 c0, .slice A1 n1 c1, .slice A2 n2 c2, .slice A3 n3 c3] t)).heap.size (some ⟨w.heap.size, 0, none⟩) 4 [b0, b1, b2, b3] := by
  subst e0 e1 e2 e3
  have hC := Blk.new_of w t #[.slice A0 b0.length c0, .slice A1 b1.length c1, .slice A2 b2.length c2, .slice A3 b3.length c3] _ rfl
  have up : Below w.heap.size w (w.alloc (.cells #[.slice A0 b0.length c0, .slice A1 b1.length c1, .slice A2 b2.length c2, .slice A3 b3.length c3] t)) := (Below.refl _ _).alloc (Nat.le_refl _) _
  refine ⟨by simp, by omega, fun _ => ⟨w.heap.size, 0, rfl, by simp, fun j hj => ?_⟩⟩
  obtain rfl | rfl | rfl | rfl : j = 0 ∨ j = 1 ∨ j = 2 ∨ j = 3 := by have : j < 4 := hj; omega
  · exact ⟨A0, c0, hC.cell 0, in_up h0 up⟩
  · exact ⟨A1, c1, hC.cell 1, in_up h1 up⟩
  · exact ⟨A2, c2, hC.cell 2, in_up h2 up⟩
  · exact ⟨A3, c3, hC.cell 3, in_up h3 up⟩
theorem of_pin {W : World} {A : Option Addr} {c n : Nat} {ps : List (List UInt8)} (h : PIn W W.heap.size A c ps) (hn : ps.length = n) (hf : ps.flatten.length < 549755813888) (ht : Tabs W) :
    Calls Tryd.prog 25 #[.slice A n c] W fun e w' => e = .returned (.agg ((sha ps.flatten).map B8).toArray) ∧ Below W.heap.size W w' := by
  subst hn
  exact Of_any c A ps W hf h.1 h.2.1 (fun g hg => h.parts hg) ht
theorem in_one (W : World) (b : Nat) (x : UInt8) (hx : (b : Int) = (x.toNat : Int)) : In (W.alloc (.cells #[.int .u8 (b : Int)] 5)) (W.alloc (.cells #[.int .u8 (b : Int)] 5)).heap.size (some ⟨W.heap.size, 0, none⟩) 1 [x] :=
  ⟨by simp, by omega, fun _ => ⟨W.heap.size, 0, rfl, by simp, fun j hj => by
    obtain rfl : j = 0 := by have : j < 1 := hj; omega
    refine (new_cell _ _ _).trans ?_
    rw [hx]
    rfl⟩⟩
/-- A string's bytes, as one operation of a region that is walked once. -/
theorem wp_bytes_of {o : Oper} {a : Act} {w : World} {K : Act → World → Prop} {Q : Exit → Act → World → Prop} (x : Operand) (ho : o.op = .convert 9 26 x)
    (s : List UInt8) (hx : a.eval x = .string ⟨s.toArray⟩) (hn : s.length ≤ 1099511627776)
    (h : ∀ c w', In w' w'.heap.size (some ⟨w.heap.size, 0, none⟩) c s → Below w.heap.size w w' → K (a.put o.dst (.slice (some ⟨w.heap.size, 0, none⟩) s.length c)) w') : Oper.wp Tryd.prog o a w K Q := by
  have hr := run_bytes_of_string (P := Tryd.prog) w 9 26 5 ⟨s.toArray⟩ Tryd.underlying9 Tryd.underlying26 Tryd.underlying5
  have e : (⟨s.toArray⟩ : ByteArray).size = s.length := rfl
  have h1 := grownCap_ge w s.length 0 5
  have h2 := grownCap_le_maxLen w s.length 0 5 (by simp only [maxLen]; omega)
  rw [e] at hr
  have h3 := bytesRow_size s (grownCap w s.length 0 5) h1
  unfold Oper.wp execOp
  simp only [ho, hx, hr, Sem.run_bind, Result.andThen_ok, Sem.run_pure]
  have hB := Buf.made (w := w.drew) (base := w.heap.size) (n := s.length) (c := grownCap w s.length 0 5) (bs := s) (bytesRow ⟨s.toArray⟩ (grownCap w s.length 0 5)) 5 (bytesRow ⟨s.toArray⟩ (grownCap w s.length 0 5)).size ((bytesRow ⟨s.toArray⟩ (grownCap w s.length 0 5)).size + 1) (Nat.le_refl _) rfl h1 h2 h3 (.inl (by rw [h3]; exact Nat.le_refl _)) (fun j hj => bytesRow_at s _ j hj)
  exact h _ _ (hB.toIn (Nat.le_refl _)) ((below_drewN (Below.refl _ _) 1).alloc (Nat.le_refl _) _)

set_option maxRecDepth 100000 in
set_option maxHeartbeats 1000000 in
theorem signed_T (s : List UInt8) (w : World) (hs : s.length = 32) (ht : Tabs w) :
    Calls Tryd.prog 16 #[.bool true, .agg (s.map B8).toArray] w fun e w' => e = .returned (.agg ((signedS srvL s).map B8).toArray) ∧ Below w.heap.size w w' := by
  have hxl := signedS_length srvL s
  have hof := fun (W : World) (gp : Nat) (h : PIn W W.heap.size (some ⟨gp, 0, none⟩) 4 [spaces, srvL, [0], s]) (ht : Tabs W) => of_pin h (n := 4) rfl (by simp [spaces, srvL]; omega) ht
  rw [show sha ([spaces, srvL, [0], s] : List (List UInt8)).flatten = signedS srvL s from rfl] at hof
  obtain ⟨X, hX⟩ : ∃ X, X = signedS srvL s := ⟨_, rfl⟩
  rw [← hX] at hxl ⊢
  rw [← hX] at hof
  have hz : ∀ W : World, (zeroValue 22).run Tryd.prog W = .ok (.agg (zero32.map B8).toArray) W := fun W => by kernel_rfl
  obtain ⟨Z, hZ⟩ : ∃ Z, Z = zero32 := ⟨_, rfl⟩
  have HZL := Lib.hid (show Z.length = 32 by rw [hZ]; rfl)
  rw [← hZ] at hz
  have HO := Lib.hid hof
  have HXL := Lib.hid hxl
  have HS := Lib.hid hs
  clear hX hxl hs hZ hof
  have hA : Blk ((w.alloc (.cells (s.map B8).toArray 22)).alloc (.cells (Z.map B8).toArray 22)) w.heap.size 22 _ := (Blk.new_of w 22 _ _ rfl).alloc _
  have hB : Blk ((w.alloc (.cells (s.map B8).toArray 22)).alloc (.cells (Z.map B8).toArray 22)) (w.heap.size + 1) 22 _ := Blk.new2_of w (.cells (s.map B8).toArray 22) 22 _ _ rfl
  have hbw : Below w.heap.size w ((w.alloc (.cells (s.map B8).toArray 22)).alloc (.cells (Z.map B8).toArray 22)) := ((Below.refl w.heap.size w).alloc (Nat.le_refl _) _).alloc (by simp) _
  go_enter Tryd.func16, Tryd.ntmps16
  go_wp2
  clear hz
  have hl1 : w.heap.size ≤ w.heap.size + 1 := by omega
  generalize w.heap.size + 1 = gb at *
  generalize (w.alloc (.cells (s.map B8).toArray 22)).alloc (.cells (Z.map B8).toArray 22) = w1 at *
  replace ht := ht.below hbw
  apply wp_region_once_tail (m := 8) (Z := []) (D := [[], [0], [], [2], [], [], [0, 1, 2, 3, 4, 5], [0, 1, 2, 3, 4, 5, 6], [0, 1, 2, 3, 4, 5, 6, 7]]) (J := [[], [0], [], [2], [], [], [1, 3, 4, 5], [6]]) (Je := [7]) (Rs := [Is _, fun v V => ∃ (A : Option Addr) (c : Nat), v = .slice A 64 c ∧ In V V.heap.size A c spaces, Is _, fun v V => ∃ (A : Option Addr) (c : Nat), v = .slice A 33 c ∧ In V V.heap.size A c srvL, fun v V => ∃ (A : Option Addr) (c : Nat), v = .slice A 1 c ∧ In V V.heap.size A c [0], Is _, fun v V => ∃ gp : Nat, v = .slice (some ⟨gp, 0, none⟩) 4 4 ∧ PIn V V.heap.size (some ⟨gp, 0, none⟩) 4 [spaces, srvL, [0], s], Is _])
  · kernel_rfl
  · kernel_rfl
  · kernel_rfl
  · kernel_rfl
  · kernel_rfl
  · kernel_rfl
  · kernel_rfl
  · exact fun h => absurd rfl h
  · intro u
    simp only [List.take_succ_cons, List.take_zero, List.map_cons, List.map_nil, fillU, List.setIfInBounds_toArray, List.set_cons_zero, List.set_cons_succ, Nat.zero_add, Nat.reduceAdd]
    exact rfl
  · simp only [List.take_succ_cons, List.take_zero]
    refine ⟨fun u W hb hd K hK => ?_, ?_⟩
    · clear hd
      go_simp
      refine (repeat_any W).mono ?_
      rintro e wy ⟨rfl, rfl⟩
      exact hK _ _ _ rfl (Below.refl _ _) IsOut
    refine ⟨fun u W hb hd K hK => ?_, ?_⟩
    · simp only [Facts, nthR, Is, and_true] at hd
      simp only [hd] at hK ⊢
      clear hd
      rw [if_pos (by rfl)]
      refine wp_bytes_of (.tmp 7) rfl spaces rfl (by decide) ?_
      intro c w' hi hbl
      exact hK _ _ _ rfl hbl ⟨_, _, rfl, hi⟩
    refine ⟨fun u W hb hd K hK => ?_, ?_⟩
    · clear hd
      go_simp
      apply hK
      · simp only [Act.put, List.setIfInBounds_toArray, List.set_cons_zero, List.set_cons_succ]
        exact rfl
      · exact Below.refl _ _
      · exact IsOut
    refine ⟨fun u W hb hd K hK => ?_, ?_⟩
    · simp only [Facts, nthR, Is, and_true] at hd
      simp only [hd] at hK ⊢
      clear hd
      rw [if_pos (by rfl)]
      refine wp_bytes_of (.tmp 9) rfl srvL rfl (by decide) ?_
      intro c w' hi hbl
      exact hK _ _ _ rfl hbl ⟨_, _, rfl, hi⟩
    refine ⟨fun u W hb hd K hK => ?_, ?_⟩
    · clear hd
      go_simp
      apply hK
      · simp only [Act.put, List.setIfInBounds_toArray, List.set_cons_zero, List.set_cons_succ]
        exact rfl
      · exact (Below.refl _ _).alloc (Nat.le_refl _) _
      · exact ⟨_, _, rfl, in_one W 0 0 rfl⟩
    refine ⟨fun u W hb hd K hK => ?_, ?_⟩
    · clear hd
      go_simp
      apply hK
      · simp only [Act.put, List.setIfInBounds_toArray, List.set_cons_zero, List.set_cons_succ]
        exact rfl
      · exact Below.refl _ _
      · exact IsOut
    refine ⟨fun u W hb hd K hK => ?_, ?_⟩
    · simp only [Facts, nthR, Is, and_true] at hd
      obtain ⟨⟨A1, c1, h1, i1⟩, ⟨A2, c2, h2, i2⟩, ⟨A3, c3, h3, i3⟩, h5⟩ := hd
      simp only [h1, h2, h3, h5] at hK ⊢
      clear h1 h2 h3 h5
      go_simp
      apply hK
      · simp only [Act.put, List.setIfInBounds_toArray, List.set_cons_zero, List.set_cons_succ]
        exact rfl
      · exact (Below.refl _ _).alloc (Nat.le_refl _) _
      · exact ⟨_, rfl, pin4 _ i1 i2 i3 (in_of_blk hA HS.out hb) rfl rfl rfl HS.out⟩
    refine ⟨fun u W hb hd K hK => ?_, ?_⟩
    · simp only [Facts, nthR, and_true] at hd
      obtain ⟨gp, h6, hP⟩ := hd
      simp only [h6] at hK ⊢
      clear h6
      go_simp
      refine (HO.out _ _ hP (ht.below hb)).mono ?_
      rintro e wy ⟨rfl, hby⟩
      exact hK _ _ _ rfl hby IsOut
    exact trivial
  · skip
    exact trivial
  · exact (.is (.cons (fun v V V' ⟨A, c, h1, h2⟩ hb => ⟨A, c, h1, in_up h2 hb⟩) (.is (.cons (fun v V V' ⟨A, c, h1, h2⟩ hb => ⟨A, c, h1, in_up h2 hb⟩) (.cons (fun v V V' ⟨A, c, h1, h2⟩ hb => ⟨A, c, h1, in_up h2 hb⟩) (.is (.cons (fun v V V' ⟨gp, h1, h2⟩ hb => ⟨gp, h1, pin_up h2 hb⟩) (.is .nil))))))))
  · intro u W hb hd
    simp only [List.drop_succ_cons, List.drop_zero]
    simp only [Facts, nthR, Is, and_true] at hd
    simp only [hd]
    clear hd
    replace hB := hB.below hb hB.lt
    replace hbw := hbw.trans (hb.mono hbw.size)
    clear hb hA
    go_wp2_with (refine wpList_store_blk rfl 22 (.tmp 4) (.tmp 14) rfl rfl (gb) _ rfl rfl 22 _ hB (info32.trans (by rw [List.length_map, HXL.out])) (by rw [List.length_map, List.length_map, HXL.out, HZL.out]) (one8 _) ?_; intro w8 hR8 hg8)
    go_wp2
    refine bodyPost_ret (v := .agg _) (results_cell_row rfl _ _ (gb) 22 _ (0, 0) _ rfl hR8.raw Tryd.underlying22 rfl (info32.trans (by rw [List.size_toArray, List.length_map, HXL.out]))) rfl ⟨rfl, below_new hbw hg8 hl1 hbw.size⟩

set_option maxRecDepth 100000 in
set_option maxHeartbeats 1000000 in
theorem signed_F (s : List UInt8) (w : World) (hs : s.length = 32) (ht : Tabs w) :
    Calls Tryd.prog 16 #[.bool false, .agg (s.map B8).toArray] w fun e w' => e = .returned (.agg ((signedS cliL s).map B8).toArray) ∧ Below w.heap.size w w' := by
  have hxl := signedS_length cliL s
  have hof := fun (W : World) (gp : Nat) (h : PIn W W.heap.size (some ⟨gp, 0, none⟩) 4 [spaces, cliL, [0], s]) (ht : Tabs W) => of_pin h (n := 4) rfl (by simp [spaces, cliL]; omega) ht
  rw [show sha ([spaces, cliL, [0], s] : List (List UInt8)).flatten = signedS cliL s from rfl] at hof
  obtain ⟨X, hX⟩ : ∃ X, X = signedS cliL s := ⟨_, rfl⟩
  rw [← hX] at hxl ⊢
  rw [← hX] at hof
  have hz : ∀ W : World, (zeroValue 22).run Tryd.prog W = .ok (.agg (zero32.map B8).toArray) W := fun W => by kernel_rfl
  obtain ⟨Z, hZ⟩ : ∃ Z, Z = zero32 := ⟨_, rfl⟩
  have HZL := Lib.hid (show Z.length = 32 by rw [hZ]; rfl)
  rw [← hZ] at hz
  have HO := Lib.hid hof
  have HXL := Lib.hid hxl
  have HS := Lib.hid hs
  clear hX hxl hs hZ hof
  have hA : Blk ((w.alloc (.cells (s.map B8).toArray 22)).alloc (.cells (Z.map B8).toArray 22)) w.heap.size 22 _ := (Blk.new_of w 22 _ _ rfl).alloc _
  have hB : Blk ((w.alloc (.cells (s.map B8).toArray 22)).alloc (.cells (Z.map B8).toArray 22)) (w.heap.size + 1) 22 _ := Blk.new2_of w (.cells (s.map B8).toArray 22) 22 _ _ rfl
  have hbw : Below w.heap.size w ((w.alloc (.cells (s.map B8).toArray 22)).alloc (.cells (Z.map B8).toArray 22)) := ((Below.refl w.heap.size w).alloc (Nat.le_refl _) _).alloc (by simp) _
  go_enter Tryd.func16, Tryd.ntmps16
  go_wp2
  clear hz
  have hl1 : w.heap.size ≤ w.heap.size + 1 := by omega
  generalize w.heap.size + 1 = gb at *
  generalize (w.alloc (.cells (s.map B8).toArray 22)).alloc (.cells (Z.map B8).toArray 22) = w1 at *
  replace ht := ht.below hbw
  apply wp_region_once_tail (m := 8) (Z := []) (D := [[], [0], [], [2], [], [], [0, 1, 2, 3, 4, 5], [0, 1, 2, 3, 4, 5, 6], [0, 1, 2, 3, 4, 5, 6, 7]]) (J := [[], [0], [], [2], [], [], [1, 3, 4, 5], [6]]) (Je := [7]) (Rs := [Is _, fun v V => ∃ (A : Option Addr) (c : Nat), v = .slice A 64 c ∧ In V V.heap.size A c spaces, Is _, fun v V => ∃ (A : Option Addr) (c : Nat), v = .slice A 33 c ∧ In V V.heap.size A c cliL, fun v V => ∃ (A : Option Addr) (c : Nat), v = .slice A 1 c ∧ In V V.heap.size A c [0], Is _, fun v V => ∃ gp : Nat, v = .slice (some ⟨gp, 0, none⟩) 4 4 ∧ PIn V V.heap.size (some ⟨gp, 0, none⟩) 4 [spaces, cliL, [0], s], Is _])
  · kernel_rfl
  · kernel_rfl
  · kernel_rfl
  · kernel_rfl
  · kernel_rfl
  · kernel_rfl
  · kernel_rfl
  · exact fun h => absurd rfl h
  · intro u
    simp only [List.take_succ_cons, List.take_zero, List.map_cons, List.map_nil, fillU, List.setIfInBounds_toArray, List.set_cons_zero, List.set_cons_succ, Nat.zero_add, Nat.reduceAdd]
    exact rfl
  · simp only [List.take_succ_cons, List.take_zero]
    refine ⟨fun u W hb hd K hK => ?_, ?_⟩
    · clear hd
      go_simp
      refine (repeat_any W).mono ?_
      rintro e wy ⟨rfl, rfl⟩
      exact hK _ _ _ rfl (Below.refl _ _) IsOut
    refine ⟨fun u W hb hd K hK => ?_, ?_⟩
    · simp only [Facts, nthR, Is, and_true] at hd
      simp only [hd] at hK ⊢
      clear hd
      rw [if_pos (by rfl)]
      refine wp_bytes_of (.tmp 7) rfl spaces rfl (by decide) ?_
      intro c w' hi hbl
      exact hK _ _ _ rfl hbl ⟨_, _, rfl, hi⟩
    refine ⟨fun u W hb hd K hK => ?_, ?_⟩
    · clear hd
      go_simp
      apply hK
      · simp only [Act.put, List.setIfInBounds_toArray, List.set_cons_zero, List.set_cons_succ]
        exact rfl
      · exact Below.refl _ _
      · exact IsOut
    refine ⟨fun u W hb hd K hK => ?_, ?_⟩
    · simp only [Facts, nthR, Is, and_true] at hd
      simp only [hd] at hK ⊢
      clear hd
      rw [if_pos (by rfl)]
      refine wp_bytes_of (.tmp 9) rfl cliL rfl (by decide) ?_
      intro c w' hi hbl
      exact hK _ _ _ rfl hbl ⟨_, _, rfl, hi⟩
    refine ⟨fun u W hb hd K hK => ?_, ?_⟩
    · clear hd
      go_simp
      apply hK
      · simp only [Act.put, List.setIfInBounds_toArray, List.set_cons_zero, List.set_cons_succ]
        exact rfl
      · exact (Below.refl _ _).alloc (Nat.le_refl _) _
      · exact ⟨_, _, rfl, in_one W 0 0 rfl⟩
    refine ⟨fun u W hb hd K hK => ?_, ?_⟩
    · clear hd
      go_simp
      apply hK
      · simp only [Act.put, List.setIfInBounds_toArray, List.set_cons_zero, List.set_cons_succ]
        exact rfl
      · exact Below.refl _ _
      · exact IsOut
    refine ⟨fun u W hb hd K hK => ?_, ?_⟩
    · simp only [Facts, nthR, Is, and_true] at hd
      obtain ⟨⟨A1, c1, h1, i1⟩, ⟨A2, c2, h2, i2⟩, ⟨A3, c3, h3, i3⟩, h5⟩ := hd
      simp only [h1, h2, h3, h5] at hK ⊢
      clear h1 h2 h3 h5
      go_simp
      apply hK
      · simp only [Act.put, List.setIfInBounds_toArray, List.set_cons_zero, List.set_cons_succ]
        exact rfl
      · exact (Below.refl _ _).alloc (Nat.le_refl _) _
      · exact ⟨_, rfl, pin4 _ i1 i2 i3 (in_of_blk hA HS.out hb) rfl rfl rfl HS.out⟩
    refine ⟨fun u W hb hd K hK => ?_, ?_⟩
    · simp only [Facts, nthR, and_true] at hd
      obtain ⟨gp, h6, hP⟩ := hd
      simp only [h6] at hK ⊢
      clear h6
      go_simp
      refine (HO.out _ _ hP (ht.below hb)).mono ?_
      rintro e wy ⟨rfl, hby⟩
      exact hK _ _ _ rfl hby IsOut
    exact trivial
  · skip
    exact trivial
  · exact (.is (.cons (fun v V V' ⟨A, c, h1, h2⟩ hb => ⟨A, c, h1, in_up h2 hb⟩) (.is (.cons (fun v V V' ⟨A, c, h1, h2⟩ hb => ⟨A, c, h1, in_up h2 hb⟩) (.cons (fun v V V' ⟨A, c, h1, h2⟩ hb => ⟨A, c, h1, in_up h2 hb⟩) (.is (.cons (fun v V V' ⟨gp, h1, h2⟩ hb => ⟨gp, h1, pin_up h2 hb⟩) (.is .nil))))))))
  · intro u W hb hd
    simp only [List.drop_succ_cons, List.drop_zero]
    simp only [Facts, nthR, Is, and_true] at hd
    simp only [hd]
    clear hd
    replace hB := hB.below hb hB.lt
    replace hbw := hbw.trans (hb.mono hbw.size)
    clear hb hA
    go_wp2_with (refine wpList_store_blk rfl 22 (.tmp 4) (.tmp 14) rfl rfl (gb) _ rfl rfl 22 _ hB (info32.trans (by rw [List.length_map, HXL.out])) (by rw [List.length_map, List.length_map, HXL.out, HZL.out]) (one8 _) ?_; intro w8 hR8 hg8)
    go_wp2
    refine bodyPost_ret (v := .agg _) (results_cell_row rfl _ _ (gb) 22 _ (0, 0) _ rfl hR8.raw Tryd.underlying22 rfl (info32.trans (by rw [List.size_toArray, List.length_map, HXL.out]))) rfl ⟨rfl, below_new hbw hg8 hl1 hbw.size⟩

theorem src_32 {w : World} {A : Option Addr} {g : Nat} {s : List UInt8} (h : Src w g A s) (hs : s.length = 32) : _root_.Go.Src Tryd.prog 1 26 (.slice A 32 32) s.length (s.map B8) w := by
  have := src_in' (c := 32) h
  rw [hs] at this ⊢
  exact this

set_option maxRecDepth 100000 in
set_option maxHeartbeats 1000000 in
theorem retried_any (s : List UInt8) (w : World) (hs : s.length = 32) :
    Calls Tryd.prog 20 #[.agg (s.map B8).toArray] w fun e w' => ∃ A c, e = .returned (.slice A 36 c) ∧ In w' w'.heap.size A c (headL ++ s) ∧ Below w.heap.size w w' := by
  have kc2 := fun (X : Obj) (C : Array Value) (n c : Nat) => Joins.run_convert_bytes_const_at (P := Tryd.prog) (w.alloc X) 26 5 C n c (w.heap.size + 1) (by simp) Tryd.underlying26 Tryd.underlying5
  have HS := Lib.hid hs
  have h36 : 36 = 4 + s.length := by rw [hs]
  have h32 : 4 + s.length ≤ 1099511627776 := by omega
  have H36 := Lib.hid h36
  clear hs h36
  go_enter Tryd.func20, Tryd.ntmps20
  have hbx : ∀ X, Below w.heap.size w ((w.alloc (.cells (s.map B8).toArray 22)).alloc X) := fun X => ((Below.refl w.heap.size w).alloc (Nat.le_refl _) _).alloc (by simp) _
  have hI := fun (X : Obj) => in_of_blk (Blk.new_of w 22 _ (s.map B8) rfl) HS.out ((Below.refl _ _).alloc (Nat.le_refl _) X)
  have hB : Buf ((w.alloc (.cells (s.map B8).toArray 22)).alloc (.cells #[.int .u8 254, .int .u8 0, .int .u8 0, .int .u8 32] 5 (4, 5))) (w.heap.size + 1) (some ⟨w.heap.size + 1, 0, none⟩) 4 4 headL := by
    have := Buf.made (w := w.alloc (.cells (s.map B8).toArray 22)) (base := w.heap.size + 1) (n := 4) (c := 4) (bs := headL) #[.int .u8 254, .int .u8 0, .int .u8 0, .int .u8 32] 5 4 5 (by simp) rfl (Nat.le_refl _) (by decide) rfl (.inl (by decide)) (fun j hj => by
      have hj' : j < 4 := hj
      obtain rfl | rfl | rfl | rfl : j = 0 ∨ j = 1 ∨ j = 2 ∨ j = 3 := by omega
      · rfl
      · rfl
      · rfl
      · rfl)
    rwa [size_alloc] at this
  go_wp2_with ((with_reducible refine (?_ : wpList _ _ _ (Oper.mk (some 6) _ _ _ _ _ :: _) _ _)); go_loud (refine wpList_append_far rfl (.tmp 4) (.tmp 5) 26 rfl (w.heap.size + 1) _ 4 _ headL s _ rfl hB rfl (src_32 ((hI _).src (Nat.le_refl _)) HS.out) h32 (by simp) 36 H36.out ?_); intro A1 c1 w1 hB1 hg1 _)
  go_ret
  exact ⟨A1, c1, rfl, hB1.toIn (Nat.le_refl _), below_own (hbx _) hB hg1 (by omega) (hbx _).size⟩

set_option maxRecDepth 100000 in
set_option maxHeartbeats 1000000 in
theorem refSigned_T (s : List UInt8) (w : World) (hs : s.length = 32) :
    Calls Tryd.prog 19 #[.bool true, .string ⟨s.toArray⟩] w fun e w' => e = .returned (.string ⟨(signedS srvL s).toArray⟩) ∧ Below w.heap.size w w' := by
  have hsum := fun (W : World) => refSum_any ([spaces, srvL, [0], s] : List (List UInt8)).flatten W (by simp [spaces, srvL]; omega)
  rw [show sha ([spaces, srvL, [0], s] : List (List UInt8)).flatten = signedS srvL s from rfl] at hsum
  generalize signedS srvL s = X at *
  have hcl1 : ¬ 9223372036854775807 < 64 + 33 := by decide
  have hcl2 : ¬ 9223372036854775807 < 64 + 33 + 1 := by decide
  have hcl3 : ¬ 9223372036854775807 < 64 + 33 + 1 + s.length := by omega
  go_enter Tryd.func19, Tryd.ntmps19
  go_wp2
  go_loopw [5, 6] (fun v i wr => ∃ (k : Nat) (P : List UInt8), k ≤ 64 ∧ P = List.replicate k (32 : UInt8) ∧ i = .int .i64 (k : Int) ∧ v = .string ⟨P.toArray⟩ ∧ wr = w) (fun _ i _ => 64 - (intOf i).toNat)
  case atStart => exact ⟨0, [], by omega, rfl, rfl, rfl, rfl⟩
  case round =>
    obtain ⟨k, P, hk, hP, rfl, rfl, rfl⟩ := hrel
    by_cases hlt : k < 64
    · have hd1 : decide ((k : Int) < 64) = true := by simp; omega
      have hPl : P.length = k := by rw [hP]; simp
      have hcl : ¬ 9223372036854775807 < P.length + 1 := by omega
      have HP := Lib.hid hP
      clear hP
      go_wp2
      go_roundw
      case rel => exact ⟨k + 1, P ++ [32], by omega, by rw [HP.out, List.replicate_succ'], by go_num, congrArg Value.string (bytes_append P [32]), trivial⟩
      case measure => simp [intOf]; omega
    · have hd1 : decide ((k : Int) < 64) = false := by simp; omega
      have hPs : P = spaces := by rw [hP]; unfold spaces; congr 1; omega
      clear hP
      subst hPs
      go_wp2_with fail
      rw [show (({ data := spaces.toArray } ++ { data := #[84, 76, 83, 32, 49, 46, 51, 44, 32, 115, 101, 114, 118, 101, 114, 32, 67, 101, 114, 116, 105, 102, 105, 99, 97, 116, 101, 86, 101, 114, 105, 102, 121] } ++ { data := #[0] } ++ { data := s.toArray } : ByteArray) = ⟨([spaces, srvL, [0], s] : List (List UInt8)).flatten.toArray⟩) from by apply ByteArray.ext; simp [srvL]]
      refine (hsum _).mono ?_
      rintro e w1 ⟨rfl, hb1⟩
      go_wp2
      go_ret
      exact ⟨rfl, hb1⟩

set_option maxRecDepth 100000 in
set_option maxHeartbeats 1000000 in
theorem refSigned_F (s : List UInt8) (w : World) (hs : s.length = 32) :
    Calls Tryd.prog 19 #[.bool false, .string ⟨s.toArray⟩] w fun e w' => e = .returned (.string ⟨(signedS cliL s).toArray⟩) ∧ Below w.heap.size w w' := by
  have hsum := fun (W : World) => refSum_any ([spaces, cliL, [0], s] : List (List UInt8)).flatten W (by simp [spaces, cliL]; omega)
  rw [show sha ([spaces, cliL, [0], s] : List (List UInt8)).flatten = signedS cliL s from rfl] at hsum
  generalize signedS cliL s = X at *
  have hcl1 : ¬ 9223372036854775807 < 64 + 33 := by decide
  have hcl2 : ¬ 9223372036854775807 < 64 + 33 + 1 := by decide
  have hcl3 : ¬ 9223372036854775807 < 64 + 33 + 1 + s.length := by omega
  go_enter Tryd.func19, Tryd.ntmps19
  go_wp2
  go_loopw [5, 6] (fun v i wr => ∃ (k : Nat) (P : List UInt8), k ≤ 64 ∧ P = List.replicate k (32 : UInt8) ∧ i = .int .i64 (k : Int) ∧ v = .string ⟨P.toArray⟩ ∧ wr = w) (fun _ i _ => 64 - (intOf i).toNat)
  case atStart => exact ⟨0, [], by omega, rfl, rfl, rfl, rfl⟩
  case round =>
    obtain ⟨k, P, hk, hP, rfl, rfl, rfl⟩ := hrel
    by_cases hlt : k < 64
    · have hd1 : decide ((k : Int) < 64) = true := by simp; omega
      have hPl : P.length = k := by rw [hP]; simp
      have hcl : ¬ 9223372036854775807 < P.length + 1 := by omega
      have HP := Lib.hid hP
      clear hP
      go_wp2
      go_roundw
      case rel => exact ⟨k + 1, P ++ [32], by omega, by rw [HP.out, List.replicate_succ'], by go_num, congrArg Value.string (bytes_append P [32]), trivial⟩
      case measure => simp [intOf]; omega
    · have hd1 : decide ((k : Int) < 64) = false := by simp; omega
      have hPs : P = spaces := by rw [hP]; unfold spaces; congr 1; omega
      clear hP
      subst hPs
      go_wp2_with fail
      rw [show (({ data := spaces.toArray } ++ { data := #[84, 76, 83, 32, 49, 46, 51, 44, 32, 99, 108, 105, 101, 110, 116, 32, 67, 101, 114, 116, 105, 102, 105, 99, 97, 116, 101, 86, 101, 114, 105, 102, 121] } ++ { data := #[0] } ++ { data := s.toArray } : ByteArray) = ⟨([spaces, cliL, [0], s] : List (List UInt8)).flatten.toArray⟩) from by apply ByteArray.ext; simp [cliL]]
      refine (hsum _).mono ?_
      rintro e w1 ⟨rfl, hb1⟩
      go_wp2
      go_ret
      exact ⟨rfl, hb1⟩

end Go.Proofs.YtdjhempfpgcigaaDoor
