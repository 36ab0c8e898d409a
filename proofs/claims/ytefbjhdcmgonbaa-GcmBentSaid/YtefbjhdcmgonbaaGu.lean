/-
  The contracts of package gcm's boxes: empty, New, cipher.
-/
import Derived.Test.YtefbjhdcmgonbaaGt
import Derived.Test.YtefbjhdcmgonbaaKeepB
import Derived.Deep.DeepCutAuto
namespace Go.Proofs.Ytefbjhdcmgonbaa
open Go.RowKit

theorem info12 : (Try.prog.info? 23).map (·.size) = some 12 := by kernel_rfl
theorem info8 : (Try.prog.info? 5).map (·.size) = some 1 := by kernel_rfl
/-- A box that is ready. -/
structure BoxAt (w : World) (gx gk gr R : Nat) (L : List UInt32) : Prop where
  box : Blk w gx 51 [.pointer (some ⟨gk, 0, none⟩)]
  key : KeyAt w gk gr R L
  lo : 2 ≤ R
  hi : R ≤ 15
theorem BoxAt.below {w w' : World} {gx gk gr R : Nat} {L : List UInt32} (h : BoxAt w gx gk gr R L) (hb : Below w.heap.size w w') : BoxAt w' gx gk gr R L :=
  ⟨h.box.below hb h.box.lt, h.key.below hb, h.lo, h.hi⟩
theorem BoxAt.grown {w w' : World} {gx gk gr R g : Nat} {L : List UInt32} (h : BoxAt w gx gk gr R L) (hb : w.grownBy w' (some g)) (n1 : gx ≠ g) (n2 : gk ≠ g) (n3 : gr ≠ g) : BoxAt w' gx gk gr R L :=
  ⟨h.box.grown hb (by simpa using n1), ⟨h.key.key.grown hb (by simpa using n2), h.key.rounds.grown hb (by simpa using n3), h.key.len⟩, h.lo, h.hi⟩

theorem bempty_no {gx gk gr R : Nat} {L : List UInt32} {w : World} (h : BoxAt w gx gk gr R L) :
    Calls Try.prog 23 #[.pointer (some ⟨gx, 0, none⟩)] w fun e w' => e = .returned (.bool false) ∧ w' = w := by
  have c0 : w.cell? ⟨gx, 0, none⟩ = some (.pointer (some ⟨gk, 0, none⟩)) := h.box.cell 0
  go_enter Try.func23, Try.ntmps23
  go_wp2
  go_ret
  exact ⟨rfl, rfl⟩
theorem bempty_nil (w : World) : Calls Try.prog 23 #[.pointer none] w fun e w' => e = .returned (.bool true) ∧ w' = w := by
  go_enter Try.func23, Try.ntmps23
  go_wp2
  go_ret
  exact ⟨rfl, rfl⟩
theorem bnew_any (A : Option Addr) (c B n : Nat) (key : List UInt8) (w : World) (hB : B ≤ w.heap.size) (ik : InK w B A c key) (hl : key.length = 4 * n) (hn : n = 4 ∨ n = 8) :
    Calls Try.prog 7 #[.slice A key.length c] w fun e w' => ∃ gx gk gr, e = .returned (.tuple #[.pointer (some ⟨gx, 0, none⟩), .int .i64 0]) ∧ w.heap.size ≤ gx ∧ BoxAt w' gx gk gr (n + 7) (keyL n key) ∧ Below w.heap.size w w' := by
  have hc1 := new_any A c B n key w hB ik hl hn
  generalize keyL n key = L at *
  generalize key.length = kl at *
  clear hl
  go_enter Try.func7, Try.ntmps7
  go_wp2_with (go_at_call 19; with_reducible refine hc1.mono ?_; rintro e w1 ⟨gk, gr, rfl, hgk, hK, hb1⟩)
  go_ret2
  exact ⟨w1.heap.size, gk, gr, rfl, hb1.size, ⟨Blk.new_of _ _ _ _ rfl, hK.below ((Below.refl _ _).alloc (Nat.le_refl _) _), by omega, by omega⟩, hb1.alloc hb1.size _⟩
theorem bnew_bad (A : Option Addr) (c n : Nat) (w : World) (h1 : n ≠ 16) (h2 : n ≠ 32) :
    Calls Try.prog 7 #[.slice A n c] w fun e w' => e = .returned (.tuple #[.pointer none, .int .i64 1]) ∧ Below w.heap.size w w' := by
  have hc1 := new_bad A c n w h1 h2
  go_enter Try.func7, Try.ntmps7
  go_wp2_with (go_at_call 19; with_reducible refine hc1.mono ?_; rintro e w1 ⟨rfl, hb1⟩)
  go_ret2
  exact ⟨rfl, hb1⟩

/-- The block of a nonce and a number. -/
def numB (n k : Nat) : UInt8 := UInt8.ofNat (n / 2 ^ (24 - 8 * k))
def ctrTo (N : List UInt8) (n k : Nat) : List UInt8 := (List.range 16).map fun i => if i < 12 then N.getD i 0 else if i < 12 + k then numB n (i - 12) else 0
def ctrE (N : List UInt8) (n : Nat) : List UInt8 := ctrTo N n 4
theorem ctrTo_length (N : List UInt8) (n k : Nat) : (ctrTo N n k).length = 16 := by simp [ctrTo]
theorem ctrTo_get (N : List UInt8) (n k i : Nat) (hi : i < 16) : (ctrTo N n k).getD i 0 = if i < 12 then N.getD i 0 else if i < 12 + k then numB n (i - 12) else 0 := by
  simp [ctrTo, List.getD_eq_getElem?_getD, hi]
theorem ctrTo_step (N : List UInt8) (n k : Nat) (hk : k < 4) : (ctrTo N n k).set (12 + k) (numB n k) = ctrTo N n (k + 1) := by
  apply List.ext_getElem?
  intro i
  simp only [ctrTo, List.getElem?_set, List.getElem?_map, List.length_map, List.length_range]
  by_cases hi : i < 16
  · rw [List.getElem?_range hi]
    by_cases he : 12 + k = i
    · subst he
      simp
      omega
    · rw [if_neg he]
      simp only [Option.map_some]
      congr 1
      by_cases h12 : i < 12
      · rw [if_pos h12, if_pos h12]
      · rw [if_neg h12, if_neg h12]
        by_cases hk2 : i < 12 + k
        · rw [if_pos hk2, if_pos (by omega)]
        · rw [if_neg hk2, if_neg (by omega)]
  · rw [List.getElem?_eq_none (by simp; omega)]
    split <;> simp_all
theorem ctrTo_none (N : List UInt8) (n : Nat) (hN : N.length = 12) : splice (zero16.map B8) 0 (N.map B8) = (ctrTo N n 0).map B8 := by
  rw [splice_eq, List.take_zero, List.nil_append, Nat.zero_add, List.length_map, ← List.map_drop, ← List.map_append]
  refine congrArg (List.map B8) ?_
  apply List.ext_getElem?
  intro i
  by_cases hi : i < 16
  · simp only [ctrTo, List.getElem?_map, List.getElem?_range hi, Option.map_some]
    by_cases h12 : i < 12
    · rw [List.getElem?_append_left (by omega), if_pos h12, List.getD_eq_getElem?_getD, List.getElem?_eq_getElem (by omega)]; rfl
    · rw [List.getElem?_append_right (by omega), if_neg h12, if_neg (by omega), hN]
      have : i = 12 ∨ i = 13 ∨ i = 14 ∨ i = 15 := by omega
      rcases this with rfl | rfl | rfl | rfl <;> rfl
  · rw [List.getElem?_eq_none (by simp [hN, zero16]; omega), List.getElem?_eq_none (by simp [ctrTo]; omega)]
theorem q32_low (n k : Nat) : IntKind.u8.wrap ((n : Int) / 2 ^ (24 - 8 * k)) = ((numB n k).toNat : Int) := by
  rw [IntKind.wrap_u8]
  unfold numB
  simp
theorem ix_c (k c : Nat) (hk : k < 4) (hc : c = 24 - 8 * k) : wrap64 (8 * (k : Int)) = 8 * (k : Int) ∧ wrap64 (24 - 8 * (k : Int)) = (c : Int) ∧ wrap64 (12 + (k : Int)) = ((12 + k : Nat) : Int) ∧ (c : Int) < 32 ∧ (0 : Int) ≤ (c : Int) ∧ ((12 + k : Nat) : Int) < 16 ∧ (0 : Int) ≤ ((12 + k : Nat) : Int) ∧ (((12 + k : Nat) : Int)).toNat = 12 + k ∧ ((c : Int)).toNat = c := by
  subst hc
  refine ⟨?_, ?_, ?_, ?_, ?_, ?_, ?_, ?_, ?_⟩ <;> first | (unfold wrap64; omega) | omega

set_option maxRecDepth 100000 in
set_option maxHeartbeats 1000000 in
theorem cipher_e (gx gk gr R n : Nat) (L : List UInt32) (N : List UInt8) (w : World) (hx : BoxAt w gx gk gr R L) (hN : N.length = 12) (_hn : n < 4294967296) :
    Calls Try.prog 47 #[.pointer (some ⟨gx, 0, none⟩), BV N, .int .u32 (n : Int)] w fun e w' => e = .returned (BV (sealS L R (ctrE N n))) ∧ Below w.heap.size w w' := by
  have hse := fun (W : World) (h : BoxAt W gx gk gr R L) => seal_any gk gr R L (ctrE N n) W h.key h.lo h.hi (ctrTo_length _ _ _)
  have hxl := sealS_length L R (ctrE N n)
  obtain ⟨X, hX⟩ : ∃ X, X = sealS L R (ctrE N n) := ⟨_, rfl⟩
  rw [← hX] at hxl ⊢
  rw [← hX] at hse
  have hsp := ctrTo_none N n hN
  have hz : ∀ W : World, (zeroValue 42).run Try.prog W = .ok (BV zero16) W := fun W => by kernel_rfl
  obtain ⟨Z, hZ⟩ : ∃ Z, Z = zero16 := ⟨_, rfl⟩
  have HZL := Lib.hid (show Z.length = 16 by rw [hZ]; rfl)
  rw [← hZ] at hz
  rw [← hZ] at hsp
  have HSE := Lib.hid hse
  have HXL := Lib.hid hxl
  have HSP := Lib.hid hsp
  have HN := Lib.hid hN
  have HX := Lib.hid hx
  clear hse hxl hsp hN hZ hX hx _hn
  go_enter Try.func47, Try.ntmps47
  go_wp2
  clear hz
  have hA : Blk (((w.alloc (.cells (N.map B8).toArray 23)).alloc (.cells (Z.map B8).toArray 42)).alloc (.cells (Z.map B8).toArray 42)) w.heap.size 23 (N.map B8) := ((Blk.new_of w 23 _ (N.map B8) rfl).alloc _).alloc _
  have hR := (Blk.new2_of w (.cells (N.map B8).toArray 23) 42 (Z.map B8).toArray (Z.map B8) rfl).alloc (.cells (Z.map B8).toArray 42)
  have hC := Blk.new3_of w (.cells (N.map B8).toArray 23) (.cells (Z.map B8).toArray 42) 42 (Z.map B8).toArray (Z.map B8) rfl
  have hbw := (((Below.refl w.heap.size w).alloc (Nat.le_refl _) (.cells (N.map B8).toArray 23)).alloc (by simp) (.cells (Z.map B8).toArray 42)).alloc (by simp; omega) (.cells (Z.map B8).toArray 42)
  have hne := (show w.heap.size ≠ w.heap.size + 1 + 1 ∧ w.heap.size + 1 ≠ w.heap.size + 1 + 1 ∧ w.heap.size ≤ w.heap.size + 1 + 1 by omega)
  have hle := (show w.heap.size ≤ w.heap.size + 1 by omega)
  generalize w.heap.size + 1 + 1 = gb at *
  generalize w.heap.size + 1 = go at *
  generalize ((w.alloc (.cells (N.map B8).toArray 23)).alloc (.cells (Z.map B8).toArray 42)).alloc (.cells (Z.map B8).toArray 42) = w1 at *
  apply wp_region_once_tail (m := 2) (Z := []) (D := [[], [], [0, 1]]) (J := [[], []]) (Je := [0, 1]) (Rs := [Is _, Is _])
  · kernel_rfl
  · kernel_rfl
  · kernel_rfl
  · kernel_rfl
  · kernel_rfl
  · kernel_rfl
  · kernel_rfl
  · exact fun h => absurd rfl h
  · intro u
    simp only [List.take_succ_cons, List.take_zero, List.map_cons, List.map_nil, fillU, List.setIfInBounds_toArray, List.set_cons_zero, List.set_cons_succ, Nat.zero_add]
    exact rfl
  · simp only [List.take_succ_cons, List.take_zero]
    refine ⟨fun u W hb hd K hK => ?_, ?_⟩
    · clear hd
      go_simp
      apply hK
      · simp only [Act.put, List.setIfInBounds_toArray, List.set_cons_zero, List.set_cons_succ]
        exact rfl
      · exact Below.refl _ _
      · exact IsOut
    refine ⟨fun u W hb hd K hK => ?_, ?_⟩
    · clear hd
      go_simp
      apply hK
      · simp only [Act.put, List.setIfInBounds_toArray, List.set_cons_zero, List.set_cons_succ]
        exact rfl
      · exact Below.refl _ _
      · exact IsOut
    exact trivial
  · skip
    exact trivial
  · exact (.is (.is .nil))
  · intro u W hb hd
    simp only [List.drop_succ_cons, List.drop_zero]
    simp only [Facts, nthR, Is, and_true] at hd
    simp only [hd]
    clear hd
    replace hA := hA.below hb hA.lt
    replace hR := hR.below hb hR.lt
    replace hC := hC.below hb hC.lt
    replace hbw := hbw.trans (hb.mono hbw.size)
    clear hb
    go_wp2_with (refine wpList_copy_blk rfl (.tmp 9) (.tmp 10) 24 24 rfl 5 Try.underlying24 info8 _ _ _ _ _ _ rfl rfl gb 0 (Z.map B8) 42 hC (N.map B8) (by rw [List.length_map, HN.out]; rfl) (fun h0 => ⟨rfl, w.heap.size, 0, rfl, fun j v hv => by rw [Nat.zero_add, hA.cell]; exact hv⟩) (by rw [List.length_map, List.length_map, HN.out, HZL.out]; decide) (oneB8 _) ?_; intro w5 hC5 hg5)
    rw [HSP.out] at hC5
    replace hbw := below_new hbw hg5 hne.2.2 hbw.size
    replace hR := hR.grown hg5 (by simpa using hne.2.1)
    clear hA hC hg5
    go_loopw [8, 12] (fun _ i wr => ∃ k : Nat, k ≤ 4 ∧ i = .int .i64 (k : Int) ∧ Blk wr gb 42 ((ctrTo N n k).map B8) ∧ Blk wr go 42 (Z.map B8) ∧ Below w.heap.size w wr) (fun _ i _ => 4 - (intOf i).toNat)
    case atStart => exact ⟨0, by omega, rfl, hC5, hR, hbw⟩
    case round =>
      clear hC5 hR hbw
      obtain ⟨k, hk, rfl, hC, hR, hbw⟩ := hrel
      by_cases hlt : k < 4
      · have hd : decide ((k : Int) < 4) = true := by simp; omega
        have HST := Lib.hid (ctrTo_step N n k hlt)
        have hq := q32_low n k
        obtain ⟨y, hy⟩ : ∃ y, y = numB n k := ⟨_, rfl⟩
        rw [← hy] at HST hq
        clear hy
        have hl16 := ctrTo_length N n k
        have hc0 := hC.at8 (12 + k) (by rw [hl16]; omega)
        have hf0 := hC.frozen (12 + k)
        have hC2 := hC.set_ (12 + k) (B8 y)
        rw [map_set8, HST.out] at hC2
        have hR2 := hR.far (p := ⟨gb, 12 + k, none⟩) (by simp; exact hne.2.1) (B8 y)
        have hb2 := hbw.setCell (p := ⟨gb, 12 + k, none⟩) (by simp; exact hne.2.2) (B8 y)
        obtain ⟨g1, g2, g3, g4, g5, g6, g7, g8, g9⟩ := ix_c k (24 - 8 * k) hlt rfl
        clear hC hR hbw hl16
        replace hC2 := Lib.hid hC2
        replace hR2 := Lib.hid hR2
        replace hb2 := Lib.hid hb2
        go_wp2
        go_roundw
        case rel => exact ⟨k + 1, by omega, by go_num, hC2.out, hR2.out, hb2.out⟩
        case measure => simp [intOf]; omega
      · have hd : decide ((k : Int) < 4) = false := by simp; omega
        rw [show k = 4 by omega] at hC
        replace hC : Blk wr gb 42 ((ctrE N n).map B8) := hC
        have hCL := ctrTo_length N n 4
        have HCL : Hid ((ctrE N n).length = 16) := hCL
        clear hCL
        obtain ⟨C, hCe⟩ : ∃ C, C = ctrE N n := ⟨_, rfl⟩
        rw [← hCe] at hC HCL HSE
        clear hCe hk hlt
        go_wp2
        apply wp_region_once_tail (m := 6) (Z := []) (D := [[], [0], [0, 1], [0, 1, 2], [], [0, 1, 2, 3, 4], [0, 1, 2, 3, 4, 5]]) (J := [[], [0], [1], [2], [], [3, 4]]) (Je := [5]) (Rs := [Is _, Is _, Is _, Is _, Is _, Is _])
        · kernel_rfl
        · kernel_rfl
        · kernel_rfl
        · kernel_rfl
        · kernel_rfl
        · kernel_rfl
        · kernel_rfl
        · exact fun h => absurd rfl h
        · intro u
          simp only [List.take_succ_cons, List.take_zero, List.map_cons, List.map_nil, fillU, List.setIfInBounds_toArray, List.set_cons_zero, List.set_cons_succ, Nat.zero_add, Nat.reduceAdd]
          exact rfl
        · simp only [List.take_succ_cons, List.take_zero]
          refine ⟨fun u W hb hd K hK => ?_, ?_⟩
          · clear hd
            go_simp
            apply hK
            · simp only [Act.put, List.setIfInBounds_toArray, List.set_cons_zero, List.set_cons_succ]
              exact rfl
            · exact Below.refl _ _
            · exact IsOut
          refine ⟨fun u W hb hd K hK => ?_, ?_⟩
          · simp only [Facts, nthR, Is, and_true] at hd
            simp only [hd] at hK ⊢
            clear hd
            go_simp
            apply hK
            · simp only [Act.put, List.setIfInBounds_toArray, List.set_cons_zero, List.set_cons_succ]
              exact rfl
            · exact Below.refl _ _
            · exact IsOut
          refine ⟨fun u W hb hd K hK => ?_, ?_⟩
          · simp only [Facts, nthR, Is, and_true] at hd
            simp only [hd] at hK ⊢
            clear hd
            go_simp
            apply hK
            · simp only [Act.put, List.setIfInBounds_toArray, List.set_cons_zero, List.set_cons_succ]
              exact rfl
            · exact Below.refl _ _
            · exact IsOut
          refine ⟨fun u W hb hd K hK => ?_, ?_⟩
          · simp only [Facts, nthR, Is, and_true] at hd
            simp only [hd] at hK ⊢
            clear hd
            have hcc := (show W.cell? ⟨gx, 0, none⟩ = some (.pointer (some ⟨gk, 0, none⟩)) from ((HX.out.below hbw).below hb).box.cell 0)
            go_simp
            apply hK
            · simp only [Act.put, List.setIfInBounds_toArray, List.set_cons_zero, List.set_cons_succ]
              exact rfl
            · exact Below.refl _ _
            · exact IsOut
          refine ⟨fun u W hb hd K hK => ?_, ?_⟩
          · clear hd
            rw [if_pos (by rfl)]
            refine wp_load_mid 42 (.tmp 7) rfl (gb) 0 rfl (C.map B8) _ (rangeAt_blk (hC.below hb hC.lt)) Try.underlying42 rfl (infoBk.trans (by rw [List.length_map, HCL.out])) ?_
            exact hK _ _ _ rfl (Below.refl _ _) IsOut
          refine ⟨fun u W hb hd K hK => ?_, ?_⟩
          · simp only [Facts, nthR, Is, and_true] at hd
            simp only [hd] at hK ⊢
            clear hd
            go_simp
            refine (HSE.out W ((HX.out.below hbw).below hb)).mono ?_
            rintro e wy ⟨rfl, hby⟩
            exact hK _ _ _ rfl hby IsOut
          exact trivial
        · skip
          exact trivial
        · exact (.is (.is (.is (.is (.is (.is .nil))))))
        · intro u W hb hd
          simp only [List.drop_succ_cons, List.drop_zero]
          simp only [Facts, nthR, Is, and_true] at hd
          simp only [hd]
          clear hd
          replace hR := hR.below hb hR.lt
          replace hbw := hbw.trans (hb.mono hbw.size)
          clear hb hC
          go_wp2_with ((with_reducible refine (?_ : wpList _ _ _ (Oper.mk none (.store 42 (.tmp 6) _) _ _ _ _ :: _) _ _)); go_loud (refine wpList_store_blk rfl 42 (.tmp 6) (.tmp 30) rfl rfl (go) _ rfl rfl 42 _ hR (infoBk.trans (by rw [List.length_map, HXL.out])) (by rw [List.length_map, List.length_map, HXL.out, HZL.out]) (one8 _) ?_); intro w7 hR7 hg7)
          go_wp2
          refine bodyPost_ret (v := .agg _) (results_cell_row rfl _ _ (go) 42 _ (0, 0) _ rfl hR7.raw Try.underlying42 rfl (infoBk.trans (by rw [List.size_toArray, List.length_map, HXL.out]))) rfl ⟨rfl, below_new hbw hg7 hle hbw.size⟩

end Go.Proofs.Ytefbjhdcmgonbaa
