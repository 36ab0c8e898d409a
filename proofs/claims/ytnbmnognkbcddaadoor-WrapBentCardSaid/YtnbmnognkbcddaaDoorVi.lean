/-
  The contract of the law's wraps.
-/
import Derived.Test.YtnbmnognkbcddaaDoorVh
namespace Go.Proofs.YtnbmnognkbcddaaDoor
open Go.RowKit

theorem buf_const (W : World) (xs : List UInt8) (n : Nat) (t : TypeId) (hn : xs.length = n) (hm : n < 1000) : Buf (W.alloc (.cells (xs.map B8).toArray t (n, n + 1))) W.heap.size (some ⟨W.heap.size, 0, none⟩) n n xs :=
  Buf.made _ t n (n + 1) (Nat.le_refl _) hn (Nat.le_refl _) (by unfold maxLen; omega) (by simpa using hn) (.inl (Nat.le_refl _)) (fun j hj => by
    rw [List.getElem?_toArray]
    exact getD_map8 xs j (by omega))
theorem size_alloc1 (w : World) (o : Obj) : (w.alloc o).heap.size = w.heap.size + 1 := by simp
/-- A constant's bytes, in the second new block. -/
theorem const_second (w : World) (O : Obj) (xs : List UInt8) (n : Nat) (hn : xs.length = n) (hm : n < 1000) :
    (convert 26 26 (.slice (some ⟨w.heap.size + 1, 0, none⟩) n n)).run Tryd.prog ((w.alloc O).alloc (.cells (xs.map B8).toArray 5)) = .ok (.slice (some ⟨w.heap.size + 1, 0, none⟩) n n) ((w.alloc O).alloc (.cells (xs.map B8).toArray 5 (n, n + 1)))
    ∧ In ((w.alloc O).alloc (.cells (xs.map B8).toArray 5 (n, n + 1))) ((w.alloc O).alloc (.cells (xs.map B8).toArray 5 (n, n + 1))).heap.size (some ⟨w.heap.size + 1, 0, none⟩) n xs := by
  have h1 := Lib.run_convert_bytes_const (P := Tryd.prog) (w.alloc O) 26 5 (xs.map B8).toArray n n Tryd.underlying26 Tryd.underlying5
  have h2 := (buf_const (w.alloc O) xs n 5 hn hm).toIn (Nat.le_refl _)
  rw [size_alloc1, show (xs.map B8).toArray.size = n by simpa using hn] at h1
  rw [size_alloc1 w] at h2
  exact ⟨h1, h2⟩
theorem const_first (w : World) (xs : List UInt8) (n : Nat) (hn : xs.length = n) (hm : n < 1000) :
    (convert 26 26 (.slice (some ⟨w.heap.size, 0, none⟩) n n)).run Tryd.prog (w.alloc (.cells (xs.map B8).toArray 5)) = .ok (.slice (some ⟨w.heap.size, 0, none⟩) n n) (w.alloc (.cells (xs.map B8).toArray 5 (n, n + 1)))
    ∧ In (w.alloc (.cells (xs.map B8).toArray 5 (n, n + 1))) (w.alloc (.cells (xs.map B8).toArray 5 (n, n + 1))).heap.size (some ⟨w.heap.size, 0, none⟩) n xs := by
  have h1 := Lib.run_convert_bytes_const (P := Tryd.prog) w 26 5 (xs.map B8).toArray n n Tryd.underlying26 Tryd.underlying5
  rw [show (xs.map B8).toArray.size = n by simpa using hn] at h1
  exact ⟨h1, (buf_const w xs n 5 hn hm).toIn (Nat.le_refl _)⟩
def oneQ : List UInt8 := 1 :: List.replicate 15 0
theorem wraps_v : ∃ V : List UInt8, wrapE 16 128 0 (List.replicate 32 0) oneQ [115] = (V, 0) ∧ V.length = 56 ∧ V.getD 3 0 = 55 ∧ unwrapE V oneQ [115] = (16, List.replicate 32 0, 0) := by
  have hW : wrapE 16 128 0 (List.replicate 32 0) oneQ [115] = (wrapB 16 128 0 (List.replicate 32 0) oneQ [115], 0) := by
    unfold wrapE; rw [if_pos (by decide)]; rfl
  exact ⟨_, hW, by rw [wrapB_length]; rfl, rfl, unwrap_wrap hW⟩
set_option maxRecDepth 100000 in
set_option maxHeartbeats 1000000 in
theorem wraps_e (w : World) (ht : TabsQ w) : Calls Tryd.prog 42 #[] w fun e w' => e = .returned (.bool true) ∧ Below w.heap.size w w' := by
  obtain ⟨V, hW, hl, h3, hU⟩ := wraps_v
  have HWR := Lib.hid (fun (W : World) (A As : Option Addr) (c cs : Nat) (h : Below w.heap.size w W) (i0 : In W W.heap.size A c (List.replicate 32 0)) (is : In W W.heap.size As cs [115]) =>
    (show Calls Tryd.prog 40 #[.int .i64 16, .slice A 32 c, .agg #[.int .u8 128, .int .u8 0], .agg #[.int .u8 1, .int .u8 0, .int .u8 0, .int .u8 0, .int .u8 0, .int .u8 0, .int .u8 0, .int .u8 0, .int .u8 0, .int .u8 0, .int .u8 0, .int .u8 0, .int .u8 0, .int .u8 0, .int .u8 0, .int .u8 0], .slice As 1 cs] W (fun e w' => ∃ A' M c', e = .returned (.tuple #[.slice A' M c', .int .i64 0]) ∧ Buf w' W.heap.size A' M c' V ∧ Below W.heap.size W w') by
      have hh := wrap_e 16 128 0 oneQ (List.replicate 32 0) [115] A As c cs 32 1 W rfl rfl rfl i0 is (ht.below h) (by decide) (by decide)
      rw [hW] at hh
      exact hh))
  have HUW := Lib.hid (fun (W : World) (A As : Option Addr) (c cs M : Nat) (h : Below w.heap.size w W) (i0 : In W W.heap.size A c V) (hM : V.length = M) (is : In W W.heap.size As cs [115]) =>
    (show Calls Tryd.prog 43 #[.slice A M c, .agg #[.int .u8 1, .int .u8 0, .int .u8 0, .int .u8 0, .int .u8 0, .int .u8 0, .int .u8 0, .int .u8 0, .int .u8 0, .int .u8 0, .int .u8 0, .int .u8 0, .int .u8 0, .int .u8 0, .int .u8 0, .int .u8 0], .slice As 1 cs] W (fun e w' => ∃ A' c', e = .returned (.tuple #[.int .i64 16, .slice A' 32 c', .int .i64 0]) ∧ Below W.heap.size W w') by
      have hh := unwrap_e oneQ V [115] A As c cs M 1 W rfl hM rfl i0 is (ht.below h) (by rw [← hM, hl]; decide) (by decide)
      rw [hU] at hh
      refine hh.mono ?_
      rintro e w' ⟨A', n, c', rfl, hn, _, hb⟩
      have hn2 : 32 = n := hn
      subst hn2
      exact ⟨A', c', rfl, hb⟩))
  have hmk := fun (W : World) => (show (Instr.makeSlice 26 (.int .i64 32) (.int .i64 32)).run Tryd.prog W = .ok (.slice (some ⟨W.heap.size, 0, none⟩) 32 32) (W.alloc (.cells ((List.replicate 32 (0 : UInt8)).map B8).toArray 5)) from run_make_bytes .i64 .i64 32 32 (Nat.le_refl _) (by decide) W)
  have HL := Lib.hid hl
  have H3 := Lib.hid h3
  clear hW hl h3 hU ht
  go_enter Tryd.func42, Tryd.ntmps42
  go_upto_region 1 with (fail)
  have hZ0 := (buf_zeros w 32 (by decide)).alloc (.cells #[.int .u8 115] 5 (1, 2))
  generalize ((List.replicate 32 (0 : UInt8)).map B8).toArray = Z32 at *
  obtain ⟨kc, hS0⟩ := const_second w (.cells Z32 5) [115] 1 rfl (by decide)
  have hz1 : Below w.heap.size w (w.alloc (.cells Z32 5)) := (Below.refl _ _).alloc (Nat.le_refl _) _
  have hz2 := hz1.alloc hz1.size (.cells #[.int .u8 115] 5 (1, 2))
  have HZ0 := Lib.hid hZ0
  have HS0 := Lib.hid hS0
  have HZ2 := Lib.hid hz2
  clear hZ0 hS0 hz1 hz2
  replace kc : (convert 26 26 (.slice (some ⟨w.heap.size + 1, 0, none⟩) 1 1)).run Tryd.prog ((w.alloc (.cells Z32 5)).alloc (.cells #[.int .u8 115] 5)) = .ok (.slice (some ⟨w.heap.size + 1, 0, none⟩) 1 1) ((w.alloc (.cells Z32 5)).alloc (.cells #[.int .u8 115] 5 (1, 2))) := kc
  go_upto_region 2 with (go_at_call 40; refine (HWR.out _ _ _ _ _ HZ2.out (HZ0.out.toIn (Nat.le_refl _)) HS0.out).mono ?_; rintro e w3 ⟨A3, M, c3, rfl, hB3, hb3⟩)
  have HB3 := Lib.hid (HZ2.out.trans (hb3.mono HZ2.out.size))
  obtain ⟨gv, hA3, hgv, hgv2, hby⟩ := hB3.at (by rw [← hB3.1, HL.out]; decide)
  subst hA3
  have hM : M = 56 := by rw [← hB3.1, HL.out]
  subst hM
  have hcv : w3.cell? ⟨gv, 3, none⟩ = some (.int .u8 55) := by have := hby 3 (by rw [HL.out]; decide); rw [H3.out] at this; simpa using this
  have HV3 := Lib.hid hB3
  clear kc hmk hb3 hB3 hgv hby
  obtain ⟨kc, hS1⟩ := const_first w3 [115] 1 rfl (by decide)
  replace kc : (convert 26 26 (.slice (some ⟨w3.heap.size, 0, none⟩) 1 1)).run Tryd.prog (w3.alloc (.cells #[.int .u8 115] 5)) = .ok (.slice (some ⟨w3.heap.size, 0, none⟩) 1 1) (w3.alloc (.cells #[.int .u8 115] 5 (1, 2))) := kc
  have HS1 := Lib.hid hS1
  have hz1 : Below w3.heap.size w3 (w3.alloc (.cells #[.int .u8 115] 5 (1, 2))) := (Below.refl _ _).alloc (Nat.le_refl _) _
  have HZ3 := Lib.hid hz1
  clear hS1 hz1
  go_upto_region 3 with (go_at_call 43; refine (HUW.out _ _ _ _ _ _ (HB3.out.trans (HZ3.out.mono HB3.out.size)) ((HV3.out.toIn (Nat.le_refl _)).up HZ3.out) HL.out HS1.out).mono ?_; rintro e w4 ⟨A4, c4, rfl, hb4⟩)
  have hb5 := HZ3.out.trans (hb4.mono HZ3.out.size)
  have hcv4 : w4.cell? ⟨gv, 3, none⟩ = some (.int .u8 55) := (hb5.cell (p := ⟨gv, 3, none⟩) hgv2).trans hcv
  have hbe := HB3.out.trans (hb5.mono HB3.out.size)
  clear hcv kc hb4 hb5 hgv2
  go_wp2
  go_ret
  exact ⟨rfl, hbe⟩
end Go.Proofs.YtnbmnognkbcddaaDoor
