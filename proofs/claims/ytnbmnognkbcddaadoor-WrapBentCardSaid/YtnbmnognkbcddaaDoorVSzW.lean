/-
  The walk of the statement WrapSizes.
-/
import Derived.Test.YtnbmnognkbcddaaDoorVi
namespace Go.Proofs.YtnbmnognkbcddaaDoor
open Go.RowKit

theorem ix_mod (a : Int) (m : Nat) (h0 : 0 < m) (hm : m < 1000000) : ∃ q : Nat, wrap64 ((IntKind.u64.wrap a).tmod (m : Int)) = (q : Int) ∧ q < m := by
  have hu0 : (0 : Int) ≤ IntKind.u64.wrap a := by rw [IntKind.wrap_u64]; omega
  have h1 := Int.emod_nonneg (IntKind.u64.wrap a) (b := (m : Int)) (by omega)
  have h2 := Int.emod_lt_of_pos (IntKind.u64.wrap a) (b := (m : Int)) (by omega)
  refine ⟨(IntKind.u64.wrap a % (m : Int)).toNat, ?_, by omega⟩
  rw [Int.tmod_eq_emod_of_nonneg hu0]
  generalize IntKind.u64.wrap a % (m : Int) = r at *
  unfold wrap64
  omega
theorem or_high (b : UInt8) : 128 ≤ (b ||| 128).toNat := by
  rw [UInt8.toNat_or]
  exact Nat.right_le_or
theorem or_bits (b : UInt8) : bits .or .u8 (b.toNat : Int) 128 = (((b ||| 128 : UInt8).toNat : Nat) : Int) := by
  rw [UInt8.toNat_or]
  have h : ∀ n : Fin 256, bits .or .u8 ((n.val : Nat) : Int) 128 = ((n.val ||| 128 : Nat) : Int) := by decide +kernel
  exact h ⟨b.toNat, b.toNat_lt⟩
theorem sizes_v (n : Nat) (s0 : UInt8) (Q sec : List UInt8) (h0 : 0 < n) (h1 : n ≤ 200) (hs : 128 ≤ s0.toNat) :
    ∃ V : List UInt8, wrapE 17 s0 1 (List.replicate n 0) Q sec = (V, 0) ∧ V.length = 8 + 16 * ((n + 16) / 16) ∧ (V.getD 5 0).toNat = 4 + 16 * ((n + 16) / 16) := by
  have hW : wrapE 17 s0 1 (List.replicate n 0) Q sec = (wrapB 17 s0 1 (List.replicate n 0) Q sec, 0) := by
    unfold wrapE; rw [if_pos]; · rfl
    unfold mayW; simp; omega
  refine ⟨_, hW, by rw [wrapB_length, List.length_replicate], ?_⟩
  show (UInt8.ofNat (4 + (hideE sec (Q ++ [s0, 1]) (UInt8.ofNat (List.replicate n (0 : UInt8)).length :: List.replicate n 0)).length)).toNat = _
  rw [hideE_length, List.length_cons, List.length_replicate, ofNat_toNat _ (by omega)]
theorem ix_size (n L : Nat) (h1 : n ≤ 200) (hL : L = 8 + 16 * ((n + 16) / 16)) : ∃ a1 a2 d e l4 : Nat, (n : Int) + 1 = (a1 : Int) ∧ (a1 : Int) + 15 = (a2 : Int) ∧ (a2 : Int).tdiv 16 = (d : Int) ∧ (a2 : Int) / 16 = (d : Int) ∧ (d : Int) * 16 = (e : Int) ∧ (8 : Int) + (e : Int) = (L : Int) ∧ (L : Int) - 4 = (l4 : Int)
    ∧ wrap64 (a1 : Int) = (a1 : Int) ∧ wrap64 (a2 : Int) = (a2 : Int) ∧ wrap64 (d : Int) = (d : Int) ∧ wrap64 (e : Int) = (e : Int) ∧ wrap64 (L : Int) = (L : Int) ∧ wrap64 (l4 : Int) = (l4 : Int) ∧ l4 = 4 + 16 * ((n + 16) / 16) := by
  refine ⟨n + 1, n + 16, (n + 16) / 16, 16 * ((n + 16) / 16), 4 + 16 * ((n + 16) / 16), by omega, by omega, ?_, by omega, by omega, by omega, by omega, by unfold wrap64; omega, by unfold wrap64; omega, by unfold wrap64; omega, by unfold wrap64; omega, by unfold wrap64; omega, by unfold wrap64; omega, rfl⟩
  rw [Int.tdiv_eq_ediv_of_nonneg (by omega)]; omega
theorem ix_one (q n : Nat) (h : n = q + 1) (h1 : q < 200) : (1 : Int) + (q : Int) = (n : Int) ∧ wrap64 (n : Int) = (n : Int) ∧ wrap64 ((1 : Int) + (q : Int)) = (n : Int) ∧ IntKind.i64.wrap ((1 : Int) + (q : Int)) = (n : Int) := by
  refine ⟨by omega, by unfold wrap64; omega, by unfold wrap64; omega, by rw [IntKind.wrap_i64]; omega⟩
set_option maxRecDepth 100000 in
set_option maxHeartbeats 300000 in
theorem wrapSizes_walk (a : Int) (b : UInt8) (w : World) (ht : TabsQ w) :
    Calls Tryd.prog 11 #[.int .i64 a, .int .u8 (b.toNat : Int)] w fun e w' => e = .returned (.bool true) ∧ Below w.heap.size w w' := by
  obtain ⟨q, hq1, hq2⟩ : ∃ q : Nat, wrap64 ((IntKind.u64.wrap a).tmod 200) = (q : Int) ∧ q < 200 := ix_mod a 200 (by decide) (by decide)
  obtain ⟨n, hn⟩ : ∃ n, n = q + 1 := ⟨_, rfl⟩
  obtain ⟨hn1, hn2, hn3, hn4⟩ := ix_one q n hn hq2
  obtain ⟨s0, hs0⟩ : ∃ s0, s0 = b ||| 128 := ⟨_, rfl⟩
  have hor : bits .or .u8 (b.toNat : Int) 128 = (s0.toNat : Int) := by rw [hs0]; exact or_bits b
  obtain ⟨L, hL⟩ : ∃ L, L = 8 + 16 * ((n + 16) / 16) := ⟨_, rfl⟩
  obtain ⟨V, hW, hl, h5⟩ := sizes_v n s0 (List.replicate 16 0) [115] (by omega) (by omega) (by rw [hs0]; exact or_high b)
  have HWR := Lib.hid (fun (W : World) (A As : Option Addr) (c cs : Nat) (h : Below w.heap.size w W) (i0 : In W W.heap.size A c (List.replicate n 0)) (is : In W W.heap.size As cs [115]) =>
    (show Calls Tryd.prog 40 #[.int .i64 17, .slice A n c, .agg #[.int .u8 (s0.toNat : Int), .int .u8 1], .agg #[.int .u8 0, .int .u8 0, .int .u8 0, .int .u8 0, .int .u8 0, .int .u8 0, .int .u8 0, .int .u8 0, .int .u8 0, .int .u8 0, .int .u8 0, .int .u8 0, .int .u8 0, .int .u8 0, .int .u8 0, .int .u8 0], .slice As 1 cs] W (fun e w' => ∃ A' M c', e = .returned (.tuple #[.slice A' M c', .int .i64 0]) ∧ Buf w' W.heap.size A' M c' V ∧ Below W.heap.size W w') by
      have hh := wrap_e 17 s0 1 (List.replicate 16 0) (List.replicate n 0) [115] A As c cs n 1 W rfl (by simp) rfl i0 is (ht.below h) (by omega) (by decide)
      rw [hW] at hh
      exact hh))
  have HWS := Lib.hid (fun (W : World) (h : Below w.heap.size w W) => wraps_e W (ht.below h))
  have hmk := fun (W : World) => run_make_bytes .i64 .i64 n n (Nat.le_refl _) (by omega) W
  have hbz := (buf_zeros w n (by omega)).alloc (.cells #[.int .u8 115] 5 (1, 2))
  rw [← hL] at hl
  have HIX := Lib.hid (ix_size n L (by omega) hL)
  have HL := Lib.hid hl
  have H5 := Lib.hid h5
  have HL0 := Lib.hid (show 5 < L by omega)
  have HN := Lib.hid (And.intro hn hq2)
  generalize ((List.replicate n (0 : UInt8)).map B8).toArray = Zn at *
  clear hn hq2 hL hW hl h5 ht hs0
  go_enter Tryd.func11, Tryd.ntmps11
  go_upto_region 2 with (fail)
  rw [hn2, hq1]
  clear hn1 hn3 hn4 hq1
  obtain ⟨kc, hS0⟩ := const_second w (.cells Zn 5) [115] 1 rfl (by decide)
  have hz1 : Below w.heap.size w (w.alloc (.cells Zn 5)) := (Below.refl _ _).alloc (Nat.le_refl _) _
  have hz2 := hz1.alloc hz1.size (.cells #[.int .u8 115] 5 (1, 2))
  have HZ0 := Lib.hid hbz
  have HS0 := Lib.hid hS0
  have HZ2 := Lib.hid hz2
  clear hbz hS0 hz1 hz2
  replace kc : (convert 26 26 (.slice (some ⟨w.heap.size + 1, 0, none⟩) 1 1)).run Tryd.prog ((w.alloc (.cells Zn 5)).alloc (.cells #[.int .u8 115] 5)) = .ok (.slice (some ⟨w.heap.size + 1, 0, none⟩) 1 1) ((w.alloc (.cells Zn 5)).alloc (.cells #[.int .u8 115] 5 (1, 2))) := kc
  go_upto_region 3 with (go_at_call 40; refine (HWR.out _ _ _ _ _ HZ2.out (HZ0.out.toIn (Nat.le_refl _)) HS0.out).mono ?_; rintro e w3 ⟨A3, M, c3, rfl, hB3, hb3⟩)
  have HB3 := Lib.hid (HZ2.out.trans (hb3.mono HZ2.out.size))
  have hM : M = L := by rw [← hB3.1, HL.out]
  subst hM
  obtain ⟨gv, hA3, hgv, hgv2, hby⟩ := hB3.at (Nat.lt_of_le_of_lt (Nat.zero_le _) HL0.out)
  subst hA3
  obtain ⟨a1, a2, d, e, l4, h1, h2, h3, h4, h5, h6, h7, h8, h9, h10, h11, h12, h13, h14⟩ := HIX.out
  have hcv : w3.cell? ⟨gv, 5, none⟩ = some (.int .u8 (l4 : Int)) := by have := hby 5 (by rw [HL.out]; exact HL0.out); rw [Nat.zero_add] at this; rw [this, h14, ← H5.out]
  have hn5 : (5 : Int) < (M : Int) := Int.ofNat_lt.2 HL0.out
  clear kc hmk hb3 hB3 hgv hby hor h14 h4 hn2
  go_wp2_with (go_at_call 42; refine (HWS.out _ HB3.out).mono ?_; rintro e w4 ⟨rfl, hb4⟩; have hc4 := (hb4.cell (p := ⟨gv, 5, none⟩) hgv2).trans hcv)
  go_ret
  exact ⟨rfl, HB3.out.trans (hb4.mono HB3.out.size)⟩
end Go.Proofs.YtnbmnognkbcddaaDoor
