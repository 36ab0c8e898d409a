/-
  The contracts of package wrap's said (all ways) and Unwrap, and of bytes.Equal.
-/
import Derived.Test.YtbomckbekcaemaaDoorVd
import Derived.OwnWalk
namespace Go.Proofs.YtbomckbekcaemaaDoor
open Go.RowKit

set_option maxRecDepth 100000 in
set_option maxHeartbeats 1000000 in
theorem said_e (Q v sec : List UInt8) (A As : Option Addr) (c cs n ls : Nat) (w : World) (hQ : Q.length = 16) (hn : v.length = n) (hls : sec.length = ls) (i0 : In w w.heap.size A c v) (is : In w w.heap.size As cs sec) (ht : TabsQ w) (h1 : n ≤ 1000000) (h2 : ls ≤ 1000000) :
    Calls Tryd.prog 60 #[.slice A n c, .agg (Q.map B8).toArray, .slice As ls cs] w (SaidPost (saidW v Q sec) w) := by
  by_cases hb : n < 8
  · exact said_short Q v sec A As c cs n ls w hQ hn hls i0 is ht h1 h2 hb
  by_cases hb2 : 216 < n
  · exact said_long Q v sec A As c cs n ls w hQ hn hls i0 is ht h1 h2 hb2
  by_cases hc : c = 8
  · exact said_eq Q v sec A As c cs n ls w hQ hn hls i0 is ht h1 h2 (by omega) (by omega) hc
  · exact said_ok Q v sec A As c cs n ls w hQ hn hls i0 is ht h1 h2 (by omega) (by omega) hc
theorem said_len (v Q sec : List UInt8) : (saidW v Q sec).2.1.length ≤ 255 := by
  unfold saidW
  split
  · simp
  split
  · simp
  · rw [List.length_take]; have := ((shownAs sec (Q ++ [v.getD 6 0, v.getD 7 0]) (v.drop 8)).getD 0 0).toNat_lt; omega
theorem wrap_err (kind : Int) (s0 s1 : UInt8) (key asked sec : List UInt8) : (wrapE kind s0 s1 key asked sec).2 = 0 ∨ (wrapE kind s0 s1 key asked sec).2 = 1 := by
  unfold wrapE; split <;> simp
def UnwrapPost (E : Int × List UInt8 × Nat) (w : World) (e : Ending) (w' : World) : Prop :=
  ∃ A n c, e = .returned (.tuple #[.int .i64 E.1, .slice A n c, .int .i64 (E.2.2 : Int)]) ∧ E.2.1.length = n ∧ In w' w'.heap.size A c E.2.1 ∧ Below w.heap.size w w'
def UnwrapPostF (E : Int × List UInt8 × Nat) (w : World) (e : Ending) (w' : World) : Prop :=
  ∃ A n c, e = .returned (.tuple #[.int .i64 E.1, .slice A n c, .int .i64 (E.2.2 : Int)]) ∧ E.2.1.length = n ∧ In w' w'.heap.size A c E.2.1 ∧ Below w.heap.size w w' ∧ (∀ x, A = some x → w.heap.size ≤ x.block)
set_option maxRecDepth 100000 in
set_option maxHeartbeats 1000000 in
theorem unwrap_bad (Q v sec : List UInt8) (A As : Option Addr) (c cs n ls : Nat) (w : World) (hQ : Q.length = 16) (hn : v.length = n) (hls : sec.length = ls) (i0 : In w w.heap.size A c v) (is : In w w.heap.size As cs sec) (ht : TabsQ w) (h1 : n ≤ 1000000) (h2 : ls ≤ 1000000) (k : Int) (key V : List UInt8) (z0 z1 : UInt8) (hS : saidW v Q sec = (k, key, z0, z1)) (hW : wrapE k z0 z1 key Q sec = (V, 1)) :
    Calls Tryd.prog 41 #[.slice A n c, .agg (Q.map B8).toArray, .slice As ls cs] w (UnwrapPostF (unwrapE v Q sec) w) := by
  have hkl := said_len v Q sec
  rw [hS] at hkl
  have hU : unwrapE v Q sec = if (V, 1) = (v, 0) then (k, key, 0) else (0, [], 2) := by unfold unwrapE; rw [hS]; show (if wrapE k z0 z1 key Q sec = (v, 0) then _ else _) = _; rw [hW]
  have HSD := Lib.hid (fun (W : World) (h : Below w.heap.size w W) => (show Calls Tryd.prog 60 #[.slice A n c, .agg (Q.map B8).toArray, .slice As ls cs] W (SaidPost (k, key, z0, z1) W) by rw [← hS]; exact said_e Q v sec A As c cs n ls W hQ hn hls (i0.up h) (is.up h) (ht.below h) h1 h2))
  have HWR := Lib.hid (fun (W : World) (A3 : Option Addr) (c3 n3 : Nat) (h : Below w.heap.size w W) (h3 : In W W.heap.size A3 c3 key) (hl : key.length = n3) =>
    (show Calls Tryd.prog 38 #[.int .i64 k, .slice A3 n3 c3, .agg #[.int .u8 (z0.toNat : Int), .int .u8 (z1.toNat : Int)], .agg (Q.map B8).toArray, .slice As ls cs] W (fun e w' => ∃ A' M c', e = .returned (.tuple #[.slice A' M c', .int .i64 1]) ∧ Buf w' W.heap.size A' M c' V ∧ Below W.heap.size W w') by
      have hh := wrap_e k z0 z1 Q key sec A3 As c3 cs n3 ls W hQ hl hls h3 (is.up h) (ht.below h) (by have : key.length ≤ 255 := hkl; omega) h2
      rw [hW] at hh
      exact hh))
  have HEQ := Lib.hid (fun (W : World) (A3 : Option Addr) (c3 n3 : Nat) (h : Below w.heap.size w W) (h3 : In W W.heap.size A3 c3 V) (hl : V.length = n3) (r : Bool) (hr : (V == v) = r) => equal_e A3 A c3 c n3 n V v W hl hn h3 (i0.up h) r hr)
  have HQL := Lib.hid hQ
  generalize unwrapE v Q sec = E at *
  have HU := Lib.hid hU
  clear hS hW hkl hQ hn hls i0 is ht h1 h2 hU
  go_enter Tryd.func41, Tryd.ntmps41
  go_upto_region 1 with (fail)
  have hQb := Blk.new_of w 22 _ (Q.map B8) rfl
  have hb0 : Below w.heap.size w (w.alloc (.cells (Q.map B8).toArray 22)) := (Below.refl _ _).alloc (Nat.le_refl _) _
  have hgq := hQb.lt
  obtain ⟨gq, hgq'⟩ : ∃ gq, gq = w.heap.size := ⟨_, rfl⟩
  rw [← hgq'] at hQb hgq
  simp only [← hgq']
  have HGQ := Lib.hid hgq
  have HBW := Lib.hid hb0
  clear hgq' hb0 hgq
  generalize (w.alloc (.cells (Q.map B8).toArray 22)) = w1 at *
  go_upto_region 2 with (first
    | ((with_reducible refine (?_ : wpList _ _ _ (Oper.mk (some 16) _ _ _ _ _ :: _) _ _)); go_loud (refine wpList_load_blk rfl 22 (.tmp 4) rfl gq rfl 22 _ _ hQb Tryd.underlying22 rfl (inf16.trans (by rw [List.length_map, HQL.out])) ?_))
    | (go_at_call 60; refine (HSD.out _ HBW.out).mono ?_; rintro e w2 ⟨A2, n2, c2, rfl, hl2, hI2, hb2, hf2⟩)
    | ((with_reducible refine (?_ : wpList _ _ _ (Oper.mk none _ _ _ _ _ :: _) _ _)); go_loud (refine wpList_store_blk rfl 71 (.tmp 11) (.tmp 21) rfl rfl w2.heap.size [.int .u8 (z0.toNat : Int), .int .u8 (z1.toNat : Int)] rfl rfl _ _ (Blk.new_of w2 71 #[.int .u8 0, .int .u8 0] _ rfl) inf2 rfl (by simp [Value.oneCell']) ?_); intro w3 hS3 hg3))
  have h2a : Below w2.heap.size w2 (w2.alloc (.cells #[.int .u8 0, .int .u8 0] 71)) := (Below.refl _ _).alloc (Nat.le_refl _) _
  have hb3 : Below w2.heap.size w2 w3 := below_new h2a hg3 (Nat.le_refl _) h2a.size
  have HBA := Lib.hid (HBW.out.trans ((hb2.trans (hb3.mono hb2.size)).mono HBW.out.size))
  have hQ3 := (hQb.below hb2 HGQ.out).below hb3 (Nat.lt_of_lt_of_le HGQ.out hb2.size)
  have HI3 := Lib.hid (in_up hI2 hb3)
  have HL2 := Lib.hid hl2
  have HF2 := Lib.hid hf2
  generalize w2.heap.size = g8 at *
  clear h2a hb3 hI2 hg3 hQb hb2 hl2 hf2
  go_upto_region 3 with (first
    | ((with_reducible refine (?_ : wpList _ _ _ (Oper.mk (some 26) _ _ _ _ _ :: _) _ _)); go_loud (refine wpList_load_blk rfl 22 (.tmp 4) rfl gq rfl 22 _ _ hQ3 Tryd.underlying22 rfl (inf16.trans (by rw [List.length_map, HQL.out])) ?_))
    | ((with_reducible refine (?_ : wpList _ _ _ (Oper.mk (some 25) _ _ _ _ _ :: _) _ _)); go_loud (refine wpList_load_blk rfl 71 (.tmp 11) rfl g8 rfl 71 _ _ hS3 Tryd.underlying71 rfl inf2 ?_))
    | (go_at_call 38; refine (HWR.out _ _ _ _ HBA.out HI3.out HL2.out).mono ?_; rintro e w4 ⟨A4, n4, c4, rfl, hB4, hb4⟩))
  have HB4 := Lib.hid (HBA.out.trans (hb4.mono HBA.out.size))
  have HI4 := Lib.hid (in_up HI3.out hb4)
  have HV := Lib.hid hB4
  clear hS3 hQ3 hB4 hb4 HI3
  have HZZ := Lib.hid (show E = (0, [], 2) by rw [HU.out, if_neg]; simp)
  go_wp2
  go_ret3
  exact ⟨none, 0, 0, by rw [HZZ.out] <;> rfl, by rw [HZZ.out]; rfl, by rw [HZZ.out]; exact in_nil _ _ (by decide) _, HB4.out, fun _ h => by cases h⟩
set_option maxRecDepth 100000 in
set_option maxHeartbeats 1000000 in
theorem unwrap_ok (Q v sec : List UInt8) (A As : Option Addr) (c cs n ls : Nat) (w : World) (hQ : Q.length = 16) (hn : v.length = n) (hls : sec.length = ls) (i0 : In w w.heap.size A c v) (is : In w w.heap.size As cs sec) (ht : TabsQ w) (h1 : n ≤ 1000000) (h2 : ls ≤ 1000000) (k : Int) (key V : List UInt8) (z0 z1 : UInt8) (hS : saidW v Q sec = (k, key, z0, z1)) (hW : wrapE k z0 z1 key Q sec = (V, 0)) :
    Calls Tryd.prog 41 #[.slice A n c, .agg (Q.map B8).toArray, .slice As ls cs] w (UnwrapPostF (unwrapE v Q sec) w) := by
  have hkl := said_len v Q sec
  rw [hS] at hkl
  have hU : unwrapE v Q sec = if (V, 0) = (v, 0) then (k, key, 0) else (0, [], 2) := by unfold unwrapE; rw [hS]; show (if wrapE k z0 z1 key Q sec = (v, 0) then _ else _) = _; rw [hW]
  have HSD := Lib.hid (fun (W : World) (h : Below w.heap.size w W) => (show Calls Tryd.prog 60 #[.slice A n c, .agg (Q.map B8).toArray, .slice As ls cs] W (SaidPost (k, key, z0, z1) W) by rw [← hS]; exact said_e Q v sec A As c cs n ls W hQ hn hls (i0.up h) (is.up h) (ht.below h) h1 h2))
  have HWR := Lib.hid (fun (W : World) (A3 : Option Addr) (c3 n3 : Nat) (h : Below w.heap.size w W) (h3 : In W W.heap.size A3 c3 key) (hl : key.length = n3) =>
    (show Calls Tryd.prog 38 #[.int .i64 k, .slice A3 n3 c3, .agg #[.int .u8 (z0.toNat : Int), .int .u8 (z1.toNat : Int)], .agg (Q.map B8).toArray, .slice As ls cs] W (fun e w' => ∃ A' M c', e = .returned (.tuple #[.slice A' M c', .int .i64 0]) ∧ Buf w' W.heap.size A' M c' V ∧ Below W.heap.size W w') by
      have hh := wrap_e k z0 z1 Q key sec A3 As c3 cs n3 ls W hQ hl hls h3 (is.up h) (ht.below h) (by have : key.length ≤ 255 := hkl; omega) h2
      rw [hW] at hh
      exact hh))
  have HEQ := Lib.hid (fun (W : World) (A3 : Option Addr) (c3 n3 : Nat) (h : Below w.heap.size w W) (h3 : In W W.heap.size A3 c3 V) (hl : V.length = n3) (r : Bool) (hr : (V == v) = r) => equal_e A3 A c3 c n3 n V v W hl hn h3 (i0.up h) r hr)
  have HQL := Lib.hid hQ
  generalize unwrapE v Q sec = E at *
  have HU := Lib.hid hU
  clear hS hW hkl hQ hn hls i0 is ht h1 h2 hU
  go_enter Tryd.func41, Tryd.ntmps41
  go_upto_region 1 with (fail)
  have hQb := Blk.new_of w 22 _ (Q.map B8) rfl
  have hb0 : Below w.heap.size w (w.alloc (.cells (Q.map B8).toArray 22)) := (Below.refl _ _).alloc (Nat.le_refl _) _
  have hgq := hQb.lt
  obtain ⟨gq, hgq'⟩ : ∃ gq, gq = w.heap.size := ⟨_, rfl⟩
  rw [← hgq'] at hQb hgq
  simp only [← hgq']
  have HGQ := Lib.hid hgq
  have HBW := Lib.hid hb0
  clear hgq' hb0 hgq
  generalize (w.alloc (.cells (Q.map B8).toArray 22)) = w1 at *
  go_upto_region 2 with (first
    | ((with_reducible refine (?_ : wpList _ _ _ (Oper.mk (some 16) _ _ _ _ _ :: _) _ _)); go_loud (refine wpList_load_blk rfl 22 (.tmp 4) rfl gq rfl 22 _ _ hQb Tryd.underlying22 rfl (inf16.trans (by rw [List.length_map, HQL.out])) ?_))
    | (go_at_call 60; refine (HSD.out _ HBW.out).mono ?_; rintro e w2 ⟨A2, n2, c2, rfl, hl2, hI2, hb2, hf2⟩)
    | ((with_reducible refine (?_ : wpList _ _ _ (Oper.mk none _ _ _ _ _ :: _) _ _)); go_loud (refine wpList_store_blk rfl 71 (.tmp 11) (.tmp 21) rfl rfl w2.heap.size [.int .u8 (z0.toNat : Int), .int .u8 (z1.toNat : Int)] rfl rfl _ _ (Blk.new_of w2 71 #[.int .u8 0, .int .u8 0] _ rfl) inf2 rfl (by simp [Value.oneCell']) ?_); intro w3 hS3 hg3))
  have h2a : Below w2.heap.size w2 (w2.alloc (.cells #[.int .u8 0, .int .u8 0] 71)) := (Below.refl _ _).alloc (Nat.le_refl _) _
  have hb3 : Below w2.heap.size w2 w3 := below_new h2a hg3 (Nat.le_refl _) h2a.size
  have HBA := Lib.hid (HBW.out.trans ((hb2.trans (hb3.mono hb2.size)).mono HBW.out.size))
  have hQ3 := (hQb.below hb2 HGQ.out).below hb3 (Nat.lt_of_lt_of_le HGQ.out hb2.size)
  have HI3 := Lib.hid (in_up hI2 hb3)
  have HL2 := Lib.hid hl2
  have HF2 := Lib.hid hf2
  generalize w2.heap.size = g8 at *
  clear h2a hb3 hI2 hg3 hQb hb2 hl2 hf2
  go_upto_region 3 with (first
    | ((with_reducible refine (?_ : wpList _ _ _ (Oper.mk (some 26) _ _ _ _ _ :: _) _ _)); go_loud (refine wpList_load_blk rfl 22 (.tmp 4) rfl gq rfl 22 _ _ hQ3 Tryd.underlying22 rfl (inf16.trans (by rw [List.length_map, HQL.out])) ?_))
    | ((with_reducible refine (?_ : wpList _ _ _ (Oper.mk (some 25) _ _ _ _ _ :: _) _ _)); go_loud (refine wpList_load_blk rfl 71 (.tmp 11) rfl g8 rfl 71 _ _ hS3 Tryd.underlying71 rfl inf2 ?_))
    | (go_at_call 38; refine (HWR.out _ _ _ _ HBA.out HI3.out HL2.out).mono ?_; rintro e w4 ⟨A4, n4, c4, rfl, hB4, hb4⟩))
  have HB4 := Lib.hid (HBA.out.trans (hb4.mono HBA.out.size))
  have HI4 := Lib.hid (in_up HI3.out hb4)
  have HV := Lib.hid hB4
  clear hS3 hQ3 hB4 hb4 HI3
  obtain ⟨r, hr⟩ : ∃ r, (V == v) = r := ⟨_, rfl⟩
  have HE4 := Lib.hid (HEQ.out w4 A4 c4 n4 HB4.out (HV.out.toIn (Nat.le_refl _)) HV.out.1 r hr)
  cases r
  · have HZZ := Lib.hid (show E = (0, [], 2) by rw [HU.out, if_neg]; intro h; injection h with h _; rw [h] at hr; simp at hr)
    clear hr
    go_wp2_with (go_at_call 48; refine HE4.out.mono ?_; rintro e w5 ⟨rfl, hww⟩; have hw2 := hww.symm; subst hw2)
    go_ret3
    exact ⟨none, 0, 0, by rw [HZZ.out] <;> rfl, by rw [HZZ.out]; rfl, by rw [HZZ.out]; exact in_nil _ _ (by decide) _, HB4.out, fun _ h => by cases h⟩
  · have HZZ := Lib.hid (show E = (k, key, 0) by rw [HU.out, if_pos]; rw [eq_of_beq hr])
    clear hr
    go_wp2_with (go_at_call 48; refine HE4.out.mono ?_; rintro e w5 ⟨rfl, hww⟩; have hw2 := hww.symm; subst hw2)
    go_ret3
    exact ⟨A2, n2, c2, by rw [HZZ.out] <;> rfl, by rw [HZZ.out]; exact HL2.out, by rw [HZZ.out]; exact HI4.out, HB4.out, fun x h => Nat.le_trans HBW.out.size (HF2.out x h)⟩
theorem unwrap_f (Q v sec : List UInt8) (A As : Option Addr) (c cs n ls : Nat) (w : World) (hQ : Q.length = 16) (hn : v.length = n) (hls : sec.length = ls) (i0 : In w w.heap.size A c v) (is : In w w.heap.size As cs sec) (ht : TabsQ w) (h1 : n ≤ 1000000) (h2 : ls ≤ 1000000) :
    Calls Tryd.prog 41 #[.slice A n c, .agg (Q.map B8).toArray, .slice As ls cs] w (UnwrapPostF (unwrapE v Q sec) w) := by
  obtain ⟨k, key, z0, z1, hS⟩ : ∃ k key z0 z1, saidW v Q sec = (k, key, z0, z1) := ⟨_, _, _, _, rfl⟩
  obtain ⟨V, er, hW⟩ : ∃ V er, wrapE k z0 z1 key Q sec = (V, er) := ⟨_, _, rfl⟩
  have her := wrap_err k z0 z1 key Q sec
  rw [hW] at her
  rcases her with rfl | rfl
  · exact unwrap_ok Q v sec A As c cs n ls w hQ hn hls i0 is ht h1 h2 k key V z0 z1 hS hW
  · exact unwrap_bad Q v sec A As c cs n ls w hQ hn hls i0 is ht h1 h2 k key V z0 z1 hS hW
theorem unwrap_e (Q v sec : List UInt8) (A As : Option Addr) (c cs n ls : Nat) (w : World) (hQ : Q.length = 16) (hn : v.length = n) (hls : sec.length = ls) (i0 : In w w.heap.size A c v) (is : In w w.heap.size As cs sec) (ht : TabsQ w) (h1 : n ≤ 1000000) (h2 : ls ≤ 1000000) :
    Calls Tryd.prog 41 #[.slice A n c, .agg (Q.map B8).toArray, .slice As ls cs] w (UnwrapPost (unwrapE v Q sec) w) :=
  (unwrap_f Q v sec A As c cs n ls w hQ hn hls i0 is ht h1 h2).mono (fun _ _ ⟨A, n, c, he, hn, hI, hb, _⟩ => ⟨A, n, c, he, hn, hI, hb⟩)
end Go.Proofs.YtbomckbekcaemaaDoor
