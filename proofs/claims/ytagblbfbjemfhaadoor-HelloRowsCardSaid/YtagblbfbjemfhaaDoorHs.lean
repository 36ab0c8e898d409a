/-
  Package hello's cursor: counted, sum.
-/
import Derived.Test.YtagblbfbjemfhaaDoorHr
namespace Go.Proofs.YtagblbfbjemfhaaDoor
open Go.RowKit
open HelloMath (numB numB_length vecB vecB_length Msg getN getN_snoc pad32 zero32)

set_option maxRecDepth 100000 in
set_option maxHeartbeats 1000000 in
theorem counted_c (B g : Nat) (r : List UInt8) (k : Nat) (w : World) (hC : CAt w B g r) (hk : Hid (k ≤ 3)) (hr : Hid (r.length ≤ 200000)) :
    Calls Tryd.prog 48 #[.pointer (some ⟨g, 0, none⟩), .int .i64 (k : Int)] w fun e w' => ∃ v, e = .returned v ∧ BufV w' w.heap.size v (HelloMath.cnt k r).1 ∧ CAt w' B g (HelloMath.cnt k r).2 ∧ w.grownBy w' (some g) := by
  have HC := Lib.hid hC
  have HBG := Lib.hid (And.intro hC.1 hC.lt)
  obtain ⟨N, hN⟩ : ∃ N, getN (r.take k) = N := ⟨_, rfl⟩
  have hcnt : HelloMath.cnt k r = ((r.drop k).take N, (r.drop k).drop N) := by rw [HelloMath.cnt, hN]
  rw [hcnt]
  have HN := Lib.hid hN
  have HS := Lib.hid (show ((r.drop k).take N).length < 1000000 by rw [List.length_take, List.length_drop]; have := hr.out; omega)
  clear hC hcnt hN
  go_enter Tryd.func48, Tryd.ntmps48
  go_wp2_with (first
    | (go_at_call 42; refine (number_c B g r k _ HC.out (Lib.hid (by have := hk.out; omega))).mono ?_; rintro e w1 ⟨rfl, hC1, hg1⟩; rw [HN.out])
    | (go_at_call 65; refine (take_e B g (r.drop k) N _ _ hC1 (Lib.hid rfl)).mono ?_; rintro e w2 ⟨v2, rfl, hv2, hC2, hg2⟩)
    | (go_at_call 31; refine (cloneV _ _ _ (hv2.sl (Nat.le_trans hC2.1 (Nat.le_of_lt hC2.lt))) HS.out).mono ?_; rintro e w3 ⟨v3, rfl, hB3, hb3⟩))
  go_ret
  have h12 := grown_trans hg1 hg2
  exact ⟨_, rfl, hB3.base h12.size, hC2.below hb3, grown_trans h12 (grown_of_below hb3 _)⟩
theorem results_row1 {P : Program} {fn : Func} {p : Tmp} {ty : TypeId} (h : fn.results = #[.cell p ty]) (tmps : Array Value) (w : World) (g o : Nat) (cs : List Value) (d : TypeDesc)
    (hp : tmps.getD p undef = .pointer (some ⟨g, o, none⟩)) (hc : w.rangeAt g o cs)
    (hu : P.underlying ty = some d) (hd : d.isRow = true) (hi : (P.info? ty).map (·.size) = some cs.length) :
    (results fn tmps).run P w = .ok (.agg cs.toArray) w := by
  have hp' : tmps[p]?.getD undef = .pointer (some ⟨g, o, none⟩) := by simpa using hp
  simp [results, h, hp', asAddr, run_loadVar_mid w g o ty cs d hc hu hd hi]
set_option maxRecDepth 100000 in
set_option maxHeartbeats 1000000 in
theorem pad_splice (x : List UInt8) (_h : x.length ≤ 32) : splice (zero32.map B8) 0 (x.map B8) = (pad32 x).map B8 := by
  unfold splice pad32
  rw [List.take_zero, List.nil_append, Nat.zero_add, List.map_append, List.length_map, ← List.map_drop]
  congr 2
  unfold zero32
  rw [List.drop_replicate]
theorem sum_c (B g : Nat) (r : List UInt8) (w : World) (hC : CAt w B g r) :
    Calls Tryd.prog 49 #[.pointer (some ⟨g, 0, none⟩)] w fun e w' => e = .returned (.agg ((pad32 (r.take 32)).map B8).toArray) ∧ CAt w' B g (r.drop 32) ∧ w.grownBy w' (some g) := by
  go_enter Tryd.func49, Tryd.ntmps49
  go_upto_region 0 with (fail)
  refine wp_region_lit ?_
  refine wpList_new_blk rfl 22 rfl (zero32.map B8) zeroB32 ?_
  intro g2 w2 hg2 b2 hb2
  have HG2 := Lib.hid hg2
  clear hg2
  try simp only [Act.put, List.setIfInBounds_toArray, List.set_cons_zero, List.set_cons_succ]
  go_upto_region 1 with (fail)
  refine wp_region_lit ?_
  refine wpList_new_blk rfl 22 rfl (zero32.map B8) zeroB32 ?_
  intro g3 w3 hg3 b3 hb3
  have HG3 := Lib.hid hg3
  clear hg3
  have LT2 := Lib.hid (show g < g2 by have := HG2.out; have := hC.lt; omega)
  have LT3 := Lib.hid (show g < g3 ∧ g2 < g3 by have := HG3.out; have := hb2.size; have := b2.lt; have := LT2.out; omega)
  have HC3 := Lib.hid ((hC.below hb2).below hb3)
  have HB3 := Lib.hid (hb2.trans (hb3.mono hb2.size))
  replace b2 := b2.below hb3 b2.lt
  try simp only [Act.put, List.setIfInBounds_toArray, List.set_cons_zero, List.set_cons_succ]
  go_upto_region 2 with (fail)
  refine wp_region_noPanic ?_
  refine wp_region_held_drew (S := fun _ => True) (by kernel_rfl) (trivial) (fun hHeld => ?_)
  have hdr : Below w3.heap.size w3 w3.drew := (Below.refl _ _).drew
  have HCd := Lib.hid (HC3.out.below hdr)
  have HBd := Lib.hid (HB3.out.trans (hdr.mono HB3.out.size))
  replace b2 := b2.drew
  replace b3 := b3.drew
  clear hdr HC3 HB3
  generalize w3.drew = wd at *
  refine wpAnyH_take (i := 0) (oi := ⟨_, _, _, _, _, _⟩) (v := ?_) rfl (by kernel_rfl) (by kernel_rfl) (by kernel_rfl) (fun _ _ _ h => h) (Or.inl ⟨by rfl, ?_⟩) hHeld ?_
  rotate_left 1
  · (intro W hSw; (try dsimp only at hSw); go_simp; try with_reducible rfl)
  try simp only [Act.put, List.setIfInBounds_toArray, List.set_cons_zero, List.set_cons_succ]
  refine wpAnyH_take (i := 1) (oi := ⟨_, _, _, _, _, _⟩) (v := ?_) rfl (by kernel_rfl) (by kernel_rfl) (by kernel_rfl) (fun _ _ _ h => h) (Or.inl ⟨by rfl, ?_⟩) hHeld ?_
  rotate_left 1
  · (intro W hSw; (try dsimp only at hSw); go_simp; try with_reducible rfl)
  try simp only [Act.put, List.setIfInBounds_toArray, List.set_cons_zero, List.set_cons_succ]
  refine wpAnyH_ready (rs := [2]) (by kernel_rfl) (by simp) ?_
  refine AllReadyH.cons (o := ⟨_, _, _, _, _, _⟩) rfl (fun K hK => ?_) AllReadyH.nil
  go_simp
  go_at_call 65
  refine (take_e B g r 32 _ wd HCd.out (Lib.hid rfl)).mono ?_
  rintro e w4 ⟨v4, rfl, hv4, hC4, hg4⟩
  try go_wp2_with fail
  refine hK.out _ _ trivial (fun hHeld => ?_)
  clear hK K
  obtain ⟨A4, c4, rfl, hi4⟩ := hv4
  have b34 := b3.grown hg4 (fun e => by have := LT3.out; injection e with e; omega)
  have b24 := b2.grown hg4 (fun e => by have := LT2.out; injection e with e; omega)
  try simp only [Act.put, List.setIfInBounds_toArray, List.set_cons_zero, List.set_cons_succ]
  refine wpAnyH_ready (rs := [3]) (by kernel_rfl) (by simp) ?_
  refine AllReadyH.cons (o := ⟨_, _, _, _, _, _⟩) rfl (fun K hK => ?_) AllReadyH.nil
  refine step_copy_splice rfl (.tmp 4) (.tmp 6) _ _ rfl 5 Tryd.underlying27 (by kernel_rfl) (some ⟨g3, 0, none⟩) A4 32 32 (r.take 32).length c4 rfl rfl g3 0 (zero32.map B8) 22 b34 ((r.take 32).map B8) ?_ ?_ ?_ (oneB8 _) g3 w4 (Below.refl _ _) (Nat.le_refl _) ?_
  · rw [List.length_map, List.length_take]
    exact (Nat.min_eq_left (Nat.min_le_left _ _)).symm
  · intro h0
    rw [List.length_map] at h0
    obtain ⟨gb, ob, rfl, hgb, hby⟩ := hi4.2.2 h0
    refine ⟨rfl, _, rfl, fun j v hv => ?_⟩
    have hj : j < (r.take 32).length := by have := (List.getElem?_eq_some_iff.1 hv).1; rwa [List.length_map] at this
    rw [getD_map8 _ j hj] at hv
    rw [add_at, hby j hj]
    exact hv
  · rw [List.length_map, List.length_map, List.length_take]
    show 0 + min 32 r.length ≤ 32
    omega
  intro w5 hB5 hb5
  refine hK.out _ _ trivial (fun hHeld => ?_)
  clear hK K
  try simp only [Act.put, List.setIfInBounds_toArray, List.set_cons_zero, List.set_cons_succ]
  refine wpAnyH_done (by kernel_rfl) ?_ _
  refine NoPanic.normal ?_
  clear hHeld
  have B5 : Blk w5 g3 22 ((pad32 (r.take 32)).map B8) := by
    have h := hB5.out
    rw [pad_splice _ (by rw [List.length_take]; exact Nat.min_le_left _ _)] at h
    exact h
  have hlp : (pad32 (r.take 32)).length = 32 := HelloMath.pad_32 r
  have hlz : zero32.length = 32 := rfl
  have C5 : CAt w5 B g (r.drop 32) := by
    obtain ⟨h1, v, h2, h3⟩ := hC4
    exact ⟨h1, v, h2.below hb5 LT3.out.1, h3.below (hb5.mono (Nat.le_trans h1 (Nat.le_of_lt LT3.out.1)))⟩
  have B52 := b24.below hb5 LT3.out.2
  have hg5 : w.grownBy w5 (some g) := by
    have e1 := grown_of_below HBd.out (some g)
    have e2 := grown_trans e1 hg4
    have e3 : w4.grownBy w5 (some g) ∨ True := .inr trivial
    exact ⟨hb5.os.trans e2.os, hb5.tape.trans e2.tape, hb5.output.trans e2.output, Nat.le_trans e2.size hb5.size, fun k hk hne => (hb5.block k (by have := HG3.out; have := hb2.size; omega)).trans (e2.block k hk hne)⟩
  clear hB5 b34 b24
  go_upto_region 3 with (fail)
  refine wp_region_lit ?_
  refine wpList_load_mid rfl 22 (.tmp 3) rfl g3 0 rfl ((pad32 (r.take 32)).map B8) _ (rangeAt_of_blk B5) Tryd.underlying22 rfl (info40.trans (by rw [List.length_map, hlp])) ?_
  try simp only [Act.put, List.setIfInBounds_toArray, List.set_cons_zero, List.set_cons_succ]
  refine wpList_store_blk rfl 22 (.tmp 2) (.tmp 8) rfl rfl g2 ((pad32 (r.take 32)).map B8) rfl rfl _ _ B52 (info40.trans (by rw [List.length_map, hlp])) (by rw [List.length_map, List.length_map, hlz, hlp]) (one8 _) ?_
  intro w6 B6 hg6
  have C6 : CAt w6 B g (r.drop 32) := C5.grown hg6 LT2.out
  have hg : w.grownBy w6 (some g) := ⟨hg6.os.trans hg5.os, hg6.tape.trans hg5.tape, hg6.output.trans hg5.output, Nat.le_trans hg5.size hg6.size, fun k hk hne => (hg6.block k (Nat.lt_of_lt_of_le hk hg5.size) (fun e => by injection e with e; have := HG2.out; omega)).trans (hg5.block k hk hne)⟩
  go_wp2
  refine bodyPost_ret (results_row1 rfl _ _ g2 0 ((pad32 (r.take 32)).map B8) _ rfl (rangeAt_of_blk B6) Tryd.underlying22 rfl (info40.trans (by rw [List.length_map, hlp]))) rfl ?_
  exact ⟨rfl, C6, hg⟩
end Go.Proofs.YtagblbfbjemfhaaDoor
