/-
  Package hello's cursor: what it reads of Certs.
-/
import Derived.Test.YtagblbfbjemfhaaDoorHx
import Derived.Test.YtagblbfbjemfhaaDoorHz
namespace Go.Proofs.YtagblbfbjemfhaaDoor
open Go.RowKit
open HelloMath (numB numB_length vecB vecB_length Msg getN getN_snoc pad32 zero32 zeroM saidCerts crts)

theorem MW.certs_cell {w : World} {D g : Nat} {m : Msg} (h : MW w D g m) : ∃ vc, w.cell? ⟨g, 70, none⟩ = some vc ∧ Rws w D vc m.certs := by
  obtain ⟨hD, hl, v1, v2, v3, v4, v5, vc, hb, h1, h2, h3, h4, h5, h6⟩ := h
  exact ⟨vc, (hb.cell (65 + 5)).trans (mC_get hl.1 hl.2 5), h6⟩
theorem same_but {wd w6 : World} {gc : Nat} {t : TypeId} {v v' : Value} (hg : wd.grownBy w6 (some gc)) (b0 : Blk wd gc t [v]) (b6 : Blk w6 gc t [v']) : ∃ w0 : World, w0.heap.size = wd.heap.size ∧ wd.grownBy w0 (some gc) ∧ Below w0.heap.size w0 w6 := by
  have hg0 := grown_cell wd gc 0 v'
  have b1 := b0.set_ 0 v'
  have hs : (wd.setCell ⟨gc, 0, none⟩ v').heap.size = wd.heap.size := by unfold World.setCell; simp
  refine ⟨_, hs, hg0, hg.os.trans hg0.os.symm, hg.tape.trans hg0.tape.symm, hg.output.trans hg0.output.symm, by rw [hs]; exact hg.size, fun k hk => ?_⟩
  rw [hs] at hk
  by_cases e : k = gc
  · subst e
    rw [b6, b1]
    rfl
  · rw [hg.block k hk (fun e2 => e (Option.some.inj e2)), hg0.block k hk (fun e2 => e (Option.some.inj e2))]
theorem crts_step {n : Nat} {r : List UInt8} (h : r ≠ []) : crts (n + 1) r = (HelloMath.cnt 3 r).1 :: crts n ((HelloMath.cnt 3 r).2.drop 2) := if_neg h
theorem crts_end (n : Nat) : crts n [] = [] := by
  cases n with
  | zero => rfl
  | succ n => exact if_pos rfl
theorem CAt.below_own {w w' : World} {B g D : Nat} {r : List UInt8} (h : CAt w B g r) (hb : Below D w w') (hg : g < D) : CAt w' B g r := by
  obtain ⟨hB, v, h1, h2⟩ := h
  exact ⟨hB, v, h1.below hb hg, h2.below (hb.mono (Nat.le_trans hB (Nat.le_of_lt hg)))⟩
theorem cnt_rest_le (k : Nat) (r : List UInt8) : (HelloMath.cnt k r).2.length ≤ r.length := by
  simp only [HelloMath.cnt, List.length_drop]; omega
/-- a Certs whose chain is being filled -/
def MK (w : World) (D g : Nat) (l : List (List UInt8)) : Prop := g < D ∧ ∃ vc, Blk w g 30 (mC { zeroM 11 with certs := l } (.slice none 0 0) (.slice none 0 0) (.slice none 0 0) (.slice none 0 0) (.slice none 0 0) vc) ∧ Rws w D vc l
theorem MK.mw {w : World} {D g : Nat} {l : List (List UInt8)} (h : MK w D g l) : MW w D g { zeroM 11 with certs := l } := by
  obtain ⟨hD, vc, hb, hr⟩ := h
  have hn : BufV w D (.slice none 0 0) [] := ⟨none, 0, rfl, Buf.nil _ _⟩
  exact ⟨hD, ⟨rfl, rfl⟩, _, _, _, _, _, vc, hb, hn, hn, hn, hn, hn, hr⟩
theorem MK.kept {w w' : World} {D g k : Nat} {l : List (List UInt8)} (h : MK w D g l) (hg : w.grownBy w' (some k)) (hk : k < D) (hne : g ≠ k) : MK w' D g l := by
  obtain ⟨hD, vc, hb, hr⟩ := h
  exact ⟨hD, vc, hb.grown hg (fun e => hne (Option.some.inj e)), hr.kept hg (fun j e => by injection e with e; omega)⟩
theorem MK.below {w w' : World} {D g : Nat} {l : List (List UInt8)} (h : MK w D g l) (hb : Below w.heap.size w w') : MK w' D g l := by
  obtain ⟨hD, vc, h0, hr⟩ := h
  exact ⟨hD, vc, h0.below hb h0.lt, hr.below hb⟩
theorem MK.lt {w : World} {D g : Nat} {l : List (List UInt8)} (h : MK w D g l) : g < w.heap.size := by
  obtain ⟨_, vc, hb, _⟩ := h
  exact hb.lt
theorem MK.set {w : World} {D g : Nat} {l l' : List (List UInt8)} {vc v : Value} (hD : g < D) (hb : Blk w g 30 (mC { zeroM 11 with certs := l } (.slice none 0 0) (.slice none 0 0) (.slice none 0 0) (.slice none 0 0) (.slice none 0 0) vc)) (hr : Rws w D v l') : MK (w.setCell ⟨g, 70, none⟩ v) D g l' := by
  have hs := hb.set_ 70 v
  rw [show (70 : Nat) = 65 + 5 from rfl, mC_set rfl rfl] at hs
  exact ⟨hD, v, hs, hr.kept (grown_cell w g 70 v) (fun j e => by injection e with e; omega)⟩
set_option maxRecDepth 100000 in
set_option maxHeartbeats 4000000 in
theorem certs_c (B gc gm D : Nat) (r : List UInt8) (w : World) (C : CAt w B gc r) (M : MK w D gm []) (hgc : gm < gc ∧ gc < D ∧ B ≤ gm ∧ D ≤ w.heap.size) (hr40 : Hid (r.length ≤ 200000)) : Calls Tryd.prog 46 #[.pointer (some ⟨gc, 0, none⟩), .pointer (some ⟨gm, 0, none⟩)] w fun e w' => e = .returned (.tuple #[]) ∧ MW w' D gm (saidCerts r) ∧ Below gm w w' := by
  go_enter Tryd.func46, Tryd.ntmps46
  go_upto_region 0 with (fail)
  have HL := Lib.hid (show gm ≤ gc ∧ gc < D ∧ gm ≠ gc from ⟨Nat.le_of_lt hgc.1, hgc.2.1, Nat.ne_of_lt hgc.1⟩)
  have HL2 := Lib.hid (show B ≤ gm ∧ gc ≠ gm from ⟨hgc.2.2.1, (Nat.ne_of_lt hgc.1).symm⟩)
  have HL3 := Lib.hid hgc.2.2.2
  have HLS := Lib.hid (Nat.le_of_lt M.lt)
  clear hgc
  have hb : Below gm w w := Below.refl _ _
  go_upto_region 1 with (go_at_call 47; refine (pass_e B gc r [0] 1 _ C (Lib.hid rfl) (Lib.hid (by decide))).mono ?_; rintro e w1 ⟨rfl, Cn, hg⟩)
  clear C
  have C := Cn
  clear Cn
  replace hb := hb.trans (grown_below hg HL.out.1 (Nat.le_trans HLS.out hb.size))
  replace M := M.kept hg HL.out.2.1 HL.out.2.2
  clear hg
  obtain ⟨r2, hr2⟩ : ∃ x, Hid (r.drop 1 = x) := ⟨_, Lib.hid rfl⟩
  rw [hr2.out] at C
  go_upto_region 2 with (go_at_call 42; refine (number_c B gc r2 3 _ C (Lib.hid (by decide))).mono ?_; rintro e w3 ⟨rfl, Cn, hg⟩)
  clear C
  have C := Cn
  clear Cn
  replace hb := hb.trans (grown_below hg HL.out.1 (Nat.le_trans HLS.out hb.size))
  replace M := M.kept hg HL.out.2.1 HL.out.2.2
  clear hg
  obtain ⟨r4, hr4⟩ : ∃ x, Hid (r2.drop 3 = x) := ⟨_, Lib.hid rfl⟩
  rw [hr4.out] at C

  have Hr4 := Lib.hid (show r4.length ≤ 200000 by simp only [← hr4.out, ← hr2.out]; simp only [List.length_drop]; have := hr40.out; omega)
  have hsz0 : D ≤ w3.heap.size := Nat.le_trans HL3.out hb.size
  have H0 := Lib.hid (show ∃ (rr : List UInt8) (l : List (List UInt8)), CAt w3 B gc rr ∧ MK w3 D gm l ∧ Below gm w w3 ∧ D ≤ w3.heap.size ∧ rr.length ≤ 200000 ∧ l.length ≤ 6 ∧ crts 6 r4 = l ++ crts (6 - l.length) rr from ⟨r4, [], C, M, hb, hsz0, Hr4.out, by decide, rfl⟩)
  clear C M hb hsz0 Hr4
  go_loopw [] (fun wl => Hid (∃ (rr : List UInt8) (l : List (List UInt8)), CAt wl B gc rr ∧ MK wl D gm l ∧ Below gm w wl ∧ D ≤ wl.heap.size ∧ rr.length ≤ 200000 ∧ l.length ≤ 6 ∧ crts 6 r4 = l ++ crts (6 - l.length) rr)) (fun wl => 7 - lenOf ((wl.cell? ⟨gm, 70, none⟩).getD undef))
  case atStart => exact H0
  case round =>
    obtain ⟨rr, l, C, ⟨hgD, vc, hBk, hRw⟩, hb, hsz, hrr, hl6, hcr6⟩ := hrel.out
    clear hrel H0
    have hvc : wr.cell? ⟨gm, 70, none⟩ = some vc := (hBk.cell (65 + 5)).trans (mC_get rfl rfl 5)
    obtain ⟨Ac, cc, hvcs, _, _⟩ := hRw.slice
    subst hvcs
    obtain ⟨lc, hlc⟩ : ∃ q, l.length = q := ⟨_, rfl⟩
    rw [hlc] at hvc hBk hRw
    have HV0 := Lib.hid hvc
    obtain ⟨vr, hcr, hsr⟩ := C.rest
    obtain ⟨Ar, cr, rfl, -⟩ := hsr
    obtain ⟨lr, hlr⟩ : ∃ q, rr.length = q := ⟨_, rfl⟩
    rw [hlr] at hcr
    have hrl := Lib.hid hrr
    by_cases hz : lr = 0
    · subst hz
      have hnil : rr = [] := List.eq_nil_of_length_eq_zero hlr
      have hfin := Lib.hid (show { zeroM 11 with certs := l } = saidCerts r by unfold saidCerts; rw [show (r.drop 1).drop 3 = r4 by simp only [hr2.out, hr4.out], hcr6, hnil, crts_end, List.append_nil])
      have HM := Lib.hid (show MW wr D gm { zeroM 11 with certs := l } from MK.mw ⟨hgD, _, hBk, hRw⟩)
      have HB := Lib.hid hb
      clear hnil hcr6 hBk hRw hb hsz hrr hl6 hlc hlr C hvc
      go_wp2
      go_end0
      rw [← hfin.out]
      exact ⟨rfl, HM.out, HB.out⟩
    · by_cases h6 : 5 < lc
      · have hl : l.length = 6 := by omega
        have hfin := Lib.hid (show { zeroM 11 with certs := l } = saidCerts r by unfold saidCerts; rw [show (r.drop 1).drop 3 = r4 by simp only [hr2.out, hr4.out], hcr6, hl]; show _ = { zeroM 11 with certs := l ++ crts 0 rr }; rw [crts, List.append_nil])
        have HM := Lib.hid (show MW wr D gm { zeroM 11 with certs := l } from MK.mw ⟨hgD, _, hBk, hRw⟩)
        have HB := Lib.hid hb
        have hz' : ((lr : Int) > 0) := by omega
        have h6' : ¬ (lc : Int) ≤ 5 := by omega
        clear hcr6 hBk hRw hb hsz hrr hl6 hlc hlr C hl h6 hz
        go_wp2
        go_end0
        rw [← hfin.out]
        exact ⟨rfl, HM.out, HB.out⟩
      · have hz' : ((lr : Int) > 0) := by omega
        have h6' : (lc : Int) ≤ 5 := by omega
        have hne : rr ≠ [] := by intro e; rw [e] at hlr; exact hz hlr.symm
        obtain ⟨Y, hY⟩ : ∃ Y, Hid ((HelloMath.cnt 3 rr).1 = Y) := ⟨_, Lib.hid rfl⟩
        have hcr7 := Lib.hid (show crts 6 r4 = (l ++ [Y]) ++ crts (6 - (l ++ [Y]).length) ((HelloMath.cnt 3 rr).2.drop 2) by
          rw [hcr6, show 6 - l.length = (6 - (l ++ [Y]).length) + 1 by rw [List.length_append, List.length_singleton]; omega, crts_step hne, hY.out, List.append_assoc]; rfl)
        have HL7 := Lib.hid (show (l ++ [Y]).length ≤ 6 ∧ l.length < 6 ∧ ((HelloMath.cnt 3 rr).2.drop 2).length ≤ 200000 by
          have := cnt_rest_le 3 rr
          rw [List.length_append, List.length_singleton, List.length_drop]; omega)
        have hlm : l.length ≤ 1000000 := by omega
        have HLC := Lib.hid hlc
        clear hcr6 hl6 hz h6 hlr hlc hne hrr
        go_upto_region 3 with (fail)
        refine wp_region_noPanic ?_
        refine wp_region_but (S := fun W => W.cell? ⟨gm, 70, none⟩ = some (.slice Ac lc cc)) 11 (by kernel_rfl) (by exact hvc) (fun hHeld => ?_)
        have hdr : Below wr.heap.size wr wr.drew := (Below.refl _ _).drew
        replace C := C.below hdr
        replace hBk := hBk.below hdr hBk.lt
        replace hRw := hRw.below hdr
        replace hb := hb.trans (hdr.mono (Nat.le_trans HLS.out hb.size))
        clear hdr hcr
        generalize wr.drew = wd at *
        have hszd := hb.size
        have HC0 := Lib.hid C.2
        refine but_take (i := 0) (oi := ⟨_, _, _, _, _, _⟩) (v := ?_) rfl (by kernel_rfl) (by kernel_rfl) (by kernel_rfl) (by kernel_rfl) (fun _ _ _ h => h) (Or.inl ⟨by rfl, ?_⟩) hHeld ?_
        rotate_left 1
        · (intro W hSw; (try dsimp only at hSw); go_simp; try with_reducible rfl)
        try simp only [Act.put, List.setIfInBounds_toArray, List.set_cons_zero, List.set_cons_succ]
        refine but_take (i := 1) (oi := ⟨_, _, _, _, _, _⟩) (v := ?_) rfl (by kernel_rfl) (by kernel_rfl) (by kernel_rfl) (by kernel_rfl) (fun _ _ _ h => h) (Or.inl ⟨by rfl, ?_⟩) hHeld ?_
        rotate_left 1
        · (intro W hSw; (try dsimp only at hSw); go_simp; try with_reducible rfl)
        try simp only [Act.put, List.setIfInBounds_toArray, List.set_cons_zero, List.set_cons_succ]
        refine but_take (i := 2) (oi := ⟨_, _, _, _, _, _⟩) (v := ?_) rfl (by kernel_rfl) (by kernel_rfl) (by kernel_rfl) (by kernel_rfl) (fun _ _ _ h => h) (Or.inl ⟨by rfl, ?_⟩) hHeld ?_
        rotate_left 1
        · (intro W hSw; (try dsimp only at hSw); go_simp; try with_reducible rfl)
        try simp only [Act.put, List.setIfInBounds_toArray, List.set_cons_zero, List.set_cons_succ]
        refine but_take (i := 3) (oi := ⟨_, _, _, _, _, _⟩) (v := ?_) rfl (by kernel_rfl) (by kernel_rfl) (by kernel_rfl) (by kernel_rfl) (fun _ _ _ h => h) (Or.inl ⟨by rfl, ?_⟩) hHeld ?_
        rotate_left 1
        · (intro W hSw; (try dsimp only at hSw); go_simp; try with_reducible rfl)
        try simp only [Act.put, List.setIfInBounds_toArray, List.set_cons_zero, List.set_cons_succ]
        refine but_take (i := 4) (oi := ⟨_, _, _, _, _, _⟩) (v := ?_) rfl (by kernel_rfl) (by kernel_rfl) (by kernel_rfl) (by kernel_rfl) (fun _ _ _ h => h) (Or.inl ⟨by rfl, ?_⟩) hHeld ?_
        rotate_left 1
        · (intro W hSw; (try dsimp only at hSw); go_simp; try with_reducible rfl)
        try simp only [Act.put, List.setIfInBounds_toArray, List.set_cons_zero, List.set_cons_succ]
        refine but_take (i := 5) (oi := ⟨_, _, _, _, _, _⟩) (v := ?_) rfl (by kernel_rfl) (by kernel_rfl) (by kernel_rfl) (by kernel_rfl) (fun _ _ _ h => h) (Or.inl ⟨by rfl, ?_⟩) hHeld ?_
        rotate_left 1
        · (intro W hSw; (try dsimp only at hSw); go_simp; try with_reducible rfl)
        try simp only [Act.put, List.setIfInBounds_toArray, List.set_cons_zero, List.set_cons_succ]
        refine but_ready (i := 6) (o := ⟨_, _, _, _, _, _⟩) (by kernel_rfl) rfl (fun K hK => ?_)
        go_simp
        go_at_call 48
        refine (counted_c B gc rr 3 _ C (Lib.hid (by decide)) hrl).mono ?_
        rintro e w6 ⟨v6, rfl, hv6, C6, hg6⟩
        try go_wp2_with fail
        have M6 := hBk.grown hg6 (fun e => HL.out.2.2 (Option.some.inj e))
        have hvc6 : w6.cell? ⟨gm, 70, none⟩ = some (.slice Ac lc cc) := (World.cell?_of_block (w := wd) (a := ⟨gm, 70, none⟩) (hg6.block gm hBk.lt (fun e => HL.out.2.2 (Option.some.inj e)))).trans hHeld
        obtain ⟨w0, hs0, hg0, hb06⟩ : ∃ w0 : World, w0.heap.size = wd.heap.size ∧ wd.grownBy w0 (some gc) ∧ Below w0.heap.size w0 w6 := by
          obtain ⟨va, ha, _⟩ := HC0.out
          obtain ⟨vb, hbb, _⟩ := C6.2
          exact same_but hg6 ha hbb
        have hRw0 := hRw.kept hg0 (fun k e => by injection e with e; have := HL.out.2.1; omega)
        have hb6 := hb.trans (grown_below hg6 HL.out.1 (Nat.le_trans HLS.out hb.size))
        rw [hY.out] at hv6
        refine hK.out _ _ hvc6 (fun hHeld => ?_)
        clear hK K C hBk hRw hg6 hg0
        obtain ⟨A6, c6, rfl, hB6⟩ := hv6
        try simp only [Act.put, List.setIfInBounds_toArray, List.set_cons_zero, List.set_cons_succ]
        refine but_ready (i := 7) (o := ⟨_, _, _, _, _, _⟩) (by kernel_rfl) rfl (fun K hK => ?_)
        have hSl : SlVs w6 [.slice A6 Y.length c6] [Y] := ⟨⟨A6, c6, rfl, hB6.toIn (Nat.le_refl _)⟩, trivial⟩
        rw [if_pos (by rfl)]
        refine wp_builtS 28 27 1 _ rfl Tryd.underlying28 [.slice A6 Y.length c6].toArray (by rw [Array.toList_map]; exact rows1 _ _ _) ?_
        clear hSl
        have hB7 := Blk.new w6 27 [.slice A6 Y.length c6]
        have hb67 : Below w6.heap.size w6 (w6.alloc (.cells [.slice A6 Y.length c6].toArray 27)) := (Below.refl _ _).alloc (Nat.le_refl _) _
        have hvc7 := (hb67.cell (p := ⟨gm, 70, none⟩) M6.lt).trans hHeld
        refine hK.out _ _ hvc7 (fun hHeld => ?_)
        clear hK K
        replace C6 := C6.below hb67
        replace M6 := M6.below hb67 M6.lt
        replace hB6 := hB6.below hb67
        replace hb6 := hb6.trans (hb67.mono (Nat.le_trans HLS.out hb6.size))
        have hb07 := hb06.trans (hb67.mono hb06.size)
        clear hb06 hb67 hvc6
        generalize w6.alloc (.cells [.slice A6 Y.length c6].toArray 27) = w7 at *
        generalize w6.heap.size = g7 at *
        try simp only [Act.put, List.setIfInBounds_toArray, List.set_cons_zero, List.set_cons_succ]
        refine but_ready (i := 8) (o := ⟨_, _, _, _, _, _⟩) (by kernel_rfl) rfl (fun K hK => ?_)
        refine step_append_rws rfl (.tmp 26) (.tmp 29) rfl D (.slice Ac lc cc) l rfl hRw0 hb07 (Nat.le_trans HL3.out (by rw [hs0]; exact hszd)) g7 rfl Y A6 c6 (hB7.cell 0) (by rw [hs0]; exact hB6) (by omega) ?_
        intro v8 w8 hR8 hb8 hg8
        have hMk : w7.grownBy w8 (Value.ownBlock (.slice Ac lc cc)) := hg8
        have M8 := M6.below hb8 (Nat.lt_of_le_of_lt HL.out.1 HL.out.2.1)
        have C8 := C6.below_own hb8 HL.out.2.1
        have hvc8 := (hb8.cell (p := ⟨gm, 70, none⟩) (Nat.lt_of_le_of_lt HL.out.1 HL.out.2.1)).trans hHeld
        refine hK.out _ _ hvc8 (fun hHeld => ?_)
        clear hK K
        replace hb6 := hb6.trans (hb8.mono (Nat.le_trans HL.out.1 (Nat.le_of_lt HL.out.2.1)))
        clear C6 M6 hB6 hB7 hb07 hg8 hMk hRw0 hvc7 hb8
        obtain ⟨A8, c8, hv8, _, _⟩ := hR8.slice
        subst hv8
        obtain ⟨l8, hl8⟩ : ∃ q, (l ++ [Y]).length = q := ⟨_, rfl⟩
        rw [hl8] at hR8 ⊢
        try simp only [Act.put, List.setIfInBounds_toArray, List.set_cons_zero, List.set_cons_succ]
        refine but_ready (i := 9) (o := ⟨_, _, _, _, _, _⟩) (by kernel_rfl) rfl (fun K hK => ?_)
        go_simp
        refine hK.out _ _ hHeld (fun hHeld => ?_)
        clear hK K
        try simp only [Act.put, List.setIfInBounds_toArray, List.set_cons_zero, List.set_cons_succ]
        refine but_take (i := 10) (oi := ⟨_, _, _, _, _, _⟩) (v := ?_) rfl (by kernel_rfl) (by kernel_rfl) (by kernel_rfl) (by kernel_rfl) (fun _ _ _ h => h) (Or.inl ⟨by rfl, ?_⟩) hHeld ?_
        rotate_left 1
        · (intro W hSw; (try dsimp only at hSw); go_simp; try with_reducible rfl)
        try simp only [Act.put, List.setIfInBounds_toArray, List.set_cons_zero, List.set_cons_succ]
        refine but_last (o := ⟨_, _, _, _, _, _⟩) (by kernel_rfl) rfl (by kernel_rfl) (fun K hK => ?_)
        have hfz := M8.frozen 70
        go_simp
        refine hK.out _ _ ?_
        clear hK K hfz hvc8 hHeld
        refine NoPanic.normal ?_
        have hg := grown_cell w8 gm 70 (.slice A8 l8 c8)
        have M := MK.set (Nat.lt_of_le_of_lt HL.out.1 HL.out.2.1) M8 hR8
        have C := C8.other hg HL2.out.1 HL2.out.2
        have hb := hb6.trans (grown_below hg (Nat.le_refl _) (Nat.le_trans HLS.out hb6.size))
        have hm9 : (w8.setCell ⟨gm, 70, none⟩ (.slice A8 l8 c8)).cell? ⟨gm, 70, none⟩ = some (.slice A8 l8 c8) := by rw [Blk.cell (M8.set_ 70 (.slice A8 l8 c8)), List.getElem?_set_self (by rw [mC_length rfl rfl]; decide)]
        have HM9 := Lib.hid hm9
        have HL8 := Lib.hid (show l8 = lc + 1 by rw [← hl8, List.length_append, HLC.out]; rfl)
        clear hg M8 C8 hb6 hR8 hm9
        generalize w8.setCell ⟨gm, 70, none⟩ (.slice A8 l8 c8) = w9 at *
        have M9 := M
        obtain ⟨_, vc9, hb9, hr9⟩ := M9
        go_wp2_with (go_at_call 47; refine (pass_e B gc (HelloMath.cnt 3 rr).2 [0, 0] 2 _ C (Lib.hid rfl) (Lib.hid (by decide))).mono ?_; rintro e w10 ⟨rfl, C10, hg10⟩)
        have M10 := M.kept hg10 HL.out.2.1 HL.out.2.2
        have hb10 := hb.trans (grown_below hg10 HL.out.1 (Nat.le_trans HLS.out hb.size))
        have HM10 := Lib.hid (show w10.cell? ⟨gm, 70, none⟩ = some (.slice A8 l8 c8) from (World.cell?_of_block (w := w9) (a := ⟨gm, 70, none⟩) (hg10.block gm M.lt (fun e => HL.out.2.2 (Option.some.inj e)))).trans HM9.out)
        have HSZ := Lib.hid (show D ≤ w10.heap.size from Nat.le_trans HL3.out hb10.size)
        clear C M hb hg10 hb9 hr9
        have HREL := Lib.hid (show ∃ (rr : List UInt8) (l : List (List UInt8)), CAt w10 B gc rr ∧ MK w10 D gm l ∧ Below gm w w10 ∧ D ≤ w10.heap.size ∧ rr.length ≤ 200000 ∧ l.length ≤ 6 ∧ crts 6 r4 = l ++ crts (6 - l.length) rr from ⟨_, _, C10, M10, hb10, HSZ.out, HL7.out.2.2, HL7.out.1, hcr7.out⟩)
        go_roundw
        case rel => exact HREL
        case measure =>
          rw [HM10.out, HV0.out]
          show 7 - l8 < 7 - lc
          have h1 := HL8.out
          have h2 := HL7.out.2.1
          have h3 := HLC.out
          omega
end Go.Proofs.YtagblbfbjemfhaaDoor
