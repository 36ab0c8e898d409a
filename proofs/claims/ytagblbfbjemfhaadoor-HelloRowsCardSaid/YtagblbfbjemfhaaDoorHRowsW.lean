/-
  The walk of the statement HelloRows.
-/
import Derived.Test.YtagblbfbjemfhaaDoorJr
namespace Go.Proofs.YtagblbfbjemfhaaDoor
open Go.RowKit
open HelloMath (Msg zeroM wholeM formM readBy saidM)

def hadOf (ms : List Msg) : List Msg := (ms.map tameM).filter formM
def whB (l : List Msg) : List UInt8 := (l.map wholeM).flatten
theorem had_snoc {ms : List Msg} {k : Nat} (h : k < ms.length) : hadOf (ms.take (k + 1)) = if formM (tameM (ms.getD k (zeroM 0))) = true then hadOf (ms.take k) ++ [tameM (ms.getD k (zeroM 0))] else hadOf (ms.take k) := by
  unfold hadOf
  rw [List.take_succ_eq_append_getElem h, List.map_append, List.filter_append, List.getD_eq_getElem?_getD, List.getElem?_eq_getElem h]
  simp only [List.map_cons, List.map_nil, Option.getD_some]
  split
  · rename_i hf; simp [hf]
  · rename_i hf; simp [hf]
theorem had_form {ms : List Msg} {m : Msg} (h : m ∈ hadOf ms) : formM m = true := (List.mem_filter.1 h).2
theorem had_len (ms : List Msg) : (hadOf ms).length ≤ ms.length := by
  unfold hadOf
  exact Nat.le_trans (List.length_filter_le _ _) (by rw [List.length_map]; exact Nat.le_refl _)
theorem wh_snoc (l : List Msg) (m : Msg) : whB (l ++ [m]) = whB l ++ wholeM m := by unfold whB; simp
theorem wh_drop {l : List Msg} {k : Nat} (h : k < l.length) : whB (l.drop k) = wholeM (l.getD k (zeroM 0)) ++ whB (l.drop (k + 1)) := by
  unfold whB
  rw [List.drop_eq_getElem_cons h, List.map_cons, List.flatten_cons, List.getD_eq_getElem?_getD, List.getElem?_eq_getElem h]
  rfl
theorem wh_len : ∀ l : List Msg, (∀ m ∈ l, (wholeM m).length ≤ 33000) → (whB l).length ≤ 33000 * l.length
  | [], _ => Nat.zero_le _
  | m :: l, h => by
    have := wh_len l (fun x hx => h x (by simp [hx]))
    have h1 := h m (by simp)
    unfold whB at this ⊢
    rw [List.map_cons, List.flatten_cons, List.length_append, List.length_cons]
    omega
theorem Below.ofGrown {B : Nat} {w0 w w' : World} {r : Option Nat} (hb : Below B w0 w) (hg : w.grownBy w' r) (hr : ∀ k, r = some k → B ≤ k) (hB : B ≤ w.heap.size) : Below B w0 w' := by
  exact hb.trans ⟨hg.os, hg.tape, hg.output, hg.size, fun i hi => hg.block i (Nat.lt_of_lt_of_le hi hB) (fun e => by have := hr i e.symm; omega)⟩
theorem ix_six {k n : Nat} (h : k < n) (hn : n ≤ 9223372036854775807) : (0 : Int) ≤ (k : Int) ∧ (k : Int) < (n : Int) ∧ wrap64 ((k : Int) + 1) = ((k + 1 : Nat) : Int) ∧ ((k : Int)).toNat = k := by
  refine ⟨by omega, by omega, ?_, by omega⟩
  unfold wrap64; omega
theorem BufV.keptV {w w' : World} {base : Nat} {v : Value} {bs : List UInt8} {r : Option Nat} (h : BufV w base v bs) (hg : w.grownBy w' r) (hne : ∀ {k}, v.ownBlock = some k → r = some k → False) : BufV w' base v bs := by
  obtain ⟨A, c, rfl, hb⟩ := h
  exact ⟨A, c, rfl, hb.kept hg (fun g e e2 => hne (k := g) (by rw [ownBlock_slice, e]; rfl) e2.symm)⟩
set_option maxRecDepth 100000 in
set_option maxHeartbeats 8000000 in
theorem helloRows_walk (v : Value) (ms : List Msg) (w : World) (hT : TabH w) (h : MIn w v ms) : Calls Tryd.prog 6 #[v] w fun e w' => e = .returned (.bool true) ∧ Below w.heap.size w w' := by
  obtain ⟨A, c, rfl, hl, hrow⟩ := h
  obtain ⟨n, hn⟩ : ∃ n, ms.length = n := ⟨_, rfl⟩
  rw [hn] at hl hrow ⊢
  have HT := Lib.hid hT
  have HN := Lib.hid hn
  have HL := Lib.hid hl
  have HR := Lib.hid hrow
  clear hT hn hl hrow
  go_enter Tryd.func6, Tryd.ntmps6
  go_wp2
  go_loopw [5, 3, 4] (fun i av vv wr => ∃ k : Nat, k ≤ n ∧ k ≤ 6 ∧ i = .int .i64 (k : Int) ∧ BufV wr w.heap.size av (whB (hadOf (ms.take k))) ∧ MRow wr w.heap.size vv av (hadOf (ms.take k)) ∧ (∀ m ∈ hadOf (ms.take k), (wholeM m).length ≤ 33000 ∧ m.certs.length ≤ 1000) ∧ Below w.heap.size w wr) (fun i _ _ _ => n - (intOf i).toNat)
  case atStart => exact ⟨0, Nat.zero_le _, Nat.zero_le _, rfl, ⟨none, 0, rfl, Buf.nil _ _⟩, MRow.nil _ _ _, (fun m hm => by cases hm), Below.refl _ _⟩
  case round =>
    obtain ⟨k, hk, hk6, rfl, hA, hM, h33, hbr⟩ := hrel
    by_cases hlt : k < n
    · by_cases h6 : k < 6
      · have hd : (k : Int) < (n : Int) := by omega
        have hd2 : (k : Int) < 6 := by omega
        have hkr : k < ms.length := by rw [HN.out]; exact hlt
        obtain ⟨gp, op, hAe, hgp, hcs⟩ := HR.out (Nat.lt_of_le_of_lt (Nat.zero_le _) hlt)
        obtain ⟨cs, hrg, hrin⟩ := hcs k hlt
        obtain ⟨m0, hm0⟩ : ∃ m, ms.getD k (zeroM 0) = m := ⟨_, rfl⟩
        rw [hm0] at hrin
        replace hrg := range_below hrg hgp hbr
        replace hrin := hrin.below hbr
        have HSN := Lib.hid (had_snoc hkr)
        rw [hm0] at HSN
        obtain ⟨M, hMe⟩ : ∃ M, tameM m0 = M := ⟨_, rfl⟩
        rw [hMe] at HSN
        have HSM := Lib.hid (show Small M by rw [← hMe]; exact small_tame m0)
        obtain ⟨had, hhad⟩ : ∃ l, hadOf (ms.take k) = l := ⟨_, rfl⟩
        have HHL := Lib.hid (show had.length ≤ k by rw [← hhad]; exact Nat.le_trans (had_len _) (by rw [List.length_take]; omega))
        rw [hhad] at hA hM h33 HSN
        have H33 := Lib.hid h33
        have HB := Lib.hid hbr
        have HK := Lib.hid (And.intro hlt (And.intro hk6 h6))
        obtain ⟨hk0, hkn, hkw, hkt⟩ := ix_six hlt (by have := HL.out; omega)
        have HKW := Lib.hid hkw
        have HAL := Lib.hid hA.lt
        have HML := Lib.hid hM.lt
        subst hAe
        clear hcs hbr hgp hkw hk hk6 hlt h6 hkr hm0 hhad h33
        go_upto_region 6 with (fail)
        refine wp_region_lit ?_
        refine wpList_plain rfl (fun K hK => ?_)
        go_simp
        refine hK _ _ ?_
        clear hK K
        try simp only [Act.put, List.setIfInBounds_toArray, List.set_cons_zero, List.set_cons_succ]
        refine wpList_plain rfl (fun K hK => ?_)
        go_simp
        refine hK _ _ ?_
        clear hK K
        try simp only [Act.put, List.setIfInBounds_toArray, List.set_cons_zero, List.set_cons_succ]
        refine wpList_plain rfl (fun K hK => ?_)
        go_simp
        refine hK _ _ ?_
        clear hK K hk0 hkn hkt hd hd2
        try simp only [Act.put, List.setIfInBounds_toArray, List.set_cons_zero, List.set_cons_succ]
        refine wpList_load_mid rfl 25 (.tmp 25) rfl gp (op + k * 75) rfl cs _ hrg Tryd.underlying25 rfl (infoR.trans (by rw [hrin.len])) ?_
        try simp only [Act.put, List.setIfInBounds_toArray, List.set_cons_zero, List.set_cons_succ]
        refine wpList_plain rfl (fun K hK0 => ?_)
        have hK := Lib.hid hK0
        clear hK0
        go_simp
        go_at_call 9
        refine (tame_e m0 cs _ hrin).mono ?_
        rintro e w2 ⟨cs2, rfl, hm2, hb2⟩
        try go_wp2_with fail
        refine hK.out _ _ ?_
        clear hK K
        try simp only [Act.put, List.setIfInBounds_toArray, List.set_cons_zero, List.set_cons_succ]
        rw [hMe] at hm2
        have HCO := Lib.hid (And.intro (hm2.coff (fun j hj => (HML.out j hj).2)) (hm2.coff HAL.out))
        refine wpList_new_blk rfl 25 rfl _ zeroR ?_
        intro g6 w3 hg6 b6 hb3
        try simp only [Act.put, List.setIfInBounds_toArray, List.set_cons_zero, List.set_cons_succ]
        have HG6 := Lib.hid (show wr.heap.size ≤ g6 by rw [hg6]; exact hb2.size)
        have hb23 := hb2.trans (hb3.mono hb2.size)
        have hr3 := hm2.rin.below hb3
        refine wpList_store_blk rfl 25 (.tmp 6) (.tmp 27) rfl rfl g6 cs2 rfl rfl _ _ b6 (infoR.trans (by rw [hr3.len])) (by rw [hr3.len]; rfl) hr3.one ?_
        intro w4 b64 hgs
        try simp only [Act.put, List.setIfInBounds_toArray, List.set_cons_zero, List.set_cons_succ]
        have hb4 := hb23.trans (grown_below hgs HG6.out hb23.size)
        have hr4 : RIn w4 M cs2 := (hm2.rin.below ((hb3.mono (Nat.le_refl _)).trans (grown_below hgs (Nat.le_of_eq hg6.symm) hb3.size)))
        clear hm2 hb2 hb3 hb23 hr3 hgs b6 hg6 hrg hrin hMe
        have hA4 := hA.below hb4
        have hM4 := hM.below hb4
        clear hA hM
        go_upto_region 7 with (fail)
        refine wp_region_lit ?_
        refine wpList_load_mid rfl 25 (.tmp 6) rfl g6 0 rfl cs2 _ (rangeAt_of_blk b64) Tryd.underlying25 rfl (infoR.trans (by rw [hr4.len])) ?_
        try simp only [Act.put, List.setIfInBounds_toArray, List.set_cons_zero, List.set_cons_succ]
        refine wpList_plain rfl (fun K hK0 => ?_)
        have hK := Lib.hid hK0
        clear hK0
        go_simp
        go_at_call 10
        refine (to_e M cs2 _ hr4 HSM).mono ?_
        rintro e w5 ⟨cs5, rfl, hm5, hb5⟩
        try go_wp2_with fail
        refine hK.out _ _ ?_
        clear hK K
        try simp only [Act.put, List.setIfInBounds_toArray, List.set_cons_zero, List.set_cons_succ]
        have hb45 := hb4.trans (hb5.mono hb4.size)
        have b65 := b64.below hb5 b64.lt
        have hr5 := hr4.below hb5
        have hA5 := hA4.below hb5
        have hM5 := hM4.below hb5
        clear hA4 hM4 b64 hr4 hb4 hb5
        cases hf : formM M with
        | false =>
          refine wpList_plain rfl (fun K hK0 => ?_)
          have hK := Lib.hid hK0
          clear hK0
          go_simp
          go_at_call 11
          refine (write_0 M cs5 _ (HT.out.below (HB.out.trans (hb45.mono HB.out.size))) hm5 hf).mono ?_
          rintro e w6 ⟨rfl, hb6⟩
          try go_wp2_with fail
          refine hK.out _ _ ?_
          clear hK K
          try simp only [Act.put, List.setIfInBounds_toArray, List.set_cons_zero, List.set_cons_succ]
          have hA6 := hA5.below hb6
          have hM6 := hM5.below hb6
          have HB6 := Lib.hid ((HB.out.trans (hb45.mono HB.out.size)).trans (hb6.mono (Nat.le_trans HB.out.size hb45.size)))
          rw [if_neg (by rw [hf]; decide)] at HSN
          have HKK := Lib.hid (show k + 1 ≤ n ∧ k + 1 ≤ 6 ∧ n - (k + 1) < n - k by have := HK.out; omega)
          clear hA5 hM5 hb45 hb6 hm5 b65 hr5 hf
          refine wpList_plain rfl (fun K hK => ?_)
          go_simp
          refine hK _ _ ?_
          clear hK K
          try simp only [Act.put, List.setIfInBounds_toArray, List.set_cons_zero, List.set_cons_succ]
          refine wpList_plain rfl (fun K hK => ?_)
          go_simp
          refine hK _ _ ?_
          clear hK K
          try simp only [Act.put, List.setIfInBounds_toArray, List.set_cons_zero, List.set_cons_succ]
          refine wpList_plain rfl (fun K hK => ?_)
          go_simp
          refine hK _ _ ?_
          clear hK K
          try simp only [Act.put, List.setIfInBounds_toArray, List.set_cons_zero, List.set_cons_succ]
          refine wpList_plain rfl (fun K hK => ?_)
          go_simp
          refine hK _ _ ?_
          clear hK K
          try simp only [Act.put, List.setIfInBounds_toArray, List.set_cons_zero, List.set_cons_succ]
          refine wpList_plain rfl (fun K hK => ?_)
          go_simp
          refine hK _ _ ?_
          clear hK K
          try simp only [Act.put, List.setIfInBounds_toArray, List.set_cons_zero, List.set_cons_succ]
          go_wp2
          go_roundw
          case rel => exact ⟨k + 1, HKK.out.1, HKK.out.2.1, by rw [HKW.out], by rw [HSN.out]; exact hA6, by rw [HSN.out]; exact hM6, by rw [HSN.out]; exact H33.out, HB6.out⟩
          case measure => rw [HKW.out]; simpa [intOf] using HKK.out.2.2
        | true =>
          refine wpList_plain rfl (fun K hK0 => ?_)
          have hK := Lib.hid hK0
          clear hK0
          go_simp
          go_at_call 11
          refine (write_1 M cs5 _ (HT.out.below (HB.out.trans (hb45.mono HB.out.size))) hm5 hf).mono ?_
          rintro e w6 ⟨r, rfl, hB6, hb6⟩
          try go_wp2_with fail
          refine hK.out _ _ ?_
          clear hK K
          try simp only [Act.put, List.setIfInBounds_toArray, List.set_cons_zero, List.set_cons_succ]
          have hA6 := hA5.below hb6
          have hM6 := hM5.below hb6
          have hr6 := hr5.below hb6
          have b66 := b65.below hb6 b65.lt
          have hb06 := (HB.out.trans (hb45.mono HB.out.size)).trans (hb6.mono (Nat.le_trans HB.out.size hb45.size))
          rw [if_pos hf] at HSN
          have hlen := hr6.1
          have hwl := HelloMath.whole_length M
          have hbl := HelloMath.body_le hf hlen.1 hlen.2
          have HWL := Lib.hid (show (wholeM M).length ≤ 33000 by omega)
          have HLN := Lib.hid (show (whB had).length + (wholeM M).length ≤ 1099511627776 by have h1 := wh_len had (fun m hm => (H33.out m hm).1); have h2 := HHL.out; have h3 := HK.out; have h4 := HWL.out; omega)
          have HCL := Lib.hid hr6.len
          have HHN := Lib.hid (show had.length + 1 ≤ 1000000 by have h2 := HHL.out; have h3 := HK.out; omega)
          have HKK := Lib.hid (show k + 1 ≤ n ∧ k + 1 ≤ 6 ∧ n - (k + 1) < n - k by have := HK.out; omega)
          have hAg : u3.ownBlock ≠ some g6 := fun e => by have h1 := HAL.out _ e; have h2 := HG6.out; omega
          have HVG := Lib.hid (show ∀ j, u4.ownBlock = some j → w.heap.size ≤ j ∧ j ≠ g6 from fun j e => by have h1 := HML.out _ e; have h2 := HG6.out; omega)
          clear hA5 hM5 hb45 hb6 hm5 b65 hr5 hlen hwl hbl
          refine wpList_plain rfl (fun K hK => ?_)
          go_simp
          refine hK _ _ ?_
          clear hK K
          try simp only [Act.put, List.setIfInBounds_toArray, List.set_cons_zero, List.set_cons_succ]
          refine wpList_plain rfl (fun K hK => ?_)
          go_simp
          refine hK _ _ ?_
          clear hK K
          try simp only [Act.put, List.setIfInBounds_toArray, List.set_cons_zero, List.set_cons_succ]
          refine wpList_plain rfl (fun K hK => ?_)
          go_simp
          refine hK _ _ ?_
          clear hK K
          try simp only [Act.put, List.setIfInBounds_toArray, List.set_cons_zero, List.set_cons_succ]
          refine wpList_plain rfl (fun K hK => ?_)
          go_simp
          refine hK _ _ ?_
          clear hK K
          try simp only [Act.put, List.setIfInBounds_toArray, List.set_cons_zero, List.set_cons_succ]
          refine wpList_plain rfl (fun K hK => ?_)
          go_simp
          refine hK _ _ ?_
          clear hK K
          try simp only [Act.put, List.setIfInBounds_toArray, List.set_cons_zero, List.set_cons_succ]
          go_upto_region 9 with (fail)
          refine wp_region_noPanic ?_
          refine wp_region_held_drew (S := fun V => Below w.heap.size w V ∧ Blk V g6 25 cs2) (by kernel_rfl) (⟨below_drewN hb06 1, b66.drew⟩) (fun hHeld => ?_)
          have hbd : Below w6.heap.size w6 w6.drew := below_drewN (Below.refl _ _) 1
          have hA := hA6.below hbd
          have hM := hM6.below hbd
          have hm := hr6.below hbd
          have hS := hB6.sl.below hbd
          clear hA6 hM6 hr6 b66 hb06 hB6 hbd
          try dsimp only at hHeld
          generalize w6.drew = wa at *
          refine wpAnyH_take (i := 0) (oi := ⟨_, _, _, _, _, _⟩) (v := ?_) rfl (by kernel_rfl) (by kernel_rfl) (by kernel_rfl) (fun _ _ _ h => h) (Or.inl ⟨by rfl, ?_⟩) hHeld ?_
          rotate_left 1
          · (intro W hSw; (try dsimp only at hSw); go_simp; try with_reducible rfl)
          try simp only [Act.put, List.setIfInBounds_toArray, List.set_cons_zero, List.set_cons_succ]
          refine wpAnyH_take (i := 1) (oi := ⟨_, _, _, _, _, _⟩) (v := ?_) rfl (by kernel_rfl) (by kernel_rfl) (by kernel_rfl) (fun _ _ _ h => h) (Or.inl ⟨by rfl, ?_⟩) hHeld ?_
          rotate_left 1
          · (intro W hSw; (try dsimp only at hSw); go_simp; try with_reducible rfl)
          try simp only [Act.put, List.setIfInBounds_toArray, List.set_cons_zero, List.set_cons_succ]
          refine wpAnyH_take (i := 3) (oi := ⟨_, _, _, _, _, _⟩) (v := ?_) rfl (by kernel_rfl) (by kernel_rfl) (by kernel_rfl) (fun _ _ _ h => h) (Or.inl ⟨by rfl, ?_⟩) hHeld ?_
          rotate_left 1
          · (intro W hSw; (try dsimp only at hSw); go_simp; try with_reducible rfl)
          try simp only [Act.put, List.setIfInBounds_toArray, List.set_cons_zero, List.set_cons_succ]
          refine wpAnyH_take (i := 4) (oi := ⟨_, _, _, _, _, _⟩) (v := ?_) rfl (by kernel_rfl) (by kernel_rfl) (by kernel_rfl) (fun _ _ _ h => h) (Or.inl ⟨by rfl, ?_⟩) hHeld ?_
          rotate_left 1
          · (intro W hSw; (try dsimp only at hSw); refine exec_load_mid 25 (.tmp 6) ?_ g6 0 ?_ cs2 _ (rangeAt_of_blk hSw.2) Tryd.underlying25 rfl (infoR.trans (by rw [HCL.out])) <;> rfl)
          try simp only [Act.put, List.setIfInBounds_toArray, List.set_cons_zero, List.set_cons_succ]
          refine wpAnyH_ready (rs := [2, 5]) (by kernel_rfl) (by simp) ?_
          refine AllReadyH.cons (o := ⟨_, _, _, _, _, _⟩) rfl (fun K hK => ?_) (AllReadyH.cons (o := ⟨_, _, _, _, _, _⟩) rfl (fun K hK => ?_) AllReadyH.nil)
          · skip
            rw [if_pos (by rfl)]
            refine wp_appG (.tmp 36) (.tmp 37) rfl w.heap.size u3 r _ (wholeM M) rfl hA rfl hS HLN.out hHeld.1.size ?_
            intro v38 wb hA' hbn hgn hvn
            have b6n := hHeld.2.grown hgn (fun e => hAg e.symm)
            have hco := coff_or hm HCO.out.2 hvn
            replace hM := hM.bytes hgn hvn
            replace hm := hm.grown hgn HCO.out.2
            replace hA := hA'
            clear hA'
            refine hK.out _ _ ⟨hHeld.1.trans hbn, b6n⟩ (fun hHeld => ?_)
            clear hK K hbn hgn hvn b6n hS
            try dsimp only at hHeld
            try simp only [Act.put, List.setIfInBounds_toArray, List.set_cons_zero, List.set_cons_succ]
            refine wpAnyH_ready (rs := [5]) (by kernel_rfl) (by simp) ?_
            refine AllReadyH.cons (o := ⟨_, _, _, _, _, _⟩) rfl (fun K hK => ?_) AllReadyH.nil
            rw [if_pos (by rfl)]
            refine wp_oneMsg (.tmp 40) rfl cs2 rfl HCL.out ?_
            intro g41 wc hg41 b41 hbn
            replace hA := hA.below hbn
            replace hM := hM.below hbn
            replace hm := hm.below hbn
            refine hK.out _ _ ⟨hHeld.1.trans (hbn.mono hHeld.1.size), hHeld.2.below hbn hHeld.2.lt⟩ (fun hHeld => ?_)
            clear hK K hbn hg41
            try dsimp only at hHeld
            try simp only [Act.put, List.setIfInBounds_toArray, List.set_cons_zero, List.set_cons_succ]
            refine wpAnyH_ready (rs := [6]) (by kernel_rfl) (by simp) ?_
            refine AllReadyH.cons (o := ⟨_, _, _, _, _, _⟩) rfl (fun K hK => ?_) AllReadyH.nil
            refine step_append_msg rfl (.tmp 39) (.tmp 41) rfl w.heap.size u4 v38 _ M cs2 g41 rfl hM hA.lt hHeld.1.size rfl b41 hm ⟨HCO.out.1, hco⟩ HHN.out ?_
            intro v42 wd hM' hgn
            refine hK.out _ _ ⟨Below.ofGrown hHeld.1 hgn (fun j e => (HVG.out j e).1) hHeld.1.size, hHeld.2.grown hgn (fun e => (HVG.out _ e.symm).2 rfl)⟩ (fun hHeld => ?_)
            have hA' := hA.keptV hgn (fun e1 e2 => hM.1 _ e2 e1)
            clear hK K hgn
            try dsimp only at hHeld
            try simp only [Act.put, List.setIfInBounds_toArray, List.set_cons_zero, List.set_cons_succ]
            refine wpAnyH_take (i := 7) (oi := ⟨_, _, _, _, _, _⟩) (v := ?_) rfl (by kernel_rfl) (by kernel_rfl) (by kernel_rfl) (fun _ _ _ h => h) (Or.inl ⟨by rfl, ?_⟩) hHeld ?_
            rotate_left 1
            · (intro W hSw; (try dsimp only at hSw); go_simp; try with_reducible rfl)
            try simp only [Act.put, List.setIfInBounds_toArray, List.set_cons_zero, List.set_cons_succ]
            refine wpAnyH_take (i := 8) (oi := ⟨_, _, _, _, _, _⟩) (v := ?_) rfl (by kernel_rfl) (by kernel_rfl) (by kernel_rfl) (fun _ _ _ h => h) (Or.inl ⟨by rfl, ?_⟩) hHeld ?_
            rotate_left 1
            · (intro W hSw; (try dsimp only at hSw); go_simp; try with_reducible rfl)
            try simp only [Act.put, List.setIfInBounds_toArray, List.set_cons_zero, List.set_cons_succ]
            refine wpAnyH_done (by kernel_rfl) ?_ _
            refine NoPanic.normal ?_
            go_wp2
            go_roundw
            case rel => exact ⟨k + 1, HKK.out.1, HKK.out.2.1, by rw [HKW.out], by rw [HSN.out, wh_snoc]; exact hA', by rw [HSN.out]; exact hM', by rw [HSN.out]; exact fun m hm => by rcases List.mem_append.1 hm with h | h; exact H33.out m h; rw [List.mem_singleton.1 h]; exact ⟨HWL.out, by have := HSM.out.2.2.2.2.2.1; omega⟩, hHeld.1⟩
            case measure => rw [HKW.out]; simpa [intOf] using HKK.out.2.2
          · skip
            rw [if_pos (by rfl)]
            refine wp_oneMsg (.tmp 40) rfl cs2 rfl HCL.out ?_
            intro g41 wb hg41 b41 hbn
            have hne41 : u3.ownBlock ≠ some g41 := fun e => by have := hA.lt _ e; omega
            replace hA := hA.below hbn
            replace hM := hM.below hbn
            replace hm := hm.below hbn
            replace hS := hS.below hbn
            refine hK.out _ _ ⟨hHeld.1.trans (hbn.mono hHeld.1.size), hHeld.2.below hbn hHeld.2.lt⟩ (fun hHeld => ?_)
            clear hK K hbn hg41
            try dsimp only at hHeld
            try simp only [Act.put, List.setIfInBounds_toArray, List.set_cons_zero, List.set_cons_succ]
            refine wpAnyH_ready (rs := [2]) (by kernel_rfl) (by simp) ?_
            refine AllReadyH.cons (o := ⟨_, _, _, _, _, _⟩) rfl (fun K hK => ?_) AllReadyH.nil
            rw [if_pos (by rfl)]
            refine wp_appG (.tmp 36) (.tmp 37) rfl w.heap.size u3 r _ (wholeM M) rfl hA rfl hS HLN.out hHeld.1.size ?_
            intro v38 wc hA' hbn hgn hvn
            have b6n := hHeld.2.grown hgn (fun e => hAg e.symm)
            have hco := coff_or hm HCO.out.2 hvn
            replace hM := hM.bytes hgn hvn
            replace hm := hm.grown hgn HCO.out.2
            replace b41 := b41.grown hgn (fun e => hne41 e.symm)
            replace hA := hA'
            clear hA'
            refine hK.out _ _ ⟨hHeld.1.trans hbn, b6n⟩ (fun hHeld => ?_)
            clear hK K hbn hgn hvn b6n hS
            try dsimp only at hHeld
            try simp only [Act.put, List.setIfInBounds_toArray, List.set_cons_zero, List.set_cons_succ]
            refine wpAnyH_ready (rs := [6]) (by kernel_rfl) (by simp) ?_
            refine AllReadyH.cons (o := ⟨_, _, _, _, _, _⟩) rfl (fun K hK => ?_) AllReadyH.nil
            refine step_append_msg rfl (.tmp 39) (.tmp 41) rfl w.heap.size u4 v38 _ M cs2 g41 rfl hM hA.lt hHeld.1.size rfl b41 hm ⟨HCO.out.1, hco⟩ HHN.out ?_
            intro v42 wd hM' hgn
            refine hK.out _ _ ⟨Below.ofGrown hHeld.1 hgn (fun j e => (HVG.out j e).1) hHeld.1.size, hHeld.2.grown hgn (fun e => (HVG.out _ e.symm).2 rfl)⟩ (fun hHeld => ?_)
            have hA' := hA.keptV hgn (fun e1 e2 => hM.1 _ e2 e1)
            clear hK K hgn
            try dsimp only at hHeld
            try simp only [Act.put, List.setIfInBounds_toArray, List.set_cons_zero, List.set_cons_succ]
            refine wpAnyH_take (i := 7) (oi := ⟨_, _, _, _, _, _⟩) (v := ?_) rfl (by kernel_rfl) (by kernel_rfl) (by kernel_rfl) (fun _ _ _ h => h) (Or.inl ⟨by rfl, ?_⟩) hHeld ?_
            rotate_left 1
            · (intro W hSw; (try dsimp only at hSw); go_simp; try with_reducible rfl)
            try simp only [Act.put, List.setIfInBounds_toArray, List.set_cons_zero, List.set_cons_succ]
            refine wpAnyH_take (i := 8) (oi := ⟨_, _, _, _, _, _⟩) (v := ?_) rfl (by kernel_rfl) (by kernel_rfl) (by kernel_rfl) (fun _ _ _ h => h) (Or.inl ⟨by rfl, ?_⟩) hHeld ?_
            rotate_left 1
            · (intro W hSw; (try dsimp only at hSw); go_simp; try with_reducible rfl)
            try simp only [Act.put, List.setIfInBounds_toArray, List.set_cons_zero, List.set_cons_succ]
            refine wpAnyH_done (by kernel_rfl) ?_ _
            refine NoPanic.normal ?_
            go_wp2
            go_roundw
            case rel => exact ⟨k + 1, HKK.out.1, HKK.out.2.1, by rw [HKW.out], by rw [HSN.out, wh_snoc]; exact hA', by rw [HSN.out]; exact hM', by rw [HSN.out]; exact fun m hm => by rcases List.mem_append.1 hm with h | h; exact H33.out m h; rw [List.mem_singleton.1 h]; exact ⟨HWL.out, by have := HSM.out.2.2.2.2.2.1; omega⟩, hHeld.1⟩
            case measure => rw [HKW.out]; simpa [intOf] using HKK.out.2.2
      · have hd : (k : Int) < (n : Int) := by omega
        have hd2 : ¬ (k : Int) < 6 := by omega
        clear hlt h6
        obtain ⟨H, hH⟩ : ∃ H, hadOf (ms.take k) = H := ⟨_, rfl⟩
        have HFM := Lib.hid (show ∀ m ∈ H, formM m = true from fun m hm => had_form (by rw [hH]; exact hm))
        have HHL := Lib.hid (show H.length ≤ 6 by rw [← hH]; exact Nat.le_trans (had_len _) (by rw [List.length_take]; omega))
        rw [hH] at hA hM h33
        have H33 := Lib.hid h33
        obtain ⟨Av, cv, hve, hlv, hrv⟩ := hM.slice
        obtain ⟨nh, hnh⟩ : ∃ q, H.length = q := ⟨_, rfl⟩
        rw [hnh] at hve hlv hrv HHL
        have HNH := Lib.hid hnh
        have HRV := Lib.hid hrv
        have HLV := Lib.hid hlv
        have HS0 := Lib.hid (show SlB wr wr.heap.size u3 (whB H) by obtain ⟨Aa, ca, e, hb⟩ := hA; exact ⟨Aa, ca, e, hb.toIn (Nat.le_refl _)⟩)
        have HBR := Lib.hid hbr
        subst hve
        generalize wr = wk at *
        clear hH hA hM h33 hk hk6 hlv hrv hnh hbr
        go_upto_region 10 with (fail)
        go_wp2
        go_loopw [9, 3] (fun i a wl => ∃ k : Nat, k ≤ nh ∧ i = .int .i64 (k : Int) ∧ SlB wl wk.heap.size a (whB (H.drop k)) ∧ Below wk.heap.size wk wl) (fun i _ _ => nh - (intOf i).toNat)
        case atStart => exact ⟨0, Nat.zero_le _, rfl, by rw [List.drop_zero]; exact HS0.out, Below.refl _ _⟩
        case round =>
          obtain ⟨k, hk, rfl, hS, hbl⟩ := hrel
          obtain ⟨bz, hbz⟩ : ∃ b, whB (H.drop k) = b := ⟨_, rfl⟩
          rw [hbz] at hS
          have HT2 := Lib.hid (HT.out.below (HBR.out.trans (hbl.mono HBR.out.size)))
          have HBL := Lib.hid hbl
          by_cases hlt : k < nh
          · have hd : (k : Int) < (nh : Int) := by omega
            have hkr : k < H.length := by rw [HNH.out]; exact hlt
            obtain ⟨gp, op, hAe, hgp, hcs⟩ := HRV.out (Nat.lt_of_le_of_lt (Nat.zero_le _) hlt)
            obtain ⟨cs, hrg, hrin⟩ := hcs k hlt
            obtain ⟨m, hm⟩ : ∃ m, H.getD k (zeroM 0) = m := ⟨_, rfl⟩
            rw [hm] at hrin
            have HDR := Lib.hid (wh_drop hkr)
            rw [hm, hbz] at HDR
            have hfm : formM m = true := HFM.out m (by rw [← hm, List.getD_eq_getElem?_getD, List.getElem?_eq_getElem hkr]; exact List.getElem_mem hkr)
            have HR := Lib.hid (show readBy saidM bz = (m, (wholeM m).length, 0) by rw [HDR.out]; exact HelloMath.read_whole HelloMath.said_finds hfm hrin.1.1 hrin.1.2 _)
            have H40 := Lib.hid (show bz.length ≤ 200000 by
              have h1 := wh_len (H.drop k) (fun m hm => (H33.out m (List.mem_of_mem_drop hm)).1)
              rw [hbz, List.length_drop, HNH.out] at h1
              have := HHL.out
              omega)
            have HNC := Lib.hid (show m.certs.length ≤ 1000 from (H33.out m (by rw [← hm, List.getD_eq_getElem?_getD, List.getElem?_eq_getElem hkr]; exact List.getElem_mem hkr)).2)
            obtain ⟨hk0, hkn, hkw, hkt⟩ := ix_six hlt (by have := HHL.out; omega)
            have HKW := Lib.hid hkw
            have HKN := Lib.hid (And.intro hk0 (And.intro hkn hkt))
            have HK := Lib.hid (show k + 1 ≤ nh ∧ nh - (k + 1) < nh - k by omega)
            have HRG := Lib.hid (And.intro hgp hrg)
            have HRI := Lib.hid hrin
            subst hAe
            clear hcs hgp hrg hrin hkw hk hlt hkr hm hfm hk0 hkn hkt hbl hbz
            go_upto_region 13 with (fail)
            refine wp_region_lit ?_
            refine wpList_plain rfl (fun K hK => ?_)
            go_simp
            refine hK _ _ ?_
            clear hK K
            try simp only [Act.put, List.setIfInBounds_toArray, List.set_cons_zero, List.set_cons_succ]
            refine wpList_plain rfl (fun K hK0 => ?_)
            have hK := Lib.hid hK0
            clear hK0
            go_simp
            go_at_call 16
            refine (read_e bz _ _ HT2.out (hS.sl HBL.out.size) H40).mono ?_
            rintro e w13 ⟨cs9, rfl, hm9, hb13⟩
            try go_wp2_with fail
            refine hK.out _ _ ?_
            clear hK K
            try simp only [Act.put, List.setIfInBounds_toArray, List.set_cons_zero, List.set_cons_succ]
            rw [HR.out] at hm9
            have hz0 : ((0 : Nat) : Int) = 0 := rfl
            simp only [HR.out, hz0]
            clear hz0
            obtain ⟨ln, hln⟩ : ∃ q, (wholeM m).length = q := ⟨_, rfl⟩
            have HLN := Lib.hid hln
            simp only [hln]
            clear hln
            refine wpList_plain rfl (fun K hK => ?_)
            go_simp
            refine hK _ _ ?_
            clear hK K
            try simp only [Act.put, List.setIfInBounds_toArray, List.set_cons_zero, List.set_cons_succ]
            refine wpList_plain rfl (fun K hK => ?_)
            go_simp
            refine hK _ _ ?_
            clear hK K
            try simp only [Act.put, List.setIfInBounds_toArray, List.set_cons_zero, List.set_cons_succ]
            refine wpList_plain rfl (fun K hK => ?_)
            go_simp
            refine hK _ _ ?_
            clear hK K
            try simp only [Act.put, List.setIfInBounds_toArray, List.set_cons_zero, List.set_cons_succ]
            refine wpList_plain rfl (fun K hK => ?_)
            go_simp
            refine hK _ _ ?_
            clear hK K
            try simp only [Act.put, List.setIfInBounds_toArray, List.set_cons_zero, List.set_cons_succ]
            refine wpList_new_blk rfl 30 rfl _ zeroMsg ?_
            intro g10 w14 hg10 b10 hb14
            try simp only [Act.put, List.setIfInBounds_toArray, List.set_cons_zero, List.set_cons_succ]
            have HG10 := Lib.hid (show wr.heap.size ≤ g10 by rw [hg10]; exact hb13.size)
            have hbx := hb13.trans (hb14.mono hb13.size)
            refine wpList_store_blk rfl 30 (.tmp 10) (.tmp 52) rfl rfl g10 cs9 rfl rfl _ _ b10 (infoMsg.trans (by rw [hm9.len])) (by rw [hm9.len, mC_length rfl rfl]) hm9.one ?_
            intro w15 b15 hg15
            try simp only [Act.put, List.setIfInBounds_toArray, List.set_cons_zero, List.set_cons_succ]
            have hby := hbx.trans (grown_below hg15 HG10.out hbx.size)
            have HBY := Lib.hid (HBL.out.trans (hby.mono HBL.out.size))
            have hmv : MVs w15 m cs9 := hm9.mvs.below ((hb14.mono (Nat.le_refl _)).trans (grown_below hg15 (Nat.le_of_eq hg10.symm) hb14.size))
            have HML := Lib.hid hm9.len
            have hS15 := hS.below (hby.mono HBL.out.size)
            have HMV := Lib.hid hmv
            have HRI2 := Lib.hid (HRI.out.below HBY.out)
            have HL10 := Lib.hid (fun (V : World) (hV : Below w15.heap.size w15 V) => rangeAt_of_blk (b15.below hV b15.lt))
            have HLR := Lib.hid (fun (V : World) (hV : Below w15.heap.size w15 V) => range_below (range_below HRG.out.2 HRG.out.1 HBY.out) (Nat.lt_of_lt_of_le HRG.out.1 HBY.out.size) hV)
            clear hm9 hb13 hb14 hbx hg15 b10 hg10 hS hmv
            refine wpList_plain rfl (fun K hK => ?_)
            go_simp
            refine hK _ _ ?_
            clear hK K
            try simp only [Act.put, List.setIfInBounds_toArray, List.set_cons_zero, List.set_cons_succ]
            refine wpList_plain rfl (fun K hK => ?_)
            go_simp
            refine hK _ _ ?_
            clear hK K
            try simp only [Act.put, List.setIfInBounds_toArray, List.set_cons_zero, List.set_cons_succ]
            go_upto_region 14 with (fail)
            refine wp_region_noPanic ?_
            refine wp_region_held_drew (S := fun V => Below w15.heap.size w15 V) (by kernel_rfl) (by exact below_drewN (Below.refl _ _) 1) (fun hHeld => ?_)
            refine wpAnyH_take (i := 0) (oi := ⟨_, _, _, _, _, _⟩) (v := ?_) rfl (by kernel_rfl) (by kernel_rfl) (by kernel_rfl) (fun _ _ _ h => h) (Or.inl ⟨by rfl, ?_⟩) hHeld ?_
            rotate_left 1
            · (intro W hSw; (try dsimp only at hSw); go_simp; try with_reducible rfl)
            try simp only [Act.put, List.setIfInBounds_toArray, List.set_cons_zero, List.set_cons_succ]
            refine wpAnyH_take (i := 1) (oi := ⟨_, _, _, _, _, _⟩) (v := ?_) rfl (by kernel_rfl) (by kernel_rfl) (by kernel_rfl) (fun _ _ _ h => h) (Or.inl ⟨by rfl, ?_⟩) hHeld ?_
            rotate_left 1
            · (intro W hSw; (try dsimp only at hSw); go_simp; try with_reducible rfl)
            try simp only [Act.put, List.setIfInBounds_toArray, List.set_cons_zero, List.set_cons_succ]
            refine wpAnyH_take (i := 2) (oi := ⟨_, _, _, _, _, _⟩) (v := ?_) rfl (by kernel_rfl) (by kernel_rfl) (by kernel_rfl) (fun _ _ _ h => h) (Or.inl ⟨by rfl, ?_⟩) hHeld ?_
            rotate_left 1
            · (intro W hSw; (try dsimp only at hSw); go_simp; try with_reducible rfl)
            try simp only [Act.put, List.setIfInBounds_toArray, List.set_cons_zero, List.set_cons_succ]
            refine wpAnyH_take (i := 3) (oi := ⟨_, _, _, _, _, _⟩) (v := ?_) rfl (by kernel_rfl) (by kernel_rfl) (by kernel_rfl) (fun _ _ _ h => h) (Or.inl ⟨by rfl, ?_⟩) hHeld ?_
            rotate_left 1
            · (intro W hSw; (try dsimp only at hSw); refine exec_load_mid 30 (.tmp 10) ?_ g10 (0) ?_ cs9 _ (HL10.out W hSw) Tryd.underlying30 rfl (infoMsg.trans (by rw [HML.out])) <;> rfl)
            try simp only [Act.put, List.setIfInBounds_toArray, List.set_cons_zero, List.set_cons_succ]
            refine wpAnyH_take (i := 5) (oi := ⟨_, _, _, _, _, _⟩) (v := ?_) rfl (by kernel_rfl) (by kernel_rfl) (by kernel_rfl) (fun _ _ _ h => h) (Or.inl ⟨by rfl, ?_⟩) hHeld ?_
            rotate_left 1
            · (intro W hSw; (try dsimp only at hSw); go_simp; try with_reducible rfl)
            try simp only [Act.put, List.setIfInBounds_toArray, List.set_cons_zero, List.set_cons_succ]
            refine wpAnyH_take (i := 6) (oi := ⟨_, _, _, _, _, _⟩) (v := ?_) rfl (by kernel_rfl) (by kernel_rfl) (by kernel_rfl) (fun _ _ _ h => h) (Or.inl ⟨by rfl, ?_⟩) hHeld ?_
            rotate_left 1
            · (intro W hSw; (try dsimp only at hSw); go_simp; try with_reducible rfl)
            try simp only [Act.put, List.setIfInBounds_toArray, List.set_cons_zero, List.set_cons_succ]
            refine wpAnyH_take (i := 7) (oi := ⟨_, _, _, _, _, _⟩) (v := ?_) rfl (by kernel_rfl) (by kernel_rfl) (by kernel_rfl) (fun _ _ _ h => h) (Or.inl ⟨by rfl, ?_⟩) hHeld ?_
            rotate_left 1
            · (intro W hSw; (try dsimp only at hSw); obtain ⟨hk0, hkn, hkt⟩ := HKN.out; go_simp; try with_reducible rfl)
            try simp only [Act.put, List.setIfInBounds_toArray, List.set_cons_zero, List.set_cons_succ]
            refine wpAnyH_take (i := 8) (oi := ⟨_, _, _, _, _, _⟩) (v := ?_) rfl (by kernel_rfl) (by kernel_rfl) (by kernel_rfl) (fun _ _ _ h => h) (Or.inl ⟨by rfl, ?_⟩) hHeld ?_
            rotate_left 1
            · (intro W hSw; (try dsimp only at hSw); refine exec_load_mid 25 (.tmp 62) ?_ gp (op + k * 75) ?_ cs _ (HLR.out W hSw) Tryd.underlying25 rfl (infoR.trans (by rw [HRI2.out.len])) <;> rfl)
            try simp only [Act.put, List.setIfInBounds_toArray, List.set_cons_zero, List.set_cons_succ]
            refine wpAnyH_ready (rs := [4]) (by kernel_rfl) (by simp) ?_
            refine AllReadyH.cons (o := ⟨_, _, _, _, _, _⟩) rfl (fun K hK => ?_) AllReadyH.nil
            go_simp
            go_at_call 15
            refine (from_e m cs9 _ (HMV.out.below hHeld) HNC).mono ?_
            rintro e w16 ⟨cs16, rfl, hm16, hbn⟩
            try go_wp2_with fail
            refine hK.out _ _ (hHeld.trans (hbn.mono hHeld.size)) (fun hHeld => ?_)
            have hri := HRI2.out.below hHeld
            clear hK K hbn
            try simp only [Act.put, List.setIfInBounds_toArray, List.set_cons_zero, List.set_cons_succ]
            refine wpAnyH_ready (rs := [9]) (by kernel_rfl) (by simp) ?_
            refine AllReadyH.cons (o := ⟨_, _, _, _, _, _⟩) rfl (fun K hK => ?_) AllReadyH.nil
            go_simp
            go_at_call 14
            refine (same_e m cs16 cs _ hm16 hri).mono ?_
            rintro e w17 ⟨rfl, hbn⟩
            try go_wp2_with fail
            refine hK.out _ _ (hHeld.trans (hbn.mono hHeld.size)) (fun hHeld => ?_)
            clear hK K hbn hm16 hri
            try simp only [Act.put, List.setIfInBounds_toArray, List.set_cons_zero, List.set_cons_succ]
            obtain ⟨Az, cz, eze, hiz⟩ := hS15
            obtain ⟨lz, hlz⟩ : ∃ q, bz.length = q := ⟨_, rfl⟩
            rw [hlz] at eze
            have HLZ := Lib.hid (show ln ≤ lz by rw [← hlz, ← HLN.out, HDR.out, List.length_append]; omega)
            have HEZ := Lib.hid eze
            have HS15 := Lib.hid (show SlB w15 wk.heap.size (.slice Az lz cz) bz from ⟨Az, cz, by rw [hlz], hiz⟩)
            subst eze
            clear hiz hlz HEZ
            refine wpAnyH_take (i := 10) (oi := ⟨_, _, _, _, _, _⟩) (v := ?_) rfl (by kernel_rfl) (by kernel_rfl) (by kernel_rfl) (fun _ _ _ h => h) (Or.inl ⟨by rfl, ?_⟩) hHeld ?_
            rotate_left 1
            · (intro W hSw; (try dsimp only at hSw); go_simp; try with_reducible rfl)
            try simp only [Act.put, List.setIfInBounds_toArray, List.set_cons_zero, List.set_cons_succ]
            refine wpAnyH_take (i := 11) (oi := ⟨_, _, _, _, _, _⟩) (v := ?_) rfl (by kernel_rfl) (by kernel_rfl) (by kernel_rfl) (fun _ _ _ h => h) (Or.inl ⟨by rfl, ?_⟩) hHeld ?_
            rotate_left 1
            · (intro W hSw; (try dsimp only at hSw); go_simp; try with_reducible rfl)
            try simp only [Act.put, List.setIfInBounds_toArray, List.set_cons_zero, List.set_cons_succ]
            refine wpAnyH_take (i := 12) (oi := ⟨_, _, _, _, _, _⟩) (v := ?_) rfl (by kernel_rfl) (by kernel_rfl) (by kernel_rfl) (fun _ _ _ h => h) (Or.inl ⟨by rfl, ?_⟩) hHeld ?_
            rotate_left 1
            · (intro W hSw; (try dsimp only at hSw); go_simp; try with_reducible rfl)
            try simp only [Act.put, List.setIfInBounds_toArray, List.set_cons_zero, List.set_cons_succ]
            refine wpAnyH_take (i := 13) (oi := ⟨_, _, _, _, _, _⟩) (v := ?_) rfl (by kernel_rfl) (by kernel_rfl) (by kernel_rfl) (fun _ _ _ h => h) (Or.inl ⟨by rfl, ?_⟩) hHeld ?_
            rotate_left 1
            · (intro W hSw; (try dsimp only at hSw); go_simp; try with_reducible rfl)
            try simp only [Act.put, List.setIfInBounds_toArray, List.set_cons_zero, List.set_cons_succ]
            refine wpAnyH_take (i := 14) (oi := ⟨_, _, _, _, _, _⟩) (v := ?_) rfl (by kernel_rfl) (by kernel_rfl) (by kernel_rfl) (fun _ _ _ h => h) (Or.inl ⟨by rfl, ?_⟩) hHeld ?_
            rotate_left 1
            · (intro W hSw; (try dsimp only at hSw); go_simp; try with_reducible rfl)
            try simp only [Act.put, List.setIfInBounds_toArray, List.set_cons_zero, List.set_cons_succ]
            refine wpAnyH_take (i := 15) (oi := ⟨_, _, _, _, _, _⟩) (v := ?_) rfl (by kernel_rfl) (by kernel_rfl) (by kernel_rfl) (fun _ _ _ h => h) (Or.inl ⟨by rfl, ?_⟩) hHeld ?_
            rotate_left 1
            · (intro W hSw; (try dsimp only at hSw); go_simp; try with_reducible rfl)
            try simp only [Act.put, List.setIfInBounds_toArray, List.set_cons_zero, List.set_cons_succ]
            refine wpAnyH_take (i := 16) (oi := ⟨_, _, _, _, _, _⟩) (v := ?_) rfl (by kernel_rfl) (by kernel_rfl) (by kernel_rfl) (fun _ _ _ h => h) (Or.inl ⟨by rfl, ?_⟩) hHeld ?_
            rotate_left 1
            · (intro W hSw; (try dsimp only at hSw); have hgt : decide (lz < ln) = false := decide_eq_false (by have := HLZ.out; omega); go_simp; try with_reducible rfl)
            try simp only [Act.put, List.setIfInBounds_toArray, List.set_cons_zero, List.set_cons_succ]
            refine wpAnyH_take (i := 17) (oi := ⟨_, _, _, _, _, _⟩) (v := ?_) rfl (by kernel_rfl) (by kernel_rfl) (by kernel_rfl) (fun _ _ _ h => h) (Or.inl ⟨by rfl, ?_⟩) hHeld ?_
            rotate_left 1
            · (intro W hSw; (try dsimp only at hSw); go_simp; try with_reducible rfl)
            try simp only [Act.put, List.setIfInBounds_toArray, List.set_cons_zero, List.set_cons_succ]
            refine wpAnyH_done (by kernel_rfl) ?_ _
            refine NoPanic.normal ?_
            go_upto_region 16 with (fail)
            refine wp_region_lit ?_
            refine wpList_plain rfl (fun K hK => ?_)
            go_simp
            refine hK _ _ ?_
            clear hK K
            try simp only [Act.put, List.setIfInBounds_toArray, List.set_cons_zero, List.set_cons_succ]
            refine wpList_plain rfl (fun K hK => ?_)
            go_simp
            refine hK _ _ ?_
            clear hK K
            try simp only [Act.put, List.setIfInBounds_toArray, List.set_cons_zero, List.set_cons_succ]
            refine wpList_sliceL rfl rfl rfl (HS15.out.below (hHeld.mono HBY.out.size)) ln rfl (by rw [HDR.out, List.length_append, HLN.out]; omega) ?_
            intro v75 hv75
            try simp only [Act.put, List.setIfInBounds_toArray, List.set_cons_zero, List.set_cons_succ]
            rw [HDR.out, ← HLN.out, List.drop_left] at hv75
            have hbe := HBY.out.trans (hHeld.mono HBY.out.size)
            clear hHeld
            go_wp2
            go_roundw
            case rel => exact ⟨k + 1, HK.out.1, by rw [HKW.out], hv75, hbe⟩
            case measure => rw [HKW.out]; simpa [intOf] using HK.out.2
          · have hd : ¬ (k : Int) < (nh : Int) := by omega
            have hkn : k = nh := by omega
            obtain rfl : bz = [] := by rw [← hbz, hkn, ← HNH.out, List.drop_length]; rfl
            obtain ⟨Az, cz, eze, hiz⟩ := hS
            subst eze
            have HBZ := Lib.hid (HBR.out.trans (hbl.mono HBR.out.size))
            clear hkn hk hlt hbz hbl hiz
            go_upto_region 17 with (fail)
            refine wp_region_lit ?_
            refine wpList_plain rfl (fun K hK0 => ?_)
            have hK := Lib.hid hK0
            clear hK0
            go_simp
            go_at_call 13
            refine (hellos_e _ (HT.out.below HBZ.out)).mono ?_
            rintro e w18 ⟨rfl, hb18⟩
            try go_wp2_with fail
            refine hK.out _ _ ?_
            clear hK K
            try simp only [Act.put, List.setIfInBounds_toArray, List.set_cons_zero, List.set_cons_succ]
            go_wp2
            go_ret
            exact ⟨rfl, HBZ.out.trans (hb18.mono HBZ.out.size)⟩
    · have hd : ¬ (k : Int) < (n : Int) := by omega
      clear hlt
      obtain ⟨H, hH⟩ : ∃ H, hadOf (ms.take k) = H := ⟨_, rfl⟩
      have HFM := Lib.hid (show ∀ m ∈ H, formM m = true from fun m hm => had_form (by rw [hH]; exact hm))
      have HHL := Lib.hid (show H.length ≤ 6 by rw [← hH]; exact Nat.le_trans (had_len _) (by rw [List.length_take]; omega))
      rw [hH] at hA hM h33
      have H33 := Lib.hid h33
      obtain ⟨Av, cv, hve, hlv, hrv⟩ := hM.slice
      obtain ⟨nh, hnh⟩ : ∃ q, H.length = q := ⟨_, rfl⟩
      rw [hnh] at hve hlv hrv HHL
      have HNH := Lib.hid hnh
      have HRV := Lib.hid hrv
      have HLV := Lib.hid hlv
      have HS0 := Lib.hid (show SlB wr wr.heap.size u3 (whB H) by obtain ⟨Aa, ca, e, hb⟩ := hA; exact ⟨Aa, ca, e, hb.toIn (Nat.le_refl _)⟩)
      have HBR := Lib.hid hbr
      subst hve
      generalize wr = wk at *
      clear hH hA hM h33 hk hk6 hlv hrv hnh hbr
      go_upto_region 10 with (fail)
      go_wp2
      go_loopw [9, 3] (fun i a wl => ∃ k : Nat, k ≤ nh ∧ i = .int .i64 (k : Int) ∧ SlB wl wk.heap.size a (whB (H.drop k)) ∧ Below wk.heap.size wk wl) (fun i _ _ => nh - (intOf i).toNat)
      case atStart => exact ⟨0, Nat.zero_le _, rfl, by rw [List.drop_zero]; exact HS0.out, Below.refl _ _⟩
      case round =>
        obtain ⟨k, hk, rfl, hS, hbl⟩ := hrel
        obtain ⟨bz, hbz⟩ : ∃ b, whB (H.drop k) = b := ⟨_, rfl⟩
        rw [hbz] at hS
        have HT2 := Lib.hid (HT.out.below (HBR.out.trans (hbl.mono HBR.out.size)))
        have HBL := Lib.hid hbl
        by_cases hlt : k < nh
        · have hd : (k : Int) < (nh : Int) := by omega
          have hkr : k < H.length := by rw [HNH.out]; exact hlt
          obtain ⟨gp, op, hAe, hgp, hcs⟩ := HRV.out (Nat.lt_of_le_of_lt (Nat.zero_le _) hlt)
          obtain ⟨cs, hrg, hrin⟩ := hcs k hlt
          obtain ⟨m, hm⟩ : ∃ m, H.getD k (zeroM 0) = m := ⟨_, rfl⟩
          rw [hm] at hrin
          have HDR := Lib.hid (wh_drop hkr)
          rw [hm, hbz] at HDR
          have hfm : formM m = true := HFM.out m (by rw [← hm, List.getD_eq_getElem?_getD, List.getElem?_eq_getElem hkr]; exact List.getElem_mem hkr)
          have HR := Lib.hid (show readBy saidM bz = (m, (wholeM m).length, 0) by rw [HDR.out]; exact HelloMath.read_whole HelloMath.said_finds hfm hrin.1.1 hrin.1.2 _)
          have H40 := Lib.hid (show bz.length ≤ 200000 by
            have h1 := wh_len (H.drop k) (fun m hm => (H33.out m (List.mem_of_mem_drop hm)).1)
            rw [hbz, List.length_drop, HNH.out] at h1
            have := HHL.out
            omega)
          have HNC := Lib.hid (show m.certs.length ≤ 1000 from (H33.out m (by rw [← hm, List.getD_eq_getElem?_getD, List.getElem?_eq_getElem hkr]; exact List.getElem_mem hkr)).2)
          obtain ⟨hk0, hkn, hkw, hkt⟩ := ix_six hlt (by have := HHL.out; omega)
          have HKW := Lib.hid hkw
          have HKN := Lib.hid (And.intro hk0 (And.intro hkn hkt))
          have HK := Lib.hid (show k + 1 ≤ nh ∧ nh - (k + 1) < nh - k by omega)
          have HRG := Lib.hid (And.intro hgp hrg)
          have HRI := Lib.hid hrin
          subst hAe
          clear hcs hgp hrg hrin hkw hk hlt hkr hm hfm hk0 hkn hkt hbl hbz
          go_upto_region 13 with (fail)
          refine wp_region_lit ?_
          refine wpList_plain rfl (fun K hK => ?_)
          go_simp
          refine hK _ _ ?_
          clear hK K
          try simp only [Act.put, List.setIfInBounds_toArray, List.set_cons_zero, List.set_cons_succ]
          refine wpList_plain rfl (fun K hK0 => ?_)
          have hK := Lib.hid hK0
          clear hK0
          go_simp
          go_at_call 16
          refine (read_e bz _ _ HT2.out (hS.sl HBL.out.size) H40).mono ?_
          rintro e w13 ⟨cs9, rfl, hm9, hb13⟩
          try go_wp2_with fail
          refine hK.out _ _ ?_
          clear hK K
          try simp only [Act.put, List.setIfInBounds_toArray, List.set_cons_zero, List.set_cons_succ]
          rw [HR.out] at hm9
          have hz0 : ((0 : Nat) : Int) = 0 := rfl
          simp only [HR.out, hz0]
          clear hz0
          obtain ⟨ln, hln⟩ : ∃ q, (wholeM m).length = q := ⟨_, rfl⟩
          have HLN := Lib.hid hln
          simp only [hln]
          clear hln
          refine wpList_plain rfl (fun K hK => ?_)
          go_simp
          refine hK _ _ ?_
          clear hK K
          try simp only [Act.put, List.setIfInBounds_toArray, List.set_cons_zero, List.set_cons_succ]
          refine wpList_plain rfl (fun K hK => ?_)
          go_simp
          refine hK _ _ ?_
          clear hK K
          try simp only [Act.put, List.setIfInBounds_toArray, List.set_cons_zero, List.set_cons_succ]
          refine wpList_plain rfl (fun K hK => ?_)
          go_simp
          refine hK _ _ ?_
          clear hK K
          try simp only [Act.put, List.setIfInBounds_toArray, List.set_cons_zero, List.set_cons_succ]
          refine wpList_plain rfl (fun K hK => ?_)
          go_simp
          refine hK _ _ ?_
          clear hK K
          try simp only [Act.put, List.setIfInBounds_toArray, List.set_cons_zero, List.set_cons_succ]
          refine wpList_new_blk rfl 30 rfl _ zeroMsg ?_
          intro g10 w14 hg10 b10 hb14
          try simp only [Act.put, List.setIfInBounds_toArray, List.set_cons_zero, List.set_cons_succ]
          have HG10 := Lib.hid (show wr.heap.size ≤ g10 by rw [hg10]; exact hb13.size)
          have hbx := hb13.trans (hb14.mono hb13.size)
          refine wpList_store_blk rfl 30 (.tmp 10) (.tmp 52) rfl rfl g10 cs9 rfl rfl _ _ b10 (infoMsg.trans (by rw [hm9.len])) (by rw [hm9.len, mC_length rfl rfl]) hm9.one ?_
          intro w15 b15 hg15
          try simp only [Act.put, List.setIfInBounds_toArray, List.set_cons_zero, List.set_cons_succ]
          have hby := hbx.trans (grown_below hg15 HG10.out hbx.size)
          have HBY := Lib.hid (HBL.out.trans (hby.mono HBL.out.size))
          have hmv : MVs w15 m cs9 := hm9.mvs.below ((hb14.mono (Nat.le_refl _)).trans (grown_below hg15 (Nat.le_of_eq hg10.symm) hb14.size))
          have HML := Lib.hid hm9.len
          have hS15 := hS.below (hby.mono HBL.out.size)
          have HMV := Lib.hid hmv
          have HRI2 := Lib.hid (HRI.out.below HBY.out)
          have HL10 := Lib.hid (fun (V : World) (hV : Below w15.heap.size w15 V) => rangeAt_of_blk (b15.below hV b15.lt))
          have HLR := Lib.hid (fun (V : World) (hV : Below w15.heap.size w15 V) => range_below (range_below HRG.out.2 HRG.out.1 HBY.out) (Nat.lt_of_lt_of_le HRG.out.1 HBY.out.size) hV)
          clear hm9 hb13 hb14 hbx hg15 b10 hg10 hS hmv
          refine wpList_plain rfl (fun K hK => ?_)
          go_simp
          refine hK _ _ ?_
          clear hK K
          try simp only [Act.put, List.setIfInBounds_toArray, List.set_cons_zero, List.set_cons_succ]
          refine wpList_plain rfl (fun K hK => ?_)
          go_simp
          refine hK _ _ ?_
          clear hK K
          try simp only [Act.put, List.setIfInBounds_toArray, List.set_cons_zero, List.set_cons_succ]
          go_upto_region 14 with (fail)
          refine wp_region_noPanic ?_
          refine wp_region_held_drew (S := fun V => Below w15.heap.size w15 V) (by kernel_rfl) (by exact below_drewN (Below.refl _ _) 1) (fun hHeld => ?_)
          refine wpAnyH_take (i := 0) (oi := ⟨_, _, _, _, _, _⟩) (v := ?_) rfl (by kernel_rfl) (by kernel_rfl) (by kernel_rfl) (fun _ _ _ h => h) (Or.inl ⟨by rfl, ?_⟩) hHeld ?_
          rotate_left 1
          · (intro W hSw; (try dsimp only at hSw); go_simp; try with_reducible rfl)
          try simp only [Act.put, List.setIfInBounds_toArray, List.set_cons_zero, List.set_cons_succ]
          refine wpAnyH_take (i := 1) (oi := ⟨_, _, _, _, _, _⟩) (v := ?_) rfl (by kernel_rfl) (by kernel_rfl) (by kernel_rfl) (fun _ _ _ h => h) (Or.inl ⟨by rfl, ?_⟩) hHeld ?_
          rotate_left 1
          · (intro W hSw; (try dsimp only at hSw); go_simp; try with_reducible rfl)
          try simp only [Act.put, List.setIfInBounds_toArray, List.set_cons_zero, List.set_cons_succ]
          refine wpAnyH_take (i := 2) (oi := ⟨_, _, _, _, _, _⟩) (v := ?_) rfl (by kernel_rfl) (by kernel_rfl) (by kernel_rfl) (fun _ _ _ h => h) (Or.inl ⟨by rfl, ?_⟩) hHeld ?_
          rotate_left 1
          · (intro W hSw; (try dsimp only at hSw); go_simp; try with_reducible rfl)
          try simp only [Act.put, List.setIfInBounds_toArray, List.set_cons_zero, List.set_cons_succ]
          refine wpAnyH_take (i := 3) (oi := ⟨_, _, _, _, _, _⟩) (v := ?_) rfl (by kernel_rfl) (by kernel_rfl) (by kernel_rfl) (fun _ _ _ h => h) (Or.inl ⟨by rfl, ?_⟩) hHeld ?_
          rotate_left 1
          · (intro W hSw; (try dsimp only at hSw); refine exec_load_mid 30 (.tmp 10) ?_ g10 (0) ?_ cs9 _ (HL10.out W hSw) Tryd.underlying30 rfl (infoMsg.trans (by rw [HML.out])) <;> rfl)
          try simp only [Act.put, List.setIfInBounds_toArray, List.set_cons_zero, List.set_cons_succ]
          refine wpAnyH_take (i := 5) (oi := ⟨_, _, _, _, _, _⟩) (v := ?_) rfl (by kernel_rfl) (by kernel_rfl) (by kernel_rfl) (fun _ _ _ h => h) (Or.inl ⟨by rfl, ?_⟩) hHeld ?_
          rotate_left 1
          · (intro W hSw; (try dsimp only at hSw); go_simp; try with_reducible rfl)
          try simp only [Act.put, List.setIfInBounds_toArray, List.set_cons_zero, List.set_cons_succ]
          refine wpAnyH_take (i := 6) (oi := ⟨_, _, _, _, _, _⟩) (v := ?_) rfl (by kernel_rfl) (by kernel_rfl) (by kernel_rfl) (fun _ _ _ h => h) (Or.inl ⟨by rfl, ?_⟩) hHeld ?_
          rotate_left 1
          · (intro W hSw; (try dsimp only at hSw); go_simp; try with_reducible rfl)
          try simp only [Act.put, List.setIfInBounds_toArray, List.set_cons_zero, List.set_cons_succ]
          refine wpAnyH_take (i := 7) (oi := ⟨_, _, _, _, _, _⟩) (v := ?_) rfl (by kernel_rfl) (by kernel_rfl) (by kernel_rfl) (fun _ _ _ h => h) (Or.inl ⟨by rfl, ?_⟩) hHeld ?_
          rotate_left 1
          · (intro W hSw; (try dsimp only at hSw); obtain ⟨hk0, hkn, hkt⟩ := HKN.out; go_simp; try with_reducible rfl)
          try simp only [Act.put, List.setIfInBounds_toArray, List.set_cons_zero, List.set_cons_succ]
          refine wpAnyH_take (i := 8) (oi := ⟨_, _, _, _, _, _⟩) (v := ?_) rfl (by kernel_rfl) (by kernel_rfl) (by kernel_rfl) (fun _ _ _ h => h) (Or.inl ⟨by rfl, ?_⟩) hHeld ?_
          rotate_left 1
          · (intro W hSw; (try dsimp only at hSw); refine exec_load_mid 25 (.tmp 62) ?_ gp (op + k * 75) ?_ cs _ (HLR.out W hSw) Tryd.underlying25 rfl (infoR.trans (by rw [HRI2.out.len])) <;> rfl)
          try simp only [Act.put, List.setIfInBounds_toArray, List.set_cons_zero, List.set_cons_succ]
          refine wpAnyH_ready (rs := [4]) (by kernel_rfl) (by simp) ?_
          refine AllReadyH.cons (o := ⟨_, _, _, _, _, _⟩) rfl (fun K hK => ?_) AllReadyH.nil
          go_simp
          go_at_call 15
          refine (from_e m cs9 _ (HMV.out.below hHeld) HNC).mono ?_
          rintro e w16 ⟨cs16, rfl, hm16, hbn⟩
          try go_wp2_with fail
          refine hK.out _ _ (hHeld.trans (hbn.mono hHeld.size)) (fun hHeld => ?_)
          have hri := HRI2.out.below hHeld
          clear hK K hbn
          try simp only [Act.put, List.setIfInBounds_toArray, List.set_cons_zero, List.set_cons_succ]
          refine wpAnyH_ready (rs := [9]) (by kernel_rfl) (by simp) ?_
          refine AllReadyH.cons (o := ⟨_, _, _, _, _, _⟩) rfl (fun K hK => ?_) AllReadyH.nil
          go_simp
          go_at_call 14
          refine (same_e m cs16 cs _ hm16 hri).mono ?_
          rintro e w17 ⟨rfl, hbn⟩
          try go_wp2_with fail
          refine hK.out _ _ (hHeld.trans (hbn.mono hHeld.size)) (fun hHeld => ?_)
          clear hK K hbn hm16 hri
          try simp only [Act.put, List.setIfInBounds_toArray, List.set_cons_zero, List.set_cons_succ]
          obtain ⟨Az, cz, eze, hiz⟩ := hS15
          obtain ⟨lz, hlz⟩ : ∃ q, bz.length = q := ⟨_, rfl⟩
          rw [hlz] at eze
          have HLZ := Lib.hid (show ln ≤ lz by rw [← hlz, ← HLN.out, HDR.out, List.length_append]; omega)
          have HEZ := Lib.hid eze
          have HS15 := Lib.hid (show SlB w15 wk.heap.size (.slice Az lz cz) bz from ⟨Az, cz, by rw [hlz], hiz⟩)
          subst eze
          clear hiz hlz HEZ
          refine wpAnyH_take (i := 10) (oi := ⟨_, _, _, _, _, _⟩) (v := ?_) rfl (by kernel_rfl) (by kernel_rfl) (by kernel_rfl) (fun _ _ _ h => h) (Or.inl ⟨by rfl, ?_⟩) hHeld ?_
          rotate_left 1
          · (intro W hSw; (try dsimp only at hSw); go_simp; try with_reducible rfl)
          try simp only [Act.put, List.setIfInBounds_toArray, List.set_cons_zero, List.set_cons_succ]
          refine wpAnyH_take (i := 11) (oi := ⟨_, _, _, _, _, _⟩) (v := ?_) rfl (by kernel_rfl) (by kernel_rfl) (by kernel_rfl) (fun _ _ _ h => h) (Or.inl ⟨by rfl, ?_⟩) hHeld ?_
          rotate_left 1
          · (intro W hSw; (try dsimp only at hSw); go_simp; try with_reducible rfl)
          try simp only [Act.put, List.setIfInBounds_toArray, List.set_cons_zero, List.set_cons_succ]
          refine wpAnyH_take (i := 12) (oi := ⟨_, _, _, _, _, _⟩) (v := ?_) rfl (by kernel_rfl) (by kernel_rfl) (by kernel_rfl) (fun _ _ _ h => h) (Or.inl ⟨by rfl, ?_⟩) hHeld ?_
          rotate_left 1
          · (intro W hSw; (try dsimp only at hSw); go_simp; try with_reducible rfl)
          try simp only [Act.put, List.setIfInBounds_toArray, List.set_cons_zero, List.set_cons_succ]
          refine wpAnyH_take (i := 13) (oi := ⟨_, _, _, _, _, _⟩) (v := ?_) rfl (by kernel_rfl) (by kernel_rfl) (by kernel_rfl) (fun _ _ _ h => h) (Or.inl ⟨by rfl, ?_⟩) hHeld ?_
          rotate_left 1
          · (intro W hSw; (try dsimp only at hSw); go_simp; try with_reducible rfl)
          try simp only [Act.put, List.setIfInBounds_toArray, List.set_cons_zero, List.set_cons_succ]
          refine wpAnyH_take (i := 14) (oi := ⟨_, _, _, _, _, _⟩) (v := ?_) rfl (by kernel_rfl) (by kernel_rfl) (by kernel_rfl) (fun _ _ _ h => h) (Or.inl ⟨by rfl, ?_⟩) hHeld ?_
          rotate_left 1
          · (intro W hSw; (try dsimp only at hSw); go_simp; try with_reducible rfl)
          try simp only [Act.put, List.setIfInBounds_toArray, List.set_cons_zero, List.set_cons_succ]
          refine wpAnyH_take (i := 15) (oi := ⟨_, _, _, _, _, _⟩) (v := ?_) rfl (by kernel_rfl) (by kernel_rfl) (by kernel_rfl) (fun _ _ _ h => h) (Or.inl ⟨by rfl, ?_⟩) hHeld ?_
          rotate_left 1
          · (intro W hSw; (try dsimp only at hSw); go_simp; try with_reducible rfl)
          try simp only [Act.put, List.setIfInBounds_toArray, List.set_cons_zero, List.set_cons_succ]
          refine wpAnyH_take (i := 16) (oi := ⟨_, _, _, _, _, _⟩) (v := ?_) rfl (by kernel_rfl) (by kernel_rfl) (by kernel_rfl) (fun _ _ _ h => h) (Or.inl ⟨by rfl, ?_⟩) hHeld ?_
          rotate_left 1
          · (intro W hSw; (try dsimp only at hSw); have hgt : decide (lz < ln) = false := decide_eq_false (by have := HLZ.out; omega); go_simp; try with_reducible rfl)
          try simp only [Act.put, List.setIfInBounds_toArray, List.set_cons_zero, List.set_cons_succ]
          refine wpAnyH_take (i := 17) (oi := ⟨_, _, _, _, _, _⟩) (v := ?_) rfl (by kernel_rfl) (by kernel_rfl) (by kernel_rfl) (fun _ _ _ h => h) (Or.inl ⟨by rfl, ?_⟩) hHeld ?_
          rotate_left 1
          · (intro W hSw; (try dsimp only at hSw); go_simp; try with_reducible rfl)
          try simp only [Act.put, List.setIfInBounds_toArray, List.set_cons_zero, List.set_cons_succ]
          refine wpAnyH_done (by kernel_rfl) ?_ _
          refine NoPanic.normal ?_
          go_upto_region 16 with (fail)
          refine wp_region_lit ?_
          refine wpList_plain rfl (fun K hK => ?_)
          go_simp
          refine hK _ _ ?_
          clear hK K
          try simp only [Act.put, List.setIfInBounds_toArray, List.set_cons_zero, List.set_cons_succ]
          refine wpList_plain rfl (fun K hK => ?_)
          go_simp
          refine hK _ _ ?_
          clear hK K
          try simp only [Act.put, List.setIfInBounds_toArray, List.set_cons_zero, List.set_cons_succ]
          refine wpList_sliceL rfl rfl rfl (HS15.out.below (hHeld.mono HBY.out.size)) ln rfl (by rw [HDR.out, List.length_append, HLN.out]; omega) ?_
          intro v75 hv75
          try simp only [Act.put, List.setIfInBounds_toArray, List.set_cons_zero, List.set_cons_succ]
          rw [HDR.out, ← HLN.out, List.drop_left] at hv75
          have hbe := HBY.out.trans (hHeld.mono HBY.out.size)
          clear hHeld
          go_wp2
          go_roundw
          case rel => exact ⟨k + 1, HK.out.1, by rw [HKW.out], hv75, hbe⟩
          case measure => rw [HKW.out]; simpa [intOf] using HK.out.2
        · have hd : ¬ (k : Int) < (nh : Int) := by omega
          have hkn : k = nh := by omega
          obtain rfl : bz = [] := by rw [← hbz, hkn, ← HNH.out, List.drop_length]; rfl
          obtain ⟨Az, cz, eze, hiz⟩ := hS
          subst eze
          have HBZ := Lib.hid (HBR.out.trans (hbl.mono HBR.out.size))
          clear hkn hk hlt hbz hbl hiz
          go_upto_region 17 with (fail)
          refine wp_region_lit ?_
          refine wpList_plain rfl (fun K hK0 => ?_)
          have hK := Lib.hid hK0
          clear hK0
          go_simp
          go_at_call 13
          refine (hellos_e _ (HT.out.below HBZ.out)).mono ?_
          rintro e w18 ⟨rfl, hb18⟩
          try go_wp2_with fail
          refine hK.out _ _ ?_
          clear hK K
          try simp only [Act.put, List.setIfInBounds_toArray, List.set_cons_zero, List.set_cons_succ]
          go_wp2
          go_ret
          exact ⟨rfl, HBZ.out.trans (hb18.mono HBZ.out.size)⟩
end Go.Proofs.YtagblbfbjemfhaaDoor
