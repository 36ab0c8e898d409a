/-
  The walk of the statement RadiusSplits.
-/
import Derived.Test.YtbomckbekcaemaaDoorRse
namespace Go.Proofs.YtbomckbekcaemaaDoor
open Go.RowKit

theorem field_3 (A : Option Addr) (m c : Nat) (W : World) : (Instr.field 25 (.agg #[.int .i64 0, .int .i64 0, .int .u8 0, .int .u8 0, .int .u8 0, .int .u8 0, .int .u8 0, .int .u8 0, .int .u8 0, .int .u8 0, .int .u8 0, .int .u8 0, .int .u8 0, .int .u8 0, .int .u8 0, .int .u8 0, .int .u8 0, .int .u8 0, .slice A m c]) 3).run Tryd.prog W = .ok (.slice A m c) W := by
  have u := run_underlying (w := W) Tryd.underlying25
  have u2 := run_underlying (w := W) Tryd.underlying23
  simp [Instr.field, u, part, isAgg, u2, asAgg]
theorem ix_cutN {n c most q : Nat} (hq : q = min n most) (hc : n ≤ c) : min (n : Int) (most : Int) = (q : Int) ∧ (q : Int) ≤ (c : Int) ∧ (0 : Int) ≤ (q : Int) := by omega
theorem joinA_small (la : Attrs) (h1 : la.length ≤ 20) (h2 : ∀ j, j < la.length → (la.getD j (0, [])).2.length ≤ 260) : (joinA la).length ≤ 260 * 20 := by
  have hs : ∀ l : Attrs, (∀ a ∈ l, a.2.length ≤ 260) → (joinA l).length ≤ 260 * l.length := by
    intro l
    induction l with
    | nil => intro _; simp [joinA]
    | cons a l ih =>
      intro h
      have h3 := ih (fun x hx => h x (List.mem_cons_of_mem _ hx))
      have h4 := h a (List.mem_cons_self ..)
      unfold joinA at h3 ⊢
      by_cases h79 : a.1 = 79
      · rw [List.filter_cons_of_pos (by simpa using h79), List.flatMap_cons, List.length_append, List.length_cons]
        omega
      · rw [List.filter_cons_of_neg (by simpa using h79), List.length_cons]
        omega
  have := hs la (fun a ha => by
    obtain ⟨j, hj, rfl⟩ := List.mem_iff_getElem.1 ha
    have := h2 j hj
    rwa [List.getD_eq_getElem?_getD, List.getElem?_eq_getElem hj] at this)
  omega
theorem splitA_len (b : List UInt8) : (splitA b).length ≤ b.length := by
  generalize hn : b.length = n
  induction n using Nat.strongRecOn generalizing b with
  | _ n ih =>
    by_cases h : 0 < b.length
    · rw [splitA_more h, List.length_cons]
      have := ih (b.drop 253).length (by rw [List.length_drop]; omega) (b.drop 253) rfl
      rw [List.length_drop] at this
      omega
    · rw [splitA_none h]; simp
set_option maxRecDepth 100000 in
set_option maxHeartbeats 1000000 in
theorem radiusSplits_walk (A0 AL : Option Addr) (c0 cL n0 nL : Nat) (b : List UInt8) (la : Attrs) (kind : Int) (w : World) (hn0 : b.length = n0) (i0 : In w w.heap.size A0 c0 b) (hnL : la.length = nL) (iL : SIn w w.heap.size AL cL la) (ht : TabsQ w) :
    Calls Tryd.prog 6 #[.slice A0 n0 c0, .slice AL nL cL, .int .i64 kind] w fun e w' => e = .returned (.bool true) ∧ Below w.heap.size w w' := by
  obtain ⟨n1, hn1⟩ : ∃ n1, n1 = min n0 1200 := ⟨_, rfl⟩
  have hmin := ix_cutN (most := 1200) hn1 (show n0 ≤ c0 by rw [← hn0]; exact i0.1)
  obtain ⟨hm1, hm2, hm3⟩ := hmin
  replace hm1 : min (n0 : Int) 1200 = (n1 : Int) := hm1
  have hb1 : (b.take n1).length = n1 := by rw [List.length_take]; omega
  have i1 := i0.take n1
  generalize b.take n1 = b1 at *
  have hb9 : n1 ≤ 1200 := by omega
  obtain ⟨htl, htv⟩ := tameA_bounds la
  have hjs := joinA_small _ htl htv
  have HTAM := Lib.hid (fun (W : World) (h : Below w.heap.size w W) => (show Calls Tryd.prog 11 #[.agg #[.int .i64 0, .int .i64 0, .int .u8 0, .int .u8 0, .int .u8 0, .int .u8 0, .int .u8 0, .int .u8 0, .int .u8 0, .int .u8 0, .int .u8 0, .int .u8 0, .int .u8 0, .int .u8 0, .int .u8 0, .int .u8 0, .int .u8 0, .int .u8 0, .slice AL nL cL]] W (fun e w' => ∃ A m c, e = .returned (.agg #[.int .i64 0, .int .i64 0, .int .u8 0, .int .u8 0, .int .u8 0, .int .u8 0, .int .u8 0, .int .u8 0, .int .u8 0, .int .u8 0, .int .u8 0, .int .u8 0, .int .u8 0, .int .u8 0, .int .u8 0, .int .u8 0, .int .u8 0, .int .u8 0, .slice A m c]) ∧ SRow w' W.heap.size (.slice A m c) (tameA la) ∧ Below W.heap.size W w') from tame_e 0 0 zQ AL cL nL la W rfl hnL (iL.up h)))
  generalize tameA la = tl at *
  obtain ⟨m, hm⟩ : ∃ m, tl.length = m := ⟨_, rfl⟩
  obtain ⟨ms, hms⟩ : ∃ ms, (splitA b1).length = ms := ⟨_, rfl⟩
  have hms9 := splitA_len b1
  have HSPK := Lib.hid (fun (W : World) (hb : Below w.heap.size w W) => speaks_e W (ht.below hb))
  have HSPL := Lib.hid (fun (W : World) (h : Below w.heap.size w W) => split_e A0 c0 n1 b1 W hb1 (by omega) (i1.up h))
  unfold SaidAPost at HSPL
  have HATR := Lib.hid (fun (W : World) (A : Option Addr) (c : Nat) (h : SIn W W.heap.size A c tl) => attrs_e A c m tl W hm h (by omega) (fun j hj => Nat.le_trans (htv j hj) (by decide)))
  unfold SaidAPost at HATR
  have HFND := Lib.hid (fun (W : World) (A : Option Addr) (c : Nat) (h : AIn W W.heap.size A c tl) => find_e A c m tl kind W hm h (fun j hj => Nat.lt_of_le_of_lt (htv j hj) (by decide)))
  unfold FindPost at HFND
  have HTLD := Lib.hid (fun (W : World) (A : Option Addr) (c : Nat) (h : AIn W W.heap.size A c (splitA b1)) => told_e A c ms (splitA b1) W hms h (by omega))
  have HRS := Lib.hid (fun (W : World) => rsplit_e b1 W (by omega))
  have HAT := Lib.hid (fun (W : World) (A A' : Option Addr) (c c' : Nat) (h : SIn W W.heap.size A c (splitA b1)) (h' : SIn W W.heap.size A' c' (splitA b1)) => (show Calls Tryd.prog 26 #[.slice A ms c, .slice A' ms c'] W (fun e w' => e = .returned (.bool true) ∧ Below W.heap.size W w') by have := rattrs_e A A' c c' ms ms (splitA b1) (splitA b1) W hms h hms h'; simpa using this))
  have HJNS := Lib.hid (fun (W : World) (A : Option Addr) (c : Nat) (h : AIn W W.heap.size A c (splitA b1)) => (show Calls Tryd.prog 34 #[.slice A ms c] W (fun e w' => ∃ A' c', e = .returned (.slice A' n1 c') ∧ Buf w' W.heap.size A' n1 c' b1 ∧ Below W.heap.size W w') by
    have := join_e A c ms (splitA b1) W hms h (by rw [joinA_split]; omega)
    rw [joinA_split] at this
    refine this.mono ?_
    rintro e w' ⟨A', n', c', rfl, hB, hb⟩
    have : n' = n1 := hB.1.symm.trans hb1
    subst this
    exact ⟨A', c', rfl, hB, hb⟩))
  have HJL := Lib.hid (fun (W : World) (A : Option Addr) (c : Nat) (h : AIn W W.heap.size A c tl) => join_e A c m tl W hm h (by omega))
  have HRJL := Lib.hid (fun (W : World) (A : Option Addr) (c : Nat) (h : SIn W W.heap.size A c tl) => rjoin_e A c m tl W hm h (by omega))
  have HB1 := Lib.hid (show b1.length = n1 ∧ In w w.heap.size A0 c0 b1 from ⟨hb1, i1⟩)
  have HMS := Lib.hid hms
  have HTM := Lib.hid hm
  have hm20 : m ≤ 20 := by omega
  clear hn1 hn0 i0 hb1 i1 hb9 htl htv hjs hnL iL hm hms hms9 ht
  go_enter Tryd.func6, Tryd.ntmps6
  go_upto_region 2 with (fail)
  clear hm1 hm2 hm3
  have hfd := field_3
  go_upto_region 3 with (go_at_call 11; refine (HTAM.out _ (Below.refl _ _)).mono ?_; rintro e w2 ⟨A2, m2, c2, rfl, hS2, hb2⟩)
  clear hfd
  obtain ⟨A2', c2', hv2, hI2⟩ := hS2.slice
  rw [HTM.out] at hv2
  injection hv2 with e1 e2 e3
  subst e2
  subst e1
  subst e3
  have HX2 := Lib.hid hb2
  have HI2 := Lib.hid hI2
  clear hS2 hb2 hI2
  go_upto_region 4 with (go_at_call 30; refine (HSPL.out _ HX2.out).mono ?_; rintro e w3 ⟨v3, rfl, hA3, hb3⟩; have HX3 := Lib.hid (HX2.out.trans (hb3.mono HX2.out.size)); have HL3 := Lib.hid (HI2.out.up hb3); obtain ⟨A3, c3, hv3, hI3⟩ := hA3.slice; rw [HMS.out] at hv3; subst hv3; clear hA3; have HI3 := Lib.hid hI3; clear hI3)
  clear HI2
  go_upto_region 5 with (first
    | (go_at_call 32; refine (HATR.out _ _ _ HL3.out).mono ?_; rintro e w4 ⟨v4, rfl, hA4, hb4⟩; obtain ⟨A4, c4, hv4, hI4⟩ := hA4.slice; rw [HTM.out] at hv4; subst hv4; clear hA4; have HI4 := Lib.hid hI4; clear hI4)
    | (go_at_call 31; refine (HFND.out _ _ _ HI4.out).mono ?_; rintro e w5 ⟨A5, n5, c5, rfl, hB5, hb5⟩))
  have hb45 := hb4.trans (hb5.mono hb4.size)
  have HX5 := Lib.hid (HX3.out.trans (hb45.mono HX3.out.size))
  have HI5 := Lib.hid (HI3.out.up hb45)
  have HL5 := Lib.hid (HL3.out.up hb45)
  have HFV := Lib.hid (And.intro hB5.1 (hB5.toIn (Nat.le_refl _)))
  clear hb4 HI4 hB5 hb5 hb45 HI3 HL3
  obtain ⟨x0, hx0⟩ : ∃ x0 : Int, (m2 : Int) - 1 = x0 := ⟨_, rfl⟩
  have HX0 := Lib.hid (show x0 + 1 = (m2 : Int) by omega)
  go_upto_region 7 with (fail)
  clear hx0
  go_loopw [12, 10, 11] (fun i wv tv wr => w5 = wr ∧ ∃ (x : Int) (k : Nat), i = .int .i64 x ∧ Hid (x + 1 = (k : Int) ∧ k ≤ tl.length) ∧ wv = .string ⟨((findA (tl.drop k) kind).getD []).toArray⟩ ∧ tv = .bool (findA (tl.drop k) kind).isSome) (fun i _ _ _ => (intOf i + 1).toNat)
  case atStart => exact ⟨rfl, x0, m2, rfl, Lib.hid ⟨HX0.out, by rw [HTM.out]; exact Nat.le_refl _⟩, by rw [List.drop_of_length_le (by rw [HTM.out]; exact Nat.le_refl _)]; rfl, by rw [List.drop_of_length_le (by rw [HTM.out]; exact Nat.le_refl _)]; rfl⟩
  case round =>
    obtain ⟨hww, x, k, rfl, HK, rfl, rfl⟩ := hrel
    subst hww
    cases k with
    | succ k =>
      have hx : x = (k : Int) := by have := HK.out.1; omega
      subst hx
      have hkr : k < tl.length := HK.out.2
      obtain ⟨gp, op, hAe, hgp, hrow⟩ := HL5.out.2.2 (Nat.lt_of_le_of_lt (Nat.zero_le _) hkr)
      obtain ⟨h1, h2⟩ := hrow k hkr
      obtain ⟨kd, v, hkv⟩ : ∃ kd v, tl.getD k (0, []) = (kd, v) := ⟨_, _, rfl⟩
      rw [hkv] at h1 h2
      have hdr : tl.drop k = (kd, v) :: tl.drop (k + 1) := by
        rw [List.drop_eq_getElem_cons hkr, ← hkv, List.getD_eq_getElem?_getD, List.getElem?_eq_getElem hkr]; rfl
      have hfa := findA_cons (kd, v) (tl.drop (k + 1)) kind
      rw [← hdr] at hfa
      simp only at hfa
      obtain ⟨xp, hxp⟩ : ∃ xp : Int, (k : Int) - 1 = xp := ⟨_, rfl⟩
      have HXP := Lib.hid (show xp + 1 = (k : Int) ∧ k ≤ tl.length by omega)
      have hkm : (k : Int) < (m2 : Int) := by have := HTM.out; omega
      have hk0 : (0 : Int) ≤ (k : Int) := by omega
      have hmc : (m2 : Int) ≤ (c2 : Int) := by have h3 := HL5.out.1; have h4 := HTM.out; omega
      have hk20 : k < 1000 := by have := HTM.out; omega
      have HME := Lib.hid (show (intOf (.int .i64 xp) + 1).toNat < (intOf (.int .i64 (k : Int)) + 1).toNat by simp only [intOf]; omega)
      subst hAe
      generalize tl.drop (k + 1) = td at *
      clear hrow hkv hdr hkr HK hgp
      by_cases hkd : kd = kind
      · subst hkd
        rw [if_pos rfl] at hfa
        have HFA := Lib.hid hfa
        clear hfa
        go_wp2
        go_roundw
        case rel => exact ⟨trivial, xp, k, rfl, HXP, by rw [HFA.out]; rfl, by rw [HFA.out]; rfl⟩
        case measure => exact HME.out
      · rw [if_neg hkd] at hfa
        have HFA := Lib.hid hfa
        clear hfa
        go_wp2
        go_roundw
        case rel => exact ⟨trivial, xp, k, rfl, HXP, by rw [HFA.out], by rw [HFA.out]⟩
        case measure => exact HME.out
    | zero =>
      have hx : x = -1 := by have := HK.out.1; omega
      subst hx
      rw [List.drop_zero]
      generalize findA tl kind = FF at *
      obtain ⟨fv, hfv⟩ : ∃ fv, fv = FF.getD [] := ⟨_, rfl⟩
      obtain ⟨fs, hfs⟩ : ∃ fs, fs = FF.isSome := ⟨_, rfl⟩
      rw [← hfv] at HFV ⊢
      rw [← hfs]
      have HXw5 := HX5
      have HQ3 := HI5
      have HQL := HL5
      clear HK hfv hfs
      go_upto_region 11 with (fail)
      refine wp_region_noPanic ?_
      refine wp_region_held_drew (S := fun W => Below w5.heap.size w5 W) (by kernel_rfl) (by exact below_drewN (Below.refl _ _) 1) (fun hHeld => ?_)
      replace hHeld : Below w5.heap.size w5 w5.drew := hHeld
      have HXwd := Lib.hid (HXw5.out.trans (hHeld.mono HXw5.out.size))
      have HYwd := Lib.hid (show Below w5.heap.size w5 w5.drew from hHeld)
      generalize w5.drew = wd at *
      refine anyH_mono (S' := fun W => Below wd.heap.size wd W) (fun W h => hHeld.trans (h.mono hHeld.size)) _ _ _ _ ?_
      clear hHeld
      have hHeld : Below wd.heap.size wd wd := Below.refl _ _
      refine wpAnyH_ready (rs := [0]) (by kernel_rfl) (by simp) ?_
      refine AllReadyH.cons (o := ⟨_, _, _, _, _, _⟩) rfl (fun K hK => ?_) AllReadyH.nil
      go_simp
      go_at_call 15
      refine (HSPK.out _ HXwd.out).mono ?_
      rintro e wa ⟨rfl, hba⟩
      try go_wp2_with fail
      have hszx := hHeld.size
      refine hK.out _ _ (hHeld.trans (hba.mono hszx)) (fun hHeld => ?_)
      clear hK K hszx
      replace hHeld : Below wd.heap.size wd wa := hHeld
      have HXwa := Lib.hid (HXwd.out.trans (hHeld.mono HXwd.out.size))
      have HYwa := Lib.hid (HYwd.out.trans (hHeld.mono HYwd.out.size))
      try simp only [Act.put, List.setIfInBounds_toArray, List.set_cons_zero, List.set_cons_succ]
      refine anyH_mono (S' := fun W => Below wa.heap.size wa W) (fun W h => hHeld.trans (h.mono hHeld.size)) _ _ _ _ ?_
      clear hHeld
      have hHeld : Below wa.heap.size wa wa := Below.refl _ _
      refine wpAnyH_take (i := 1) (oi := ⟨_, _, _, _, _, _⟩) (v := ?_) rfl (by kernel_rfl) (by kernel_rfl) (by kernel_rfl) (fun _ _ _ h => h) (Or.inl ⟨by rfl, ?_⟩) hHeld ?_
      rotate_left 1
      · (intro W hSw; (try dsimp only at hSw); go_simp; try with_reducible rfl)
      try simp only [Act.put, List.setIfInBounds_toArray, List.set_cons_zero, List.set_cons_succ]
      refine wpAnyH_take (i := 2) (oi := ⟨_, _, _, _, _, _⟩) (v := ?_) rfl (by kernel_rfl) (by kernel_rfl) (by kernel_rfl) (fun _ _ _ h => h) (Or.inl ⟨by rfl, ?_⟩) hHeld ?_
      rotate_left 1
      · (intro W hSw; (try dsimp only at hSw); go_simp; try with_reducible rfl)
      try simp only [Act.put, List.setIfInBounds_toArray, List.set_cons_zero, List.set_cons_succ]
      refine wpAnyH_take (i := 4) (oi := ⟨_, _, _, _, _, _⟩) (v := ?_) rfl (by kernel_rfl) (by kernel_rfl) (by kernel_rfl) (fun _ _ _ h => h) (Or.inl ⟨by rfl, ?_⟩) hHeld ?_
      rotate_left 1
      · (intro W hSw; (try dsimp only at hSw); go_simp; try with_reducible rfl)
      try simp only [Act.put, List.setIfInBounds_toArray, List.set_cons_zero, List.set_cons_succ]
      refine wpAnyH_take (i := 5) (oi := ⟨_, _, _, _, _, _⟩) (v := ?_) rfl (by kernel_rfl) (by kernel_rfl) (by kernel_rfl) (fun _ _ _ h => h) (Or.inl ⟨by rfl, ?_⟩) hHeld ?_
      rotate_left 1
      · (intro W hSw; (try dsimp only at hSw); have hcv := conv_in HB1.out.1 (HB1.out.2.up (HXwa.out.trans (hSw.mono HXwa.out.size))); go_simp; try with_reducible rfl)
      try simp only [Act.put, List.setIfInBounds_toArray, List.set_cons_zero, List.set_cons_succ]
      refine wpAnyH_ready (rs := [3]) (by kernel_rfl) (by simp) ?_
      refine AllReadyH.cons (o := ⟨_, _, _, _, _, _⟩) rfl (fun K hK => ?_) AllReadyH.nil
      go_simp
      go_at_call 27
      refine (HTLD.out _ _ _ (HI5.out.up HYwa.out)).mono ?_
      rintro e wb ⟨vb, rfl, hSb, hbb⟩
      try go_wp2_with fail
      have hszx := hHeld.size
      refine hK.out _ _ (hHeld.trans (hbb.mono hszx)) (fun hHeld => ?_)
      clear hK K hszx
      replace hHeld : Below wa.heap.size wa wb := hHeld
      have HXwb := Lib.hid (HXwa.out.trans (hHeld.mono HXwa.out.size))
      have HYwb := Lib.hid (HYwa.out.trans (hHeld.mono HYwa.out.size))
      obtain ⟨Ab, cb, hvb, hIb⟩ := hSb.slice
      rw [HMS.out] at hvb
      subst hvb
      clear hSb
      try simp only [Act.put, List.setIfInBounds_toArray, List.set_cons_zero, List.set_cons_succ]
      refine anyH_mono (S' := fun W => Below wb.heap.size wb W) (fun W h => hHeld.trans (h.mono hHeld.size)) _ _ _ _ ?_
      clear hHeld
      have hHeld : Below wb.heap.size wb wb := Below.refl _ _
      refine wpAnyH_ready (rs := [6]) (by kernel_rfl) (by simp) ?_
      refine AllReadyH.cons (o := ⟨_, _, _, _, _, _⟩) rfl (fun K hK => ?_) AllReadyH.nil
      go_simp
      go_at_call 33
      refine (HRS.out _).mono ?_
      rintro e wc ⟨vc, rfl, hSc, hbc⟩
      try go_wp2_with fail
      have hszx := hHeld.size
      refine hK.out _ _ (hHeld.trans (hbc.mono hszx)) (fun hHeld => ?_)
      clear hK K hszx
      replace hHeld : Below wb.heap.size wb wc := hHeld
      have HXwc := Lib.hid (HXwb.out.trans (hHeld.mono HXwb.out.size))
      have HYwc := Lib.hid (HYwb.out.trans (hHeld.mono HYwb.out.size))
      obtain ⟨Ac, cc, hvc, hIc⟩ := hSc.slice
      rw [HMS.out] at hvc
      subst hvc
      clear hSc
      have HIb := Lib.hid (hIb.up hbc)
      have HIc := Lib.hid hIc
      clear hIb hIc
      try simp only [Act.put, List.setIfInBounds_toArray, List.set_cons_zero, List.set_cons_succ]
      refine anyH_mono (S' := fun W => Below wc.heap.size wc W) (fun W h => hHeld.trans (h.mono hHeld.size)) _ _ _ _ ?_
      clear hHeld
      have hHeld : Below wc.heap.size wc wc := Below.refl _ _
      refine wpAnyH_ready (rs := [7]) (by kernel_rfl) (by simp) ?_
      refine AllReadyH.cons (o := ⟨_, _, _, _, _, _⟩) rfl (fun K hK => ?_) AllReadyH.nil
      go_simp
      go_at_call 26
      refine (HAT.out _ _ _ _ _ HIb.out HIc.out).mono ?_
      rintro e we ⟨rfl, hbe⟩
      try go_wp2_with fail
      have hszx := hHeld.size
      refine hK.out _ _ (hHeld.trans (hbe.mono hszx)) (fun hHeld => ?_)
      clear hK K hszx
      replace hHeld : Below wc.heap.size wc we := hHeld
      have HXwe := Lib.hid (HXwc.out.trans (hHeld.mono HXwc.out.size))
      have HYwe := Lib.hid (HYwc.out.trans (hHeld.mono HYwc.out.size))
      try simp only [Act.put, List.setIfInBounds_toArray, List.set_cons_zero, List.set_cons_succ]
      refine anyH_mono (S' := fun W => Below we.heap.size we W) (fun W h => hHeld.trans (h.mono hHeld.size)) _ _ _ _ ?_
      clear hHeld
      have hHeld : Below we.heap.size we we := Below.refl _ _
      refine wpAnyH_take (i := 8) (oi := ⟨_, _, _, _, _, _⟩) (v := ?_) rfl (by kernel_rfl) (by kernel_rfl) (by kernel_rfl) (fun _ _ _ h => h) (Or.inl ⟨by rfl, ?_⟩) hHeld ?_
      rotate_left 1
      · (intro W hSw; (try dsimp only at hSw); go_simp; try with_reducible rfl)
      try simp only [Act.put, List.setIfInBounds_toArray, List.set_cons_zero, List.set_cons_succ]
      refine wpAnyH_take (i := 9) (oi := ⟨_, _, _, _, _, _⟩) (v := ?_) rfl (by kernel_rfl) (by kernel_rfl) (by kernel_rfl) (fun _ _ _ h => h) (Or.inl ⟨by rfl, ?_⟩) hHeld ?_
      rotate_left 1
      · (intro W hSw; (try dsimp only at hSw); go_simp; try with_reducible rfl)
      try simp only [Act.put, List.setIfInBounds_toArray, List.set_cons_zero, List.set_cons_succ]
      refine wpAnyH_take (i := 10) (oi := ⟨_, _, _, _, _, _⟩) (v := ?_) rfl (by kernel_rfl) (by kernel_rfl) (by kernel_rfl) (fun _ _ _ h => h) (Or.inl ⟨by rfl, ?_⟩) hHeld ?_
      rotate_left 1
      · (intro W hSw; (try dsimp only at hSw); go_simp; try with_reducible rfl)
      try simp only [Act.put, List.setIfInBounds_toArray, List.set_cons_zero, List.set_cons_succ]
      refine wpAnyH_take (i := 13) (oi := ⟨_, _, _, _, _, _⟩) (v := ?_) rfl (by kernel_rfl) (by kernel_rfl) (by kernel_rfl) (fun _ _ _ h => h) (Or.inl ⟨by rfl, ?_⟩) hHeld ?_
      rotate_left 1
      · (intro W hSw; (try dsimp only at hSw); go_simp; try with_reducible rfl)
      try simp only [Act.put, List.setIfInBounds_toArray, List.set_cons_zero, List.set_cons_succ]
      refine wpAnyH_take (i := 14) (oi := ⟨_, _, _, _, _, _⟩) (v := ?_) rfl (by kernel_rfl) (by kernel_rfl) (by kernel_rfl) (fun _ _ _ h => h) (Or.inl ⟨by rfl, ?_⟩) hHeld ?_
      rotate_left 1
      · (intro W hSw; (try dsimp only at hSw); have hcv := conv_in HB1.out.1 (HB1.out.2.up (HXwe.out.trans (hSw.mono HXwe.out.size))); go_simp; try with_reducible rfl)
      try simp only [Act.put, List.setIfInBounds_toArray, List.set_cons_zero, List.set_cons_succ]
      refine wpAnyH_ready (rs := [11]) (by kernel_rfl) (by simp) ?_
      refine AllReadyH.cons (o := ⟨_, _, _, _, _, _⟩) rfl (fun K hK => ?_) AllReadyH.nil
      go_simp
      go_at_call 34
      refine (HJNS.out _ _ _ (HI5.out.up HYwe.out)).mono ?_
      rintro e wf ⟨Af, cf, rfl, hBf, hbf⟩
      try go_wp2_with fail
      have hszx := hHeld.size
      refine hK.out _ _ (hHeld.trans (hbf.mono hszx)) (fun hHeld => ?_)
      clear hK K hszx
      replace hHeld : Below we.heap.size we wf := hHeld
      have HXwf := Lib.hid (HXwe.out.trans (hHeld.mono HXwe.out.size))
      have HYwf := Lib.hid (HYwe.out.trans (hHeld.mono HYwe.out.size))
      have HIf := Lib.hid (And.intro hBf.1 (hBf.toIn (Nat.le_refl _)))
      clear hBf
      try simp only [Act.put, List.setIfInBounds_toArray, List.set_cons_zero, List.set_cons_succ]
      refine anyH_mono (S' := fun W => Below wf.heap.size wf W) (fun W h => hHeld.trans (h.mono hHeld.size)) _ _ _ _ ?_
      clear hHeld
      have hHeld : Below wf.heap.size wf wf := Below.refl _ _
      refine wpAnyH_take (i := 12) (oi := ⟨_, _, _, _, _, _⟩) (v := ?_) rfl (by kernel_rfl) (by kernel_rfl) (by kernel_rfl) (fun _ _ _ h => h) (Or.inl ⟨by rfl, ?_⟩) hHeld ?_
      rotate_left 1
      · (intro W hSw; (try dsimp only at hSw); have hcv := conv_in HIf.out.1 (HIf.out.2.up hSw); go_simp; try with_reducible rfl)
      try simp only [Act.put, List.setIfInBounds_toArray, List.set_cons_zero, List.set_cons_succ]
      refine wpAnyH_take (i := 15) (oi := ⟨_, _, _, _, _, _⟩) (v := ?_) rfl (by kernel_rfl) (by kernel_rfl) (by kernel_rfl) (fun _ _ _ h => h) (Or.inl ⟨by rfl, ?_⟩) hHeld ?_
      rotate_left 1
      · (intro W hSw; (try dsimp only at hSw); go_simp; try with_reducible rfl)
      try simp only [Act.put, List.setIfInBounds_toArray, List.set_cons_zero, List.set_cons_succ]
      refine wpAnyH_take (i := 16) (oi := ⟨_, _, _, _, _, _⟩) (v := ?_) rfl (by kernel_rfl) (by kernel_rfl) (by kernel_rfl) (fun _ _ _ h => h) (Or.inl ⟨by rfl, ?_⟩) hHeld ?_
      rotate_left 1
      · (intro W hSw; (try dsimp only at hSw); go_simp; try with_reducible rfl)
      try simp only [Act.put, List.setIfInBounds_toArray, List.set_cons_zero, List.set_cons_succ]
      refine wpAnyH_take (i := 17) (oi := ⟨_, _, _, _, _, _⟩) (v := ?_) rfl (by kernel_rfl) (by kernel_rfl) (by kernel_rfl) (fun _ _ _ h => h) (Or.inl ⟨by rfl, ?_⟩) hHeld ?_
      rotate_left 1
      · (intro W hSw; (try dsimp only at hSw); go_simp; try with_reducible rfl)
      try simp only [Act.put, List.setIfInBounds_toArray, List.set_cons_zero, List.set_cons_succ]
      refine wpAnyH_take (i := 18) (oi := ⟨_, _, _, _, _, _⟩) (v := ?_) rfl (by kernel_rfl) (by kernel_rfl) (by kernel_rfl) (fun _ _ _ h => h) (Or.inl ⟨by rfl, ?_⟩) hHeld ?_
      rotate_left 1
      · (intro W hSw; (try dsimp only at hSw); go_simp; try with_reducible rfl)
      try simp only [Act.put, List.setIfInBounds_toArray, List.set_cons_zero, List.set_cons_succ]
      refine wpAnyH_take (i := 22) (oi := ⟨_, _, _, _, _, _⟩) (v := ?_) rfl (by kernel_rfl) (by kernel_rfl) (by kernel_rfl) (fun _ _ _ h => h) (Or.inl ⟨by rfl, ?_⟩) hHeld ?_
      rotate_left 1
      · (intro W hSw; (try dsimp only at hSw); go_simp; try with_reducible rfl)
      try simp only [Act.put, List.setIfInBounds_toArray, List.set_cons_zero, List.set_cons_succ]
      refine wpAnyH_ready (rs := [19]) (by kernel_rfl) (by simp) ?_
      refine AllReadyH.cons (o := ⟨_, _, _, _, _, _⟩) rfl (fun K hK => ?_) AllReadyH.nil
      go_simp
      go_at_call 32
      refine (HATR.out _ _ _ (HL5.out.up HYwf.out)).mono ?_
      rintro e wg ⟨vg, rfl, hAg, hbg⟩
      try go_wp2_with fail
      have hszx := hHeld.size
      refine hK.out _ _ (hHeld.trans (hbg.mono hszx)) (fun hHeld => ?_)
      clear hK K hszx
      replace hHeld : Below wf.heap.size wf wg := hHeld
      have HXwg := Lib.hid (HXwf.out.trans (hHeld.mono HXwf.out.size))
      have HYwg := Lib.hid (HYwf.out.trans (hHeld.mono HYwf.out.size))
      obtain ⟨Ag, cg, hvg, hIg⟩ := hAg.slice
      rw [HTM.out] at hvg
      subst hvg
      have HIg := Lib.hid hIg
      clear hAg hIg
      try simp only [Act.put, List.setIfInBounds_toArray, List.set_cons_zero, List.set_cons_succ]
      refine anyH_mono (S' := fun W => Below wg.heap.size wg W) (fun W h => hHeld.trans (h.mono hHeld.size)) _ _ _ _ ?_
      clear hHeld
      have hHeld : Below wg.heap.size wg wg := Below.refl _ _
      refine wpAnyH_ready (rs := [20]) (by kernel_rfl) (by simp) ?_
      refine AllReadyH.cons (o := ⟨_, _, _, _, _, _⟩) rfl (fun K hK => ?_) AllReadyH.nil
      go_simp
      go_at_call 34
      refine (HJL.out _ _ _ HIg.out).mono ?_
      rintro e wh ⟨Ah, nh, ch, rfl, hBh, hbh⟩
      try go_wp2_with fail
      have hszx := hHeld.size
      refine hK.out _ _ (hHeld.trans (hbh.mono hszx)) (fun hHeld => ?_)
      clear hK K hszx
      replace hHeld : Below wg.heap.size wg wh := hHeld
      have HXwh := Lib.hid (HXwg.out.trans (hHeld.mono HXwg.out.size))
      have HYwh := Lib.hid (HYwg.out.trans (hHeld.mono HYwg.out.size))
      have HIh := Lib.hid (And.intro hBh.1 (hBh.toIn (Nat.le_refl _)))
      clear hBh
      try simp only [Act.put, List.setIfInBounds_toArray, List.set_cons_zero, List.set_cons_succ]
      refine anyH_mono (S' := fun W => Below wh.heap.size wh W) (fun W h => hHeld.trans (h.mono hHeld.size)) _ _ _ _ ?_
      clear hHeld
      have hHeld : Below wh.heap.size wh wh := Below.refl _ _
      refine wpAnyH_take (i := 21) (oi := ⟨_, _, _, _, _, _⟩) (v := ?_) rfl (by kernel_rfl) (by kernel_rfl) (by kernel_rfl) (fun _ _ _ h => h) (Or.inl ⟨by rfl, ?_⟩) hHeld ?_
      rotate_left 1
      · (intro W hSw; (try dsimp only at hSw); have hcv := conv_in HIh.out.1 (HIh.out.2.up hSw); go_simp; try with_reducible rfl)
      try simp only [Act.put, List.setIfInBounds_toArray, List.set_cons_zero, List.set_cons_succ]
      refine wpAnyH_ready (rs := [23]) (by kernel_rfl) (by simp) ?_
      refine AllReadyH.cons (o := ⟨_, _, _, _, _, _⟩) rfl (fun K hK => ?_) AllReadyH.nil
      go_simp
      go_at_call 35
      refine (HRJL.out _ _ _ (HL5.out.up HYwh.out)).mono ?_
      rintro e wi ⟨rfl, hbi⟩
      try go_wp2_with fail
      have hszx := hHeld.size
      refine hK.out _ _ (hHeld.trans (hbi.mono hszx)) (fun hHeld => ?_)
      clear hK K hszx
      replace hHeld : Below wh.heap.size wh wi := hHeld
      have HXwi := Lib.hid (HXwh.out.trans (hHeld.mono HXwh.out.size))
      have HYwi := Lib.hid (HYwh.out.trans (hHeld.mono HYwh.out.size))
      try simp only [Act.put, List.setIfInBounds_toArray, List.set_cons_zero, List.set_cons_succ]
      refine anyH_mono (S' := fun W => Below wi.heap.size wi W) (fun W h => hHeld.trans (h.mono hHeld.size)) _ _ _ _ ?_
      clear hHeld
      have hHeld : Below wi.heap.size wi wi := Below.refl _ _
      refine wpAnyH_take (i := 24) (oi := ⟨_, _, _, _, _, _⟩) (v := ?_) rfl (by kernel_rfl) (by kernel_rfl) (by kernel_rfl) (fun _ _ _ h => h) (Or.inl ⟨by rfl, ?_⟩) hHeld ?_
      rotate_left 1
      · (intro W hSw; (try dsimp only at hSw); go_simp; try with_reducible rfl)
      try simp only [Act.put, List.setIfInBounds_toArray, List.set_cons_zero, List.set_cons_succ]
      refine wpAnyH_take (i := 25) (oi := ⟨_, _, _, _, _, _⟩) (v := ?_) rfl (by kernel_rfl) (by kernel_rfl) (by kernel_rfl) (fun _ _ _ h => h) (Or.inl ⟨by rfl, ?_⟩) hHeld ?_
      rotate_left 1
      · (intro W hSw; (try dsimp only at hSw); go_simp; try with_reducible rfl)
      try simp only [Act.put, List.setIfInBounds_toArray, List.set_cons_zero, List.set_cons_succ]
      refine wpAnyH_take (i := 26) (oi := ⟨_, _, _, _, _, _⟩) (v := ?_) rfl (by kernel_rfl) (by kernel_rfl) (by kernel_rfl) (fun _ _ _ h => h) (Or.inl ⟨by rfl, ?_⟩) hHeld ?_
      rotate_left 1
      · (intro W hSw; (try dsimp only at hSw); go_simp; try with_reducible rfl)
      try simp only [Act.put, List.setIfInBounds_toArray, List.set_cons_zero, List.set_cons_succ]
      refine wpAnyH_take (i := 27) (oi := ⟨_, _, _, _, _, _⟩) (v := ?_) rfl (by kernel_rfl) (by kernel_rfl) (by kernel_rfl) (fun _ _ _ h => h) (Or.inl ⟨by rfl, ?_⟩) hHeld ?_
      rotate_left 1
      · (intro W hSw; (try dsimp only at hSw); go_simp; try with_reducible rfl)
      try simp only [Act.put, List.setIfInBounds_toArray, List.set_cons_zero, List.set_cons_succ]
      refine wpAnyH_take (i := 28) (oi := ⟨_, _, _, _, _, _⟩) (v := ?_) rfl (by kernel_rfl) (by kernel_rfl) (by kernel_rfl) (fun _ _ _ h => h) (Or.inl ⟨by rfl, ?_⟩) hHeld ?_
      rotate_left 1
      · (intro W hSw; (try dsimp only at hSw); go_simp; try with_reducible rfl)
      try simp only [Act.put, List.setIfInBounds_toArray, List.set_cons_zero, List.set_cons_succ]
      refine wpAnyH_take (i := 29) (oi := ⟨_, _, _, _, _, _⟩) (v := ?_) rfl (by kernel_rfl) (by kernel_rfl) (by kernel_rfl) (fun _ _ _ h => h) (Or.inl ⟨by rfl, ?_⟩) hHeld ?_
      rotate_left 1
      · (intro W hSw; (try dsimp only at hSw); go_simp; try with_reducible rfl)
      try simp only [Act.put, List.setIfInBounds_toArray, List.set_cons_zero, List.set_cons_succ]
      refine wpAnyH_take (i := 30) (oi := ⟨_, _, _, _, _, _⟩) (v := ?_) rfl (by kernel_rfl) (by kernel_rfl) (by kernel_rfl) (fun _ _ _ h => h) (Or.inl ⟨by rfl, ?_⟩) hHeld ?_
      rotate_left 1
      · (intro W hSw; (try dsimp only at hSw); go_simp; try with_reducible rfl)
      try simp only [Act.put, List.setIfInBounds_toArray, List.set_cons_zero, List.set_cons_succ]
      refine wpAnyH_take (i := 31) (oi := ⟨_, _, _, _, _, _⟩) (v := ?_) rfl (by kernel_rfl) (by kernel_rfl) (by kernel_rfl) (fun _ _ _ h => h) (Or.inl ⟨by rfl, ?_⟩) hHeld ?_
      rotate_left 1
      · (intro W hSw; (try dsimp only at hSw); go_simp; try with_reducible rfl)
      try simp only [Act.put, List.setIfInBounds_toArray, List.set_cons_zero, List.set_cons_succ]
      refine wpAnyH_take (i := 32) (oi := ⟨_, _, _, _, _, _⟩) (v := ?_) rfl (by kernel_rfl) (by kernel_rfl) (by kernel_rfl) (fun _ _ _ h => h) (Or.inl ⟨by rfl, ?_⟩) hHeld ?_
      rotate_left 1
      · (intro W hSw; (try dsimp only at hSw); go_simp; try with_reducible rfl)
      try simp only [Act.put, List.setIfInBounds_toArray, List.set_cons_zero, List.set_cons_succ]
      refine wpAnyH_take (i := 33) (oi := ⟨_, _, _, _, _, _⟩) (v := ?_) rfl (by kernel_rfl) (by kernel_rfl) (by kernel_rfl) (fun _ _ _ h => h) (Or.inl ⟨by rfl, ?_⟩) hHeld ?_
      rotate_left 1
      · (intro W hSw; (try dsimp only at hSw); have hcv := conv_in HFV.out.1 (HFV.out.2.up (HYwi.out.trans (hSw.mono HYwi.out.size))); go_simp; try with_reducible rfl)
      try simp only [Act.put, List.setIfInBounds_toArray, List.set_cons_zero, List.set_cons_succ]
      refine wpAnyH_take (i := 34) (oi := ⟨_, _, _, _, _, _⟩) (v := ?_) rfl (by kernel_rfl) (by kernel_rfl) (by kernel_rfl) (fun _ _ _ h => h) (Or.inl ⟨by rfl, ?_⟩) hHeld ?_
      rotate_left 1
      · (intro W hSw; (try dsimp only at hSw); go_simp; try with_reducible rfl)
      try simp only [Act.put, List.setIfInBounds_toArray, List.set_cons_zero, List.set_cons_succ]
      refine wpAnyH_take (i := 35) (oi := ⟨_, _, _, _, _, _⟩) (v := ?_) rfl (by kernel_rfl) (by kernel_rfl) (by kernel_rfl) (fun _ _ _ h => h) (Or.inl ⟨by rfl, ?_⟩) hHeld ?_
      rotate_left 1
      · (intro W hSw; (try dsimp only at hSw); go_simp; try with_reducible rfl)
      try simp only [Act.put, List.setIfInBounds_toArray, List.set_cons_zero, List.set_cons_succ]
      refine wpAnyH_take (i := 36) (oi := ⟨_, _, _, _, _, _⟩) (v := ?_) rfl (by kernel_rfl) (by kernel_rfl) (by kernel_rfl) (fun _ _ _ h => h) (Or.inl ⟨by rfl, ?_⟩) hHeld ?_
      rotate_left 1
      · (intro W hSw; (try dsimp only at hSw); go_simp; try with_reducible rfl)
      try simp only [Act.put, List.setIfInBounds_toArray, List.set_cons_zero, List.set_cons_succ]
      refine wpAnyH_take (i := 37) (oi := ⟨_, _, _, _, _, _⟩) (v := ?_) rfl (by kernel_rfl) (by kernel_rfl) (by kernel_rfl) (fun _ _ _ h => h) (Or.inl ⟨by rfl, ?_⟩) hHeld ?_
      rotate_left 1
      · (intro W hSw; (try dsimp only at hSw); go_simp; try with_reducible rfl)
      try simp only [Act.put, List.setIfInBounds_toArray, List.set_cons_zero, List.set_cons_succ]
      refine wpAnyH_done (by kernel_rfl) ?_ _
      refine NoPanic.normal ?_
      go_wp2
      go_ret
      exact ⟨rfl, HXwi.out⟩
end Go.Proofs.YtbomckbekcaemaaDoor
