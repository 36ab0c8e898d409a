/-
  The walk of the statement PieceTakes.
-/
import Derived.Test.YtjachohgffnbiaaPtk
namespace Go.Proofs.Ytjachohgffnbiaa
open Go.RowKit

theorem u8_x119 (a : UInt8) : bits .xor .u8 (a.toNat : Int) (119 : Int) = ((a ^^^ 119).toNat : Int) := by
  have h : ∀ x : Fin 256, bits .xor .u8 ((UInt8.ofNat x.1).toNat : Int) (119 : Int) = ((UInt8.ofNat x.1 ^^^ 119).toNat : Int) := by decide +kernel
  have := h ⟨a.toNat, a.toNat_lt⟩
  simpa using this
theorem own_in {w : World} {base n c x : Nat} {A : Option Addr} {bs : List UInt8} (h : Buf w base A n c bs) (e : some x = ownOf A) : base ≤ x ∧ x < w.heap.size := by
  rcases h.2 with ⟨rfl, _⟩ | ⟨q, rfl, h1, h2, _⟩
  · cases e
  · simp only [ownOf, Option.some.injEq] at e; subst e; exact ⟨h1, h2⟩
theorem ours_step {w : World} {g k : Nat} {A A' : Option Addr} (h : ¬ Ours g A k) (hk : k < w.heap.size) (hf : A' = none ∨ Fresh w A A') : ¬ Ours g A' k := fun h2 => by
  rcases h2 with h2 | h2
  · exact h (.inl h2)
  · rcases hf with rfl | rfl | ⟨y, rfl, hy⟩
    · cases h2
    · exact h (.inr h2)
    · simp only [ownOf, Option.some.injEq] at h2; omega
theorem rtold_true {E : List UInt8 × Bool × Nat × List UInt8 × Nat} (h : E.2.1 = true) : rtold E = E.1 := by
  unfold rtold; rw [if_neg (by rw [h]; simp)]
theorem take_none {F b : List UInt8} {C : Nat} (h : (takeE F C b).2.1 = false) : (takeE F C b).1 = [] := by
  rcases take_shape F C b with ⟨h1, _⟩ | ⟨_, _, _, h1, _⟩ | ⟨_, _, h1, _⟩
  · rw [h1] at h; cases h
  · exact h1
  · exact h1
theorem none_e (w : World) : Calls Try.prog 16 #[] w fun e w' => e = .returned (.pointer none) ∧ w' = w := by
  go_enter Try.func16, Try.ntmps16
  go_wp2
  go_ret
  exact ⟨rfl, rfl⟩
set_option maxRecDepth 100000 in
set_option maxHeartbeats 2000000 in
theorem pieceTakes_walk (A : Option Addr) (c : Nat) (ps : List (List UInt8)) (w : World) (hA : PIn w w.heap.size A c ps) :
    Calls Try.prog 4 #[.slice A ps.length c] w fun e w' => e = .returned (.bool true) ∧ Below w.heap.size w w' := by
  obtain ⟨m, hm⟩ : ∃ m, m = ps.length := ⟨_, rfl⟩
  have hmc : m ≤ c := by rw [hm]; exact hA.1
  rw [← hm]
  have HM := Lib.hid hm
  have HA := Lib.hid hA
  have HT0 := Lib.hid (fun (W : World) => take_nil (.slice none 0 0) W)
  clear hm hA
  go_enter Try.func4, Try.ntmps4
  go_upto_region 2 with (first
    | (go_at_call 16; refine (none_e _).mono ?_; rintro e w1 ⟨rfl, hw1⟩; have hw1 := hw1.symm; subst hw1)
    | (go_at_call 14; refine (HT0.out _).mono ?_; rintro e w1 ⟨rfl, hw1⟩; have hw1 := hw1.symm; subst hw1))
  go_upto_region 4 with (first
    | (go_at_call 12; refine (pieces_e _).mono ?_; rintro e w2 ⟨rfl, hb2⟩)
    | (go_at_call 16; refine (none_e _).mono ?_; rintro e w3 ⟨rfl, hw3⟩; have hw3 := hw3.symm; subst hw3)
    | (go_at_call 15; refine (waits_nil _).mono ?_; rintro e w3 ⟨rfl, hw3⟩; have hw3 := hw3.symm; subst hw3))
  go_upto_region 5 with (go_at_call 13; refine (new_e _).mono ?_; rintro e w3 ⟨rfl, hJ, hb3, hz3⟩; clear hz3)
  have hR0 : RJoin (w3.alloc (.cells #[.bool false, .int .i64 0, .string ⟨#[]⟩] 41)) w3.heap.size [] 0 := Blk.new_of w3 _ _ _ rfl
  have hal : Below w3.heap.size w3 (w3.alloc (.cells #[.bool false, .int .i64 0, .string ⟨#[]⟩] 41)) := (Below.refl _ _).alloc (Nat.le_refl _) _
  have hgJ := Lib.hid hJ.1.lt
  have hgW := Lib.hid hb2.size
  have HJ0 := Lib.hid (hJ.below hal)
  have HR0 := Lib.hid hR0
  have HBW := Lib.hid ((hb2.trans (hb3.mono hb2.size)).trans (hal.mono (Nat.le_trans hb2.size hb3.size)))
  clear hJ hR0 hal hb2 hb3
  generalize w3.alloc (.cells #[.bool false, .int .i64 0, .string ⟨#[]⟩] 41) = w4 at *
  generalize w2.heap.size = gJ at *
  generalize w3.heap.size = gM at *
  go_wp2
  go_loopw [8] (fun i wr => ∃ (k : Nat) (F : List UInt8) (C : Nat) (Aj : Option Addr) (cj : Nat), k ≤ m ∧ i = .int .i64 (k : Int) ∧ JoinAt wr gJ gJ Aj cj F C ∧ RJoin wr gM F C ∧ Fine F C ∧ ¬ Ours gJ Aj gM ∧ Below w.heap.size w wr) (fun i _ => m - (intOf i).toNat)
  case atStart => exact ⟨0, [], 0, none, 0, Nat.zero_le _, rfl, HJ0.out, HR0.out, fine_nil, (fun h => h.elim (fun h => by have := hgJ.out; omega) (fun h => by cases h)), HBW.out⟩
  case round =>
    obtain ⟨k, F, C, Aj, cj, hk, rfl, hJ, hR, hF, hNO, hbr⟩ := hrel
    by_cases hlt : k < m
    · have hd : decide (k < m) = true := by simpa using hlt
      by_cases h20 : k < 20
      · have hd2 : (k : Int) < 20 := by omega
        have hkp : k < ps.length := by rw [← HM.out]; exact hlt
        obtain ⟨gp, op, hAe, hgp, hrow⟩ := HA.out.2.2 (by omega)
        obtain ⟨Ak, ck, hck, hik⟩ := hrow k hkp
        subst hAe
        generalize ps.getD k [] = p at *
        obtain ⟨pl, hpl⟩ : ∃ pl, pl = p.length := ⟨_, rfl⟩
        rw [← hpl] at hck
        obtain ⟨q, hq⟩ : ∃ q, q = min pl 200 := ⟨_, rfl⟩
        have hmq : min (pl : Int) 200 = (q : Int) := by omega
        have hck2 : wr.cell? ⟨gp, op + k, none⟩ = some (.slice Ak pl ck) := (hbr.cell (p := ⟨gp, op + k, none⟩) hgp).trans hck
        have hik2 := in_weak ((hik.take 200).below hbr) hbr.size
        have HQL := Lib.hid (show (p.take 200).length = q by rw [List.length_take, ← hpl, hq]; omega)
        generalize p.take 200 = inb at *
        have HQ2 := Lib.hid (show q ≤ 200 by omega)
        have hz := hbr.size
        have HCL := Lib.hid (fun (W : World) (h : Below wr.heap.size wr W) => (show W.cell? ⟨gp, op + k, none⟩ = some (.slice Ak pl ck) from (h.cell (p := ⟨gp, op + k, none⟩) (by show gp < _; omega)).trans hck2))
        have HIN := Lib.hid (fun (W : World) (h : Below wr.heap.size wr W) => in_up hik2 h)
        have hq0 : (0 : Int) ≤ (q : Int) := by omega
        have hqc : (q : Int) ≤ (ck : Int) := by have := hik2.1; have := HQL.out; omega
        have hk0 : (0 : Int) ≤ (k : Int) := by omega
        have hkm : (k : Int) < (m : Int) := by omega
        have hmc1 : (m : Int) ≤ (c : Int) := by omega
        have HJ := Lib.hid hJ
        have HR := Lib.hid hR
        have HF := Lib.hid hF
        have HNO := Lib.hid hNO
        have HBR := Lib.hid hbr
        have HLT := Lib.hid (And.intro hlt h20)
        clear hck hik hck2 hik2 hJ hR hF hNO hbr hrow hgp hkp hpl hq hz hlt hk h20
        go_wp2
        refine wp_region_noPanic ?_
        refine wp_region_held_drew (S := fun W => Below wr.heap.size wr W) (by kernel_rfl) (by exact below_drewN (Below.refl _ _) 1) (fun hHeld => ?_)
        replace hHeld : Below wr.heap.size wr wr.drew := hHeld
        generalize wr.drew = wd at *
        refine wpAnyH_take (i := 1) (oi := ⟨_, _, _, _, _, _⟩) (v := ?_) rfl (by kernel_rfl) (by kernel_rfl) (by kernel_rfl) (fun _ _ _ h => h) (Or.inl ⟨by rfl, ?_⟩) hHeld ?_
        rotate_left 1
        · (intro W hSw; (try dsimp only at hSw); go_simp; try with_reducible rfl)
        try simp only [Act.put, List.setIfInBounds_toArray, List.set_cons_zero, List.set_cons_succ]
        refine wpAnyH_take (i := 2) (oi := ⟨_, _, _, _, _, _⟩) (v := ?_) rfl (by kernel_rfl) (by kernel_rfl) (by kernel_rfl) (fun _ _ _ h => h) (Or.inl ⟨by rfl, ?_⟩) hHeld ?_
        rotate_left 1
        · (intro W hSw; (try dsimp only at hSw); go_simp; try with_reducible rfl)
        try simp only [Act.put, List.setIfInBounds_toArray, List.set_cons_zero, List.set_cons_succ]
        refine wpAnyH_take (i := 3) (oi := ⟨_, _, _, _, _, _⟩) (v := ?_) rfl (by kernel_rfl) (by kernel_rfl) (by kernel_rfl) (fun _ _ _ h => h) (Or.inl ⟨by rfl, ?_⟩) hHeld ?_
        rotate_left 1
        · (intro W hSw; (try dsimp only at hSw); go_simp; try with_reducible rfl)
        try simp only [Act.put, List.setIfInBounds_toArray, List.set_cons_zero, List.set_cons_succ]
        refine wpAnyH_take (i := 4) (oi := ⟨_, _, _, _, _, _⟩) (v := ?_) rfl (by kernel_rfl) (by kernel_rfl) (by kernel_rfl) (fun _ _ _ h => h) (Or.inl ⟨by rfl, ?_⟩) hHeld ?_
        rotate_left 1
        · (intro W hSw; (try dsimp only at hSw); have hcc := HCL.out W hSw; go_simp; try with_reducible rfl)
        try simp only [Act.put, List.setIfInBounds_toArray, List.set_cons_zero, List.set_cons_succ]
        refine wpAnyH_take (i := 5) (oi := ⟨_, _, _, _, _, _⟩) (v := ?_) rfl (by kernel_rfl) (by kernel_rfl) (by kernel_rfl) (fun _ _ _ h => h) (Or.inl ⟨by rfl, ?_⟩) hHeld ?_
        rotate_left 1
        · (intro W hSw; (try dsimp only at hSw); go_simp; try with_reducible rfl)
        try simp only [Act.put, List.setIfInBounds_toArray, List.set_cons_zero, List.set_cons_succ]
        refine wpAnyH_take (i := 6) (oi := ⟨_, _, _, _, _, _⟩) (v := ?_) rfl (by kernel_rfl) (by kernel_rfl) (by kernel_rfl) (fun _ _ _ h => h) (Or.inl ⟨by rfl, ?_⟩) hHeld ?_
        rotate_left 1
        · (intro W hSw; (try dsimp only at hSw); go_simp; try with_reducible rfl)
        try simp only [Act.put, List.setIfInBounds_toArray, List.set_cons_zero, List.set_cons_succ]
        refine wpAnyH_take (i := 7) (oi := ⟨_, _, _, _, _, _⟩) (v := ?_) rfl (by kernel_rfl) (by kernel_rfl) (by kernel_rfl) (fun _ _ _ h => h) (Or.inl ⟨by rfl, ?_⟩) hHeld ?_
        rotate_left 1
        · (intro W hSw; (try dsimp only at hSw); go_simp; try with_reducible rfl)
        try simp only [Act.put, List.setIfInBounds_toArray, List.set_cons_zero, List.set_cons_succ]
        refine wpAnyH_take (i := 8) (oi := ⟨_, _, _, _, _, _⟩) (v := ?_) rfl (by kernel_rfl) (by kernel_rfl) (by kernel_rfl) (fun _ _ _ h => h) (Or.inl ⟨by rfl, ?_⟩) hHeld ?_
        rotate_left 1
        · (intro W hSw; (try dsimp only at hSw); have hcc := HCL.out W hSw; go_simp; try with_reducible rfl)
        try simp only [Act.put, List.setIfInBounds_toArray, List.set_cons_zero, List.set_cons_succ]
        refine wpAnyH_take (i := 9) (oi := ⟨_, _, _, _, _, _⟩) (v := ?_) rfl (by kernel_rfl) (by kernel_rfl) (by kernel_rfl) (fun _ _ _ h => h) (Or.inl ⟨by rfl, ?_⟩) hHeld ?_
        rotate_left 1
        · (intro W hSw; (try dsimp only at hSw); go_simp; try with_reducible rfl)
        try simp only [Act.put, List.setIfInBounds_toArray, List.set_cons_zero, List.set_cons_succ]
        refine wpAnyH_take (i := 10) (oi := ⟨_, _, _, _, _, _⟩) (v := ?_) rfl (by kernel_rfl) (by kernel_rfl) (by kernel_rfl) (fun _ _ _ h => h) (Or.inl ⟨by rfl, ?_⟩) hHeld ?_
        rotate_left 1
        · (intro W hSw; (try dsimp only at hSw); go_simp; try with_reducible rfl)
        try simp only [Act.put, List.setIfInBounds_toArray, List.set_cons_zero, List.set_cons_succ]
        refine wpAnyH_take (i := 11) (oi := ⟨_, _, _, _, _, _⟩) (v := ?_) rfl (by kernel_rfl) (by kernel_rfl) (by kernel_rfl) (fun _ _ _ h => h) (Or.inl ⟨by rfl, ?_⟩) hHeld ?_
        rotate_left 1
        · (intro W hSw; (try dsimp only at hSw); go_simp; try with_reducible rfl)
        try simp only [Act.put, List.setIfInBounds_toArray, List.set_cons_zero, List.set_cons_succ]
        refine wpAnyH_ready (rs := [0]) (by kernel_rfl) (by simp) ?_
        refine AllReadyH.cons (o := ⟨_, _, _, _, _, _⟩) rfl (fun K hK => ?_) AllReadyH.nil
        go_simp
        have hz0 := hHeld.size
        have hbz := buf_empty wd
        have hbs : wd.heap.size ≤ (wd.alloc (.cells #[] 5)).heap.size := by simp
        refine hK.out _ _ (hHeld.alloc hz0 _) (fun hHeld => ?_)
        clear hK K
        replace hHeld : Below wr.heap.size wr (wd.alloc (.cells #[] 5)) := hHeld
        have HB0 := Lib.hid (And.intro hbz (And.intro hbs hz0))
        clear hz0 hbz hbs
        generalize wd.alloc (.cells #[] 5) = w1 at *
        generalize wd.heap.size = g0 at *
        try simp only [Act.put, List.setIfInBounds_toArray, List.set_cons_zero, List.set_cons_succ]
        refine wpAnyH_ready (rs := [12]) (by kernel_rfl) (by simp) ?_
        refine AllReadyH.cons (o := ⟨_, _, _, _, _, _⟩) rfl (fun K hK => ?_) AllReadyH.nil
        refine step_append_far (by rfl) (.tmp 51) (.tmp 62) 23 rfl g0 _ 0 _ [] inb _ rfl HB0.out.1 rfl (src_at ((HIN.out _ hHeld).src (Nat.le_refl _)) HQL.out) (by rw [HQL.out]; have := HQ2.out; omega) HB0.out.2.1 q (by rw [HQL.out]; omega) ?_
        intro A1 c1 w2 hB1 hg1 _
        rw [List.nil_append] at hB1
        have hb2 : Below wr.heap.size wr w2 := below_own hHeld HB0.out.1 hg1 HB0.out.2.2 hHeld.size
        refine hK.out _ _ hb2 (fun hHeld => ?_)
        clear hK K hb2 hg1
        replace hHeld : Below wr.heap.size wr w2 := hHeld
        try simp only [Act.put, List.setIfInBounds_toArray, List.set_cons_zero, List.set_cons_succ]
        refine wpAnyH_take (i := 13) (oi := ⟨_, _, _, _, _, _⟩) (v := ?_) rfl (by kernel_rfl) (by kernel_rfl) (by kernel_rfl) (fun _ _ _ h => h) (Or.inl ⟨by rfl, ?_⟩) hHeld ?_
        rotate_left 1
        · (intro W hSw; (try dsimp only at hSw); go_simp; try with_reducible rfl)
        try simp only [Act.put, List.setIfInBounds_toArray, List.set_cons_zero, List.set_cons_succ]
        refine wpAnyH_done (by kernel_rfl) ?_ _
        refine NoPanic.normal ?_
        have hOwn1 : ∀ x, some x = ownOf A1 → g0 ≤ x ∧ x < w2.heap.size := fun x e => own_in hB1 e
        have HG0 := Lib.hid (show w.heap.size ≤ g0 from Nat.le_trans HBR.out.size HB0.out.2.2)
        have hJ2 := HJ.out.below hHeld
        have hJlt : ∀ x, Ours gJ Aj x → x < wr.heap.size := fun x h => (HJ.out.ours h).2
        have hRlt := HR.out.lt
        have hn1 : ∀ x, some x = ownOf A1 → ¬ Ours gJ Aj x := fun x e h => by
          have := hJlt x h; have := (hOwn1 x e).1; have := HB0.out.2.2; omega
        have hcx := conv_in HQL.out (hB1.toIn (Nat.le_refl _))
        have HTE := Lib.hid (take_e gJ gJ Aj A1 cj c1 q C F inb w2 hJ2 HQL.out (hB1.toIn (Nat.le_refl _)) (by have := HF.out.1; omega) (by have := HQ2.out; omega) (Nat.le_of_lt hJ2.1.lt))
        have HTO := Lib.hid (fun (h : (takeE F C inb).2.1 = true) => rtold_true h)
        have HNI := Lib.hid (fun (h : (takeE F C inb).2.1 = false) => take_none h)
        have HFN := Lib.hid (fine_take F C inb)
        have HRT := Lib.hid (fun (W : World) (h : RJoin W gM F C) => rTake_e gM F inb C q W h HQL.out (by have := HQ2.out; omega) HF.out)
        obtain ⟨E, hE⟩ : ∃ E, E = takeE F C inb := ⟨_, rfl⟩
        rw [← hE] at HTE HTO HNI HFN HRT
        obtain ⟨rt, hrt⟩ : ∃ rt, rt = rtold E := ⟨_, rfl⟩
        rw [← hrt] at HTO HRT
        clear hE hrt
        obtain ⟨E1, d, er, F2, C2⟩ := E
        simp only at HTE HTO HNI HFN HRT
        have HH1 := Lib.hid (And.intro hB1 (And.intro hHeld (And.intro hOwn1 (And.intro hRlt hn1))))
        clear hB1 hHeld hOwn1 hRlt hn1 hJ2 hJlt hmq hq0 hqc hk0 hkm hmc1 hd hd2
        go_upto_region 11 with (go_at_call 14; refine HTE.out.mono ?_; rintro e w3 ⟨A8, n8, c8, A', c', rfl, hX, hF8, hN8, hJ3, hF3, hC3⟩)
        obtain ⟨hB1, hHeld, hOwn1, hRlt, hn1⟩ := HH1.out
        have hz2 := hHeld.size
        have hR3 : RJoin w3 gM F C := (HR.out.below hHeld hRlt).chg hC3 HNO.out
        have hB3 := hB1.chg hC3 (fun x e => hn1 x (by rw [e]; rfl))
        have HBR3 := Lib.hid ((HBR.out.trans (hHeld.mono HBR.out.size)).trans (hC3.below (Nat.le_trans HBR.out.size hz2) (fun x h => Nat.le_trans hgW.out (HJ.out.ours h).1)))
        have hNO8 : ¬ Ours gJ A8 gM := ours_step HNO.out (Nat.lt_of_lt_of_le hRlt hz2) hF8
        have HNO2 := Lib.hid (show ¬ Ours gJ A' gM from ours_step HNO.out (Nat.lt_of_lt_of_le hRlt hz2) hF3)
        have HNE := Lib.hid (show (∀ x, some x = ownOf A1 → ¬ Ours gJ A' x) ∧ some gM ≠ ownOf A1 ∧ (∀ x, some x = ownOf A1 → ¬ A8 = some ⟨x, 0, none⟩) from
          ⟨fun x e => ours_step (hn1 x e) (hOwn1 x e).2 hF3, fun e => by have := (hOwn1 _ e).1; have := HB0.out.2.2; omega, fun x e h => ours_step (hn1 x e) (hOwn1 x e).2 hF8 (.inr (by rw [h]; rfl))⟩)
        have HRT3 := Lib.hid (HRT.out w3 hR3)
        have HB3 := Lib.hid (And.intro hB3 (fun (x : Nat) (e : A1 = some ⟨x, 0, none⟩) => show ¬ x = gM from fun h => by have := (hOwn1 x (by rw [e]; rfl)).1; have := HB0.out.2.2; omega))
        have HX3 := Lib.hid (And.intro hX (fun (x : Nat) (e : A8 = some ⟨x, 0, none⟩) => show ¬ x = gM from fun h => hNO8 (.inr (by rw [e]; subst h; rfl))))
        have HJ3 := Lib.hid hJ3
        have HXL := Lib.hid hX.1
        clear hX hF8 hN8 hJ3 hF3 hC3 hB1 hHeld hOwn1 hRlt hn1 hz2 hR3 hB3 hNO8 hcx HTE HRT HJ HR HH1 HNO HBR HCL HIN
        go_upto_region 12 with (go_at_call 17; refine HRT3.out.mono ?_; rintro e w4 ⟨rfl, hR4, hC4⟩)
        have HX := Lib.hid (HX3.out.1.chg hC4 HX3.out.2)
        have HBI := Lib.hid (HB3.out.1.chg hC4 HB3.out.2)
        have HJN := Lib.hid (HJ3.out.chg hC4 (fun x h1 h2 => HNO2.out (by rw [← h2]; exact h1)))
        have HRN := Lib.hid hR4
        have HCS := Lib.hid (fun (W : World) (h : Below w4.heap.size w4 W) => (show W.cell? ⟨gM, 2, none⟩ = some (.string ⟨F2.toArray⟩) from (HRN.out.below h HRN.out.lt).cell 2))
        have HWT := Lib.hid (fun (W : World) (h : Below w4.heap.size w4 W) => waits_e gJ gJ c' C2 A' F2 W (HJN.out.below h))
        have HBR4 := Lib.hid (HBR3.out.trans (hC4.below HBR3.out.size (fun x h => by have := hgW.out; have := hgJ.out; omega)))
        have hw9 : ¬ 32768 < (F2.length : Int) := by have := HFN.out.1; omega
        clear hR4 hC4 HX3 HB3 HJ3 HRT3 HBR3
        cases d
        · skip
          have hn8 : n8 = 0 := by rw [← HXL.out, HNI.out rfl]; rfl
          subst hn8
          refine wp_region_noPanic ?_
          refine wp_region_held_drew (S := fun W => Below w4.heap.size w4 W) (by kernel_rfl) (by exact below_drewN (Below.refl _ _) 1) (fun hHeld => ?_)
          refine wpAnyH_take (i := 0) (oi := ⟨_, _, _, _, _, _⟩) (v := ?_) rfl (by kernel_rfl) (by kernel_rfl) (by kernel_rfl) (fun _ _ _ h => h) (Or.inl ⟨by rfl, ?_⟩) hHeld ?_
          rotate_left 1
          · (intro W hSw; (try dsimp only at hSw); go_simp; try with_reducible rfl)
          try simp only [Act.put, List.setIfInBounds_toArray, List.set_cons_zero, List.set_cons_succ]
          refine wpAnyH_take (i := 1) (oi := ⟨_, _, _, _, _, _⟩) (v := ?_) rfl (by kernel_rfl) (by kernel_rfl) (by kernel_rfl) (fun _ _ _ h => h) (Or.inl ⟨by rfl, ?_⟩) hHeld ?_
          rotate_left 1
          · (intro W hSw; (try dsimp only at hSw); go_simp; try with_reducible rfl)
          try simp only [Act.put, List.setIfInBounds_toArray, List.set_cons_zero, List.set_cons_succ]
          refine wpAnyH_take (i := 2) (oi := ⟨_, _, _, _, _, _⟩) (v := ?_) rfl (by kernel_rfl) (by kernel_rfl) (by kernel_rfl) (fun _ _ _ h => h) (Or.inl ⟨by rfl, ?_⟩) hHeld ?_
          rotate_left 1
          · (intro W hSw; (try dsimp only at hSw); go_simp; try with_reducible rfl)
          try simp only [Act.put, List.setIfInBounds_toArray, List.set_cons_zero, List.set_cons_succ]
          refine wpAnyH_take (i := 3) (oi := ⟨_, _, _, _, _, _⟩) (v := ?_) rfl (by kernel_rfl) (by kernel_rfl) (by kernel_rfl) (fun _ _ _ h => h) (Or.inl ⟨by rfl, ?_⟩) hHeld ?_
          rotate_left 1
          · (intro W hSw; (try dsimp only at hSw); go_simp; try with_reducible rfl)
          try simp only [Act.put, List.setIfInBounds_toArray, List.set_cons_zero, List.set_cons_succ]
          refine wpAnyH_take (i := 4) (oi := ⟨_, _, _, _, _, _⟩) (v := ?_) rfl (by kernel_rfl) (by kernel_rfl) (by kernel_rfl) (fun _ _ _ h => h) (Or.inl ⟨by rfl, ?_⟩) hHeld ?_
          rotate_left 1
          · (intro W hSw; (try dsimp only at hSw); go_simp; try with_reducible rfl)
          try simp only [Act.put, List.setIfInBounds_toArray, List.set_cons_zero, List.set_cons_succ]
          refine wpAnyH_take (i := 5) (oi := ⟨_, _, _, _, _, _⟩) (v := ?_) rfl (by kernel_rfl) (by kernel_rfl) (by kernel_rfl) (fun _ _ _ h => h) (Or.inl ⟨by rfl, ?_⟩) hHeld ?_
          rotate_left 1
          · (intro W hSw; (try dsimp only at hSw); go_simp; try with_reducible rfl)
          try simp only [Act.put, List.setIfInBounds_toArray, List.set_cons_zero, List.set_cons_succ]
          refine wpAnyH_take (i := 6) (oi := ⟨_, _, _, _, _, _⟩) (v := ?_) rfl (by kernel_rfl) (by kernel_rfl) (by kernel_rfl) (fun _ _ _ h => h) (Or.inl ⟨by rfl, ?_⟩) hHeld ?_
          rotate_left 1
          · (intro W hSw; (try dsimp only at hSw); go_simp; try with_reducible rfl)
          try simp only [Act.put, List.setIfInBounds_toArray, List.set_cons_zero, List.set_cons_succ]
          refine wpAnyH_take (i := 7) (oi := ⟨_, _, _, _, _, _⟩) (v := ?_) rfl (by kernel_rfl) (by kernel_rfl) (by kernel_rfl) (fun _ _ _ h => h) (Or.inl ⟨by rfl, ?_⟩) hHeld ?_
          rotate_left 1
          · (intro W hSw; (try dsimp only at hSw); go_simp; try with_reducible rfl)
          try simp only [Act.put, List.setIfInBounds_toArray, List.set_cons_zero, List.set_cons_succ]
          refine wpAnyH_take (i := 8) (oi := ⟨_, _, _, _, _, _⟩) (v := ?_) rfl (by kernel_rfl) (by kernel_rfl) (by kernel_rfl) (fun _ _ _ h => h) (Or.inl ⟨by rfl, ?_⟩) hHeld ?_
          rotate_left 1
          · (intro W hSw; (try dsimp only at hSw); go_simp; try with_reducible rfl)
          try simp only [Act.put, List.setIfInBounds_toArray, List.set_cons_zero, List.set_cons_succ]
          refine wpAnyH_take (i := 9) (oi := ⟨_, _, _, _, _, _⟩) (v := ?_) rfl (by kernel_rfl) (by kernel_rfl) (by kernel_rfl) (fun _ _ _ h => h) (Or.inl ⟨by rfl, ?_⟩) hHeld ?_
          rotate_left 1
          · (intro W hSw; (try dsimp only at hSw); go_simp; try with_reducible rfl)
          try simp only [Act.put, List.setIfInBounds_toArray, List.set_cons_zero, List.set_cons_succ]
          refine wpAnyH_take (i := 10) (oi := ⟨_, _, _, _, _, _⟩) (v := ?_) rfl (by kernel_rfl) (by kernel_rfl) (by kernel_rfl) (fun _ _ _ h => h) (Or.inl ⟨by rfl, ?_⟩) hHeld ?_
          rotate_left 1
          · (intro W hSw; (try dsimp only at hSw); go_simp; try with_reducible rfl)
          try simp only [Act.put, List.setIfInBounds_toArray, List.set_cons_zero, List.set_cons_succ]
          refine wpAnyH_take (i := 11) (oi := ⟨_, _, _, _, _, _⟩) (v := undef) rfl (by kernel_rfl) (by kernel_rfl) (by kernel_rfl) (fun _ _ _ h => h) (Or.inr ⟨by rfl, rfl⟩) hHeld ?_
          try simp only [Act.put, List.setIfInBounds_toArray, List.set_cons_zero, List.set_cons_succ]
          refine wpAnyH_take (i := 12) (oi := ⟨_, _, _, _, _, _⟩) (v := undef) rfl (by kernel_rfl) (by kernel_rfl) (by kernel_rfl) (fun _ _ _ h => h) (Or.inr ⟨by rfl, rfl⟩) hHeld ?_
          try simp only [Act.put, List.setIfInBounds_toArray, List.set_cons_zero, List.set_cons_succ]
          refine wpAnyH_take (i := 13) (oi := ⟨_, _, _, _, _, _⟩) (v := undef) rfl (by kernel_rfl) (by kernel_rfl) (by kernel_rfl) (fun _ _ _ h => h) (Or.inr ⟨by rfl, rfl⟩) hHeld ?_
          try simp only [Act.put, List.setIfInBounds_toArray, List.set_cons_zero, List.set_cons_succ]
          refine wpAnyH_take (i := 14) (oi := ⟨_, _, _, _, _, _⟩) (v := undef) rfl (by kernel_rfl) (by kernel_rfl) (by kernel_rfl) (fun _ _ _ h => h) (Or.inr ⟨by rfl, rfl⟩) hHeld ?_
          try simp only [Act.put, List.setIfInBounds_toArray, List.set_cons_zero, List.set_cons_succ]
          refine wpAnyH_take (i := 15) (oi := ⟨_, _, _, _, _, _⟩) (v := ?_) rfl (by kernel_rfl) (by kernel_rfl) (by kernel_rfl) (fun _ _ _ h => h) (Or.inl ⟨by rfl, ?_⟩) hHeld ?_
          rotate_left 1
          · (intro W hSw; (try dsimp only at hSw); go_simp; try with_reducible rfl)
          try simp only [Act.put, List.setIfInBounds_toArray, List.set_cons_zero, List.set_cons_succ]
          refine wpAnyH_take (i := 16) (oi := ⟨_, _, _, _, _, _⟩) (v := ?_) rfl (by kernel_rfl) (by kernel_rfl) (by kernel_rfl) (fun _ _ _ h => h) (Or.inl ⟨by rfl, ?_⟩) hHeld ?_
          rotate_left 1
          · (intro W hSw; (try dsimp only at hSw); go_simp; try with_reducible rfl)
          try simp only [Act.put, List.setIfInBounds_toArray, List.set_cons_zero, List.set_cons_succ]
          refine wpAnyH_take (i := 17) (oi := ⟨_, _, _, _, _, _⟩) (v := ?_) rfl (by kernel_rfl) (by kernel_rfl) (by kernel_rfl) (fun _ _ _ h => h) (Or.inl ⟨by rfl, ?_⟩) hHeld ?_
          rotate_left 1
          · (intro W hSw; (try dsimp only at hSw); go_simp; try with_reducible rfl)
          try simp only [Act.put, List.setIfInBounds_toArray, List.set_cons_zero, List.set_cons_succ]
          refine wpAnyH_take (i := 18) (oi := ⟨_, _, _, _, _, _⟩) (v := ?_) rfl (by kernel_rfl) (by kernel_rfl) (by kernel_rfl) (fun _ _ _ h => h) (Or.inl ⟨by rfl, ?_⟩) hHeld ?_
          rotate_left 1
          · (intro W hSw; (try dsimp only at hSw); go_simp; try with_reducible rfl)
          try simp only [Act.put, List.setIfInBounds_toArray, List.set_cons_zero, List.set_cons_succ]
          refine wpAnyH_take (i := 19) (oi := ⟨_, _, _, _, _, _⟩) (v := ?_) rfl (by kernel_rfl) (by kernel_rfl) (by kernel_rfl) (fun _ _ _ h => h) (Or.inl ⟨by rfl, ?_⟩) hHeld ?_
          rotate_left 1
          · (intro W hSw; (try dsimp only at hSw); go_simp; try with_reducible rfl)
          try simp only [Act.put, List.setIfInBounds_toArray, List.set_cons_zero, List.set_cons_succ]
          refine wpAnyH_take (i := 20) (oi := ⟨_, _, _, _, _, _⟩) (v := ?_) rfl (by kernel_rfl) (by kernel_rfl) (by kernel_rfl) (fun _ _ _ h => h) (Or.inl ⟨by rfl, ?_⟩) hHeld ?_
          rotate_left 1
          · (intro W hSw; (try dsimp only at hSw); go_simp; try with_reducible rfl)
          try simp only [Act.put, List.setIfInBounds_toArray, List.set_cons_zero, List.set_cons_succ]
          refine wpAnyH_take (i := 21) (oi := ⟨_, _, _, _, _, _⟩) (v := ?_) rfl (by kernel_rfl) (by kernel_rfl) (by kernel_rfl) (fun _ _ _ h => h) (Or.inl ⟨by rfl, ?_⟩) hHeld ?_
          rotate_left 1
          · (intro W hSw; (try dsimp only at hSw); go_simp; try with_reducible rfl)
          try simp only [Act.put, List.setIfInBounds_toArray, List.set_cons_zero, List.set_cons_succ]
          refine wpAnyH_take (i := 22) (oi := ⟨_, _, _, _, _, _⟩) (v := ?_) rfl (by kernel_rfl) (by kernel_rfl) (by kernel_rfl) (fun _ _ _ h => h) (Or.inl ⟨by rfl, ?_⟩) hHeld ?_
          rotate_left 1
          · (intro W hSw; (try dsimp only at hSw); go_simp; try with_reducible rfl)
          try simp only [Act.put, List.setIfInBounds_toArray, List.set_cons_zero, List.set_cons_succ]
          refine wpAnyH_take (i := 23) (oi := ⟨_, _, _, _, _, _⟩) (v := ?_) rfl (by kernel_rfl) (by kernel_rfl) (by kernel_rfl) (fun _ _ _ h => h) (Or.inl ⟨by rfl, ?_⟩) hHeld ?_
          rotate_left 1
          · (intro W hSw; (try dsimp only at hSw); go_simp; try with_reducible rfl)
          try simp only [Act.put, List.setIfInBounds_toArray, List.set_cons_zero, List.set_cons_succ]
          refine wpAnyH_take (i := 24) (oi := ⟨_, _, _, _, _, _⟩) (v := ?_) rfl (by kernel_rfl) (by kernel_rfl) (by kernel_rfl) (fun _ _ _ h => h) (Or.inl ⟨by rfl, ?_⟩) hHeld ?_
          rotate_left 1
          · (intro W hSw; (try dsimp only at hSw); go_simp; try with_reducible rfl)
          try simp only [Act.put, List.setIfInBounds_toArray, List.set_cons_zero, List.set_cons_succ]
          refine wpAnyH_take (i := 25) (oi := ⟨_, _, _, _, _, _⟩) (v := ?_) rfl (by kernel_rfl) (by kernel_rfl) (by kernel_rfl) (fun _ _ _ h => h) (Or.inl ⟨by rfl, ?_⟩) hHeld ?_
          rotate_left 1
          · (intro W hSw; (try dsimp only at hSw); go_simp; try with_reducible rfl)
          try simp only [Act.put, List.setIfInBounds_toArray, List.set_cons_zero, List.set_cons_succ]
          refine wpAnyH_take (i := 26) (oi := ⟨_, _, _, _, _, _⟩) (v := ?_) rfl (by kernel_rfl) (by kernel_rfl) (by kernel_rfl) (fun _ _ _ h => h) (Or.inl ⟨by rfl, ?_⟩) hHeld ?_
          rotate_left 1
          · (intro W hSw; (try dsimp only at hSw); go_simp; try with_reducible rfl)
          try simp only [Act.put, List.setIfInBounds_toArray, List.set_cons_zero, List.set_cons_succ]
          refine wpAnyH_take (i := 27) (oi := ⟨_, _, _, _, _, _⟩) (v := ?_) rfl (by kernel_rfl) (by kernel_rfl) (by kernel_rfl) (fun _ _ _ h => h) (Or.inl ⟨by rfl, ?_⟩) hHeld ?_
          rotate_left 1
          · (intro W hSw; (try dsimp only at hSw); go_simp; try with_reducible rfl)
          try simp only [Act.put, List.setIfInBounds_toArray, List.set_cons_zero, List.set_cons_succ]
          refine wpAnyH_take (i := 29) (oi := ⟨_, _, _, _, _, _⟩) (v := ?_) rfl (by kernel_rfl) (by kernel_rfl) (by kernel_rfl) (fun _ _ _ h => h) (Or.inl ⟨by rfl, ?_⟩) hHeld ?_
          rotate_left 1
          · (intro W hSw; (try dsimp only at hSw); go_simp; try with_reducible rfl)
          try simp only [Act.put, List.setIfInBounds_toArray, List.set_cons_zero, List.set_cons_succ]
          refine wpAnyH_take (i := 30) (oi := ⟨_, _, _, _, _, _⟩) (v := ?_) rfl (by kernel_rfl) (by kernel_rfl) (by kernel_rfl) (fun _ _ _ h => h) (Or.inl ⟨by rfl, ?_⟩) hHeld ?_
          rotate_left 1
          · (intro W hSw; (try dsimp only at hSw); go_simp; try with_reducible rfl)
          try simp only [Act.put, List.setIfInBounds_toArray, List.set_cons_zero, List.set_cons_succ]
          refine wpAnyH_take (i := 31) (oi := ⟨_, _, _, _, _, _⟩) (v := ?_) rfl (by kernel_rfl) (by kernel_rfl) (by kernel_rfl) (fun _ _ _ h => h) (Or.inl ⟨by rfl, ?_⟩) hHeld ?_
          rotate_left 1
          · (intro W hSw; (try dsimp only at hSw); go_simp; try with_reducible rfl)
          try simp only [Act.put, List.setIfInBounds_toArray, List.set_cons_zero, List.set_cons_succ]
          refine wpAnyH_take (i := 32) (oi := ⟨_, _, _, _, _, _⟩) (v := ?_) rfl (by kernel_rfl) (by kernel_rfl) (by kernel_rfl) (fun _ _ _ h => h) (Or.inl ⟨by rfl, ?_⟩) hHeld ?_
          rotate_left 1
          · (intro W hSw; (try dsimp only at hSw); have hcc := HCS.out W hSw; go_simp; try with_reducible rfl)
          try simp only [Act.put, List.setIfInBounds_toArray, List.set_cons_zero, List.set_cons_succ]
          refine wpAnyH_take (i := 33) (oi := ⟨_, _, _, _, _, _⟩) (v := ?_) rfl (by kernel_rfl) (by kernel_rfl) (by kernel_rfl) (fun _ _ _ h => h) (Or.inl ⟨by rfl, ?_⟩) hHeld ?_
          rotate_left 1
          · (intro W hSw; (try dsimp only at hSw); go_simp; try with_reducible rfl)
          try simp only [Act.put, List.setIfInBounds_toArray, List.set_cons_zero, List.set_cons_succ]
          replace hHeld : Below w4.heap.size w4 w4.drew := hHeld
          refine wpAnyH_ready (rs := [28]) (by kernel_rfl) (by simp) ?_
          refine AllReadyH.cons (o := ⟨_, _, _, _, _, _⟩) rfl (fun K hK => ?_) AllReadyH.nil
          go_simp
          go_at_call 15
          refine (HWT.out _ hHeld).mono ?_
          rintro e w6 ⟨rfl, hww⟩
          have hww2 := hww.symm
          subst hww2
          try go_wp2_with fail
          refine hK.out _ _ hHeld (fun hHeld => ?_)
          clear hK K hww
          try simp only [Act.put, List.setIfInBounds_toArray, List.set_cons_zero, List.set_cons_succ]
          refine wpAnyH_take (i := 34) (oi := ⟨_, _, _, _, _, _⟩) (v := ?_) rfl (by kernel_rfl) (by kernel_rfl) (by kernel_rfl) (fun _ _ _ h => h) (Or.inl ⟨by rfl, ?_⟩) hHeld ?_
          rotate_left 1
          · (intro W hSw; (try dsimp only at hSw); go_simp; try with_reducible rfl)
          try simp only [Act.put, List.setIfInBounds_toArray, List.set_cons_zero, List.set_cons_succ]
          refine wpAnyH_take (i := 35) (oi := ⟨_, _, _, _, _, _⟩) (v := ?_) rfl (by kernel_rfl) (by kernel_rfl) (by kernel_rfl) (fun _ _ _ h => h) (Or.inl ⟨by rfl, ?_⟩) hHeld ?_
          rotate_left 1
          · (intro W hSw; (try dsimp only at hSw); go_simp; try with_reducible rfl)
          try simp only [Act.put, List.setIfInBounds_toArray, List.set_cons_zero, List.set_cons_succ]
          refine wpAnyH_take (i := 36) (oi := ⟨_, _, _, _, _, _⟩) (v := ?_) rfl (by kernel_rfl) (by kernel_rfl) (by kernel_rfl) (fun _ _ _ h => h) (Or.inl ⟨by rfl, ?_⟩) hHeld ?_
          rotate_left 1
          · (intro W hSw; (try dsimp only at hSw); go_simp; try with_reducible rfl)
          try simp only [Act.put, List.setIfInBounds_toArray, List.set_cons_zero, List.set_cons_succ]
          refine wpAnyH_take (i := 37) (oi := ⟨_, _, _, _, _, _⟩) (v := ?_) rfl (by kernel_rfl) (by kernel_rfl) (by kernel_rfl) (fun _ _ _ h => h) (Or.inl ⟨by rfl, ?_⟩) hHeld ?_
          rotate_left 1
          · (intro W hSw; (try dsimp only at hSw); go_simp; try with_reducible rfl)
          try simp only [Act.put, List.setIfInBounds_toArray, List.set_cons_zero, List.set_cons_succ]
          refine wpAnyH_ready (rs := [38]) (by kernel_rfl) (by simp) ?_
          refine AllReadyH.cons (o := ⟨_, _, _, _, _, _⟩) rfl (fun K hK => ?_) AllReadyH.nil
          go_simp
          go_at_call 15
          refine (HWT.out _ hHeld).mono ?_
          rintro e w6 ⟨rfl, hww⟩
          have hww2 := hww.symm
          subst hww2
          try go_wp2_with fail
          refine hK.out _ _ hHeld (fun hHeld => ?_)
          clear hK K hww
          try simp only [Act.put, List.setIfInBounds_toArray, List.set_cons_zero, List.set_cons_succ]
          refine wpAnyH_take (i := 39) (oi := ⟨_, _, _, _, _, _⟩) (v := ?_) rfl (by kernel_rfl) (by kernel_rfl) (by kernel_rfl) (fun _ _ _ h => h) (Or.inl ⟨by rfl, ?_⟩) hHeld ?_
          rotate_left 1
          · (intro W hSw; (try dsimp only at hSw); go_simp; try with_reducible rfl)
          try simp only [Act.put, List.setIfInBounds_toArray, List.set_cons_zero, List.set_cons_succ]
          refine wpAnyH_take (i := 40) (oi := ⟨_, _, _, _, _, _⟩) (v := ?_) rfl (by kernel_rfl) (by kernel_rfl) (by kernel_rfl) (fun _ _ _ h => h) (Or.inl ⟨by rfl, ?_⟩) hHeld ?_
          rotate_left 1
          · (intro W hSw; (try dsimp only at hSw); go_simp; try with_reducible rfl)
          try simp only [Act.put, List.setIfInBounds_toArray, List.set_cons_zero, List.set_cons_succ]
          refine wpAnyH_done (by kernel_rfl) ?_ _
          refine NoPanic.normal ?_
          replace hHeld : Below w4.heap.size w4 w4.drew := hHeld
          generalize w4.drew = w5 at *
          have HB5 := Lib.hid (HBI.out.below hHeld)
          have HJ5 := Lib.hid (HJN.out.below hHeld)
          have HR5 := Lib.hid (HRN.out.below hHeld HRN.out.lt)
          have HX5 := Lib.hid (HX.out.below hHeld)
          have HBR5 := Lib.hid (HBR4.out.trans (hHeld.mono HBR4.out.size))
          have hq9 : q ≤ 200 := HQ2.out
          clear hHeld HX HBI HJN HRN HCS HWT HBR4
          go_wp2
          clear hw9
          go_loopw [17] (fun i wv => ∃ (kk : Nat) (L : List UInt8), kk ≤ q ∧ i = .int .i64 (kk : Int) ∧ Buf wv g0 A1 q c1 L ∧ w5.grownBy wv (ownOf A1)) (fun i _ => q - (intOf i).toNat)
          case atStart => exact ⟨0, inb, Nat.zero_le _, rfl, HB5.out, grown_refl _ _⟩
          case round =>
            obtain ⟨kk, L, hkk, rfl, hL, hgw⟩ := hrel
            by_cases hlt : kk < q
            · obtain ⟨gB, rfl, hgB, hgB2, hby⟩ := hL.at (by omega)
              have hcc : wr.cell? ⟨gB, kk, none⟩ = some (.int .u8 ((L.getD kk 0).toNat : Int)) := by have := hby kk (by rw [hL.1]; exact hlt); rwa [Nat.zero_add] at this
              have hle := hL.le
              have hfr := hL.notFrozen (j := kk) (by omega)
              obtain ⟨y, hy⟩ : ∃ y, y = L.getD kk 0 := ⟨_, rfl⟩
              rw [← hy] at hcc
              obtain ⟨z, hz⟩ : ∃ z, z = y ^^^ 119 := ⟨_, rfl⟩
              have hxx : bits .xor .u8 (y.toNat : Int) 119 = (z.toNat : Int) := by rw [hz, u8_x119]
              have hkk0 : (0 : Int) ≤ (kk : Int) := by omega
              have hkkq : (kk : Int) < (q : Int) := by omega
              have hkd : decide (kk < q) = true := by simpa using hlt
              clear hz hy hby hle
              go_wp2
              go_roundw
              case rel => exact ⟨kk + 1, L.set kk z, by omega, by go_num, hL.set hlt z, by exact grown_setCell (g := gB) (p := ⟨gB, kk, none⟩) hgw (.inl rfl) _⟩
              case measure => simp [intOf]; omega
            · have hkd : decide (kk < q) = false := by simpa using hlt
              have hne := HNE.out
              have hJ9 := HJ5.out.chg (chg_of_grown (S := fun k => some k = ownOf A1) hgw (fun _ e => e.symm)) (fun k h1 h2 => hne.1 k h2 h1)
              have hR9 : RJoin wr gM F2 C2 := HR5.out.grown hgw (fun e => hne.2.1 e)
              have HFIN := Lib.hid (And.intro hJ9 (And.intro hR9 (below_own HBR5.out HB5.out hgw HG0.out HBR5.out.size)))
              have hk9 : k < m := HLT.out.1
              have hk20 : k < 20 := HLT.out.2
              clear hne hJ9 hR9 hgw hL hkk hlt
              go_wp2
              go_roundw
              case rel => exact ⟨k + 1, F2, C2, A', c', hk9, by go_num, HFIN.out.1, HFIN.out.2.1, HFN.out, HNO2.out, HFIN.out.2.2⟩
              case measure => simp [intOf]; omega
        · skip
          have hto : rt = E1 := (HTO.out rfl)
          subst hto
          have HCX := Lib.hid (fun (W : World) (h : Below w4.heap.size w4 W) => conv_in HXL.out (in_up (HX.out.toIn (Nat.le_refl _)) h))
          refine wp_region_noPanic ?_
          refine wp_region_held_drew (S := fun W => Below w4.heap.size w4 W) (by kernel_rfl) (by exact below_drewN (Below.refl _ _) 1) (fun hHeld => ?_)
          refine wpAnyH_take (i := 0) (oi := ⟨_, _, _, _, _, _⟩) (v := ?_) rfl (by kernel_rfl) (by kernel_rfl) (by kernel_rfl) (fun _ _ _ h => h) (Or.inl ⟨by rfl, ?_⟩) hHeld ?_
          rotate_left 1
          · (intro W hSw; (try dsimp only at hSw); go_simp; try with_reducible rfl)
          try simp only [Act.put, List.setIfInBounds_toArray, List.set_cons_zero, List.set_cons_succ]
          refine wpAnyH_take (i := 1) (oi := ⟨_, _, _, _, _, _⟩) (v := ?_) rfl (by kernel_rfl) (by kernel_rfl) (by kernel_rfl) (fun _ _ _ h => h) (Or.inl ⟨by rfl, ?_⟩) hHeld ?_
          rotate_left 1
          · (intro W hSw; (try dsimp only at hSw); go_simp; try with_reducible rfl)
          try simp only [Act.put, List.setIfInBounds_toArray, List.set_cons_zero, List.set_cons_succ]
          refine wpAnyH_take (i := 2) (oi := ⟨_, _, _, _, _, _⟩) (v := ?_) rfl (by kernel_rfl) (by kernel_rfl) (by kernel_rfl) (fun _ _ _ h => h) (Or.inl ⟨by rfl, ?_⟩) hHeld ?_
          rotate_left 1
          · (intro W hSw; (try dsimp only at hSw); go_simp; try with_reducible rfl)
          try simp only [Act.put, List.setIfInBounds_toArray, List.set_cons_zero, List.set_cons_succ]
          refine wpAnyH_take (i := 3) (oi := ⟨_, _, _, _, _, _⟩) (v := ?_) rfl (by kernel_rfl) (by kernel_rfl) (by kernel_rfl) (fun _ _ _ h => h) (Or.inl ⟨by rfl, ?_⟩) hHeld ?_
          rotate_left 1
          · (intro W hSw; (try dsimp only at hSw); go_simp; try with_reducible rfl)
          try simp only [Act.put, List.setIfInBounds_toArray, List.set_cons_zero, List.set_cons_succ]
          refine wpAnyH_take (i := 4) (oi := ⟨_, _, _, _, _, _⟩) (v := ?_) rfl (by kernel_rfl) (by kernel_rfl) (by kernel_rfl) (fun _ _ _ h => h) (Or.inl ⟨by rfl, ?_⟩) hHeld ?_
          rotate_left 1
          · (intro W hSw; (try dsimp only at hSw); go_simp; try with_reducible rfl)
          try simp only [Act.put, List.setIfInBounds_toArray, List.set_cons_zero, List.set_cons_succ]
          refine wpAnyH_take (i := 5) (oi := ⟨_, _, _, _, _, _⟩) (v := ?_) rfl (by kernel_rfl) (by kernel_rfl) (by kernel_rfl) (fun _ _ _ h => h) (Or.inl ⟨by rfl, ?_⟩) hHeld ?_
          rotate_left 1
          · (intro W hSw; (try dsimp only at hSw); go_simp; try with_reducible rfl)
          try simp only [Act.put, List.setIfInBounds_toArray, List.set_cons_zero, List.set_cons_succ]
          refine wpAnyH_take (i := 6) (oi := ⟨_, _, _, _, _, _⟩) (v := ?_) rfl (by kernel_rfl) (by kernel_rfl) (by kernel_rfl) (fun _ _ _ h => h) (Or.inl ⟨by rfl, ?_⟩) hHeld ?_
          rotate_left 1
          · (intro W hSw; (try dsimp only at hSw); go_simp; try with_reducible rfl)
          try simp only [Act.put, List.setIfInBounds_toArray, List.set_cons_zero, List.set_cons_succ]
          refine wpAnyH_take (i := 7) (oi := ⟨_, _, _, _, _, _⟩) (v := ?_) rfl (by kernel_rfl) (by kernel_rfl) (by kernel_rfl) (fun _ _ _ h => h) (Or.inl ⟨by rfl, ?_⟩) hHeld ?_
          rotate_left 1
          · (intro W hSw; (try dsimp only at hSw); go_simp; try with_reducible rfl)
          try simp only [Act.put, List.setIfInBounds_toArray, List.set_cons_zero, List.set_cons_succ]
          refine wpAnyH_take (i := 8) (oi := ⟨_, _, _, _, _, _⟩) (v := ?_) rfl (by kernel_rfl) (by kernel_rfl) (by kernel_rfl) (fun _ _ _ h => h) (Or.inl ⟨by rfl, ?_⟩) hHeld ?_
          rotate_left 1
          · (intro W hSw; (try dsimp only at hSw); go_simp; try with_reducible rfl)
          try simp only [Act.put, List.setIfInBounds_toArray, List.set_cons_zero, List.set_cons_succ]
          refine wpAnyH_take (i := 9) (oi := ⟨_, _, _, _, _, _⟩) (v := ?_) rfl (by kernel_rfl) (by kernel_rfl) (by kernel_rfl) (fun _ _ _ h => h) (Or.inl ⟨by rfl, ?_⟩) hHeld ?_
          rotate_left 1
          · (intro W hSw; (try dsimp only at hSw); go_simp; try with_reducible rfl)
          try simp only [Act.put, List.setIfInBounds_toArray, List.set_cons_zero, List.set_cons_succ]
          refine wpAnyH_take (i := 10) (oi := ⟨_, _, _, _, _, _⟩) (v := ?_) rfl (by kernel_rfl) (by kernel_rfl) (by kernel_rfl) (fun _ _ _ h => h) (Or.inl ⟨by rfl, ?_⟩) hHeld ?_
          rotate_left 1
          · (intro W hSw; (try dsimp only at hSw); go_simp; try with_reducible rfl)
          try simp only [Act.put, List.setIfInBounds_toArray, List.set_cons_zero, List.set_cons_succ]
          refine wpAnyH_take (i := 11) (oi := ⟨_, _, _, _, _, _⟩) (v := ?_) rfl (by kernel_rfl) (by kernel_rfl) (by kernel_rfl) (fun _ _ _ h => h) (Or.inl ⟨by rfl, ?_⟩) hHeld ?_
          rotate_left 1
          · (intro W hSw; (try dsimp only at hSw); go_simp; try with_reducible rfl)
          try simp only [Act.put, List.setIfInBounds_toArray, List.set_cons_zero, List.set_cons_succ]
          refine wpAnyH_take (i := 12) (oi := ⟨_, _, _, _, _, _⟩) (v := ?_) rfl (by kernel_rfl) (by kernel_rfl) (by kernel_rfl) (fun _ _ _ h => h) (Or.inl ⟨by rfl, ?_⟩) hHeld ?_
          rotate_left 1
          · (intro W hSw; (try dsimp only at hSw); have hcc := HCX.out W hSw; go_simp; try with_reducible rfl)
          try simp only [Act.put, List.setIfInBounds_toArray, List.set_cons_zero, List.set_cons_succ]
          refine wpAnyH_take (i := 13) (oi := ⟨_, _, _, _, _, _⟩) (v := ?_) rfl (by kernel_rfl) (by kernel_rfl) (by kernel_rfl) (fun _ _ _ h => h) (Or.inl ⟨by rfl, ?_⟩) hHeld ?_
          rotate_left 1
          · (intro W hSw; (try dsimp only at hSw); go_simp; try with_reducible rfl)
          try simp only [Act.put, List.setIfInBounds_toArray, List.set_cons_zero, List.set_cons_succ]
          refine wpAnyH_take (i := 14) (oi := ⟨_, _, _, _, _, _⟩) (v := ?_) rfl (by kernel_rfl) (by kernel_rfl) (by kernel_rfl) (fun _ _ _ h => h) (Or.inl ⟨by rfl, ?_⟩) hHeld ?_
          rotate_left 1
          · (intro W hSw; (try dsimp only at hSw); go_simp; try with_reducible rfl)
          try simp only [Act.put, List.setIfInBounds_toArray, List.set_cons_zero, List.set_cons_succ]
          refine wpAnyH_take (i := 15) (oi := ⟨_, _, _, _, _, _⟩) (v := ?_) rfl (by kernel_rfl) (by kernel_rfl) (by kernel_rfl) (fun _ _ _ h => h) (Or.inl ⟨by rfl, ?_⟩) hHeld ?_
          rotate_left 1
          · (intro W hSw; (try dsimp only at hSw); go_simp; try with_reducible rfl)
          try simp only [Act.put, List.setIfInBounds_toArray, List.set_cons_zero, List.set_cons_succ]
          refine wpAnyH_take (i := 16) (oi := ⟨_, _, _, _, _, _⟩) (v := ?_) rfl (by kernel_rfl) (by kernel_rfl) (by kernel_rfl) (fun _ _ _ h => h) (Or.inl ⟨by rfl, ?_⟩) hHeld ?_
          rotate_left 1
          · (intro W hSw; (try dsimp only at hSw); go_simp; try with_reducible rfl)
          try simp only [Act.put, List.setIfInBounds_toArray, List.set_cons_zero, List.set_cons_succ]
          refine wpAnyH_take (i := 17) (oi := ⟨_, _, _, _, _, _⟩) (v := ?_) rfl (by kernel_rfl) (by kernel_rfl) (by kernel_rfl) (fun _ _ _ h => h) (Or.inl ⟨by rfl, ?_⟩) hHeld ?_
          rotate_left 1
          · (intro W hSw; (try dsimp only at hSw); go_simp; try with_reducible rfl)
          try simp only [Act.put, List.setIfInBounds_toArray, List.set_cons_zero, List.set_cons_succ]
          refine wpAnyH_take (i := 18) (oi := ⟨_, _, _, _, _, _⟩) (v := ?_) rfl (by kernel_rfl) (by kernel_rfl) (by kernel_rfl) (fun _ _ _ h => h) (Or.inl ⟨by rfl, ?_⟩) hHeld ?_
          rotate_left 1
          · (intro W hSw; (try dsimp only at hSw); go_simp; try with_reducible rfl)
          try simp only [Act.put, List.setIfInBounds_toArray, List.set_cons_zero, List.set_cons_succ]
          refine wpAnyH_take (i := 19) (oi := ⟨_, _, _, _, _, _⟩) (v := ?_) rfl (by kernel_rfl) (by kernel_rfl) (by kernel_rfl) (fun _ _ _ h => h) (Or.inl ⟨by rfl, ?_⟩) hHeld ?_
          rotate_left 1
          · (intro W hSw; (try dsimp only at hSw); go_simp; try with_reducible rfl)
          try simp only [Act.put, List.setIfInBounds_toArray, List.set_cons_zero, List.set_cons_succ]
          refine wpAnyH_take (i := 20) (oi := ⟨_, _, _, _, _, _⟩) (v := ?_) rfl (by kernel_rfl) (by kernel_rfl) (by kernel_rfl) (fun _ _ _ h => h) (Or.inl ⟨by rfl, ?_⟩) hHeld ?_
          rotate_left 1
          · (intro W hSw; (try dsimp only at hSw); go_simp; try with_reducible rfl)
          try simp only [Act.put, List.setIfInBounds_toArray, List.set_cons_zero, List.set_cons_succ]
          refine wpAnyH_take (i := 21) (oi := ⟨_, _, _, _, _, _⟩) (v := undef) rfl (by kernel_rfl) (by kernel_rfl) (by kernel_rfl) (fun _ _ _ h => h) (Or.inr ⟨by rfl, rfl⟩) hHeld ?_
          try simp only [Act.put, List.setIfInBounds_toArray, List.set_cons_zero, List.set_cons_succ]
          refine wpAnyH_take (i := 22) (oi := ⟨_, _, _, _, _, _⟩) (v := undef) rfl (by kernel_rfl) (by kernel_rfl) (by kernel_rfl) (fun _ _ _ h => h) (Or.inr ⟨by rfl, rfl⟩) hHeld ?_
          try simp only [Act.put, List.setIfInBounds_toArray, List.set_cons_zero, List.set_cons_succ]
          refine wpAnyH_take (i := 23) (oi := ⟨_, _, _, _, _, _⟩) (v := undef) rfl (by kernel_rfl) (by kernel_rfl) (by kernel_rfl) (fun _ _ _ h => h) (Or.inr ⟨by rfl, rfl⟩) hHeld ?_
          try simp only [Act.put, List.setIfInBounds_toArray, List.set_cons_zero, List.set_cons_succ]
          refine wpAnyH_take (i := 24) (oi := ⟨_, _, _, _, _, _⟩) (v := ?_) rfl (by kernel_rfl) (by kernel_rfl) (by kernel_rfl) (fun _ _ _ h => h) (Or.inl ⟨by rfl, ?_⟩) hHeld ?_
          rotate_left 1
          · (intro W hSw; (try dsimp only at hSw); go_simp; try with_reducible rfl)
          try simp only [Act.put, List.setIfInBounds_toArray, List.set_cons_zero, List.set_cons_succ]
          refine wpAnyH_take (i := 25) (oi := ⟨_, _, _, _, _, _⟩) (v := ?_) rfl (by kernel_rfl) (by kernel_rfl) (by kernel_rfl) (fun _ _ _ h => h) (Or.inl ⟨by rfl, ?_⟩) hHeld ?_
          rotate_left 1
          · (intro W hSw; (try dsimp only at hSw); go_simp; try with_reducible rfl)
          try simp only [Act.put, List.setIfInBounds_toArray, List.set_cons_zero, List.set_cons_succ]
          refine wpAnyH_take (i := 26) (oi := ⟨_, _, _, _, _, _⟩) (v := ?_) rfl (by kernel_rfl) (by kernel_rfl) (by kernel_rfl) (fun _ _ _ h => h) (Or.inl ⟨by rfl, ?_⟩) hHeld ?_
          rotate_left 1
          · (intro W hSw; (try dsimp only at hSw); go_simp; try with_reducible rfl)
          try simp only [Act.put, List.setIfInBounds_toArray, List.set_cons_zero, List.set_cons_succ]
          refine wpAnyH_take (i := 27) (oi := ⟨_, _, _, _, _, _⟩) (v := ?_) rfl (by kernel_rfl) (by kernel_rfl) (by kernel_rfl) (fun _ _ _ h => h) (Or.inl ⟨by rfl, ?_⟩) hHeld ?_
          rotate_left 1
          · (intro W hSw; (try dsimp only at hSw); go_simp; try with_reducible rfl)
          try simp only [Act.put, List.setIfInBounds_toArray, List.set_cons_zero, List.set_cons_succ]
          refine wpAnyH_take (i := 29) (oi := ⟨_, _, _, _, _, _⟩) (v := ?_) rfl (by kernel_rfl) (by kernel_rfl) (by kernel_rfl) (fun _ _ _ h => h) (Or.inl ⟨by rfl, ?_⟩) hHeld ?_
          rotate_left 1
          · (intro W hSw; (try dsimp only at hSw); go_simp; try with_reducible rfl)
          try simp only [Act.put, List.setIfInBounds_toArray, List.set_cons_zero, List.set_cons_succ]
          refine wpAnyH_take (i := 30) (oi := ⟨_, _, _, _, _, _⟩) (v := ?_) rfl (by kernel_rfl) (by kernel_rfl) (by kernel_rfl) (fun _ _ _ h => h) (Or.inl ⟨by rfl, ?_⟩) hHeld ?_
          rotate_left 1
          · (intro W hSw; (try dsimp only at hSw); go_simp; try with_reducible rfl)
          try simp only [Act.put, List.setIfInBounds_toArray, List.set_cons_zero, List.set_cons_succ]
          refine wpAnyH_take (i := 31) (oi := ⟨_, _, _, _, _, _⟩) (v := ?_) rfl (by kernel_rfl) (by kernel_rfl) (by kernel_rfl) (fun _ _ _ h => h) (Or.inl ⟨by rfl, ?_⟩) hHeld ?_
          rotate_left 1
          · (intro W hSw; (try dsimp only at hSw); go_simp; try with_reducible rfl)
          try simp only [Act.put, List.setIfInBounds_toArray, List.set_cons_zero, List.set_cons_succ]
          refine wpAnyH_take (i := 32) (oi := ⟨_, _, _, _, _, _⟩) (v := ?_) rfl (by kernel_rfl) (by kernel_rfl) (by kernel_rfl) (fun _ _ _ h => h) (Or.inl ⟨by rfl, ?_⟩) hHeld ?_
          rotate_left 1
          · (intro W hSw; (try dsimp only at hSw); have hcc := HCS.out W hSw; go_simp; try with_reducible rfl)
          try simp only [Act.put, List.setIfInBounds_toArray, List.set_cons_zero, List.set_cons_succ]
          refine wpAnyH_take (i := 33) (oi := ⟨_, _, _, _, _, _⟩) (v := ?_) rfl (by kernel_rfl) (by kernel_rfl) (by kernel_rfl) (fun _ _ _ h => h) (Or.inl ⟨by rfl, ?_⟩) hHeld ?_
          rotate_left 1
          · (intro W hSw; (try dsimp only at hSw); go_simp; try with_reducible rfl)
          try simp only [Act.put, List.setIfInBounds_toArray, List.set_cons_zero, List.set_cons_succ]
          replace hHeld : Below w4.heap.size w4 w4.drew := hHeld
          refine wpAnyH_ready (rs := [28]) (by kernel_rfl) (by simp) ?_
          refine AllReadyH.cons (o := ⟨_, _, _, _, _, _⟩) rfl (fun K hK => ?_) AllReadyH.nil
          go_simp
          go_at_call 15
          refine (HWT.out _ hHeld).mono ?_
          rintro e w6 ⟨rfl, hww⟩
          have hww2 := hww.symm
          subst hww2
          try go_wp2_with fail
          refine hK.out _ _ hHeld (fun hHeld => ?_)
          clear hK K hww
          try simp only [Act.put, List.setIfInBounds_toArray, List.set_cons_zero, List.set_cons_succ]
          refine wpAnyH_take (i := 34) (oi := ⟨_, _, _, _, _, _⟩) (v := ?_) rfl (by kernel_rfl) (by kernel_rfl) (by kernel_rfl) (fun _ _ _ h => h) (Or.inl ⟨by rfl, ?_⟩) hHeld ?_
          rotate_left 1
          · (intro W hSw; (try dsimp only at hSw); go_simp; try with_reducible rfl)
          try simp only [Act.put, List.setIfInBounds_toArray, List.set_cons_zero, List.set_cons_succ]
          refine wpAnyH_take (i := 35) (oi := ⟨_, _, _, _, _, _⟩) (v := ?_) rfl (by kernel_rfl) (by kernel_rfl) (by kernel_rfl) (fun _ _ _ h => h) (Or.inl ⟨by rfl, ?_⟩) hHeld ?_
          rotate_left 1
          · (intro W hSw; (try dsimp only at hSw); go_simp; try with_reducible rfl)
          try simp only [Act.put, List.setIfInBounds_toArray, List.set_cons_zero, List.set_cons_succ]
          refine wpAnyH_take (i := 36) (oi := ⟨_, _, _, _, _, _⟩) (v := ?_) rfl (by kernel_rfl) (by kernel_rfl) (by kernel_rfl) (fun _ _ _ h => h) (Or.inl ⟨by rfl, ?_⟩) hHeld ?_
          rotate_left 1
          · (intro W hSw; (try dsimp only at hSw); go_simp; try with_reducible rfl)
          try simp only [Act.put, List.setIfInBounds_toArray, List.set_cons_zero, List.set_cons_succ]
          refine wpAnyH_take (i := 37) (oi := ⟨_, _, _, _, _, _⟩) (v := ?_) rfl (by kernel_rfl) (by kernel_rfl) (by kernel_rfl) (fun _ _ _ h => h) (Or.inl ⟨by rfl, ?_⟩) hHeld ?_
          rotate_left 1
          · (intro W hSw; (try dsimp only at hSw); go_simp; try with_reducible rfl)
          try simp only [Act.put, List.setIfInBounds_toArray, List.set_cons_zero, List.set_cons_succ]
          refine wpAnyH_ready (rs := [38]) (by kernel_rfl) (by simp) ?_
          refine AllReadyH.cons (o := ⟨_, _, _, _, _, _⟩) rfl (fun K hK => ?_) AllReadyH.nil
          go_simp
          go_at_call 15
          refine (HWT.out _ hHeld).mono ?_
          rintro e w6 ⟨rfl, hww⟩
          have hww2 := hww.symm
          subst hww2
          try go_wp2_with fail
          refine hK.out _ _ hHeld (fun hHeld => ?_)
          clear hK K hww
          try simp only [Act.put, List.setIfInBounds_toArray, List.set_cons_zero, List.set_cons_succ]
          refine wpAnyH_take (i := 39) (oi := ⟨_, _, _, _, _, _⟩) (v := ?_) rfl (by kernel_rfl) (by kernel_rfl) (by kernel_rfl) (fun _ _ _ h => h) (Or.inl ⟨by rfl, ?_⟩) hHeld ?_
          rotate_left 1
          · (intro W hSw; (try dsimp only at hSw); go_simp; try with_reducible rfl)
          try simp only [Act.put, List.setIfInBounds_toArray, List.set_cons_zero, List.set_cons_succ]
          refine wpAnyH_take (i := 40) (oi := ⟨_, _, _, _, _, _⟩) (v := ?_) rfl (by kernel_rfl) (by kernel_rfl) (by kernel_rfl) (fun _ _ _ h => h) (Or.inl ⟨by rfl, ?_⟩) hHeld ?_
          rotate_left 1
          · (intro W hSw; (try dsimp only at hSw); go_simp; try with_reducible rfl)
          try simp only [Act.put, List.setIfInBounds_toArray, List.set_cons_zero, List.set_cons_succ]
          refine wpAnyH_done (by kernel_rfl) ?_ _
          refine NoPanic.normal ?_
          replace hHeld : Below w4.heap.size w4 w4.drew := hHeld
          generalize w4.drew = w5 at *
          have HB5 := Lib.hid (HBI.out.below hHeld)
          have HJ5 := Lib.hid (HJN.out.below hHeld)
          have HR5 := Lib.hid (HRN.out.below hHeld HRN.out.lt)
          have HX5 := Lib.hid (HX.out.below hHeld)
          have HBR5 := Lib.hid (HBR4.out.trans (hHeld.mono HBR4.out.size))
          have hq9 : q ≤ 200 := HQ2.out
          clear hHeld HX HBI HJN HRN HCS HWT HBR4
          clear HCX
          go_wp2
          clear hw9
          go_loopw [17] (fun i wv => ∃ (kk : Nat) (L : List UInt8), kk ≤ q ∧ i = .int .i64 (kk : Int) ∧ Buf wv g0 A1 q c1 L ∧ w5.grownBy wv (ownOf A1)) (fun i _ => q - (intOf i).toNat)
          case atStart => exact ⟨0, inb, Nat.zero_le _, rfl, HB5.out, grown_refl _ _⟩
          case round =>
            obtain ⟨kk, L, hkk, rfl, hL, hgw⟩ := hrel
            by_cases hlt : kk < q
            · obtain ⟨gB, rfl, hgB, hgB2, hby⟩ := hL.at (by omega)
              have hcc : wr.cell? ⟨gB, kk, none⟩ = some (.int .u8 ((L.getD kk 0).toNat : Int)) := by have := hby kk (by rw [hL.1]; exact hlt); rwa [Nat.zero_add] at this
              have hle := hL.le
              have hfr := hL.notFrozen (j := kk) (by omega)
              obtain ⟨y, hy⟩ : ∃ y, y = L.getD kk 0 := ⟨_, rfl⟩
              rw [← hy] at hcc
              obtain ⟨z, hz⟩ : ∃ z, z = y ^^^ 119 := ⟨_, rfl⟩
              have hxx : bits .xor .u8 (y.toNat : Int) 119 = (z.toNat : Int) := by rw [hz, u8_x119]
              have hkk0 : (0 : Int) ≤ (kk : Int) := by omega
              have hkkq : (kk : Int) < (q : Int) := by omega
              have hkd : decide (kk < q) = true := by simpa using hlt
              clear hz hy hby hle
              go_wp2
              go_roundw
              case rel => exact ⟨kk + 1, L.set kk z, by omega, by go_num, hL.set hlt z, by exact grown_setCell (g := gB) (p := ⟨gB, kk, none⟩) hgw (.inl rfl) _⟩
              case measure => simp [intOf]; omega
            · have hkd : decide (kk < q) = false := by simpa using hlt
              have hne := HNE.out
              have hJ9 := HJ5.out.chg (chg_of_grown (S := fun k => some k = ownOf A1) hgw (fun _ e => e.symm)) (fun k h1 h2 => hne.1 k h2 h1)
              have hR9 : RJoin wr gM F2 C2 := HR5.out.grown hgw (fun e => hne.2.1 e)
              have hX9 := HX5.out.kept hgw (fun g e e2 => hne.2.2 g e2 e)
              have hcx9 := conv_in HXL.out (hX9.toIn (Nat.le_refl _))
              clear hX9
              have HFIN := Lib.hid (And.intro hJ9 (And.intro hR9 (below_own HBR5.out HB5.out hgw HG0.out HBR5.out.size)))
              have hk9 : k < m := HLT.out.1
              have hk20 : k < 20 := HLT.out.2
              clear hne hJ9 hR9 hgw hL hkk hlt
              go_wp2
              go_roundw
              case rel => exact ⟨k + 1, F2, C2, A', c', hk9, by go_num, HFIN.out.1, HFIN.out.2.1, HFN.out, HNO2.out, HFIN.out.2.2⟩
              case measure => simp [intOf]; omega
      · have hd2 : ¬ (k : Int) < 20 := by omega
        have HFIN := Lib.hid hbr
        clear hJ hR hF hNO hbr hk h20 hlt
        go_wp2
        go_ret
        exact ⟨rfl, HFIN.out⟩
    · have hd : decide (k < m) = false := by simpa using hlt
      have HFIN := Lib.hid hbr
      clear hJ hR hF hNO hbr hk hlt
      go_wp2
      go_ret
      exact ⟨rfl, HFIN.out⟩
end Go.Proofs.Ytjachohgffnbiaa
