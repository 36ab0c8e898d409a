/-
  slices.Grow (of nothing) and slices.Concat over bytes; package hello's counted.
-/
import Derived.Test.YtagblbfbjemfhaaDoorHb
namespace Go.Proofs.YtagblbfbjemfhaaDoor
open Go.RowKit
open HelloMath (numB numB_length vecB vecB_length)

theorem flat_take {ps : List (List UInt8)} {j : Nat} (h : j < ps.length) : (ps.take (j + 1)).flatten = (ps.take j).flatten ++ ps.getD j [] := by
  rw [List.take_succ_eq_append_getElem h, List.flatten_append, List.getD_eq_getElem?_getD, List.getElem?_eq_getElem h]
  simp
theorem flat_le (ps : List (List UInt8)) (j : Nat) : (ps.take j).flatten.length ≤ ps.flatten.length := by
  conv => rhs; rw [← List.take_append_drop j ps, List.flatten_append, List.length_append]
  omega
theorem cat_ix (j k q m : Nat) (h : j < m) (hm : m ≤ 9223372036854775807) (hle : k + q ≤ 1000000) : wrap64 ((k : Int) + (q : Int)) = ((k + q : Nat) : Int) ∧ wrap64 ((j : Int) + 1) = ((j + 1 : Nat) : Int) ∧ (j : Int) < (m : Int) ∧ ¬ (((k + q : Nat) : Int)) < 0 ∧ (0 : Int) ≤ (j : Int) ∧ ((j : Int)).toNat = j := by
  unfold wrap64; omega
section
variable {ops : Array Oper} {rest : List Oper} {o : Oper} {a : Act} {w : World} {Q : Exit → Act → World → Prop}
/-- Bytes behind a row of the call's own. -/
theorem wpList_appV (hgd : o.guard = none) (s x : Operand) (ho : o.op = .call { callee := .builtin .append, args := #[s, x], argTypes := #[27, 27] })
    (base : Nat) (v y : Value) (bs ys : List UInt8) (hs : a.eval s = v) (hv : BufV w base v bs) (hx : a.eval x = y) (hy : SlV w y ys) (hn : bs.length + ys.length ≤ 1099511627776) (hbase : base ≤ w.heap.size)
    (h : ∀ v' w', BufV w' base v' (bs ++ ys) → Below base w w' → wpList Tryd.prog ops Q rest (a.put o.dst v') w') : wpList Tryd.prog ops Q (o :: rest) a w := by
  obtain ⟨A, c, rfl, hb⟩ := hv
  obtain ⟨A2, c2, rfl, hi⟩ := hy
  refine wpList_append_buf hgd s x _ ho base A bs.length c bs ys _ hs hb hx (src_in' (hi.src (Nat.le_refl _))) hn hbase fun A' c' w' hb' hg => ?_
  have e : bs.length + ys.length = (bs ++ ys).length := (List.length_append).symm
  rw [e] at hb' ⊢
  exact h _ _ ⟨_, _, rfl, hb'⟩ (below_own (Below.refl _ _) hb hg (Nat.le_refl _) hbase)
end
set_option maxRecDepth 100000 in
set_option maxHeartbeats 1000000 in
theorem grow_e (n : Nat) (w : World) (hn : n ≤ 1000000) :
    Calls Tryd.prog 56 #[.slice none 0 0, .int .i64 (n : Int)] w fun e w' => ∃ v, e = .returned v ∧ BufV w' w.heap.size v [] ∧ Below w.heap.size w w' := by
  by_cases h0 : n = 0
  · subst h0
    go_enter Tryd.func56, Tryd.ntmps56
    go_wp2
    go_ret
    exact ⟨_, rfl, ⟨_, _, rfl, Buf.nil _ _⟩, Below.refl _ _⟩
  · have hd : (n : Int) > 0 := by omega
    have hd2 : ¬ (n : Int) < 0 := by omega
    have hw : wrap64 (n : Int) = (n : Int) := by unfold wrap64; omega
    obtain ⟨i0, hi0, hz0, hsz, hbt⟩ : ∃ i0, Tryd.prog.info? 5 = some i0 ∧ i0.zero = some (.int .u8 0) ∧ i0.size = 1 ∧ i0.bytes = 1 := by
      have hinf := infoB
      cases hi : Tryd.prog.info? 5 with
      | none => rw [hi] at hinf; simp at hinf
      | some i => rw [hi] at hinf; simp only [Option.map_some, Option.some.injEq, Prod.mk.injEq] at hinf; exact ⟨i, rfl, hinf.1, hinf.2.1, hinf.2.2⟩
    have hrz : ∀ ty, (Builtin.append_ #[27, 3] ty #[.slice none 0 0, .int .i64 (n : Int)]).run Tryd.prog w = .ok (.slice (some ⟨w.heap.size, 0, none⟩) n (grownCap w n 0 5)) (w.drew.alloc (.cells (#[] ++ Builtin.zeroCells #[.int .u8 0] n ++ Builtin.zeroCells #[.int .u8 0] (grownCap w n 0 5 - n)) 5)) := fun ty => by
      have h := Lib.run_append_grow_zeros w 27 3 ty 5 i0 _ .i64 .i64 Tryd.underlying27 Tryd.underlying3 hi0 hz0 none 0 0 [] (run_firstCells_none w.drew i0.size 0 0 0) n (by omega) (by omega) (by omega) (by omega) (by rw [hbt]; omega)
        (by rw [Nat.zero_add]; exact growslice_fits (by omega) (by rw [hbt]; omega))
      rw [Nat.zero_add] at h
      exact h
    have hGn : n ≤ grownCap w n 0 5 := grownCap_ge w _ _ _
    have hG63 : grownCap w n 0 5 ≤ maxLen := grownCap_le_maxLen w n 0 5 (by unfold maxLen; omega)
    obtain ⟨G, hG⟩ : ∃ G, G = grownCap w n 0 5 := ⟨_, rfl⟩
    rw [← hG] at hrz hGn hG63
    have hcs : (#[] ++ Builtin.zeroCells #[.int .u8 0] n ++ Builtin.zeroCells #[.int .u8 0] (G - n)).size = G := by
      rw [Array.size_append, Array.size_append, size_zeroCells, size_zeroCells]
      simp
      omega
    obtain ⟨cs, hce⟩ : ∃ cs, cs = #[] ++ Builtin.zeroCells #[.int .u8 0] n ++ Builtin.zeroCells #[.int .u8 0] (G - n) := ⟨_, rfl⟩
    rw [← hce] at hrz hcs
    have HG := Lib.hid (And.intro hGn (And.intro hG63 hcs))
    have hG0 : (0 : Int) ≤ (G : Int) := by omega
    clear h0 hG hGn hG63 hcs hce hi0 hz0 hsz hbt
    go_enter Tryd.func56, Tryd.ntmps56
    go_wp2_with ((with_reducible refine (?_ : wpList _ _ _ (Oper.mk (some 22) _ _ _ _ _ :: _) _ _)); go_loud (refine Lib.wpList_append_run _ rfl (.tmp 20) (.tmp 21) 27 3 rfl (.slice none 0 0) (.int .i64 (n : Int)) rfl rfl _ _ (hrz _) ?_))
    go_ret
    have hb : Below w.heap.size w (w.drew.alloc (.cells cs 5)) := (below_drewN (Below.refl _ _) 1).alloc (Nat.le_refl _) _
    exact ⟨_, rfl, ⟨some ⟨w.heap.size, 0, none⟩, G, rfl, Buf.made (w := w.drew) cs _ 0 0 (Nat.le_refl _) rfl (Nat.zero_le _) HG.out.2.1 HG.out.2.2 (.inr rfl) (fun j hj => absurd hj (Nat.not_lt_zero _))⟩, hb⟩
set_option maxRecDepth 100000 in
set_option maxHeartbeats 1000000 in
theorem concat_e (ps : List (List UInt8)) (v : Value) (w : World) (h : RowV w v ps) (hs : ps.flatten.length ≤ 1000000) :
    Calls Tryd.prog 36 #[v] w fun e w' => ∃ r, e = .returned r ∧ BufV w' w.heap.size r ps.flatten ∧ Below w.heap.size w w' := by
  obtain ⟨A, c, rfl, hP⟩ := h
  have HS := Lib.hid hs
  have HP := Lib.hid hP
  obtain ⟨m, hm⟩ : ∃ m, ps.length = m := ⟨_, rfl⟩
  have HM := Lib.hid hm
  rw [hm]
  have hmm : m ≤ 9223372036854775807 := by have := hP.1; have := hP.2.1; omega
  obtain ⟨N, hN⟩ : ∃ N, ps.flatten.length = N := ⟨_, rfl⟩
  have hN0 : ¬ (N : Int) < 0 := by omega
  have HN := Lib.hid hN
  clear hs hP hm hN
  go_enter Tryd.func36, Tryd.ntmps36
  go_wp2
  go_loopw [11, 3] (fun i s wr => w = wr ∧ ∃ j k : Nat, i = .int .i64 (j : Int) ∧ j ≤ m ∧ s = .int .i64 (k : Int) ∧ Hid ((ps.take j).flatten.length = k)) (fun i _ _ => m - (intOf i).toNat)
  case atStart => exact ⟨rfl, 0, 0, rfl, Nat.zero_le _, rfl, Lib.hid rfl⟩
  case round =>
    obtain ⟨hww, j, k, rfl, hj, rfl, hk⟩ := hrel
    subst hww
    by_cases hlt : j < m
    · have hjp : j < ps.length := by rw [HM.out]; exact hlt
      obtain ⟨gp, op, rfl, hgp, hrow⟩ := HP.out.2.2 (by omega)
      obtain ⟨Aj, cj, hc, hi⟩ := hrow j hjp
      obtain ⟨q, hq⟩ : ∃ q, (ps.getD j []).length = q := ⟨_, rfl⟩
      rw [hq] at hc
      have hk1 := Lib.hid (show (ps.take (j + 1)).flatten.length = k + q by rw [flat_take hjp, List.length_append, hk.out, hq])
      obtain ⟨hw1, hw2, hlt', hneg, hj0, hjn⟩ := cat_ix j k q m hlt hmm (by rw [← hk1.out]; exact Nat.le_trans (flat_le ps _) HS.out)
      clear hrow hi hgp hj hjp
      have HLT := Lib.hid hlt
      clear hlt hq hk
      go_wp2
      go_roundw
      case rel => exact ⟨trivial, j + 1, k + q, rfl, HLT.out, by rw [hw1], hk1⟩
      case measure => have := HLT.out; simp only [intOf]; omega
    · obtain rfl : j = m := by omega
      obtain rfl : k = N := by rw [← hk.out, ← HM.out, List.take_length]; exact HN.out
      have hlt' : ¬ (j : Int) < (j : Int) := by omega
      clear hj hlt hk
      have HGR := Lib.hid (fun (W : World) => grow_e k W (by rw [← HN.out]; exact HS.out))
      go_wp2_with (go_at_call 56; refine (HGR.out _).mono ?_; rintro e w2 ⟨v2, rfl, hA2, hb2⟩)
      go_loopw [27, 6] (fun i r wl => Below w.heap.size w wl ∧ ∃ t : Nat, i = .int .i64 (t : Int) ∧ t ≤ j ∧ Hid (BufV wl w.heap.size r (ps.take t).flatten)) (fun i _ _ => j - (intOf i).toNat)
      case atStart => exact ⟨hb2, 0, rfl, Nat.zero_le _, Lib.hid hA2⟩
      case round =>
        obtain ⟨hbl, t, rfl, ht, hAR⟩ := hrel
        clear hb2 hA2
        have HBL := Lib.hid hbl
        by_cases htl : t < j
        · have htp : t < ps.length := by rw [HM.out]; exact htl
          obtain ⟨gp, op, rfl, hgp, hrow⟩ := HP.out.2.2 (by omega)
          obtain ⟨Aj, cj, hc, hi⟩ := hrow t htp
          have hc := (hbl.cell (p := ⟨gp, op + t, none⟩) hgp).trans hc
          obtain ⟨q, hq⟩ : ∃ q, (ps.getD t []).length = q := ⟨_, rfl⟩
          rw [hq] at hc
          have HI := Lib.hid (show SlV _ (.slice Aj q cj) (ps.getD t []) from ⟨Aj, cj, by rw [hq], in_weak (hi.below hbl) hbl.size⟩)
          have hfl := Lib.hid (flat_take htp)
          have HN2 := Lib.hid (show (ps.take t).flatten.length + (ps.getD t []).length ≤ 1099511627776 by
            have h1 := flat_le ps (t + 1)
            rw [flat_take htp, List.length_append] at h1
            exact Nat.le_trans h1 (Nat.le_trans HS.out (by decide)))
          obtain ⟨_, hw2, hlt'', _, hj0, hjn⟩ := cat_ix t 0 0 j htl hmm (by decide)
          clear hrow hi hgp htp hq
          have HLT := Lib.hid htl
          clear htl ht hbl
          go_wp2_with (((with_reducible refine (?_ : wpList _ _ _ (Oper.mk (some 33) _ _ _ _ _ :: _) _ _)); go_loud (refine wpList_appV rfl (.tmp 31) (.tmp 32) rfl w.heap.size _ _ (ps.take t).flatten (ps.getD t []) rfl hAR.out rfl HI.out HN2.out HBL.out.size ?_); intro v3 w3 hA3 hb3))
          have HA3 := Lib.hid (show BufV w3 w.heap.size v3 (ps.take (t + 1)).flatten by rw [hfl.out]; exact hA3)
          have HB3 := Lib.hid (HBL.out.trans hb3)
          clear hA3 hb3 hc
          go_roundw
          case rel => exact ⟨HB3.out, t + 1, rfl, HLT.out, HA3⟩
          case measure => have := HLT.out; simp only [intOf]; omega
        · obtain rfl : t = j := by omega
          have hlt'' : ¬ (t : Int) < (t : Int) := by omega
          clear htl ht
          go_wp2
          go_ret
          refine ⟨_, rfl, ?_, HBL.out⟩
          have h := hAR.out
          rwa [← HM.out, List.take_length] at h
set_option maxRecDepth 100000 in
theorem counted_e (k : Nat) (ps : List (List UInt8)) (v : Value) (w : World) (h : RowV w v ps) (hk : k ≤ 4) (hs : ps.flatten.length ≤ 1000000) :
    Calls Tryd.prog 37 #[.int .i64 (k : Int), v] w fun e w' => ∃ r, e = .returned r ∧ BufV w' w.heap.size r (vecB k ps.flatten) ∧ Below w.heap.size w w' := by
  have HS := Lib.hid hs
  have HK := Lib.hid hk
  have HC := Lib.hid (concat_e ps v w h hs)
  obtain ⟨N, hN⟩ : ∃ N, ps.flatten.length = N := ⟨_, rfl⟩
  have HN := Lib.hid hN
  clear h hs hk hN
  go_enter Tryd.func37, Tryd.ntmps37
  go_upto_region 2 with (go_at_call 36; refine HC.out.mono ?_; rintro e w1 ⟨r1, rfl, hB1, hb1⟩)
  obtain ⟨A1, c1, rfl, hF⟩ := hB1
  rw [HN.out] at hF ⊢
  have HF := Lib.hid hF
  have HB := Lib.hid hb1
  clear hF hb1
  go_wp2_with (first
    | (go_at_call 57; refine (number_e k N _ HK.out (by have := HS.out; have := HN.out; omega)).mono ?_; rintro e w2 ⟨r2, rfl, hB2, hb2⟩)
    | (((with_reducible refine (?_ : wpList _ _ _ (Oper.mk (some 13) _ _ _ _ _ :: _) _ _)); go_loud (refine wpList_appV rfl (.tmp 11) (.tmp 12) rfl w1.heap.size _ _ (numB k N) ps.flatten rfl hB2 rfl ⟨A1, c1, by rw [HN.out]; rfl, (HF.out.below hb2).toIn (Nat.le_refl _)⟩ (by rw [numB_length]; have := HK.out; have := HS.out; omega) hb2.size ?_); intro v3 w3 hA3 hb3)))
  go_ret
  refine ⟨_, rfl, ?_, HB.out.trans ((hb2.trans hb3).mono HB.out.size)⟩
  have h := hA3.base HB.out.size
  unfold vecB
  rw [HN.out]
  exact h
end Go.Proofs.YtagblbfbjemfhaaDoor
