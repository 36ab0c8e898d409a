/-
  The walk of the statement GcmFolds.
-/
import Derived.Test.YtiebdglnkbpajaaGrf
import Derived.Test.YtiebdglnkbpajaaFewB
import Derived.Deep.AppendLies
namespace Go.Proofs.Ytiebdglnkbpajaa
open Go.RowKit

abbrev strV (t : List UInt8) : Value := .string ⟨t.toArray⟩
theorem infoStr : (Try.prog.info? 9).map (fun i => (i.zero, i.size, i.bytes)) = some (some (.string ⟨#[]⟩), 1, 16) := by kernel_rfl
theorem below_ownblock {w w' : World} {base n size : Nat} {e : TypeId} {v : Value} {xs : List Value} (h : w.ownsRow base e size v n xs) (hg : w.grownBy w' v.ownBlock) (hb : base ≤ w.heap.size) : Below base w w' :=
  ⟨hg.os, hg.tape, hg.output, hg.size, fun i hi => hg.block i (by omega) (fun e2 => by have := (h.lt i e2.symm).1; omega)⟩
theorem wpList_append_str {ops : Array Oper} {rest : List Oper} {o : Oper} {a : Act} {w : World} {Q : Exit → Act → World → Prop} (hgd : o.guard = none) (s x : Operand)
    (ho : o.op = .call { callee := .builtin .append, args := #[s, x], argTypes := #[28, 28] }) (base k : Nat) (v : Value) (ts : List (List UInt8)) (t : List UInt8) (g1 : Nat)
    (hs : a.eval s = v) (hx : a.eval x = .slice (some ⟨g1, 0, none⟩) 1 1) (hown : w.ownsRow base 9 1 v k (ts.map strV)) (hc : w.cell? ⟨g1, 0, none⟩ = some (strV t)) (hk : k < 1000) (hbase : base ≤ w.heap.size)
    (h : ∀ g cap w', w'.ownsRow base 9 1 (.slice (some ⟨g, 0, none⟩) (k + 1) cap) (k + 1) ((ts ++ [t]).map strV) → Below base w w' → wpList Try.prog ops Q rest (a.put o.dst (.slice (some ⟨g, 0, none⟩) (k + 1) cap)) w') : wpList Try.prog ops Q (o :: rest) a w := by
  refine wpList_plain hgd fun K hK' => ?_
  obtain ⟨i, hi, hz, hsz, hby⟩ := info_parts infoStr
  obtain ⟨g, cap, w', hr, hown2, hg, _, _⟩ := run_append_lies (P := Try.prog) w 28 o.type base 9 i (.string ⟨#[]⟩) 1 16 Try.underlying28 hi hz hsz hby rfl (by decide) v k (ts.map strV) hown ⟨g1, 0, none⟩ 1 1 [strV t] rfl
    (fun j u hu => by
      have hj : j = 0 := by have := (List.getElem?_eq_some_iff.1 hu).1; simpa using this
      subst hj
      simp at hu
      rw [← hu]
      exact hc)
    (fun u hu => by simp at hu; rw [hu]; rfl) (by decide) (by unfold maxLen; omega) (by omega) hbase w.heap.size rfl
  rw [show ts.map strV ++ [strV t] = (ts ++ [t]).map strV by simp] at hown2
  unfold Oper.wp execOp
  simp only [ho, resolve, invoke, builtin, Sem.run_bind, Sem.run_pure, Result.andThen_ok, List.map_toArray, List.map_cons, List.map_nil, hs, hx, hr]
  exact hK' _ _ (h g cap w' hown2 (below_ownblock hown hg hbase))
theorem sin_of_own {w : World} {base : Nat} {v : Value} {ts : List (List UInt8)} (h : w.ownsRow base 9 1 v ts.length (ts.map strV)) : ∃ A c, v = .slice A ts.length c ∧ SIn w w.heap.size A c ts := by
  rcases h.2 with ⟨rfl, h0⟩ | ⟨g, cap, cur, rfl, hb, hg, hnc, hcm, hcs, ht⟩
  · refine ⟨none, 0, by rw [h0], by omega, by omega, fun h1 => by omega⟩
  · refine ⟨some ⟨g, 0, none⟩, cap, rfl, hnc, by unfold maxLen at hcm; omega, fun h0 => ⟨g, 0, rfl, ?_, fun j hj => ?_⟩⟩
    · rcases Nat.lt_or_ge g w.heap.size with h1 | h1
      · exact h1
      · rw [Array.getElem?_eq_none h1] at hg; cases hg
    · have := h.cellAt j (by omega)
      rw [Nat.zero_add, this]
      simp [List.getD_eq_getElem?_getD, List.getElem?_eq_getElem hj]
theorem sin_up {w w' : World} {A : Option Addr} {c : Nat} {ts : List (List UInt8)} (h : SIn w w.heap.size A c ts) (hb : Below w.heap.size w w') : SIn w' w'.heap.size A c ts := by
  have h2 := h.below hb
  refine ⟨h2.1, h2.2.1, fun h0 => ?_⟩
  obtain ⟨gp, op, e, hl, hj⟩ := h2.2.2 h0
  exact ⟨gp, op, e, Nat.lt_of_lt_of_le hl hb.size, hj⟩
theorem few_get_len (m e : Nat) (ps : List (List UInt8)) (k : Nat) : ((few m e ps).getD k []).length ≤ e := by
  unfold few
  rw [List.getD_eq_getElem?_getD, List.getElem?_map]
  cases (ps.take m)[k]? with
  | none => simp
  | some q => simp; omega
theorem eq16f (L : List UInt8) (h : L.length = 16) (W : World) : (binOp .eql 22 (BV L) (BV L)).run Try.prog W = .ok (.bool true) W := by
  have := run_eql_bytes (P := Try.prog) W 22 5 16 Try.underlying22 Try.underlying5 size8 L L h h
  rw [beq_self_eq_true] at this
  exact this

set_option maxRecDepth 100000 in
set_option maxHeartbeats 1000000 in
theorem gcmFolds_walk (F : List UInt8) (A : Option Addr) (c : Nat) (ps : List (List UInt8)) (w : World) (hF16 : F.length = 16) (hA : PIn w w.heap.size A c ps) :
    Calls Try.prog 4 #[BV F, .slice A ps.length c] w fun e w' => e = .returned (.bool true) ∧ Below w.heap.size w w' := by
  have hq1 := few_length 5 70 ps
  have hq3 := few_get_len 5 70 ps
  obtain ⟨qs, hq⟩ : ∃ qs, few 5 70 ps = qs := ⟨_, rfl⟩
  rw [hq] at hq1 hq3
  have HQ := Lib.hid hq
  have HQ3 := Lib.hid hq3
  have LF := Lib.hid hF16
  have HA := Lib.hid hA
  clear hq hq3 hF16 hA
  have hqE := eq16f (gFold F qs) (gFold_length _ _)
  have k1 := fun (W : World) (A : Option Addr) (c : Nat) (h : PIn W W.heap.size A c qs) => fold_e F A c qs W LF.out h
  have k2 := fun (W : World) (A : Option Addr) (c : Nat) (h : SIn W W.heap.size A c qs) => refFold_e F A c qs W LF.out h (fun k _ => by have := HQ3.out k; omega)
  generalize gFold F qs = Y at *
  have K1 := Lib.hid k1
  have K2 := Lib.hid k2
  have HE := Lib.hid hqE
  clear k1 k2 hqE
  go_enter Try.func4, Try.ntmps4
  have hF0 := Blk.new_of w 22 (F.map B8).toArray (F.map B8) rfl
  have hb0 : Below w.heap.size w (w.alloc (.cells (F.map B8).toArray 22)) := (Below.refl _ _).alloc (Nat.le_refl _) _
  go_wp2_with fail
  refine (few_here (m := 5) (e := 70) (HA.out.up hb0) (by decide) (by decide) HQ.out).mono ?_
  rintro r w1 ⟨A1, c1, rfl, hr1, hp1, hb1⟩
  have hF1 := hF0.below hb1 hF0.lt
  have hw1 := hb0.trans (hb1.mono hb0.size)
  clear hr1 hF0 hb0 hb1
  go_wp2
  have hb11 : Below w1.heap.size w1 w1 := Below.refl _ _
  have ho1 : w1.ownsRow w1.heap.size 9 1 (.slice none 0 0) 0 (([] : List (List UInt8)).map strV) := World.ownsRow_nil w1 _ _ 1
  go_loopw [6, 7] (fun tv i wr => ∃ k : Nat, k ≤ qs.length ∧ i = .int .i64 (k : Int) ∧ wr.ownsRow w1.heap.size 9 1 tv k ((qs.take k).map strV) ∧ Below w1.heap.size w1 wr) (fun _ i _ => qs.length - (intOf i).toNat)
  case atStart => exact ⟨0, by omega, rfl, by simpa using ho1, hb11⟩
  case round =>
    clear hb11 ho1
    obtain ⟨k, hk, rfl, ho, hb⟩ := hrel
    by_cases hlt : k < qs.length
    · have hd1 : decide ((k : Int) < (qs.length : Int)) = true := by simp; omega
      have hk0 : (0 : Int) ≤ (k : Int) := by omega
      have hkl : (k : Int) < (qs.length : Int) := by omega
      obtain ⟨hpc, hpm, hpe⟩ := hp1.below hb
      obtain ⟨gp, op, rfl, hgp, hj⟩ := hpe (by omega)
      obtain ⟨Aj, cj, hc, hi⟩ := hj k hlt
      have hts : qs.take (k + 1) = qs.take k ++ [qs.getD k []] := by
        rw [List.take_succ_eq_append_getElem hlt]
        simp [List.getD_eq_getElem?_getD, List.getElem?_eq_getElem hlt]
      obtain ⟨y, hy⟩ : ∃ y, y = qs.getD k [] := ⟨_, rfl⟩
      rw [← hy] at hc hi hts
      have H9 := Lib.hid hts
      have hbs := hb.size
      have hsr := hi.src (Nat.le_refl _)
      have hk10 : k < 1000 := by omega
      have HO := Lib.hid ho
      clear hy hts hj hpe hi ho
      generalize qs.take k = T at *
      go_wp2_with (first
        | ((with_reducible refine (?_ : wpList _ _ _ (Oper.mk (some 21) _ _ _ _ _ :: _) _ _)); go_loud (refine wpList_string_of rfl (.tmp 20) rfl y Aj cj w1.heap.size rfl hsr ?_))
        | ((with_reducible refine (?_ : wpList _ _ _ (Oper.mk (some 23) _ _ _ _ _ :: _) _ _)); go_loud (refine wpList_append_str rfl (.tmp 16) (.tmp 22) rfl w1.heap.size k _ T y wr.heap.size rfl rfl (HO.out.kept (grown_alloc (grown_refl _ none) _) (by cases (Value.ownBlock _) with | none => exact .inl rfl | some k => right; simp)) (new_cell _ _ _) hk10 (by simp; omega) ?_); intro g cap w5 ho5 hb5))
      go_roundw
      case rel => exact ⟨k + 1, by omega, by go_num, by rw [H9.out]; exact ho5, (hb.alloc hbs _).trans hb5⟩
      case measure => simp [intOf]; omega
    · have hd1 : decide ((k : Int) < (qs.length : Int)) = false := by simp; omega
      obtain rfl : k = qs.length := by omega
      rw [List.take_of_length_le (Nat.le_refl _)] at ho
      obtain ⟨A2, c2, rfl, hs⟩ := sin_of_own ho
      have hF := hF1.below hb hF1.lt
      have hp := hp1.up hb
      have hbw := hw1.trans (hb.mono hw1.size)
      have hqE := HE.out
      clear ho hb hF1 hp1 hw1
      go_wp2
      apply wp_region_once (D := [[], [0], [0, 1], [0, 1], [0, 1, 2, 3], [0, 1], [0, 1], [0, 1, 2, 3, 4, 5, 6], [0, 1, 2, 3, 4, 5, 6, 7], [0, 1, 2, 3, 4, 5, 6, 7, 8], [0, 1, 2, 3, 4, 5, 6, 7, 8, 9]]) (J := [[], [0], [1], [1], [1, 2, 3], [1], [1], [1, 5, 6], [1, 4, 7], [1, 8], [9]]) (Je := [10]) (Rs := [Is _, Is _, Is _, Is _, Is _, Is _, Is _, Is _, Is _, Is _, Is _])
      · kernel_rfl
      · kernel_rfl
      · kernel_rfl
      · kernel_rfl
      · kernel_rfl
      · kernel_rfl
      · intro u
        simp only [List.map_cons, List.map_nil, fillU, List.setIfInBounds_toArray, List.set_cons_zero, List.set_cons_succ, Nat.zero_add, Nat.reduceAdd]
        exact rfl
      · skip
        refine ⟨fun u W hb hd K hK => ?_, ?_⟩
        · clear hd
          go_simp
          refine (boxes_e W).mono ?_
          rintro e wy ⟨rfl, hby⟩
          exact hK _ _ _ rfl hby IsOut
        refine ⟨fun u W hb hd K hK => ?_, ?_⟩
        · simp only [Facts, nthR, Is, and_true] at hd
          simp only [hd] at hK ⊢
          clear hd
          go_simp
          apply hK
          · simp only [Act.put, List.setIfInBounds_toArray, List.set_cons_zero, List.set_cons_succ]
            exact rfl
          · exact Below.refl _ _
          · exact IsOut
        refine ⟨fun u W hb hd K hK => ?_, ?_⟩
        · simp only [Facts, nthR, Is, and_true] at hd
          simp only [hd] at hK ⊢
          clear hd
          rw [if_pos (by rfl)]
          refine wp_load_mid 22 (.tmp 2) rfl (w.heap.size) 0 rfl (F.map B8) _ (rangeAt_blk (hF.below hb hF.lt)) Try.underlying22 rfl (infoBk.trans (by rw [List.length_map, LF.out])) ?_
          exact hK _ _ _ rfl (Below.refl _ _) IsOut
        refine ⟨fun u W hb hd K hK => ?_, ?_⟩
        · simp only [Facts, nthR, Is, and_true] at hd
          simp only [hd] at hK ⊢
          clear hd
          go_simp
          apply hK
          · simp only [Act.put, List.setIfInBounds_toArray, List.set_cons_zero, List.set_cons_succ]
            exact rfl
          · exact Below.refl _ _
          · exact IsOut
        refine ⟨fun u W hb hd K hK => ?_, ?_⟩
        · simp only [Facts, nthR, Is, and_true] at hd
          simp only [hd] at hK ⊢
          clear hd
          go_simp
          refine (K1.out W _ _ (hp.up hb)).mono ?_
          rintro e wy ⟨rfl, hby⟩
          exact hK _ _ _ rfl hby IsOut
        refine ⟨fun u W hb hd K hK => ?_, ?_⟩
        · simp only [Facts, nthR, Is, and_true] at hd
          simp only [hd] at hK ⊢
          clear hd
          rw [if_pos (by rfl)]
          refine wp_load_mid 22 (.tmp 2) rfl (w.heap.size) 0 rfl (F.map B8) _ (rangeAt_blk (hF.below hb hF.lt)) Try.underlying22 rfl (infoBk.trans (by rw [List.length_map, LF.out])) ?_
          exact hK _ _ _ rfl (Below.refl _ _) IsOut
        refine ⟨fun u W hb hd K hK => ?_, ?_⟩
        · simp only [Facts, nthR, Is, and_true] at hd
          simp only [hd] at hK ⊢
          clear hd
          go_simp
          apply hK
          · simp only [Act.put, List.setIfInBounds_toArray, List.set_cons_zero, List.set_cons_succ]
            exact rfl
          · exact Below.refl _ _
          · exact IsOut
        refine ⟨fun u W hb hd K hK => ?_, ?_⟩
        · simp only [Facts, nthR, Is, and_true] at hd
          simp only [hd] at hK ⊢
          clear hd
          go_simp
          refine (K2.out W _ _ (sin_up hs hb)).mono ?_
          rintro e wy ⟨rfl, hby⟩
          exact hK _ _ _ rfl hby IsOut
        refine ⟨fun u W hb hd K hK => ?_, ?_⟩
        · simp only [Facts, nthR, Is, and_true] at hd
          simp only [hd] at hK ⊢
          clear hd
          go_simp
          apply hK
          · simp only [Act.put, List.setIfInBounds_toArray, List.set_cons_zero, List.set_cons_succ]
            exact rfl
          · exact Below.refl _ _
          · exact IsOut
        refine ⟨fun u W hb hd K hK => ?_, ?_⟩
        · simp only [Facts, nthR, Is, and_true] at hd
          simp only [hd] at hK ⊢
          clear hd
          go_simp
          apply hK
          · simp only [Act.put, List.setIfInBounds_toArray, List.set_cons_zero, List.set_cons_succ]
            exact rfl
          · exact Below.refl _ _
          · exact IsOut
        refine ⟨fun u W hb hd K hK => ?_, ?_⟩
        · simp only [Facts, nthR, Is, and_true] at hd
          simp only [hd] at hK ⊢
          clear hd
          go_simp
          apply hK
          · simp only [Act.put, List.setIfInBounds_toArray, List.set_cons_zero, List.set_cons_succ]
            exact rfl
          · exact Below.refl _ _
          · exact IsOut
        exact trivial
      · exact (.is (.is (.is (.is (.is (.is (.is (.is (.is (.is (.is .nil)))))))))))
      · intro u W hb hd
        simp only [Facts, nthR, Is, and_true] at hd
        simp only [hd]
        have hfin := hbw.trans (hb.mono hbw.size)
        go_wp2
        go_ret
        exact ⟨rfl, hfin⟩
end Go.Proofs.Ytiebdglnkbpajaa
