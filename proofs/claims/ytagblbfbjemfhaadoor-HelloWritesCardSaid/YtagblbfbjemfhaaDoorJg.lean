/-
  The law's hellos: a message has its bytes.
-/
import Derived.Test.YtagblbfbjemfhaaDoorJf
namespace Go.Proofs.YtagblbfbjemfhaaDoor
open Go.RowKit
open HelloMath (Msg zeroM wholeM formM readBy saidM)

theorem whole_8 : wholeM (zeroM 8) = [8, 0, 0, 2, 0, 0] := by decide +kernel
theorem form_8 : formM (zeroM 8) = true := by decide +kernel
theorem read_8 : readBy saidM ([8, 0, 0, 2, 0, 0] ++ [9]) = (zeroM 8, 6, 0) := by
  rw [← whole_8, HelloMath.read_whole HelloMath.said_finds form_8 rfl rfl [9], whole_8]; rfl
theorem read_b9 (b9 : List UInt8) (h9 : [8, 0, 0, 2, 0, 0] ++ [9] = b9) (v : Value) (w : World) (hT : TabH w) (hv : SlV w v b9) (h40 : Hid (b9.length ≤ 200000)) : Calls Tryd.prog 16 #[v] w (ReadP b9 w) := by
  subst h9
  exact read_none _ v w hT hv h40 (by decide +kernel) (saidOk_8 _ (by decide +kernel) (Lib.hid (by decide +kernel)) (by decide +kernel))
section
variable {ops : Array Oper} {rest : List Oper} {o : Oper} {a : Act} {w : World} {Q : Exit → Act → World → Prop}
/-- Bytes behind a row of the call's own, which reads as it did. -/
theorem wpList_appVK (hgd : o.guard = none) (s x : Operand) (ho : o.op = .call { callee := .builtin .append, args := #[s, x], argTypes := #[27, 27] })
    (base : Nat) (v y : Value) (bs ys : List UInt8) (hs : a.eval s = v) (hv : BufV w base v bs) (hx : a.eval x = y) (hy : SlV w y ys) (hn : bs.length + ys.length ≤ 1099511627776) (hbase : base ≤ w.heap.size)
    (h : ∀ v' w', BufV w' base v' (bs ++ ys) → BufV w' base v bs → Below base w w' → wpList Tryd.prog ops Q rest (a.put o.dst v') w') : wpList Tryd.prog ops Q (o :: rest) a w := by
  obtain ⟨A, c, rfl, hb⟩ := hv
  obtain ⟨A2, c2, rfl, hi⟩ := hy
  refine wpList_append_keep hgd s x _ ho base A bs.length c bs ys _ hs hb hx (src_in' (hi.src (Nat.le_refl _))) hn hbase (bs ++ ys).length List.length_append fun A' c' w' hb' hg hk => ?_
  exact h _ _ ⟨_, _, rfl, hb'⟩ ⟨_, _, rfl, hk⟩ (below_own (Below.refl _ _) hb hg (Nat.le_refl _) hbase)
end
theorem nilSl (w : World) : SlV w (.slice none 0 0) [] := ⟨none, 0, rfl, in_nil _ 0 (by decide) _⟩
set_option maxRecDepth 100000 in
set_option maxHeartbeats 1000000 in
theorem hellos_e (w : World) (hT : TabH w) : Calls Tryd.prog 13 #[] w fun e w' => e = .returned (.bool true) ∧ Below w.heap.size w w' := by
  have HT := Lib.hid hT
  clear hT
  go_enter Tryd.func13, Tryd.ntmps13
  go_upto_region 1 with (fail)
  refine wp_region_lit ?_
  refine wpList_plain rfl (fun K hK => wp_builtV 30 _ rfl [(0, .int .i64 8)] rfl (mC (zeroM 8) (.slice none 0 0) (.slice none 0 0) (.slice none 0 0) (.slice none 0 0) (.slice none 0 0) (.slice none 0 0)).toArray (builtMsg 8) (hK _ _ ?_))
  clear hK K
  try simp only [Act.put, zSa, zSz, zSs]
  obtain ⟨cs, hcs⟩ : ∃ cs, cs = mC (zeroM 8) (.slice none 0 0) (.slice none 0 0) (.slice none 0 0) (.slice none 0 0) (.slice none 0 0) (.slice none 0 0) := ⟨_, rfl⟩
  simp only [← hcs]
  have HCS := Lib.hid (show MVs w (zeroM 8) cs from ⟨_, _, _, _, _, _, hcs, ⟨rfl, rfl⟩, nilSl w, nilSl w, nilSl w, nilSl w, nilSl w, ⟨none, 0, rfl, Nat.le_refl _, by decide, fun h => absurd h (Nat.lt_irrefl _)⟩⟩)
  clear hcs
  refine wpList_plain rfl (fun K hK0 => ?_)
  have hK := Lib.hid hK0
  clear hK0
  go_simp
  go_at_call 11
  refine (write_1 (zeroM 8) cs _ HT.out HCS.out form_8).mono ?_
  rintro e w1 ⟨r, rfl, hB1, hb1⟩
  try go_wp2_with fail
  refine hK.out _ _ ?_
  clear hK K
  try simp only [Act.put, zSa, zSz, zSs]
  rw [whole_8] at hB1
  go_upto_region 2 with (fail)
  refine wp_region_lit ?_
  refine wpList_plain rfl (fun K hK => ?_)
  go_simp
  refine hK _ _ ?_
  clear hK K
  try simp only [Act.put, zSa, zSz, zSs]
  refine wpList_bytesc rfl [9] rfl rfl (by decide) (by kernel_rfl) ?_
  intro v2 w2 hv2 hb2
  try simp only [Act.put, zSa, zSz, zSs]
  replace hB1 := hB1.below hb2
  have hb12 := hb1.trans (hb2.mono hb1.size)
  clear hb1 hb2
  refine wpList_appVK rfl (.tmp 12) (.tmp 13) rfl w.heap.size r v2 [8, 0, 0, 2, 0, 0] [9] rfl hB1 rfl hv2 (by decide) hb12.size ?_
  clear hB1
  intro v3 w3 hB3 hB1 hb3
  try simp only [Act.put, zSa, zSz, zSs]
  have hb13 := hb12.trans hb3
  have hBr : SlV w3 v3 ([8, 0, 0, 2, 0, 0] ++ [9]) := hB3.sl
  obtain ⟨b9, h9⟩ : ∃ b : List UInt8, [8, 0, 0, 2, 0, 0] ++ [9] = b := ⟨_, rfl⟩
  rw [h9] at hBr
  have HR := Lib.hid (show readBy saidM b9 = (zeroM 8, 6, 0) by rw [← h9]; exact read_8)
  have H40 := Lib.hid (show b9.length ≤ 200000 by rw [← h9]; decide)
  have HB9 := Lib.hid h9
  clear hv2 hb12 hB3 h9
  refine wpList_plain rfl (fun K hK0 => ?_)
  have hK := Lib.hid hK0
  clear hK0
  go_simp
  go_at_call 16
  refine (read_b9 b9 HB9.out v3 _ (HT.out.below hb13) hBr H40).mono ?_
  rintro e w4 ⟨cs4, rfl, hm4, hb4⟩
  try go_wp2_with fail
  refine hK.out _ _ ?_
  clear hK K
  try simp only [Act.put, zSa, zSz, zSs]
  rw [HR.out] at hm4
  try simp only [HR.out]
  have hb14 := hb13.trans (hb4.mono hb13.size)
  refine wpList_plain rfl (fun K hK => ?_)
  go_simp
  refine hK _ _ ?_
  clear hK K
  try simp only [Act.put, zSa, zSz, zSs]
  refine wpList_plain rfl (fun K hK => ?_)
  go_simp
  refine hK _ _ ?_
  clear hK K
  try simp only [Act.put, zSa, zSz, zSs]
  refine wpList_plain rfl (fun K hK => ?_)
  go_simp
  refine hK _ _ ?_
  clear hK K
  try simp only [Act.put, zSa, zSz, zSs]
  refine wpList_plain rfl (fun K hK => ?_)
  go_simp
  refine hK _ _ ?_
  clear hK K
  try simp only [Act.put, zSa, zSz, zSs]
  refine wpList_new_blk rfl 30 rfl _ zeroMsg ?_
  intro g5 w5 hg5 b5 hb5
  try simp only [Act.put, zSa, zSz, zSs]
  have HG5 := Lib.hid (show w.heap.size ≤ g5 by rw [hg5]; exact hb14.size)
  have hb15 := hb14.trans (hb5.mono hb14.size)
  refine wpList_store_blk rfl 30 (.tmp 3) (.tmp 16) rfl rfl g5 cs4 rfl rfl _ _ b5 (infoMsg.trans (by rw [hm4.len])) (by rw [hm4.len, mC_length rfl rfl]) hm4.one ?_
  intro w6 b6 hg6
  try simp only [Act.put, zSa, zSz, zSs]
  have hb16 := hb15.trans (grown_below hg6 HG5.out hb15.size)
  replace hB1 := (hB1.below hb4).below (hb5.trans (grown_below hg6 (Nat.le_of_eq hg5.symm) hb5.size))
  have hcv := run_strV hB1.sl
  obtain ⟨hl4, u1, u2, u3, u4, u5, uc, e4, _⟩ := hm4
  have hkd : w6.cell? ⟨g5, 0, none⟩ = some (.int .i64 8) := by rw [b6.cell, e4]; rfl
  clear e4 hB1 HR H40 hg5
  refine wpList_plain rfl (fun K hK => ?_)
  go_simp
  refine hK _ _ ?_
  clear hK K
  try simp only [Act.put, zSa, zSz, zSs]
  refine wpList_plain rfl (fun K hK => ?_)
  go_simp
  refine hK _ _ ?_
  clear hK K
  try simp only [Act.put, zSa, zSz, zSs]
  go_wp2
  go_ret
  exact ⟨by first | rfl | decide, hb16⟩
end Go.Proofs.YtagblbfbjemfhaaDoor
