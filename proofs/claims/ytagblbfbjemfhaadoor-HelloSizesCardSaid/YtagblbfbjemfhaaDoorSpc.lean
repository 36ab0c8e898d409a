/-
  The reference's Special: the random of a Retry.
-/
import Derived.Test.YtagblbfbjemfhaaDoorJh
import Derived.Lib.BufferWrite
namespace Go.Proofs.YtagblbfbjemfhaaDoor
open Go.RowKit
open HelloMath (Msg zero32 special)

theorem wpList_copy_str {ops : Array Oper} {rest : List Oper} {o : Oper} {a : Act} {w : World} {Q : Exit → Act → World → Prop} (hgd : o.guard = none) (d s : Operand) (dT sT : TypeId)
    (ho : o.op = .call { callee := .builtin .copy, args := #[d, s], argTypes := #[dT, sT] }) (elem : TypeId) (hu : Tryd.prog.underlying dT = some (.slice elem)) (hsz : (Tryd.prog.info? elem).map (·.size) = some 1)
    (g dLen dCap : Nat) (str : ByteArray) (hd : a.eval d = .slice (some ⟨g, 0, none⟩) dLen dCap) (hs : a.eval s = .string str) (cur : List Value) (t : TypeId) (hg : Blk w g t cur) (hle : str.size ≤ dLen) (hfit : str.size ≤ cur.length)
    (h : ∀ w', Blk w' g t (Lib.byteCells str.data.toList ++ cur.drop str.size) → w.grownBy w' (some g) → wpList Tryd.prog ops Q rest (a.put o.dst (goInt str.size)) w') : wpList Tryd.prog ops Q (o :: rest) a w := by
  refine wpList_plain hgd fun _ hK' => ?_
  have hr := Lib.run_copy_row_string (P := Tryd.prog) w dT sT o.type elem g 0 dLen dCap str cur.toArray t hu hsz hg hle (by simpa using hfit)
  unfold Oper.wp execOp
  simp only [ho, resolve, invoke, builtin, Sem.run_bind, Sem.run_pure, Result.andThen_ok, List.map_toArray, List.map_cons, List.map_nil, hd, hs, hr]
  refine hK' _ _ (h _ ?_ (grown_setRow _ _ _))
  have := hg.row (Lib.byteCells str.data.toList ++ cur.drop str.size)
  simpa using this
theorem special_len : special.length = 32 := rfl
set_option maxRecDepth 100000 in
set_option maxHeartbeats 400000 in
theorem special_e (w : World) : Calls Tryd.prog 19 #[] w fun e w' => e = .returned (.agg (special.map B8).toArray) ∧ Below w.heap.size w w' := by
  have hzl : (zero32.map B8).length = 32 := rfl
  have hsl : (special.map B8).length = 32 := rfl
  go_enter Tryd.func19, Tryd.ntmps19
  go_upto_region 0 with (fail)
  refine wp_region_lit ?_
  refine wpList_new_blk rfl 22 rfl (zero32.map B8) zeroB32 ?_
  intro g0 w1 hg0 bg0 hbw1
  try simp only [Act.put, List.setIfInBounds_toArray, List.set_cons_zero]
  have HG0 := Lib.hid (show w.heap.size ≤ g0 from Nat.le_of_eq hg0.symm)
  go_upto_region 1 with (fail)
  refine wp_region_lit ?_
  refine wpList_new_blk rfl 22 rfl (zero32.map B8) zeroB32 ?_
  intro g1 w2 hg1 bg1 hbw2
  try simp only [Act.put, List.setIfInBounds_toArray, List.set_cons_zero, List.set_cons_succ]
  have hne : g0 ≠ g1 := by have := bg0.lt; omega
  have HG1 := Lib.hid (show w.heap.size ≤ g1 by have := hbw1.size; omega)
  replace bg0 := bg0.below hbw2 bg0.lt
  have hb2 := hbw1.trans (hbw2.mono hbw1.size)
  clear hg0 hg1 hbw1 hbw2
  go_upto_region 2 with (fail)
  refine wp_region_lit ?_
  refine wpList_plain rfl (fun K hK => ?_)
  refine wp_rowOf rfl Tryd.underlying22 (fun w => size8 w) rfl ?_
  refine hK _ _ ?_
  clear hK K
  try simp only [Act.put, List.setIfInBounds_toArray, List.set_cons_zero, List.set_cons_succ]
  refine wpList_copy_str rfl (.tmp 2) _ 27 9 rfl 5 Tryd.underlying27 (by kernel_rfl) g1 32 32 ⟨special.toArray⟩ rfl rfl _ 22 bg1 (by rw [show (⟨special.toArray⟩ : ByteArray).size = 32 from rfl]; exact Nat.le_refl _) (by rw [hzl, show (⟨special.toArray⟩ : ByteArray).size = 32 from rfl]; exact Nat.le_refl _) ?_
  intro w3 b3 hg3
  rw [show (⟨special.toArray⟩ : ByteArray).size = 32 from rfl, List.drop_of_length_le (by rw [hzl]; exact Nat.le_refl _), List.append_nil] at b3
  replace b3 : Blk w3 g1 22 (special.map B8) := b3
  replace bg0 := bg0.grown hg3 (by simpa using hne)
  have hb3 := below_new hb2 hg3 HG1.out hb2.size
  clear bg1 hb2 hg3
  try simp only [Act.put, List.setIfInBounds_toArray, List.set_cons_zero, List.set_cons_succ]
  go_upto_region 3 with (fail)
  refine wp_region_lit ?_
  refine wpList_load_mid rfl 22 (.tmp 1) rfl g1 0 rfl (special.map B8) _ (rangeAt_of_blk b3) Tryd.underlying22 rfl (info40.trans (by rw [hsl])) ?_
  try simp only [Act.put, List.setIfInBounds_toArray, List.set_cons_zero, List.set_cons_succ]
  refine wpList_store_blk rfl 22 (.tmp 0) (.tmp 4) rfl rfl g0 (special.map B8) rfl rfl _ _ bg0 (info40.trans (by rw [hsl])) (by rw [hzl, hsl]) (one8 _) ?_
  intro w4 b4 hg4
  try simp only [Act.put, List.setIfInBounds_toArray, List.set_cons_zero, List.set_cons_succ]
  have hb4 := below_new hb3 hg4 HG0.out hb3.size
  clear hb3 hg4 b3 bg0
  go_wp2
  refine bodyPost_ret (v := .agg _) (results_row1 Tryd.results19 _ _ g0 0 (special.map B8) _ rfl (rangeAt_of_blk b4) Tryd.underlying22 rfl (info40.trans (by rw [hsl]))) rfl ⟨rfl, hb4⟩
end Go.Proofs.YtagblbfbjemfhaaDoor
