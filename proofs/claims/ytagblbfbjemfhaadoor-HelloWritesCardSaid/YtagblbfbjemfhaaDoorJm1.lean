/-
  The reference's Special, numbers, counted rows, bare; steps of a function over a copy of its message.
-/
import Derived.Test.YtagblbfbjemfhaaDoorJh
import Derived.Lib.BufferWrite
namespace Go.Proofs.YtagblbfbjemfhaaDoor
section
open Go.RowKit
open HelloMath (Msg zero32 special)

theorem wpList_copy_str {ops : Array Oper} {rest : List Oper} {o : Oper} {a : Act} {w : World} {Q : Exit → Act → World → Prop} (hgd : o.guard = none) (d s : Operand) (dT sT : TypeId)
    (ho : o.op = .call { callee := .builtin .copy, args := #[d, s], argTypes := #[dT, sT] }) (elem : TypeId) (hu : Tryd.prog.underlying dT = some (.slice elem)) (hsz : (Tryd.prog.info? elem).map (·.size) = some 1)
    (g dLen dCap : Nat) (str : ByteArray) (hd : a.eval d = .slice (some ⟨g, 0, none⟩) dLen dCap) (hs : a.eval s = .string str) (cur : List Value) (t : TypeId) (hg : Blk w g t cur) (hle : str.size ≤ dLen) (hfit : str.size ≤ cur.length)
    (h : ∀ w', Blk w' g t (Lib.byteCells str.data.toList ++ cur.drop str.size) → w.grownBy w' (some g) → wpList Tryd.prog ops Q rest (a.put o.dst (goInt str.size)) w') : wpList Tryd.prog ops Q (o :: rest) a w := by
  refine wpList_plain hgd fun _ hK' => ?_
  have hr := Lib.run_copy_row_string (P := Tryd.prog) w dT sT o.type elem g 0 dLen dCap str cur.toArray t hu hsz hg hle (by simpa using hfit)
  unfold Oper.wp execOp
  simp only [ho, resolve, invoke, builtin, Sem.run_bind, Sem.run_pure, Result.andThen_ok, List.map_toArray, List.map_cons, List.map_nil, hd, hs, hr]
  refine hK' _ _ (h _ ?_ (grown_setRow _ _ _))
  have := hg.row (Lib.byteCells str.data.toList ++ cur.drop str.size)
  simpa using this
theorem special_len : special.length = 32 := rfl
set_option maxRecDepth 100000 in
set_option maxHeartbeats 400000 in
theorem special_e (w : World) : Calls Tryd.prog 19 #[] w fun e w' => e = .returned (.agg (special.map B8).toArray) ∧ Below w.heap.size w w' := by
  have hzl : (zero32.map B8).length = 32 := rfl
  have hsl : (special.map B8).length = 32 := rfl
  go_enter Tryd.func19, Tryd.ntmps19
  go_upto_region 0 with (fail)
  refine wp_region_lit ?_
  refine wpList_new_blk rfl 22 rfl (zero32.map B8) zeroB32 ?_
  intro g0 w1 hg0 bg0 hbw1
  try simp only [Act.put, List.setIfInBounds_toArray, List.set_cons_zero]
  have HG0 := Lib.hid (show w.heap.size ≤ g0 from Nat.le_of_eq hg0.symm)
  go_upto_region 1 with (fail)
  refine wp_region_lit ?_
  refine wpList_new_blk rfl 22 rfl (zero32.map B8) zeroB32 ?_
  intro g1 w2 hg1 bg1 hbw2
  try simp only [Act.put, zSa, zSz, zSs]
  have hne : g0 ≠ g1 := by have := bg0.lt; omega
  have HG1 := Lib.hid (show w.heap.size ≤ g1 by have := hbw1.size; omega)
  replace bg0 := bg0.below hbw2 bg0.lt
  have hb2 := hbw1.trans (hbw2.mono hbw1.size)
  clear hg0 hg1 hbw1 hbw2
  go_upto_region 2 with (fail)
  refine wp_region_lit ?_
  refine wpList_plain rfl (fun K hK => ?_)
  refine wp_rowOf rfl Tryd.underlying22 (fun w => size8 w) rfl ?_
  refine hK _ _ ?_
  clear hK K
  try simp only [Act.put, zSa, zSz, zSs]
  refine wpList_copy_str rfl (.tmp 2) _ 27 9 rfl 5 Tryd.underlying27 (by kernel_rfl) g1 32 32 ⟨special.toArray⟩ rfl rfl _ 22 bg1 (by rw [show (⟨special.toArray⟩ : ByteArray).size = 32 from rfl]; exact Nat.le_refl _) (by rw [hzl, show (⟨special.toArray⟩ : ByteArray).size = 32 from rfl]; exact Nat.le_refl _) ?_
  intro w3 b3 hg3
  rw [show (⟨special.toArray⟩ : ByteArray).size = 32 from rfl, List.drop_of_length_le (by rw [hzl]; exact Nat.le_refl _), List.append_nil] at b3
  replace b3 : Blk w3 g1 22 (special.map B8) := b3
  replace bg0 := bg0.grown hg3 (by simpa using hne)
  have hb3 := below_new hb2 hg3 HG1.out hb2.size
  clear bg1 hb2 hg3
  try simp only [Act.put, zSa, zSz, zSs]
  go_upto_region 3 with (fail)
  refine wp_region_lit ?_
  refine wpList_load_mid rfl 22 (.tmp 1) rfl g1 0 rfl (special.map B8) _ (rangeAt_of_blk b3) Tryd.underlying22 rfl (info40.trans (by rw [hsl])) ?_
  try simp only [Act.put, zSa, zSz, zSs]
  refine wpList_store_blk rfl 22 (.tmp 0) (.tmp 4) rfl rfl g0 (special.map B8) rfl rfl _ _ bg0 (info40.trans (by rw [hsl])) (by rw [hzl, hsl]) (one8 _) ?_
  intro w4 b4 hg4
  try simp only [Act.put, zSa, zSz, zSs]
  have hb4 := below_new hb3 hg4 HG0.out hb3.size
  clear hb3 hg4 b3 bg0
  go_wp2
  refine bodyPost_ret (v := .agg _) (results_row1 Tryd.results19 _ _ g0 0 (special.map B8) _ rfl (rangeAt_of_blk b4) Tryd.underlying22 rfl (info40.trans (by rw [hsl]))) rfl ⟨rfl, hb4⟩
end

section
open Go.RowKit
open HelloMath (Msg numB numB_length vecB wide)

section
variable {ops : Array Oper} {rest : List Oper} {o : Oper} {a : Act} {w : World} {Q : Exit → Act → World → Prop}
theorem wpList_byteOne (hgd : o.guard = none) (x : Operand) (ho : o.op = .buildSlice 27 1 #[(0, x)]) (b : UInt8) (hx : a.eval x = .int .u8 (b.toNat : Int))
    (h : ∀ v w', SlV w' v [b] → Below w.heap.size w w' → wpList Tryd.prog ops Q rest (a.put o.dst v) w') : wpList Tryd.prog ops Q (o :: rest) a w :=
  wpList_bytesc hgd [b] ho rfl (by decide) (by simp only [List.map_toArray, List.map_cons, List.map_nil, hx]; exact byte1 _) h
end
theorem num_byte2 (n j : Nat) (S : Int) (x : Nat) (hx : 256 ^ j = x) (hS : 2 ^ min (IntKind.i64.wrap S).toNat 64 = x) : ∃ b : UInt8, UInt8.ofNat (n / 256 ^ j) = b ∧ IntKind.u8.wrap ((n : Int).fdiv (2 ^ min (IntKind.i64.wrap S).toNat 64)) = (b.toNat : Int) := by
  refine ⟨_, rfl, ?_⟩
  have e : (2 : Int) ^ min (IntKind.i64.wrap S).toNat 64 = ((x : Nat) : Int) := by rw [← hS]; simp
  rw [e, IntKind.wrap_u8, Int.fdiv_eq_ediv_of_nonneg _ (by omega), hx]
  exact n_byte n x
set_option maxRecDepth 100000 in
set_option maxHeartbeats 1000000 in
theorem num_1 (n : Nat) (w : World) (hn : n < 4294967296) : Calls Tryd.prog 41 #[.int .i64 (n : Int), (.int .i64 1)] w fun e w' => e = .returned (TX (numB 1 n)) ∧ Below w.heap.size w w' := by
  have HN := Lib.hid hn
  clear hn
  go_enter Tryd.func41, Tryd.ntmps41
  go_wp2
  go_loopw [6, 5] (fun i b wl => ∃ (q : Nat) (bs : List UInt8), ((q = 0 ∧ i = .int .i64 (-1)) ∨ (q = 1 ∧ i = .int .i64 0)) ∧ bs ++ numB q n = numB 1 n ∧ BufV wl w.heap.size b bs ∧ Below w.heap.size w wl) (fun i _ _ => (intOf i + 1).toNat)
  case atStart => exact ⟨1, [], by simp, by simp, ⟨none, 0, rfl, Buf.nil _ _⟩, Below.refl _ _⟩
  case round =>
    obtain ⟨q, bs, hq, hbs, hB, hb⟩ := hrel
    have HL := Lib.hid (show bs.length + 1 ≤ 1099511627776 by have h := congrArg List.length hbs; rw [List.length_append, numB_length, numB_length] at h; omega)
    have HB := Lib.hid hb
    rcases hq with ⟨rfl, rfl⟩ | ⟨rfl, rfl⟩
    · have he : bs = numB 1 n := by rw [← hbs]; exact (List.append_nil _).symm
      subst he
      have hcv := run_strV hB.sl
      clear hbs hB HL
      go_wp2
      go_ret
      exact ⟨rfl, HB.out⟩
    · obtain ⟨b, hbe, hbv⟩ := num_byte2 n 0 0 1 rfl (by decide)
      have HBS := Lib.hid (show (bs ++ [b]) ++ numB 0 n = numB 1 n by rw [← hbs, numB_front 0 n, hbe]; simp)
      have HSB := Lib.hid (hB.sl)
      clear hbs hbe
      go_upto_region 5 with (fail)
      refine wp_region_lit ?_
      refine wpList_plain rfl (fun K hK => ?_)
      go_simp
      refine hK _ _ ?_
      clear hK K
      try simp only [Act.put, zSa, zSz, zSs]
      refine wpList_plain rfl (fun K hK => ?_)
      go_simp
      refine hK _ _ ?_
      clear hK K
      try simp only [Act.put, zSa, zSz, zSs]
      refine wpList_plain rfl (fun K hK => ?_)
      go_simp
      refine hK _ _ ?_
      clear hK K
      try simp only [Act.put, zSa, zSz, zSs]
      refine wpList_plain rfl (fun K hK => ?_)
      go_simp
      refine hK _ _ ?_
      clear hK K
      try simp only [Act.put, zSa, zSz, zSs]
      refine wpList_plain rfl (fun K hK => ?_)
      go_simp
      refine hK _ _ ?_
      clear hK K
      try simp only [Act.put, zSa, zSz, zSs]
      refine wpList_plain rfl (fun K hK => ?_)
      go_simp
      refine hK _ _ ?_
      clear hK K
      try simp only [Act.put, zSa, zSz, zSs]

      refine wpList_byteOne rfl (.tmp 18) rfl b rfl ?_
      intro v19 w1 hv19 hb1
      try simp only [Act.put, zSa, zSz, zSs]
      have hB1 := hB.below hb1
      have hbb := HB.out.trans (hb1.mono HB.out.size)
      refine wpList_appVK rfl (.tmp 13) (.tmp 19) rfl w.heap.size _ v19 bs [b] rfl hB1 rfl hv19 HL.out hbb.size ?_
      intro v20 w2 hB2 _ hb2
      try simp only [Act.put, zSa, zSz, zSs]
      have HB2 := Lib.hid (hbb.trans hb2)
      clear hB hb hv19 hb1 hB1 hbb hb2 hbv
      go_wp2
      go_roundw
      case rel => exact ⟨0, bs ++ [b], by simp, HBS.out, hB2, HB2.out⟩
      case measure => decide
set_option maxRecDepth 100000 in
set_option maxHeartbeats 1000000 in
theorem num_2 (n : Nat) (w : World) (hn : n < 4294967296) : Calls Tryd.prog 41 #[.int .i64 (n : Int), (.int .i64 2)] w fun e w' => e = .returned (TX (numB 2 n)) ∧ Below w.heap.size w w' := by
  have HN := Lib.hid hn
  clear hn
  go_enter Tryd.func41, Tryd.ntmps41
  go_wp2
  go_loopw [6, 5] (fun i b wl => ∃ (q : Nat) (bs : List UInt8), ((q = 0 ∧ i = .int .i64 (-1)) ∨ (q = 1 ∧ i = .int .i64 0) ∨ (q = 2 ∧ i = .int .i64 1)) ∧ bs ++ numB q n = numB 2 n ∧ BufV wl w.heap.size b bs ∧ Below w.heap.size w wl) (fun i _ _ => (intOf i + 1).toNat)
  case atStart => exact ⟨2, [], by simp, by simp, ⟨none, 0, rfl, Buf.nil _ _⟩, Below.refl _ _⟩
  case round =>
    obtain ⟨q, bs, hq, hbs, hB, hb⟩ := hrel
    have HL := Lib.hid (show bs.length + 1 ≤ 1099511627776 by have h := congrArg List.length hbs; rw [List.length_append, numB_length, numB_length] at h; omega)
    have HB := Lib.hid hb
    rcases hq with ⟨rfl, rfl⟩ | ⟨rfl, rfl⟩ | ⟨rfl, rfl⟩
    · have he : bs = numB 2 n := by rw [← hbs]; exact (List.append_nil _).symm
      subst he
      have hcv := run_strV hB.sl
      clear hbs hB HL
      go_wp2
      go_ret
      exact ⟨rfl, HB.out⟩
    · obtain ⟨b, hbe, hbv⟩ := num_byte2 n 0 0 1 rfl (by decide)
      have HBS := Lib.hid (show (bs ++ [b]) ++ numB 0 n = numB 2 n by rw [← hbs, numB_front 0 n, hbe]; simp)
      have HSB := Lib.hid (hB.sl)
      clear hbs hbe
      go_upto_region 5 with (fail)
      refine wp_region_lit ?_
      refine wpList_plain rfl (fun K hK => ?_)
      go_simp
      refine hK _ _ ?_
      clear hK K
      try simp only [Act.put, zSa, zSz, zSs]
      refine wpList_plain rfl (fun K hK => ?_)
      go_simp
      refine hK _ _ ?_
      clear hK K
      try simp only [Act.put, zSa, zSz, zSs]
      refine wpList_plain rfl (fun K hK => ?_)
      go_simp
      refine hK _ _ ?_
      clear hK K
      try simp only [Act.put, zSa, zSz, zSs]
      refine wpList_plain rfl (fun K hK => ?_)
      go_simp
      refine hK _ _ ?_
      clear hK K
      try simp only [Act.put, zSa, zSz, zSs]
      refine wpList_plain rfl (fun K hK => ?_)
      go_simp
      refine hK _ _ ?_
      clear hK K
      try simp only [Act.put, zSa, zSz, zSs]
      refine wpList_plain rfl (fun K hK => ?_)
      go_simp
      refine hK _ _ ?_
      clear hK K
      try simp only [Act.put, zSa, zSz, zSs]

      refine wpList_byteOne rfl (.tmp 18) rfl b rfl ?_
      intro v19 w1 hv19 hb1
      try simp only [Act.put, zSa, zSz, zSs]
      have hB1 := hB.below hb1
      have hbb := HB.out.trans (hb1.mono HB.out.size)
      refine wpList_appVK rfl (.tmp 13) (.tmp 19) rfl w.heap.size _ v19 bs [b] rfl hB1 rfl hv19 HL.out hbb.size ?_
      intro v20 w2 hB2 _ hb2
      try simp only [Act.put, zSa, zSz, zSs]
      have HB2 := Lib.hid (hbb.trans hb2)
      clear hB hb hv19 hb1 hB1 hbb hb2 hbv
      go_wp2
      go_roundw
      case rel => exact ⟨0, bs ++ [b], by simp, HBS.out, hB2, HB2.out⟩
      case measure => decide
    · obtain ⟨b, hbe, hbv⟩ := num_byte2 n 1 8 256 rfl (by decide)
      have HBS := Lib.hid (show (bs ++ [b]) ++ numB 1 n = numB 2 n by rw [← hbs, numB_front 1 n, hbe]; simp)
      have HSB := Lib.hid (hB.sl)
      clear hbs hbe
      go_upto_region 5 with (fail)
      refine wp_region_lit ?_
      refine wpList_plain rfl (fun K hK => ?_)
      go_simp
      refine hK _ _ ?_
      clear hK K
      try simp only [Act.put, zSa, zSz, zSs]
      refine wpList_plain rfl (fun K hK => ?_)
      go_simp
      refine hK _ _ ?_
      clear hK K
      try simp only [Act.put, zSa, zSz, zSs]
      refine wpList_plain rfl (fun K hK => ?_)
      go_simp
      refine hK _ _ ?_
      clear hK K
      try simp only [Act.put, zSa, zSz, zSs]
      refine wpList_plain rfl (fun K hK => ?_)
      go_simp
      refine hK _ _ ?_
      clear hK K
      try simp only [Act.put, zSa, zSz, zSs]
      refine wpList_plain rfl (fun K hK => ?_)
      go_simp
      refine hK _ _ ?_
      clear hK K
      try simp only [Act.put, zSa, zSz, zSs]
      refine wpList_plain rfl (fun K hK => ?_)
      go_simp
      refine hK _ _ ?_
      clear hK K
      try simp only [Act.put, zSa, zSz, zSs]

      refine wpList_byteOne rfl (.tmp 18) rfl b rfl ?_
      intro v19 w1 hv19 hb1
      try simp only [Act.put, zSa, zSz, zSs]
      have hB1 := hB.below hb1
      have hbb := HB.out.trans (hb1.mono HB.out.size)
      refine wpList_appVK rfl (.tmp 13) (.tmp 19) rfl w.heap.size _ v19 bs [b] rfl hB1 rfl hv19 HL.out hbb.size ?_
      intro v20 w2 hB2 _ hb2
      try simp only [Act.put, zSa, zSz, zSs]
      have HB2 := Lib.hid (hbb.trans hb2)
      clear hB hb hv19 hb1 hB1 hbb hb2 hbv
      go_wp2
      go_roundw
      case rel => exact ⟨1, bs ++ [b], by simp, HBS.out, hB2, HB2.out⟩
      case measure => decide
set_option maxRecDepth 100000 in
set_option maxHeartbeats 1000000 in
theorem num_3 (n : Nat) (w : World) (hn : n < 4294967296) : Calls Tryd.prog 41 #[.int .i64 (n : Int), (.int .i64 3)] w fun e w' => e = .returned (TX (numB 3 n)) ∧ Below w.heap.size w w' := by
  have HN := Lib.hid hn
  clear hn
  go_enter Tryd.func41, Tryd.ntmps41
  go_wp2
  go_loopw [6, 5] (fun i b wl => ∃ (q : Nat) (bs : List UInt8), ((q = 0 ∧ i = .int .i64 (-1)) ∨ (q = 1 ∧ i = .int .i64 0) ∨ (q = 2 ∧ i = .int .i64 1) ∨ (q = 3 ∧ i = .int .i64 2)) ∧ bs ++ numB q n = numB 3 n ∧ BufV wl w.heap.size b bs ∧ Below w.heap.size w wl) (fun i _ _ => (intOf i + 1).toNat)
  case atStart => exact ⟨3, [], by simp, by simp, ⟨none, 0, rfl, Buf.nil _ _⟩, Below.refl _ _⟩
  case round =>
    obtain ⟨q, bs, hq, hbs, hB, hb⟩ := hrel
    have HL := Lib.hid (show bs.length + 1 ≤ 1099511627776 by have h := congrArg List.length hbs; rw [List.length_append, numB_length, numB_length] at h; omega)
    have HB := Lib.hid hb
    rcases hq with ⟨rfl, rfl⟩ | ⟨rfl, rfl⟩ | ⟨rfl, rfl⟩ | ⟨rfl, rfl⟩
    · have he : bs = numB 3 n := by rw [← hbs]; exact (List.append_nil _).symm
      subst he
      have hcv := run_strV hB.sl
      clear hbs hB HL
      go_wp2
      go_ret
      exact ⟨rfl, HB.out⟩
    · obtain ⟨b, hbe, hbv⟩ := num_byte2 n 0 0 1 rfl (by decide)
      have HBS := Lib.hid (show (bs ++ [b]) ++ numB 0 n = numB 3 n by rw [← hbs, numB_front 0 n, hbe]; simp)
      have HSB := Lib.hid (hB.sl)
      clear hbs hbe
      go_upto_region 5 with (fail)
      refine wp_region_lit ?_
      refine wpList_plain rfl (fun K hK => ?_)
      go_simp
      refine hK _ _ ?_
      clear hK K
      try simp only [Act.put, zSa, zSz, zSs]
      refine wpList_plain rfl (fun K hK => ?_)
      go_simp
      refine hK _ _ ?_
      clear hK K
      try simp only [Act.put, zSa, zSz, zSs]
      refine wpList_plain rfl (fun K hK => ?_)
      go_simp
      refine hK _ _ ?_
      clear hK K
      try simp only [Act.put, zSa, zSz, zSs]
      refine wpList_plain rfl (fun K hK => ?_)
      go_simp
      refine hK _ _ ?_
      clear hK K
      try simp only [Act.put, zSa, zSz, zSs]
      refine wpList_plain rfl (fun K hK => ?_)
      go_simp
      refine hK _ _ ?_
      clear hK K
      try simp only [Act.put, zSa, zSz, zSs]
      refine wpList_plain rfl (fun K hK => ?_)
      go_simp
      refine hK _ _ ?_
      clear hK K
      try simp only [Act.put, zSa, zSz, zSs]

      refine wpList_byteOne rfl (.tmp 18) rfl b rfl ?_
      intro v19 w1 hv19 hb1
      try simp only [Act.put, zSa, zSz, zSs]
      have hB1 := hB.below hb1
      have hbb := HB.out.trans (hb1.mono HB.out.size)
      refine wpList_appVK rfl (.tmp 13) (.tmp 19) rfl w.heap.size _ v19 bs [b] rfl hB1 rfl hv19 HL.out hbb.size ?_
      intro v20 w2 hB2 _ hb2
      try simp only [Act.put, zSa, zSz, zSs]
      have HB2 := Lib.hid (hbb.trans hb2)
      clear hB hb hv19 hb1 hB1 hbb hb2 hbv
      go_wp2
      go_roundw
      case rel => exact ⟨0, bs ++ [b], by simp, HBS.out, hB2, HB2.out⟩
      case measure => decide
    · obtain ⟨b, hbe, hbv⟩ := num_byte2 n 1 8 256 rfl (by decide)
      have HBS := Lib.hid (show (bs ++ [b]) ++ numB 1 n = numB 3 n by rw [← hbs, numB_front 1 n, hbe]; simp)
      have HSB := Lib.hid (hB.sl)
      clear hbs hbe
      go_upto_region 5 with (fail)
      refine wp_region_lit ?_
      refine wpList_plain rfl (fun K hK => ?_)
      go_simp
      refine hK _ _ ?_
      clear hK K
      try simp only [Act.put, zSa, zSz, zSs]
      refine wpList_plain rfl (fun K hK => ?_)
      go_simp
      refine hK _ _ ?_
      clear hK K
      try simp only [Act.put, zSa, zSz, zSs]
      refine wpList_plain rfl (fun K hK => ?_)
      go_simp
      refine hK _ _ ?_
      clear hK K
      try simp only [Act.put, zSa, zSz, zSs]
      refine wpList_plain rfl (fun K hK => ?_)
      go_simp
      refine hK _ _ ?_
      clear hK K
      try simp only [Act.put, zSa, zSz, zSs]
      refine wpList_plain rfl (fun K hK => ?_)
      go_simp
      refine hK _ _ ?_
      clear hK K
      try simp only [Act.put, zSa, zSz, zSs]
      refine wpList_plain rfl (fun K hK => ?_)
      go_simp
      refine hK _ _ ?_
      clear hK K
      try simp only [Act.put, zSa, zSz, zSs]

      refine wpList_byteOne rfl (.tmp 18) rfl b rfl ?_
      intro v19 w1 hv19 hb1
      try simp only [Act.put, zSa, zSz, zSs]
      have hB1 := hB.below hb1
      have hbb := HB.out.trans (hb1.mono HB.out.size)
      refine wpList_appVK rfl (.tmp 13) (.tmp 19) rfl w.heap.size _ v19 bs [b] rfl hB1 rfl hv19 HL.out hbb.size ?_
      intro v20 w2 hB2 _ hb2
      try simp only [Act.put, zSa, zSz, zSs]
      have HB2 := Lib.hid (hbb.trans hb2)
      clear hB hb hv19 hb1 hB1 hbb hb2 hbv
      go_wp2
      go_roundw
      case rel => exact ⟨1, bs ++ [b], by simp, HBS.out, hB2, HB2.out⟩
      case measure => decide
    · obtain ⟨b, hbe, hbv⟩ := num_byte2 n 2 16 65536 rfl (by decide)
      have HBS := Lib.hid (show (bs ++ [b]) ++ numB 2 n = numB 3 n by rw [← hbs, numB_front 2 n, hbe]; simp)
      have HSB := Lib.hid (hB.sl)
      clear hbs hbe
      go_upto_region 5 with (fail)
      refine wp_region_lit ?_
      refine wpList_plain rfl (fun K hK => ?_)
      go_simp
      refine hK _ _ ?_
      clear hK K
      try simp only [Act.put, zSa, zSz, zSs]
      refine wpList_plain rfl (fun K hK => ?_)
      go_simp
      refine hK _ _ ?_
      clear hK K
      try simp only [Act.put, zSa, zSz, zSs]
      refine wpList_plain rfl (fun K hK => ?_)
      go_simp
      refine hK _ _ ?_
      clear hK K
      try simp only [Act.put, zSa, zSz, zSs]
      refine wpList_plain rfl (fun K hK => ?_)
      go_simp
      refine hK _ _ ?_
      clear hK K
      try simp only [Act.put, zSa, zSz, zSs]
      refine wpList_plain rfl (fun K hK => ?_)
      go_simp
      refine hK _ _ ?_
      clear hK K
      try simp only [Act.put, zSa, zSz, zSs]
      refine wpList_plain rfl (fun K hK => ?_)
      go_simp
      refine hK _ _ ?_
      clear hK K
      try simp only [Act.put, zSa, zSz, zSs]

      refine wpList_byteOne rfl (.tmp 18) rfl b rfl ?_
      intro v19 w1 hv19 hb1
      try simp only [Act.put, zSa, zSz, zSs]
      have hB1 := hB.below hb1
      have hbb := HB.out.trans (hb1.mono HB.out.size)
      refine wpList_appVK rfl (.tmp 13) (.tmp 19) rfl w.heap.size _ v19 bs [b] rfl hB1 rfl hv19 HL.out hbb.size ?_
      intro v20 w2 hB2 _ hb2
      try simp only [Act.put, zSa, zSz, zSs]
      have HB2 := Lib.hid (hbb.trans hb2)
      clear hB hb hv19 hb1 hB1 hbb hb2 hbv
      go_wp2
      go_roundw
      case rel => exact ⟨2, bs ++ [b], by simp, HBS.out, hB2, HB2.out⟩
      case measure => decide
set_option maxRecDepth 100000 in
set_option maxHeartbeats 1000000 in
theorem num_4 (n : Nat) (w : World) (hn : n < 4294967296) : Calls Tryd.prog 41 #[.int .i64 (n : Int), (.int .i64 4)] w fun e w' => e = .returned (TX (numB 4 n)) ∧ Below w.heap.size w w' := by
  have HN := Lib.hid hn
  clear hn
  go_enter Tryd.func41, Tryd.ntmps41
  go_wp2
  go_loopw [6, 5] (fun i b wl => ∃ (q : Nat) (bs : List UInt8), ((q = 0 ∧ i = .int .i64 (-1)) ∨ (q = 1 ∧ i = .int .i64 0) ∨ (q = 2 ∧ i = .int .i64 1) ∨ (q = 3 ∧ i = .int .i64 2) ∨ (q = 4 ∧ i = .int .i64 3)) ∧ bs ++ numB q n = numB 4 n ∧ BufV wl w.heap.size b bs ∧ Below w.heap.size w wl) (fun i _ _ => (intOf i + 1).toNat)
  case atStart => exact ⟨4, [], by simp, by simp, ⟨none, 0, rfl, Buf.nil _ _⟩, Below.refl _ _⟩
  case round =>
    obtain ⟨q, bs, hq, hbs, hB, hb⟩ := hrel
    have HL := Lib.hid (show bs.length + 1 ≤ 1099511627776 by have h := congrArg List.length hbs; rw [List.length_append, numB_length, numB_length] at h; omega)
    have HB := Lib.hid hb
    rcases hq with ⟨rfl, rfl⟩ | ⟨rfl, rfl⟩ | ⟨rfl, rfl⟩ | ⟨rfl, rfl⟩ | ⟨rfl, rfl⟩
    · have he : bs = numB 4 n := by rw [← hbs]; exact (List.append_nil _).symm
      subst he
      have hcv := run_strV hB.sl
      clear hbs hB HL
      go_wp2
      go_ret
      exact ⟨rfl, HB.out⟩
    · obtain ⟨b, hbe, hbv⟩ := num_byte2 n 0 0 1 rfl (by decide)
      have HBS := Lib.hid (show (bs ++ [b]) ++ numB 0 n = numB 4 n by rw [← hbs, numB_front 0 n, hbe]; simp)
      have HSB := Lib.hid (hB.sl)
      clear hbs hbe
      go_upto_region 5 with (fail)
      refine wp_region_lit ?_
      refine wpList_plain rfl (fun K hK => ?_)
      go_simp
      refine hK _ _ ?_
      clear hK K
      try simp only [Act.put, zSa, zSz, zSs]
      refine wpList_plain rfl (fun K hK => ?_)
      go_simp
      refine hK _ _ ?_
      clear hK K
      try simp only [Act.put, zSa, zSz, zSs]
      refine wpList_plain rfl (fun K hK => ?_)
      go_simp
      refine hK _ _ ?_
      clear hK K
      try simp only [Act.put, zSa, zSz, zSs]
      refine wpList_plain rfl (fun K hK => ?_)
      go_simp
      refine hK _ _ ?_
      clear hK K
      try simp only [Act.put, zSa, zSz, zSs]
      refine wpList_plain rfl (fun K hK => ?_)
      go_simp
      refine hK _ _ ?_
      clear hK K
      try simp only [Act.put, zSa, zSz, zSs]
      refine wpList_plain rfl (fun K hK => ?_)
      go_simp
      refine hK _ _ ?_
      clear hK K
      try simp only [Act.put, zSa, zSz, zSs]

      refine wpList_byteOne rfl (.tmp 18) rfl b rfl ?_
      intro v19 w1 hv19 hb1
      try simp only [Act.put, zSa, zSz, zSs]
      have hB1 := hB.below hb1
      have hbb := HB.out.trans (hb1.mono HB.out.size)
      refine wpList_appVK rfl (.tmp 13) (.tmp 19) rfl w.heap.size _ v19 bs [b] rfl hB1 rfl hv19 HL.out hbb.size ?_
      intro v20 w2 hB2 _ hb2
      try simp only [Act.put, zSa, zSz, zSs]
      have HB2 := Lib.hid (hbb.trans hb2)
      clear hB hb hv19 hb1 hB1 hbb hb2 hbv
      go_wp2
      go_roundw
      case rel => exact ⟨0, bs ++ [b], by simp, HBS.out, hB2, HB2.out⟩
      case measure => decide
    · obtain ⟨b, hbe, hbv⟩ := num_byte2 n 1 8 256 rfl (by decide)
      have HBS := Lib.hid (show (bs ++ [b]) ++ numB 1 n = numB 4 n by rw [← hbs, numB_front 1 n, hbe]; simp)
      have HSB := Lib.hid (hB.sl)
      clear hbs hbe
      go_upto_region 5 with (fail)
      refine wp_region_lit ?_
      refine wpList_plain rfl (fun K hK => ?_)
      go_simp
      refine hK _ _ ?_
      clear hK K
      try simp only [Act.put, zSa, zSz, zSs]
      refine wpList_plain rfl (fun K hK => ?_)
      go_simp
      refine hK _ _ ?_
      clear hK K
      try simp only [Act.put, zSa, zSz, zSs]
      refine wpList_plain rfl (fun K hK => ?_)
      go_simp
      refine hK _ _ ?_
      clear hK K
      try simp only [Act.put, zSa, zSz, zSs]
      refine wpList_plain rfl (fun K hK => ?_)
      go_simp
      refine hK _ _ ?_
      clear hK K
      try simp only [Act.put, zSa, zSz, zSs]
      refine wpList_plain rfl (fun K hK => ?_)
      go_simp
      refine hK _ _ ?_
      clear hK K
      try simp only [Act.put, zSa, zSz, zSs]
      refine wpList_plain rfl (fun K hK => ?_)
      go_simp
      refine hK _ _ ?_
      clear hK K
      try simp only [Act.put, zSa, zSz, zSs]

      refine wpList_byteOne rfl (.tmp 18) rfl b rfl ?_
      intro v19 w1 hv19 hb1
      try simp only [Act.put, zSa, zSz, zSs]
      have hB1 := hB.below hb1
      have hbb := HB.out.trans (hb1.mono HB.out.size)
      refine wpList_appVK rfl (.tmp 13) (.tmp 19) rfl w.heap.size _ v19 bs [b] rfl hB1 rfl hv19 HL.out hbb.size ?_
      intro v20 w2 hB2 _ hb2
      try simp only [Act.put, zSa, zSz, zSs]
      have HB2 := Lib.hid (hbb.trans hb2)
      clear hB hb hv19 hb1 hB1 hbb hb2 hbv
      go_wp2
      go_roundw
      case rel => exact ⟨1, bs ++ [b], by simp, HBS.out, hB2, HB2.out⟩
      case measure => decide
    · obtain ⟨b, hbe, hbv⟩ := num_byte2 n 2 16 65536 rfl (by decide)
      have HBS := Lib.hid (show (bs ++ [b]) ++ numB 2 n = numB 4 n by rw [← hbs, numB_front 2 n, hbe]; simp)
      have HSB := Lib.hid (hB.sl)
      clear hbs hbe
      go_upto_region 5 with (fail)
      refine wp_region_lit ?_
      refine wpList_plain rfl (fun K hK => ?_)
      go_simp
      refine hK _ _ ?_
      clear hK K
      try simp only [Act.put, zSa, zSz, zSs]
      refine wpList_plain rfl (fun K hK => ?_)
      go_simp
      refine hK _ _ ?_
      clear hK K
      try simp only [Act.put, zSa, zSz, zSs]
      refine wpList_plain rfl (fun K hK => ?_)
      go_simp
      refine hK _ _ ?_
      clear hK K
      try simp only [Act.put, zSa, zSz, zSs]
      refine wpList_plain rfl (fun K hK => ?_)
      go_simp
      refine hK _ _ ?_
      clear hK K
      try simp only [Act.put, zSa, zSz, zSs]
      refine wpList_plain rfl (fun K hK => ?_)
      go_simp
      refine hK _ _ ?_
      clear hK K
      try simp only [Act.put, zSa, zSz, zSs]
      refine wpList_plain rfl (fun K hK => ?_)
      go_simp
      refine hK _ _ ?_
      clear hK K
      try simp only [Act.put, zSa, zSz, zSs]

      refine wpList_byteOne rfl (.tmp 18) rfl b rfl ?_
      intro v19 w1 hv19 hb1
      try simp only [Act.put, zSa, zSz, zSs]
      have hB1 := hB.below hb1
      have hbb := HB.out.trans (hb1.mono HB.out.size)
      refine wpList_appVK rfl (.tmp 13) (.tmp 19) rfl w.heap.size _ v19 bs [b] rfl hB1 rfl hv19 HL.out hbb.size ?_
      intro v20 w2 hB2 _ hb2
      try simp only [Act.put, zSa, zSz, zSs]
      have HB2 := Lib.hid (hbb.trans hb2)
      clear hB hb hv19 hb1 hB1 hbb hb2 hbv
      go_wp2
      go_roundw
      case rel => exact ⟨2, bs ++ [b], by simp, HBS.out, hB2, HB2.out⟩
      case measure => decide
    · obtain ⟨b, hbe, hbv⟩ := num_byte2 n 3 24 16777216 rfl (by decide)
      have HBS := Lib.hid (show (bs ++ [b]) ++ numB 3 n = numB 4 n by rw [← hbs, numB_front 3 n, hbe]; simp)
      have HSB := Lib.hid (hB.sl)
      clear hbs hbe
      go_upto_region 5 with (fail)
      refine wp_region_lit ?_
      refine wpList_plain rfl (fun K hK => ?_)
      go_simp
      refine hK _ _ ?_
      clear hK K
      try simp only [Act.put, zSa, zSz, zSs]
      refine wpList_plain rfl (fun K hK => ?_)
      go_simp
      refine hK _ _ ?_
      clear hK K
      try simp only [Act.put, zSa, zSz, zSs]
      refine wpList_plain rfl (fun K hK => ?_)
      go_simp
      refine hK _ _ ?_
      clear hK K
      try simp only [Act.put, zSa, zSz, zSs]
      refine wpList_plain rfl (fun K hK => ?_)
      go_simp
      refine hK _ _ ?_
      clear hK K
      try simp only [Act.put, zSa, zSz, zSs]
      refine wpList_plain rfl (fun K hK => ?_)
      go_simp
      refine hK _ _ ?_
      clear hK K
      try simp only [Act.put, zSa, zSz, zSs]
      refine wpList_plain rfl (fun K hK => ?_)
      go_simp
      refine hK _ _ ?_
      clear hK K
      try simp only [Act.put, zSa, zSz, zSs]

      refine wpList_byteOne rfl (.tmp 18) rfl b rfl ?_
      intro v19 w1 hv19 hb1
      try simp only [Act.put, zSa, zSz, zSs]
      have hB1 := hB.below hb1
      have hbb := HB.out.trans (hb1.mono HB.out.size)
      refine wpList_appVK rfl (.tmp 13) (.tmp 19) rfl w.heap.size _ v19 bs [b] rfl hB1 rfl hv19 HL.out hbb.size ?_
      intro v20 w2 hB2 _ hb2
      try simp only [Act.put, zSa, zSz, zSs]
      have HB2 := Lib.hid (hbb.trans hb2)
      clear hB hb hv19 hb1 hB1 hbb hb2 hbv
      go_wp2
      go_roundw
      case rel => exact ⟨3, bs ++ [b], by simp, HBS.out, hB2, HB2.out⟩
      case measure => decide
section
variable {o : Oper} {a : Act} {w : World} {K : Act → World → Prop} {Q : Exit → Act → World → Prop}
theorem cat_bytes (p q : List UInt8) : (⟨p.toArray⟩ : ByteArray) ++ ⟨q.toArray⟩ = ⟨(p ++ q).toArray⟩ := by
  apply ByteArray.ext
  simp [ByteArray.data_append]
theorem wp_catS (x y : Operand) (ho : o.op = .binOp .add 9 x y 9) (p q : List UInt8) (hx : a.eval x = TX p) (hy : a.eval y = TX q) (hn : p.length + q.length ≤ 1099511627776)
    (h : K (a.put o.dst (TX (p ++ q))) w) : o.wp Tryd.prog a w K Q := by
  have h1 : ¬ 9223372036854775807 < p.length + q.length := by omega
  have h2 := cat_bytes p q
  unfold Oper.wp execOp
  simp only [ho, hx, hy]
  go_simp
  exact h
end
set_option maxRecDepth 100000 in
set_option maxHeartbeats 1000000 in
theorem vec_1 (s : List UInt8) (w : World) (hs : s.length ≤ 1000000) : Calls Tryd.prog 25 #[TX s, .int .i64 1] w fun e w' => e = .returned (TX (vecB 1 s)) ∧ Below w.heap.size w w' := by
  have HS := Lib.hid hs
  obtain ⟨n, hn⟩ : ∃ n, s.length = n := ⟨_, rfl⟩
  have HN := Lib.hid (show n < 4294967296 by omega)
  have HN2 := Lib.hid hn
  have hsz : (⟨s.toArray⟩ : ByteArray).size = n := hn
  go_enter Tryd.func25, Tryd.ntmps25
  go_upto_region 1 with (fail)
  clear hn hs
  refine wp_region_lit ?_
  refine wpList_plain rfl (fun K hK => ?_)
  go_simp
  refine hK _ _ ?_
  clear hK K
  try simp only [Act.put, zSa, zSz, zSs]
  refine wpList_plain rfl (fun K hK => ?_)
  go_simp
  refine hK _ _ ?_
  clear hK K
  try simp only [Act.put, zSa, zSz, zSs]
  refine wpList_plain rfl (fun K hK => ?_)
  go_simp
  refine hK _ _ ?_
  clear hK K
  try simp only [Act.put, zSa, zSz, zSs]
  refine wpList_plain rfl (fun K hK0 => ?_)
  have hK := Lib.hid hK0
  clear hK0
  go_simp
  go_at_call 41
  refine (num_1 n _ HN.out).mono ?_
  rintro e w1 ⟨rfl, hb1⟩
  try go_wp2_with fail
  refine hK.out _ _ ?_
  clear hK K
  try simp only [Act.put, zSa, zSz, zSs]
  refine wpList_plain rfl (fun K hK => ?_)
  go_simp
  refine hK _ _ ?_
  clear hK K
  try simp only [Act.put, zSa, zSz, zSs]
  refine wpList_plain rfl (fun K hK => wp_catS (.tmp 8) (.tmp 9) rfl (numB 1 n) s rfl rfl (by rw [numB_length]; have := HS.out; omega) (hK _ _ ?_))
  clear hK K
  try simp only [Act.put, zSa, zSz, zSs]
  go_wp2
  go_ret
  exact ⟨by rw [vecB, HN2.out]; rfl, hb1⟩
set_option maxRecDepth 100000 in
set_option maxHeartbeats 1000000 in
theorem vec_2 (s : List UInt8) (w : World) (hs : s.length ≤ 1000000) : Calls Tryd.prog 25 #[TX s, .int .i64 2] w fun e w' => e = .returned (TX (vecB 2 s)) ∧ Below w.heap.size w w' := by
  have HS := Lib.hid hs
  obtain ⟨n, hn⟩ : ∃ n, s.length = n := ⟨_, rfl⟩
  have HN := Lib.hid (show n < 4294967296 by omega)
  have HN2 := Lib.hid hn
  have hsz : (⟨s.toArray⟩ : ByteArray).size = n := hn
  go_enter Tryd.func25, Tryd.ntmps25
  go_upto_region 1 with (fail)
  clear hn hs
  refine wp_region_lit ?_
  refine wpList_plain rfl (fun K hK => ?_)
  go_simp
  refine hK _ _ ?_
  clear hK K
  try simp only [Act.put, zSa, zSz, zSs]
  refine wpList_plain rfl (fun K hK => ?_)
  go_simp
  refine hK _ _ ?_
  clear hK K
  try simp only [Act.put, zSa, zSz, zSs]
  refine wpList_plain rfl (fun K hK => ?_)
  go_simp
  refine hK _ _ ?_
  clear hK K
  try simp only [Act.put, zSa, zSz, zSs]
  refine wpList_plain rfl (fun K hK0 => ?_)
  have hK := Lib.hid hK0
  clear hK0
  go_simp
  go_at_call 41
  refine (num_2 n _ HN.out).mono ?_
  rintro e w1 ⟨rfl, hb1⟩
  try go_wp2_with fail
  refine hK.out _ _ ?_
  clear hK K
  try simp only [Act.put, zSa, zSz, zSs]
  refine wpList_plain rfl (fun K hK => ?_)
  go_simp
  refine hK _ _ ?_
  clear hK K
  try simp only [Act.put, zSa, zSz, zSs]
  refine wpList_plain rfl (fun K hK => wp_catS (.tmp 8) (.tmp 9) rfl (numB 2 n) s rfl rfl (by rw [numB_length]; have := HS.out; omega) (hK _ _ ?_))
  clear hK K
  try simp only [Act.put, zSa, zSz, zSs]
  go_wp2
  go_ret
  exact ⟨by rw [vecB, HN2.out]; rfl, hb1⟩
set_option maxRecDepth 100000 in
set_option maxHeartbeats 1000000 in
theorem vec_3 (s : List UInt8) (w : World) (hs : s.length ≤ 1000000) : Calls Tryd.prog 25 #[TX s, .int .i64 3] w fun e w' => e = .returned (TX (vecB 3 s)) ∧ Below w.heap.size w w' := by
  have HS := Lib.hid hs
  obtain ⟨n, hn⟩ : ∃ n, s.length = n := ⟨_, rfl⟩
  have HN := Lib.hid (show n < 4294967296 by omega)
  have HN2 := Lib.hid hn
  have hsz : (⟨s.toArray⟩ : ByteArray).size = n := hn
  go_enter Tryd.func25, Tryd.ntmps25
  go_upto_region 1 with (fail)
  clear hn hs
  refine wp_region_lit ?_
  refine wpList_plain rfl (fun K hK => ?_)
  go_simp
  refine hK _ _ ?_
  clear hK K
  try simp only [Act.put, zSa, zSz, zSs]
  refine wpList_plain rfl (fun K hK => ?_)
  go_simp
  refine hK _ _ ?_
  clear hK K
  try simp only [Act.put, zSa, zSz, zSs]
  refine wpList_plain rfl (fun K hK => ?_)
  go_simp
  refine hK _ _ ?_
  clear hK K
  try simp only [Act.put, zSa, zSz, zSs]
  refine wpList_plain rfl (fun K hK0 => ?_)
  have hK := Lib.hid hK0
  clear hK0
  go_simp
  go_at_call 41
  refine (num_3 n _ HN.out).mono ?_
  rintro e w1 ⟨rfl, hb1⟩
  try go_wp2_with fail
  refine hK.out _ _ ?_
  clear hK K
  try simp only [Act.put, zSa, zSz, zSs]
  refine wpList_plain rfl (fun K hK => ?_)
  go_simp
  refine hK _ _ ?_
  clear hK K
  try simp only [Act.put, zSa, zSz, zSs]
  refine wpList_plain rfl (fun K hK => wp_catS (.tmp 8) (.tmp 9) rfl (numB 3 n) s rfl rfl (by rw [numB_length]; have := HS.out; omega) (hK _ _ ?_))
  clear hK K
  try simp only [Act.put, zSa, zSz, zSs]
  go_wp2
  go_ret
  exact ⟨by rw [vecB, HN2.out]; rfl, hb1⟩
set_option maxRecDepth 100000 in
set_option maxHeartbeats 1000000 in
theorem rwide_e (x : Int) (w : World) : Calls Tryd.prog 40 #[.int .i64 x] w fun e w' => e = .returned (.bool (wide x)) ∧ w' = w := by
  by_cases h0 : 0 ≤ x
  · by_cases h1 : x < 4294967296
    · have e : wide x = true := by unfold wide; simp; omega
      rw [e]
      clear e
      go_enter Tryd.func40, Tryd.ntmps40
      go_wp2
      go_ret
      exact ⟨rfl, rfl⟩
    · have e : wide x = false := by unfold wide; simp; omega
      rw [e]
      clear e
      go_enter Tryd.func40, Tryd.ntmps40
      go_wp2
      go_ret
      exact ⟨rfl, rfl⟩
  · have e : wide x = false := by unfold wide; simp; omega
    rw [e]
    clear e
    go_enter Tryd.func40, Tryd.ntmps40
    go_wp2
    go_ret
    exact ⟨rfl, rfl⟩
end

section
open Go.RowKit
open HelloMath (Msg zero32 some8)

def bareM (m : Msg) : Bool := !(m.rnd != zero32) && !(m.mark != zero32) && !some8 m.ses && !some8 m.sha && !some8 m.tic && !some8 m.non && !some8 m.sig && !decide (0 < m.certs.length) && !(m.life != 0) && !(m.age != 0) && !m.psk && !m.retry
set_option maxRecDepth 100000 in
set_option maxHeartbeats 1000000 in
theorem bare_0 (m : Msg) (cs : List Value) (w : World) (h : RIn w m cs) (h0 : (m.rnd == zero32) = false) : Calls Tryd.prog 39 #[.agg cs.toArray] w fun e w' => e = .returned (.bool false) ∧ Below w.heap.size w w' := by
  have HL := Lib.hid h.1
  have hb1 : Below w.heap.size w (w.alloc (.cells cs.toArray 25)) := (Below.refl _ _).alloc (Nat.le_refl _) _
  have hM : RAt (w.alloc (.cells cs.toArray 25)) w.heap.size m := ⟨cs, Blk.new w 25 cs, h.below hb1⟩
  go_enter Tryd.func39, Tryd.ntmps39
  go_upto_region 0 with (fail)
  refine wp_region_lit ?_
  refine wpList_plain rfl (fun K hK => ?_)
  go_simp
  refine hK _ _ ?_
  clear hK K h
  obtain ⟨g1, hg1⟩ : ∃ g, g = w.heap.size := ⟨_, rfl⟩
  rw [← hg1] at hM
  simp only [← hg1]
  clear hg1
  generalize w.alloc (.cells cs.toArray 25) = w1 at *
  try simp only [Act.put, zSa, zSz, zSs]
  have HM := Lib.hid hM
  have HB := Lib.hid hb1
  clear hM hb1
  go_upto_region 1 with (fail)
  refine wp_region_lit ?_
  refine wpList_plain rfl (fun K hK => ?_)
  go_simp
  refine hK _ _ ?_
  clear hK K
  try simp only [Act.put, zSa, zSz, zSs]
  refine wpList_plain rfl (fun K hK => wp_load_mid 22 (.tmp 3) rfl g1 1 rfl (m.rnd.map B8) _ HM.out.rnd Tryd.underlying22 rfl (info40.trans (by rw [List.length_map, HL.out.1])) (hK _ _ ?_))
  clear hK K
  try simp only [Act.put, zSa, zSz, zSs]
  refine wpList_plain rfl (fun K hK => wp_builtV 22 _ rfl [] rfl (zero32.map B8).toArray built32_0 (hK _ _ ?_))
  clear hK K
  try simp only [Act.put, zSa, zSz, zSs]
  refine wpList_plain rfl (fun K hK => wp_eqlA rfl rfl rfl guardB32 (EqB (Lib.hid HL.out.1) (Lib.hid rfl) (Lib.hid h0) _) (hK _ _ ?_))
  clear hK K
  try simp only [Act.put, zSa, zSz, zSs]
  go_wp2
  go_ret
  exact ⟨rfl, HB.out⟩
set_option maxRecDepth 100000 in
set_option maxHeartbeats 1000000 in
theorem bare_1 (m : Msg) (cs : List Value) (w : World) (h : RIn w m cs) (h0 : (m.rnd == zero32) = true) (h1 : (m.mark == zero32) = false) : Calls Tryd.prog 39 #[.agg cs.toArray] w fun e w' => e = .returned (.bool false) ∧ Below w.heap.size w w' := by
  have HL := Lib.hid h.1
  have hb1 : Below w.heap.size w (w.alloc (.cells cs.toArray 25)) := (Below.refl _ _).alloc (Nat.le_refl _) _
  have hM : RAt (w.alloc (.cells cs.toArray 25)) w.heap.size m := ⟨cs, Blk.new w 25 cs, h.below hb1⟩
  go_enter Tryd.func39, Tryd.ntmps39
  go_upto_region 0 with (fail)
  refine wp_region_lit ?_
  refine wpList_plain rfl (fun K hK => ?_)
  go_simp
  refine hK _ _ ?_
  clear hK K h
  obtain ⟨g1, hg1⟩ : ∃ g, g = w.heap.size := ⟨_, rfl⟩
  rw [← hg1] at hM
  simp only [← hg1]
  clear hg1
  generalize w.alloc (.cells cs.toArray 25) = w1 at *
  try simp only [Act.put, zSa, zSz, zSs]
  have HM := Lib.hid hM
  have HB := Lib.hid hb1
  clear hM hb1
  go_upto_region 1 with (fail)
  refine wp_region_lit ?_
  refine wpList_plain rfl (fun K hK => ?_)
  go_simp
  refine hK _ _ ?_
  clear hK K
  try simp only [Act.put, zSa, zSz, zSs]
  refine wpList_plain rfl (fun K hK => wp_load_mid 22 (.tmp 3) rfl g1 1 rfl (m.rnd.map B8) _ HM.out.rnd Tryd.underlying22 rfl (info40.trans (by rw [List.length_map, HL.out.1])) (hK _ _ ?_))
  clear hK K
  try simp only [Act.put, zSa, zSz, zSs]
  refine wpList_plain rfl (fun K hK => wp_builtV 22 _ rfl [] rfl (zero32.map B8).toArray built32_0 (hK _ _ ?_))
  clear hK K
  try simp only [Act.put, zSa, zSz, zSs]
  refine wpList_plain rfl (fun K hK => wp_eqlA rfl rfl rfl guardB32 (EqB (Lib.hid HL.out.1) (Lib.hid rfl) (Lib.hid h0) _) (hK _ _ ?_))
  clear hK K
  try simp only [Act.put, zSa, zSz, zSs]
  refine wpList_plain rfl (fun K hK => ?_)
  go_simp
  refine hK _ _ ?_
  clear hK K
  try simp only [Act.put, zSa, zSz, zSs]
  refine BigFrame.wpList_want (by rfl) (fun K hK => ?_)
  go_simp
  refine hK _ _ ?_
  clear hK K
  try simp only [Act.put, zSa, zSz, zSs]
  refine BigFrame.wpList_want (by rfl) (fun K hK => wp_load_mid 22 (.tmp 8) rfl g1 33 rfl (m.mark.map B8) _ HM.out.mark Tryd.underlying22 rfl (info40.trans (by rw [List.length_map, HL.out.2])) (hK _ _ ?_))
  clear hK K
  try simp only [Act.put, zSa, zSz, zSs]
  refine BigFrame.wpList_want (by rfl) (fun K hK => wp_builtV 22 _ rfl [] rfl (zero32.map B8).toArray built32_0 (hK _ _ ?_))
  clear hK K
  try simp only [Act.put, zSa, zSz, zSs]
  refine BigFrame.wpList_want (by rfl) (fun K hK => wp_eqlA rfl rfl rfl guardB32 (EqB (Lib.hid HL.out.2) (Lib.hid rfl) (Lib.hid h1) _) (hK _ _ ?_))
  clear hK K
  try simp only [Act.put, zSa, zSz, zSs]
  go_wp2
  go_ret
  exact ⟨rfl, HB.out⟩
set_option maxRecDepth 100000 in
set_option maxHeartbeats 1000000 in
theorem bare_2 (m : Msg) (cs : List Value) (w : World) (h : RIn w m cs) (h0 : (m.rnd == zero32) = true) (h1 : (m.mark == zero32) = true) (h2 : 0 < m.ses.length) : Calls Tryd.prog 39 #[.agg cs.toArray] w fun e w' => e = .returned (.bool false) ∧ Below w.heap.size w w' := by
  have HL := Lib.hid h.1
  have hb1 : Below w.heap.size w (w.alloc (.cells cs.toArray 25)) := (Below.refl _ _).alloc (Nat.le_refl _) _
  have hM : RAt (w.alloc (.cells cs.toArray 25)) w.heap.size m := ⟨cs, Blk.new w 25 cs, h.below hb1⟩
  go_enter Tryd.func39, Tryd.ntmps39
  go_upto_region 0 with (fail)
  refine wp_region_lit ?_
  refine wpList_plain rfl (fun K hK => ?_)
  go_simp
  refine hK _ _ ?_
  clear hK K h
  obtain ⟨g1, hg1⟩ : ∃ g, g = w.heap.size := ⟨_, rfl⟩
  rw [← hg1] at hM
  simp only [← hg1]
  clear hg1
  generalize w.alloc (.cells cs.toArray 25) = w1 at *
  try simp only [Act.put, zSa, zSz, zSs]
  have HM := Lib.hid hM
  have HB := Lib.hid hb1
  clear hM hb1
  go_upto_region 1 with (fail)
  refine wp_region_lit ?_
  refine wpList_plain rfl (fun K hK => ?_)
  go_simp
  refine hK _ _ ?_
  clear hK K
  try simp only [Act.put, zSa, zSz, zSs]
  refine wpList_plain rfl (fun K hK => wp_load_mid 22 (.tmp 3) rfl g1 1 rfl (m.rnd.map B8) _ HM.out.rnd Tryd.underlying22 rfl (info40.trans (by rw [List.length_map, HL.out.1])) (hK _ _ ?_))
  clear hK K
  try simp only [Act.put, zSa, zSz, zSs]
  refine wpList_plain rfl (fun K hK => wp_builtV 22 _ rfl [] rfl (zero32.map B8).toArray built32_0 (hK _ _ ?_))
  clear hK K
  try simp only [Act.put, zSa, zSz, zSs]
  refine wpList_plain rfl (fun K hK => wp_eqlA rfl rfl rfl guardB32 (EqB (Lib.hid HL.out.1) (Lib.hid rfl) (Lib.hid h0) _) (hK _ _ ?_))
  clear hK K
  try simp only [Act.put, zSa, zSz, zSs]
  refine wpList_plain rfl (fun K hK => ?_)
  go_simp
  refine hK _ _ ?_
  clear hK K
  try simp only [Act.put, zSa, zSz, zSs]
  refine BigFrame.wpList_want (by rfl) (fun K hK => ?_)
  go_simp
  refine hK _ _ ?_
  clear hK K
  try simp only [Act.put, zSa, zSz, zSs]
  refine BigFrame.wpList_want (by rfl) (fun K hK => wp_load_mid 22 (.tmp 8) rfl g1 33 rfl (m.mark.map B8) _ HM.out.mark Tryd.underlying22 rfl (info40.trans (by rw [List.length_map, HL.out.2])) (hK _ _ ?_))
  clear hK K
  try simp only [Act.put, zSa, zSz, zSs]
  refine BigFrame.wpList_want (by rfl) (fun K hK => wp_builtV 22 _ rfl [] rfl (zero32.map B8).toArray built32_0 (hK _ _ ?_))
  clear hK K
  try simp only [Act.put, zSa, zSz, zSs]
  refine BigFrame.wpList_want (by rfl) (fun K hK => wp_eqlA rfl rfl rfl guardB32 (EqB (Lib.hid HL.out.2) (Lib.hid rfl) (Lib.hid h1) _) (hK _ _ ?_))
  clear hK K
  try simp only [Act.put, zSa, zSz, zSs]
  obtain ⟨x, xs, hx⟩ : ∃ x xs, m.ses = x :: xs := by cases e : m.ses with | nil => rw [e] at h2; exact absurd h2 (by simp) | cons x xs => exact ⟨x, xs, rfl⟩
  have c2 : w1.cell? ⟨g1, 65, none⟩ = some (TX m.ses) := HM.out.ses
  have he : ((⟨m.ses.toArray⟩ : ByteArray) == ⟨#[]⟩) = false := by rw [hx]; rfl
  go_wp2
  go_ret
  exact ⟨rfl, HB.out⟩
set_option maxRecDepth 100000 in
set_option maxHeartbeats 1000000 in
theorem bare_3 (m : Msg) (cs : List Value) (w : World) (h : RIn w m cs) (h0 : (m.rnd == zero32) = true) (h1 : (m.mark == zero32) = true) (h2 : m.ses = []) (h3 : 0 < m.sha.length) : Calls Tryd.prog 39 #[.agg cs.toArray] w fun e w' => e = .returned (.bool false) ∧ Below w.heap.size w w' := by
  have HL := Lib.hid h.1
  have hb1 : Below w.heap.size w (w.alloc (.cells cs.toArray 25)) := (Below.refl _ _).alloc (Nat.le_refl _) _
  have hM : RAt (w.alloc (.cells cs.toArray 25)) w.heap.size m := ⟨cs, Blk.new w 25 cs, h.below hb1⟩
  go_enter Tryd.func39, Tryd.ntmps39
  go_upto_region 0 with (fail)
  refine wp_region_lit ?_
  refine wpList_plain rfl (fun K hK => ?_)
  go_simp
  refine hK _ _ ?_
  clear hK K h
  obtain ⟨g1, hg1⟩ : ∃ g, g = w.heap.size := ⟨_, rfl⟩
  rw [← hg1] at hM
  simp only [← hg1]
  clear hg1
  generalize w.alloc (.cells cs.toArray 25) = w1 at *
  try simp only [Act.put, zSa, zSz, zSs]
  have HM := Lib.hid hM
  have HB := Lib.hid hb1
  clear hM hb1
  go_upto_region 1 with (fail)
  refine wp_region_lit ?_
  refine wpList_plain rfl (fun K hK => ?_)
  go_simp
  refine hK _ _ ?_
  clear hK K
  try simp only [Act.put, zSa, zSz, zSs]
  refine wpList_plain rfl (fun K hK => wp_load_mid 22 (.tmp 3) rfl g1 1 rfl (m.rnd.map B8) _ HM.out.rnd Tryd.underlying22 rfl (info40.trans (by rw [List.length_map, HL.out.1])) (hK _ _ ?_))
  clear hK K
  try simp only [Act.put, zSa, zSz, zSs]
  refine wpList_plain rfl (fun K hK => wp_builtV 22 _ rfl [] rfl (zero32.map B8).toArray built32_0 (hK _ _ ?_))
  clear hK K
  try simp only [Act.put, zSa, zSz, zSs]
  refine wpList_plain rfl (fun K hK => wp_eqlA rfl rfl rfl guardB32 (EqB (Lib.hid HL.out.1) (Lib.hid rfl) (Lib.hid h0) _) (hK _ _ ?_))
  clear hK K
  try simp only [Act.put, zSa, zSz, zSs]
  refine wpList_plain rfl (fun K hK => ?_)
  go_simp
  refine hK _ _ ?_
  clear hK K
  try simp only [Act.put, zSa, zSz, zSs]
  refine BigFrame.wpList_want (by rfl) (fun K hK => ?_)
  go_simp
  refine hK _ _ ?_
  clear hK K
  try simp only [Act.put, zSa, zSz, zSs]
  refine BigFrame.wpList_want (by rfl) (fun K hK => wp_load_mid 22 (.tmp 8) rfl g1 33 rfl (m.mark.map B8) _ HM.out.mark Tryd.underlying22 rfl (info40.trans (by rw [List.length_map, HL.out.2])) (hK _ _ ?_))
  clear hK K
  try simp only [Act.put, zSa, zSz, zSs]
  refine BigFrame.wpList_want (by rfl) (fun K hK => wp_builtV 22 _ rfl [] rfl (zero32.map B8).toArray built32_0 (hK _ _ ?_))
  clear hK K
  try simp only [Act.put, zSa, zSz, zSs]
  refine BigFrame.wpList_want (by rfl) (fun K hK => wp_eqlA rfl rfl rfl guardB32 (EqB (Lib.hid HL.out.2) (Lib.hid rfl) (Lib.hid h1) _) (hK _ _ ?_))
  clear hK K
  try simp only [Act.put, zSa, zSz, zSs]
  have c2 : w1.cell? ⟨g1, 65, none⟩ = some (.string ⟨#[]⟩) := by have h := HM.out.ses; rw [h2] at h; exact h
  obtain ⟨x, xs, hx⟩ : ∃ x xs, m.sha = x :: xs := by cases e : m.sha with | nil => rw [e] at h3; exact absurd h3 (by simp) | cons x xs => exact ⟨x, xs, rfl⟩
  have c3 : w1.cell? ⟨g1, 66, none⟩ = some (TX m.sha) := HM.out.sha
  have he : ((⟨m.sha.toArray⟩ : ByteArray) == ⟨#[]⟩) = false := by rw [hx]; rfl
  go_wp2
  go_ret
  exact ⟨rfl, HB.out⟩
set_option maxRecDepth 100000 in
set_option maxHeartbeats 1000000 in
theorem bare_4 (m : Msg) (cs : List Value) (w : World) (h : RIn w m cs) (h0 : (m.rnd == zero32) = true) (h1 : (m.mark == zero32) = true) (h2 : m.ses = []) (h3 : m.sha = []) (h4 : 0 < m.tic.length) : Calls Tryd.prog 39 #[.agg cs.toArray] w fun e w' => e = .returned (.bool false) ∧ Below w.heap.size w w' := by
  have HL := Lib.hid h.1
  have hb1 : Below w.heap.size w (w.alloc (.cells cs.toArray 25)) := (Below.refl _ _).alloc (Nat.le_refl _) _
  have hM : RAt (w.alloc (.cells cs.toArray 25)) w.heap.size m := ⟨cs, Blk.new w 25 cs, h.below hb1⟩
  go_enter Tryd.func39, Tryd.ntmps39
  go_upto_region 0 with (fail)
  refine wp_region_lit ?_
  refine wpList_plain rfl (fun K hK => ?_)
  go_simp
  refine hK _ _ ?_
  clear hK K h
  obtain ⟨g1, hg1⟩ : ∃ g, g = w.heap.size := ⟨_, rfl⟩
  rw [← hg1] at hM
  simp only [← hg1]
  clear hg1
  generalize w.alloc (.cells cs.toArray 25) = w1 at *
  try simp only [Act.put, zSa, zSz, zSs]
  have HM := Lib.hid hM
  have HB := Lib.hid hb1
  clear hM hb1
  go_upto_region 1 with (fail)
  refine wp_region_lit ?_
  refine wpList_plain rfl (fun K hK => ?_)
  go_simp
  refine hK _ _ ?_
  clear hK K
  try simp only [Act.put, zSa, zSz, zSs]
  refine wpList_plain rfl (fun K hK => wp_load_mid 22 (.tmp 3) rfl g1 1 rfl (m.rnd.map B8) _ HM.out.rnd Tryd.underlying22 rfl (info40.trans (by rw [List.length_map, HL.out.1])) (hK _ _ ?_))
  clear hK K
  try simp only [Act.put, zSa, zSz, zSs]
  refine wpList_plain rfl (fun K hK => wp_builtV 22 _ rfl [] rfl (zero32.map B8).toArray built32_0 (hK _ _ ?_))
  clear hK K
  try simp only [Act.put, zSa, zSz, zSs]
  refine wpList_plain rfl (fun K hK => wp_eqlA rfl rfl rfl guardB32 (EqB (Lib.hid HL.out.1) (Lib.hid rfl) (Lib.hid h0) _) (hK _ _ ?_))
  clear hK K
  try simp only [Act.put, zSa, zSz, zSs]
  refine wpList_plain rfl (fun K hK => ?_)
  go_simp
  refine hK _ _ ?_
  clear hK K
  try simp only [Act.put, zSa, zSz, zSs]
  refine BigFrame.wpList_want (by rfl) (fun K hK => ?_)
  go_simp
  refine hK _ _ ?_
  clear hK K
  try simp only [Act.put, zSa, zSz, zSs]
  refine BigFrame.wpList_want (by rfl) (fun K hK => wp_load_mid 22 (.tmp 8) rfl g1 33 rfl (m.mark.map B8) _ HM.out.mark Tryd.underlying22 rfl (info40.trans (by rw [List.length_map, HL.out.2])) (hK _ _ ?_))
  clear hK K
  try simp only [Act.put, zSa, zSz, zSs]
  refine BigFrame.wpList_want (by rfl) (fun K hK => wp_builtV 22 _ rfl [] rfl (zero32.map B8).toArray built32_0 (hK _ _ ?_))
  clear hK K
  try simp only [Act.put, zSa, zSz, zSs]
  refine BigFrame.wpList_want (by rfl) (fun K hK => wp_eqlA rfl rfl rfl guardB32 (EqB (Lib.hid HL.out.2) (Lib.hid rfl) (Lib.hid h1) _) (hK _ _ ?_))
  clear hK K
  try simp only [Act.put, zSa, zSz, zSs]
  have c2 : w1.cell? ⟨g1, 65, none⟩ = some (.string ⟨#[]⟩) := by have h := HM.out.ses; rw [h2] at h; exact h
  have c3 : w1.cell? ⟨g1, 66, none⟩ = some (.string ⟨#[]⟩) := by have h := HM.out.sha; rw [h3] at h; exact h
  obtain ⟨x, xs, hx⟩ : ∃ x xs, m.tic = x :: xs := by cases e : m.tic with | nil => rw [e] at h4; exact absurd h4 (by simp) | cons x xs => exact ⟨x, xs, rfl⟩
  have c4 : w1.cell? ⟨g1, 67, none⟩ = some (TX m.tic) := HM.out.tic
  have he : ((⟨m.tic.toArray⟩ : ByteArray) == ⟨#[]⟩) = false := by rw [hx]; rfl
  go_wp2
  go_ret
  exact ⟨rfl, HB.out⟩
set_option maxRecDepth 100000 in
set_option maxHeartbeats 1000000 in
theorem bare_5 (m : Msg) (cs : List Value) (w : World) (h : RIn w m cs) (h0 : (m.rnd == zero32) = true) (h1 : (m.mark == zero32) = true) (h2 : m.ses = []) (h3 : m.sha = []) (h4 : m.tic = []) (h5 : 0 < m.non.length) : Calls Tryd.prog 39 #[.agg cs.toArray] w fun e w' => e = .returned (.bool false) ∧ Below w.heap.size w w' := by
  have HL := Lib.hid h.1
  have hb1 : Below w.heap.size w (w.alloc (.cells cs.toArray 25)) := (Below.refl _ _).alloc (Nat.le_refl _) _
  have hM : RAt (w.alloc (.cells cs.toArray 25)) w.heap.size m := ⟨cs, Blk.new w 25 cs, h.below hb1⟩
  go_enter Tryd.func39, Tryd.ntmps39
  go_upto_region 0 with (fail)
  refine wp_region_lit ?_
  refine wpList_plain rfl (fun K hK => ?_)
  go_simp
  refine hK _ _ ?_
  clear hK K h
  obtain ⟨g1, hg1⟩ : ∃ g, g = w.heap.size := ⟨_, rfl⟩
  rw [← hg1] at hM
  simp only [← hg1]
  clear hg1
  generalize w.alloc (.cells cs.toArray 25) = w1 at *
  try simp only [Act.put, zSa, zSz, zSs]
  have HM := Lib.hid hM
  have HB := Lib.hid hb1
  clear hM hb1
  go_upto_region 1 with (fail)
  refine wp_region_lit ?_
  refine wpList_plain rfl (fun K hK => ?_)
  go_simp
  refine hK _ _ ?_
  clear hK K
  try simp only [Act.put, zSa, zSz, zSs]
  refine wpList_plain rfl (fun K hK => wp_load_mid 22 (.tmp 3) rfl g1 1 rfl (m.rnd.map B8) _ HM.out.rnd Tryd.underlying22 rfl (info40.trans (by rw [List.length_map, HL.out.1])) (hK _ _ ?_))
  clear hK K
  try simp only [Act.put, zSa, zSz, zSs]
  refine wpList_plain rfl (fun K hK => wp_builtV 22 _ rfl [] rfl (zero32.map B8).toArray built32_0 (hK _ _ ?_))
  clear hK K
  try simp only [Act.put, zSa, zSz, zSs]
  refine wpList_plain rfl (fun K hK => wp_eqlA rfl rfl rfl guardB32 (EqB (Lib.hid HL.out.1) (Lib.hid rfl) (Lib.hid h0) _) (hK _ _ ?_))
  clear hK K
  try simp only [Act.put, zSa, zSz, zSs]
  refine wpList_plain rfl (fun K hK => ?_)
  go_simp
  refine hK _ _ ?_
  clear hK K
  try simp only [Act.put, zSa, zSz, zSs]
  refine BigFrame.wpList_want (by rfl) (fun K hK => ?_)
  go_simp
  refine hK _ _ ?_
  clear hK K
  try simp only [Act.put, zSa, zSz, zSs]
  refine BigFrame.wpList_want (by rfl) (fun K hK => wp_load_mid 22 (.tmp 8) rfl g1 33 rfl (m.mark.map B8) _ HM.out.mark Tryd.underlying22 rfl (info40.trans (by rw [List.length_map, HL.out.2])) (hK _ _ ?_))
  clear hK K
  try simp only [Act.put, zSa, zSz, zSs]
  refine BigFrame.wpList_want (by rfl) (fun K hK => wp_builtV 22 _ rfl [] rfl (zero32.map B8).toArray built32_0 (hK _ _ ?_))
  clear hK K
  try simp only [Act.put, zSa, zSz, zSs]
  refine BigFrame.wpList_want (by rfl) (fun K hK => wp_eqlA rfl rfl rfl guardB32 (EqB (Lib.hid HL.out.2) (Lib.hid rfl) (Lib.hid h1) _) (hK _ _ ?_))
  clear hK K
  try simp only [Act.put, zSa, zSz, zSs]
  have c2 : w1.cell? ⟨g1, 65, none⟩ = some (.string ⟨#[]⟩) := by have h := HM.out.ses; rw [h2] at h; exact h
  have c3 : w1.cell? ⟨g1, 66, none⟩ = some (.string ⟨#[]⟩) := by have h := HM.out.sha; rw [h3] at h; exact h
  have c4 : w1.cell? ⟨g1, 67, none⟩ = some (.string ⟨#[]⟩) := by have h := HM.out.tic; rw [h4] at h; exact h
  obtain ⟨x, xs, hx⟩ : ∃ x xs, m.non = x :: xs := by cases e : m.non with | nil => rw [e] at h5; exact absurd h5 (by simp) | cons x xs => exact ⟨x, xs, rfl⟩
  have c5 : w1.cell? ⟨g1, 68, none⟩ = some (TX m.non) := HM.out.non
  have he : ((⟨m.non.toArray⟩ : ByteArray) == ⟨#[]⟩) = false := by rw [hx]; rfl
  go_wp2
  go_ret
  exact ⟨rfl, HB.out⟩
set_option maxRecDepth 100000 in
set_option maxHeartbeats 1000000 in
theorem bare_6 (m : Msg) (cs : List Value) (w : World) (h : RIn w m cs) (h0 : (m.rnd == zero32) = true) (h1 : (m.mark == zero32) = true) (h2 : m.ses = []) (h3 : m.sha = []) (h4 : m.tic = []) (h5 : m.non = []) (h6 : 0 < m.sig.length) : Calls Tryd.prog 39 #[.agg cs.toArray] w fun e w' => e = .returned (.bool false) ∧ Below w.heap.size w w' := by
  have HL := Lib.hid h.1
  have hb1 : Below w.heap.size w (w.alloc (.cells cs.toArray 25)) := (Below.refl _ _).alloc (Nat.le_refl _) _
  have hM : RAt (w.alloc (.cells cs.toArray 25)) w.heap.size m := ⟨cs, Blk.new w 25 cs, h.below hb1⟩
  go_enter Tryd.func39, Tryd.ntmps39
  go_upto_region 0 with (fail)
  refine wp_region_lit ?_
  refine wpList_plain rfl (fun K hK => ?_)
  go_simp
  refine hK _ _ ?_
  clear hK K h
  obtain ⟨g1, hg1⟩ : ∃ g, g = w.heap.size := ⟨_, rfl⟩
  rw [← hg1] at hM
  simp only [← hg1]
  clear hg1
  generalize w.alloc (.cells cs.toArray 25) = w1 at *
  try simp only [Act.put, zSa, zSz, zSs]
  have HM := Lib.hid hM
  have HB := Lib.hid hb1
  clear hM hb1
  go_upto_region 1 with (fail)
  refine wp_region_lit ?_
  refine wpList_plain rfl (fun K hK => ?_)
  go_simp
  refine hK _ _ ?_
  clear hK K
  try simp only [Act.put, zSa, zSz, zSs]
  refine wpList_plain rfl (fun K hK => wp_load_mid 22 (.tmp 3) rfl g1 1 rfl (m.rnd.map B8) _ HM.out.rnd Tryd.underlying22 rfl (info40.trans (by rw [List.length_map, HL.out.1])) (hK _ _ ?_))
  clear hK K
  try simp only [Act.put, zSa, zSz, zSs]
  refine wpList_plain rfl (fun K hK => wp_builtV 22 _ rfl [] rfl (zero32.map B8).toArray built32_0 (hK _ _ ?_))
  clear hK K
  try simp only [Act.put, zSa, zSz, zSs]
  refine wpList_plain rfl (fun K hK => wp_eqlA rfl rfl rfl guardB32 (EqB (Lib.hid HL.out.1) (Lib.hid rfl) (Lib.hid h0) _) (hK _ _ ?_))
  clear hK K
  try simp only [Act.put, zSa, zSz, zSs]
  refine wpList_plain rfl (fun K hK => ?_)
  go_simp
  refine hK _ _ ?_
  clear hK K
  try simp only [Act.put, zSa, zSz, zSs]
  refine BigFrame.wpList_want (by rfl) (fun K hK => ?_)
  go_simp
  refine hK _ _ ?_
  clear hK K
  try simp only [Act.put, zSa, zSz, zSs]
  refine BigFrame.wpList_want (by rfl) (fun K hK => wp_load_mid 22 (.tmp 8) rfl g1 33 rfl (m.mark.map B8) _ HM.out.mark Tryd.underlying22 rfl (info40.trans (by rw [List.length_map, HL.out.2])) (hK _ _ ?_))
  clear hK K
  try simp only [Act.put, zSa, zSz, zSs]
  refine BigFrame.wpList_want (by rfl) (fun K hK => wp_builtV 22 _ rfl [] rfl (zero32.map B8).toArray built32_0 (hK _ _ ?_))
  clear hK K
  try simp only [Act.put, zSa, zSz, zSs]
  refine BigFrame.wpList_want (by rfl) (fun K hK => wp_eqlA rfl rfl rfl guardB32 (EqB (Lib.hid HL.out.2) (Lib.hid rfl) (Lib.hid h1) _) (hK _ _ ?_))
  clear hK K
  try simp only [Act.put, zSa, zSz, zSs]
  have c2 : w1.cell? ⟨g1, 65, none⟩ = some (.string ⟨#[]⟩) := by have h := HM.out.ses; rw [h2] at h; exact h
  have c3 : w1.cell? ⟨g1, 66, none⟩ = some (.string ⟨#[]⟩) := by have h := HM.out.sha; rw [h3] at h; exact h
  have c4 : w1.cell? ⟨g1, 67, none⟩ = some (.string ⟨#[]⟩) := by have h := HM.out.tic; rw [h4] at h; exact h
  have c5 : w1.cell? ⟨g1, 68, none⟩ = some (.string ⟨#[]⟩) := by have h := HM.out.non; rw [h5] at h; exact h
  obtain ⟨x, xs, hx⟩ : ∃ x xs, m.sig = x :: xs := by cases e : m.sig with | nil => rw [e] at h6; exact absurd h6 (by simp) | cons x xs => exact ⟨x, xs, rfl⟩
  have c6 : w1.cell? ⟨g1, 69, none⟩ = some (TX m.sig) := HM.out.sig
  have he : ((⟨m.sig.toArray⟩ : ByteArray) == ⟨#[]⟩) = false := by rw [hx]; rfl
  go_wp2
  go_ret
  exact ⟨rfl, HB.out⟩
set_option maxRecDepth 100000 in
set_option maxHeartbeats 1000000 in
theorem bare_7 (m : Msg) (cs : List Value) (w : World) (h : RIn w m cs) (h0 : (m.rnd == zero32) = true) (h1 : (m.mark == zero32) = true) (h2 : m.ses = []) (h3 : m.sha = []) (h4 : m.tic = []) (h5 : m.non = []) (h6 : m.sig = []) (h7 : 0 < m.certs.length) : Calls Tryd.prog 39 #[.agg cs.toArray] w fun e w' => e = .returned (.bool false) ∧ Below w.heap.size w w' := by
  have HL := Lib.hid h.1
  have hb1 : Below w.heap.size w (w.alloc (.cells cs.toArray 25)) := (Below.refl _ _).alloc (Nat.le_refl _) _
  have hM : RAt (w.alloc (.cells cs.toArray 25)) w.heap.size m := ⟨cs, Blk.new w 25 cs, h.below hb1⟩
  go_enter Tryd.func39, Tryd.ntmps39
  go_upto_region 0 with (fail)
  refine wp_region_lit ?_
  refine wpList_plain rfl (fun K hK => ?_)
  go_simp
  refine hK _ _ ?_
  clear hK K h
  obtain ⟨g1, hg1⟩ : ∃ g, g = w.heap.size := ⟨_, rfl⟩
  rw [← hg1] at hM
  simp only [← hg1]
  clear hg1
  generalize w.alloc (.cells cs.toArray 25) = w1 at *
  try simp only [Act.put, zSa, zSz, zSs]
  have HM := Lib.hid hM
  have HB := Lib.hid hb1
  clear hM hb1
  go_upto_region 1 with (fail)
  refine wp_region_lit ?_
  refine wpList_plain rfl (fun K hK => ?_)
  go_simp
  refine hK _ _ ?_
  clear hK K
  try simp only [Act.put, zSa, zSz, zSs]
  refine wpList_plain rfl (fun K hK => wp_load_mid 22 (.tmp 3) rfl g1 1 rfl (m.rnd.map B8) _ HM.out.rnd Tryd.underlying22 rfl (info40.trans (by rw [List.length_map, HL.out.1])) (hK _ _ ?_))
  clear hK K
  try simp only [Act.put, zSa, zSz, zSs]
  refine wpList_plain rfl (fun K hK => wp_builtV 22 _ rfl [] rfl (zero32.map B8).toArray built32_0 (hK _ _ ?_))
  clear hK K
  try simp only [Act.put, zSa, zSz, zSs]
  refine wpList_plain rfl (fun K hK => wp_eqlA rfl rfl rfl guardB32 (EqB (Lib.hid HL.out.1) (Lib.hid rfl) (Lib.hid h0) _) (hK _ _ ?_))
  clear hK K
  try simp only [Act.put, zSa, zSz, zSs]
  refine wpList_plain rfl (fun K hK => ?_)
  go_simp
  refine hK _ _ ?_
  clear hK K
  try simp only [Act.put, zSa, zSz, zSs]
  refine BigFrame.wpList_want (by rfl) (fun K hK => ?_)
  go_simp
  refine hK _ _ ?_
  clear hK K
  try simp only [Act.put, zSa, zSz, zSs]
  refine BigFrame.wpList_want (by rfl) (fun K hK => wp_load_mid 22 (.tmp 8) rfl g1 33 rfl (m.mark.map B8) _ HM.out.mark Tryd.underlying22 rfl (info40.trans (by rw [List.length_map, HL.out.2])) (hK _ _ ?_))
  clear hK K
  try simp only [Act.put, zSa, zSz, zSs]
  refine BigFrame.wpList_want (by rfl) (fun K hK => wp_builtV 22 _ rfl [] rfl (zero32.map B8).toArray built32_0 (hK _ _ ?_))
  clear hK K
  try simp only [Act.put, zSa, zSz, zSs]
  refine BigFrame.wpList_want (by rfl) (fun K hK => wp_eqlA rfl rfl rfl guardB32 (EqB (Lib.hid HL.out.2) (Lib.hid rfl) (Lib.hid h1) _) (hK _ _ ?_))
  clear hK K
  try simp only [Act.put, zSa, zSz, zSs]
  have c2 : w1.cell? ⟨g1, 65, none⟩ = some (.string ⟨#[]⟩) := by have h := HM.out.ses; rw [h2] at h; exact h
  have c3 : w1.cell? ⟨g1, 66, none⟩ = some (.string ⟨#[]⟩) := by have h := HM.out.sha; rw [h3] at h; exact h
  have c4 : w1.cell? ⟨g1, 67, none⟩ = some (.string ⟨#[]⟩) := by have h := HM.out.tic; rw [h4] at h; exact h
  have c5 : w1.cell? ⟨g1, 68, none⟩ = some (.string ⟨#[]⟩) := by have h := HM.out.non; rw [h5] at h; exact h
  have c6 : w1.cell? ⟨g1, 69, none⟩ = some (.string ⟨#[]⟩) := by have h := HM.out.sig; rw [h6] at h; exact h
  obtain ⟨vc, c7, A, c, rfl, hcc⟩ := HM.out.certs
  obtain ⟨nc, hnc⟩ : ∃ n, m.certs.length = n := ⟨_, rfl⟩
  rw [hnc] at c7 h7 hcc
  have hz : ¬ (nc : Int) = 0 := by omega
  go_wp2
  go_ret
  exact ⟨rfl, HB.out⟩
set_option maxRecDepth 100000 in
set_option maxHeartbeats 1000000 in
theorem bare_8 (m : Msg) (cs : List Value) (w : World) (h : RIn w m cs) (h0 : (m.rnd == zero32) = true) (h1 : (m.mark == zero32) = true) (h2 : m.ses = []) (h3 : m.sha = []) (h4 : m.tic = []) (h5 : m.non = []) (h6 : m.sig = []) (h7 : m.certs.length = 0) (h8 : ¬ m.life = 0) : Calls Tryd.prog 39 #[.agg cs.toArray] w fun e w' => e = .returned (.bool false) ∧ Below w.heap.size w w' := by
  have HL := Lib.hid h.1
  have hb1 : Below w.heap.size w (w.alloc (.cells cs.toArray 25)) := (Below.refl _ _).alloc (Nat.le_refl _) _
  have hM : RAt (w.alloc (.cells cs.toArray 25)) w.heap.size m := ⟨cs, Blk.new w 25 cs, h.below hb1⟩
  go_enter Tryd.func39, Tryd.ntmps39
  go_upto_region 0 with (fail)
  refine wp_region_lit ?_
  refine wpList_plain rfl (fun K hK => ?_)
  go_simp
  refine hK _ _ ?_
  clear hK K h
  obtain ⟨g1, hg1⟩ : ∃ g, g = w.heap.size := ⟨_, rfl⟩
  rw [← hg1] at hM
  simp only [← hg1]
  clear hg1
  generalize w.alloc (.cells cs.toArray 25) = w1 at *
  try simp only [Act.put, zSa, zSz, zSs]
  have HM := Lib.hid hM
  have HB := Lib.hid hb1
  clear hM hb1
  go_upto_region 1 with (fail)
  refine wp_region_lit ?_
  refine wpList_plain rfl (fun K hK => ?_)
  go_simp
  refine hK _ _ ?_
  clear hK K
  try simp only [Act.put, zSa, zSz, zSs]
  refine wpList_plain rfl (fun K hK => wp_load_mid 22 (.tmp 3) rfl g1 1 rfl (m.rnd.map B8) _ HM.out.rnd Tryd.underlying22 rfl (info40.trans (by rw [List.length_map, HL.out.1])) (hK _ _ ?_))
  clear hK K
  try simp only [Act.put, zSa, zSz, zSs]
  refine wpList_plain rfl (fun K hK => wp_builtV 22 _ rfl [] rfl (zero32.map B8).toArray built32_0 (hK _ _ ?_))
  clear hK K
  try simp only [Act.put, zSa, zSz, zSs]
  refine wpList_plain rfl (fun K hK => wp_eqlA rfl rfl rfl guardB32 (EqB (Lib.hid HL.out.1) (Lib.hid rfl) (Lib.hid h0) _) (hK _ _ ?_))
  clear hK K
  try simp only [Act.put, zSa, zSz, zSs]
  refine wpList_plain rfl (fun K hK => ?_)
  go_simp
  refine hK _ _ ?_
  clear hK K
  try simp only [Act.put, zSa, zSz, zSs]
  refine BigFrame.wpList_want (by rfl) (fun K hK => ?_)
  go_simp
  refine hK _ _ ?_
  clear hK K
  try simp only [Act.put, zSa, zSz, zSs]
  refine BigFrame.wpList_want (by rfl) (fun K hK => wp_load_mid 22 (.tmp 8) rfl g1 33 rfl (m.mark.map B8) _ HM.out.mark Tryd.underlying22 rfl (info40.trans (by rw [List.length_map, HL.out.2])) (hK _ _ ?_))
  clear hK K
  try simp only [Act.put, zSa, zSz, zSs]
  refine BigFrame.wpList_want (by rfl) (fun K hK => wp_builtV 22 _ rfl [] rfl (zero32.map B8).toArray built32_0 (hK _ _ ?_))
  clear hK K
  try simp only [Act.put, zSa, zSz, zSs]
  refine BigFrame.wpList_want (by rfl) (fun K hK => wp_eqlA rfl rfl rfl guardB32 (EqB (Lib.hid HL.out.2) (Lib.hid rfl) (Lib.hid h1) _) (hK _ _ ?_))
  clear hK K
  try simp only [Act.put, zSa, zSz, zSs]
  have c2 : w1.cell? ⟨g1, 65, none⟩ = some (.string ⟨#[]⟩) := by have h := HM.out.ses; rw [h2] at h; exact h
  have c3 : w1.cell? ⟨g1, 66, none⟩ = some (.string ⟨#[]⟩) := by have h := HM.out.sha; rw [h3] at h; exact h
  have c4 : w1.cell? ⟨g1, 67, none⟩ = some (.string ⟨#[]⟩) := by have h := HM.out.tic; rw [h4] at h; exact h
  have c5 : w1.cell? ⟨g1, 68, none⟩ = some (.string ⟨#[]⟩) := by have h := HM.out.non; rw [h5] at h; exact h
  have c6 : w1.cell? ⟨g1, 69, none⟩ = some (.string ⟨#[]⟩) := by have h := HM.out.sig; rw [h6] at h; exact h
  obtain ⟨vc, c7, A, c, rfl, hcc⟩ := HM.out.certs
  obtain ⟨nc, hnc⟩ : ∃ n, m.certs.length = n := ⟨_, rfl⟩
  rw [hnc] at c7 h7 hcc
  subst h7
  have c8 := HM.out.life
  go_wp2
  go_ret
  exact ⟨rfl, HB.out⟩
set_option maxRecDepth 100000 in
set_option maxHeartbeats 1000000 in
theorem bare_9 (m : Msg) (cs : List Value) (w : World) (h : RIn w m cs) (h0 : (m.rnd == zero32) = true) (h1 : (m.mark == zero32) = true) (h2 : m.ses = []) (h3 : m.sha = []) (h4 : m.tic = []) (h5 : m.non = []) (h6 : m.sig = []) (h7 : m.certs.length = 0) (h8 : m.life = 0) (h9 : ¬ m.age = 0) : Calls Tryd.prog 39 #[.agg cs.toArray] w fun e w' => e = .returned (.bool false) ∧ Below w.heap.size w w' := by
  have HL := Lib.hid h.1
  have hb1 : Below w.heap.size w (w.alloc (.cells cs.toArray 25)) := (Below.refl _ _).alloc (Nat.le_refl _) _
  have hM : RAt (w.alloc (.cells cs.toArray 25)) w.heap.size m := ⟨cs, Blk.new w 25 cs, h.below hb1⟩
  go_enter Tryd.func39, Tryd.ntmps39
  go_upto_region 0 with (fail)
  refine wp_region_lit ?_
  refine wpList_plain rfl (fun K hK => ?_)
  go_simp
  refine hK _ _ ?_
  clear hK K h
  obtain ⟨g1, hg1⟩ : ∃ g, g = w.heap.size := ⟨_, rfl⟩
  rw [← hg1] at hM
  simp only [← hg1]
  clear hg1
  generalize w.alloc (.cells cs.toArray 25) = w1 at *
  try simp only [Act.put, zSa, zSz, zSs]
  have HM := Lib.hid hM
  have HB := Lib.hid hb1
  clear hM hb1
  go_upto_region 1 with (fail)
  refine wp_region_lit ?_
  refine wpList_plain rfl (fun K hK => ?_)
  go_simp
  refine hK _ _ ?_
  clear hK K
  try simp only [Act.put, zSa, zSz, zSs]
  refine wpList_plain rfl (fun K hK => wp_load_mid 22 (.tmp 3) rfl g1 1 rfl (m.rnd.map B8) _ HM.out.rnd Tryd.underlying22 rfl (info40.trans (by rw [List.length_map, HL.out.1])) (hK _ _ ?_))
  clear hK K
  try simp only [Act.put, zSa, zSz, zSs]
  refine wpList_plain rfl (fun K hK => wp_builtV 22 _ rfl [] rfl (zero32.map B8).toArray built32_0 (hK _ _ ?_))
  clear hK K
  try simp only [Act.put, zSa, zSz, zSs]
  refine wpList_plain rfl (fun K hK => wp_eqlA rfl rfl rfl guardB32 (EqB (Lib.hid HL.out.1) (Lib.hid rfl) (Lib.hid h0) _) (hK _ _ ?_))
  clear hK K
  try simp only [Act.put, zSa, zSz, zSs]
  refine wpList_plain rfl (fun K hK => ?_)
  go_simp
  refine hK _ _ ?_
  clear hK K
  try simp only [Act.put, zSa, zSz, zSs]
  refine BigFrame.wpList_want (by rfl) (fun K hK => ?_)
  go_simp
  refine hK _ _ ?_
  clear hK K
  try simp only [Act.put, zSa, zSz, zSs]
  refine BigFrame.wpList_want (by rfl) (fun K hK => wp_load_mid 22 (.tmp 8) rfl g1 33 rfl (m.mark.map B8) _ HM.out.mark Tryd.underlying22 rfl (info40.trans (by rw [List.length_map, HL.out.2])) (hK _ _ ?_))
  clear hK K
  try simp only [Act.put, zSa, zSz, zSs]
  refine BigFrame.wpList_want (by rfl) (fun K hK => wp_builtV 22 _ rfl [] rfl (zero32.map B8).toArray built32_0 (hK _ _ ?_))
  clear hK K
  try simp only [Act.put, zSa, zSz, zSs]
  refine BigFrame.wpList_want (by rfl) (fun K hK => wp_eqlA rfl rfl rfl guardB32 (EqB (Lib.hid HL.out.2) (Lib.hid rfl) (Lib.hid h1) _) (hK _ _ ?_))
  clear hK K
  try simp only [Act.put, zSa, zSz, zSs]
  have c2 : w1.cell? ⟨g1, 65, none⟩ = some (.string ⟨#[]⟩) := by have h := HM.out.ses; rw [h2] at h; exact h
  have c3 : w1.cell? ⟨g1, 66, none⟩ = some (.string ⟨#[]⟩) := by have h := HM.out.sha; rw [h3] at h; exact h
  have c4 : w1.cell? ⟨g1, 67, none⟩ = some (.string ⟨#[]⟩) := by have h := HM.out.tic; rw [h4] at h; exact h
  have c5 : w1.cell? ⟨g1, 68, none⟩ = some (.string ⟨#[]⟩) := by have h := HM.out.non; rw [h5] at h; exact h
  have c6 : w1.cell? ⟨g1, 69, none⟩ = some (.string ⟨#[]⟩) := by have h := HM.out.sig; rw [h6] at h; exact h
  obtain ⟨vc, c7, A, c, rfl, hcc⟩ := HM.out.certs
  obtain ⟨nc, hnc⟩ : ∃ n, m.certs.length = n := ⟨_, rfl⟩
  rw [hnc] at c7 h7 hcc
  subst h7
  have c8 := HM.out.life
  rw [h8] at c8
  have c9 := HM.out.age
  go_wp2
  go_ret
  exact ⟨rfl, HB.out⟩
set_option maxRecDepth 100000 in
set_option maxHeartbeats 1000000 in
theorem bare_10 (m : Msg) (cs : List Value) (w : World) (h : RIn w m cs) (h0 : (m.rnd == zero32) = true) (h1 : (m.mark == zero32) = true) (h2 : m.ses = []) (h3 : m.sha = []) (h4 : m.tic = []) (h5 : m.non = []) (h6 : m.sig = []) (h7 : m.certs.length = 0) (h8 : m.life = 0) (h9 : m.age = 0) (h10 : m.psk = true) : Calls Tryd.prog 39 #[.agg cs.toArray] w fun e w' => e = .returned (.bool false) ∧ Below w.heap.size w w' := by
  have HL := Lib.hid h.1
  have hb1 : Below w.heap.size w (w.alloc (.cells cs.toArray 25)) := (Below.refl _ _).alloc (Nat.le_refl _) _
  have hM : RAt (w.alloc (.cells cs.toArray 25)) w.heap.size m := ⟨cs, Blk.new w 25 cs, h.below hb1⟩
  go_enter Tryd.func39, Tryd.ntmps39
  go_upto_region 0 with (fail)
  refine wp_region_lit ?_
  refine wpList_plain rfl (fun K hK => ?_)
  go_simp
  refine hK _ _ ?_
  clear hK K h
  obtain ⟨g1, hg1⟩ : ∃ g, g = w.heap.size := ⟨_, rfl⟩
  rw [← hg1] at hM
  simp only [← hg1]
  clear hg1
  generalize w.alloc (.cells cs.toArray 25) = w1 at *
  try simp only [Act.put, zSa, zSz, zSs]
  have HM := Lib.hid hM
  have HB := Lib.hid hb1
  clear hM hb1
  go_upto_region 1 with (fail)
  refine wp_region_lit ?_
  refine wpList_plain rfl (fun K hK => ?_)
  go_simp
  refine hK _ _ ?_
  clear hK K
  try simp only [Act.put, zSa, zSz, zSs]
  refine wpList_plain rfl (fun K hK => wp_load_mid 22 (.tmp 3) rfl g1 1 rfl (m.rnd.map B8) _ HM.out.rnd Tryd.underlying22 rfl (info40.trans (by rw [List.length_map, HL.out.1])) (hK _ _ ?_))
  clear hK K
  try simp only [Act.put, zSa, zSz, zSs]
  refine wpList_plain rfl (fun K hK => wp_builtV 22 _ rfl [] rfl (zero32.map B8).toArray built32_0 (hK _ _ ?_))
  clear hK K
  try simp only [Act.put, zSa, zSz, zSs]
  refine wpList_plain rfl (fun K hK => wp_eqlA rfl rfl rfl guardB32 (EqB (Lib.hid HL.out.1) (Lib.hid rfl) (Lib.hid h0) _) (hK _ _ ?_))
  clear hK K
  try simp only [Act.put, zSa, zSz, zSs]
  refine wpList_plain rfl (fun K hK => ?_)
  go_simp
  refine hK _ _ ?_
  clear hK K
  try simp only [Act.put, zSa, zSz, zSs]
  refine BigFrame.wpList_want (by rfl) (fun K hK => ?_)
  go_simp
  refine hK _ _ ?_
  clear hK K
  try simp only [Act.put, zSa, zSz, zSs]
  refine BigFrame.wpList_want (by rfl) (fun K hK => wp_load_mid 22 (.tmp 8) rfl g1 33 rfl (m.mark.map B8) _ HM.out.mark Tryd.underlying22 rfl (info40.trans (by rw [List.length_map, HL.out.2])) (hK _ _ ?_))
  clear hK K
  try simp only [Act.put, zSa, zSz, zSs]
  refine BigFrame.wpList_want (by rfl) (fun K hK => wp_builtV 22 _ rfl [] rfl (zero32.map B8).toArray built32_0 (hK _ _ ?_))
  clear hK K
  try simp only [Act.put, zSa, zSz, zSs]
  refine BigFrame.wpList_want (by rfl) (fun K hK => wp_eqlA rfl rfl rfl guardB32 (EqB (Lib.hid HL.out.2) (Lib.hid rfl) (Lib.hid h1) _) (hK _ _ ?_))
  clear hK K
  try simp only [Act.put, zSa, zSz, zSs]
  have c2 : w1.cell? ⟨g1, 65, none⟩ = some (.string ⟨#[]⟩) := by have h := HM.out.ses; rw [h2] at h; exact h
  have c3 : w1.cell? ⟨g1, 66, none⟩ = some (.string ⟨#[]⟩) := by have h := HM.out.sha; rw [h3] at h; exact h
  have c4 : w1.cell? ⟨g1, 67, none⟩ = some (.string ⟨#[]⟩) := by have h := HM.out.tic; rw [h4] at h; exact h
  have c5 : w1.cell? ⟨g1, 68, none⟩ = some (.string ⟨#[]⟩) := by have h := HM.out.non; rw [h5] at h; exact h
  have c6 : w1.cell? ⟨g1, 69, none⟩ = some (.string ⟨#[]⟩) := by have h := HM.out.sig; rw [h6] at h; exact h
  obtain ⟨vc, c7, A, c, rfl, hcc⟩ := HM.out.certs
  obtain ⟨nc, hnc⟩ : ∃ n, m.certs.length = n := ⟨_, rfl⟩
  rw [hnc] at c7 h7 hcc
  subst h7
  have c8 := HM.out.life
  rw [h8] at c8
  have c9 := HM.out.age
  rw [h9] at c9
  have c10 := HM.out.psk
  rw [h10] at c10
  go_wp2
  go_ret
  exact ⟨rfl, HB.out⟩
set_option maxRecDepth 100000 in
set_option maxHeartbeats 1000000 in
theorem bare_11 (m : Msg) (cs : List Value) (w : World) (h : RIn w m cs) (h0 : (m.rnd == zero32) = true) (h1 : (m.mark == zero32) = true) (h2 : m.ses = []) (h3 : m.sha = []) (h4 : m.tic = []) (h5 : m.non = []) (h6 : m.sig = []) (h7 : m.certs.length = 0) (h8 : m.life = 0) (h9 : m.age = 0) (h10 : m.psk = false) (h11 : m.retry = true) : Calls Tryd.prog 39 #[.agg cs.toArray] w fun e w' => e = .returned (.bool false) ∧ Below w.heap.size w w' := by
  have HL := Lib.hid h.1
  have hb1 : Below w.heap.size w (w.alloc (.cells cs.toArray 25)) := (Below.refl _ _).alloc (Nat.le_refl _) _
  have hM : RAt (w.alloc (.cells cs.toArray 25)) w.heap.size m := ⟨cs, Blk.new w 25 cs, h.below hb1⟩
  go_enter Tryd.func39, Tryd.ntmps39
  go_upto_region 0 with (fail)
  refine wp_region_lit ?_
  refine wpList_plain rfl (fun K hK => ?_)
  go_simp
  refine hK _ _ ?_
  clear hK K h
  obtain ⟨g1, hg1⟩ : ∃ g, g = w.heap.size := ⟨_, rfl⟩
  rw [← hg1] at hM
  simp only [← hg1]
  clear hg1
  generalize w.alloc (.cells cs.toArray 25) = w1 at *
  try simp only [Act.put, zSa, zSz, zSs]
  have HM := Lib.hid hM
  have HB := Lib.hid hb1
  clear hM hb1
  go_upto_region 1 with (fail)
  refine wp_region_lit ?_
  refine wpList_plain rfl (fun K hK => ?_)
  go_simp
  refine hK _ _ ?_
  clear hK K
  try simp only [Act.put, zSa, zSz, zSs]
  refine wpList_plain rfl (fun K hK => wp_load_mid 22 (.tmp 3) rfl g1 1 rfl (m.rnd.map B8) _ HM.out.rnd Tryd.underlying22 rfl (info40.trans (by rw [List.length_map, HL.out.1])) (hK _ _ ?_))
  clear hK K
  try simp only [Act.put, zSa, zSz, zSs]
  refine wpList_plain rfl (fun K hK => wp_builtV 22 _ rfl [] rfl (zero32.map B8).toArray built32_0 (hK _ _ ?_))
  clear hK K
  try simp only [Act.put, zSa, zSz, zSs]
  refine wpList_plain rfl (fun K hK => wp_eqlA rfl rfl rfl guardB32 (EqB (Lib.hid HL.out.1) (Lib.hid rfl) (Lib.hid h0) _) (hK _ _ ?_))
  clear hK K
  try simp only [Act.put, zSa, zSz, zSs]
  refine wpList_plain rfl (fun K hK => ?_)
  go_simp
  refine hK _ _ ?_
  clear hK K
  try simp only [Act.put, zSa, zSz, zSs]
  refine BigFrame.wpList_want (by rfl) (fun K hK => ?_)
  go_simp
  refine hK _ _ ?_
  clear hK K
  try simp only [Act.put, zSa, zSz, zSs]
  refine BigFrame.wpList_want (by rfl) (fun K hK => wp_load_mid 22 (.tmp 8) rfl g1 33 rfl (m.mark.map B8) _ HM.out.mark Tryd.underlying22 rfl (info40.trans (by rw [List.length_map, HL.out.2])) (hK _ _ ?_))
  clear hK K
  try simp only [Act.put, zSa, zSz, zSs]
  refine BigFrame.wpList_want (by rfl) (fun K hK => wp_builtV 22 _ rfl [] rfl (zero32.map B8).toArray built32_0 (hK _ _ ?_))
  clear hK K
  try simp only [Act.put, zSa, zSz, zSs]
  refine BigFrame.wpList_want (by rfl) (fun K hK => wp_eqlA rfl rfl rfl guardB32 (EqB (Lib.hid HL.out.2) (Lib.hid rfl) (Lib.hid h1) _) (hK _ _ ?_))
  clear hK K
  try simp only [Act.put, zSa, zSz, zSs]
  have c2 : w1.cell? ⟨g1, 65, none⟩ = some (.string ⟨#[]⟩) := by have h := HM.out.ses; rw [h2] at h; exact h
  have c3 : w1.cell? ⟨g1, 66, none⟩ = some (.string ⟨#[]⟩) := by have h := HM.out.sha; rw [h3] at h; exact h
  have c4 : w1.cell? ⟨g1, 67, none⟩ = some (.string ⟨#[]⟩) := by have h := HM.out.tic; rw [h4] at h; exact h
  have c5 : w1.cell? ⟨g1, 68, none⟩ = some (.string ⟨#[]⟩) := by have h := HM.out.non; rw [h5] at h; exact h
  have c6 : w1.cell? ⟨g1, 69, none⟩ = some (.string ⟨#[]⟩) := by have h := HM.out.sig; rw [h6] at h; exact h
  obtain ⟨vc, c7, A, c, rfl, hcc⟩ := HM.out.certs
  obtain ⟨nc, hnc⟩ : ∃ n, m.certs.length = n := ⟨_, rfl⟩
  rw [hnc] at c7 h7 hcc
  subst h7
  have c8 := HM.out.life
  rw [h8] at c8
  have c9 := HM.out.age
  rw [h9] at c9
  have c10 := HM.out.psk
  rw [h10] at c10
  have c11 := HM.out.retry
  rw [h11] at c11
  go_wp2
  go_ret
  exact ⟨rfl, HB.out⟩
set_option maxRecDepth 100000 in
set_option maxHeartbeats 1000000 in
theorem bare_12 (m : Msg) (cs : List Value) (w : World) (h : RIn w m cs) (h0 : (m.rnd == zero32) = true) (h1 : (m.mark == zero32) = true) (h2 : m.ses = []) (h3 : m.sha = []) (h4 : m.tic = []) (h5 : m.non = []) (h6 : m.sig = []) (h7 : m.certs.length = 0) (h8 : m.life = 0) (h9 : m.age = 0) (h10 : m.psk = false) (h11 : m.retry = false) : Calls Tryd.prog 39 #[.agg cs.toArray] w fun e w' => e = .returned (.bool true) ∧ Below w.heap.size w w' := by
  have HL := Lib.hid h.1
  have hb1 : Below w.heap.size w (w.alloc (.cells cs.toArray 25)) := (Below.refl _ _).alloc (Nat.le_refl _) _
  have hM : RAt (w.alloc (.cells cs.toArray 25)) w.heap.size m := ⟨cs, Blk.new w 25 cs, h.below hb1⟩
  go_enter Tryd.func39, Tryd.ntmps39
  go_upto_region 0 with (fail)
  refine wp_region_lit ?_
  refine wpList_plain rfl (fun K hK => ?_)
  go_simp
  refine hK _ _ ?_
  clear hK K h
  obtain ⟨g1, hg1⟩ : ∃ g, g = w.heap.size := ⟨_, rfl⟩
  rw [← hg1] at hM
  simp only [← hg1]
  clear hg1
  generalize w.alloc (.cells cs.toArray 25) = w1 at *
  try simp only [Act.put, zSa, zSz, zSs]
  have HM := Lib.hid hM
  have HB := Lib.hid hb1
  clear hM hb1
  go_upto_region 1 with (fail)
  refine wp_region_lit ?_
  refine wpList_plain rfl (fun K hK => ?_)
  go_simp
  refine hK _ _ ?_
  clear hK K
  try simp only [Act.put, zSa, zSz, zSs]
  refine wpList_plain rfl (fun K hK => wp_load_mid 22 (.tmp 3) rfl g1 1 rfl (m.rnd.map B8) _ HM.out.rnd Tryd.underlying22 rfl (info40.trans (by rw [List.length_map, HL.out.1])) (hK _ _ ?_))
  clear hK K
  try simp only [Act.put, zSa, zSz, zSs]
  refine wpList_plain rfl (fun K hK => wp_builtV 22 _ rfl [] rfl (zero32.map B8).toArray built32_0 (hK _ _ ?_))
  clear hK K
  try simp only [Act.put, zSa, zSz, zSs]
  refine wpList_plain rfl (fun K hK => wp_eqlA rfl rfl rfl guardB32 (EqB (Lib.hid HL.out.1) (Lib.hid rfl) (Lib.hid h0) _) (hK _ _ ?_))
  clear hK K
  try simp only [Act.put, zSa, zSz, zSs]
  refine wpList_plain rfl (fun K hK => ?_)
  go_simp
  refine hK _ _ ?_
  clear hK K
  try simp only [Act.put, zSa, zSz, zSs]
  refine BigFrame.wpList_want (by rfl) (fun K hK => ?_)
  go_simp
  refine hK _ _ ?_
  clear hK K
  try simp only [Act.put, zSa, zSz, zSs]
  refine BigFrame.wpList_want (by rfl) (fun K hK => wp_load_mid 22 (.tmp 8) rfl g1 33 rfl (m.mark.map B8) _ HM.out.mark Tryd.underlying22 rfl (info40.trans (by rw [List.length_map, HL.out.2])) (hK _ _ ?_))
  clear hK K
  try simp only [Act.put, zSa, zSz, zSs]
  refine BigFrame.wpList_want (by rfl) (fun K hK => wp_builtV 22 _ rfl [] rfl (zero32.map B8).toArray built32_0 (hK _ _ ?_))
  clear hK K
  try simp only [Act.put, zSa, zSz, zSs]
  refine BigFrame.wpList_want (by rfl) (fun K hK => wp_eqlA rfl rfl rfl guardB32 (EqB (Lib.hid HL.out.2) (Lib.hid rfl) (Lib.hid h1) _) (hK _ _ ?_))
  clear hK K
  try simp only [Act.put, zSa, zSz, zSs]
  have c2 : w1.cell? ⟨g1, 65, none⟩ = some (.string ⟨#[]⟩) := by have h := HM.out.ses; rw [h2] at h; exact h
  have c3 : w1.cell? ⟨g1, 66, none⟩ = some (.string ⟨#[]⟩) := by have h := HM.out.sha; rw [h3] at h; exact h
  have c4 : w1.cell? ⟨g1, 67, none⟩ = some (.string ⟨#[]⟩) := by have h := HM.out.tic; rw [h4] at h; exact h
  have c5 : w1.cell? ⟨g1, 68, none⟩ = some (.string ⟨#[]⟩) := by have h := HM.out.non; rw [h5] at h; exact h
  have c6 : w1.cell? ⟨g1, 69, none⟩ = some (.string ⟨#[]⟩) := by have h := HM.out.sig; rw [h6] at h; exact h
  obtain ⟨vc, c7, A, c, rfl, hcc⟩ := HM.out.certs
  obtain ⟨nc, hnc⟩ : ∃ n, m.certs.length = n := ⟨_, rfl⟩
  rw [hnc] at c7 h7 hcc
  subst h7
  have c8 := HM.out.life
  rw [h8] at c8
  have c9 := HM.out.age
  rw [h9] at c9
  have c10 := HM.out.psk
  rw [h10] at c10
  have c11 := HM.out.retry
  rw [h11] at c11
  go_wp2
  go_ret
  exact ⟨rfl, HB.out⟩
theorem bare_e (m : Msg) (cs : List Value) (w : World) (h : RIn w m cs) : Calls Tryd.prog 39 #[.agg cs.toArray] w fun e w' => e = .returned (.bool (bareM m)) ∧ Below w.heap.size w w' := by
  cases h0 : (m.rnd == zero32) with
  | false =>
    have e : bareM m = false := by unfold bareM; simp [bne, some8, h0]
    rw [e]
    exact bare_0 m cs w h h0
  | true =>
  cases h1 : (m.mark == zero32) with
  | false =>
    have e : bareM m = false := by unfold bareM; simp [bne, some8, h0, h1]
    rw [e]
    exact bare_1 m cs w h h0 h1
  | true =>
  rcases Nat.eq_zero_or_pos m.ses.length with h2 | h2
  rotate_left 1
  · have e : bareM m = false := by unfold bareM; simp [bne, some8, h0, h1, h2]
    rw [e]
    exact bare_2 m cs w h h0 h1 h2
  replace h2 := List.eq_nil_of_length_eq_zero h2
  rcases Nat.eq_zero_or_pos m.sha.length with h3 | h3
  rotate_left 1
  · have e : bareM m = false := by unfold bareM; simp [bne, some8, h0, h1, h2, h3]
    rw [e]
    exact bare_3 m cs w h h0 h1 h2 h3
  replace h3 := List.eq_nil_of_length_eq_zero h3
  rcases Nat.eq_zero_or_pos m.tic.length with h4 | h4
  rotate_left 1
  · have e : bareM m = false := by unfold bareM; simp [bne, some8, h0, h1, h2, h3, h4]
    rw [e]
    exact bare_4 m cs w h h0 h1 h2 h3 h4
  replace h4 := List.eq_nil_of_length_eq_zero h4
  rcases Nat.eq_zero_or_pos m.non.length with h5 | h5
  rotate_left 1
  · have e : bareM m = false := by unfold bareM; simp [bne, some8, h0, h1, h2, h3, h4, h5]
    rw [e]
    exact bare_5 m cs w h h0 h1 h2 h3 h4 h5
  replace h5 := List.eq_nil_of_length_eq_zero h5
  rcases Nat.eq_zero_or_pos m.sig.length with h6 | h6
  rotate_left 1
  · have e : bareM m = false := by unfold bareM; simp [bne, some8, h0, h1, h2, h3, h4, h5, h6]
    rw [e]
    exact bare_6 m cs w h h0 h1 h2 h3 h4 h5 h6
  replace h6 := List.eq_nil_of_length_eq_zero h6
  rcases Nat.eq_zero_or_pos m.certs.length with h7 | h7
  rotate_left 1
  · have e : bareM m = false := by unfold bareM; simp [bne, some8, h0, h1, h2, h3, h4, h5, h6, h7]
    rw [e]
    exact bare_7 m cs w h h0 h1 h2 h3 h4 h5 h6 h7
  by_cases h8 : m.life = 0
  rotate_left 1
  · have e : bareM m = false := by unfold bareM; simp [bne, some8, h0, h1, h2, h3, h4, h5, h6, h7, h8]
    rw [e]
    exact bare_8 m cs w h h0 h1 h2 h3 h4 h5 h6 h7 h8
  by_cases h9 : m.age = 0
  rotate_left 1
  · have e : bareM m = false := by unfold bareM; simp [bne, some8, h0, h1, h2, h3, h4, h5, h6, h7, h8, h9]
    rw [e]
    exact bare_9 m cs w h h0 h1 h2 h3 h4 h5 h6 h7 h8 h9
  cases h10 : m.psk with
  | true =>
    have e : bareM m = false := by unfold bareM; simp [bne, some8, h0, h1, h2, h3, h4, h5, h6, h7, h8, h9, h10]
    rw [e]
    exact bare_10 m cs w h h0 h1 h2 h3 h4 h5 h6 h7 h8 h9 h10
  | false =>
  cases h11 : m.retry with
  | true =>
    have e : bareM m = false := by unfold bareM; simp [bne, some8, h0, h1, h2, h3, h4, h5, h6, h7, h8, h9, h10, h11]
    rw [e]
    exact bare_11 m cs w h h0 h1 h2 h3 h4 h5 h6 h7 h8 h9 h10 h11
  | false =>
  have e : bareM m = true := by unfold bareM; simp [bne, some8, h0, h1, h2, h3, h4, h5, h6, h7, h8, h9, h10, h11]
  rw [e]
  exact bare_12 m cs w h h0 h1 h2 h3 h4 h5 h6 h7 h8 h9 h10 h11
end

section
open Go.RowKit
open HelloMath (Msg zero32 some8 special formM bodyM okM fitM)

/-- Some cells go into a block that is known, from place off on. -/
theorem wpList_store_part {P : Program} {ops : Array Oper} {rest : List Oper} {o : Oper} {a : Act} {w : World} {Q : Exit → Act → World → Prop} (hgd : o.guard = none) (ty : TypeId) (x y : Operand) (ho : o.op = .store ty x y) (hd : o.dst = none)
    (g off : Nat) (cells : List Value) (hx : a.eval x = .pointer (some ⟨g, off, none⟩)) (hy : a.eval y = .agg cells.toArray)
    (t : TypeId) (old : List Value) (hg : Blk w g t old) (hi : (P.info? ty).map (·.size) = some cells.length)
    (hfit : off + cells.length ≤ old.length) (h1 : ∀ v ∈ cells, v.oneCell' = true)
    (h : ∀ w', Blk w' g t (splice old off cells) → w.grownBy w' (some g) → wpList P ops Q rest a w') : wpList P ops Q (o :: rest) a w := by
  have hst := run_storeCells_at P g off t cells 0 old.toArray w hg (by simpa using hfit) h1
  refine wpList_plain hgd fun K hK => ?_
  have hrun : (storeVar ty ⟨g, off, none⟩ (.agg cells.toArray)).run P w = .ok () (w.setRow g (splice old off cells).toArray) := by
    cases hq : P.info? ty with
    | none => simp [hq] at hi
    | some i =>
      have hs : cells.length = i.size := by simp [hq] at hi; omega
      simp only [Nat.add_zero] at hst
      simp [storeVar, sizeOf, typeInfo, hq, Value.cells, hs, hst, splice_eq]
  unfold Oper.wp execOp
  simp only [ho, hx, hy, Instr.storeAt, Instr.sureAddr, Sem.run_bind, Sem.run_pure, Result.andThen_ok, hrun]
  exact hK _ _ (by rw [hd]; exact h _ (hg.row _) (grown_setRow _ _ _))

theorem splice_one {cs : List Value} {i : Nat} (h : i < cs.length) (v : Value) : splice cs i [v] = cs.set i v := by
  rw [splice_eq, List.set_eq_take_append_cons_drop, if_pos h]
  simp
/-- One cell goes into a block that is known. -/
theorem wpList_store_one {P : Program} {ops : Array Oper} {rest : List Oper} {o : Oper} {a : Act} {w : World} {Q : Exit → Act → World → Prop} (hgd : o.guard = none) (ty : TypeId) (x y : Operand) (ho : o.op = .store ty x y) (hd : o.dst = none)
    (g i : Nat) (v : Value) (hx : a.eval x = .pointer (some ⟨g, i, none⟩)) (hy : a.eval y = v) (hv : v.cells = #[v])
    (t : TypeId) (old : List Value) (hg : Blk w g t old) (hi : (P.info? ty).map (·.size) = some 1) (hfit : i < old.length) (h1 : v.oneCell' = true)
    (h : ∀ w', Blk w' g t (old.set i v) → w.grownBy w' (some g) → wpList P ops Q rest a w') : wpList P ops Q (o :: rest) a w := by
  have hst := run_storeCells_at P g i t [v] 0 old.toArray w hg (by simp only [List.length_cons, List.length_nil, List.size_toArray]; omega) (by intro u hu; rw [List.mem_singleton.1 hu]; exact h1)
  refine wpList_plain hgd fun K hK => ?_
  have hrun : (storeVar ty ⟨g, i, none⟩ v).run P w = .ok () (w.setRow g (old.set i v).toArray) := by
    cases hq : P.info? ty with
    | none => simp [hq] at hi
    | some j =>
      have hs : 1 = j.size := by simp [hq] at hi; omega
      rw [← splice_one hfit v]
      simp only [Nat.add_zero] at hst
      simp [storeVar, sizeOf, typeInfo, hq, hv, hs.symm, hst, splice_eq]
  unfold Oper.wp execOp
  simp only [ho, hx, hy, Instr.storeAt, Instr.sureAddr, Sem.run_bind, Sem.run_pure, Result.andThen_ok, hrun]
  exact hK _ _ (by rw [hd]; exact h _ (hg.row _) (grown_setRow _ _ _))
section
variable {m : Msg} {vc : Value}
theorem rC_splR {x : List UInt8} (hl : m.rnd.length = 32 ∧ m.mark.length = 32) (hx : x.length = 32) : splice (rC m vc) 1 (x.map B8) = rC { m with rnd := x } vc := by
  unfold rC mC
  rw [splice_eq, List.length_map, hx, show 1 + 32 = 32 + 1 by rfl, List.drop_succ_cons, List.drop_left' (by rw [List.length_map, hl.1])]
  rfl
theorem rC_splK {x : List UInt8} (hl : m.rnd.length = 32 ∧ m.mark.length = 32) (hx : x.length = 32) : splice (rC m vc) 33 (x.map B8) = rC { m with mark := x } vc := by
  unfold rC mC
  rw [splice_eq, List.length_map, hx, show 33 + 32 = 64 + 1 by rfl, List.drop_succ_cons, show (33 : Nat) = 32 + 1 by rfl, List.take_succ_cons, List.take_left' (by rw [List.length_map, hl.1]), ← List.append_assoc (m.rnd.map B8) (m.mark.map B8), List.drop_left' (by rw [List.length_append, List.length_map, List.length_map, hl.1, hl.2])]
  rw [List.cons_append]
theorem len_rC (hl : m.rnd.length = 32 ∧ m.mark.length = 32) : (rC m vc).length = 75 := mC_length hl.1 hl.2
theorem rC_ses (hl : m.rnd.length = 32 ∧ m.mark.length = 32) (s : List UInt8) : (rC m vc).set 65 (TX s) = rC { m with ses := s } vc := by
  unfold rC
  rw [show (65 : Nat) = 65 + 0 from rfl, mC_set hl.1 hl.2]
  rfl
theorem rC_sha (hl : m.rnd.length = 32 ∧ m.mark.length = 32) (s : List UInt8) : (rC m vc).set 66 (TX s) = rC { m with sha := s } vc := by
  unfold rC
  rw [show (66 : Nat) = 65 + 1 from rfl, mC_set hl.1 hl.2]
  rfl
theorem rC_tic (hl : m.rnd.length = 32 ∧ m.mark.length = 32) (s : List UInt8) : (rC m vc).set 67 (TX s) = rC { m with tic := s } vc := by
  unfold rC
  rw [show (67 : Nat) = 65 + 2 from rfl, mC_set hl.1 hl.2]
  rfl
theorem rC_non (hl : m.rnd.length = 32 ∧ m.mark.length = 32) (s : List UInt8) : (rC m vc).set 68 (TX s) = rC { m with non := s } vc := by
  unfold rC
  rw [show (68 : Nat) = 65 + 3 from rfl, mC_set hl.1 hl.2]
  rfl
theorem rC_sig (hl : m.rnd.length = 32 ∧ m.mark.length = 32) (s : List UInt8) : (rC m vc).set 69 (TX s) = rC { m with sig := s } vc := by
  unfold rC
  rw [show (69 : Nat) = 65 + 4 from rfl, mC_set hl.1 hl.2]
  rfl
theorem rC_life (hl : m.rnd.length = 32 ∧ m.mark.length = 32) (s : Int) : (rC m vc).set 71 (.int .i64 s) = rC { m with life := s } vc := by
  unfold rC
  rw [show (71 : Nat) = 65 + 6 from rfl, mC_set hl.1 hl.2]
  rfl
theorem rC_age (hl : m.rnd.length = 32 ∧ m.mark.length = 32) (s : Int) : (rC m vc).set 72 (.int .i64 s) = rC { m with age := s } vc := by
  unfold rC
  rw [show (72 : Nat) = 65 + 7 from rfl, mC_set hl.1 hl.2]
  rfl
theorem rC_psk (hl : m.rnd.length = 32 ∧ m.mark.length = 32) (s : Bool) : (rC m vc).set 73 (.bool s) = rC { m with psk := s } vc := by
  unfold rC
  rw [show (73 : Nat) = 65 + 8 from rfl, mC_set hl.1 hl.2]
  rfl
theorem rC_retry (hl : m.rnd.length = 32 ∧ m.mark.length = 32) (s : Bool) : (rC m vc).set 74 (.bool s) = rC { m with retry := s } vc := by
  unfold rC
  rw [show (74 : Nat) = 65 + 9 from rfl, mC_set hl.1 hl.2]
  rfl
theorem rC_certs0 (hl : m.rnd.length = 32 ∧ m.mark.length = 32) : (rC m vc).set 70 (.slice none 0 0) = rC { m with certs := [] } (.slice none 0 0) := by
  unfold rC
  rw [show (70 : Nat) = 65 + 5 from rfl, mC_set hl.1 hl.2]
  rfl
end
section
variable {w : World} {o : Oper} {a : Act}
theorem exec_catS (x y : Operand) (ho : o.op = .binOp .add 9 x y 9) (p q : List UInt8) (hx : a.eval x = TX p) (hy : a.eval y = TX q) (hn : p.length + q.length ≤ 1099511627776) : (execOp a.eval o).run Tryd.prog w = .ok (.value (TX (p ++ q))) w := by
  have h1 : ¬ 9223372036854775807 < p.length + q.length := by omega
  have h2 := cat_bytes p q
  unfold execOp
  simp only [ho, hx, hy]
  go_simp
theorem exec_catL (x y : Operand) (ho : o.op = .binOp .add 9 x y 9) (p q r : List UInt8) (hr : p ++ q = r) (hx : a.eval x = TX p) (hy : a.eval y = TX q) (hn : p.length + q.length ≤ 1099511627776) : (execOp a.eval o).run Tryd.prog w = .ok (.value (TX r)) w := by
  rw [← hr]; exact exec_catS x y ho p q hx hy hn
theorem exec_rowOf {x : Operand} {t e : TypeId} {m g ob : Nat} (ho : o.op = .slice t x none none none) (hu : Tryd.prog.underlying t = some (.array m e)) (hs : ∀ w, (sizeOf e).run Tryd.prog w = .ok 1 w) (hx : a.eval x = .pointer (some ⟨g, ob, none⟩)) : (execOp a.eval o).run Tryd.prog w = .ok (.value (.slice (some ⟨g, ob, none⟩) m m)) w := by
  unfold execOp
  simp only [ho, hx, Option.map_none, Sem.run_bind, run_rowOf hu (hs w), Result.andThen_ok]
  rfl
theorem exec_strV (x : Operand) (ho : o.op = .convert 27 9 x) (bs : List UInt8) (v : Value) (hx : a.eval x = v) (hv : SlV w v bs) : (execOp a.eval o).run Tryd.prog w = .ok (.value (TX bs)) w := by
  unfold execOp
  simp only [ho, hx, run_strV hv, Sem.run_bind, Result.andThen_ok, Sem.run_pure]
end
/-- what the reference's Body returns -/
def BodyP (m : Msg) (w : World) (e : Ending) (w' : World) : Prop := ∃ s, e = .returned (.tuple #[TX s, .bool (formM m)]) ∧ (formM m = true → s = bodyM m) ∧ Below w.heap.size w w'
end
end Go.Proofs.YtagblbfbjemfhaaDoor
