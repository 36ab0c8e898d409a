/-
  Package hello's Read: the first message of bytes, or what is wrong.
-/
import Derived.Test.YtagblbfbjemfhaaDoorId
import Derived.BigFrame
namespace Go.Proofs.YtagblbfbjemfhaaDoor
open Go.RowKit
open HelloMath (numB numB_length vecB vecB_length Msg getN getN_snoc isKind headE readBy saidM formM wholeM zeroM said_finds)

section
variable {o : Oper} {a : Act} {w : World} {K : Act → World → Prop} {Q : Exit → Act → World → Prop}
theorem wp_sliceH {x y : Operand} (ho : o.op = .slice 27 x none (some y) none) {B : Nat} {v : Value} {bs : List UInt8} (hx : a.eval x = v) (hv : SlB w B v bs) (k : Nat) (hy : a.eval y = .int .i64 (k : Int)) (hk : k ≤ bs.length)
    (h : ∀ v', SlB w B v' (bs.take k) → K (a.put o.dst v') w) : o.wp Tryd.prog a w K Q := by
  obtain ⟨v', hr, hv'⟩ := run_sliceH hv k hk
  unfold Oper.wp execOp
  simp only [ho, hx, hy, Option.map_some, Option.map_none, Sem.run_bind, hr, Result.andThen_ok]
  exact h v' hv'
end
set_option maxRecDepth 100000 in
theorem builtMsg0 : Tryd.prog.built 30 [] = some (mC (zeroM 0) (.slice none 0 0) (.slice none 0 0) (.slice none 0 0) (.slice none 0 0) (.slice none 0 0) (.slice none 0 0)).toArray := by kernel_rfl
theorem results_c2 {P : Program} {fn : Func} {p q r : Tmp} {ty : TypeId} (h : fn.results = #[.cell p ty, .tmp q, .tmp r]) (tmps : Array Value) (w : World) (g o : Nat) (cs : List Value) (d : TypeDesc) (v u : Value)
    (hp : tmps.getD p undef = .pointer (some ⟨g, o, none⟩)) (hq : tmps.getD q undef = v) (hr : tmps.getD r undef = u) (hc : w.rangeAt g o cs)
    (hu : P.underlying ty = some d) (hd : d.isRow = true) (hi : (P.info? ty).map (·.size) = some cs.length) :
    (results fn tmps).run P w = .ok (.tuple #[.agg cs.toArray, v, u]) w := by
  have hp' : tmps[p]?.getD undef = .pointer (some ⟨g, o, none⟩) := by simpa using hp
  have hq' : tmps[q]?.getD undef = v := by simpa using hq
  have hr' : tmps[r]?.getD undef = u := by simpa using hr
  simp [results, h, hp', hq', hr', asAddr, run_loadVar_mid w g o ty cs d hc hu hd hi]
theorem mvo_zero (w : World) (D : Nat) : MVo w D (zeroM 0) (mC (zeroM 0) (.slice none 0 0) (.slice none 0 0) (.slice none 0 0) (.slice none 0 0) (.slice none 0 0) (.slice none 0 0)) := ⟨⟨rfl, rfl⟩, _, _, _, _, _, _, rfl, ⟨none, 0, rfl, Buf.nil _ _⟩, ⟨none, 0, rfl, Buf.nil _ _⟩, ⟨none, 0, rfl, Buf.nil _ _⟩, ⟨none, 0, rfl, Buf.nil _ _⟩, ⟨none, 0, rfl, Buf.nil _ _⟩, Rws.nil _ _⟩
def ReadP (b : List UInt8) (w : World) (e : Ending) (w' : World) : Prop := ∃ cs, e = .returned (.tuple #[.agg cs.toArray, .int .i64 ((readBy saidM b).2.1 : Int), .int .i64 ((readBy saidM b).2.2 : Int)]) ∧ MVo w' w.heap.size (readBy saidM b).1 cs ∧ Below w.heap.size w w'
theorem head_none {b : List UInt8} {s : Nat} (h : headE b = none) (hs : 4 + getN ((b.drop 1).take 3) = s) : 4 ≤ s ∧ s ≤ b.length := by
  unfold headE at h
  split at h
  · cases h
  · split at h
    · cases h
    · split at h
      · cases h
      · split at h
        · cases h
        · omega
theorem read_by {b : List UInt8} {s : Nat} {m : Msg} (h : headE b = none) (hs : 4 + getN ((b.drop 1).take 3) = s) (_h4 : 4 ≤ s) (hm : saidM (((b.take s).getD 0 0).toNat : Int) ((b.take s).drop 4) = m) :
    readBy saidM b = if formM m = true ∧ wholeM m = b.take s then (m, s, 0) else (zeroM 0, 0, 2) := by
  have e1 : (b.take s).getD 0 0 = b.getD 0 0 := HelloMath.getD_take (by omega)
  have e2 : (b.take s).drop 4 = (b.drop 4).take (getN ((b.drop 1).take 3)) := by rw [List.drop_take]; congr 1; omega
  rw [e1, e2] at hm
  unfold readBy
  rw [h]
  dsimp only
  rw [hm, hs]
set_option maxRecDepth 100000 in
set_option maxHeartbeats 2000000 in
theorem read_none (b : List UInt8) (v : Value) (w : World) (hT : TabH w) (hv : SlV w v b) (h40 : Hid (b.length ≤ 200000)) (hE : headE b = none) (hsd0 : SaidOk (b.take (4 + getN ((b.drop 1).take 3)))) : Calls Tryd.prog 16 #[v] w (ReadP b w) := by
  obtain ⟨s, hs⟩ : ∃ s, 4 + getN ((b.drop 1).take 3) = s := ⟨_, rfl⟩
  rw [hs] at hsd0
  have HSD := Lib.hid hsd0
  clear hsd0
  obtain ⟨hs4, hsl⟩ := head_none hE hs
  have HE := Lib.hid (show sizeE b = (s, 0) by unfold sizeE; rw [hE, ← hs])
  obtain ⟨m, hm⟩ : ∃ m, saidM (((b.take s).getD 0 0).toNat : Int) ((b.take s).drop 4) = m := ⟨_, rfl⟩
  have hml : m.rnd.length = 32 ∧ m.mark.length = 32 := by rw [← hm]; exact said_finds.2 _ _
  have hrd := read_by hE hs hs4 hm
  have HM := Lib.hid hm
  have HSL := Lib.hid (And.intro hs4 hsl)
  have h4s := Lib.hid (show 4 ≤ (b.take s).length ∧ (b.take s).length ≤ 200000 by rw [List.length_take]; have := h40.out; omega)
  have HTT := Lib.hid hT
  clear hT
  cases hf : formM m with
  | false =>
    rw [hf, if_neg (by simp)] at hrd
    have HR := Lib.hid hrd
    have HF := Lib.hid hf
    clear hrd hf
    go_enter Tryd.func16, Tryd.ntmps16
    go_upto_region 0 with (fail)
    refine wp_region_lit ?_
    refine wpList_new_blk rfl 30 rfl (mC (zeroM 0) (.slice none 0 0) (.slice none 0 0) (.slice none 0 0) (.slice none 0 0) (.slice none 0 0) (.slice none 0 0)) zeroMsg ?_
    intro gr w1 hgr br hb1
    have HGR := Lib.hid (Nat.le_of_eq hgr.symm)
    clear hgr
    have hS1 := Lib.hid (show SlB w1 w.heap.size v b from (show SlB w w.heap.size v b from hv).below hb1)
    try simp only [Act.put, zSa, zSz, zSs]
    go_upto_region 2 with (go_at_call 26; refine (size_e b v _ (hS1.out.sl hb1.size) h40).mono ?_; rintro e w2 ⟨rfl, hb2⟩; rw [HE.out])
    have hb12 := hb1.trans (hb2.mono hb1.size)
    have br2 := br.below hb2 br.lt
    have hS2 := Lib.hid (hS1.out.below (hb2.mono hb1.size))
    clear hS1 br hb2 hb1
    have hT2 := HTT.out.below hb12
    clear hs hs4 hsl hm hE
    go_upto_region 4 with (fail)
    refine wp_region_lit ?_
    refine wpList_plain rfl (fun K hK => ?_)
    go_simp
    refine hK _ _ ?_
    clear hK K
    try simp only [Act.put, zSa, zSz, zSs]
    refine wpList_plain rfl (fun K hK => ?_)
    go_simp
    refine hK _ _ ?_
    clear hK K
    try simp only [Act.put, zSa, zSz, zSs]
    refine wpList_sliceH rfl rfl rfl hS2.out s rfl HSL.out.2 ?_
    intro v3 hv3
    try simp only [Act.put, zSa, zSz, zSs]
    refine wpList_plain rfl (fun K hK0 => ?_)
    have hK := Lib.hid hK0
    clear hK0
    go_simp
    go_at_call 27
    refine (HSD.out v3 _ hT2 (hv3.sl hb12.size)).mono ?_
    rintro e w4 ⟨cs, rfl, hmo4, hb4⟩
    try go_wp2_with fail
    refine hK.out _ _ ?_
    clear hK K
    try simp only [Act.put, zSa, zSz, zSs]
    rw [HM.out] at hmo4
    have hb14 := hb12.trans (hb4.mono hb12.size)
    refine wpList_new_blk rfl 30 rfl (mC (zeroM 0) (.slice none 0 0) (.slice none 0 0) (.slice none 0 0) (.slice none 0 0) (.slice none 0 0) (.slice none 0 0)) zeroMsg ?_
    intro gm w5 hgm bm hb5
    have HGM := Lib.hid hgm
    clear hgm
    have hb15 := hb14.trans (hb5.mono hb14.size)
    try simp only [Act.put, zSa, zSz, zSs]
    refine wpList_store_blk rfl 30 (.tmp 7) (.tmp 22) rfl rfl gm cs rfl rfl _ _ bm (infoMsg.trans (by rw [hmo4.len])) (by rw [mC_length rfl rfl, hmo4.len]) hmo4.one ?_
    intro w6 bm6 hg6
    try simp only [Act.put, zSa, zSz, zSs]
    have hgmw : w4.heap.size ≤ gm := by rw [HGM.out]; exact Nat.le_refl _
    have hb46 : Below w4.heap.size w4 w6 := hb5.trans (grown_below hg6 hgmw hb5.size)
    have hmo6 := hmo4.below hb46
    have HRD := Lib.hid br2.lt
    have HS12 := Lib.hid hb12.size
    have hb16 := hb14.trans (hb46.mono hb14.size)
    have br4 := br2.below hb4 br2.lt
    have br6 := br4.below hb46 br4.lt
    have HGM2 := Lib.hid (show gr < gm ∧ w.heap.size ≤ gm from ⟨Nat.lt_of_lt_of_le br4.lt hgmw, Nat.le_trans hb14.size hgmw⟩)
    have hT6 := HTT.out.below hb16
    have hS6 := Lib.hid (hS2.out.below ((show Below w.heap.size w2 w6 from ((hb4.mono hb12.size).trans (hb46.mono hb14.size)))))
    clear hb4 hb46 hb5 hb14 hb15 hg6 hmo4 bm br2 br4 hb12 hT2 hS2 hv3
    go_upto_region 5 with (fail)
    refine wp_region_lit ?_
    refine wpList_load_mid rfl 30 (.tmp 7) rfl gm 0 rfl cs _ (rangeAt_of_blk bm6) Tryd.underlying30 rfl (infoMsg.trans (by rw [hmo6.len])) ?_
    try simp only [Act.put, zSa, zSz, zSs]
    refine wpList_plain rfl (fun K hK0 => ?_)
    have hK := Lib.hid hK0
    clear hK0
    go_simp
    go_at_call 11
    refine (write_0 m cs _ hT6 hmo6.mvs HF.out).mono ?_
    rintro e w7 ⟨rfl, hb7⟩
    try go_wp2_with fail
    refine hK.out _ _ ?_
    clear hK K
    try simp only [Act.put, zSa, zSz, zSs]
    have br7 := br6.below hb7 br6.lt
    have hb17 := hb16.trans (hb7.mono hb16.size)
    go_upto_region 7 with (fail)
    refine wp_region_lit ?_
    refine wpList_plain rfl (fun K hK => wp_builtV 30 _ rfl [] rfl (mC (zeroM 0) (.slice none 0 0) (.slice none 0 0) (.slice none 0 0) (.slice none 0 0) (.slice none 0 0) (.slice none 0 0)).toArray builtMsg0 (hK _ _ ?_))
    clear hK K
    try simp only [Act.put, zSa, zSz, zSs]
    refine wpList_store_blk rfl 30 (.tmp 2) (.tmp 38) rfl rfl gr (mC (zeroM 0) (.slice none 0 0) (.slice none 0 0) (.slice none 0 0) (.slice none 0 0) (.slice none 0 0) (.slice none 0 0)) rfl rfl _ _ br7 (infoMsg.trans (by rw [mC_length rfl rfl])) rfl (one_mC rfl rfl rfl rfl rfl rfl) ?_
    intro wz bz hgz
    try simp only [Act.put, zSa, zSz, zSs]
    go_wp2
    refine bodyPost_ret (results_c2 rfl _ _ gr 0 (mC (zeroM 0) (.slice none 0 0) (.slice none 0 0) (.slice none 0 0) (.slice none 0 0) (.slice none 0 0) (.slice none 0 0)) _ _ _ rfl rfl rfl (rangeAt_of_blk bz) Tryd.underlying30 rfl (infoMsg.trans (by rw [mC_length rfl rfl]))) rfl ?_
    exact ⟨_, by rw [HR.out]; rfl, by rw [HR.out]; exact mvo_zero _ _, hb17.trans (grown_below hgz HGR.out hb17.size)⟩
  | true =>
    cases heq : wholeM m == b.take s with
    | false =>
      rw [hf, if_neg (by rintro ⟨_, h⟩; rw [h] at heq; simp at heq)] at hrd
      have HR := Lib.hid hrd
      have HF := Lib.hid hf
      have HQ := Lib.hid heq
      clear hrd hf heq
      go_enter Tryd.func16, Tryd.ntmps16
      go_upto_region 0 with (fail)
      refine wp_region_lit ?_
      refine wpList_new_blk rfl 30 rfl (mC (zeroM 0) (.slice none 0 0) (.slice none 0 0) (.slice none 0 0) (.slice none 0 0) (.slice none 0 0) (.slice none 0 0)) zeroMsg ?_
      intro gr w1 hgr br hb1
      have HGR := Lib.hid (Nat.le_of_eq hgr.symm)
      clear hgr
      have hS1 := Lib.hid (show SlB w1 w.heap.size v b from (show SlB w w.heap.size v b from hv).below hb1)
      try simp only [Act.put, zSa, zSz, zSs]
      go_upto_region 2 with (go_at_call 26; refine (size_e b v _ (hS1.out.sl hb1.size) h40).mono ?_; rintro e w2 ⟨rfl, hb2⟩; rw [HE.out])
      have hb12 := hb1.trans (hb2.mono hb1.size)
      have br2 := br.below hb2 br.lt
      have hS2 := Lib.hid (hS1.out.below (hb2.mono hb1.size))
      clear hS1 br hb2 hb1
      have hT2 := HTT.out.below hb12
      clear hs hs4 hsl hm hE
      go_upto_region 4 with (fail)
      refine wp_region_lit ?_
      refine wpList_plain rfl (fun K hK => ?_)
      go_simp
      refine hK _ _ ?_
      clear hK K
      try simp only [Act.put, zSa, zSz, zSs]
      refine wpList_plain rfl (fun K hK => ?_)
      go_simp
      refine hK _ _ ?_
      clear hK K
      try simp only [Act.put, zSa, zSz, zSs]
      refine wpList_sliceH rfl rfl rfl hS2.out s rfl HSL.out.2 ?_
      intro v3 hv3
      try simp only [Act.put, zSa, zSz, zSs]
      refine wpList_plain rfl (fun K hK0 => ?_)
      have hK := Lib.hid hK0
      clear hK0
      go_simp
      go_at_call 27
      refine (HSD.out v3 _ hT2 (hv3.sl hb12.size)).mono ?_
      rintro e w4 ⟨cs, rfl, hmo4, hb4⟩
      try go_wp2_with fail
      refine hK.out _ _ ?_
      clear hK K
      try simp only [Act.put, zSa, zSz, zSs]
      rw [HM.out] at hmo4
      have hb14 := hb12.trans (hb4.mono hb12.size)
      refine wpList_new_blk rfl 30 rfl (mC (zeroM 0) (.slice none 0 0) (.slice none 0 0) (.slice none 0 0) (.slice none 0 0) (.slice none 0 0) (.slice none 0 0)) zeroMsg ?_
      intro gm w5 hgm bm hb5
      have HGM := Lib.hid hgm
      clear hgm
      have hb15 := hb14.trans (hb5.mono hb14.size)
      try simp only [Act.put, zSa, zSz, zSs]
      refine wpList_store_blk rfl 30 (.tmp 7) (.tmp 22) rfl rfl gm cs rfl rfl _ _ bm (infoMsg.trans (by rw [hmo4.len])) (by rw [mC_length rfl rfl, hmo4.len]) hmo4.one ?_
      intro w6 bm6 hg6
      try simp only [Act.put, zSa, zSz, zSs]
      have hgmw : w4.heap.size ≤ gm := by rw [HGM.out]; exact Nat.le_refl _
      have hb46 : Below w4.heap.size w4 w6 := hb5.trans (grown_below hg6 hgmw hb5.size)
      have hmo6 := hmo4.below hb46
      have HRD := Lib.hid br2.lt
      have HS12 := Lib.hid hb12.size
      have hb16 := hb14.trans (hb46.mono hb14.size)
      have br4 := br2.below hb4 br2.lt
      have br6 := br4.below hb46 br4.lt
      have HGM2 := Lib.hid (show gr < gm ∧ w.heap.size ≤ gm from ⟨Nat.lt_of_lt_of_le br4.lt hgmw, Nat.le_trans hb14.size hgmw⟩)
      have hT6 := HTT.out.below hb16
      have hS6 := Lib.hid (hS2.out.below ((show Below w.heap.size w2 w6 from ((hb4.mono hb12.size).trans (hb46.mono hb14.size)))))
      clear hb4 hb46 hb5 hb14 hb15 hg6 hmo4 bm br2 br4 hb12 hT2 hS2 hv3
      go_upto_region 5 with (fail)
      refine wp_region_lit ?_
      refine wpList_load_mid rfl 30 (.tmp 7) rfl gm 0 rfl cs _ (rangeAt_of_blk bm6) Tryd.underlying30 rfl (infoMsg.trans (by rw [hmo6.len])) ?_
      try simp only [Act.put, zSa, zSz, zSs]
      refine wpList_plain rfl (fun K hK0 => ?_)
      have hK := Lib.hid hK0
      clear hK0
      go_simp
      go_at_call 11
      refine (write_1 m cs _ hT6 hmo6.mvs HF.out).mono ?_
      rintro e w7 ⟨r7, rfl, hB7, hb7⟩
      try go_wp2_with fail
      refine hK.out _ _ ?_
      clear hK K
      try simp only [Act.put, zSa, zSz, zSs]
      have br7 := br6.below hb7 br6.lt
      have hb17 := hb16.trans (hb7.mono hb16.size)
      have hS7 := Lib.hid (hS6.out.below (hb7.mono hb16.size))
      go_upto_region 7 with (first
        | ((with_reducible refine (?_ : wpList _ _ _ (Oper.mk (some 34) _ _ _ _ _ :: _) _ _)); go_loud (refine BigFrame.wpList_want (by rfl) (fun K hK => wp_sliceH rfl rfl hS7.out s rfl HSL.out.2 (fun v8 hv8 => hK _ _ ?_))))
        | (go_at_call 28; refine (equal_b _ _ _ _ _ hB7.sl (hv8.sl hb17.size)).mono ?_; rintro e w8 ⟨rfl, hb8⟩; rw [HQ.out]))
      have br8 := br7.below hb8 br7.lt
      have hb18 := hb17.trans (hb8.mono hb17.size)
      refine wp_region_lit ?_
      refine wpList_plain rfl (fun K hK => wp_builtV 30 _ rfl [] rfl (mC (zeroM 0) (.slice none 0 0) (.slice none 0 0) (.slice none 0 0) (.slice none 0 0) (.slice none 0 0) (.slice none 0 0)).toArray builtMsg0 (hK _ _ ?_))
      clear hK K
      try simp only [Act.put, zSa, zSz, zSs]
      refine wpList_store_blk rfl 30 (.tmp 2) (.tmp 38) rfl rfl gr (mC (zeroM 0) (.slice none 0 0) (.slice none 0 0) (.slice none 0 0) (.slice none 0 0) (.slice none 0 0) (.slice none 0 0)) rfl rfl _ _ br8 (infoMsg.trans (by rw [mC_length rfl rfl])) rfl (one_mC rfl rfl rfl rfl rfl rfl) ?_
      intro wz bz hgz
      try simp only [Act.put, zSa, zSz, zSs]
      go_wp2
      refine bodyPost_ret (results_c2 rfl _ _ gr 0 (mC (zeroM 0) (.slice none 0 0) (.slice none 0 0) (.slice none 0 0) (.slice none 0 0) (.slice none 0 0) (.slice none 0 0)) _ _ _ rfl rfl rfl (rangeAt_of_blk bz) Tryd.underlying30 rfl (infoMsg.trans (by rw [mC_length rfl rfl]))) rfl ?_
      exact ⟨_, by rw [HR.out]; rfl, by rw [HR.out]; exact mvo_zero _ _, hb18.trans (grown_below hgz HGR.out hb18.size)⟩
    | true =>
      rw [hf, if_pos ⟨rfl, eq_of_beq heq⟩] at hrd
      have HR := Lib.hid hrd
      have HF := Lib.hid hf
      have HQ := Lib.hid heq
      clear hrd hf heq
      go_enter Tryd.func16, Tryd.ntmps16
      go_upto_region 0 with (fail)
      refine wp_region_lit ?_
      refine wpList_new_blk rfl 30 rfl (mC (zeroM 0) (.slice none 0 0) (.slice none 0 0) (.slice none 0 0) (.slice none 0 0) (.slice none 0 0) (.slice none 0 0)) zeroMsg ?_
      intro gr w1 hgr br hb1
      have HGR := Lib.hid (Nat.le_of_eq hgr.symm)
      clear hgr
      have hS1 := Lib.hid (show SlB w1 w.heap.size v b from (show SlB w w.heap.size v b from hv).below hb1)
      try simp only [Act.put, zSa, zSz, zSs]
      go_upto_region 2 with (go_at_call 26; refine (size_e b v _ (hS1.out.sl hb1.size) h40).mono ?_; rintro e w2 ⟨rfl, hb2⟩; rw [HE.out])
      have hb12 := hb1.trans (hb2.mono hb1.size)
      have br2 := br.below hb2 br.lt
      have hS2 := Lib.hid (hS1.out.below (hb2.mono hb1.size))
      clear hS1 br hb2 hb1
      have hT2 := HTT.out.below hb12
      clear hs hs4 hsl hm hE
      go_upto_region 4 with (fail)
      refine wp_region_lit ?_
      refine wpList_plain rfl (fun K hK => ?_)
      go_simp
      refine hK _ _ ?_
      clear hK K
      try simp only [Act.put, zSa, zSz, zSs]
      refine wpList_plain rfl (fun K hK => ?_)
      go_simp
      refine hK _ _ ?_
      clear hK K
      try simp only [Act.put, zSa, zSz, zSs]
      refine wpList_sliceH rfl rfl rfl hS2.out s rfl HSL.out.2 ?_
      intro v3 hv3
      try simp only [Act.put, zSa, zSz, zSs]
      refine wpList_plain rfl (fun K hK0 => ?_)
      have hK := Lib.hid hK0
      clear hK0
      go_simp
      go_at_call 27
      refine (HSD.out v3 _ hT2 (hv3.sl hb12.size)).mono ?_
      rintro e w4 ⟨cs, rfl, hmo4, hb4⟩
      try go_wp2_with fail
      refine hK.out _ _ ?_
      clear hK K
      try simp only [Act.put, zSa, zSz, zSs]
      rw [HM.out] at hmo4
      have hb14 := hb12.trans (hb4.mono hb12.size)
      refine wpList_new_blk rfl 30 rfl (mC (zeroM 0) (.slice none 0 0) (.slice none 0 0) (.slice none 0 0) (.slice none 0 0) (.slice none 0 0) (.slice none 0 0)) zeroMsg ?_
      intro gm w5 hgm bm hb5
      have HGM := Lib.hid hgm
      clear hgm
      have hb15 := hb14.trans (hb5.mono hb14.size)
      try simp only [Act.put, zSa, zSz, zSs]
      refine wpList_store_blk rfl 30 (.tmp 7) (.tmp 22) rfl rfl gm cs rfl rfl _ _ bm (infoMsg.trans (by rw [hmo4.len])) (by rw [mC_length rfl rfl, hmo4.len]) hmo4.one ?_
      intro w6 bm6 hg6
      try simp only [Act.put, zSa, zSz, zSs]
      have hgmw : w4.heap.size ≤ gm := by rw [HGM.out]; exact Nat.le_refl _
      have hb46 : Below w4.heap.size w4 w6 := hb5.trans (grown_below hg6 hgmw hb5.size)
      have hmo6 := hmo4.below hb46
      have HRD := Lib.hid br2.lt
      have HS12 := Lib.hid hb12.size
      have hb16 := hb14.trans (hb46.mono hb14.size)
      have br4 := br2.below hb4 br2.lt
      have br6 := br4.below hb46 br4.lt
      have HGM2 := Lib.hid (show gr < gm ∧ w.heap.size ≤ gm from ⟨Nat.lt_of_lt_of_le br4.lt hgmw, Nat.le_trans hb14.size hgmw⟩)
      have hT6 := HTT.out.below hb16
      have hS6 := Lib.hid (hS2.out.below ((show Below w.heap.size w2 w6 from ((hb4.mono hb12.size).trans (hb46.mono hb14.size)))))
      clear hb4 hb46 hb5 hb14 hb15 hg6 hmo4 bm br2 br4 hb12 hT2 hS2 hv3
      go_upto_region 5 with (fail)
      refine wp_region_lit ?_
      refine wpList_load_mid rfl 30 (.tmp 7) rfl gm 0 rfl cs _ (rangeAt_of_blk bm6) Tryd.underlying30 rfl (infoMsg.trans (by rw [hmo6.len])) ?_
      try simp only [Act.put, zSa, zSz, zSs]
      refine wpList_plain rfl (fun K hK0 => ?_)
      have hK := Lib.hid hK0
      clear hK0
      go_simp
      go_at_call 11
      refine (write_1 m cs _ hT6 hmo6.mvs HF.out).mono ?_
      rintro e w7 ⟨r7, rfl, hB7, hb7⟩
      try go_wp2_with fail
      refine hK.out _ _ ?_
      clear hK K
      try simp only [Act.put, zSa, zSz, zSs]
      have br7 := br6.below hb7 br6.lt
      have bm7 := bm6.below hb7 bm6.lt
      have hmo7 := hmo6.below hb7
      have hb17 := hb16.trans (hb7.mono hb16.size)
      have hS7 := Lib.hid (hS6.out.below (hb7.mono hb16.size))
      go_upto_region 8 with (first
        | ((with_reducible refine (?_ : wpList _ _ _ (Oper.mk (some 34) _ _ _ _ _ :: _) _ _)); go_loud (refine BigFrame.wpList_want (by rfl) (fun K hK => wp_sliceH rfl rfl hS7.out s rfl HSL.out.2 (fun v8 hv8 => hK _ _ ?_))))
        | (go_at_call 28; refine (equal_b _ _ _ _ _ hB7.sl (hv8.sl hb17.size)).mono ?_; rintro e w8 ⟨rfl, hb8⟩; rw [HQ.out]))
      have br8 := br7.below hb8 br7.lt
      have bm8 := bm7.below hb8 bm7.lt
      have hmo8 := hmo7.below hb8
      have hb18 := hb17.trans (hb8.mono hb17.size)
      refine wp_region_lit ?_
      refine wpList_load_mid rfl 30 (.tmp 7) rfl gm 0 rfl cs _ (rangeAt_of_blk bm8) Tryd.underlying30 rfl (infoMsg.trans (by rw [hmo8.len])) ?_
      try simp only [Act.put, zSa, zSz, zSs]
      refine wpList_plain rfl (fun K hK => ?_)
      go_simp
      refine hK _ _ ?_
      clear hK K
      try simp only [Act.put, zSa, zSz, zSs]
      refine wpList_store_blk rfl 30 (.tmp 2) (.tmp 39) rfl rfl gr cs rfl rfl _ _ br8 (infoMsg.trans (by rw [hmo8.len])) (by rw [mC_length rfl rfl, hmo8.len]) hmo8.one ?_
      intro wz bz hgz
      try simp only [Act.put, zSa, zSz, zSs]
      go_wp2
      refine bodyPost_ret (results_c2 rfl _ _ gr 0 cs _ _ _ rfl rfl rfl (rangeAt_of_blk bz) Tryd.underlying30 rfl (infoMsg.trans (by rw [hmo8.len]))) rfl ?_
      exact ⟨cs, by rw [HR.out]; rfl, by rw [HR.out]; exact (hmo8.kept hgz HRD.out).base HS12.out, hb18.trans (grown_below hgz HGR.out hb18.size)⟩
end Go.Proofs.YtagblbfbjemfhaaDoor
