/-
  The law's from: the reference's message of the program's.
-/
import Derived.Test.YtagblbfbjemfhaaDoorJd
namespace Go.Proofs.YtagblbfbjemfhaaDoor
open Go.RowKit
open HelloMath (Msg zeroM)

set_option maxRecDepth 100000 in
theorem builtS' (a0 a1 a2 a3 a4 a5 a6 a7 a8 a9 a10 a11 a12 a13 a14 a15 a16 a17 a18 a19 a20 a21 a22 a23 a24 a25 a26 a27 a28 a29 a30 a31 b0 b1 b2 b3 b4 b5 b6 b7 b8 b9 b10 b11 b12 b13 b14 b15 b16 b17 b18 b19 b20 b21 b22 b23 b24 b25 b26 b27 b28 b29 b30 b31 : UInt8) (s1 s2 s3 s4 s5 : List UInt8) (k li ag : Int) (ps re : Bool) : Tryd.prog.built 25 [(0, .int .i64 k), (1, .agg #[B8 a0, B8 a1, B8 a2, B8 a3, B8 a4, B8 a5, B8 a6, B8 a7, B8 a8, B8 a9, B8 a10, B8 a11, B8 a12, B8 a13, B8 a14, B8 a15, B8 a16, B8 a17, B8 a18, B8 a19, B8 a20, B8 a21, B8 a22, B8 a23, B8 a24, B8 a25, B8 a26, B8 a27, B8 a28, B8 a29, B8 a30, B8 a31]), (2, .agg #[B8 b0, B8 b1, B8 b2, B8 b3, B8 b4, B8 b5, B8 b6, B8 b7, B8 b8, B8 b9, B8 b10, B8 b11, B8 b12, B8 b13, B8 b14, B8 b15, B8 b16, B8 b17, B8 b18, B8 b19, B8 b20, B8 b21, B8 b22, B8 b23, B8 b24, B8 b25, B8 b26, B8 b27, B8 b28, B8 b29, B8 b30, B8 b31]), (3, TX s1), (4, TX s2), (5, TX s3), (6, TX s4), (7, TX s5), (9, .int .i64 li), (10, .int .i64 ag), (11, .bool ps), (12, .bool re)] = some [.int .i64 k, B8 a0, B8 a1, B8 a2, B8 a3, B8 a4, B8 a5, B8 a6, B8 a7, B8 a8, B8 a9, B8 a10, B8 a11, B8 a12, B8 a13, B8 a14, B8 a15, B8 a16, B8 a17, B8 a18, B8 a19, B8 a20, B8 a21, B8 a22, B8 a23, B8 a24, B8 a25, B8 a26, B8 a27, B8 a28, B8 a29, B8 a30, B8 a31, B8 b0, B8 b1, B8 b2, B8 b3, B8 b4, B8 b5, B8 b6, B8 b7, B8 b8, B8 b9, B8 b10, B8 b11, B8 b12, B8 b13, B8 b14, B8 b15, B8 b16, B8 b17, B8 b18, B8 b19, B8 b20, B8 b21, B8 b22, B8 b23, B8 b24, B8 b25, B8 b26, B8 b27, B8 b28, B8 b29, B8 b30, B8 b31, TX s1, TX s2, TX s3, TX s4, TX s5, (.slice none 0 0), .int .i64 li, .int .i64 ag, .bool ps, .bool re].toArray := by kernel_rfl
set_option maxRecDepth 100000 in
theorem builtS (R M : List UInt8) (hR : R.length = 32) (hM : M.length = 32) (s1 s2 s3 s4 s5 : List UInt8) (k li ag : Int) (ps re : Bool) (m : Msg) (hm : m.kind = k ∧ m.rnd = R ∧ m.mark = M ∧ m.life = li ∧ m.age = ag ∧ m.psk = ps ∧ m.retry = re) : Tryd.prog.built 25 [(0, .int .i64 k), (1, .agg (R.map B8).toArray), (2, .agg (M.map B8).toArray), (3, TX s1), (4, TX s2), (5, TX s3), (6, TX s4), (7, TX s5), (9, .int .i64 li), (10, .int .i64 ag), (11, .bool ps), (12, .bool re)] = some (mC m (TX s1) (TX s2) (TX s3) (TX s4) (TX s5) (.slice none 0 0)).toArray := by
  obtain ⟨a0, a1, a2, a3, a4, a5, a6, a7, a8, a9, a10, a11, a12, a13, a14, a15, a16, a17, a18, a19, a20, a21, a22, a23, a24, a25, a26, a27, a28, a29, a30, a31, rfl⟩ := list32 R hR
  obtain ⟨b0, b1, b2, b3, b4, b5, b6, b7, b8, b9, b10, b11, b12, b13, b14, b15, b16, b17, b18, b19, b20, b21, b22, b23, b24, b25, b26, b27, b28, b29, b30, b31, rfl⟩ := list32 M hM
  obtain ⟨e0, e1, e2, e3, e4, e5, e6⟩ := hm
  unfold mC
  rw [e0, e1, e2, e3, e4, e5, e6]
  exact builtS' a0 a1 a2 a3 a4 a5 a6 a7 a8 a9 a10 a11 a12 a13 a14 a15 a16 a17 a18 a19 a20 a21 a22 a23 a24 a25 a26 a27 a28 a29 a30 a31 b0 b1 b2 b3 b4 b5 b6 b7 b8 b9 b10 b11 b12 b13 b14 b15 b16 b17 b18 b19 b20 b21 b22 b23 b24 b25 b26 b27 b28 b29 b30 b31 s1 s2 s3 s4 s5 k li ag ps re
theorem wp_append_str {o : Oper} {a : Act} {w0 w : World} {K : Act → World → Prop} {Q : Exit → Act → World → Prop} (s x : Operand)
    (ho : o.op = .call { callee := .builtin .append, args := #[s, x], argTypes := #[23, 23] })
    (base : Nat) (v : Value) (ps : List (List UInt8)) (hs : a.eval s = v) (hv : Strs w0 base v ps) (hbl : Below w0.heap.size w0 w) (hbase : base ≤ w0.heap.size)
    (gx : Nat) (hx : a.eval x = .slice (some ⟨gx, 0, none⟩) 1 1) (y : List UInt8) (hc : w.cell? ⟨gx, 0, none⟩ = some (.string ⟨y.toArray⟩))
    (hn : ps.length ≤ 1000000)
    (h : ∀ v' w', Strs w' base v' (ps ++ [y]) → Below base w w' → K (a.put o.dst v') w') : o.wp Tryd.prog a w K Q := by
  obtain ⟨i, hi, hz, hsz, hby⟩ := info_parts infoStr
  have hown : Strs w base v ps := hv.below hbl
  have hlt : ∀ k, v.ownBlock = some k → base ≤ k ∧ k < w.heap.size := World.ownsRow.lt hown
  have hsize := hbl.size
  refine wp_append_lies w s x 23 ho base 9 i _ 1 16 Tryd.underlying23 hi hz hsz hby rfl (by decide) v ps.length _ hs hown ⟨gx, 0, none⟩ 1 1 [.string ⟨y.toArray⟩] hx rfl ?_ ?_ (by decide) (by simp only [maxLen]; omega) (by omega) (by omega) w.heap.size rfl ?_
  · intro j u hj
    match j, hj with
    | 0, hj => simp at hj; subst hj; simpa [Addr.add] using hc
    | j + 1, hj => simp at hj
  · intro u hu; simp at hu; subst hu; rfl
  · intro g cap w' hown' hg hgo hlt'
    refine h _ w' ?_ ⟨hg.os, hg.tape, hg.output, hg.size, fun k hk => hg.block k (by omega) (fun e => by have := (hlt k e.symm).1; omega)⟩
    unfold Strs
    rw [List.length_append, List.map_append]
    exact hown'
section
variable {ops : Array Oper} {rest : List Oper} {o : Oper} {a : Act} {w : World} {K : Act → World → Prop} {Q : Exit → Act → World → Prop}
theorem run_strV {bs : List UInt8} {v : Value} (hv : SlV w v bs) : (convert 27 9 v).run Tryd.prog w = .ok (TX bs) w := by
  obtain ⟨A, c, rfl, hi⟩ := hv
  exact conv_in rfl hi
theorem wp_strV (x : Operand) (ho : o.op = .convert 27 9 x) (bs : List UInt8) (v : Value) (hx : a.eval x = v) (hv : SlV w v bs) (h : K (a.put o.dst (TX bs)) w) : o.wp Tryd.prog a w K Q := by
  unfold Oper.wp execOp
  simp only [ho, hx, run_strV hv, Sem.run_bind, Result.andThen_ok, Sem.run_pure]
  exact h
theorem wpList_strV (hgd : o.guard = none) (x : Operand) (ho : o.op = .convert 27 9 x) (bs : List UInt8) (v : Value) (hx : a.eval x = v) (hv : SlV w v bs) (h : wpList Tryd.prog ops Q rest (a.put o.dst (TX bs)) w) : wpList Tryd.prog ops Q (o :: rest) a w :=
  wpList_plain hgd fun _ hK => wp_strV x ho bs v hx hv (hK _ _ h)
end
theorem rC_lenC {m : Msg} {vc : Value} {l : List (List UInt8)} (hr : m.rnd.length = 32) (hm : m.mark.length = 32) : (rC { m with certs := l } vc).length = 75 := mC_length (m := { m with certs := l }) hr hm
theorem rC_getC {m : Msg} {vc : Value} {l : List (List UInt8)} (hr : m.rnd.length = 32) (hm : m.mark.length = 32) : (rC { m with certs := l } vc)[70]? = some vc := mC_get (m := { m with certs := l }) hr hm 5
theorem rC_set5 {m : Msg} {vc : Value} {l : List (List UInt8)} (hr : m.rnd.length = 32) (hm : m.mark.length = 32) (x : Value) (l' : List (List UInt8)) : (rC { m with certs := l } vc).set 70 x = rC { m with certs := l' } x := mC_set5 (m := m) hr hm x l'
theorem rC_zero : (mC (zeroM 0) (TX []) (TX []) (TX []) (TX []) (TX []) (.slice none 0 0)).length = 75 := rfl
theorem one_rC {m : Msg} {A : Option Addr} {n c : Nat} : (rC m (.slice A n c)).toArray.all (·.oneCell') = true := one_mC rfl rfl rfl rfl rfl rfl
theorem strs1 (p : List UInt8) : Tryd.prog.builtSlice 9 1 [(0, .string ⟨p.toArray⟩)] = some [.string ⟨p.toArray⟩].toArray := by kernel_rfl
set_option maxRecDepth 100000 in
set_option maxHeartbeats 1000000 in
theorem from_e (m : Msg) (cs : List Value) (w : World) (h : MVs w m cs) (HNC : Hid (m.certs.length ≤ 1000)) : Calls Tryd.prog 15 #[.agg cs.toArray] w fun e w' => ∃ cs', e = .returned (.agg cs'.toArray) ∧ RIn w' m cs' ∧ Below w.heap.size w w' := by
  go_enter Tryd.func15, Tryd.ntmps15
  go_upto_region 0 with (fail)
  refine wp_region_lit ?_
  refine wpList_plain rfl (fun K hK => ?_)
  go_simp
  refine hK _ _ ?_
  clear hK K
  have b1 := Blk.new w 30 cs
  have hb1 : Below w.heap.size w (w.alloc (.cells cs.toArray 30)) := (Below.refl _ _).alloc (Nat.le_refl _) _
  have hM1 : MAt (w.alloc (.cells cs.toArray 30)) w.heap.size m := ⟨cs, b1, h.below hb1⟩
  have HLN := Lib.hid hM1.lens
  obtain ⟨g1, hg1⟩ : ∃ g, g = w.heap.size := ⟨_, rfl⟩
  rw [← hg1] at hM1 b1
  simp only [← hg1]
  clear h b1
  generalize w.alloc (.cells cs.toArray 30) = w1 at *
  try simp only [Act.put, zSa, zSz, zSs]
  refine wpList_new_blk rfl 25 rfl _ zeroR ?_
  intro g2 w2 hg2 b2 hbx
  try simp only [Act.put, zSa, zSz, zSs]
  have HG2 := Lib.hid (show w.heap.size ≤ g2 ∧ g1 < g2 ∧ g2 < w2.heap.size by rw [hg2]; exact ⟨hb1.size, hM1.lt, by rw [← hg2]; exact b2.lt⟩)
  have hM2 := hM1.below hbx
  have HB2 := Lib.hid (hb1.trans (hbx.mono hb1.size))
  have HR := Lib.hid (fun (W : World) (hW : Below w2.heap.size w2 W) => (show MAt W g1 m from hM2.below hW))
  have BB2 := Lib.hid b2
  have hb2 : Below w2.heap.size w2 w2 := Below.refl _ _
  clear hg2 hM1 hbx hb1 hg1 hM2 b2
  obtain ⟨vr, hvr, hsr⟩ := (HR.out w2 hb2).certs
  obtain ⟨A, c, hve, hcl1, hcl2, hrow⟩ := hsr
  subst hve
  obtain ⟨n, hn⟩ : ∃ n, m.certs.length = n := ⟨_, rfl⟩
  rw [hn] at hvr hrow
  have HN := Lib.hid hn
  have HROW := Lib.hid hrow
  have HVR := Lib.hid hvr
  clear hvr hrow hcl1 hcl2 hn
  go_upto_region 1 with (fail)
  refine wp_region_lit ?_
  have hcc := (HR.out w2 hb2).kind
  refine wpList_plain rfl (fun K hK => ?_)
  go_simp
  refine hK _ _ ?_
  clear hK K
  try simp only [Act.put, zSa, zSz, zSs]
  refine wpList_plain rfl (fun K hK => ?_)
  go_simp
  refine hK _ _ ?_
  clear hK K
  try simp only [Act.put, zSa, zSz, zSs]
  clear hcc
  refine wpList_plain rfl (fun K hK => ?_)
  go_simp
  refine hK _ _ ?_
  clear hK K
  try simp only [Act.put, zSa, zSz, zSs]
  refine wpList_load_mid rfl 22 (.tmp 7) rfl g1 1 rfl (m.rnd.map B8) _ (HR.out w2 hb2).rnd Tryd.underlying22 rfl (info40.trans (by rw [List.length_map, HLN.out.1])) ?_
  try simp only [Act.put, zSa, zSz, zSs]
  refine wpList_plain rfl (fun K hK => ?_)
  go_simp
  refine hK _ _ ?_
  clear hK K
  try simp only [Act.put, zSa, zSz, zSs]
  refine wpList_load_mid rfl 22 (.tmp 9) rfl g1 33 rfl (m.mark.map B8) _ (HR.out w2 hb2).mark Tryd.underlying22 rfl (info40.trans (by rw [List.length_map, HLN.out.2])) ?_
  try simp only [Act.put, zSa, zSz, zSs]
  obtain ⟨v1, hcc, f1⟩ := (HR.out w2 hb2).ses
  refine wpList_plain rfl (fun K hK => ?_)
  go_simp
  refine hK _ _ ?_
  clear hK K
  try simp only [Act.put, zSa, zSz, zSs]
  refine wpList_plain rfl (fun K hK => ?_)
  go_simp
  refine hK _ _ ?_
  clear hK K
  try simp only [Act.put, zSa, zSz, zSs]
  clear hcc
  refine wpList_strV rfl (.tmp 12) rfl m.ses v1 rfl f1 ?_
  try simp only [Act.put, zSa, zSz, zSs]
  obtain ⟨v2, hcc, f2⟩ := (HR.out w2 hb2).sha
  refine wpList_plain rfl (fun K hK => ?_)
  go_simp
  refine hK _ _ ?_
  clear hK K
  try simp only [Act.put, zSa, zSz, zSs]
  refine wpList_plain rfl (fun K hK => ?_)
  go_simp
  refine hK _ _ ?_
  clear hK K
  try simp only [Act.put, zSa, zSz, zSs]
  clear hcc
  refine wpList_strV rfl (.tmp 15) rfl m.sha v2 rfl f2 ?_
  try simp only [Act.put, zSa, zSz, zSs]
  obtain ⟨v3, hcc, f3⟩ := (HR.out w2 hb2).tic
  refine wpList_plain rfl (fun K hK => ?_)
  go_simp
  refine hK _ _ ?_
  clear hK K
  try simp only [Act.put, zSa, zSz, zSs]
  refine wpList_plain rfl (fun K hK => ?_)
  go_simp
  refine hK _ _ ?_
  clear hK K
  try simp only [Act.put, zSa, zSz, zSs]
  clear hcc
  refine wpList_strV rfl (.tmp 18) rfl m.tic v3 rfl f3 ?_
  try simp only [Act.put, zSa, zSz, zSs]
  obtain ⟨v4, hcc, f4⟩ := (HR.out w2 hb2).non
  refine wpList_plain rfl (fun K hK => ?_)
  go_simp
  refine hK _ _ ?_
  clear hK K
  try simp only [Act.put, zSa, zSz, zSs]
  refine wpList_plain rfl (fun K hK => ?_)
  go_simp
  refine hK _ _ ?_
  clear hK K
  try simp only [Act.put, zSa, zSz, zSs]
  clear hcc
  refine wpList_strV rfl (.tmp 21) rfl m.non v4 rfl f4 ?_
  try simp only [Act.put, zSa, zSz, zSs]
  obtain ⟨v5, hcc, f5⟩ := (HR.out w2 hb2).sig
  refine wpList_plain rfl (fun K hK => ?_)
  go_simp
  refine hK _ _ ?_
  clear hK K
  try simp only [Act.put, zSa, zSz, zSs]
  refine wpList_plain rfl (fun K hK => ?_)
  go_simp
  refine hK _ _ ?_
  clear hK K
  try simp only [Act.put, zSa, zSz, zSs]
  clear hcc
  refine wpList_strV rfl (.tmp 24) rfl m.sig v5 rfl f5 ?_
  try simp only [Act.put, zSa, zSz, zSs]
  have hcc := (HR.out w2 hb2).life
  refine wpList_plain rfl (fun K hK => ?_)
  go_simp
  refine hK _ _ ?_
  clear hK K
  try simp only [Act.put, zSa, zSz, zSs]
  refine wpList_plain rfl (fun K hK => ?_)
  go_simp
  refine hK _ _ ?_
  clear hK K
  try simp only [Act.put, zSa, zSz, zSs]
  clear hcc
  have hcc := (HR.out w2 hb2).age
  refine wpList_plain rfl (fun K hK => ?_)
  go_simp
  refine hK _ _ ?_
  clear hK K
  try simp only [Act.put, zSa, zSz, zSs]
  refine wpList_plain rfl (fun K hK => ?_)
  go_simp
  refine hK _ _ ?_
  clear hK K
  try simp only [Act.put, zSa, zSz, zSs]
  clear hcc
  have hcc := (HR.out w2 hb2).psk
  refine wpList_plain rfl (fun K hK => ?_)
  go_simp
  refine hK _ _ ?_
  clear hK K
  try simp only [Act.put, zSa, zSz, zSs]
  refine wpList_plain rfl (fun K hK => ?_)
  go_simp
  refine hK _ _ ?_
  clear hK K
  try simp only [Act.put, zSa, zSz, zSs]
  clear hcc
  have hcc := (HR.out w2 hb2).retry
  refine wpList_plain rfl (fun K hK => ?_)
  go_simp
  refine hK _ _ ?_
  clear hK K
  try simp only [Act.put, zSa, zSz, zSs]
  refine wpList_plain rfl (fun K hK => ?_)
  go_simp
  refine hK _ _ ?_
  clear hK K
  try simp only [Act.put, zSa, zSz, zSs]
  clear hcc
  refine wpList_plain rfl (fun K hK => wp_builtV 25 _ rfl [(0, .int .i64 m.kind), (1, .agg (m.rnd.map B8).toArray), (2, .agg (m.mark.map B8).toArray), (3, TX m.ses), (4, TX m.sha), (5, TX m.tic), (6, TX m.non), (7, TX m.sig), (9, .int .i64 m.life), (10, .int .i64 m.age), (11, .bool m.psk), (12, .bool m.retry)] rfl _ (builtS m.rnd m.mark HLN.out.1 HLN.out.2 m.ses m.sha m.tic m.non m.sig m.kind m.life m.age m.psk m.retry { m with certs := [] } ⟨rfl, rfl, rfl, rfl, rfl, rfl, rfl⟩) (hK _ _ ?_))
  clear hK K f1 f2 f3 f4 f5
  try simp only [Act.put, zSa, zSz, zSs]
  refine wpList_new_blk rfl 25 rfl _ zeroR ?_
  intro g3 w8 hg3 b8 hb8
  have HG3 := Lib.hid (show w2.heap.size ≤ g3 by rw [hg3]; exact Nat.le_refl _)
  clear hg3 hb2
  try simp only [Act.put, zSa, zSz, zSs]
  refine wpList_store_blk rfl 25 (.tmp 3) (.tmp 34) rfl rfl g3 (rC { m with certs := [] } (.slice none 0 0)) rfl rfl _ _ b8 (infoR.trans (by rw [rC_lenC HLN.out.1 HLN.out.2])) (by rw [rC_lenC HLN.out.1 HLN.out.2, rC_zero]) one_rC ?_
  intro w9 b9 hg9
  try simp only [Act.put, zSa, zSz, zSs]
  have hbL := hb8.trans (grown_below hg9 HG3.out hb8.size)
  have HL9 := Lib.hid b9.lt
  clear b8 hg9 hb8
  have HGS0 := Lib.hid (Nat.lt_of_lt_of_le (Nat.lt_trans HG2.out.2.1 HG2.out.2.2) HG3.out)
  have HB29 := Lib.hid (show Below w2.heap.size w2 w9 from hbL)
  have HCR := Lib.hid (show w9.cell? ⟨g1, 70, none⟩ = some (.slice A n c) from (hbL.cell (p := ⟨g1, 70, none⟩) (Nat.lt_trans HG2.out.2.1 HG2.out.2.2)).trans HVR.out)
  have BB9 := Lib.hid (BB2.out.below hbL HG2.out.2.2)
  have HB9 := Lib.hid (HB2.out.trans (hbL.mono HB2.out.size))
  clear hbL
  go_wp2
  go_loopw [4] (fun i wl => ∃ k : Nat, k ≤ n ∧ i = .int .i64 (k : Int) ∧ ∃ vc, Blk wl g3 25 (rC { m with certs := m.certs.take k } vc) ∧ Strs wl (g3 + 1) vc (m.certs.take k) ∧ Below g3 w9 wl) (fun i _ => n - (intOf i).toNat)
  case atStart => exact ⟨0, Nat.zero_le _, rfl, _, b9, Strs.nil _ _, Below.refl _ _⟩
  case round =>
    obtain ⟨k, hk, rfl, vc, hBk, hRw, hbr⟩ := hrel
    have HBR := Lib.hid hbr
    have hcr : wr.cell? ⟨g1, 70, none⟩ = some (.slice A n c) := (hbr.cell (p := ⟨g1, 70, none⟩) HGS0.out).trans HCR.out
    clear hbr
    by_cases hlt : k < n
    · have hd : (k : Int) < (n : Int) := by omega
      have hvc : wr.cell? ⟨g3, 70, none⟩ = some vc := (hBk.cell 70).trans (rC_getC HLN.out.1 HLN.out.2)
      obtain ⟨Ac, cc, hvcs⟩ := hRw.slice
      subst hvcs
      obtain ⟨lc, hlc⟩ : ∃ q, (m.certs.take k).length = q := ⟨_, rfl⟩
      rw [hlc] at hvc hBk hRw
      have hkr : k < m.certs.length := by rw [HN.out]; exact hlt
      obtain ⟨gp, op, hAe, hgp, hcs⟩ := HROW.out (Nat.lt_of_le_of_lt (Nat.zero_le _) hlt)
      obtain ⟨Ap, cp, hcp, hip0⟩ := hcs k hlt
      obtain ⟨p, hp⟩ : ∃ p, m.certs.getD k [] = p := ⟨_, rfl⟩
      rw [hp] at hcp hip0
      obtain ⟨np, hnp⟩ : ∃ q, p.length = q := ⟨_, rfl⟩
      rw [hnp] at hcp
      have hc1 : wr.cell? ⟨gp, op + k, none⟩ = some (.slice Ap np cp) := (HBR.out.cell (p := ⟨gp, op + k, none⟩) (Nat.lt_of_lt_of_le hgp HG3.out)).trans (((HB29.out).cell (p := ⟨gp, op + k, none⟩) hgp).trans hcp)
      have hip : In wr w2.heap.size Ap cp p := (hip0.below HB29.out).below (HBR.out.mono HG3.out)
      have HGS := Lib.hid (show g1 < g3 ∧ gp < g3 ∧ w2.heap.size ≤ g3 from ⟨HGS0.out, Nat.lt_of_lt_of_le hgp HG3.out, HG3.out⟩)
      have HTK := Lib.hid (show m.certs.take (k + 1) = m.certs.take k ++ [p] by rw [take_snocP hkr, hp])
      have HLK := Lib.hid (show k + 1 ≤ n ∧ (m.certs.take k).length ≤ 1000000 ∧ n - (k + 1) < n - k by have := HNC.out; rw [List.length_take]; omega)
      have HNP := Lib.hid hnp
      obtain ⟨hk0, hkn, hkw⟩ := ix_cut hlt (by have := HN.out; have := HNC.out; omega)
      have HKW := Lib.hid hkw
      subst hAe
      clear hcs hgp hkw hk hlt hkr hp hlc hcp hip0 hnp
      go_upto_region 5 with (fail)
      refine wp_region_noPanic ?_
      refine wp_region_but (S := fun W => W.cell? ⟨g3, 70, none⟩ = some (.slice Ac lc cc) ∧ W.cell? ⟨g1, 70, none⟩ = some (.slice (some ⟨gp, op, none⟩) n c) ∧ W.cell? ⟨gp, op + k, none⟩ = some (.slice Ap np cp) ∧ In W w2.heap.size Ap cp p) 11 (by kernel_rfl) (by exact ⟨hvc, hcr, hc1, hip⟩) (fun hHeld => ?_)
      have hdr : Below wr.heap.size wr wr.drew := (Below.refl _ _).drew
      replace hBk := hBk.below hdr hBk.lt
      replace hRw := hRw.below hdr
      have hbd := HBR.out.trans (hdr.mono (Nat.le_trans (Nat.le_of_lt HL9.out) HBR.out.size))
      clear hdr hcr hvc hc1 hip
      generalize wr.drew = wd at *
      have hL := hBk.lt
      refine but_take (i := 0) (oi := ⟨_, _, _, _, _, _⟩) (v := ?_) rfl (by kernel_rfl) (by kernel_rfl) (by kernel_rfl) (by kernel_rfl) (fun _ _ _ h => h) (Or.inl ⟨by rfl, ?_⟩) hHeld ?_
      rotate_left 1
      · (intro W hSw; (try dsimp only at hSw); obtain ⟨hs1, hs2, hs3, hs4⟩ := hSw; go_simp; try with_reducible rfl)
      try simp only [Act.put, zSa, zSz, zSs]
      refine but_take (i := 1) (oi := ⟨_, _, _, _, _, _⟩) (v := ?_) rfl (by kernel_rfl) (by kernel_rfl) (by kernel_rfl) (by kernel_rfl) (fun _ _ _ h => h) (Or.inl ⟨by rfl, ?_⟩) hHeld ?_
      rotate_left 1
      · (intro W hSw; (try dsimp only at hSw); obtain ⟨hs1, hs2, hs3, hs4⟩ := hSw; go_simp; try with_reducible rfl)
      try simp only [Act.put, zSa, zSz, zSs]
      refine but_take (i := 2) (oi := ⟨_, _, _, _, _, _⟩) (v := ?_) rfl (by kernel_rfl) (by kernel_rfl) (by kernel_rfl) (by kernel_rfl) (fun _ _ _ h => h) (Or.inl ⟨by rfl, ?_⟩) hHeld ?_
      rotate_left 1
      · (intro W hSw; (try dsimp only at hSw); obtain ⟨hs1, hs2, hs3, hs4⟩ := hSw; go_simp; try with_reducible rfl)
      try simp only [Act.put, zSa, zSz, zSs]
      refine but_take (i := 3) (oi := ⟨_, _, _, _, _, _⟩) (v := ?_) rfl (by kernel_rfl) (by kernel_rfl) (by kernel_rfl) (by kernel_rfl) (fun _ _ _ h => h) (Or.inl ⟨by rfl, ?_⟩) hHeld ?_
      rotate_left 1
      · (intro W hSw; (try dsimp only at hSw); obtain ⟨hs1, hs2, hs3, hs4⟩ := hSw; go_simp; try with_reducible rfl)
      try simp only [Act.put, zSa, zSz, zSs]
      refine but_take (i := 4) (oi := ⟨_, _, _, _, _, _⟩) (v := ?_) rfl (by kernel_rfl) (by kernel_rfl) (by kernel_rfl) (by kernel_rfl) (fun _ _ _ h => h) (Or.inl ⟨by rfl, ?_⟩) hHeld ?_
      rotate_left 1
      · (intro W hSw; (try dsimp only at hSw); obtain ⟨hs1, hs2, hs3, hs4⟩ := hSw; go_simp; try with_reducible rfl)
      try simp only [Act.put, zSa, zSz, zSs]
      refine but_take (i := 5) (oi := ⟨_, _, _, _, _, _⟩) (v := ?_) rfl (by kernel_rfl) (by kernel_rfl) (by kernel_rfl) (by kernel_rfl) (fun _ _ _ h => h) (Or.inl ⟨by rfl, ?_⟩) hHeld ?_
      rotate_left 1
      · (intro W hSw; (try dsimp only at hSw); obtain ⟨hs1, hs2, hs3, hs4⟩ := hSw; go_simp; try with_reducible rfl)
      try simp only [Act.put, zSa, zSz, zSs]
      refine but_take (i := 6) (oi := ⟨_, _, _, _, _, _⟩) (v := ?_) rfl (by kernel_rfl) (by kernel_rfl) (by kernel_rfl) (by kernel_rfl) (fun _ _ _ h => h) (Or.inl ⟨by rfl, ?_⟩) hHeld ?_
      rotate_left 1
      · (intro W hSw; (try dsimp only at hSw); obtain ⟨hs1, hs2, hs3, hs4⟩ := hSw; go_simp; try with_reducible rfl)
      try simp only [Act.put, zSa, zSz, zSs]
      refine but_take (i := 7) (oi := ⟨_, _, _, _, _, _⟩) (v := ?_) rfl (by kernel_rfl) (by kernel_rfl) (by kernel_rfl) (by kernel_rfl) (fun _ _ _ h => h) (Or.inl ⟨by rfl, ?_⟩) hHeld ?_
      rotate_left 1
      · (intro W hSw; (try dsimp only at hSw); obtain ⟨hs1, hs2, hs3, hs4⟩ := hSw; have hcv := conv_in HNP.out hs4; go_simp; try with_reducible rfl)
      try simp only [Act.put, zSa, zSz, zSs]
      refine but_ready (i := 8) (o := ⟨_, _, _, _, _, _⟩) (by kernel_rfl) rfl (fun K hK => ?_)
      rw [if_pos (by rfl)]
      refine wp_builtS 23 9 1 _ rfl Tryd.underlying23 [.string ⟨p.toArray⟩].toArray (by rw [Array.toList_map]; exact strs1 _) ?_
      have hB8 := Blk.new wd 9 [.string ⟨p.toArray⟩]
      have hb8 : Below wd.heap.size wd (wd.alloc (.cells [.string ⟨p.toArray⟩].toArray 9)) := (Below.refl _ _).alloc (Nat.le_refl _) _
      have hS8 : (fun W => W.cell? ⟨g3, 70, none⟩ = some (.slice Ac lc cc) ∧ W.cell? ⟨g1, 70, none⟩ = some (.slice (some ⟨gp, op, none⟩) n c) ∧ W.cell? ⟨gp, op + k, none⟩ = some (.slice Ap np cp) ∧ In W w2.heap.size Ap cp p) (wd.alloc (.cells [.string ⟨p.toArray⟩].toArray 9)) := ⟨(hb8.cell (p := ⟨g3, 70, none⟩) hL).trans hHeld.1, (hb8.cell (p := ⟨g1, 70, none⟩) (Nat.lt_trans HGS.out.1 hL)).trans hHeld.2.1, (hb8.cell (p := ⟨gp, op + k, none⟩) (Nat.lt_trans HGS.out.2.1 hL)).trans hHeld.2.2.1, hHeld.2.2.2.below (hb8.mono (Nat.le_trans HGS.out.2.2 (Nat.le_of_lt hL)))⟩
      refine hK.out _ _ hS8 (fun hHeld => ?_)
      clear hK K hS8
      replace hBk := hBk.below hb8 hBk.lt
      generalize wd.alloc (.cells [.string ⟨p.toArray⟩].toArray 9) = w8 at *
      have hLd := hL
      generalize hgd : wd.heap.size = g8 at hB8
      try simp only [Act.put, zSa, zSz, zSs]
      refine but_ready (i := 9) (o := ⟨_, _, _, _, _, _⟩) (by kernel_rfl) rfl (fun K hK => ?_)
      rw [if_pos (by rfl)]
      refine wp_append_str (.tmp 43) (.tmp 50) rfl (g3 + 1) (.slice Ac lc cc) (m.certs.take k) rfl hRw hb8 hL g8 (by first | rfl | (rw [← hgd]; rfl)) p (hB8.cell 0) HLK.out.2.1 ?_
      intro v10 w10 hR10 hb10
      have hS10 : (fun W => W.cell? ⟨g3, 70, none⟩ = some (.slice Ac lc cc) ∧ W.cell? ⟨g1, 70, none⟩ = some (.slice (some ⟨gp, op, none⟩) n c) ∧ W.cell? ⟨gp, op + k, none⟩ = some (.slice Ap np cp) ∧ In W w2.heap.size Ap cp p) w10 := ⟨(hb10.cell (p := ⟨g3, 70, none⟩) (Nat.lt_succ_self _)).trans hHeld.1, (hb10.cell (p := ⟨g1, 70, none⟩) (Nat.lt_succ_of_lt HGS.out.1)).trans hHeld.2.1, (hb10.cell (p := ⟨gp, op + k, none⟩) (Nat.lt_succ_of_lt HGS.out.2.1)).trans hHeld.2.2.1, hHeld.2.2.2.below (hb10.mono (Nat.le_succ_of_le HGS.out.2.2))⟩
      refine hK.out _ _ hS10 (fun hHeld => ?_)
      clear hK K hS10
      have M10 := hBk.below hb10 (Nat.lt_succ_self _)
      have hb810 := (hb8.mono (Nat.le_of_lt hL)).trans (hb10.mono (Nat.le_succ _))
      have hbz := hbd.trans hb810
      clear hBk hB8 hb8 hRw hb10 hbd hb810 hL hLd hgd
      obtain ⟨A10, c10, hv10⟩ := hR10.slice
      subst hv10
      obtain ⟨l10, hl10⟩ : ∃ q, (m.certs.take k ++ [p]).length = q := ⟨_, rfl⟩
      rw [hl10] at hR10 ⊢
      try simp only [Act.put, zSa, zSz, zSs]
      refine but_take (i := 10) (oi := ⟨_, _, _, _, _, _⟩) (v := ?_) rfl (by kernel_rfl) (by kernel_rfl) (by kernel_rfl) (by kernel_rfl) (fun _ _ _ h => h) (Or.inl ⟨by rfl, ?_⟩) hHeld ?_
      rotate_left 1
      · (intro W hSw; (try dsimp only at hSw); go_simp; try with_reducible rfl)
      try simp only [Act.put, zSa, zSz, zSs]
      refine but_last (o := ⟨_, _, _, _, _, _⟩) (by kernel_rfl) rfl (by kernel_rfl) (fun K hK => ?_)
      have hfz := M10.frozen 70
      go_simp
      refine hK.out _ _ ?_
      clear hK K hfz hHeld
      refine NoPanic.normal ?_
      have hg := grown_cell w10 g3 70 (.slice A10 l10 c10)
      have M := M10.set_ 70 (.slice A10 l10 c10)
      rw [rC_set5 HLN.out.1 HLN.out.2 _ (m.certs.take (k + 1))] at M
      have hR := hR10.kept hg (Nat.lt_succ_self _)
      have hbw := hbz.trans (grown_below hg (Nat.le_refl _) (Nat.le_trans (Nat.le_of_lt HL9.out) hbz.size))
      rw [← HTK.out] at hR
      clear hg M10 hR10 hbz
      generalize w10.setCell ⟨g3, 70, none⟩ (.slice A10 l10 c10) = w11 at *
      go_wp2
      go_roundw
      case rel => exact ⟨k + 1, HLK.out.1, by rw [HKW.out], _, M, hR, hbw⟩
      case measure => rw [HKW.out]; simpa [intOf] using HLK.out.2.2
    · have hd : ¬ (k : Int) < (n : Int) := by omega
      have hkn : k = n := by omega
      have hall : m.certs.take k = m.certs := by rw [hkn, ← HN.out, List.take_of_length_le (Nat.le_refl _)]
      rw [hall] at hBk hRw
      obtain ⟨cz, hcz⟩ : ∃ cz, cz = rC { m with certs := m.certs } vc := ⟨_, rfl⟩
      rw [← hcz] at hBk
      have HCZ := Lib.hid hcz
      have HCL := Lib.hid (show cz.length = 75 by rw [hcz]; exact rC_lenC HLN.out.1 HLN.out.2)
      have HRW := Lib.hid hRw
      obtain ⟨Ac, cc, hvcs⟩ := hRw.slice
      have HON := Lib.hid (show cz.toArray.all (·.oneCell') = true by rw [hcz, hvcs]; exact one_rC)
      have B2r := Lib.hid ((BB9.out).below HBR.out (Nat.lt_of_lt_of_le HG2.out.2.2 HG3.out))
      clear hcz hRw hall hkn hk hlt
      go_upto_region 6 with (fail)
      refine wp_region_lit ?_
      refine wpList_load_mid rfl 25 (.tmp 3) rfl g3 0 rfl cz _ (rangeAt_of_blk hBk) Tryd.underlying25 rfl (infoR.trans (by rw [HCL.out])) ?_
      try simp only [Act.put, zSa, zSz, zSs]
      refine wpList_store_blk rfl 25 (.tmp 2) (.tmp 53) rfl rfl g2 cz rfl rfl _ _ B2r.out (infoR.trans (by rw [HCL.out])) (by rw [HCL.out, rC_zero]) HON.out ?_
      intro w12 b12 hg12
      try simp only [Act.put, zSa, zSz, zSs]
      go_wp2
      refine bodyPost_ret (results_row1 rfl _ _ g2 0 cz _ rfl (rangeAt_of_blk b12) Tryd.underlying25 rfl (infoR.trans (by rw [HCL.out]))) rfl ?_
      have hr := (HRW.out.kept hg12 (by have := HG2.out.2.2; have := HG3.out; omega)).strR
      have hbz := HB9.out.trans (HBR.out.mono (Nat.le_trans HB2.out.size HG3.out))
      exact ⟨cz, rfl, ⟨HLN.out, vc, HCZ.out, hr⟩, hbz.trans (grown_below hg12 HG2.out.1 hbz.size)⟩
end Go.Proofs.YtagblbfbjemfhaaDoor
