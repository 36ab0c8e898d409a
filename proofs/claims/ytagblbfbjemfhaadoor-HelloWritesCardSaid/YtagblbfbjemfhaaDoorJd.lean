/-
  The law's to: the program's message of the reference's.
-/
import Derived.Test.YtagblbfbjemfhaaDoorJc
import Derived.Test.YtagblbfbjemfhaaDoorHz
namespace Go.Proofs.YtagblbfbjemfhaaDoor
open Go.RowKit
open HelloMath (Msg zeroM)

set_option maxRecDepth 100000 in
theorem builtM' (a0 a1 a2 a3 a4 a5 a6 a7 a8 a9 a10 a11 a12 a13 a14 a15 a16 a17 a18 a19 a20 a21 a22 a23 a24 a25 a26 a27 a28 a29 a30 a31 b0 b1 b2 b3 b4 b5 b6 b7 b8 b9 b10 b11 b12 b13 b14 b15 b16 b17 b18 b19 b20 b21 b22 b23 b24 b25 b26 b27 b28 b29 b30 b31 : UInt8) (A1 A2 A3 A4 A5 : Option Addr) (n1 c1 n2 c2 n3 c3 n4 c4 n5 c5 : Nat) (k li ag : Int) (ps re : Bool) : Tryd.prog.built 30 [(0, .int .i64 k), (1, .agg #[B8 a0, B8 a1, B8 a2, B8 a3, B8 a4, B8 a5, B8 a6, B8 a7, B8 a8, B8 a9, B8 a10, B8 a11, B8 a12, B8 a13, B8 a14, B8 a15, B8 a16, B8 a17, B8 a18, B8 a19, B8 a20, B8 a21, B8 a22, B8 a23, B8 a24, B8 a25, B8 a26, B8 a27, B8 a28, B8 a29, B8 a30, B8 a31]), (2, .agg #[B8 b0, B8 b1, B8 b2, B8 b3, B8 b4, B8 b5, B8 b6, B8 b7, B8 b8, B8 b9, B8 b10, B8 b11, B8 b12, B8 b13, B8 b14, B8 b15, B8 b16, B8 b17, B8 b18, B8 b19, B8 b20, B8 b21, B8 b22, B8 b23, B8 b24, B8 b25, B8 b26, B8 b27, B8 b28, B8 b29, B8 b30, B8 b31]), (3, (.slice A1 n1 c1)), (4, (.slice A2 n2 c2)), (5, (.slice A3 n3 c3)), (6, (.slice A4 n4 c4)), (7, (.slice A5 n5 c5)), (9, .int .i64 li), (10, .int .i64 ag), (11, .bool ps), (12, .bool re)] = some [.int .i64 k, B8 a0, B8 a1, B8 a2, B8 a3, B8 a4, B8 a5, B8 a6, B8 a7, B8 a8, B8 a9, B8 a10, B8 a11, B8 a12, B8 a13, B8 a14, B8 a15, B8 a16, B8 a17, B8 a18, B8 a19, B8 a20, B8 a21, B8 a22, B8 a23, B8 a24, B8 a25, B8 a26, B8 a27, B8 a28, B8 a29, B8 a30, B8 a31, B8 b0, B8 b1, B8 b2, B8 b3, B8 b4, B8 b5, B8 b6, B8 b7, B8 b8, B8 b9, B8 b10, B8 b11, B8 b12, B8 b13, B8 b14, B8 b15, B8 b16, B8 b17, B8 b18, B8 b19, B8 b20, B8 b21, B8 b22, B8 b23, B8 b24, B8 b25, B8 b26, B8 b27, B8 b28, B8 b29, B8 b30, B8 b31, (.slice A1 n1 c1), (.slice A2 n2 c2), (.slice A3 n3 c3), (.slice A4 n4 c4), (.slice A5 n5 c5), (.slice none 0 0), .int .i64 li, .int .i64 ag, .bool ps, .bool re].toArray := by kernel_rfl
set_option maxRecDepth 100000 in
theorem builtM (R M : List UInt8) (hR : R.length = 32) (hM : M.length = 32) (A1 A2 A3 A4 A5 : Option Addr) (n1 c1 n2 c2 n3 c3 n4 c4 n5 c5 : Nat) (k li ag : Int) (ps re : Bool) (m : Msg) (hm : m.kind = k ∧ m.rnd = R ∧ m.mark = M ∧ m.life = li ∧ m.age = ag ∧ m.psk = ps ∧ m.retry = re) : Tryd.prog.built 30 [(0, .int .i64 k), (1, .agg (R.map B8).toArray), (2, .agg (M.map B8).toArray), (3, (.slice A1 n1 c1)), (4, (.slice A2 n2 c2)), (5, (.slice A3 n3 c3)), (6, (.slice A4 n4 c4)), (7, (.slice A5 n5 c5)), (9, .int .i64 li), (10, .int .i64 ag), (11, .bool ps), (12, .bool re)] = some (mC m ((.slice A1 n1 c1)) ((.slice A2 n2 c2)) ((.slice A3 n3 c3)) ((.slice A4 n4 c4)) ((.slice A5 n5 c5)) (.slice none 0 0)).toArray := by
  obtain ⟨a0, a1, a2, a3, a4, a5, a6, a7, a8, a9, a10, a11, a12, a13, a14, a15, a16, a17, a18, a19, a20, a21, a22, a23, a24, a25, a26, a27, a28, a29, a30, a31, rfl⟩ := list32 R hR
  obtain ⟨b0, b1, b2, b3, b4, b5, b6, b7, b8, b9, b10, b11, b12, b13, b14, b15, b16, b17, b18, b19, b20, b21, b22, b23, b24, b25, b26, b27, b28, b29, b30, b31, rfl⟩ := list32 M hM
  obtain ⟨e0, e1, e2, e3, e4, e5, e6⟩ := hm
  unfold mC
  rw [e0, e1, e2, e3, e4, e5, e6]
  exact builtM' a0 a1 a2 a3 a4 a5 a6 a7 a8 a9 a10 a11 a12 a13 a14 a15 a16 a17 a18 a19 a20 a21 a22 a23 a24 a25 a26 a27 a28 a29 a30 a31 b0 b1 b2 b3 b4 b5 b6 b7 b8 b9 b10 b11 b12 b13 b14 b15 b16 b17 b18 b19 b20 b21 b22 b23 b24 b25 b26 b27 b28 b29 b30 b31 A1 A2 A3 A4 A5 n1 c1 n2 c2 n3 c3 n4 c4 n5 c5 k li ag ps re
theorem run_bytesV (w : World) (s : List UInt8) (hn : s.length ≤ 1099511627776) : ∃ A c w', (convert 9 27 (.string ⟨s.toArray⟩)).run Tryd.prog w = .ok (.slice A s.length c) w' ∧ Buf w' w.heap.size A s.length c s ∧ Below w.heap.size w w' := by
  have hr := run_bytes_of_string (P := Tryd.prog) w 9 27 5 ⟨s.toArray⟩ Tryd.underlying9 Tryd.underlying27 Tryd.underlying5
  have e : (⟨s.toArray⟩ : ByteArray).size = s.length := rfl
  have h1 := grownCap_ge w s.length 0 5
  have h2 := grownCap_le_maxLen w s.length 0 5 (by simp only [maxLen]; omega)
  rw [e] at hr
  have h3 := bytesRow_size s (grownCap w s.length 0 5) h1
  exact ⟨_, _, _, hr, Buf.made (w := w.drew) (n := s.length) _ _ _ _ (Nat.le_refl _) rfl h1 h2 h3 (.inl (by rw [h3]; exact Nat.le_refl _)) (fun j hj => bytesRow_at s _ j hj), (below_drewN (Below.refl _ _) 1).alloc (Nat.le_refl _) _⟩
section
variable {ops : Array Oper} {rest : List Oper} {o : Oper} {a : Act} {w : World} {K : Act → World → Prop} {Q : Exit → Act → World → Prop}
theorem wp_bytesV (x : Operand) (ho : o.op = .convert 9 27 x) (s : List UInt8) (hx : a.eval x = .string ⟨s.toArray⟩) (hn : s.length ≤ 1099511627776)
    (h : ∀ A c w', Buf w' w.heap.size A s.length c s → Below w.heap.size w w' → K (a.put o.dst (.slice A s.length c)) w') : o.wp Tryd.prog a w K Q := by
  obtain ⟨A, c, w', hr, h1, h2⟩ := run_bytesV w s hn
  unfold Oper.wp execOp
  simp only [ho, hx, hr, Sem.run_bind, Result.andThen_ok, Sem.run_pure]
  exact h A c w' h1 h2
theorem wpList_bytesV (hgd : o.guard = none) (x : Operand) (ho : o.op = .convert 9 27 x) (s : List UInt8) (hx : a.eval x = .string ⟨s.toArray⟩) (hn : s.length ≤ 1099511627776)
    (h : ∀ A c w', Buf w' w.heap.size A s.length c s → Below w.heap.size w w' → wpList Tryd.prog ops Q rest (a.put o.dst (.slice A s.length c)) w') : wpList Tryd.prog ops Q (o :: rest) a w :=
  wpList_plain hgd fun _ hK => wp_bytesV x ho s hx hn fun A c w' h1 h2 => hK _ _ (h A c w' h1 h2)
end
/-- bytes in a block from L on, below E -/
def SlI (w : World) (L E : Nat) (v : Value) (bs : List UInt8) : Prop := ∃ A c, v = .slice A bs.length c ∧ (bs.length ≤ c ∧ c ≤ 9223372036854775807) ∧ (0 < bs.length → ∃ g o, A = some ⟨g, o, none⟩ ∧ (L ≤ g ∧ g < E ∧ g < w.heap.size) ∧ Bytes w g o bs)
theorem sli_of {w : World} {L c : Nat} {A : Option Addr} {bs : List UInt8} (h : Buf w L A bs.length c bs) : SlI w L w.heap.size (.slice A bs.length c) bs :=
  ⟨A, c, rfl, h.le, fun h0 => by
    obtain ⟨g, e, h1, h2, h3⟩ := h.at h0
    exact ⟨g, 0, e, ⟨h1, h2, h2⟩, h3⟩⟩
theorem SlI.below {w w' : World} {L E B : Nat} {v : Value} {bs : List UInt8} (h : SlI w L E v bs) (hb : Below B w w') (hE : E ≤ B) : SlI w' L E v bs := by
  obtain ⟨A, c, e, hl, h⟩ := h
  refine ⟨A, c, e, hl, fun h0 => ?_⟩
  obtain ⟨g, o, eA, h1, h2⟩ := h h0
  exact ⟨g, o, eA, ⟨h1.1, h1.2.1, Nat.lt_of_lt_of_le h1.2.2 hb.size⟩, h2.below hb (Nat.lt_of_lt_of_le h1.2.1 hE)⟩
theorem SlI.low {w w' : World} {L E k : Nat} {v : Value} {bs : List UInt8} (h : SlI w L E v bs) (hg : w.grownBy w' (some k)) (hk : k < L) : SlI w' L E v bs := by
  obtain ⟨A, c, e, hl, h⟩ := h
  refine ⟨A, c, e, hl, fun h0 => ?_⟩
  obtain ⟨g, o, eA, h1, h2⟩ := h h0
  exact ⟨g, o, eA, ⟨h1.1, h1.2.1, Nat.lt_of_lt_of_le h1.2.2 hg.size⟩, fun j hj => (World.cell?_of_block (a := ⟨g, o + j, none⟩) (hg.block g h1.2.2 (fun e2 => by have := Option.some.inj e2; omega))).trans (h2 j hj)⟩
theorem SlI.sl {w : World} {L E : Nat} {v : Value} {bs : List UInt8} (h : SlI w L E v bs) : SlV w v bs := by
  obtain ⟨A, c, e, hl, h⟩ := h
  refine ⟨A, c, e, hl.1, hl.2, fun h0 => ?_⟩
  obtain ⟨g, o, eA, h1, h2⟩ := h h0
  exact ⟨g, o, eA, h1.2.2, h2⟩
def TFix (w : World) (L E : Nat) (m : Msg) (v1 v2 v3 v4 v5 : Value) : Prop := SlI w L E v1 m.ses ∧ SlI w L E v2 m.sha ∧ SlI w L E v3 m.tic ∧ SlI w L E v4 m.non ∧ SlI w L E v5 m.sig
theorem TFix.below {w w' : World} {L E B : Nat} {m : Msg} {v1 v2 v3 v4 v5 : Value} (h : TFix w L E m v1 v2 v3 v4 v5) (hb : Below B w w') (hE : E ≤ B) : TFix w' L E m v1 v2 v3 v4 v5 :=
  ⟨h.1.below hb hE, h.2.1.below hb hE, h.2.2.1.below hb hE, h.2.2.2.1.below hb hE, h.2.2.2.2.below hb hE⟩
theorem TFix.low {w w' : World} {L E k : Nat} {m : Msg} {v1 v2 v3 v4 v5 : Value} (h : TFix w L E m v1 v2 v3 v4 v5) (hg : w.grownBy w' (some k)) (hk : k < L) : TFix w' L E m v1 v2 v3 v4 v5 :=
  ⟨h.1.low hg hk, h.2.1.low hg hk, h.2.2.1.low hg hk, h.2.2.2.1.low hg hk, h.2.2.2.2.low hg hk⟩
theorem take_snocP {ps : List (List UInt8)} {k : Nat} (h : k < ps.length) : ps.take (k + 1) = ps.take k ++ [ps.getD k []] := by
  rw [List.take_succ_eq_append_getElem h, List.getD_eq_getElem?_getD, List.getElem?_eq_getElem h]; rfl
/-- no part is longer than the law lets it be -/
def Small (m : Msg) : Prop := m.ses.length ≤ 2100 ∧ m.sha.length ≤ 2100 ∧ m.tic.length ≤ 2100 ∧ m.non.length ≤ 2100 ∧ m.sig.length ≤ 2100 ∧ m.certs.length ≤ 6 ∧ ∀ p ∈ m.certs, p.length ≤ 2100
theorem small_tame (m : Msg) : Small (tameM m) := by
  have h : ∀ l : List UInt8, (l.take 2100).length ≤ 2100 := fun l => by rw [List.length_take]; omega
  exact ⟨h _, h _, h _, h _, h _, cutP_len _, fun p hp => cutP_sz hp⟩
theorem mC_set5 {m : Msg} {v1 v2 v3 v4 v5 vc : Value} {l : List (List UInt8)} (hr : m.rnd.length = 32) (hm : m.mark.length = 32) (x : Value) (l' : List (List UInt8)) : (mC { m with certs := l } v1 v2 v3 v4 v5 vc).set 70 x = mC { m with certs := l' } v1 v2 v3 v4 v5 x := by
  rw [show (70 : Nat) = 65 + 5 from rfl, mC_set (m := { m with certs := l }) hr hm]
  rfl
theorem mC_lenC {m : Msg} {v1 v2 v3 v4 v5 vc : Value} {l : List (List UInt8)} (hr : m.rnd.length = 32) (hm : m.mark.length = 32) : (mC { m with certs := l } v1 v2 v3 v4 v5 vc).length = 75 := mC_length (m := { m with certs := l }) hr hm
theorem mC_getC {m : Msg} {v1 v2 v3 v4 v5 vc : Value} {l : List (List UInt8)} (hr : m.rnd.length = 32) (hm : m.mark.length = 32) : (mC { m with certs := l } v1 v2 v3 v4 v5 vc)[70]? = some vc := mC_get (m := { m with certs := l }) hr hm 5
set_option maxRecDepth 100000 in
set_option maxHeartbeats 1000000 in
theorem to_e (m : Msg) (cs : List Value) (w : World) (h : RIn w m cs) (HSM : Hid (Small m)) : Calls Tryd.prog 10 #[.agg cs.toArray] w fun e w' => ∃ cs', e = .returned (.agg cs'.toArray) ∧ MVs w' m cs' ∧ Below w.heap.size w w' := by
  have HLN := Lib.hid h.1
  go_enter Tryd.func10, Tryd.ntmps10
  go_upto_region 0 with (fail)
  refine wp_region_lit ?_
  refine wpList_plain rfl (fun K hK => ?_)
  go_simp
  refine hK _ _ ?_
  clear hK K
  have b1 := Blk.new w 25 cs
  have hb1 : Below w.heap.size w (w.alloc (.cells cs.toArray 25)) := (Below.refl _ _).alloc (Nat.le_refl _) _
  have hM1 : RAt (w.alloc (.cells cs.toArray 25)) w.heap.size m := ⟨cs, b1, h.below hb1⟩
  obtain ⟨g1, hg1⟩ : ∃ g, g = w.heap.size := ⟨_, rfl⟩
  rw [← hg1] at hM1 b1
  simp only [← hg1]
  clear h b1
  generalize w.alloc (.cells cs.toArray 25) = w1 at *
  try simp only [Act.put, zSa, zSz, zSs]
  refine wpList_new_blk rfl 30 rfl _ zeroMsg ?_
  intro g2 w2 hg2 b2 hbx
  try simp only [Act.put, zSa, zSz, zSs]
  have HG2 := Lib.hid (show w.heap.size ≤ g2 ∧ g1 < g2 ∧ g2 < w2.heap.size by rw [hg2]; exact ⟨hb1.size, hM1.lt, by rw [← hg2]; exact b2.lt⟩)
  have hM2 := hM1.below hbx
  have HB2 := Lib.hid (hb1.trans (hbx.mono hb1.size))
  have HR := Lib.hid (fun (W : World) (hW : Below w2.heap.size w2 W) => (show RAt W g1 m from hM2.below hW))
  have BB2 := Lib.hid b2
  have hb2 : Below w2.heap.size w2 w2 := Below.refl _ _
  clear hg2 hM1 hbx hb1 hg1 hM2 b2
  obtain ⟨vr, hvr, hsr⟩ := (HR.out w2 hb2).certs
  obtain ⟨A, c, hve, hcl, hrow⟩ := hsr
  subst hve
  obtain ⟨n, hn⟩ : ∃ n, m.certs.length = n := ⟨_, rfl⟩
  rw [hn] at hvr hrow
  have HN := Lib.hid hn
  have HROW := Lib.hid hrow
  have HVR := Lib.hid hvr
  clear hvr hrow hcl hn
  go_upto_region 1 with (fail)
  refine wp_region_lit ?_
  have hcc := (HR.out w2 hb2).kind
  refine wpList_plain rfl (fun K hK => ?_)
  go_simp
  refine hK _ _ ?_
  clear hK K
  try simp only [Act.put, zSa, zSz, zSs]
  refine wpList_plain rfl (fun K hK => ?_)
  go_simp
  refine hK _ _ ?_
  clear hK K
  try simp only [Act.put, zSa, zSz, zSs]
  clear hcc
  refine wpList_plain rfl (fun K hK => ?_)
  go_simp
  refine hK _ _ ?_
  clear hK K
  try simp only [Act.put, zSa, zSz, zSs]
  refine wpList_load_mid rfl 22 (.tmp 7) rfl g1 1 rfl (m.rnd.map B8) _ (HR.out w2 hb2).rnd Tryd.underlying22 rfl (info40.trans (by rw [List.length_map, HLN.out.1])) ?_
  try simp only [Act.put, zSa, zSz, zSs]
  refine wpList_plain rfl (fun K hK => ?_)
  go_simp
  refine hK _ _ ?_
  clear hK K
  try simp only [Act.put, zSa, zSz, zSs]
  refine wpList_load_mid rfl 22 (.tmp 9) rfl g1 33 rfl (m.mark.map B8) _ (HR.out w2 hb2).mark Tryd.underlying22 rfl (info40.trans (by rw [List.length_map, HLN.out.2])) ?_
  try simp only [Act.put, zSa, zSz, zSs]
  have hcc := (HR.out w2 hb2).ses
  refine wpList_plain rfl (fun K hK => ?_)
  go_simp
  refine hK _ _ ?_
  clear hK K
  try simp only [Act.put, zSa, zSz, zSs]
  refine wpList_plain rfl (fun K hK => ?_)
  go_simp
  refine hK _ _ ?_
  clear hK K
  try simp only [Act.put, zSa, zSz, zSs]
  clear hcc
  refine wpList_bytesV rfl (.tmp 12) rfl m.ses rfl (Nat.le_trans HSM.out.1 (by decide)) ?_
  intro A1 c1 w3 f1 hbn
  try simp only [Act.put, zSa, zSz, zSs]
  replace f1 := f1.base hb2.size
  have hb3 := hb2.trans (hbn.mono hb2.size)
  clear hbn
  have hcc := (HR.out w3 hb3).sha
  refine wpList_plain rfl (fun K hK => ?_)
  go_simp
  refine hK _ _ ?_
  clear hK K
  try simp only [Act.put, zSa, zSz, zSs]
  refine wpList_plain rfl (fun K hK => ?_)
  go_simp
  refine hK _ _ ?_
  clear hK K
  try simp only [Act.put, zSa, zSz, zSs]
  clear hcc
  refine wpList_bytesV rfl (.tmp 15) rfl m.sha rfl (Nat.le_trans HSM.out.2.1 (by decide)) ?_
  intro A2 c2 w4 f2 hbn
  try simp only [Act.put, zSa, zSz, zSs]
  replace f2 := f2.base hb3.size
  replace f1 := f1.below hbn
  have hb4 := hb3.trans (hbn.mono hb3.size)
  clear hbn
  have hcc := (HR.out w4 hb4).tic
  refine wpList_plain rfl (fun K hK => ?_)
  go_simp
  refine hK _ _ ?_
  clear hK K
  try simp only [Act.put, zSa, zSz, zSs]
  refine wpList_plain rfl (fun K hK => ?_)
  go_simp
  refine hK _ _ ?_
  clear hK K
  try simp only [Act.put, zSa, zSz, zSs]
  clear hcc
  refine wpList_bytesV rfl (.tmp 18) rfl m.tic rfl (Nat.le_trans HSM.out.2.2.1 (by decide)) ?_
  intro A3 c3 w5 f3 hbn
  try simp only [Act.put, zSa, zSz, zSs]
  replace f3 := f3.base hb4.size
  replace f1 := f1.below hbn
  replace f2 := f2.below hbn
  have hb5 := hb4.trans (hbn.mono hb4.size)
  clear hbn
  have hcc := (HR.out w5 hb5).non
  refine wpList_plain rfl (fun K hK => ?_)
  go_simp
  refine hK _ _ ?_
  clear hK K
  try simp only [Act.put, zSa, zSz, zSs]
  refine wpList_plain rfl (fun K hK => ?_)
  go_simp
  refine hK _ _ ?_
  clear hK K
  try simp only [Act.put, zSa, zSz, zSs]
  clear hcc
  refine wpList_bytesV rfl (.tmp 21) rfl m.non rfl (Nat.le_trans HSM.out.2.2.2.1 (by decide)) ?_
  intro A4 c4 w6 f4 hbn
  try simp only [Act.put, zSa, zSz, zSs]
  replace f4 := f4.base hb5.size
  replace f1 := f1.below hbn
  replace f2 := f2.below hbn
  replace f3 := f3.below hbn
  have hb6 := hb5.trans (hbn.mono hb5.size)
  clear hbn
  have hcc := (HR.out w6 hb6).sig
  refine wpList_plain rfl (fun K hK => ?_)
  go_simp
  refine hK _ _ ?_
  clear hK K
  try simp only [Act.put, zSa, zSz, zSs]
  refine wpList_plain rfl (fun K hK => ?_)
  go_simp
  refine hK _ _ ?_
  clear hK K
  try simp only [Act.put, zSa, zSz, zSs]
  clear hcc
  refine wpList_bytesV rfl (.tmp 24) rfl m.sig rfl (Nat.le_trans HSM.out.2.2.2.2.1 (by decide)) ?_
  intro A5 c5 w7 f5 hbn
  try simp only [Act.put, zSa, zSz, zSs]
  replace f5 := f5.base hb6.size
  replace f1 := f1.below hbn
  replace f2 := f2.below hbn
  replace f3 := f3.below hbn
  replace f4 := f4.below hbn
  have hb7 := hb6.trans (hbn.mono hb6.size)
  clear hbn
  have hcc := (HR.out w7 hb7).life
  refine wpList_plain rfl (fun K hK => ?_)
  go_simp
  refine hK _ _ ?_
  clear hK K
  try simp only [Act.put, zSa, zSz, zSs]
  refine wpList_plain rfl (fun K hK => ?_)
  go_simp
  refine hK _ _ ?_
  clear hK K
  try simp only [Act.put, zSa, zSz, zSs]
  clear hcc
  have hcc := (HR.out w7 hb7).age
  refine wpList_plain rfl (fun K hK => ?_)
  go_simp
  refine hK _ _ ?_
  clear hK K
  try simp only [Act.put, zSa, zSz, zSs]
  refine wpList_plain rfl (fun K hK => ?_)
  go_simp
  refine hK _ _ ?_
  clear hK K
  try simp only [Act.put, zSa, zSz, zSs]
  clear hcc
  have hcc := (HR.out w7 hb7).psk
  refine wpList_plain rfl (fun K hK => ?_)
  go_simp
  refine hK _ _ ?_
  clear hK K
  try simp only [Act.put, zSa, zSz, zSs]
  refine wpList_plain rfl (fun K hK => ?_)
  go_simp
  refine hK _ _ ?_
  clear hK K
  try simp only [Act.put, zSa, zSz, zSs]
  clear hcc
  have hcc := (HR.out w7 hb7).retry
  refine wpList_plain rfl (fun K hK => ?_)
  go_simp
  refine hK _ _ ?_
  clear hK K
  try simp only [Act.put, zSa, zSz, zSs]
  refine wpList_plain rfl (fun K hK => ?_)
  go_simp
  refine hK _ _ ?_
  clear hK K
  try simp only [Act.put, zSa, zSz, zSs]
  clear hcc
  refine wpList_plain rfl (fun K hK => wp_builtV 30 _ rfl [(0, .int .i64 m.kind), (1, .agg (m.rnd.map B8).toArray), (2, .agg (m.mark.map B8).toArray), (3, .slice A1 m.ses.length c1), (4, .slice A2 m.sha.length c2), (5, .slice A3 m.tic.length c3), (6, .slice A4 m.non.length c4), (7, .slice A5 m.sig.length c5), (9, .int .i64 m.life), (10, .int .i64 m.age), (11, .bool m.psk), (12, .bool m.retry)] rfl _ (builtM m.rnd m.mark HLN.out.1 HLN.out.2 A1 A2 A3 A4 A5 _ _ _ _ _ _ _ _ _ _ m.kind m.life m.age m.psk m.retry { m with certs := [] } ⟨rfl, rfl, rfl, rfl, rfl, rfl, rfl⟩) (hK _ _ ?_))
  clear hK K
  try simp only [Act.put, zSa, zSz, zSs]
  refine wpList_new_blk rfl 30 rfl _ zeroMsg ?_
  intro g3 w8 hg3 b8 hbn
  have hT0 : TFix w7 w2.heap.size w7.heap.size m (.slice A1 m.ses.length c1) (.slice A2 m.sha.length c2) (.slice A3 m.tic.length c3) (.slice A4 m.non.length c4) (.slice A5 m.sig.length c5) := ⟨sli_of f1, sli_of f2, sli_of f3, sli_of f4, sli_of f5⟩
  rw [← hg3] at hT0 hbn
  have HG3 := Lib.hid (show w2.heap.size ≤ g3 by rw [hg3]; exact hb7.size)
  replace hT0 := hT0.below hbn (Nat.le_refl _)
  have hb8 := hb7.trans (hbn.mono HG3.out)
  clear hbn hg3 hb7 hb6 hb5 hb4 hb3 hb2 f1 f2 f3 f4 f5
  try simp only [Act.put, zSa, zSz, zSs]
  obtain ⟨v1, hv1⟩ : ∃ v, v = Value.slice A1 m.ses.length c1 := ⟨_, rfl⟩
  obtain ⟨v2, hv2⟩ : ∃ v, v = Value.slice A2 m.sha.length c2 := ⟨_, rfl⟩
  obtain ⟨v3, hv3⟩ : ∃ v, v = Value.slice A3 m.tic.length c3 := ⟨_, rfl⟩
  obtain ⟨v4, hv4⟩ : ∃ v, v = Value.slice A4 m.non.length c4 := ⟨_, rfl⟩
  obtain ⟨v5, hv5⟩ : ∃ v, v = Value.slice A5 m.sig.length c5 := ⟨_, rfl⟩
  have HO := Lib.hid (show v1.oneCell' = true ∧ v2.oneCell' = true ∧ v3.oneCell' = true ∧ v4.oneCell' = true ∧ v5.oneCell' = true by rw [hv1, hv2, hv3, hv4, hv5]; exact ⟨rfl, rfl, rfl, rfl, rfl⟩)
  rw [← hv1, ← hv2, ← hv3, ← hv4, ← hv5] at hT0
  simp only [← hv1, ← hv2, ← hv3, ← hv4, ← hv5]
  clear hv1 hv2 hv3 hv4 hv5
  refine wpList_store_blk rfl 30 (.tmp 3) (.tmp 34) rfl rfl g3 (mC { m with certs := [] } v1 v2 v3 v4 v5 (.slice none 0 0)) rfl rfl _ _ b8 (infoMsg.trans (by rw [mC_lenC HLN.out.1 HLN.out.2])) (by rw [mC_lenC HLN.out.1 HLN.out.2, mC_length rfl rfl]) (one_mC HO.out.1 HO.out.2.1 HO.out.2.2.1 HO.out.2.2.2.1 HO.out.2.2.2.2 rfl) ?_
  intro w9 b9 hg9
  try simp only [Act.put, zSa, zSz, zSs]
  have hbL := hb8.trans (grown_below hg9 HG3.out hb8.size)
  have HT9 := Lib.hid (hT0.below (grown_below hg9 (Nat.le_refl g3) (Nat.le_of_lt b8.lt)) (Nat.le_refl _))
  have HL9 := Lib.hid b9.lt
  clear b8 hg9 hb8 hT0
  have HGS0 := Lib.hid (Nat.lt_of_lt_of_le (Nat.lt_trans HG2.out.2.1 HG2.out.2.2) HG3.out)
  have HB29 := Lib.hid (show Below w2.heap.size w2 w9 from hbL)
  have HCR := Lib.hid (show w9.cell? ⟨g1, 70, none⟩ = some (.slice A n c) from (hbL.cell (p := ⟨g1, 70, none⟩) (Nat.lt_trans HG2.out.2.1 HG2.out.2.2)).trans HVR.out)
  have BB9 := Lib.hid (BB2.out.below hbL HG2.out.2.2)
  have HB9 := Lib.hid (HB2.out.trans (hbL.mono HB2.out.size))
  clear hbL
  go_wp2
  go_loopw [4] (fun i wl => ∃ k : Nat, k ≤ n ∧ i = .int .i64 (k : Int) ∧ ∃ vc, Blk wl g3 30 (mC { m with certs := m.certs.take k } v1 v2 v3 v4 v5 vc) ∧ Rws wl (g3 + 1) vc (m.certs.take k) ∧ Below g3 w9 wl) (fun i _ => n - (intOf i).toNat)
  case atStart => exact ⟨0, Nat.zero_le _, rfl, _, b9, Rws.nil _ _, Below.refl _ _⟩
  case round =>
    obtain ⟨k, hk, rfl, vc, hBk, hRw, hbr⟩ := hrel
    have HBR := Lib.hid hbr
    have hcr : wr.cell? ⟨g1, 70, none⟩ = some (.slice A n c) := (hbr.cell (p := ⟨g1, 70, none⟩) HGS0.out).trans HCR.out
    clear hbr
    by_cases hlt : k < n
    · have hd : (k : Int) < (n : Int) := by omega
      have hvc : wr.cell? ⟨g3, 70, none⟩ = some vc := (hBk.cell 70).trans (mC_getC HLN.out.1 HLN.out.2)
      obtain ⟨Ac, cc, hvcs, _, _⟩ := hRw.slice
      subst hvcs
      obtain ⟨lc, hlc⟩ : ∃ q, (m.certs.take k).length = q := ⟨_, rfl⟩
      rw [hlc] at hvc hBk hRw
      have hkr : k < m.certs.length := by rw [HN.out]; exact hlt
      obtain ⟨gp, op, hAe, hgp, hcs⟩ := HROW.out (Nat.lt_of_le_of_lt (Nat.zero_le _) hlt)
      obtain ⟨p, hp⟩ : ∃ p, m.certs.getD k [] = p := ⟨_, rfl⟩
      have hc1 : wr.cell? ⟨gp, op + k, none⟩ = some (.string ⟨p.toArray⟩) := by rw [← hp]; exact (HBR.out.cell (p := ⟨gp, op + k, none⟩) (Nat.lt_of_lt_of_le hgp HG3.out)).trans (((HB29.out).cell (p := ⟨gp, op + k, none⟩) hgp).trans (hcs k hlt))
      have HGS := Lib.hid (show g1 < g3 ∧ gp < g3 from ⟨HGS0.out, Nat.lt_of_lt_of_le hgp HG3.out⟩)
      have HTK := Lib.hid (show m.certs.take (k + 1) = m.certs.take k ++ [p] by rw [take_snocP hkr, hp])
      have HPL := Lib.hid (show p.length ≤ 2100 by rw [← hp, List.getD_eq_getElem?_getD, List.getElem?_eq_getElem hkr]; exact HSM.out.2.2.2.2.2.2 _ (List.getElem_mem hkr))
      have HLK := Lib.hid (show k + 1 ≤ n ∧ (m.certs.take k).length ≤ 1000000 ∧ n - (k + 1) < n - k by have := HSM.out.2.2.2.2.2.1; rw [List.length_take]; omega)
      obtain ⟨hk0, hkn, hkw⟩ := ix_cut hlt (by have := HN.out; have := HSM.out.2.2.2.2.2.1; omega)
      have HLK2 := Lib.hid (show k + 1 ≤ n ∧ (m.certs.take k).length ≤ 1000000 from ⟨HLK.out.1, HLK.out.2.1⟩)
      have HKW := Lib.hid hkw
      subst hAe
      clear hcs hgp hkw hk hlt hkr hp hlc
      go_upto_region 5 with (fail)
      refine wp_region_noPanic ?_
      refine wp_region_but (S := fun W => W.cell? ⟨g3, 70, none⟩ = some (.slice Ac lc cc) ∧ W.cell? ⟨g1, 70, none⟩ = some (.slice (some ⟨gp, op, none⟩) n c) ∧ W.cell? ⟨gp, op + k, none⟩ = some (.string ⟨p.toArray⟩)) 11 (by kernel_rfl) (by exact ⟨hvc, hcr, hc1⟩) (fun hHeld => ?_)
      have hdr : Below wr.heap.size wr wr.drew := (Below.refl _ _).drew
      replace hBk := hBk.below hdr hBk.lt
      replace hRw := hRw.below hdr
      have hbd := HBR.out.trans (hdr.mono (Nat.le_trans (Nat.le_of_lt HL9.out) HBR.out.size))
      clear hdr hcr hvc hc1
      generalize wr.drew = wd at *
      have hL := hBk.lt
      refine but_take (i := 0) (oi := ⟨_, _, _, _, _, _⟩) (v := ?_) rfl (by kernel_rfl) (by kernel_rfl) (by kernel_rfl) (by kernel_rfl) (fun _ _ _ h => h) (Or.inl ⟨by rfl, ?_⟩) hHeld ?_
      rotate_left 1
      · (intro W hSw; (try dsimp only at hSw); obtain ⟨hs1, hs2, hs3⟩ := hSw; go_simp; try with_reducible rfl)
      try simp only [Act.put, zSa, zSz, zSs]
      refine but_take (i := 1) (oi := ⟨_, _, _, _, _, _⟩) (v := ?_) rfl (by kernel_rfl) (by kernel_rfl) (by kernel_rfl) (by kernel_rfl) (fun _ _ _ h => h) (Or.inl ⟨by rfl, ?_⟩) hHeld ?_
      rotate_left 1
      · (intro W hSw; (try dsimp only at hSw); obtain ⟨hs1, hs2, hs3⟩ := hSw; go_simp; try with_reducible rfl)
      try simp only [Act.put, zSa, zSz, zSs]
      refine but_take (i := 2) (oi := ⟨_, _, _, _, _, _⟩) (v := ?_) rfl (by kernel_rfl) (by kernel_rfl) (by kernel_rfl) (by kernel_rfl) (fun _ _ _ h => h) (Or.inl ⟨by rfl, ?_⟩) hHeld ?_
      rotate_left 1
      · (intro W hSw; (try dsimp only at hSw); obtain ⟨hs1, hs2, hs3⟩ := hSw; go_simp; try with_reducible rfl)
      try simp only [Act.put, zSa, zSz, zSs]
      refine but_take (i := 3) (oi := ⟨_, _, _, _, _, _⟩) (v := ?_) rfl (by kernel_rfl) (by kernel_rfl) (by kernel_rfl) (by kernel_rfl) (fun _ _ _ h => h) (Or.inl ⟨by rfl, ?_⟩) hHeld ?_
      rotate_left 1
      · (intro W hSw; (try dsimp only at hSw); obtain ⟨hs1, hs2, hs3⟩ := hSw; go_simp; try with_reducible rfl)
      try simp only [Act.put, zSa, zSz, zSs]
      refine but_take (i := 4) (oi := ⟨_, _, _, _, _, _⟩) (v := ?_) rfl (by kernel_rfl) (by kernel_rfl) (by kernel_rfl) (by kernel_rfl) (fun _ _ _ h => h) (Or.inl ⟨by rfl, ?_⟩) hHeld ?_
      rotate_left 1
      · (intro W hSw; (try dsimp only at hSw); obtain ⟨hs1, hs2, hs3⟩ := hSw; go_simp; try with_reducible rfl)
      try simp only [Act.put, zSa, zSz, zSs]
      refine but_take (i := 5) (oi := ⟨_, _, _, _, _, _⟩) (v := ?_) rfl (by kernel_rfl) (by kernel_rfl) (by kernel_rfl) (by kernel_rfl) (fun _ _ _ h => h) (Or.inl ⟨by rfl, ?_⟩) hHeld ?_
      rotate_left 1
      · (intro W hSw; (try dsimp only at hSw); obtain ⟨hs1, hs2, hs3⟩ := hSw; go_simp; try with_reducible rfl)
      try simp only [Act.put, zSa, zSz, zSs]
      refine but_take (i := 6) (oi := ⟨_, _, _, _, _, _⟩) (v := ?_) rfl (by kernel_rfl) (by kernel_rfl) (by kernel_rfl) (by kernel_rfl) (fun _ _ _ h => h) (Or.inl ⟨by rfl, ?_⟩) hHeld ?_
      rotate_left 1
      · (intro W hSw; (try dsimp only at hSw); obtain ⟨hs1, hs2, hs3⟩ := hSw; go_simp; try with_reducible rfl)
      try simp only [Act.put, zSa, zSz, zSs]
      refine but_ready (i := 7) (o := ⟨_, _, _, _, _, _⟩) (by kernel_rfl) rfl (fun K hK => ?_)
      rw [if_pos (by rfl)]
      refine wp_bytesV (.tmp 48) rfl p rfl (Nat.le_trans HPL.out (by decide)) ?_
      intro A7 c7 w7 hB7 hb7
      have hS7 : w7.cell? ⟨g3, 70, none⟩ = some (.slice Ac lc cc) ∧ w7.cell? ⟨g1, 70, none⟩ = some (.slice (some ⟨gp, op, none⟩) n c) ∧ w7.cell? ⟨gp, op + k, none⟩ = some (.string ⟨p.toArray⟩) := ⟨(hb7.cell (p := ⟨g3, 70, none⟩) hL).trans hHeld.1, (hb7.cell (p := ⟨g1, 70, none⟩) (Nat.lt_trans HGS.out.1 hL)).trans hHeld.2.1, (hb7.cell (p := ⟨gp, op + k, none⟩) (Nat.lt_trans HGS.out.2 hL)).trans hHeld.2.2⟩
      refine hK.out _ _ hS7 (fun hHeld => ?_)
      clear hK K hS7
      replace hBk := hBk.below hb7 hBk.lt
      try simp only [Act.put, zSa, zSz, zSs]
      refine but_ready (i := 8) (o := ⟨_, _, _, _, _, _⟩) (by kernel_rfl) rfl (fun K hK => ?_)
      rw [if_pos (by rfl)]
      refine wp_builtS 28 27 1 _ rfl Tryd.underlying28 [.slice A7 p.length c7].toArray (by rw [Array.toList_map]; exact rows1 _ _ _) ?_
      have hB8 := Blk.new w7 27 [.slice A7 p.length c7]
      have hb8 : Below w7.heap.size w7 (w7.alloc (.cells [.slice A7 p.length c7].toArray 27)) := (Below.refl _ _).alloc (Nat.le_refl _) _
      have hS8 : (w7.alloc (.cells [.slice A7 p.length c7].toArray 27)).cell? ⟨g3, 70, none⟩ = some (.slice Ac lc cc) ∧ (w7.alloc (.cells [.slice A7 p.length c7].toArray 27)).cell? ⟨g1, 70, none⟩ = some (.slice (some ⟨gp, op, none⟩) n c) ∧ (w7.alloc (.cells [.slice A7 p.length c7].toArray 27)).cell? ⟨gp, op + k, none⟩ = some (.string ⟨p.toArray⟩) := ⟨(hb8.cell (p := ⟨g3, 70, none⟩) hBk.lt).trans hHeld.1, (hb8.cell (p := ⟨g1, 70, none⟩) (Nat.lt_trans HGS.out.1 hBk.lt)).trans hHeld.2.1, (hb8.cell (p := ⟨gp, op + k, none⟩) (Nat.lt_trans HGS.out.2 hBk.lt)).trans hHeld.2.2⟩
      refine hK.out _ _ hS8 (fun hHeld => ?_)
      clear hK K hS8
      replace hBk := hBk.below hb8 hBk.lt
      replace hB7 := hB7.below hb8
      have hb78 := hb7.trans (hb8.mono hb7.size)
      clear hb7 hb8
      generalize w7.alloc (.cells [.slice A7 p.length c7].toArray 27) = w8 at *
      generalize w7.heap.size = g8 at *
      try simp only [Act.put, zSa, zSz, zSs]
      refine but_ready (i := 9) (o := ⟨_, _, _, _, _, _⟩) (by kernel_rfl) rfl (fun K hK => ?_)
      refine step_append_rws rfl (.tmp 43) (.tmp 50) rfl (g3 + 1) (.slice Ac lc cc) (m.certs.take k) rfl hRw hb78 hL g8 rfl p A7 c7 (hB8.cell 0) hB7 HLK.out.2.1 ?_
      intro v9' w10 hR10 hb10 hg10
      have hS10 : w10.cell? ⟨g3, 70, none⟩ = some (.slice Ac lc cc) ∧ w10.cell? ⟨g1, 70, none⟩ = some (.slice (some ⟨gp, op, none⟩) n c) ∧ w10.cell? ⟨gp, op + k, none⟩ = some (.string ⟨p.toArray⟩) := ⟨(hb10.cell (p := ⟨g3, 70, none⟩) (Nat.lt_succ_self _)).trans hHeld.1, (hb10.cell (p := ⟨g1, 70, none⟩) (Nat.lt_succ_of_lt HGS.out.1)).trans hHeld.2.1, (hb10.cell (p := ⟨gp, op + k, none⟩) (Nat.lt_succ_of_lt HGS.out.2)).trans hHeld.2.2⟩
      refine hK.out _ _ hS10 (fun hHeld => ?_)
      clear hK K hS10
      have M10 := hBk.below hb10 (Nat.lt_succ_self _)
      have hb810 := (hb78.mono (Nat.le_of_lt hL)).trans (hb10.mono (Nat.le_succ _))
      have hbz := hbd.trans hb810
      clear hBk hB7 hB8 hb78 hg10 hRw hb10 hbd hb810 hL
      obtain ⟨A10, c10, hv10, _, _⟩ := hR10.slice
      subst hv10
      obtain ⟨l10, hl10⟩ : ∃ q, (m.certs.take k ++ [p]).length = q := ⟨_, rfl⟩
      rw [hl10] at hR10 ⊢
      try simp only [Act.put, zSa, zSz, zSs]
      refine but_take (i := 10) (oi := ⟨_, _, _, _, _, _⟩) (v := ?_) rfl (by kernel_rfl) (by kernel_rfl) (by kernel_rfl) (by kernel_rfl) (fun _ _ _ h => h) (Or.inl ⟨by rfl, ?_⟩) hHeld ?_
      rotate_left 1
      · (intro W hSw; (try dsimp only at hSw); go_simp; try with_reducible rfl)
      try simp only [Act.put, zSa, zSz, zSs]
      refine but_last (o := ⟨_, _, _, _, _, _⟩) (by kernel_rfl) rfl (by kernel_rfl) (fun K hK => ?_)
      have hfz := M10.frozen 70
      go_simp
      refine hK.out _ _ ?_
      clear hK K hfz hHeld
      refine NoPanic.normal ?_
      have hg := grown_cell w10 g3 70 (.slice A10 l10 c10)
      have M := M10.set_ 70 (.slice A10 l10 c10)
      rw [mC_set5 HLN.out.1 HLN.out.2 _ (m.certs.take (k + 1))] at M
      have hR := hR10.kept hg (fun j e => by injection e with e; omega)
      have hbw := hbz.trans (grown_below hg (Nat.le_refl _) (Nat.le_trans (Nat.le_of_lt HL9.out) hbz.size))
      rw [← HTK.out] at hR
      clear hg M10 hR10 hbz
      generalize w10.setCell ⟨g3, 70, none⟩ (.slice A10 l10 c10) = w11 at *
      go_wp2
      go_roundw
      case rel => exact ⟨k + 1, HLK.out.1, by rw [HKW.out], _, M, hR, hbw⟩
      case measure => rw [HKW.out]; simpa [intOf] using HLK.out.2.2
    · have hd : ¬ (k : Int) < (n : Int) := by omega
      have hkn : k = n := by omega
      have hall : m.certs.take k = m.certs := by rw [hkn, ← HN.out, List.take_of_length_le (Nat.le_refl _)]
      rw [hall] at hBk hRw
      obtain ⟨cz, hcz⟩ : ∃ cz, cz = mC { m with certs := m.certs } v1 v2 v3 v4 v5 vc := ⟨_, rfl⟩
      rw [← hcz] at hBk
      have HCZ := Lib.hid hcz
      have HCL := Lib.hid (show cz.length = 75 by rw [hcz]; exact mC_lenC HLN.out.1 HLN.out.2)
      have HRW := Lib.hid hRw
      obtain ⟨Ac, cc, hvcs, _, _⟩ := hRw.slice
      have HON := Lib.hid (show cz.toArray.all (·.oneCell') = true by rw [hcz, hvcs]; exact one_mC HO.out.1 HO.out.2.1 HO.out.2.2.1 HO.out.2.2.2.1 HO.out.2.2.2.2 rfl)
      have B2r := Lib.hid ((BB9.out).below HBR.out (Nat.lt_of_lt_of_le HG2.out.2.2 HG3.out))
      clear hcz hRw hall hkn hk hlt
      go_upto_region 6 with (fail)
      refine wp_region_lit ?_
      refine wpList_load_mid rfl 30 (.tmp 3) rfl g3 0 rfl cz _ (rangeAt_of_blk hBk) Tryd.underlying30 rfl (infoMsg.trans (by rw [HCL.out])) ?_
      try simp only [Act.put, zSa, zSz, zSs]
      refine wpList_store_blk rfl 30 (.tmp 2) (.tmp 53) rfl rfl g2 cz rfl rfl _ _ B2r.out (infoMsg.trans (by rw [HCL.out])) (by rw [HCL.out, mC_length rfl rfl]) HON.out ?_
      intro w12 b12 hg12
      try simp only [Act.put, zSa, zSz, zSs]
      go_wp2
      refine bodyPost_ret (results_row1 rfl _ _ g2 0 cz _ rfl (rangeAt_of_blk b12) Tryd.underlying30 rfl (infoMsg.trans (by rw [HCL.out]))) rfl ?_
      have hT := (HT9.out.below HBR.out (Nat.le_refl _)).low hg12 HG2.out.2.2
      have hr := (HRW.out.kept hg12 (fun j e => by injection e with e; have := HG2.out.2.2; have := HG3.out; omega)).rowV
      have hbz := HB9.out.trans (HBR.out.mono (Nat.le_trans HB2.out.size HG3.out))
      exact ⟨cz, rfl, ⟨v1, v2, v3, v4, v5, vc, HCZ.out, HLN.out, hT.1.sl, hT.2.1.sl, hT.2.2.1.sl, hT.2.2.2.1.sl, hT.2.2.2.2.sl, hr⟩, hbz.trans (grown_below hg12 HG2.out.1 hbz.size)⟩
end Go.Proofs.YtagblbfbjemfhaaDoor
