/-
  Package hello's filled: which parts of a message are there.
-/
import Derived.Test.YtagblbfbjemfhaaDoorHj
import Derived.Test.YtagblbfbjemfhaaDoorEql
namespace Go.Proofs.YtagblbfbjemfhaaDoor
open Go.RowKit
open HelloMath (numB numB_length vecB vecB_length Msg isKind sized wide kinds zero32 some8 okF)

theorem wp_builtV {o : Oper} {a : Act} {w : World} {K : Act → World → Prop} {Q : Exit → Act → World → Prop} (t : TypeId) (parts : Array (Nat × Operand)) (ho : o.op = .build t parts) (vs : List (Nat × Value)) (hv : (parts.toList.map fun (i, x) => (i, a.eval x)) = vs) (cells : Array Value) (hc : Tryd.prog.built t vs = some cells) (h : K (a.put o.dst (.agg cells)) w) : o.wp Tryd.prog a w K Q := by
  have hc' : Tryd.prog.built t (parts.map fun (i, x) => (i, a.eval x)).toList = some cells := by rw [Array.toList_map, hv]; exact hc
  exact wp_build t _ ho (by rw [hc']; rfl) (by rw [hc']; exact h)
set_option maxRecDepth 100000 in
theorem equal_ints' {P : Program} {t e : TypeId} {k : IntKind} {n : Nat} {i : TypeInfo} (hu : P.underlying t = some (.array n e)) (he : P.underlying e = some (.int k)) (hi : P.info? e = some i) (hc : P.cellsOf e = 1) (xs ys : List Int) (hx : xs.length = n) (hy : ys.length = n) (d : Nat) (w : World) :
    (Op.equalIn (d + 2) t (.agg (xs.map (Value.int k)).toArray) (.agg (ys.map (Value.int k)).toArray)).run P w = .ok (xs == ys) w := by
  rw [run_equalIn_array w (d + 1) _ _ hu hi, hc, List.range_eq_range']
  have := eqItems_ints he xs ys d w n 0 (by omega) (by omega)
  rwa [List.drop_zero, List.drop_zero] at this
set_option maxRecDepth 100000 in
/-- Two rows of 32 bytes. -/
theorem eqB_run {A B : List UInt8} (hA : A.length = 32) (hB : B.length = 32) (d : Nat) (w : World) : (Op.equalIn (d + 2) 22 (.agg (A.map B8).toArray) (.agg (B.map B8).toArray)).run Tryd.prog w = .ok (A == B) w := by
  have k := equal_ints' Tryd.underlying22 Tryd.underlying5 rfl (by kernel_rfl) (A.map fun b => (b.toNat : Int)) (B.map fun b => (b.toNat : Int)) (by rw [List.length_map, hA]) (by rw [List.length_map, hB]) d w
  rw [List.map_map, List.map_map] at k
  have e : ((A.map fun b => (b.toNat : Int)) == (B.map fun b => (b.toNat : Int))) = (A == B) := by
    rw [Bool.eq_iff_iff, beq_iff_eq, beq_iff_eq]
    refine ⟨fun h => ?_, fun h => by rw [h]⟩
    exact (List.map_inj_right (f := fun b : UInt8 => (b.toNat : Int)) (fun x y h => UInt8.toNat_inj.1 (by omega))).1 h
  rw [e] at k
  exact k
set_option maxRecDepth 100000 in
theorem EqB {A B : List UInt8} {b : Bool} (hA : Hid (A.length = 32)) (hB : Hid (B.length = 32)) (h : Hid ((A == B) = b)) (w : World) : (Op.equalIn 10000 22 (.agg (A.map B8).toArray) (.agg (B.map B8).toArray)).run Tryd.prog w = .ok b w := by
  rw [← h.out]
  exact eqB_run hA.out hB.out 9998 w

theorem guardB32 : Tryd.prog.eqGuardType Tryd.prog.depth 22 = false := by kernel_rfl
set_option maxRecDepth 100000 in
theorem built32_0 : Tryd.prog.built 22 [] = some (zero32.map B8).toArray := by kernel_rfl
def bit (b : Bool) (p : Nat) : Nat := if b then p else 0
theorem bit_lt {b : Bool} {p : Nat} (h : p < 4096) : bit b p < 4096 := by unfold bit; split <;> omega
theorem or_i64 (a b : Nat) (ha : a < 4096) (hb : b < 4096) : bits .or .i64 (a : Int) (b : Int) = ((a ||| b : Nat) : Int) := by
  have hx : a ||| b < 2 ^ 12 := Nat.or_lt_two_pow (by omega) (by omega)
  have h1 : (BitVec.ofInt 64 (a : Int)).toNat = a := by rw [BitVec.ofInt_natCast, BitVec.toNat_ofNat]; exact Nat.mod_eq_of_lt (by omega)
  have h2 : (BitVec.ofInt 64 (b : Int)).toNat = b := by rw [BitVec.ofInt_natCast, BitVec.toNat_ofNat]; exact Nat.mod_eq_of_lt (by omega)
  show IntKind.i64.wrap ((BitVec.ofInt 64 (a : Int) ||| BitVec.ofInt 64 (b : Int)).toNat : Int) = _
  rw [BitVec.toNat_or, h1, h2, IntKind.wrap_i64]
  omega
theorem or_lt {a b : Nat} (ha : a < 4096) (hb : b < 4096) : a ||| b < 4096 := Nat.or_lt_two_pow (n := 12) ha hb
set_option maxRecDepth 100000 in
theorem add_e (ga v p r : Nat) (b : Bool) (w : World) (hB : Blk w ga 71 [.int .i64 (v : Int)]) (hr : Hid (v ||| bit b p = r)) (hv : Hid (v < 4096)) (hp : Hid (p < 4096)) :
    Calls Tryd.prog 52 #[.bool b, .int .i64 (p : Int), .pointer (some ⟨ga, 0, none⟩)] w fun e w' => e = .returned (.tuple #[]) ∧ Blk w' ga 71 [.int .i64 (r : Int)] ∧ w.grownBy w' (some ga) := by
  have hc := hB.cell 0
  have hf := hB.frozen 0
  cases b with
  | true =>
    have ho := or_i64 v p hv.out hp.out
    have hr' : v ||| p = r := hr.out
    rw [hr'] at ho
    clear hr'
    go_enter Tryd.func52, Tryd.ntmps52
    go_wp2
    go_end0
    exact ⟨rfl, hB.set_ 0 _, grown_setCell (grown_refl w _) (.inl rfl) _⟩
  | false =>
    have hr' : v = r := by have h := hr.out; simpa [bit] using h
    subst hr'
    go_enter Tryd.func52, Tryd.ntmps52
    go_wp2
    go_end0
    exact ⟨rfl, hB, grown_refl w _⟩
def fillN (f1 f2 f3 f4 f5 f6 f7 f8 f9 f10 f11 f12 : Bool) : Nat := (((((((((((bit f1 1 ||| bit f2 2) ||| bit f3 4) ||| bit f4 8) ||| bit f5 16) ||| bit f6 32) ||| bit f7 64) ||| bit f8 128) ||| bit f9 256) ||| bit f10 512) ||| bit f11 1024) ||| bit f12 2048)
def fillM (m : Msg) : Nat := fillN (m.rnd != zero32) (m.mark != zero32) (some8 m.ses) (some8 m.sha) (some8 m.tic) (some8 m.non) (some8 m.sig) (decide (0 < m.certs.length)) (m.life != 0) (m.age != 0) (m.psk) (m.retry)
set_option maxRecDepth 100000 in
theorem zeroParts : Zero Tryd.prog 71 [.int .i64 0] := ⟨_, _, rfl, rfl, by kernel_rfl⟩
set_option maxRecDepth 100000 in
set_option maxHeartbeats 4000000 in
theorem filled_e (m : Msg) (g : Nat) (w : World) (hM : MAt w g m) : Calls Tryd.prog 33 #[.pointer (some ⟨g, 0, none⟩)] w fun e w' => e = .returned (.int .i64 (fillM m : Int)) ∧ Below w.heap.size w w' := by
  have hl := hM.lens
  obtain ⟨f1, hf1⟩ : ∃ f, Hid ((m.rnd != zero32) = f) := ⟨_, Lib.hid rfl⟩
  obtain ⟨f2, hf2⟩ : ∃ f, Hid ((m.mark != zero32) = f) := ⟨_, Lib.hid rfl⟩
  obtain ⟨f3, hf3⟩ : ∃ f, Hid ((some8 m.ses) = f) := ⟨_, Lib.hid rfl⟩
  obtain ⟨f4, hf4⟩ : ∃ f, Hid ((some8 m.sha) = f) := ⟨_, Lib.hid rfl⟩
  obtain ⟨f5, hf5⟩ : ∃ f, Hid ((some8 m.tic) = f) := ⟨_, Lib.hid rfl⟩
  obtain ⟨f6, hf6⟩ : ∃ f, Hid ((some8 m.non) = f) := ⟨_, Lib.hid rfl⟩
  obtain ⟨f7, hf7⟩ : ∃ f, Hid ((some8 m.sig) = f) := ⟨_, Lib.hid rfl⟩
  obtain ⟨f8, hf8⟩ : ∃ f, Hid ((decide (0 < m.certs.length)) = f) := ⟨_, Lib.hid rfl⟩
  obtain ⟨f9, hf9⟩ : ∃ f, Hid ((m.life != 0) = f) := ⟨_, Lib.hid rfl⟩
  obtain ⟨f10, hf10⟩ : ∃ f, Hid ((m.age != 0) = f) := ⟨_, Lib.hid rfl⟩
  obtain ⟨f11, hf11⟩ : ∃ f, Hid ((m.psk) = f) := ⟨_, Lib.hid rfl⟩
  obtain ⟨f12, hf12⟩ : ∃ f, Hid ((m.retry) = f) := ⟨_, Lib.hid rfl⟩
  have hb1f : Hid (bit f1 1 < 4096) := Lib.hid (bit_lt (by decide))
  obtain ⟨a1, ha1⟩ : ∃ a, Hid (0 ||| bit f1 1 = a) := ⟨_, Lib.hid rfl⟩
  have hv0 : Hid (0 < 4096) := Lib.hid (by decide)
  have hv1 : Hid (a1 < 4096) := Lib.hid (by rw [← ha1.out]; exact or_lt hv0.out (bit_lt (by decide)))
  obtain ⟨a2, ha2⟩ : ∃ a, Hid (a1 ||| bit f2 2 = a) := ⟨_, Lib.hid rfl⟩
  have hv2 : Hid (a2 < 4096) := Lib.hid (by rw [← ha2.out]; exact or_lt hv1.out (bit_lt (by decide)))
  obtain ⟨a3, ha3⟩ : ∃ a, Hid (a2 ||| bit f3 4 = a) := ⟨_, Lib.hid rfl⟩
  have hv3 : Hid (a3 < 4096) := Lib.hid (by rw [← ha3.out]; exact or_lt hv2.out (bit_lt (by decide)))
  obtain ⟨a4, ha4⟩ : ∃ a, Hid (a3 ||| bit f4 8 = a) := ⟨_, Lib.hid rfl⟩
  have hv4 : Hid (a4 < 4096) := Lib.hid (by rw [← ha4.out]; exact or_lt hv3.out (bit_lt (by decide)))
  obtain ⟨a5, ha5⟩ : ∃ a, Hid (a4 ||| bit f5 16 = a) := ⟨_, Lib.hid rfl⟩
  have hv5 : Hid (a5 < 4096) := Lib.hid (by rw [← ha5.out]; exact or_lt hv4.out (bit_lt (by decide)))
  obtain ⟨a6, ha6⟩ : ∃ a, Hid (a5 ||| bit f6 32 = a) := ⟨_, Lib.hid rfl⟩
  have hv6 : Hid (a6 < 4096) := Lib.hid (by rw [← ha6.out]; exact or_lt hv5.out (bit_lt (by decide)))
  obtain ⟨a7, ha7⟩ : ∃ a, Hid (a6 ||| bit f7 64 = a) := ⟨_, Lib.hid rfl⟩
  have hv7 : Hid (a7 < 4096) := Lib.hid (by rw [← ha7.out]; exact or_lt hv6.out (bit_lt (by decide)))
  obtain ⟨a8, ha8⟩ : ∃ a, Hid (a7 ||| bit f8 128 = a) := ⟨_, Lib.hid rfl⟩
  have hv8 : Hid (a8 < 4096) := Lib.hid (by rw [← ha8.out]; exact or_lt hv7.out (bit_lt (by decide)))
  obtain ⟨a9, ha9⟩ : ∃ a, Hid (a8 ||| bit f9 256 = a) := ⟨_, Lib.hid rfl⟩
  have hv9 : Hid (a9 < 4096) := Lib.hid (by rw [← ha9.out]; exact or_lt hv8.out (bit_lt (by decide)))
  obtain ⟨a10, ha10⟩ : ∃ a, Hid (a9 ||| bit f10 512 = a) := ⟨_, Lib.hid rfl⟩
  have hv10 : Hid (a10 < 4096) := Lib.hid (by rw [← ha10.out]; exact or_lt hv9.out (bit_lt (by decide)))
  obtain ⟨a11, ha11⟩ : ∃ a, Hid (a10 ||| bit f11 1024 = a) := ⟨_, Lib.hid rfl⟩
  have hv11 : Hid (a11 < 4096) := Lib.hid (by rw [← ha11.out]; exact or_lt hv10.out (bit_lt (by decide)))
  obtain ⟨a12, ha12⟩ : ∃ a, Hid (a11 ||| bit f12 2048 = a) := ⟨_, Lib.hid rfl⟩
  have hv12 : Hid (a12 < 4096) := Lib.hid (by rw [← ha12.out]; exact or_lt hv11.out (bit_lt (by decide)))
  have HFIN := Lib.hid (show fillM m = a12 by unfold fillM fillN; rw [hf1.out, hf2.out, hf3.out, hf4.out, hf5.out, hf6.out, hf7.out, hf8.out, hf9.out, hf10.out, hf11.out, hf12.out, ← ha12.out, ← ha11.out, ← ha10.out, ← ha9.out, ← ha8.out, ← ha7.out, ← ha6.out, ← ha5.out, ← ha4.out, ← ha3.out, ← ha2.out, ← ha1.out, Nat.zero_or])
  clear hb1f
  have hmf : ∀ (fn : Fn) (first cap : Array Value) (w : World), (Instr.makeFunc fn first cap).run Tryd.prog w = .ok (.func fn first cap) w := fun _ _ _ _ => rfl
  have HM := Lib.hid hM
  clear hM
  go_enter Tryd.func33, Tryd.ntmps33
  go_upto_region 1 with (fail)
  refine wp_region_lit ?_
  refine wpList_new_blk rfl 71 rfl [.int .i64 0] zeroParts ?_
  intro ga w0 hg B0 hb0
  have HG := Lib.hid (Nat.le_of_eq hg.symm)
  clear hg
  try simp only [Act.put, zSa, zSz, zSs]
  go_upto_region 3 with (fail)
  replace B0 : Blk w0 ga 71 [.int .i64 ((0 : Nat) : Int)] := B0
  have hv0' := hv0
  have hM := HM.out.below hb0
  refine wp_region_lit ?_
  refine wpList_plain rfl (fun K hK => ?_)
  go_simp
  refine hK _ _ ?_
  clear hK K
  try simp only [Act.put, zSa, zSz, zSs]
  refine wpList_plain rfl (fun K hK => ?_)
  go_simp
  refine hK _ _ ?_
  clear hK K
  try simp only [Act.put, zSa, zSz, zSs]
  refine wpList_plain rfl (fun K hK => ?_)
  go_simp
  refine hK _ _ ?_
  clear hK K
  try simp only [Act.put, zSa, zSz, zSs]
  refine wpList_plain rfl (fun K hK => ?_)
  go_simp
  refine hK _ _ ?_
  clear hK K
  try simp only [Act.put, zSa, zSz, zSs]
  refine wpList_load_mid rfl 22 (.tmp 9) rfl g 1 rfl (m.rnd.map B8) _ hM.rnd Tryd.underlying22 rfl (info40.trans (by rw [List.length_map, hl.1])) ?_
  try simp only [Act.put, zSa, zSz, zSs]
  refine wpList_plain rfl (fun K hK => wp_builtV 22 _ rfl [] rfl (zero32.map B8).toArray built32_0 (hK _ _ ?_))
  clear hK K
  try simp only [Act.put, zSa, zSz, zSs]
  obtain ⟨q1, hq1⟩ : ∃ q, Hid ((m.rnd == zero32) = q) := ⟨_, Lib.hid rfl⟩
  have hqf1 : (!q1) = f1 := by rw [← hq1.out, ← hf1.out]; rfl
  refine wpList_plain rfl (fun K hK => wp_neqA rfl rfl rfl guardB32 (EqB (Lib.hid hl.1) (Lib.hid rfl) hq1 _) (hK _ _ ?_))
  clear hK K
  try simp only [Act.put, zSa, zSz, zSs]
  rw [hqf1]
  clear hqf1 hq1
  go_upto_region 4 with (go_at_call 52; refine (add_e ga 0 1 a1 f1 _ B0 ha1 hv0 (Lib.hid (by decide))).mono ?_; rintro e w1 ⟨rfl, B1, hg1⟩)
  have hb1 : Below w.heap.size w w1 := hb0.trans (grown_below hg1 HG.out hb0.size)
  clear hg1 B0 hM
  have hM := HM.out.below hb1
  refine wp_region_lit ?_
  refine wpList_plain rfl (fun K hK => ?_)
  go_simp
  refine hK _ _ ?_
  clear hK K
  try simp only [Act.put, zSa, zSz, zSs]
  refine wpList_plain rfl (fun K hK => ?_)
  go_simp
  refine hK _ _ ?_
  clear hK K
  try simp only [Act.put, zSa, zSz, zSs]
  refine wpList_plain rfl (fun K hK => ?_)
  go_simp
  refine hK _ _ ?_
  clear hK K
  try simp only [Act.put, zSa, zSz, zSs]
  refine wpList_plain rfl (fun K hK => ?_)
  go_simp
  refine hK _ _ ?_
  clear hK K
  try simp only [Act.put, zSa, zSz, zSs]
  refine wpList_load_mid rfl 22 (.tmp 17) rfl g 33 rfl (m.mark.map B8) _ hM.mark Tryd.underlying22 rfl (info40.trans (by rw [List.length_map, hl.2])) ?_
  try simp only [Act.put, zSa, zSz, zSs]
  refine wpList_plain rfl (fun K hK => wp_builtV 22 _ rfl [] rfl (zero32.map B8).toArray built32_0 (hK _ _ ?_))
  clear hK K
  try simp only [Act.put, zSa, zSz, zSs]
  obtain ⟨q2, hq2⟩ : ∃ q, Hid ((m.mark == zero32) = q) := ⟨_, Lib.hid rfl⟩
  have hqf2 : (!q2) = f2 := by rw [← hq2.out, ← hf2.out]; rfl
  refine wpList_plain rfl (fun K hK => wp_neqA rfl rfl rfl guardB32 (EqB (Lib.hid hl.2) (Lib.hid rfl) hq2 _) (hK _ _ ?_))
  clear hK K
  try simp only [Act.put, zSa, zSz, zSs]
  rw [hqf2]
  clear hqf2 hq2
  go_upto_region 5 with (go_at_call 52; refine (add_e ga a1 2 a2 f2 _ B1 ha2 hv1 (Lib.hid (by decide))).mono ?_; rintro e w2 ⟨rfl, B2, hg2⟩)
  have hb2 : Below w.heap.size w w2 := hb1.trans (grown_below hg2 HG.out hb1.size)
  clear hg2 B1 hM
  have hM := HM.out.below hb2
  obtain ⟨v, hc, A, c, rfl, hi⟩ := hM.ses
  obtain ⟨n, hn⟩ : ∃ n, m.ses.length = n := ⟨_, rfl⟩
  rw [hn] at hc
  have hd : decide (0 < n) = f3 := by rw [← hf3.out, ← hn]; rfl
  have hd2 : decide ((n : Int) > 0) = f3 := by rw [← hd]; simp
  clear hi hn
  go_upto_region 6 with (go_at_call 52; refine (add_e ga a2 4 a3 f3 _ B2 ha3 hv2 (Lib.hid (by decide))).mono ?_; rintro e w3 ⟨rfl, B3, hg3⟩)
  have hb3 : Below w.heap.size w w3 := hb2.trans (grown_below hg3 HG.out hb2.size)
  clear hg3 B2 hM hc hd hd2
  have hM := HM.out.below hb3
  obtain ⟨v, hc, A, c, rfl, hi⟩ := hM.sha
  obtain ⟨n, hn⟩ : ∃ n, m.sha.length = n := ⟨_, rfl⟩
  rw [hn] at hc
  have hd : decide (0 < n) = f4 := by rw [← hf4.out, ← hn]; rfl
  have hd2 : decide ((n : Int) > 0) = f4 := by rw [← hd]; simp
  clear hi hn
  go_upto_region 7 with (go_at_call 52; refine (add_e ga a3 8 a4 f4 _ B3 ha4 hv3 (Lib.hid (by decide))).mono ?_; rintro e w4 ⟨rfl, B4, hg4⟩)
  have hb4 : Below w.heap.size w w4 := hb3.trans (grown_below hg4 HG.out hb3.size)
  clear hg4 B3 hM hc hd hd2
  have hM := HM.out.below hb4
  obtain ⟨v, hc, A, c, rfl, hi⟩ := hM.tic
  obtain ⟨n, hn⟩ : ∃ n, m.tic.length = n := ⟨_, rfl⟩
  rw [hn] at hc
  have hd : decide (0 < n) = f5 := by rw [← hf5.out, ← hn]; rfl
  have hd2 : decide ((n : Int) > 0) = f5 := by rw [← hd]; simp
  clear hi hn
  go_upto_region 8 with (go_at_call 52; refine (add_e ga a4 16 a5 f5 _ B4 ha5 hv4 (Lib.hid (by decide))).mono ?_; rintro e w5 ⟨rfl, B5, hg5⟩)
  have hb5 : Below w.heap.size w w5 := hb4.trans (grown_below hg5 HG.out hb4.size)
  clear hg5 B4 hM hc hd hd2
  have hM := HM.out.below hb5
  obtain ⟨v, hc, A, c, rfl, hi⟩ := hM.non
  obtain ⟨n, hn⟩ : ∃ n, m.non.length = n := ⟨_, rfl⟩
  rw [hn] at hc
  have hd : decide (0 < n) = f6 := by rw [← hf6.out, ← hn]; rfl
  have hd2 : decide ((n : Int) > 0) = f6 := by rw [← hd]; simp
  clear hi hn
  go_upto_region 9 with (go_at_call 52; refine (add_e ga a5 32 a6 f6 _ B5 ha6 hv5 (Lib.hid (by decide))).mono ?_; rintro e w6 ⟨rfl, B6, hg6⟩)
  have hb6 : Below w.heap.size w w6 := hb5.trans (grown_below hg6 HG.out hb5.size)
  clear hg6 B5 hM hc hd hd2
  have hM := HM.out.below hb6
  obtain ⟨v, hc, A, c, rfl, hi⟩ := hM.sig
  obtain ⟨n, hn⟩ : ∃ n, m.sig.length = n := ⟨_, rfl⟩
  rw [hn] at hc
  have hd : decide (0 < n) = f7 := by rw [← hf7.out, ← hn]; rfl
  have hd2 : decide ((n : Int) > 0) = f7 := by rw [← hd]; simp
  clear hi hn
  go_upto_region 10 with (go_at_call 52; refine (add_e ga a6 64 a7 f7 _ B6 ha7 hv6 (Lib.hid (by decide))).mono ?_; rintro e w7 ⟨rfl, B7, hg7⟩)
  have hb7 : Below w.heap.size w w7 := hb6.trans (grown_below hg7 HG.out hb6.size)
  clear hg7 B6 hM hc hd hd2
  have hM := HM.out.below hb7
  obtain ⟨v, hc, A, c, rfl, hi⟩ := hM.certs
  obtain ⟨n, hn⟩ : ∃ n, m.certs.length = n := ⟨_, rfl⟩
  rw [hn] at hc
  have hd : decide (0 < n) = f8 := by rw [← hf8.out, ← hn]
  have hd2 : decide ((n : Int) > 0) = f8 := by rw [← hd]; simp
  clear hi hn
  go_upto_region 11 with (go_at_call 52; refine (add_e ga a7 128 a8 f8 _ B7 ha8 hv7 (Lib.hid (by decide))).mono ?_; rintro e w8 ⟨rfl, B8, hg8⟩)
  have hb8 : Below w.heap.size w w8 := hb7.trans (grown_below hg8 HG.out hb7.size)
  clear hg8 B7 hM hc hd hd2
  have hM := HM.out.below hb8
  have hc := hM.life
  have hd := hf9.out
  go_upto_region 12 with (go_at_call 52; refine (add_e ga a8 256 a9 f9 _ B8 ha9 hv8 (Lib.hid (by decide))).mono ?_; rintro e w9 ⟨rfl, B9, hg9⟩)
  have hb9 : Below w.heap.size w w9 := hb8.trans (grown_below hg9 HG.out hb8.size)
  clear hg9 B8 hM hc hd
  have hM := HM.out.below hb9
  have hc := hM.age
  have hd := hf10.out
  go_upto_region 13 with (go_at_call 52; refine (add_e ga a9 512 a10 f10 _ B9 ha10 hv9 (Lib.hid (by decide))).mono ?_; rintro e w10 ⟨rfl, B10, hg10⟩)
  have hb10 : Below w.heap.size w w10 := hb9.trans (grown_below hg10 HG.out hb9.size)
  clear hg10 B9 hM hc hd
  have hM := HM.out.below hb10
  have hc := hM.psk
  rw [hf11.out] at hc
  go_upto_region 14 with (go_at_call 52; refine (add_e ga a10 1024 a11 f11 _ B10 ha11 hv10 (Lib.hid (by decide))).mono ?_; rintro e w11 ⟨rfl, B11, hg11⟩)
  have hb11 : Below w.heap.size w w11 := hb10.trans (grown_below hg11 HG.out hb10.size)
  clear hg11 B10 hM hc
  have hM := HM.out.below hb11
  have hc := hM.retry
  rw [hf12.out] at hc
  go_upto_region 15 with (go_at_call 52; refine (add_e ga a11 2048 a12 f12 _ B11 ha12 hv11 (Lib.hid (by decide))).mono ?_; rintro e w12 ⟨rfl, B12, hg12⟩)
  have hb12 : Below w.heap.size w w12 := hb11.trans (grown_below hg12 HG.out hb11.size)
  clear hg12 B11 hM hc
  have hc := B12.cell 0
  go_wp2
  refine bodyPost_ret (results_tmp Tryd.results33 _ _ _) rfl ?_
  exact ⟨by rw [HFIN.out]; rfl, hb12⟩
end Go.Proofs.YtagblbfbjemfhaaDoor
