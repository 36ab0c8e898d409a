/-
 Rh3.
-/
import Derived.Test.YtnjpcbbdhimacaaDoorRh2
namespace Go.Proofs.YtnjpcbbdhimacaaDoor
open Go.RowKit
theorem grown_low {w v v' : World} {g : Nat} (h : w.grownBy v (some g)) (hb : Below w.heap.size v v') : w.grownBy v' (some g) :=
 ⟨hb.os.trans h.os, hb.tape.trans h.tape, hb.output.trans h.output, Nat.le_trans h.size hb.size, fun i hi hne => (hb.block i hi).trans (h.block i hi hne)⟩
theorem HalfAt.next {w : World} {gh gx gk gr R u : Nat} {L : List UInt32} {iv : List UInt8} (h : HalfAt w gh gx gk gr R L iv u) : HalfAt (w.setCell ⟨gh, 13, none⟩ (.int .i64 ((u + 1 : Nat) : Int))) gh gx gk gr R L iv (u + 1) := by
 have h2 := h.half.set_ 13 (.int .i64 ((u + 1 : Nat) : Int))
 have e : (halfC gx iv u).set 13 (.int .i64 ((u + 1 : Nat) : Int)) = halfC gx iv (u + 1) := by
  have hl := h.len
  unfold halfC
  rw [List.set_cons_succ, List.set_append_right _ _ (by rw [List.length_map]; omega), List.length_map, hl]
  rfl
 rw [e] at h2
 exact ⟨h2, ⟨h.box.box.far (by simpa using h.far.1) _, ⟨h.box.key.key.far (by simpa using h.far.2.1) _, h.box.key.rounds.far (by simpa using h.far.2.2) _, h.box.key.len⟩, h.box.lo, h.box.hi⟩, h.len, h.far⟩
/-- All its blocks are below a place. -/
theorem HalfAt.low {B : Nat} {w v : World} {gh gx gk gr R u : Nat} {L : List UInt32} {iv : List UInt8} (h : HalfAt w gh gx gk gr R L iv u) (hb : Below B w v) (_hs : B ≤ w.heap.size) (hl : gh < B ∧ gx < B ∧ gk < B ∧ gr < B) : HalfAt v gh gx gk gr R L iv u :=
 ⟨h.half.below hb hl.1, ⟨h.box.box.below hb hl.2.1, ⟨h.box.key.key.below hb hl.2.2.1, h.box.key.rounds.below hb hl.2.2.2, h.box.key.len⟩, h.box.lo, h.box.hi⟩, h.len, h.far⟩
theorem HalfAt.below_size {w : World} {gh gx gk gr R u : Nat} {L : List UInt32} {iv : List UInt8} (h : HalfAt w gh gx gk gr R L iv u) : gh < w.heap.size ∧ gx < w.heap.size ∧ gk < w.heap.size ∧ gr < w.heap.size :=
 ⟨h.half.lt, h.box.box.lt, h.box.key.key.lt, h.box.key.rounds.lt⟩
/-- What is sealed: the bytes, their kind, noughts. -/
def innerE (k : Nat) (b : List UInt8) (pad : Nat) : List UInt8 := b ++ UInt8.ofNat k :: List.replicate pad 0
theorem innerE_length (k : Nat) (b : List UInt8) (pad : Nat) : (innerE k b pad).length = b.length + 1 + pad := by
 simp [innerE]; omega
/-- The record. -/
def recE (L : List UInt32) (R : Nat) (iv : List UInt8) (u k : Nat) (b : List UInt8) (pad : Nat) : List UInt8 :=
 headE 23 ((innerE k b pad).length + 16) ++ boxE L R (nonceH iv u) (innerE k b pad) (headE 23 ((innerE k b pad).length + 16))
theorem ne_blk {B g gh : Nat} (h1 : B ≤ g) (h2 : gh < B) (h : g = gh) : False := by omega
theorem copy_src {w : World} {B c : Nat} {A : Option Addr} {xs : List UInt8} (h : In w B A c xs) (h0 : 0 < (xs.map B8).length) : ∃ gb ob, A = some ⟨gb, ob, none⟩ ∧ ∀ j v, (xs.map B8)[j]? = some v → w.cell? ⟨gb, ob + j, none⟩ = some v := by
 have := h.copySrc xs.length (by rw [List.take_length]; exact h0)
 rwa [List.take_length] at this
theorem ix_seal (n pad : Nat) (h : n + pad ≤ 16384) : ¬ (16384 : Int) < (n : Int) ∧ ¬ (16384 : Int) - (n : Int) < (pad : Int) ∧ ¬ (pad : Int) < 0 ∧ (n : Int) + 1 + (pad : Int) = ((n + 1 + pad : Nat) : Int) ∧ (((n + 1 + pad : Nat) : Int)) + 16 = ((n + 1 + pad + 16 : Nat) : Int) ∧ (0 : Int) ≤ (n : Int) ∧ (n : Int) < ((n + 1 + pad : Nat) : Int) := by omega
theorem ix_used (u : Nat) (h : u < 1000) : ¬ (1000 : Int) ≤ (u : Int) ∧ wrap64 ((u + 1 : Nat) : Int) = ((u + 1 : Nat) : Int) ∧ (u : Int) + 1 = ((u + 1 : Nat) : Int) := by unfold wrap64; omega
theorem nonceH_length (iv : List UInt8) (u : Nat) (h : iv.length = 12) : (nonceH iv u).length = 12 := by rw [nonceH, nonceTo_length, h]

set_option maxRecDepth 100000 in
set_option maxHeartbeats 1000000 in
theorem hseal_ok {w : World} {gh gx gk gr R u0 : Nat} {L : List UInt32} {iv : List UInt8} (h : HalfAt w gh gx gk gr R L iv u0) (k n pad c : Nat) (A : Option Addr) (b : List UInt8) (hk : kindB (k : Int) = true) (hn : b.length = n) (iB : In w w.heap.size A c b) (hp : n + pad ≤ 16384) (hu : u0 < 1000) :
  Calls Tryd.prog 10 #[.pointer (some ⟨gh, 0, none⟩), .int .i64 (k : Int), .slice A n c, .int .i64 (pad : Int)] w fun e w' => ∃ A' c', e = .returned (.tuple #[.slice A' (5 + (n + 1 + pad + 16)) c', .int .i64 0]) ∧ Buf w' w.heap.size A' (5 + (n + 1 + pad + 16)) c' (recE L R iv u0 k b pad) ∧ HalfAt w' gh gx gk gr R L iv (u0 + 1) ∧ w.grownBy w' (some gh) := by
 obtain ⟨q1, q2, q3, q4, q5, q6, q7⟩ := ix_seal n pad hp
 have HUS := Lib.hid (ix_used u0 hu)
 have hnx := fun (V : World) (hb : Below w.heap.size w V) => (h.below hb).next
 obtain ⟨u1, hu1⟩ : ∃ u1, u1 = u0 + 1 := ⟨_, rfl⟩
 rw [← hu1] at HUS ⊢
 simp only [← hu1] at hnx
 have HNX := Lib.hid hnx
 clear hnx hu1
 have hil := innerE_length k b pad
 rw [hn] at hil
 obtain ⟨X, hX⟩ : ∃ X, X = innerE k b pad := ⟨_, rfl⟩
 have hre : recE L R iv u0 k b pad = headE 23 (n + 1 + pad + 16) ++ boxE L R (nonceH iv u0) X (headE 23 (n + 1 + pad + 16)) := by unfold recE; rw [← hX, hX, hil]
 have hk8 : IntKind.u8.wrap (k : Int) = ((UInt8.ofNat k).toNat : Int) := wrap_ofNat k
 obtain ⟨kb, hkb⟩ : ∃ kb, kb = UInt8.ofNat k := ⟨_, rfl⟩
 rw [← hkb] at hk8
 have hxs : (b ++ List.replicate (1 + pad) (0 : UInt8)).set n kb = X := by
  rw [hX, innerE, List.set_append_right _ _ (by omega), hn, Nat.sub_self, Nat.add_comm 1 pad, List.replicate_succ, hkb]
  rfl
 obtain ⟨m, hm⟩ : ∃ m, m = n + 1 + pad := ⟨_, rfl⟩
 have hbx := boxE_length L R (nonceH iv u0) X (headE 23 (n + 1 + pad + 16))
 have hXl : X.length = m := by rw [hX, hil, hm]
 rw [hXl] at hbx
 rw [← hm] at q4 q5 q7 hre hbx ⊢
 obtain ⟨ms, hms⟩ : ∃ ms, ms = m + 16 := ⟨_, rfl⟩
 rw [← hms] at q5 hre hbx ⊢
 have hm2 : m < 100000 := by omega
 have hns := nonceH_length iv u0 h.len
 have kse := fun (W : World) (hb : Below w.heap.size w W) (cp cb : Nat) (Ap Ab : Option Addr) (ip : In W W.heap.size Ap cp X) (ib : In W W.heap.size Ab cb (headE 23 ms)) => seal_e gx gk gr R m 5 cp cb Ap Ab L (nonceH iv u0) X (headE 23 ms) W (h.box.below hb) hns ip ib hXl rfl (by omega) (by omega)
 have kno := fun (W : World) (hb : Below w.heap.size w W) => nonce_e (h.below hb) (by omega)
 have khe := fun (W : World) => head_e 23 ms (by decide) (by omega) W
 have kem := hempty_no h
 have hmk := fun (W : World) => run_make_bytes .i64 .i64 m m (Nat.le_refl _) (by omega) W
 obtain ⟨Q, hQ⟩ : ∃ Q, Q = List.replicate m (0 : UInt8) := ⟨_, rfl⟩
 have hql : Q.length = m := by rw [hQ]; exact List.length_replicate
 have hqd : Q.drop n = List.replicate (1 + pad) (0 : UInt8) := by rw [hQ, List.drop_replicate]; congr 1; omega
 rw [← hqd] at hxs
 simp only [← hQ] at hmk
 obtain ⟨N1, hN1⟩ : ∃ N1, N1 = nonceH iv u0 := ⟨_, rfl⟩
 rw [← hN1] at hre kse kno hbx hns
 have HN1 := Lib.hid hN1
 obtain ⟨D, hD0⟩ : ∃ D, D = headE 23 ms := ⟨_, rfl⟩
 rw [← hD0] at hre khe kse hbx
 obtain ⟨SS, hSS⟩ : ∃ SS, SS = boxE L R N1 X D := ⟨_, rfl⟩
 rw [← hSS] at hre kse hbx
 have HNO := Lib.hid kno
 have HSE := Lib.hid kse
 have HHE := Lib.hid khe
 have HEM := Lib.hid kem
 have HXS := Lib.hid hxs
 have HQL := Lib.hid hql
 have HXL := Lib.hid hXl
 have HMS := Lib.hid hms
 have HM := Lib.hid hm
 have HSM := Lib.hid (show ms < 200000 by omega)
 have HRE := Lib.hid hre
 have HNL := Lib.hid hn
 have HU1 := Lib.hid (And.intro HUS.out.2.2 HUS.out.2.1)
 have q8 := HUS.out.1
 have HH := Lib.hid h
 have IB := Lib.hid iB
 have HC0 := Lib.hid (fun (W : World) (hb : Below w.heap.size w W) => (h.below hb).first)
 clear kno kse khe kem hxs hql hqd hXl hms hm hm2 hre hn hp hu hbx hns hX hil hkb hQ hN1 hD0 hSS h iB
 have hus := HH.out.used
 go_enter Tryd.func10, Tryd.ntmps10
 go_upto_region 8 with (first
  | (go_at_call 30; refine HEM.out.mono ?_; rintro e w' ⟨rfl, hww⟩; have hw2 := hww.symm; subst hw2)
  | (go_at_call 31; refine (isKind_e _ _).mono ?_; rintro e w' ⟨rfl, hww⟩; have hw2 := hww.symm; subst hw2))
 have hal : Below w.heap.size w (w.alloc (.cells (Q.map B8).toArray 5)) := (Below.refl _ _).alloc (Nat.le_refl _) _
 have hnm : n ≤ m := by have := HM.out; omega
 go_upto_region 9 with ((with_reducible refine (?_ : wpList _ _ _ (Oper.mk (some 47) _ _ _ _ _ :: _) _ _)); go_loud (refine wpList_copy_blk rfl (.tmp 45) (.tmp 46) 24 24 rfl 5 Tryd.underlying24 info8 _ _ _ _ _ _ rfl rfl w.heap.size 0 (Q.map B8) 5 (Blk.new_of w 5 _ _ rfl) (b.map B8) (by rw [List.length_map, HNL.out]; exact (Nat.min_eq_left hnm).symm) (fun h0 => ⟨rfl, copy_src (in_up IB.out hal) h0⟩) (by rw [List.length_map, List.length_map, HQL.out, HNL.out, Nat.zero_add]; exact hnm) (oneB8 _) ?_); intro w5 hP5 hg5)
 rw [splice_eq, List.take_zero, List.nil_append, Nat.zero_add, List.length_map, ← List.map_drop, ← List.map_append, HNL.out] at hP5
 have hbw := below_new hal hg5 (Nat.le_refl _) hal.size
 obtain ⟨y, hy⟩ : ∃ y, y = (b ++ Q.drop n).getD n 0 := ⟨_, rfl⟩
 have hcc := hP5.at8 n (by rw [List.length_append, List.length_drop, HNL.out, HQL.out]; have := HM.out; omega)
 rw [← hy] at hcc
 have hff := hP5.frozen n
 clear hal hnm hg5 hy hus hmk
 obtain ⟨g0, hg0⟩ : ∃ g0, g0 = w.heap.size := ⟨_, rfl⟩
 rw [← hg0] at hP5 hcc hff
 have hge : w.heap.size ≤ g0 := by omega
 rw [← hg0]
 clear hg0
 go_upto_region 10 with (fail)
 have hP6 := hP5.set_ n (B8 kb)
 rw [map_set8, HXS.out] at hP6
 replace hbw := hbw.setCell (p := ⟨g0, n, none⟩) hge (B8 kb)
 clear hcc hff hP5
 generalize w5.setCell ⟨g0, n, none⟩ (B8 kb) = w6 at *
 have hI : Buf w6 w.heap.size (some ⟨g0, 0, none⟩) m m X := buf_prefix (R := []) (by rw [List.append_nil]; exact hP6) hge HXL.out (by rw [List.append_nil]; exact HXL.out) (by have := HSM.out; have := HMS.out; omega)
 clear hP6
 go_upto_region 11 with (go_at_call 32; refine (HHE.out _).mono ?_; rintro e w7 ⟨A2, rfl, hD, hb7⟩; replace hI := hI.below hb7; replace hD := hD.base hbw.size; replace hbw := hbw.trans (hb7.mono hbw.size); clear hb7)
 apply wp_region_once (D := [[], [0], [0, 1], [0, 1, 2], [], [4], [], [], [0, 1, 2, 3, 4, 5, 6, 7], [0, 1, 2, 3, 4, 5, 6, 7, 8]]) (J := [[], [0], [1], [2], [], [4], [], [], [3, 5, 6, 7], [8]]) (Je := [9]) (Rs := [Is _, Is _, Is _, Is _, Is _, Is _, Is _, Is _, fun v V => ∃ (A' : Option Addr) (c' : Nat), v = .slice A' ms c' ∧ Buf V w.heap.size A' ms c' SS, fun v V => ∃ (A' : Option Addr) (c' : Nat), v = .slice A' ms c' ∧ Buf V w.heap.size A' ms c' SS])
 ·
  kernel_rfl
 ·
  kernel_rfl
 ·
  kernel_rfl
 ·
  kernel_rfl
 ·
  kernel_rfl
 ·
  kernel_rfl
 ·
  intro u
  simp only [List.map_cons, List.map_nil, fillU, List.setIfInBounds_toArray, List.set_cons_zero, List.set_cons_succ, Nat.zero_add, Nat.reduceAdd]
  exact rfl
 ·
  skip
  refine ⟨fun u V hb hd K hK => ?_, ?_⟩
  ·
   clear hd
   go_simp
   apply hK
   ·
    simp only [Act.put, List.setIfInBounds_toArray, List.set_cons_zero, List.set_cons_succ]
    exact rfl
   ·
    exact Below.refl _ _
   ·
    exact IsOut
  refine ⟨fun u V hb hd K hK => ?_, ?_⟩
  ·
   simp only [Facts, nthR, Is, and_true] at hd
   simp only [hd] at hK ⊢
   clear hd
   go_simp
   apply hK
   ·
    simp only [Act.put, List.setIfInBounds_toArray, List.set_cons_zero, List.set_cons_succ]
    exact rfl
   ·
    exact Below.refl _ _
   ·
    exact IsOut
  refine ⟨fun u V hb hd K hK => ?_, ?_⟩
  ·
   simp only [Facts, nthR, Is, and_true] at hd
   simp only [hd] at hK ⊢
   clear hd
   go_simp
   apply hK
   ·
    simp only [Act.put, List.setIfInBounds_toArray, List.set_cons_zero, List.set_cons_succ]
    exact rfl
   ·
    exact Below.refl _ _
   ·
    exact IsOut
  refine ⟨fun u V hb hd K hK => ?_, ?_⟩
  ·
   simp only [Facts, nthR, Is, and_true] at hd
   simp only [hd] at hK ⊢
   clear hd
   have hcc := HC0.out V (hbw.trans (hb.mono hbw.size))
   go_simp
   apply hK
   ·
    simp only [Act.put, List.setIfInBounds_toArray, List.set_cons_zero, List.set_cons_succ]
    exact rfl
   ·
    exact Below.refl _ _
   ·
    exact IsOut
  refine ⟨fun u V hb hd K hK => ?_, ?_⟩
  ·
   clear hd
   go_simp
   apply hK
   ·
    simp only [Act.put, List.setIfInBounds_toArray, List.set_cons_zero, List.set_cons_succ]
    exact rfl
   ·
    exact Below.refl _ _
   ·
    exact IsOut
  refine ⟨fun u V hb hd K hK => ?_, ?_⟩
  ·
   simp only [Facts, nthR, Is, and_true] at hd
   simp only [hd] at hK ⊢
   clear hd
   go_simp
   refine (HNO.out V (hbw.trans (hb.mono hbw.size))).mono ?_
   rintro e wy ⟨rfl, hby⟩
   exact hK _ _ _ rfl hby IsOut
  refine ⟨fun u V hb hd K hK => ?_, ?_⟩
  ·
   clear hd
   go_simp
   apply hK
   ·
    simp only [Act.put, List.setIfInBounds_toArray, List.set_cons_zero, List.set_cons_succ]
    exact rfl
   ·
    exact Below.refl _ _
   ·
    exact IsOut
  refine ⟨fun u V hb hd K hK => ?_, ?_⟩
  ·
   clear hd
   go_simp
   apply hK
   ·
    simp only [Act.put, List.setIfInBounds_toArray, List.set_cons_zero, List.set_cons_succ]
    exact rfl
   ·
    exact Below.refl _ _
   ·
    exact IsOut
  refine ⟨fun u V hb hd K hK => ?_, ?_⟩
  ·
   simp only [Facts, nthR, Is, and_true] at hd
   simp only [hd] at hK ⊢
   clear hd
   go_simp
   refine (HSE.out V (hbw.trans (hb.mono hbw.size)) _ _ _ _ ((hI.below hb).toIn (Nat.le_refl _)) ((hD.below hb).toIn (Nat.le_refl _))).mono ?_
   rintro e wy ⟨A', n', c', rfl, hn', hB', hby⟩
   have hn2 : n' = ms := by rw [hn', HMS.out]
   subst hn2
   exact hK _ _ _ rfl hby ⟨A', c', rfl, hB'.base (Nat.le_trans hbw.size hb.size)⟩
  refine ⟨fun u V hb hd K hK => ?_, ?_⟩
  ·
   simp only [Facts, nthR, and_true] at hd
   obtain ⟨A', c', h1, hi'⟩ := hd
   simp only [h1] at hK ⊢
   clear h1
   go_simp
   apply hK
   ·
    simp only [Act.put, List.setIfInBounds_toArray, List.set_cons_zero, List.set_cons_succ]
    exact rfl
   ·
    exact Below.refl _ _
   ·
    exact ⟨A', c', rfl, hi'⟩
  exact trivial
 ·
  exact (.is (.is (.is (.is (.is (.is (.is (.is (.cons (fun v V V' ⟨A', c', h1, h2⟩ hb => ⟨A', c', h1, h2.below hb⟩) (.cons (fun v V V' ⟨A', c', h1, h2⟩ hb => ⟨A', c', h1, h2.below hb⟩) .nil))))))))))
 ·
  intro u V hb hd
  simp only [Facts, nthR, and_true] at hd
  obtain ⟨As, cs, h10, hS⟩ := hd
  simp only [h10]
  clear h10
  replace hbw := hbw.trans (hb.mono hbw.size)
  replace hD := hD.below hb
  have hcc := (HH.out.below hbw).used
  have hff := (HH.out.below hbw).half.frozen 13
  clear hb hI
  try clear hk8
  try clear q1
  try clear q2
  try clear q3
  try clear q4
  try clear q5
  try clear q6
  try clear q7
  try clear q8
  try clear hk
  obtain ⟨hu1, hu2⟩ := HU1.out
  go_upto_region 13 with (fail)
  have hg1 := grown_setCell (grown_of_below hbw (some gh)) (p := ⟨gh, 13, none⟩) (.inl rfl) (.int .i64 (u1 : Int))
  have hk1 := grown_setCell (grown_refl V (some gh)) (p := ⟨gh, 13, none⟩) (.inl rfl) (.int .i64 (u1 : Int))
  have hH1 := HNX.out V hbw
  have hlt := HH.out.half.lt
  have HH1 := Lib.hid hH1
  have HG1 := Lib.hid hg1
  clear hu1 hu2
  replace hS := hS.kept hk1 (fun g e h => ne_blk (hS.lt e).1 hlt (Option.some.inj h))
  replace hD := hD.kept hk1 (fun g e h => ne_blk (hD.lt e).1 hlt (Option.some.inj h))
  have hsz : w.heap.size ≤ (V.setCell ⟨gh, 13, none⟩ (.int .i64 (u1 : Int))).heap.size := hg1.size
  clear hbw hk1 hcc hff hH1 hg1 hlt
  generalize V.setCell ⟨gh, 13, none⟩ (.int .i64 (u1 : Int)) = v2 at *
  go_wp2_with ((with_reducible refine (?_ : wpList _ _ _ (Oper.mk (some 76) _ _ _ _ _ :: _) _ _)); go_loud (refine wpList_append_far rfl (.tmp 74) (.tmp 75) 24 rfl _ _ 5 _ _ SS _ rfl hD rfl (src_at ((hS.toIn (Nat.le_refl _)).src (Nat.le_refl _)) hS.1) (by rw [hS.1]; have := HSM.out; omega) hsz (5 + ms) (by rw [hS.1]) ?_); intro A5 c5 w5 hB5 hg5 _; have hbw5 := below_own (Below.refl w.heap.size v2) hD hg5 (Nat.le_refl _) hsz)
  go_ret2
  exact ⟨A5, c5, rfl, by rw [HRE.out]; exact hB5, HH1.out.low hbw5 HG1.out.size HH.out.below_size, grown_low HG1.out hbw5⟩

end Go.Proofs.YtnjpcbbdhimacaaDoor
