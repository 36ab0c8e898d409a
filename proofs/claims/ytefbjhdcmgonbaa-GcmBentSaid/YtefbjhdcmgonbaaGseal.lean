/-
  The contract of package gcm's Seal; the statements' own look at it.
-/
import Derived.Test.YtefbjhdcmgonbaaGz
namespace Go.Proofs.Ytefbjhdcmgonbaa
open Go.RowKit

theorem in_prefix {w : World} {g n c : Nat} {t : TypeId} {M R : List UInt8} (h : Blk w g t ((M ++ R).map B8)) (hn : n ≤ c) (hl : M.length = n) (hc : c ≤ 9223372036854775807) : In w w.heap.size (some ⟨g, 0, none⟩) c M :=
  ⟨by omega, hc, fun _ => ⟨g, 0, rfl, h.lt, fun j hj => by
    rw [Nat.zero_add, h.at8 j (by rw [List.length_append]; omega), List.getD_eq_getElem?_getD, List.getElem?_append_left hj, ← List.getD_eq_getElem?_getD]⟩⟩
theorem buf_prefix {w : World} {base g n c : Nat} {t : TypeId} {M R : List UInt8} (h : Blk w g t ((M ++ R).map B8)) (hb : base ≤ g) (hl : M.length = n) (hc : (M ++ R).length = c) (hm : c ≤ 1099511627776) : Buf w base (some ⟨g, 0, none⟩) n c M := by
  refine ⟨hl, .inr ⟨g, rfl, hb, h.lt, by rw [← hc, List.length_append]; omega, by unfold maxLen; omega, fun j hj => ?_, fun j hj => ⟨?_, h.frozen j⟩⟩⟩
  · rw [Nat.zero_add, h.at8 j (by rw [List.length_append]; omega), List.getD_eq_getElem?_getD, List.getElem?_append_left hj, ← List.getD_eq_getElem?_getD]
  · rw [h.at8 j (by omega)]; rfl
theorem src_16 {w : World} {A : Option Addr} {g : Nat} {s : List UInt8} (h : Src w g A s) (hs : s.length = 16) : _root_.Go.Src Try.prog 1 24 (.slice A 16 16) s.length (s.map B8) w := by
  have := src_in' (c := 16) h
  rw [hs] at this ⊢
  exact this
theorem ink {w : World} {B c : Nat} {A : Option Addr} {xs : List UInt8} (h : In w B A c xs) : InK w B A c xs := h
/-- What is sealed: hidden bytes, and their tag. -/
def boxE (L : List UInt32) (R : Nat) (N P bes : List UInt8) : List UInt8 := maskE L R N P ++ tagE L R N (maskE L R N P) bes
theorem boxE_length (L : List UInt32) (R : Nat) (N P bes : List UInt8) : (boxE L R N P bes).length = P.length + 16 := by
  unfold boxE; rw [List.length_append, maskE_length, tagE_length]

set_option maxRecDepth 100000 in
set_option maxHeartbeats 1000000 in
theorem seal_e (gx gk gr R n nb cp cb : Nat) (Ap Ab : Option Addr) (L : List UInt32) (N P bes : List UInt8) (w : World) (hx : BoxAt w gx gk gr R L) (hN : N.length = 12)
    (ip : In w w.heap.size Ap cp P) (ib : In w w.heap.size Ab cb bes) (lp : P.length = n) (lb : bes.length = nb) (hn : n < 1000000) (hb : nb < 549755813888) :
    Calls Try.prog 11 #[.pointer (some ⟨gx, 0, none⟩), BV N, .slice Ap n cp, .slice Ab nb cb] w fun e w' => ∃ A' n' c', e = .returned (.slice A' n' c') ∧ n' = n + 16 ∧ Buf w' w.heap.size A' n' c' (boxE L R N P bes) ∧ Below w.heap.size w w' := by
  obtain ⟨nc, hnc⟩ : ∃ nc, nc = n + 16 := ⟨_, rfl⟩
  have hmk := fun (W : World) => run_make_bytes .i64 .i64 n nc (by omega) (by omega) W
  have hql : (List.replicate nc (0 : UInt8)).length = nc := List.length_replicate
  obtain ⟨Q, hQ⟩ : ∃ Q, Q = List.replicate nc (0 : UInt8) := ⟨_, rfl⟩
  rw [← hQ] at hql
  simp only [← hQ] at hmk
  have hni : (n : Int) + 16 = (nc : Int) := by omega
  have hbw : ∀ Y : Obj, Below w.heap.size w ((w.alloc (.cells (N.map B8).toArray 23)).alloc Y) := fun Y => ((Below.refl w.heap.size w).alloc (Nat.le_refl _) _).alloc (by simp) _
  have l1 := hx.box.lt
  have l2 := hx.key.key.lt
  have l3 := hx.key.rounds.lt
  have hma := mask_e gx gk gr R (w.heap.size + 1) nc n w.heap.size cp Ap L N P Q ((w.alloc (.cells (N.map B8).toArray 23)).alloc (.cells (Q.map B8).toArray 5)) (hx.below (hbw _)) (by omega) (by omega) (by omega) hN lp (ip.below (hbw _)) (by omega) (by simp; omega) (Blk.new2_of w (.cells (N.map B8).toArray 23) 5 _ (Q.map B8) rfl) (by omega) (by omega) (by omega)
  have hta := fun (W : World) (h : BoxAt W gx gk gr R L) (A : Option Addr) (c : Nat) (i : In W W.heap.size A c (maskE L R N P)) (i2 : In W W.heap.size Ab cb bes) => tag_e gx gk gr R n nb c cb A Ab L N (maskE L R N P) bes W h hN i i2 (by rw [maskE_length, lp]) lb (by omega) hb
  have hml : (maskE L R N P).length = n := by rw [maskE_length, lp]
  have htl := tagE_length L R N (maskE L R N P) bes
  have hxe : boxE L R N P bes = maskE L R N P ++ tagE L R N (maskE L R N P) bes := rfl
  generalize boxE L R N P bes = X at *
  generalize tagE L R N (maskE L R N P) bes = T at *
  generalize maskE L R N P = M at *
  have hz : ∀ W : World, (zeroValue 42).run Try.prog W = .ok (BV zero16) W := fun W => by kernel_rfl
  obtain ⟨Z, hZ⟩ : ∃ Z, Z = zero16 := ⟨_, rfl⟩
  have HZL := Lib.hid (show Z.length = 16 by rw [hZ]; rfl)
  rw [← hZ] at hz
  have HMA := Lib.hid hma
  have HTA := Lib.hid hta
  have HML := Lib.hid hml
  have HTL := Lib.hid htl
  have HXE := Lib.hid hxe
  have HBX := Lib.hid hx
  have HN := Lib.hid hN
  have HNC := Lib.hid hnc
  have HQL := Lib.hid hql
  have HB := Lib.hid hbw
  have HIB := Lib.hid ib
  have HE : Hid (∀ W, BoxAt W gx gk gr R L → Calls Try.prog 23 #[.pointer (some ⟨gx, 0, none⟩)] W fun e w' => e = .returned (.bool false) ∧ w' = W) := (fun W h => bempty_no h)
  clear hma hta hml htl hxe hx hN hnc hql hbw l1 l2 l3 lp lb hQ hb ip ib hZ
  go_enter Try.func11, Try.ntmps11
  have hA := Blk.new_of w 23 _ (N.map B8) rfl
  have hA1 := hA.alloc (.cells (Q.map B8).toArray 5)
  go_upto_region 6 with (first
    | (go_at_call 23; go_loud (refine (HE.out _ (HBX.out.below ((Below.refl w.heap.size w).alloc (Nat.le_refl _) _))).mono ?_); rintro e w' ⟨rfl, rfl⟩)
    | ((with_reducible refine (?_ : wpList _ _ _ (Oper.mk (some 22) _ _ _ _ _ :: _) _ _)); go_loud (refine wpList_load_blk rfl 23 (.tmp 5) rfl (w.heap.size) rfl 23 _ _ hA1 Try.underlying23 rfl (info12.trans (by rw [List.length_map, HN.out])) ?_))
    | (go_at_call 24; go_loud (refine HMA.out.mono ?_); rintro e w2 ⟨rfl, hT2, hg2⟩; have hA2 := hA1.grown hg2 (by simp); have hbw2 := below_new (HB.out _) hg2 (Nat.le_succ _) (by simp; omega); clear hA hA1 hg2)
    | ((with_reducible refine (?_ : wpList _ _ _ (Oper.mk (some 25) _ _ _ _ _ :: _) _ _)); go_loud (refine wpList_load_blk rfl 23 (.tmp 5) rfl (w.heap.size) rfl 23 _ _ hA2 Try.underlying23 rfl (info12.trans (by rw [List.length_map, HN.out])) ?_))
    | (go_at_call 25; go_loud (refine (HTA.out _ (HBX.out.below hbw2) _ _ (in_prefix hT2 (by have := HNC.out; omega) HML.out (by have := HNC.out; omega)) (in_up HIB.out hbw2)).mono ?_); rintro e w3 ⟨rfl, hb3⟩; have hT3 := hT2.below hb3 hT2.lt; have hbw3 := hbw2.trans (hb3.mono hbw2.size); clear hb3 hA2 hT2 hbw2)
    | ((with_reducible refine (?_ : wpList _ _ _ (Oper.mk none (.store 42 (.tmp 10) _) _ _ _ _ :: _) _ _)); go_loud (refine wpList_store_blk rfl 42 (.tmp 10) (.tmp 28) rfl rfl (w3.heap.size) _ rfl rfl 42 _ (Blk.new_of w3 42 _ _ rfl) (infoBk.trans (by rw [List.length_map, HTL.out])) (by rw [List.length_map, List.length_map, HTL.out, HZL.out]) (one8 _) ?_); intro w4 hS4 hg4))
  have hb4 := below_new ((Below.refl w3.heap.size w3).alloc (Nat.le_refl _) _) hg4 (Nat.le_refl _) (by simp)
  have hT4 := hT3.below hb4 hT3.lt
  have hbw4 := hbw3.trans (hb4.mono hbw3.size)
  have hB4 := buf_prefix (c := nc) hT4 (Nat.le_succ w.heap.size) HML.out (by rw [List.length_append, List.length_drop, HML.out, HQL.out]; have := HNC.out; omega) (by have := HNC.out; omega)
  clear hb4 hg4 hT3 hT4 hbw3
  go_wp2_with (first
    | ((with_reducible refine (?_ : wpList _ _ _ (Oper.mk (some 31) _ _ _ _ _ :: _) _ _)); go_loud (refine wpList_append_far rfl (.tmp 29) (.tmp 30) 24 rfl w.heap.size _ n nc M T _ rfl hB4 rfl (src_16 ((in_of_blk hS4 HTL.out (by decide) (Below.refl _ _)).src (Nat.le_refl _)) HTL.out) (by rw [HTL.out]; omega) hbw4.size nc (by rw [HTL.out]; exact HNC.out) ?_); intro A5 c5 w5 hB5 hg5 _; have hbw5 := below_own hbw4 hB4 hg5 (Nat.le_refl _) hbw4.size))
  go_ret
  exact ⟨A5, nc, c5, rfl, HNC.out, by rw [HXE.out]; exact hB5, hbw5⟩

set_option maxRecDepth 100000 in
set_option maxHeartbeats 1000000 in
theorem seal_none (N : List UInt8) (p q : Value) (w : World) : Calls Try.prog 11 #[.pointer none, BV N, p, q] w fun e w' => e = .returned (.slice none 0 0) ∧ Below w.heap.size w w' := by
  go_enter Try.func11, Try.ntmps11
  go_wp2_with (go_at_call 23; refine (bempty_nil _).mono ?_; rintro e w' ⟨rfl, rfl⟩)
  go_ret
  exact ⟨rfl, (Below.refl _ _).alloc (Nat.le_refl _) _⟩

def zero12 : List UInt8 := [0, 0, 0, 0, 0, 0, 0, 0, 0, 0, 0, 0]
theorem box_known : ((boxE (keyL 4 zero16) 11 zero12 [] []).getD 0 0, (boxE (keyL 4 zero16) 11 zero12 [] []).getD 15 0) = (0x58, 0x5A) := by decide +kernel

set_option maxRecDepth 100000 in
set_option maxHeartbeats 1000000 in
theorem boxes_e (w : World) : Calls Try.prog 9 #[] w fun e w' => e = .returned (.bool true) ∧ Below w.heap.size w w' := by
  have hk := box_known
  have hmk : ∀ W : World, (Instr.makeSlice 24 (.int .i64 16) (.int .i64 16)).run Try.prog W = .ok (.slice (some ⟨W.heap.size, 0, none⟩) 16 16) (W.alloc (.cells ((List.replicate 16 (0 : UInt8)).map B8).toArray 5)) := fun (W : World) => run_make_bytes .i64 .i64 16 16 (Nat.le_refl _) (by omega) W
  have hnw := fun (W : World) (A : Option Addr) (i : In W W.heap.size A 16 zero16) => bnew_any A 16 W.heap.size 4 zero16 W (Nat.le_refl _) (ink i) rfl (.inl rfl)
  have hse := fun (W : World) (gx gk gr : Nat) (h : BoxAt W gx gk gr 11 (keyL 4 zero16)) => seal_e gx gk gr 11 0 0 0 0 none none (keyL 4 zero16) zero12 [] [] W h rfl (in_nil W 0 (by decide) none) (in_nil W 0 (by decide) none) rfl rfl (by decide) (by decide)
  rw [show List.replicate 16 (0 : UInt8) = zero16 from rfl] at hmk
  have hbl := boxE_length (keyL 4 zero16) 11 zero12 [] []
  generalize boxE (keyL 4 zero16) 11 zero12 [] [] = X at *
  simp only [Prod.mk.injEq] at hk
  obtain ⟨k0, k15⟩ := hk
  have hz2 : ∀ W : World, (zeroValue 23).run Try.prog W = .ok (BV zero12) W := fun W => by kernel_rfl
  obtain ⟨Z, hZ⟩ : ∃ Z, Z = zero16 := ⟨_, rfl⟩
  obtain ⟨N, hN⟩ : ∃ N, N = zero12 := ⟨_, rfl⟩
  obtain ⟨L, hL⟩ : ∃ L, L = keyL 4 zero16 := ⟨_, rfl⟩
  rw [← hL] at hse hnw
  rw [← hN] at hse hz2
  rw [← hZ] at hmk hnw
  have hzl : Z.length = 16 := by rw [hZ]; rfl
  rw [hzl] at hnw
  have hnl : N.length = 12 := by rw [hN]; rfl
  have HNW := Lib.hid hnw
  have HSE := Lib.hid hse
  have HZL := Lib.hid hzl
  have HBL := Lib.hid hbl
  have K0 := Lib.hid k0
  have K15 := Lib.hid k15
  clear hnw hse hzl hbl k0 k15 hZ hN hL
  go_enter Try.func9, Try.ntmps9
  go_wp2_with (first
    | (go_at_call 7; go_loud (refine (HNW.out _ _ (in_of_blk (Blk.new_of w 5 _ (Z.map B8) rfl) HZL.out (by decide) (Below.refl _ _))).mono ?_); rintro e w1 ⟨gx, gk, gr, rfl, hgx, hX1, hb1⟩; have hbw1 := ((Below.refl w.heap.size w).alloc (Nat.le_refl _) _).trans (hb1.mono (by simp)); clear hb1)
    | (go_at_call 11; go_loud (refine (HSE.out _ _ _ _ hX1).mono ?_); rintro e w2 ⟨A2, n2, c2, rfl, hn2, hB2, hb2⟩; have hbw2 := hbw1.trans (hb2.mono hbw1.size); subst hn2; obtain ⟨g2, rfl, hg2, hl2, hby⟩ := hB2.at (by decide); have c0 := hby 0 (by rw [HBL.out]; decide); have c15 := hby 15 (by rw [HBL.out]; decide); rw [K0.out] at c0; rw [K15.out] at c15; clear hb2 hB2 hby))
  go_ret
  exact ⟨rfl, hbw2⟩
end Go.Proofs.Ytefbjhdcmgonbaa
