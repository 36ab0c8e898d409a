/-
  The contracts of package radius's marked and Seal.
-/
import Derived.Test.YtbomckbekcaemaaDoorRdk
import Derived.Test.YtbomckbekcaemaaDoorWd
namespace Go.Proofs.YtbomckbekcaemaaDoor
open Go.RowKit

theorem AInK.upK {ok : Nat → Prop} {w w' : World} {A : Option Addr} {c : Nat} {la : Attrs} (h : AInK ok w w.heap.size A c la) (hb : Below w.heap.size w w') : AInK ok w' w'.heap.size A c la := (h.below hb).weaken hb.size (fun _ h => h)
theorem attr_one (ok : Nat → Prop) (w : World) (kd : Int) (x : List UInt8) (Ax : Option Addr) (nx cx : Nat) (hl : x.length = nx) (hx : In w w.heap.size Ax cx x) (hok : ∀ a, Ax = some a → ok a.block) :
    AInK ok (w.alloc (.cells #[.int .i64 kd, .slice Ax nx cx] 69)) (w.alloc (.cells #[.int .i64 kd, .slice Ax nx cx] 69)).heap.size (some ⟨w.heap.size, 0, none⟩) 1 [(kd, x)] := by
  have hB := Blk.new_of w 69 #[.int .i64 kd, .slice Ax nx cx] [.int .i64 kd, .slice Ax nx cx] rfl
  refine ⟨by simp, by decide, fun _ => ⟨w.heap.size, 0, rfl, hB.lt, fun j hj => ?_⟩⟩
  have hj0 : j = 0 := by simp at hj; omega
  subst hj0
  subst hl
  exact ⟨Ax, cx, hB.cell 0, hB.cell 1, hx.up ((Below.refl _ _).alloc (Nat.le_refl _) _), fun _ a e => hok a e⟩
theorem pkC_set (code id : Int) (Q : List UInt8) (A A' : Option Addr) (n c n' c' : Nat) (hQ : Q.length = 16) : (pkC code id Q A n c).set 18 (.slice A' n' c') = pkC code id Q A' n' c' := by
  unfold pkC
  show Value.int .i64 code :: Value.int .i64 id :: (Q.map B8 ++ [Value.slice A n c]).set 16 (.slice A' n' c') = _
  rw [List.set_append, if_neg (by simp [hQ]), List.length_map, hQ]
  rfl
/-- What marked tells. -/
def markE (code id : Int) (Q : List UInt8) (la : Attrs) (sec : List UInt8) : List UInt8 × Nat :=
  if hasMark la = true then ([], 1) else if pkOK code id (la ++ [(80, zQ)]) = true then (pkB code id Q (la ++ [(80, hmacQ sec (pkB code id Q (la ++ [(80, zQ)])))]), 0) else ([], 2)
theorem hmacQ_len (k m : List UInt8) : (hmacQ k m).length = 16 := by unfold hmacQ; exact md5_length _
theorem pkB_last (code id : Int) (Q : List UInt8) (la : Attrs) (x y : List UInt8) (hx : x.length = 16) (hy : y.length = 16) : pkB code id Q (la ++ [(80, y)]) = (pkB code id Q (la ++ [(80, x)])).take ((pkB code id Q (la ++ [(80, x)])).length - 16) ++ y := by
  have hs : sizeA (la ++ [(80, x)]) = sizeA (la ++ [(80, y)]) := by rw [sizeA_snoc, sizeA_snoc, hx, hy]
  unfold pkB
  rw [flatA_snoc, flatA_snoc, hs, show attrB (80, x) = [by8 80, by8 (2 + ((16 : Nat) : Int))] ++ x by unfold attrB; rw [hx], show attrB (80, y) = [by8 80, by8 (2 + ((16 : Nat) : Int))] ++ y by unfold attrB; rw [hy]]
  generalize [by8 code, by8 id, by8 (((20 + sizeA (la ++ [(80, y)])) / 256 : Nat) : Int), by8 (((20 + sizeA (la ++ [(80, y)])) % 256 : Nat) : Int)] ++ Q = P
  generalize flatA la = F
  generalize [by8 80, by8 (2 + ((16 : Nat) : Int))] = T
  rw [show P ++ (F ++ (T ++ x)) = (P ++ F ++ T) ++ x by simp only [List.append_assoc], show P ++ (F ++ (T ++ y)) = (P ++ F ++ T) ++ y by simp only [List.append_assoc], List.length_append, hx, Nat.add_sub_cancel, List.take_left']
  rfl
theorem Buf.setCells {w : World} {base n c g o : Nat} {bs xs : List UInt8} (h : Buf w base (some ⟨g, 0, none⟩) n c bs) (ho : o + xs.length ≤ n) : Buf (w.setCells g o (xs.map B8)) base (some ⟨g, 0, none⟩) n c (bs.take o ++ (xs ++ bs.drop (o + xs.length))) := by
  have hl := h.1
  rcases h.2 with ⟨e, _⟩ | ⟨g', e, hbg, hlt, hnc, hcm, hbytes, hall⟩
  · cases e
  · cases e
    have hto : (bs.take o).length = o := by rw [List.length_take]; omega
    refine ⟨by rw [List.length_append, List.length_append, List.length_drop, hto]; omega, .inr ⟨g, rfl, hbg, Nat.lt_of_lt_of_le hlt (grown_setCells w g o (xs.map B8)).size, hnc, hcm, fun j hj => ?_, fun j hj => ⟨World.isSome_setCells g _ o w _ (hall j hj).1, by rw [World.frozen?_setCells]; exact (hall j hj).2⟩⟩⟩
    rw [Nat.zero_add]
    have hj : j < n := by rw [List.length_append, List.length_append, List.length_drop, hto] at hj; omega
    have hold := hbytes j (by omega)
    rw [Nat.zero_add] at hold
    by_cases h1 : j < o
    · rw [World.cell?_setCells_out g _ o w _ (fun _ _ => .inl h1), hold]
      have : (bs.take o ++ (xs ++ bs.drop (o + xs.length))).getD j 0 = bs.getD j 0 := by
        rw [List.getD_eq_getElem?_getD, List.getElem?_append_left (by omega), List.getElem?_take, if_pos h1, ← List.getD_eq_getElem?_getD]
      rw [this]
    · by_cases h2 : j < o + xs.length
      · obtain ⟨k, rfl⟩ : ∃ k, j = o + k := ⟨j - o, by omega⟩
        have hk : k < xs.length := by omega
        rw [World.cell?_setCells_in g (xs.map B8) o w (fun k hk => (hall (o + k) (by simp at hk; omega)).1) k (by simpa using hk)]
        have : (bs.take o ++ (xs ++ bs.drop (o + xs.length))).getD (o + k) 0 = xs.getD k 0 := by
          rw [List.getD_eq_getElem?_getD, List.getElem?_append_right (by omega), hto, show o + k - o = k by omega, List.getElem?_append_left hk, ← List.getD_eq_getElem?_getD]
        rw [this]
        simp [List.getD_eq_getElem?_getD, List.getElem?_eq_getElem hk]
      · rw [World.cell?_setCells_out g _ o w _ (fun _ _ => .inr (by simp; omega)), hold]
        have : (bs.take o ++ (xs ++ bs.drop (o + xs.length))).getD j 0 = bs.getD j 0 := by
          rw [List.getD_eq_getElem?_getD, List.getElem?_append_right (by omega), hto, List.getElem?_append_right (by omega), List.getElem?_drop, show o + xs.length + (j - o - xs.length) = j by omega, ← List.getD_eq_getElem?_getD]
        rw [this]
/-- An array of bytes is copied into a slice of the call's own. -/
theorem run_copy_buf {w : World} {base n c g o dc gs sc : Nat} {bs xs : List UInt8} {ty : TypeId} {t : TypeId} (h : Buf w base (some ⟨g, 0, none⟩) n c bs) (ho : o + xs.length ≤ n) (dn : Nat) (hd : dn = n - o) (hs : Blk w gs t (xs.map B8)) :
    (Builtin.copy_ #[26, 26] ty #[.slice (some ⟨g, o, none⟩) dn dc, .slice (some ⟨gs, 0, none⟩) xs.length sc]).run Tryd.prog w = .ok (goInt xs.length) (w.setCells g o (xs.map B8)) := by
  subst hd
  rcases h.2 with ⟨e, _⟩ | ⟨g', e, hbg, hlt, hnc, hcm, hbytes, hall⟩
  · cases e
  · cases e
    have hh := run_copy_cells (P := Tryd.prog) w 26 26 ty 5 g o (n - o) dc ⟨gs, 0, none⟩ xs.length sc (xs.map B8) Tryd.underlying26 (by kernel_rfl) (by rw [List.length_map]; exact (Nat.min_eq_left (by omega)).symm)
      (fun j v hj => by rw [add_row]; exact rangeAt_of_blk hs j v hj) (fun j hj => (hall (o + j) (by simp at hj; omega)).1) (fun j hj => (hall (o + j) (by simp at hj; omega)).2) (by intro v hv; obtain ⟨y, _, rfl⟩ := List.mem_map.1 hv; rfl)
    rwa [List.length_map] at hh
theorem wp_copyR {P : Program} (w : World) {o : Oper} {a : Act} {K : Act → World → Prop} {Q : Exit → Act → World → Prop} (d s : Operand) (t t' : TypeId)
    (ho : o.op = .call { callee := .builtin .copy, args := #[d, s], argTypes := #[t, t'] }) (v u : Value) (hd : a.eval d = v) (hs : a.eval s = u) {v' : Value} {w' : World}
    (hr : (Builtin.copy_ #[t, t'] o.type #[v, u]).run P w = .ok v' w') (h : K (a.put o.dst v') w') : o.wp P a w K Q := by
  unfold Oper.wp execOp
  simp only [ho, resolve, invoke, builtin, Sem.run_bind, Sem.run_pure, Result.andThen_ok, List.map_toArray, List.map_cons, List.map_nil, hd, hs, hr]
  exact h
theorem qmacB_one {W : World} {A A' : Option Addr} {c c' n n' gp : Nat} {key m x : List UInt8} (ik : In W W.heap.size A c key) (hn : key.length = n) (im : In W W.heap.size A' c' m) (hn' : m.length = n') (hc : W.cell? ⟨gp, 0, none⟩ = some (.slice A' n' c')) (hk : n ≤ 1000000) (hm : n' ≤ 1000000) (hx : x = hmacQ key m) (ht : TabsQ W) :
    Calls Tryd.prog 68 #[.slice A n c, .slice (some ⟨gp, 0, none⟩) 1 1] W fun e w' => e = .returned (.agg (x.map B8).toArray) ∧ Below W.heap.size W w' := by
  subst hn hx
  have := qMac_any A (some ⟨gp, 0, none⟩) c 1 W.heap.size key [m] W (Nat.le_refl _) ik (by omega) ht (by simp; omega) (by simp) (by omega) (fun g hg => parts_in hn' hc im hg hg)
  simpa using this
set_option maxRecDepth 100000 in
set_option maxHeartbeats 1000000 in
theorem marked_has (c n ls cs : Nat) (code id : Int) (Q : List UInt8) (A As : Option Addr) (la : Attrs) (sec : List UInt8) (w : World) (hQ : Q.length = 16) (hn : la.length = n) (hA : AIn w w.heap.size A c la) (_hls : sec.length = ls) (_is : In w w.heap.size As cs sec) (_ht : TabsQ w) (_hm : n ≤ 400000) (_hm2 : ls ≤ 1000000) (h : hasMark la = true) :
    Calls Tryd.prog 49 #[.agg (pkC code id Q A n c).toArray, .slice As ls cs] w (WrapPost (markE code id Q la sec) w) := by
  have HZ := Lib.hid (show markE code id Q la sec = ([], 1) by unfold markE; rw [if_pos h])
  have HCT := Lib.hid (fun (W : World) (hb : Below w.heap.size w W) => (show Calls Tryd.prog 64 #[.slice A n c, .func (.func 65) #[] #[]] W (fun e w' => e = .returned (.bool true) ∧ Below W.heap.size W w') by rw [← h]; exact containsFunc_e A c n la W hn (hA.up hb)))
  have HQ := Lib.hid hQ
  clear hQ hn hA _hls _is _ht _hm _hm2 h
  go_enter Tryd.func49, Tryd.ntmps49
  go_upto_region 1 with (fail)
  have hP := Blk.new_of w 30 (pkC code id Q A n c).toArray (pkC code id Q A n c) rfl
  have hb0 : Below w.heap.size w (w.alloc (.cells (pkC code id Q A n c).toArray 30)) := (Below.refl _ _).alloc (Nat.le_refl _) _
  obtain ⟨g, hg⟩ : ∃ g, g = w.heap.size := ⟨_, rfl⟩
  have HG := Lib.hid (show w.heap.size ≤ g by rw [hg]; exact Nat.le_refl _)
  rw [← hg] at hP
  simp only [← hg]
  have HP := Lib.hid hP
  have HBW := Lib.hid hb0
  clear hg hP hb0
  generalize w.alloc (.cells (pkC code id Q A n c).toArray 30) = w1 at *
  have HC18 := Lib.hid (fun (W : World) (h : Below w1.heap.size w1 W) => (show W.cell? ⟨g, 18, none⟩ = some (.slice A n c) from ((HP.out.below h HP.out.lt).cell 18).trans (pkC_last code id Q A n c HQ.out)))
  have hc18 := HC18.out w1 (Below.refl _ _)
  go_wp2_with (go_at_call 64; refine (HCT.out _ HBW.out).mono ?_; rintro e w2 ⟨rfl, hb2⟩)
  go_ret2
  exact ⟨none, 0, 0, by rw [HZ.out] <;> rfl, by rw [HZ.out]; exact Buf.nil _ _, HBW.out.trans (hb2.mono HBW.out.size)⟩
set_option maxRecDepth 100000 in
set_option maxHeartbeats 1000000 in
theorem marked_bad (c n ls cs : Nat) (code id : Int) (Q : List UInt8) (A As : Option Addr) (la : Attrs) (sec : List UInt8) (w : World) (hQ : Q.length = 16) (hn : la.length = n) (hA : AIn w w.heap.size A c la) (hls : sec.length = ls) (is : In w w.heap.size As cs sec) (ht : TabsQ w) (hm : n ≤ 400000) (hm2 : ls ≤ 1000000) (h : hasMark la = false) (hp : pkOK code id (la ++ [(80, zQ)]) = false) :
    Calls Tryd.prog 49 #[.agg (pkC code id Q A n c).toArray, .slice As ls cs] w (WrapPost (markE code id Q la sec) w) := by
  have HE := Lib.hid (show markE code id Q la sec = ([], 2) by unfold markE; rw [h, hp]; rfl)
  have hW : writeE code id Q (la ++ [(80, zQ)]) = ([], 2) := by unfold writeE; rw [hp]; rfl
  have HCT := Lib.hid (fun (W : World) (hb : Below w.heap.size w W) => (show Calls Tryd.prog 64 #[.slice A n c, .func (.func 65) #[] #[]] W (fun e w' => e = .returned (.bool false) ∧ Below W.heap.size W w') by rw [← h]; exact containsFunc_e A c n la W hn (hA.up hb)))
  have HWR := Lib.hid (fun (W : World) (A2 : Option Addr) (c2 m2 : Nat) (hl : (la ++ [(80, zQ)]).length = m2) (h2 : AIn W W.heap.size A2 c2 (la ++ [(80, zQ)])) => (show Calls Tryd.prog 13 #[.agg (pkC code id Q A2 m2 c2).toArray] W (WrapPost ([], 2) W) by rw [← hW]; exact write_e c2 m2 code id Q A2 (la ++ [(80, zQ)]) W hQ hl h2))
  unfold WrapPost at HWR
  have HQ := Lib.hid hQ
  have HN := Lib.hid hn
  have HA := Lib.hid hA
  have HS := Lib.hid (And.intro hls (And.intro is (And.intro ht hm2)))
  have HNM := Lib.hid hm
  clear hQ hn hA hls is ht hm hm2 h hp hW
  go_enter Tryd.func49, Tryd.ntmps49
  go_upto_region 1 with (fail)
  have hP := Blk.new_of w 30 (pkC code id Q A n c).toArray (pkC code id Q A n c) rfl
  have hb0 : Below w.heap.size w (w.alloc (.cells (pkC code id Q A n c).toArray 30)) := (Below.refl _ _).alloc (Nat.le_refl _) _
  obtain ⟨g, hg⟩ : ∃ g, g = w.heap.size := ⟨_, rfl⟩
  have HG := Lib.hid (show w.heap.size ≤ g by rw [hg]; exact Nat.le_refl _)
  rw [← hg] at hP
  simp only [← hg]
  have HP := Lib.hid hP
  have HBW := Lib.hid hb0
  clear hg hP hb0
  generalize w.alloc (.cells (pkC code id Q A n c).toArray 30) = w1 at *
  have HC18 := Lib.hid (fun (W : World) (h : Below w1.heap.size w1 W) => (show W.cell? ⟨g, 18, none⟩ = some (.slice A n c) from ((HP.out.below h HP.out.lt).cell 18).trans (pkC_last code id Q A n c HQ.out)))
  have hc18 := HC18.out w1 (Below.refl _ _)
  go_upto_region 3 with (go_at_call 64; refine (HCT.out _ HBW.out).mono ?_; rintro e w2 ⟨rfl, hb2⟩)
  have HB2 := Lib.hid hb2
  clear hb2 hc18
  refine wp_region_noPanic ?_
  refine wp_region_but (S := fun W => Below w2.heap.size w2 W) 7 (by kernel_rfl) (by exact below_drewN (Below.refl _ _) 1) (fun hHeld => ?_)
  refine but_take (i := 0) (oi := ⟨_, _, _, _, _, _⟩) (v := ?_) rfl (by kernel_rfl) (by kernel_rfl) (by kernel_rfl) (by kernel_rfl) (fun _ _ _ h => h) (Or.inl ⟨by rfl, ?_⟩) hHeld ?_
  rotate_left 1
  · (intro W hSw; (try dsimp only at hSw); go_simp; try with_reducible rfl)
  try simp only [Act.put, List.setIfInBounds_toArray, List.set_cons_zero, List.set_cons_succ]
  refine but_take (i := 1) (oi := ⟨_, _, _, _, _, _⟩) (v := ?_) rfl (by kernel_rfl) (by kernel_rfl) (by kernel_rfl) (by kernel_rfl) (fun _ _ _ h => h) (Or.inl ⟨by rfl, ?_⟩) hHeld ?_
  rotate_left 1
  · (intro W hSw; (try dsimp only at hSw); have hcc := HC18.out W (HB2.out.trans (hSw.mono HB2.out.size)); go_simp; try with_reducible rfl)
  try simp only [Act.put, List.setIfInBounds_toArray, List.set_cons_zero, List.set_cons_succ]
  replace hHeld : Below w2.heap.size w2 w2.drew := hHeld
  have hHeld0 := hHeld.size
  generalize w2.drew = wd at *
  refine but_ready (i := 2) (o := ⟨_, _, _, _, _, _⟩) (by kernel_rfl) rfl (fun K hK => ?_)
  go_simp
  go_at_call 67
  refine (unset_e _).mono ?_
  rintro e w3 ⟨gu, rfl, hBu, hb3⟩
  try go_wp2_with fail
  have hszx := hHeld.size
  refine hK.out _ _ (hHeld.trans (hb3.mono hszx)) (fun hHeld => ?_)
  clear hK K hb3 hszx
  try simp only [Act.put, List.setIfInBounds_toArray, List.set_cons_zero, List.set_cons_succ]
  refine but_ready (i := 3) (o := ⟨_, _, _, _, _, _⟩) (by kernel_rfl) rfl (fun K hK => ?_)
  go_simp
  have hszx := hHeld.size
  have hgu := (hBu.lt rfl).1
  have hAM := attr_one (fun b => b ≠ g) w3 80 zQ (some ⟨gu, 0, none⟩) 16 16 rfl (hBu.toIn (Nat.le_refl _)) (fun a e => by cases e; have := HP.out.lt; have := HB2.out.size; have := hHeld0; simp only; omega)
  refine hK.out _ _ (hHeld.alloc hszx _) (fun hHeld => ?_)
  replace hHeld : Below w2.heap.size w2 (w3.alloc (.cells #[.int .i64 80, .slice (some ⟨gu, 0, none⟩) 16 16] 69)) := hHeld
  clear hK K hszx hBu hgu hHeld0
  generalize w3.heap.size = g3 at *
  generalize w3.alloc (.cells #[.int .i64 80, .slice (some ⟨gu, 0, none⟩) 16 16] 69) = w4 at *
  try simp only [Act.put, List.setIfInBounds_toArray, List.set_cons_zero, List.set_cons_succ]
  refine but_ready (i := 4) (o := ⟨_, _, _, _, _, _⟩) (by kernel_rfl) rfl (fun K hK => ?_)
  go_simp
  have hszx := hHeld.size
  have hq0 : (w4.alloc (.cells #[.slice A n c, .slice (some ⟨g3, 0, none⟩) 1 1] 28)).cell? ⟨w4.heap.size, 0, none⟩ = some (.slice A n c) := (Blk.new_of w4 28 _ [.slice A n c, .slice (some ⟨g3, 0, none⟩) 1 1] rfl).cell 0
  have hq1 : (w4.alloc (.cells #[.slice A n c, .slice (some ⟨g3, 0, none⟩) 1 1] 28)).cell? ⟨w4.heap.size, 1, none⟩ = some (.slice (some ⟨g3, 0, none⟩) 1 1) := (Blk.new_of w4 28 _ [.slice A n c, .slice (some ⟨g3, 0, none⟩) 1 1] rfl).cell 1
  have hql : w4.heap.size < (w4.alloc (.cells #[.slice A n c, .slice (some ⟨g3, 0, none⟩) 1 1] 28)).heap.size := (Blk.new_of w4 28 _ [.slice A n c, .slice (some ⟨g3, 0, none⟩) 1 1] rfl).lt
  replace hAM := hAM.upK ((Below.refl w4.heap.size w4).alloc (Nat.le_refl _) (.cells #[.slice A n c, .slice (some ⟨g3, 0, none⟩) 1 1] 28))
  refine hK.out _ _ (hHeld.alloc hszx _) (fun hHeld => ?_)
  replace hHeld : Below w2.heap.size w2 (w4.alloc (.cells #[.slice A n c, .slice (some ⟨g3, 0, none⟩) 1 1] 28)) := hHeld
  clear hK K hszx
  generalize w4.heap.size = g4 at *
  generalize w4.alloc (.cells #[.slice A n c, .slice (some ⟨g3, 0, none⟩) 1 1] 28) = w5 at *
  try simp only [Act.put, List.setIfInBounds_toArray, List.set_cons_zero, List.set_cons_succ]
  refine but_ready (i := 5) (o := ⟨_, _, _, _, _, _⟩) (by kernel_rfl) rfl (fun K hK => ?_)
  go_simp
  go_at_call 66
  refine (concat2_e (fun b => b ≠ g) g4 n 1 c 1 A (some ⟨g3, 0, none⟩) la [(80, zQ)] w5 hql hq0 hq1 HN.out rfl ((HA.out.toK.below (HBW.out.trans ((HB2.out.trans (hHeld.mono HB2.out.size)).mono HBW.out.size))).weaken (HBW.out.trans ((HB2.out.trans (hHeld.mono HB2.out.size)).mono HBW.out.size)).size (fun b hb e => by have := HG.out; omega)) hAM HNM.out (by decide)).mono ?_
  rintro e w6 ⟨v6, rfl, hA6, hb6⟩
  try go_wp2_with fail
  have HA6 := Lib.hid hA6
  obtain ⟨A6, c6, hv6, hA6i⟩ := HA6.out.slice
  obtain ⟨n7, hn7⟩ : ∃ n7, (la ++ [((80 : Int), zQ)]).length = n7 := ⟨_, rfl⟩
  rw [hn7] at hv6
  subst hv6
  have HN7 := Lib.hid (And.intro hn7 hA6i)
  have HL6 := Lib.hid HA6.out.lt
  clear HA6 hn7 hA6i
  have hszx := hHeld.size
  have HZ6 := Lib.hid hszx
  refine hK.out _ _ (hHeld.trans (hb6.mono hszx)) (fun hHeld => ?_)
  clear hK K hszx hA6 hb6 hq0 hq1 hql hAM
  try simp only [Act.put, List.setIfInBounds_toArray, List.set_cons_zero, List.set_cons_succ]
  refine but_take (i := 6) (oi := ⟨_, _, _, _, _, _⟩) (v := ?_) rfl (by kernel_rfl) (by kernel_rfl) (by kernel_rfl) (by kernel_rfl) (fun _ _ _ h => h) (Or.inl ⟨by rfl, ?_⟩) hHeld ?_
  rotate_left 1
  · (intro W hSw; (try dsimp only at hSw); go_simp; try with_reducible rfl)
  try simp only [Act.put, List.setIfInBounds_toArray, List.set_cons_zero, List.set_cons_succ]
  refine but_last (o := ⟨_, _, _, _, _, _⟩) (by kernel_rfl) rfl (by kernel_rfl) (fun K hK => ?_)
  have hP6 := HP.out.below (HB2.out.trans (hHeld.mono HB2.out.size)) HP.out.lt
  have hc18 : w6.cell? ⟨g, 18, none⟩ = some (.slice A n c) := (hP6.cell 18).trans (pkC_last code id Q A n c HQ.out)
  have hf18 := hP6.frozen 18
  go_simp
  refine hK.out _ _ ?_
  clear hK K hc18 hf18
  refine NoPanic.normal ?_
  have hPs := hP6.set_ 18 (.slice A6 n7 c6)
  rw [pkC_set _ _ _ _ _ _ _ _ _ HQ.out] at hPs
  have hA7 := HN7.out.2.set (g := g) (i := 18) (fun a e => by
    subst e
    have h1 := (HL6.out a.block rfl).1
    have h2 := HP.out.lt
    have h3 := HB2.out.size
    have h4 := HZ6.out
    omega) (fun b h => h) (.slice A6 n7 c6)
  have HB7 := Lib.hid ((HBW.out.trans ((HB2.out.trans (hHeld.mono HB2.out.size)).mono HBW.out.size)).setCell (p := ⟨g, 18, none⟩) HG.out (.slice A6 n7 c6))
  have HA7 := Lib.hid (And.intro HN7.out.1 hA7.toIn)
  clear hP6 hHeld hA7 HN7 HL6 HZ6
  generalize w6.setCell ⟨g, 18, none⟩ (.slice A6 n7 c6) = w7 at *
  go_upto_region 5 with (first
    | ((with_reducible refine (?_ : wpList _ _ _ (Oper.mk (some 20) _ _ _ _ _ :: _) _ _)); go_loud (refine wpList_load_blk rfl 30 (.tmp 2) rfl g rfl _ _ _ (hPs) Tryd.underlying30 rfl (infPk.trans (by rw [pkC_length _ _ _ _ _ _ HQ.out])) ?_))
    | (go_at_call 13; refine (HWR.out _ _ _ _ HA7.out.1 HA7.out.2).mono ?_; rintro e w8 ⟨A8, n8, c8, rfl, hB8, hb8⟩))
  have HB8 := Lib.hid (HB7.out.trans (hb8.mono HB7.out.size))
  have HV8 := Lib.hid hB8
  clear hPs hB8 hb8
  go_wp2
  go_ret2
  exact ⟨none, 0, 0, by rw [HE.out] <;> rfl, by rw [HE.out]; exact Buf.nil _ _, HB8.out⟩
set_option maxRecDepth 100000 in
set_option maxHeartbeats 1000000 in
theorem marked_ok (c n ls cs : Nat) (code id : Int) (Q : List UInt8) (A As : Option Addr) (la : Attrs) (sec : List UInt8) (w : World) (hQ : Q.length = 16) (hn : la.length = n) (hA : AIn w w.heap.size A c la) (hls : sec.length = ls) (is : In w w.heap.size As cs sec) (ht : TabsQ w) (hm : n ≤ 400000) (hm2 : ls ≤ 1000000) (h : hasMark la = false) (hp : pkOK code id (la ++ [(80, zQ)]) = true) :
    Calls Tryd.prog 49 #[.agg (pkC code id Q A n c).toArray, .slice As ls cs] w (WrapPost (markE code id Q la sec) w) := by
  have HE := Lib.hid (show markE code id Q la sec = (pkB code id Q (la ++ [(80, hmacQ sec (pkB code id Q (la ++ [(80, zQ)])))]), 0) by unfold markE; rw [h, hp]; rfl)
  have hW : writeE code id Q (la ++ [(80, zQ)]) = (pkB code id Q (la ++ [(80, zQ)]), 0) := by unfold writeE; rw [hp]; rfl
  have hVM := pkB_last code id Q la zQ (hmacQ sec (pkB code id Q (la ++ [(80, zQ)]))) rfl (hmacQ_len _ _)
  have hVl : 36 ≤ (pkB code id Q (la ++ [(80, zQ)])).length ∧ (pkB code id Q (la ++ [(80, zQ)])).length ≤ 4096 := by
    have h1 := whole_fit (pk_ranges hp).2.2
    have h2 := sizeA_snoc la (80, zQ)
    have h3 : zQ.length = 16 := rfl
    unfold pkB
    rw [List.length_append, List.length_append, flatA_length, hQ]
    simp only [List.length_cons, List.length_nil]
    simp only [h3] at h2
    omega
  rw [hVM] at HE
  have hML := hmacQ_len sec (pkB code id Q (la ++ [(80, zQ)]))
  generalize hV : pkB code id Q (la ++ [(80, zQ)]) = V at *
  generalize hMM : hmacQ sec V = M at *
  have HX := Lib.hid (And.intro hML (And.intro hMM.symm hVl))
  clear hVM hML hMM hVl hV
  have HCT := Lib.hid (fun (W : World) (hb : Below w.heap.size w W) => (show Calls Tryd.prog 64 #[.slice A n c, .func (.func 65) #[] #[]] W (fun e w' => e = .returned (.bool false) ∧ Below W.heap.size W w') by rw [← h]; exact containsFunc_e A c n la W hn (hA.up hb)))
  have HWR := Lib.hid (fun (W : World) (A2 : Option Addr) (c2 m2 : Nat) (hl : (la ++ [(80, zQ)]).length = m2) (h2 : AIn W W.heap.size A2 c2 (la ++ [(80, zQ)])) => (show Calls Tryd.prog 13 #[.agg (pkC code id Q A2 m2 c2).toArray] W (WrapPost (V, 0) W) by rw [← hW]; exact write_e c2 m2 code id Q A2 (la ++ [(80, zQ)]) W hQ hl h2))
  unfold WrapPost at HWR
  have HQ := Lib.hid hQ
  have HN := Lib.hid hn
  have HA := Lib.hid hA
  have HS := Lib.hid (And.intro hls (And.intro is (And.intro ht hm2)))
  have HNM := Lib.hid hm
  clear hQ hn hA hls is ht hm hm2 h hp hW
  go_enter Tryd.func49, Tryd.ntmps49
  go_upto_region 1 with (fail)
  have hP := Blk.new_of w 30 (pkC code id Q A n c).toArray (pkC code id Q A n c) rfl
  have hb0 : Below w.heap.size w (w.alloc (.cells (pkC code id Q A n c).toArray 30)) := (Below.refl _ _).alloc (Nat.le_refl _) _
  obtain ⟨g, hg⟩ : ∃ g, g = w.heap.size := ⟨_, rfl⟩
  have HG := Lib.hid (show w.heap.size ≤ g by rw [hg]; exact Nat.le_refl _)
  rw [← hg] at hP
  simp only [← hg]
  have HP := Lib.hid hP
  have HBW := Lib.hid hb0
  clear hg hP hb0
  generalize w.alloc (.cells (pkC code id Q A n c).toArray 30) = w1 at *
  have HC18 := Lib.hid (fun (W : World) (h : Below w1.heap.size w1 W) => (show W.cell? ⟨g, 18, none⟩ = some (.slice A n c) from ((HP.out.below h HP.out.lt).cell 18).trans (pkC_last code id Q A n c HQ.out)))
  have hc18 := HC18.out w1 (Below.refl _ _)
  go_upto_region 3 with (go_at_call 64; refine (HCT.out _ HBW.out).mono ?_; rintro e w2 ⟨rfl, hb2⟩)
  have HB2 := Lib.hid hb2
  clear hb2 hc18
  refine wp_region_noPanic ?_
  refine wp_region_but (S := fun W => Below w2.heap.size w2 W) 7 (by kernel_rfl) (by exact below_drewN (Below.refl _ _) 1) (fun hHeld => ?_)
  refine but_take (i := 0) (oi := ⟨_, _, _, _, _, _⟩) (v := ?_) rfl (by kernel_rfl) (by kernel_rfl) (by kernel_rfl) (by kernel_rfl) (fun _ _ _ h => h) (Or.inl ⟨by rfl, ?_⟩) hHeld ?_
  rotate_left 1
  · (intro W hSw; (try dsimp only at hSw); go_simp; try with_reducible rfl)
  try simp only [Act.put, List.setIfInBounds_toArray, List.set_cons_zero, List.set_cons_succ]
  refine but_take (i := 1) (oi := ⟨_, _, _, _, _, _⟩) (v := ?_) rfl (by kernel_rfl) (by kernel_rfl) (by kernel_rfl) (by kernel_rfl) (fun _ _ _ h => h) (Or.inl ⟨by rfl, ?_⟩) hHeld ?_
  rotate_left 1
  · (intro W hSw; (try dsimp only at hSw); have hcc := HC18.out W (HB2.out.trans (hSw.mono HB2.out.size)); go_simp; try with_reducible rfl)
  try simp only [Act.put, List.setIfInBounds_toArray, List.set_cons_zero, List.set_cons_succ]
  replace hHeld : Below w2.heap.size w2 w2.drew := hHeld
  have hHeld0 := hHeld.size
  generalize w2.drew = wd at *
  refine but_ready (i := 2) (o := ⟨_, _, _, _, _, _⟩) (by kernel_rfl) rfl (fun K hK => ?_)
  go_simp
  go_at_call 67
  refine (unset_e _).mono ?_
  rintro e w3 ⟨gu, rfl, hBu, hb3⟩
  try go_wp2_with fail
  have hszx := hHeld.size
  refine hK.out _ _ (hHeld.trans (hb3.mono hszx)) (fun hHeld => ?_)
  clear hK K hb3 hszx
  try simp only [Act.put, List.setIfInBounds_toArray, List.set_cons_zero, List.set_cons_succ]
  refine but_ready (i := 3) (o := ⟨_, _, _, _, _, _⟩) (by kernel_rfl) rfl (fun K hK => ?_)
  go_simp
  have hszx := hHeld.size
  have hgu := (hBu.lt rfl).1
  have hAM := attr_one (fun b => b ≠ g) w3 80 zQ (some ⟨gu, 0, none⟩) 16 16 rfl (hBu.toIn (Nat.le_refl _)) (fun a e => by cases e; have := HP.out.lt; have := HB2.out.size; have := hHeld0; simp only; omega)
  refine hK.out _ _ (hHeld.alloc hszx _) (fun hHeld => ?_)
  replace hHeld : Below w2.heap.size w2 (w3.alloc (.cells #[.int .i64 80, .slice (some ⟨gu, 0, none⟩) 16 16] 69)) := hHeld
  clear hK K hszx hBu hgu hHeld0
  generalize w3.heap.size = g3 at *
  generalize w3.alloc (.cells #[.int .i64 80, .slice (some ⟨gu, 0, none⟩) 16 16] 69) = w4 at *
  try simp only [Act.put, List.setIfInBounds_toArray, List.set_cons_zero, List.set_cons_succ]
  refine but_ready (i := 4) (o := ⟨_, _, _, _, _, _⟩) (by kernel_rfl) rfl (fun K hK => ?_)
  go_simp
  have hszx := hHeld.size
  have hq0 : (w4.alloc (.cells #[.slice A n c, .slice (some ⟨g3, 0, none⟩) 1 1] 28)).cell? ⟨w4.heap.size, 0, none⟩ = some (.slice A n c) := (Blk.new_of w4 28 _ [.slice A n c, .slice (some ⟨g3, 0, none⟩) 1 1] rfl).cell 0
  have hq1 : (w4.alloc (.cells #[.slice A n c, .slice (some ⟨g3, 0, none⟩) 1 1] 28)).cell? ⟨w4.heap.size, 1, none⟩ = some (.slice (some ⟨g3, 0, none⟩) 1 1) := (Blk.new_of w4 28 _ [.slice A n c, .slice (some ⟨g3, 0, none⟩) 1 1] rfl).cell 1
  have hql : w4.heap.size < (w4.alloc (.cells #[.slice A n c, .slice (some ⟨g3, 0, none⟩) 1 1] 28)).heap.size := (Blk.new_of w4 28 _ [.slice A n c, .slice (some ⟨g3, 0, none⟩) 1 1] rfl).lt
  replace hAM := hAM.upK ((Below.refl w4.heap.size w4).alloc (Nat.le_refl _) (.cells #[.slice A n c, .slice (some ⟨g3, 0, none⟩) 1 1] 28))
  refine hK.out _ _ (hHeld.alloc hszx _) (fun hHeld => ?_)
  replace hHeld : Below w2.heap.size w2 (w4.alloc (.cells #[.slice A n c, .slice (some ⟨g3, 0, none⟩) 1 1] 28)) := hHeld
  clear hK K hszx
  generalize w4.heap.size = g4 at *
  generalize w4.alloc (.cells #[.slice A n c, .slice (some ⟨g3, 0, none⟩) 1 1] 28) = w5 at *
  try simp only [Act.put, List.setIfInBounds_toArray, List.set_cons_zero, List.set_cons_succ]
  refine but_ready (i := 5) (o := ⟨_, _, _, _, _, _⟩) (by kernel_rfl) rfl (fun K hK => ?_)
  go_simp
  go_at_call 66
  refine (concat2_e (fun b => b ≠ g) g4 n 1 c 1 A (some ⟨g3, 0, none⟩) la [(80, zQ)] w5 hql hq0 hq1 HN.out rfl ((HA.out.toK.below (HBW.out.trans ((HB2.out.trans (hHeld.mono HB2.out.size)).mono HBW.out.size))).weaken (HBW.out.trans ((HB2.out.trans (hHeld.mono HB2.out.size)).mono HBW.out.size)).size (fun b hb e => by have := HG.out; omega)) hAM HNM.out (by decide)).mono ?_
  rintro e w6 ⟨v6, rfl, hA6, hb6⟩
  try go_wp2_with fail
  have HA6 := Lib.hid hA6
  obtain ⟨A6, c6, hv6, hA6i⟩ := HA6.out.slice
  obtain ⟨n7, hn7⟩ : ∃ n7, (la ++ [((80 : Int), zQ)]).length = n7 := ⟨_, rfl⟩
  rw [hn7] at hv6
  subst hv6
  have HN7 := Lib.hid (And.intro hn7 hA6i)
  have HL6 := Lib.hid HA6.out.lt
  clear HA6 hn7 hA6i
  have hszx := hHeld.size
  have HZ6 := Lib.hid hszx
  refine hK.out _ _ (hHeld.trans (hb6.mono hszx)) (fun hHeld => ?_)
  clear hK K hszx hA6 hb6 hq0 hq1 hql hAM
  try simp only [Act.put, List.setIfInBounds_toArray, List.set_cons_zero, List.set_cons_succ]
  refine but_take (i := 6) (oi := ⟨_, _, _, _, _, _⟩) (v := ?_) rfl (by kernel_rfl) (by kernel_rfl) (by kernel_rfl) (by kernel_rfl) (fun _ _ _ h => h) (Or.inl ⟨by rfl, ?_⟩) hHeld ?_
  rotate_left 1
  · (intro W hSw; (try dsimp only at hSw); go_simp; try with_reducible rfl)
  try simp only [Act.put, List.setIfInBounds_toArray, List.set_cons_zero, List.set_cons_succ]
  refine but_last (o := ⟨_, _, _, _, _, _⟩) (by kernel_rfl) rfl (by kernel_rfl) (fun K hK => ?_)
  have hP6 := HP.out.below (HB2.out.trans (hHeld.mono HB2.out.size)) HP.out.lt
  have hc18 : w6.cell? ⟨g, 18, none⟩ = some (.slice A n c) := (hP6.cell 18).trans (pkC_last code id Q A n c HQ.out)
  have hf18 := hP6.frozen 18
  go_simp
  refine hK.out _ _ ?_
  clear hK K hc18 hf18
  refine NoPanic.normal ?_
  have hPs := hP6.set_ 18 (.slice A6 n7 c6)
  rw [pkC_set _ _ _ _ _ _ _ _ _ HQ.out] at hPs
  have hA7 := HN7.out.2.set (g := g) (i := 18) (fun a e => by
    subst e
    have h1 := (HL6.out a.block rfl).1
    have h2 := HP.out.lt
    have h3 := HB2.out.size
    have h4 := HZ6.out
    omega) (fun b h => h) (.slice A6 n7 c6)
  have HB7 := Lib.hid ((HBW.out.trans ((HB2.out.trans (hHeld.mono HB2.out.size)).mono HBW.out.size)).setCell (p := ⟨g, 18, none⟩) HG.out (.slice A6 n7 c6))
  have HA7 := Lib.hid (And.intro HN7.out.1 hA7.toIn)
  clear hP6 hHeld hA7 HN7 HL6 HZ6
  generalize w6.setCell ⟨g, 18, none⟩ (.slice A6 n7 c6) = w7 at *
  go_upto_region 5 with (first
    | ((with_reducible refine (?_ : wpList _ _ _ (Oper.mk (some 20) _ _ _ _ _ :: _) _ _)); go_loud (refine wpList_load_blk rfl 30 (.tmp 2) rfl g rfl _ _ _ (hPs) Tryd.underlying30 rfl (infPk.trans (by rw [pkC_length _ _ _ _ _ _ HQ.out])) ?_))
    | (go_at_call 13; refine (HWR.out _ _ _ _ HA7.out.1 HA7.out.2).mono ?_; rintro e w8 ⟨A8, n8, c8, rfl, hB8, hb8⟩))
  have HB8 := Lib.hid (HB7.out.trans (hb8.mono HB7.out.size))
  have HV8 := Lib.hid hB8
  clear hPs hB8 hb8
  have HL8 := Lib.hid (show V.length = n8 from HV8.out.1)
  obtain ⟨gB, hgB, hgB1, hgB2, _⟩ := HV8.out.at (by have := HL8.out; have := HX.out.2.2; omega)
  subst hgB
  have HGB := Lib.hid (And.intro hgB1 hgB2)
  clear hgB1 hgB2
  go_upto_region 8 with (first
    | (go_at_call 68; refine (qmacB_one (gp := w8.heap.size) (m := V) (x := M) ((HS.out.2.1.up HB8.out).up ((Below.refl w8.heap.size w8).alloc (Nat.le_refl _) _)) HS.out.1 ((HV8.out.toIn (Nat.le_refl _)).up ((Below.refl w8.heap.size w8).alloc (Nat.le_refl _) _)) HL8.out ((Blk.new_of w8 _ #[.slice (some ⟨gB, 0, none⟩) n8 c8] [.slice (some ⟨gB, 0, none⟩) n8 c8] rfl).cell 0) HS.out.2.2.2 (by have := HL8.out; have := HX.out.2.2; omega) HX.out.2.1 ((HS.out.2.2.1.below HB8.out).below ((Below.refl w8.heap.size w8).alloc (Nat.le_refl _) _))).mono ?_; rintro e w9 ⟨rfl, hb9⟩; have h8a := ((Below.refl w8.heap.size w8).alloc (Nat.le_refl _) (.cells #[.slice (some ⟨gB, 0, none⟩) n8 c8] 26)); have h89 := h8a.trans (hb9.mono h8a.size))
    | ((with_reducible refine (?_ : wpList _ _ _ (Oper.mk none _ _ _ _ _ :: _) _ _)); go_loud (refine wpList_store_blk rfl 22 (.tmp 8) (.tmp 30) rfl rfl w9.heap.size (M.map B8) rfl rfl _ _ (Blk.new_of w9 22 #[.int .u8 0, .int .u8 0, .int .u8 0, .int .u8 0, .int .u8 0, .int .u8 0, .int .u8 0, .int .u8 0, .int .u8 0, .int .u8 0, .int .u8 0, .int .u8 0, .int .u8 0, .int .u8 0, .int .u8 0, .int .u8 0] (zQ.map B8) rfl) (inf16.trans (by rw [List.length_map, HX.out.1])) (by rw [List.length_map, List.length_map, HX.out.1]; rfl) (one8 _) ?_); intro w10 hS10 hg10))
  have h9a : Below w9.heap.size w9 (w9.alloc (.cells #[.int .u8 0, .int .u8 0, .int .u8 0, .int .u8 0, .int .u8 0, .int .u8 0, .int .u8 0, .int .u8 0, .int .u8 0, .int .u8 0, .int .u8 0, .int .u8 0, .int .u8 0, .int .u8 0, .int .u8 0, .int .u8 0] 22)) := (Below.refl _ _).alloc (Nat.le_refl _) _
  have hb10 : Below w8.heap.size w8 w10 := h89.trans ((below_new h9a hg10 (Nat.le_refl _) h9a.size).mono h89.size)
  have HB10 := Lib.hid (HV8.out.below hb10)
  have HM10 := Lib.hid hS10
  have HBT := Lib.hid (HB8.out.trans (hb10.mono HB8.out.size))
  obtain ⟨o, ho1, ho2⟩ : ∃ o, n8 = o + 16 ∧ 0 < o := ⟨n8 - 16, by have := HL8.out; have := HX.out.2.2; omega, by have := HL8.out; have := HX.out.2.2; omega⟩
  have hcc : n8 ≤ c8 := HV8.out.le.1
  have HO := Lib.hid (show o + 16 ≤ n8 ∧ 16 = n8 - o by omega)
  have e1 : (n8 : Int) - 16 = (o : Int) := by omega
  have e2 : wrap64 (o : Int) = (o : Int) := by have := HL8.out; have := HX.out.2.2; unfold wrap64; omega
  have e2i : IntKind.i64.wrap (o : Int) = (o : Int) := by have := HL8.out; have := HX.out.2.2; rw [IntKind.wrap_i64]; omega
  have e3 : (o : Int) ≤ (n8 : Int) := by omega
  have e4 : (n8 : Int) ≤ (c8 : Int) := by omega
  have e5 : ¬ c8 = o := by omega
  have e6 : n8 - o = 16 := by omega
  have e7 : (0 : Int) ≤ (o : Int) := by omega
  have HO1 := Lib.hid (And.intro ho1 ho2)
  generalize w9.heap.size = g9 at *
  clear h9a hb10 hS10 hg10 h8a h89 hb9 hcc ho1 ho2
  refine wp_region_noPanic ?_
  refine wp_region_held_drew (S := fun _ => True) (by kernel_rfl) (trivial) (fun hHeld => ?_)
  refine wpAnyH_take (i := 0) (oi := ⟨_, _, _, _, _, _⟩) (v := ?_) rfl (by kernel_rfl) (by kernel_rfl) (by kernel_rfl) (fun _ _ _ h => h) (Or.inl ⟨by rfl, ?_⟩) hHeld ?_
  rotate_left 1
  · (intro W hSw; (try dsimp only at hSw); go_simp; try with_reducible rfl)
  try simp only [Act.put, List.setIfInBounds_toArray, List.set_cons_zero, List.set_cons_succ]
  refine wpAnyH_take (i := 1) (oi := ⟨_, _, _, _, _, _⟩) (v := ?_) rfl (by kernel_rfl) (by kernel_rfl) (by kernel_rfl) (fun _ _ _ h => h) (Or.inl ⟨by rfl, ?_⟩) hHeld ?_
  rotate_left 1
  · (intro W hSw; (try dsimp only at hSw); go_simp; try with_reducible rfl)
  try simp only [Act.put, List.setIfInBounds_toArray, List.set_cons_zero, List.set_cons_succ]
  refine wpAnyH_take (i := 2) (oi := ⟨_, _, _, _, _, _⟩) (v := ?_) rfl (by kernel_rfl) (by kernel_rfl) (by kernel_rfl) (fun _ _ _ h => h) (Or.inl ⟨by rfl, ?_⟩) hHeld ?_
  rotate_left 1
  · (intro W hSw; (try dsimp only at hSw); go_simp; try with_reducible rfl)
  try simp only [Act.put, List.setIfInBounds_toArray, List.set_cons_zero, List.set_cons_succ]
  refine wpAnyH_take (i := 3) (oi := ⟨_, _, _, _, _, _⟩) (v := ?_) rfl (by kernel_rfl) (by kernel_rfl) (by kernel_rfl) (fun _ _ _ h => h) (Or.inl ⟨by rfl, ?_⟩) hHeld ?_
  rotate_left 1
  · (intro W hSw; (try dsimp only at hSw); go_simp; try with_reducible rfl)
  try simp only [Act.put, List.setIfInBounds_toArray, List.set_cons_zero, List.set_cons_succ]
  refine wpAnyH_take (i := 4) (oi := ⟨_, _, _, _, _, _⟩) (v := .slice (some ⟨gB, o, none⟩) 16 (c8 - o)) rfl (by kernel_rfl) (by kernel_rfl) (by kernel_rfl) (fun _ _ _ h => h) (Or.inl ⟨by rfl, ?_⟩) hHeld ?_
  · (intro W hSw; go_simp)
  try simp only [Act.put, List.setIfInBounds_toArray, List.set_cons_zero, List.set_cons_succ]
  refine wpAnyH_take (i := 5) (oi := ⟨_, _, _, _, _, _⟩) (v := ?_) rfl (by kernel_rfl) (by kernel_rfl) (by kernel_rfl) (fun _ _ _ h => h) (Or.inl ⟨by rfl, ?_⟩) hHeld ?_
  rotate_left 1
  · (intro W hSw; (try dsimp only at hSw); go_simp; try with_reducible rfl)
  try simp only [Act.put, List.setIfInBounds_toArray, List.set_cons_zero, List.set_cons_succ]
  have hHd : Below w10.heap.size w10 w10.drew := below_drewN (Below.refl _ _) 1
  have hBd := HB10.out.below hHd
  have hMd := HM10.out.below hHd HM10.out.lt
  have hHD := HBT.out.trans (hHd.mono HBT.out.size)
  have hgd := grown_setCells w10.drew gB o (M.map B8)
  clear hHd
  generalize w10.drew = wd at *
  refine wpAnyH_ready (rs := [6]) (by kernel_rfl) (by simp) ?_
  refine AllReadyH.cons (o := ⟨_, _, _, _, _, _⟩) rfl (fun K hK => ?_) AllReadyH.nil
  rw [if_pos (by simp [Region.wanted])]
  have hcp := fun ty => run_copy_buf (ty := ty) (dc := c8 - o) (sc := 16) hBd (by rw [HX.out.1]; exact HO.out.1) 16 HO.out.2 hMd
  rw [HX.out.1] at hcp
  refine wp_copyR wd (.tmp 35) (.tmp 36) 26 26 rfl _ _ rfl rfl (hcp _) ?_
  refine hK.out _ _ trivial (fun hHeld => ?_)
  clear hK K hcp
  try simp only [Act.put, List.setIfInBounds_toArray, List.set_cons_zero, List.set_cons_succ]
  refine wpAnyH_done (by kernel_rfl) ?_ _
  refine NoPanic.normal ?_
  go_wp2
  go_ret2
  have hfin := hBd.setCells (o := o) (xs := M) (by rw [HX.out.1]; exact HO.out.1)
  refine ⟨_, _, _, by rw [HE.out] <;> rfl, ?_, below_new hHD hgd (Nat.le_trans HB7.out.size HGB.out.1) hHD.size⟩
  rw [HE.out]
  have e8 : V.take (V.length - 16) ++ M = V.take o ++ (M ++ V.drop (o + M.length)) := by
    have h1 := HL8.out
    have h2 := HO1.out.1
    rw [HX.out.1, List.drop_of_length_le (by omega), List.append_nil, show V.length - 16 = o by omega]
  show Buf _ _ _ _ _ (V.take (V.length - 16) ++ M)
  rw [e8]
  exact hfin.base HB7.out.size
theorem marked_e (c n ls cs : Nat) (code id : Int) (Q : List UInt8) (A As : Option Addr) (la : Attrs) (sec : List UInt8) (w : World) (hQ : Q.length = 16) (hn : la.length = n) (hA : AIn w w.heap.size A c la) (hls : sec.length = ls) (is : In w w.heap.size As cs sec) (ht : TabsQ w) (hm : n ≤ 400000) (hm2 : ls ≤ 1000000) :
    Calls Tryd.prog 49 #[.agg (pkC code id Q A n c).toArray, .slice As ls cs] w (WrapPost (markE code id Q la sec) w) := by
  by_cases h : hasMark la = true
  · exact marked_has c n ls cs code id Q A As la sec w hQ hn hA hls is ht hm hm2 h
  · have h : hasMark la = false := by simpa using h
    by_cases hp : pkOK code id (la ++ [(80, zQ)]) = true
    · exact marked_ok c n ls cs code id Q A As la sec w hQ hn hA hls is ht hm hm2 h hp
    · exact marked_bad c n ls cs code id Q A As la sec w hQ hn hA hls is ht hm hm2 h (by simpa using hp)
/-- What Seal tells. -/
def sealE (code id : Int) (Q : List UInt8) (la : Attrs) (sec : List UInt8) : List UInt8 × Nat := if code = 1 then markE code id Q la sec else ([], 1)
set_option maxRecDepth 100000 in
set_option maxHeartbeats 1000000 in
theorem seal_e (c n ls cs : Nat) (code id : Int) (Q : List UInt8) (A As : Option Addr) (la : Attrs) (sec : List UInt8) (w : World) (hQ : Q.length = 16) (hn : la.length = n) (hA : AIn w w.heap.size A c la) (hls : sec.length = ls) (is : In w w.heap.size As cs sec) (ht : TabsQ w) (hm : n ≤ 400000) (hm2 : ls ≤ 1000000) :
    Calls Tryd.prog 20 #[.agg (pkC code id Q A n c).toArray, .slice As ls cs] w (WrapPost (sealE code id Q la sec) w) := by
  have HQ := Lib.hid hQ
  have HMK := Lib.hid (fun (W : World) (hb : Below w.heap.size w W) => marked_e c n ls cs code id Q A As la sec W hQ hn (hA.up hb) hls (is.up hb) (ht.below hb) hm hm2)
  clear hQ hn hA hls is ht hm hm2
  by_cases h1 : code = 1
  · subst h1
    have HZ := Lib.hid (show sealE 1 id Q la sec = markE 1 id Q la sec from rfl)
    go_enter Tryd.func20, Tryd.ntmps20
    go_upto_region 1 with (fail)
    have hP := Blk.new_of w 30 (pkC 1 id Q A n c).toArray (pkC 1 id Q A n c) rfl
    have hb0 : Below w.heap.size w (w.alloc (.cells (pkC 1 id Q A n c).toArray 30)) := (Below.refl _ _).alloc (Nat.le_refl _) _
    obtain ⟨g, hg⟩ : ∃ g, g = w.heap.size := ⟨_, rfl⟩
    have HG := Lib.hid (show w.heap.size ≤ g by rw [hg]; exact Nat.le_refl _)
    rw [← hg] at hP
    simp only [← hg]
    have HP := Lib.hid hP
    have HBW := Lib.hid hb0
    clear hg hP hb0
    generalize w.alloc (.cells (pkC 1 id Q A n c).toArray 30) = w1 at *
    have hc0 : w1.cell? ⟨g, 0, none⟩ = some (.int .i64 1) := HP.out.cell 0
    have hP1 := HP.out
    go_wp2_with (first
      | ((with_reducible refine (?_ : wpList _ _ _ (Oper.mk (some 9) _ _ _ _ _ :: _) _ _)); go_loud (refine wpList_load_blk rfl 30 (.tmp 2) rfl g rfl _ _ _ (hP1) Tryd.underlying30 rfl (infPk.trans (by rw [pkC_length _ _ _ _ _ _ HQ.out])) ?_))
      | (go_at_call 49; refine (HMK.out _ HBW.out).mono ?_; rintro e w2 ⟨A2, n2, c2, rfl, hB2, hb2⟩))
    go_ret2
    exact ⟨A2, n2, c2, by rw [HZ.out] <;> rfl, by rw [HZ.out]; exact hB2.base HBW.out.size, HBW.out.trans (hb2.mono HBW.out.size)⟩
  · have HZ := Lib.hid (show sealE code id Q la sec = ([], 1) by unfold sealE; rw [if_neg h1])
    go_enter Tryd.func20, Tryd.ntmps20
    go_upto_region 1 with (fail)
    have hP := Blk.new_of w 30 (pkC code id Q A n c).toArray (pkC code id Q A n c) rfl
    have hb0 : Below w.heap.size w (w.alloc (.cells (pkC code id Q A n c).toArray 30)) := (Below.refl _ _).alloc (Nat.le_refl _) _
    obtain ⟨g, hg⟩ : ∃ g, g = w.heap.size := ⟨_, rfl⟩
    have HG := Lib.hid (show w.heap.size ≤ g by rw [hg]; exact Nat.le_refl _)
    rw [← hg] at hP
    simp only [← hg]
    have HP := Lib.hid hP
    have HBW := Lib.hid hb0
    clear hg hP hb0
    generalize w.alloc (.cells (pkC code id Q A n c).toArray 30) = w1 at *
    have hc0 : w1.cell? ⟨g, 0, none⟩ = some (.int .i64 code) := HP.out.cell 0
    go_wp2
    go_ret2
    exact ⟨none, 0, 0, by rw [HZ.out] <;> rfl, by rw [HZ.out]; exact Buf.nil _ _, HBW.out⟩
end Go.Proofs.YtbomckbekcaemaaDoor
