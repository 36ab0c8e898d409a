/-
  The contract of package radius's whole.
-/
import Derived.Test.YtbomckbekcaemaaDoorRdb
namespace Go.Proofs.YtbomckbekcaemaaDoor
open Go.RowKit

/-- How a packet lies. -/
def pkC (code id : Int) (Q : List UInt8) (A : Option Addr) (n c : Nat) : List Value := .int .i64 code :: .int .i64 id :: (Q.map B8 ++ [.slice A n c])
def by8 (x : Int) : UInt8 := UInt8.ofNat x.toNat
theorem by8_wrap {x : Int} (h : 0 ≤ x ∧ x ≤ 255) : IntKind.u8.wrap x = ((by8 x).toNat : Int) := by
  unfold by8; rw [ofNat_toNat _ (by omega), IntKind.wrap_u8]; omega
def attrB (a : Int × List UInt8) : List UInt8 := [by8 a.1, by8 (2 + (a.2.length : Int))] ++ a.2
theorem own_lt {w : World} {base n c x : Nat} {A : Option Addr} {bs : List UInt8} (h : Buf w base A n c bs) (e : ownOf A = some x) : x < w.heap.size := by
  rcases h.2 with ⟨rfl, _⟩ | ⟨q, rfl, _, h2, _⟩
  · cases e
  · simp only [ownOf, Option.some.injEq] at e; subst e; exact h2
theorem attr_of_all {la : Attrs} {k : Nat} (h : attrsOK la = true) (hk : k < la.length) : attrOK (la.getD k (0, [])) = true := by
  unfold attrsOK at h
  rw [Bool.and_eq_true] at h
  exact List.all_eq_true.1 h.1 _ (by rw [List.getD_eq_getElem?_getD, List.getElem?_eq_getElem hk]; exact List.getElem_mem hk)
theorem ix_attr {kd : Int} {v : List UInt8} {vl : Nat} {x y : UInt8} (h : attrOK (kd, v) = true) (hv : vl = v.length) (hx : x = by8 kd) (hy : y = by8 (2 + (vl : Int))) :
    ∃ t : Nat, (2 : Int) + (vl : Int) = (t : Int) ∧ wrap64 (t : Int) = (t : Int) ∧ IntKind.u8.wrap (t : Int) = (y.toNat : Int) ∧ IntKind.u8.wrap kd = (x.toNat : Int) ∧ vl ≤ 253 := by
  unfold attrOK at h
  simp at h
  refine ⟨2 + vl, by omega, by unfold wrap64; omega, ?_, by rw [hx]; exact by8_wrap (by omega), by omega⟩
  rw [hy, ← by8_wrap (by omega)]; congr 1
theorem ix_a1 {m : Nat} {x y : UInt8} (h : m ≤ 4096) : m + [x, y].length ≤ 1099511627776 := by simp; omega
theorem ix_a2 {v : List UInt8} {vl m : Nat} {P : Prop} (h : v.length = vl ∧ P ∧ vl ≤ 253 ∧ m ≤ 4096) : m + 2 + v.length ≤ 1099511627776 := by omega
def flatA (la : Attrs) : List UInt8 := (la.map attrB).flatten
/-- A packet's bytes. -/
def pkB (code id : Int) (Q : List UInt8) (la : Attrs) : List UInt8 :=
  [by8 code, by8 id, by8 ((20 + sizeA la) / 256 : Nat), by8 ((20 + sizeA la) % 256 : Nat)] ++ Q ++ flatA la
theorem attrB_length (a : Int × List UInt8) : (attrB a).length = 2 + a.2.length := by unfold attrB; simp; omega
theorem flatA_length (la : Attrs) : (flatA la).length = sizeA la := by
  unfold flatA sizeA
  induction la with
  | nil => rfl
  | cons a la ih => simp only [List.map_cons, List.flatten_cons, List.length_append, List.sum_cons, ih, attrB_length]
theorem flatA_snoc (la : Attrs) (a : Int × List UInt8) : flatA (la ++ [a]) = flatA la ++ attrB a := by unfold flatA; simp
theorem whole_most {la : Attrs} {k m : Nat} {xc xi : UInt8} {Q : List UInt8} (h : attrsOK la = true) (hQ : Q.length = 16) (hm : (([xc, xi, 0, 0] ++ Q) ++ flatA (la.take k)).length = m) : m ≤ 4096 := by
  unfold attrsOK at h
  simp at h
  have := sizeA_take la k
  rw [List.length_append, List.length_append, hQ, flatA_length] at hm
  simp at hm
  omega
theorem whole_fit {la : Attrs} (h : attrsOK la = true) : sizeA la ≤ 4076 := by
  unfold attrsOK at h
  simp at h
  exact h.2
theorem buf_at {w : World} {base g n c j : Nat} {bs : List UInt8} (h : Buf w base (some ⟨g, 0, none⟩) n c bs) (hj : j < n) : w.cell? ⟨g, j, none⟩ = some (B8 (bs.getD j 0)) ∧ w.frozen? ⟨g, j, none⟩ = false := by
  rcases h.2 with ⟨_, hn, _⟩ | ⟨k, e, _, _, hnc, _, hby, hfr⟩
  · omega
  · cases e
    refine ⟨?_, (hfr j (by omega)).2⟩
    have := hby j (by rw [h.1]; exact hj)
    rwa [Nat.zero_add] at this
theorem ix_m (m : Nat) (h : 20 ≤ m) (h2 : m ≤ 4096) : (2 : Int) < (m : Int) ∧ (3 : Int) < (m : Int) ∧ wrap64 (m : Int) = (m : Int) := by
  refine ⟨by omega, by omega, by unfold wrap64; omega⟩
theorem ix_hi {m : Nat} (h : m ≤ 4096) : (m : Int) / 256 % 256 = ((by8 ((m / 256 : Nat) : Int)).toNat : Int) := by
  unfold by8; rw [ofNat_toNat _ (by omega)]; omega
theorem ix_lo {m : Nat} : (m : Int) % 256 = ((by8 ((m % 256 : Nat) : Int)).toNat : Int) := by
  unfold by8; rw [ofNat_toNat _ (by omega)]; omega
theorem pkC_last (code id : Int) (Q : List UInt8) (A : Option Addr) (n c : Nat) (hQ : Q.length = 16) : (pkC code id Q A n c)[18]? = some (.slice A n c) := by
  unfold pkC; simp [hQ]
theorem pkC_length (code id : Int) (Q : List UInt8) (A : Option Addr) (n c : Nat) (hQ : Q.length = 16) : (pkC code id Q A n c).length = 19 := by unfold pkC; simp [hQ]
theorem in_auth {w : World} {g n c : Nat} {t : TypeId} {code id : Int} {Q : List UInt8} {A : Option Addr} (h : Blk w g t (pkC code id Q A n c)) (hQ : Q.length = 16) : In w w.heap.size (some ⟨g, 2, none⟩) 16 Q :=
  ⟨by omega, by decide, fun _ => ⟨g, 2, rfl, h.lt, fun j hj => by
    rw [h.cell]
    show (.int .i64 code :: .int .i64 id :: (Q.map B8 ++ [Value.slice A n c]))[2 + j]? = _
    rw [show 2 + j = (j + 1) + 1 by omega, List.getElem?_cons_succ, List.getElem?_cons_succ, List.getElem?_append_left (by simpa using hj), List.getElem?_map, List.getElem?_eq_getElem hj, List.getD_eq_getElem?_getD, List.getElem?_eq_getElem hj]; rfl⟩⟩
set_option maxRecDepth 100000 in
set_option maxHeartbeats 1000000 in
theorem whole_r (g c n : Nat) (code id : Int) (Q : List UInt8) (A : Option Addr) (la : Attrs) (w : World) (hP : Blk w g 30 (pkC code id Q A n c)) (hQ : Q.length = 16) (hc : 0 ≤ code ∧ code ≤ 255) (hi : 0 ≤ id ∧ id ≤ 255) (hn : la.length = n) (hA : AIn w w.heap.size A c la) (hok : attrsOK la = true) :
    Calls Tryd.prog 45 #[.pointer (some ⟨g, 0, none⟩)] w fun e w' => ∃ A' c', e = .returned (.slice A' (20 + sizeA la) c') ∧ Buf w' w.heap.size A' (20 + sizeA la) c' (pkB code id Q la) ∧ Below w.heap.size w w' := by
  obtain ⟨xc, hxc⟩ : ∃ xc, xc = by8 code := ⟨_, rfl⟩
  obtain ⟨xi, hxi⟩ : ∃ xi, xi = by8 id := ⟨_, rfl⟩
  have hwc : IntKind.u8.wrap code = (xc.toNat : Int) := by rw [hxc]; exact by8_wrap hc
  have hwi : IntKind.u8.wrap id = (xi.toNat : Int) := by rw [hxi]; exact by8_wrap hi
  have HC0 := Lib.hid (fun (W : World) (h : Below w.heap.size w W) => (show W.cell? ⟨g, 0, none⟩ = some (.int .i64 code) from (hP.below h hP.lt).cell 0))
  have HC1 := Lib.hid (fun (W : World) (h : Below w.heap.size w W) => (show W.cell? ⟨g, 1, none⟩ = some (.int .i64 id) from (hP.below h hP.lt).cell 1))
  have HC18 := Lib.hid (fun (W : World) (h : Below w.heap.size w W) => (show W.cell? ⟨g, 18, none⟩ = some (.slice A n c) from ((hP.below h hP.lt).cell 18).trans (pkC_last code id Q A n c hQ)))
  have HQI := Lib.hid (in_auth hP hQ)
  have HQ := Lib.hid hQ
  have HN := Lib.hid hn
  have HA := Lib.hid hA
  have HOK := Lib.hid hok
  have HX := Lib.hid (And.intro hxc hxi)
  have hmc : n ≤ c := by rw [← hn]; exact hA.1
  have hmc1 : (n : Int) ≤ (c : Int) := Int.ofNat_le.2 hmc
  have HNM := Lib.hid (Nat.le_trans hmc hA.2.1)
  clear hP hQ hc hi hn hA hok hxc hxi hmc
  go_enter Tryd.func45, Tryd.ntmps45
  go_upto_region 1 with (fail)
  refine wp_region_noPanic ?_
  refine wp_region_held_drew (S := fun W => Below w.heap.size w W) (by kernel_rfl) (by exact below_drewN (Below.refl _ _) 1) (fun hHeld => ?_)
  refine wpAnyH_take (i := 0) (oi := ⟨_, _, _, _, _, _⟩) (v := ?_) rfl (by kernel_rfl) (by kernel_rfl) (by kernel_rfl) (fun _ _ _ h => h) (Or.inl ⟨by rfl, ?_⟩) hHeld ?_
  rotate_left 1
  · (intro W hSw; (try dsimp only at hSw); go_simp; try with_reducible rfl)
  try simp only [Act.put, List.setIfInBounds_toArray, List.set_cons_zero, List.set_cons_succ]
  refine wpAnyH_take (i := 1) (oi := ⟨_, _, _, _, _, _⟩) (v := ?_) rfl (by kernel_rfl) (by kernel_rfl) (by kernel_rfl) (fun _ _ _ h => h) (Or.inl ⟨by rfl, ?_⟩) hHeld ?_
  rotate_left 1
  · (intro W hSw; (try dsimp only at hSw); go_simp; try with_reducible rfl)
  try simp only [Act.put, List.setIfInBounds_toArray, List.set_cons_zero, List.set_cons_succ]
  refine wpAnyH_take (i := 2) (oi := ⟨_, _, _, _, _, _⟩) (v := ?_) rfl (by kernel_rfl) (by kernel_rfl) (by kernel_rfl) (fun _ _ _ h => h) (Or.inl ⟨by rfl, ?_⟩) hHeld ?_
  rotate_left 1
  · (intro W hSw; (try dsimp only at hSw); go_simp; try with_reducible rfl)
  try simp only [Act.put, List.setIfInBounds_toArray, List.set_cons_zero, List.set_cons_succ]
  refine wpAnyH_take (i := 3) (oi := ⟨_, _, _, _, _, _⟩) (v := ?_) rfl (by kernel_rfl) (by kernel_rfl) (by kernel_rfl) (fun _ _ _ h => h) (Or.inl ⟨by rfl, ?_⟩) hHeld ?_
  rotate_left 1
  · (intro W hSw; (try dsimp only at hSw); have hcc := HC0.out W hSw; go_simp; try with_reducible rfl)
  try simp only [Act.put, List.setIfInBounds_toArray, List.set_cons_zero, List.set_cons_succ]
  refine wpAnyH_take (i := 4) (oi := ⟨_, _, _, _, _, _⟩) (v := ?_) rfl (by kernel_rfl) (by kernel_rfl) (by kernel_rfl) (fun _ _ _ h => h) (Or.inl ⟨by rfl, ?_⟩) hHeld ?_
  rotate_left 1
  · (intro W hSw; (try dsimp only at hSw); go_simp; try with_reducible rfl)
  try simp only [Act.put, List.setIfInBounds_toArray, List.set_cons_zero, List.set_cons_succ]
  refine wpAnyH_take (i := 5) (oi := ⟨_, _, _, _, _, _⟩) (v := ?_) rfl (by kernel_rfl) (by kernel_rfl) (by kernel_rfl) (fun _ _ _ h => h) (Or.inl ⟨by rfl, ?_⟩) hHeld ?_
  rotate_left 1
  · (intro W hSw; (try dsimp only at hSw); go_simp; try with_reducible rfl)
  try simp only [Act.put, List.setIfInBounds_toArray, List.set_cons_zero, List.set_cons_succ]
  refine wpAnyH_take (i := 6) (oi := ⟨_, _, _, _, _, _⟩) (v := ?_) rfl (by kernel_rfl) (by kernel_rfl) (by kernel_rfl) (fun _ _ _ h => h) (Or.inl ⟨by rfl, ?_⟩) hHeld ?_
  rotate_left 1
  · (intro W hSw; (try dsimp only at hSw); go_simp; try with_reducible rfl)
  try simp only [Act.put, List.setIfInBounds_toArray, List.set_cons_zero, List.set_cons_succ]
  refine wpAnyH_take (i := 7) (oi := ⟨_, _, _, _, _, _⟩) (v := ?_) rfl (by kernel_rfl) (by kernel_rfl) (by kernel_rfl) (fun _ _ _ h => h) (Or.inl ⟨by rfl, ?_⟩) hHeld ?_
  rotate_left 1
  · (intro W hSw; (try dsimp only at hSw); go_simp; try with_reducible rfl)
  try simp only [Act.put, List.setIfInBounds_toArray, List.set_cons_zero, List.set_cons_succ]
  refine wpAnyH_take (i := 8) (oi := ⟨_, _, _, _, _, _⟩) (v := ?_) rfl (by kernel_rfl) (by kernel_rfl) (by kernel_rfl) (fun _ _ _ h => h) (Or.inl ⟨by rfl, ?_⟩) hHeld ?_
  rotate_left 1
  · (intro W hSw; (try dsimp only at hSw); have hcc := HC1.out W hSw; go_simp; try with_reducible rfl)
  try simp only [Act.put, List.setIfInBounds_toArray, List.set_cons_zero, List.set_cons_succ]
  refine wpAnyH_take (i := 9) (oi := ⟨_, _, _, _, _, _⟩) (v := ?_) rfl (by kernel_rfl) (by kernel_rfl) (by kernel_rfl) (fun _ _ _ h => h) (Or.inl ⟨by rfl, ?_⟩) hHeld ?_
  rotate_left 1
  · (intro W hSw; (try dsimp only at hSw); go_simp; try with_reducible rfl)
  try simp only [Act.put, List.setIfInBounds_toArray, List.set_cons_zero, List.set_cons_succ]
  refine wpAnyH_take (i := 11) (oi := ⟨_, _, _, _, _, _⟩) (v := ?_) rfl (by kernel_rfl) (by kernel_rfl) (by kernel_rfl) (fun _ _ _ h => h) (Or.inl ⟨by rfl, ?_⟩) hHeld ?_
  rotate_left 1
  · (intro W hSw; (try dsimp only at hSw); go_simp; try with_reducible rfl)
  try simp only [Act.put, List.setIfInBounds_toArray, List.set_cons_zero, List.set_cons_succ]
  refine wpAnyH_take (i := 12) (oi := ⟨_, _, _, _, _, _⟩) (v := ?_) rfl (by kernel_rfl) (by kernel_rfl) (by kernel_rfl) (fun _ _ _ h => h) (Or.inl ⟨by rfl, ?_⟩) hHeld ?_
  rotate_left 1
  · (intro W hSw; (try dsimp only at hSw); go_simp; try with_reducible rfl)
  try simp only [Act.put, List.setIfInBounds_toArray, List.set_cons_zero, List.set_cons_succ]
  refine wpAnyH_take (i := 13) (oi := ⟨_, _, _, _, _, _⟩) (v := ?_) rfl (by kernel_rfl) (by kernel_rfl) (by kernel_rfl) (fun _ _ _ h => h) (Or.inl ⟨by rfl, ?_⟩) hHeld ?_
  rotate_left 1
  · (intro W hSw; (try dsimp only at hSw); go_simp; try with_reducible rfl)
  try simp only [Act.put, List.setIfInBounds_toArray, List.set_cons_zero, List.set_cons_succ]
  refine wpAnyH_take (i := 14) (oi := ⟨_, _, _, _, _, _⟩) (v := ?_) rfl (by kernel_rfl) (by kernel_rfl) (by kernel_rfl) (fun _ _ _ h => h) (Or.inl ⟨by rfl, ?_⟩) hHeld ?_
  rotate_left 1
  · (intro W hSw; (try dsimp only at hSw); go_simp; try with_reducible rfl)
  try simp only [Act.put, List.setIfInBounds_toArray, List.set_cons_zero, List.set_cons_succ]
  replace hHeld : Below w.heap.size w w.drew := hHeld
  generalize w.drew = wd at *
  refine wpAnyH_ready (rs := [10]) (by kernel_rfl) (by simp) ?_
  refine AllReadyH.cons (o := ⟨_, _, _, _, _, _⟩) rfl (fun K hK => ?_) AllReadyH.nil
  go_simp
  have hz := hHeld.size
  refine hK.out _ _ (hHeld.alloc hz _) (fun hHeld => ?_)
  clear hK K
  replace hHeld : Below w.heap.size w (wd.alloc (.cells #[.int .u8 (xc.toNat : Int), .int .u8 (xi.toNat : Int), .int .u8 0, .int .u8 0] 5)) := hHeld
  have HB0 := Lib.hid (And.intro (show Buf (wd.alloc (.cells #[.int .u8 (xc.toNat : Int), .int .u8 (xi.toNat : Int), .int .u8 0, .int .u8 0] 5)) wd.heap.size (some ⟨wd.heap.size, 0, none⟩) 4 4 [xc, xi, 0, 0] from buf_lit wd [xc, xi, 0, 0] 4 5 rfl (by decide)) (And.intro (show wd.heap.size ≤ (wd.alloc (.cells #[.int .u8 (xc.toNat : Int), .int .u8 (xi.toNat : Int), .int .u8 0, .int .u8 0] 5)).heap.size by simp) hz))
  generalize wd.alloc (.cells #[.int .u8 (xc.toNat : Int), .int .u8 (xi.toNat : Int), .int .u8 0, .int .u8 0] 5) = wa at *
  generalize wd.heap.size = g0 at *
  clear hz
  try simp only [Act.put, List.setIfInBounds_toArray, List.set_cons_zero, List.set_cons_succ]
  refine wpAnyH_ready (rs := [15]) (by kernel_rfl) (by simp) ?_
  refine AllReadyH.cons (o := ⟨_, _, _, _, _, _⟩) rfl (fun K hK => ?_) AllReadyH.nil
  refine step_append_far (by rfl) (.tmp 16) (.tmp 20) 26 rfl g0 _ 4 4 [xc, xi, 0, 0] Q _ rfl HB0.out.1 rfl (src_at ((HQI.out.up hHeld).src (Nat.le_refl _)) HQ.out) (by rw [HQ.out]; decide) HB0.out.2.1 20 (by rw [HQ.out]) ?_
  intro A1 c1 wc hB1 hg1 _
  refine hK.out _ _ (below_own hHeld HB0.out.1 hg1 HB0.out.2.2 hHeld.size) (fun hHeld => ?_)
  clear hK K hg1
  replace hHeld : Below w.heap.size w wc := hHeld
  try simp only [Act.put, List.setIfInBounds_toArray, List.set_cons_zero, List.set_cons_succ]
  refine wpAnyH_take (i := 16) (oi := ⟨_, _, _, _, _, _⟩) (v := ?_) rfl (by kernel_rfl) (by kernel_rfl) (by kernel_rfl) (fun _ _ _ h => h) (Or.inl ⟨by rfl, ?_⟩) hHeld ?_
  rotate_left 1
  · (intro W hSw; (try dsimp only at hSw); go_simp; try with_reducible rfl)
  try simp only [Act.put, List.setIfInBounds_toArray, List.set_cons_zero, List.set_cons_succ]
  refine wpAnyH_done (by kernel_rfl) ?_ _
  refine NoPanic.normal ?_
  have HB1 := Lib.hid (hB1.base HB0.out.2.2)
  have HBW := Lib.hid hHeld
  have hc18 := HC18.out wc hHeld
  clear hB1 hHeld HB0 hwc hwi
  go_wp2
  go_loopw [27, 3] (fun i r wr => ∃ (k m : Nat) (A' : Option Addr) (c' : Nat), k ≤ n ∧ i = .int .i64 (k : Int) ∧ r = .slice A' m c' ∧ Buf wr w.heap.size A' m c' (([xc, xi, 0, 0] ++ Q) ++ flatA (la.take k)) ∧ Below w.heap.size w wr) (fun i _ _ => n - (intOf i).toNat)
  case atStart => exact ⟨0, 20, A1, c1, Nat.zero_le _, rfl, rfl, by rw [List.take_zero, show flatA [] = [] from rfl, List.append_nil]; exact HB1.out, HBW.out⟩
  case round =>
    obtain ⟨k, m, A', c', hk, rfl, rfl, hB, hbr⟩ := hrel
    by_cases hlt : k < n
    · have hd : decide (k < n) = true := by simpa using hlt
      have hkr : k < la.length := by rw [HN.out]; exact hlt
      obtain ⟨gp, op, hAe, hgp, hrow⟩ := HA.out.2.2 (Nat.lt_of_le_of_lt (Nat.zero_le _) hkr)
      obtain ⟨Aj, cj, h1, h2, h3⟩ := hrow k hkr
      have haok := attr_of_all HOK.out hkr
      obtain ⟨kd, v, hkv⟩ : ∃ kd v, la.getD k (0, []) = (kd, v) := ⟨_, _, rfl⟩
      rw [hkv] at h1 h2 h3 haok
      obtain ⟨x, hx⟩ : ∃ x, x = by8 kd := ⟨_, rfl⟩
      obtain ⟨vl, hvl⟩ : ∃ vl, vl = v.length := ⟨_, rfl⟩
      obtain ⟨y, hy⟩ : ∃ y, y = by8 (2 + (vl : Int)) := ⟨_, rfl⟩
      obtain ⟨tt, ht1, ht2, ht3, ht4, hvl9⟩ := ix_attr haok hvl hx hy
      have hF : flatA (la.take (k + 1)) = flatA (la.take k) ++ ([x, y] ++ v) := by rw [take_snocA la k hkr, flatA_snoc, hkv, hx, hy, hvl]; rfl
      have hm9 : m ≤ 4096 := whole_most HOK.out HQ.out hB.1
      have hc1' : wr.cell? ⟨gp, op + k * 2, none⟩ = some (.int .i64 kd) := (hbr.cell (p := ⟨gp, op + k * 2, none⟩) hgp).trans h1
      have hc2' : wr.cell? ⟨gp, op + k * 2 + 1, none⟩ = some (.slice Aj vl cj) := by rw [hvl]; exact (hbr.cell (p := ⟨gp, op + k * 2 + 1, none⟩) hgp).trans h2
      obtain ⟨hk0, hkn, hkw⟩ := ix_at hlt HNM.out
      obtain ⟨BS, hBS⟩ : ∃ BS, BS = ([xc, xi, 0, 0] ++ Q) ++ flatA (la.take k) := ⟨_, rfl⟩
      rw [← hBS] at hB
      have HBS := Lib.hid hBS
      clear hBS
      have HB := Lib.hid hB
      have HBR := Lib.hid hbr
      have HF := Lib.hid hF
      have HV := Lib.hid (And.intro hvl.symm (And.intro h3 (And.intro hvl9 hm9)))
      have HK := Lib.hid (And.intro hkr hkw)
      subst hAe
      clear hrow h1 h2 h3 haok hkv hvl hx hy hF hm9 hB hbr hgp hkw hk hlt hkr hc18
      go_upto_region 5 with ((with_reducible refine (?_ : wpList _ _ _ (Oper.mk none _ _ _ _ _ :: _) _ _)); go_loud (refine wpList_store_blk rfl 69 (.tmp 5) (.tmp 30) rfl rfl wr.heap.size [.int .i64 kd, .slice Aj vl cj] rfl rfl _ _ (Blk.new_of wr 69 #[.int .i64 0, .slice none 0 0] _ rfl) infA rfl (by simp [Value.oneCell']) ?_); intro w5 hS5 hg5)
      have h4a : Below wr.heap.size wr (wr.alloc (.cells #[.int .i64 0, .slice none 0 0] 69)) := (Below.refl _ _).alloc (Nat.le_refl _) _
      have hb5 : Below wr.heap.size wr w5 := below_new h4a hg5 (Nat.le_refl _) h4a.size
      have hd0 : w5.cell? ⟨wr.heap.size, 0, none⟩ = some (.int .i64 kd) := hS5.cell 0
      have hd1 : w5.cell? ⟨wr.heap.size, 1, none⟩ = some (.slice Aj vl cj) := hS5.cell 1
      have HB5 := Lib.hid (HB.out.below hb5)
      have HW5 := Lib.hid (HBR.out.trans (hb5.mono HBR.out.size))
      have hne : some wr.heap.size ≠ ownOf A' := fun e => Nat.lt_irrefl _ (own_lt HB.out e.symm)
      obtain ⟨g5, hg5e⟩ : ∃ g5, g5 = wr.heap.size := ⟨_, rfl⟩
      rw [← hg5e] at hS5 hd0 hd1 hne ⊢
      have HS5 := Lib.hid (And.intro hS5 hne)
      clear h4a hg5 hS5 hc1' hc2' HB HBR hk0 hkn hd hmc1 hb5 hne hg5e
      go_upto_region 6 with (((with_reducible refine (?_ : wpList _ _ _ (Oper.mk (some 41) _ _ _ _ _ :: _) _ _)); go_loud (refine wpList_append_far rfl (.tmp 31) (.tmp 40) 26 rfl w.heap.size _ m _ BS [x, y] _ rfl (HB5.out.alloc _) rfl (src_at (((buf_lit w5 [x, y] 2 5 rfl (by decide)).toIn (Nat.le_refl _)).src (Nat.le_refl _)) rfl) (ix_a1 HV.out.2.2.2) (Nat.le_trans HW5.out.size (by simp)) (m + 2) rfl ?_); intro A6 c6 w6 hB6 hg6 _))
      have hb6 : Below w.heap.size w w6 := below_own (HW5.out.alloc HW5.out.size _) (HB5.out.alloc _) hg6 (Nat.le_refl _) (Nat.le_trans HW5.out.size (by simp))
      have hS6 := (HS5.out.1.alloc (.cells #[.int .u8 (x.toNat : Int), .int .u8 (y.toNat : Int)] 5)).grown hg6 HS5.out.2
      have hd6 : w6.cell? ⟨g5, 1, none⟩ = some (.slice Aj vl cj) := hS6.cell 1
      have HB6 := Lib.hid hB6
      have HW6 := Lib.hid hb6
      clear hB6 hg6 hb6 hS6 hd0 hd1 HB5 HW5 HS5
      go_upto_region 7 with (((with_reducible refine (?_ : wpList _ _ _ (Oper.mk (some 45) _ _ _ _ _ :: _) _ _)); go_loud (refine wpList_append_far rfl (.tmp 42) (.tmp 44) 26 rfl w.heap.size _ (m + 2) _ (BS ++ [x, y]) v _ rfl HB6.out rfl (src_at ((HV.out.2.1.up HW6.out).src (Nat.le_refl _)) HV.out.1) (ix_a2 HV.out) HW6.out.size (m + 2 + vl) (by rw [HV.out.1]) ?_); intro A7 c7 w7 hB7 hg7 _))
      have HB7 := Lib.hid hB7
      have HW7 := Lib.hid (below_own HW6.out HB6.out hg7 (Nat.le_refl _) HW6.out.size)
      clear hB7 hg7 hd6 HB6 HW6
      go_wp2
      go_roundw
      case rel => exact ⟨k + 1, m + 2 + vl, A7, c7, (by have := HK.out.1; have := HN.out; omega), by rw [HK.out.2], rfl, by rw [HF.out, ← List.append_assoc, ← List.append_assoc, ← HBS.out]; exact HB7.out, HW7.out⟩
      case measure => exact ix_meas2 HK.out.1 HN.out HNM.out
    · have hd : decide (k < n) = false := by simpa using hlt
      have hkn : k = la.length := by have := HN.out; omega
      rw [hkn, List.take_length] at hB
      have hm : m = 20 + sizeA la := by rw [← hB.1, List.length_append, List.length_append, HQ.out, flatA_length]; rfl
      have hs9 := whole_fit HOK.out
      obtain ⟨gB, rfl, hgb, hgB, _⟩ := hB.at (by omega)
      obtain ⟨hc2', hf2⟩ := buf_at hB (j := 2) (by omega)
      obtain ⟨hc3', hf3⟩ := buf_at hB (j := 3) (by omega)
      obtain ⟨hm2, hm3, hmm⟩ := ix_m m (by omega) (by omega)
      have HBF := Lib.hid hB
      have HBR := Lib.hid hbr
      have HGB := Lib.hid hgb
      have HMS := Lib.hid (And.intro hm hs9)
      clear hB hbr hkn hm hs9 hgb hgB hk hlt hc18
      go_wp2
      go_ret
      have hfin := (HBF.out.set (i := 2) (by have := HMS.out.1; omega) (by8 ((m / 256 : Nat) : Int))).set (i := 3) (by have := HMS.out.1; omega) (by8 ((m % 256 : Nat) : Int))
      have hbel := (HBR.out.setCell (p := ⟨gB, 2, none⟩) HGB.out (.int .u8 ((m : Int) / 256 % 256))).setCell (p := ⟨gB, 3, none⟩) HGB.out (.int .u8 ((m : Int) % 256))
      rw [ix_hi (by have := HMS.out; omega), ix_lo] at hbel ⊢
      rw [show (((([xc, xi, 0, 0] ++ Q) ++ flatA la).set 2 (by8 ((m / 256 : Nat) : Int))).set 3 (by8 ((m % 256 : Nat) : Int))) = pkB code id Q la by unfold pkB; rw [← HMS.out.1, HX.out.1, HX.out.2]; rfl] at hfin
      rw [← HMS.out.1]
      exact ⟨_, c', rfl, hfin, hbel⟩
end Go.Proofs.YtbomckbekcaemaaDoor
