/-
  The walk of the statement TollgateKeys.
-/
import Derived.Test.YtbomckbekcaemaaDoorRsx
import Derived.Test.YtbomckbekcaemaaDoorVe
import Derived.Test.YtbomckbekcaemaaDoorHh
namespace Go.Proofs.YtbomckbekcaemaaDoor
open Go.RowKit

/-- Ways that meet: what is shown once of the place where they do. -/
theorem meet3 {G P : World → Nat → Nat → Prop} {R : Prop} (k : (∀ w a b, P w a b → G w a b) → R) (h : ∀ w a b, P w a b → G w a b) : R := k h
theorem ix_cutK {n c most q : Nat} (hq : q = min n most) (hc : n ≤ c) : min (n : Int) (most : Int) = (q : Int) ∧ (q : Int) ≤ (c : Int) ∧ (0 : Int) ≤ (q : Int) := by omega
theorem in_b32 {w : World} {g : Nat} {t : TypeId} {X : List UInt8} (h : Blk w g t (X.map B8)) (hX : X.length = 32) : In w w.heap.size (some ⟨g, 0, none⟩) 32 X :=
  ⟨by omega, by decide, fun _ => ⟨g, 0, rfl, h.lt, fun j hj => by
    rw [h.cell, Nat.zero_add, List.getElem?_map, List.getElem?_eq_getElem hj, List.getD_eq_getElem?_getD, List.getElem?_eq_getElem hj]; rfl⟩⟩
theorem attrs_two (w : World) (kd kd' : Int) (x y : List UInt8) (Ax Ay : Option Addr) (nx ny cx cy : Nat) (hx : In w w.heap.size Ax cx x) (hy : In w w.heap.size Ay cy y) (hnx : x.length = nx) (hny : y.length = ny) :
    AIn (w.alloc (.cells #[.int .i64 kd, .slice Ax nx cx, .int .i64 kd', .slice Ay ny cy] 69)) (w.alloc (.cells #[.int .i64 kd, .slice Ax nx cx, .int .i64 kd', .slice Ay ny cy] 69)).heap.size (some ⟨w.heap.size, 0, none⟩) 2 [(kd, x), (kd', y)] := by
  have hB := Blk.new_of w 69 #[.int .i64 kd, .slice Ax nx cx, .int .i64 kd', .slice Ay ny cy] [.int .i64 kd, .slice Ax nx cx, .int .i64 kd', .slice Ay ny cy] rfl
  refine ⟨by simp, by decide, fun _ => ⟨w.heap.size, 0, rfl, hB.lt, fun j hj => ?_⟩⟩
  subst hnx hny
  have hj2 : j = 0 ∨ j = 1 := by simp at hj; omega
  rcases hj2 with rfl | rfl
  · exact ⟨Ax, cx, hB.cell 0, hB.cell 1, hx.up ((Below.refl _ _).alloc (Nat.le_refl _) _)⟩
  · exact ⟨Ay, cy, hB.cell 2, hB.cell 3, hy.up ((Below.refl _ _).alloc (Nat.le_refl _) _)⟩
theorem wrap_made (k s0 s1 : UInt8) (X Q sec : List UInt8) (hX : X.length = 32) (hk : k = 16 ∨ k = 17) (hs : 128 ≤ s0.toNat) : ∃ v, wrapE (k.toNat : Int) s0 s1 X Q sec = (v, 0) ∧ unwrapE v Q sec = ((k.toNat : Int), X, 0) ∧ 24 ≤ v.length ∧ v.length ≤ 216 := by
  have hm : mayW (k.toNat : Int) X.length s0 = true := by
    rw [hX]
    unfold mayW
    rcases hk with rfl | rfl <;> simp [hs]
  have h : wrapE (k.toNat : Int) s0 s1 X Q sec = (wrapB (UInt8.ofNat (k.toNat : Int).toNat) s0 s1 X Q sec, 0) := by unfold wrapE; rw [if_pos hm]
  have hl := wrap_len h
  exact ⟨_, h, unwrap_wrap h, hl.1, hl.2.1⟩
theorem keys_marked (v1 v2 M sec : List UInt8) (h1 : v1.length ≤ 216) (h2 : v2.length ≤ 216) (_hM : M.length = 16) : ∃ S, replyE 2 9 M [(26, v1), (26, v2)] sec = ((replyE 2 9 M [(26, v1), (26, v2)] sec).1, 0) ∧ markE 2 9 M [(26, v1), (26, v2)] sec = (S, 0) := by
  have hk : pkOK 2 9 ([(26, v1), (26, v2)] ++ [(80, zQ)]) = true := by
    unfold pkOK attrsOK codeOK
    simp [attrOK, sizeA, zQ]
    omega
  have hm : markE 2 9 M [(26, v1), (26, v2)] sec = (pkB 2 9 M ([(26, v1), (26, v2)] ++ [(80, hmacQ sec (pkB 2 9 M ([(26, v1), (26, v2)] ++ [(80, zQ)])))]), 0) := by
    unfold markE
    rw [if_neg (by simp [hasMark]), if_pos hk]
  exact ⟨_, by unfold replyE; rw [if_neg (by decide), hm]; simp, hm⟩
set_option maxRecDepth 100000 in
set_option maxHeartbeats 4000000 in
theorem tollgateKeys_walk (X Y M : List UInt8) (A0 : Option Addr) (c0 m0 : Nat) (s0 : List UInt8) (w : World) (hX : X.length = 32) (hY : Y.length = 32) (hM : M.length = 16) (hs0 : s0.length = m0) (is : In w w.heap.size A0 c0 s0) (htq : TabsQ w) (ht : Tabs w) :
    Calls Tryd.prog 10 #[.agg ((X ++ Y).map B8).toArray, .agg (M.map B8).toArray, .slice A0 m0 c0] w fun e w' => e = .returned (.bool true) ∧ Below w.heap.size w w' := by
  obtain ⟨n2, hn2⟩ : ∃ n2, n2 = min m0 30 := ⟨_, rfl⟩
  obtain ⟨hp1, hp2, hp3⟩ := ix_cutK (most := 30) hn2 (show m0 ≤ c0 by rw [← hs0]; exact is.1)
  replace hp1 : min (m0 : Int) 30 = (n2 : Int) := hp1
  have hs1 : (s0.take n2).length = n2 := by rw [List.length_take]; omega
  have i2 := is.take n2
  generalize s0.take n2 = sec at *
  have hs9 : n2 ≤ 30 := by omega
  obtain ⟨v1, hw1, hu1, hl1, hm1⟩ := wrap_made 17 128 1 X M sec hX (.inr rfl) (by decide)
  obtain ⟨v2, hw2, hu2, hl2, hm2⟩ := wrap_made 16 129 1 Y M sec hY (.inl rfl) (by decide)
  obtain ⟨S, hr, hmk⟩ := keys_marked v1 v2 M sec hm1 hm2 hM
  have hop := opened_reply (id := 9) hM (by decide) hmk
  obtain ⟨D, hD⟩ : ∃ D, D = md5 (S ++ sec) := ⟨_, rfl⟩
  obtain ⟨R, hR⟩ : ∃ R, R = (replyE 2 9 M [(26, v1), (26, v2)] sec).1 := ⟨_, rfl⟩
  rw [← hR] at hr hop
  rw [← hD] at hop
  obtain ⟨a1, ha1⟩ : ∃ a1, v1.length = a1 := ⟨_, rfl⟩
  obtain ⟨a2, ha2⟩ : ∃ a2, v2.length = a2 := ⟨_, rfl⟩
  have HW1 := Lib.hid (fun (W : World) (A : Option Addr) (c : Nat) (h : In W W.heap.size A c X) (hb : Below w.heap.size w W) => (show Calls Tryd.prog 38 #[.int .i64 17, .slice A 32 c, .agg #[.int .u8 128, .int .u8 1], .agg (M.map B8).toArray, .slice A0 n2 c0] W (fun e w' => ∃ A' c', e = .returned (.tuple #[.slice A' a1 c', .int .i64 0]) ∧ In w' w'.heap.size A' c' v1 ∧ Below W.heap.size W w') from by
    have := wrap_e 17 128 1 M X sec A A0 c c0 32 n2 W hM hX hs1 h (i2.up hb) (htq.below hb) (by decide) (by omega)
    have hw : wrapE 17 128 1 X M sec = (v1, 0) := hw1
    rw [hw] at this
    refine this.mono ?_
    rintro e w' ⟨A', n', c', rfl, hB, hb'⟩
    obtain rfl : n' = a1 := hB.1.symm.trans ha1
    exact ⟨A', c', rfl, hB.toIn (Nat.le_refl _), hb'⟩))
  have HW2 := Lib.hid (fun (W : World) (A : Option Addr) (c : Nat) (h : In W W.heap.size A c Y) (hb : Below w.heap.size w W) => (show Calls Tryd.prog 38 #[.int .i64 16, .slice A 32 c, .agg #[.int .u8 129, .int .u8 1], .agg (M.map B8).toArray, .slice A0 n2 c0] W (fun e w' => ∃ A' c', e = .returned (.tuple #[.slice A' a2 c', .int .i64 0]) ∧ In w' w'.heap.size A' c' v2 ∧ Below W.heap.size W w') from by
    have := wrap_e 16 129 1 M Y sec A A0 c c0 32 n2 W hM hY hs1 h (i2.up hb) (htq.below hb) (by decide) (by omega)
    have hw : wrapE 16 129 1 Y M sec = (v2, 0) := hw2
    rw [hw] at this
    refine this.mono ?_
    rintro e w' ⟨A', n', c', rfl, hB, hb'⟩
    obtain rfl : n' = a2 := hB.1.symm.trans ha2
    exact ⟨A', c', rfl, hB.toIn (Nat.le_refl _), hb'⟩))
  have HU1 := Lib.hid (fun (W : World) (A : Option Addr) (c : Nat) (h : In W W.heap.size A c v1) (hb : Below w.heap.size w W) => (show Calls Tryd.prog 41 #[.slice A a1 c, .agg (M.map B8).toArray, .slice A0 n2 c0] W (fun e w' => ∃ A' c', e = .returned (.tuple #[.int .i64 17, .slice A' 32 c', .int .i64 0]) ∧ In w' w'.heap.size A' c' X ∧ Below W.heap.size W w') from by
    have := unwrap_e M v1 sec A A0 c c0 a1 n2 W hM ha1 hs1 h (i2.up hb) (htq.below hb) (by omega) (by omega)
    have hu : unwrapE v1 M sec = (17, X, 0) := hu1
    rw [hu] at this
    refine this.mono ?_
    rintro e w' ⟨A', n', c', rfl, hn', hI, hb'⟩
    obtain rfl : n' = 32 := hn'.symm.trans hX
    exact ⟨A', c', rfl, hI, hb'⟩))
  have HU2 := Lib.hid (fun (W : World) (A : Option Addr) (c : Nat) (h : In W W.heap.size A c v2) (hb : Below w.heap.size w W) => (show Calls Tryd.prog 41 #[.slice A a2 c, .agg (M.map B8).toArray, .slice A0 n2 c0] W (fun e w' => ∃ A' c', e = .returned (.tuple #[.int .i64 16, .slice A' 32 c', .int .i64 0]) ∧ In w' w'.heap.size A' c' Y ∧ Below W.heap.size W w') from by
    have := unwrap_e M v2 sec A A0 c c0 a2 n2 W hM ha2 hs1 h (i2.up hb) (htq.below hb) (by omega) (by omega)
    have hu : unwrapE v2 M sec = (16, Y, 0) := hu2
    rw [hu] at this
    refine this.mono ?_
    rintro e w' ⟨A', n', c', rfl, hn', hI, hb'⟩
    obtain rfl : n' = 32 := hn'.symm.trans hY
    exact ⟨A', c', rfl, hI, hb'⟩))
  obtain ⟨rl, hrl⟩ : ∃ rl, R.length = rl := ⟨_, rfl⟩
  have HRP := Lib.hid (fun (W : World) (A : Option Addr) (h : AIn W W.heap.size A 2 [(26, v1), (26, v2)]) (hb : Below w.heap.size w W) => (show Calls Tryd.prog 22 #[.agg #[.int .i64 2, .int .i64 9, .int .u8 0, .int .u8 0, .int .u8 0, .int .u8 0, .int .u8 0, .int .u8 0, .int .u8 0, .int .u8 0, .int .u8 0, .int .u8 0, .int .u8 0, .int .u8 0, .int .u8 0, .int .u8 0, .int .u8 0, .int .u8 0, .slice A 2 2], .agg (M.map B8).toArray, .slice A0 n2 c0] W (fun e w' => ∃ A' c', e = .returned (.tuple #[.slice A' rl c', .int .i64 0]) ∧ In w' w'.heap.size A' c' R ∧ Below W.heap.size W w') from by
    have := reply_e 2 2 n2 c0 2 9 zQ M A A0 [(26, v1), (26, v2)] sec W rfl hM rfl h hs1 (i2.up hb) (htq.below hb) (by decide) (by omega)
    rw [hr] at this
    refine Calls.mono (show Calls Tryd.prog 22 #[.agg #[.int .i64 2, .int .i64 9, .int .u8 0, .int .u8 0, .int .u8 0, .int .u8 0, .int .u8 0, .int .u8 0, .int .u8 0, .int .u8 0, .int .u8 0, .int .u8 0, .int .u8 0, .int .u8 0, .int .u8 0, .int .u8 0, .int .u8 0, .int .u8 0, .slice A 2 2], .agg (M.map B8).toArray, .slice A0 n2 c0] W _ from this) ?_
    rintro e w' ⟨A', n', c', rfl, hB, hb'⟩
    obtain rfl : n' = rl := hB.1.symm.trans hrl
    exact ⟨A', c', rfl, hB.toIn (Nat.le_refl _), hb'⟩))
  have HOP := Lib.hid (fun (W : World) (A : Option Addr) (c : Nat) (h : In W W.heap.size A c R) (hb : Below w.heap.size w W) => (show Calls Tryd.prog 25 #[.slice A rl c, .agg (M.map B8).toArray, .slice A0 n2 c0] W (fun e w' => ∃ A' c', e = .returned (.tuple #[.agg (pkC 2 9 D A' 2 c').toArray, .int .i64 0]) ∧ AIn w' w'.heap.size A' c' [(26, v1), (26, v2)] ∧ D.length = 16 ∧ Below W.heap.size W w') from by
    have := opened_e A A0 c c0 rl n2 R M sec W hM hrl h hs1 (i2.up hb) (htq.below hb) (by omega)
    rw [hop] at this
    refine this.mono ?_
    rintro e w' ⟨A', n', c', rfl, hn', hA', hQ', hb', _⟩
    simp only at hn' hA' hQ' hb'
    obtain rfl : n' = 2 := hn'.symm
    exact ⟨A', c', rfl, hA'.toIn, hQ', hb'⟩))
  have HSTD := Lib.hid (fun (W : World) (hb : Below w.heap.size w W) => stands_any W (ht.below hb))
  have HKL := Lib.hid (And.intro hX hY)
  have HML := Lib.hid hM
  have HSC := Lib.hid (And.intro hs1 i2)
  have HVL := Lib.hid (And.intro ha1 ha2)
  clear hn2 hs0 is hs1 i2 hs9 hw1 hu1 hl1 hm1 hw2 hu2 hl2 hm2 hr hmk hop hD hR ha1 ha2 hrl hX hY hM htq ht
  obtain ⟨XY, hXY⟩ : ∃ XY, XY = X ++ Y := ⟨_, rfl⟩
  rw [← hXY]
  have HXY := Lib.hid hXY
  clear hXY
  go_enter Tryd.func10, Tryd.ntmps10
  go_upto_region 1 with (fail)
  have hP := (Blk.new_of w 83 (XY.map B8).toArray (XY.map B8) rfl).alloc (.cells (M.map B8).toArray 22)
  have hK := Blk.new2_of w (.cells (XY.map B8).toArray 83) 22 _ (M.map B8) rfl
  have hb0 : Below w.heap.size w (w.alloc (.cells (XY.map B8).toArray 83)) := (Below.refl _ _).alloc (Nat.le_refl _) _
  have hbw := hb0.alloc hb0.size (.cells (M.map B8).toArray 22)
  obtain ⟨gk, hgk⟩ : ∃ gk, gk = w.heap.size + 1 := ⟨_, rfl⟩
  obtain ⟨g, hg⟩ : ∃ g, g = w.heap.size := ⟨_, rfl⟩
  rw [← hgk] at hK
  rw [← hg] at hP
  simp only [← hgk]
  clear hgk
  simp only [← hg]
  have HXw1 := Lib.hid hbw
  have HP1 := Lib.hid hP
  have HK1 := Lib.hid hK
  clear hg hb0 hbw hP hK
  generalize (w.alloc (.cells (XY.map B8).toArray 83)).alloc (.cells (M.map B8).toArray 22) = w1 at *
  have HRX := Lib.hid (fun (W : World) (h : Below w1.heap.size w1 W) => (show W.rangeAt g 0 (X.map B8) from fun j v hv => by
    have := ((HP1.out.below h HP1.out.lt).cell (0 + j)).trans (show (XY.map B8)[0 + j]? = some v by rw [HXY.out, Nat.zero_add, List.map_append, List.getElem?_append_left (List.getElem?_eq_some_iff.1 hv).1]; exact hv)
    exact this))
  have HRY := Lib.hid (fun (W : World) (h : Below w1.heap.size w1 W) => (show W.rangeAt g 32 (Y.map B8) from fun j v hv => by
    have := ((HP1.out.below h HP1.out.lt).cell (32 + j)).trans (show (XY.map B8)[32 + j]? = some v by rw [HXY.out, List.map_append, List.getElem?_append_right (by rw [List.length_map, HKL.out.1]; omega), List.length_map, HKL.out.1, Nat.add_sub_cancel_left]; exact hv)
    exact this))
  apply meet3 (P := fun W a b => (Blk W a 82 (X.map B8) ∧ Blk W b 82 (Y.map B8) ∧ Below w1.heap.size w1 W))
  · intro HR0
    refine wp_region_noPanic ?_
    refine wp_region_held_drew (S := fun W => Below w1.heap.size w1 W) (by kernel_rfl) (by exact below_drewN (Below.refl _ _) 1) (fun hHeld => ?_)
    refine wpAnyH_take (i := 0) (oi := ⟨_, _, _, _, _, _⟩) (v := ?_) rfl (by kernel_rfl) (by kernel_rfl) (by kernel_rfl) (fun _ _ _ h => h) (Or.inl ⟨by rfl, ?_⟩) hHeld ?_
    rotate_left 1
    · (intro W hSw; (try dsimp only at hSw); go_simp; try with_reducible rfl)
    try simp only [Act.put, List.setIfInBounds_toArray, List.set_cons_zero, List.set_cons_succ]
    refine' wpAnyH_take (i := 1) (oi := ⟨_, _, _, _, _, _⟩) rfl (by kernel_rfl) (by kernel_rfl) (by kernel_rfl) (fun _ _ _ h => h) (yieldsIf_load_mid (by rfl) 82 _ rfl g 0 rfl (X.map B8) _ (fun W hSw => HRX.out W hSw) Tryd.underlying82 rfl (info32.trans (by rw [List.length_map, HKL.out.1]))) hHeld ?_
    try simp only [Act.put, List.setIfInBounds_toArray, List.set_cons_zero, List.set_cons_succ]
    refine wpAnyH_take (i := 2) (oi := ⟨_, _, _, _, _, _⟩) (v := ?_) rfl (by kernel_rfl) (by kernel_rfl) (by kernel_rfl) (fun _ _ _ h => h) (Or.inl ⟨by rfl, ?_⟩) hHeld ?_
    rotate_left 1
    · (intro W hSw; (try dsimp only at hSw); go_simp; try with_reducible rfl)
    try simp only [Act.put, List.setIfInBounds_toArray, List.set_cons_zero, List.set_cons_succ]
    refine' wpAnyH_take (i := 3) (oi := ⟨_, _, _, _, _, _⟩) rfl (by kernel_rfl) (by kernel_rfl) (by kernel_rfl) (fun _ _ _ h => h) (yieldsIf_load_mid (by rfl) 82 _ rfl g 32 rfl (Y.map B8) _ (fun W hSw => HRY.out W hSw) Tryd.underlying82 rfl (info32.trans (by rw [List.length_map, HKL.out.2]))) hHeld ?_
    try simp only [Act.put, List.setIfInBounds_toArray, List.set_cons_zero, List.set_cons_succ]
    replace hHeld : Below w1.heap.size w1 w1.drew := hHeld
    generalize w1.drew = wd at *
    refine wpAnyH_ready (rs := [4, 5]) (by kernel_rfl) (by simp) ?_
    refine AllReadyH.cons (o := ⟨_, _, _, _, _, _⟩) rfl (fun K hK => ?_) (AllReadyH.cons (o := ⟨_, _, _, _, _, _⟩) rfl (fun K hK => ?_) AllReadyH.nil)
    go_simp
    have hla : Below wd.heap.size wd (wd.alloc (.cells #[.int .u8 0, .int .u8 0, .int .u8 0, .int .u8 0, .int .u8 0, .int .u8 0, .int .u8 0, .int .u8 0, .int .u8 0, .int .u8 0, .int .u8 0, .int .u8 0, .int .u8 0, .int .u8 0, .int .u8 0, .int .u8 0, .int .u8 0, .int .u8 0, .int .u8 0, .int .u8 0, .int .u8 0, .int .u8 0, .int .u8 0, .int .u8 0, .int .u8 0, .int .u8 0, .int .u8 0, .int .u8 0, .int .u8 0, .int .u8 0, .int .u8 0, .int .u8 0] 82)) := (Below.refl _ _).alloc (Nat.le_refl _) _
    have hA := Blk.new_of wd 82 #[.int .u8 0, .int .u8 0, .int .u8 0, .int .u8 0, .int .u8 0, .int .u8 0, .int .u8 0, .int .u8 0, .int .u8 0, .int .u8 0, .int .u8 0, .int .u8 0, .int .u8 0, .int .u8 0, .int .u8 0, .int .u8 0, .int .u8 0, .int .u8 0, .int .u8 0, .int .u8 0, .int .u8 0, .int .u8 0, .int .u8 0, .int .u8 0, .int .u8 0, .int .u8 0, .int .u8 0, .int .u8 0, .int .u8 0, .int .u8 0, .int .u8 0, .int .u8 0] ((List.replicate 32 (0 : UInt8)).map B8) rfl
    have shA : w1.heap.size ≤ wd.heap.size := hHeld.size
    refine hK.out _ _ (hHeld.trans (hla.mono hHeld.size)) (fun hHeld => ?_)
    clear hK K hla
    obtain ⟨g7, eg7⟩ : ∃ g7, g7 = wd.heap.size := ⟨_, rfl⟩
    rw [← eg7] at hA shA
    try simp only [Act.put, List.setIfInBounds_toArray, List.set_cons_zero, List.set_cons_succ]
    simp only [← eg7]
    clear eg7
    replace hHeld : Below w1.heap.size w1 (wd.alloc (.cells #[.int .u8 0, .int .u8 0, .int .u8 0, .int .u8 0, .int .u8 0, .int .u8 0, .int .u8 0, .int .u8 0, .int .u8 0, .int .u8 0, .int .u8 0, .int .u8 0, .int .u8 0, .int .u8 0, .int .u8 0, .int .u8 0, .int .u8 0, .int .u8 0, .int .u8 0, .int .u8 0, .int .u8 0, .int .u8 0, .int .u8 0, .int .u8 0, .int .u8 0, .int .u8 0, .int .u8 0, .int .u8 0, .int .u8 0, .int .u8 0, .int .u8 0, .int .u8 0] 82)) := hHeld
    generalize wd.alloc (.cells #[.int .u8 0, .int .u8 0, .int .u8 0, .int .u8 0, .int .u8 0, .int .u8 0, .int .u8 0, .int .u8 0, .int .u8 0, .int .u8 0, .int .u8 0, .int .u8 0, .int .u8 0, .int .u8 0, .int .u8 0, .int .u8 0, .int .u8 0, .int .u8 0, .int .u8 0, .int .u8 0, .int .u8 0, .int .u8 0, .int .u8 0, .int .u8 0, .int .u8 0, .int .u8 0, .int .u8 0, .int .u8 0, .int .u8 0, .int .u8 0, .int .u8 0, .int .u8 0] 82) = wa at *
    refine wpAnyH_ready (rs := [5]) (by kernel_rfl) (by simp) ?_
    refine AllReadyH.cons (o := ⟨_, _, _, _, _, _⟩) rfl (fun K hK => ?_) AllReadyH.nil
    go_simp
    have hla : Below wa.heap.size wa (wa.alloc (.cells #[.int .u8 0, .int .u8 0, .int .u8 0, .int .u8 0, .int .u8 0, .int .u8 0, .int .u8 0, .int .u8 0, .int .u8 0, .int .u8 0, .int .u8 0, .int .u8 0, .int .u8 0, .int .u8 0, .int .u8 0, .int .u8 0, .int .u8 0, .int .u8 0, .int .u8 0, .int .u8 0, .int .u8 0, .int .u8 0, .int .u8 0, .int .u8 0, .int .u8 0, .int .u8 0, .int .u8 0, .int .u8 0, .int .u8 0, .int .u8 0, .int .u8 0, .int .u8 0] 82)) := (Below.refl _ _).alloc (Nat.le_refl _) _
    have hC := Blk.new_of wa 82 #[.int .u8 0, .int .u8 0, .int .u8 0, .int .u8 0, .int .u8 0, .int .u8 0, .int .u8 0, .int .u8 0, .int .u8 0, .int .u8 0, .int .u8 0, .int .u8 0, .int .u8 0, .int .u8 0, .int .u8 0, .int .u8 0, .int .u8 0, .int .u8 0, .int .u8 0, .int .u8 0, .int .u8 0, .int .u8 0, .int .u8 0, .int .u8 0, .int .u8 0, .int .u8 0, .int .u8 0, .int .u8 0, .int .u8 0, .int .u8 0, .int .u8 0, .int .u8 0] ((List.replicate 32 (0 : UInt8)).map B8) rfl
    have shC : w1.heap.size ≤ wa.heap.size := hHeld.size
    have hne : g7 ≠ wa.heap.size := Nat.ne_of_lt hA.lt
    replace hA := hA.below hla hA.lt
    refine hK.out _ _ (hHeld.trans (hla.mono hHeld.size)) (fun hHeld => ?_)
    clear hK K hla
    obtain ⟨g8, eg8⟩ : ∃ g8, g8 = wa.heap.size := ⟨_, rfl⟩
    rw [← eg8] at hC shC hne
    try simp only [Act.put, List.setIfInBounds_toArray, List.set_cons_zero, List.set_cons_succ]
    simp only [← eg8]
    clear eg8
    replace hHeld : Below w1.heap.size w1 (wa.alloc (.cells #[.int .u8 0, .int .u8 0, .int .u8 0, .int .u8 0, .int .u8 0, .int .u8 0, .int .u8 0, .int .u8 0, .int .u8 0, .int .u8 0, .int .u8 0, .int .u8 0, .int .u8 0, .int .u8 0, .int .u8 0, .int .u8 0, .int .u8 0, .int .u8 0, .int .u8 0, .int .u8 0, .int .u8 0, .int .u8 0, .int .u8 0, .int .u8 0, .int .u8 0, .int .u8 0, .int .u8 0, .int .u8 0, .int .u8 0, .int .u8 0, .int .u8 0, .int .u8 0] 82)) := hHeld
    generalize wa.alloc (.cells #[.int .u8 0, .int .u8 0, .int .u8 0, .int .u8 0, .int .u8 0, .int .u8 0, .int .u8 0, .int .u8 0, .int .u8 0, .int .u8 0, .int .u8 0, .int .u8 0, .int .u8 0, .int .u8 0, .int .u8 0, .int .u8 0, .int .u8 0, .int .u8 0, .int .u8 0, .int .u8 0, .int .u8 0, .int .u8 0, .int .u8 0, .int .u8 0, .int .u8 0, .int .u8 0, .int .u8 0, .int .u8 0, .int .u8 0, .int .u8 0, .int .u8 0, .int .u8 0] 82) = wb at *
    refine wpAnyH_ready (rs := [6]) (by kernel_rfl) (by simp) ?_
    refine AllReadyH.cons (o := ⟨_, _, _, _, _, _⟩) rfl (fun K hK => ?_) AllReadyH.nil
    refine step_store_blk rfl 82 (.tmp 7) (.tmp 22) rfl rfl g7 (X.map B8) rfl rfl 82 _ hA (info32.trans (by rw [List.length_map, HKL.out.1])) (by rw [List.length_map, List.length_map, List.length_replicate, HKL.out.1]) (one8 _) ?_
    intro wc hNN hgr
    replace hC := hC.grown hgr (fun e => by injection e with e; omega)
    have hxb : Below w1.heap.size w1 wc := below_new hHeld hgr shA hHeld.size
    refine hK.out _ _ hxb (fun hHeld => ?_)
    clear hK K hgr hxb
    replace hA := hNN
    clear hNN
    replace hHeld : Below w1.heap.size w1 wc := hHeld
    try simp only [Act.put, List.setIfInBounds_toArray, List.set_cons_zero, List.set_cons_succ]
    refine wpAnyH_ready (rs := [7]) (by kernel_rfl) (by simp) ?_
    refine AllReadyH.cons (o := ⟨_, _, _, _, _, _⟩) rfl (fun K hK => ?_) AllReadyH.nil
    refine step_store_blk rfl 82 (.tmp 8) (.tmp 24) rfl rfl g8 (Y.map B8) rfl rfl 82 _ hC (info32.trans (by rw [List.length_map, HKL.out.2])) (by rw [List.length_map, List.length_map, List.length_replicate, HKL.out.2]) (one8 _) ?_
    intro wz hNN hgr
    replace hA := hA.grown hgr (fun e => by injection e with e; omega)
    have hxb : Below w1.heap.size w1 wz := below_new hHeld hgr shC hHeld.size
    refine hK.out _ _ hxb (fun hHeld => ?_)
    clear hK K hgr hxb
    replace hC := hNN
    clear hNN
    replace hHeld : Below w1.heap.size w1 wz := hHeld
    try simp only [Act.put, List.setIfInBounds_toArray, List.set_cons_zero, List.set_cons_succ]
    refine wpAnyH_done (by kernel_rfl) ?_ _
    refine NoPanic.normal ?_
    exact HR0 wz g7 g8 ⟨hA, hC, hHeld⟩
    go_simp
    have hla : Below wd.heap.size wd (wd.alloc (.cells #[.int .u8 0, .int .u8 0, .int .u8 0, .int .u8 0, .int .u8 0, .int .u8 0, .int .u8 0, .int .u8 0, .int .u8 0, .int .u8 0, .int .u8 0, .int .u8 0, .int .u8 0, .int .u8 0, .int .u8 0, .int .u8 0, .int .u8 0, .int .u8 0, .int .u8 0, .int .u8 0, .int .u8 0, .int .u8 0, .int .u8 0, .int .u8 0, .int .u8 0, .int .u8 0, .int .u8 0, .int .u8 0, .int .u8 0, .int .u8 0, .int .u8 0, .int .u8 0] 82)) := (Below.refl _ _).alloc (Nat.le_refl _) _
    have hC := Blk.new_of wd 82 #[.int .u8 0, .int .u8 0, .int .u8 0, .int .u8 0, .int .u8 0, .int .u8 0, .int .u8 0, .int .u8 0, .int .u8 0, .int .u8 0, .int .u8 0, .int .u8 0, .int .u8 0, .int .u8 0, .int .u8 0, .int .u8 0, .int .u8 0, .int .u8 0, .int .u8 0, .int .u8 0, .int .u8 0, .int .u8 0, .int .u8 0, .int .u8 0, .int .u8 0, .int .u8 0, .int .u8 0, .int .u8 0, .int .u8 0, .int .u8 0, .int .u8 0, .int .u8 0] ((List.replicate 32 (0 : UInt8)).map B8) rfl
    have shC : w1.heap.size ≤ wd.heap.size := hHeld.size
    refine hK.out _ _ (hHeld.trans (hla.mono hHeld.size)) (fun hHeld => ?_)
    clear hK K hla
    obtain ⟨g8, eg8⟩ : ∃ g8, g8 = wd.heap.size := ⟨_, rfl⟩
    rw [← eg8] at hC shC
    try simp only [Act.put, List.setIfInBounds_toArray, List.set_cons_zero, List.set_cons_succ]
    simp only [← eg8]
    clear eg8
    replace hHeld : Below w1.heap.size w1 (wd.alloc (.cells #[.int .u8 0, .int .u8 0, .int .u8 0, .int .u8 0, .int .u8 0, .int .u8 0, .int .u8 0, .int .u8 0, .int .u8 0, .int .u8 0, .int .u8 0, .int .u8 0, .int .u8 0, .int .u8 0, .int .u8 0, .int .u8 0, .int .u8 0, .int .u8 0, .int .u8 0, .int .u8 0, .int .u8 0, .int .u8 0, .int .u8 0, .int .u8 0, .int .u8 0, .int .u8 0, .int .u8 0, .int .u8 0, .int .u8 0, .int .u8 0, .int .u8 0, .int .u8 0] 82)) := hHeld
    generalize wd.alloc (.cells #[.int .u8 0, .int .u8 0, .int .u8 0, .int .u8 0, .int .u8 0, .int .u8 0, .int .u8 0, .int .u8 0, .int .u8 0, .int .u8 0, .int .u8 0, .int .u8 0, .int .u8 0, .int .u8 0, .int .u8 0, .int .u8 0, .int .u8 0, .int .u8 0, .int .u8 0, .int .u8 0, .int .u8 0, .int .u8 0, .int .u8 0, .int .u8 0, .int .u8 0, .int .u8 0, .int .u8 0, .int .u8 0, .int .u8 0, .int .u8 0, .int .u8 0, .int .u8 0] 82) = wa at *
    refine wpAnyH_ready (rs := [4]) (by kernel_rfl) (by simp) ?_
    refine AllReadyH.cons (o := ⟨_, _, _, _, _, _⟩) rfl (fun K hK => ?_) AllReadyH.nil
    go_simp
    have hla : Below wa.heap.size wa (wa.alloc (.cells #[.int .u8 0, .int .u8 0, .int .u8 0, .int .u8 0, .int .u8 0, .int .u8 0, .int .u8 0, .int .u8 0, .int .u8 0, .int .u8 0, .int .u8 0, .int .u8 0, .int .u8 0, .int .u8 0, .int .u8 0, .int .u8 0, .int .u8 0, .int .u8 0, .int .u8 0, .int .u8 0, .int .u8 0, .int .u8 0, .int .u8 0, .int .u8 0, .int .u8 0, .int .u8 0, .int .u8 0, .int .u8 0, .int .u8 0, .int .u8 0, .int .u8 0, .int .u8 0] 82)) := (Below.refl _ _).alloc (Nat.le_refl _) _
    have hA := Blk.new_of wa 82 #[.int .u8 0, .int .u8 0, .int .u8 0, .int .u8 0, .int .u8 0, .int .u8 0, .int .u8 0, .int .u8 0, .int .u8 0, .int .u8 0, .int .u8 0, .int .u8 0, .int .u8 0, .int .u8 0, .int .u8 0, .int .u8 0, .int .u8 0, .int .u8 0, .int .u8 0, .int .u8 0, .int .u8 0, .int .u8 0, .int .u8 0, .int .u8 0, .int .u8 0, .int .u8 0, .int .u8 0, .int .u8 0, .int .u8 0, .int .u8 0, .int .u8 0, .int .u8 0] ((List.replicate 32 (0 : UInt8)).map B8) rfl
    have shA : w1.heap.size ≤ wa.heap.size := hHeld.size
    have hne : g8 ≠ wa.heap.size := Nat.ne_of_lt hC.lt
    replace hC := hC.below hla hC.lt
    refine hK.out _ _ (hHeld.trans (hla.mono hHeld.size)) (fun hHeld => ?_)
    clear hK K hla
    obtain ⟨g7, eg7⟩ : ∃ g7, g7 = wa.heap.size := ⟨_, rfl⟩
    rw [← eg7] at hA shA hne
    try simp only [Act.put, List.setIfInBounds_toArray, List.set_cons_zero, List.set_cons_succ]
    simp only [← eg7]
    clear eg7
    replace hHeld : Below w1.heap.size w1 (wa.alloc (.cells #[.int .u8 0, .int .u8 0, .int .u8 0, .int .u8 0, .int .u8 0, .int .u8 0, .int .u8 0, .int .u8 0, .int .u8 0, .int .u8 0, .int .u8 0, .int .u8 0, .int .u8 0, .int .u8 0, .int .u8 0, .int .u8 0, .int .u8 0, .int .u8 0, .int .u8 0, .int .u8 0, .int .u8 0, .int .u8 0, .int .u8 0, .int .u8 0, .int .u8 0, .int .u8 0, .int .u8 0, .int .u8 0, .int .u8 0, .int .u8 0, .int .u8 0, .int .u8 0] 82)) := hHeld
    generalize wa.alloc (.cells #[.int .u8 0, .int .u8 0, .int .u8 0, .int .u8 0, .int .u8 0, .int .u8 0, .int .u8 0, .int .u8 0, .int .u8 0, .int .u8 0, .int .u8 0, .int .u8 0, .int .u8 0, .int .u8 0, .int .u8 0, .int .u8 0, .int .u8 0, .int .u8 0, .int .u8 0, .int .u8 0, .int .u8 0, .int .u8 0, .int .u8 0, .int .u8 0, .int .u8 0, .int .u8 0, .int .u8 0, .int .u8 0, .int .u8 0, .int .u8 0, .int .u8 0, .int .u8 0] 82) = wb at *
    refine wpAnyH_ready (rs := [6]) (by kernel_rfl) (by simp) ?_
    refine AllReadyH.cons (o := ⟨_, _, _, _, _, _⟩) rfl (fun K hK => ?_) AllReadyH.nil
    refine step_store_blk rfl 82 (.tmp 7) (.tmp 22) rfl rfl g7 (X.map B8) rfl rfl 82 _ hA (info32.trans (by rw [List.length_map, HKL.out.1])) (by rw [List.length_map, List.length_map, List.length_replicate, HKL.out.1]) (one8 _) ?_
    intro wc hNN hgr
    replace hC := hC.grown hgr (fun e => by injection e with e; omega)
    have hxb : Below w1.heap.size w1 wc := below_new hHeld hgr shA hHeld.size
    refine hK.out _ _ hxb (fun hHeld => ?_)
    clear hK K hgr hxb
    replace hA := hNN
    clear hNN
    replace hHeld : Below w1.heap.size w1 wc := hHeld
    try simp only [Act.put, List.setIfInBounds_toArray, List.set_cons_zero, List.set_cons_succ]
    refine wpAnyH_ready (rs := [7]) (by kernel_rfl) (by simp) ?_
    refine AllReadyH.cons (o := ⟨_, _, _, _, _, _⟩) rfl (fun K hK => ?_) AllReadyH.nil
    refine step_store_blk rfl 82 (.tmp 8) (.tmp 24) rfl rfl g8 (Y.map B8) rfl rfl 82 _ hC (info32.trans (by rw [List.length_map, HKL.out.2])) (by rw [List.length_map, List.length_map, List.length_replicate, HKL.out.2]) (one8 _) ?_
    intro wz hNN hgr
    replace hA := hA.grown hgr (fun e => by injection e with e; omega)
    have hxb : Below w1.heap.size w1 wz := below_new hHeld hgr shC hHeld.size
    refine hK.out _ _ hxb (fun hHeld => ?_)
    clear hK K hgr hxb
    replace hC := hNN
    clear hNN
    replace hHeld : Below w1.heap.size w1 wz := hHeld
    try simp only [Act.put, List.setIfInBounds_toArray, List.set_cons_zero, List.set_cons_succ]
    refine wpAnyH_done (by kernel_rfl) ?_ _
    refine NoPanic.normal ?_
    exact HR0 wz g7 g8 ⟨hA, hC, hHeld⟩
  · intro w2 g7 g8 ⟨hA, hC, hb2⟩
    have HXw2 := Lib.hid (HXw1.out.trans (hb2.mono HXw1.out.size))
    have HKw2 := Lib.hid (HK1.out.below hb2 HK1.out.lt)
    have HA2 := Lib.hid hA
    have HC2 := Lib.hid hC
    clear hA hC hb2 HP1 HK1 HRX HRY
    go_upto_region 3 with (fail)
    clear hp1 hp2 hp3
    refine wp_region_noPanic ?_
    refine wp_region_held_drew (S := fun W => Below w2.heap.size w2 W) (by kernel_rfl) (by exact below_drewN (Below.refl _ _) 1) (fun hHeld => ?_)
    replace hHeld : Below w2.heap.size w2 w2.drew := hHeld
    have HXwdx := Lib.hid (HXw2.out.trans (hHeld.mono HXw2.out.size))
    have HYwdx := Lib.hid (show Below w2.heap.size w2 w2.drew from hHeld)
    generalize w2.drew = wdx at *
    refine anyH_mono (S' := fun W => Below wdx.heap.size wdx W) (fun W h => hHeld.trans (h.mono hHeld.size)) _ _ _ _ ?_
    clear hHeld
    have hHeld : Below wdx.heap.size wdx wdx := Below.refl _ _
    refine wpAnyH_take (i := 0) (oi := ⟨_, _, _, _, _, _⟩) (v := .slice (some ⟨g7, 0, none⟩) 32 32) rfl (by kernel_rfl) (by kernel_rfl) (by kernel_rfl) (fun _ _ _ h => h) (Or.inl ⟨by rfl, ?_⟩) hHeld ?_
    · (intro W hSw; go_simp)
    try simp only [Act.put, List.setIfInBounds_toArray, List.set_cons_zero, List.set_cons_succ]
    refine wpAnyH_take (i := 1) (oi := ⟨_, _, _, _, _, _⟩) (v := ?_) rfl (by kernel_rfl) (by kernel_rfl) (by kernel_rfl) (fun _ _ _ h => h) (Or.inl ⟨by rfl, ?_⟩) hHeld ?_
    rotate_left 1
    · (intro W hSw; (try dsimp only at hSw); go_simp; try with_reducible rfl)
    try simp only [Act.put, List.setIfInBounds_toArray, List.set_cons_zero, List.set_cons_succ]
    refine' wpAnyH_take (i := 2) (oi := ⟨_, _, _, _, _, _⟩) rfl (by kernel_rfl) (by kernel_rfl) (by kernel_rfl) (fun _ _ _ h => h) (yieldsIf_load_mid (by rfl) 22 _ rfl gk 0 rfl (M.map B8) _ (fun W hSw => rangeAt_of_blk ((HKw2.out).below (HYwdx.out.trans (hSw.mono HYwdx.out.size)) (HKw2.out).lt)) Tryd.underlying22 rfl (inf16.trans (by rw [List.length_map, HML.out]))) hHeld ?_
    try simp only [Act.put, List.setIfInBounds_toArray, List.set_cons_zero, List.set_cons_succ]
    refine wpAnyH_take (i := 3) (oi := ⟨_, _, _, _, _, _⟩) (v := ?_) rfl (by kernel_rfl) (by kernel_rfl) (by kernel_rfl) (fun _ _ _ h => h) (Or.inl ⟨by rfl, ?_⟩) hHeld ?_
    rotate_left 1
    · (intro W hSw; (try dsimp only at hSw); go_simp; try with_reducible rfl)
    try simp only [Act.put, List.setIfInBounds_toArray, List.set_cons_zero, List.set_cons_succ]
    refine wpAnyH_ready (rs := [4]) (by kernel_rfl) (by simp) ?_
    refine AllReadyH.cons (o := ⟨_, _, _, _, _, _⟩) rfl (fun K hK => ?_) AllReadyH.nil
    go_simp
    go_at_call 38
    refine (HW1.out _ _ _ (in_b32 ((HA2.out).below (HYwdx.out) (HA2.out).lt) HKL.out.1) HXwdx.out).mono ?_
    rintro e w4 ⟨A9, c9, rfl, hIv, hba⟩
    try go_wp2_with fail
    have hszx := hHeld.size
    refine hK.out _ _ (hHeld.trans (hba.mono hszx)) (fun hHeld => ?_)
    clear hK K hszx
    replace hHeld : Below wdx.heap.size wdx w4 := hHeld
    have HXw4 := Lib.hid (HXwdx.out.trans (hHeld.mono HXwdx.out.size))
    have HYw4 := Lib.hid (HYwdx.out.trans (hHeld.mono HYwdx.out.size))
    have HI9 := Lib.hid hIv
    clear hIv
    try simp only [Act.put, List.setIfInBounds_toArray, List.set_cons_zero, List.set_cons_succ]
    refine anyH_mono (S' := fun W => Below w4.heap.size w4 W) (fun W h => hHeld.trans (h.mono hHeld.size)) _ _ _ _ ?_
    clear hHeld
    have hHeld : Below w4.heap.size w4 w4 := Below.refl _ _
    refine wpAnyH_take (i := 5) (oi := ⟨_, _, _, _, _, _⟩) (v := ?_) rfl (by kernel_rfl) (by kernel_rfl) (by kernel_rfl) (fun _ _ _ h => h) (Or.inl ⟨by rfl, ?_⟩) hHeld ?_
    rotate_left 1
    · (intro W hSw; (try dsimp only at hSw); go_simp; try with_reducible rfl)
    try simp only [Act.put, List.setIfInBounds_toArray, List.set_cons_zero, List.set_cons_succ]
    refine wpAnyH_take (i := 6) (oi := ⟨_, _, _, _, _, _⟩) (v := ?_) rfl (by kernel_rfl) (by kernel_rfl) (by kernel_rfl) (fun _ _ _ h => h) (Or.inl ⟨by rfl, ?_⟩) hHeld ?_
    rotate_left 1
    · (intro W hSw; (try dsimp only at hSw); go_simp; try with_reducible rfl)
    try simp only [Act.put, List.setIfInBounds_toArray, List.set_cons_zero, List.set_cons_succ]
    refine wpAnyH_take (i := 7) (oi := ⟨_, _, _, _, _, _⟩) (v := ?_) rfl (by kernel_rfl) (by kernel_rfl) (by kernel_rfl) (fun _ _ _ h => h) (Or.inl ⟨by rfl, ?_⟩) hHeld ?_
    rotate_left 1
    · (intro W hSw; (try dsimp only at hSw); go_simp; try with_reducible rfl)
    try simp only [Act.put, List.setIfInBounds_toArray, List.set_cons_zero, List.set_cons_succ]
    refine wpAnyH_take (i := 8) (oi := ⟨_, _, _, _, _, _⟩) (v := ?_) rfl (by kernel_rfl) (by kernel_rfl) (by kernel_rfl) (fun _ _ _ h => h) (Or.inl ⟨by rfl, ?_⟩) hHeld ?_
    rotate_left 1
    · (intro W hSw; (try dsimp only at hSw); go_simp; try with_reducible rfl)
    try simp only [Act.put, List.setIfInBounds_toArray, List.set_cons_zero, List.set_cons_succ]
    refine wpAnyH_take (i := 9) (oi := ⟨_, _, _, _, _, _⟩) (v := ?_) rfl (by kernel_rfl) (by kernel_rfl) (by kernel_rfl) (fun _ _ _ h => h) (Or.inl ⟨by rfl, ?_⟩) hHeld ?_
    rotate_left 1
    · (intro W hSw; (try dsimp only at hSw); go_simp; try with_reducible rfl)
    try simp only [Act.put, List.setIfInBounds_toArray, List.set_cons_zero, List.set_cons_succ]
    refine wpAnyH_done (by kernel_rfl) ?_ _
    refine NoPanic.normal ?_
    clear hHeld
    have HA4 := Lib.hid (HA2.out.below HYw4.out HA2.out.lt)
    have HC4 := Lib.hid (HC2.out.below HYw4.out HC2.out.lt)
    have HKw4 := Lib.hid (HKw2.out.below HYw4.out HKw2.out.lt)
    clear HA2 HC2 HKw2
    go_upto_region 4 with (fail)
    refine wp_region_noPanic ?_
    refine wp_region_held_drew (S := fun W => Below w4.heap.size w4 W) (by kernel_rfl) (by exact below_drewN (Below.refl _ _) 1) (fun hHeld => ?_)
    replace hHeld : Below w4.heap.size w4 w4.drew := hHeld
    have HXwdy := Lib.hid (HXw4.out.trans (hHeld.mono HXw4.out.size))
    have HYwdy := Lib.hid (show Below w4.heap.size w4 w4.drew from hHeld)
    generalize w4.drew = wdy at *
    refine anyH_mono (S' := fun W => Below wdy.heap.size wdy W) (fun W h => hHeld.trans (h.mono hHeld.size)) _ _ _ _ ?_
    clear hHeld
    have hHeld : Below wdy.heap.size wdy wdy := Below.refl _ _
    refine wpAnyH_take (i := 0) (oi := ⟨_, _, _, _, _, _⟩) (v := .slice (some ⟨g8, 0, none⟩) 32 32) rfl (by kernel_rfl) (by kernel_rfl) (by kernel_rfl) (fun _ _ _ h => h) (Or.inl ⟨by rfl, ?_⟩) hHeld ?_
    · (intro W hSw; go_simp)
    try simp only [Act.put, List.setIfInBounds_toArray, List.set_cons_zero, List.set_cons_succ]
    refine wpAnyH_take (i := 1) (oi := ⟨_, _, _, _, _, _⟩) (v := ?_) rfl (by kernel_rfl) (by kernel_rfl) (by kernel_rfl) (fun _ _ _ h => h) (Or.inl ⟨by rfl, ?_⟩) hHeld ?_
    rotate_left 1
    · (intro W hSw; (try dsimp only at hSw); go_simp; try with_reducible rfl)
    try simp only [Act.put, List.setIfInBounds_toArray, List.set_cons_zero, List.set_cons_succ]
    refine' wpAnyH_take (i := 2) (oi := ⟨_, _, _, _, _, _⟩) rfl (by kernel_rfl) (by kernel_rfl) (by kernel_rfl) (fun _ _ _ h => h) (yieldsIf_load_mid (by rfl) 22 _ rfl gk 0 rfl (M.map B8) _ (fun W hSw => rangeAt_of_blk ((HKw4.out).below (HYwdy.out.trans (hSw.mono HYwdy.out.size)) (HKw4.out).lt)) Tryd.underlying22 rfl (inf16.trans (by rw [List.length_map, HML.out]))) hHeld ?_
    try simp only [Act.put, List.setIfInBounds_toArray, List.set_cons_zero, List.set_cons_succ]
    refine wpAnyH_take (i := 3) (oi := ⟨_, _, _, _, _, _⟩) (v := ?_) rfl (by kernel_rfl) (by kernel_rfl) (by kernel_rfl) (fun _ _ _ h => h) (Or.inl ⟨by rfl, ?_⟩) hHeld ?_
    rotate_left 1
    · (intro W hSw; (try dsimp only at hSw); go_simp; try with_reducible rfl)
    try simp only [Act.put, List.setIfInBounds_toArray, List.set_cons_zero, List.set_cons_succ]
    refine wpAnyH_ready (rs := [4]) (by kernel_rfl) (by simp) ?_
    refine AllReadyH.cons (o := ⟨_, _, _, _, _, _⟩) rfl (fun K hK => ?_) AllReadyH.nil
    go_simp
    go_at_call 38
    refine (HW2.out _ _ _ (in_b32 ((HC4.out).below (HYwdy.out) (HC4.out).lt) HKL.out.2) HXwdy.out).mono ?_
    rintro e w5 ⟨A11, c11, rfl, hIv, hba⟩
    try go_wp2_with fail
    have hszx := hHeld.size
    refine hK.out _ _ (hHeld.trans (hba.mono hszx)) (fun hHeld => ?_)
    clear hK K hszx
    replace hHeld : Below wdy.heap.size wdy w5 := hHeld
    have HXw5 := Lib.hid (HXwdy.out.trans (hHeld.mono HXwdy.out.size))
    have HYw5 := Lib.hid (HYwdy.out.trans (hHeld.mono HYwdy.out.size))
    have HI11 := Lib.hid hIv
    clear hIv
    try simp only [Act.put, List.setIfInBounds_toArray, List.set_cons_zero, List.set_cons_succ]
    refine anyH_mono (S' := fun W => Below w5.heap.size w5 W) (fun W h => hHeld.trans (h.mono hHeld.size)) _ _ _ _ ?_
    clear hHeld
    have hHeld : Below w5.heap.size w5 w5 := Below.refl _ _
    refine wpAnyH_take (i := 5) (oi := ⟨_, _, _, _, _, _⟩) (v := ?_) rfl (by kernel_rfl) (by kernel_rfl) (by kernel_rfl) (fun _ _ _ h => h) (Or.inl ⟨by rfl, ?_⟩) hHeld ?_
    rotate_left 1
    · (intro W hSw; (try dsimp only at hSw); go_simp; try with_reducible rfl)
    try simp only [Act.put, List.setIfInBounds_toArray, List.set_cons_zero, List.set_cons_succ]
    refine wpAnyH_take (i := 6) (oi := ⟨_, _, _, _, _, _⟩) (v := ?_) rfl (by kernel_rfl) (by kernel_rfl) (by kernel_rfl) (fun _ _ _ h => h) (Or.inl ⟨by rfl, ?_⟩) hHeld ?_
    rotate_left 1
    · (intro W hSw; (try dsimp only at hSw); go_simp; try with_reducible rfl)
    try simp only [Act.put, List.setIfInBounds_toArray, List.set_cons_zero, List.set_cons_succ]
    refine wpAnyH_take (i := 7) (oi := ⟨_, _, _, _, _, _⟩) (v := ?_) rfl (by kernel_rfl) (by kernel_rfl) (by kernel_rfl) (fun _ _ _ h => h) (Or.inl ⟨by rfl, ?_⟩) hHeld ?_
    rotate_left 1
    · (intro W hSw; (try dsimp only at hSw); go_simp; try with_reducible rfl)
    try simp only [Act.put, List.setIfInBounds_toArray, List.set_cons_zero, List.set_cons_succ]
    refine wpAnyH_take (i := 8) (oi := ⟨_, _, _, _, _, _⟩) (v := ?_) rfl (by kernel_rfl) (by kernel_rfl) (by kernel_rfl) (fun _ _ _ h => h) (Or.inl ⟨by rfl, ?_⟩) hHeld ?_
    rotate_left 1
    · (intro W hSw; (try dsimp only at hSw); go_simp; try with_reducible rfl)
    try simp only [Act.put, List.setIfInBounds_toArray, List.set_cons_zero, List.set_cons_succ]
    refine wpAnyH_take (i := 9) (oi := ⟨_, _, _, _, _, _⟩) (v := ?_) rfl (by kernel_rfl) (by kernel_rfl) (by kernel_rfl) (fun _ _ _ h => h) (Or.inl ⟨by rfl, ?_⟩) hHeld ?_
    rotate_left 1
    · (intro W hSw; (try dsimp only at hSw); go_simp; try with_reducible rfl)
    try simp only [Act.put, List.setIfInBounds_toArray, List.set_cons_zero, List.set_cons_succ]
    refine wpAnyH_done (by kernel_rfl) ?_ _
    refine NoPanic.normal ?_
    clear hHeld
    have HA5 := Lib.hid (HA4.out.below HYw5.out HA4.out.lt)
    have HC5 := Lib.hid (HC4.out.below HYw5.out HC4.out.lt)
    have HKw5 := Lib.hid (HKw4.out.below HYw5.out HKw4.out.lt)
    have HI9b := Lib.hid (HI9.out.up HYw5.out)
    clear HA4 HC4 HKw4 HI9
    have h5a : Below w5.heap.size w5 (w5.alloc (.cells #[.int .i64 26, .slice A9 a1 c9, .int .i64 26, .slice A11 a2 c11] 69)) := (Below.refl _ _).alloc (Nat.le_refl _) _
    have H5A := Lib.hid h5a
    have HX5a := Lib.hid (HXw5.out.trans (h5a.mono HXw5.out.size))
    have hk5 := HKw5.out.alloc (.cells #[.int .i64 26, .slice A9 a1 c9, .int .i64 26, .slice A11 a2 c11] 69)
    have HAT := Lib.hid (attrs_two w5 26 26 v1 v2 A9 A11 a1 a2 c9 c11 HI9b.out HI11.out HVL.out.1 HVL.out.2)
    clear h5a
    go_upto_region 6 with (first
      | ((with_reducible refine (?_ : wpList _ _ _ (Oper.mk (some 53) _ _ _ _ _ :: _) _ _)); go_loud (refine wpList_load_blk rfl 22 (.tmp 4) rfl gk rfl _ _ _ (hk5) Tryd.underlying22 rfl (inf16.trans (by rw [List.length_map, HML.out])) ?_))
      | (go_at_call 22; refine (HRP.out _ _ HAT.out HX5a.out).mono ?_; rintro e w6 ⟨A13, c13, rfl, hI13, hb6⟩))
    have hb56 := H5A.out.trans (hb6.mono H5A.out.size)
    have HX6 := Lib.hid (HX5a.out.trans (hb6.mono HX5a.out.size))
    have HA6 := Lib.hid (HA5.out.below hb56 HA5.out.lt)
    have HC6 := Lib.hid (HC5.out.below hb56 HC5.out.lt)
    have HK6 := Lib.hid (HKw5.out.below hb56 HKw5.out.lt)
    have HI13 := Lib.hid hI13
    clear hk5 HAT H5A HX5a HA5 HC5 HKw5 HI9b HI11 hI13 hb6 hb56
    have hk6 := HK6.out
    go_upto_region 7 with (first
      | ((with_reducible refine (?_ : wpList _ _ _ (Oper.mk (some 60) _ _ _ _ _ :: _) _ _)); go_loud (refine wpList_load_blk rfl 22 (.tmp 4) rfl gk rfl _ _ _ (hk6) Tryd.underlying22 rfl (inf16.trans (by rw [List.length_map, HML.out])) ?_))
      | (go_at_call 25; refine (HOP.out _ _ _ HI13.out HX6.out).mono ?_; rintro e w7 ⟨A15, c15, rfl, hA15, hDL, hb7⟩; have HDL := Lib.hid hDL)
      | ((with_reducible refine (?_ : wpList _ _ _ (Oper.mk none _ _ _ _ _ :: _) _ _)); go_loud (refine wpList_store_blk rfl 30 (.tmp 15) (.tmp 63) rfl rfl w7.heap.size (pkC 2 9 D A15 2 c15) rfl rfl _ _ (Blk.new_of w7 30 #[.int .i64 0, .int .i64 0, .int .u8 0, .int .u8 0, .int .u8 0, .int .u8 0, .int .u8 0, .int .u8 0, .int .u8 0, .int .u8 0, .int .u8 0, .int .u8 0, .int .u8 0, .int .u8 0, .int .u8 0, .int .u8 0, .int .u8 0, .int .u8 0, .slice none 0 0] (pkC 0 0 zQ none 0 0) rfl) (infPk.trans (by rw [pkC_length _ _ _ _ _ _ HDL.out])) (by rw [pkC_length _ _ _ _ _ _ HDL.out]; rfl) (pk_one _ _ _ _ _ _) ?_); intro w8 hP8 hg8))
    have h7a : Below w7.heap.size w7 (w7.alloc (.cells #[.int .i64 0, .int .i64 0, .int .u8 0, .int .u8 0, .int .u8 0, .int .u8 0, .int .u8 0, .int .u8 0, .int .u8 0, .int .u8 0, .int .u8 0, .int .u8 0, .int .u8 0, .int .u8 0, .int .u8 0, .int .u8 0, .int .u8 0, .int .u8 0, .slice none 0 0] 30)) := (Below.refl _ _).alloc (Nat.le_refl _) _
    have hb8 : Below w7.heap.size w7 w8 := below_new h7a hg8 (Nat.le_refl _) h7a.size
    obtain ⟨g15, hg15⟩ : ∃ g15, g15 = w7.heap.size := ⟨_, rfl⟩
    have HA15 := Lib.hid (hA15.up hb8)
    rw [← hg15] at hP8
    simp only [← hg15]
    have HP8 := Lib.hid hP8
    have hb68 := hb7.trans (hb8.mono hb7.size)
    have HX8 := Lib.hid (HX6.out.trans (hb68.mono HX6.out.size))
    have HA8 := Lib.hid (HA6.out.below hb68 HA6.out.lt)
    have HC8 := Lib.hid (HC6.out.below hb68 HC6.out.lt)
    have HK8 := Lib.hid (HK6.out.below hb68 HK6.out.lt)
    clear hk6 h7a hb8 hg8 hP8 hg15 hA15 hDL hb7 hb68 HA6 HC6 HK6 HI13
    obtain ⟨gp, op, hAe, hgp, hrow⟩ := HA15.out.2.2 (by simp)
    subst hAe
    obtain ⟨B0, d0, _, hv0, hI0⟩ := hrow 0 (by simp)
    obtain ⟨B1, d1, _, hv1, hI1⟩ := hrow 1 (by simp)
    have hv0 : w8.cell? ⟨gp, op + 1, none⟩ = some (.slice B0 a1 d0) := by have := hv0; rw [show ([((26 : Int), v1), (26, v2)].getD 0 (0, [])).2 = v1 from rfl, HVL.out.1] at this; simpa using this
    have hv1 : w8.cell? ⟨gp, op + 3, none⟩ = some (.slice B1 a2 d1) := by have := hv1; rw [show ([((26 : Int), v1), (26, v2)].getD 1 (0, [])).2 = v2 from rfl, HVL.out.2] at this; simpa using this
    have HVV := Lib.hid (And.intro hgp (And.intro hv0 (And.intro hv1 (And.intro (show In w8 w8.heap.size B0 d0 v1 from hI0) (show In w8 w8.heap.size B1 d1 v2 from hI1)))))
    clear hgp hrow hv0 hv1 hI0 hI1
    go_upto_region 9 with (go_at_call 43; refine (HSTD.out _ HX8.out).mono ?_; rintro e w9 ⟨rfl, hb9⟩; have hcc : w9.cell? ⟨g15, 18, none⟩ = some (.slice (some ⟨gp, op, none⟩) 2 c15) := ((HP8.out.below hb9 HP8.out.lt).cell 18).trans (pkC_last _ _ _ _ _ _ HDL.out))
    have HXw9 := Lib.hid (HX8.out.trans (hb9.mono HX8.out.size))
    have HPw9 := Lib.hid (HP8.out.below hb9 HP8.out.lt)
    have HKw9 := Lib.hid (HK8.out.below hb9 HK8.out.lt)
    have HA9 := Lib.hid (HA8.out.below hb9 HA8.out.lt)
    have HC9 := Lib.hid (HC8.out.below hb9 HC8.out.lt)
    have HV0 := Lib.hid (show In w9 w9.heap.size B0 d0 v1 from HVV.out.2.2.2.1.up hb9)
    have HCV0 := Lib.hid (fun (W : World) (h : Below w9.heap.size w9 W) => (show W.cell? ⟨gp, op + 1, none⟩ = some (.slice B0 a1 d0) from (h.cell (p := ⟨gp, op + 1, none⟩) (Nat.lt_of_lt_of_le HVV.out.1 hb9.size)).trans ((hb9.cell (p := ⟨gp, op + 1, none⟩) HVV.out.1).trans HVV.out.2.1)))
    have HCV1 := Lib.hid (fun (W : World) (h : Below w9.heap.size w9 W) => (show W.cell? ⟨gp, op + 3, none⟩ = some (.slice B1 a2 d1) from (h.cell (p := ⟨gp, op + 3, none⟩) (Nat.lt_of_lt_of_le HVV.out.1 hb9.size)).trans ((hb9.cell (p := ⟨gp, op + 3, none⟩) HVV.out.1).trans HVV.out.2.2.1)))
    have HV1a := Lib.hid (show In w9 w9.heap.size B1 d1 v2 from HVV.out.2.2.2.2.up hb9)
    clear hcc hb9 HA8 HC8 HK8 HP8 HX8 HVV
    refine wp_region_noPanic ?_
    refine wp_region_held_drew (S := fun W => Below w9.heap.size w9 W) (by kernel_rfl) (by exact below_drewN (Below.refl _ _) 1) (fun hHeld => ?_)
    replace hHeld : Below w9.heap.size w9 w9.drew := hHeld
    have HXwdp := Lib.hid (HXw9.out.trans (hHeld.mono HXw9.out.size))
    have HYwdp := Lib.hid (show Below w9.heap.size w9 w9.drew from hHeld)
    generalize w9.drew = wdp at *
    refine anyH_mono (S' := fun W => Below wdp.heap.size wdp W) (fun W h => hHeld.trans (h.mono hHeld.size)) _ _ _ _ ?_
    clear hHeld
    have hHeld : Below wdp.heap.size wdp wdp := Below.refl _ _
    refine wpAnyH_take (i := 0) (oi := ⟨_, _, _, _, _, _⟩) (v := ?_) rfl (by kernel_rfl) (by kernel_rfl) (by kernel_rfl) (fun _ _ _ h => h) (Or.inl ⟨by rfl, ?_⟩) hHeld ?_
    rotate_left 1
    · (intro W hSw; (try dsimp only at hSw); go_simp; try with_reducible rfl)
    try simp only [Act.put, List.setIfInBounds_toArray, List.set_cons_zero, List.set_cons_succ]
    refine wpAnyH_take (i := 1) (oi := ⟨_, _, _, _, _, _⟩) (v := ?_) rfl (by kernel_rfl) (by kernel_rfl) (by kernel_rfl) (fun _ _ _ h => h) (Or.inl ⟨by rfl, ?_⟩) hHeld ?_
    rotate_left 1
    · (intro W hSw; (try dsimp only at hSw); have hcc : W.cell? ⟨g15, 18, none⟩ = some (.slice (some ⟨gp, op, none⟩) 2 c15) := (((HPw9.out).below (HYwdp.out.trans (hSw.mono HYwdp.out.size)) (HPw9.out).lt).cell 18).trans (pkC_last _ _ _ _ _ _ HDL.out); go_simp; try with_reducible rfl)
    try simp only [Act.put, List.setIfInBounds_toArray, List.set_cons_zero, List.set_cons_succ]
    refine wpAnyH_take (i := 2) (oi := ⟨_, _, _, _, _, _⟩) (v := ?_) rfl (by kernel_rfl) (by kernel_rfl) (by kernel_rfl) (fun _ _ _ h => h) (Or.inl ⟨by rfl, ?_⟩) hHeld ?_
    rotate_left 1
    · (intro W hSw; (try dsimp only at hSw); go_simp; try with_reducible rfl)
    try simp only [Act.put, List.setIfInBounds_toArray, List.set_cons_zero, List.set_cons_succ]
    refine wpAnyH_take (i := 3) (oi := ⟨_, _, _, _, _, _⟩) (v := ?_) rfl (by kernel_rfl) (by kernel_rfl) (by kernel_rfl) (fun _ _ _ h => h) (Or.inl ⟨by rfl, ?_⟩) hHeld ?_
    rotate_left 1
    · (intro W hSw; (try dsimp only at hSw); go_simp; try with_reducible rfl)
    try simp only [Act.put, List.setIfInBounds_toArray, List.set_cons_zero, List.set_cons_succ]
    refine wpAnyH_take (i := 4) (oi := ⟨_, _, _, _, _, _⟩) (v := ?_) rfl (by kernel_rfl) (by kernel_rfl) (by kernel_rfl) (fun _ _ _ h => h) (Or.inl ⟨by rfl, ?_⟩) hHeld ?_
    rotate_left 1
    · (intro W hSw; (try dsimp only at hSw); have hce : W.cell? ⟨gp, op + 1, none⟩ = some (.slice B0 a1 d0) := HCV0.out W (HYwdp.out.trans (hSw.mono HYwdp.out.size)); go_simp; try with_reducible rfl)
    try simp only [Act.put, List.setIfInBounds_toArray, List.set_cons_zero, List.set_cons_succ]
    refine' wpAnyH_take (i := 5) (oi := ⟨_, _, _, _, _, _⟩) rfl (by kernel_rfl) (by kernel_rfl) (by kernel_rfl) (fun _ _ _ h => h) (yieldsIf_load_mid (by rfl) 22 _ rfl gk 0 rfl (M.map B8) _ (fun W hSw => rangeAt_of_blk ((HKw9.out).below (HYwdp.out.trans (hSw.mono HYwdp.out.size)) (HKw9.out).lt)) Tryd.underlying22 rfl (inf16.trans (by rw [List.length_map, HML.out]))) hHeld ?_
    try simp only [Act.put, List.setIfInBounds_toArray, List.set_cons_zero, List.set_cons_succ]
    refine wpAnyH_take (i := 6) (oi := ⟨_, _, _, _, _, _⟩) (v := ?_) rfl (by kernel_rfl) (by kernel_rfl) (by kernel_rfl) (fun _ _ _ h => h) (Or.inl ⟨by rfl, ?_⟩) hHeld ?_
    rotate_left 1
    · (intro W hSw; (try dsimp only at hSw); go_simp; try with_reducible rfl)
    try simp only [Act.put, List.setIfInBounds_toArray, List.set_cons_zero, List.set_cons_succ]
    refine wpAnyH_ready (rs := [7]) (by kernel_rfl) (by simp) ?_
    refine AllReadyH.cons (o := ⟨_, _, _, _, _, _⟩) rfl (fun K hK => ?_) AllReadyH.nil
    go_simp
    go_at_call 41
    refine (HU1.out _ _ _ (HV0.out.up HYwdp.out) HXwdp.out).mono ?_
    rintro e wA ⟨D0, e0, rfl, hIv, hba⟩
    try go_wp2_with fail
    have hszx := hHeld.size
    refine hK.out _ _ (hHeld.trans (hba.mono hszx)) (fun hHeld => ?_)
    clear hK K hszx
    replace hHeld : Below wdp.heap.size wdp wA := hHeld
    have HXwA := Lib.hid (HXwdp.out.trans (hHeld.mono HXwdp.out.size))
    have HYwA := Lib.hid (HYwdp.out.trans (hHeld.mono HYwdp.out.size))
    have HI0 := Lib.hid hIv
    clear hIv
    try simp only [Act.put, List.setIfInBounds_toArray, List.set_cons_zero, List.set_cons_succ]
    refine anyH_mono (S' := fun W => Below wA.heap.size wA W) (fun W h => hHeld.trans (h.mono hHeld.size)) _ _ _ _ ?_
    clear hHeld
    have hHeld : Below wA.heap.size wA wA := Below.refl _ _
    refine wpAnyH_take (i := 8) (oi := ⟨_, _, _, _, _, _⟩) (v := ?_) rfl (by kernel_rfl) (by kernel_rfl) (by kernel_rfl) (fun _ _ _ h => h) (Or.inl ⟨by rfl, ?_⟩) hHeld ?_
    rotate_left 1
    · (intro W hSw; (try dsimp only at hSw); go_simp; try with_reducible rfl)
    try simp only [Act.put, List.setIfInBounds_toArray, List.set_cons_zero, List.set_cons_succ]
    refine wpAnyH_take (i := 9) (oi := ⟨_, _, _, _, _, _⟩) (v := ?_) rfl (by kernel_rfl) (by kernel_rfl) (by kernel_rfl) (fun _ _ _ h => h) (Or.inl ⟨by rfl, ?_⟩) hHeld ?_
    rotate_left 1
    · (intro W hSw; (try dsimp only at hSw); go_simp; try with_reducible rfl)
    try simp only [Act.put, List.setIfInBounds_toArray, List.set_cons_zero, List.set_cons_succ]
    refine wpAnyH_take (i := 10) (oi := ⟨_, _, _, _, _, _⟩) (v := ?_) rfl (by kernel_rfl) (by kernel_rfl) (by kernel_rfl) (fun _ _ _ h => h) (Or.inl ⟨by rfl, ?_⟩) hHeld ?_
    rotate_left 1
    · (intro W hSw; (try dsimp only at hSw); go_simp; try with_reducible rfl)
    try simp only [Act.put, List.setIfInBounds_toArray, List.set_cons_zero, List.set_cons_succ]
    refine wpAnyH_take (i := 11) (oi := ⟨_, _, _, _, _, _⟩) (v := ?_) rfl (by kernel_rfl) (by kernel_rfl) (by kernel_rfl) (fun _ _ _ h => h) (Or.inl ⟨by rfl, ?_⟩) hHeld ?_
    rotate_left 1
    · (intro W hSw; (try dsimp only at hSw); go_simp; try with_reducible rfl)
    try simp only [Act.put, List.setIfInBounds_toArray, List.set_cons_zero, List.set_cons_succ]
    refine wpAnyH_take (i := 12) (oi := ⟨_, _, _, _, _, _⟩) (v := ?_) rfl (by kernel_rfl) (by kernel_rfl) (by kernel_rfl) (fun _ _ _ h => h) (Or.inl ⟨by rfl, ?_⟩) hHeld ?_
    rotate_left 1
    · (intro W hSw; (try dsimp only at hSw); go_simp; try with_reducible rfl)
    try simp only [Act.put, List.setIfInBounds_toArray, List.set_cons_zero, List.set_cons_succ]
    refine wpAnyH_take (i := 13) (oi := ⟨_, _, _, _, _, _⟩) (v := ?_) rfl (by kernel_rfl) (by kernel_rfl) (by kernel_rfl) (fun _ _ _ h => h) (Or.inl ⟨by rfl, ?_⟩) hHeld ?_
    rotate_left 1
    · (intro W hSw; (try dsimp only at hSw); go_simp; try with_reducible rfl)
    try simp only [Act.put, List.setIfInBounds_toArray, List.set_cons_zero, List.set_cons_succ]
    refine wpAnyH_take (i := 14) (oi := ⟨_, _, _, _, _, _⟩) (v := ?_) rfl (by kernel_rfl) (by kernel_rfl) (by kernel_rfl) (fun _ _ _ h => h) (Or.inl ⟨by rfl, ?_⟩) hHeld ?_
    rotate_left 1
    · (intro W hSw; (try dsimp only at hSw); go_simp; try with_reducible rfl)
    try simp only [Act.put, List.setIfInBounds_toArray, List.set_cons_zero, List.set_cons_succ]
    refine wpAnyH_done (by kernel_rfl) ?_ _
    refine NoPanic.normal ?_
    clear hHeld
    have HPwA := Lib.hid (HPw9.out.below HYwA.out HPw9.out.lt)
    have HKwA := Lib.hid (HKw9.out.below HYwA.out HKw9.out.lt)
    have HAA := Lib.hid (HA9.out.below HYwA.out HA9.out.lt)
    have HCA := Lib.hid (HC9.out.below HYwA.out HC9.out.lt)
    have HV1 := Lib.hid (HV1a.out.up HYwA.out)
    have HCV1a := Lib.hid (fun (W : World) (h : Below wA.heap.size wA W) => HCV1.out W (HYwA.out.trans (h.mono HYwA.out.size)))
    clear HCV1
    have HCV1 := HCV1a
    clear HPw9 HKw9 HA9 HC9 HV1a HV0 HCV0 HCV1a
    go_upto_region 10 with (fail)
    refine wp_region_noPanic ?_
    refine wp_region_held_drew (S := fun W => Below wA.heap.size wA W) (by kernel_rfl) (by exact below_drewN (Below.refl _ _) 1) (fun hHeld => ?_)
    replace hHeld : Below wA.heap.size wA wA.drew := hHeld
    have HXwdq := Lib.hid (HXwA.out.trans (hHeld.mono HXwA.out.size))
    have HYwdq := Lib.hid (show Below wA.heap.size wA wA.drew from hHeld)
    generalize wA.drew = wdq at *
    refine anyH_mono (S' := fun W => Below wdq.heap.size wdq W) (fun W h => hHeld.trans (h.mono hHeld.size)) _ _ _ _ ?_
    clear hHeld
    have hHeld : Below wdq.heap.size wdq wdq := Below.refl _ _
    refine wpAnyH_take (i := 0) (oi := ⟨_, _, _, _, _, _⟩) (v := ?_) rfl (by kernel_rfl) (by kernel_rfl) (by kernel_rfl) (fun _ _ _ h => h) (Or.inl ⟨by rfl, ?_⟩) hHeld ?_
    rotate_left 1
    · (intro W hSw; (try dsimp only at hSw); go_simp; try with_reducible rfl)
    try simp only [Act.put, List.setIfInBounds_toArray, List.set_cons_zero, List.set_cons_succ]
    refine wpAnyH_take (i := 1) (oi := ⟨_, _, _, _, _, _⟩) (v := ?_) rfl (by kernel_rfl) (by kernel_rfl) (by kernel_rfl) (fun _ _ _ h => h) (Or.inl ⟨by rfl, ?_⟩) hHeld ?_
    rotate_left 1
    · (intro W hSw; (try dsimp only at hSw); have hcc : W.cell? ⟨g15, 18, none⟩ = some (.slice (some ⟨gp, op, none⟩) 2 c15) := (((HPwA.out).below (HYwdq.out.trans (hSw.mono HYwdq.out.size)) (HPwA.out).lt).cell 18).trans (pkC_last _ _ _ _ _ _ HDL.out); go_simp; try with_reducible rfl)
    try simp only [Act.put, List.setIfInBounds_toArray, List.set_cons_zero, List.set_cons_succ]
    refine wpAnyH_take (i := 2) (oi := ⟨_, _, _, _, _, _⟩) (v := ?_) rfl (by kernel_rfl) (by kernel_rfl) (by kernel_rfl) (fun _ _ _ h => h) (Or.inl ⟨by rfl, ?_⟩) hHeld ?_
    rotate_left 1
    · (intro W hSw; (try dsimp only at hSw); go_simp; try with_reducible rfl)
    try simp only [Act.put, List.setIfInBounds_toArray, List.set_cons_zero, List.set_cons_succ]
    refine wpAnyH_take (i := 3) (oi := ⟨_, _, _, _, _, _⟩) (v := ?_) rfl (by kernel_rfl) (by kernel_rfl) (by kernel_rfl) (fun _ _ _ h => h) (Or.inl ⟨by rfl, ?_⟩) hHeld ?_
    rotate_left 1
    · (intro W hSw; (try dsimp only at hSw); go_simp; try with_reducible rfl)
    try simp only [Act.put, List.setIfInBounds_toArray, List.set_cons_zero, List.set_cons_succ]
    refine wpAnyH_take (i := 4) (oi := ⟨_, _, _, _, _, _⟩) (v := ?_) rfl (by kernel_rfl) (by kernel_rfl) (by kernel_rfl) (fun _ _ _ h => h) (Or.inl ⟨by rfl, ?_⟩) hHeld ?_
    rotate_left 1
    · (intro W hSw; (try dsimp only at hSw); have hce : W.cell? ⟨gp, op + 3, none⟩ = some (.slice B1 a2 d1) := HCV1.out W (HYwdq.out.trans (hSw.mono HYwdq.out.size)); go_simp; try with_reducible rfl)
    try simp only [Act.put, List.setIfInBounds_toArray, List.set_cons_zero, List.set_cons_succ]
    refine' wpAnyH_take (i := 5) (oi := ⟨_, _, _, _, _, _⟩) rfl (by kernel_rfl) (by kernel_rfl) (by kernel_rfl) (fun _ _ _ h => h) (yieldsIf_load_mid (by rfl) 22 _ rfl gk 0 rfl (M.map B8) _ (fun W hSw => rangeAt_of_blk ((HKwA.out).below (HYwdq.out.trans (hSw.mono HYwdq.out.size)) (HKwA.out).lt)) Tryd.underlying22 rfl (inf16.trans (by rw [List.length_map, HML.out]))) hHeld ?_
    try simp only [Act.put, List.setIfInBounds_toArray, List.set_cons_zero, List.set_cons_succ]
    refine wpAnyH_take (i := 6) (oi := ⟨_, _, _, _, _, _⟩) (v := ?_) rfl (by kernel_rfl) (by kernel_rfl) (by kernel_rfl) (fun _ _ _ h => h) (Or.inl ⟨by rfl, ?_⟩) hHeld ?_
    rotate_left 1
    · (intro W hSw; (try dsimp only at hSw); go_simp; try with_reducible rfl)
    try simp only [Act.put, List.setIfInBounds_toArray, List.set_cons_zero, List.set_cons_succ]
    refine wpAnyH_ready (rs := [7]) (by kernel_rfl) (by simp) ?_
    refine AllReadyH.cons (o := ⟨_, _, _, _, _, _⟩) rfl (fun K hK => ?_) AllReadyH.nil
    go_simp
    go_at_call 41
    refine (HU2.out _ _ _ (HV1.out.up HYwdq.out) HXwdq.out).mono ?_
    rintro e wB ⟨D1, e1, rfl, hIv, hba⟩
    try go_wp2_with fail
    have hszx := hHeld.size
    refine hK.out _ _ (hHeld.trans (hba.mono hszx)) (fun hHeld => ?_)
    clear hK K hszx
    replace hHeld : Below wdq.heap.size wdq wB := hHeld
    have HXwB := Lib.hid (HXwdq.out.trans (hHeld.mono HXwdq.out.size))
    have HYwB := Lib.hid (HYwdq.out.trans (hHeld.mono HYwdq.out.size))
    have HI1 := Lib.hid hIv
    clear hIv
    try simp only [Act.put, List.setIfInBounds_toArray, List.set_cons_zero, List.set_cons_succ]
    refine anyH_mono (S' := fun W => Below wB.heap.size wB W) (fun W h => hHeld.trans (h.mono hHeld.size)) _ _ _ _ ?_
    clear hHeld
    have hHeld : Below wB.heap.size wB wB := Below.refl _ _
    refine wpAnyH_take (i := 8) (oi := ⟨_, _, _, _, _, _⟩) (v := ?_) rfl (by kernel_rfl) (by kernel_rfl) (by kernel_rfl) (fun _ _ _ h => h) (Or.inl ⟨by rfl, ?_⟩) hHeld ?_
    rotate_left 1
    · (intro W hSw; (try dsimp only at hSw); go_simp; try with_reducible rfl)
    try simp only [Act.put, List.setIfInBounds_toArray, List.set_cons_zero, List.set_cons_succ]
    refine wpAnyH_take (i := 9) (oi := ⟨_, _, _, _, _, _⟩) (v := ?_) rfl (by kernel_rfl) (by kernel_rfl) (by kernel_rfl) (fun _ _ _ h => h) (Or.inl ⟨by rfl, ?_⟩) hHeld ?_
    rotate_left 1
    · (intro W hSw; (try dsimp only at hSw); go_simp; try with_reducible rfl)
    try simp only [Act.put, List.setIfInBounds_toArray, List.set_cons_zero, List.set_cons_succ]
    refine wpAnyH_take (i := 10) (oi := ⟨_, _, _, _, _, _⟩) (v := ?_) rfl (by kernel_rfl) (by kernel_rfl) (by kernel_rfl) (fun _ _ _ h => h) (Or.inl ⟨by rfl, ?_⟩) hHeld ?_
    rotate_left 1
    · (intro W hSw; (try dsimp only at hSw); go_simp; try with_reducible rfl)
    try simp only [Act.put, List.setIfInBounds_toArray, List.set_cons_zero, List.set_cons_succ]
    refine wpAnyH_take (i := 11) (oi := ⟨_, _, _, _, _, _⟩) (v := ?_) rfl (by kernel_rfl) (by kernel_rfl) (by kernel_rfl) (fun _ _ _ h => h) (Or.inl ⟨by rfl, ?_⟩) hHeld ?_
    rotate_left 1
    · (intro W hSw; (try dsimp only at hSw); go_simp; try with_reducible rfl)
    try simp only [Act.put, List.setIfInBounds_toArray, List.set_cons_zero, List.set_cons_succ]
    refine wpAnyH_take (i := 12) (oi := ⟨_, _, _, _, _, _⟩) (v := ?_) rfl (by kernel_rfl) (by kernel_rfl) (by kernel_rfl) (fun _ _ _ h => h) (Or.inl ⟨by rfl, ?_⟩) hHeld ?_
    rotate_left 1
    · (intro W hSw; (try dsimp only at hSw); go_simp; try with_reducible rfl)
    try simp only [Act.put, List.setIfInBounds_toArray, List.set_cons_zero, List.set_cons_succ]
    refine wpAnyH_take (i := 13) (oi := ⟨_, _, _, _, _, _⟩) (v := ?_) rfl (by kernel_rfl) (by kernel_rfl) (by kernel_rfl) (fun _ _ _ h => h) (Or.inl ⟨by rfl, ?_⟩) hHeld ?_
    rotate_left 1
    · (intro W hSw; (try dsimp only at hSw); go_simp; try with_reducible rfl)
    try simp only [Act.put, List.setIfInBounds_toArray, List.set_cons_zero, List.set_cons_succ]
    refine wpAnyH_take (i := 14) (oi := ⟨_, _, _, _, _, _⟩) (v := ?_) rfl (by kernel_rfl) (by kernel_rfl) (by kernel_rfl) (fun _ _ _ h => h) (Or.inl ⟨by rfl, ?_⟩) hHeld ?_
    rotate_left 1
    · (intro W hSw; (try dsimp only at hSw); go_simp; try with_reducible rfl)
    try simp only [Act.put, List.setIfInBounds_toArray, List.set_cons_zero, List.set_cons_succ]
    refine wpAnyH_done (by kernel_rfl) ?_ _
    refine NoPanic.normal ?_
    clear hHeld
    have HAB := Lib.hid (HAA.out.below HYwB.out HAA.out.lt)
    have HCB := Lib.hid (HCA.out.below HYwB.out HCA.out.lt)
    have HI0B := Lib.hid (HI0.out.up HYwB.out)
    clear HAA HCA HI0 HPwA HKwA HV1 HCV1
    go_upto_region 11 with (fail)
    refine wp_region_noPanic ?_
    refine wp_region_held_drew (S := fun W => Below wB.heap.size wB W) (by kernel_rfl) (by exact below_drewN (Below.refl _ _) 1) (fun hHeld => ?_)
    replace hHeld : Below wB.heap.size wB wB.drew := hHeld
    have HXws := Lib.hid (HXwB.out.trans (hHeld.mono HXwB.out.size))
    have HYws := Lib.hid (show Below wB.heap.size wB wB.drew from hHeld)
    generalize wB.drew = ws at *
    refine anyH_mono (S' := fun W => Below ws.heap.size ws W) (fun W h => hHeld.trans (h.mono hHeld.size)) _ _ _ _ ?_
    clear hHeld
    have hHeld : Below ws.heap.size ws ws := Below.refl _ _
    refine wpAnyH_take (i := 0) (oi := ⟨_, _, _, _, _, _⟩) (v := ?_) rfl (by kernel_rfl) (by kernel_rfl) (by kernel_rfl) (fun _ _ _ h => h) (Or.inl ⟨by rfl, ?_⟩) hHeld ?_
    rotate_left 1
    · (intro W hSw; (try dsimp only at hSw); go_simp; try with_reducible rfl)
    try simp only [Act.put, List.setIfInBounds_toArray, List.set_cons_zero, List.set_cons_succ]
    refine wpAnyH_take (i := 1) (oi := ⟨_, _, _, _, _, _⟩) (v := ?_) rfl (by kernel_rfl) (by kernel_rfl) (by kernel_rfl) (fun _ _ _ h => h) (Or.inl ⟨by rfl, ?_⟩) hHeld ?_
    rotate_left 1
    · (intro W hSw; (try dsimp only at hSw); go_simp; try with_reducible rfl)
    try simp only [Act.put, List.setIfInBounds_toArray, List.set_cons_zero, List.set_cons_succ]
    refine wpAnyH_take (i := 2) (oi := ⟨_, _, _, _, _, _⟩) (v := ?_) rfl (by kernel_rfl) (by kernel_rfl) (by kernel_rfl) (fun _ _ _ h => h) (Or.inl ⟨by rfl, ?_⟩) hHeld ?_
    rotate_left 1
    · (intro W hSw; (try dsimp only at hSw); go_simp; try with_reducible rfl)
    try simp only [Act.put, List.setIfInBounds_toArray, List.set_cons_zero, List.set_cons_succ]
    refine wpAnyH_take (i := 3) (oi := ⟨_, _, _, _, _, _⟩) (v := ?_) rfl (by kernel_rfl) (by kernel_rfl) (by kernel_rfl) (fun _ _ _ h => h) (Or.inl ⟨by rfl, ?_⟩) hHeld ?_
    rotate_left 1
    · (intro W hSw; (try dsimp only at hSw); go_simp; try with_reducible rfl)
    try simp only [Act.put, List.setIfInBounds_toArray, List.set_cons_zero, List.set_cons_succ]
    refine wpAnyH_take (i := 4) (oi := ⟨_, _, _, _, _, _⟩) (v := ?_) rfl (by kernel_rfl) (by kernel_rfl) (by kernel_rfl) (fun _ _ _ h => h) (Or.inl ⟨by rfl, ?_⟩) hHeld ?_
    rotate_left 1
    · (intro W hSw; (try dsimp only at hSw); go_simp; try with_reducible rfl)
    try simp only [Act.put, List.setIfInBounds_toArray, List.set_cons_zero, List.set_cons_succ]
    refine wpAnyH_take (i := 5) (oi := ⟨_, _, _, _, _, _⟩) (v := ?_) rfl (by kernel_rfl) (by kernel_rfl) (by kernel_rfl) (fun _ _ _ h => h) (Or.inl ⟨by rfl, ?_⟩) hHeld ?_
    rotate_left 1
    · (intro W hSw; (try dsimp only at hSw); go_simp; try with_reducible rfl)
    try simp only [Act.put, List.setIfInBounds_toArray, List.set_cons_zero, List.set_cons_succ]
    refine wpAnyH_take (i := 6) (oi := ⟨_, _, _, _, _, _⟩) (v := ?_) rfl (by kernel_rfl) (by kernel_rfl) (by kernel_rfl) (fun _ _ _ h => h) (Or.inl ⟨by rfl, ?_⟩) hHeld ?_
    rotate_left 1
    · (intro W hSw; (try dsimp only at hSw); go_simp; try with_reducible rfl)
    try simp only [Act.put, List.setIfInBounds_toArray, List.set_cons_zero, List.set_cons_succ]
    refine wpAnyH_take (i := 7) (oi := ⟨_, _, _, _, _, _⟩) (v := ?_) rfl (by kernel_rfl) (by kernel_rfl) (by kernel_rfl) (fun _ _ _ h => h) (Or.inl ⟨by rfl, ?_⟩) hHeld ?_
    rotate_left 1
    · (intro W hSw; (try dsimp only at hSw); go_simp; try with_reducible rfl)
    try simp only [Act.put, List.setIfInBounds_toArray, List.set_cons_zero, List.set_cons_succ]
    refine wpAnyH_take (i := 8) (oi := ⟨_, _, _, _, _, _⟩) (v := ?_) rfl (by kernel_rfl) (by kernel_rfl) (by kernel_rfl) (fun _ _ _ h => h) (Or.inl ⟨by rfl, ?_⟩) hHeld ?_
    rotate_left 1
    · (intro W hSw; (try dsimp only at hSw); go_simp; try with_reducible rfl)
    try simp only [Act.put, List.setIfInBounds_toArray, List.set_cons_zero, List.set_cons_succ]
    refine wpAnyH_take (i := 9) (oi := ⟨_, _, _, _, _, _⟩) (v := ?_) rfl (by kernel_rfl) (by kernel_rfl) (by kernel_rfl) (fun _ _ _ h => h) (Or.inl ⟨by rfl, ?_⟩) hHeld ?_
    rotate_left 1
    · (intro W hSw; (try dsimp only at hSw); go_simp; try with_reducible rfl)
    try simp only [Act.put, List.setIfInBounds_toArray, List.set_cons_zero, List.set_cons_succ]
    refine wpAnyH_take (i := 10) (oi := ⟨_, _, _, _, _, _⟩) (v := ?_) rfl (by kernel_rfl) (by kernel_rfl) (by kernel_rfl) (fun _ _ _ h => h) (Or.inl ⟨by rfl, ?_⟩) hHeld ?_
    rotate_left 1
    · (intro W hSw; (try dsimp only at hSw); go_simp; try with_reducible rfl)
    try simp only [Act.put, List.setIfInBounds_toArray, List.set_cons_zero, List.set_cons_succ]
    refine wpAnyH_take (i := 11) (oi := ⟨_, _, _, _, _, _⟩) (v := ?_) rfl (by kernel_rfl) (by kernel_rfl) (by kernel_rfl) (fun _ _ _ h => h) (Or.inl ⟨by rfl, ?_⟩) hHeld ?_
    rotate_left 1
    · (intro W hSw; (try dsimp only at hSw); go_simp; try with_reducible rfl)
    try simp only [Act.put, List.setIfInBounds_toArray, List.set_cons_zero, List.set_cons_succ]
    refine wpAnyH_take (i := 12) (oi := ⟨_, _, _, _, _, _⟩) (v := ?_) rfl (by kernel_rfl) (by kernel_rfl) (by kernel_rfl) (fun _ _ _ h => h) (Or.inl ⟨by rfl, ?_⟩) hHeld ?_
    rotate_left 1
    · (intro W hSw; (try dsimp only at hSw); go_simp; try with_reducible rfl)
    try simp only [Act.put, List.setIfInBounds_toArray, List.set_cons_zero, List.set_cons_succ]
    refine wpAnyH_take (i := 13) (oi := ⟨_, _, _, _, _, _⟩) (v := ?_) rfl (by kernel_rfl) (by kernel_rfl) (by kernel_rfl) (fun _ _ _ h => h) (Or.inl ⟨by rfl, ?_⟩) hHeld ?_
    rotate_left 1
    · (intro W hSw; (try dsimp only at hSw); go_simp; try with_reducible rfl)
    try simp only [Act.put, List.setIfInBounds_toArray, List.set_cons_zero, List.set_cons_succ]
    refine wpAnyH_take (i := 14) (oi := ⟨_, _, _, _, _, _⟩) (v := ?_) rfl (by kernel_rfl) (by kernel_rfl) (by kernel_rfl) (fun _ _ _ h => h) (Or.inl ⟨by rfl, ?_⟩) hHeld ?_
    rotate_left 1
    · (intro W hSw; (try dsimp only at hSw); go_simp; try with_reducible rfl)
    try simp only [Act.put, List.setIfInBounds_toArray, List.set_cons_zero, List.set_cons_succ]
    refine wpAnyH_take (i := 15) (oi := ⟨_, _, _, _, _, _⟩) (v := ?_) rfl (by kernel_rfl) (by kernel_rfl) (by kernel_rfl) (fun _ _ _ h => h) (Or.inl ⟨by rfl, ?_⟩) hHeld ?_
    rotate_left 1
    · (intro W hSw; (try dsimp only at hSw); go_simp; try with_reducible rfl)
    try simp only [Act.put, List.setIfInBounds_toArray, List.set_cons_zero, List.set_cons_succ]
    refine wpAnyH_take (i := 16) (oi := ⟨_, _, _, _, _, _⟩) (v := ?_) rfl (by kernel_rfl) (by kernel_rfl) (by kernel_rfl) (fun _ _ _ h => h) (Or.inl ⟨by rfl, ?_⟩) hHeld ?_
    rotate_left 1
    · (intro W hSw; (try dsimp only at hSw); have hcv := conv_in HKL.out.1 (HI0B.out.up (HYws.out.trans (hSw.mono HYws.out.size))); go_simp; try with_reducible rfl)
    try simp only [Act.put, List.setIfInBounds_toArray, List.set_cons_zero, List.set_cons_succ]
    refine wpAnyH_take (i := 17) (oi := ⟨_, _, _, _, _, _⟩) (v := .slice (some ⟨g7, 0, none⟩) 32 32) rfl (by kernel_rfl) (by kernel_rfl) (by kernel_rfl) (fun _ _ _ h => h) (Or.inl ⟨by rfl, ?_⟩) hHeld ?_
    · (intro W hSw; go_simp)
    try simp only [Act.put, List.setIfInBounds_toArray, List.set_cons_zero, List.set_cons_succ]
    refine wpAnyH_take (i := 18) (oi := ⟨_, _, _, _, _, _⟩) (v := ?_) rfl (by kernel_rfl) (by kernel_rfl) (by kernel_rfl) (fun _ _ _ h => h) (Or.inl ⟨by rfl, ?_⟩) hHeld ?_
    rotate_left 1
    · (intro W hSw; (try dsimp only at hSw); have hcv := conv_in HKL.out.1 (in_b32 ((HAB.out).below (HYws.out.trans (hSw.mono HYws.out.size)) (HAB.out).lt) HKL.out.1); go_simp; try with_reducible rfl)
    try simp only [Act.put, List.setIfInBounds_toArray, List.set_cons_zero, List.set_cons_succ]
    refine wpAnyH_take (i := 19) (oi := ⟨_, _, _, _, _, _⟩) (v := ?_) rfl (by kernel_rfl) (by kernel_rfl) (by kernel_rfl) (fun _ _ _ h => h) (Or.inl ⟨by rfl, ?_⟩) hHeld ?_
    rotate_left 1
    · (intro W hSw; (try dsimp only at hSw); go_simp; try with_reducible rfl)
    try simp only [Act.put, List.setIfInBounds_toArray, List.set_cons_zero, List.set_cons_succ]
    refine wpAnyH_take (i := 20) (oi := ⟨_, _, _, _, _, _⟩) (v := ?_) rfl (by kernel_rfl) (by kernel_rfl) (by kernel_rfl) (fun _ _ _ h => h) (Or.inl ⟨by rfl, ?_⟩) hHeld ?_
    rotate_left 1
    · (intro W hSw; (try dsimp only at hSw); go_simp; try with_reducible rfl)
    try simp only [Act.put, List.setIfInBounds_toArray, List.set_cons_zero, List.set_cons_succ]
    refine wpAnyH_take (i := 21) (oi := ⟨_, _, _, _, _, _⟩) (v := ?_) rfl (by kernel_rfl) (by kernel_rfl) (by kernel_rfl) (fun _ _ _ h => h) (Or.inl ⟨by rfl, ?_⟩) hHeld ?_
    rotate_left 1
    · (intro W hSw; (try dsimp only at hSw); go_simp; try with_reducible rfl)
    try simp only [Act.put, List.setIfInBounds_toArray, List.set_cons_zero, List.set_cons_succ]
    refine wpAnyH_take (i := 22) (oi := ⟨_, _, _, _, _, _⟩) (v := ?_) rfl (by kernel_rfl) (by kernel_rfl) (by kernel_rfl) (fun _ _ _ h => h) (Or.inl ⟨by rfl, ?_⟩) hHeld ?_
    rotate_left 1
    · (intro W hSw; (try dsimp only at hSw); go_simp; try with_reducible rfl)
    try simp only [Act.put, List.setIfInBounds_toArray, List.set_cons_zero, List.set_cons_succ]
    refine wpAnyH_take (i := 23) (oi := ⟨_, _, _, _, _, _⟩) (v := ?_) rfl (by kernel_rfl) (by kernel_rfl) (by kernel_rfl) (fun _ _ _ h => h) (Or.inl ⟨by rfl, ?_⟩) hHeld ?_
    rotate_left 1
    · (intro W hSw; (try dsimp only at hSw); have hcv := conv_in HKL.out.2 (HI1.out.up (HYws.out.trans (hSw.mono HYws.out.size))); go_simp; try with_reducible rfl)
    try simp only [Act.put, List.setIfInBounds_toArray, List.set_cons_zero, List.set_cons_succ]
    refine wpAnyH_take (i := 24) (oi := ⟨_, _, _, _, _, _⟩) (v := .slice (some ⟨g8, 0, none⟩) 32 32) rfl (by kernel_rfl) (by kernel_rfl) (by kernel_rfl) (fun _ _ _ h => h) (Or.inl ⟨by rfl, ?_⟩) hHeld ?_
    · (intro W hSw; go_simp)
    try simp only [Act.put, List.setIfInBounds_toArray, List.set_cons_zero, List.set_cons_succ]
    refine wpAnyH_take (i := 25) (oi := ⟨_, _, _, _, _, _⟩) (v := ?_) rfl (by kernel_rfl) (by kernel_rfl) (by kernel_rfl) (fun _ _ _ h => h) (Or.inl ⟨by rfl, ?_⟩) hHeld ?_
    rotate_left 1
    · (intro W hSw; (try dsimp only at hSw); have hcv := conv_in HKL.out.2 (in_b32 ((HCB.out).below (HYws.out.trans (hSw.mono HYws.out.size)) (HCB.out).lt) HKL.out.2); go_simp; try with_reducible rfl)
    try simp only [Act.put, List.setIfInBounds_toArray, List.set_cons_zero, List.set_cons_succ]
    refine wpAnyH_take (i := 26) (oi := ⟨_, _, _, _, _, _⟩) (v := ?_) rfl (by kernel_rfl) (by kernel_rfl) (by kernel_rfl) (fun _ _ _ h => h) (Or.inl ⟨by rfl, ?_⟩) hHeld ?_
    rotate_left 1
    · (intro W hSw; (try dsimp only at hSw); go_simp; try with_reducible rfl)
    try simp only [Act.put, List.setIfInBounds_toArray, List.set_cons_zero, List.set_cons_succ]
    refine wpAnyH_take (i := 27) (oi := ⟨_, _, _, _, _, _⟩) (v := ?_) rfl (by kernel_rfl) (by kernel_rfl) (by kernel_rfl) (fun _ _ _ h => h) (Or.inl ⟨by rfl, ?_⟩) hHeld ?_
    rotate_left 1
    · (intro W hSw; (try dsimp only at hSw); go_simp; try with_reducible rfl)
    try simp only [Act.put, List.setIfInBounds_toArray, List.set_cons_zero, List.set_cons_succ]
    refine wpAnyH_take (i := 28) (oi := ⟨_, _, _, _, _, _⟩) (v := ?_) rfl (by kernel_rfl) (by kernel_rfl) (by kernel_rfl) (fun _ _ _ h => h) (Or.inl ⟨by rfl, ?_⟩) hHeld ?_
    rotate_left 1
    · (intro W hSw; (try dsimp only at hSw); go_simp; try with_reducible rfl)
    try simp only [Act.put, List.setIfInBounds_toArray, List.set_cons_zero, List.set_cons_succ]
    refine wpAnyH_done (by kernel_rfl) ?_ _
    refine NoPanic.normal ?_
    clear hHeld
    go_wp2
    go_ret
    exact ⟨rfl, HXws.out⟩
end Go.Proofs.YtbomckbekcaemaaDoor
