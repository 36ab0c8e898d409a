/-
  The reference's Body: the kinds whose body is short.
-/
import Derived.Test.YtagblbfbjemfhaaDoorJm1
namespace Go.Proofs.YtagblbfbjemfhaaDoor
open Go.RowKit
open HelloMath (Msg zero32 some8 special formM bodyM okM fitM okF sized wide numB numB_length vecB vecB_length)

theorem wpT {P : Program} {ops : Array Oper} {Q : Exit → Act → World → Prop} {md : Region.Mode} {S : World → Prop} {fuel : Nat} {listed : Array Bool} {a : Act} {w : World} (i : Nat) {d o t p f g} (v : Value) (hi : ops[i]? = some ⟨d, o, t, p, f, g⟩)
    (hs : Region.noSelect ops = true) (hf : Region.free md ops listed i = true) (hr : (Region.ready md ops listed).contains i = true) (hQ : ∀ c a' w', Q (.panic c) (a'.put d v) w' → Q (.panic c) a' w')
    (hw : Region.wanted ⟨d, o, t, p, f, g⟩ (yielded ops a.tmps) = true) (hy : ∀ w', S w' → (execOp a.eval ⟨d, o, t, p, f, g⟩).run P w' = .ok (.value v) w') (hS : S w)
    (h : wpAnyH P md ops Q S fuel (listed.setIfInBounds i true) (a.put d v) w) : wpAnyH P md ops Q S (fuel + 1) listed a w :=
  wpAnyH_take hi hs hf hr hQ (.inl ⟨hw, hy⟩) hS h
theorem wpU {P : Program} {ops : Array Oper} {Q : Exit → Act → World → Prop} {md : Region.Mode} {S : World → Prop} {fuel : Nat} {listed : Array Bool} {a : Act} {w : World} (i : Nat) {d o t p f g} (hi : ops[i]? = some ⟨d, o, t, p, f, g⟩)
    (hs : Region.noSelect ops = true) (hf : Region.free md ops listed i = true) (hr : (Region.ready md ops listed).contains i = true) (hQ : ∀ c a' w', Q (.panic c) (a'.put d undef) w' → Q (.panic c) a' w')
    (hw : Region.wanted ⟨d, o, t, p, f, g⟩ (yielded ops a.tmps) = false) (hS : S w)
    (h : wpAnyH P md ops Q S fuel (listed.setIfInBounds i true) (a.put d undef) w) : wpAnyH P md ops Q S (fuel + 1) listed a w :=
  wpAnyH_take hi hs hf hr hQ (.inr ⟨hw, rfl⟩) hS h
theorem ne_empty {l : List UInt8} (h : l ≠ []) : ((⟨l.toArray⟩ : ByteArray) == ⟨#[]⟩) = false ∧ ((⟨l.toArray⟩ : ByteArray) != ⟨#[]⟩) = true ∧ l.isEmpty = false := by
  cases l with
  | nil => exact absurd rfl h
  | cons a t => exact ⟨rfl, rfl, rfl⟩
theorem numI_4 (x : Int) (w : World) (hx : wide x = true) : Calls Tryd.prog 41 #[.int .i64 x, .int .i64 4] w fun e w' => e = .returned (TX (numB 4 x.toNat)) ∧ Below w.heap.size w w' := by
  unfold wide at hx
  simp at hx
  obtain ⟨n, rfl⟩ : ∃ n : Nat, x = (n : Int) := ⟨x.toNat, by omega⟩
  exact num_4 n w (by omega)
theorem rform_8 {m : Msg} (hk : m.kind = 8) : formM m = bareM m := by
  unfold formM okM fitM okF bareM
  rw [hk]
  simp
set_option maxRecDepth 100000 in
set_option maxHeartbeats 40000000 in
theorem rbody_8 (m : Msg) (cs : List Value) (w : World) (h : RIn w m cs) (hs : Small m) (hk : m.kind = 8) : Calls Tryd.prog 24 #[.agg cs.toArray] w (BodyP m w) := by
  have HL := Lib.hid h.1
  have HS := Lib.hid hs
  have HK := Lib.hid hk
  clear hs hk
  go_enter Tryd.func24, Tryd.ntmps24
  go_upto_region 0 with (fail)
  refine wp_region_lit ?_
  refine wpList_plain rfl (fun K hK => ?_)
  go_simp
  refine hK _ _ ?_
  clear hK K
  have hb1 : Below w.heap.size w (w.alloc (.cells cs.toArray 25)) := (Below.refl _ _).alloc (Nat.le_refl _) _
  have b1 := Blk.new w 25 cs
  have hr1 := h.below hb1
  clear h
  obtain ⟨g1, hg1⟩ : ∃ g, g = w.heap.size := ⟨_, rfl⟩
  rw [← hg1] at b1
  simp only [← hg1]
  clear hg1
  generalize w.alloc (.cells cs.toArray 25) = w1 at *
  try simp only [Act.put, zSa, zSz, zSs]
  refine wpList_plain rfl (fun K hK => ?_)
  go_simp
  refine hK _ _ ?_
  clear hK K
  try simp only [Act.put, zSa, zSz, zSs]
  refine wpList_plain rfl (fun K hK => ?_)
  go_simp
  refine hK _ _ ?_
  clear hK K
  try simp only [Act.put, zSa, zSz, zSs]
  go_upto_region 1 with (fail)
  refine wp_region_lit ?_
  refine wpList_load_mid rfl 25 (.tmp 1) rfl g1 0 rfl cs _ (rangeAt_of_blk b1) Tryd.underlying25 rfl (infoR.trans (by rw [hr1.len])) ?_
  try simp only [Act.put, zSa, zSz, zSs]
  refine wpList_new_blk rfl 25 rfl _ zeroR ?_
  intro g4 w2 hg4 b4 hb2
  try simp only [Act.put, zSa, zSz, zSs]
  refine wpList_store_blk rfl 25 (.tmp 4) (.tmp 11) rfl rfl g4 cs rfl rfl _ _ b4 (infoR.trans (by rw [hr1.len])) (by rw [hr1.len]; rfl) hr1.one ?_
  intro w3 b43 hg3
  try simp only [Act.put, zSa, zSz, zSs]
  have HG4 := Lib.hid (Nat.le_of_eq hg4.symm)
  have hbx : Below w1.heap.size w1 w3 := hb2.trans (grown_below hg3 HG4.out hb2.size)
  have HM := Lib.hid (show RAt w1 g1 m from ⟨cs, b1, hr1⟩)
  have HB1 := Lib.hid hb1
  obtain ⟨-, vc, hcs, hsr⟩ := hr1
  have HSR := Lib.hid hsr
  simp only [hcs] at b43 ⊢
  clear hb1 b1 hg4 b4 hb2 hg3 hsr hcs
  have hcc := (HM.out.below hbx).kind
  rw [HK.out] at hcc
  go_upto_region 3 with (fail)
  clear hcc
  go_upto_region 34 with (fail)
  refine wp_region_lit ?_
  refine wpList_load_mid rfl 25 (.tmp 4) rfl g4 0 rfl (rC m vc) _ (rangeAt_of_blk b43) Tryd.underlying25 rfl (infoR.trans (by rw [len_rC (m := m) HL.out])) ?_
  try simp only [Act.put, zSa, zSz, zSs]
  refine wpList_plain rfl (fun K hK0 => ?_)
  have hK := Lib.hid hK0
  clear hK0
  go_simp
  go_at_call 39
  refine (bare_e m (rC m vc) _ ⟨HL.out, vc, rfl, HSR.out.below hbx⟩).mono ?_
  rintro e w9 ⟨rfl, hb9⟩
  try go_wp2_with fail
  refine hK.out _ _ ?_
  clear hK K
  try simp only [Act.put, zSa, zSz, zSs]
  replace hbx := hbx.trans (hb9.mono hbx.size)
  have bx9 := b43.below hb9 b43.lt
  clear hb9 b43
  go_wp2
  go_ret2
  exact ⟨[0, 0], by rw [rform_8 HK.out]; rfl, fun _ => (by rw [bodyM, HK.out]; rfl), HB1.out.trans (hbx.mono HB1.out.size)⟩
theorem rform_13 {m : Msg} (hk : m.kind = 13) : formM m = bareM m := by
  unfold formM okM fitM okF bareM
  rw [hk]
  simp
set_option maxRecDepth 100000 in
set_option maxHeartbeats 40000000 in
theorem rbody_13 (m : Msg) (cs : List Value) (w : World) (h : RIn w m cs) (hs : Small m) (hk : m.kind = 13) : Calls Tryd.prog 24 #[.agg cs.toArray] w (BodyP m w) := by
  have HL := Lib.hid h.1
  have HS := Lib.hid hs
  have HK := Lib.hid hk
  clear hs hk
  go_enter Tryd.func24, Tryd.ntmps24
  go_upto_region 0 with (fail)
  refine wp_region_lit ?_
  refine wpList_plain rfl (fun K hK => ?_)
  go_simp
  refine hK _ _ ?_
  clear hK K
  have hb1 : Below w.heap.size w (w.alloc (.cells cs.toArray 25)) := (Below.refl _ _).alloc (Nat.le_refl _) _
  have b1 := Blk.new w 25 cs
  have hr1 := h.below hb1
  clear h
  obtain ⟨g1, hg1⟩ : ∃ g, g = w.heap.size := ⟨_, rfl⟩
  rw [← hg1] at b1
  simp only [← hg1]
  clear hg1
  generalize w.alloc (.cells cs.toArray 25) = w1 at *
  try simp only [Act.put, zSa, zSz, zSs]
  refine wpList_plain rfl (fun K hK => ?_)
  go_simp
  refine hK _ _ ?_
  clear hK K
  try simp only [Act.put, zSa, zSz, zSs]
  refine wpList_plain rfl (fun K hK => ?_)
  go_simp
  refine hK _ _ ?_
  clear hK K
  try simp only [Act.put, zSa, zSz, zSs]
  go_upto_region 1 with (fail)
  refine wp_region_lit ?_
  refine wpList_load_mid rfl 25 (.tmp 1) rfl g1 0 rfl cs _ (rangeAt_of_blk b1) Tryd.underlying25 rfl (infoR.trans (by rw [hr1.len])) ?_
  try simp only [Act.put, zSa, zSz, zSs]
  refine wpList_new_blk rfl 25 rfl _ zeroR ?_
  intro g4 w2 hg4 b4 hb2
  try simp only [Act.put, zSa, zSz, zSs]
  refine wpList_store_blk rfl 25 (.tmp 4) (.tmp 11) rfl rfl g4 cs rfl rfl _ _ b4 (infoR.trans (by rw [hr1.len])) (by rw [hr1.len]; rfl) hr1.one ?_
  intro w3 b43 hg3
  try simp only [Act.put, zSa, zSz, zSs]
  have HG4 := Lib.hid (Nat.le_of_eq hg4.symm)
  have hbx : Below w1.heap.size w1 w3 := hb2.trans (grown_below hg3 HG4.out hb2.size)
  have HM := Lib.hid (show RAt w1 g1 m from ⟨cs, b1, hr1⟩)
  have HB1 := Lib.hid hb1
  obtain ⟨-, vc, hcs, hsr⟩ := hr1
  have HSR := Lib.hid hsr
  simp only [hcs] at b43 ⊢
  clear hb1 b1 hg4 b4 hb2 hg3 hsr hcs
  have hcc := (HM.out.below hbx).kind
  rw [HK.out] at hcc
  go_upto_region 3 with (fail)
  clear hcc
  go_upto_region 48 with (fail)
  refine wp_region_lit ?_
  refine wpList_load_mid rfl 25 (.tmp 4) rfl g4 0 rfl (rC m vc) _ (rangeAt_of_blk b43) Tryd.underlying25 rfl (infoR.trans (by rw [len_rC (m := m) HL.out])) ?_
  try simp only [Act.put, zSa, zSz, zSs]
  refine wpList_plain rfl (fun K hK0 => ?_)
  have hK := Lib.hid hK0
  clear hK0
  go_simp
  go_at_call 39
  refine (bare_e m (rC m vc) _ ⟨HL.out, vc, rfl, HSR.out.below hbx⟩).mono ?_
  rintro e w9 ⟨rfl, hb9⟩
  try go_wp2_with fail
  refine hK.out _ _ ?_
  clear hK K
  try simp only [Act.put, zSa, zSz, zSs]
  replace hbx := hbx.trans (hb9.mono hbx.size)
  have bx9 := b43.below hb9 b43.lt
  clear hb9 b43
  go_wp2
  go_ret2
  exact ⟨[0, 0, 8, 0, 13, 0, 4, 0, 2, 4, 3], by rw [rform_13 HK.out]; rfl, fun _ => (by rw [bodyM, HK.out]; rfl), HB1.out.trans (hbx.mono HB1.out.size)⟩
theorem rform_20 {m : Msg} (hk : m.kind = 20) : formM m = bareM ({ m with mark := zero32 }) := by
  unfold formM okM fitM okF bareM
  rw [hk]
  simp [bne]
set_option maxRecDepth 100000 in
set_option maxHeartbeats 40000000 in
theorem rbody_20 (m : Msg) (cs : List Value) (w : World) (h : RIn w m cs) (hs : Small m) (hk : m.kind = 20) : Calls Tryd.prog 24 #[.agg cs.toArray] w (BodyP m w) := by
  have HL := Lib.hid h.1
  have HS := Lib.hid hs
  have HK := Lib.hid hk
  clear hs hk
  go_enter Tryd.func24, Tryd.ntmps24
  go_upto_region 0 with (fail)
  refine wp_region_lit ?_
  refine wpList_plain rfl (fun K hK => ?_)
  go_simp
  refine hK _ _ ?_
  clear hK K
  have hb1 : Below w.heap.size w (w.alloc (.cells cs.toArray 25)) := (Below.refl _ _).alloc (Nat.le_refl _) _
  have b1 := Blk.new w 25 cs
  have hr1 := h.below hb1
  clear h
  obtain ⟨g1, hg1⟩ : ∃ g, g = w.heap.size := ⟨_, rfl⟩
  rw [← hg1] at b1
  simp only [← hg1]
  clear hg1
  generalize w.alloc (.cells cs.toArray 25) = w1 at *
  try simp only [Act.put, zSa, zSz, zSs]
  refine wpList_plain rfl (fun K hK => ?_)
  go_simp
  refine hK _ _ ?_
  clear hK K
  try simp only [Act.put, zSa, zSz, zSs]
  refine wpList_plain rfl (fun K hK => ?_)
  go_simp
  refine hK _ _ ?_
  clear hK K
  try simp only [Act.put, zSa, zSz, zSs]
  go_upto_region 1 with (fail)
  refine wp_region_lit ?_
  refine wpList_load_mid rfl 25 (.tmp 1) rfl g1 0 rfl cs _ (rangeAt_of_blk b1) Tryd.underlying25 rfl (infoR.trans (by rw [hr1.len])) ?_
  try simp only [Act.put, zSa, zSz, zSs]
  refine wpList_new_blk rfl 25 rfl _ zeroR ?_
  intro g4 w2 hg4 b4 hb2
  try simp only [Act.put, zSa, zSz, zSs]
  refine wpList_store_blk rfl 25 (.tmp 4) (.tmp 11) rfl rfl g4 cs rfl rfl _ _ b4 (infoR.trans (by rw [hr1.len])) (by rw [hr1.len]; rfl) hr1.one ?_
  intro w3 b43 hg3
  try simp only [Act.put, zSa, zSz, zSs]
  have HG4 := Lib.hid (Nat.le_of_eq hg4.symm)
  have hbx : Below w1.heap.size w1 w3 := hb2.trans (grown_below hg3 HG4.out hb2.size)
  have HM := Lib.hid (show RAt w1 g1 m from ⟨cs, b1, hr1⟩)
  have HB1 := Lib.hid hb1
  obtain ⟨-, vc, hcs, hsr⟩ := hr1
  have HSR := Lib.hid hsr
  simp only [hcs] at b43 ⊢
  clear hb1 b1 hg4 b4 hb2 hg3 hsr hcs
  have hcc := (HM.out.below hbx).kind
  rw [HK.out] at hcc
  go_upto_region 3 with (fail)
  clear hcc
  go_upto_region 53 with (fail)
  refine wp_region_lit ?_
  refine wpList_plain rfl (fun K hK => wp_builtV 22 _ rfl [] rfl (zero32.map B8).toArray built32_0 (hK _ _ ?_))
  clear hK K
  try simp only [Act.put, zSa, zSz, zSs]
  refine wpList_plain rfl (fun K hK => ?_)
  go_simp
  refine hK _ _ ?_
  clear hK K
  try simp only [Act.put, zSa, zSz, zSs]
  refine wpList_store_part rfl 22 (.tmp 334) (.tmp 333) rfl rfl g4 33 (zero32.map B8) rfl rfl _ _ b43 (info40.trans rfl) (by rw [len_rC (m := m) HL.out]; decide) (fun v hv => by obtain ⟨x, _, rfl⟩ := List.mem_map.1 hv; rfl) ?_
  intro wx1 bx1 hgs
  rw [rC_splK (m := m) HL.out rfl] at bx1
  obtain ⟨mx1, hmx1⟩ : ∃ y, y = { m with mark := zero32 } := ⟨_, rfl⟩
  rw [← hmx1] at bx1
  have hlmx1 : mx1.rnd.length = 32 ∧ mx1.mark.length = 32 := by rw [hmx1]; exact ⟨(HL.out).1, rfl⟩
  try simp only [Act.put, zSa, zSz, zSs]
  replace hbx := hbx.trans (grown_below hgs HG4.out hbx.size)
  clear hgs b43
  have hxm : mx1 = { m with mark := zero32 } := by subst hmx1; rfl
  have HXM1 := Lib.hid hxm
  have HXL1 := Lib.hid hlmx1
  have HXC1 := Lib.hid (show mx1.certs = m.certs by rw [hxm])
  clear hxm hmx1 hlmx1
  go_upto_region 54 with (fail)
  have HRB := Lib.hid (HM.out.below hbx)
  have HXB := Lib.hid bx1
  have HSB := Lib.hid (HSR.out.below hbx)
  have HBB := Lib.hid hbx
  clear hbx bx1
  generalize hwB : wx1 = wB at *
  clear hwB
  refine wp_region_noPanic ?_
  refine wp_region_held_drew (S := fun V => Below wB.heap.size wB V) (by kernel_rfl) (by exact below_drewN (Below.refl _ _) 1) (fun hHeld => ?_)
  refine wpT 0 ?_ rfl (by kernel_rfl) (by kernel_rfl) (by kernel_rfl) (fun _ _ _ h => h) (by rfl) ?_ hHeld ?_
  rotate_left 1
  · (intro W hSw; (try dsimp only at hSw); go_simp; try with_reducible rfl)
  try simp only [Act.put, zSa, zSz, zSs]
  refine wpT 1 ?_ rfl (by kernel_rfl) (by kernel_rfl) (by kernel_rfl) (fun _ _ _ h => h) (by rfl) ?_ hHeld ?_
  rotate_left 1
  · (intro W hSw; (try dsimp only at hSw); refine exec_rowOf (x := .tmp 335) (g := g1) (ob := 33) ?_ Tryd.underlying22 (fun w => size8 w) ?_ <;> rfl)
  try simp only [Act.put, zSa, zSz, zSs]
  refine wpT 2 ?_ rfl (by kernel_rfl) (by kernel_rfl) (by kernel_rfl) (fun _ _ _ h => h) (by rfl) ?_ hHeld ?_
  rotate_left 1
  · (intro W hSw; (try dsimp only at hSw); refine exec_strV (.tmp 336) ?_ m.mark _ ?_ (slV_range ((HRB.out.below hSw).mark) ((HRB.out.below hSw).lt) HL.out.2) <;> rfl)
  try simp only [Act.put, zSa, zSz, zSs]
  refine wpT 3 ?_ rfl (by kernel_rfl) (by kernel_rfl) (by kernel_rfl) (fun _ _ _ h => h) (by rfl) ?_ hHeld ?_
  rotate_left 1
  · (intro W hSw; (try dsimp only at hSw); refine exec_load_mid 25 (.tmp 4) ?_ g4 0 ?_ (rC mx1 vc) _ (rangeAt_of_blk (HXB.out.below hSw HXB.out.lt)) Tryd.underlying25 rfl (infoR.trans (by rw [len_rC (m := mx1) HXL1.out])) <;> rfl)
  try simp only [Act.put, zSa, zSz, zSs]
  refine wpAnyH_ready (rs := [4]) (by kernel_rfl) (by simp) ?_
  refine AllReadyH.cons (o := ⟨_, _, _, _, _, _⟩) rfl (fun K hK => ?_) AllReadyH.nil
  go_simp
  go_at_call 39
  refine (bare_e mx1 (rC mx1 vc) _ ⟨HXL1.out, vc, rfl, by rw [HXC1.out]; exact HSB.out.below hHeld⟩).mono ?_
  rintro e wq1 ⟨rfl, hbn⟩
  try go_wp2_with fail
  refine hK.out _ _ (hHeld.trans (hbn.mono hHeld.size)) (fun hHeld => ?_)
  clear hK K hbn
  try simp only [Act.put, zSa, zSz, zSs]
  refine wpT 5 ?_ rfl (by kernel_rfl) (by kernel_rfl) (by kernel_rfl) (fun _ _ _ h => h) (by rfl) ?_ hHeld ?_
  rotate_left 1
  · (intro W hSw; (try dsimp only at hSw); go_simp; try with_reducible rfl)
  try simp only [Act.put, zSa, zSz, zSs]
  refine wpT 6 ?_ rfl (by kernel_rfl) (by kernel_rfl) (by kernel_rfl) (fun _ _ _ h => h) (by rfl) ?_ hHeld ?_
  rotate_left 1
  · (intro W hSw; (try dsimp only at hSw); go_simp; try with_reducible rfl)
  try simp only [Act.put, zSa, zSz, zSs]
  refine wpAnyH_done (by kernel_rfl) ?_ _
  refine NoPanic.normal ?_
  have hbe := HB1.out.trans ((HBB.out.trans (hHeld.mono HBB.out.size)).mono HB1.out.size)
  go_wp2
  go_ret2
  exact ⟨m.mark, by rw [rform_20 HK.out, ← HXM1.out]; rfl, fun _ => (by rw [bodyM, HK.out]; rfl), hbe⟩
theorem rform_0 {m : Msg} (hk : ¬ m.kind = 1 ∧ ¬ m.kind = 2 ∧ ¬ m.kind = 4 ∧ ¬ m.kind = 8 ∧ ¬ m.kind = 11 ∧ ¬ m.kind = 13 ∧ ¬ m.kind = 15 ∧ ¬ m.kind = 20) : formM m = false := by
  obtain ⟨h1, h2, h3, h4, h5, h6, h7, h8⟩ := hk
  unfold formM okM okF
  simp [h1, h2, h3, h4, h5, h6, h7, h8]
set_option maxRecDepth 100000 in
set_option maxHeartbeats 40000000 in
theorem rbody_0 (m : Msg) (cs : List Value) (w : World) (h : RIn w m cs) (hs : Small m) (hk : ¬ m.kind = 1 ∧ ¬ m.kind = 2 ∧ ¬ m.kind = 4 ∧ ¬ m.kind = 8 ∧ ¬ m.kind = 11 ∧ ¬ m.kind = 13 ∧ ¬ m.kind = 15 ∧ ¬ m.kind = 20) : Calls Tryd.prog 24 #[.agg cs.toArray] w (BodyP m w) := by
  have HL := Lib.hid h.1
  have HS := Lib.hid hs
  have HK := Lib.hid hk
  clear hs hk
  go_enter Tryd.func24, Tryd.ntmps24
  go_upto_region 0 with (fail)
  refine wp_region_lit ?_
  refine wpList_plain rfl (fun K hK => ?_)
  go_simp
  refine hK _ _ ?_
  clear hK K
  have hb1 : Below w.heap.size w (w.alloc (.cells cs.toArray 25)) := (Below.refl _ _).alloc (Nat.le_refl _) _
  have b1 := Blk.new w 25 cs
  have hr1 := h.below hb1
  clear h
  obtain ⟨g1, hg1⟩ : ∃ g, g = w.heap.size := ⟨_, rfl⟩
  rw [← hg1] at b1
  simp only [← hg1]
  clear hg1
  generalize w.alloc (.cells cs.toArray 25) = w1 at *
  try simp only [Act.put, zSa, zSz, zSs]
  refine wpList_plain rfl (fun K hK => ?_)
  go_simp
  refine hK _ _ ?_
  clear hK K
  try simp only [Act.put, zSa, zSz, zSs]
  refine wpList_plain rfl (fun K hK => ?_)
  go_simp
  refine hK _ _ ?_
  clear hK K
  try simp only [Act.put, zSa, zSz, zSs]
  go_upto_region 1 with (fail)
  refine wp_region_lit ?_
  refine wpList_load_mid rfl 25 (.tmp 1) rfl g1 0 rfl cs _ (rangeAt_of_blk b1) Tryd.underlying25 rfl (infoR.trans (by rw [hr1.len])) ?_
  try simp only [Act.put, zSa, zSz, zSs]
  refine wpList_new_blk rfl 25 rfl _ zeroR ?_
  intro g4 w2 hg4 b4 hb2
  try simp only [Act.put, zSa, zSz, zSs]
  refine wpList_store_blk rfl 25 (.tmp 4) (.tmp 11) rfl rfl g4 cs rfl rfl _ _ b4 (infoR.trans (by rw [hr1.len])) (by rw [hr1.len]; rfl) hr1.one ?_
  intro w3 b43 hg3
  try simp only [Act.put, zSa, zSz, zSs]
  have HG4 := Lib.hid (Nat.le_of_eq hg4.symm)
  have hbx : Below w1.heap.size w1 w3 := hb2.trans (grown_below hg3 HG4.out hb2.size)
  have HM := Lib.hid (show RAt w1 g1 m from ⟨cs, b1, hr1⟩)
  have HB1 := Lib.hid hb1
  obtain ⟨-, vc, hcs, hsr⟩ := hr1
  have HSR := Lib.hid hsr
  simp only [hcs] at b43 ⊢
  clear hb1 b1 hg4 b4 hb2 hg3 hsr hcs
  have hcc := (HM.out.below hbx).kind
  obtain ⟨k, hkk⟩ : ∃ k, m.kind = k := ⟨_, rfl⟩
  rw [hkk] at hcc HK
  obtain ⟨z1, z2, z4, z8, z11, z13, z15, z20⟩ := HK.out
  go_wp2
  go_ret2
  exact ⟨[], by rw [rform_0 (by rw [hkk]; exact HK.out)]; rfl, fun hf => absurd hf (by rw [rform_0 (by rw [hkk]; exact HK.out)]; decide), HB1.out.trans (hbx.mono HB1.out.size)⟩
theorem rform_15 {m : Msg} (hk : m.kind = 15) : formM m = (bareM ({ m with sig := [] }) && (decide (1 ≤ m.sig.length) && decide (m.sig.length ≤ 100))) := by
  unfold formM okM fitM okF bareM sized
  rw [hk]
  simp [some8]
set_option maxRecDepth 100000 in
set_option maxHeartbeats 40000000 in
theorem rbody_15 (m : Msg) (cs : List Value) (w : World) (h : RIn w m cs) (hs : Small m) (hk : m.kind = 15) : Calls Tryd.prog 24 #[.agg cs.toArray] w (BodyP m w) := by
  have HL := Lib.hid h.1
  have HS := Lib.hid hs
  have HK := Lib.hid hk
  clear hs hk
  go_enter Tryd.func24, Tryd.ntmps24
  go_upto_region 0 with (fail)
  refine wp_region_lit ?_
  refine wpList_plain rfl (fun K hK => ?_)
  go_simp
  refine hK _ _ ?_
  clear hK K
  have hb1 : Below w.heap.size w (w.alloc (.cells cs.toArray 25)) := (Below.refl _ _).alloc (Nat.le_refl _) _
  have b1 := Blk.new w 25 cs
  have hr1 := h.below hb1
  clear h
  obtain ⟨g1, hg1⟩ : ∃ g, g = w.heap.size := ⟨_, rfl⟩
  rw [← hg1] at b1
  simp only [← hg1]
  clear hg1
  generalize w.alloc (.cells cs.toArray 25) = w1 at *
  try simp only [Act.put, zSa, zSz, zSs]
  refine wpList_plain rfl (fun K hK => ?_)
  go_simp
  refine hK _ _ ?_
  clear hK K
  try simp only [Act.put, zSa, zSz, zSs]
  refine wpList_plain rfl (fun K hK => ?_)
  go_simp
  refine hK _ _ ?_
  clear hK K
  try simp only [Act.put, zSa, zSz, zSs]
  go_upto_region 1 with (fail)
  refine wp_region_lit ?_
  refine wpList_load_mid rfl 25 (.tmp 1) rfl g1 0 rfl cs _ (rangeAt_of_blk b1) Tryd.underlying25 rfl (infoR.trans (by rw [hr1.len])) ?_
  try simp only [Act.put, zSa, zSz, zSs]
  refine wpList_new_blk rfl 25 rfl _ zeroR ?_
  intro g4 w2 hg4 b4 hb2
  try simp only [Act.put, zSa, zSz, zSs]
  refine wpList_store_blk rfl 25 (.tmp 4) (.tmp 11) rfl rfl g4 cs rfl rfl _ _ b4 (infoR.trans (by rw [hr1.len])) (by rw [hr1.len]; rfl) hr1.one ?_
  intro w3 b43 hg3
  try simp only [Act.put, zSa, zSz, zSs]
  have HG4 := Lib.hid (Nat.le_of_eq hg4.symm)
  have hbx : Below w1.heap.size w1 w3 := hb2.trans (grown_below hg3 HG4.out hb2.size)
  have HM := Lib.hid (show RAt w1 g1 m from ⟨cs, b1, hr1⟩)
  have HB1 := Lib.hid hb1
  obtain ⟨-, vc, hcs, hsr⟩ := hr1
  have HSR := Lib.hid hsr
  simp only [hcs] at b43 ⊢
  clear hb1 b1 hg4 b4 hb2 hg3 hsr hcs
  have hcc := (HM.out.below hbx).kind
  rw [HK.out] at hcc
  go_upto_region 3 with (fail)
  clear hcc
  go_upto_region 50 with (fail)
  refine wp_region_lit ?_
  refine wpList_plain rfl (fun K hK => ?_)
  go_simp
  refine hK _ _ ?_
  clear hK K
  try simp only [Act.put, zSa, zSz, zSs]
  refine wpList_store_one rfl 9 (.tmp 312) _ rfl rfl g4 69 (TX []) rfl rfl rfl _ _ b43 (by kernel_rfl) (by rw [len_rC (m := m) HL.out]; decide) rfl ?_
  intro wx1 bx1 hgs
  rw [rC_sig (m := m) HL.out] at bx1
  obtain ⟨mx1, hmx1⟩ : ∃ y, y = { m with sig := [] } := ⟨_, rfl⟩
  rw [← hmx1] at bx1
  have hlmx1 : mx1.rnd.length = 32 ∧ mx1.mark.length = 32 := by rw [hmx1]; exact HL.out
  try simp only [Act.put, zSa, zSz, zSs]
  replace hbx := hbx.trans (grown_below hgs HG4.out hbx.size)
  clear hgs b43
  have hxm : mx1 = { m with sig := [] } := by subst hmx1; rfl
  have HXM1 := Lib.hid hxm
  have HXL1 := Lib.hid hlmx1
  have HXC1 := Lib.hid (show mx1.certs = m.certs by rw [hxm])
  clear hxm hmx1 hlmx1
  obtain ⟨n_sig, hn_sig⟩ : ∃ n, m.sig.length = n := ⟨_, rfl⟩
  have HZ_sig := Lib.hid (show (⟨m.sig.toArray⟩ : ByteArray).size = n_sig from hn_sig)
  have HN_sig := Lib.hid hn_sig
  clear hn_sig
  go_upto_region 51 with (fail)
  cases hbv : bareM ({ m with sig := [] }) with
  | false =>
    have HBF := Lib.hid hbv
    have HBARE := Lib.hid (show bareM mx1 = false by rw [HXM1.out]; exact hbv)
    clear hbv
    as_aux_lemma =>
      have HRB := Lib.hid (HM.out.below hbx)
      have HXB := Lib.hid bx1
      have HSB := Lib.hid (HSR.out.below hbx)
      have HBB := Lib.hid hbx
      clear hbx bx1
      generalize hwB : wx1 = wB at *
      clear hwB
      obtain ⟨s316, hs316⟩ : ∃ s : List UInt8, [4, 3] ++ (vecB 2 m.sig) = s := ⟨_, rfl⟩
      have HTL316 := Lib.hid (show s316.length ≤ 2104 by rw [← hs316, List.length_append]; have h1 := (show ([4, 3] : List UInt8).length ≤ 2 by decide); have h2 := (show (vecB 2 m.sig).length ≤ 2102 by rw [vecB_length]; have h0 := HS.out.2.2.2.2.1; omega); omega)
      have HT316 := Lib.hid hs316
      clear hs316
      refine wp_region_noPanic ?_
      refine wp_region_held_drew (S := fun V => Below wB.heap.size wB V) (by kernel_rfl) (by exact below_drewN (Below.refl _ _) 1) (fun hHeld => ?_)
      refine wpT 0 ?_ rfl (by kernel_rfl) (by kernel_rfl) (by kernel_rfl) (fun _ _ _ h => h) (by rfl) ?_ hHeld ?_
      rotate_left 1
      · (intro W hSw; (try dsimp only at hSw); go_simp; try with_reducible rfl)
      try simp only [Act.put, zSa, zSz, zSs]
      refine wpT 1 ?_ rfl (by kernel_rfl) (by kernel_rfl) (by kernel_rfl) (fun _ _ _ h => h) (by rfl) ?_ hHeld ?_
      rotate_left 1
      · (intro W hSw; (try dsimp only at hSw); have hcc := (HRB.out.below hSw).sig; go_simp; try with_reducible rfl)
      try simp only [Act.put, zSa, zSz, zSs]
      refine wpT 4 ?_ rfl (by kernel_rfl) (by kernel_rfl) (by kernel_rfl) (fun _ _ _ h => h) (by rfl) ?_ hHeld ?_
      rotate_left 1
      · (intro W hSw; (try dsimp only at hSw); refine exec_load_mid 25 (.tmp 4) ?_ g4 0 ?_ (rC mx1 vc) _ (rangeAt_of_blk (HXB.out.below hSw HXB.out.lt)) Tryd.underlying25 rfl (infoR.trans (by rw [len_rC (m := mx1) HXL1.out])) <;> rfl)
      try simp only [Act.put, zSa, zSz, zSs]
      refine wpAnyH_ready (rs := [2]) (by kernel_rfl) (by simp) ?_
      refine AllReadyH.cons (o := ⟨_, _, _, _, _, _⟩) rfl (fun K hK => ?_) AllReadyH.nil
      go_simp
      go_at_call 25
      refine (vec_2 (m.sig) _ (by have h1 := HS.out.2.2.2.2.1; omega)).mono ?_
      rintro e wq1 ⟨rfl, hbn⟩
      try go_wp2_with fail
      refine hK.out _ _ (hHeld.trans (hbn.mono hHeld.size)) (fun hHeld => ?_)
      clear hK K hbn
      try simp only [Act.put, zSa, zSz, zSs]
      refine wpT 3 ?_ rfl (by kernel_rfl) (by kernel_rfl) (by kernel_rfl) (fun _ _ _ h => h) (by rfl) ?_ hHeld ?_
      rotate_left 1
      · (intro W hSw; (try dsimp only at hSw); refine exec_catL (.const (.string { data := #[4, 3] })) (.tmp 315) ?_ ([4, 3]) ((vecB 2 m.sig)) s316 HT316.out ?_ ?_ (by have h1 := (show ([4, 3] : List UInt8).length ≤ 2 by decide); have h2 := (show (vecB 2 m.sig).length ≤ 2102 by rw [vecB_length]; have h0 := HS.out.2.2.2.2.1; omega); omega) <;> rfl)
      try simp only [Act.put, zSa, zSz, zSs]
      refine wpAnyH_ready (rs := [5]) (by kernel_rfl) (by simp) ?_
      refine AllReadyH.cons (o := ⟨_, _, _, _, _, _⟩) rfl (fun K hK => ?_) AllReadyH.nil
      go_simp
      go_at_call 39
      refine (bare_e mx1 (rC mx1 vc) _ ⟨HXL1.out, vc, rfl, by rw [HXC1.out]; exact HSB.out.below hHeld⟩).mono ?_
      rintro e wq2 ⟨rfl, hbn⟩
      rw [HBARE.out]
      try go_wp2_with fail
      refine hK.out _ _ (hHeld.trans (hbn.mono hHeld.size)) (fun hHeld => ?_)
      clear hK K hbn
      try simp only [Act.put, zSa, zSz, zSs]
      refine wpT 6 ?_ rfl (by kernel_rfl) (by kernel_rfl) (by kernel_rfl) (fun _ _ _ h => h) (by rfl) ?_ hHeld ?_
      rotate_left 1
      · (intro W hSw; (try dsimp only at hSw); go_simp; try with_reducible rfl)
      try simp only [Act.put, zSa, zSz, zSs]
      refine wpU 7 rfl (by kernel_rfl) (by kernel_rfl) (by kernel_rfl) (fun _ _ _ h => h) (by rfl) hHeld ?_
      try simp only [Act.put, zSa, zSz, zSs]
      refine wpU 8 rfl (by kernel_rfl) (by kernel_rfl) (by kernel_rfl) (fun _ _ _ h => h) (by rfl) hHeld ?_
      try simp only [Act.put, zSa, zSz, zSs]
      refine wpU 9 rfl (by kernel_rfl) (by kernel_rfl) (by kernel_rfl) (fun _ _ _ h => h) (by rfl) hHeld ?_
      try simp only [Act.put, zSa, zSz, zSs]
      refine wpU 10 rfl (by kernel_rfl) (by kernel_rfl) (by kernel_rfl) (fun _ _ _ h => h) (by rfl) hHeld ?_
      try simp only [Act.put, zSa, zSz, zSs]
      refine wpT 11 ?_ rfl (by kernel_rfl) (by kernel_rfl) (by kernel_rfl) (fun _ _ _ h => h) (by rfl) ?_ hHeld ?_
      rotate_left 1
      · (intro W hSw; (try dsimp only at hSw); go_simp; try with_reducible rfl)
      try simp only [Act.put, zSa, zSz, zSs]
      refine wpT 12 ?_ rfl (by kernel_rfl) (by kernel_rfl) (by kernel_rfl) (fun _ _ _ h => h) (by rfl) ?_ hHeld ?_
      rotate_left 1
      · (intro W hSw; (try dsimp only at hSw); go_simp; try with_reducible rfl)
      try simp only [Act.put, zSa, zSz, zSs]
      refine wpU 13 rfl (by kernel_rfl) (by kernel_rfl) (by kernel_rfl) (fun _ _ _ h => h) (by rfl) hHeld ?_
      try simp only [Act.put, zSa, zSz, zSs]
      refine wpU 14 rfl (by kernel_rfl) (by kernel_rfl) (by kernel_rfl) (fun _ _ _ h => h) (by rfl) hHeld ?_
      try simp only [Act.put, zSa, zSz, zSs]
      refine wpU 15 rfl (by kernel_rfl) (by kernel_rfl) (by kernel_rfl) (fun _ _ _ h => h) (by rfl) hHeld ?_
      try simp only [Act.put, zSa, zSz, zSs]
      refine wpU 16 rfl (by kernel_rfl) (by kernel_rfl) (by kernel_rfl) (fun _ _ _ h => h) (by rfl) hHeld ?_
      try simp only [Act.put, zSa, zSz, zSs]
      refine wpT 17 ?_ rfl (by kernel_rfl) (by kernel_rfl) (by kernel_rfl) (fun _ _ _ h => h) (by rfl) ?_ hHeld ?_
      rotate_left 1
      · (intro W hSw; (try dsimp only at hSw); go_simp; try with_reducible rfl)
      try simp only [Act.put, zSa, zSz, zSs]
      refine wpT 18 ?_ rfl (by kernel_rfl) (by kernel_rfl) (by kernel_rfl) (fun _ _ _ h => h) (by rfl) ?_ hHeld ?_
      rotate_left 1
      · (intro W hSw; (try dsimp only at hSw); go_simp; try with_reducible rfl)
      try simp only [Act.put, zSa, zSz, zSs]
      refine wpT 19 ?_ rfl (by kernel_rfl) (by kernel_rfl) (by kernel_rfl) (fun _ _ _ h => h) (by rfl) ?_ hHeld ?_
      rotate_left 1
      · (intro W hSw; (try dsimp only at hSw); go_simp; try with_reducible rfl)
      try simp only [Act.put, zSa, zSz, zSs]
      refine wpAnyH_done (by kernel_rfl) ?_ _
      refine NoPanic.normal ?_
      have hbe := HB1.out.trans ((HBB.out.trans (hHeld.mono HBB.out.size)).mono HB1.out.size)
      go_wp2
      go_ret2
      have hF : formM m = false := by rw [rform_15 HK.out, HBF.out]; rfl
      refine ⟨_, by rw [hF]; rfl, fun _ => ?_, hbe⟩
      rw [← HT316.out, bodyM, HK.out]
      rfl
  | true =>
    have HBF := Lib.hid hbv
    have HBARE := Lib.hid (show bareM mx1 = true by rw [HXM1.out]; exact hbv)
    clear hbv
    by_cases hc : 1 ≤ m.sig.length
    · have HC_sigge1 := Lib.hid hc
      have HV_sigge1 := Lib.hid (show decide ((1 : Int) ≤ (n_sig : Int)) = true ∧ decide (1 ≤ n_sig) = true from ⟨decide_eq_true (by have h1 := HN_sig.out; have h2 := HC_sigge1.out; omega), decide_eq_true (by have h1 := HN_sig.out; have h2 := HC_sigge1.out; omega)⟩)
      clear hc
      by_cases hc : m.sig.length ≤ 100
      · have HC_sigle100 := Lib.hid hc
        have HV_sigle100 := Lib.hid (show decide ((n_sig : Int) ≤ (100 : Int)) = true ∧ decide (n_sig ≤ 100) = true from ⟨decide_eq_true (by have h1 := HN_sig.out; have h2 := HC_sigle100.out; omega), decide_eq_true (by have h1 := HN_sig.out; have h2 := HC_sigle100.out; omega)⟩)
        clear hc
        as_aux_lemma =>
          have HRB := Lib.hid (HM.out.below hbx)
          have HXB := Lib.hid bx1
          have HSB := Lib.hid (HSR.out.below hbx)
          have HBB := Lib.hid hbx
          clear hbx bx1
          generalize hwB : wx1 = wB at *
          clear hwB
          obtain ⟨s316, hs316⟩ : ∃ s : List UInt8, [4, 3] ++ (vecB 2 m.sig) = s := ⟨_, rfl⟩
          have HTL316 := Lib.hid (show s316.length ≤ 2104 by rw [← hs316, List.length_append]; have h1 := (show ([4, 3] : List UInt8).length ≤ 2 by decide); have h2 := (show (vecB 2 m.sig).length ≤ 2102 by rw [vecB_length]; have h0 := HS.out.2.2.2.2.1; omega); omega)
          have HT316 := Lib.hid hs316
          clear hs316
          refine wp_region_noPanic ?_
          refine wp_region_held_drew (S := fun V => Below wB.heap.size wB V) (by kernel_rfl) (by exact below_drewN (Below.refl _ _) 1) (fun hHeld => ?_)
          refine wpT 0 ?_ rfl (by kernel_rfl) (by kernel_rfl) (by kernel_rfl) (fun _ _ _ h => h) (by rfl) ?_ hHeld ?_
          rotate_left 1
          · (intro W hSw; (try dsimp only at hSw); go_simp; try with_reducible rfl)
          try simp only [Act.put, zSa, zSz, zSs]
          refine wpT 1 ?_ rfl (by kernel_rfl) (by kernel_rfl) (by kernel_rfl) (fun _ _ _ h => h) (by rfl) ?_ hHeld ?_
          rotate_left 1
          · (intro W hSw; (try dsimp only at hSw); have hcc := (HRB.out.below hSw).sig; go_simp; try with_reducible rfl)
          try simp only [Act.put, zSa, zSz, zSs]
          refine wpT 4 ?_ rfl (by kernel_rfl) (by kernel_rfl) (by kernel_rfl) (fun _ _ _ h => h) (by rfl) ?_ hHeld ?_
          rotate_left 1
          · (intro W hSw; (try dsimp only at hSw); refine exec_load_mid 25 (.tmp 4) ?_ g4 0 ?_ (rC mx1 vc) _ (rangeAt_of_blk (HXB.out.below hSw HXB.out.lt)) Tryd.underlying25 rfl (infoR.trans (by rw [len_rC (m := mx1) HXL1.out])) <;> rfl)
          try simp only [Act.put, zSa, zSz, zSs]
          refine wpAnyH_ready (rs := [2]) (by kernel_rfl) (by simp) ?_
          refine AllReadyH.cons (o := ⟨_, _, _, _, _, _⟩) rfl (fun K hK => ?_) AllReadyH.nil
          go_simp
          go_at_call 25
          refine (vec_2 (m.sig) _ (by have h1 := HS.out.2.2.2.2.1; omega)).mono ?_
          rintro e wq1 ⟨rfl, hbn⟩
          try go_wp2_with fail
          refine hK.out _ _ (hHeld.trans (hbn.mono hHeld.size)) (fun hHeld => ?_)
          clear hK K hbn
          try simp only [Act.put, zSa, zSz, zSs]
          refine wpT 3 ?_ rfl (by kernel_rfl) (by kernel_rfl) (by kernel_rfl) (fun _ _ _ h => h) (by rfl) ?_ hHeld ?_
          rotate_left 1
          · (intro W hSw; (try dsimp only at hSw); refine exec_catL (.const (.string { data := #[4, 3] })) (.tmp 315) ?_ ([4, 3]) ((vecB 2 m.sig)) s316 HT316.out ?_ ?_ (by have h1 := (show ([4, 3] : List UInt8).length ≤ 2 by decide); have h2 := (show (vecB 2 m.sig).length ≤ 2102 by rw [vecB_length]; have h0 := HS.out.2.2.2.2.1; omega); omega) <;> rfl)
          try simp only [Act.put, zSa, zSz, zSs]
          refine wpAnyH_ready (rs := [5]) (by kernel_rfl) (by simp) ?_
          refine AllReadyH.cons (o := ⟨_, _, _, _, _, _⟩) rfl (fun K hK => ?_) AllReadyH.nil
          go_simp
          go_at_call 39
          refine (bare_e mx1 (rC mx1 vc) _ ⟨HXL1.out, vc, rfl, by rw [HXC1.out]; exact HSB.out.below hHeld⟩).mono ?_
          rintro e wq2 ⟨rfl, hbn⟩
          rw [HBARE.out]
          try go_wp2_with fail
          refine hK.out _ _ (hHeld.trans (hbn.mono hHeld.size)) (fun hHeld => ?_)
          clear hK K hbn
          try simp only [Act.put, zSa, zSz, zSs]
          refine wpT 6 ?_ rfl (by kernel_rfl) (by kernel_rfl) (by kernel_rfl) (fun _ _ _ h => h) (by rfl) ?_ hHeld ?_
          rotate_left 1
          · (intro W hSw; (try dsimp only at hSw); go_simp; try with_reducible rfl)
          try simp only [Act.put, zSa, zSz, zSs]
          refine wpT 7 ?_ rfl (by kernel_rfl) (by kernel_rfl) (by kernel_rfl) (fun _ _ _ h => h) (by rfl) ?_ hHeld ?_
          rotate_left 1
          · (intro W hSw; (try dsimp only at hSw); go_simp; try with_reducible rfl)
          try simp only [Act.put, zSa, zSz, zSs]
          refine wpT 8 ?_ rfl (by kernel_rfl) (by kernel_rfl) (by kernel_rfl) (fun _ _ _ h => h) (by rfl) ?_ hHeld ?_
          rotate_left 1
          · (intro W hSw; (try dsimp only at hSw); have hcc := (HRB.out.below hSw).sig; go_simp; try with_reducible rfl)
          try simp only [Act.put, zSa, zSz, zSs]
          refine wpT 9 ?_ rfl (by kernel_rfl) (by kernel_rfl) (by kernel_rfl) (fun _ _ _ h => h) (by rfl) ?_ hHeld ?_
          rotate_left 1
          · (intro W hSw; (try dsimp only at hSw); have hsz := HZ_sig.out; go_simp; try with_reducible rfl)
          try simp only [Act.put, zSa, zSz, zSs]
          refine wpT 10 ?_ rfl (by kernel_rfl) (by kernel_rfl) (by kernel_rfl) (fun _ _ _ h => h) (by rfl) ?_ hHeld ?_
          rotate_left 1
          · (intro W hSw; (try dsimp only at hSw); have hd := HV_sigge1.out.1; have hdn := HV_sigge1.out.2; go_simp; try with_reducible rfl)
          try simp only [Act.put, zSa, zSz, zSs]
          refine wpT 11 ?_ rfl (by kernel_rfl) (by kernel_rfl) (by kernel_rfl) (fun _ _ _ h => h) (by rfl) ?_ hHeld ?_
          rotate_left 1
          · (intro W hSw; (try dsimp only at hSw); go_simp; try with_reducible rfl)
          try simp only [Act.put, zSa, zSz, zSs]
          refine wpT 12 ?_ rfl (by kernel_rfl) (by kernel_rfl) (by kernel_rfl) (fun _ _ _ h => h) (by rfl) ?_ hHeld ?_
          rotate_left 1
          · (intro W hSw; (try dsimp only at hSw); go_simp; try with_reducible rfl)
          try simp only [Act.put, zSa, zSz, zSs]
          refine wpT 13 ?_ rfl (by kernel_rfl) (by kernel_rfl) (by kernel_rfl) (fun _ _ _ h => h) (by rfl) ?_ hHeld ?_
          rotate_left 1
          · (intro W hSw; (try dsimp only at hSw); go_simp; try with_reducible rfl)
          try simp only [Act.put, zSa, zSz, zSs]
          refine wpT 14 ?_ rfl (by kernel_rfl) (by kernel_rfl) (by kernel_rfl) (fun _ _ _ h => h) (by rfl) ?_ hHeld ?_
          rotate_left 1
          · (intro W hSw; (try dsimp only at hSw); have hcc := (HRB.out.below hSw).sig; go_simp; try with_reducible rfl)
          try simp only [Act.put, zSa, zSz, zSs]
          refine wpT 15 ?_ rfl (by kernel_rfl) (by kernel_rfl) (by kernel_rfl) (fun _ _ _ h => h) (by rfl) ?_ hHeld ?_
          rotate_left 1
          · (intro W hSw; (try dsimp only at hSw); have hsz := HZ_sig.out; go_simp; try with_reducible rfl)
          try simp only [Act.put, zSa, zSz, zSs]
          refine wpT 16 ?_ rfl (by kernel_rfl) (by kernel_rfl) (by kernel_rfl) (fun _ _ _ h => h) (by rfl) ?_ hHeld ?_
          rotate_left 1
          · (intro W hSw; (try dsimp only at hSw); have hd := HV_sigle100.out.1; have hdn := HV_sigle100.out.2; go_simp; try with_reducible rfl)
          try simp only [Act.put, zSa, zSz, zSs]
          refine wpT 17 ?_ rfl (by kernel_rfl) (by kernel_rfl) (by kernel_rfl) (fun _ _ _ h => h) (by rfl) ?_ hHeld ?_
          rotate_left 1
          · (intro W hSw; (try dsimp only at hSw); go_simp; try with_reducible rfl)
          try simp only [Act.put, zSa, zSz, zSs]
          refine wpT 18 ?_ rfl (by kernel_rfl) (by kernel_rfl) (by kernel_rfl) (fun _ _ _ h => h) (by rfl) ?_ hHeld ?_
          rotate_left 1
          · (intro W hSw; (try dsimp only at hSw); go_simp; try with_reducible rfl)
          try simp only [Act.put, zSa, zSz, zSs]
          refine wpT 19 ?_ rfl (by kernel_rfl) (by kernel_rfl) (by kernel_rfl) (fun _ _ _ h => h) (by rfl) ?_ hHeld ?_
          rotate_left 1
          · (intro W hSw; (try dsimp only at hSw); go_simp; try with_reducible rfl)
          try simp only [Act.put, zSa, zSz, zSs]
          refine wpAnyH_done (by kernel_rfl) ?_ _
          refine NoPanic.normal ?_
          have hbe := HB1.out.trans ((HBB.out.trans (hHeld.mono HBB.out.size)).mono HB1.out.size)
          go_wp2
          go_ret2
          have hF : formM m = true := by rw [rform_15 HK.out, HBF.out, decide_eq_true HC_sigge1.out, decide_eq_true HC_sigle100.out]; rfl
          refine ⟨_, by rw [hF]; rfl, fun _ => ?_, hbe⟩
          rw [← HT316.out, bodyM, HK.out]
          rfl
      · have HC_sigle100 := Lib.hid hc
        have HV_sigle100 := Lib.hid (show decide ((n_sig : Int) ≤ (100 : Int)) = false ∧ decide (n_sig ≤ 100) = false from ⟨decide_eq_false (by have h1 := HN_sig.out; have h2 := HC_sigle100.out; omega), decide_eq_false (by have h1 := HN_sig.out; have h2 := HC_sigle100.out; omega)⟩)
        clear hc
        as_aux_lemma =>
          have HRB := Lib.hid (HM.out.below hbx)
          have HXB := Lib.hid bx1
          have HSB := Lib.hid (HSR.out.below hbx)
          have HBB := Lib.hid hbx
          clear hbx bx1
          generalize hwB : wx1 = wB at *
          clear hwB
          obtain ⟨s316, hs316⟩ : ∃ s : List UInt8, [4, 3] ++ (vecB 2 m.sig) = s := ⟨_, rfl⟩
          have HTL316 := Lib.hid (show s316.length ≤ 2104 by rw [← hs316, List.length_append]; have h1 := (show ([4, 3] : List UInt8).length ≤ 2 by decide); have h2 := (show (vecB 2 m.sig).length ≤ 2102 by rw [vecB_length]; have h0 := HS.out.2.2.2.2.1; omega); omega)
          have HT316 := Lib.hid hs316
          clear hs316
          refine wp_region_noPanic ?_
          refine wp_region_held_drew (S := fun V => Below wB.heap.size wB V) (by kernel_rfl) (by exact below_drewN (Below.refl _ _) 1) (fun hHeld => ?_)
          refine wpT 0 ?_ rfl (by kernel_rfl) (by kernel_rfl) (by kernel_rfl) (fun _ _ _ h => h) (by rfl) ?_ hHeld ?_
          rotate_left 1
          · (intro W hSw; (try dsimp only at hSw); go_simp; try with_reducible rfl)
          try simp only [Act.put, zSa, zSz, zSs]
          refine wpT 1 ?_ rfl (by kernel_rfl) (by kernel_rfl) (by kernel_rfl) (fun _ _ _ h => h) (by rfl) ?_ hHeld ?_
          rotate_left 1
          · (intro W hSw; (try dsimp only at hSw); have hcc := (HRB.out.below hSw).sig; go_simp; try with_reducible rfl)
          try simp only [Act.put, zSa, zSz, zSs]
          refine wpT 4 ?_ rfl (by kernel_rfl) (by kernel_rfl) (by kernel_rfl) (fun _ _ _ h => h) (by rfl) ?_ hHeld ?_
          rotate_left 1
          · (intro W hSw; (try dsimp only at hSw); refine exec_load_mid 25 (.tmp 4) ?_ g4 0 ?_ (rC mx1 vc) _ (rangeAt_of_blk (HXB.out.below hSw HXB.out.lt)) Tryd.underlying25 rfl (infoR.trans (by rw [len_rC (m := mx1) HXL1.out])) <;> rfl)
          try simp only [Act.put, zSa, zSz, zSs]
          refine wpAnyH_ready (rs := [2]) (by kernel_rfl) (by simp) ?_
          refine AllReadyH.cons (o := ⟨_, _, _, _, _, _⟩) rfl (fun K hK => ?_) AllReadyH.nil
          go_simp
          go_at_call 25
          refine (vec_2 (m.sig) _ (by have h1 := HS.out.2.2.2.2.1; omega)).mono ?_
          rintro e wq1 ⟨rfl, hbn⟩
          try go_wp2_with fail
          refine hK.out _ _ (hHeld.trans (hbn.mono hHeld.size)) (fun hHeld => ?_)
          clear hK K hbn
          try simp only [Act.put, zSa, zSz, zSs]
          refine wpT 3 ?_ rfl (by kernel_rfl) (by kernel_rfl) (by kernel_rfl) (fun _ _ _ h => h) (by rfl) ?_ hHeld ?_
          rotate_left 1
          · (intro W hSw; (try dsimp only at hSw); refine exec_catL (.const (.string { data := #[4, 3] })) (.tmp 315) ?_ ([4, 3]) ((vecB 2 m.sig)) s316 HT316.out ?_ ?_ (by have h1 := (show ([4, 3] : List UInt8).length ≤ 2 by decide); have h2 := (show (vecB 2 m.sig).length ≤ 2102 by rw [vecB_length]; have h0 := HS.out.2.2.2.2.1; omega); omega) <;> rfl)
          try simp only [Act.put, zSa, zSz, zSs]
          refine wpAnyH_ready (rs := [5]) (by kernel_rfl) (by simp) ?_
          refine AllReadyH.cons (o := ⟨_, _, _, _, _, _⟩) rfl (fun K hK => ?_) AllReadyH.nil
          go_simp
          go_at_call 39
          refine (bare_e mx1 (rC mx1 vc) _ ⟨HXL1.out, vc, rfl, by rw [HXC1.out]; exact HSB.out.below hHeld⟩).mono ?_
          rintro e wq2 ⟨rfl, hbn⟩
          rw [HBARE.out]
          try go_wp2_with fail
          refine hK.out _ _ (hHeld.trans (hbn.mono hHeld.size)) (fun hHeld => ?_)
          clear hK K hbn
          try simp only [Act.put, zSa, zSz, zSs]
          refine wpT 6 ?_ rfl (by kernel_rfl) (by kernel_rfl) (by kernel_rfl) (fun _ _ _ h => h) (by rfl) ?_ hHeld ?_
          rotate_left 1
          · (intro W hSw; (try dsimp only at hSw); go_simp; try with_reducible rfl)
          try simp only [Act.put, zSa, zSz, zSs]
          refine wpT 7 ?_ rfl (by kernel_rfl) (by kernel_rfl) (by kernel_rfl) (fun _ _ _ h => h) (by rfl) ?_ hHeld ?_
          rotate_left 1
          · (intro W hSw; (try dsimp only at hSw); go_simp; try with_reducible rfl)
          try simp only [Act.put, zSa, zSz, zSs]
          refine wpT 8 ?_ rfl (by kernel_rfl) (by kernel_rfl) (by kernel_rfl) (fun _ _ _ h => h) (by rfl) ?_ hHeld ?_
          rotate_left 1
          · (intro W hSw; (try dsimp only at hSw); have hcc := (HRB.out.below hSw).sig; go_simp; try with_reducible rfl)
          try simp only [Act.put, zSa, zSz, zSs]
          refine wpT 9 ?_ rfl (by kernel_rfl) (by kernel_rfl) (by kernel_rfl) (fun _ _ _ h => h) (by rfl) ?_ hHeld ?_
          rotate_left 1
          · (intro W hSw; (try dsimp only at hSw); have hsz := HZ_sig.out; go_simp; try with_reducible rfl)
          try simp only [Act.put, zSa, zSz, zSs]
          refine wpT 10 ?_ rfl (by kernel_rfl) (by kernel_rfl) (by kernel_rfl) (fun _ _ _ h => h) (by rfl) ?_ hHeld ?_
          rotate_left 1
          · (intro W hSw; (try dsimp only at hSw); have hd := HV_sigge1.out.1; have hdn := HV_sigge1.out.2; go_simp; try with_reducible rfl)
          try simp only [Act.put, zSa, zSz, zSs]
          refine wpT 11 ?_ rfl (by kernel_rfl) (by kernel_rfl) (by kernel_rfl) (fun _ _ _ h => h) (by rfl) ?_ hHeld ?_
          rotate_left 1
          · (intro W hSw; (try dsimp only at hSw); go_simp; try with_reducible rfl)
          try simp only [Act.put, zSa, zSz, zSs]
          refine wpT 12 ?_ rfl (by kernel_rfl) (by kernel_rfl) (by kernel_rfl) (fun _ _ _ h => h) (by rfl) ?_ hHeld ?_
          rotate_left 1
          · (intro W hSw; (try dsimp only at hSw); go_simp; try with_reducible rfl)
          try simp only [Act.put, zSa, zSz, zSs]
          refine wpT 13 ?_ rfl (by kernel_rfl) (by kernel_rfl) (by kernel_rfl) (fun _ _ _ h => h) (by rfl) ?_ hHeld ?_
          rotate_left 1
          · (intro W hSw; (try dsimp only at hSw); go_simp; try with_reducible rfl)
          try simp only [Act.put, zSa, zSz, zSs]
          refine wpT 14 ?_ rfl (by kernel_rfl) (by kernel_rfl) (by kernel_rfl) (fun _ _ _ h => h) (by rfl) ?_ hHeld ?_
          rotate_left 1
          · (intro W hSw; (try dsimp only at hSw); have hcc := (HRB.out.below hSw).sig; go_simp; try with_reducible rfl)
          try simp only [Act.put, zSa, zSz, zSs]
          refine wpT 15 ?_ rfl (by kernel_rfl) (by kernel_rfl) (by kernel_rfl) (fun _ _ _ h => h) (by rfl) ?_ hHeld ?_
          rotate_left 1
          · (intro W hSw; (try dsimp only at hSw); have hsz := HZ_sig.out; go_simp; try with_reducible rfl)
          try simp only [Act.put, zSa, zSz, zSs]
          refine wpT 16 ?_ rfl (by kernel_rfl) (by kernel_rfl) (by kernel_rfl) (fun _ _ _ h => h) (by rfl) ?_ hHeld ?_
          rotate_left 1
          · (intro W hSw; (try dsimp only at hSw); have hd := HV_sigle100.out.1; have hdn := HV_sigle100.out.2; go_simp; try with_reducible rfl)
          try simp only [Act.put, zSa, zSz, zSs]
          refine wpT 17 ?_ rfl (by kernel_rfl) (by kernel_rfl) (by kernel_rfl) (fun _ _ _ h => h) (by rfl) ?_ hHeld ?_
          rotate_left 1
          · (intro W hSw; (try dsimp only at hSw); go_simp; try with_reducible rfl)
          try simp only [Act.put, zSa, zSz, zSs]
          refine wpT 18 ?_ rfl (by kernel_rfl) (by kernel_rfl) (by kernel_rfl) (fun _ _ _ h => h) (by rfl) ?_ hHeld ?_
          rotate_left 1
          · (intro W hSw; (try dsimp only at hSw); go_simp; try with_reducible rfl)
          try simp only [Act.put, zSa, zSz, zSs]
          refine wpT 19 ?_ rfl (by kernel_rfl) (by kernel_rfl) (by kernel_rfl) (fun _ _ _ h => h) (by rfl) ?_ hHeld ?_
          rotate_left 1
          · (intro W hSw; (try dsimp only at hSw); go_simp; try with_reducible rfl)
          try simp only [Act.put, zSa, zSz, zSs]
          refine wpAnyH_done (by kernel_rfl) ?_ _
          refine NoPanic.normal ?_
          have hbe := HB1.out.trans ((HBB.out.trans (hHeld.mono HBB.out.size)).mono HB1.out.size)
          go_wp2
          go_ret2
          have hF : formM m = false := by rw [rform_15 HK.out, HBF.out, decide_eq_true HC_sigge1.out, decide_eq_false HC_sigle100.out]; rfl
          refine ⟨_, by rw [hF]; rfl, fun _ => ?_, hbe⟩
          rw [← HT316.out, bodyM, HK.out]
          rfl
    · have HC_sigge1 := Lib.hid hc
      have HV_sigge1 := Lib.hid (show decide ((1 : Int) ≤ (n_sig : Int)) = false ∧ decide (1 ≤ n_sig) = false from ⟨decide_eq_false (by have h1 := HN_sig.out; have h2 := HC_sigge1.out; omega), decide_eq_false (by have h1 := HN_sig.out; have h2 := HC_sigge1.out; omega)⟩)
      clear hc
      as_aux_lemma =>
        have HRB := Lib.hid (HM.out.below hbx)
        have HXB := Lib.hid bx1
        have HSB := Lib.hid (HSR.out.below hbx)
        have HBB := Lib.hid hbx
        clear hbx bx1
        generalize hwB : wx1 = wB at *
        clear hwB
        obtain ⟨s316, hs316⟩ : ∃ s : List UInt8, [4, 3] ++ (vecB 2 m.sig) = s := ⟨_, rfl⟩
        have HTL316 := Lib.hid (show s316.length ≤ 2104 by rw [← hs316, List.length_append]; have h1 := (show ([4, 3] : List UInt8).length ≤ 2 by decide); have h2 := (show (vecB 2 m.sig).length ≤ 2102 by rw [vecB_length]; have h0 := HS.out.2.2.2.2.1; omega); omega)
        have HT316 := Lib.hid hs316
        clear hs316
        refine wp_region_noPanic ?_
        refine wp_region_held_drew (S := fun V => Below wB.heap.size wB V) (by kernel_rfl) (by exact below_drewN (Below.refl _ _) 1) (fun hHeld => ?_)
        refine wpT 0 ?_ rfl (by kernel_rfl) (by kernel_rfl) (by kernel_rfl) (fun _ _ _ h => h) (by rfl) ?_ hHeld ?_
        rotate_left 1
        · (intro W hSw; (try dsimp only at hSw); go_simp; try with_reducible rfl)
        try simp only [Act.put, zSa, zSz, zSs]
        refine wpT 1 ?_ rfl (by kernel_rfl) (by kernel_rfl) (by kernel_rfl) (fun _ _ _ h => h) (by rfl) ?_ hHeld ?_
        rotate_left 1
        · (intro W hSw; (try dsimp only at hSw); have hcc := (HRB.out.below hSw).sig; go_simp; try with_reducible rfl)
        try simp only [Act.put, zSa, zSz, zSs]
        refine wpT 4 ?_ rfl (by kernel_rfl) (by kernel_rfl) (by kernel_rfl) (fun _ _ _ h => h) (by rfl) ?_ hHeld ?_
        rotate_left 1
        · (intro W hSw; (try dsimp only at hSw); refine exec_load_mid 25 (.tmp 4) ?_ g4 0 ?_ (rC mx1 vc) _ (rangeAt_of_blk (HXB.out.below hSw HXB.out.lt)) Tryd.underlying25 rfl (infoR.trans (by rw [len_rC (m := mx1) HXL1.out])) <;> rfl)
        try simp only [Act.put, zSa, zSz, zSs]
        refine wpAnyH_ready (rs := [2]) (by kernel_rfl) (by simp) ?_
        refine AllReadyH.cons (o := ⟨_, _, _, _, _, _⟩) rfl (fun K hK => ?_) AllReadyH.nil
        go_simp
        go_at_call 25
        refine (vec_2 (m.sig) _ (by have h1 := HS.out.2.2.2.2.1; omega)).mono ?_
        rintro e wq1 ⟨rfl, hbn⟩
        try go_wp2_with fail
        refine hK.out _ _ (hHeld.trans (hbn.mono hHeld.size)) (fun hHeld => ?_)
        clear hK K hbn
        try simp only [Act.put, zSa, zSz, zSs]
        refine wpT 3 ?_ rfl (by kernel_rfl) (by kernel_rfl) (by kernel_rfl) (fun _ _ _ h => h) (by rfl) ?_ hHeld ?_
        rotate_left 1
        · (intro W hSw; (try dsimp only at hSw); refine exec_catL (.const (.string { data := #[4, 3] })) (.tmp 315) ?_ ([4, 3]) ((vecB 2 m.sig)) s316 HT316.out ?_ ?_ (by have h1 := (show ([4, 3] : List UInt8).length ≤ 2 by decide); have h2 := (show (vecB 2 m.sig).length ≤ 2102 by rw [vecB_length]; have h0 := HS.out.2.2.2.2.1; omega); omega) <;> rfl)
        try simp only [Act.put, zSa, zSz, zSs]
        refine wpAnyH_ready (rs := [5]) (by kernel_rfl) (by simp) ?_
        refine AllReadyH.cons (o := ⟨_, _, _, _, _, _⟩) rfl (fun K hK => ?_) AllReadyH.nil
        go_simp
        go_at_call 39
        refine (bare_e mx1 (rC mx1 vc) _ ⟨HXL1.out, vc, rfl, by rw [HXC1.out]; exact HSB.out.below hHeld⟩).mono ?_
        rintro e wq2 ⟨rfl, hbn⟩
        rw [HBARE.out]
        try go_wp2_with fail
        refine hK.out _ _ (hHeld.trans (hbn.mono hHeld.size)) (fun hHeld => ?_)
        clear hK K hbn
        try simp only [Act.put, zSa, zSz, zSs]
        refine wpT 6 ?_ rfl (by kernel_rfl) (by kernel_rfl) (by kernel_rfl) (fun _ _ _ h => h) (by rfl) ?_ hHeld ?_
        rotate_left 1
        · (intro W hSw; (try dsimp only at hSw); go_simp; try with_reducible rfl)
        try simp only [Act.put, zSa, zSz, zSs]
        refine wpT 7 ?_ rfl (by kernel_rfl) (by kernel_rfl) (by kernel_rfl) (fun _ _ _ h => h) (by rfl) ?_ hHeld ?_
        rotate_left 1
        · (intro W hSw; (try dsimp only at hSw); go_simp; try with_reducible rfl)
        try simp only [Act.put, zSa, zSz, zSs]
        refine wpT 8 ?_ rfl (by kernel_rfl) (by kernel_rfl) (by kernel_rfl) (fun _ _ _ h => h) (by rfl) ?_ hHeld ?_
        rotate_left 1
        · (intro W hSw; (try dsimp only at hSw); have hcc := (HRB.out.below hSw).sig; go_simp; try with_reducible rfl)
        try simp only [Act.put, zSa, zSz, zSs]
        refine wpT 9 ?_ rfl (by kernel_rfl) (by kernel_rfl) (by kernel_rfl) (fun _ _ _ h => h) (by rfl) ?_ hHeld ?_
        rotate_left 1
        · (intro W hSw; (try dsimp only at hSw); have hsz := HZ_sig.out; go_simp; try with_reducible rfl)
        try simp only [Act.put, zSa, zSz, zSs]
        refine wpT 10 ?_ rfl (by kernel_rfl) (by kernel_rfl) (by kernel_rfl) (fun _ _ _ h => h) (by rfl) ?_ hHeld ?_
        rotate_left 1
        · (intro W hSw; (try dsimp only at hSw); have hd := HV_sigge1.out.1; have hdn := HV_sigge1.out.2; go_simp; try with_reducible rfl)
        try simp only [Act.put, zSa, zSz, zSs]
        refine wpT 11 ?_ rfl (by kernel_rfl) (by kernel_rfl) (by kernel_rfl) (fun _ _ _ h => h) (by rfl) ?_ hHeld ?_
        rotate_left 1
        · (intro W hSw; (try dsimp only at hSw); go_simp; try with_reducible rfl)
        try simp only [Act.put, zSa, zSz, zSs]
        refine wpT 12 ?_ rfl (by kernel_rfl) (by kernel_rfl) (by kernel_rfl) (fun _ _ _ h => h) (by rfl) ?_ hHeld ?_
        rotate_left 1
        · (intro W hSw; (try dsimp only at hSw); go_simp; try with_reducible rfl)
        try simp only [Act.put, zSa, zSz, zSs]
        refine wpU 13 rfl (by kernel_rfl) (by kernel_rfl) (by kernel_rfl) (fun _ _ _ h => h) (by rfl) hHeld ?_
        try simp only [Act.put, zSa, zSz, zSs]
        refine wpU 14 rfl (by kernel_rfl) (by kernel_rfl) (by kernel_rfl) (fun _ _ _ h => h) (by rfl) hHeld ?_
        try simp only [Act.put, zSa, zSz, zSs]
        refine wpU 15 rfl (by kernel_rfl) (by kernel_rfl) (by kernel_rfl) (fun _ _ _ h => h) (by rfl) hHeld ?_
        try simp only [Act.put, zSa, zSz, zSs]
        refine wpU 16 rfl (by kernel_rfl) (by kernel_rfl) (by kernel_rfl) (fun _ _ _ h => h) (by rfl) hHeld ?_
        try simp only [Act.put, zSa, zSz, zSs]
        refine wpT 17 ?_ rfl (by kernel_rfl) (by kernel_rfl) (by kernel_rfl) (fun _ _ _ h => h) (by rfl) ?_ hHeld ?_
        rotate_left 1
        · (intro W hSw; (try dsimp only at hSw); go_simp; try with_reducible rfl)
        try simp only [Act.put, zSa, zSz, zSs]
        refine wpT 18 ?_ rfl (by kernel_rfl) (by kernel_rfl) (by kernel_rfl) (fun _ _ _ h => h) (by rfl) ?_ hHeld ?_
        rotate_left 1
        · (intro W hSw; (try dsimp only at hSw); go_simp; try with_reducible rfl)
        try simp only [Act.put, zSa, zSz, zSs]
        refine wpT 19 ?_ rfl (by kernel_rfl) (by kernel_rfl) (by kernel_rfl) (fun _ _ _ h => h) (by rfl) ?_ hHeld ?_
        rotate_left 1
        · (intro W hSw; (try dsimp only at hSw); go_simp; try with_reducible rfl)
        try simp only [Act.put, zSa, zSz, zSs]
        refine wpAnyH_done (by kernel_rfl) ?_ _
        refine NoPanic.normal ?_
        have hbe := HB1.out.trans ((HBB.out.trans (hHeld.mono HBB.out.size)).mono HB1.out.size)
        go_wp2
        go_ret2
        have hF : formM m = false := by rw [rform_15 HK.out, HBF.out, decide_eq_false HC_sigge1.out]; rfl
        refine ⟨_, by rw [hF]; rfl, fun _ => ?_, hbe⟩
        rw [← HT316.out, bodyM, HK.out]
        rfl
end Go.Proofs.YtagblbfbjemfhaaDoor
