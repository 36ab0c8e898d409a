/-
  Package hello's parts of a Server's body and of a chain: serverRandom, serverShare, acceptedTicket, chain.
-/
import Derived.Test.YtagblbfbjemfhaaDoorHe
namespace Go.Proofs.YtagblbfbjemfhaaDoor
open Go.RowKit
open HelloMath (numB numB_length vecB vecB_length Msg special zero32 chainB)

/-- What the program's text lays. -/
def TabH (w : World) : Prop := w.rangeAt 0 0 (special.map B8) ∧ 0 < w.heap.size
theorem TabH.below {w w' : World} (h : TabH w) (hb : Below w.heap.size w w') : TabH w' :=
  ⟨fun j v hv => (hb.cell (p := ⟨_, 0 + j, none⟩) h.2).trans (h.1 j v hv), Nat.lt_of_lt_of_le h.2 hb.size⟩
set_option maxRecDepth 100000 in
theorem zeroB32 : Zero Tryd.prog 22 (zero32.map B8) := ⟨_, _, rfl, rfl, by kernel_rfl⟩
set_option maxRecDepth 100000 in
set_option maxHeartbeats 400000 in
theorem serverRandom_e (m : Msg) (g : Nat) (w : World) (R : List UInt8) (hR : Hid ((if m.retry = true then special else m.rnd) = R)) (hT : TabH w) (hM : MAt w g m) : Calls Tryd.prog 60 #[.pointer (some ⟨g, 0, none⟩)] w fun e w' => ∃ r, e = .returned r ∧ SlV w' r (R) ∧ Below w.heap.size w w' := by
  have hl := hM.lens
  have hz : zero32.length = 32 := rfl
  go_enter Tryd.func60, Tryd.ntmps60
  go_upto_region 1 with (fail)
  refine wp_region_lit ?_
  refine wpList_plain rfl (fun K hK => ?_)
  go_simp
  refine hK _ _ ?_
  clear hK K
  try simp only [Act.put, zSa, zSz, zSs]
  refine wpList_plain rfl (fun K hK => ?_)
  go_simp
  refine hK _ _ ?_
  clear hK K
  try simp only [Act.put, zSa, zSz, zSs]
  refine wpList_plain rfl (fun K hK => ?_)
  go_simp
  refine hK _ _ ?_
  clear hK K
  try simp only [Act.put, zSa, zSz, zSs]
  refine wpList_load_mid rfl 22 (.tmp 6) rfl g 1 rfl (m.rnd.map B8) _ (hM.rnd) Tryd.underlying22 rfl (info40.trans (by rw [List.length_map, hl.1])) ?_
  try simp only [Act.put, zSa, zSz, zSs]
  refine wpList_new_blk rfl 22 rfl (zero32.map B8) zeroB32 ?_
  intro g3 w1 hg b3 hb1
  have HG := Lib.hid hg
  clear hg
  try simp only [Act.put, zSa, zSz, zSs]
  refine wpList_store_blk rfl 22 (.tmp 3) (.tmp 7) rfl rfl g3 (m.rnd.map B8) rfl rfl _ _ b3 (info40.trans (by rw [List.length_map, hl.1])) (by rw [List.length_map, List.length_map, hl.1, hz]) (one8 _) ?_
  intro w2 bnw2 hgs
  try simp only [Act.put, zSa, zSz, zSs]
  have hb2 : Below w.heap.size w w2 := hb1.trans (grown_below hgs (Nat.le_of_eq HG.out.symm) hb1.size)
  clear hgs b3
  have hM2 := hM.below hb2
  have hc2 := hM2.retry
  cases hre : m.retry with
  | false =>
    rw [hre] at hc2
    go_wp2
    refine bodyPost_ret (results_tmp Tryd.results60 _ _ _) rfl ?_
    have e : m.rnd = R := by have h := hR.out; rw [hre] at h; exact h
    rw [← e]
    exact ⟨_, rfl, slV_range (rangeAt_of_blk bnw2) bnw2.lt hl.1, hb2⟩
  | true =>
    rw [hre] at hc2
    have hT2 := hT.below hb2
    have hsp : special.length = 32 := rfl
    go_upto_region 3 with (fail)
    refine wp_region_lit ?_
    refine wpList_load_mid rfl 22 (.global 0) rfl 0 0 rfl (special.map B8) _ (hT2.1) Tryd.underlying22 rfl (info40.trans (by rw [List.length_map, hsp])) ?_
    try simp only [Act.put, zSa, zSz, zSs]
    refine wpList_store_blk rfl 22 (.tmp 3) (.tmp 12) rfl rfl g3 (special.map B8) rfl rfl _ _ bnw2 (info40.trans (by rw [List.length_map, hsp])) (by rw [List.length_map, List.length_map, hsp, hl.1]) (one8 _) ?_
    intro w3 bnw3 hgs
    try simp only [Act.put, zSa, zSz, zSs]
    have hb3 : Below w.heap.size w w3 := hb2.trans (grown_below hgs (Nat.le_of_eq HG.out.symm) hb2.size)
    go_wp2
    refine bodyPost_ret (results_tmp Tryd.results60 _ _ _) rfl ?_
    have e : special = R := by have h := hR.out; rw [hre] at h; exact h
    rw [← e]
    exact ⟨_, rfl, slV_range (rangeAt_of_blk bnw3) bnw3.lt hsp, hb3⟩
set_option maxRecDepth 100000 in
set_option maxHeartbeats 400000 in
theorem serverShare_1 (m : Msg) (g : Nat) (w : World) (hM : MAt w g m) (hp : m.retry = true) : Calls Tryd.prog 61 #[.pointer (some ⟨g, 0, none⟩)] w fun e w' => ∃ r, e = .returned r ∧ SlV w' r ([]) ∧ Below w.heap.size w w' := by
  have hc1 := hM.retry
  rw [hp] at hc1
  go_enter Tryd.func61, Tryd.ntmps61
  go_wp2
  refine bodyPost_ret (results_tmp Tryd.results61 _ _ _) rfl ?_
  exact ⟨_, rfl, ⟨none, 0, rfl, in_nil _ 0 (by decide) _⟩, Below.refl _ _⟩
set_option maxRecDepth 100000 in
set_option maxHeartbeats 400000 in
theorem serverShare_0 (m : Msg) (g : Nat) (w : World) (hM : MAt w g m) (HL : Hid (m.sha.length ≤ 3000)) (hp : m.retry = false) : Calls Tryd.prog 61 #[.pointer (some ⟨g, 0, none⟩)] w fun e w' => ∃ r, e = .returned r ∧ SlV w' r (vecB 2 m.sha) ∧ Below w.heap.size w w' := by
  go_enter Tryd.func61, Tryd.ntmps61
  have hb0 : Below w.heap.size w w := Below.refl _ _
  have hc1 := hM.retry
  rw [hp] at hc1
  go_upto_region 3 with (fail)
  apply wp_plain_onceK (m := 6) (J := [[], [0], [1], [2], [3], [4]]) (Je := [5]) (Rs := [Is _, Is _, Is _, fun v V => SlV V v (m.sha), fun v V => RowV V v ([m.sha]), fun v V => SlV V v (vecB 2 ([m.sha]).flatten)])
  · kernel_rfl
  · kernel_rfl
  · intro u
    simp only [List.take_succ_cons, List.take_zero, List.map_cons, List.map_nil, fillU, List.setIfInBounds_toArray, List.set_cons_zero, List.set_cons_succ, Nat.reduceAdd]
    exact rfl
  · simp only [List.take_succ_cons, List.take_zero]
    refine ⟨fun u W hb hd K hK => ?_, ?_⟩
    · clear hd
      go_simp
      apply hK
      · simp only [Act.put, zSa, zSz, zSs]
        exact rfl
      · exact CB.refl _ _
      · exact IsOut
    refine ⟨fun u W hb hd K hK => ?_, ?_⟩
    · simp only [Facts, nthR, Is, and_true] at hd
      have h0 := hd
      clear hd
      simp only [h0] at hK ⊢
      go_simp
      apply hK
      · simp only [Act.put, zSa, zSz, zSs]
        exact rfl
      · exact CB.refl _ _
      · exact IsOut
    refine ⟨fun u W hb hd K hK => ?_, ?_⟩
    · simp only [Facts, nthR, Is, and_true] at hd
      have h1 := hd
      clear hd
      simp only [h1] at hK ⊢
      go_simp
      apply hK
      · simp only [Act.put, zSa, zSz, zSs]
        exact rfl
      · exact CB.refl _ _
      · exact IsOut
    refine ⟨fun u W hb hd K hK => ?_, ?_⟩
    · simp only [Facts, nthR, Is, and_true] at hd
      have h2 := hd
      clear hd
      simp only [h2] at hK ⊢
      obtain ⟨v, hc, hv⟩ := (hM.below hb).sha
      go_simp
      exact hK _ _ _ rfl (CB.refl _ _) hv
    refine ⟨fun u W hb hd K hK => ?_, ?_⟩
    · simp only [Facts, nthR, and_true] at hd
      have h3 := hd
      clear hd
      obtain ⟨A0, c0, e0, f0⟩ := h3
      simp only [e0] at hK ⊢
      rw [if_pos (by rfl)]
      refine wp_rowsc [.slice A0 (m.sha).length c0] [m.sha] rfl rfl (by decide) [(0, .slice A0 (m.sha).length c0)] (by rw [Array.toList_map]; rfl) (rows1 _ _ _) ⟨⟨_, _, rfl, f0⟩, trivial⟩ (fun v w' h1 h2 => ?_)
      exact hK _ _ _ rfl (CB.of h2 hb.size) h1
    refine ⟨fun u W hb hd K hK => ?_, ?_⟩
    · simp only [Facts, nthR, and_true] at hd
      have h4 := hd
      clear hd
      go_simp
      refine (counted_e 2 [m.sha] _ _ h4 (by decide) (by simp only [List.flatten_cons, List.flatten_nil, List.append_nil]; have hsz := HL.out; omega)).mono ?_
      rintro e wy ⟨r, rfl, hB, hby⟩
      exact hK _ _ _ rfl (CB.of hby hb.size) hB.sl
    exact trivial
  · exact (.is (.is (.is (.cons (fun _ _ _ h hb => h.cb hb) (.cons (fun _ _ _ h hb => h.cb hb) (.cons (fun _ _ _ h hb => h.cb hb) .nil))))))
  intro u w1 hb hd
  simp only [List.drop_succ_cons, List.drop_zero]
  simp only [Facts, nthR, and_true] at hd
  have h5 := hd
  clear hd
  obtain ⟨vx1, e5⟩ : ∃ v, u 5 = v := ⟨_, rfl⟩
  rw [e5] at h5
  simp only [e5]
  clear e5
  have fx1 := h5
  clear h5
  replace hM := hM.below hb
  replace hb0 := hb0.trans (hb.mono hb0.size)
  clear hb
  go_wp2
  refine bodyPost_ret (results_tmp Tryd.results61 _ _ _) rfl ?_
  exact ⟨_, rfl, by simpa using fx1, hb0⟩
set_option maxRecDepth 100000 in
set_option maxHeartbeats 400000 in
theorem accepted_0 (m : Msg) (g : Nat) (w : World) (hM : MAt w g m) (hp : m.psk = false) : Calls Tryd.prog 62 #[.pointer (some ⟨g, 0, none⟩)] w fun e w' => ∃ r, e = .returned r ∧ SlV w' r ([]) ∧ Below w.heap.size w w' := by
  have hc1 := hM.psk
  rw [hp] at hc1
  go_enter Tryd.func62, Tryd.ntmps62
  go_wp2
  refine bodyPost_ret (results_tmp Tryd.results62 _ _ _) rfl ?_
  exact ⟨_, rfl, ⟨none, 0, rfl, in_nil _ 0 (by decide) _⟩, Below.refl _ _⟩
set_option maxRecDepth 100000 in
set_option maxHeartbeats 400000 in
theorem accepted_1 (m : Msg) (g : Nat) (w : World) (hM : MAt w g m) (hp : m.psk = true) : Calls Tryd.prog 62 #[.pointer (some ⟨g, 0, none⟩)] w fun e w' => ∃ r, e = .returned r ∧ SlV w' r ([0, 41, 0, 2, 0, 0]) ∧ Below w.heap.size w w' := by
  go_enter Tryd.func62, Tryd.ntmps62
  have hb0 : Below w.heap.size w w := Below.refl _ _
  have hc1 := hM.psk
  rw [hp] at hc1
  go_upto_region 3 with (fail)
  apply wp_plain_onceK (m := 2) (J := [[], [0]]) (Je := [1]) (Rs := [fun v V => FrV w.heap.size V v ([0, 41, 0, 2, 0, 0]), fun v V => FrV w.heap.size V v ([0, 41, 0, 2, 0, 0])])
  · kernel_rfl
  · kernel_rfl
  · intro u
    simp only [List.take_succ_cons, List.take_zero, List.map_cons, List.map_nil, fillU, List.setIfInBounds_toArray, List.set_cons_zero, List.set_cons_succ, Nat.reduceAdd]
    exact rfl
  · simp only [List.take_succ_cons, List.take_zero]
    refine ⟨fun u W hb hd K hK => ?_, ?_⟩
    · clear hd
      rw [if_pos (by rfl)]
      refine wp_bytescK [0, 41, 0, 2, 0, 0] _ hb.size rfl rfl (by decide) (by kernel_rfl) (fun v w' h1 h2 => ?_)
      exact hK _ _ _ rfl (CB.of h2 hb.size) h1
    refine ⟨fun u W hb hd K hK => ?_, ?_⟩
    · simp only [Facts, nthR, and_true] at hd
      have h0 := hd
      clear hd
      rw [if_pos (by rfl)]
      refine wp_constK rfl rfl h0 (fun v w' h1 h2 => ?_)
      exact hK _ _ _ rfl h2 h1
    exact trivial
  · exact (.cons (fun _ _ _ h hb => h.cb hb) (.cons (fun _ _ _ h hb => h.cb hb) .nil))
  intro u w1 hb hd
  simp only [List.drop_succ_cons, List.drop_zero]
  simp only [Facts, nthR, and_true] at hd
  have h1 := hd
  clear hd
  obtain ⟨vx1, e1⟩ : ∃ v, u 1 = v := ⟨_, rfl⟩
  rw [e1] at h1
  simp only [e1]
  clear e1
  have fx1 := h1
  clear h1
  replace hM := hM.below hb
  replace hb0 := hb0.trans (hb.mono hb0.size)
  clear hb
  go_wp2
  refine bodyPost_ret (results_tmp Tryd.results62 _ _ _) rfl ?_
  exact ⟨_, rfl, fx1.sl, hb0⟩
theorem loop_less {j n : Nat} (h : j < n) (hn : n ≤ 9223372036854775807) : n - (intOf (.int .i64 (wrap64 ((j : Int) + 1)))).toNat < n - (intOf (.int .i64 (j : Int))).toNat := by
  have h1 : wrap64 ((j : Int) + 1) = ((j + 1 : Nat) : Int) := by unfold wrap64; omega
  rw [h1]
  show n - (((j + 1 : Nat) : Int)).toNat < n - ((j : Int)).toNat
  omega
theorem chain_take {l : List (List UInt8)} {j : Nat} (h : j < l.length) : chainB (l.take (j + 1)) = chainB (l.take j) ++ (vecB 3 (l.getD j []) ++ [0, 0]) := by
  have snoc : ∀ (l : List (List UInt8)) (c : List UInt8), chainB (l ++ [c]) = chainB l ++ (vecB 3 c ++ [0, 0]) := by
    intro l c
    induction l with
    | nil => simp [chainB]
    | cons d l ih => rw [List.cons_append, chainB, chainB, ih]; simp only [List.append_assoc]
  rw [List.take_succ_eq_append_getElem h, snoc, List.getD_eq_getElem?_getD, List.getElem?_eq_getElem h]
  rfl
theorem chain_sz {l : List (List UInt8)} {j : Nat} (h : l.length ≤ 5 ∧ ∀ c ∈ l, c.length ≤ 2048) (hj : j < l.length) : (chainB (l.take j)).length ≤ 20000 ∧ (l.getD j []).length ≤ 2048 := by
  have h1 := HelloMath.chain_le (l.take j) (fun c hc => h.2 c (List.mem_of_mem_take hc))
  have h2 : (l.take j).length ≤ 5 := by rw [List.length_take]; omega
  refine ⟨by omega, h.2 _ ?_⟩
  rw [List.getD_eq_getElem?_getD, List.getElem?_eq_getElem hj]
  exact List.getElem_mem hj
set_option maxRecDepth 100000 in
set_option maxHeartbeats 400000 in
theorem chain_e (m : Msg) (g : Nat) (w : World) (hM : MAt w g m) (HL : Hid (m.certs.length ≤ 5 ∧ ∀ c ∈ m.certs, c.length ≤ 2048)) : Calls Tryd.prog 63 #[.pointer (some ⟨g, 0, none⟩)] w fun e w' => ∃ r, e = .returned r ∧ SlV w' r (chainB m.certs) ∧ Below w.heap.size w w' := by
  obtain ⟨vc, hc1, A, c, rfl, hP⟩ := hM.certs
  have HP := Lib.hid hP
  obtain ⟨n, hn⟩ : ∃ n, m.certs.length = n := ⟨_, rfl⟩
  rw [hn] at hc1
  have HN := Lib.hid hn
  clear hn hP
  go_enter Tryd.func63, Tryd.ntmps63
  have hb0 : Below w.heap.size w w := Below.refl _ _
  go_upto_region 2 with (fail)
  go_upto_region 3 with (fail)
  go_loopw [11, 3] (fun i r wl => Below w.heap.size w wl ∧ ∃ j : Nat, i = .int .i64 (j : Int) ∧ j ≤ n ∧ Hid (SlV wl r (chainB (m.certs.take j)))) (fun i _ _ => n - (intOf i).toNat)
  case atStart => exact ⟨Below.refl _ _, 0, rfl, Nat.zero_le _, Lib.hid ⟨none, 0, rfl, in_nil _ 0 (by decide) _⟩⟩
  case round =>
    obtain ⟨hb0, j, rfl, hj, hSl⟩ := hrel
    by_cases hlt : j < n
    · have hjp : j < m.certs.length := by rw [HN.out]; exact hlt
      obtain ⟨gp, op, rfl, hgp, hrow⟩ := HP.out.2.2 (by omega)
      obtain ⟨Aj, cj, hc, hi⟩ := hrow j hjp
      have hc := (hb0.cell (p := ⟨gp, op + j, none⟩) hgp).trans hc
      obtain ⟨q, hq⟩ : ∃ q, (m.certs.getD j []).length = q := ⟨_, rfl⟩
      rw [hq] at hc
      have fy0 : SlV wr (.slice Aj q cj) (m.certs.getD j []) := ⟨Aj, cj, by rw [hq], in_weak (hi.below hb0) hb0.size⟩
      have fx0 := hSl.out
      have hM := hM.below hb0
      have HL2 := Lib.hid (chain_sz HL.out hjp)
      have hct := Lib.hid (chain_take hjp)
      obtain ⟨_, hw2, hlt', _, hj0, hjn⟩ := cat_ix j 0 0 n hlt (by rw [← HN.out]; have := HL.out; omega) (by decide)
      have HLT := Lib.hid hlt
      clear hrow hi hgp hjp hq hSl hlt hj
      go_upto_region 5 with (fail)
      apply wp_plain_onceK (m := 8) (J := [[], [], [1], [2], [], [4], [0, 3, 5], [6]]) (Je := [7]) (Rs := [Is _, Is _, fun v V => RowV V v ([m.certs.getD j []]), fun v V => SlV V v (vecB 3 ([m.certs.getD j []]).flatten), fun v V => FrV wr.heap.size V v ([0, 0]), fun v V => FrV wr.heap.size V v ([0, 0]), fun v V => RowV V v ([chainB (m.certs.take j), vecB 3 ([m.certs.getD j []]).flatten, [0, 0]]), fun v V => SlV V v (([chainB (m.certs.take j), vecB 3 ([m.certs.getD j []]).flatten, [0, 0]]).flatten)])
      · kernel_rfl
      · kernel_rfl
      · intro u
        simp only [List.take_succ_cons, List.take_zero, List.map_cons, List.map_nil, fillU, List.setIfInBounds_toArray, List.set_cons_zero, List.set_cons_succ, Nat.reduceAdd]
        exact rfl
      · simp only [List.take_succ_cons, List.take_zero]
        refine ⟨fun u W hb hd K hK => ?_, ?_⟩
        · clear hd
          go_simp
          apply hK
          · simp only [Act.put, zSa, zSz, zSs]
            exact rfl
          · exact CB.refl _ _
          · exact IsOut
        refine ⟨fun u W hb hd K hK => ?_, ?_⟩
        · clear hd
          go_simp
          apply hK
          · simp only [Act.put, zSa, zSz, zSs]
            exact rfl
          · exact CB.refl _ _
          · exact IsOut
        refine ⟨fun u W hb hd K hK => ?_, ?_⟩
        · simp only [Facts, nthR, Is, and_true] at hd
          have h1 := hd
          clear hd
          simp only [h1] at hK ⊢
          obtain ⟨A0, c0, e0, f0⟩ := (fy0.below hb)
          simp only [e0] at hK ⊢
          rw [if_pos (by rfl)]
          refine wp_rowsc [.slice A0 (m.certs.getD j []).length c0] [m.certs.getD j []] rfl rfl (by decide) [(0, .slice A0 (m.certs.getD j []).length c0)] (by rw [Array.toList_map]; rfl) (rows1 _ _ _) ⟨⟨_, _, rfl, f0⟩, trivial⟩ (fun v w' h1 h2 => ?_)
          exact hK _ _ _ rfl (CB.of h2 hb.size) h1
        refine ⟨fun u W hb hd K hK => ?_, ?_⟩
        · simp only [Facts, nthR, and_true] at hd
          have h2 := hd
          clear hd
          go_simp
          refine (counted_e 3 [m.certs.getD j []] _ _ h2 (by decide) (by simp only [List.flatten_cons, List.flatten_nil, List.append_nil]; have hsz := HL2.out; omega)).mono ?_
          rintro e wy ⟨r, rfl, hB, hby⟩
          exact hK _ _ _ rfl (CB.of hby hb.size) hB.sl
        refine ⟨fun u W hb hd K hK => ?_, ?_⟩
        · clear hd
          rw [if_pos (by rfl)]
          refine wp_bytescK [0, 0] _ hb.size rfl rfl (by decide) (by kernel_rfl) (fun v w' h1 h2 => ?_)
          exact hK _ _ _ rfl (CB.of h2 hb.size) h1
        refine ⟨fun u W hb hd K hK => ?_, ?_⟩
        · simp only [Facts, nthR, and_true] at hd
          have h4 := hd
          clear hd
          rw [if_pos (by rfl)]
          refine wp_constK rfl rfl h4 (fun v w' h1 h2 => ?_)
          exact hK _ _ _ rfl h2 h1
        refine ⟨fun u W hb hd K hK => ?_, ?_⟩
        · simp only [Facts, nthR, Is, and_true] at hd
          obtain ⟨h0, h3, h5⟩ := hd
          simp only [h0] at hK ⊢
          obtain ⟨A0, c0, e0, f0⟩ := (fx0.below hb)
          obtain ⟨A1, c1, e1, f1⟩ := h3
          obtain ⟨A2, c2, e2, f2⟩ := h5.sl
          simp only [e0, e1, e2] at hK ⊢
          rw [if_pos (by rfl)]
          refine wp_rowsc [.slice A0 (chainB (m.certs.take j)).length c0, .slice A1 (vecB 3 ([m.certs.getD j []]).flatten).length c1, .slice A2 ([0, 0]).length c2] [chainB (m.certs.take j), vecB 3 ([m.certs.getD j []]).flatten, [0, 0]] rfl rfl (by decide) [(0, .slice A0 (chainB (m.certs.take j)).length c0), (1, .slice A1 (vecB 3 ([m.certs.getD j []]).flatten).length c1), (2, .slice A2 ([0, 0]).length c2)] (by rw [Array.toList_map]; rfl) (rows3 _ _ _ _ _ _ _ _ _) ⟨⟨_, _, rfl, f0⟩, ⟨_, _, rfl, f1⟩, ⟨_, _, rfl, f2⟩, trivial⟩ (fun v w' h1 h2 => ?_)
          exact hK _ _ _ rfl (CB.of h2 hb.size) h1
        refine ⟨fun u W hb hd K hK => ?_, ?_⟩
        · simp only [Facts, nthR, and_true] at hd
          have h6 := hd
          clear hd
          go_simp
          refine (concat_e [chainB (m.certs.take j), vecB 3 ([m.certs.getD j []]).flatten, [0, 0]] _ _ h6 (by simp only [List.flatten_cons, List.flatten_nil, List.length_append, List.length_cons, List.length_nil, vecB_length, List.append_nil]; have hsz := HL2.out; omega)).mono ?_
          rintro e wy ⟨r, rfl, hB, hby⟩
          exact hK _ _ _ rfl (CB.of hby hb.size) hB.sl
        exact trivial
      · exact (.is (.is (.cons (fun _ _ _ h hb => h.cb hb) (.cons (fun _ _ _ h hb => h.cb hb) (.cons (fun _ _ _ h hb => h.cb hb) (.cons (fun _ _ _ h hb => h.cb hb) (.cons (fun _ _ _ h hb => h.cb hb) (.cons (fun _ _ _ h hb => h.cb hb) .nil))))))))
      intro u w1 hb hd
      simp only [List.drop_succ_cons, List.drop_zero]
      simp only [Facts, nthR, and_true] at hd
      have h7 := hd
      clear hd
      obtain ⟨vx1, e7⟩ : ∃ v, u 7 = v := ⟨_, rfl⟩
      rw [e7] at h7
      simp only [e7]
      clear e7
      have fx1 := h7
      clear h7
      replace hM := hM.below hb
      replace fx0 := fx0.below hb
      replace fy0 := fy0.below hb
      replace hb0 := hb0.trans (hb.mono hb0.size)
      clear hb
      go_upto_region 6 with (fail)
      have HX := Lib.hid (show SlV w1 vx1 (chainB (m.certs.take (j + 1))) by rw [hct.out]; simpa using fx1)
      have HB := Lib.hid hb0
      clear fx1 fx0 fy0 hM hc1 hc hb0
      go_wp2
      go_roundw
      case rel => exact ⟨HB.out, j + 1, by rw [hw2], HLT.out, HX⟩
      case measure => exact loop_less HLT.out (Nat.le_trans (Nat.le_trans (Nat.le_of_eq HN.out.symm) HL.out.1) (by decide))
    · obtain rfl : j = n := by omega
      have hlt' : ¬ (j : Int) < (j : Int) := by omega
      have fx0 := hSl.out
      have HB := Lib.hid hb0
      rw [← HN.out, List.take_length] at fx0
      clear hj hlt hSl hb0
      go_wp2
      refine bodyPost_ret (results_tmp Tryd.results63 _ _ _) rfl ?_
      exact ⟨_, rfl, fx0, HB.out⟩
end Go.Proofs.YtagblbfbjemfhaaDoor
