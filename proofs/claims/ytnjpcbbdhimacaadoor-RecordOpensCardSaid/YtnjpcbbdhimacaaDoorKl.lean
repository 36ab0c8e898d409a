/-
 Joined: Rv, Rv2.
-/
import Derived.Test.YtnjpcbbdhimacaaDoorKj
import Derived.Test.YtnjpcbbdhimacaaDoorKk
namespace Go.Proofs.YtnjpcbbdhimacaaDoor
section
open Go.RowKit
theorem owns_bytes {w : World} {base n : Nat} {v : Value} {L : List UInt8} (h : w.ownsRow base 56 16 v n (L.map B8)) (hn : 0 < n) :
  ∃ g c, v = .slice (some ⟨g, 0, none⟩) n c ∧ base ≤ g ∧ g < w.heap.size ∧ n ≤ c ∧ Bytes w g 0 L := by
 rcases h.2 with ⟨_, h0⟩ | ⟨g, cap, cur, e, hb, hg, hc, _⟩
 ·
  omega
 ·
  refine ⟨g, cap, e, hb, (Array.getElem?_eq_some_iff.1 hg).1, hc, fun j hj => ?_⟩
  have := h.cells (g := g) (by rw [e]; rfl) j _ (getD_map8 L j hj)
  rw [add_row] at this
  exact this
theorem mul2_ix (k q s c a p : Nat) (h : k = 4 * q + s) (hs : s < 4) (hq : q < 4) (hc : c = 4 * q) (t : Nat) (ti : Int) (hti : ti = (t : Int)) (ht : t < 4) (ha : a = (s + t) % 4) (hp : p = c + a) :
  IntKind.i64.wrap ((k : Int) + ti) = (k : Int) + ti ∧ ((k : Int) + ti) % 4 = (a : Int) ∧ ((k : Int) + ti).tmod 4 = (a : Int) ∧
  IntKind.i64.wrap ((c : Int) + (a : Int)) = (p : Int) ∧ (0 : Int) ≤ (p : Int) ∧ (p : Int) < 16 := by
 subst hti
 have e : ((k : Int) + (t : Int)) % 4 = (a : Int) := by omega
 refine ⟨by rw [IntKind.wrap_i64]; omega, e, ?_, by rw [IntKind.wrap_i64]; omega, by omega, by omega⟩
 rw [Int.tmod_eq_emod_of_nonneg (by omega), e]
theorem sub_ix (k s q : Nat) (hk : k < 16) (hs : s = k % 4) (hq : q = (k + 4 * s) % 16) :
  (k : Int) % 4 = (s : Int) ∧ (k : Int).tmod 4 = (s : Int) ∧ wrap64 (4 * (s : Int)) = 4 * (s : Int) ∧ wrap64 ((k : Int) + 4 * (s : Int)) = (k : Int) + 4 * (s : Int) ∧ ((k : Int) + 4 * (s : Int)) % 16 = (q : Int) ∧ ((k : Int) + 4 * (s : Int)).tmod 16 = (q : Int) ∧
  (0 : Int) ≤ (k : Int) ∧ (k : Int) < 16 ∧ (0 : Int) ≤ (q : Int) ∧ (q : Int) < 16 ∧ (0 : Int) ≤ (k : Int) + 4 * (s : Int) := by
 have e : ((k : Int) + 4 * (s : Int)) % 16 = (q : Int) := by omega
 refine ⟨by omega, ?_, ?_, ?_, e, ?_, by omega, by omega, by omega, by omega, by omega⟩
 ·
  rw [Int.tmod_eq_emod_of_nonneg (by omega)]; omega
 ·
  unfold wrap64; omega
 ·
  unfold wrap64; omega
 ·
  rw [Int.tmod_eq_emod_of_nonneg (by omega), e]
theorem col_ix (k q : Nat) (hk : k < 16) (hq : q = k / 4) : (k : Int) / 4 = (q : Int) ∧ (k : Int).tdiv 4 = (q : Int) ∧ wrap64 ((q : Int) * 4) = ((4 * q : Nat) : Int) ∧ (q : Int) * 4 = ((4 * q : Nat) : Int) := by
 refine ⟨by omega, ?_, ?_, by omega⟩
 ·
  rw [Int.tdiv_eq_ediv_of_nonneg (by omega)]; omega
 ·
  unfold wrap64; omega
theorem Bytes.far {w : World} {g o : Nat} {bs : List UInt8} (h : Bytes w g o bs) {p : Addr} (hp : g ≠ p.block) (u : Value) : Bytes (w.setCell p u) g o bs :=
 fun j hj => (World.cell?_of_block (a := ⟨g, o + j, none⟩) (Below.heap_setCell w p u g hp)).trans (h j hj)
theorem Bytes.grown {w w' : World} {g o : Nat} {bs : List UInt8} {row : Option Nat} (h : Bytes w g o bs) (hg : w.grownBy w' row) (hl : g < w.heap.size) (hr : some g ≠ row) : Bytes w' g o bs :=
 fun j hj => (World.cell?_of_block (a := ⟨g, o + j, none⟩) (hg.block g hl hr)).trans (h j hj)
/-- What stays beside the blocks that are written. -/
structure SFr (w : World) (g4 g5 gk : Nat) (Z X FF : List UInt8) (wr : World) : Prop where
 r : Blk wr g4 56 (Z.map B8)
 t : Blk wr g5 137 (X.map B8)
 k : Bytes wr gk 0 FF
 b : Below w.heap.size w wr
 l : gk < wr.heap.size
theorem SFr.far {w wr : World} {g4 g5 gk : Nat} {Z X FF : List UInt8} (h : SFr w g4 g5 gk Z X FF wr) {p : Addr} (hp : g4 ≠ p.block ∧ g5 ≠ p.block ∧ gk ≠ p.block ∧ w.heap.size ≤ p.block) (u : Value) : SFr w g4 g5 gk Z X FF (wr.setCell p u) :=
 ⟨h.r.far hp.1 u, h.t.far hp.2.1 u, h.k.far hp.2.2.1 u, h.b.setCell hp.2.2.2 u, by simpa using h.l⟩
theorem SFr.alloc {w wr : World} {g4 g5 gk : Nat} {Z X FF : List UInt8} (h : SFr w g4 g5 gk Z X FF wr) (o : Obj) : SFr w g4 g5 gk Z X FF (wr.alloc o) :=
 ⟨h.r.alloc o, h.t.alloc o, h.k.below ((Below.refl _ _).alloc (Nat.le_refl _) o) h.l, h.b.alloc h.b.size o, by simp; exact Nat.lt_succ_of_lt h.l⟩
theorem SFr.below {w wr wx : World} {g4 g5 gk : Nat} {Z X FF : List UInt8} (h : SFr w g4 g5 gk Z X FF wr) (hb : Below wr.heap.size wr wx) : SFr w g4 g5 gk Z X FF wx :=
 ⟨h.r.below hb h.r.lt, h.t.below hb h.t.lt, h.k.below hb h.l, h.b.trans (hb.mono h.b.size), Nat.lt_of_lt_of_le h.l hb.size⟩
theorem SFr.grown {w wr wx : World} {g4 g5 gk g : Nat} {Z X FF : List UInt8} (h : SFr w g4 g5 gk Z X FF wr) (hg : wr.grownBy wx (some g)) (hp : g4 ≠ g ∧ g5 ≠ g ∧ gk ≠ g ∧ w.heap.size ≤ g) : SFr w g4 g5 gk Z X FF wx :=
 ⟨h.r.grown hg (by simp; exact hp.1), h.t.grown hg (by simp; exact hp.2.1), h.k.grown hg h.l (by simp; exact hp.2.2.1), below_new h.b hg hp.2.2.2 h.b.size, Nat.lt_of_lt_of_le h.l hg.size⟩
theorem SFr.new {w wr : World} {g4 g5 gk : Nat} {Z X FF : List UInt8} (h : SFr w g4 g5 gk Z X FF wr) : g4 ≠ wr.heap.size ∧ g5 ≠ wr.heap.size ∧ gk ≠ wr.heap.size ∧ w.heap.size ≤ wr.heap.size := by
 have h1 := h.r.lt
 have h2 := h.t.lt
 have h3 := h.l
 have h4 := h.b.size
 omega

end
section
open Go.RowKit
set_option maxRecDepth 100000 in
set_option maxHeartbeats 4000000 in
theorem refSeal_out (n : Nat) (hn : n = 4 ∨ n = 8) (key b : List UInt8) (hl : key.length = 4 * n) (hb : b.length = 16) (w : World) :
  Calls Tryd.prog 69 #[.string ⟨key.toArray⟩, BV b] w fun e w' => e = .returned (BV (outR (flatK (kWords n key)) (n + 7) b (n + 6))) ∧ Below w.heap.size w w' := by
 obtain ⟨X, hX⟩ : ∃ X, X = tabR := ⟨_, rfl⟩
 obtain ⟨FF, hF⟩ : ∃ FF, FF = flatK (kWords n key) := ⟨_, rfl⟩
 obtain ⟨R, hR⟩ : ∃ R, R = n + 7 := ⟨_, rfl⟩
 obtain ⟨Z, hZ⟩ : ∃ Z, Z = zero16 := ⟨_, rfl⟩
 obtain ⟨Y, hY⟩ : ∃ Y, Y = zero256 := ⟨_, rfl⟩
 have HXL := Lib.hid (show X.length = 256 by rw [hX]; exact tabR_length)
 have HXG := Lib.hid (show ∀ x : UInt8, X.getD x.toNat 0 = boxR x by rw [hX]; exact tab_of)
 have HFL := Lib.hid (show FF.length = 16 * R by rw [hF, flatK_length, kWords_len, hR]; omega)
 have HZL := Lib.hid (show Z.length = 16 by rw [hZ]; rfl)
 have HYL := Lib.hid (show Y.length = 256 by rw [hY]; exact zero256_length)
 have hz : ∀ W : World, (zeroValue 56).run Tryd.prog W = .ok (.agg (Z.map B8).toArray) W := fun W => by rw [hZ]; kernel_rfl
 have hz2 : ∀ W : World, (zeroValue 137).run Tryd.prog W = .ok (.agg (Y.map B8).toArray) W := fun W => by rw [hY]; exact zero256_run W
 have cT := fun W => tableR_any W
 have cK := fun W => keysR_any n hn key hl W
 rw [← hX, ← hF, ← hR] at cK
 rw [← hX] at cT
 have HB := Lib.hid hb
 have HR := Lib.hid (show 11 ≤ R ∧ R ≤ 15 by omega)
 rw [← hF, ← hR, show n + 6 = R - 1 by omega]
 have hR0 : (0 : Int) < (R : Int) := by omega
 clear hX hF hZ hY hR hb hn hl
 go_enter Tryd.func69, Tryd.ntmps69
 go_wp2_with (first
  | (go_at_call 87; with_reducible refine (cT _).mono ?_; rintro e w1 ⟨rfl, hb1⟩)
  | (refine wpList_store_blk rfl 137 (.tmp 5) (.tmp 15) rfl rfl w1.heap.size _ rfl rfl 137 _ (Blk.new_of w1 137 _ (Y.map B8) rfl) (info256.trans (by rw [List.length_map, HXL.out])) (by rw [List.length_map, List.length_map, HXL.out, HYL.out]) (one8 _) ?_; intro w2 hT2 hg2)
  | (refine wpList_load_blk rfl 137 (.tmp 5) rfl w1.heap.size rfl 137 _ _ hT2 Tryd.underlying137 rfl (info256.trans (by rw [List.length_map, HXL.out])) ?_)
  | (go_at_call 88; with_reducible refine (cK _).mono ?_; rintro e w3 ⟨v, rfl, hO, hb3⟩))
 have hA1 : Blk w1 w.heap.size 56 (b.map B8) := ((Blk.new_of w 56 _ (b.map B8) rfl).alloc (.cells (Z.map B8).toArray 56)).below hb1 (by simp; omega)
 have hA4 : Blk w1 (w.heap.size + 1) 56 (Z.map B8) := (Blk.new2_of w (.cells (b.map B8).toArray 56) 56 (Z.map B8).toArray (Z.map B8) rfl).below hb1 (by simp)
 have hb1' : Below w.heap.size w w1 := (((Below.refl w.heap.size w).alloc (Nat.le_refl _) (.cells (b.map B8).toArray 56)).alloc (by simp) (.cells (Z.map B8).toArray 56)).trans (hb1.mono (by simp; omega))
 have hl1 := hA4.lt
 have hA2 := (hA1.alloc (.cells (Y.map B8).toArray 137)).grown hg2 (by simp; omega)
 have hA5 := (hA4.alloc (.cells (Y.map B8).toArray 137)).grown hg2 (by simp; omega)
 have hb2' := below_new (hb1'.alloc hb1'.size (.cells (Y.map B8).toArray 137)) hg2 hb1'.size (by have := hb1'.size; simp; omega)
 obtain ⟨gk, c, rfl, hbk, hlk, hcR, hK⟩ := owns_bytes hO (by have := HR.out; omega)
 have hBB := hA2.below hb3 hA2.lt
 have hS : SFr w (w.heap.size + 1) w1.heap.size gk Z X FF w3 := ⟨hA5.below hb3 hA5.lt, hT2.below hb3 hT2.lt, hK, hb2'.trans (hb3.mono hb2'.size), hlk⟩
 have hne := (show w.heap.size + 1 ≠ w.heap.size ∧ w1.heap.size ≠ w.heap.size ∧ gk ≠ w.heap.size ∧ w.heap.size ≤ w.heap.size by have := hA2.lt; omega)
 clear hA1 hA4 hb1' hA2 hA5 hb2' hO hK hb1 hb3 hg2 hT2 hlk hbk hl1
 obtain ⟨gb, hgb⟩ : ∃ gb, gb = w.heap.size := ⟨_, rfl⟩
 have HGB := Lib.hid hgb
 rw [← hgb] at hBB ⊢
 rw [show (w.heap.size + 1 ≠ w.heap.size ∧ w1.heap.size ≠ w.heap.size ∧ gk ≠ w.heap.size ∧ w.heap.size ≤ w.heap.size) = (w.heap.size + 1 ≠ gb ∧ w1.heap.size ≠ gb ∧ gk ≠ gb ∧ w.heap.size ≤ gb) by rw [hgb]] at hne
 clear hgb
 rw [show gb + 1 = w.heap.size + 1 by rw [HGB.out]]
 have hle4 := (show w.heap.size ≤ w.heap.size + 1 by omega)
 generalize w.heap.size + 1 = g4 at *
 generalize w1.heap.size = g5 at *
 obtain ⟨A, hA⟩ : ∃ A, A = addR b (kb FF 0) := ⟨_, rfl⟩
 have hR1 := HR.out
 have HAL := Lib.hid (show A.length = 16 by rw [hA]; exact addR_length HB.out (kb_length HFL.out (by omega)))
 have HAG := Lib.hid (show ∀ i, i < 16 → A.getD i 0 = b.getD i 0 ^^^ FF.getD (0 * 16 + i) 0 by intro i hi; rw [hA, addR_get HB.out (kb_length HFL.out (by omega)) i hi, kb_get HFL.out (by omega) i hi])
 have HA0 := Lib.hid (show outR FF R b 0 = A by rw [hA]; rfl)
 clear hA hR1
 go_loopw [7] (fun i wr => ∃ k : Nat, k ≤ 16 ∧ i = .int .i64 (k : Int) ∧ Blk wr gb 56 ((A.take k ++ b.drop k).map B8) ∧ SFr w g4 g5 gk Z X FF wr) (fun i _ => 16 - (intOf i).toNat)
 case atStart => exact ⟨0, by omega, rfl, hBB, hS⟩
 case round =>
  clear hBB hS
  obtain ⟨k, hk, rfl, hB, hS⟩ := hrel
  by_cases hlk : k < 16
  ·
   have hd : decide ((k : Int) < 16) = true := by simp; omega
   have hlen := len_to A b k (by rw [HAL.out]; omega) (by rw [HAL.out, HB.out])
   have HST := Lib.hid (set_to A b k 0 (by rw [HAL.out]; omega) (by rw [HB.out]; omega))
   have hv := HAG.out k hlk
   have hget := get_to A b k 0 (by rw [HAL.out]; omega)
   obtain ⟨x, hx⟩ : ∃ x, x = b.getD k 0 := ⟨_, rfl⟩
   obtain ⟨y, hy⟩ : ∃ y, y = FF.getD (0 * 16 + k) 0 := ⟨_, rfl⟩
   obtain ⟨v, hve⟩ : ∃ v, v = A.getD k 0 := ⟨_, rfl⟩
   have hxx : bits .xor .u8 (x.toNat : Int) (y.toNat : Int) = (v.toNat : Int) := by rw [hve, hv, hx, hy, r_xor]
   rw [← hve] at HST
   have hRR := HR.out
   have hKY := hS.k (0 * 16 + k) (by rw [HFL.out]; omega)
   rw [Nat.zero_add, ← hy] at hKY
   have HK := Lib.hid (fun (W : World) (hb : Below wr.heap.size wr W) => (World.cell?_of_block (a := ⟨gk, 0 * 16 + k, none⟩) (hb.block gk hS.l)).trans hKY)
   have HX := Lib.hid (fun (W : World) (hb : Below wr.heap.size wr W) => (show W.cell? ⟨gb, k, none⟩ = some (.int .u8 (x.toNat : Int)) by rw [hx]; exact (by rw [← hget]; exact (hB.below hb hB.lt).at8 k (by rw [hlen, HB.out]; exact hlk))))
   have HO := Lib.hid (fun (W : World) (hb : Below wr.heap.size wr W) => (hB.below hb hB.lt).at8 k (by rw [hlen, HB.out]; exact hlk))
   have hk0 : (0 : Int) ≤ (k : Int) := by omega
   have hk1 : (k : Int) < 16 := by omega
   rw [Nat.zero_mul, Nat.zero_add] at HK
   have hR0' : 0 < R := by omega
   clear hget hv hx hy hve hKY hRR hlen
   generalize A.take k ++ b.drop k = L at *
   go_wp2
   refine wp_region_noPanic ?_
   apply wp_region_once_tail (m := 11) (Z := []) (D := [[], [], [1], [1, 2], [], [], [4], [4, 5, 6], [4, 5, 6, 7], [1, 2, 3, 4, 5, 6, 7, 8], [0, 1, 2, 3, 4, 5, 6, 7, 8, 9], [0, 1, 2, 3, 4, 5, 6, 7, 8, 9, 10]]) (J := [[], [], [1], [2], [], [], [4], [5, 6], [7], [3, 8], [0]]) (Je := [9, 10]) (Rs := [Is _, Is _, Is _, Is _, Is _, Is _, Is _, Is _, Is _, Is _, Is _])
   ·
    kernel_rfl
   ·
    kernel_rfl
   ·
    kernel_rfl
   ·
    kernel_rfl
   ·
    kernel_rfl
   ·
    kernel_rfl
   ·
    kernel_rfl
   ·
    exact fun h => absurd rfl h
   ·
    intro u
    simp only [List.take_succ_cons, List.take_zero, List.map_cons, List.map_nil, fillU, List.setIfInBounds_toArray, List.set_cons_zero, List.set_cons_succ, Nat.zero_add, Nat.reduceAdd]
    exact rfl
   ·
    simp only [List.take_succ_cons, List.take_zero]
    refine ⟨fun u W hb hd K hK => ?_, ?_⟩
    ·
     clear hd
     go_simp
     apply hK
     ·
      simp only [Act.put, List.setIfInBounds_toArray, List.set_cons_zero, List.set_cons_succ]
      exact rfl
     ·
      exact Below.refl _ _
     ·
      exact IsOut
    refine ⟨fun u W hb hd K hK => ?_, ?_⟩
    ·
     clear hd
     go_simp
     apply hK
     ·
      simp only [Act.put, List.setIfInBounds_toArray, List.set_cons_zero, List.set_cons_succ]
      exact rfl
     ·
      exact Below.refl _ _
     ·
      exact IsOut
    refine ⟨fun u W hb hd K hK => ?_, ?_⟩
    ·
     simp only [Facts, nthR, Is, and_true] at hd
     simp only [hd] at hK ⊢
     clear hd
     go_simp
     apply hK
     ·
      simp only [Act.put, List.setIfInBounds_toArray, List.set_cons_zero, List.set_cons_succ]
      exact rfl
     ·
      exact Below.refl _ _
     ·
      exact IsOut
    refine ⟨fun u W hb hd K hK => ?_, ?_⟩
    ·
     simp only [Facts, nthR, Is, and_true] at hd
     simp only [hd] at hK ⊢
     clear hd
     have hcc := HX.out W hb
     go_simp
     apply hK
     ·
      simp only [Act.put, List.setIfInBounds_toArray, List.set_cons_zero, List.set_cons_succ]
      exact rfl
     ·
      exact Below.refl _ _
     ·
      exact IsOut
    refine ⟨fun u W hb hd K hK => ?_, ?_⟩
    ·
     clear hd
     go_simp
     apply hK
     ·
      simp only [Act.put, List.setIfInBounds_toArray, List.set_cons_zero, List.set_cons_succ]
      exact rfl
     ·
      exact Below.refl _ _
     ·
      exact IsOut
    refine ⟨fun u W hb hd K hK => ?_, ?_⟩
    ·
     clear hd
     go_simp
     apply hK
     ·
      simp only [Act.put, List.setIfInBounds_toArray, List.set_cons_zero, List.set_cons_succ]
      exact rfl
     ·
      exact Below.refl _ _
     ·
      exact IsOut
    refine ⟨fun u W hb hd K hK => ?_, ?_⟩
    ·
     simp only [Facts, nthR, Is, and_true] at hd
     simp only [hd] at hK ⊢
     clear hd
     go_simp
     apply hK
     ·
      simp only [Act.put, List.setIfInBounds_toArray, List.set_cons_zero, List.set_cons_succ]
      exact rfl
     ·
      exact Below.refl _ _
     ·
      exact IsOut
    refine ⟨fun u W hb hd K hK => ?_, ?_⟩
    ·
     simp only [Facts, nthR, Is, and_true] at hd
     simp only [hd] at hK ⊢
     clear hd
     go_simp
     apply hK
     ·
      simp only [Act.put, List.setIfInBounds_toArray, List.set_cons_zero, List.set_cons_succ]
      exact rfl
     ·
      exact Below.refl _ _
     ·
      exact IsOut
    refine ⟨fun u W hb hd K hK => ?_, ?_⟩
    ·
     simp only [Facts, nthR, Is, and_true] at hd
     simp only [hd] at hK ⊢
     clear hd
     have hcc := HK.out W hb
     go_simp
     apply hK
     ·
      simp only [Act.put, List.setIfInBounds_toArray, List.set_cons_zero, List.set_cons_succ]
      exact rfl
     ·
      exact Below.refl _ _
     ·
      exact IsOut
    refine ⟨fun u W hb hd K hK => ?_, ?_⟩
    ·
     simp only [Facts, nthR, Is, and_true] at hd
     simp only [hd] at hK ⊢
     clear hd
     go_simp
     apply hK
     ·
      simp only [Act.put, List.setIfInBounds_toArray, List.set_cons_zero, List.set_cons_succ]
      exact rfl
     ·
      exact Below.refl _ _
     ·
      exact IsOut
    refine ⟨fun u W hb hd K hK => ?_, ?_⟩
    ·
     simp only [Facts, nthR, Is, and_true] at hd
     simp only [hd] at hK ⊢
     clear hd
     go_simp
     apply hK
     ·
      simp only [Act.put, List.setIfInBounds_toArray, List.set_cons_zero, List.set_cons_succ]
      exact rfl
     ·
      exact Below.refl _ _
     ·
      exact IsOut
    exact trivial
   ·
    skip
    exact trivial
   ·
    exact (.is (.is (.is (.is (.is (.is (.is (.is (.is (.is (.is .nil)))))))))))
   ·
    intro u W hb hd
    simp only [List.drop_succ_cons, List.drop_zero]
    simp only [Facts, nthR, Is, and_true] at hd
    simp only [hd]
    clear hd
    have hcc := HO.out W hb
    have hfr := (hB.below hb hB.lt).frozen k
    replace hB := hB.below hb hB.lt
    replace hS := hS.below hb
    clear hb HX HK HO
    go_wp2
    refine NoPanic.normal ?_
    go_wp2
    go_roundw
    case rel =>
     refine ⟨k + 1, by omega, by go_num, ?_, hS.far hne _⟩
     rw [← HST.out, ← map_set8]
     exact hB.set_ k _
    case measure => simp [intOf]; omega
  ·
   have hd : decide ((k : Int) < 16) = false := by simp; omega
   have hk16 : k = 16 := by omega
   rw [show (k : Int) = 16 by omega]
   rw [hk16, List.take_of_length_le (by rw [HAL.out]; omega), List.drop_eq_nil_of_le (by rw [HB.out]; omega), List.append_nil] at hB
   go_wp2
   go_loopw [8] (fun i wr => ∃ r : Nat, 1 ≤ r ∧ r ≤ R ∧ i = .int .i64 (r : Int) ∧ Blk wr gb 56 ((outR FF R b (r - 1)).map B8) ∧ SFr w g4 g5 gk Z X FF wr) (fun i _ => R - (intOf i).toNat)
   case atStart => exact ⟨1, Nat.le_refl _, by have := HR.out; omega, rfl, by rw [HA0.out]; exact hB, hS⟩
   case round =>
    clear hB hS
    obtain ⟨r, hr1, hrR, rfl, hB, hS⟩ := hrel
    by_cases hlr : r < R
    ·
     have hd : decide (r < R) = true := by simp; omega
     obtain ⟨st, hst⟩ : ∃ st, st = outR FF R b (r - 1) := ⟨_, rfl⟩
     have hR1 := HR.out
     have HTL := Lib.hid (show st.length = 16 by rw [hst]; exact outR_length HFL.out HB.out _ (by omega))
     obtain ⟨l, hl⟩ : ∃ l, R = l + 1 := ⟨R - 1, by omega⟩
     obtain ⟨M, hM⟩ : ∃ M, M = if r < l then mixR (subR st) else subR st := ⟨_, rfl⟩
     have HML := Lib.hid (show M.length = 16 by rw [hM]; split; exact mixR_length _; exact subR_length _)
     have HOU := Lib.hid (show outR FF R b (r + 1 - 1) = addR M (kb FF r) by
      obtain ⟨j, rfl⟩ : ∃ j, r = j + 1 := ⟨r - 1, by omega⟩
      rw [show j + 1 + 1 - 1 = j + 1 by omega, outR, hM, hst, show j + 1 - 1 = j by omega, show R - 1 = l by omega])
     rw [← hst] at hB
     have hlw : wrap64 ((R : Int) - 1) = (l : Int) := by unfold wrap64; omega
     have hlw2 : wrap64 (l : Int) = (l : Int) := by unfold wrap64; omega
     have HL := Lib.hid hl
     have HM := Lib.hid hM
     have HR1 := Lib.hid hr1
     clear hst hl hM hR1 hr1
     go_wp2
     have hG1 := Blk.new_of wr 56 (Z.map B8).toArray (Z.map B8) rfl
     have hB1 := hB.alloc (.cells (Z.map B8).toArray 56)
     have hS1 := hS.alloc (.cells (Z.map B8).toArray 56)
     have hn1 := hS.new
     have hng := (show wr.heap.size ≠ gb by have := hB.lt; omega)
     clear hB hS
     generalize wr.heap.size = gs at *
     obtain ⟨S, hSe⟩ : ∃ S, S = subR st := ⟨_, rfl⟩
     have HSL := Lib.hid (show S.length = 16 by rw [hSe]; exact subR_length _)
     have HSG := Lib.hid (show ∀ i, i < 16 → S.getD i 0 = boxR (st.getD ((i + 4 * (i % 4)) % 16) 0) by rw [hSe]; exact subR_get st)
     rw [← hSe] at HM
     clear hSe
     go_loopw [10] (fun i wx => ∃ k : Nat, k ≤ 16 ∧ i = .int .i64 (k : Int) ∧ Blk wx gs 56 ((S.take k ++ Z.drop k).map B8) ∧ Blk wx gb 56 (st.map B8) ∧ SFr w g4 g5 gk Z X FF wx) (fun i _ => 16 - (intOf i).toNat)
     case atStart => exact ⟨0, by omega, rfl, hG1, hB1, hS1⟩
     case round =>
      clear hG1 hB1 hS1
      obtain ⟨k, hk, rfl, hG, hB, hS⟩ := hrel
      by_cases hlk : k < 16
      ·
       have hdk : decide ((k : Int) < 16) = true := by simp; omega
       obtain ⟨s, hs⟩ : ∃ s, s = k % 4 := ⟨_, rfl⟩
       obtain ⟨q, hq⟩ : ∃ q, q = (k + 4 * s) % 16 := ⟨_, rfl⟩
       have hq16 := (show q < 16 by omega)
       have hlen := len_to S Z k (by rw [HSL.out]; omega) (by rw [HSL.out, HZL.out])
       have HST := Lib.hid (set_to S Z k 0 (by rw [HSL.out]; omega) (by rw [HZL.out]; omega))
       have hv := HSG.out k hlk
       rw [← hs, ← hq] at hv
       obtain ⟨x, hx⟩ : ∃ x, x = st.getD q 0 := ⟨_, rfl⟩
       obtain ⟨v, hve⟩ : ∃ v, v = S.getD k 0 := ⟨_, rfl⟩
       have hcq := hB.at8 q (by rw [HTL.out]; omega)
       rw [← hx] at hcq hv
       rw [← hve] at hv HST
       have hct := hS.t.at8 x.toNat (by rw [HXL.out]; exact u8_lt x)
       rw [HXG.out, ← hv] at hct
       have hc0 := hG.at8 k (by rw [hlen, HZL.out]; exact hlk)
       have hf := hG.frozen k
       have hx256 : (x.toNat : Int) < 256 := by have := u8_lt x; omega
       obtain ⟨e1, e2, e3, e4, e5, e6, hk0, hk1, hq0, hq1, hk4⟩ := sub_ix k s q hlk hs hq
       generalize (S.take k ++ Z.drop k).getD k 0 = x0 at *
       generalize S.take k ++ Z.drop k = L at *
       clear hs hq hq16 hlen hx hve hv
       go_wp2
       go_roundw
       case rel =>
        refine ⟨k + 1, by omega, by go_num, ?_, hB.far (by simp; exact Ne.symm hng) _, hS.far hn1 _⟩
        rw [← HST.out, ← map_set8]
        exact hG.set_ k _
       case measure => simp [intOf]; omega
      ·
       have hdk : decide ((k : Int) < 16) = false := by simp; omega
       have hk16 : k = 16 := by omega
       rw [show (k : Int) = 16 by omega]
       rw [hk16, List.take_of_length_le (by rw [HSL.out]; omega), List.drop_eq_nil_of_le (by rw [HZL.out]; omega), List.append_nil] at hG
       go_upto_if 60 with fail
       go_cut [11, 12, 13] from 34 to 115 (fun _ _ _ wx => Blk wx gs 56 (M.map B8) ∧ Blk wx gb 56 (st.map B8) ∧ SFr w g4 g5 gk Z X FF wx)
       case first =>
        simp only [hlw]
        by_cases hrl : r < l
        ·
         have hdl : decide (r < l) = true := by simp; omega
         have hdl' : decide ((r : Int) < (l : Int)) = true := by simp; omega
         first | (simp only [hdl]) | (simp only [hdl'])
         clear hdl hdl'
         have HMM := Lib.hid (show M = mixR S by rw [HM.out, if_pos hrl])
         go_wp2
         have hM1 := Blk.new_of wr 56 (Z.map B8).toArray (Z.map B8) rfl
         have hG1 := hG.alloc (.cells (Z.map B8).toArray 56)
         have hB1 := hB.alloc (.cells (Z.map B8).toArray 56)
         have hS1 := hS.alloc (.cells (Z.map B8).toArray 56)
         have hn2 := hS.new
         have hnm := (show gs ≠ wr.heap.size ∧ gb ≠ wr.heap.size by have := hB.lt; have := hG.lt; omega)
         clear hB hS hG
         generalize wr.heap.size = gm at *
         have HMG := Lib.hid (show ∀ i, i < 16 → M.getD i 0 = mixB S i by rw [HMM.out]; exact mixR_get S)
         go_loopw [12, 13] (fun i _ wx => ∃ k : Nat, k ≤ 16 ∧ i = .int .i64 (k : Int) ∧ Blk wx gm 56 ((M.take k ++ Z.drop k).map B8) ∧ Blk wx gs 56 (S.map B8) ∧ Blk wx gb 56 (st.map B8) ∧ SFr w g4 g5 gk Z X FF wx) (fun i _ _ => 16 - (intOf i).toNat)
         case atStart => exact ⟨0, by omega, rfl, hM1, hG1, hB1, hS1⟩
         case round =>
          clear hM1 hG1 hB1 hS1
          obtain ⟨k, hk, rfl, hM, hG, hB, hS⟩ := hrel
          by_cases hlk : k < 16
          ·
           have hdk : decide ((k : Int) < 16) = true := by simp; omega
           obtain ⟨q, s, hkq, hs4, hq4⟩ : ∃ q s, k = 4 * q + s ∧ s < 4 ∧ q < 4 := ⟨k / 4, k % 4, by omega, by omega, by omega⟩
           have hkd := (show k / 4 = q by omega)
           obtain ⟨c, hc⟩ : ∃ c, c = 4 * q := ⟨_, rfl⟩
           obtain ⟨a1, ha1⟩ : ∃ a, a = (s + 1) % 4 := ⟨_, rfl⟩
           obtain ⟨a2, ha2⟩ : ∃ a, a = (s + 2) % 4 := ⟨_, rfl⟩
           obtain ⟨a3, ha3⟩ : ∃ a, a = (s + 3) % 4 := ⟨_, rfl⟩
           obtain ⟨p1, hp1⟩ : ∃ a, a = c + a1 := ⟨_, rfl⟩
           obtain ⟨p2, hp2⟩ : ∃ a, a = c + a2 := ⟨_, rfl⟩
           obtain ⟨p3, hp3⟩ : ∃ a, a = c + a3 := ⟨_, rfl⟩
           have hlen := len_to M Z k (by rw [HML.out]; omega) (by rw [HML.out, HZL.out])
           have HST := Lib.hid (set_to M Z k 0 (by rw [HML.out]; omega) (by rw [HZL.out]; omega))
           have hk0 : (0 : Int) ≤ (k : Int) := by omega
           have hk1 : (k : Int) < 16 := by omega
           have hv := HMG.out k hlk
           unfold mixB at hv
           rw [show k / 4 * 4 = c by omega, show (k + 1) % 4 = a1 by omega, show (k + 2) % 4 = a2 by omega, show (k + 3) % 4 = a3 by omega, ← hp1, ← hp2, ← hp3] at hv
           have hb0 := hG.at8 k (by rw [HSL.out]; omega)
           have hb1 := hG.at8 p1 (by rw [HSL.out]; omega)
           have hb2 := hG.at8 p2 (by rw [HSL.out]; omega)
           have hb3 := hG.at8 p3 (by rw [HSL.out]; omega)
           generalize S.getD k 0 = x0 at *
           generalize S.getD p1 0 = x1 at *
           generalize S.getD p2 0 = x2 at *
           generalize S.getD p3 0 = x3 at *
           have H2 := mulR_any x0 2
           have H3 := mulR_any x1 3
           generalize mulR x0 2 = y0 at *
           generalize mulR x1 3 = y1 at *
           obtain ⟨z1, hz1⟩ : ∃ z, z = y0 ^^^ y1 := ⟨_, rfl⟩
           have hx1 : bits .xor .u8 (y0.toNat : Int) (y1.toNat : Int) = (z1.toNat : Int) := by rw [hz1, r_xor]
           rw [← hz1] at hv
           obtain ⟨z2, hz2'⟩ : ∃ z, z = z1 ^^^ x2 := ⟨_, rfl⟩
           have hx2 : bits .xor .u8 (z1.toNat : Int) (x2.toNat : Int) = (z2.toNat : Int) := by rw [hz2', r_xor]
           rw [← hz2'] at hv
           obtain ⟨v, hve⟩ : ∃ v, v = M.getD k 0 := ⟨_, rfl⟩
           rw [← hve] at hv HST
           have hx3 : bits .xor .u8 (z2.toNat : Int) (x3.toNat : Int) = (v.toNat : Int) := by rw [hv, r_xor]
           have HO := Lib.hid (fun (W : World) (hb : Below wr.heap.size wr W) => (hM.below hb hM.lt).at8 k (by rw [hlen, HZL.out]; exact hlk))
           have HX0 := Lib.hid (fun (W : World) (hb : Below wr.heap.size wr W) => (World.cell?_of_block (a := ⟨gs, k, none⟩) (hb.block gs hG.lt)).trans hb0)
           have HX1 := Lib.hid (fun (W : World) (hb : Below wr.heap.size wr W) => (World.cell?_of_block (a := ⟨gs, p1, none⟩) (hb.block gs hG.lt)).trans hb1)
           have HX2 := Lib.hid (fun (W : World) (hb : Below wr.heap.size wr W) => (World.cell?_of_block (a := ⟨gs, p2, none⟩) (hb.block gs hG.lt)).trans hb2)
           have HX3 := Lib.hid (fun (W : World) (hb : Below wr.heap.size wr W) => (World.cell?_of_block (a := ⟨gs, p3, none⟩) (hb.block gs hG.lt)).trans hb3)
           replace H2 := Lib.hid H2
           replace H3 := Lib.hid H3
           obtain ⟨i1, i2, i3, i4, i5, i6⟩ := mul2_ix k q s c a1 p1 hkq hs4 hq4 hc 1 1 rfl (by omega) ha1 hp1
           obtain ⟨j1, j2, j3, j4, j5, j6⟩ := mul2_ix k q s c a2 p2 hkq hs4 hq4 hc 2 2 rfl (by omega) ha2 hp2
           obtain ⟨l1, l2, l3, l4, l5, l6⟩ := mul2_ix k q s c a3 p3 hkq hs4 hq4 hc 3 3 rfl (by omega) ha3 hp3
           obtain ⟨d1, d2, d3, d4⟩ := col_ix k q hlk hkd.symm
           rw [← hc] at d3 d4
           generalize M.take k ++ Z.drop k = L at *
           clear hkq hs4 hq4 hkd hc ha1 ha2 ha3 hp1 hp2 hp3 hz1 hz2' hve hv hb0 hb1 hb2 hb3 hlen
           go_wp2
           refine wp_region_noPanic ?_
           apply wp_region_once_tail (m := 31) (Z := []) (D := [[], [], [1], [1, 2], [1, 2, 3], [], [], [6], [6, 7], [5, 6, 7, 8], [5, 6, 7, 8, 9], [5, 6, 7, 8, 9, 10], [1, 2, 3, 4, 5, 6, 7, 8, 9, 10, 11], [1, 2, 3, 4, 5, 6, 7, 8, 9, 10, 11, 12], [], [], [15], [15, 16], [14, 15, 16, 17], [14, 15, 16, 17, 18], [14, 15, 16, 17, 18, 19], [1, 2, 3, 4, 5, 6, 7, 8, 9, 10, 11, 12, 13, 14, 15, 16, 17, 18, 19, 20], [], [], [23], [23, 24], [22, 23, 24, 25], [22, 23, 24, 25, 26], [22, 23, 24, 25, 26, 27], [1, 2, 3, 4, 5, 6, 7, 8, 9, 10, 11, 12, 13, 14, 15, 16, 17, 18, 19, 20, 21, 22, 23, 24, 25, 26, 27, 28], [0, 1, 2, 3, 4, 5, 6, 7, 8, 9, 10, 11, 12, 13, 14, 15, 16, 17, 18, 19, 20, 21, 22, 23, 24, 25, 26, 27, 28, 29], [0, 1, 2, 3, 4, 5, 6, 7, 8, 9, 10, 11, 12, 13, 14, 15, 16, 17, 18, 19, 20, 21, 22, 23, 24, 25, 26, 27, 28, 29, 30]]) (J := [[], [], [1], [2], [3], [], [], [6], [7], [5, 8], [9], [10], [11], [4, 12], [], [], [15], [16], [14, 17], [18], [19], [13, 20], [], [], [23], [24], [22, 25], [26], [27], [21, 28], [0]]) (Je := [29, 30]) (Rs := [Is _, Is _, Is _, Is _, Is _, Is _, Is _, Is _, Is _, Is _, Is _, Is _, Is _, Is _, Is _, Is _, Is _, Is _, Is _, Is _, Is _, Is _, Is _, Is _, Is _, Is _, Is _, Is _, Is _, Is _, Is _])
           ·
            kernel_rfl
           ·
            kernel_rfl
           ·
            kernel_rfl
           ·
            kernel_rfl
           ·
            kernel_rfl
           ·
            kernel_rfl
           ·
            kernel_rfl
           ·
            exact fun h => absurd rfl h
           ·
            intro u
            simp only [List.take_succ_cons, List.take_zero, List.map_cons, List.map_nil, fillU, List.setIfInBounds_toArray, List.set_cons_zero, List.set_cons_succ, Nat.zero_add, Nat.reduceAdd]
            exact rfl
           ·
            simp only [List.take_succ_cons, List.take_zero]
            refine ⟨fun u W hb hd K hK => ?_, ?_⟩
            ·
             clear hd
             go_simp
             apply hK
             ·
              simp only [Act.put, List.setIfInBounds_toArray, List.set_cons_zero, List.set_cons_succ]
              exact rfl
             ·
              exact Below.refl _ _
             ·
              exact IsOut
            refine ⟨fun u W hb hd K hK => ?_, ?_⟩
            ·
             clear hd
             go_simp
             apply hK
             ·
              simp only [Act.put, List.setIfInBounds_toArray, List.set_cons_zero, List.set_cons_succ]
              exact rfl
             ·
              exact Below.refl _ _
             ·
              exact IsOut
            refine ⟨fun u W hb hd K hK => ?_, ?_⟩
            ·
             simp only [Facts, nthR, Is, and_true] at hd
             simp only [hd] at hK ⊢
             clear hd
             go_simp
             apply hK
             ·
              simp only [Act.put, List.setIfInBounds_toArray, List.set_cons_zero, List.set_cons_succ]
              exact rfl
             ·
              exact Below.refl _ _
             ·
              exact IsOut
            refine ⟨fun u W hb hd K hK => ?_, ?_⟩
            ·
             simp only [Facts, nthR, Is, and_true] at hd
             simp only [hd] at hK ⊢
             clear hd
             have hcc := HX0.out W hb
             go_simp
             apply hK
             ·
              simp only [Act.put, List.setIfInBounds_toArray, List.set_cons_zero, List.set_cons_succ]
              exact rfl
             ·
              exact Below.refl _ _
             ·
              exact IsOut
            refine ⟨fun u W hb hd K hK => ?_, ?_⟩
            ·
             simp only [Facts, nthR, Is, and_true] at hd
             simp only [hd] at hK ⊢
             clear hd
             have h := H2.out W
             go_simp
             refine h.mono ?_
             rintro e wy ⟨rfl, hwy⟩
             subst hwy
             exact hK _ _ _ rfl (Below.refl _ _) IsOut
            refine ⟨fun u W hb hd K hK => ?_, ?_⟩
            ·
             clear hd
             go_simp
             apply hK
             ·
              simp only [Act.put, List.setIfInBounds_toArray, List.set_cons_zero, List.set_cons_succ]
              exact rfl
             ·
              exact Below.refl _ _
             ·
              exact IsOut
            refine ⟨fun u W hb hd K hK => ?_, ?_⟩
            ·
             clear hd
             go_simp
             apply hK
             ·
              simp only [Act.put, List.setIfInBounds_toArray, List.set_cons_zero, List.set_cons_succ]
              exact rfl
             ·
              exact Below.refl _ _
             ·
              exact IsOut
            refine ⟨fun u W hb hd K hK => ?_, ?_⟩
            ·
             simp only [Facts, nthR, Is, and_true] at hd
             simp only [hd] at hK ⊢
             clear hd
             go_simp
             apply hK
             ·
              simp only [Act.put, List.setIfInBounds_toArray, List.set_cons_zero, List.set_cons_succ]
              exact rfl
             ·
              exact Below.refl _ _
             ·
              exact IsOut
            refine ⟨fun u W hb hd K hK => ?_, ?_⟩
            ·
             simp only [Facts, nthR, Is, and_true] at hd
             simp only [hd] at hK ⊢
             clear hd
             go_simp
             apply hK
             ·
              simp only [Act.put, List.setIfInBounds_toArray, List.set_cons_zero, List.set_cons_succ]
              exact rfl
             ·
              exact Below.refl _ _
             ·
              exact IsOut
            refine ⟨fun u W hb hd K hK => ?_, ?_⟩
            ·
             simp only [Facts, nthR, Is, and_true] at hd
             simp only [hd] at hK ⊢
             clear hd
             go_simp
             apply hK
             ·
              simp only [Act.put, List.setIfInBounds_toArray, List.set_cons_zero, List.set_cons_succ]
              exact rfl
             ·
              exact Below.refl _ _
             ·
              exact IsOut
            refine ⟨fun u W hb hd K hK => ?_, ?_⟩
            ·
             simp only [Facts, nthR, Is, and_true] at hd
             simp only [hd] at hK ⊢
             clear hd
             go_simp
             apply hK
             ·
              simp only [Act.put, List.setIfInBounds_toArray, List.set_cons_zero, List.set_cons_succ]
              exact rfl
             ·
              exact Below.refl _ _
             ·
              exact IsOut
            refine ⟨fun u W hb hd K hK => ?_, ?_⟩
            ·
             simp only [Facts, nthR, Is, and_true] at hd
             simp only [hd] at hK ⊢
             clear hd
             have hcc := HX1.out W hb
             go_simp
             apply hK
             ·
              simp only [Act.put, List.setIfInBounds_toArray, List.set_cons_zero, List.set_cons_succ]
              exact rfl
             ·
              exact Below.refl _ _
             ·
              exact IsOut
            refine ⟨fun u W hb hd K hK => ?_, ?_⟩
            ·
             simp only [Facts, nthR, Is, and_true] at hd
             simp only [hd] at hK ⊢
             clear hd
             have h := H3.out W
             go_simp
             refine h.mono ?_
             rintro e wy ⟨rfl, hwy⟩
             subst hwy
             exact hK _ _ _ rfl (Below.refl _ _) IsOut
            refine ⟨fun u W hb hd K hK => ?_, ?_⟩
            ·
             simp only [Facts, nthR, Is, and_true] at hd
             simp only [hd] at hK ⊢
             clear hd
             go_simp
             apply hK
             ·
              simp only [Act.put, List.setIfInBounds_toArray, List.set_cons_zero, List.set_cons_succ]
              exact rfl
             ·
              exact Below.refl _ _
             ·
              exact IsOut
            refine ⟨fun u W hb hd K hK => ?_, ?_⟩
            ·
             clear hd
             go_simp
             apply hK
             ·
              simp only [Act.put, List.setIfInBounds_toArray, List.set_cons_zero, List.set_cons_succ]
              exact rfl
             ·
              exact Below.refl _ _
             ·
              exact IsOut
            refine ⟨fun u W hb hd K hK => ?_, ?_⟩
            ·
             clear hd
             go_simp
             apply hK
             ·
              simp only [Act.put, List.setIfInBounds_toArray, List.set_cons_zero, List.set_cons_succ]
              exact rfl
             ·
              exact Below.refl _ _
             ·
              exact IsOut
            refine ⟨fun u W hb hd K hK => ?_, ?_⟩
            ·
             simp only [Facts, nthR, Is, and_true] at hd
             simp only [hd] at hK ⊢
             clear hd
             go_simp
             apply hK
             ·
              simp only [Act.put, List.setIfInBounds_toArray, List.set_cons_zero, List.set_cons_succ]
              exact rfl
             ·
              exact Below.refl _ _
             ·
              exact IsOut
            refine ⟨fun u W hb hd K hK => ?_, ?_⟩
            ·
             simp only [Facts, nthR, Is, and_true] at hd
             simp only [hd] at hK ⊢
             clear hd
             go_simp
             apply hK
             ·
              simp only [Act.put, List.setIfInBounds_toArray, List.set_cons_zero, List.set_cons_succ]
              exact rfl
             ·
              exact Below.refl _ _
             ·
              exact IsOut
            refine ⟨fun u W hb hd K hK => ?_, ?_⟩
            ·
             simp only [Facts, nthR, Is, and_true] at hd
             simp only [hd] at hK ⊢
             clear hd
             go_simp
             apply hK
             ·
              simp only [Act.put, List.setIfInBounds_toArray, List.set_cons_zero, List.set_cons_succ]
              exact rfl
             ·
              exact Below.refl _ _
             ·
              exact IsOut
            refine ⟨fun u W hb hd K hK => ?_, ?_⟩
            ·
             simp only [Facts, nthR, Is, and_true] at hd
             simp only [hd] at hK ⊢
             clear hd
             go_simp
             apply hK
             ·
              simp only [Act.put, List.setIfInBounds_toArray, List.set_cons_zero, List.set_cons_succ]
              exact rfl
             ·
              exact Below.refl _ _
             ·
              exact IsOut
            refine ⟨fun u W hb hd K hK => ?_, ?_⟩
            ·
             simp only [Facts, nthR, Is, and_true] at hd
             simp only [hd] at hK ⊢
             clear hd
             have hcc := HX2.out W hb
             go_simp
             apply hK
             ·
              simp only [Act.put, List.setIfInBounds_toArray, List.set_cons_zero, List.set_cons_succ]
              exact rfl
             ·
              exact Below.refl _ _
             ·
              exact IsOut
            refine ⟨fun u W hb hd K hK => ?_, ?_⟩
            ·
             simp only [Facts, nthR, Is, and_true] at hd
             simp only [hd] at hK ⊢
             clear hd
             go_simp
             apply hK
             ·
              simp only [Act.put, List.setIfInBounds_toArray, List.set_cons_zero, List.set_cons_succ]
              exact rfl
             ·
              exact Below.refl _ _
             ·
              exact IsOut
            refine ⟨fun u W hb hd K hK => ?_, ?_⟩
            ·
             clear hd
             go_simp
             apply hK
             ·
              simp only [Act.put, List.setIfInBounds_toArray, List.set_cons_zero, List.set_cons_succ]
              exact rfl
             ·
              exact Below.refl _ _
             ·
              exact IsOut
            refine ⟨fun u W hb hd K hK => ?_, ?_⟩
            ·
             clear hd
             go_simp
             apply hK
             ·
              simp only [Act.put, List.setIfInBounds_toArray, List.set_cons_zero, List.set_cons_succ]
              exact rfl
             ·
              exact Below.refl _ _
             ·
              exact IsOut
            refine ⟨fun u W hb hd K hK => ?_, ?_⟩
            ·
             simp only [Facts, nthR, Is, and_true] at hd
             simp only [hd] at hK ⊢
             clear hd
             go_simp
             apply hK
             ·
              simp only [Act.put, List.setIfInBounds_toArray, List.set_cons_zero, List.set_cons_succ]
              exact rfl
             ·
              exact Below.refl _ _
             ·
              exact IsOut
            refine ⟨fun u W hb hd K hK => ?_, ?_⟩
            ·
             simp only [Facts, nthR, Is, and_true] at hd
             simp only [hd] at hK ⊢
             clear hd
             go_simp
             apply hK
             ·
              simp only [Act.put, List.setIfInBounds_toArray, List.set_cons_zero, List.set_cons_succ]
              exact rfl
             ·
              exact Below.refl _ _
             ·
              exact IsOut
            refine ⟨fun u W hb hd K hK => ?_, ?_⟩
            ·
             simp only [Facts, nthR, Is, and_true] at hd
             simp only [hd] at hK ⊢
             clear hd
             go_simp
             apply hK
             ·
              simp only [Act.put, List.setIfInBounds_toArray, List.set_cons_zero, List.set_cons_succ]
              exact rfl
             ·
              exact Below.refl _ _
             ·
              exact IsOut
            refine ⟨fun u W hb hd K hK => ?_, ?_⟩
            ·
             simp only [Facts, nthR, Is, and_true] at hd
             simp only [hd] at hK ⊢
             clear hd
             go_simp
             apply hK
             ·
              simp only [Act.put, List.setIfInBounds_toArray, List.set_cons_zero, List.set_cons_succ]
              exact rfl
             ·
              exact Below.refl _ _
             ·
              exact IsOut
            refine ⟨fun u W hb hd K hK => ?_, ?_⟩
            ·
             simp only [Facts, nthR, Is, and_true] at hd
             simp only [hd] at hK ⊢
             clear hd
             have hcc := HX3.out W hb
             go_simp
             apply hK
             ·
              simp only [Act.put, List.setIfInBounds_toArray, List.set_cons_zero, List.set_cons_succ]
              exact rfl
             ·
              exact Below.refl _ _
             ·
              exact IsOut
            refine ⟨fun u W hb hd K hK => ?_, ?_⟩
            ·
             simp only [Facts, nthR, Is, and_true] at hd
             simp only [hd] at hK ⊢
             clear hd
             go_simp
             apply hK
             ·
              simp only [Act.put, List.setIfInBounds_toArray, List.set_cons_zero, List.set_cons_succ]
              exact rfl
             ·
              exact Below.refl _ _
             ·
              exact IsOut
            refine ⟨fun u W hb hd K hK => ?_, ?_⟩
            ·
             simp only [Facts, nthR, Is, and_true] at hd
             simp only [hd] at hK ⊢
             clear hd
             go_simp
             apply hK
             ·
              simp only [Act.put, List.setIfInBounds_toArray, List.set_cons_zero, List.set_cons_succ]
              exact rfl
             ·
              exact Below.refl _ _
             ·
              exact IsOut
            exact trivial
           ·
            skip
            exact trivial
           ·
            exact (.is (.is (.is (.is (.is (.is (.is (.is (.is (.is (.is (.is (.is (.is (.is (.is (.is (.is (.is (.is (.is (.is (.is (.is (.is (.is (.is (.is (.is (.is (.is .nil)))))))))))))))))))))))))))))))
           ·
            intro u W hb hd
            simp only [List.drop_succ_cons, List.drop_zero]
            simp only [Facts, nthR, Is, and_true] at hd
            simp only [hd]
            clear hd
            have hcc := HO.out W hb
            have hfr := (hM.below hb hM.lt).frozen k
            replace hM := hM.below hb hM.lt
            replace hG := hG.below hb hG.lt
            replace hB := hB.below hb hB.lt
            replace hS := hS.below hb
            clear hb HX0 HX1 HX2 HX3 HO
            go_wp2
            refine NoPanic.normal ?_
            go_wp2
            go_roundw
            case rel =>
             refine ⟨k + 1, by omega, by go_num, ?_, hG.far (by simp; exact hnm.1) _, hB.far (by simp; exact hnm.2) _, hS.far hn2 _⟩
             rw [← HST.out, ← map_set8]
             exact hM.set_ k _
            case measure => simp [intOf]; omega
          ·
           have hdk : decide ((k : Int) < 16) = false := by simp; omega
           have hk16 : k = 16 := by omega
           rw [show (k : Int) = 16 by omega]
           rw [hk16, List.take_of_length_le (by rw [HML.out]; omega), List.drop_eq_nil_of_le (by rw [HZL.out]; omega), List.append_nil] at hM
           go_wp2_with (first
            | (refine wpList_load_blk rfl 56 (.tmp 11) rfl gm rfl 56 _ _ hM Tryd.underlying56 rfl (infoBk.trans (by rw [List.length_map, HML.out])) ?_)
            | (refine wpList_store_blk rfl 56 (.tmp 9) (.tmp 99) rfl rfl gs _ rfl rfl 56 _ hG (infoBk.trans (by rw [List.length_map, HML.out])) (by rw [List.length_map, List.length_map, HML.out, HSL.out]) (one8 _) ?_; intro w9 h9 hg9))
           have hB9 := hB.grown hg9 (by simp; exact Ne.symm hng)
           have hS9 := hS.grown hg9 hn1
           clear hB hS hM hG hg9
           go_meet
           case rel => exact ⟨h9, hB9, hS9⟩
        ·
         have hdl : decide (r < l) = false := by simp; omega
         have hdl' : decide ((r : Int) < (l : Int)) = false := by simp; omega
         first | (simp only [hdl]) | (simp only [hdl'])
         clear hdl hdl'
         have HMM := Lib.hid (show M = S by rw [HM.out, if_neg hrl])
         go_wp2
         go_meet
         case rel => exact ⟨by rw [HMM.out]; exact hG, hB, hS⟩
       case rest =>
        clear hG hB hS
        obtain ⟨hM, hB, hS⟩ := hcut
        clear HM HSG HSL
        go_wp2
        obtain ⟨A, hA⟩ : ∃ A, A = addR M (kb FF r) := ⟨_, rfl⟩
        have HAL := Lib.hid (show A.length = 16 by rw [hA]; exact addR_length HML.out (kb_length HFL.out hlr))
        have HAG := Lib.hid (show ∀ i, i < 16 → A.getD i 0 = M.getD i 0 ^^^ FF.getD (r * 16 + i) 0 by intro i hi; rw [hA, addR_get HML.out (kb_length HFL.out hlr) i hi, kb_get HFL.out hlr i hi])
        have HAO := Lib.hid (show outR FF R b (r + 1 - 1) = A by rw [HOU.out, hA])
        clear hA HOU
        go_loopw [14] (fun i wr => ∃ k : Nat, k ≤ 16 ∧ i = .int .i64 (k : Int) ∧ Blk wr gb 56 ((A.take k ++ st.drop k).map B8) ∧ Blk wr gs 56 (M.map B8) ∧ SFr w g4 g5 gk Z X FF wr) (fun i _ => 16 - (intOf i).toNat)
        case atStart => exact ⟨0, by omega, rfl, hB, hM, hS⟩
        case round =>
         clear hB hS hM
         obtain ⟨k, hk, rfl, hB, hM, hS⟩ := hrel
         by_cases hlk : k < 16
         ·
          have hdk : decide ((k : Int) < 16) = true := by simp; omega
          have hlen := len_to A st k (by rw [HAL.out]; omega) (by rw [HAL.out, HTL.out])
          have HST := Lib.hid (set_to A st k 0 (by rw [HAL.out]; omega) (by rw [HTL.out]; omega))
          have hv := HAG.out k hlk
          obtain ⟨x, hx⟩ : ∃ x, x = M.getD k 0 := ⟨_, rfl⟩
          obtain ⟨y, hy⟩ : ∃ y, y = FF.getD (r * 16 + k) 0 := ⟨_, rfl⟩
          obtain ⟨v, hve⟩ : ∃ v, v = A.getD k 0 := ⟨_, rfl⟩
          have hxx : bits .xor .u8 (x.toNat : Int) (y.toNat : Int) = (v.toNat : Int) := by rw [hve, hv, hx, hy, r_xor]
          rw [← hve] at HST
          have hr := HR.out
          have hKY := hS.k (r * 16 + k) (by rw [HFL.out]; omega)
          rw [Nat.zero_add, ← hy] at hKY
          have HK := Lib.hid (fun (W : World) (hb : Below wr.heap.size wr W) => (World.cell?_of_block (a := ⟨gk, r * 16 + k, none⟩) (hb.block gk hS.l)).trans hKY)
          have HX := Lib.hid (fun (W : World) (hb : Below wr.heap.size wr W) => (show W.cell? ⟨gs, k, none⟩ = some (.int .u8 (x.toNat : Int)) by rw [hx]; exact (hM.below hb hM.lt).at8 k (by rw [HML.out]; exact hlk)))
          have HO := Lib.hid (fun (W : World) (hb : Below wr.heap.size wr W) => (hB.below hb hB.lt).at8 k (by rw [hlen, HTL.out]; exact hlk))
          have hk0 : (0 : Int) ≤ (k : Int) := by omega
          have hk1 : (k : Int) < 16 := by omega
          have hr0 : (0 : Int) ≤ (r : Int) := by omega
          have hr1 : (r : Int) < (R : Int) := by omega
          clear hv hx hy hve hKY hr hlen
          generalize A.take k ++ st.drop k = L at *
          go_wp2
          refine wp_region_noPanic ?_
          apply wp_region_once_tail (m := 12) (Z := []) (D := [[], [], [1], [1, 2], [], [], [], [4, 5], [4, 5, 6, 7], [4, 5, 6, 7, 8], [1, 2, 3, 4, 5, 6, 7, 8, 9], [0, 1, 2, 3, 4, 5, 6, 7, 8, 9, 10], [0, 1, 2, 3, 4, 5, 6, 7, 8, 9, 10, 11]]) (J := [[], [], [1], [2], [], [], [], [4, 5], [6, 7], [8], [3, 9], [0]]) (Je := [10, 11]) (Rs := [Is _, Is _, Is _, Is _, Is _, Is _, Is _, Is _, Is _, Is _, Is _, Is _])
          ·
           kernel_rfl
          ·
           kernel_rfl
          ·
           kernel_rfl
          ·
           kernel_rfl
          ·
           kernel_rfl
          ·
           kernel_rfl
          ·
           kernel_rfl
          ·
           exact fun h => absurd rfl h
          ·
           intro u
           simp only [List.take_succ_cons, List.take_zero, List.map_cons, List.map_nil, fillU, List.setIfInBounds_toArray, List.set_cons_zero, List.set_cons_succ, Nat.zero_add, Nat.reduceAdd]
           exact rfl
          ·
           simp only [List.take_succ_cons, List.take_zero]
           refine ⟨fun u W hb hd K hK => ?_, ?_⟩
           ·
            clear hd
            go_simp
            apply hK
            ·
             simp only [Act.put, List.setIfInBounds_toArray, List.set_cons_zero, List.set_cons_succ]
             exact rfl
            ·
             exact Below.refl _ _
            ·
             exact IsOut
           refine ⟨fun u W hb hd K hK => ?_, ?_⟩
           ·
            clear hd
            go_simp
            apply hK
            ·
             simp only [Act.put, List.setIfInBounds_toArray, List.set_cons_zero, List.set_cons_succ]
             exact rfl
            ·
             exact Below.refl _ _
            ·
             exact IsOut
           refine ⟨fun u W hb hd K hK => ?_, ?_⟩
           ·
            simp only [Facts, nthR, Is, and_true] at hd
            simp only [hd] at hK ⊢
            clear hd
            go_simp
            apply hK
            ·
             simp only [Act.put, List.setIfInBounds_toArray, List.set_cons_zero, List.set_cons_succ]
             exact rfl
            ·
             exact Below.refl _ _
            ·
             exact IsOut
           refine ⟨fun u W hb hd K hK => ?_, ?_⟩
           ·
            simp only [Facts, nthR, Is, and_true] at hd
            simp only [hd] at hK ⊢
            clear hd
            have hcc := HX.out W hb
            go_simp
            apply hK
            ·
             simp only [Act.put, List.setIfInBounds_toArray, List.set_cons_zero, List.set_cons_succ]
             exact rfl
            ·
             exact Below.refl _ _
            ·
             exact IsOut
           refine ⟨fun u W hb hd K hK => ?_, ?_⟩
           ·
            clear hd
            go_simp
            apply hK
            ·
             simp only [Act.put, List.setIfInBounds_toArray, List.set_cons_zero, List.set_cons_succ]
             exact rfl
            ·
             exact Below.refl _ _
            ·
             exact IsOut
           refine ⟨fun u W hb hd K hK => ?_, ?_⟩
           ·
            clear hd
            go_simp
            apply hK
            ·
             simp only [Act.put, List.setIfInBounds_toArray, List.set_cons_zero, List.set_cons_succ]
             exact rfl
            ·
             exact Below.refl _ _
            ·
             exact IsOut
           refine ⟨fun u W hb hd K hK => ?_, ?_⟩
           ·
            clear hd
            go_simp
            apply hK
            ·
             simp only [Act.put, List.setIfInBounds_toArray, List.set_cons_zero, List.set_cons_succ]
             exact rfl
            ·
             exact Below.refl _ _
            ·
             exact IsOut
           refine ⟨fun u W hb hd K hK => ?_, ?_⟩
           ·
            simp only [Facts, nthR, Is, and_true] at hd
            simp only [hd] at hK ⊢
            clear hd
            go_simp
            apply hK
            ·
             simp only [Act.put, List.setIfInBounds_toArray, List.set_cons_zero, List.set_cons_succ]
             exact rfl
            ·
             exact Below.refl _ _
            ·
             exact IsOut
           refine ⟨fun u W hb hd K hK => ?_, ?_⟩
           ·
            simp only [Facts, nthR, Is, and_true] at hd
            simp only [hd] at hK ⊢
            clear hd
            go_simp
            apply hK
            ·
             simp only [Act.put, List.setIfInBounds_toArray, List.set_cons_zero, List.set_cons_succ]
             exact rfl
            ·
             exact Below.refl _ _
            ·
             exact IsOut
           refine ⟨fun u W hb hd K hK => ?_, ?_⟩
           ·
            simp only [Facts, nthR, Is, and_true] at hd
            simp only [hd] at hK ⊢
            clear hd
            have hcc := HK.out W hb
            go_simp
            apply hK
            ·
             simp only [Act.put, List.setIfInBounds_toArray, List.set_cons_zero, List.set_cons_succ]
             exact rfl
            ·
             exact Below.refl _ _
            ·
             exact IsOut
           refine ⟨fun u W hb hd K hK => ?_, ?_⟩
           ·
            simp only [Facts, nthR, Is, and_true] at hd
            simp only [hd] at hK ⊢
            clear hd
            go_simp
            apply hK
            ·
             simp only [Act.put, List.setIfInBounds_toArray, List.set_cons_zero, List.set_cons_succ]
             exact rfl
            ·
             exact Below.refl _ _
            ·
             exact IsOut
           refine ⟨fun u W hb hd K hK => ?_, ?_⟩
           ·
            simp only [Facts, nthR, Is, and_true] at hd
            simp only [hd] at hK ⊢
            clear hd
            go_simp
            apply hK
            ·
             simp only [Act.put, List.setIfInBounds_toArray, List.set_cons_zero, List.set_cons_succ]
             exact rfl
            ·
             exact Below.refl _ _
            ·
             exact IsOut
           exact trivial
          ·
           skip
           exact trivial
          ·
           exact (.is (.is (.is (.is (.is (.is (.is (.is (.is (.is (.is (.is .nil))))))))))))
          ·
           intro u W hb hd
           simp only [List.drop_succ_cons, List.drop_zero]
           simp only [Facts, nthR, Is, and_true] at hd
           simp only [hd]
           clear hd
           have hcc := HO.out W hb
           have hfr := (hB.below hb hB.lt).frozen k
           replace hB := hB.below hb hB.lt
           replace hS := hS.below hb
           replace hM := hM.below hb hM.lt
           clear hb HX HK HO
           go_wp2
           refine NoPanic.normal ?_
           go_wp2
           go_roundw
           case rel =>
            refine ⟨k + 1, by omega, by go_num, ?_, hM.far (by simp; exact hng) _, hS.far hne _⟩
            rw [← HST.out, ← map_set8]
            exact hB.set_ k _
           case measure => simp [intOf]; omega
         ·
          have hdk : decide ((k : Int) < 16) = false := by simp; omega
          have hk16 : k = 16 := by omega
          rw [show (k : Int) = 16 by omega]
          rw [hk16, List.take_of_length_le (by rw [HAL.out]; omega), List.drop_eq_nil_of_le (by rw [HTL.out]; omega), List.append_nil] at hB
          clear hM
          have hRb := HR.out
          go_wp2
          go_roundw
          case rel => exact ⟨r + 1, by omega, by omega, by go_num, by rw [HAO.out]; exact hB, hS⟩
          case measure => simp [intOf]; omega
    ·
     have hd : decide (r < R) = false := by simp; omega
     obtain rfl : r = R := by omega
     obtain ⟨V, hV⟩ : ∃ V, V = outR FF r b (r - 1) := ⟨_, rfl⟩
     have HVL := Lib.hid (show V.length = 16 by rw [hV]; exact outR_length HFL.out HB.out _ (by omega))
     rw [← hV] at hB
     have HVE := Lib.hid hV
     clear hV
     have hb := hS.b
     have h4 := hS.r
     go_wp2_with (first
      | (refine wpList_load_blk rfl 56 (.tmp 3) rfl gb rfl 56 _ _ hB Tryd.underlying56 rfl (infoBk.trans (by rw [List.length_map, HVL.out])) ?_)
      | (refine wpList_store_blk rfl 56 (.tmp 4) (.tmp 116) rfl rfl g4 _ rfl rfl 56 _ h4 (infoBk.trans (by rw [List.length_map, HVL.out])) (by rw [List.length_map, List.length_map, HVL.out, HZL.out]) (one8 _) ?_; intro w9 h9 hg9))
     refine bodyPost_ret (v := .agg _) (results_cell_row rfl _ _ g4 56 _ (0, 0) _ rfl h9.raw Tryd.underlying56 rfl (infoBk.trans (by rw [List.size_toArray, List.length_map, HVL.out]))) rfl ⟨by rw [HVE.out], below_new hb hg9 hle4 hb.size⟩

end
end Go.Proofs.YtnjpcbbdhimacaaDoor
