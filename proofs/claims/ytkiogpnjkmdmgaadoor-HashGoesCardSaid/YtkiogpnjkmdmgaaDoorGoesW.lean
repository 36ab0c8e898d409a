/-
  The walk of the statement HashGoes.
-/
import Derived.Test.YtkiogpnjkmdmgaaDoorEndO
import Derived.Test.YtkiogpnjkmdmgaaDoorRefSum
import Derived.Test.YtkiogpnjkmdmgaaDoorFew
namespace Go.Proofs.YtkiogpnjkmdmgaaDoor
open Go.RowKit

theorem sha_abc : sha [97, 98, 99] = [0xBA, 0x78, 0x16, 0xBF, 0x8F, 0x01, 0xCF, 0xEA, 0x41, 0x41, 0x40, 0xDE, 0x5D, 0xAE, 0x22, 0x23, 0xB0, 0x03, 0x61, 0xA3, 0x96, 0x17, 0x7A, 0x9C, 0xB4, 0x10, 0xFF, 0x61, 0xF2, 0x00, 0x15, 0xAD] := by decide +kernel

set_option maxRecDepth 100000 in
set_option maxHeartbeats 600000 in
theorem Size_any (g : Nat) (m : List UInt8) (w : World) (hn : m.length < 1099511627776) (hh : HeldN w g 52 m) :
    Calls Tryd.prog 10 #[.pointer (some ⟨g, 0, none⟩)] w fun e w' => e = .returned (.int .i64 (m.length : Int)) ∧ w = w' := by
  obtain ⟨s, R, hR, hs, hm⟩ := hh
  have c72 : w.cell? ⟨g, 72, none⟩ = some (.int .u64 (m.length : Int)) := (hs.cell 72).trans (stCells_72 s R m.length hR)
  go_enter Tryd.func10, Tryd.ntmps10
  go_wp2
  go_ret
  exact ⟨rfl, rfl⟩
set_option maxRecDepth 100000 in
set_option maxHeartbeats 600000 in
theorem sums_any (w : World) (ht : Tabs w) :
    Calls Tryd.prog 8 #[] w fun e w' => e = .returned (.bool true) ∧ Below w.heap.size w w' := by
  have kc := fun (w : World) (C : Array Value) (n c : Nat) => Lib.run_convert_bytes_const (P := Tryd.prog) w 27 5 C n c Tryd.underlying27 Tryd.underlying5
  have kc2 := fun (X : Obj) (C : Array Value) (n c : Nat) => Joins.run_convert_bytes_const_at (P := Tryd.prog) (w.alloc X) 27 5 C n c (w.heap.size + 1) (by simp) Tryd.underlying27 Tryd.underlying5
  have ht0 := ht.lt0
  have ht1 := ht.lt1
  go_enter Tryd.func8, Tryd.ntmps8
  go_wp2_with fail
  clear kc kc2
  have hP : ∀ g, w.heap.size + 1 + 1 + 1 ≤ g → Parts (((w.alloc (.cells #[.int .u8 97] 5 (1, 2))).alloc (.cells #[.int .u8 98, .int .u8 99] 5 (2, 3))).alloc (.cells #[.slice (some ⟨w.heap.size, 0, none⟩) 1 1, .slice none 0 0, .slice (some ⟨w.heap.size + 1, 0, none⟩) 2 2] 27)) g (some ⟨w.heap.size + 1 + 1, 0, none⟩) [[97], [], [98, 99]] := fun g hg _ => by
    refine ⟨w.heap.size + 1 + 1, 0, rfl, by omega, fun j hj => ?_⟩
    have hB := Blk.new3_of w (.cells #[.int .u8 97] 5 (1, 2)) (.cells #[.int .u8 98, .int .u8 99] 5 (2, 3)) 27 #[.slice (some ⟨w.heap.size, 0, none⟩) 1 1, .slice none 0 0, .slice (some ⟨w.heap.size + 1, 0, none⟩) 2 2] _ rfl
    obtain rfl | rfl | rfl : j = 0 ∨ j = 1 ∨ j = 2 := by have : j < 3 := hj; omega
    · refine ⟨_, 1, hB.cell 0, by decide, by decide, fun _ => ⟨w.heap.size, 0, rfl, by omega, fun i hi => ?_⟩⟩
      obtain rfl : i = 0 := by have : i < 1 := hi; omega
      rw [World.cell?_alloc_lt _ _ _ (by simp; omega), World.cell?_alloc_lt _ _ _ (by simp)]
      exact cell_of_row _ w.heap.size 0 _ _ _ (heap_alloc_new w _)
    · exact ⟨_, 0, hB.cell 1, by decide, by decide, fun h => absurd h (by decide)⟩
    · refine ⟨_, 2, hB.cell 2, by decide, by decide, fun _ => ⟨w.heap.size + 1, 0, rfl, by omega, fun i hi => ?_⟩⟩
      rw [World.cell?_alloc_lt _ _ _ (by simp)]
      rw [cell_of_row _ (w.heap.size + 1) (0 + i) _ _ _ (heap_alloc2_new w _ _)]
      obtain rfl | rfl : i = 0 ∨ i = 1 := by have : i < 2 := hi; omega
      · rfl
      · rfl
  refine (Of_any 3 _ [[97], [], [98, 99]] _ (by decide) (by decide) (by decide) ?_ ?_).mono ?_
  · intro g hg; exact hP g (by simpa using hg)
  · exact ht.below ((((Below.refl w.heap.size w).alloc (Nat.le_refl _) _).alloc (by simp) _).alloc (by simp; omega) _)
  rintro e w1 ⟨rfl, hb1⟩
  have e3 : ([[97], [], [98, 99]] : List (List UInt8)).flatten = [97, 98, 99] := rfl
  rw [e3]
  have hb2 : Below w.heap.size w w1 := ((((Below.refl w.heap.size w).alloc (Nat.le_refl _) _).alloc (by simp) _).alloc (by simp; omega) _).trans (hb1.mono (by simp; omega))
  clear hb1 hP e3
  obtain ⟨X, hX⟩ : ∃ X, X = sha [97, 98, 99] := ⟨_, rfl⟩
  rw [← hX]
  have hl : X.length = 32 := by rw [hX]; exact sha_length _
  have x0 : X.getD 0 0 = 186 := by rw [hX, sha_abc]; rfl
  have x1 : X.getD 1 0 = 120 := by rw [hX, sha_abc]; rfl
  have x31 : X.getD 31 0 = 173 := by rw [hX, sha_abc]; rfl
  have HL := Lib.hid hl
  have X0 := Lib.hid x0
  have X1 := Lib.hid x1
  have X31 := Lib.hid x31
  clear hX hl x0 x1 x31
  go_wp2_with (refine wpList_store_blk rfl 29 (.tmp 1) (.tmp 7) rfl rfl w1.heap.size _ rfl rfl 29 ((List.replicate 32 (0 : UInt8)).map B8) (Blk.new_of w1 _ _ _ (by rfl)) (info32.trans (by rw [List.length_map, HL.out])) (by rw [List.length_map, List.length_map, HL.out]; rfl) (one8 _) ?_; intro w2 hs2 hg2; have c0 := hs2.at8 0 (by rw [HL.out]; decide); rw [X0.out] at c0; have c1 := hs2.at8 1 (by rw [HL.out]; decide); rw [X1.out] at c1; have c31 := hs2.at8 31 (by rw [HL.out]; decide); rw [X31.out] at c31)
  go_ret
  exact ⟨rfl, below_new (hb2.alloc hb2.size _) hg2 hb2.size (by have := hb2.size; simp; omega)⟩

theorem goNone_any (w : World) : Calls Tryd.prog 6 #[] w fun e w' => e = .returned (.pointer none) ∧ Below w.heap.size w w' := by
  go_enter Tryd.func6, Tryd.ntmps6
  go_wp2
  go_ret
  exact ⟨rfl, Below.refl _ _⟩
theorem putNil_any (v : Value) (w : World) : Calls Tryd.prog 7 #[.pointer none, v] w fun e w' => e = .returned (.tuple #[]) ∧ Below w.heap.size w w' := by
  go_enter Tryd.func7, Tryd.ntmps7
  go_wp2
  exact bodyPost_ret (v := .tuple #[]) (by simp [results, Tryd.results7, go_sem]) rfl ⟨rfl, Below.refl _ _⟩
theorem sizeNil_any (w : World) : Calls Tryd.prog 10 #[.pointer none] w fun e w' => e = .returned (.int .i64 0) ∧ Below w.heap.size w w' := by
  go_enter Tryd.func10, Tryd.ntmps10
  go_wp2
  go_ret
  exact ⟨rfl, Below.refl _ _⟩
theorem copyNil_any (w : World) : Calls Tryd.prog 11 #[.pointer none] w fun e w' => e = .returned (.pointer none) ∧ Below w.heap.size w w' := by
  go_enter Tryd.func11, Tryd.ntmps11
  go_wp2
  go_ret
  exact ⟨rfl, Below.refl _ _⟩
theorem neq32_zero (W : World) : (binOp .neq 29 (.agg #[.int .u8 0, .int .u8 0, .int .u8 0, .int .u8 0, .int .u8 0, .int .u8 0, .int .u8 0, .int .u8 0, .int .u8 0, .int .u8 0, .int .u8 0, .int .u8 0, .int .u8 0, .int .u8 0, .int .u8 0, .int .u8 0, .int .u8 0, .int .u8 0, .int .u8 0, .int .u8 0, .int .u8 0, .int .u8 0, .int .u8 0, .int .u8 0, .int .u8 0, .int .u8 0, .int .u8 0, .int .u8 0, .int .u8 0, .int .u8 0, .int .u8 0, .int .u8 0]) (.agg #[.int .u8 0, .int .u8 0, .int .u8 0, .int .u8 0, .int .u8 0, .int .u8 0, .int .u8 0, .int .u8 0, .int .u8 0, .int .u8 0, .int .u8 0, .int .u8 0, .int .u8 0, .int .u8 0, .int .u8 0, .int .u8 0, .int .u8 0, .int .u8 0, .int .u8 0, .int .u8 0, .int .u8 0, .int .u8 0, .int .u8 0, .int .u8 0, .int .u8 0, .int .u8 0, .int .u8 0, .int .u8 0, .int .u8 0, .int .u8 0, .int .u8 0, .int .u8 0])).run Tryd.prog W = .ok (.bool false) W := by kernel_rfl
set_option maxRecDepth 100000 in
theorem sumNil_any (w : World) : Calls Tryd.prog 9 #[.pointer none] w fun e w' => e = .returned (.agg #[.int .u8 0, .int .u8 0, .int .u8 0, .int .u8 0, .int .u8 0, .int .u8 0, .int .u8 0, .int .u8 0, .int .u8 0, .int .u8 0, .int .u8 0, .int .u8 0, .int .u8 0, .int .u8 0, .int .u8 0, .int .u8 0, .int .u8 0, .int .u8 0, .int .u8 0, .int .u8 0, .int .u8 0, .int .u8 0, .int .u8 0, .int .u8 0, .int .u8 0, .int .u8 0, .int .u8 0, .int .u8 0, .int .u8 0, .int .u8 0, .int .u8 0, .int .u8 0]) ∧ Below w.heap.size w w' := by
  go_enter Tryd.func9, Tryd.ntmps9
  go_wp2_with (refine wpList_store_blk rfl 29 (.tmp 2) (.tmp 6) rfl rfl w.heap.size ((List.replicate 32 (0 : UInt8)).map B8) rfl (by rfl) 29 _ (Blk.new_of w 29 _ ((List.replicate 32 (0 : UInt8)).map B8) (by rfl)) info32 rfl (one8 _) ?_; intro w2 hA2 hg2)
  refine bodyPost_ret (v := .agg _) (results_cell_row rfl _ _ w.heap.size 29 _ (0, 0) _ rfl hA2.raw Tryd.underlying29 rfl info32) rfl ⟨rfl, below_new ((Below.refl w.heap.size w).alloc (Nat.le_refl _) _) hg2 (Nat.le_refl _) (by simp)⟩

/-- Truths that came in. -/
def BIn (w : World) (B : Nat) (A : Option Addr) (c n : Nat) (bs : List Bool) : Prop := n ≤ c ∧ c ≤ 9223372036854775807 ∧ (0 < n → ∃ gb ob, A = some ⟨gb, ob, none⟩ ∧ gb < B ∧ ∀ j, j < n → w.cell? ⟨gb, ob + j, none⟩ = some (.bool (bs.getD j false)))
theorem BIn.below {w w' : World} {B : Nat} {A : Option Addr} {c n : Nat} {bs : List Bool} (h : BIn w B A c n bs) (hb : Below B w w') : BIn w' B A c n bs :=
  ⟨h.1, h.2.1, fun h0 => by
    obtain ⟨gb, ob, e, hl, hj⟩ := h.2.2 h0
    exact ⟨gb, ob, e, hl, fun j hjn => (hb.cell (p := ⟨gb, ob + j, none⟩) hl).trans (hj j hjn)⟩⟩
theorem Buf.under {w w' : World} {B base n c : Nat} {A : Option Addr} {bs : List UInt8} (h : Buf w base A n c bs) (hB : ∀ a, A = some a → a.block < B) (hb : Below B w w') : Buf w' base A n c bs := by
  refine ⟨h.1, ?_⟩
  rcases h.2 with hn | ⟨g, rfl, hb', hlt, h1, h2, hby, hall⟩
  · exact .inl hn
  · have hg : g < B := hB _ rfl
    have hB2 := hb.block g hg
    refine .inr ⟨g, rfl, hb', Nat.lt_of_lt_of_le hlt hb.size, h1, h2, fun j hj => (World.cell?_of_block (a := ⟨g, 0 + j, none⟩) hB2).trans (hby j hj), fun j hj => ?_⟩
    rw [World.cell?_of_block (a := ⟨g, j, none⟩) hB2, World.frozen?_of_block (a := ⟨g, j, none⟩) hB2]
    exact hall j hj
theorem Buf.inB {w : World} {B base n c : Nat} {A : Option Addr} {bs : List UInt8} (h : Buf w base A n c bs) (hB : ∀ a, A = some a → a.block < B) : In w B A c bs := by
  refine ⟨by rw [h.1]; exact h.le.1, h.le.2, fun h0 => ?_⟩
  obtain ⟨g, rfl, _, _, hby⟩ := h.at (by rw [← h.1]; exact h0)
  exact ⟨g, 0, rfl, hB _ rfl, hby⟩
/-- Rows of bytes of the call's own from place k on, in blocks of their own below gs, behind the row of slices at gp. -/
structure RowsK (W : World) (base gs gp : Nat) (cells : List Value) (qs : List (List UInt8)) (k : Nat) : Prop where
  gpl : gp < gs
  gpb : base ≤ gp
  cell : ∀ j, j < qs.length → W.cell? ⟨gp, j, none⟩ = cells[j]?
  row : ∀ j, k ≤ j → j < qs.length → ∃ Aj cj, cells[j]? = some (.slice Aj (qs.getD j []).length cj) ∧ Buf W base Aj (qs.getD j []).length cj (qs.getD j []) ∧ ∀ a, Aj = some a → a.block < gs ∧ a.block ≠ gp
  ord : ∀ i j, i < j → j < qs.length → ∀ Ai Aj ni nj ci cj, cells[i]? = some (.slice Ai ni ci) → cells[j]? = some (.slice Aj nj cj) → ownLt Ai Aj
theorem RowsK.below {W W' : World} {base gs gp k : Nat} {cells : List Value} {qs : List (List UInt8)} (h : RowsK W base gs gp cells qs k) (hb : Below gs W W') : RowsK W' base gs gp cells qs k :=
  ⟨h.gpl, h.gpb, fun j hj => (hb.cell (p := ⟨gp, j, none⟩) h.gpl).trans (h.cell j hj), fun j hk hj => by
    obtain ⟨Aj, cj, h1, h2, h3⟩ := h.row j hk hj
    exact ⟨Aj, cj, h1, h2.under (fun a ha => (h3 a ha).1) hb, h3⟩, h.ord⟩
theorem RowsK.next {W : World} {base gs gp k : Nat} {cells : List Value} {qs : List (List UInt8)} (h : RowsK W base gs gp cells qs k) : RowsK W base gs gp cells qs (k + 1) :=
  ⟨h.gpl, h.gpb, h.cell, fun j hk hj => h.row j (by omega) hj, h.ord⟩
/-- A place of row k is written: those behind it stay. -/
theorem RowsK.set {W : World} {base gs gp k n q i c : Nat} {cells : List Value} {qs : List (List UInt8)} (h : RowsK W base gs gp cells qs (k + 1)) (hk : cells[k]? = some (.slice (some ⟨q, 0, none⟩) n c)) (hq : q ≠ gp) (u : Value) : RowsK (W.setCell ⟨q, i, none⟩ u) base gs gp cells qs (k + 1) := by
  have hg : W.grownBy (W.setCell ⟨q, i, none⟩ u) (some q) := grown_setCell (grown_refl _ _) (.inl rfl) u
  refine ⟨h.gpl, h.gpb, fun j hj => ?_, fun j hkj hj => ?_, h.ord⟩
  · rw [← h.cell j hj]
    exact World.cell?_of_block (a := ⟨gp, j, none⟩) (Below.heap_setCell W _ u gp (fun e => hq e.symm))
  · obtain ⟨Aj, cj, h1, h2, h3⟩ := h.row j hkj hj
    refine ⟨Aj, cj, h1, h2.kept hg (fun g e => ?_), h3⟩
    have := h.ord k j (by omega) hj _ _ _ _ _ _ hk h1
    rw [e] at this
    have hlt : q < g := this
    simp; omega

set_option maxRecDepth 100000 in
set_option maxHeartbeats 4000000 in
theorem hashGoes_walk (A K : Option Addr) (c ck na : Nat) (ps : List (List UInt8)) (bs : List Bool) (w : World) (hA : PIn w w.heap.size A c ps) (hK : BIn w w.heap.size K ck na bs) (ht : Tabs w) :
    Calls Tryd.prog 3 #[.slice A ps.length c, .slice K na ck] w fun e w' => e = .returned (.bool true) ∧ Below w.heap.size w w' := by
  have hq1 := few_length 12 200 ps
  have hq2 := few_flatten_le 12 200 ps
  obtain ⟨qs, hq⟩ : ∃ qs, few 12 200 ps = qs := ⟨_, rfl⟩
  rw [hq] at hq1 hq2
  have HQ := Lib.hid hq
  clear hq
  have kc := fun (w : World) (C : Array Value) (n c : Nat) => Lib.run_convert_bytes_const (P := Tryd.prog) w 27 5 C n c Tryd.underlying27 Tryd.underlying5
  have hne := neq32_zero
  go_enter Tryd.func3, Tryd.ntmps3
  go_wp2_with (first
    | (go_at_call 6; refine (goNone_any _).mono ?_; rintro e w0 ⟨rfl, hb0⟩)
    | (go_at_call 7; refine (putNil_any _ _).mono ?_; rintro e w1 ⟨rfl, hb1⟩))
  have hbx : Below w.heap.size w w1 := ((hb0.alloc hb0.size _).alloc (by simp; have := hb0.size; omega) _).trans (hb1.mono (by simp; have := hb0.size; omega))
  have hsm := fun (W : World) (h : Below w1.heap.size w1 W) => sums_any W ((ht.below hbx).below h)
  clear hb0 hb1 kc
  go_wp2_with (first
    | (go_at_call 8; refine (hsm _ (Below.refl _ _)).mono ?_; rintro e wa ⟨rfl, hba⟩; have hbx := hbx.trans (hba.mono hbx.size); clear hba)
    | (go_at_call 9; refine (sumNil_any _).mono ?_; rintro e wb ⟨rfl, hbb⟩; have hbx := hbx.trans (hbb.mono hbx.size); clear hbb)
    | (go_at_call 10; refine (sizeNil_any _).mono ?_; rintro e wc ⟨rfl, hbc⟩; have hbx := hbx.trans (hbc.mono hbx.size); clear hbc)
    | (go_at_call 11; refine (copyNil_any _).mono ?_; rintro e wd ⟨rfl, hbd⟩; have hbx := hbx.trans (hbd.mono hbx.size); clear hbd)
    | (go_at_call 6; refine (goNone_any _).mono ?_; rintro e wn ⟨rfl, hbn⟩; have hbx := hbx.trans (hbn.mono hbx.size); clear hbn))
  clear hsm hne
  have hA1 := hA.up hbx
  have hK1 := hK.below hbx
  refine (few_here (m := 12) (e := 200) hA1 (by decide) (by decide) HQ.out).mono ?_
  rintro r w2 ⟨A1, c1, rfl, hr2, hp2, hb2⟩
  have hb02 := hbx.trans (hb2.mono hbx.size)
  have hK2 := hK.below hb02
  clear hA hA1 hK1 hp2
  go_wp2_with fail
  refine (new_any _).mono ?_
  rintro e w3 ⟨rfl, hs3, hb3⟩
  have hs := HeldN.new hs3
  have hb03 := hb02.trans (hb3.mono hb02.size)
  have hK3 := hK.below hb03
  have hgs := hb02.size
  obtain ⟨gp, cells, hrows⟩ : ∃ gp cells, 0 < qs.length → A1 = some ⟨gp, 0, none⟩ ∧ RowsK w3 w.heap.size w2.heap.size gp cells qs 0 := by
    rcases Nat.eq_zero_or_pos qs.length with h0 | h0
    · exact ⟨0, [], fun h => by omega⟩
    · obtain ⟨cells, hown, hrow, hord⟩ := hr2.base_le hbx.size
      rcases hown.2 with ⟨_, hn⟩ | ⟨g, cap, cur, hv, hbg, hcur, hn, hm, hsz, htk⟩
      · omega
      · injection hv with hv1 hv2 hv3
        subst hv1
        have hgl : g < w2.heap.size := by
          rcases Nat.lt_or_ge g w2.heap.size with hlt | hge
          · exact hlt
          · rw [Array.getElem?_eq_none hge] at hcur; cases hcur
        refine ⟨g, cells, fun _ => ⟨rfl, RowsK.below ⟨hgl, hbg, fun j hj => ?_, fun j _ hj => ?_, hord⟩ hb3⟩⟩
        · rw [cell_of_row w2 g j cur _ _ hcur, ← htk, List.getElem?_take, if_pos (by omega)]
          simp
        · obtain ⟨Aj, cj, h1, h2, h3⟩ := hrow j hj
          refine ⟨Aj, cj, h1, h2, fun a ha => ⟨?_, h3 g rfl a ha⟩⟩
          rcases h2.2 with ⟨hnil, _⟩ | ⟨q, e2, _, hq, _⟩
          · rw [hnil] at ha; cases ha
          · rw [e2] at ha; cases ha; exact hq
  clear hr2 hs3 hb2 hb3 hbx hK2 hb02
  have hlt2 := hs.lt
  generalize w2.heap.size = gs at *
  go_wp2
  go_loopw [7, 8] (fun al i wr => ∃ k : Nat, k ≤ qs.length ∧ i = .int .i64 (k : Int) ∧ al = .string ⟨(qs.take k).flatten.toArray⟩ ∧ HeldN wr gs 52 (qs.take k).flatten ∧ (k < qs.length → A1 = some ⟨gp, 0, none⟩ ∧ RowsK wr w.heap.size gs gp cells qs k) ∧ BIn wr w.heap.size K ck na bs ∧ Below w.heap.size w wr) (fun _ i _ => qs.length - (intOf i).toNat)
  case atStart => exact ⟨0, by omega, rfl, rfl, hs, hrows, hK3, hb03⟩
  case round =>
    clear hs hrows hK3 hb03 hlt2
    obtain ⟨k, hk, rfl, rfl, hs, hrows, hK, hb⟩ := hrel
    have hlw := hs.lt
    by_cases hlt : k < qs.length
    · have hd1 : decide ((k : Int) < (qs.length : Int)) = true := by simp; omega
      obtain ⟨rfl, hR⟩ := hrows hlt
      clear hrows
      obtain ⟨Ak, cak, hck, hBk, hsep⟩ := hR.row k (Nat.le_refl _) hlt
      have hcell := (hR.cell k hlt).trans hck
      have hRn := hR.next
      have HCK := Lib.hid hck
      have HF := Lib.hid (flatten_snoc qs k hlt)
      have hle := flatten_le qs (k + 1)
      rw [HF.out, List.length_append] at hle
      obtain ⟨y, hy⟩ : ∃ y, y = qs.getD k [] := ⟨_, rfl⟩
      rw [← hy] at hcell hBk HF hle HCK
      clear hy hck hR
      generalize (qs.take k).flatten = M at *
      have hyl : y.length ≤ 2400 := by omega
      have hMl : M.length ≤ 2400 := by omega
      have hMy : M.length + y.length ≤ 2400 := by omega
      have hi := hBk.inB (B := gs) (fun a ha => (hsep a ha).1)
      have hk0 : (0 : Int) ≤ (k : Int) := by omega
      have hkl : (k : Int) < (qs.length : Int) := by omega
      have hbs := hb.size
      obtain ⟨hyc, hyd, _⟩ := id hi
      have hcl1 : ¬ 9223372036854775807 < M.length + y.length := by omega
      have HS := Lib.hid hsep
      clear hsep
      have hput := Put_any gs 1 (some ⟨wr.heap.size, 0, none⟩) M [y] (wr.alloc (.cells #[.slice Ak y.length cak] 27)) (by simp only [List.flatten_cons, List.flatten_nil, List.append_nil]; omega) (by simp) (by omega) (parts1 27 hi (by omega) (Nat.le_refl _)) (hs.alloc _) ((ht.below hb).below ((Below.refl _ _).alloc (Nat.le_refl _) _)) (by have := ht.lt0; omega) (by have := ht.lt1; omega)
      go_wp2_with fail
      refine hput.mono ?_
      rintro e w4 ⟨rfl, hg4, hh4⟩
      have hs4 := HeldN.of_held hh4
      simp only [List.flatten_cons, List.flatten_nil, List.append_nil] at hs4
      have hbg : Below gs wr w4 := below_new ((Below.refl gs wr).alloc (by omega) _) hg4 (Nat.le_refl _) (by simp; omega)
      have hb4 := below_new (hb.alloc hb.size _) hg4 hgs (by simp; omega)
      have hR4 := hRn.below hbg
      have hB4 := hBk.under (fun a ha => (HS.out a ha).1) hbg
      have hi4 := hi.below hbg
      have hc4 := (hbg.cell (p := ⟨gp, k, none⟩) hRn.gpl).trans hcell
      have hK4 := hK.below (hbg.mono hgs)
      have hl4 := hs4.lt
      have HGP := Lib.hid (show gp < gs ∧ w.heap.size ≤ gp from ⟨hRn.gpl, hRn.gpb⟩)
      clear hh4 hg4 hput hs hRn hBk hi hcell hK hb hbg hlw hbs
      have hsy4 := hi4.src (g := gs) (Nat.le_refl _)
      clear hi4
      go_wp2_with ((with_reducible refine (?_ : wpList _ _ _ (Oper.mk (some 56) _ _ _ _ _ :: _) _ _)); go_loud (refine wpList_string_of rfl (.tmp 55) rfl y Ak cak gs rfl hsy4 ?_))
      clear hsy4
      rw [bytes_append]
      have hMy2 : (M ++ y).length ≤ 2400 := by rw [List.length_append]; exact hMy
      obtain ⟨N, hN⟩ : ∃ N, N = M ++ y := ⟨_, rfl⟩
      rw [← hN] at hs4 hMy2 ⊢
      rw [← hN] at HF
      have HML := Lib.hid hMy2
      clear hN hMy2 hcl1
      go_loopw [9] (fun i wv => ∃ (j : Nat) (zs : List UInt8), j ≤ y.length ∧ i = .int .i64 (j : Int) ∧ Buf wv w.heap.size Ak y.length cak zs ∧ HeldN wv gs 52 N ∧ RowsK wv w.heap.size gs gp cells qs (k + 1) ∧ wv.cell? ⟨gp, k, none⟩ = some (.slice Ak y.length cak) ∧ BIn wv w.heap.size K ck na bs ∧ Below w.heap.size w wv) (fun i _ => y.length - (intOf i).toNat)
      case atStart => exact ⟨0, y, Nat.zero_le _, rfl, hB4, hs4, hR4, hc4, hK4, hb4⟩
      case round =>
        clear hB4 hs4 hR4 hc4 hK4 hb4 hl4
        obtain ⟨j, zs, hj, rfl, hBz, hs, hR, hc, hK, hb⟩ := hrel
        by_cases hjl : j < y.length
        · have hd2 : decide ((j : Int) < (y.length : Int)) = true := by simp; omega
          obtain ⟨q, rfl, hqb, hql, hby⟩ := hBz.at (by omega)
          have hzl := hBz.len
          have hcz := hby j (by omega)
          rw [Nat.zero_add] at hcz
          have hfz := hBz.notFrozen (j := j) (by have := hBz.le; omega)
          have hsp := HS.out _ rfl
          simp only at hsp
          generalize zs.getD j 0 = z0 at *
          have hj0 : (0 : Int) ≤ (j : Int) := by omega
          have hjl2 : (j : Int) < (y.length : Int) := by omega
          have hx : bits .xor .u8 (z0.toNat : Int) 90 = ((z0 ^^^ 90).toNat : Int) := by
            rw [show (90 : Int) = ((90 : UInt8).toNat : Int) from rfl, u8_xor_nat _ _ (u8_lt z0) (u8_lt 90), UInt8.toNat_xor]
          clear hby hzl
          go_wp2
          go_roundw
          case rel =>
            refine ⟨j + 1, zs.set j (z0 ^^^ 90), by omega, by go_num, hBz.set hjl _, hs.grown (grown_setCell (grown_refl _ _) (.inl rfl) _) (Nat.ne_of_gt hsp.1), hR.set HCK.out hsp.2 _, ?_, hK.below ((Below.refl _ _).setCell hqb _), hb.setCell hqb _⟩
            · rw [← hc]
              exact World.cell?_of_block (a := ⟨gp, k, none⟩) (Below.heap_setCell _ _ _ gp (fun e => hsp.2 e.symm))
          case measure => simp [intOf]; omega
        · have hd2 : decide ((j : Int) < (y.length : Int)) = false := by simp; omega
          clear HS HGP hBz
          by_cases hka : k < na
          · have hd3 : decide ((k : Int) < (na : Int)) = true := by simp; omega
            have hka2 : (k : Int) < (na : Int) := by omega
            obtain ⟨ga, oa, rfl, hga, hbj⟩ := hK.2.2 (by omega)
            have hcb := hbj k hka
            clear hbj
            cases hbv : bs.getD k false with
            | true =>
              rw [hbv] at hcb
              have hsum := Sum_held gs N wr (by have := HML.out; omega) hs (ht.below hb)
              obtain ⟨x, hx⟩ : ∃ x, x = sha N := ⟨_, rfl⟩
              have hxl : x.length = 32 := by rw [hx]; exact sha_length _
              rw [← hx] at hsum
              have HX := Lib.hid hx
              have HXL := Lib.hid hxl
              clear hx hxl
              go_wp2_with (first
                | (go_at_call 9; refine hsum.mono ?_; rintro e w5 ⟨rfl, hb5⟩; have hs5 := hs.below hb5; have hR5 := hR.below (hb5.mono (Nat.le_of_lt hs.lt)); have hK5 := hK.below (hb5.mono hb.size); have hb05 := hb.trans (hb5.mono hb.size); have hl5 := hs5.lt; clear hsum hs hR hK hb hb5)
                | (refine wpList_store_blk rfl 29 (.tmp 10) (.tmp 87) rfl rfl w5.heap.size _ rfl rfl 29 _ (Blk.new_of w5 29 _ ((List.replicate 32 (0 : UInt8)).map B8) (by rfl)) (info32.trans (by rw [List.length_map, HXL.out])) (by rw [List.length_map, List.length_map, HXL.out]; rfl) (one8 _) ?_; intro w6 hS6 hg6; have hb56 : Below w5.heap.size w5 w6 := below_new ((Below.refl _ _).alloc (Nat.le_refl _) _) hg6 (Nat.le_refl _) (by simp)))
              have hs6 := hs5.below hb56
              have hR6 := hR5.below (hb56.mono (Nat.le_of_lt hl5))
              have hK6 := hK5.below (hb56.mono hb05.size)
              have hb06 := hb05.trans (hb56.mono hb05.size)
              have hlt6 : w5.heap.size < w6.heap.size := hS6.lt
              have hl6 := hs6.lt
              clear hs5 hR5 hK5 hb05 hb56 hg6
              have HS0 := Lib.hid (show w6.drew.rangeAt w5.heap.size 0 (x.map B8) ∧ Below w6.heap.size w6 w6.drew from ⟨rangeAt_of_blk hS6.drew, below_drewN (Below.refl _ _) 1⟩)
              have R1 := fun (W : World) => refSum_any N W (by have := HML.out; omega)
              rw [← HX.out] at R1
              have HRef := Lib.hid R1
              have HSz := Lib.hid (fun (W : World) (h : W.rangeAt w5.heap.size 0 (x.map B8) ∧ Below w6.heap.size w6 W) => Size_any gs N W (by have := HML.out; omega) (hs6.below h.2))
              have hcv1 := fun (W : World) (h : W.rangeAt w5.heap.size 0 (x.map B8)) => conv_row HXL.out h 32
              have HH := Lib.hid (show HeldN w6 gs 52 N ∧ RowsK w6 w.heap.size gs gp cells qs (k + 1) ∧ BIn w6 w.heap.size (some ⟨ga, oa, none⟩) ck na bs ∧ Below w.heap.size w w6 ∧ gs < w6.heap.size from ⟨hs6, hR6, hK6, hb06, hl6⟩)
              clear hS6 R1 hs6 hR6 hK6 hb06 hcb hd3 hka2
              go_region_held3 (fun w' => w'.rangeAt w5.heap.size 0 (x.map B8) ∧ Below w6.heap.size w6 w') (first | assumption | exact HS0.out | exact held_step hlt6 (by assumption) (by assumption)) (first
                | (go_at_call 14; with_reducible refine (HRef.out _).mono ?_; rintro e w7 ⟨rfl, hb7⟩)
                | (go_at_call 10; refine (HSz.out _ (by assumption)).mono ?_; rintro e w7 ⟨rfl, rfl⟩))
              have hfin := (by assumption : World.rangeAt _ w5.heap.size 0 (x.map B8) ∧ Below w6.heap.size w6 _).2
              go_wp2
              go_roundw
              case rel =>
                obtain ⟨g1, g2, g3, g4, g5⟩ := HH.out
                exact ⟨k + 1, by omega, by go_num, by rw [HF.out], by rw [HF.out]; exact g1.below hfin, fun _ => ⟨trivial, g2.below (hfin.mono (Nat.le_of_lt g5))⟩, g3.below (hfin.mono g4.size), g4.trans (hfin.mono g4.size)⟩
              case measure => simp [intOf]; omega
            | false =>
              rw [hbv] at hcb
              go_wp2
              go_roundw
              case rel => exact ⟨k + 1, by omega, by go_num, by rw [HF.out], by rw [HF.out]; exact hs, fun _ => ⟨trivial, hR⟩, hK, hb⟩
              case measure => simp [intOf]; omega
          · have hd3 : decide ((k : Int) < (na : Int)) = false := by simp; omega
            go_wp2
            go_roundw
            case rel => exact ⟨k + 1, by omega, by go_num, by rw [HF.out], by rw [HF.out]; exact hs, fun _ => ⟨trivial, hR⟩, hK, hb⟩
            case measure => simp [intOf]; omega
    · have hd1 : decide ((k : Int) < (qs.length : Int)) = false := by simp; omega
      rw [List.take_of_length_le (by omega)] at hs ⊢
      clear hrows hK
      have HML := Lib.hid (show qs.flatten.length ≤ 2400 by omega)
      generalize qs.flatten = N at *
      have hsum := Sum_held gs N wr (by have := HML.out; omega) hs (ht.below hb)
      obtain ⟨x, hx⟩ : ∃ x, x = sha N := ⟨_, rfl⟩
      have hxl : x.length = 32 := by rw [hx]; exact sha_length _
      rw [← hx] at hsum
      have HX := Lib.hid hx
      have HXL := Lib.hid hxl
      clear hx hxl hq2
      go_wp2_with (first
        | (go_at_call 9; refine hsum.mono ?_; rintro e w5 ⟨rfl, hb5⟩; have hs5 := hs.below hb5; have hb05 := hb.trans (hb5.mono hb.size); have hl5 := hs5.lt; clear hsum hs hb hb5)
        | (refine wpList_store_blk rfl 29 (.tmp 11) (.tmp 101) rfl rfl w5.heap.size _ rfl rfl 29 _ (Blk.new_of w5 29 _ ((List.replicate 32 (0 : UInt8)).map B8) (by rfl)) (info32.trans (by rw [List.length_map, HXL.out])) (by rw [List.length_map, List.length_map, HXL.out]; rfl) (one8 _) ?_; intro w6 hS6 hg6; have hb56 : Below w5.heap.size w5 w6 := below_new ((Below.refl _ _).alloc (Nat.le_refl _) _) hg6 (Nat.le_refl _) (by simp)))
      have hs6 := hs5.below hb56
      have hb06 := hb05.trans (hb56.mono hb05.size)
      have hlt6 : w5.heap.size < w6.heap.size := hS6.lt
      have hl6 := hs6.lt
      clear hs5 hb05 hb56 hg6
      have HS0 := Lib.hid (show w6.drew.rangeAt w5.heap.size 0 (x.map B8) ∧ Below w6.heap.size w6 w6.drew from ⟨rangeAt_of_blk hS6.drew, below_drewN (Below.refl _ _) 1⟩)
      have R1 := fun (W : World) => refSum_any N W (by have := HML.out; omega)
      rw [← HX.out] at R1
      have HRef := Lib.hid R1
      have R2 := fun (W : World) (h : W.rangeAt w5.heap.size 0 (x.map B8) ∧ Below w6.heap.size w6 W) => Sum_held gs N W (by have := HML.out; omega) (hs6.below h.2) ((ht.below hb06).below h.2)
      rw [← HX.out] at R2
      have HSu := Lib.hid R2
      have HSz := Lib.hid (fun (W : World) (h : W.rangeAt w5.heap.size 0 (x.map B8) ∧ Below w6.heap.size w6 W) => Size_any gs N W (by have := HML.out; omega) (hs6.below h.2))
      have hcv1 := fun (W : World) (h : W.rangeAt w5.heap.size 0 (x.map B8)) => conv_row HXL.out h 32
      have hq32 := eq32 x HXL.out
      have hu := Tryd.underlying29
      have hi32 : (Tryd.prog.info? 29).map (·.size) = some (x.map B8).length := info32.trans (by rw [List.length_map, HXL.out])
      have HB6 := Lib.hid hb06
      clear hS6 R1 R2 hs6 hb06
      go_region_held3 (fun w' => w'.rangeAt w5.heap.size 0 (x.map B8) ∧ Below w6.heap.size w6 w') (first | assumption | exact HS0.out | exact held_step hlt6 (by assumption) (by assumption)) (first
        | (go_at_call 14; with_reducible refine (HRef.out _).mono ?_; rintro e w7 ⟨rfl, hb7⟩)
        | (go_at_call 9; refine (HSu.out _ (by assumption)).mono ?_; rintro e w7 ⟨rfl, hb7⟩)
        | (go_at_call 10; refine (HSz.out _ (by assumption)).mono ?_; rintro e w7 ⟨rfl, rfl⟩))
      all_goals
        have hfin := HB6.out.trans ((by assumption : World.rangeAt _ w5.heap.size 0 (x.map B8) ∧ Below w6.heap.size w6 _).2.mono HB6.out.size)
        go_wp2
        go_ret
        exact ⟨rfl, hfin⟩
end Go.Proofs.YtkiogpnjkmdmgaaDoor
