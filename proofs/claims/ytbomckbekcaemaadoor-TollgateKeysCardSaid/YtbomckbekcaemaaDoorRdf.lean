/-
  The contract of package radius's saidAttrs.
-/
import Derived.Test.YtbomckbekcaemaaDoorRde
namespace Go.Proofs.YtbomckbekcaemaaDoor
open Go.RowKit

/-- The attributes up to the first that is none. -/
def saidA (b : List UInt8) : Attrs :=
  if h : 2 ≤ b.length ∧ 2 ≤ (b.getD 1 0).toNat ∧ (b.getD 1 0).toNat ≤ b.length then
    (((b.getD 0 0).toNat : Int), (b.drop 2).take ((b.getD 1 0).toNat - 2)) :: saidA (b.drop (b.getD 1 0).toNat)
  else []
termination_by b.length
decreasing_by rw [List.length_drop]; omega
theorem saidA_more {b : List UInt8} (h : 2 ≤ b.length ∧ 2 ≤ (b.getD 1 0).toNat ∧ (b.getD 1 0).toNat ≤ b.length) : saidA b = (((b.getD 0 0).toNat : Int), (b.drop 2).take ((b.getD 1 0).toNat - 2)) :: saidA (b.drop (b.getD 1 0).toNat) := by
  rw [saidA, dif_pos h]
theorem saidA_none {b : List UInt8} (h : ¬ (2 ≤ b.length ∧ 2 ≤ (b.getD 1 0).toNat ∧ (b.getD 1 0).toNat ≤ b.length)) : saidA b = [] := by
  rw [saidA, dif_neg h]
theorem ix_cut (cp k1 op : Nat) : ∃ o, Hid ((cp = k1 ∧ o = op) ∨ (¬ cp = k1 ∧ o = op + k1)) := by
  by_cases h : cp = k1
  · exact ⟨op, Lib.hid (.inl ⟨h, rfl⟩)⟩
  · exact ⟨op + k1, Lib.hid (.inr ⟨h, rfl⟩)⟩
theorem in_cut2 {w : World} {B gk ok o1 ck : Nat} {p : List UInt8} (h : In w B (some ⟨gk, ok, none⟩) ck p) (k : Nat) (h0 : k ≤ p.length) (ho : (ck = k ∧ o1 = ok) ∨ (¬ ck = k ∧ o1 = ok + k)) : In w B (some ⟨gk, o1, none⟩) (ck - k) (p.drop k) := by
  have := in_drop h k h0
  rcases ho with ⟨h1, h2⟩ | ⟨h1, h2⟩
  · rw [if_pos h1] at this; rw [h2]; exact this
  · rw [if_neg h1] at this; rw [h2]; exact this
/-- An operation that yields its value, told by hand. -/
theorem wpList_value {ops : Array Oper} {rest : List Oper} {o : Oper} {a : Act} {w : World} {Q : Exit → Act → World → Prop} (hgd : o.guard = none) (v : Value) (hy : (execOp a.eval o).run Tryd.prog w = .ok (.value v) w) (h : wpList Tryd.prog ops Q rest (a.put o.dst v) w) : wpList Tryd.prog ops Q (o :: rest) a w :=
  wpList_plain hgd fun _ hK' => by
    simp only [Oper.wp, hy, Oper.upon]
    exact hK' _ _ h
theorem ix_le2 {q c : Nat} (h : (q : Int) ≤ (c : Int)) (hc : c = 2) : ¬ (2 : Int) < (q : Int) := by omega
theorem ix_sl {n c q : Nat} (h1 : 2 ≤ q) (h2 : q ≤ n) (h3 : n ≤ c) : (2 : Int) ≤ (q : Int) ∧ (q : Int) ≤ (c : Int) ∧ (q : Int) ≤ (n : Int) ∧ (n : Int) ≤ (c : Int) ∧ (0 : Int) ≤ (q : Int) := by omega
theorem news_at {w : World} {g : Nat} {t : TypeId} {cs : List Value} (h : Blk w g t cs) : ∀ j u, cs[j]? = some u → w.cell? (Addr.add ⟨g, 0, none⟩ j) = some u := fun j u hj => by
  rw [add_row]; exact rangeAt_of_blk h j u hj
theorem ARow.lt {w : World} {base : Nat} {v : Value} {la : Attrs} (h : ARow w base v la) : ∀ k, v.ownBlock = some k → base ≤ k ∧ k < w.heap.size := by
  obtain ⟨cells, ho, _⟩ := h; exact ho.lt
theorem buf_base {w : World} {base n c : Nat} {A : Option Addr} {bs : List UInt8} {a : Addr} (h : Buf w base A n c bs) (e : A = some a) : base ≤ a.block := by
  rcases h.2 with ⟨rfl, _⟩ | ⟨q, rfl, h1, _⟩
  · cases e
  · cases e; exact h1
theorem ARow.grown {w w' : World} {base g : Nat} {v : Value} {la : Attrs} (h : ARow w base v la) (hg : w.grownBy w' (some g)) (hlt : g < base) : ARow w' base v la := by
  have hl := h.lt
  obtain ⟨cells, ho, hc⟩ := h
  exact ⟨cells, ho.kept hg (by
    cases e : v.ownBlock with
    | none => exact .inl rfl
    | some k => exact .inr (fun e2 => by have := (hl k e).1; cases e2; omega)), fun j hj => by
    obtain ⟨Aj, cj, h1, h2, h3, h4⟩ := hc j hj
    exact ⟨Aj, cj, h1, h2, in_weak (h3.grown (Nat.le_refl _) hg (fun h0 x e e2 => by have := (h4 h0 x e).2; injection e2 with e2; omega)) hg.size, h4⟩⟩
def SaidAPost (la : Attrs) (w : World) (e : Ending) (w' : World) : Prop := ∃ v, e = .returned v ∧ ARow w' w.heap.size v la ∧ Below w.heap.size w w'
set_option maxRecDepth 100000 in
set_option maxHeartbeats 1000000 in
theorem saidAttrs_e (A : Option Addr) (c n : Nat) (b : List UInt8) (w : World) (hn : b.length = n) (hm : n ≤ 100000) (i0 : In w w.heap.size A c b) :
    Calls Tryd.prog 63 #[.slice A n c] w (SaidAPost (saidA b) w) := by
  subst hn
  go_enter Tryd.func63, Tryd.ntmps63
  go_wp2
  go_loopw [0, 3] (fun bv lv wr => ∃ (r : List UInt8) (A' : Option Addr) (c' : Nat) (la : Attrs), bv = .slice A' r.length c' ∧ In w w.heap.size A' c' r ∧ ARow wr w.heap.size lv la ∧ saidA b = la ++ saidA r ∧ Below w.heap.size w wr ∧ la.length + r.length ≤ b.length) (fun bv _ _ => match bv with | .slice _ l _ => l | _ => 0)
  case atStart => exact ⟨b, A, c, [], rfl, i0, ARow.nil _ _, rfl, Below.refl _ _, by simp⟩
  case round =>
    obtain ⟨r, A', c', la, rfl, hI, hAR, hsa, hbr, hln⟩ := hrel
    obtain ⟨n, hn⟩ : ∃ n, n = r.length := ⟨_, rfl⟩
    rw [← hn]
    by_cases h2 : n < 2
    · have hd : ¬ (2 : Int) ≤ (n : Int) := by omega
      have HFIN := Lib.hid (And.intro (show ARow wr w.heap.size u3 (saidA b) by rw [hsa, saidA_none (by omega), List.append_nil]; exact hAR) hbr)
      clear hI hAR hsa hbr hln hn h2
      go_wp2
      go_ret
      exact ⟨_, rfl, HFIN.out.1, HFIN.out.2⟩
    · have hd : (2 : Int) ≤ (n : Int) := by omega
      obtain ⟨gb, ob, hA, hgb, hby⟩ := hI.2.2 (by omega)
      obtain ⟨y0, hy0⟩ : ∃ y, y = r.getD 0 0 := ⟨_, rfl⟩
      obtain ⟨y1, hy1⟩ : ∃ y, y = r.getD 1 0 := ⟨_, rfl⟩
      have HY0 := Lib.hid (fun (W : World) (h : Below wr.heap.size wr W) => (show W.cell? ⟨gb, ob, none⟩ = some (.int .u8 (y0.toNat : Int)) by rw [hy0]; exact ((hbr.trans (h.mono hbr.size)).cell (p := ⟨gb, ob, none⟩) hgb).trans (hby 0 (by omega))))
      have HY1 := Lib.hid (fun (W : World) (h : Below wr.heap.size wr W) => (show W.cell? ⟨gb, ob + 1, none⟩ = some (.int .u8 (y1.toNat : Int)) by rw [hy1]; exact ((hbr.trans (h.mono hbr.size)).cell (p := ⟨gb, ob + 1, none⟩) hgb).trans (hby 1 (by omega))))
      have HY := Lib.hid (And.intro hy0 hy1)
      subst hA
      have hn0 : 0 < n := by omega
      have hn1 : (1 : Int) < (n : Int) := by omega
      obtain ⟨ya, yb⟩ := ix_byte y0
      obtain ⟨yc, yd⟩ := ix_byte y1
      have HZ := Lib.hid (And.intro hI (And.intro hAR (And.intro hsa (And.intro hbr (And.intro hln (And.intro hn (show ¬ n < 2 from h2)))))))
      clear hy0 hy1 hby hgb hI hAR hsa hbr hln hn h2
      go_upto_region 3 with (fail)
      refine wp_region_noPanic ?_
      refine wp_region_held_drew (S := fun W => Below wr.heap.size wr W) (by kernel_rfl) (by exact below_drewN (Below.refl _ _) 1) (fun hHeld => ?_)
      refine wpAnyH_take (i := 0) (oi := ⟨_, _, _, _, _, _⟩) (v := ?_) rfl (by kernel_rfl) (by kernel_rfl) (by kernel_rfl) (fun _ _ _ h => h) (Or.inl ⟨by rfl, ?_⟩) hHeld ?_
      rotate_left 1
      · (intro W hSw; (try dsimp only at hSw); go_simp; try with_reducible rfl)
      try simp only [Act.put, List.setIfInBounds_toArray, List.set_cons_zero, List.set_cons_succ]
      refine wpAnyH_take (i := 1) (oi := ⟨_, _, _, _, _, _⟩) (v := ?_) rfl (by kernel_rfl) (by kernel_rfl) (by kernel_rfl) (fun _ _ _ h => h) (Or.inl ⟨by rfl, ?_⟩) hHeld ?_
      rotate_left 1
      · (intro W hSw; (try dsimp only at hSw); go_simp; try with_reducible rfl)
      try simp only [Act.put, List.setIfInBounds_toArray, List.set_cons_zero, List.set_cons_succ]
      refine wpAnyH_take (i := 2) (oi := ⟨_, _, _, _, _, _⟩) (v := ?_) rfl (by kernel_rfl) (by kernel_rfl) (by kernel_rfl) (fun _ _ _ h => h) (Or.inl ⟨by rfl, ?_⟩) hHeld ?_
      rotate_left 1
      · (intro W hSw; (try dsimp only at hSw); have hcc := HY0.out W hSw; go_simp; try with_reducible rfl)
      try simp only [Act.put, List.setIfInBounds_toArray, List.set_cons_zero, List.set_cons_succ]
      refine wpAnyH_take (i := 3) (oi := ⟨_, _, _, _, _, _⟩) (v := ?_) rfl (by kernel_rfl) (by kernel_rfl) (by kernel_rfl) (fun _ _ _ h => h) (Or.inl ⟨by rfl, ?_⟩) hHeld ?_
      rotate_left 1
      · (intro W hSw; (try dsimp only at hSw); go_simp; try with_reducible rfl)
      try simp only [Act.put, List.setIfInBounds_toArray, List.set_cons_zero, List.set_cons_succ]
      refine wpAnyH_take (i := 4) (oi := ⟨_, _, _, _, _, _⟩) (v := ?_) rfl (by kernel_rfl) (by kernel_rfl) (by kernel_rfl) (fun _ _ _ h => h) (Or.inl ⟨by rfl, ?_⟩) hHeld ?_
      rotate_left 1
      · (intro W hSw; (try dsimp only at hSw); go_simp; try with_reducible rfl)
      try simp only [Act.put, List.setIfInBounds_toArray, List.set_cons_zero, List.set_cons_succ]
      refine wpAnyH_take (i := 5) (oi := ⟨_, _, _, _, _, _⟩) (v := ?_) rfl (by kernel_rfl) (by kernel_rfl) (by kernel_rfl) (fun _ _ _ h => h) (Or.inl ⟨by rfl, ?_⟩) hHeld ?_
      rotate_left 1
      · (intro W hSw; (try dsimp only at hSw); go_simp; try with_reducible rfl)
      try simp only [Act.put, List.setIfInBounds_toArray, List.set_cons_zero, List.set_cons_succ]
      refine wpAnyH_take (i := 6) (oi := ⟨_, _, _, _, _, _⟩) (v := ?_) rfl (by kernel_rfl) (by kernel_rfl) (by kernel_rfl) (fun _ _ _ h => h) (Or.inl ⟨by rfl, ?_⟩) hHeld ?_
      rotate_left 1
      · (intro W hSw; (try dsimp only at hSw); have hcc := HY1.out W hSw; go_simp; try with_reducible rfl)
      try simp only [Act.put, List.setIfInBounds_toArray, List.set_cons_zero, List.set_cons_succ]
      refine wpAnyH_take (i := 7) (oi := ⟨_, _, _, _, _, _⟩) (v := ?_) rfl (by kernel_rfl) (by kernel_rfl) (by kernel_rfl) (fun _ _ _ h => h) (Or.inl ⟨by rfl, ?_⟩) hHeld ?_
      rotate_left 1
      · (intro W hSw; (try dsimp only at hSw); go_simp; try with_reducible rfl)
      try simp only [Act.put, List.setIfInBounds_toArray, List.set_cons_zero, List.set_cons_succ]
      refine wpAnyH_take (i := 8) (oi := ⟨_, _, _, _, _, _⟩) (v := ?_) rfl (by kernel_rfl) (by kernel_rfl) (by kernel_rfl) (fun _ _ _ h => h) (Or.inl ⟨by rfl, ?_⟩) hHeld ?_
      rotate_left 1
      · (intro W hSw; (try dsimp only at hSw); go_simp; try with_reducible rfl)
      try simp only [Act.put, List.setIfInBounds_toArray, List.set_cons_zero, List.set_cons_succ]
      refine wpAnyH_take (i := 9) (oi := ⟨_, _, _, _, _, _⟩) (v := ?_) rfl (by kernel_rfl) (by kernel_rfl) (by kernel_rfl) (fun _ _ _ h => h) (Or.inl ⟨by rfl, ?_⟩) hHeld ?_
      rotate_left 1
      · (intro W hSw; (try dsimp only at hSw); go_simp; try with_reducible rfl)
      try simp only [Act.put, List.setIfInBounds_toArray, List.set_cons_zero, List.set_cons_succ]
      refine wpAnyH_done (by kernel_rfl) ?_ _
      refine NoPanic.normal ?_
      replace hHeld : Below wr.heap.size wr wr.drew := hHeld
      obtain ⟨hI, hAR0, hsa, hbr0, hln, hn, h2⟩ := HZ.out
      have hAR := hAR0.below hHeld
      have hbr := hbr0.trans (hHeld.mono hbr0.size)
      clear HZ hAR0 hbr0 hHeld hd
      generalize wr.drew = w4 at *
      by_cases hq2 : y1.toNat < 2
      · have hd : (y1.toNat : Int) < 2 := by omega
        have HFIN := Lib.hid (And.intro (show ARow w4 w.heap.size u3 (saidA b) by rw [hsa, saidA_none (by rw [← HY.out.2]; omega), List.append_nil]; exact hAR) hbr)
        clear hI hAR hsa hbr hln hn h2 hq2 HY
        clear HY0 HY1
        go_wp2
        go_ret
        exact ⟨_, rfl, HFIN.out.1, HFIN.out.2⟩
      by_cases hqn : n < y1.toNat
      · have hd : ¬ (y1.toNat : Int) < 2 := by omega
        have hd2 : (n : Int) < (y1.toNat : Int) := by omega
        have HFIN := Lib.hid (And.intro (show ARow w4 w.heap.size u3 (saidA b) by rw [hsa, saidA_none (by rw [← HY.out.2]; omega), List.append_nil]; exact hAR) hbr)
        clear hI hAR hsa hbr hln hn h2 hq2 hqn HY
        clear HY0 HY1
        go_wp2
        go_ret
        exact ⟨_, rfl, HFIN.out.1, HFIN.out.2⟩
      have hd : ¬ (y1.toNat : Int) < 2 := by omega
      have hd2 : ¬ (n : Int) < (y1.toNat : Int) := by omega
      clear HY0 HY1
      obtain ⟨o2, HO2⟩ := ix_cut c' 2 ob
      obtain ⟨o3, HO3⟩ := ix_cut c' y1.toNat ob
      have HI2 := Lib.hid (show In w w.heap.size (some ⟨gb, o2, none⟩) (c' - 2) ((r.drop 2).take (y1.toNat - 2)) from (in_cut2 hI 2 (by omega) HO2.out).take (y1.toNat - 2))
      have HI3 := Lib.hid (show In w w.heap.size (some ⟨gb, o3, none⟩) (c' - y1.toNat) (r.drop y1.toNat) from in_cut2 hI y1.toNat (by omega) HO3.out)
      have HXL := Lib.hid (show ((r.drop 2).take (y1.toNat - 2)).length = y1.toNat - 2 by rw [List.length_take, List.length_drop]; omega)
      have HCLC := Lib.hid (fun (W : World) (h : Below w.heap.size w W) => clone_e (some ⟨gb, o2, none⟩) (c' - 2) (y1.toNat - 2) ((r.drop 2).take (y1.toNat - 2)) W HXL.out (HI2.out.up h) (by have := y1.toNat_lt; omega))
      have HSA := Lib.hid (show saidA b = (la ++ [((y0.toNat : Int), (r.drop 2).take (y1.toNat - 2))]) ++ saidA (r.drop y1.toNat) by
        rw [hsa, saidA_more (by rw [← HY.out.2]; omega), ← HY.out.1, ← HY.out.2, List.append_assoc]; rfl)
      have HLN := Lib.hid (show (la ++ [((y0.toNat : Int), (r.drop 2).take (y1.toNat - 2))]).length + (r.drop y1.toNat).length ≤ b.length ∧ la.length + 1 ≤ 1000000 ∧ (r.drop y1.toNat).length = n - y1.toNat ∧ n - y1.toNat < n by
        rw [List.length_append, List.length_drop]; simp; omega)
      generalize (r.drop 2).take (y1.toNat - 2) = x at *
      have HAR := Lib.hid hAR
      have HBR := Lib.hid hbr
      obtain ⟨hs1, hs2, hs3, hs4, hs5⟩ := ix_sl (n := n) (c := c') (q := y1.toNat) (by omega) (by omega) (by have := hI.1; omega)
      clear hsa hln hI hAR hbr hn HY hq2 hqn h2
      go_wp2_with (first
        | ((with_reducible refine (?_ : wpList _ _ _ (Oper.mk (some 30) _ _ _ _ _ :: _) _ _)); refine wpList_value rfl (.slice (some ⟨gb, o2, none⟩) (y1.toNat - 2) (c' - 2)) (by rcases HO2.out with ⟨hcx, hox⟩ | ⟨hcx, hox⟩ <;> subst hox <;> first | (have hle : ¬ (2 : Int) < (y1.toNat : Int) := ix_le2 hs2 hcx; subst hcx; go_simp; done) | go_simp) ?_)
        | ((with_reducible refine (?_ : wpList _ _ _ (Oper.mk (some 37) _ _ _ _ _ :: _) _ _)); refine wpList_value rfl (.slice (some ⟨gb, o3, none⟩) (n - y1.toNat) (c' - y1.toNat)) (by rcases HO3.out with ⟨hcx, hox⟩ | ⟨hcx, hox⟩ <;> subst hox <;> first | (subst hcx; go_simp; done) | go_simp) ?_)
        | (go_at_call 57; refine (HCLC.out _ HBR.out).mono ?_; rintro e w5 ⟨A5, c5, rfl, hB5, hb5⟩; obtain ⟨cells, hown, hcells⟩ := (HAR.out.below hb5).below ((Below.refl w5.heap.size w5).alloc (Nat.le_refl _) (.cells #[.int .i64 (y0.toNat : Int), .slice A5 (y1.toNat - 2) c5] 69)); have hb5w := (HBR.out.trans (hb5.mono HBR.out.size)).alloc (Nat.le_trans HBR.out.size hb5.size) (.cells #[.int .i64 (y0.toNat : Int), .slice A5 (y1.toNat - 2) c5] 69))
        | (((with_reducible refine (?_ : wpList _ _ _ (Oper.mk (some 34) _ _ _ _ _ :: _) _ _)); go_loud (refine wpList_append_own (z := .agg #[.int .i64 0, .slice none 0 0]) (size := 2) (bytes := 32) Tryd.underlying28 infAttr rfl (by decide) (by decide) rfl (.tmp 26) (.tmp 33) rfl w.heap.size u3 la.length cells rfl hown hb5w.size ⟨w5.heap.size, 0, none⟩ 1 1 rfl [.int .i64 (y0.toNat : Int), .slice A5 (y1.toNat - 2) c5] rfl (news_at (Blk.new_of w5 69 _ [.int .i64 (y0.toNat : Int), .slice A5 (y1.toNat - 2) c5] rfl)) (by intro u hu; simp at hu; rcases hu with rfl | rfl <;> rfl) HLN.out.2.1 ?_); intro v6 w6 hw6 hg6 hv6)))
      have hal : Below w5.heap.size w5 (w5.alloc (.cells #[.int .i64 (y0.toNat : Int), .slice A5 (y1.toNat - 2) c5] 69)) := (Below.refl _ _).alloc (Nat.le_refl _) _
      have HS6 := Lib.hid (ARow.snoc (kd := (y0.toNat : Int)) (x := x) (Ax := A5) (cx := c5) ((HAR.out.below hb5).below hal) hw6 hg6 hv6 ((hB5.toIn (Nat.le_refl _)).up hal) (fun _ a e => ⟨fun e2 => by have h1 := (HAR.out.lt _ e2).2; have h2 := buf_base hB5 e; omega, Nat.le_trans HBR.out.size (buf_base hB5 e)⟩) cells (by rw [HXL.out]) ⟨hown, hcells⟩)
      have HB6 := Lib.hid (hb5w.trans (show Below w.heap.size _ w6 from ⟨hg6.os, hg6.tape, hg6.output, hg6.size, fun k hk => hg6.block k (Nat.lt_of_lt_of_le hk hb5w.size) (fun e => by have := (HAR.out.lt _ e.symm).1; omega)⟩))
      clear hal hw6 hg6 hv6 hown hcells hb5w hb5 hB5 HAR HBR HCLC HI2
      go_roundw
      case rel => exact ⟨r.drop y1.toNat, (some ⟨gb, o3, none⟩), c' - y1.toNat, la ++ [((y0.toNat : Int), x)], by rw [HLN.out.2.2.1], HI3.out, HS6.out, HSA.out, HB6.out, HLN.out.1⟩
      case measure => exact HLN.out.2.2.2
end Go.Proofs.YtbomckbekcaemaaDoor
