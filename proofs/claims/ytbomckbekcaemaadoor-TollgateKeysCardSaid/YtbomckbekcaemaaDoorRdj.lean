/-
  The contracts of package radius's Split and unset.
-/
import Derived.Test.YtbomckbekcaemaaDoorRdi
namespace Go.Proofs.YtbomckbekcaemaaDoor
open Go.RowKit

/-- What Split tells. -/
def splitA (b : List UInt8) : Attrs := if _h : 0 < b.length then (79, b.take 253) :: splitA (b.drop 253) else []
termination_by b.length
decreasing_by rw [List.length_drop]; omega
theorem splitA_more {b : List UInt8} (h : 0 < b.length) : splitA b = (79, b.take 253) :: splitA (b.drop 253) := by rw [splitA, dif_pos h]
theorem splitA_none {b : List UInt8} (h : ¬ 0 < b.length) : splitA b = [] := by rw [splitA, dif_neg h]
theorem take_min (b : List UInt8) (k : Nat) : b.take k = b.take (min b.length k) := by
  rcases Nat.le_total b.length k with h | h
  · rw [Nat.min_eq_left h, List.take_of_length_le h, List.take_of_length_le (Nat.le_refl _)]
  · rw [Nat.min_eq_right h]
theorem drop_min (b : List UInt8) (k : Nat) : b.drop k = b.drop (min b.length k) := by
  rcases Nat.le_total b.length k with h | h
  · rw [Nat.min_eq_left h, List.drop_of_length_le h, List.drop_of_length_le (Nat.le_refl _)]
  · rw [Nat.min_eq_right h]
theorem ix_min {n c q : Nat} (hq : q = min n 253) (h0 : 0 < n) (hc : n ≤ c) : min (n : Int) 253 = (q : Int) ∧ (q : Int) ≤ (c : Int) ∧ (q : Int) ≤ (n : Int) ∧ (n : Int) ≤ (c : Int) ∧ (0 : Int) ≤ (q : Int) ∧ q ≤ n ∧ q ≤ 253 ∧ n - q < n := by omega
set_option maxRecDepth 100000 in
set_option maxHeartbeats 1000000 in
theorem split_e (A : Option Addr) (c n : Nat) (b : List UInt8) (w : World) (hn : b.length = n) (hm : n ≤ 100000) (i0 : In w w.heap.size A c b) :
    Calls Tryd.prog 30 #[.slice A n c] w (SaidAPost (splitA b) w) := by
  subst hn
  go_enter Tryd.func30, Tryd.ntmps30
  go_wp2
  go_loopw [0, 3] (fun bv lv wr => ∃ (r : List UInt8) (A' : Option Addr) (c' : Nat) (la : Attrs), bv = .slice A' r.length c' ∧ In w w.heap.size A' c' r ∧ ARow wr w.heap.size lv la ∧ splitA b = la ++ splitA r ∧ Below w.heap.size w wr ∧ la.length + r.length ≤ b.length) (fun bv _ _ => match bv with | .slice _ l _ => l | _ => 0)
  case atStart => exact ⟨b, A, c, [], rfl, i0, ARow.nil _ _, rfl, Below.refl _ _, by simp⟩
  case round =>
    obtain ⟨r, A', c', la, rfl, hI, hAR, hsa, hbr, hln⟩ := hrel
    obtain ⟨n, hn⟩ : ∃ n, n = r.length := ⟨_, rfl⟩
    rw [← hn]
    by_cases h0 : n = 0
    · subst h0
      have HFIN := Lib.hid (And.intro (show ARow wr w.heap.size u3 (splitA b) by rw [hsa, splitA_none (by omega), List.append_nil]; exact hAR) hbr)
      clear hI hAR hsa hbr hln hn
      go_wp2
      go_ret
      exact ⟨_, rfl, HFIN.out.1, HFIN.out.2⟩
    · have hd : (0 : Int) < (n : Int) := by omega
      obtain ⟨gb, ob, hA, hgb, hby⟩ := hI.2.2 (by omega)
      subst hA
      obtain ⟨q, hq⟩ : ∃ q, q = min n 253 := ⟨_, rfl⟩
      obtain ⟨hmin, hs1, hs2, hs3, hs4, hqn, hq3, hmeas⟩ := ix_min hq (by omega) (by have := hI.1; omega : n ≤ c')
      obtain ⟨o3, HO3⟩ := ix_cut c' q ob
      have HI2 := Lib.hid (show In w w.heap.size (some ⟨gb, ob, none⟩) c' (r.take q) from hI.take q)
      have HI3 := Lib.hid (show In w w.heap.size (some ⟨gb, o3, none⟩) (c' - q) (r.drop q) from in_cut2 hI q (by omega) HO3.out)
      have HXL := Lib.hid (show (r.take q).length = q by rw [List.length_take]; omega)
      have HCLC := Lib.hid (fun (W : World) (h : Below w.heap.size w W) => clone_e (some ⟨gb, ob, none⟩) c' q (r.take q) W HXL.out (HI2.out.up h) (by omega))
      have HSA := Lib.hid (show splitA b = (la ++ [((79 : Int), r.take q)]) ++ splitA (r.drop q) by
        rw [hsa, splitA_more (by omega), take_min r 253, drop_min r 253, ← hn, ← hq, List.append_assoc]; rfl)
      have HLN := Lib.hid (show (la ++ [((79 : Int), r.take q)]).length + (r.drop q).length ≤ b.length ∧ la.length + 1 ≤ 1000000 ∧ (r.drop q).length = n - q ∧ n - q < n by
        rw [List.length_append, List.length_drop]; simp; omega)
      generalize r.take q = x at *
      have HAR := Lib.hid hAR
      have HBR := Lib.hid hbr
      clear hsa hln hI hAR hbr hn h0 hgb hby hq hqn hmeas
      go_upto_region 4 with (fail)
      clear hmin hd
      go_wp2_with (first
        | ((with_reducible refine (?_ : wpList _ _ _ (Oper.mk (some 14) _ _ _ _ _ :: _) _ _)); refine wpList_value rfl (.slice (some ⟨gb, ob, none⟩) q c') (by go_simp) ?_)
        | ((with_reducible refine (?_ : wpList _ _ _ (Oper.mk (some 21) _ _ _ _ _ :: _) _ _)); refine wpList_value rfl (.slice (some ⟨gb, o3, none⟩) (n - q) (c' - q)) (by rcases HO3.out with ⟨hcx, hox⟩ | ⟨hcx, hox⟩ <;> subst hox <;> first | (subst hcx; go_simp; done) | go_simp) ?_)
        | (go_at_call 57; refine (HCLC.out _ HBR.out).mono ?_; rintro e w5 ⟨A5, c5, rfl, hB5, hb5⟩; obtain ⟨cells, hown, hcells⟩ := (HAR.out.below hb5).below ((Below.refl w5.heap.size w5).alloc (Nat.le_refl _) (.cells #[.int .i64 79, .slice A5 q c5] 69)); have hb5w := (HBR.out.trans (hb5.mono HBR.out.size)).alloc (Nat.le_trans HBR.out.size hb5.size) (.cells #[.int .i64 79, .slice A5 q c5] 69))
        | (((with_reducible refine (?_ : wpList _ _ _ (Oper.mk (some 18) _ _ _ _ _ :: _) _ _)); go_loud (refine wpList_append_own (z := .agg #[.int .i64 0, .slice none 0 0]) (size := 2) (bytes := 32) Tryd.underlying28 infAttr rfl (by decide) (by decide) rfl (.tmp 11) (.tmp 17) rfl w.heap.size u3 la.length cells rfl hown hb5w.size ⟨w5.heap.size, 0, none⟩ 1 1 rfl [.int .i64 79, .slice A5 q c5] rfl (news_at (Blk.new_of w5 69 _ [.int .i64 79, .slice A5 q c5] rfl)) (by intro u hu; simp at hu; rcases hu with rfl | rfl <;> rfl) HLN.out.2.1 ?_); intro v6 w6 hw6 hg6 hv6)))
      have hal : Below w5.heap.size w5 (w5.alloc (.cells #[.int .i64 79, .slice A5 q c5] 69)) := (Below.refl _ _).alloc (Nat.le_refl _) _
      have HS6 := Lib.hid (ARow.snoc (kd := 79) (x := x) (Ax := A5) (cx := c5) ((HAR.out.below hb5).below hal) hw6 hg6 hv6 ((hB5.toIn (Nat.le_refl _)).up hal) (fun _ a e => ⟨fun e2 => by have h1 := (HAR.out.lt _ e2).2; have h2 := buf_base hB5 e; omega, Nat.le_trans HBR.out.size (buf_base hB5 e)⟩) cells (by rw [HXL.out]) ⟨hown, hcells⟩)
      have HB6 := Lib.hid (hb5w.trans (show Below w.heap.size _ w6 from ⟨hg6.os, hg6.tape, hg6.output, hg6.size, fun k hk => hg6.block k (Nat.lt_of_lt_of_le hk hb5w.size) (fun e => by have := (HAR.out.lt _ e.symm).1; omega)⟩))
      clear hal hw6 hg6 hv6 hown hcells hb5w hb5 hB5 HAR HBR HCLC HI2
      go_roundw
      case rel => exact ⟨r.drop q, (some ⟨gb, o3, none⟩), c' - q, la ++ [((79 : Int), x)], by rw [HLN.out.2.2.1], HI3.out, HS6.out, HSA.out, HB6.out, HLN.out.1⟩
      case measure => exact HLN.out.2.2.2
set_option maxRecDepth 100000 in
set_option maxHeartbeats 1000000 in
theorem unset_e (w : World) :
    Calls Tryd.prog 67 #[] w fun e w' => ∃ g, e = .returned (.agg #[.int .i64 80, .slice (some ⟨g, 0, none⟩) 16 16]) ∧ Buf w' w.heap.size (some ⟨g, 0, none⟩) 16 16 zQ ∧ Below w.heap.size w w' := by
  have hmk := fun (W : World) => (show (Instr.makeSlice 26 (.int .i64 16) (.int .i64 16)).run Tryd.prog W = .ok (.slice (some ⟨W.heap.size, 0, none⟩) 16 16) (W.alloc (.cells ((List.replicate 16 (0 : UInt8)).map B8).toArray 5)) from run_make_bytes .i64 .i64 16 16 (Nat.le_refl _) (by decide) W)
  have hbz := fun (W : World) => buf_zeros W 16 (by decide)
  obtain ⟨Z, hZ⟩ : ∃ Z, Z = List.replicate 16 (0 : UInt8) := ⟨_, rfl⟩
  rw [← hZ] at hmk hbz
  have HZ := Lib.hid (show Z = zQ by rw [hZ]; rfl)
  have HBZ := Lib.hid hbz
  clear hZ hbz
  go_enter Tryd.func67, Tryd.ntmps67
  go_upto_region 1 with (fail)
  have hP := Blk.new_of w 69 #[.int .i64 0, .slice none 0 0] _ rfl
  have hb0 : Below w.heap.size w (w.alloc (.cells #[.int .i64 0, .slice none 0 0] 69)) := (Below.refl _ _).alloc (Nat.le_refl _) _
  obtain ⟨g, hg⟩ : ∃ g, g = w.heap.size := ⟨_, rfl⟩
  have HG := Lib.hid (show w.heap.size ≤ g by rw [hg]; exact Nat.le_refl _)
  rw [← hg] at hP
  simp only [← hg]
  have HB := Lib.hid hb0
  clear hg hb0
  generalize w.alloc (.cells #[.int .i64 0, .slice none 0 0] 69) = w1 at *
  go_wp2_with ((with_reducible refine (?_ : wpList _ _ _ (Oper.mk none _ _ _ _ _ :: _) _ _)); go_loud (refine wpList_store_blk rfl 69 (.tmp 0) (.tmp 2) rfl rfl g [.int .i64 80, .slice (some ⟨w1.heap.size, 0, none⟩) 16 16] rfl rfl _ _ (hP.alloc _) infA rfl (by simp [Value.oneCell']) ?_); intro w5 hS5 hg5)
  have h1a : Below w1.heap.size w1 (w1.alloc (.cells (Z.map B8).toArray 5)) := (Below.refl _ _).alloc (Nat.le_refl _) _
  refine bodyPost_ret (v := .agg _) (results_cell_row rfl _ _ g 69 _ (0, 0) _ rfl hS5.raw Tryd.underlying69 rfl infA) rfl ⟨w1.heap.size, rfl, ?_, below_new (HB.out.trans (h1a.mono HB.out.size)) hg5 HG.out (Nat.le_trans HB.out.size h1a.size)⟩
  rw [← HZ.out]
  exact ((HBZ.out w1).kept hg5 (fun k e => by cases e; exact fun e2 => by have := hP.lt; cases e2; omega)).base HB.out.size
end Go.Proofs.YtbomckbekcaemaaDoor
