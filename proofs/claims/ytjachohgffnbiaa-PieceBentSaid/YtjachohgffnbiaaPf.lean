/-
  The statements' own look at package piece: true.
-/
import Derived.Test.YtjachohgffnbiaaPe
import Derived.Lib.SlBytesConst
namespace Go.Proofs.Ytjachohgffnbiaa
open Go.RowKit

def abcL : List UInt8 := [97, 98, 99, 100, 101, 102, 103, 104, 105, 106, 107, 108, 109, 110, 111, 112, 113, 114, 115, 116]
def x0L : List UInt8 := [192, 0, 0, 0, 20, 97, 98, 99, 100, 101, 102, 103, 104, 105, 106, 107]
def x1L : List UInt8 := [0, 108, 109, 110, 111, 112, 113, 114, 115, 116]
theorem buf_const (W : World) (xs : List UInt8) (n : Nat) (t : TypeId) (hn : xs.length = n) (hm : n < 1000) : Buf (W.alloc (.cells (xs.map B8).toArray t (n, n + 1))) W.heap.size (some ⟨W.heap.size, 0, none⟩) n n xs :=
  Buf.made _ t n (n + 1) (Nat.le_refl _) hn (Nat.le_refl _) (by unfold maxLen; omega) (by simpa using hn) (.inl (Nat.le_refl _)) (fun j hj => by
    rw [List.getElem?_toArray]
    exact getD_map8 xs j (by omega))
theorem split_known : splitE abcL 16 = ([x0L, x1L], 0) := by
  unfold splitE
  rw [if_neg (by decide), if_neg (by decide), if_neg (by decide), restE_last (by decide)]
  decide +kernel
theorem take_known0 : takeE [] 0 x0L = ([], false, 0, abcL.take 11, 20) := by decide +kernel
theorem take_known1 : takeE (abcL.take 11) 20 x1L = (abcL, true, 0, [], 0) := by decide +kernel
/-- The rows one by one: where each lies. -/
theorem Rws.row {w : World} {base : Nat} {v : Value} {ps : List (List UInt8)} (h : Rws w base v ps) (h0 : 0 < ps.length) : ∃ gp op c, v = .slice (some ⟨gp, op, none⟩) ps.length c ∧ ps.length ≤ c ∧ c ≤ 9223372036854775807 ∧ gp < w.heap.size ∧
    ∀ j, j < ps.length → ∃ Aj cj, w.cell? ⟨gp, op + j, none⟩ = some (.slice Aj (ps.getD j []).length cj) ∧ In w w.heap.size Aj cj (ps.getD j []) := by
  obtain ⟨A, c, e, hp, _⟩ := h.slice
  obtain ⟨gp, op, e2, hl, hj⟩ := hp.2.2 h0
  subst e2
  exact ⟨gp, op, c, e, hp.1, hp.2.1, hl, hj⟩
set_option maxRecDepth 100000 in
set_option maxHeartbeats 1000000 in
theorem pieces_e (w : World) : Calls Try.prog 12 #[] w fun e w' => e = .returned (.bool true) ∧ Below w.heap.size w w' := by
  have hbw : Below w.heap.size w (w.alloc (.cells #[.int .u8 97, .int .u8 98, .int .u8 99, .int .u8 100, .int .u8 101, .int .u8 102, .int .u8 103, .int .u8 104, .int .u8 105, .int .u8 106, .int .u8 107, .int .u8 108, .int .u8 109, .int .u8 110, .int .u8 111, .int .u8 112, .int .u8 113, .int .u8 114, .int .u8 115, .int .u8 116] 5 (20, 21))) := (Below.refl _ _).alloc (Nat.le_refl _) _
  have hB : Buf (w.alloc (.cells #[.int .u8 97, .int .u8 98, .int .u8 99, .int .u8 100, .int .u8 101, .int .u8 102, .int .u8 103, .int .u8 104, .int .u8 105, .int .u8 106, .int .u8 107, .int .u8 108, .int .u8 109, .int .u8 110, .int .u8 111, .int .u8 112, .int .u8 113, .int .u8 114, .int .u8 115, .int .u8 116] 5 (20, 21))) w.heap.size (some ⟨w.heap.size, 0, none⟩) 20 20 abcL := buf_const w abcL 20 5 rfl (by decide)
  have hs := split_e (some ⟨w.heap.size, 0, none⟩) 20 20 abcL 16 _ rfl (hB.toIn (Nat.le_refl _)) (by decide)
  rw [split_known] at hs
  have HS := Lib.hid hs
  have HBW := Lib.hid hbw
  clear hbw hB hs
  go_enter Try.func12, Try.ntmps12
  have kc := fun (w : World) (C : Array Value) (n c : Nat) => Lib.run_convert_bytes_const (P := Try.prog) w 23 5 C n c Try.underlying23 Try.underlying5
  go_upto_region 2 with (go_at_call 10; refine HS.out.mono ?_; rintro e w2 ⟨v, rfl, hR, hb2⟩)
  clear kc
  have hbw := HBW.out.trans (hb2.mono HBW.out.size)
  have hz2q := Lib.hid hbw.size
  obtain ⟨gp, op, cp, rfl, hc1, hc2, hgp, hrow⟩ := hR.row (by decide)
  obtain ⟨A0, c0, hc0, hi0⟩ := hrow 0 (by decide)
  obtain ⟨A1, c1', hc1', hi1⟩ := hrow 1 (by decide)
  replace hc0 : w2.cell? ⟨gp, op, none⟩ = some (.slice A0 16 c0) := hc0
  replace hc1' : w2.cell? ⟨gp, op + 1, none⟩ = some (.slice A1 10 c1') := hc1'
  replace hi0 : In w2 w2.heap.size A0 c0 x0L := hi0
  replace hi1 : In w2 w2.heap.size A1 c1' x1L := hi1
  have hcx : (convert 23 9 (.slice A1 10 c1')).run Try.prog w2 = .ok (.string ⟨#[0, 108, 109, 110, 111, 112, 113, 114, 115, 116]⟩) w2 := conv_in (y := x1L) rfl hi1
  have hlen : ([x0L, x1L] : List (List UInt8)).length = 2 := rfl
  have hcp : (2 : Int) ≤ (cp : Int) := by have := hc1; rw [hlen] at this; omega
  rw [hlen]
  clear hR hrow hlen hc1 hc2 hb2
  go_upto_region 5 with (go_at_call 13; refine (new_e _).mono ?_; rintro e w3 ⟨rfl, hJ, hb3, _⟩)
  clear hcx
  have HI0 := Lib.hid (in_up hi0 hb3)
  have HI1 := Lib.hid (in_weak (hi1.below hb3) (Nat.le_refl _))
  replace hc0 : w3.cell? ⟨gp, op, none⟩ = some (.slice A0 16 c0) := (hb3.cell (p := ⟨gp, op, none⟩) hgp).trans hc0
  have HC1 := Lib.hid (show w3.cell? ⟨gp, op + 1, none⟩ = some (.slice A1 10 c1') from (hb3.cell (p := ⟨gp, op + 1, none⟩) hgp).trans hc1')
  have HT := Lib.hid (take_e w2.heap.size w2.heap.size none A0 0 c0 16 0 [] x0L w3 hJ rfl HI0.out (by decide) (by decide) hb3.size)
  rw [take_known0] at HT
  replace hbw := hbw.trans (hb3.mono hbw.size)
  have HBS := Lib.hid (And.intro hbw (And.intro hgp hb3.size))
  clear hc1' hi0 hi1 hJ hb3 hbw hgp
  go_upto_region 6 with (go_at_call 14; refine HT.out.mono ?_; rintro e w4 ⟨A2, n2, c2, A', c', rfl, hX, _, _, hJ4, _, hC4⟩)
  have hb4 : Below w2.heap.size w3 w4 := hC4.below HBS.out.2.2 (fun k hk => by rcases hk with rfl | hk; exact Nat.le_refl _; cases hk)
  have hc1' : w4.cell? ⟨gp, op + 1, none⟩ = some (.slice A1 10 c1') := (hb4.cell (p := ⟨gp, op + 1, none⟩) HBS.out.2.1).trans HC1.out
  have HT2 := Lib.hid (take_e w2.heap.size w2.heap.size A' A1 c' c1' 10 20 (abcL.take 11) x1L w4 hJ4 rfl (in_weak (HI1.out.below hb4) (Nat.le_trans HBS.out.2.2 hb4.size)) (by decide) (by decide) (Nat.le_trans HBS.out.2.2 hb4.size))
  rw [take_known1] at HT2
  have HB4 := Lib.hid hb4
  have HO := Lib.hid (fun (k : Nat) (hk : Ours w2.heap.size A' k) => (hJ4.ours hk).1)
  clear hX hJ4 hC4 hb4 hc0
  go_upto_region 7 with (go_at_call 14; refine HT2.out.mono ?_; rintro e w5 ⟨A5, n5, c5, A5', c5', rfl, hX, _, _, hJ5, _, hC5⟩)
  have hb5 : Below w2.heap.size w4 w5 := hC5.below (Nat.le_trans HBS.out.2.2 HB4.out.size) HO.out
  have hz2 : w.heap.size ≤ w2.heap.size := hz2q.out
  have HBF := Lib.hid (show Below w.heap.size w w5 from HBS.out.1.trans ((HB4.out.trans hb5).mono hz2))
  have hcx : (convert 23 9 (.slice A5 n5 c5)).run Try.prog w5 = .ok (.string ⟨#[97, 98, 99, 100, 101, 102, 103, 104, 105, 106, 107, 108, 109, 110, 111, 112, 113, 114, 115, 116]⟩) w5 := conv_in (y := abcL) hX.1 (hX.toIn (Nat.le_refl _))
  clear hX hJ5 hC5 hb5 hz2
  go_wp2_with (first
    | (go_at_call 20; refine (start_e _).mono ?_; rintro e w6 ⟨A6, rfl, hS6, hb6⟩; have hcs : (convert 23 9 (.slice A6 1 1)).run Try.prog w6 = .ok (.string ⟨#[32]⟩) w6 := conv_in (y := [32]) rfl (hS6.toIn (Nat.le_refl _)))
    | (go_at_call 21; refine (ack_e _).mono ?_; rintro e w7 ⟨A7, rfl, hS7, hb7⟩; have hcs7 : (convert 23 9 (.slice A7 1 1)).run Try.prog w7 = .ok (.string ⟨#[0]⟩) w7 := conv_in (y := [0]) rfl (hS7.toIn (Nat.le_refl _))))
  go_ret
  exact ⟨rfl, (HBF.out.trans (hb6.mono HBF.out.size)).trans (hb7.mono (Nat.le_trans HBF.out.size hb6.size))⟩
end Go.Proofs.Ytjachohgffnbiaa
