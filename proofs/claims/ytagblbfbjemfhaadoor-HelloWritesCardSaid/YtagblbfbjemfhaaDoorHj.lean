/-
  Clones of bytes; package hello's isKind, sized, isNumber, areCerts.
-/
import Derived.Test.YtagblbfbjemfhaaDoorHi
namespace Go.Proofs.YtagblbfbjemfhaaDoor
open Go.RowKit
open HelloMath (numB numB_length vecB vecB_length Msg isKind sized wide kinds)

set_option maxRecDepth 100000 in
set_option maxHeartbeats 1000000 in
theorem clone2_e (A : Option Addr) (c n : Nat) (b : List UInt8) (w : World) (hn : b.length = n) (iB : In w w.heap.size A c b) (hm : n < 1000000) :
    Calls Tryd.prog 64 #[.slice A n c] w fun e w' => ∃ A' c', e = .returned (.slice A' n c') ∧ Buf w' w.heap.size A' n c' b ∧ Below w.heap.size w w' := by
  go_enter Tryd.func64, Tryd.ntmps64
  cases A with
  | none =>
    have hb0 : b = [] := by
      rcases Nat.eq_zero_or_pos b.length with h | h
      · exact List.eq_nil_of_length_eq_zero h
      · obtain ⟨_, _, e, _⟩ := iB.2.2 h
        cases e
    subst hb0
    obtain rfl : n = 0 := by simpa using hn.symm
    have hnil := fun W => eql_nil_slice W none 0 c
    go_wp2
    go_ret
    exact ⟨none, 0, rfl, Buf.nil _ _, Below.refl _ _⟩
  | some ad =>
    have hBe := buf_empty w
    have IB := Lib.hid iB
    have HN := Lib.hid hn
    clear iB hn
    have hnil := fun W => eql_nil_slice W (some ad) n c
    go_wp2_with ((with_reducible refine (?_ : wpList _ _ _ (Oper.mk (some 7) _ _ _ _ _ :: _) _ _)); go_loud (refine wpList_append_far rfl (.tmp 5) (.tmp 6) 27 rfl (w.heap.size) _ 0 _ [] b _ rfl hBe rfl (src_at ((in_up IB.out ((Below.refl _ _).alloc (Nat.le_refl _) _)).src (Nat.le_refl _)) HN.out) (by rw [HN.out]; omega) (by simp) n (by rw [HN.out]; omega) ?_); intro A5 c5 w5 hB5 hg5 _; have hbw5 := below_own ((Below.refl _ _).alloc (Nat.le_refl _) _) hBe hg5 (Nat.le_refl _) (by simp))
    go_ret
    exact ⟨A5, c5, rfl, hB5, hbw5⟩
theorem loop_less2 {j n : Nat} (h : j < n) : n - (intOf (.int .i64 ((j : Int) + 1))).toNat < n - (intOf (.int .i64 (j : Int))).toNat := by
  show n - ((j : Int) + 1).toNat < n - ((j : Int)).toNat
  omega
theorem clone2V (v : Value) (bs : List UInt8) (w : World) (h : SlV w v bs) (hm : bs.length < 1000000) :
    Calls Tryd.prog 64 #[v] w fun e w' => ∃ r, e = .returned r ∧ BufV w' w.heap.size r bs ∧ Below w.heap.size w w' := by
  obtain ⟨A, c, rfl, hi⟩ := h
  refine (clone2_e A c bs.length bs w rfl hi hm).mono ?_
  rintro e w' ⟨A', c', rfl, hb, hbl⟩
  exact ⟨_, rfl, ⟨A', c', rfl, hb⟩, hbl⟩
set_option maxRecDepth 100000 in
theorem isKind_e (k : Int) (w : World) : Calls Tryd.prog 32 #[.int .i64 k] w fun e w' => e = .returned (.bool (isKind k)) ∧ Below w.heap.size w w' := by
  cases hk : isKind k with
  | true =>
    rcases kinds hk with rfl | rfl | rfl | rfl | rfl | rfl | rfl | rfl
    · go_enter Tryd.func32, Tryd.ntmps32
      go_wp2
      go_ret
      exact ⟨rfl, Below.refl _ _⟩
    · go_enter Tryd.func32, Tryd.ntmps32
      go_wp2
      go_ret
      exact ⟨rfl, Below.refl _ _⟩
    · go_enter Tryd.func32, Tryd.ntmps32
      go_wp2
      go_ret
      exact ⟨rfl, Below.refl _ _⟩
    · go_enter Tryd.func32, Tryd.ntmps32
      go_wp2
      go_ret
      exact ⟨rfl, Below.refl _ _⟩
    · go_enter Tryd.func32, Tryd.ntmps32
      go_wp2
      go_ret
      exact ⟨rfl, Below.refl _ _⟩
    · go_enter Tryd.func32, Tryd.ntmps32
      go_wp2
      go_ret
      exact ⟨rfl, Below.refl _ _⟩
    · go_enter Tryd.func32, Tryd.ntmps32
      go_wp2
      go_ret
      exact ⟨rfl, Below.refl _ _⟩
    · go_enter Tryd.func32, Tryd.ntmps32
      go_wp2
      go_ret
      exact ⟨rfl, Below.refl _ _⟩
  | false =>
    simp only [isKind, Bool.or_eq_false_iff] at hk
    obtain ⟨⟨⟨⟨⟨⟨⟨h1, h2⟩, h3⟩, h4⟩, h5⟩, h6⟩, h7⟩, h8⟩ := hk
    go_enter Tryd.func32, Tryd.ntmps32
    go_wp2
    go_ret
    exact ⟨rfl, Below.refl _ _⟩
set_option maxRecDepth 100000 in
theorem sized_e (v : Value) (bs : List UInt8) (a b : Nat) (w : World) (h : SlV w v bs) :
    Calls Tryd.prog 53 #[v, .int .i64 (a : Int), .int .i64 (b : Int)] w fun e w' => e = .returned (.bool (sized bs a b)) ∧ Below w.heap.size w w' := by
  obtain ⟨A, c, rfl, hi⟩ := h
  unfold sized
  obtain ⟨n, hn⟩ : ∃ n, bs.length = n := ⟨_, rfl⟩
  rw [hn]
  clear hi hn
  cases h1 : decide (a ≤ n) with
  | true =>
    cases h2 : decide (n ≤ b) with
    | true =>
      go_enter Tryd.func53, Tryd.ntmps53
      go_wp2
      go_ret
      exact ⟨rfl, Below.refl _ _⟩
    | false =>
      go_enter Tryd.func53, Tryd.ntmps53
      go_wp2
      go_ret
      exact ⟨rfl, Below.refl _ _⟩
  | false =>
    go_enter Tryd.func53, Tryd.ntmps53
    go_wp2
    go_ret
    exact ⟨rfl, Below.refl _ _⟩
set_option maxRecDepth 100000 in
theorem isNumber_e (x : Int) (w : World) :
    Calls Tryd.prog 54 #[.int .i64 x] w fun e w' => e = .returned (.bool (wide x)) ∧ Below w.heap.size w w' := by
  unfold wide
  cases h1 : decide (0 ≤ x) with
  | true =>
    cases h2 : decide (x ≤ 4294967295) with
    | true =>
      go_enter Tryd.func54, Tryd.ntmps54
      go_wp2
      go_ret
      exact ⟨rfl, Below.refl _ _⟩
    | false =>
      go_enter Tryd.func54, Tryd.ntmps54
      go_wp2
      go_ret
      exact ⟨rfl, Below.refl _ _⟩
  | false =>
    go_enter Tryd.func54, Tryd.ntmps54
    go_wp2
    go_ret
    exact ⟨rfl, Below.refl _ _⟩
set_option maxRecDepth 100000 in
set_option maxHeartbeats 1000000 in
theorem areCerts_e (v : Value) (ps : List (List UInt8)) (w : World) (h : RowV w v ps) :
    Calls Tryd.prog 55 #[v] w fun e w' => e = .returned (.bool (decide (ps.length ≤ 5) && ps.all (fun c => sized c 1 2048))) ∧ Below w.heap.size w w' := by
  obtain ⟨A, c, rfl, hP⟩ := h
  have HP := Lib.hid hP
  obtain ⟨n, hn⟩ : ∃ n, ps.length = n := ⟨_, rfl⟩
  have HN := Lib.hid hn
  rw [hn]
  clear hn hP
  by_cases h5 : n ≤ 5
  · have h5' : ¬ (n : Int) > 5 := by omega
    have H5 := Lib.hid h5
    obtain ⟨z, hz⟩ : ∃ z, Hid ((decide (n ≤ 5) && ps.all (fun c => sized c 1 2048)) = z) := ⟨_, Lib.hid rfl⟩
    rw [hz.out]
    clear h5
    go_enter Tryd.func55, Tryd.ntmps55
    go_wp2
    go_loopw [10] (fun i wl => Below w.heap.size w wl ∧ ∃ j : Nat, i = .int .i64 (j : Int) ∧ j ≤ n ∧ Hid ((ps.take j).all (fun c => sized c 1 2048) = true)) (fun i _ => n - (intOf i).toNat)
    case atStart => exact ⟨Below.refl _ _, 0, rfl, Nat.zero_le _, Lib.hid rfl⟩
    case round =>
      obtain ⟨hb0, j, rfl, hj, hall⟩ := hrel
      by_cases hlt : j < n
      · have hjp : j < ps.length := by rw [HN.out]; exact hlt
        obtain ⟨gp, op, rfl, hgp, hrow⟩ := HP.out.2.2 (by omega)
        obtain ⟨Aj, cj, hc, hi⟩ := hrow j hjp
        have hc := (hb0.cell (p := ⟨gp, op + j, none⟩) hgp).trans hc
        obtain ⟨q, hq⟩ : ∃ q, (ps.getD j []).length = q := ⟨_, rfl⟩
        rw [hq] at hc
        have HI := Lib.hid (show SlV wr (.slice Aj q cj) (ps.getD j []) from ⟨Aj, cj, by rw [hq], in_weak (hi.below hb0) hb0.size⟩)
        obtain ⟨_, hw2, hlt', _, hj0, hjn⟩ := cat_ix j 0 0 n hlt (by have := H5.out; omega) (by decide)
        have HLT := Lib.hid hlt
        have HB := Lib.hid hb0
        have htake := Lib.hid (List.take_succ_eq_append_getElem hjp)
        have hget := Lib.hid (show ps.getD j [] = ps[j] by rw [List.getD_eq_getElem?_getD, List.getElem?_eq_getElem hjp]; rfl)
        cases hs : sized (ps.getD j []) 1 2048 with
        | true =>
          have HS := Lib.hid hs
          have hall2 := Lib.hid (show (ps.take (j + 1)).all (fun c => sized c 1 2048) = true by have h := hs; rw [hget.out] at h; rw [htake.out, List.all_append, hall.out]; simp [h])
          replace hjp := Lib.hid hjp
          clear htake hget
          clear hrow hi hgp hjp hq hlt hj hb0 hs
          go_wp2_with (go_at_call 53; refine (sized_e _ (ps.getD j []) 1 2048 _ HI.out).mono ?_; rintro e w2 ⟨rfl, hb2⟩; rw [HS.out])
          have HB2 := Lib.hid (HB.out.trans (hb2.mono HB.out.size))
          clear hb2 hc
          go_roundw
          case rel => exact ⟨HB2.out, j + 1, rfl, HLT.out, hall2⟩
          case measure => exact loop_less2 HLT.out
        | false =>
          have HS := Lib.hid hs
          have hz2 : z = false := by
            rw [← hz.out]
            have : ps.all (fun c => sized c 1 2048) = false := by
              rw [List.all_eq_false]
              exact ⟨ps[j], List.getElem_mem hjp, by rw [← hget.out, hs]; simp⟩
            rw [this, Bool.and_false]
          subst hz2
          replace hjp := Lib.hid hjp
          clear htake hget
          clear hrow hi hgp hjp hq hlt hj hb0 hs
          go_wp2_with (go_at_call 53; refine (sized_e _ (ps.getD j []) 1 2048 _ HI.out).mono ?_; rintro e w2 ⟨rfl, hb2⟩; rw [HS.out])
          go_ret
          exact ⟨rfl, HB.out.trans (hb2.mono HB.out.size)⟩
      · obtain rfl : j = n := by omega
        have hlt' : ¬ (j : Int) < (j : Int) := by omega
        have hz2 : z = true := by
          rw [← hz.out]
          have h := hall.out
          rw [← HN.out, List.take_length] at h
          rw [h, Bool.and_true]
          exact decide_eq_true H5.out
        subst hz2
        have HB := Lib.hid hb0
        clear hlt hj hb0
        go_wp2
        go_ret
        exact ⟨rfl, HB.out⟩
  · have h5' : (n : Int) > 5 := by omega
    have e : (decide (n ≤ 5) && ps.all (fun c => sized c 1 2048)) = false := by rw [decide_eq_false h5, Bool.false_and]
    rw [e]
    clear h5
    go_enter Tryd.func55, Tryd.ntmps55
    go_wp2
    go_ret
    exact ⟨rfl, Below.refl _ _⟩
end Go.Proofs.YtagblbfbjemfhaaDoor
