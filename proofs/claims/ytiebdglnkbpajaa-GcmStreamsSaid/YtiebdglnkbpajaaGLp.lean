/-
  A letter's key, plain bytes and those beside, walked.
-/
import Derived.Test.YtiebdglnkbpajaaGLet
import Derived.Test.YtiebdglnkbpajaaKeepB
namespace Go.Proofs.Ytiebdglnkbpajaa
open Go.RowKit

theorem size_alloc' (w : World) (o : Obj) : (w.alloc o).heap.size = w.heap.size + 1 := by simp
theorem letC_length (K N : List UInt8) (sh : Bool) (A1 A2 : Option Addr) (n1 c1 n2 c2 : Nat) (hK : K.length = 32) (hN : N.length = 12) : (letC K sh N A1 n1 c1 A2 n2 c2).length = 47 := by simp [letC, hK, hN]
theorem letC_key (K N : List UInt8) (sh : Bool) (A1 A2 : Option Addr) (n1 c1 n2 c2 : Nat) (hK : K.length = 32) (j : Nat) (hj : j < 32) : (letC K sh N A1 n1 c1 A2 n2 c2)[j]? = some (B8 (K.getD j 0)) := by
  unfold letC
  rw [List.getElem?_append_left (by simp [hK]; omega)]
  exact getD_map8 K j (by omega)
theorem letC_short (K N : List UInt8) (sh : Bool) (A1 A2 : Option Addr) (n1 c1 n2 c2 : Nat) (hK : K.length = 32) : (letC K sh N A1 n1 c1 A2 n2 c2)[32]? = some (.bool sh) := by
  unfold letC
  rw [List.getElem?_append_right (by simp [hK])]
  simp [hK]
theorem letC_nonce (K N : List UInt8) (sh : Bool) (A1 A2 : Option Addr) (n1 c1 n2 c2 : Nat) (hK : K.length = 32) (hN : N.length = 12) (j : Nat) (v : Value) (hv : (N.map B8)[j]? = some v) : (letC K sh N A1 n1 c1 A2 n2 c2)[33 + j]? = some v := by
  have hj : j < 12 := by have := (List.getElem?_eq_some_iff.1 hv).1; simpa [hN] using this
  unfold letC
  rw [List.getElem?_append_right (by simp [hK]; omega)]
  simp only [List.length_map, hK]
  rw [show 33 + j - 32 = j + 1 by omega, List.getElem?_cons_succ, List.getElem?_append_left (by simp [hN]; omega)]
  exact hv
theorem letC_plain (K N : List UInt8) (sh : Bool) (A1 A2 : Option Addr) (n1 c1 n2 c2 : Nat) (hK : K.length = 32) (hN : N.length = 12) : (letC K sh N A1 n1 c1 A2 n2 c2)[45]? = some (.slice A1 n1 c1) := by
  unfold letC
  rw [List.getElem?_append_right (by simp [hK])]
  simp only [List.length_map, hK]
  rw [show 45 - 32 = 12 + 1 by omega, List.getElem?_cons_succ, List.getElem?_append_right (by simp [hN])]
  simp [hN]
theorem letC_beside (K N : List UInt8) (sh : Bool) (A1 A2 : Option Addr) (n1 c1 n2 c2 : Nat) (hK : K.length = 32) (hN : N.length = 12) : (letC K sh N A1 n1 c1 A2 n2 c2)[46]? = some (.slice A2 n2 c2) := by
  unfold letC
  rw [List.getElem?_append_right (by simp [hK])]
  simp only [List.length_map, hK]
  rw [show 46 - 32 = 13 + 1 by omega, List.getElem?_cons_succ, List.getElem?_append_right (by simp [hN])]
  simp [hN]
theorem src_at {w : World} {A : Option Addr} {g n c : Nat} {s : List UInt8} (h : Src w g A s) (hs : s.length = n) : _root_.Go.Src Try.prog 1 29 (.slice A n c) s.length (s.map B8) w := by
  subst hs
  exact src_in' (c := c) h
/-- A letter's key. -/
def keyOf (K : List UInt8) (sh : Bool) : List UInt8 := if sh then K.take 16 else K
def fours (sh : Bool) : Nat := if sh then 4 else 8
theorem keyOf_length (K : List UInt8) (sh : Bool) (hK : K.length = 32) : (keyOf K sh).length = 4 * fours sh := by
  cases sh
  · simp [keyOf, fours, hK]
  · simp [keyOf, fours, hK]
theorem fours_or (sh : Bool) : fours sh = 4 ∨ fours sh = 8 := by cases sh <;> simp [fours]

set_option maxRecDepth 100000 in
set_option maxHeartbeats 1000000 in
theorem plain_e (K N : List UInt8) (sh : Bool) (A1 A2 : Option Addr) (n1 c1 n2 c2 : Nat) (P : List UInt8) (w : World) (hK : K.length = 32) (hN : N.length = 12) (hP : P.length = n1) (iP : In w w.heap.size A1 c1 P) :
    Calls Try.prog 16 #[.agg (letC K sh N A1 n1 c1 A2 n2 c2).toArray] w fun e w' => ∃ A' n' c', e = .returned (.slice A' n' c') ∧ (P.take 100).length = n' ∧ Buf w' w.heap.size A' n' c' (P.take 100) ∧ Below w.heap.size w w' := by
  have ms : min (n1 : Int) 100 = ((P.take 100).length : Int) := by rw [List.length_take, hP]; omega
  have hle : (P.take 100).length ≤ n1 := by rw [List.length_take, hP]; omega
  have hca := iP.1
  have ip := iP.take 100
  generalize P.take 100 = K1 at *
  obtain ⟨l, hl⟩ : ∃ l, l = K1.length := ⟨_, rfl⟩
  rw [← hl] at ms hle ⊢
  have hc : (w.alloc (.cells (letC K sh N A1 n1 c1 A2 n2 c2).toArray 41)).cell? ⟨w.heap.size, 45, none⟩ = some (.slice A1 n1 c1) := (Blk.new_of w 41 (letC K sh N A1 n1 c1 A2 n2 c2).toArray (letC K sh N A1 n1 c1 A2 n2 c2) rfl).cell 45 |>.trans (letC_plain K N sh A1 A2 n1 c1 n2 c2 hK hN)
  have hc2 : ∀ X : Obj, ((w.alloc (.cells (letC K sh N A1 n1 c1 A2 n2 c2).toArray 41)).alloc X).cell? ⟨w.heap.size, 45, none⟩ = some (.slice A1 n1 c1) := fun X => ((Blk.new_of w 41 (letC K sh N A1 n1 c1 A2 n2 c2).toArray (letC K sh N A1 n1 c1 A2 n2 c2) rfl).alloc X).cell 45 |>.trans (letC_plain K N sh A1 A2 n1 c1 n2 c2 hK hN)
  have hl0 : (0 : Int) ≤ (l : Int) := by omega
  have hl1 : (l : Int) ≤ (n1 : Int) := by omega
  have hl2 : (l : Int) ≤ (c1 : Int) := by omega
  have HL := Lib.hid hl
  have HLB := Lib.hid (show l ≤ 1000 by omega)
  have HIP := Lib.hid ip
  clear hl hP hca ip iP hle
  go_enter Try.func16, Try.ntmps16
  have hL := Blk.new_of w 41 (letC K sh N A1 n1 c1 A2 n2 c2).toArray (letC K sh N A1 n1 c1 A2 n2 c2) rfl
  have hb0 : ∀ X Y : Obj, Below w.heap.size w ((w.alloc X).alloc Y) := fun X Y => ((Below.refl _ _).alloc (Nat.le_refl _) _).alloc (by simp) _
  have hBe := buf_empty (w.alloc (.cells (letC K sh N A1 n1 c1 A2 n2 c2).toArray 41))
  rw [size_alloc'] at hBe
  clear hL
  go_wp2_with ((with_reducible refine (?_ : wpList _ _ _ (Oper.mk (some 11) _ _ _ _ _ :: _) _ _)); go_loud (refine wpList_append_far rfl (.tmp 3) (.tmp 10) 29 rfl (w.heap.size + 1) _ 0 _ [] K1 _ rfl hBe rfl (src_at ((in_up HIP.out (hb0 _ _)).src (Nat.le_refl _)) HL.out.symm) (by have := HL.out; have := HLB.out; omega) (by simp) l (by rw [HL.out]; omega) ?_); intro A5 c5 w5 hB5 hg5 _; have hbw5 := below_own (hb0 _ _) hBe hg5 (Nat.le_succ _) (by simp; omega))
  go_ret
  exact ⟨A5, l, c5, rfl, rfl, by simpa using hB5.base (Nat.le_succ _), hbw5⟩

set_option maxRecDepth 100000 in
set_option maxHeartbeats 1000000 in
theorem beside_e (K N : List UInt8) (sh : Bool) (A1 A2 : Option Addr) (n1 c1 n2 c2 : Nat) (P : List UInt8) (w : World) (hK : K.length = 32) (hN : N.length = 12) (hP : P.length = n2) (iP : In w w.heap.size A2 c2 P) :
    Calls Try.prog 18 #[.agg (letC K sh N A1 n1 c1 A2 n2 c2).toArray] w fun e w' => ∃ A' n' c', e = .returned (.slice A' n' c') ∧ (P.take 60).length = n' ∧ Buf w' w.heap.size A' n' c' (P.take 60) ∧ Below w.heap.size w w' := by
  have ms : min (n2 : Int) 60 = ((P.take 60).length : Int) := by rw [List.length_take, hP]; omega
  have hle : (P.take 60).length ≤ n2 := by rw [List.length_take, hP]; omega
  have hca := iP.1
  have ip := iP.take 60
  generalize P.take 60 = K1 at *
  obtain ⟨l, hl⟩ : ∃ l, l = K1.length := ⟨_, rfl⟩
  rw [← hl] at ms hle ⊢
  have hc : (w.alloc (.cells (letC K sh N A1 n1 c1 A2 n2 c2).toArray 41)).cell? ⟨w.heap.size, 46, none⟩ = some (.slice A2 n2 c2) := (Blk.new_of w 41 (letC K sh N A1 n1 c1 A2 n2 c2).toArray (letC K sh N A1 n1 c1 A2 n2 c2) rfl).cell 46 |>.trans (letC_beside K N sh A1 A2 n1 c1 n2 c2 hK hN)
  have hc2 : ∀ X : Obj, ((w.alloc (.cells (letC K sh N A1 n1 c1 A2 n2 c2).toArray 41)).alloc X).cell? ⟨w.heap.size, 46, none⟩ = some (.slice A2 n2 c2) := fun X => ((Blk.new_of w 41 (letC K sh N A1 n1 c1 A2 n2 c2).toArray (letC K sh N A1 n1 c1 A2 n2 c2) rfl).alloc X).cell 46 |>.trans (letC_beside K N sh A1 A2 n1 c1 n2 c2 hK hN)
  have hl0 : (0 : Int) ≤ (l : Int) := by omega
  have hl1 : (l : Int) ≤ (n2 : Int) := by omega
  have hl2 : (l : Int) ≤ (c2 : Int) := by omega
  have HL := Lib.hid hl
  have HLB := Lib.hid (show l ≤ 1000 by omega)
  have HIP := Lib.hid ip
  clear hl hP hca ip iP hle
  go_enter Try.func18, Try.ntmps18
  have hL := Blk.new_of w 41 (letC K sh N A1 n1 c1 A2 n2 c2).toArray (letC K sh N A1 n1 c1 A2 n2 c2) rfl
  have hb0 : ∀ X Y : Obj, Below w.heap.size w ((w.alloc X).alloc Y) := fun X Y => ((Below.refl _ _).alloc (Nat.le_refl _) _).alloc (by simp) _
  have hBe := buf_empty (w.alloc (.cells (letC K sh N A1 n1 c1 A2 n2 c2).toArray 41))
  rw [size_alloc'] at hBe
  clear hL
  go_wp2_with ((with_reducible refine (?_ : wpList _ _ _ (Oper.mk (some 11) _ _ _ _ _ :: _) _ _)); go_loud (refine wpList_append_far rfl (.tmp 3) (.tmp 10) 29 rfl (w.heap.size + 1) _ 0 _ [] K1 _ rfl hBe rfl (src_at ((in_up HIP.out (hb0 _ _)).src (Nat.le_refl _)) HL.out.symm) (by have := HL.out; have := HLB.out; omega) (by simp) l (by rw [HL.out]; omega) ?_); intro A5 c5 w5 hB5 hg5 _; have hbw5 := below_own (hb0 _ _) hBe hg5 (Nat.le_succ _) (by simp; omega))
  go_ret
  exact ⟨A5, l, c5, rfl, rfl, by simpa using hB5.base (Nat.le_succ _), hbw5⟩

set_option maxRecDepth 100000 in
set_option maxHeartbeats 1000000 in
theorem key_e (K N : List UInt8) (sh : Bool) (A1 A2 : Option Addr) (n1 c1 n2 c2 : Nat) (w : World) (hK : K.length = 32) :
    Calls Try.prog 15 #[.agg (letC K sh N A1 n1 c1 A2 n2 c2).toArray] w fun e w' => ∃ A' n' c', e = .returned (.slice A' n' c') ∧ n' = 4 * fours sh ∧ Buf w' w.heap.size A' n' c' (keyOf K sh) ∧ Below w.heap.size w w' := by
  have hc : ∀ W, Below (w.heap.size + 1) (w.alloc (.cells (letC K sh N A1 n1 c1 A2 n2 c2).toArray 41)) W → W.cell? ⟨w.heap.size, 32, none⟩ = some (.bool sh) := fun W hb => (((Blk.new_of w 41 (letC K sh N A1 n1 c1 A2 n2 c2).toArray (letC K sh N A1 n1 c1 A2 n2 c2) rfl).below hb (Nat.lt_succ_self _)).cell 32).trans (letC_short K N sh A1 A2 n1 c1 n2 c2 hK)
  have hc1 := hc _ (Below.refl _ _)
  have hI : ∀ (n c : Nat) (X : Obj), n ≤ 32 → n ≤ c → c ≤ 32 → In ((w.alloc (.cells (letC K sh N A1 n1 c1 A2 n2 c2).toArray 41)).alloc X) (w.heap.size + 1) (some ⟨w.heap.size, 0, none⟩) c (K.take n) := fun n c X h1 h2 h3 => ⟨by rw [List.length_take]; omega, by omega, fun _ => ⟨w.heap.size, 0, rfl, Nat.lt_succ_self _, fun j hj => by
    rw [List.length_take] at hj
    rw [Nat.zero_add, ((Blk.new_of w 41 (letC K sh N A1 n1 c1 A2 n2 c2).toArray (letC K sh N A1 n1 c1 A2 n2 c2) rfl).alloc X).cell j, letC_key K N sh A1 A2 n1 c1 n2 c2 hK j (by omega)]
    simp [List.getD_eq_getElem?_getD, show j < n by omega]⟩⟩
  have hl16 : (K.take 16).length = 16 := by rw [List.length_take, hK]; rfl
  have hl32 : (K.take 32).length = 32 := by rw [List.length_take, hK]; rfl
  have hK32 : K.take 32 = K := List.take_of_length_le (by omega)
  have HI := Lib.hid hI
  have H16 := Lib.hid hl16
  have H32 := Lib.hid hl32
  have HK32 := Lib.hid hK32
  clear hI hl16 hl32 hK32 hK hc
  go_enter Try.func15, Try.ntmps15
  have hL := Blk.new_of w 41 (letC K sh N A1 n1 c1 A2 n2 c2).toArray (letC K sh N A1 n1 c1 A2 n2 c2) rfl
  have hb0 : ∀ X Y : Obj, Below w.heap.size w ((w.alloc X).alloc Y) := fun X Y => ((Below.refl _ _).alloc (Nat.le_refl _) _).alloc (by simp) _
  have hBe := buf_empty (w.alloc (.cells (letC K sh N A1 n1 c1 A2 n2 c2).toArray 41))
  rw [size_alloc'] at hBe
  clear hL
  cases sh
  case' true =>
    go_wp2_with ((with_reducible refine (?_ : wpList _ _ _ (Oper.mk (some 8) _ _ _ _ _ :: _) _ _)); go_loud (refine wpList_append_far rfl (.tmp 5) (.tmp 7) 29 rfl (w.heap.size + 1) _ 0 _ [] (K.take 16) _ rfl hBe rfl (src_at ((HI.out 16 32 _ (by omega) (by omega) (by omega)).src (Nat.le_refl _)) H16.out) (by rw [H16.out]; omega) (by simp) 16 (by rw [H16.out]) ?_); intro A5 c5 w5 hB5 hg5 _; have hbw5 := below_own (hb0 _ _) hBe hg5 (Nat.le_succ _) (by simp; omega))
    go_ret
    exact ⟨A5, 16, c5, rfl, rfl, by simpa [keyOf] using hB5.base (Nat.le_succ _), hbw5⟩
  case' false =>
    go_wp2_with ((with_reducible refine (?_ : wpList _ _ _ (Oper.mk (some 12) _ _ _ _ _ :: _) _ _)); go_loud (refine wpList_append_far rfl (.tmp 9) (.tmp 11) 29 rfl (w.heap.size + 1) _ 0 _ [] (K.take 32) _ rfl hBe rfl (src_at ((HI.out 32 32 _ (by omega) (by omega) (by omega)).src (Nat.le_refl _)) H32.out) (by rw [H32.out]; omega) (by simp) 32 (by rw [H32.out]) ?_); intro A5 c5 w5 hB5 hg5 _; have hbw5 := below_own (hb0 _ _) hBe hg5 (Nat.le_succ _) (by simp; omega))
    go_ret
    exact ⟨A5, 32, c5, rfl, rfl, by have := hB5.base (Nat.le_succ _); rw [HK32.out] at this; simpa [keyOf] using this, hbw5⟩
end Go.Proofs.Ytiebdglnkbpajaa
