/-
  The contract of mac.Expand: the first bytes of the row of marks.
-/
import Derived.Test.YtdjhempfpgcigaaDoorKeep
import Derived.Test.YtdjhempfpgcigaaDoorEnds
import Derived.Test.YtdjhempfpgcigaaDoorMac
import Derived.Test.YtdjhempfpgcigaaDoorMacs
namespace Go.Proofs.YtdjhempfpgcigaaDoor
open Go.RowKit

/-- The k-th mark of the row that a key and an info make (T0: nothing). -/
def tAt (key info : List UInt8) : Nat → List UInt8
  | 0 => []
  | k + 1 => hmac key (tAt key info k ++ info ++ [UInt8.ofNat (k + 1)])
/-- The first k marks of it, one behind the other. -/
def tTo (key info : List UInt8) : Nat → List UInt8
  | 0 => []
  | k + 1 => tTo key info k ++ tAt key info (k + 1)
theorem tAt_length (key info : List UInt8) (k : Nat) : (tAt key info (k + 1)).length = 32 := hmac_length _ _
theorem tTo_length (key info : List UInt8) (k : Nat) : (tTo key info k).length = 32 * k := by
  induction k with
  | zero => rfl
  | succ k ih => rw [tTo, List.length_append, ih, tAt_length]; omega
/-- The first n bytes. -/
def expand (key info : List UInt8) (n : Nat) : List UInt8 := (tTo key info ((n + 31) / 32)).take n
theorem expand_length (key info : List UInt8) (n : Nat) : (expand key info n).length = n := by
  unfold expand; rw [List.length_take, tTo_length]; omega

set_option maxRecDepth 100000 in
set_option maxHeartbeats 4000000 in
theorem expand_bad (ks : List Value) (A : Option Addr) (c : Nat) (info : List UInt8) (n : Int) (w : World) (hn : n < 0 ∨ 8160 < n) :
    Calls Tryd.prog 41 #[.agg ks.toArray, .slice A info.length c, .int .i64 n] w fun e w' => e = .returned (.tuple #[.slice none 0 0, .int .i64 1]) ∧ Below w.heap.size w w' := by
  go_enter Tryd.func41, Tryd.ntmps41
  rcases hn with hn | hn
  · have hd : decide (n < 0) = true := by simp; omega
    go_wp2
    go_ret2
    exact ⟨rfl, (Below.refl _ _).alloc (Nat.le_refl _) _⟩
  · have hd : decide (n < 0) = false := by simp; omega
    have hd2 : decide (8160 < n) = true := by simp; omega
    go_wp2
    go_ret2
    exact ⟨rfl, (Below.refl _ _).alloc (Nat.le_refl _) _⟩
/-- What is made after k marks. -/
def madeTo (key info : List UInt8) (n k : Nat) : List UInt8 := (tTo key info k ++ List.replicate n 0).take n
theorem madeTo_length (key info : List UInt8) (n k : Nat) : (madeTo key info n k).length = n := by
  unfold madeTo; rw [List.length_take, List.length_append, List.length_replicate]; omega
theorem madeTo_zero (key info : List UInt8) (n : Nat) : madeTo key info n 0 = List.replicate n 0 := by
  unfold madeTo tTo; rw [List.nil_append, List.take_of_length_le (by simp)]
theorem madeTo_all (key info : List UInt8) (n k : Nat) (h1 : n ≤ 32 * k) (h2 : k = 0 ∨ 32 * (k - 1) < n) : madeTo key info n k = expand key info n := by
  have hk : k = (n + 31) / 32 := by omega
  unfold madeTo expand
  rw [List.take_append_of_le_length (by rw [tTo_length]; omega), hk]
theorem splice_step (T U : List UInt8) (n a : Nat) (hT : T.length = a) (hU : U.length = 32) (ha : a < n) :
    T ++ (U.take (n - a) ++ ((T ++ List.replicate n 0).take n).drop (a + (U.take (n - a)).length)) = ((T ++ U) ++ List.replicate n 0).take n := by
  have e1 : (T ++ List.replicate n (0 : UInt8)).take n = T ++ List.replicate (n - a) 0 := by
    rw [List.take_append, List.take_of_length_le (by omega), List.take_replicate, hT, Nat.min_eq_left (by omega)]
  have e2 : ((T ++ U) ++ List.replicate n (0 : UInt8)).take n = T ++ (U.take (n - a) ++ List.replicate (n - a - 32) 0) := by
    rw [List.append_assoc, List.take_append, List.take_of_length_le (by omega), hT, List.take_append, hU, List.take_replicate, Nat.min_eq_left (by omega)]
  rw [e1, e2, List.drop_append, hT, List.drop_eq_nil_of_le (by omega), List.nil_append, List.drop_replicate, List.length_take, hU]
  rw [show n - a - (a + min (n - a) 32 - a) = n - a - 32 by omega]
theorem madeTo_step (key info : List UInt8) (n k : Nat) (h : 32 * k < n) :
    splice ((madeTo key info n k).map B8) (32 * k) (((tAt key info (k + 1)).take (n - 32 * k)).map B8) = (madeTo key info n (k + 1)).map B8 := by
  have h1 : (madeTo key info n k).take (32 * k) = tTo key info k := by
    unfold madeTo; rw [List.take_take, List.take_append_of_le_length (by rw [tTo_length]; omega), List.take_of_length_le (by rw [tTo_length]; omega)]
  rw [splice_eq, List.length_map, ← List.map_take, ← List.map_drop, ← List.map_append, ← List.map_append, h1]
  exact congrArg (List.map B8) (splice_step (tTo key info k) (tAt key info (k + 1)) n (32 * k) (tTo_length _ _ _) (tAt_length _ _ _) h)
theorem key_next (k : Nat) : (((UInt8.ofNat (k + 1)).toNat : Int) + 1) % 256 = ((UInt8.ofNat (k + 1 + 1)).toNat : Int) := by
  simp

set_option maxRecDepth 100000 in
set_option maxHeartbeats 4000000 in
theorem expand_any (A : Option Addr) (c n : Nat) (key info : List UInt8) (w : World) (hk : key.length = 32) (hi : In w w.heap.size A c info) (hl : info.length < 100000) (hn : n ≤ 8160) (ht : Tabs w) :
    Calls Tryd.prog 41 #[.agg (key.map B8).toArray, .slice A info.length c, .int .i64 (n : Int)] w fun e w' => ∃ g, e = .returned (.tuple #[.slice (some ⟨g, 0, none⟩) n n, .int .i64 0]) ∧ w.heap.size ≤ g ∧ Blk w' g 5 ((expand key info n).map B8) ∧ Below w.heap.size w w' := by
  have hd : decide ((n : Int) < 0) = false := by simp
  have hd2 : decide ((8160 : Int) < (n : Int)) = false := by simp; omega
  have hmk := fun W => run_make_bytes .i64 .i64 n n (Nat.le_refl _) (by omega) W
  have HK := Lib.hid hk
  clear hk
  go_enter Tryd.func41, Tryd.ntmps41
  go_wp2
  clear hmk hd hd2
  have hK0 : Blk ((w.alloc (.cells (key.map B8).toArray 22)).alloc (.cells (Array.replicate n (B8 0)) 5)) w.heap.size 22 (key.map B8) := (Blk.new_of w _ _ _ rfl).alloc _
  have hM0 : Blk ((w.alloc (.cells (key.map B8).toArray 22)).alloc (.cells (Array.replicate n (B8 0)) 5)) (w.heap.size + 1) 5 ((madeTo key info n 0).map B8) := Blk.new2_of w _ _ _ _ (by rw [madeTo_zero, List.map_replicate]; simp)
  have hb0 : Below w.heap.size w ((w.alloc (.cells (key.map B8).toArray 22)).alloc (.cells (Array.replicate n (B8 0)) 5)) := ((Below.refl _ _).alloc (Nat.le_refl _) _).alloc (by simp) _
  go_loopw [9, 10, 11] (fun l i b wr => ∃ (k cl : Nat) (Al : Option Addr), i = .int .i64 ((32 * k : Nat) : Int) ∧ b = .int .u8 ((UInt8.ofNat (k + 1)).toNat : Int) ∧ l = .slice Al (tAt key info k).length cl ∧ (k = 0 ∨ 32 * (k - 1) < n) ∧ In wr wr.heap.size Al cl (tAt key info k) ∧
      Blk wr w.heap.size 22 (key.map B8) ∧ Blk wr (w.heap.size + 1) 5 ((madeTo key info n k).map B8) ∧ Below w.heap.size w wr) (fun _ i _ _ => n + 32 - (intOf i).toNat)
  case atStart => exact ⟨0, 0, none, rfl, rfl, rfl, .inl rfl, ⟨by simp [tAt], by omega, fun h => absurd h (by simp [tAt])⟩, hK0, hM0, hb0⟩
  case round =>
    clear hK0 hM0 hb0
    obtain ⟨k, cl, Al, rfl, rfl, rfl, hkn, hIl, hK, hM, hb⟩ := hrel
    obtain ⟨a, ha⟩ : ∃ a, 32 * k = a := ⟨_, rfl⟩
    rw [ha]
    by_cases hlt : a < n
    · have hd1 : decide ((a : Int) < (n : Int)) = true := by simp; omega
      have hkm := hK.lt
      have hmm := hM.lt
      have hbs := hb.size
      have hII : In wr wr.heap.size A c info := hi.up hb
      have HS := Lib.hid (madeTo_step key info n k (by omega))
      have HT1 := Lib.hid (tAt_length key info k)
      have htl : (tAt key info k).length ≤ 32 := by cases k with | zero => simp [tAt] | succ k => rw [tAt_length]; omega
      have HN : Hid (hmac key (tAt key info k ++ info ++ [UInt8.ofNat (k + 1)]) = tAt key info (k + 1)) := (show _ = _ from rfl)
      have hkey : In wr wr.heap.size (some ⟨w.heap.size, 0, none⟩) 32 key := ⟨by rw [HK.out]; exact Nat.le_refl _, by omega, fun _ => ⟨_, 0, rfl, hkm, fun j hj => by rw [Nat.zero_add]; exact hK.at8 j hj⟩⟩
      have HML := Lib.hid (madeTo_length key info n k)
      obtain ⟨x, hx⟩ : ∃ x, x = UInt8.ofNat (k + 1) := ⟨_, rfl⟩
      have HNX : Hid ((((x.toNat : Int) + 1) % 256) = ((UInt8.ofNat (k + 1 + 1)).toNat : Int)) := (show _ = _ by rw [hx]; exact key_next k)
      rw [← hx] at HN ⊢
      clear hx
      obtain ⟨l, hl'⟩ : ∃ l, l = tAt key info k := ⟨_, rfl⟩
      rw [← hl'] at HN hIl htl ⊢
      clear hl'
      have hW1 : ∀ X Y : Obj, Below wr.heap.size wr ((wr.alloc X).alloc Y) := fun X Y => ((Below.refl _ _).alloc (Nat.le_refl _) _).alloc (by simp) _
      have hpar : ∀ g, wr.heap.size + 1 + 1 ≤ g → Parts ((wr.alloc (.cells #[.int .u8 x.toNat] 5)).alloc (.cells #[.slice Al l.length cl, .slice A info.length c, .slice (some ⟨wr.heap.size, 0, none⟩) 1 1] 26)) g (some ⟨wr.heap.size + 1, 0, none⟩) [l, info, [x]] := fun g hg => by
        have hb1 : Below wr.heap.size wr (wr.alloc (.cells #[.int .u8 x.toNat] 5)) := (Below.refl _ _).alloc (Nat.le_refl _) _
        have h := parts3 (w := wr.alloc (.cells #[.int .u8 x.toNat] 5)) (B := wr.heap.size + 1) (g := g) 26 ((hIl.below hb1).weaken (by omega)) ((hII.below hb1).weaken (by omega)) (A'' := some ⟨wr.heap.size, 0, none⟩) (c'' := 1) (b'' := [x])
          ⟨by simp, by omega, fun _ => ⟨wr.heap.size, 0, rfl, by omega, fun j hj => by
            obtain rfl : j = 0 := by simpa using hj
            exact new_cell _ _ _⟩⟩ (by rw [size_alloc]; omega) (by omega)
        rw [size_alloc] at h
        exact h
      have hm := macOf_any (some ⟨w.heap.size, 0, none⟩) (some ⟨wr.heap.size + 1, 0, none⟩) 32 3 wr.heap.size key [l, info, [x]] ((wr.alloc (.cells #[.int .u8 x.toNat] 5)).alloc (.cells #[.slice Al l.length cl, .slice A info.length c, .slice (some ⟨wr.heap.size, 0, none⟩) 1 1] 26))
        (hW1 _ _).size (hkey.below (hW1 _ _)) (by rw [HK.out]; omega) ((ht.below hb).below (hW1 _ _)) (by simp; omega) (by simp) (by omega) (fun g hg => hpar g (by rw [size_alloc, size_alloc] at hg; exact hg))
      rw [HK.out] at hm
      go_wp2_with fail
      refine hm.mono ?_
      rintro e w1 ⟨rfl, hb1⟩
      have e3 : ([l, info, [x]] : List (List UInt8)).flatten = l ++ info ++ [x] := by simp
      rw [e3, HN.out]
      have hb01 : Below wr.heap.size wr w1 := (hW1 _ _).trans (hb1.mono (hW1 _ _).size)
      clear hm hpar hW1 hb1 e3 hkey hII hIl
      replace hK := hK.below hb01 hkm
      replace hM := hM.below hb01 hmm
      replace hb := hb.trans (hb01.mono hbs)
      have hbs1 := hb.size
      have hmm1 := hM.lt
      obtain ⟨u, hu⟩ : ∃ u, u = tAt key info (k + 1) := ⟨_, rfl⟩
      rw [← hu] at HS HT1 ⊢
      have HU := Lib.hid hu
      clear hu hb01
      go_wp2_with (refine wpList_store_blk rfl 22 (.tmp 12) (.tmp 34) rfl rfl w1.heap.size _ rfl rfl 22 _ (Blk.new_of w1 22 _ ((List.replicate 32 (0 : UInt8)).map B8) (by rfl)) (info32.trans (by rw [List.length_map, HT1.out])) (by rw [List.length_map, List.length_map, HT1.out]; rfl) (one8 _) ?_; intro w2 hU2 hg2)
      have hb12 : Below w1.heap.size w1 w2 := below_new ((Below.refl _ _).alloc (Nat.le_refl _) _) hg2 (Nat.le_refl _) (by simp)
      replace hK := hK.below hb12 hK.lt
      replace hM := hM.below hb12 hM.lt
      replace hb := hb.trans (hb12.mono hbs1)
      have hlt2 := hU2.lt
      clear hg2 hb12
      have ha0 : (0 : Int) ≤ (a : Int) := by omega
      have han : (a : Int) ≤ (n : Int) := by omega
      have hcl : ((n : Int) - (a : Int)).toNat = n - a := by omega
      have hne : ¬ a = n := by omega
      have hne2 : ¬ n = a := by omega
      have hcs : ((u.take (n - a)).map B8).length = Nat.min 32 (n - a) := by rw [List.length_map, List.length_take, HT1.out]; exact Nat.min_comm _ _
      have hUu : ∀ j v, ((u.take (n - a)).map B8)[j]? = some v → w2.drew.cell? ⟨w1.heap.size, 0 + j, none⟩ = some v := fun j v hv => by
        have hj : j < (u.take (n - a)).length := by have := (List.getElem?_eq_some_iff.1 hv).1; simpa using this
        rw [getD_map8 _ j hj] at hv
        have hj2 : j < n - a ∧ j < u.length := by rw [List.length_take] at hj; omega
        rw [← Option.some.inj hv, Nat.zero_add]
        refine (hU2.at8 j hj2.2).trans ?_
        simp [List.getD_eq_getElem?_getD, hj2.1]
      have HUu := Lib.hid hUu
      have HCS := Lib.hid hcs
      rw [ha] at HS
      go_still_tail 4, (by kernel_rfl)
      change wpList _ _ _ _ _ w2.drew
      clear hUu hcs
      go_wp2_with (refine wpList_copy_blk rfl (.tmp 37) (.tmp 38) 26 26 rfl 5 Tryd.underlying26 info8 _ _ _ _ _ _ (by rfl) (by rfl) (w.heap.size + 1) a _ 5 hM.drew ((u.take (n - a)).map B8) HCS.out (fun _ => ⟨rfl, w1.heap.size, 0, rfl, HUu.out⟩) (by rw [HCS.out, List.length_map, HML.out]; have : Nat.min 32 (n - a) ≤ n - a := Nat.min_le_right _ _; omega) (oneB8 _) ?_; intro w3 hM3 hg3)
      rw [HS.out] at hM3
      replace hK := hK.drew.grown hg3 (by simp)
      have hU3 := hU2.drew.grown hg3 (by simp; omega)
      have hb3 := below_new (below_drewN hb 1) hg3 (by omega) (show w.heap.size ≤ w2.heap.size by omega)
      clear hg3 hM hU2 hb
      have hl3 := hU3.lt
      go_wp2
      go_roundw
      case rel =>
        refine ⟨k + 1, 32, some ⟨w1.heap.size, 0, none⟩, by rw [show 32 * (k + 1) = a + 32 by omega]; go_num, by rw [HNX.out], by rw [← HU.out, HT1.out], .inr (by omega), ?_, hK, hM3, hb3⟩
        rw [← HU.out]
        exact ⟨by rw [HT1.out]; exact Nat.le_refl _, by omega, fun _ => ⟨_, 0, rfl, hl3, fun j hj => by rw [Nat.zero_add]; exact hU3.at8 j hj⟩⟩
      case measure => simp [intOf]; omega
    · have hd1 : decide ((a : Int) < (n : Int)) = false := by simp; omega
      have hM' := madeTo_all key info n k (by omega) (by omega)
      rw [hM'] at hM
      go_wp2
      go_ret2
      exact ⟨_, rfl, by omega, hM, hb⟩
end Go.Proofs.YtdjhempfpgcigaaDoor
