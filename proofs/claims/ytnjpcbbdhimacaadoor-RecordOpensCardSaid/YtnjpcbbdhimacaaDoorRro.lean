/-
 The reference's Open of a half, in all its ways.
-/
import Derived.Test.YtnjpcbbdhimacaaDoorRrs
import Derived.Test.YtnjpcbbdhimacaaDoorRd2
import Derived.Test.YtnjpcbbdhimacaaDoorRho
namespace Go.Proofs.YtnjpcbbdhimacaaDoor
open Go.RowKit

def ROPost (O : (Nat × List UInt8 × Nat) × Bool) (w : World) (gm u0 : Nat) (S : List UInt8) (e : Ending) (w' : World) : Prop :=
 e = .returned (.tuple #[.int .i64 (O.1.1 : Int), .string ⟨O.1.2.1.toArray⟩, .int .i64 (O.1.2.2 : Int)]) ∧ RHalf w' gm (usedO O.2 u0) S ∧ w.grownBy w' (some gm)
theorem ropost_no {O : (Nat × List UInt8 × Nat) × Bool} {w w' : World} {gm u0 er : Nat} {S : List UInt8} (hO : O = ((0, [], er), false)) (h : RHalf w gm u0 S) (hb : Below w.heap.size w w') : ROPost O w gm u0 S (.returned (.tuple #[.int .i64 0, .string ⟨#[]⟩, .int .i64 (er : Int)])) w' := by
 subst hO
 exact ⟨rfl, h.below hb, grown_of_below hb _⟩
theorem ropost_yes {O : (Nat × List UInt8 × Nat) × Bool} {w w' : World} {gm u0 u1 k er : Nat} {B S : List UInt8} (hO : O = ((k, B, er), true)) (h : RHalf w' gm u1 S) (hu : u1 = u0 + 1) (hg : w.grownBy w' (some gm)) : ROPost O w gm u0 S (.returned (.tuple #[.int .i64 (k : Int), .string ⟨B.toArray⟩, .int .i64 (er : Int)])) w' := by
 subst hO hu
 exact ⟨rfl, h, hg⟩
theorem grown_low2 {w v v' : World} {g : Nat} (h : w.grownBy v (some g)) (hb : Below v.heap.size v v') : w.grownBy v' (some g) := grown_low h (hb.mono h.size)
theorem ix_rj (j mm : Nat) (h : j < mm) (hm : mm < 100000) : ∃ j1 : Nat, j1 = j + 1 ∧ (0 : Int) < (j1 : Int) ∧ (j1 : Int) - 1 = (j : Int) ∧ wrap64 (j : Int) = (j : Int) ∧ IntKind.i64.wrap (j : Int) = (j : Int) ∧ (0 : Int) ≤ (j : Int) ∧ ((j : Int) < (mm : Int) ∧ ¬ (j1 : Int) = 0 ∧ (j : Int) ≤ (mm : Int)) :=
 ⟨_, rfl, by omega, by omega, by unfold wrap64; omega, by rw [IntKind.wrap_i64]; omega, by omega, by omega⟩
set_option maxRecDepth 100000 in
set_option maxHeartbeats 1000000 in
theorem rhopen_size {w : World} {gm u0 : Nat} {S : List UInt8} (h : RHalf w gm u0 S) (n : Nat) (b : List UInt8) (hn : b.length = n) (hm : n < 1000000) (L : List UInt32) (V : List UInt8) (hz : (sizeE b).2 ≠ 0) :
  Calls Tryd.prog 21 #[.pointer (some ⟨gm, 0, none⟩), .string ⟨b.toArray⟩] w (ROPost (openOut L V u0 b) w gm u0 S) := by
 have hc := rcut_e n b w hn hm
 rw [show cutE b = ([], [], (sizeE b).2) by unfold cutE; rw [if_pos hz]] at hc
 have HC := Lib.hid hc
 have HZ := Lib.hid (show openOut L V u0 b = ((0, [], (sizeE b).2), false) by
  have e : partsE b = (0, [], (sizeE b).2) := by unfold partsE; rw [if_pos hz]
  unfold openOut; rw [e, if_pos hz])
 generalize (sizeE b).2 = er at *
 have hd : ¬ (er : Int) = 0 := by omega
 have HH := Lib.hid h
 clear hc hz hn hm h
 go_enter Tryd.func21, Tryd.ntmps21
 go_wp2_with (go_at_call 44; refine HC.out.mono ?_; rintro e w2 ⟨rfl, hb2⟩)
 go_ret3
 exact ropost_no HZ.out HH.out hb2
set_option maxRecDepth 100000 in
set_option maxHeartbeats 1000000 in
theorem rhopen_rest {w : World} {gm u0 : Nat} {S : List UInt8} (h : RHalf w gm u0 S) (n : Nat) (b : List UInt8) (hn : b.length = n) (hm : n < 1000000) (L : List UInt32) (V : List UInt8) (hz : (sizeE b).2 = 0) (hlt : (sizeE b).1 < b.length) :
  Calls Tryd.prog 21 #[.pointer (some ⟨gm, 0, none⟩), .string ⟨b.toArray⟩] w (ROPost (openOut L V u0 b) w gm u0 S) := by
 have hc := rcut_e n b w hn hm
 rw [show cutE b = (b.take (sizeE b).1, b.drop (sizeE b).1, 0) by unfold cutE; rw [if_neg (by rw [hz]; decide)]] at hc
 have HC := Lib.hid hc
 have HZ := Lib.hid (show openOut L V u0 b = ((0, [], 2), false) by
  have e : partsE b = (0, [], 2) := by unfold partsE; rw [if_neg (by rw [hz]; decide), if_pos hlt]
  unfold openOut; rw [e, if_pos (by decide)])
 have hne : (b.drop (sizeE b).1).isEmpty = false := List.isEmpty_eq_false_iff.2 (fun e => by
  have := congrArg List.length e
  rw [List.length_drop] at this
  simp at this
  omega)
 generalize b.drop (sizeE b).1 = r at *
 generalize b.take (sizeE b).1 = q at *
 have HH := Lib.hid h
 clear hc hz hlt hn hm h
 go_enter Tryd.func21, Tryd.ntmps21
 go_wp2_with (go_at_call 44; refine HC.out.mono ?_; rintro e w2 ⟨rfl, hb2⟩)
 go_ret3
 exact ropost_no HZ.out HH.out hb2
set_option maxRecDepth 100000 in
set_option maxHeartbeats 1000000 in
theorem rhopen_kind {w : World} {gm u0 : Nat} {S : List UInt8} (h : RHalf w gm u0 S) (n : Nat) (b : List UInt8) (hn : b.length = n) (hm : n < 1000000) (L : List UInt32) (V : List UInt8) (hp : partsE b = ((b.getD 0 0).toNat, b.drop 5, 0)) (hcz : cutE b = (b.take n, [], 0)) (h5 : 5 ≤ n) (hk : (b.getD 0 0).toNat ≠ 23) :
  Calls Tryd.prog 21 #[.pointer (some ⟨gm, 0, none⟩), .string ⟨b.toArray⟩] w (ROPost (openOut L V u0 b) w gm u0 S) := by
 have hc := rcut_e n b w hn hm
 rw [hcz] at hc
 have HC := Lib.hid hc
 have HZ := Lib.hid (show openOut L V u0 b = ((0, [], 2), false) by unfold openOut; rw [hp, if_neg (by simp), if_pos hk])
 have q0 : 0 < b.length := by omega
 have s0 := str_get b 0 q0
 obtain ⟨x, hx⟩ : ∃ x, x = b.getD 0 0 := ⟨_, rfl⟩
 rw [← hx] at s0 hk
 have hd : ¬ (x.toNat : Int) = 23 := by omega
 have hlen : (b.length : Int) = (n : Int) := by omega
 have e1 : 0 < n := by omega
 generalize b.take n = q at *
 have HH := Lib.hid h
 clear hc hp hcz hk hn hm h h5 hx
 go_enter Tryd.func21, Tryd.ntmps21
 go_wp2_with (go_at_call 44; refine HC.out.mono ?_; rintro e w2 ⟨rfl, hb2⟩)
 go_ret3
 exact ropost_no HZ.out HH.out hb2
set_option maxRecDepth 100000 in
set_option maxHeartbeats 1000000 in
theorem rhopen_few {w : World} {gm u0 : Nat} {S : List UInt8} (h : RHalf w gm u0 S) (_hS : S.length = 32) (n : Nat) (b : List UInt8) (hn : b.length = n) (hm : n < 1000000) (hu : u0 < 1000) (L : List UInt32) (V : List UInt8) (hp : partsE b = ((b.getD 0 0).toNat, b.drop 5, 0)) (hcz : cutE b = (b.take n, [], 0)) (h5 : 5 ≤ n) (hk : (b.getD 0 0).toNat = 23) (hf : n - 5 < 16) :
  Calls Tryd.prog 21 #[.pointer (some ⟨gm, 0, none⟩), .string ⟨b.toArray⟩] w (ROPost (openOut L V u0 b) w gm u0 S) := by
 have HZ := Lib.hid (show openOut L V u0 b = ((0, [], 5), false) by unfold openOut; rw [hp, if_neg (by simp), if_neg (by simpa using hk), if_pos (.inl (by rw [List.length_drop, hn]; exact hf))])
 have hc := rcut_e n b w hn hm
 rw [hcz] at hc
 have HC := Lib.hid hc
 obtain ⟨x, hx⟩ : ∃ x, x = b.getD 0 0 := ⟨_, rfl⟩
 have q0 : 0 < b.length := by omega
 have s0 := str_get b 0 q0
 rw [← hx] at s0 hk
 have hd : (x.toNat : Int) = 23 := by omega
 have hlen : (b.length : Int) = (n : Int) := by omega
 have e1 : 0 < n := by omega
 have e5 : (5 : Int) ≤ (n : Int) := by omega
 have HU := Lib.hid (show ¬ (1000 : Int) ≤ (u0 : Int) by omega)
 have hey := extract_from b 5 b.length (Nat.le_refl _)
 have hla := fun (W : World) => refLabel_any 16 S keyN [] W (by omega) (by decide) (by decide) (by decide)
 simp only [show expand S (labelInfo keyN [] 16) 16 = keyH S from rfl] at hla
 have hkl : (keyH S).length = 4 * 4 := expand_length S (labelInfo keyN [] 16) 16
 have hxl : (b.drop 5).length = n - 5 := by rw [List.length_drop, hn]
 obtain ⟨X, hX⟩ : ∃ X, X = b.drop 5 := ⟨_, rfl⟩
 rw [← hX] at hey hxl
 have HC0 := Lib.hid (fun (W : World) (hb : Below w.heap.size w W) => (h.below hb).c0)
 have HC1 := Lib.hid (fun (W : World) (hb : Below w.heap.size w W) => (h.below hb).c1)
 have HLA := Lib.hid hla
 have HH := Lib.hid h
 have hxi : (X.length : Int) = ((n - 5 : Nat) : Int) := by rw [hxl]
 obtain ⟨nx, hnx⟩ : ∃ nx, nx = n - 5 := ⟨_, rfl⟩
 rw [← hnx] at hxi hf
 have HXI := Lib.hid (And.intro hxi (show (nx : Int) < 16 by omega))
 generalize b.take n = q at *
 clear hc hp hcz hk hn hm h h5 hx hla hkl hxl hX hf hnx hxi hu
 go_enter Tryd.func21, Tryd.ntmps21
 go_upto_region 6 with (go_at_call 44; refine HC.out.mono ?_; rintro e w2 ⟨rfl, hb2⟩)
 have hcc := HC1.out _ hb2
 have hu9 := HU.out
 go_upto_region 8 with (fail)
 clear hcc hu9
 have hcc := HC0.out _ hb2
 go_upto_region 9 with (go_at_call 17; refine (HLA.out _).mono ?_; rintro e w3 ⟨rfl, hb3⟩)
 have HB3 := Lib.hid (hb2.trans (hb3.mono hb2.size))
 clear hcc hb2 hb3
 go_upto_region 10 with (fail)
 clear hey s0 hd e1 e5 hlen
 obtain ⟨hxi, hfi⟩ := HXI.out
 refine wp_region_noPanic ?_
 refine wp_region_held_drew (S := fun W => Below w3.heap.size w3 W) (by kernel_rfl) (by exact below_drewN (Below.refl _ _) 1) (fun hHeld => ?_)
 refine wpAnyH_take (i := 0) (oi := ⟨_, _, _, _, _, _⟩) (v := ?_) rfl (by kernel_rfl) (by kernel_rfl) (by kernel_rfl) (fun _ _ _ h => h) (Or.inl ⟨by rfl, ?_⟩) hHeld ?_
 rotate_left 1
 ·
  (intro W hSw; (try dsimp only at hSw); go_simp; try with_reducible rfl)
 try simp only [Act.put, List.setIfInBounds_toArray, List.set_cons_zero, List.set_cons_succ]
 refine wpAnyH_take (i := 1) (oi := ⟨_, _, _, _, _, _⟩) (v := ?_) rfl (by kernel_rfl) (by kernel_rfl) (by kernel_rfl) (fun _ _ _ h => h) (Or.inl ⟨by rfl, ?_⟩) hHeld ?_
 rotate_left 1
 ·
  (intro W hSw; (try dsimp only at hSw); go_simp; try with_reducible rfl)
 try simp only [Act.put, List.setIfInBounds_toArray, List.set_cons_zero, List.set_cons_succ]
 refine wpAnyH_take (i := 2) (oi := ⟨_, _, _, _, _, _⟩) (v := ?_) rfl (by kernel_rfl) (by kernel_rfl) (by kernel_rfl) (fun _ _ _ h => h) (Or.inl ⟨by rfl, ?_⟩) hHeld ?_
 rotate_left 1
 ·
  (intro W hSw; (try dsimp only at hSw); go_simp; try with_reducible rfl)
 try simp only [Act.put, List.setIfInBounds_toArray, List.set_cons_zero, List.set_cons_succ]
 refine wpAnyH_take (i := 3) (oi := ⟨_, _, _, _, _, _⟩) (v := ?_) rfl (by kernel_rfl) (by kernel_rfl) (by kernel_rfl) (fun _ _ _ h => h) (Or.inl ⟨by rfl, ?_⟩) hHeld ?_
 rotate_left 1
 ·
  (intro W hSw; (try dsimp only at hSw); go_simp; try with_reducible rfl)
 try simp only [Act.put, List.setIfInBounds_toArray, List.set_cons_zero, List.set_cons_succ]
 refine wpAnyH_take (i := 4) (oi := ⟨_, _, _, _, _, _⟩) (v := undef) rfl (by kernel_rfl) (by kernel_rfl) (by kernel_rfl) (fun _ _ _ h => h) (Or.inr ⟨by rfl, rfl⟩) hHeld ?_
 try simp only [Act.put, List.setIfInBounds_toArray, List.set_cons_zero, List.set_cons_succ]
 refine wpAnyH_take (i := 5) (oi := ⟨_, _, _, _, _, _⟩) (v := undef) rfl (by kernel_rfl) (by kernel_rfl) (by kernel_rfl) (fun _ _ _ h => h) (Or.inr ⟨by rfl, rfl⟩) hHeld ?_
 try simp only [Act.put, List.setIfInBounds_toArray, List.set_cons_zero, List.set_cons_succ]
 refine wpAnyH_take (i := 6) (oi := ⟨_, _, _, _, _, _⟩) (v := undef) rfl (by kernel_rfl) (by kernel_rfl) (by kernel_rfl) (fun _ _ _ h => h) (Or.inr ⟨by rfl, rfl⟩) hHeld ?_
 try simp only [Act.put, List.setIfInBounds_toArray, List.set_cons_zero, List.set_cons_succ]
 refine wpAnyH_take (i := 7) (oi := ⟨_, _, _, _, _, _⟩) (v := undef) rfl (by kernel_rfl) (by kernel_rfl) (by kernel_rfl) (fun _ _ _ h => h) (Or.inr ⟨by rfl, rfl⟩) hHeld ?_
 try simp only [Act.put, List.setIfInBounds_toArray, List.set_cons_zero, List.set_cons_succ]
 refine wpAnyH_take (i := 8) (oi := ⟨_, _, _, _, _, _⟩) (v := undef) rfl (by kernel_rfl) (by kernel_rfl) (by kernel_rfl) (fun _ _ _ h => h) (Or.inr ⟨by rfl, rfl⟩) hHeld ?_
 try simp only [Act.put, List.setIfInBounds_toArray, List.set_cons_zero, List.set_cons_succ]
 refine wpAnyH_take (i := 9) (oi := ⟨_, _, _, _, _, _⟩) (v := undef) rfl (by kernel_rfl) (by kernel_rfl) (by kernel_rfl) (fun _ _ _ h => h) (Or.inr ⟨by rfl, rfl⟩) hHeld ?_
 try simp only [Act.put, List.setIfInBounds_toArray, List.set_cons_zero, List.set_cons_succ]
 refine wpAnyH_take (i := 10) (oi := ⟨_, _, _, _, _, _⟩) (v := undef) rfl (by kernel_rfl) (by kernel_rfl) (by kernel_rfl) (fun _ _ _ h => h) (Or.inr ⟨by rfl, rfl⟩) hHeld ?_
 try simp only [Act.put, List.setIfInBounds_toArray, List.set_cons_zero, List.set_cons_succ]
 refine wpAnyH_take (i := 11) (oi := ⟨_, _, _, _, _, _⟩) (v := undef) rfl (by kernel_rfl) (by kernel_rfl) (by kernel_rfl) (fun _ _ _ h => h) (Or.inr ⟨by rfl, rfl⟩) hHeld ?_
 try simp only [Act.put, List.setIfInBounds_toArray, List.set_cons_zero, List.set_cons_succ]
 refine wpAnyH_take (i := 12) (oi := ⟨_, _, _, _, _, _⟩) (v := undef) rfl (by kernel_rfl) (by kernel_rfl) (by kernel_rfl) (fun _ _ _ h => h) (Or.inr ⟨by rfl, rfl⟩) hHeld ?_
 try simp only [Act.put, List.setIfInBounds_toArray, List.set_cons_zero, List.set_cons_succ]
 refine wpAnyH_take (i := 13) (oi := ⟨_, _, _, _, _, _⟩) (v := undef) rfl (by kernel_rfl) (by kernel_rfl) (by kernel_rfl) (fun _ _ _ h => h) (Or.inr ⟨by rfl, rfl⟩) hHeld ?_
 try simp only [Act.put, List.setIfInBounds_toArray, List.set_cons_zero, List.set_cons_succ]
 refine wpAnyH_take (i := 14) (oi := ⟨_, _, _, _, _, _⟩) (v := undef) rfl (by kernel_rfl) (by kernel_rfl) (by kernel_rfl) (fun _ _ _ h => h) (Or.inr ⟨by rfl, rfl⟩) hHeld ?_
 try simp only [Act.put, List.setIfInBounds_toArray, List.set_cons_zero, List.set_cons_succ]
 refine wpAnyH_take (i := 15) (oi := ⟨_, _, _, _, _, _⟩) (v := undef) rfl (by kernel_rfl) (by kernel_rfl) (by kernel_rfl) (fun _ _ _ h => h) (Or.inr ⟨by rfl, rfl⟩) hHeld ?_
 try simp only [Act.put, List.setIfInBounds_toArray, List.set_cons_zero, List.set_cons_succ]
 refine wpAnyH_take (i := 16) (oi := ⟨_, _, _, _, _, _⟩) (v := undef) rfl (by kernel_rfl) (by kernel_rfl) (by kernel_rfl) (fun _ _ _ h => h) (Or.inr ⟨by rfl, rfl⟩) hHeld ?_
 try simp only [Act.put, List.setIfInBounds_toArray, List.set_cons_zero, List.set_cons_succ]
 refine wpAnyH_take (i := 17) (oi := ⟨_, _, _, _, _, _⟩) (v := undef) rfl (by kernel_rfl) (by kernel_rfl) (by kernel_rfl) (fun _ _ _ h => h) (Or.inr ⟨by rfl, rfl⟩) hHeld ?_
 try simp only [Act.put, List.setIfInBounds_toArray, List.set_cons_zero, List.set_cons_succ]
 refine wpAnyH_take (i := 18) (oi := ⟨_, _, _, _, _, _⟩) (v := undef) rfl (by kernel_rfl) (by kernel_rfl) (by kernel_rfl) (fun _ _ _ h => h) (Or.inr ⟨by rfl, rfl⟩) hHeld ?_
 try simp only [Act.put, List.setIfInBounds_toArray, List.set_cons_zero, List.set_cons_succ]
 refine wpAnyH_take (i := 19) (oi := ⟨_, _, _, _, _, _⟩) (v := undef) rfl (by kernel_rfl) (by kernel_rfl) (by kernel_rfl) (fun _ _ _ h => h) (Or.inr ⟨by rfl, rfl⟩) hHeld ?_
 try simp only [Act.put, List.setIfInBounds_toArray, List.set_cons_zero, List.set_cons_succ]
 refine wpAnyH_take (i := 20) (oi := ⟨_, _, _, _, _, _⟩) (v := undef) rfl (by kernel_rfl) (by kernel_rfl) (by kernel_rfl) (fun _ _ _ h => h) (Or.inr ⟨by rfl, rfl⟩) hHeld ?_
 try simp only [Act.put, List.setIfInBounds_toArray, List.set_cons_zero, List.set_cons_succ]
 refine wpAnyH_take (i := 21) (oi := ⟨_, _, _, _, _, _⟩) (v := ?_) rfl (by kernel_rfl) (by kernel_rfl) (by kernel_rfl) (fun _ _ _ h => h) (Or.inl ⟨by rfl, ?_⟩) hHeld ?_
 rotate_left 1
 ·
  (intro W hSw; (try dsimp only at hSw); go_simp; try with_reducible rfl)
 try simp only [Act.put, List.setIfInBounds_toArray, List.set_cons_zero, List.set_cons_succ]
 refine wpAnyH_done (by kernel_rfl) ?_ _
 refine NoPanic.normal ?_
 have hfin := HB3.out.trans (hHeld.mono HB3.out.size)
 clear hxi hfi
 go_wp2
 go_ret3
 exact ropost_no HZ.out HH.out hfin
set_option maxRecDepth 100000 in
set_option maxHeartbeats 1000000 in
theorem rhopen_mac {w : World} {gm u0 : Nat} {S : List UInt8} (h : RHalf w gm u0 S) (_hS : S.length = 32) (n : Nat) (b : List UInt8) (hn : b.length = n) (hm : n < 100000) (hu : u0 < 1000) (hp : partsE b = ((b.getD 0 0).toNat, b.drop 5, 0)) (hcz : cutE b = (b.take n, [], 0)) (h5 : 5 ≤ n) (hk : (b.getD 0 0).toNat = 23) (hf : ¬ n - 5 < 16) (ht : tagE (keyL 4 (keyH S)) 11 (nonceH (ivH S) u0) ((b.drop 5).take (n - 5 - 16)) (b.take 5) ≠ (b.drop 5).drop (n - 5 - 16)) :
  Calls Tryd.prog 21 #[.pointer (some ⟨gm, 0, none⟩), .string ⟨b.toArray⟩] w (ROPost (openOut (keyL 4 (keyH S)) (ivH S) u0 b) w gm u0 S) := by
 have HZ := Lib.hid (show openOut (keyL 4 (keyH S)) (ivH S) u0 b = ((0, [], 5), false) by unfold openOut; rw [hp, if_neg (by simp), if_neg (by simpa using hk), if_pos (.inr (by rw [List.length_drop, hn]; exact ht))])
 have hc := rcut_e n b w hn (Nat.lt_trans hm (by decide))
 rw [hcz] at hc
 have HC := Lib.hid hc
 obtain ⟨x, hx⟩ : ∃ x, x = b.getD 0 0 := ⟨_, rfl⟩
 have q0 : 0 < b.length := by omega
 have s0 := str_get b 0 q0
 rw [← hx] at s0 hk
 have hd : (x.toNat : Int) = 23 := by omega
 have hlen : (b.length : Int) = (n : Int) := by omega
 have e1 : 0 < n := by omega
 have e5 : (5 : Int) ≤ (n : Int) := by omega
 have HU := Lib.hid (show ¬ (1000 : Int) ≤ (u0 : Int) by omega)
 have hey := extract_from b 5 b.length (Nat.le_refl _)
 have hla := fun (W : World) => refLabel_any 16 S keyN [] W (by omega) (by decide) (by decide) (by decide)
 simp only [show expand S (labelInfo keyN [] 16) 16 = keyH S from rfl] at hla
 have hkl : (keyH S).length = 4 * 4 := expand_length S (labelInfo keyN [] 16) 16
 have hxl : (b.drop 5).length = n - 5 := by rw [List.length_drop, hn]
 obtain ⟨X, hX⟩ : ∃ X, X = b.drop 5 := ⟨_, rfl⟩
 rw [← hX] at hey hxl
 have HC0 := Lib.hid (fun (W : World) (hb : Below w.heap.size w W) => (h.below hb).c0)
 have HC1 := Lib.hid (fun (W : World) (hb : Below w.heap.size w W) => (h.below hb).c1)
 have HLA := Lib.hid hla
 have HH := Lib.hid h
 obtain ⟨nx, hnx⟩ : ∃ nx, nx = n - 5 := ⟨_, rfl⟩
 obtain ⟨mm, hmm⟩ : ∃ mm, mm = nx - 16 := ⟨_, rfl⟩
 have hnl : (nonceH (ivH S) u0).length = 12 := nonceH_length _ _ (expand_length _ _ _)
 have hcl : (X.take mm).length = mm := by rw [List.length_take, hxl]; omega
 have hl5 : (b.take 5).length = 5 := by rw [List.length_take, hn]; omega
 have hno := fun (W : World) (hb : Below w.heap.size w W) => rnonce_e (h.below hb) _hS (Nat.lt_trans hu (by decide))
 have hta := fun (W : World) => rtag_e 4 mm 5 (.inl rfl) (keyH S) (nonceH (ivH S) u0) (X.take mm) (b.take 5) W hkl hnl hcl hl5 (by omega) (by decide)
 change ∀ W, Calls _ _ _ W fun e w' => e = .returned (.string ⟨(tagE (keyL 4 (keyH S)) 11 (nonceH (ivH S) u0) (X.take mm) (b.take 5)).toArray⟩) ∧ _ at hta
 have HE1 := Lib.hid (extract_str X mm)
 have HE2 := Lib.hid (extract_str b 5)
 have HE3 := Lib.hid (extract_from X mm X.length (Nat.le_refl _))
 have HXI := Lib.hid (show (X.length : Int) = (nx : Int) ∧ decide ((nx : Int) < 16) = false ∧ (nx : Int) - 16 = (mm : Int) ∧ wrap64 (mm : Int) = (mm : Int) ∧ IntKind.i64.wrap (mm : Int) = (mm : Int) ∧ (0 : Int) ≤ (mm : Int) ∧ (mm : Int) ≤ (nx : Int) by rw [hxl, hnx.symm]; refine ⟨rfl, decide_eq_false (by omega), by omega, by unfold wrap64; omega, by rw [IntKind.wrap_i64]; omega, by omega, by omega⟩)
 have HLB := Lib.hid (And.intro hlen e5)
 rw [← hX, ← hnx, ← hmm] at ht
 have hq : (tagE (keyL 4 (keyH S)) 11 (nonceH (ivH S) u0) (X.take mm) (b.take 5) == X.drop mm) = false := by simpa using ht
 generalize tagE (keyL 4 (keyH S)) 11 (nonceH (ivH S) u0) (X.take mm) (b.take 5) = tg at *
 generalize openOut (keyL 4 (keyH S)) (ivH S) u0 b = OO at *
 generalize nonceH (ivH S) u0 = NO at *
 generalize X.drop mm = XD at *
 generalize X.take mm = XT at *
 generalize b.take 5 = B5 at *
 generalize b.take n = q at *
 generalize keyH S = KY at *
 have HQ := Lib.hid hq
 have HNO := Lib.hid hno
 have HTA := Lib.hid hta
 clear hc hp hcz hk hn hm h h5 hx hla hkl hxl hX hf hnx hmm hu hnl hcl hl5 hno hta hq ht
 go_enter Tryd.func21, Tryd.ntmps21
 go_upto_region 6 with (go_at_call 44; refine HC.out.mono ?_; rintro e w2 ⟨rfl, hb2⟩)
 have hcc := HC1.out _ hb2
 have hu9 := HU.out
 go_upto_region 8 with (fail)
 clear hcc hu9
 have hcc := HC0.out _ hb2
 go_upto_region 9 with (go_at_call 17; refine (HLA.out _).mono ?_; rintro e w3 ⟨rfl, hb3⟩)
 have HB3 := Lib.hid (hb2.trans (hb3.mono hb2.size))
 clear hcc hb2 hb3
 go_upto_region 10 with (fail)
 clear hey s0 hd e1 e5 hlen
 obtain ⟨hxi, x1, x2, x3, x6, x4, x5⟩ := HXI.out
 obtain ⟨hlen, e5⟩ := HLB.out
 refine wp_region_noPanic ?_
 refine wp_region_held_drew (S := fun W => Below w3.heap.size w3 W) (by kernel_rfl) (by exact below_drewN (Below.refl _ _) 1) (fun hHeld => ?_)
 refine wpAnyH_take (i := 0) (oi := ⟨_, _, _, _, _, _⟩) (v := ?_) rfl (by kernel_rfl) (by kernel_rfl) (by kernel_rfl) (fun _ _ _ h => h) (Or.inl ⟨by rfl, ?_⟩) hHeld ?_
 rotate_left 1
 ·
  (intro W hSw; (try dsimp only at hSw); go_simp; try with_reducible rfl)
 try simp only [Act.put, List.setIfInBounds_toArray, List.set_cons_zero, List.set_cons_succ]
 refine wpAnyH_take (i := 1) (oi := ⟨_, _, _, _, _, _⟩) (v := ?_) rfl (by kernel_rfl) (by kernel_rfl) (by kernel_rfl) (fun _ _ _ h => h) (Or.inl ⟨by rfl, ?_⟩) hHeld ?_
 rotate_left 1
 ·
  (intro W hSw; (try dsimp only at hSw); go_simp; try with_reducible rfl)
 try simp only [Act.put, List.setIfInBounds_toArray, List.set_cons_zero, List.set_cons_succ]
 refine wpAnyH_take (i := 2) (oi := ⟨_, _, _, _, _, _⟩) (v := ?_) rfl (by kernel_rfl) (by kernel_rfl) (by kernel_rfl) (fun _ _ _ h => h) (Or.inl ⟨by rfl, ?_⟩) hHeld ?_
 rotate_left 1
 ·
  (intro W hSw; (try dsimp only at hSw); go_simp; try with_reducible rfl)
 try simp only [Act.put, List.setIfInBounds_toArray, List.set_cons_zero, List.set_cons_succ]
 refine wpAnyH_take (i := 3) (oi := ⟨_, _, _, _, _, _⟩) (v := ?_) rfl (by kernel_rfl) (by kernel_rfl) (by kernel_rfl) (fun _ _ _ h => h) (Or.inl ⟨by rfl, ?_⟩) hHeld ?_
 rotate_left 1
 ·
  (intro W hSw; (try dsimp only at hSw); go_simp; try with_reducible rfl)
 try simp only [Act.put, List.setIfInBounds_toArray, List.set_cons_zero, List.set_cons_succ]
 refine wpAnyH_take (i := 4) (oi := ⟨_, _, _, _, _, _⟩) (v := ?_) rfl (by kernel_rfl) (by kernel_rfl) (by kernel_rfl) (fun _ _ _ h => h) (Or.inl ⟨by rfl, ?_⟩) hHeld ?_
 rotate_left 1
 ·
  (intro W hSw; (try dsimp only at hSw); go_simp; try with_reducible rfl)
 try simp only [Act.put, List.setIfInBounds_toArray, List.set_cons_zero, List.set_cons_succ]
 refine wpAnyH_take (i := 5) (oi := ⟨_, _, _, _, _, _⟩) (v := ?_) rfl (by kernel_rfl) (by kernel_rfl) (by kernel_rfl) (fun _ _ _ h => h) (Or.inl ⟨by rfl, ?_⟩) hHeld ?_
 rotate_left 1
 ·
  (intro W hSw; (try dsimp only at hSw); go_simp; try with_reducible rfl)
 try simp only [Act.put, List.setIfInBounds_toArray, List.set_cons_zero, List.set_cons_succ]
 refine wpAnyH_take (i := 7) (oi := ⟨_, _, _, _, _, _⟩) (v := ?_) rfl (by kernel_rfl) (by kernel_rfl) (by kernel_rfl) (fun _ _ _ h => h) (Or.inl ⟨by rfl, ?_⟩) hHeld ?_
 rotate_left 1
 ·
  (intro W hSw; (try dsimp only at hSw); have q1 := HE1.out; have q2 := HE2.out; have q3 := HE3.out; go_simp; try with_reducible rfl)
 try simp only [Act.put, List.setIfInBounds_toArray, List.set_cons_zero, List.set_cons_succ]
 refine wpAnyH_take (i := 8) (oi := ⟨_, _, _, _, _, _⟩) (v := ?_) rfl (by kernel_rfl) (by kernel_rfl) (by kernel_rfl) (fun _ _ _ h => h) (Or.inl ⟨by rfl, ?_⟩) hHeld ?_
 rotate_left 1
 ·
  (intro W hSw; (try dsimp only at hSw); have q1 := HE1.out; have q2 := HE2.out; have q3 := HE3.out; go_simp; try with_reducible rfl)
 try simp only [Act.put, List.setIfInBounds_toArray, List.set_cons_zero, List.set_cons_succ]
 refine wpAnyH_take (i := 9) (oi := ⟨_, _, _, _, _, _⟩) (v := ?_) rfl (by kernel_rfl) (by kernel_rfl) (by kernel_rfl) (fun _ _ _ h => h) (Or.inl ⟨by rfl, ?_⟩) hHeld ?_
 rotate_left 1
 ·
  (intro W hSw; (try dsimp only at hSw); have q1 := HE1.out; have q2 := HE2.out; have q3 := HE3.out; go_simp; try with_reducible rfl)
 try simp only [Act.put, List.setIfInBounds_toArray, List.set_cons_zero, List.set_cons_succ]
 refine wpAnyH_take (i := 10) (oi := ⟨_, _, _, _, _, _⟩) (v := ?_) rfl (by kernel_rfl) (by kernel_rfl) (by kernel_rfl) (fun _ _ _ h => h) (Or.inl ⟨by rfl, ?_⟩) hHeld ?_
 rotate_left 1
 ·
  (intro W hSw; (try dsimp only at hSw); have q1 := HE1.out; have q2 := HE2.out; have q3 := HE3.out; go_simp; try with_reducible rfl)
 try simp only [Act.put, List.setIfInBounds_toArray, List.set_cons_zero, List.set_cons_succ]
 refine wpAnyH_take (i := 11) (oi := ⟨_, _, _, _, _, _⟩) (v := ?_) rfl (by kernel_rfl) (by kernel_rfl) (by kernel_rfl) (fun _ _ _ h => h) (Or.inl ⟨by rfl, ?_⟩) hHeld ?_
 rotate_left 1
 ·
  (intro W hSw; (try dsimp only at hSw); have q1 := HE1.out; have q2 := HE2.out; have q3 := HE3.out; go_simp; try with_reducible rfl)
 try simp only [Act.put, List.setIfInBounds_toArray, List.set_cons_zero, List.set_cons_succ]
 refine wpAnyH_take (i := 12) (oi := ⟨_, _, _, _, _, _⟩) (v := ?_) rfl (by kernel_rfl) (by kernel_rfl) (by kernel_rfl) (fun _ _ _ h => h) (Or.inl ⟨by rfl, ?_⟩) hHeld ?_
 rotate_left 1
 ·
  (intro W hSw; (try dsimp only at hSw); have q1 := HE1.out; have q2 := HE2.out; have q3 := HE3.out; go_simp; try with_reducible rfl)
 try simp only [Act.put, List.setIfInBounds_toArray, List.set_cons_zero, List.set_cons_succ]
 refine wpAnyH_take (i := 13) (oi := ⟨_, _, _, _, _, _⟩) (v := ?_) rfl (by kernel_rfl) (by kernel_rfl) (by kernel_rfl) (fun _ _ _ h => h) (Or.inl ⟨by rfl, ?_⟩) hHeld ?_
 rotate_left 1
 ·
  (intro W hSw; (try dsimp only at hSw); have q1 := HE1.out; have q2 := HE2.out; have q3 := HE3.out; go_simp; try with_reducible rfl)
 try simp only [Act.put, List.setIfInBounds_toArray, List.set_cons_zero, List.set_cons_succ]
 refine wpAnyH_take (i := 15) (oi := ⟨_, _, _, _, _, _⟩) (v := ?_) rfl (by kernel_rfl) (by kernel_rfl) (by kernel_rfl) (fun _ _ _ h => h) (Or.inl ⟨by rfl, ?_⟩) hHeld ?_
 rotate_left 1
 ·
  (intro W hSw; (try dsimp only at hSw); have q1 := HE1.out; have q2 := HE2.out; have q3 := HE3.out; go_simp; try with_reducible rfl)
 try simp only [Act.put, List.setIfInBounds_toArray, List.set_cons_zero, List.set_cons_succ]
 refine wpAnyH_take (i := 16) (oi := ⟨_, _, _, _, _, _⟩) (v := ?_) rfl (by kernel_rfl) (by kernel_rfl) (by kernel_rfl) (fun _ _ _ h => h) (Or.inl ⟨by rfl, ?_⟩) hHeld ?_
 rotate_left 1
 ·
  (intro W hSw; (try dsimp only at hSw); have q1 := HE1.out; have q2 := HE2.out; have q3 := HE3.out; go_simp; try with_reducible rfl)
 try simp only [Act.put, List.setIfInBounds_toArray, List.set_cons_zero, List.set_cons_succ]
 refine wpAnyH_take (i := 17) (oi := ⟨_, _, _, _, _, _⟩) (v := ?_) rfl (by kernel_rfl) (by kernel_rfl) (by kernel_rfl) (fun _ _ _ h => h) (Or.inl ⟨by rfl, ?_⟩) hHeld ?_
 rotate_left 1
 ·
  (intro W hSw; (try dsimp only at hSw); have q1 := HE1.out; have q2 := HE2.out; have q3 := HE3.out; go_simp; try with_reducible rfl)
 try simp only [Act.put, List.setIfInBounds_toArray, List.set_cons_zero, List.set_cons_succ]
 refine wpAnyH_take (i := 18) (oi := ⟨_, _, _, _, _, _⟩) (v := ?_) rfl (by kernel_rfl) (by kernel_rfl) (by kernel_rfl) (fun _ _ _ h => h) (Or.inl ⟨by rfl, ?_⟩) hHeld ?_
 rotate_left 1
 ·
  (intro W hSw; (try dsimp only at hSw); have q1 := HE1.out; have q2 := HE2.out; have q3 := HE3.out; go_simp; try with_reducible rfl)
 try simp only [Act.put, List.setIfInBounds_toArray, List.set_cons_zero, List.set_cons_succ]
 refine wpAnyH_take (i := 19) (oi := ⟨_, _, _, _, _, _⟩) (v := ?_) rfl (by kernel_rfl) (by kernel_rfl) (by kernel_rfl) (fun _ _ _ h => h) (Or.inl ⟨by rfl, ?_⟩) hHeld ?_
 rotate_left 1
 ·
  (intro W hSw; (try dsimp only at hSw); have q1 := HE1.out; have q2 := HE2.out; have q3 := HE3.out; go_simp; try with_reducible rfl)
 try simp only [Act.put, List.setIfInBounds_toArray, List.set_cons_zero, List.set_cons_succ]
 replace hHeld : Below w3.heap.size w3 w3.drew := hHeld
 generalize w3.drew = wd at *
 refine wpAnyH_ready (rs := [6]) (by kernel_rfl) (by simp) ?_
 refine AllReadyH.cons (o := ⟨_, _, _, _, _, _⟩) rfl (fun K hK => ?_) AllReadyH.nil
 go_simp
 go_at_call 40
 refine (HNO.out _ (HB3.out.trans (hHeld.mono HB3.out.size))).mono ?_
 rintro e wn ⟨rfl, hbx⟩
 try go_wp2_with fail
 refine hK.out _ _ (hHeld.trans (hbx.mono hHeld.size)) (fun hHeld => ?_)
 clear hK K hbx
 try simp only [Act.put, List.setIfInBounds_toArray, List.set_cons_zero, List.set_cons_succ]
 refine wpAnyH_ready (rs := [14]) (by kernel_rfl) (by simp) ?_
 refine AllReadyH.cons (o := ⟨_, _, _, _, _, _⟩) rfl (fun K hK => ?_) AllReadyH.nil
 go_simp
 go_at_call 43
 refine (HTA.out _).mono ?_
 rintro e wn ⟨rfl, hbx⟩
 try go_wp2_with fail
 refine hK.out _ _ (hHeld.trans (hbx.mono hHeld.size)) (fun hHeld => ?_)
 clear hK K hbx
 try simp only [Act.put, List.setIfInBounds_toArray, List.set_cons_zero, List.set_cons_succ]
 refine wpAnyH_take (i := 20) (oi := ⟨_, _, _, _, _, _⟩) (v := ?_) rfl (by kernel_rfl) (by kernel_rfl) (by kernel_rfl) (fun _ _ _ h => h) (Or.inl ⟨by rfl, ?_⟩) hHeld ?_
 rotate_left 1
 ·
  (intro W hSw; (try dsimp only at hSw); have hq := HQ.out; go_simp; try with_reducible rfl)
 try simp only [Act.put, List.setIfInBounds_toArray, List.set_cons_zero, List.set_cons_succ]
 refine wpAnyH_take (i := 21) (oi := ⟨_, _, _, _, _, _⟩) (v := ?_) rfl (by kernel_rfl) (by kernel_rfl) (by kernel_rfl) (fun _ _ _ h => h) (Or.inl ⟨by rfl, ?_⟩) hHeld ?_
 rotate_left 1
 ·
  (intro W hSw; (try dsimp only at hSw); go_simp; try with_reducible rfl)
 try simp only [Act.put, List.setIfInBounds_toArray, List.set_cons_zero, List.set_cons_succ]
 refine wpAnyH_done (by kernel_rfl) ?_ _
 refine NoPanic.normal ?_
 have hfin := HB3.out.trans (hHeld.mono HB3.out.size)
 clear hxi x1 x2 x3 x6 x4 x5 hlen e5
 go_wp2
 go_ret3
 exact ropost_no HZ.out HH.out hfin
set_option maxRecDepth 100000 in
set_option maxHeartbeats 1000000 in
theorem rhopen_ok {w : World} {gm u0 : Nat} {S : List UInt8} (h : RHalf w gm u0 S) (_hS : S.length = 32) (n : Nat) (b : List UInt8) (hn : b.length = n) (hm : n < 100000) (hu : u0 < 1000) (hp : partsE b = ((b.getD 0 0).toNat, b.drop 5, 0)) (hcz : cutE b = (b.take n, [], 0)) (h5 : 5 ≤ n) (hk : (b.getD 0 0).toNat = 23) (hf : ¬ n - 5 < 16) (ht : tagE (keyL 4 (keyH S)) 11 (nonceH (ivH S) u0) ((b.drop 5).take (n - 5 - 16)) (b.take 5) = (b.drop 5).drop (n - 5 - 16)) :
  Calls Tryd.prog 21 #[.pointer (some ⟨gm, 0, none⟩), .string ⟨b.toArray⟩] w (ROPost (openOut (keyL 4 (keyH S)) (ivH S) u0 b) w gm u0 S) := by
 have HZ := Lib.hid (show openOut (keyL 4 (keyH S)) (ivH S) u0 b = (withinE (maskE (keyL 4 (keyH S)) 11 (nonceH (ivH S) u0) ((b.drop 5).take (n - 5 - 16))), true) by
  unfold openOut
  rw [hp, if_neg (by simp), if_neg (by simpa using hk), if_neg (by
   rw [List.length_drop, hn]
   intro h
   exact h.elim (fun h => hf h) (fun h => h ht))]
  rw [List.length_drop, hn])
 have hc := rcut_e n b w hn (Nat.lt_trans hm (by decide))
 rw [hcz] at hc
 have HC := Lib.hid hc
 obtain ⟨x, hx⟩ : ∃ x, x = b.getD 0 0 := ⟨_, rfl⟩
 have q0 : 0 < b.length := by omega
 have s0 := str_get b 0 q0
 rw [← hx] at s0 hk
 have hd : (x.toNat : Int) = 23 := by omega
 have hlen : (b.length : Int) = (n : Int) := by omega
 have e1 : 0 < n := by omega
 have e5 : (5 : Int) ≤ (n : Int) := by omega
 have HU := Lib.hid (show ¬ (1000 : Int) ≤ (u0 : Int) by omega)
 have hey := extract_from b 5 b.length (Nat.le_refl _)
 have hla := fun (W : World) => refLabel_any 16 S keyN [] W (by omega) (by decide) (by decide) (by decide)
 simp only [show expand S (labelInfo keyN [] 16) 16 = keyH S from rfl] at hla
 have hkl : (keyH S).length = 4 * 4 := expand_length S (labelInfo keyN [] 16) 16
 have hxl : (b.drop 5).length = n - 5 := by rw [List.length_drop, hn]
 obtain ⟨X, hX⟩ : ∃ X, X = b.drop 5 := ⟨_, rfl⟩
 rw [← hX] at hey hxl
 have HC0 := Lib.hid (fun (W : World) (hb : Below w.heap.size w W) => (h.below hb).c0)
 have HC1 := Lib.hid (fun (W : World) (hb : Below w.heap.size w W) => (h.below hb).c1)
 have HLA := Lib.hid hla
 have HH := Lib.hid h
 obtain ⟨nx, hnx⟩ : ∃ nx, nx = n - 5 := ⟨_, rfl⟩
 obtain ⟨mm, hmm⟩ : ∃ mm, mm = nx - 16 := ⟨_, rfl⟩
 have hnl : (nonceH (ivH S) u0).length = 12 := nonceH_length _ _ (expand_length _ _ _)
 have hcl : (X.take mm).length = mm := by rw [List.length_take, hxl]; omega
 have hl5 : (b.take 5).length = 5 := by rw [List.length_take, hn]; omega
 have hno := fun (W : World) (hb : Below w.heap.size w W) => rnonce_e (h.below hb) _hS (Nat.lt_trans hu (by decide))
 have hta := fun (W : World) => rtag_e 4 mm 5 (.inl rfl) (keyH S) (nonceH (ivH S) u0) (X.take mm) (b.take 5) W hkl hnl hcl hl5 (by omega) (by decide)
 change ∀ W, Calls _ _ _ W fun e w' => e = .returned (.string ⟨(tagE (keyL 4 (keyH S)) 11 (nonceH (ivH S) u0) (X.take mm) (b.take 5)).toArray⟩) ∧ _ at hta
 have HE1 := Lib.hid (extract_str X mm)
 have HE2 := Lib.hid (extract_str b 5)
 have HE3 := Lib.hid (extract_from X mm X.length (Nat.le_refl _))
 have HXI := Lib.hid (show (X.length : Int) = (nx : Int) ∧ decide ((nx : Int) < 16) = false ∧ (nx : Int) - 16 = (mm : Int) ∧ wrap64 (mm : Int) = (mm : Int) ∧ IntKind.i64.wrap (mm : Int) = (mm : Int) ∧ (0 : Int) ≤ (mm : Int) ∧ (mm : Int) ≤ (nx : Int) by rw [hxl, hnx.symm]; refine ⟨rfl, decide_eq_false (by omega), by omega, by unfold wrap64; omega, by rw [IntKind.wrap_i64]; omega, by omega, by omega⟩)
 have HLB := Lib.hid (And.intro hlen e5)
 have htu := fun (W : World) => turn_e 4 mm (.inl rfl) (keyH S) (nonceH (ivH S) u0) (X.take mm) W hkl hnl hcl (by omega)
 change ∀ W, Calls _ _ _ W fun e w' => e = .returned (.string ⟨(maskE (keyL 4 (keyH S)) 11 (nonceH (ivH S) u0) (X.take mm)).toArray⟩) ∧ _ at htu
 have hil : (maskE (keyL 4 (keyH S)) 11 (nonceH (ivH S) u0) (X.take mm)).length = mm := by rw [maskE_length, hcl]
 rw [← hX, ← hnx, ← hmm] at ht
 rw [← hX, ← hnx, ← hmm] at HZ
 rw [← ht] at HE3
 obtain ⟨u1, hu1⟩ : ∃ u1, u1 = u0 + 1 := ⟨_, rfl⟩
 have HNX := Lib.hid (fun (W : World) (hb : Below w.heap.size w W) => (show RHalf (W.setCell ⟨gm, 1, none⟩ (.int .i64 (u1 : Int))) gm u1 S by rw [hu1]; exact (h.below hb).next))
 have HFR := Lib.hid (fun (W : World) (hb : Below w.heap.size w W) => (h.below hb).half.frozen 1)
 have HU2 := Lib.hid (show (u0 : Int) + 1 = (u1 : Int) ∧ wrap64 (u1 : Int) = (u1 : Int) by rw [hu1]; exact ⟨by omega, by unfold wrap64; omega⟩)
 have HU3 := Lib.hid hu1
 have HMB := Lib.hid (show mm < 100000 by omega)
 generalize tagE (keyL 4 (keyH S)) 11 (nonceH (ivH S) u0) (X.take mm) (b.take 5) = tg at *
 generalize openOut (keyL 4 (keyH S)) (ivH S) u0 b = OO at *
 generalize maskE (keyL 4 (keyH S)) 11 (nonceH (ivH S) u0) (X.take mm) = IN at *
 generalize nonceH (ivH S) u0 = NO at *
 clear ht
 generalize X.take mm = XT at *
 generalize b.take 5 = B5 at *
 generalize b.take n = q at *
 generalize keyH S = KY at *
 have HQ := Lib.hid (show True from trivial)
 have HNO := Lib.hid hno
 have HTA := Lib.hid hta
 have HTU := Lib.hid htu
 have HIL := Lib.hid hil
 clear hc hp hcz hk hn hm h h5 hx hla hkl hxl hX hf hnx hmm hu hnl hcl hl5 hno hta hu1 htu hil
 go_enter Tryd.func21, Tryd.ntmps21
 go_upto_region 6 with (go_at_call 44; refine HC.out.mono ?_; rintro e w2 ⟨rfl, hb2⟩)
 have hcc := HC1.out _ hb2
 have hu9 := HU.out
 go_upto_region 8 with (fail)
 clear hcc hu9
 have hcc := HC0.out _ hb2
 go_upto_region 9 with (go_at_call 17; refine (HLA.out _).mono ?_; rintro e w3 ⟨rfl, hb3⟩)
 have HB3 := Lib.hid (hb2.trans (hb3.mono hb2.size))
 clear hcc hb2 hb3
 go_upto_region 10 with (fail)
 clear hey s0 hd e1 e5 hlen
 obtain ⟨hxi, x1, x2, x3, x6, x4, x5⟩ := HXI.out
 obtain ⟨hlen, e5⟩ := HLB.out
 refine wp_region_noPanic ?_
 refine wp_region_held_drew (S := fun W => Below w3.heap.size w3 W) (by kernel_rfl) (by exact below_drewN (Below.refl _ _) 1) (fun hHeld => ?_)
 refine wpAnyH_take (i := 0) (oi := ⟨_, _, _, _, _, _⟩) (v := ?_) rfl (by kernel_rfl) (by kernel_rfl) (by kernel_rfl) (fun _ _ _ h => h) (Or.inl ⟨by rfl, ?_⟩) hHeld ?_
 rotate_left 1
 ·
  (intro W hSw; (try dsimp only at hSw); go_simp; try with_reducible rfl)
 try simp only [Act.put, List.setIfInBounds_toArray, List.set_cons_zero, List.set_cons_succ]
 refine wpAnyH_take (i := 1) (oi := ⟨_, _, _, _, _, _⟩) (v := ?_) rfl (by kernel_rfl) (by kernel_rfl) (by kernel_rfl) (fun _ _ _ h => h) (Or.inl ⟨by rfl, ?_⟩) hHeld ?_
 rotate_left 1
 ·
  (intro W hSw; (try dsimp only at hSw); go_simp; try with_reducible rfl)
 try simp only [Act.put, List.setIfInBounds_toArray, List.set_cons_zero, List.set_cons_succ]
 refine wpAnyH_take (i := 2) (oi := ⟨_, _, _, _, _, _⟩) (v := ?_) rfl (by kernel_rfl) (by kernel_rfl) (by kernel_rfl) (fun _ _ _ h => h) (Or.inl ⟨by rfl, ?_⟩) hHeld ?_
 rotate_left 1
 ·
  (intro W hSw; (try dsimp only at hSw); go_simp; try with_reducible rfl)
 try simp only [Act.put, List.setIfInBounds_toArray, List.set_cons_zero, List.set_cons_succ]
 refine wpAnyH_take (i := 3) (oi := ⟨_, _, _, _, _, _⟩) (v := ?_) rfl (by kernel_rfl) (by kernel_rfl) (by kernel_rfl) (fun _ _ _ h => h) (Or.inl ⟨by rfl, ?_⟩) hHeld ?_
 rotate_left 1
 ·
  (intro W hSw; (try dsimp only at hSw); go_simp; try with_reducible rfl)
 try simp only [Act.put, List.setIfInBounds_toArray, List.set_cons_zero, List.set_cons_succ]
 refine wpAnyH_take (i := 4) (oi := ⟨_, _, _, _, _, _⟩) (v := ?_) rfl (by kernel_rfl) (by kernel_rfl) (by kernel_rfl) (fun _ _ _ h => h) (Or.inl ⟨by rfl, ?_⟩) hHeld ?_
 rotate_left 1
 ·
  (intro W hSw; (try dsimp only at hSw); go_simp; try with_reducible rfl)
 try simp only [Act.put, List.setIfInBounds_toArray, List.set_cons_zero, List.set_cons_succ]
 refine wpAnyH_take (i := 5) (oi := ⟨_, _, _, _, _, _⟩) (v := ?_) rfl (by kernel_rfl) (by kernel_rfl) (by kernel_rfl) (fun _ _ _ h => h) (Or.inl ⟨by rfl, ?_⟩) hHeld ?_
 rotate_left 1
 ·
  (intro W hSw; (try dsimp only at hSw); go_simp; try with_reducible rfl)
 try simp only [Act.put, List.setIfInBounds_toArray, List.set_cons_zero, List.set_cons_succ]
 refine wpAnyH_take (i := 7) (oi := ⟨_, _, _, _, _, _⟩) (v := ?_) rfl (by kernel_rfl) (by kernel_rfl) (by kernel_rfl) (fun _ _ _ h => h) (Or.inl ⟨by rfl, ?_⟩) hHeld ?_
 rotate_left 1
 ·
  (intro W hSw; (try dsimp only at hSw); have q1 := HE1.out; have q2 := HE2.out; have q3 := HE3.out; go_simp; try with_reducible rfl)
 try simp only [Act.put, List.setIfInBounds_toArray, List.set_cons_zero, List.set_cons_succ]
 refine wpAnyH_take (i := 8) (oi := ⟨_, _, _, _, _, _⟩) (v := ?_) rfl (by kernel_rfl) (by kernel_rfl) (by kernel_rfl) (fun _ _ _ h => h) (Or.inl ⟨by rfl, ?_⟩) hHeld ?_
 rotate_left 1
 ·
  (intro W hSw; (try dsimp only at hSw); have q1 := HE1.out; have q2 := HE2.out; have q3 := HE3.out; go_simp; try with_reducible rfl)
 try simp only [Act.put, List.setIfInBounds_toArray, List.set_cons_zero, List.set_cons_succ]
 refine wpAnyH_take (i := 9) (oi := ⟨_, _, _, _, _, _⟩) (v := ?_) rfl (by kernel_rfl) (by kernel_rfl) (by kernel_rfl) (fun _ _ _ h => h) (Or.inl ⟨by rfl, ?_⟩) hHeld ?_
 rotate_left 1
 ·
  (intro W hSw; (try dsimp only at hSw); have q1 := HE1.out; have q2 := HE2.out; have q3 := HE3.out; go_simp; try with_reducible rfl)
 try simp only [Act.put, List.setIfInBounds_toArray, List.set_cons_zero, List.set_cons_succ]
 refine wpAnyH_take (i := 10) (oi := ⟨_, _, _, _, _, _⟩) (v := ?_) rfl (by kernel_rfl) (by kernel_rfl) (by kernel_rfl) (fun _ _ _ h => h) (Or.inl ⟨by rfl, ?_⟩) hHeld ?_
 rotate_left 1
 ·
  (intro W hSw; (try dsimp only at hSw); have q1 := HE1.out; have q2 := HE2.out; have q3 := HE3.out; go_simp; try with_reducible rfl)
 try simp only [Act.put, List.setIfInBounds_toArray, List.set_cons_zero, List.set_cons_succ]
 refine wpAnyH_take (i := 11) (oi := ⟨_, _, _, _, _, _⟩) (v := ?_) rfl (by kernel_rfl) (by kernel_rfl) (by kernel_rfl) (fun _ _ _ h => h) (Or.inl ⟨by rfl, ?_⟩) hHeld ?_
 rotate_left 1
 ·
  (intro W hSw; (try dsimp only at hSw); have q1 := HE1.out; have q2 := HE2.out; have q3 := HE3.out; go_simp; try with_reducible rfl)
 try simp only [Act.put, List.setIfInBounds_toArray, List.set_cons_zero, List.set_cons_succ]
 refine wpAnyH_take (i := 12) (oi := ⟨_, _, _, _, _, _⟩) (v := ?_) rfl (by kernel_rfl) (by kernel_rfl) (by kernel_rfl) (fun _ _ _ h => h) (Or.inl ⟨by rfl, ?_⟩) hHeld ?_
 rotate_left 1
 ·
  (intro W hSw; (try dsimp only at hSw); have q1 := HE1.out; have q2 := HE2.out; have q3 := HE3.out; go_simp; try with_reducible rfl)
 try simp only [Act.put, List.setIfInBounds_toArray, List.set_cons_zero, List.set_cons_succ]
 refine wpAnyH_take (i := 13) (oi := ⟨_, _, _, _, _, _⟩) (v := ?_) rfl (by kernel_rfl) (by kernel_rfl) (by kernel_rfl) (fun _ _ _ h => h) (Or.inl ⟨by rfl, ?_⟩) hHeld ?_
 rotate_left 1
 ·
  (intro W hSw; (try dsimp only at hSw); have q1 := HE1.out; have q2 := HE2.out; have q3 := HE3.out; go_simp; try with_reducible rfl)
 try simp only [Act.put, List.setIfInBounds_toArray, List.set_cons_zero, List.set_cons_succ]
 refine wpAnyH_take (i := 15) (oi := ⟨_, _, _, _, _, _⟩) (v := ?_) rfl (by kernel_rfl) (by kernel_rfl) (by kernel_rfl) (fun _ _ _ h => h) (Or.inl ⟨by rfl, ?_⟩) hHeld ?_
 rotate_left 1
 ·
  (intro W hSw; (try dsimp only at hSw); have q1 := HE1.out; have q2 := HE2.out; have q3 := HE3.out; go_simp; try with_reducible rfl)
 try simp only [Act.put, List.setIfInBounds_toArray, List.set_cons_zero, List.set_cons_succ]
 refine wpAnyH_take (i := 16) (oi := ⟨_, _, _, _, _, _⟩) (v := ?_) rfl (by kernel_rfl) (by kernel_rfl) (by kernel_rfl) (fun _ _ _ h => h) (Or.inl ⟨by rfl, ?_⟩) hHeld ?_
 rotate_left 1
 ·
  (intro W hSw; (try dsimp only at hSw); have q1 := HE1.out; have q2 := HE2.out; have q3 := HE3.out; go_simp; try with_reducible rfl)
 try simp only [Act.put, List.setIfInBounds_toArray, List.set_cons_zero, List.set_cons_succ]
 refine wpAnyH_take (i := 17) (oi := ⟨_, _, _, _, _, _⟩) (v := ?_) rfl (by kernel_rfl) (by kernel_rfl) (by kernel_rfl) (fun _ _ _ h => h) (Or.inl ⟨by rfl, ?_⟩) hHeld ?_
 rotate_left 1
 ·
  (intro W hSw; (try dsimp only at hSw); have q1 := HE1.out; have q2 := HE2.out; have q3 := HE3.out; go_simp; try with_reducible rfl)
 try simp only [Act.put, List.setIfInBounds_toArray, List.set_cons_zero, List.set_cons_succ]
 refine wpAnyH_take (i := 18) (oi := ⟨_, _, _, _, _, _⟩) (v := ?_) rfl (by kernel_rfl) (by kernel_rfl) (by kernel_rfl) (fun _ _ _ h => h) (Or.inl ⟨by rfl, ?_⟩) hHeld ?_
 rotate_left 1
 ·
  (intro W hSw; (try dsimp only at hSw); have q1 := HE1.out; have q2 := HE2.out; have q3 := HE3.out; go_simp; try with_reducible rfl)
 try simp only [Act.put, List.setIfInBounds_toArray, List.set_cons_zero, List.set_cons_succ]
 refine wpAnyH_take (i := 19) (oi := ⟨_, _, _, _, _, _⟩) (v := ?_) rfl (by kernel_rfl) (by kernel_rfl) (by kernel_rfl) (fun _ _ _ h => h) (Or.inl ⟨by rfl, ?_⟩) hHeld ?_
 rotate_left 1
 ·
  (intro W hSw; (try dsimp only at hSw); have q1 := HE1.out; have q2 := HE2.out; have q3 := HE3.out; go_simp; try with_reducible rfl)
 try simp only [Act.put, List.setIfInBounds_toArray, List.set_cons_zero, List.set_cons_succ]
 replace hHeld : Below w3.heap.size w3 w3.drew := hHeld
 generalize w3.drew = wd at *
 refine wpAnyH_ready (rs := [6]) (by kernel_rfl) (by simp) ?_
 refine AllReadyH.cons (o := ⟨_, _, _, _, _, _⟩) rfl (fun K hK => ?_) AllReadyH.nil
 go_simp
 go_at_call 40
 refine (HNO.out _ (HB3.out.trans (hHeld.mono HB3.out.size))).mono ?_
 rintro e wn ⟨rfl, hbx⟩
 try go_wp2_with fail
 refine hK.out _ _ (hHeld.trans (hbx.mono hHeld.size)) (fun hHeld => ?_)
 clear hK K hbx
 try simp only [Act.put, List.setIfInBounds_toArray, List.set_cons_zero, List.set_cons_succ]
 refine wpAnyH_ready (rs := [14]) (by kernel_rfl) (by simp) ?_
 refine AllReadyH.cons (o := ⟨_, _, _, _, _, _⟩) rfl (fun K hK => ?_) AllReadyH.nil
 go_simp
 go_at_call 43
 refine (HTA.out _).mono ?_
 rintro e wn ⟨rfl, hbx⟩
 try go_wp2_with fail
 refine hK.out _ _ (hHeld.trans (hbx.mono hHeld.size)) (fun hHeld => ?_)
 clear hK K hbx
 try simp only [Act.put, List.setIfInBounds_toArray, List.set_cons_zero, List.set_cons_succ]
 refine wpAnyH_take (i := 20) (oi := ⟨_, _, _, _, _, _⟩) (v := ?_) rfl (by kernel_rfl) (by kernel_rfl) (by kernel_rfl) (fun _ _ _ h => h) (Or.inl ⟨by rfl, ?_⟩) hHeld ?_
 rotate_left 1
 ·
  (intro W hSw; (try dsimp only at hSw); have hq := HQ.out; go_simp; try with_reducible rfl)
 try simp only [Act.put, List.setIfInBounds_toArray, List.set_cons_zero, List.set_cons_succ]
 refine wpAnyH_take (i := 21) (oi := ⟨_, _, _, _, _, _⟩) (v := ?_) rfl (by kernel_rfl) (by kernel_rfl) (by kernel_rfl) (fun _ _ _ h => h) (Or.inl ⟨by rfl, ?_⟩) hHeld ?_
 rotate_left 1
 ·
  (intro W hSw; (try dsimp only at hSw); go_simp; try with_reducible rfl)
 try simp only [Act.put, List.setIfInBounds_toArray, List.set_cons_zero, List.set_cons_succ]
 refine wpAnyH_done (by kernel_rfl) ?_ _
 refine NoPanic.normal ?_
 replace hHeld : Below w3.heap.size w3 wn := hHeld
 have HB4 := Lib.hid (HB3.out.trans (hHeld.mono HB3.out.size))
 clear hHeld HB3 hlen e5 x1
 go_upto_region 12 with (fail)
 refine wp_region_noPanic ?_
 refine wp_region_held_drew (S := fun W => Below wn.heap.size wn W) (by kernel_rfl) (by exact below_drewN (Below.refl _ _) 1) (fun hHeld => ?_)
 refine wpAnyH_take (i := 0) (oi := ⟨_, _, _, _, _, _⟩) (v := ?_) rfl (by kernel_rfl) (by kernel_rfl) (by kernel_rfl) (fun _ _ _ h => h) (Or.inl ⟨by rfl, ?_⟩) hHeld ?_
 rotate_left 1
 ·
  (intro W hSw; (try dsimp only at hSw); go_simp; try with_reducible rfl)
 try simp only [Act.put, List.setIfInBounds_toArray, List.set_cons_zero, List.set_cons_succ]
 refine wpAnyH_take (i := 1) (oi := ⟨_, _, _, _, _, _⟩) (v := ?_) rfl (by kernel_rfl) (by kernel_rfl) (by kernel_rfl) (fun _ _ _ h => h) (Or.inl ⟨by rfl, ?_⟩) hHeld ?_
 rotate_left 1
 ·
  (intro W hSw; (try dsimp only at hSw); go_simp; try with_reducible rfl)
 try simp only [Act.put, List.setIfInBounds_toArray, List.set_cons_zero, List.set_cons_succ]
 refine wpAnyH_take (i := 3) (oi := ⟨_, _, _, _, _, _⟩) (v := ?_) rfl (by kernel_rfl) (by kernel_rfl) (by kernel_rfl) (fun _ _ _ h => h) (Or.inl ⟨by rfl, ?_⟩) hHeld ?_
 rotate_left 1
 ·
  (intro W hSw; (try dsimp only at hSw); have q1 := HE1.out; have q2 := HE2.out; have q3 := HE3.out; go_simp; try with_reducible rfl)
 try simp only [Act.put, List.setIfInBounds_toArray, List.set_cons_zero, List.set_cons_succ]
 refine wpAnyH_take (i := 4) (oi := ⟨_, _, _, _, _, _⟩) (v := ?_) rfl (by kernel_rfl) (by kernel_rfl) (by kernel_rfl) (fun _ _ _ h => h) (Or.inl ⟨by rfl, ?_⟩) hHeld ?_
 rotate_left 1
 ·
  (intro W hSw; (try dsimp only at hSw); have q1 := HE1.out; have q2 := HE2.out; have q3 := HE3.out; go_simp; try with_reducible rfl)
 try simp only [Act.put, List.setIfInBounds_toArray, List.set_cons_zero, List.set_cons_succ]
 refine wpAnyH_take (i := 5) (oi := ⟨_, _, _, _, _, _⟩) (v := ?_) rfl (by kernel_rfl) (by kernel_rfl) (by kernel_rfl) (fun _ _ _ h => h) (Or.inl ⟨by rfl, ?_⟩) hHeld ?_
 rotate_left 1
 ·
  (intro W hSw; (try dsimp only at hSw); have q1 := HE1.out; have q2 := HE2.out; have q3 := HE3.out; go_simp; try with_reducible rfl)
 try simp only [Act.put, List.setIfInBounds_toArray, List.set_cons_zero, List.set_cons_succ]
 refine wpAnyH_take (i := 6) (oi := ⟨_, _, _, _, _, _⟩) (v := ?_) rfl (by kernel_rfl) (by kernel_rfl) (by kernel_rfl) (fun _ _ _ h => h) (Or.inl ⟨by rfl, ?_⟩) hHeld ?_
 rotate_left 1
 ·
  (intro W hSw; (try dsimp only at hSw); have q1 := HE1.out; have q2 := HE2.out; have q3 := HE3.out; go_simp; try with_reducible rfl)
 try simp only [Act.put, List.setIfInBounds_toArray, List.set_cons_zero, List.set_cons_succ]
 refine wpAnyH_take (i := 7) (oi := ⟨_, _, _, _, _, _⟩) (v := ?_) rfl (by kernel_rfl) (by kernel_rfl) (by kernel_rfl) (fun _ _ _ h => h) (Or.inl ⟨by rfl, ?_⟩) hHeld ?_
 rotate_left 1
 ·
  (intro W hSw; (try dsimp only at hSw); have q1 := HE1.out; have q2 := HE2.out; have q3 := HE3.out; go_simp; try with_reducible rfl)
 try simp only [Act.put, List.setIfInBounds_toArray, List.set_cons_zero, List.set_cons_succ]
 replace hHeld : Below wn.heap.size wn wn.drew := hHeld
 generalize wn.drew = wd at *
 refine wpAnyH_ready (rs := [2]) (by kernel_rfl) (by simp) ?_
 refine AllReadyH.cons (o := ⟨_, _, _, _, _, _⟩) rfl (fun K hK => ?_) AllReadyH.nil
 go_simp
 go_at_call 40
 refine (HNO.out _ (HB4.out.trans (hHeld.mono HB4.out.size))).mono ?_
 rintro e w5 ⟨rfl, hbx⟩
 try go_wp2_with fail
 refine hK.out _ _ (hHeld.trans (hbx.mono hHeld.size)) (fun hHeld => ?_)
 clear hK K hbx
 try simp only [Act.put, List.setIfInBounds_toArray, List.set_cons_zero, List.set_cons_succ]
 refine wpAnyH_ready (rs := [8]) (by kernel_rfl) (by simp) ?_
 refine AllReadyH.cons (o := ⟨_, _, _, _, _, _⟩) rfl (fun K hK => ?_) AllReadyH.nil
 go_simp
 go_at_call 42
 refine (HTU.out _).mono ?_
 rintro e w6 ⟨rfl, hbx⟩
 try go_wp2_with fail
 refine hK.out _ _ (hHeld.trans (hbx.mono hHeld.size)) (fun hHeld => ?_)
 clear hK K hbx
 try simp only [Act.put, List.setIfInBounds_toArray, List.set_cons_zero, List.set_cons_succ]
 refine wpAnyH_take (i := 9) (oi := ⟨_, _, _, _, _, _⟩) (v := ?_) rfl (by kernel_rfl) (by kernel_rfl) (by kernel_rfl) (fun _ _ _ h => h) (Or.inl ⟨by rfl, ?_⟩) hHeld ?_
 rotate_left 1
 ·
  (intro W hSw; (try dsimp only at hSw); go_simp; try with_reducible rfl)
 try simp only [Act.put, List.setIfInBounds_toArray, List.set_cons_zero, List.set_cons_succ]
 refine wpAnyH_done (by kernel_rfl) ?_ _
 refine NoPanic.normal ?_
 replace hHeld : Below wn.heap.size wn w6 := hHeld
 have HB6 := Lib.hid (HB4.out.trans (hHeld.mono HB4.out.size))
 clear hHeld hxi x2 x3 x6 x4 x5
 have hcc := HC1.out w6 HB6.out
 have hff := HFR.out w6 HB6.out
 obtain ⟨u2, u3⟩ := HU2.out
 go_upto_region 14 with (fail)
 have HX := Lib.hid (And.intro (HNX.out w6 HB6.out) (grown_setCell (grown_of_below HB6.out (some gm)) (p := ⟨gm, 1, none⟩) (.inl rfl) (.int .i64 (u1 : Int))))
 clear hcc hff u2 u3
 generalize w6.setCell ⟨gm, 1, none⟩ (.int .i64 (u1 : Int)) = w7 at *
 have hil : (IN.length : Int) = (mm : Int) := by rw [HIL.out]
 go_wp2
 clear hil
 go_loopw [14] (fun v wr => ∃ k : Nat, k ≤ mm ∧ v = .int .i64 (k : Int) ∧ Hid (stripTo IN IN.length = stripTo IN k) ∧ wr = w7) (fun v _ => (intOf v).toNat)
 case atStart => exact ⟨mm, Nat.le_refl _, rfl, by show _ = _; rw [HIL.out], rfl⟩
 case round =>
  obtain ⟨k, hk, rfl, HK, rfl⟩ := hrel
  cases k with
  | zero =>
   have HZZ := Lib.hid (show OO = ((0, [], 2), true) by rw [HZ.out]; unfold withinE; rw [if_pos (by rw [HK.out]; rfl)])
   rw [show ((0 : Nat) : Int) = 0 from rfl]
   go_wp2
   go_ret3
   exact ropost_yes HZZ.out HX.out.1 HU3.out HX.out.2
  | succ j =>
   have hjm : j < IN.length := by rw [HIL.out]; omega
   obtain ⟨j1, p1, p2, p3, p4, p5, p6, p7, p8, p9⟩ := ix_rj j mm (by omega) HMB.out
   rw [show (((j + 1 : Nat) : Nat) : Int) = (j1 : Int) by rw [p1]]
   have s0 := str_get IN j hjm
   obtain ⟨x, hx⟩ : ∃ x, x = IN.getD j 0 := ⟨_, rfl⟩
   rw [← hx] at s0
   obtain ⟨hs0, hs1⟩ := stripTo_step HK.out x hx
   obtain ⟨hx1, _, hx3, _⟩ := ix_byte x
   have HXV := Lib.hid hx
   have HJ := Lib.hid (show j ≤ mm by omega)
   have HMS := Lib.hid (show (intOf (.int .i64 (j : Int))).toNat < (intOf (.int .i64 (j1 : Int))).toNat by simp only [intOf]; rw [p1]; omega)
   have hil : (IN.length : Int) = (mm : Int) := by rw [HIL.out]
   clear hx hk HK p1
   by_cases h0 : x = 0
   ·
    have HS := Lib.hid (hs0 h0)
    have h0i : (x.toNat : Int) = 0 := by rw [h0]; rfl
    clear hs0 hs1 h0
    go_wp2
    go_roundw
    case rel => exact ⟨j, HJ.out, rfl, HS, trivial⟩
    case measure => exact HMS.out
   ·
    have HS := Lib.hid (hs1 h0)
    have h0i : ¬ (x.toNat : Int) = 0 := fun h => h0 (UInt8.toNat_inj.1 (by show x.toNat = 0; omega))
    clear hs0 hs1 h0
    by_cases hkd : kindB (x.toNat : Int) = true
    ·
     by_cases hbig : 16384 < j
     ·
      have HZZ := Lib.hid (show OO = ((0, [], 4), true) by rw [HZ.out]; unfold withinE; rw [HS.out, Nat.add_sub_cancel, ← HXV.out, if_neg (by omega), if_neg (by rw [hkd]; decide), if_pos hbig])
      have hd := ix_jb j hbig
      clear hbig
      go_wp2_with (go_at_call 39; refine (rkind_e _ _).mono ?_; rintro e w' ⟨rfl, hww⟩; have hw2 := hww.symm; subst hw2)
      go_ret3
      exact ropost_yes HZZ.out HX.out.1 HU3.out HX.out.2
     ·
      have HZZ := Lib.hid (show OO = ((x.toNat, IN.take j, 0), true) by rw [HZ.out]; unfold withinE; rw [HS.out, Nat.add_sub_cancel, ← HXV.out, if_neg (by omega), if_neg (by rw [hkd]; decide), if_neg hbig])
      have hd := ix_jb' j hbig
      have HEJ := Lib.hid (extract_str IN j)
      clear hbig
      go_upto_region 21 with (go_at_call 39; refine (rkind_e _ _).mono ?_; rintro e w' ⟨rfl, hww⟩; have hw2 := hww.symm; subst hw2)
      refine wp_region_noPanic ?_
      refine wp_region_held_drew (S := fun W => Below wr.heap.size wr W) (by kernel_rfl) (by exact below_drewN (Below.refl _ _) 1) (fun hHeld => ?_)
      refine wpAnyH_take (i := 0) (oi := ⟨_, _, _, _, _, _⟩) (v := ?_) rfl (by kernel_rfl) (by kernel_rfl) (by kernel_rfl) (fun _ _ _ h => h) (Or.inl ⟨by rfl, ?_⟩) hHeld ?_
      rotate_left 1
      ·
       (intro W hSw; (try dsimp only at hSw); go_simp; try with_reducible rfl)
      try simp only [Act.put, List.setIfInBounds_toArray, List.set_cons_zero, List.set_cons_succ]
      refine wpAnyH_take (i := 1) (oi := ⟨_, _, _, _, _, _⟩) (v := ?_) rfl (by kernel_rfl) (by kernel_rfl) (by kernel_rfl) (fun _ _ _ h => h) (Or.inl ⟨by rfl, ?_⟩) hHeld ?_
      rotate_left 1
      ·
       (intro W hSw; (try dsimp only at hSw); go_simp; try with_reducible rfl)
      try simp only [Act.put, List.setIfInBounds_toArray, List.set_cons_zero, List.set_cons_succ]
      refine wpAnyH_take (i := 2) (oi := ⟨_, _, _, _, _, _⟩) (v := ?_) rfl (by kernel_rfl) (by kernel_rfl) (by kernel_rfl) (fun _ _ _ h => h) (Or.inl ⟨by rfl, ?_⟩) hHeld ?_
      rotate_left 1
      ·
       (intro W hSw; (try dsimp only at hSw); go_simp; try with_reducible rfl)
      try simp only [Act.put, List.setIfInBounds_toArray, List.set_cons_zero, List.set_cons_succ]
      refine wpAnyH_take (i := 3) (oi := ⟨_, _, _, _, _, _⟩) (v := ?_) rfl (by kernel_rfl) (by kernel_rfl) (by kernel_rfl) (fun _ _ _ h => h) (Or.inl ⟨by rfl, ?_⟩) hHeld ?_
      rotate_left 1
      ·
       (intro W hSw; (try dsimp only at hSw); go_simp; try with_reducible rfl)
      try simp only [Act.put, List.setIfInBounds_toArray, List.set_cons_zero, List.set_cons_succ]
      refine wpAnyH_take (i := 4) (oi := ⟨_, _, _, _, _, _⟩) (v := ?_) rfl (by kernel_rfl) (by kernel_rfl) (by kernel_rfl) (fun _ _ _ h => h) (Or.inl ⟨by rfl, ?_⟩) hHeld ?_
      rotate_left 1
      ·
       (intro W hSw; (try dsimp only at hSw); go_simp; try with_reducible rfl)
      try simp only [Act.put, List.setIfInBounds_toArray, List.set_cons_zero, List.set_cons_succ]
      refine wpAnyH_take (i := 5) (oi := ⟨_, _, _, _, _, _⟩) (v := ?_) rfl (by kernel_rfl) (by kernel_rfl) (by kernel_rfl) (fun _ _ _ h => h) (Or.inl ⟨by rfl, ?_⟩) hHeld ?_
      rotate_left 1
      ·
       (intro W hSw; (try dsimp only at hSw); go_simp; try with_reducible rfl)
      try simp only [Act.put, List.setIfInBounds_toArray, List.set_cons_zero, List.set_cons_succ]
      refine wpAnyH_take (i := 6) (oi := ⟨_, _, _, _, _, _⟩) (v := ?_) rfl (by kernel_rfl) (by kernel_rfl) (by kernel_rfl) (fun _ _ _ h => h) (Or.inl ⟨by rfl, ?_⟩) hHeld ?_
      rotate_left 1
      ·
       (intro W hSw; (try dsimp only at hSw); go_simp; try with_reducible rfl)
      try simp only [Act.put, List.setIfInBounds_toArray, List.set_cons_zero, List.set_cons_succ]
      refine wpAnyH_take (i := 7) (oi := ⟨_, _, _, _, _, _⟩) (v := ?_) rfl (by kernel_rfl) (by kernel_rfl) (by kernel_rfl) (fun _ _ _ h => h) (Or.inl ⟨by rfl, ?_⟩) hHeld ?_
      rotate_left 1
      ·
       (intro W hSw; (try dsimp only at hSw); go_simp; try with_reducible rfl)
      try simp only [Act.put, List.setIfInBounds_toArray, List.set_cons_zero, List.set_cons_succ]
      refine wpAnyH_take (i := 8) (oi := ⟨_, _, _, _, _, _⟩) (v := ?_) rfl (by kernel_rfl) (by kernel_rfl) (by kernel_rfl) (fun _ _ _ h => h) (Or.inl ⟨by rfl, ?_⟩) hHeld ?_
      rotate_left 1
      ·
       (intro W hSw; (try dsimp only at hSw); have q1 := HEJ.out; go_simp; try with_reducible rfl)
      try simp only [Act.put, List.setIfInBounds_toArray, List.set_cons_zero, List.set_cons_succ]
      refine wpAnyH_take (i := 9) (oi := ⟨_, _, _, _, _, _⟩) (v := ?_) rfl (by kernel_rfl) (by kernel_rfl) (by kernel_rfl) (fun _ _ _ h => h) (Or.inl ⟨by rfl, ?_⟩) hHeld ?_
      rotate_left 1
      ·
       (intro W hSw; (try dsimp only at hSw); go_simp; try with_reducible rfl)
      try simp only [Act.put, List.setIfInBounds_toArray, List.set_cons_zero, List.set_cons_succ]
      refine wpAnyH_take (i := 10) (oi := ⟨_, _, _, _, _, _⟩) (v := ?_) rfl (by kernel_rfl) (by kernel_rfl) (by kernel_rfl) (fun _ _ _ h => h) (Or.inl ⟨by rfl, ?_⟩) hHeld ?_
      rotate_left 1
      ·
       (intro W hSw; (try dsimp only at hSw); go_simp; try with_reducible rfl)
      try simp only [Act.put, List.setIfInBounds_toArray, List.set_cons_zero, List.set_cons_succ]
      refine wpAnyH_take (i := 11) (oi := ⟨_, _, _, _, _, _⟩) (v := ?_) rfl (by kernel_rfl) (by kernel_rfl) (by kernel_rfl) (fun _ _ _ h => h) (Or.inl ⟨by rfl, ?_⟩) hHeld ?_
      rotate_left 1
      ·
       (intro W hSw; (try dsimp only at hSw); go_simp; try with_reducible rfl)
      try simp only [Act.put, List.setIfInBounds_toArray, List.set_cons_zero, List.set_cons_succ]
      refine wpAnyH_done (by kernel_rfl) ?_ _
      refine NoPanic.normal ?_
      replace hHeld : Below wr.heap.size wr wr.drew := hHeld
      have HXX := Lib.hid (And.intro (HX.out.1.below hHeld) (grown_low2 HX.out.2 hHeld))
      clear hHeld
      generalize wr.drew = w9 at *
      go_wp2
      go_ret3
      exact ropost_yes HZZ.out HXX.out.1 HU3.out HXX.out.2
    ·
     have hkf : kindB (x.toNat : Int) = false := by simpa using hkd
     have HZZ := Lib.hid (show OO = ((0, [], 2), true) by rw [HZ.out]; unfold withinE; rw [HS.out, Nat.add_sub_cancel, ← HXV.out, if_neg (by omega), if_pos hkf])
     clear hkd
     go_wp2_with (go_at_call 39; refine (rkind_e _ _).mono ?_; rintro e w' ⟨rfl, hww⟩; have hw2 := hww.symm; subst hw2)
     go_ret3
     exact ropost_yes HZZ.out HX.out.1 HU3.out HX.out.2
end Go.Proofs.YtnjpcbbdhimacaaDoor
