/-
 What a half's Open tells, in all its ways.
-/
import Derived.Test.YtnjpcbbdhimacaaDoorRh6
namespace Go.Proofs.YtnjpcbbdhimacaaDoor
open Go.RowKit

set_option maxRecDepth 100000 in
set_option maxHeartbeats 1000000 in
theorem hopen_parts {w : World} {gh gx gk gr R u0 : Nat} {L : List UInt32} {iv : List UInt8} (h : HalfAt w gh gx gk gr R L iv u0) (n c : Nat) (A : Option Addr) (b : List UInt8) (hn : b.length = n) (iB : In w w.heap.size A c b) (he : (partsE b).2.2 ≠ 0) :
  Calls Tryd.prog 11 #[.pointer (some ⟨gh, 0, none⟩), .slice A n c] w fun e w' => e = .returned (.tuple #[.int .i64 0, .slice none 0 0, .int .i64 ((partsE b).2.2 : Int)]) ∧ Below w.heap.size w w' := by
 have HEM := Lib.hid (hempty_no h)
 have HPA := Lib.hid (parts_e A c n b w hn iB)
 obtain ⟨er, her⟩ : ∃ er, er = (partsE b).2.2 := ⟨_, rfl⟩
 rw [← her] at HPA he ⊢
 generalize (partsE b).1 = k at *
 generalize (partsE b).2.1 = X at *
 have hd : ¬ (er : Int) = 0 := by omega
 clear h hn iB her he
 go_enter Tryd.func11, Tryd.ntmps11
 go_wp2_with (first
  | (go_at_call 30; refine HEM.out.mono ?_; rintro e w' ⟨rfl, hww⟩; have hw2 := hww.symm; subst hw2)
  | (go_at_call 34; refine HPA.out.mono ?_; rintro e w2 ⟨A2, n2, c2, rfl, hn2, hI, hbw⟩))
 go_ret3
 exact ⟨rfl, hbw⟩
set_option maxRecDepth 100000 in
set_option maxHeartbeats 1000000 in
theorem hopen_kind {w : World} {gh gx gk gr R u0 : Nat} {L : List UInt32} {iv : List UInt8} (h : HalfAt w gh gx gk gr R L iv u0) (n c : Nat) (A : Option Addr) (b : List UInt8) (hn : b.length = n) (iB : In w w.heap.size A c b) (he : (partsE b).2.2 = 0) (hk : (partsE b).1 ≠ 23) :
  Calls Tryd.prog 11 #[.pointer (some ⟨gh, 0, none⟩), .slice A n c] w fun e w' => e = .returned (.tuple #[.int .i64 0, .slice none 0 0, .int .i64 2]) ∧ Below w.heap.size w w' := by
 have HEM := Lib.hid (hempty_no h)
 have hpa := parts_e A c n b w hn iB
 rw [he] at hpa
 have HPA := Lib.hid hpa
 generalize (partsE b).1 = k at *
 generalize (partsE b).2.1 = X at *
 have hd : ¬ (k : Int) = 23 := by omega
 clear h hn iB he hk hpa
 go_enter Tryd.func11, Tryd.ntmps11
 go_wp2_with (first
  | (go_at_call 30; refine HEM.out.mono ?_; rintro e w' ⟨rfl, hww⟩; have hw2 := hww.symm; subst hw2)
  | (go_at_call 34; refine HPA.out.mono ?_; rintro e w2 ⟨A2, n2, c2, rfl, hn2, hI, hbw⟩))
 go_ret3
 exact ⟨rfl, hbw⟩
set_option maxRecDepth 100000 in
set_option maxHeartbeats 1000000 in
theorem hopen_mac {w : World} {gh gx gk gr R u0 : Nat} {L : List UInt32} {iv : List UInt8} (h : HalfAt w gh gx gk gr R L iv u0) (n nx c : Nat) (A : Option Addr) (b X : List UInt8) (hn : b.length = n) (iB : In w w.heap.size A c b) (hp : partsE b = (23, X, 0)) (hx : X.length = nx) (hb9 : n < 100000) (h5 : 5 ≤ n) (hnx : nx ≤ n) (hu : u0 < 1000) (hm : nx < 16 ∨ tagE L R (nonceH iv u0) (X.take (nx - 16)) (b.take 5) ≠ X.drop (nx - 16)) :
  Calls Tryd.prog 11 #[.pointer (some ⟨gh, 0, none⟩), .slice A n c] w fun e w' => e = .returned (.tuple #[.int .i64 0, .slice none 0 0, .int .i64 5]) ∧ Below w.heap.size w w' := by
 have HEM := Lib.hid (hempty_no h)
 have HUS := Lib.hid (ix_used u0 hu)
 have hns := nonceH_length iv u0 h.len
 have hl5 : (b.take 5).length = 5 := by rw [List.length_take]; omega
 have i5 := iB.take 5
 have hpa := parts_e A c n b w hn iB
 rw [hp] at hpa
 have HPA := Lib.hid (show Calls Tryd.prog 34 #[.slice A n c] w fun e w' => ∃ A' n' c', e = .returned (.tuple #[.int .i64 23, .slice A' n' c', .int .i64 0]) ∧ X.length = n' ∧ In w' w'.heap.size A' c' X ∧ Below w.heap.size w w' from hpa)
 have HNO := Lib.hid (fun (W : World) (hb : Below w.heap.size w W) => nonce_e (h.below hb) (by omega))
 have kop : ∀ (W : World) (hb : Below w.heap.size w W) (As : Option Addr) (cs : Nat) (is : In W W.heap.size As cs X), Calls Tryd.prog 35 #[.pointer (some ⟨gx, 0, none⟩), BV (nonceH iv u0), .slice As nx cs, .slice A 5 c] W fun e w' => e = .returned (.tuple #[.slice none 0 0, .int .i64 5]) ∧ Below W.heap.size W w' := fun W hb As cs is => by
  by_cases h16 : nx < 16
  ·
   exact open_few gx gk gr R nx cs L As _ _ W (h.box.below hb) h16
  ·
   have hmac := hm.resolve_left h16
   have hX : X.take (nx - 16) ++ X.drop (nx - 16) = X := List.take_append_drop _ _
   exact (open_e gx gk gr R nx (nx - 16) 5 cs c As A L (nonceH iv u0) (X.take (nx - 16)) (X.drop (nx - 16)) (b.take 5) W (h.box.below hb) hns (by rw [hX]; exact is) (in_up i5 hb) (by rw [List.length_take]; omega) (by rw [List.length_drop]; omega) (by omega) hl5 (by omega) (by omega)).mono fun e w' ⟨hb, hh⟩ => hh.elim (fun h => absurd h.1 hmac) (fun h => ⟨h.2, hb⟩)
 have HOP := Lib.hid kop
 have q8 := HUS.out.1
 have HUU := Lib.hid (fun (W : World) (hb : Below w.heap.size w W) => (h.below hb).used)
 have HC0 := Lib.hid (fun (W : World) (hb : Below w.heap.size w W) => (h.below hb).first)
 generalize nonceH iv u0 = N1 at *
 obtain ⟨ga, oa, rfl, _, _⟩ := iB.2.2 (by omega)
 have hnc : (5 : Int) ≤ (c : Int) := by have := iB.1; omega
 have hn5 : (5 : Int) ≤ (n : Int) := by omega
 have HXN := Lib.hid hx
 clear hns hl5 i5 hpa kop hm hp hx hb9 h5 hnx hu hn iB h
 go_enter Tryd.func11, Tryd.ntmps11
 go_upto_region 8 with (first
  | (go_at_call 30; refine HEM.out.mono ?_; rintro e w' ⟨rfl, hww⟩; have hw2 := hww.symm; subst hw2)
  | (go_at_call 34; refine HPA.out.mono ?_; rintro e w2 ⟨A2, n2, c2, rfl, hn2, hI, hbw⟩))
 have hn3 : n2 = nx := hn2.symm.trans HXN.out
 subst hn3
 have hus := HUU.out _ hbw
 go_upto_region 10 with (fail)
 clear hus hn2
 refine wp_region_noPanic ?_
 refine wp_region_held_drew (S := fun W => Below w2.heap.size w2 W) (by kernel_rfl) (by exact below_drewN (Below.refl _ _) 1) (fun hHeld => ?_)
 refine wpAnyH_take (i := 0) (oi := ⟨_, _, _, _, _, _⟩) (v := ?_) rfl (by kernel_rfl) (by kernel_rfl) (by kernel_rfl) (fun _ _ _ h => h) (Or.inl ⟨by rfl, ?_⟩) hHeld ?_
 rotate_left 1
 ·
  (intro W hSw; (try dsimp only at hSw); go_simp; try with_reducible rfl)
 try simp only [Act.put, List.setIfInBounds_toArray, List.set_cons_zero, List.set_cons_succ]
 refine wpAnyH_take (i := 1) (oi := ⟨_, _, _, _, _, _⟩) (v := ?_) rfl (by kernel_rfl) (by kernel_rfl) (by kernel_rfl) (fun _ _ _ h => h) (Or.inl ⟨by rfl, ?_⟩) hHeld ?_
 rotate_left 1
 ·
  (intro W hSw; (try dsimp only at hSw); go_simp; try with_reducible rfl)
 try simp only [Act.put, List.setIfInBounds_toArray, List.set_cons_zero, List.set_cons_succ]
 refine wpAnyH_take (i := 2) (oi := ⟨_, _, _, _, _, _⟩) (v := ?_) rfl (by kernel_rfl) (by kernel_rfl) (by kernel_rfl) (fun _ _ _ h => h) (Or.inl ⟨by rfl, ?_⟩) hHeld ?_
 rotate_left 1
 ·
  (intro W hSw; (try dsimp only at hSw); go_simp; try with_reducible rfl)
 try simp only [Act.put, List.setIfInBounds_toArray, List.set_cons_zero, List.set_cons_succ]
 refine wpAnyH_take (i := 3) (oi := ⟨_, _, _, _, _, _⟩) (v := ?_) rfl (by kernel_rfl) (by kernel_rfl) (by kernel_rfl) (fun _ _ _ h => h) (Or.inl ⟨by rfl, ?_⟩) hHeld ?_
 rotate_left 1
 ·
  (intro W hSw; (try dsimp only at hSw); have hcc := HC0.out W (hbw.trans (hSw.mono hbw.size)); go_simp; try with_reducible rfl)
 try simp only [Act.put, List.setIfInBounds_toArray, List.set_cons_zero, List.set_cons_succ]
 refine wpAnyH_take (i := 4) (oi := ⟨_, _, _, _, _, _⟩) (v := ?_) rfl (by kernel_rfl) (by kernel_rfl) (by kernel_rfl) (fun _ _ _ h => h) (Or.inl ⟨by rfl, ?_⟩) hHeld ?_
 rotate_left 1
 ·
  (intro W hSw; (try dsimp only at hSw); go_simp; try with_reducible rfl)
 try simp only [Act.put, List.setIfInBounds_toArray, List.set_cons_zero, List.set_cons_succ]
 refine wpAnyH_take (i := 6) (oi := ⟨_, _, _, _, _, _⟩) (v := ?_) rfl (by kernel_rfl) (by kernel_rfl) (by kernel_rfl) (fun _ _ _ h => h) (Or.inl ⟨by rfl, ?_⟩) hHeld ?_
 rotate_left 1
 ·
  (intro W hSw; (try dsimp only at hSw); go_simp; try with_reducible rfl)
 try simp only [Act.put, List.setIfInBounds_toArray, List.set_cons_zero, List.set_cons_succ]
 refine wpAnyH_take (i := 7) (oi := ⟨_, _, _, _, _, _⟩) (v := ?_) rfl (by kernel_rfl) (by kernel_rfl) (by kernel_rfl) (fun _ _ _ h => h) (Or.inl ⟨by rfl, ?_⟩) hHeld ?_
 rotate_left 1
 ·
  (intro W hSw; (try dsimp only at hSw); go_simp; try with_reducible rfl)
 try simp only [Act.put, List.setIfInBounds_toArray, List.set_cons_zero, List.set_cons_succ]
 refine wpAnyH_take (i := 8) (oi := ⟨_, _, _, _, _, _⟩) (v := ?_) rfl (by kernel_rfl) (by kernel_rfl) (by kernel_rfl) (fun _ _ _ h => h) (Or.inl ⟨by rfl, ?_⟩) hHeld ?_
 rotate_left 1
 ·
  (intro W hSw; (try dsimp only at hSw); go_simp; try with_reducible rfl)
 try simp only [Act.put, List.setIfInBounds_toArray, List.set_cons_zero, List.set_cons_succ]
 replace hHeld : Below w2.heap.size w2 w2.drew := hHeld
 generalize w2.drew = wd at *
 refine wpAnyH_ready (rs := [5]) (by kernel_rfl) (by simp) ?_
 refine AllReadyH.cons (o := ⟨_, _, _, _, _, _⟩) rfl (fun K hK => ?_) AllReadyH.nil
 go_simp
 go_at_call 33
 refine (HNO.out _ (hbw.trans (hHeld.mono hbw.size))).mono ?_
 rintro e w3 ⟨rfl, hbx⟩
 try go_wp2_with fail
 refine hK.out _ _ (hHeld.trans (hbx.mono hHeld.size)) (fun hHeld => ?_)
 clear hK K hbx
 try simp only [Act.put, List.setIfInBounds_toArray, List.set_cons_zero, List.set_cons_succ]
 refine wpAnyH_ready (rs := [9]) (by kernel_rfl) (by simp) ?_
 refine AllReadyH.cons (o := ⟨_, _, _, _, _, _⟩) rfl (fun K hK => ?_) AllReadyH.nil
 go_simp
 go_at_call 35
 refine (HOP.out _ (hbw.trans (hHeld.mono hbw.size)) _ _ (in_up hI hHeld)).mono ?_
 rintro e w4 ⟨rfl, hbx⟩
 try go_wp2_with fail
 refine hK.out _ _ (hHeld.trans (hbx.mono hHeld.size)) (fun hHeld => ?_)
 clear hK K hbx
 try simp only [Act.put, List.setIfInBounds_toArray, List.set_cons_zero, List.set_cons_succ]
 refine wpAnyH_take (i := 10) (oi := ⟨_, _, _, _, _, _⟩) (v := ?_) rfl (by kernel_rfl) (by kernel_rfl) (by kernel_rfl) (fun _ _ _ h => h) (Or.inl ⟨by rfl, ?_⟩) hHeld ?_
 rotate_left 1
 ·
  (intro W hSw; (try dsimp only at hSw); go_simp; try with_reducible rfl)
 try simp only [Act.put, List.setIfInBounds_toArray, List.set_cons_zero, List.set_cons_succ]
 refine wpAnyH_take (i := 11) (oi := ⟨_, _, _, _, _, _⟩) (v := ?_) rfl (by kernel_rfl) (by kernel_rfl) (by kernel_rfl) (fun _ _ _ h => h) (Or.inl ⟨by rfl, ?_⟩) hHeld ?_
 rotate_left 1
 ·
  (intro W hSw; (try dsimp only at hSw); go_simp; try with_reducible rfl)
 try simp only [Act.put, List.setIfInBounds_toArray, List.set_cons_zero, List.set_cons_succ]
 refine wpAnyH_take (i := 12) (oi := ⟨_, _, _, _, _, _⟩) (v := ?_) rfl (by kernel_rfl) (by kernel_rfl) (by kernel_rfl) (fun _ _ _ h => h) (Or.inl ⟨by rfl, ?_⟩) hHeld ?_
 rotate_left 1
 ·
  (intro W hSw; (try dsimp only at hSw); go_simp; try with_reducible rfl)
 try simp only [Act.put, List.setIfInBounds_toArray, List.set_cons_zero, List.set_cons_succ]
 refine wpAnyH_take (i := 13) (oi := ⟨_, _, _, _, _, _⟩) (v := ?_) rfl (by kernel_rfl) (by kernel_rfl) (by kernel_rfl) (fun _ _ _ h => h) (Or.inl ⟨by rfl, ?_⟩) hHeld ?_
 rotate_left 1
 ·
  (intro W hSw; (try dsimp only at hSw); go_simp; try with_reducible rfl)
 try simp only [Act.put, List.setIfInBounds_toArray, List.set_cons_zero, List.set_cons_succ]
 refine wpAnyH_take (i := 14) (oi := ⟨_, _, _, _, _, _⟩) (v := ?_) rfl (by kernel_rfl) (by kernel_rfl) (by kernel_rfl) (fun _ _ _ h => h) (Or.inl ⟨by rfl, ?_⟩) hHeld ?_
 rotate_left 1
 ·
  (intro W hSw; (try dsimp only at hSw); go_simp; try with_reducible rfl)
 try simp only [Act.put, List.setIfInBounds_toArray, List.set_cons_zero, List.set_cons_succ]
 refine wpAnyH_done (by kernel_rfl) ?_ _
 refine NoPanic.normal ?_
 have hfin := hbw.trans (hHeld.mono hbw.size)
 go_wp2
 go_ret3
 exact ⟨rfl, hfin⟩
def openOut (L : List UInt32) (V : List UInt8) (u : Nat) (b : List UInt8) : (Nat × List UInt8 × Nat) × Bool :=
 if (partsE b).2.2 ≠ 0 then ((0, [], (partsE b).2.2), false) else if (partsE b).1 ≠ 23 then ((0, [], 2), false)
 else if (partsE b).2.1.length < 16 ∨ tagE L 11 (nonceH V u) ((partsE b).2.1.take ((partsE b).2.1.length - 16)) (b.take 5) ≠ (partsE b).2.1.drop ((partsE b).2.1.length - 16) then ((0, [], 5), false)
 else (withinE (maskE L 11 (nonceH V u) ((partsE b).2.1.take ((partsE b).2.1.length - 16))), true)
def usedO (o : Bool) (u : Nat) : Nat := if o = true then u + 1 else u
theorem parts_fine {b : List UInt8} (h : (partsE b).2.2 = 0) : 5 ≤ b.length ∧ (partsE b).2.1 = b.drop 5 ∧ (partsE b).1 = (b.getD 0 0).toNat := by
 unfold partsE at *
 split at h
 ·
  rename_i h1; exact absurd h h1
 ·
  rename_i h1
  have h2 := sizeE_fine (b := b) (by simpa using h1)
  split at h
  ·
   simp at h
  ·
   rename_i h3
   refine ⟨h2.1, ?_, ?_⟩
   ·
    rw [if_neg h1, if_neg h3]
   ·
    rw [if_neg h1, if_neg h3]
theorem hopen_all {w : World} {gh gx gk gr u0 : Nat} {L : List UInt32} {iv : List UInt8} (h : HalfAt w gh gx gk gr 11 L iv u0) (n c : Nat) (A : Option Addr) (b : List UInt8) (hn : b.length = n) (iB : In w w.heap.size A c b) (hb9 : n < 100000) (hu : u0 < 1000) :
  Calls Tryd.prog 11 #[.pointer (some ⟨gh, 0, none⟩), .slice A n c] w fun e w' => ∃ A' n' c', e = .returned (.tuple #[.int .i64 ((openOut L iv u0 b).1.1 : Int), .slice A' n' c', .int .i64 ((openOut L iv u0 b).1.2.2 : Int)]) ∧ (openOut L iv u0 b).1.2.1.length = n' ∧ In w' w'.heap.size A' c' (openOut L iv u0 b).1.2.1 ∧ HalfAt w' gh gx gk gr 11 L iv (usedO (openOut L iv u0 b).2 u0) ∧ w.grownBy w' (some gh) := by
 unfold openOut usedO
 by_cases h1 : (partsE b).2.2 ≠ 0
 ·
  rw [if_pos h1]
  exact (hopen_parts h n c A b hn iB h1).mono fun e w' ⟨he, hb⟩ => ⟨none, 0, 0, he, rfl, in_nil _ _ (by decide) none, h.below hb, grown_of_below hb _⟩
 ·
  rw [if_neg h1]
  have h0 : (partsE b).2.2 = 0 := by simpa using h1
  obtain ⟨h5, hX, _⟩ := parts_fine h0
  by_cases h2 : (partsE b).1 ≠ 23
  ·
   rw [if_pos h2]
   exact (hopen_kind h n c A b hn iB h0 h2).mono fun e w' ⟨he, hb⟩ => ⟨none, 0, 0, he, rfl, in_nil _ _ (by decide) none, h.below hb, grown_of_below hb _⟩
  ·
   rw [if_neg h2]
   have hk : (partsE b).1 = 23 := by simpa using h2
   have hp : partsE b = (23, (partsE b).2.1, 0) := by rw [← hk, ← h0]
   have hxl : (partsE b).2.1.length ≤ n := by rw [hX, List.length_drop]; omega
   by_cases h3 : (partsE b).2.1.length < 16 ∨ tagE L 11 (nonceH iv u0) ((partsE b).2.1.take ((partsE b).2.1.length - 16)) (b.take 5) ≠ (partsE b).2.1.drop ((partsE b).2.1.length - 16)
   ·
    rw [if_pos h3]
    exact (hopen_mac h n _ c A b _ hn iB hp rfl hb9 (by omega) hxl hu h3).mono fun e w' ⟨he, hb⟩ => ⟨none, 0, 0, he, rfl, in_nil _ _ (by decide) none, h.below hb, grown_of_below hb _⟩
   ·
    rw [if_neg h3]
    have h16 : 16 ≤ (partsE b).2.1.length := by
     rcases Nat.lt_or_ge (partsE b).2.1.length 16 with h | h
     ·
      exact absurd (.inl h) h3
     ·
      exact h
    have ht : tagE L 11 (nonceH iv u0) ((partsE b).2.1.take ((partsE b).2.1.length - 16)) (b.take 5) = (partsE b).2.1.drop ((partsE b).2.1.length - 16) := Classical.not_not.1 fun h => h3 (.inr h)
    have hok := hopen_ok h n ((partsE b).2.1.length - 16) c A b ((partsE b).2.1.take ((partsE b).2.1.length - 16)) ((partsE b).2.1.drop ((partsE b).2.1.length - 16)) hn iB (by rw [List.take_append_drop]; exact hp) (by rw [List.length_take]; omega) (by rw [List.length_drop]; omega) ht hb9 (by omega) hu
    generalize withinE (maskE L 11 (nonceH iv u0) ((partsE b).2.1.take ((partsE b).2.1.length - 16))) = WI at *
    clear ht hp hX hk h0 h1 h2 h3 hxl h16
    exact hok.mono fun e w' ⟨A', n', c', he, hl, hi, hh, hg⟩ => ⟨A', n', c', he, hl, hi, hh, hg⟩
end Go.Proofs.YtnjpcbbdhimacaaDoor
