/-
 The walk of the statement RecordOpens.
-/
import Derived.Test.YtnjpcbbdhimacaaDoorRsr
namespace Go.Proofs.YtnjpcbbdhimacaaDoor
open Go.RowKit

theorem str_low {w w' : World} {base : Nat} {v : Value} {ls : List (List UInt8)} (h : StrRow w base v ls) (hg : w.grownBy w' v.ownBlock) (hb : base ≤ w.heap.size) : Below base w w' :=
 ⟨hg.os, hg.tape, hg.output, hg.size, fun k hk => hg.block k (Nat.lt_of_lt_of_le hk hb) (fun e => by have := (h.lt _ e.symm).1; omega)⟩
theorem str_more {w : World} {base : Nat} {v : Value} {ls : List (List UInt8)} {s : List UInt8} (h : w.ownsRow base 9 1 v (ls.length + 1) (ls.map sv ++ [sv s])) : StrRow w base v (ls ++ [s]) := by
 unfold StrRow
 rw [List.length_append, List.map_append]
 exact h
theorem RHalf.put {w : World} {gm u : Nat} {S : List UInt8} (h : RHalf w gm u S) (x : Nat) : RHalf (w.setCell ⟨gm, 1, none⟩ (.int .i64 (x : Int))) gm x S := ⟨by
 have := h.half.set_ 1 (.int .i64 (x : Int))
 exact this⟩
theorem buf_atX {w : World} {base g n c j : Nat} {bs : List UInt8} (h : Buf w base (some ⟨g, 0, none⟩) n c bs) (hj : j < n) : w.cell? ⟨g, j, none⟩ = some (.int .u8 ((bs.getD j 0).toNat : Int)) ∧ w.frozen? ⟨g, j, none⟩ = false := by
 rcases h.2 with ⟨_, hn, _⟩ | ⟨k, e, _, _, hnc, _, hby, hfr⟩
 ·
  omega
 ·
  cases e
  refine ⟨?_, (hfr j (by omega)).2⟩
  have := hby j (by rw [h.1]; exact hj)
  rwa [Nat.zero_add] at this
theorem HalfAt.grownB {w w' : World} {gh gx gk gr R u g : Nat} {L : List UInt32} {iv : List UInt8} (h : HalfAt w gh gx gk gr R L iv u) (hg : w.grownBy w' (some g)) (hn : gh ≠ g ∧ gx ≠ g ∧ gk ≠ g ∧ gr ≠ g) : HalfAt w' gh gx gk gr R L iv u :=
 ⟨h.half.grown hg (by simpa using hn.1), h.box.grown hg hn.2.1 hn.2.2.1 hn.2.2.2, h.len, h.far⟩
theorem in_grownX {w w' : World} {g c : Nat} {A : Option Addr} {xs : List UInt8} {s : ByteArray} {u : Int} (h : In w w.heap.size A c xs) (hg : w.grownBy w' (some g)) (hb : Blk w g 37 [.string s, .int .i64 u]) : In w' w'.heap.size A c xs :=
 ⟨h.1, h.2.1, fun h0 => by
  obtain ⟨gb, ob, e, hl, hby⟩ := h.2.2 h0
  have hne : gb ≠ g := fun e2 => by
   have h1 := hby 0 h0
   subst e2
   rw [hb.cell] at h1
   match ob, h1 with
   | 0, h1 => simp at h1
   | 1, h1 => simp at h1
   | n + 2, h1 => simp at h1
  exact ⟨gb, ob, e, Nat.lt_of_lt_of_le hl hg.size, fun j hj => (World.cell?_of_block (w := w) (hg.block gb hl (by simpa using hne))).trans (hby j hj)⟩⟩
theorem usedO_le {o : Bool} {u k k1 : Nat} (h : u ≤ k) (hk : k + 1 = k1) : usedO o u ≤ k1 := by unfold usedO; split <;> omega
theorem ix_x1000 (a : Int) : ∃ q : Nat, wrap64 ((IntKind.u64.wrap a).tmod 1000) = (q : Int) ∧ q < 1000 := by
 have hu0 : (0 : Int) ≤ IntKind.u64.wrap a := by rw [IntKind.wrap_u64]; omega
 refine ⟨(IntKind.u64.wrap a % 1000).toNat, ?_, by omega⟩
 rw [Int.tmod_eq_emod_of_nonneg hu0]
 unfold wrap64; omega
theorem ix_up10 (k np : Nat) (h : k < 10) (hn : k < np) : ∃ k1 : Nat, k1 = k + 1 ∧ (k : Int) + 1 = (k1 : Int) ∧ wrap64 (k1 : Int) = (k1 : Int) ∧ (k1 ≤ np ∧ k1 ≤ 10 ∧ np - k1 < np - k) ∧ (0 : Int) ≤ (k : Int) ∧ (k : Int) < (np : Int) ∧ (k : Int) < 10 := ⟨_, rfl, by omega, by unfold wrap64; omega, by omega, by omega, by omega, by omega⟩
theorem ix_modn (q n : Nat) (h : 0 < n) (hq : q < 1000) : ∃ j : Nat, (q : Int).tmod (n : Int) = (j : Int) ∧ wrap64 (j : Int) = (j : Int) ∧ (0 : Int) ≤ (j : Int) ∧ (j : Int) < (n : Int) ∧ j < n ∧ ¬ (n : Int) = 0 := by
 have h1 : q % n < n := Nat.mod_lt _ h
 have h2 : q % n ≤ q := Nat.mod_le _ _
 refine ⟨q % n, ?_, ?_, by omega, by omega, h1, by omega⟩
 ·
  rw [Int.tmod_eq_emod_of_nonneg (by omega)]; rfl
 ·
  generalize q % n = r at *; unfold wrap64; omega
def OpAt (w wr : World) (gS gm us k : Nat) (v : Value) (l : List (List UInt8)) (S : List UInt8) : Prop :=
 StrRow wr (gm + 1) v l ∧ LOK l ∧ RHalf wr gm us S ∧ us ≤ k ∧ Blk wr gS 22 (S.map B8) ∧ w.heap.size ≤ gm ∧ gS < gm ∧ Below w.heap.size w wr
theorem ix_min6 (lk ck : Nat) (h : lk ≤ ck) : ∃ n : Nat, min (lk : Int) 60 = (n : Int) ∧ (0 : Int) ≤ (n : Int) ∧ (n : Int) ≤ (ck : Int) ∧ n ≤ 60 ∧ n = min lk 60 := ⟨min lk 60, by omega, by omega, by omega, by omega, rfl⟩
theorem ix_up6 (k np : Nat) (h : k < 6) (hn : k < np) : ∃ k1 : Nat, k1 = k + 1 ∧ (k : Int) + 1 = (k1 : Int) ∧ wrap64 (k1 : Int) = (k1 : Int) ∧ (k1 ≤ np ∧ k1 ≤ 6 ∧ np - k1 < np - k) ∧ (0 : Int) ≤ (k : Int) ∧ (k : Int) < (np : Int) ∧ (k : Int) < 6 := ⟨_, rfl, by omega, by unfold wrap64; omega, by omega, by omega, by omega, by omega⟩
theorem ix_m16 (nb : Nat) (h : nb ≤ 60) : ∃ m : Nat, (nb : Int) + 16 = (m : Int) ∧ wrap64 (m : Int) = (m : Int) ∧ m < 65536 := ⟨nb + 16, by omega, by unfold wrap64; omega, by omega⟩
theorem ix_r4 (p : Int) : ∃ r : Int, p.tmod 4 = r ∧ wrap64 r = r := ⟨_, rfl, by
 have h : p.tmod 4 = p - 4 * (p.tdiv 4) := by have := Int.tmod_add_mul_tdiv p 4; omega
 have h1 : p.tmod 4 < 4 := Int.tmod_lt_of_pos p (by decide)
 have h2 : -4 < p.tmod 4 := Int.lt_tmod_of_pos p (by decide)
 unfold wrap64; omega⟩
theorem ix_k3 (a : Int) : ∃ q kd : Nat, (IntKind.u64.wrap a).tmod 3 = (q : Int) ∧ IntKind.u64.wrap (q : Int) = (q : Int) ∧ IntKind.i64.wrap (q : Int) = (q : Int) ∧ (21 : Int) + (q : Int) = (kd : Int) ∧ IntKind.i64.wrap (kd : Int) = (kd : Int) := by
 have hu0 : (0 : Int) ≤ IntKind.u64.wrap a := by rw [IntKind.wrap_u64]; omega
 have h3 : IntKind.u64.wrap a % 3 < 3 := by omega
 refine ⟨(IntKind.u64.wrap a % 3).toNat, 21 + (IntKind.u64.wrap a % 3).toNat, ?_, ?_, ?_, by omega, ?_⟩
 ·
  rw [Int.tmod_eq_emod_of_nonneg hu0, Int.toNat_of_nonneg (Int.emod_nonneg _ (by decide))]
 ·
  rw [IntKind.wrap_u64 ((IntKind.u64.wrap a % 3).toNat : Int)]; omega
 ·
  rw [IntKind.wrap_i64]; omega
 ·
  rw [IntKind.wrap_i64]; omega
theorem ix_p50 (a : Int) : ∃ q : Nat, (IntKind.u64.wrap a).tmod 50 = (q : Int) ∧ IntKind.u64.wrap (q : Int) = (q : Int) ∧ IntKind.i64.wrap (q : Int) = (q : Int) ∧ q < 50 := by
 have hu0 : (0 : Int) ≤ IntKind.u64.wrap a := by rw [IntKind.wrap_u64]; omega
 refine ⟨(IntKind.u64.wrap a % 50).toNat, ?_, ?_, ?_, by omega⟩
 ·
  rw [Int.tmod_eq_emod_of_nonneg hu0, Int.toNat_of_nonneg (Int.emod_nonneg _ (by decide))]
 ·
  rw [IntKind.wrap_u64 ((IntKind.u64.wrap a % 50).toNat : Int)]; omega
 ·
  rw [IntKind.wrap_i64]; omega
set_option maxRecDepth 100000 in
set_option maxHeartbeats 8000000 in
theorem recordOpens_walk (S : List UInt8) (A AO : Option Addr) (c co no : Nat) (ls : List LineV) (zs : List Int) (w : World) (hS : S.length = 32) (hA : LIn w w.heap.size A c ls) (iO : IIn w w.heap.size AO co no zs) (ht : Tabs w) :
  Calls Tryd.prog 4 #[BV S, .slice A ls.length c, .slice AO no co] w fun e w' => e = .returned (.bool true) ∧ Below w.heap.size w w' := by
 have HPI := Lib.hid hA
 have HIO := Lib.hid iO
 obtain ⟨np, hnp⟩ : ∃ np, np = ls.length := ⟨_, rfl⟩
 rw [← hnp]
 have HNP := Lib.hid hnp
 have HSL := Lib.hid hS
 have HT := Lib.hid ht
 have hla := fun (W : World) => refLabel_any 16 S keyN [] W (by omega) (by decide) (by decide) (by decide)
 simp only [show expand S (labelInfo keyN [] 16) 16 = keyH S from rfl] at hla
 have hkl : (keyH S).length = 4 * 4 := expand_length S (labelInfo keyN [] 16) 16
 have HRS := Lib.hid (fun (W : World) (g u : Nat) (h : RHalf W g u S) (k p : Int) (n : Nat) (b : List UInt8) (hn : b.length = n) (hm : n ≤ 200) (hu : u < 1000) => rhseal_all h hS k p n b hn hm hu)
 have HKL := Lib.hid hkl
 have HLA := Lib.hid hla
 clear hA iO hnp hS ht hla hkl
 go_enter Tryd.func4, Tryd.ntmps4
 go_upto_region 1 with (fail)
 have hA := Blk.new_of w 22 (S.map B8).toArray (S.map B8) rfl
 have hb0 : Below w.heap.size w (w.alloc (.cells (S.map B8).toArray 22)) := (Below.refl _ _).alloc (Nat.le_refl _) _
 obtain ⟨gS, hg⟩ : ∃ g, g = w.heap.size := ⟨_, rfl⟩
 rw [← hg] at hA
 simp only [← hg]
 have HBW := Lib.hid (show Below w.heap.size w (w.alloc (.cells (S.map B8).toArray 22)) from hb0)
 clear hg hb0
 generalize w.alloc (.cells (S.map B8).toArray 22) = w1 at *
 have hcv := conv_in HSL.out (in_blk hA HSL.out (by decide))
 go_upto_region 2 with (fail)
 clear hcv
 have hG : RHalf (w1.alloc (.cells #[.string ⟨S.toArray⟩, .int .i64 0] 37)) w1.heap.size 0 S := ⟨Blk.new_of _ _ _ _ rfl⟩
 have hb5 : Below w1.heap.size w1 (w1.alloc (.cells #[.string ⟨S.toArray⟩, .int .i64 0] 37)) := (Below.refl _ _).alloc (Nat.le_refl _) _
 have HL0 := Lib.hid (show OpAt w _ gS w1.heap.size 0 0 (.slice none 0 0) [] S from ⟨StrRow.nil _ _, fun s hs => absurd hs (by simp), hG, Nat.le_refl _, hA.below hb5 hA.lt, HBW.out.size, hA.lt, HBW.out.trans (hb5.mono HBW.out.size)⟩)
 clear hG hb5 hA HBW
 generalize w1.alloc (.cells #[.string ⟨S.toArray⟩, .int .i64 0] 37) = wc at *
 generalize w1.heap.size = gm at *
 go_wp2
 go_loopw [8, 9] (fun v i wr => ∃ (k us : Nat) (l : List (List UInt8)), k ≤ np ∧ k ≤ 6 ∧ l.length ≤ k ∧ i = .int .i64 (k : Int) ∧ OpAt w wr gS gm us k v l S) (fun _ i _ => np - (intOf i).toNat)
 case atStart => exact ⟨0, 0, [], Nat.zero_le _, Nat.zero_le _, Nat.zero_le _, rfl, HL0.out⟩
 case round =>
  clear HL0
  obtain ⟨k, us, l, hkn, hk6, hll, rfl, hp⟩ := hrel
  by_cases h68 : k < np ∧ k < 6
  ·
   skip
   ·
    as_aux_lemma =>
     obtain ⟨hlt, h8⟩ := h68
     have hd : decide (k < np) = true := by simpa using hlt
     have HP := Lib.hid hp
     clear hp
     obtain ⟨gp, op, hAe, hgp, hrow⟩ := HPI.out.2.2 (by rw [← HNP.out]; omega)
     obtain ⟨Ak, ck, g0, g1, g2, hIk⟩ := hrow k (by rw [← HNP.out]; exact hlt)
     generalize ls.getD k (0, [], 0) = lv at *
     obtain ⟨kv, B0, pv⟩ := lv
     obtain ⟨lk, hlk⟩ : ∃ lk, lk = B0.length := ⟨_, rfl⟩
     have g1' : w.cell? ⟨gp, op + k * 3 + 1, none⟩ = some (.slice Ak lk ck) := by rw [hlk]; exact g1
     have HCE := Lib.hid (fun (W : World) (hb : Below w.heap.size w W) => (show W.cell? ⟨gp, op + k * 3, none⟩ = some (.int .i64 kv) ∧ W.cell? ⟨gp, op + k * 3 + 1, none⟩ = some (.slice Ak lk ck) ∧ W.cell? ⟨gp, op + k * 3 + 2, none⟩ = some (.int .i64 pv) from
      ⟨(hb.cell (p := ⟨gp, op + k * 3, none⟩) hgp).trans g0, (hb.cell (p := ⟨gp, op + k * 3 + 1, none⟩) hgp).trans g1', (hb.cell (p := ⟨gp, op + k * 3 + 2, none⟩) hgp).trans g2⟩))
     have hlc := hIk.1
     simp only at hlc hIk
     rw [← hlk] at hlc
     have hB := hIk.take 60
     have HLN := Lib.hid (show l.length ≤ 6 from Nat.le_trans hll hk6)
     have HUK := Lib.hid (show k < 1000 from Nat.lt_trans h8 (by decide))
     obtain ⟨nb, ms, hnb0, hnbc, hnb1, hnb2⟩ := ix_min6 lk ck hlc
     have hBL : (B0.take 60).length = nb := by rw [List.length_take, ← hlk, hnb2]; exact Nat.min_comm _ _
     obtain ⟨k1, hk1, hk2, hk3, hk4, hk0, hkI, hk8⟩ := ix_up6 k np h8 hlt
     obtain ⟨r4, hr1, hr2⟩ := ix_r4 pv
     obtain ⟨z, hz⟩ : ∃ z, (r4 == (1 : Int)) = z := ⟨_, rfl⟩
     have HB := Lib.hid hB
     have HNB := Lib.hid hBL
     have HB3 := Lib.hid hnb1
     have HK1 := Lib.hid (And.intro hk4 (show k ≤ k1 ∧ l.length + 1 ≤ k1 ∧ l.length ≤ k1 by rw [hk1]; exact ⟨Nat.le_succ _, Nat.succ_le_succ hll, Nat.le_succ_of_le hll⟩))
     have HK3 := Lib.hid hk1
     have HK2 := Lib.hid (And.intro hk2 hk3)
     clear hB hBL hnb2 hlc hIk hlk g0 g1 g1' g2 hgp hrow hkn hk6 hll hlt h8 hk1 hk2 hk3 hk4 hnb1
     generalize B0.take 60 = B at *
     subst hAe
     obtain ⟨_, hc1, _⟩ := HCE.out wr HP.out.2.2.2.2.2.2.2
     go_upto_region 6 with (fail)
     clear hd hk8
     go_quiet (fail)
     have hqb : Below wr.heap.size wr (wr.drewN nq) := below_drewN (Below.refl _ _) nq
     have HP2 := Lib.hid (show OpAt w (wr.drewN nq) gS gm us k u8 l S from ⟨HP.out.1.below hqb, HP.out.2.1, HP.out.2.2.1.below hqb, HP.out.2.2.2.1, HP.out.2.2.2.2.1.below hqb HP.out.2.2.2.2.1.lt, HP.out.2.2.2.2.2.1, HP.out.2.2.2.2.2.2.1, HP.out.2.2.2.2.2.2.2.trans (hqb.mono HP.out.2.2.2.2.2.2.2.size)⟩)
     clear hqb HP ms hnb0 hnbc hc1
     generalize wr.drewN nq = w2 at *
     obtain ⟨_, _, hc2⟩ := HCE.out w2 HP2.out.2.2.2.2.2.2.2
     have HGM := Lib.hid (And.intro HP2.out.2.2.2.2.2.1 HP2.out.2.2.2.2.2.2.1)
     obtain ⟨hRW, hLK, hR, hus, hS, _, _, hbw⟩ := HP2.out
     have HLK := Lib.hid hLK
     have HUS := Lib.hid hus
     have hne : u8.ownBlock ≠ some gm := fun e => by have := (hRW.lt _ e).1; omega
     have HNE := Lib.hid hne
     clear HP2 hLK hus hne
     cases z
     ·
      as_aux_lemma =>
       go_upto_region 13 with (fail)
       clear hc2 hr1 hr2 hz
       have hcc := hR.c1
       have hff := hR.half.frozen 1
       go_upto_region 14 with (fail)
       have hgs := grown_setCell (grown_refl w2 (some gm)) (p := ⟨gm, 1, none⟩) (.inl rfl) (.int .i64 (k : Int))
       replace hRW := hRW.grown hgs HNE.out
       replace hR := hR.put k
       replace hS := hS.grown hgs (by have := HGM.out.2; simp; omega)
       replace hbw := below_new hbw hgs HGM.out.1 hbw.size
       clear hcc hff hgs
       generalize w2.setCell ⟨gm, 1, none⟩ (.int .i64 (k : Int)) = w3 at *
       obtain ⟨q3, kd, t1, t2, t3, t4, t5⟩ := ix_k3 kv
       obtain ⟨q5, t6, t7, t8, t9⟩ := ix_p50 pv
       have HQ5 := Lib.hid t9
       clear t9
       refine wp_region_noPanic ?_
       refine wp_region_held_drew (S := fun W => Below w.heap.size w W) (by kernel_rfl) (by exact below_drewN hbw 1) (fun hHeld => ?_)
       refine wpAnyH_take (i := 0) (oi := ⟨_, _, _, _, _, _⟩) (v := ?_) rfl (by kernel_rfl) (by kernel_rfl) (by kernel_rfl) (fun _ _ _ h => h) (Or.inl ⟨by rfl, ?_⟩) hHeld ?_
       rotate_left 1
       ·
        (intro W hSw; (try dsimp only at hSw); go_simp; try with_reducible rfl)
       try simp only [Act.put, List.setIfInBounds_toArray, List.set_cons_zero, List.set_cons_succ]
       refine wpAnyH_take (i := 1) (oi := ⟨_, _, _, _, _, _⟩) (v := ?_) rfl (by kernel_rfl) (by kernel_rfl) (by kernel_rfl) (fun _ _ _ h => h) (Or.inl ⟨by rfl, ?_⟩) hHeld ?_
       rotate_left 1
       ·
        (intro W hSw; (try dsimp only at hSw); go_simp; try with_reducible rfl)
       try simp only [Act.put, List.setIfInBounds_toArray, List.set_cons_zero, List.set_cons_succ]
       refine wpAnyH_take (i := 2) (oi := ⟨_, _, _, _, _, _⟩) (v := ?_) rfl (by kernel_rfl) (by kernel_rfl) (by kernel_rfl) (fun _ _ _ h => h) (Or.inl ⟨by rfl, ?_⟩) hHeld ?_
       rotate_left 1
       ·
        (intro W hSw; (try dsimp only at hSw); go_simp; try with_reducible rfl)
       try simp only [Act.put, List.setIfInBounds_toArray, List.set_cons_zero, List.set_cons_succ]
       refine wpAnyH_take (i := 3) (oi := ⟨_, _, _, _, _, _⟩) (v := ?_) rfl (by kernel_rfl) (by kernel_rfl) (by kernel_rfl) (fun _ _ _ h => h) (Or.inl ⟨by rfl, ?_⟩) hHeld ?_
       rotate_left 1
       ·
        (intro W hSw; (try dsimp only at hSw); go_simp; try with_reducible rfl)
       try simp only [Act.put, List.setIfInBounds_toArray, List.set_cons_zero, List.set_cons_succ]
       refine wpAnyH_take (i := 4) (oi := ⟨_, _, _, _, _, _⟩) (v := ?_) rfl (by kernel_rfl) (by kernel_rfl) (by kernel_rfl) (fun _ _ _ h => h) (Or.inl ⟨by rfl, ?_⟩) hHeld ?_
       rotate_left 1
       ·
        (intro W hSw; (try dsimp only at hSw); go_simp; try with_reducible rfl)
       try simp only [Act.put, List.setIfInBounds_toArray, List.set_cons_zero, List.set_cons_succ]
       refine wpAnyH_take (i := 5) (oi := ⟨_, _, _, _, _, _⟩) (v := ?_) rfl (by kernel_rfl) (by kernel_rfl) (by kernel_rfl) (fun _ _ _ h => h) (Or.inl ⟨by rfl, ?_⟩) hHeld ?_
       rotate_left 1
       ·
        (intro W hSw; (try dsimp only at hSw); obtain ⟨e0, _, _⟩ := HCE.out W hSw; go_simp; try with_reducible rfl)
       try simp only [Act.put, List.setIfInBounds_toArray, List.set_cons_zero, List.set_cons_succ]
       refine wpAnyH_take (i := 6) (oi := ⟨_, _, _, _, _, _⟩) (v := ?_) rfl (by kernel_rfl) (by kernel_rfl) (by kernel_rfl) (fun _ _ _ h => h) (Or.inl ⟨by rfl, ?_⟩) hHeld ?_
       rotate_left 1
       ·
        (intro W hSw; (try dsimp only at hSw); go_simp; try with_reducible rfl)
       try simp only [Act.put, List.setIfInBounds_toArray, List.set_cons_zero, List.set_cons_succ]
       refine wpAnyH_take (i := 7) (oi := ⟨_, _, _, _, _, _⟩) (v := ?_) rfl (by kernel_rfl) (by kernel_rfl) (by kernel_rfl) (fun _ _ _ h => h) (Or.inl ⟨by rfl, ?_⟩) hHeld ?_
       rotate_left 1
       ·
        (intro W hSw; (try dsimp only at hSw); go_simp; try with_reducible rfl)
       try simp only [Act.put, List.setIfInBounds_toArray, List.set_cons_zero, List.set_cons_succ]
       refine wpAnyH_take (i := 8) (oi := ⟨_, _, _, _, _, _⟩) (v := ?_) rfl (by kernel_rfl) (by kernel_rfl) (by kernel_rfl) (fun _ _ _ h => h) (Or.inl ⟨by rfl, ?_⟩) hHeld ?_
       rotate_left 1
       ·
        (intro W hSw; (try dsimp only at hSw); go_simp; try with_reducible rfl)
       try simp only [Act.put, List.setIfInBounds_toArray, List.set_cons_zero, List.set_cons_succ]
       refine wpAnyH_take (i := 9) (oi := ⟨_, _, _, _, _, _⟩) (v := ?_) rfl (by kernel_rfl) (by kernel_rfl) (by kernel_rfl) (fun _ _ _ h => h) (Or.inl ⟨by rfl, ?_⟩) hHeld ?_
       rotate_left 1
       ·
        (intro W hSw; (try dsimp only at hSw); go_simp; try with_reducible rfl)
       try simp only [Act.put, List.setIfInBounds_toArray, List.set_cons_zero, List.set_cons_succ]
       refine wpAnyH_take (i := 10) (oi := ⟨_, _, _, _, _, _⟩) (v := ?_) rfl (by kernel_rfl) (by kernel_rfl) (by kernel_rfl) (fun _ _ _ h => h) (Or.inl ⟨by rfl, ?_⟩) hHeld ?_
       rotate_left 1
       ·
        (intro W hSw; (try dsimp only at hSw); go_simp; try with_reducible rfl)
       try simp only [Act.put, List.setIfInBounds_toArray, List.set_cons_zero, List.set_cons_succ]
       refine wpAnyH_take (i := 11) (oi := ⟨_, _, _, _, _, _⟩) (v := ?_) rfl (by kernel_rfl) (by kernel_rfl) (by kernel_rfl) (fun _ _ _ h => h) (Or.inl ⟨by rfl, ?_⟩) hHeld ?_
       rotate_left 1
       ·
        (intro W hSw; (try dsimp only at hSw); have hcv := conv_in HNB.out (in_up HB.out hSw); go_simp; try with_reducible rfl)
       try simp only [Act.put, List.setIfInBounds_toArray, List.set_cons_zero, List.set_cons_succ]
       refine wpAnyH_take (i := 12) (oi := ⟨_, _, _, _, _, _⟩) (v := ?_) rfl (by kernel_rfl) (by kernel_rfl) (by kernel_rfl) (fun _ _ _ h => h) (Or.inl ⟨by rfl, ?_⟩) hHeld ?_
       rotate_left 1
       ·
        (intro W hSw; (try dsimp only at hSw); go_simp; try with_reducible rfl)
       try simp only [Act.put, List.setIfInBounds_toArray, List.set_cons_zero, List.set_cons_succ]
       refine wpAnyH_take (i := 13) (oi := ⟨_, _, _, _, _, _⟩) (v := ?_) rfl (by kernel_rfl) (by kernel_rfl) (by kernel_rfl) (fun _ _ _ h => h) (Or.inl ⟨by rfl, ?_⟩) hHeld ?_
       rotate_left 1
       ·
        (intro W hSw; (try dsimp only at hSw); go_simp; try with_reducible rfl)
       try simp only [Act.put, List.setIfInBounds_toArray, List.set_cons_zero, List.set_cons_succ]
       refine wpAnyH_take (i := 14) (oi := ⟨_, _, _, _, _, _⟩) (v := ?_) rfl (by kernel_rfl) (by kernel_rfl) (by kernel_rfl) (fun _ _ _ h => h) (Or.inl ⟨by rfl, ?_⟩) hHeld ?_
       rotate_left 1
       ·
        (intro W hSw; (try dsimp only at hSw); go_simp; try with_reducible rfl)
       try simp only [Act.put, List.setIfInBounds_toArray, List.set_cons_zero, List.set_cons_succ]
       refine wpAnyH_take (i := 15) (oi := ⟨_, _, _, _, _, _⟩) (v := ?_) rfl (by kernel_rfl) (by kernel_rfl) (by kernel_rfl) (fun _ _ _ h => h) (Or.inl ⟨by rfl, ?_⟩) hHeld ?_
       rotate_left 1
       ·
        (intro W hSw; (try dsimp only at hSw); go_simp; try with_reducible rfl)
       try simp only [Act.put, List.setIfInBounds_toArray, List.set_cons_zero, List.set_cons_succ]
       refine wpAnyH_take (i := 16) (oi := ⟨_, _, _, _, _, _⟩) (v := ?_) rfl (by kernel_rfl) (by kernel_rfl) (by kernel_rfl) (fun _ _ _ h => h) (Or.inl ⟨by rfl, ?_⟩) hHeld ?_
       rotate_left 1
       ·
        (intro W hSw; (try dsimp only at hSw); obtain ⟨_, _, e2⟩ := HCE.out W hSw; go_simp; try with_reducible rfl)
       try simp only [Act.put, List.setIfInBounds_toArray, List.set_cons_zero, List.set_cons_succ]
       refine wpAnyH_take (i := 17) (oi := ⟨_, _, _, _, _, _⟩) (v := ?_) rfl (by kernel_rfl) (by kernel_rfl) (by kernel_rfl) (fun _ _ _ h => h) (Or.inl ⟨by rfl, ?_⟩) hHeld ?_
       rotate_left 1
       ·
        (intro W hSw; (try dsimp only at hSw); go_simp; try with_reducible rfl)
       try simp only [Act.put, List.setIfInBounds_toArray, List.set_cons_zero, List.set_cons_succ]
       refine wpAnyH_take (i := 18) (oi := ⟨_, _, _, _, _, _⟩) (v := ?_) rfl (by kernel_rfl) (by kernel_rfl) (by kernel_rfl) (fun _ _ _ h => h) (Or.inl ⟨by rfl, ?_⟩) hHeld ?_
       rotate_left 1
       ·
        (intro W hSw; (try dsimp only at hSw); go_simp; try with_reducible rfl)
       try simp only [Act.put, List.setIfInBounds_toArray, List.set_cons_zero, List.set_cons_succ]
       refine wpAnyH_take (i := 19) (oi := ⟨_, _, _, _, _, _⟩) (v := ?_) rfl (by kernel_rfl) (by kernel_rfl) (by kernel_rfl) (fun _ _ _ h => h) (Or.inl ⟨by rfl, ?_⟩) hHeld ?_
       rotate_left 1
       ·
        (intro W hSw; (try dsimp only at hSw); go_simp; try with_reducible rfl)
       try simp only [Act.put, List.setIfInBounds_toArray, List.set_cons_zero, List.set_cons_succ]
       replace hHeld : Below w.heap.size w w3.drew := hHeld
       have hbd : Below w3.heap.size w3 w3.drew := below_drewN (Below.refl _ _) 1
       replace hRW := hRW.below hbd
       replace hR := hR.below hbd
       replace hS := hS.below hbd hS.lt
       clear hbw hbd
       generalize w3.drew = wd at *
       have hse := HRS.out wd gm k hR (kd : Int) (q5 : Int) nb B HNB.out (Nat.le_trans HB3.out (by decide)) HUK.out
       refine wpAnyH_ready (rs := [20]) (by kernel_rfl) (by simp) ?_
       refine AllReadyH.cons (o := ⟨_, _, _, _, _, _⟩) rfl (fun K hK => ?_) AllReadyH.nil
       go_simp
       go_at_call 16
       refine hse.mono ?_
       rintro e w5 ⟨rfl, hR5, hg5⟩
       try go_wp2_with fail
       refine hK.out _ _ (below_new hHeld hg5 HGM.out.1 hHeld.size) (fun hHeld => ?_)
       clear hK K hse
       try simp only [Act.put, List.setIfInBounds_toArray, List.set_cons_zero, List.set_cons_succ]
       refine wpAnyH_take (i := 21) (oi := ⟨_, _, _, _, _, _⟩) (v := ?_) rfl (by kernel_rfl) (by kernel_rfl) (by kernel_rfl) (fun _ _ _ h => h) (Or.inl ⟨by rfl, ?_⟩) hHeld ?_
       rotate_left 1
       ·
        (intro W hSw; (try dsimp only at hSw); go_simp; try with_reducible rfl)
       try simp only [Act.put, List.setIfInBounds_toArray, List.set_cons_zero, List.set_cons_succ]
       refine wpAnyH_take (i := 22) (oi := ⟨_, _, _, _, _, _⟩) (v := ?_) rfl (by kernel_rfl) (by kernel_rfl) (by kernel_rfl) (fun _ _ _ h => h) (Or.inl ⟨by rfl, ?_⟩) hHeld ?_
       rotate_left 1
       ·
        (intro W hSw; (try dsimp only at hSw); go_simp; try with_reducible rfl)
       try simp only [Act.put, List.setIfInBounds_toArray, List.set_cons_zero, List.set_cons_succ]
       refine wpAnyH_take (i := 23) (oi := ⟨_, _, _, _, _, _⟩) (v := ?_) rfl (by kernel_rfl) (by kernel_rfl) (by kernel_rfl) (fun _ _ _ h => h) (Or.inl ⟨by rfl, ?_⟩) hHeld ?_
       rotate_left 1
       ·
        (intro W hSw; (try dsimp only at hSw); go_simp; try with_reducible rfl)
       try simp only [Act.put, List.setIfInBounds_toArray, List.set_cons_zero, List.set_cons_succ]
       refine wpAnyH_take (i := 24) (oi := ⟨_, _, _, _, _, _⟩) (v := ?_) rfl (by kernel_rfl) (by kernel_rfl) (by kernel_rfl) (fun _ _ _ h => h) (Or.inl ⟨by rfl, ?_⟩) hHeld ?_
       rotate_left 1
       ·
        (intro W hSw; (try dsimp only at hSw); go_simp; try with_reducible rfl)
       try simp only [Act.put, List.setIfInBounds_toArray, List.set_cons_zero, List.set_cons_succ]
       refine wpAnyH_take (i := 25) (oi := ⟨_, _, _, _, _, _⟩) (v := ?_) rfl (by kernel_rfl) (by kernel_rfl) (by kernel_rfl) (fun _ _ _ h => h) (Or.inl ⟨by rfl, ?_⟩) hHeld ?_
       rotate_left 1
       ·
        (intro W hSw; (try dsimp only at hSw); go_simp; try with_reducible rfl)
       try simp only [Act.put, List.setIfInBounds_toArray, List.set_cons_zero, List.set_cons_succ]
       refine wpAnyH_done (by kernel_rfl) ?_ _
       refine NoPanic.normal ?_
       replace hHeld : Below w.heap.size w w5 := hHeld
       replace hRW := hRW.grown hg5 HNE.out
       replace hS := hS.grown hg5 (by have := HGM.out.2; simp; omega)
       clear t1 t2 t3 t4 t5 t6 t7 t8 hg5 hk0 hkI
       generalize hso : sealOut (keyL 4 (keyH S)) (ivH S) k (kd : Int) B (q5 : Int) = so at *
       obtain ⟨XB, er⟩ := so
       by_cases her : er = 0
       ·
        as_aux_lemma =>
         obtain ⟨k', p', _, hpq, _, _, heq⟩ := sealOut_ok (show (sealOut (keyL 4 (keyH S)) (ivH S) k (kd : Int) B (q5 : Int)).2 = 0 by rw [hso]; exact her)
         have hxb : XB.length = 5 + (nb + 1 + p' + 16) := by
          rw [hso] at heq
          have hx : XB = recE (keyL 4 (keyH S)) 11 (ivH S) k k' B p' := congrArg Prod.fst heq
          rw [hx, recE_len, HNB.out]
         have HXB := Lib.hid (show 5 ≤ XB.length ∧ XB.length ≤ 200 by have h1 := HB3.out; have h2 := HQ5.out; omega)
         have hu1 : usedOut (XB, er) k = k1 := by rw [HK3.out]; exact if_pos her
         rw [hu1] at hR5
         subst her
         clear hso hpq heq hxb hu1
         go_upto_region 16 with (fail)
         have hal : Below w5.heap.size w5 (w5.alloc (.cells #[sv XB] 9)) := (Below.refl _ _).alloc (Nat.le_refl _) _
         have hsz : gm + 1 ≤ w5.heap.size := hR5.half.lt
         have hRW2 := hRW.below hal
         go_upto_region 5 with ((with_reducible refine (?_ : wpList _ _ _ (Oper.mk (some 131) _ _ _ _ _ :: _) _ _)); go_loud (refine wpList_append_own (z := .string ⟨#[]⟩) (size := 1) (bytes := 16) Tryd.underlying44 infStr rfl (by decide) (by decide) rfl (.tmp 128) (.tmp 130) rfl (gm + 1) u8 l.length (l.map sv) rfl hRW2 (Nat.le_trans hsz hal.size) ⟨w5.heap.size, 0, none⟩ 1 1 rfl [sv XB] rfl (new_str w5 XB) (by intro u hu; simp at hu; subst hu; rfl) (by have := HLN.out; omega) ?_); intro v6 w6 hw6 hg6 _)
         have hb6 := str_low hRW2 hg6 (Nat.le_trans hsz hal.size)
         have hR6 := str_more hw6
         have hb56 : Below (gm + 1) w5 w6 := (hal.mono hsz).trans hb6
         have HL6 := Lib.hid (HLK.out.snoc HXB.out.1 HXB.out.2)
         have HRR := Lib.hid (show RHalf w6 gm k1 S from ⟨hR5.half.below hb56 (Nat.lt_succ_self _)⟩)
         have HSS := Lib.hid (hS.below hb56 (by have := HGM.out.2; omega))
         have HBB := Lib.hid (hHeld.trans (hb56.mono (by have := HGM.out.1; omega)))
         have HRO := Lib.hid hR6
         clear hal hsz hRW2 hb6 hb56 hg6 hw6 hR6 hR5 hS hHeld hRW
         have HKE := Lib.hid (show OpAt w w6 gS gm k1 k1 v6 (l ++ [XB]) S from ⟨HRO.out, HL6.out, HRR.out, Nat.le_refl _, HSS.out, HGM.out.1, HGM.out.2, HBB.out⟩)
         go_wp2
         go_roundw
         case rel => exact ⟨k1, k1, (l ++ [XB]), HK1.out.1.1, HK1.out.1.2.1, by rw [List.length_append]; exact HK1.out.2.2.1, by simp only [HK2.out.1, HK2.out.2], HKE.out⟩
         case measure => simp only [HK2.out.1, HK2.out.2]; exact HK1.out.1.2.2
       ·
        as_aux_lemma =>
         have hd : ¬ (er : Int) = 0 := by omega
         have hu1 : usedOut (XB, er) k = k := if_neg her
         rw [hu1] at hR5
         have HRR := Lib.hid hR5
         have HSS := Lib.hid hS
         have HBB := Lib.hid hHeld
         have HRO := Lib.hid hRW
         clear hso her hu1 hR5 hS hHeld hRW
         have HKE := Lib.hid (show OpAt w w5 gS gm k k1 u8 l S from ⟨HRO.out, HLK.out, HRR.out, HK1.out.2.1, HSS.out, HGM.out.1, HGM.out.2, HBB.out⟩)
         go_wp2
         go_roundw
         case rel => exact ⟨k1, k, l, HK1.out.1.1, HK1.out.1.2.1, HK1.out.2.2.2, by simp only [HK2.out.1, HK2.out.2], HKE.out⟩
         case measure => simp only [HK2.out.1, HK2.out.2]; exact HK1.out.1.2.2
     ·
      as_aux_lemma =>
       go_upto_region 8 with (fail)
       clear hc2 hr1 hr2 hz
       have hcc := hR.c0
       go_upto_region 9 with (go_at_call 17; refine (HLA.out _).mono ?_; rintro e w3 ⟨rfl, hb3⟩)
       clear hcc
       replace hRW := hRW.below hb3
       replace hR := hR.below hb3
       replace hS := hS.below hb3 hS.lt
       replace hbw := hbw.trans (hb3.mono hbw.size)
       clear hb3
       have hcc := hR.c0
       go_upto_region 10 with (fail)
       clear hcc
       have hG : RHalf (w3.alloc (.cells #[.string ⟨S.toArray⟩, .int .i64 (k : Int)] 37)) w3.heap.size k S := ⟨Blk.new_of _ _ _ _ rfl⟩
       have hal : Below w3.heap.size w3 (w3.alloc (.cells #[.string ⟨S.toArray⟩, .int .i64 (k : Int)] 37)) := (Below.refl _ _).alloc (Nat.le_refl _) _
       replace hRW := hRW.below hal
       replace hR := hR.below hal
       replace hS := hS.below hal hS.lt
       replace hbw := hbw.trans (hal.mono hbw.size)
       clear hal
       generalize w3.alloc (.cells #[.string ⟨S.toArray⟩, .int .i64 (k : Int)] 37) = w4 at *
       generalize w3.heap.size = gh2 at *
       obtain ⟨m, y1, y2, y3⟩ := ix_m16 nb HB3.out
       have hhd := fun (W : World) => rhead_e 23 m (by decide) y3 W
       have HDL := Lib.hid (show (headE 23 m).length = 5 from rfl)
       generalize headE 23 m = HD at *
       have HHD := Lib.hid hhd
       clear hhd y3 hk0 hkI
       go_upto_region 11 with (go_at_call 18; refine (HHD.out _).mono ?_; rintro e w5 ⟨rfl, hb3⟩)
       clear y1 y2
       replace hRW := hRW.below hb3
       replace hR := hR.below hb3
       replace hS := hS.below hb3 hS.lt
       replace hG := hG.below hb3
       replace hbw := hbw.trans (hb3.mono hbw.size)
       clear hb3
       have HW5 := Lib.hid hbw
       have HGW := Lib.hid (show w.heap.size ≤ gm + 1 by have := HGM.out.1; omega)
       have hSZ : gm + 1 ≤ w5.heap.size := hR.half.lt
       have HR5 := Lib.hid (fun (W : World) (Q : List UInt8) (hQ : Q.length = 12) => rseal_e 4 nb 5 (.inl rfl) (keyH S) Q B HD W HKL.out hQ HNB.out HDL.out (Nat.lt_of_le_of_lt HB3.out (by decide)) (by decide))
       have HRH := Lib.hid hR
       have HSS0 := Lib.hid hS
       clear hR hS hbw
       refine wp_region_noPanic ?_
       refine wp_region_held_drew (S := fun W => Below (gm + 1) w5 W) (by kernel_rfl) (by exact below_drewN (Below.refl _ _) 1) (fun hHeld => ?_)
       refine wpAnyH_take (i := 0) (oi := ⟨_, _, _, _, _, _⟩) (v := ?_) rfl (by kernel_rfl) (by kernel_rfl) (by kernel_rfl) (fun _ _ _ h => h) (Or.inl ⟨by rfl, ?_⟩) hHeld ?_
       rotate_left 1
       ·
        (intro W hSw; (try dsimp only at hSw); go_simp; try with_reducible rfl)
       try simp only [Act.put, List.setIfInBounds_toArray, List.set_cons_zero, List.set_cons_succ]
       refine wpAnyH_take (i := 1) (oi := ⟨_, _, _, _, _, _⟩) (v := ?_) rfl (by kernel_rfl) (by kernel_rfl) (by kernel_rfl) (fun _ _ _ h => h) (Or.inl ⟨by rfl, ?_⟩) hHeld ?_
       rotate_left 1
       ·
        (intro W hSw; (try dsimp only at hSw); go_simp; try with_reducible rfl)
       try simp only [Act.put, List.setIfInBounds_toArray, List.set_cons_zero, List.set_cons_succ]
       refine wpAnyH_take (i := 2) (oi := ⟨_, _, _, _, _, _⟩) (v := ?_) rfl (by kernel_rfl) (by kernel_rfl) (by kernel_rfl) (fun _ _ _ h => h) (Or.inl ⟨by rfl, ?_⟩) hHeld ?_
       rotate_left 1
       ·
        (intro W hSw; (try dsimp only at hSw); go_simp; try with_reducible rfl)
       try simp only [Act.put, List.setIfInBounds_toArray, List.set_cons_zero, List.set_cons_succ]
       refine wpAnyH_take (i := 3) (oi := ⟨_, _, _, _, _, _⟩) (v := ?_) rfl (by kernel_rfl) (by kernel_rfl) (by kernel_rfl) (fun _ _ _ h => h) (Or.inl ⟨by rfl, ?_⟩) hHeld ?_
       rotate_left 1
       ·
        (intro W hSw; (try dsimp only at hSw); go_simp; try with_reducible rfl)
       try simp only [Act.put, List.setIfInBounds_toArray, List.set_cons_zero, List.set_cons_succ]
       refine wpAnyH_take (i := 5) (oi := ⟨_, _, _, _, _, _⟩) (v := ?_) rfl (by kernel_rfl) (by kernel_rfl) (by kernel_rfl) (fun _ _ _ h => h) (Or.inl ⟨by rfl, ?_⟩) hHeld ?_
       rotate_left 1
       ·
        (intro W hSw; (try dsimp only at hSw); go_simp; try with_reducible rfl)
       try simp only [Act.put, List.setIfInBounds_toArray, List.set_cons_zero, List.set_cons_succ]
       refine wpAnyH_take (i := 6) (oi := ⟨_, _, _, _, _, _⟩) (v := ?_) rfl (by kernel_rfl) (by kernel_rfl) (by kernel_rfl) (fun _ _ _ h => h) (Or.inl ⟨by rfl, ?_⟩) hHeld ?_
       rotate_left 1
       ·
        (intro W hSw; (try dsimp only at hSw); have hcv := conv_in HNB.out (HB.out.below (HW5.out.trans (hSw.mono HGW.out))); go_simp; try with_reducible rfl)
       try simp only [Act.put, List.setIfInBounds_toArray, List.set_cons_zero, List.set_cons_succ]
       refine wpAnyH_take (i := 7) (oi := ⟨_, _, _, _, _, _⟩) (v := ?_) rfl (by kernel_rfl) (by kernel_rfl) (by kernel_rfl) (fun _ _ _ h => h) (Or.inl ⟨by rfl, ?_⟩) hHeld ?_
       rotate_left 1
       ·
        (intro W hSw; (try dsimp only at hSw); go_simp; try with_reducible rfl)
       try simp only [Act.put, List.setIfInBounds_toArray, List.set_cons_zero, List.set_cons_succ]
       have hR2 : StrRow w5.drew (gm + 1) u8 l := hRW.below (below_drewN (Below.refl _ _) 1)
       have hG2 : RHalf w5.drew gh2 k S := hG.below (below_drewN (Below.refl _ _) 1)
       replace hHeld : Below (gm + 1) w5 w5.drew := hHeld
       have HSG := Lib.hid (show gm + 1 ≤ w5.heap.size from hSZ)
       clear hRW hG hSZ
       generalize w5.drew = wd at *
       refine wpAnyH_ready (rs := [4]) (by kernel_rfl) (by simp) ?_
       refine AllReadyH.cons (o := ⟨_, _, _, _, _, _⟩) rfl (fun K hK => ?_) AllReadyH.nil
       go_simp
       go_at_call 20
       refine (iv_e hG2 HSL.out).mono ?_
       rintro e wa ⟨Q, hQl, rfl, hbx⟩
       try go_wp2_with fail
       have hszx := Nat.le_trans HSG.out hHeld.size
       refine hK.out _ _ (hHeld.trans (hbx.mono hszx)) (fun hHeld => ?_)
       clear hK K hszx
       try simp only [Act.put, List.setIfInBounds_toArray, List.set_cons_zero, List.set_cons_succ]
       replace hR2 := hR2.below hbx
       clear hbx hG2
       have hsx := HR5.out wa Q hQl
       obtain ⟨BX, hBX⟩ : ∃ y, y = boxE (keyL 4 (keyH S)) (4 + 7) Q B HD := ⟨_, rfl⟩
       have HBXL := Lib.hid (show BX.length = nb + 16 by rw [hBX, boxE_length, HNB.out])
       rw [← hBX] at hsx
       clear hBX hQl
       refine wpAnyH_ready (rs := [8]) (by kernel_rfl) (by simp) ?_
       refine AllReadyH.cons (o := ⟨_, _, _, _, _, _⟩) rfl (fun K hK => ?_) AllReadyH.nil
       go_simp
       go_at_call 19
       refine (hsx).mono ?_
       rintro e wb ⟨rfl, hbx⟩
       try go_wp2_with fail
       have hszx := Nat.le_trans HSG.out hHeld.size
       refine hK.out _ _ (hHeld.trans (hbx.mono hszx)) (fun hHeld => ?_)
       clear hK K hszx
       try simp only [Act.put, List.setIfInBounds_toArray, List.set_cons_zero, List.set_cons_succ]
       replace hR2 := hR2.below hbx
       clear hbx hsx
       obtain ⟨EN, hEN⟩ : ∃ y, y = HD ++ BX := ⟨_, rfl⟩
       have HEL := Lib.hid (show EN.length = nb + 21 by rw [hEN, List.length_append, HDL.out, HBXL.out]; omega)
       have HAP := Lib.hid (show (⟨HD.toArray⟩ ++ ⟨BX.toArray⟩ : ByteArray) = ⟨EN.toArray⟩ by rw [hEN]; exact bytes_append HD BX)
       have HCL := Lib.hid (show ¬ 9223372036854775807 < HD.length + BX.length by rw [HDL.out, HBXL.out]; have := HB3.out; omega)
       clear hEN
       refine wpAnyH_take (i := 9) (oi := ⟨_, _, _, _, _, _⟩) (v := ?_) rfl (by kernel_rfl) (by kernel_rfl) (by kernel_rfl) (fun _ _ _ h => h) (Or.inl ⟨by rfl, ?_⟩) hHeld ?_
       rotate_left 1
       ·
        (intro W hSw; (try dsimp only at hSw); have hap := HAP.out; have hcl := HCL.out; go_simp; try with_reducible rfl)
       try simp only [Act.put, List.setIfInBounds_toArray, List.set_cons_zero, List.set_cons_succ]
       refine wpAnyH_ready (rs := [10]) (by kernel_rfl) (by simp) ?_
       refine AllReadyH.cons (o := ⟨_, _, _, _, _, _⟩) rfl (fun K hK => ?_) AllReadyH.nil
       go_simp
       have hal : Below wb.heap.size wb (wb.alloc (.cells #[sv EN] 9)) := (Below.refl _ _).alloc (Nat.le_refl _) _
       have hszx := Nat.le_trans HSG.out hHeld.size
       refine hK.out _ _ (hHeld.trans (hal.mono hszx)) (fun hHeld => ?_)
       clear hK K
       try simp only [Act.put, List.setIfInBounds_toArray, List.set_cons_zero, List.set_cons_succ]
       refine wpAnyH_ready (rs := [11]) (by kernel_rfl) (by simp) ?_
       refine AllReadyH.cons (o := ⟨_, _, _, _, _, _⟩) rfl (fun K hK => ?_) AllReadyH.nil
       refine step_append_own (z := .string ⟨#[]⟩) (size := 1) (bytes := 16) Tryd.underlying44 infStr rfl (by decide) (by decide) rfl (.tmp 81) (.tmp 91) rfl (gm + 1) u8 l.length (l.map sv) rfl (hR2.below hal) (Nat.le_trans hszx hal.size) ⟨wb.heap.size, 0, none⟩ 1 1 rfl [sv EN] rfl (new_str wb EN) (by intro u hu; simp at hu; subst hu; rfl) (by have := HLN.out; omega) ?_
       intro v6 w6 hw6 hg6 _
       have hb6 := str_low (hR2.below hal) hg6 (Nat.le_trans hszx hal.size)
       have hR6 := str_more hw6
       refine hK.out _ _ (hHeld.trans hb6) (fun hHeld => ?_)
       clear hK K hal hszx hg6 hw6 hb6 hR2
       try simp only [Act.put, List.setIfInBounds_toArray, List.set_cons_zero, List.set_cons_succ]
       refine wpAnyH_take (i := 12) (oi := ⟨_, _, _, _, _, _⟩) (v := ?_) rfl (by kernel_rfl) (by kernel_rfl) (by kernel_rfl) (fun _ _ _ h => h) (Or.inl ⟨by rfl, ?_⟩) hHeld ?_
       rotate_left 1
       ·
        (intro W hSw; (try dsimp only at hSw); go_simp; try with_reducible rfl)
       try simp only [Act.put, List.setIfInBounds_toArray, List.set_cons_zero, List.set_cons_succ]
       refine wpAnyH_done (by kernel_rfl) ?_ _
       refine NoPanic.normal ?_
       replace hHeld : Below (gm + 1) w5 w6 := hHeld
       have hRq : RHalf w6 gm us S := ⟨HRH.out.half.below hHeld (Nat.lt_succ_self _)⟩
       have hS6 := HSS0.out.below hHeld (by have := HGM.out.2; omega)
       have hb6 := HW5.out.trans (hHeld.mono HGW.out)
       have hcc := hRq.c1
       have hff := hRq.half.frozen 1
       obtain ⟨u2, u3⟩ := HK2.out
       clear hHeld
       go_upto_region 5 with (fail)
       have hgs := grown_setCell (grown_refl w6 (some gm)) (p := ⟨gm, 1, none⟩) (.inl rfl) (.int .i64 (k1 : Int))
       have HRO := Lib.hid (hR6.grown hgs (fun e => by have := (hR6.lt _ e).1; omega))
       have HRR := Lib.hid (hRq.put k1)
       have HSS := Lib.hid (hS6.grown hgs (by have := HGM.out.2; simp; omega))
       have HBB := Lib.hid (below_new hb6 hgs HGM.out.1 hb6.size)
       have HL6 := Lib.hid (HLK.out.snoc (show 5 ≤ EN.length by rw [HEL.out]; omega) (show EN.length ≤ 200 by rw [HEL.out]; have := HB3.out; omega))
       clear hcc hff u2 u3 hgs hR6 hRq hS6 hb6
       generalize w6.setCell ⟨gm, 1, none⟩ (.int .i64 (k1 : Int)) = w7 at *
       have HKE := Lib.hid (show OpAt w w7 gS gm k1 k1 v6 (l ++ [EN]) S from ⟨HRO.out, HL6.out, HRR.out, Nat.le_refl _, HSS.out, HGM.out.1, HGM.out.2, HBB.out⟩)
       go_wp2
       go_roundw
       case rel => exact ⟨k1, k1, (l ++ [EN]), HK1.out.1.1, HK1.out.1.2.1, by rw [List.length_append]; exact HK1.out.2.2.1, by simp only [HK2.out.1, HK2.out.2], HKE.out⟩
       case measure => simp only [HK2.out.1, HK2.out.2]; exact HK1.out.1.2.2
  ·
   obtain ⟨b, hd, hk8⟩ : ∃ b : Bool, decide (k < np) = b ∧ (b = true → ¬ (k : Int) < 6) := ⟨_, rfl, fun h => by have := of_decide_eq_true h; omega⟩
   clear h68
   cases b
   all_goals
    first | replace hk8 := hk8 rfl | clear hk8
    as_aux_lemma =>
     generalize wr = wp at *
     obtain ⟨hRW, hLK, _, _, hSb, _, _, hbw⟩ := hp
     have HBB := Lib.hid hbw
     have HRG := Lib.hid (fun (W : World) (h : Below wp.heap.size wp W) => rangeAt_of_blk (hSb.below h hSb.lt))
     have HIS := Lib.hid (fun (W : World) (h : Below wp.heap.size wp W) => in_blk (hSb.below h hSb.lt) HSL.out (by decide))
     obtain ⟨AL, cl, hv8, hcl⟩ := hRW.slice
     obtain ⟨nl, hnl⟩ : ∃ nl, nl = l.length := ⟨_, rfl⟩
     rw [← hnl] at hv8 hcl
     subst hv8
     have HCL := Lib.hid hcl
     have HLK := Lib.hid hLK
     have HNL := Lib.hid (And.intro hnl (show nl ≤ 6 by omega))
     clear hRW hLK hSb hbw hcl hnl hll hkn hk6
     go_upto_region 17 with (fail)
     refine wp_region_noPanic ?_
     refine wp_region_held_drew (S := fun W => Below wp.heap.size wp W) (by kernel_rfl) (by exact below_drewN (Below.refl _ _) 1) (fun hHeld => ?_)
     refine' wpAnyH_take (i := 0) (oi := ⟨_, _, _, _, _, _⟩) rfl (by kernel_rfl) (by kernel_rfl) (by kernel_rfl) (fun _ _ _ h => h) (yieldsIf_load_mid (by rfl) 22 _ rfl gS 0 rfl (S.map B8) _ (fun W h => HRG.out W h) Tryd.underlying22 rfl (info32.trans (by rw [List.length_map, HSL.out]))) hHeld ?_
     try simp only [Act.put, List.setIfInBounds_toArray, List.set_cons_zero, List.set_cons_succ]
     refine wpAnyH_take (i := 2) (oi := ⟨_, _, _, _, _, _⟩) (v := ?_) rfl (by kernel_rfl) (by kernel_rfl) (by kernel_rfl) (fun _ _ _ h => h) (Or.inl ⟨by rfl, ?_⟩) hHeld ?_
     rotate_left 1
     ·
      (intro W hSw; (try dsimp only at hSw); go_simp; try with_reducible rfl)
     try simp only [Act.put, List.setIfInBounds_toArray, List.set_cons_zero, List.set_cons_succ]
     refine wpAnyH_take (i := 3) (oi := ⟨_, _, _, _, _, _⟩) (v := ?_) rfl (by kernel_rfl) (by kernel_rfl) (by kernel_rfl) (fun _ _ _ h => h) (Or.inl ⟨by rfl, ?_⟩) hHeld ?_
     rotate_left 1
     ·
      (intro W hSw; (try dsimp only at hSw); have hcv := conv_in HSL.out (HIS.out W hSw); go_simp; try with_reducible rfl)
     try simp only [Act.put, List.setIfInBounds_toArray, List.set_cons_zero, List.set_cons_succ]
     refine wpAnyH_take (i := 4) (oi := ⟨_, _, _, _, _, _⟩) (v := ?_) rfl (by kernel_rfl) (by kernel_rfl) (by kernel_rfl) (fun _ _ _ h => h) (Or.inl ⟨by rfl, ?_⟩) hHeld ?_
     rotate_left 1
     ·
      (intro W hSw; (try dsimp only at hSw); go_simp; try with_reducible rfl)
     try simp only [Act.put, List.setIfInBounds_toArray, List.set_cons_zero, List.set_cons_succ]
     replace hHeld : Below wp.heap.size wp wp.drew := hHeld
     generalize wp.drew = wd at *
     refine wpAnyH_ready (rs := [1, 5]) (by kernel_rfl) (by simp) ?_
     refine AllReadyH.cons (o := ⟨_, _, _, _, _, _⟩) rfl (fun K hK => ?_) (AllReadyH.cons (o := ⟨_, _, _, _, _, _⟩) rfl (fun K hK => ?_) AllReadyH.nil)
     case' refine_1 =>
      go_simp
      go_at_call 14
      refine (hnew_e S _ HSL.out (HT.out.below (HBB.out.trans (hHeld.mono HBB.out.size)))).mono ?_
      rintro e wa ⟨gh, gx, gk, gr, rfl, hgh, hgx, hH, hbx⟩
      try go_wp2_with fail
      have hszx := hHeld.size
      refine hK.out _ _ (hHeld.trans (hbx.mono hszx)) (fun hHeld => ?_)
      clear hK K
      try simp only [Act.put, List.setIfInBounds_toArray, List.set_cons_zero, List.set_cons_succ]
      refine wpAnyH_take (i := 6) (oi := ⟨_, _, _, _, _, _⟩) (v := ?_) rfl (by kernel_rfl) (by kernel_rfl) (by kernel_rfl) (fun _ _ _ h => h) (Or.inl ⟨by rfl, ?_⟩) hHeld ?_
      rotate_left 1
      ·
       (intro W hSw; (try dsimp only at hSw); go_simp; try with_reducible rfl)
      try simp only [Act.put, List.setIfInBounds_toArray, List.set_cons_zero, List.set_cons_succ]
      refine wpAnyH_ready (rs := [5]) (by kernel_rfl) (by simp) ?_
      refine AllReadyH.cons (o := ⟨_, _, _, _, _, _⟩) rfl (fun K hK => ?_) AllReadyH.nil
      go_simp
      have hGG : RHalf (wa.alloc (.cells #[.string ⟨S.toArray⟩, .int .i64 0] 37)) wa.heap.size 0 S := ⟨Blk.new_of _ _ _ _ rfl⟩
      have hal : Below wa.heap.size wa (wa.alloc (.cells #[.string ⟨S.toArray⟩, .int .i64 0] 37)) := (Below.refl _ _).alloc (Nat.le_refl _) _
      refine hK.out _ _ (hHeld.trans (hal.mono hHeld.size)) (fun hHeld => ?_)
      clear hK K
      have hg2 : wp.heap.size ≤ wa.heap.size := Nat.le_trans hszx hbx.size
      replace hgh := Nat.le_trans hszx hgh
      replace hH := hH.below hal
      clear hal hbx hszx hgx
      generalize wa.alloc (.cells #[.string ⟨S.toArray⟩, .int .i64 0] 37) = wb at *
      generalize wa.heap.size = g2 at *
      try simp only [Act.put, List.setIfInBounds_toArray, List.set_cons_zero, List.set_cons_succ]
      refine wpAnyH_take (i := 7) (oi := ⟨_, _, _, _, _, _⟩) (v := ?_) rfl (by kernel_rfl) (by kernel_rfl) (by kernel_rfl) (fun _ _ _ h => h) (Or.inl ⟨by rfl, ?_⟩) hHeld ?_
      rotate_left 1
      ·
       (intro W hSw; (try dsimp only at hSw); go_simp; try with_reducible rfl)
      try simp only [Act.put, List.setIfInBounds_toArray, List.set_cons_zero, List.set_cons_succ]
      refine wpAnyH_done (by kernel_rfl) ?_ _
      refine NoPanic.normal ?_
     case' refine_2 =>
      go_simp
      have hGG : RHalf (wd.alloc (.cells #[.string ⟨S.toArray⟩, .int .i64 0] 37)) wd.heap.size 0 S := ⟨Blk.new_of _ _ _ _ rfl⟩
      have hal : Below wd.heap.size wd (wd.alloc (.cells #[.string ⟨S.toArray⟩, .int .i64 0] 37)) := (Below.refl _ _).alloc (Nat.le_refl _) _
      have hg2 : wp.heap.size ≤ wd.heap.size := hHeld.size
      refine hK.out _ _ (hHeld.trans (hal.mono hHeld.size)) (fun hHeld => ?_)
      clear hK K hal
      generalize wd.alloc (.cells #[.string ⟨S.toArray⟩, .int .i64 0] 37) = wc2 at *
      generalize wd.heap.size = g2 at *
      try simp only [Act.put, List.setIfInBounds_toArray, List.set_cons_zero, List.set_cons_succ]
      refine wpAnyH_ready (rs := [1]) (by kernel_rfl) (by simp) ?_
      refine AllReadyH.cons (o := ⟨_, _, _, _, _, _⟩) rfl (fun K hK => ?_) AllReadyH.nil
      go_simp
      go_at_call 14
      refine (hnew_e S _ HSL.out (HT.out.below (HBB.out.trans (hHeld.mono HBB.out.size)))).mono ?_
      rintro e wb ⟨gh, gx, gk, gr, rfl, hgh, hgx, hH, hbx⟩
      try go_wp2_with fail
      have hszx := hHeld.size
      refine hK.out _ _ (hHeld.trans (hbx.mono hszx)) (fun hHeld => ?_)
      clear hK K
      try simp only [Act.put, List.setIfInBounds_toArray, List.set_cons_zero, List.set_cons_succ]
      replace hGG := hGG.below hbx
      replace hgh := Nat.le_trans hszx hgh
      clear hbx hszx hgx
      refine wpAnyH_take (i := 6) (oi := ⟨_, _, _, _, _, _⟩) (v := ?_) rfl (by kernel_rfl) (by kernel_rfl) (by kernel_rfl) (fun _ _ _ h => h) (Or.inl ⟨by rfl, ?_⟩) hHeld ?_
      rotate_left 1
      ·
       (intro W hSw; (try dsimp only at hSw); go_simp; try with_reducible rfl)
      try simp only [Act.put, List.setIfInBounds_toArray, List.set_cons_zero, List.set_cons_succ]
      refine wpAnyH_take (i := 7) (oi := ⟨_, _, _, _, _, _⟩) (v := ?_) rfl (by kernel_rfl) (by kernel_rfl) (by kernel_rfl) (fun _ _ _ h => h) (Or.inl ⟨by rfl, ?_⟩) hHeld ?_
      rotate_left 1
      ·
       (intro W hSw; (try dsimp only at hSw); go_simp; try with_reducible rfl)
      try simp only [Act.put, List.setIfInBounds_toArray, List.set_cons_zero, List.set_cons_succ]
      refine wpAnyH_done (by kernel_rfl) ?_ _
      refine NoPanic.normal ?_
     all_goals
      as_aux_lemma =>
       replace hHeld : Below wp.heap.size wp wb := hHeld
       have HGQ := Lib.hid (And.intro hgh hg2)
       have HH0 := Lib.hid (And.intro hH (And.intro hGG hHeld))
       clear hgh hg2 hH hGG hHeld
       go_wp2
       go_loopw [19] (fun i wr => ∃ k2 u : Nat, k2 ≤ no ∧ k2 ≤ 10 ∧ u ≤ k2 ∧ i = .int .i64 (k2 : Int) ∧ HalfAt wr gh gx gk gr 11 (keyL 4 (keyH S)) (ivH S) u ∧ RHalf wr g2 u S ∧ Below wp.heap.size wp wr) (fun i _ => no - (intOf i).toNat)
       case atStart => exact ⟨0, 0, Nat.zero_le _, Nat.zero_le _, Nat.le_refl _, rfl, HH0.out.1, HH0.out.2.1, HH0.out.2.2⟩
       case round =>
        clear HH0
        obtain ⟨k2, u, hk2n, hk10, huk, rfl, hH, hR, hb⟩ := hrel
        by_cases hlt2 : k2 < no
        ·
         have hd2 : decide (k2 < no) = true := by simpa using hlt2
         by_cases h10 : k2 < 10
         ·
          by_cases hnz : 0 < nl
          ·
           as_aux_lemma =>
            obtain ⟨gO, oO, hAO, hgO, hrO⟩ := HIO.out.2.2 (Nat.lt_of_le_of_lt (Nat.zero_le k2) hlt2)
            obtain ⟨a, ha⟩ : ∃ a, a = zs.getD k2 0 := ⟨_, rfl⟩
            have hco : wr.cell? ⟨gO, oO + k2, none⟩ = some (.int .i64 a) := by rw [ha]; exact ((HBB.out.trans (hb.mono HBB.out.size)).cell (p := ⟨gO, oO + k2, none⟩) hgO).trans (hrO k2 hlt2)
            obtain ⟨gl, hAL, hgl1, hgl2, hcells⟩ := HCL.out hnz
            have HUK := Lib.hid (show u < 1000 by omega)
            have HUK2 := Lib.hid huk
            have hnI : (0 : Int) < (nl : Int) := by omega
            obtain ⟨q, hq1, hq2⟩ := ix_x1000 a
            obtain ⟨k3, hk3, kk1, kk2, kk3, hk0, hkI, hk10I⟩ := ix_up10 k2 no h10 hlt2
            have HK3 := Lib.hid (show k3 ≤ no ∧ k3 ≤ 10 ∧ k2 + 1 = k3 ∧ no - k3 < no - k2 from ⟨kk3.1, kk3.2.1, hk3.symm, kk3.2.2⟩)
            have HK4 := Lib.hid (And.intro kk1 kk2)
            obtain ⟨j, i1, i2, i3, i4, i5, i6⟩ := ix_modn q nl hnz hq2
            obtain ⟨sj, hsj⟩ : ∃ sj, sj = l.getD j [] := ⟨_, rfl⟩
            have hcs : wr.cell? ⟨gl, j, none⟩ = some (.string ⟨sj.toArray⟩) := by rw [hsj]; exact (hb.cell (p := ⟨gl, j, none⟩) hgl2).trans (hcells j i5)
            have hlok : 5 ≤ sj.length ∧ sj.length ≤ 200 := HLK.out sj (by rw [hsj, List.getD_eq_getElem?_getD, List.getElem?_eq_getElem (by rw [← HNL.out.1]; exact i5)]; exact List.getElem_mem _)
            obtain ⟨n5, hn5⟩ : ∃ n5, n5 = sj.length := ⟨_, rfl⟩
            rw [← hn5] at hlok
            have HNS := Lib.hid hn5.symm
            have HN200 := Lib.hid hlok.2
            have HN5P := Lib.hid (show 0 < n5 by omega)
            have HQB := Lib.hid hq2
            subst hAO hAL
            clear ha hgO hrO hcells hsj hlok hn5 hk3 kk1 kk2 kk3 hk2n hk10 huk hlt2 h10 hgl1 hgl2 hnz hq2 i5
            go_upto_region 22 with (fail)
            rw [hq1]
            clear hco hq1 hd2 hk0 hkI hk10I
            go_upto_region 23 with ((with_reducible refine (?_ : wpList _ _ _ (Oper.mk (some 167) _ _ _ _ _ :: _) _ _)); go_loud (refine wpList_bytes_of rfl (.tmp 166) rfl sj rfl (by rw [HNS.out]; have := HN200.out; omega) ?_); intro c5 w4 hB4 hb4)
            rw [HNS.out] at hB4
            rw [HNS.out]
            have HGB := Lib.hid (show wr.heap.size ≠ gh from Ne.symm (Nat.ne_of_lt hH.half.lt))
            have HGK := Lib.hid (show gh ≠ wr.heap.size ∧ gx ≠ wr.heap.size ∧ gk ≠ wr.heap.size ∧ gr ≠ wr.heap.size from ⟨Nat.ne_of_lt hH.below_size.1, Nat.ne_of_lt hH.below_size.2.1, Nat.ne_of_lt hH.below_size.2.2.1, Nat.ne_of_lt hH.below_size.2.2.2⟩)
            have HGR := Lib.hid (show g2 ≠ wr.heap.size from Nat.ne_of_lt hR.half.lt)
            have HGBW := Lib.hid (show wp.heap.size ≤ wr.heap.size from hb.size)
            replace hB4 := hB4.base hb.size
            replace hH := hH.below hb4
            replace hR := hR.below hb4
            have hbr := hb.trans (hb4.mono hb.size)
            clear hb hb4 hcs i1 i2 i3 i4 i6 hnI
            generalize wr.heap.size = gb at *
            by_cases hx5 : 500 < q
            case' pos =>
             have hd5 : (500 : Int) < (q : Int) := by omega
             obtain ⟨j2, m1, m2, m3, m4, m6, m5⟩ := ix_modn q n5 HN5P.out HQB.out
             have HJ2 := Lib.hid m6
             obtain ⟨yb, hyb⟩ : ∃ y, y = UInt8.ofNat q := ⟨_, rfl⟩
             have hwq := wrap_ofNat q
             rw [← hyb] at hwq
             have HYB := Lib.hid hwq
             obtain ⟨v2, hv2⟩ : ∃ y, y = sj.getD j2 0 := ⟨_, rfl⟩
             have HV2 := Lib.hid hv2.symm
             have hxx := b_xor v2 yb
             obtain ⟨z, hzz⟩ : ∃ y, y = v2 ^^^ yb := ⟨_, rfl⟩
             rw [← hzz] at hxx
             have HXX := Lib.hid hxx
             clear hyb hwq hv2 hzz hxx hx5 m6
             go_upto_region 24 with (fail)
             clear hd5
             obtain ⟨hcc, hff⟩ := buf_atX hB4 HJ2.out
             rw [HV2.out] at hcc
             have c1 := HYB.out
             have hxx := HXX.out
             have hset := hB4.set HJ2.out z
             have hgs := grown_setCell (grown_refl w4 (some gb)) (p := ⟨gb, j2, none⟩) (.inl rfl) (.int .u8 (z.toNat : Int))
             go_upto_region 25 with (fail)
             replace hset : Buf (w4.setCell ⟨gb, j2, none⟩ (.int .u8 (z.toNat : Int))) wp.heap.size (some ⟨gb, 0, none⟩) n5 c5 (sj.set j2 z) := hset
             replace hH := hH.grownB hgs HGK.out
             replace hR : RHalf (w4.setCell ⟨gb, j2, none⟩ (.int .u8 (z.toNat : Int))) g2 u S := ⟨hR.half.grown hgs (by have := HGR.out; simp; omega)⟩
             have hb := below_new hbr hgs HGBW.out hbr.size
             have HN5 : (sj.set j2 z).length = n5 := by rw [List.length_set]; exact HNS.out
             have HN6 : n5 < 100000 := Nat.lt_of_le_of_lt HN200.out (by decide)
             clear hB4 hbr hcc hff c1 hxx hgs m1 m2 m3 m4 m5
             generalize w4.setCell ⟨gb, j2, none⟩ (.int .u8 (z.toNat : Int)) = wx at *
             generalize sj.set j2 z = SB at *
            case' neg =>
             have hd5 : ¬ (500 : Int) < (q : Int) := by omega
             have HN5 : sj.length = n5 := HNS.out
             have HN6 : n5 < 100000 := Nat.lt_of_le_of_lt HN200.out (by decide)
             clear hx5
             go_upto_region 25 with (fail)
             clear hd5
             have hb := hbr
             clear hbr
             have hset := hB4
             clear hB4
             generalize w4 = wx at *
             generalize sj = SB at *
            all_goals
             as_aux_lemma =>
              have hop := hopen_all hH n5 c5 (some ⟨gb, 0, none⟩) SB HN5 (hset.toIn (Nat.le_refl _)) HN6 HUK.out
              go_upto_region 26 with (go_at_call 11; refine hop.mono ?_; rintro e wy ⟨A7, n7, c7, rfl, hol, hoi, hH9, hg9⟩)
              have hbq := below_new hb hg9 HGQ.out.1 hb.size
              have hR8 : RHalf wy g2 u S := ⟨hR.half.grown hg9 (by simpa using blk_ne hR.half hH.half (by decide))⟩
              have hBU := hset.kept hg9 (fun g e h => by have h1 := hH.half.lt; have h2 := HGB.out; injection e with e; injection e with e; injection h with h; omega)
              have hcv := conv_in HN5 (hBU.toIn (Nat.le_refl _))
              have hro := rhopen_all hR8 HSL.out n5 SB HN5 HN6 HUK.out
              clear hop hH hR hb
              go_upto_region 27 with (go_at_call 21; refine hro.mono ?_; rintro e wz ⟨rfl, hR9, hg10⟩)
              have hbz := below_new hbq hg10 HGQ.out.2 hbq.size
              replace hH9 := hH9.grownR hR8.half hg10
              replace hoi := in_grownX hoi hg10 hR8.half
              clear hcv hro hBU hbq hg9 hg10 hR8
              generalize openOut (keyL 4 (keyH S)) (ivH S) u SB = OO at *
              obtain ⟨⟨OK1, OB, OE⟩, OU⟩ := OO
              simp only at hol hoi
              refine wp_region_noPanic ?_
              refine wp_region_held_drew (S := fun W => Below wz.heap.size wz W) (by kernel_rfl) (by exact below_drewN (Below.refl _ _) 1) (fun hHeld => ?_)
              refine wpAnyH_take (i := 0) (oi := ⟨_, _, _, _, _, _⟩) (v := ?_) rfl (by kernel_rfl) (by kernel_rfl) (by kernel_rfl) (fun _ _ _ h => h) (Or.inl ⟨by rfl, ?_⟩) hHeld ?_
              rotate_left 1
              ·
               (intro W hSw; (try dsimp only at hSw); go_simp; try with_reducible rfl)
              try simp only [Act.put, List.setIfInBounds_toArray, List.set_cons_zero, List.set_cons_succ]
              refine wpAnyH_take (i := 1) (oi := ⟨_, _, _, _, _, _⟩) (v := ?_) rfl (by kernel_rfl) (by kernel_rfl) (by kernel_rfl) (fun _ _ _ h => h) (Or.inl ⟨by rfl, ?_⟩) hHeld ?_
              rotate_left 1
              ·
               (intro W hSw; (try dsimp only at hSw); go_simp; try with_reducible rfl)
              try simp only [Act.put, List.setIfInBounds_toArray, List.set_cons_zero, List.set_cons_succ]
              refine wpAnyH_take (i := 2) (oi := ⟨_, _, _, _, _, _⟩) (v := ?_) rfl (by kernel_rfl) (by kernel_rfl) (by kernel_rfl) (fun _ _ _ h => h) (Or.inl ⟨by rfl, ?_⟩) hHeld ?_
              rotate_left 1
              ·
               (intro W hSw; (try dsimp only at hSw); go_simp; try with_reducible rfl)
              try simp only [Act.put, List.setIfInBounds_toArray, List.set_cons_zero, List.set_cons_succ]
              refine wpAnyH_take (i := 3) (oi := ⟨_, _, _, _, _, _⟩) (v := ?_) rfl (by kernel_rfl) (by kernel_rfl) (by kernel_rfl) (fun _ _ _ h => h) (Or.inl ⟨by rfl, ?_⟩) hHeld ?_
              rotate_left 1
              ·
               (intro W hSw; (try dsimp only at hSw); go_simp; try with_reducible rfl)
              try simp only [Act.put, List.setIfInBounds_toArray, List.set_cons_zero, List.set_cons_succ]
              refine wpAnyH_take (i := 4) (oi := ⟨_, _, _, _, _, _⟩) (v := ?_) rfl (by kernel_rfl) (by kernel_rfl) (by kernel_rfl) (fun _ _ _ h => h) (Or.inl ⟨by rfl, ?_⟩) hHeld ?_
              rotate_left 1
              ·
               (intro W hSw; (try dsimp only at hSw); go_simp; try with_reducible rfl)
              try simp only [Act.put, List.setIfInBounds_toArray, List.set_cons_zero, List.set_cons_succ]
              refine wpAnyH_take (i := 5) (oi := ⟨_, _, _, _, _, _⟩) (v := ?_) rfl (by kernel_rfl) (by kernel_rfl) (by kernel_rfl) (fun _ _ _ h => h) (Or.inl ⟨by rfl, ?_⟩) hHeld ?_
              rotate_left 1
              ·
               (intro W hSw; (try dsimp only at hSw); have hcv := conv_in (y := OB) hol (hoi.up hSw); go_simp; try with_reducible rfl)
              try simp only [Act.put, List.setIfInBounds_toArray, List.set_cons_zero, List.set_cons_succ]
              refine wpAnyH_take (i := 6) (oi := ⟨_, _, _, _, _, _⟩) (v := ?_) rfl (by kernel_rfl) (by kernel_rfl) (by kernel_rfl) (fun _ _ _ h => h) (Or.inl ⟨by rfl, ?_⟩) hHeld ?_
              rotate_left 1
              ·
               (intro W hSw; (try dsimp only at hSw); go_simp; try with_reducible rfl)
              try simp only [Act.put, List.setIfInBounds_toArray, List.set_cons_zero, List.set_cons_succ]
              refine wpAnyH_take (i := 7) (oi := ⟨_, _, _, _, _, _⟩) (v := ?_) rfl (by kernel_rfl) (by kernel_rfl) (by kernel_rfl) (fun _ _ _ h => h) (Or.inl ⟨by rfl, ?_⟩) hHeld ?_
              rotate_left 1
              ·
               (intro W hSw; (try dsimp only at hSw); go_simp; try with_reducible rfl)
              try simp only [Act.put, List.setIfInBounds_toArray, List.set_cons_zero, List.set_cons_succ]
              refine wpAnyH_take (i := 8) (oi := ⟨_, _, _, _, _, _⟩) (v := ?_) rfl (by kernel_rfl) (by kernel_rfl) (by kernel_rfl) (fun _ _ _ h => h) (Or.inl ⟨by rfl, ?_⟩) hHeld ?_
              rotate_left 1
              ·
               (intro W hSw; (try dsimp only at hSw); go_simp; try with_reducible rfl)
              try simp only [Act.put, List.setIfInBounds_toArray, List.set_cons_zero, List.set_cons_succ]
              refine wpAnyH_take (i := 9) (oi := ⟨_, _, _, _, _, _⟩) (v := ?_) rfl (by kernel_rfl) (by kernel_rfl) (by kernel_rfl) (fun _ _ _ h => h) (Or.inl ⟨by rfl, ?_⟩) hHeld ?_
              rotate_left 1
              ·
               (intro W hSw; (try dsimp only at hSw); go_simp; try with_reducible rfl)
              try simp only [Act.put, List.setIfInBounds_toArray, List.set_cons_zero, List.set_cons_succ]
              refine wpAnyH_take (i := 10) (oi := ⟨_, _, _, _, _, _⟩) (v := ?_) rfl (by kernel_rfl) (by kernel_rfl) (by kernel_rfl) (fun _ _ _ h => h) (Or.inl ⟨by rfl, ?_⟩) hHeld ?_
              rotate_left 1
              ·
               (intro W hSw; (try dsimp only at hSw); go_simp; try with_reducible rfl)
              try simp only [Act.put, List.setIfInBounds_toArray, List.set_cons_zero, List.set_cons_succ]
              refine wpAnyH_take (i := 11) (oi := ⟨_, _, _, _, _, _⟩) (v := ?_) rfl (by kernel_rfl) (by kernel_rfl) (by kernel_rfl) (fun _ _ _ h => h) (Or.inl ⟨by rfl, ?_⟩) hHeld ?_
              rotate_left 1
              ·
               (intro W hSw; (try dsimp only at hSw); go_simp; try with_reducible rfl)
              try simp only [Act.put, List.setIfInBounds_toArray, List.set_cons_zero, List.set_cons_succ]
              refine wpAnyH_take (i := 12) (oi := ⟨_, _, _, _, _, _⟩) (v := ?_) rfl (by kernel_rfl) (by kernel_rfl) (by kernel_rfl) (fun _ _ _ h => h) (Or.inl ⟨by rfl, ?_⟩) hHeld ?_
              rotate_left 1
              ·
               (intro W hSw; (try dsimp only at hSw); go_simp; try with_reducible rfl)
              try simp only [Act.put, List.setIfInBounds_toArray, List.set_cons_zero, List.set_cons_succ]
              refine wpAnyH_take (i := 13) (oi := ⟨_, _, _, _, _, _⟩) (v := ?_) rfl (by kernel_rfl) (by kernel_rfl) (by kernel_rfl) (fun _ _ _ h => h) (Or.inl ⟨by rfl, ?_⟩) hHeld ?_
              rotate_left 1
              ·
               (intro W hSw; (try dsimp only at hSw); go_simp; try with_reducible rfl)
              try simp only [Act.put, List.setIfInBounds_toArray, List.set_cons_zero, List.set_cons_succ]
              refine wpAnyH_take (i := 14) (oi := ⟨_, _, _, _, _, _⟩) (v := ?_) rfl (by kernel_rfl) (by kernel_rfl) (by kernel_rfl) (fun _ _ _ h => h) (Or.inl ⟨by rfl, ?_⟩) hHeld ?_
              rotate_left 1
              ·
               (intro W hSw; (try dsimp only at hSw); go_simp; try with_reducible rfl)
              try simp only [Act.put, List.setIfInBounds_toArray, List.set_cons_zero, List.set_cons_succ]
              refine wpAnyH_take (i := 15) (oi := ⟨_, _, _, _, _, _⟩) (v := ?_) rfl (by kernel_rfl) (by kernel_rfl) (by kernel_rfl) (fun _ _ _ h => h) (Or.inl ⟨by rfl, ?_⟩) hHeld ?_
              rotate_left 1
              ·
               (intro W hSw; (try dsimp only at hSw); go_simp; try with_reducible rfl)
              try simp only [Act.put, List.setIfInBounds_toArray, List.set_cons_zero, List.set_cons_succ]
              refine wpAnyH_take (i := 17) (oi := ⟨_, _, _, _, _, _⟩) (v := ?_) rfl (by kernel_rfl) (by kernel_rfl) (by kernel_rfl) (fun _ _ _ h => h) (Or.inl ⟨by rfl, ?_⟩) hHeld ?_
              rotate_left 1
              ·
               (intro W hSw; (try dsimp only at hSw); go_simp; try with_reducible rfl)
              try simp only [Act.put, List.setIfInBounds_toArray, List.set_cons_zero, List.set_cons_succ]
              refine wpAnyH_take (i := 18) (oi := ⟨_, _, _, _, _, _⟩) (v := ?_) rfl (by kernel_rfl) (by kernel_rfl) (by kernel_rfl) (fun _ _ _ h => h) (Or.inl ⟨by rfl, ?_⟩) hHeld ?_
              rotate_left 1
              ·
               (intro W hSw; (try dsimp only at hSw); go_simp; try with_reducible rfl)
              try simp only [Act.put, List.setIfInBounds_toArray, List.set_cons_zero, List.set_cons_succ]
              refine wpAnyH_take (i := 19) (oi := ⟨_, _, _, _, _, _⟩) (v := ?_) rfl (by kernel_rfl) (by kernel_rfl) (by kernel_rfl) (fun _ _ _ h => h) (Or.inl ⟨by rfl, ?_⟩) hHeld ?_
              rotate_left 1
              ·
               (intro W hSw; (try dsimp only at hSw); go_simp; try with_reducible rfl)
              try simp only [Act.put, List.setIfInBounds_toArray, List.set_cons_zero, List.set_cons_succ]
              refine wpAnyH_take (i := 20) (oi := ⟨_, _, _, _, _, _⟩) (v := ?_) rfl (by kernel_rfl) (by kernel_rfl) (by kernel_rfl) (fun _ _ _ h => h) (Or.inl ⟨by rfl, ?_⟩) hHeld ?_
              rotate_left 1
              ·
               (intro W hSw; (try dsimp only at hSw); have hcc := (hR9.below hSw).c1; go_simp; try with_reducible rfl)
              try simp only [Act.put, List.setIfInBounds_toArray, List.set_cons_zero, List.set_cons_succ]
              refine wpAnyH_ready (rs := [16]) (by kernel_rfl) (by simp) ?_
              refine AllReadyH.cons (o := ⟨_, _, _, _, _, _⟩) rfl (fun K hK => ?_) AllReadyH.nil
              go_simp
              go_at_call 13
              refine (used_e (hH9.below hHeld)).mono ?_
              rintro e w' ⟨rfl, hww⟩
              have hw2 := hww.symm
              subst hw2
              try go_wp2_with fail
              refine hK.out _ _ hHeld (fun hHeld => ?_)
              clear hK K
              try simp only [Act.put, List.setIfInBounds_toArray, List.set_cons_zero, List.set_cons_succ]
              refine wpAnyH_take (i := 21) (oi := ⟨_, _, _, _, _, _⟩) (v := ?_) rfl (by kernel_rfl) (by kernel_rfl) (by kernel_rfl) (fun _ _ _ h => h) (Or.inl ⟨by rfl, ?_⟩) hHeld ?_
              rotate_left 1
              ·
               (intro W hSw; (try dsimp only at hSw); go_simp; try with_reducible rfl)
              try simp only [Act.put, List.setIfInBounds_toArray, List.set_cons_zero, List.set_cons_succ]
              refine wpAnyH_take (i := 22) (oi := ⟨_, _, _, _, _, _⟩) (v := ?_) rfl (by kernel_rfl) (by kernel_rfl) (by kernel_rfl) (fun _ _ _ h => h) (Or.inl ⟨by rfl, ?_⟩) hHeld ?_
              rotate_left 1
              ·
               (intro W hSw; (try dsimp only at hSw); go_simp; try with_reducible rfl)
              try simp only [Act.put, List.setIfInBounds_toArray, List.set_cons_zero, List.set_cons_succ]
              refine wpAnyH_done (by kernel_rfl) ?_ _
              refine NoPanic.normal ?_
              replace hHeld : Below wz.heap.size wz wz.drew := hHeld
              have HKE := Lib.hid (show HalfAt wz.drew gh gx gk gr 11 (keyL 4 (keyH S)) (ivH S) (usedO OU u) ∧ RHalf wz.drew g2 (usedO OU u) S ∧ Below wp.heap.size wp wz.drew from ⟨hH9.below hHeld, hR9.below hHeld, hbz.trans (hHeld.mono hbz.size)⟩)
              clear hHeld hH9 hR9 hbz hoi hol
              go_wp2
              go_roundw
              case rel => exact ⟨k3, usedO OU u, HK3.out.1, HK3.out.2.1, usedO_le HUK2.out HK3.out.2.2.1, by simp only [HK4.out.1, HK4.out.2], HKE.out.1, HKE.out.2.1, HKE.out.2.2⟩
              case measure => simp only [HK4.out.1, HK4.out.2]; exact HK3.out.2.2.2
          ·
           as_aux_lemma =>
            have hz0 : nl = 0 := by omega
            have hz1 : ¬ (0 : Int) < (nl : Int) := by omega
            clear hnz
            go_wp2_with (go_at_call 12; refine (records_e _ (HT.out.below (HBB.out.trans (hb.mono HBB.out.size)))).mono ?_; rintro e we ⟨rfl, hbe⟩)
            go_ret
            exact ⟨rfl, HBB.out.trans ((hb.trans (hbe.mono hb.size)).mono HBB.out.size)⟩
         ·
          as_aux_lemma =>
           have hz1 : ¬ (k2 : Int) < 10 := by omega
           clear h10
           go_wp2_with (go_at_call 12; refine (records_e _ (HT.out.below (HBB.out.trans (hb.mono HBB.out.size)))).mono ?_; rintro e we ⟨rfl, hbe⟩)
           go_ret
           exact ⟨rfl, HBB.out.trans ((hb.trans (hbe.mono hb.size)).mono HBB.out.size)⟩
        ·
         as_aux_lemma =>
          have hd2 : decide (k2 < no) = false := by simpa using hlt2
          clear hlt2
          go_wp2_with (go_at_call 12; refine (records_e _ (HT.out.below (HBB.out.trans (hb.mono HBB.out.size)))).mono ?_; rintro e we ⟨rfl, hbe⟩)
          go_ret
          exact ⟨rfl, HBB.out.trans ((hb.trans (hbe.mono hb.size)).mono HBB.out.size)⟩
end Go.Proofs.YtnjpcbbdhimacaaDoor
