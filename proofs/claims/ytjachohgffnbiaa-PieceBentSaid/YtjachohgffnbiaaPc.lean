/-
  What a joiner is in memory; what changes beside; the contract of package piece's join.
-/
import Derived.Test.YtjachohgffnbiaaPb
import Derived.Deep.QuietTactic
namespace Go.Proofs.Ytjachohgffnbiaa
open Go.RowKit

/-- Nothing that was there changes but in the blocks of S. -/
structure Chg (S : Nat → Prop) (w w' : World) : Prop where
  os : w'.os = w.os
  tape : w'.tape = w.tape
  output : w'.output = w.output
  size : w.heap.size ≤ w'.heap.size
  block : ∀ k, k < w.heap.size → ¬ S k → w'.heap[k]? = w.heap[k]?
theorem Chg.refl (S : Nat → Prop) (w : World) : Chg S w w := ⟨rfl, rfl, rfl, Nat.le_refl _, fun _ _ _ => rfl⟩
theorem Chg.trans {S S' : Nat → Prop} {a b c : World} (h : Chg S a b) (k : Chg S' b c) (hS : ∀ i, i < a.heap.size → S' i → S i) : Chg S a c :=
  ⟨k.os.trans h.os, k.tape.trans h.tape, k.output.trans h.output, Nat.le_trans h.size k.size, fun i hi hn => (k.block i (Nat.lt_of_lt_of_le hi h.size) (fun h2 => hn (hS i hi h2))).trans (h.block i hi hn)⟩
theorem Chg.weak {S S' : Nat → Prop} {a b : World} (h : Chg S a b) (hS : ∀ i, i < a.heap.size → S i → S' i) : Chg S' a b :=
  ⟨h.os, h.tape, h.output, h.size, fun i hi hn => h.block i hi (fun h2 => hn (hS i hi h2))⟩
theorem chg_of_below {S : Nat → Prop} {a b : World} (h : Below a.heap.size a b) : Chg S a b := ⟨h.os, h.tape, h.output, h.size, fun i hi _ => h.block i hi⟩
theorem chg_of_grown {S : Nat → Prop} {a b : World} {r : Option Nat} (h : a.grownBy b r) (hr : ∀ k, r = some k → S k) : Chg S a b :=
  ⟨h.os, h.tape, h.output, h.size, fun i hi hn => h.block i hi (fun e => hn (hr i e.symm))⟩
theorem Chg.below {S : Nat → Prop} {a b : World} {B : Nat} (h : Chg S a b) (hB : B ≤ a.heap.size) (hS : ∀ k, S k → B ≤ k) : Below B a b :=
  ⟨h.os, h.tape, h.output, h.size, fun i hi => h.block i (by omega) (fun h2 => by have := hS i h2; omega)⟩
theorem Blk.chg {S : Nat → Prop} {w w' : World} {g : Nat} {t : TypeId} {cs : List Value} (h : Blk w g t cs) (hc : Chg S w w') (hn : ¬ S g) : Blk w' g t cs := (hc.block g h.lt hn).trans h
theorem Buf.chg {S : Nat → Prop} {w w' : World} {base n c : Nat} {A : Option Addr} {bs : List UInt8} (h : Buf w base A n c bs) (hc : Chg S w w') (hn : ∀ g, A = some ⟨g, 0, none⟩ → ¬ S g) : Buf w' base A n c bs := by
  refine ⟨h.1, ?_⟩
  rcases h.2 with h0 | ⟨g, rfl, hb, hlt, h1, h2, hby, hall⟩
  · exact .inl h0
  · have hB := hc.block g hlt (hn g rfl)
    refine .inr ⟨g, rfl, hb, Nat.lt_of_lt_of_le hlt hc.size, h1, h2, fun j hj => (World.cell?_of_block (a := ⟨g, 0 + j, none⟩) hB).trans (hby j hj), fun j hj => ?_⟩
    rw [World.cell?_of_block (a := ⟨g, j, none⟩) hB, World.frozen?_of_block (a := ⟨g, j, none⟩) hB]
    exact hall j hj
/-- Block k is a joiner's, or that of its flight. -/
def Ours (g : Nat) (A : Option Addr) (k : Nat) : Prop := k = g ∨ some k = ownOf A
/-- A joiner with a flight so far, and a count; its memory is its own, from block base on. -/
def JoinAt (w : World) (base g : Nat) (A : Option Addr) (c : Nat) (F : List UInt8) (C : Nat) : Prop :=
  Blk w g 54 [.slice A F.length c, .int .i64 (C : Int)] ∧ base ≤ g ∧ Buf w base A F.length c F ∧ ∀ a, A = some a → a.block ≠ g
theorem JoinAt.chg {S : Nat → Prop} {w w' : World} {base g c C : Nat} {A : Option Addr} {F : List UInt8} (h : JoinAt w base g A c F C) (hc : Chg S w w') (hn : ∀ k, Ours g A k → ¬ S k) : JoinAt w' base g A c F C :=
  ⟨h.1.chg hc (hn g (.inl rfl)), h.2.1, h.2.2.1.chg hc (fun k e => hn k (.inr (by rw [e]; rfl))), h.2.2.2⟩
theorem JoinAt.ours {w : World} {base g c C : Nat} {A : Option Addr} {F : List UInt8} (h : JoinAt w base g A c F C) {k : Nat} (hk : Ours g A k) : base ≤ k ∧ k < w.heap.size := by
  rcases hk with rfl | hk
  · exact ⟨h.2.1, h.1.lt⟩
  · rcases h.2.2.1.2 with ⟨rfl, _⟩ | ⟨q, rfl, h1, h2, _⟩
    · cases hk
    · simp only [ownOf, Option.some.injEq] at hk; subst hk; exact ⟨h1, h2⟩
theorem JoinAt.below {w w' : World} {base g c C : Nat} {A : Option Addr} {F : List UInt8} (h : JoinAt w base g A c F C) (hb : Below w.heap.size w w') : JoinAt w' base g A c F C :=
  h.chg (S := fun _ => False) (chg_of_below hb) (fun _ _ h => h)
theorem JoinAt.drewN {w : World} {base g c C : Nat} {A : Option Addr} {F : List UInt8} (h : JoinAt w base g A c F C) (n : Nat) : JoinAt (w.drewN n) base g A c F C := h
/-- What join tells of a piece: what is wrong; the flight; the count. -/
def joinE (F : List UInt8) (C : Nat) (f : UInt8) (q : Nat) (h : List UInt8) : Nat × List UInt8 × Nat :=
  if mayB F.length f = false then (2, F, C) else if 32768 < (if F.length = 0 then q else C) then (4, F, C)
  else if (if F.length = 0 then q else C) < F.length + h.length ∨ (F.length + h.length < (if F.length = 0 then q else C) ∧ hM f = false) ∨ (h.length = 0 ∧ hM f = true) then (2, F, C)
  else (0, F ++ h, if F.length = 0 then q else C)
/-- Bytes more behind a row of the call's own, at a step of a region that draws its order; where the row lies. -/
theorem step_append_far {ops : Array Oper} {o : Oper} {a : Act} {w : World} {K : Act → World → Prop} {Q : Exit → Act → World → Prop} {E : Prop} (hgd : o.guard = none) (s x : Operand) (tx : TypeId)
    (ho : o.op = .call { callee := .builtin .append, args := #[s, x], argTypes := #[23, tx] })
    (base : Nat) (A : Option Addr) (n c : Nat) (bs ys : List UInt8) (v : Value) (hs : a.eval s = .slice A n c) (hb : Buf w base A n c bs) (hx : a.eval x = v) (hsrc : _root_.Go.Src Try.prog 1 tx v ys.length (ys.map B8) w)
    (hn : n + ys.length ≤ 1099511627776) (hbase : base ≤ w.heap.size) (m : Nat) (hm : m = n + ys.length)
    (h : ∀ A' c' w', Buf w' base A' m c' (bs ++ ys) → w.grownBy w' (ownOf A) → Fresh w A A' → K (a.put o.dst (.slice A' m c')) w') : if Region.wanted o (yielded ops a.tmps) = true then Oper.wp Try.prog o a w K Q else E := by
  subst hm
  have hw : Region.wanted o (yielded ops a.tmps) = true := by simp [Region.wanted, hgd]
  rw [if_pos hw]
  obtain ⟨A', c', w', hr, h1, h2, _, h3⟩ := run_append_far tx o.type base A n c bs ys v w hb hsrc hn hbase
  unfold Oper.wp execOp
  simp only [ho, resolve, invoke, builtin, Sem.run_bind, Sem.run_pure, Result.andThen_ok, List.map_toArray, List.map_cons, List.map_nil, hs, hx, hr]
  exact h A' c' w' h1 h2 h3
def JoinPost (E : Nat × List UInt8 × Nat) (base g : Nat) (A : Option Addr) (w : World) (e : Ending) (w' : World) : Prop :=
  ∃ A' c', e = .returned (.int .i64 (E.1 : Int)) ∧ JoinAt w' base g A' c' E.2.1 E.2.2 ∧ Fresh w A A' ∧ Chg (Ours g A) w w'
set_option maxRecDepth 100000 in
set_option maxHeartbeats 1000000 in
theorem join_e (base g p : Nat) (A B : Option Addr) (c q m d C : Nat) (F h : List UInt8) (f : UInt8) (w : World) (hJ : JoinAt w base g A c F C) (hP : Blk w p 56 [.int .u8 (f.toNat : Int), .int .i64 (q : Int), .slice B m d]) (hh : h.length = m) (iB : In w w.heap.size B d h) (hF : F.length < 1000000) (hm : m < 1000000) (hpg : p ≠ g) (hpA : some p ≠ ownOf A) (hbase : base ≤ w.heap.size) :
    Calls Try.prog 23 #[.pointer (some ⟨g, 0, none⟩), .pointer (some ⟨p, 0, none⟩)] w (JoinPost (joinE F C f q h) base g A w) := by
  obtain ⟨E, hJE⟩ : ∃ E, joinE F C f q h = E := ⟨_, rfl⟩
  rw [hJE]
  obtain ⟨n, hn⟩ : ∃ n, n = F.length := ⟨_, rfl⟩
  have HE := Lib.hid (show E = if mayB n f = false then (2, F, C) else if 32768 < (if n = 0 then q else C) then (4, F, C)
    else if (if n = 0 then q else C) < n + m ∨ (n + m < (if n = 0 then q else C) ∧ hM f = false) ∨ (m = 0 ∧ hM f = true) then (2, F, C) else (0, F ++ h, if n = 0 then q else C) by rw [← hJE]; unfold joinE; rw [← hn, hh])
  clear hJE
  have c0 : w.cell? ⟨g, 0, none⟩ = some (.slice A n c) := by rw [hn]; exact hJ.1.cell 0
  have c1 : w.cell? ⟨g, 1, none⟩ = some (.int .i64 (C : Int)) := hJ.1.cell 1
  have k0 : w.cell? ⟨p, 0, none⟩ = some (.int .u8 (f.toNat : Int)) := hP.cell 0
  have k1 : w.cell? ⟨p, 1, none⟩ = some (.int .i64 (q : Int)) := hP.cell 1
  have k2 : w.cell? ⟨p, 2, none⟩ = some (.slice B m d) := hP.cell 2
  obtain ⟨r, hr⟩ : ∃ r, mayB n f = r := ⟨_, rfl⟩
  have HMC := Lib.hid (mayCome_e g p A n c f w c0 k0 r hr)
  have HNW := Lib.hid (isNew_e g A n c w c0 (decide (n = 0)) rfl)
  have HJ := Lib.hid hJ
  rw [hr] at HE
  have HC0 := Lib.hid c0
  have HK2 := Lib.hid k2
  have HIB := Lib.hid iB
  have HHL := Lib.hid hh
  have HNF := Lib.hid hn
  have HPG := Lib.hid (And.intro hpg hpA)
  have hn9 : n < 1000000 := by omega
  have HHM := Lib.hid (fun (W : World) (k0 : W.cell? ⟨p, 0, none⟩ = some (.int .u8 (f.toNat : Int))) (r : Bool) (hr : hM f = r) => hasM_e p f W k0 r hr)
  clear hJ hP hh iB hr hn hF hpg hpA
  cases r
  · have HZ := Lib.hid (show E = (2, F, C) by rw [HE.out]; rfl)
    go_enter Try.func23, Try.ntmps23
    go_wp2_with (go_at_call 26; refine HMC.out.mono ?_; rintro e w6 ⟨rfl, hww⟩; have hw2 := hww.symm; subst hw2)
    go_ret
    exact ⟨A, c, by rw [HZ.out] <;> rfl, by rw [HZ.out]; exact HJ.out, .inl rfl, Chg.refl _ _⟩
  · obtain ⟨k, hk⟩ : ∃ k, k = if n = 0 then q else C := ⟨_, rfl⟩
    rw [if_neg (by decide), ← hk] at HE
    have HK := Lib.hid hk
    by_cases hbig : 32768 < k
    · have HZ := Lib.hid (HE.out.trans (if_pos hbig))
      by_cases hn0 : n = 0
      all_goals (
        have hk2 := HK.out
        first | rw [if_pos hn0] at hk2 | rw [if_neg hn0] at hk2
        subst hk2
        first | rw [decide_eq_true hn0] at HNW | rw [decide_eq_false hn0] at HNW
        have hd : (32768 : Int) < (k : Int) := by omega
        clear hbig hn0 hk
        go_enter Try.func23, Try.ntmps23
        go_wp2_with (first
          | (go_at_call 26; refine HMC.out.mono ?_; rintro e w6 ⟨rfl, hww⟩; have hw2 := hww.symm; subst hw2)
          | (go_at_call 27; refine HNW.out.mono ?_; rintro e w6 ⟨rfl, hww⟩; have hw2 := hww.symm; subst hw2))
        go_ret
        exact ⟨A, c, by rw [HZ.out] <;> rfl, by rw [HZ.out]; exact HJ.out, .inl rfl, Chg.refl _ _⟩)
    · have HE2 := Lib.hid (HE.out.trans (if_neg hbig))
      obtain ⟨a, ha⟩ : ∃ a, a = n + m := ⟨_, rfl⟩
      rw [← ha] at HE2
      have hs1 : (n : Int) + (m : Int) = (a : Int) := by omega
      have hs2 : IntKind.i64.wrap (a : Int) = (a : Int) := by rw [IntKind.wrap_i64]; omega
      have hs3 : wrap64 (a : Int) = (a : Int) := by unfold wrap64; omega
      have HA := Lib.hid ha
      have HBG := Lib.hid (show ¬ (32768 : Int) < (k : Int) by omega)
      by_cases hn0 : n = 0
      all_goals (
        have hk2 := HK.out
        first | rw [if_pos hn0] at hk2 | rw [if_neg hn0] at hk2
        subst hk2
        first | rw [decide_eq_true hn0] at HNW | rw [decide_eq_false hn0] at HNW
        have hd := HBG.out
        clear hbig hn0 hk ha
        go_enter Try.func23, Try.ntmps23
        go_upto_region 8 with (first
          | (go_at_call 26; refine HMC.out.mono ?_; rintro e w6 ⟨rfl, hww⟩; have hw2 := hww.symm; subst hw2)
          | (go_at_call 27; refine HNW.out.mono ?_; rintro e w6 ⟨rfl, hww⟩; have hw2 := hww.symm; subst hw2))
        go_quiet (fail)
        clear hs2 hs3 hd c1 k1
        have HJ2 := Lib.hid (HJ.out.drewN nq)
        have HB2 := Lib.hid (show Below w.heap.size w (w.drewN nq) from below_drewN (Below.refl _ _) nq)
        have c0' : (w.drewN nq).cell? ⟨g, 0, none⟩ = some (.slice A n c) := c0
        have k0' : (w.drewN nq).cell? ⟨p, 0, none⟩ = some (.int .u8 (f.toNat : Int)) := k0
        have k2' : (w.drewN nq).cell? ⟨p, 2, none⟩ = some (.slice B m d) := k2
        clear c0 k0 k2 HC0 HK2
        have HC0 := Lib.hid c0'
        have HK2 := Lib.hid k2'
        generalize w.drewN nq = wq at *
        clear c0'
        cases ht : hM f
        · have HM := Lib.hid (HHM.out wq k0' _ ht)
          rw [ht] at HE2
          by_cases hka : k < a
          · have HZ := Lib.hid (HE2.out.trans (if_pos (by left; exact hka)))
            have hd1 : decide (k < a) = true := by simpa using hka
            clear hka
            go_wp2_with (go_at_call 24; refine HM.out.mono ?_; rintro e w6 ⟨rfl, hww⟩; have hw2 := hww.symm; subst hw2)
            go_ret
            exact ⟨A, c, by rw [HZ.out] <;> rfl, by rw [HZ.out]; exact HJ2.out, .inl rfl, chg_of_below HB2.out⟩
          · have hd1 : decide (k < a) = false := by simpa using hka
            by_cases hak : a < k
            · have hd2 : decide (a < k) = true := by simpa using hak
              have HZ := Lib.hid (HE2.out.trans (if_pos (by right; left; exact ⟨hak, rfl⟩)))
              clear hka hak
              go_wp2_with (go_at_call 24; refine HM.out.mono ?_; rintro e w6 ⟨rfl, hww⟩; have hw2 := hww.symm; subst hw2)
              all_goals (go_ret; exact ⟨A, c, by rw [HZ.out] <;> rfl, by rw [HZ.out]; exact HJ2.out, .inl rfl, chg_of_below HB2.out⟩)
            · have hd2 : decide (a < k) = false := by simpa using hak
              obtain ⟨z, hz⟩ : ∃ z, ((m : Int) == 0) = z := ⟨_, rfl⟩
              cases z
              all_goals (
                have HZ := Lib.hid (HE2.out.trans (if_neg (by simp; omega)))
                clear hka hak
                go_upto_region 11 with (go_at_call 24; refine HM.out.mono ?_; rintro e w6 ⟨rfl, hww⟩; have hw2 := hww.symm; subst hw2)
                refine wp_region_noPanic ?_
                refine wp_region_held_drew (S := fun W => W.cell? ⟨p, 2, none⟩ = some (.slice B m d)) (by kernel_rfl) (by exact HK2.out) (fun hHeld => ?_)
                refine wpAnyH_take (i := 0) (oi := ⟨_, _, _, _, _, _⟩) (v := ?_) rfl (by kernel_rfl) (by kernel_rfl) (by kernel_rfl) (fun _ _ _ h => h) (Or.inl ⟨by rfl, ?_⟩) hHeld ?_
                rotate_left 1
                · (intro W hSw; (try dsimp only at hSw); go_simp; try with_reducible rfl)
                try simp only [Act.put, List.setIfInBounds_toArray, List.set_cons_zero, List.set_cons_succ]
                refine wpAnyH_take (i := 1) (oi := ⟨_, _, _, _, _, _⟩) (v := ?_) rfl (by kernel_rfl) (by kernel_rfl) (by kernel_rfl) (fun _ _ _ h => h) (Or.inl ⟨by rfl, ?_⟩) hHeld ?_
                rotate_left 1
                · (intro W hSw; (try dsimp only at hSw); go_simp; try with_reducible rfl)
                try simp only [Act.put, List.setIfInBounds_toArray, List.set_cons_zero, List.set_cons_succ]
                refine wpAnyH_take (i := 2) (oi := ⟨_, _, _, _, _, _⟩) (v := ?_) rfl (by kernel_rfl) (by kernel_rfl) (by kernel_rfl) (fun _ _ _ h => h) (Or.inl ⟨by rfl, ?_⟩) hHeld ?_
                rotate_left 1
                · (intro W hSw; (try dsimp only at hSw); go_simp; try with_reducible rfl)
                try simp only [Act.put, List.setIfInBounds_toArray, List.set_cons_zero, List.set_cons_succ]
                refine wpAnyH_take (i := 3) (oi := ⟨_, _, _, _, _, _⟩) (v := ?_) rfl (by kernel_rfl) (by kernel_rfl) (by kernel_rfl) (fun _ _ _ h => h) (Or.inl ⟨by rfl, ?_⟩) hHeld ?_
                rotate_left 1
                · (intro W hSw; (try dsimp only at hSw); go_simp; try with_reducible rfl)
                try simp only [Act.put, List.setIfInBounds_toArray, List.set_cons_zero, List.set_cons_succ]
                refine wpAnyH_take (i := 4) (oi := ⟨_, _, _, _, _, _⟩) (v := ?_) rfl (by kernel_rfl) (by kernel_rfl) (by kernel_rfl) (fun _ _ _ h => h) (Or.inl ⟨by rfl, ?_⟩) hHeld ?_
                rotate_left 1
                · (intro W hSw; (try dsimp only at hSw); go_simp; try with_reducible rfl)
                try simp only [Act.put, List.setIfInBounds_toArray, List.set_cons_zero, List.set_cons_succ]
                refine wpAnyH_take (i := 6) (oi := ⟨_, _, _, _, _, _⟩) (v := ?_) rfl (by kernel_rfl) (by kernel_rfl) (by kernel_rfl) (fun _ _ _ h => h) (Or.inl ⟨by rfl, ?_⟩) hHeld ?_
                rotate_left 1
                · (intro W hSw; (try dsimp only at hSw); go_simp; try with_reducible rfl)
                try simp only [Act.put, List.setIfInBounds_toArray, List.set_cons_zero, List.set_cons_succ]
                refine wpAnyH_take (i := 7) (oi := ⟨_, _, _, _, _, _⟩) (v := ?_) rfl (by kernel_rfl) (by kernel_rfl) (by kernel_rfl) (fun _ _ _ h => h) (Or.inl ⟨by rfl, ?_⟩) hHeld ?_
                rotate_left 1
                · (intro W hSw; (try dsimp only at hSw); go_simp; try with_reducible rfl)
                try simp only [Act.put, List.setIfInBounds_toArray, List.set_cons_zero, List.set_cons_succ]
                refine wpAnyH_take (i := 8) (oi := ⟨_, _, _, _, _, _⟩) (v := ?_) rfl (by kernel_rfl) (by kernel_rfl) (by kernel_rfl) (fun _ _ _ h => h) (Or.inl ⟨by rfl, ?_⟩) hHeld ?_
                rotate_left 1
                · (intro W hSw; (try dsimp only at hSw); go_simp; try with_reducible rfl)
                try simp only [Act.put, List.setIfInBounds_toArray, List.set_cons_zero, List.set_cons_succ]
                refine wpAnyH_take (i := 9) (oi := ⟨_, _, _, _, _, _⟩) (v := ?_) rfl (by kernel_rfl) (by kernel_rfl) (by kernel_rfl) (fun _ _ _ h => h) (Or.inl ⟨by rfl, ?_⟩) hHeld ?_
                rotate_left 1
                · (intro W hSw; (try dsimp only at hSw); have hcc : W.cell? ⟨p, 2, none⟩ = some (.slice B m d) := hSw; go_simp; try with_reducible rfl)
                try simp only [Act.put, List.setIfInBounds_toArray, List.set_cons_zero, List.set_cons_succ]
                refine wpAnyH_take (i := 11) (oi := ⟨_, _, _, _, _, _⟩) (v := ?_) rfl (by kernel_rfl) (by kernel_rfl) (by kernel_rfl) (fun _ _ _ h => h) (Or.inl ⟨by rfl, ?_⟩) hHeld ?_
                rotate_left 1
                · (intro W hSw; (try dsimp only at hSw); go_simp; try with_reducible rfl)
                try simp only [Act.put, List.setIfInBounds_toArray, List.set_cons_zero, List.set_cons_succ]
                have hcj : wq.drew.cell? ⟨g, 0, none⟩ = some (.slice A n c) := HC0.out
                have hJd : JoinAt wq.drew base g A c F _ := HJ2.out
                have hId : In wq.drew wq.drew.heap.size B d h := in_up HIB.out (below_drewN HB2.out 1)
                have hBd : Below w.heap.size w wq.drew := below_drewN HB2.out 1
                generalize wq.drew = wd at *
                refine wpAnyH_ready (rs := [5]) (by kernel_rfl) (by simp) ?_
                refine AllReadyH.cons (o := ⟨_, _, _, _, _, _⟩) rfl (fun K hK => ?_) AllReadyH.nil
                go_simp
                refine hK.out _ _ hHeld (fun hHeld => ?_)
                clear hK K hcj
                try simp only [Act.put, List.setIfInBounds_toArray, List.set_cons_zero, List.set_cons_succ]
                refine wpAnyH_ready (rs := [10]) (by kernel_rfl) (by simp) ?_
                refine AllReadyH.cons (o := ⟨_, _, _, _, _, _⟩) rfl (fun K hK => ?_) AllReadyH.nil
                refine step_append_far (by rfl) (.tmp 64) (.tmp 68) 23 rfl base _ n c F h _ rfl (by rw [HNF.out]; exact hJd.2.2.1) rfl (src_at (hId.src (Nat.le_refl _)) HHL.out) (by rw [HHL.out]; omega) (Nat.le_trans hbase hBd.size) a (by rw [HHL.out]; exact HA.out) ?_
                intro A10 c10 w10 hB10 hg10 hF10
                have hpl := block_lt_of_cell hHeld
                have hH10 : w10.cell? ⟨p, 2, none⟩ = some (.slice B m d) := (World.cell?_of_block (a := ⟨p, 2, none⟩) (hg10.block p hpl HPG.out.2)).trans hHeld
                have hgA : some g ≠ ownOf A := fun e => by
                  cases hA : A with
                  | none => rw [hA] at e; cases e
                  | some ad => rw [hA] at e; injection e with e; exact hJd.2.2.2 ad hA e.symm
                have hG10 := hJd.1.grown hg10 hgA
                have hgl := hJd.1.lt
                have hne : ∀ x, A10 = some ⟨x, 0, none⟩ → x ≠ g := fun x e => by
                  rcases hF10 with h1 | ⟨y, h1, hy⟩
                  · exact hJd.2.2.2 ⟨x, 0, none⟩ (h1.symm.trans e)
                  · rw [h1] at e; injection e with e; injection e with e; omega
                refine hK.out _ _ hH10 (fun hHeld => ?_)
                clear hK K
                have HD := Lib.hid (And.intro hJd.2.1 (And.intro hB10 (And.intro hg10 (And.intro hF10 (And.intro hne (And.intro hgl hBd))))))
                have cc0 := hG10.cell 0
                have zz0 : w10.frozen? ⟨g, 0, none⟩ = false := hG10.frozen 0
                replace cc0 : w10.cell? ⟨g, 0, none⟩ = some (.slice A F.length c) := cc0
                clear hgA hgl hne hB10 hg10 hF10 hJd hId hBd hpl hH10
                try simp only [Act.put, List.setIfInBounds_toArray, List.set_cons_zero, List.set_cons_succ]
                refine wpAnyH_take (i := 12) (oi := ⟨_, _, _, _, _, _⟩) (v := ?_) rfl (by kernel_rfl) (by kernel_rfl) (by kernel_rfl) (fun _ _ _ h => h) (Or.inl ⟨by rfl, ?_⟩) hHeld ?_
                rotate_left 1
                · (intro W hSw; (try dsimp only at hSw); go_simp; try with_reducible rfl)
                try simp only [Act.put, List.setIfInBounds_toArray, List.set_cons_zero, List.set_cons_succ]
                refine wpAnyH_take (i := 13) (oi := ⟨_, _, _, _, _, _⟩) (v := ?_) rfl (by kernel_rfl) (by kernel_rfl) (by kernel_rfl) (fun _ _ _ h => h) (Or.inl ⟨by rfl, ?_⟩) hHeld ?_
                rotate_left 1
                · (intro W hSw; (try dsimp only at hSw); go_simp; try with_reducible rfl)
                try simp only [Act.put, List.setIfInBounds_toArray, List.set_cons_zero, List.set_cons_succ]
                refine wpAnyH_ready (rs := [14]) (by kernel_rfl) (by simp) ?_
                refine AllReadyH.cons (o := ⟨_, _, _, _, _, _⟩) rfl (fun K hK => ?_) AllReadyH.nil
                go_simp
                refine hK.out _ _ (by show (w10.setCell _ _).cell? _ = _; rw [World.cell?_setCell_other _ _ _ _ (by intro e; injection e with e; exact HPG.out.1 e.symm)]; exact hHeld) (fun hHeld => ?_)
                clear hK K cc0 zz0
                have hG11 := hG10.set_ 0 (.slice A10 a c10)
                replace hHeld : (w10.setCell ⟨g, 0, none⟩ (.slice A10 a c10)).cell? ⟨p, 2, none⟩ = some (.slice B m d) := hHeld
                obtain ⟨w11, hw11⟩ : ∃ w11, w10.setCell ⟨g, 0, none⟩ (.slice A10 a c10) = w11 := ⟨_, rfl⟩
                rw [hw11] at hG11 hHeld ⊢
                have HW11 := Lib.hid hw11
                clear hw11
                have cc1 := hG11.cell 1
                have zz1 : w11.frozen? ⟨g, 1, none⟩ = false := hG11.frozen 1
                simp only [List.set_cons_zero, List.getElem?_cons_succ, List.getElem?_cons_zero] at cc1
                try simp only [Act.put, List.setIfInBounds_toArray, List.set_cons_zero, List.set_cons_succ]
                refine wpAnyH_take (i := 15) (oi := ⟨_, _, _, _, _, _⟩) (v := ?_) rfl (by kernel_rfl) (by kernel_rfl) (by kernel_rfl) (fun _ _ _ h => h) (Or.inl ⟨by rfl, ?_⟩) hHeld ?_
                rotate_left 1
                · (intro W hSw; (try dsimp only at hSw); go_simp; try with_reducible rfl)
                try simp only [Act.put, List.setIfInBounds_toArray, List.set_cons_zero, List.set_cons_succ]
                refine wpAnyH_take (i := 16) (oi := ⟨_, _, _, _, _, _⟩) (v := ?_) rfl (by kernel_rfl) (by kernel_rfl) (by kernel_rfl) (fun _ _ _ h => h) (Or.inl ⟨by rfl, ?_⟩) hHeld ?_
                rotate_left 1
                · (intro W hSw; (try dsimp only at hSw); go_simp; try with_reducible rfl)
                try simp only [Act.put, List.setIfInBounds_toArray, List.set_cons_zero, List.set_cons_succ]
                refine wpAnyH_ready (rs := [17]) (by kernel_rfl) (by simp) ?_
                refine AllReadyH.cons (o := ⟨_, _, _, _, _, _⟩) rfl (fun K hK => ?_) AllReadyH.nil
                go_simp
                refine hK.out _ _ (by show (w11.setCell _ _).cell? _ = _; rw [World.cell?_setCell_other _ _ _ _ (by intro e; injection e with e; exact HPG.out.1 e.symm)]; exact hHeld) (fun hHeld => ?_)
                clear hK K cc1 zz1
                have hG12 := hG11.set_ 1 (.int .i64 (k : Int))
                try simp only [Act.put, List.setIfInBounds_toArray, List.set_cons_zero, List.set_cons_succ]
                refine wpAnyH_done (by kernel_rfl) ?_ _
                refine NoPanic.normal ?_
                go_wp2
                go_ret
                obtain ⟨x1, hB10, hg10, hF10, hne, hgl, hBd⟩ := HD.out
                have hs11 : w10.grownBy w11 (some g) := by rw [← HW11.out]; exact grown_setCell (g := g) (p := ⟨g, 0, none⟩) (grown_refl _ _) (.inl rfl) _
                have hs12 : w10.grownBy (w11.setCell ⟨g, 1, none⟩ (.int .i64 (k : Int))) (some g) := grown_setCell (g := g) (p := ⟨g, 1, none⟩) hs11 (.inl rfl) _
                refine ⟨A10, c10, by rw [HZ.out] <;> rfl, ?_, ?_, ?_⟩
                · rw [HZ.out]
                  have hl : (F ++ h).length = a := by rw [List.length_append, HHL.out, ← HNF.out]; exact HA.out.symm
                  refine ⟨by show Blk _ g 54 [.slice A10 (F ++ h).length c10, .int .i64 (k : Int)]; rw [hl]; exact hG12, x1, by show Buf _ base A10 (F ++ h).length c10 (F ++ h); rw [hl]; exact hB10.kept hs12 (fun x e e2 => hne x e (by injection e2)), fun ad e => ?_⟩
                  rcases hB10.2 with ⟨h1, _⟩ | ⟨x, h1, _⟩
                  · rw [h1] at e; cases e
                  · rw [h1] at e; injection e with e; rw [← e]; exact hne x h1
                · rcases hF10 with h1 | ⟨y, h1, hy⟩
                  · exact .inl h1
                  · exact .inr ⟨y, h1, Nat.le_trans hBd.size hy⟩
                · refine ((chg_of_below hBd).trans (chg_of_grown (S := Ours g A) hg10 (fun k e => .inr e.symm)) (fun i _ h => h)).trans (chg_of_grown (S := Ours g A) hs12 (fun k e => .inl (by injection e with e; exact e.symm))) (fun i _ h => h))
        · have HM := Lib.hid (HHM.out wq k0' _ ht)
          rw [ht] at HE2
          by_cases hka : k < a
          · have HZ := Lib.hid (HE2.out.trans (if_pos (by left; exact hka)))
            have hd1 : decide (k < a) = true := by simpa using hka
            clear hka
            go_wp2_with (go_at_call 24; refine HM.out.mono ?_; rintro e w6 ⟨rfl, hww⟩; have hw2 := hww.symm; subst hw2)
            go_ret
            exact ⟨A, c, by rw [HZ.out] <;> rfl, by rw [HZ.out]; exact HJ2.out, .inl rfl, chg_of_below HB2.out⟩
          · have hd1 : decide (k < a) = false := by simpa using hka
            by_cases hm0 : m = 0
            · have hq0 : ((m : Int) == 0) = true := by simpa using hm0
              have hd2 : decide (a < k) = decide (a < k) := rfl
              have HZ := Lib.hid (HE2.out.trans (if_pos (by right; right; exact ⟨hm0, rfl⟩)))
              clear hka hm0
              go_wp2_with (go_at_call 24; refine HM.out.mono ?_; rintro e w6 ⟨rfl, hww⟩; have hw2 := hww.symm; subst hw2)
              all_goals (go_ret; exact ⟨A, c, by rw [HZ.out] <;> rfl, by rw [HZ.out]; exact HJ2.out, .inl rfl, chg_of_below HB2.out⟩)
            · have hq0 : ((m : Int) == 0) = false := by simpa using hm0
              have HZ := Lib.hid (HE2.out.trans (if_neg (by simp; omega)))
              clear hka hm0
              go_upto_region 11 with (go_at_call 24; refine HM.out.mono ?_; rintro e w6 ⟨rfl, hww⟩; have hw2 := hww.symm; subst hw2)
              all_goals (
                refine wp_region_noPanic ?_
                refine wp_region_held_drew (S := fun W => W.cell? ⟨p, 2, none⟩ = some (.slice B m d)) (by kernel_rfl) (by exact HK2.out) (fun hHeld => ?_)
                refine wpAnyH_take (i := 0) (oi := ⟨_, _, _, _, _, _⟩) (v := ?_) rfl (by kernel_rfl) (by kernel_rfl) (by kernel_rfl) (fun _ _ _ h => h) (Or.inl ⟨by rfl, ?_⟩) hHeld ?_
                rotate_left 1
                · (intro W hSw; (try dsimp only at hSw); go_simp; try with_reducible rfl)
                try simp only [Act.put, List.setIfInBounds_toArray, List.set_cons_zero, List.set_cons_succ]
                refine wpAnyH_take (i := 1) (oi := ⟨_, _, _, _, _, _⟩) (v := ?_) rfl (by kernel_rfl) (by kernel_rfl) (by kernel_rfl) (fun _ _ _ h => h) (Or.inl ⟨by rfl, ?_⟩) hHeld ?_
                rotate_left 1
                · (intro W hSw; (try dsimp only at hSw); go_simp; try with_reducible rfl)
                try simp only [Act.put, List.setIfInBounds_toArray, List.set_cons_zero, List.set_cons_succ]
                refine wpAnyH_take (i := 2) (oi := ⟨_, _, _, _, _, _⟩) (v := ?_) rfl (by kernel_rfl) (by kernel_rfl) (by kernel_rfl) (fun _ _ _ h => h) (Or.inl ⟨by rfl, ?_⟩) hHeld ?_
                rotate_left 1
                · (intro W hSw; (try dsimp only at hSw); go_simp; try with_reducible rfl)
                try simp only [Act.put, List.setIfInBounds_toArray, List.set_cons_zero, List.set_cons_succ]
                refine wpAnyH_take (i := 3) (oi := ⟨_, _, _, _, _, _⟩) (v := ?_) rfl (by kernel_rfl) (by kernel_rfl) (by kernel_rfl) (fun _ _ _ h => h) (Or.inl ⟨by rfl, ?_⟩) hHeld ?_
                rotate_left 1
                · (intro W hSw; (try dsimp only at hSw); go_simp; try with_reducible rfl)
                try simp only [Act.put, List.setIfInBounds_toArray, List.set_cons_zero, List.set_cons_succ]
                refine wpAnyH_take (i := 4) (oi := ⟨_, _, _, _, _, _⟩) (v := ?_) rfl (by kernel_rfl) (by kernel_rfl) (by kernel_rfl) (fun _ _ _ h => h) (Or.inl ⟨by rfl, ?_⟩) hHeld ?_
                rotate_left 1
                · (intro W hSw; (try dsimp only at hSw); go_simp; try with_reducible rfl)
                try simp only [Act.put, List.setIfInBounds_toArray, List.set_cons_zero, List.set_cons_succ]
                refine wpAnyH_take (i := 6) (oi := ⟨_, _, _, _, _, _⟩) (v := ?_) rfl (by kernel_rfl) (by kernel_rfl) (by kernel_rfl) (fun _ _ _ h => h) (Or.inl ⟨by rfl, ?_⟩) hHeld ?_
                rotate_left 1
                · (intro W hSw; (try dsimp only at hSw); go_simp; try with_reducible rfl)
                try simp only [Act.put, List.setIfInBounds_toArray, List.set_cons_zero, List.set_cons_succ]
                refine wpAnyH_take (i := 7) (oi := ⟨_, _, _, _, _, _⟩) (v := ?_) rfl (by kernel_rfl) (by kernel_rfl) (by kernel_rfl) (fun _ _ _ h => h) (Or.inl ⟨by rfl, ?_⟩) hHeld ?_
                rotate_left 1
                · (intro W hSw; (try dsimp only at hSw); go_simp; try with_reducible rfl)
                try simp only [Act.put, List.setIfInBounds_toArray, List.set_cons_zero, List.set_cons_succ]
                refine wpAnyH_take (i := 8) (oi := ⟨_, _, _, _, _, _⟩) (v := ?_) rfl (by kernel_rfl) (by kernel_rfl) (by kernel_rfl) (fun _ _ _ h => h) (Or.inl ⟨by rfl, ?_⟩) hHeld ?_
                rotate_left 1
                · (intro W hSw; (try dsimp only at hSw); go_simp; try with_reducible rfl)
                try simp only [Act.put, List.setIfInBounds_toArray, List.set_cons_zero, List.set_cons_succ]
                refine wpAnyH_take (i := 9) (oi := ⟨_, _, _, _, _, _⟩) (v := ?_) rfl (by kernel_rfl) (by kernel_rfl) (by kernel_rfl) (fun _ _ _ h => h) (Or.inl ⟨by rfl, ?_⟩) hHeld ?_
                rotate_left 1
                · (intro W hSw; (try dsimp only at hSw); have hcc : W.cell? ⟨p, 2, none⟩ = some (.slice B m d) := hSw; go_simp; try with_reducible rfl)
                try simp only [Act.put, List.setIfInBounds_toArray, List.set_cons_zero, List.set_cons_succ]
                refine wpAnyH_take (i := 11) (oi := ⟨_, _, _, _, _, _⟩) (v := ?_) rfl (by kernel_rfl) (by kernel_rfl) (by kernel_rfl) (fun _ _ _ h => h) (Or.inl ⟨by rfl, ?_⟩) hHeld ?_
                rotate_left 1
                · (intro W hSw; (try dsimp only at hSw); go_simp; try with_reducible rfl)
                try simp only [Act.put, List.setIfInBounds_toArray, List.set_cons_zero, List.set_cons_succ]
                have hcj : wq.drew.cell? ⟨g, 0, none⟩ = some (.slice A n c) := HC0.out
                have hJd : JoinAt wq.drew base g A c F _ := HJ2.out
                have hId : In wq.drew wq.drew.heap.size B d h := in_up HIB.out (below_drewN HB2.out 1)
                have hBd : Below w.heap.size w wq.drew := below_drewN HB2.out 1
                generalize wq.drew = wd at *
                refine wpAnyH_ready (rs := [5]) (by kernel_rfl) (by simp) ?_
                refine AllReadyH.cons (o := ⟨_, _, _, _, _, _⟩) rfl (fun K hK => ?_) AllReadyH.nil
                go_simp
                refine hK.out _ _ hHeld (fun hHeld => ?_)
                clear hK K hcj
                try simp only [Act.put, List.setIfInBounds_toArray, List.set_cons_zero, List.set_cons_succ]
                refine wpAnyH_ready (rs := [10]) (by kernel_rfl) (by simp) ?_
                refine AllReadyH.cons (o := ⟨_, _, _, _, _, _⟩) rfl (fun K hK => ?_) AllReadyH.nil
                refine step_append_far (by rfl) (.tmp 64) (.tmp 68) 23 rfl base _ n c F h _ rfl (by rw [HNF.out]; exact hJd.2.2.1) rfl (src_at (hId.src (Nat.le_refl _)) HHL.out) (by rw [HHL.out]; omega) (Nat.le_trans hbase hBd.size) a (by rw [HHL.out]; exact HA.out) ?_
                intro A10 c10 w10 hB10 hg10 hF10
                have hpl := block_lt_of_cell hHeld
                have hH10 : w10.cell? ⟨p, 2, none⟩ = some (.slice B m d) := (World.cell?_of_block (a := ⟨p, 2, none⟩) (hg10.block p hpl HPG.out.2)).trans hHeld
                have hgA : some g ≠ ownOf A := fun e => by
                  cases hA : A with
                  | none => rw [hA] at e; cases e
                  | some ad => rw [hA] at e; injection e with e; exact hJd.2.2.2 ad hA e.symm
                have hG10 := hJd.1.grown hg10 hgA
                have hgl := hJd.1.lt
                have hne : ∀ x, A10 = some ⟨x, 0, none⟩ → x ≠ g := fun x e => by
                  rcases hF10 with h1 | ⟨y, h1, hy⟩
                  · exact hJd.2.2.2 ⟨x, 0, none⟩ (h1.symm.trans e)
                  · rw [h1] at e; injection e with e; injection e with e; omega
                refine hK.out _ _ hH10 (fun hHeld => ?_)
                clear hK K
                have HD := Lib.hid (And.intro hJd.2.1 (And.intro hB10 (And.intro hg10 (And.intro hF10 (And.intro hne (And.intro hgl hBd))))))
                have cc0 := hG10.cell 0
                have zz0 : w10.frozen? ⟨g, 0, none⟩ = false := hG10.frozen 0
                replace cc0 : w10.cell? ⟨g, 0, none⟩ = some (.slice A F.length c) := cc0
                clear hgA hgl hne hB10 hg10 hF10 hJd hId hBd hpl hH10
                try simp only [Act.put, List.setIfInBounds_toArray, List.set_cons_zero, List.set_cons_succ]
                refine wpAnyH_take (i := 12) (oi := ⟨_, _, _, _, _, _⟩) (v := ?_) rfl (by kernel_rfl) (by kernel_rfl) (by kernel_rfl) (fun _ _ _ h => h) (Or.inl ⟨by rfl, ?_⟩) hHeld ?_
                rotate_left 1
                · (intro W hSw; (try dsimp only at hSw); go_simp; try with_reducible rfl)
                try simp only [Act.put, List.setIfInBounds_toArray, List.set_cons_zero, List.set_cons_succ]
                refine wpAnyH_take (i := 13) (oi := ⟨_, _, _, _, _, _⟩) (v := ?_) rfl (by kernel_rfl) (by kernel_rfl) (by kernel_rfl) (fun _ _ _ h => h) (Or.inl ⟨by rfl, ?_⟩) hHeld ?_
                rotate_left 1
                · (intro W hSw; (try dsimp only at hSw); go_simp; try with_reducible rfl)
                try simp only [Act.put, List.setIfInBounds_toArray, List.set_cons_zero, List.set_cons_succ]
                refine wpAnyH_ready (rs := [14]) (by kernel_rfl) (by simp) ?_
                refine AllReadyH.cons (o := ⟨_, _, _, _, _, _⟩) rfl (fun K hK => ?_) AllReadyH.nil
                go_simp
                refine hK.out _ _ (by show (w10.setCell _ _).cell? _ = _; rw [World.cell?_setCell_other _ _ _ _ (by intro e; injection e with e; exact HPG.out.1 e.symm)]; exact hHeld) (fun hHeld => ?_)
                clear hK K cc0 zz0
                have hG11 := hG10.set_ 0 (.slice A10 a c10)
                replace hHeld : (w10.setCell ⟨g, 0, none⟩ (.slice A10 a c10)).cell? ⟨p, 2, none⟩ = some (.slice B m d) := hHeld
                obtain ⟨w11, hw11⟩ : ∃ w11, w10.setCell ⟨g, 0, none⟩ (.slice A10 a c10) = w11 := ⟨_, rfl⟩
                rw [hw11] at hG11 hHeld ⊢
                have HW11 := Lib.hid hw11
                clear hw11
                have cc1 := hG11.cell 1
                have zz1 : w11.frozen? ⟨g, 1, none⟩ = false := hG11.frozen 1
                simp only [List.set_cons_zero, List.getElem?_cons_succ, List.getElem?_cons_zero] at cc1
                try simp only [Act.put, List.setIfInBounds_toArray, List.set_cons_zero, List.set_cons_succ]
                refine wpAnyH_take (i := 15) (oi := ⟨_, _, _, _, _, _⟩) (v := ?_) rfl (by kernel_rfl) (by kernel_rfl) (by kernel_rfl) (fun _ _ _ h => h) (Or.inl ⟨by rfl, ?_⟩) hHeld ?_
                rotate_left 1
                · (intro W hSw; (try dsimp only at hSw); go_simp; try with_reducible rfl)
                try simp only [Act.put, List.setIfInBounds_toArray, List.set_cons_zero, List.set_cons_succ]
                refine wpAnyH_take (i := 16) (oi := ⟨_, _, _, _, _, _⟩) (v := ?_) rfl (by kernel_rfl) (by kernel_rfl) (by kernel_rfl) (fun _ _ _ h => h) (Or.inl ⟨by rfl, ?_⟩) hHeld ?_
                rotate_left 1
                · (intro W hSw; (try dsimp only at hSw); go_simp; try with_reducible rfl)
                try simp only [Act.put, List.setIfInBounds_toArray, List.set_cons_zero, List.set_cons_succ]
                refine wpAnyH_ready (rs := [17]) (by kernel_rfl) (by simp) ?_
                refine AllReadyH.cons (o := ⟨_, _, _, _, _, _⟩) rfl (fun K hK => ?_) AllReadyH.nil
                go_simp
                refine hK.out _ _ (by show (w11.setCell _ _).cell? _ = _; rw [World.cell?_setCell_other _ _ _ _ (by intro e; injection e with e; exact HPG.out.1 e.symm)]; exact hHeld) (fun hHeld => ?_)
                clear hK K cc1 zz1
                have hG12 := hG11.set_ 1 (.int .i64 (k : Int))
                try simp only [Act.put, List.setIfInBounds_toArray, List.set_cons_zero, List.set_cons_succ]
                refine wpAnyH_done (by kernel_rfl) ?_ _
                refine NoPanic.normal ?_
                go_wp2
                go_ret
                obtain ⟨x1, hB10, hg10, hF10, hne, hgl, hBd⟩ := HD.out
                have hs11 : w10.grownBy w11 (some g) := by rw [← HW11.out]; exact grown_setCell (g := g) (p := ⟨g, 0, none⟩) (grown_refl _ _) (.inl rfl) _
                have hs12 : w10.grownBy (w11.setCell ⟨g, 1, none⟩ (.int .i64 (k : Int))) (some g) := grown_setCell (g := g) (p := ⟨g, 1, none⟩) hs11 (.inl rfl) _
                refine ⟨A10, c10, by rw [HZ.out] <;> rfl, ?_, ?_, ?_⟩
                · rw [HZ.out]
                  have hl : (F ++ h).length = a := by rw [List.length_append, HHL.out, ← HNF.out]; exact HA.out.symm
                  refine ⟨by show Blk _ g 54 [.slice A10 (F ++ h).length c10, .int .i64 (k : Int)]; rw [hl]; exact hG12, x1, by show Buf _ base A10 (F ++ h).length c10 (F ++ h); rw [hl]; exact hB10.kept hs12 (fun x e e2 => hne x e (by injection e2)), fun ad e => ?_⟩
                  rcases hB10.2 with ⟨h1, _⟩ | ⟨x, h1, _⟩
                  · rw [h1] at e; cases e
                  · rw [h1] at e; injection e with e; rw [← e]; exact hne x h1
                · rcases hF10 with h1 | ⟨y, h1, hy⟩
                  · exact .inl h1
                  · exact .inr ⟨y, h1, Nat.le_trans hBd.size hy⟩
                · refine ((chg_of_below hBd).trans (chg_of_grown (S := Ours g A) hg10 (fun k e => .inr e.symm)) (fun i _ h => h)).trans (chg_of_grown (S := Ours g A) hs12 (fun k e => .inl (by injection e with e; exact e.symm))) (fun i _ h => h))
)
end Go.Proofs.Ytjachohgffnbiaa
