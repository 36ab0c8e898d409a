/-
  The contracts of package piece's Take, Waits and New.
-/
import Derived.Test.YtjachohgffnbiaaPc
namespace Go.Proofs.Ytjachohgffnbiaa
open Go.RowKit

/-- What Take tells of a piece: the flight; whether it is whole; what is wrong; the flight and count from then on. -/
def takeE (F : List UInt8) (C : Nat) (b : List UInt8) : List UInt8 × Bool × Nat × List UInt8 × Nat :=
  if (partsE b).2.2.2 ≠ 0 then ([], false, (partsE b).2.2.2, [], 0)
  else if (joinE F C (partsE b).1 (partsE b).2.1 (partsE b).2.2.1).1 ≠ 0 then ([], false, (joinE F C (partsE b).1 (partsE b).2.1 (partsE b).2.2.1).1, [], 0)
  else if hM (partsE b).1 = true then ([], false, 0, (joinE F C (partsE b).1 (partsE b).2.1 (partsE b).2.2.1).2)
  else ((joinE F C (partsE b).1 (partsE b).2.1 (partsE b).2.2.1).2.1, true, 0, [], 0)
def TakePost (E : List UInt8 × Bool × Nat × List UInt8 × Nat) (base g : Nat) (A : Option Addr) (w : World) (e : Ending) (w' : World) : Prop :=
  ∃ A2 n2 c2 A' c', e = .returned (.tuple #[.slice A2 n2 c2, .bool E.2.1, .int .i64 (E.2.2.1 : Int)]) ∧ Buf w' base A2 n2 c2 E.1 ∧ (A2 = none ∨ Fresh w A A2) ∧ (∀ a, A2 = some a → ¬ Ours g A' a.block) ∧ JoinAt w' base g A' c' E.2.2.2.1 E.2.2.2.2 ∧ (A' = none ∨ Fresh w A A') ∧ Chg (Ours g A) w w'
theorem JoinAt.zero {w : World} {base g : Nat} (h : Blk w g 54 [.slice none 0 0, .int .i64 0]) (hg : base ≤ g) : JoinAt w base g none 0 [] 0 := ⟨h, hg, Buf.nil _ _, fun _ e => by cases e⟩
theorem ours_not {w : World} {base g c C k : Nat} {A : Option Addr} {F : List UInt8} (h : JoinAt w base g A c F C) (hk : w.heap.size ≤ k) : ¬ Ours g A k := fun h2 => by
  have := (h.ours h2).2; omega
set_option maxRecDepth 100000 in
set_option maxHeartbeats 1000000 in
theorem take_e (base g : Nat) (A B : Option Addr) (c d n C : Nat) (F b : List UInt8) (w : World) (hJ : JoinAt w base g A c F C) (hn : b.length = n) (iB : In w w.heap.size B d b) (hF : F.length < 900000) (hm : n < 900000) (hbase : base ≤ w.heap.size) :
    Calls Try.prog 14 #[.pointer (some ⟨g, 0, none⟩), .slice B n d] w (TakePost (takeE F C b) base g A w) := by
  obtain ⟨E, hE⟩ : ∃ E, takeE F C b = E := ⟨_, rfl⟩
  rw [hE]
  have hpo := partsOf_e B d n b w hn iB (by omega)
  have hlen : (partsE b).2.2.1.length ≤ n := by
    unfold partsE
    split
    · simp
    · split
      · simp; omega
      · split
        · simp
        · simp; omega
  have HE := Lib.hid (show E = takeE F C b from hE.symm)
  unfold takeE at HE
  generalize partsE b = pe at *
  obtain ⟨f, q, h, pr⟩ := pe
  simp only at hpo hlen HE
  have HPO := Lib.hid hpo
  have HJ := Lib.hid hJ
  have HL := Lib.hid hlen
  clear hE hpo hJ hn iB hlen
  go_enter Try.func14, Try.ntmps14
  go_upto_region 4 with (first
    | (go_at_call 22; refine HPO.out.mono ?_; rintro e w3 ⟨A3, m, c3, rfl, hl3, hi3, hb3⟩)
    | ((with_reducible refine (?_ : wpList _ _ _ (Oper.mk none (Op.store 56 _ _) _ _ _ _ :: _) _ _)); go_loud (refine wpList_store_blk rfl 56 (.tmp 7) (.tmp 15) rfl rfl w3.heap.size [.int .u8 (f.toNat : Int), .int .i64 (q : Int), .slice A3 m c3] rfl rfl _ _ (Blk.new_of w3 _ _ _ rfl) (by kernel_rfl) rfl (by simp [Value.oneCell']) ?_); intro w4 hP4 hg4))
  have hmm : m ≤ n := by rw [← hl3]; exact HL.out
  have hbq : Below w3.heap.size w3 w4 := below_new ((Below.refl _ _).alloc (Nat.le_refl _) _) hg4 (Nat.le_refl _) (by simp)
  have hb4 := hb3.trans (hbq.mono hb3.size)
  replace hi3 := in_up hi3 hbq
  have hJ4 := HJ.out.below hb4
  have hp3 : ¬ Ours g A w3.heap.size := ours_not HJ.out hb3.size
  replace hP4 : Blk w4 w3.heap.size 56 [.int .u8 (f.toNat : Int), .int .i64 (q : Int), .slice A3 m c3] := hP4
  generalize w3.heap.size = p at *
  clear hb3 hbq hg4
  have hgn : ∀ v cs, Blk w4 g v cs → w4.cell? ⟨g, 0, none⟩ = cs[0]? := fun v cs hb => hb.cell 0
  by_cases hpr : pr = 0
  · subst hpr
    rw [if_neg (by simp)] at HE
    have HJN := Lib.hid (join_e base g p A A3 c q m c3 C F h f w4 hJ4 hP4 hl3 hi3 (by omega) (by omega) (fun e => hp3 (.inl e)) (fun e => hp3 (.inr e)) (Nat.le_trans hbase hb4.size))
    have hpl := hP4.lt
    obtain ⟨je, hje⟩ : ∃ je, joinE F C f q h = je := ⟨_, rfl⟩
    obtain ⟨jr, F2, C2⟩ := je
    rw [hje] at HE HJN
    simp only at HE
    have HH := Lib.hid (And.intro hP4 (And.intro hp3 hb4))
    clear hje hl3 hi3 hP4 hp3 hb4 hJ4 hgn
    cases ht : hM f
    · rw [ht] at HE
      go_upto_region 6 with (go_at_call 23; refine HJN.out.mono ?_; rintro e w5 ⟨A5, c5, rfl, hJ5, hF5, hC5⟩)
      obtain ⟨hP4, hp3, hb4⟩ := HH.out
      have hP5 := hP4.chg hC5 hp3
      have k0 : w5.cell? ⟨p, 0, none⟩ = some (.int .u8 (f.toNat : Int)) := hP5.cell 0
      have HM := Lib.hid (hasM_e p f w5 k0 _ ht)
      have hCC : Chg (Ours g A) w w5 := (chg_of_below hb4).trans hC5 (fun i _ h => h)
      have HFR : A5 = A ∨ ∃ y, A5 = some ⟨y, 0, none⟩ ∧ w.heap.size ≤ y := by
        rcases hF5 with h1 | ⟨y, h1, hy⟩
        · exact .inl h1
        · exact .inr ⟨y, h1, Nat.le_trans hb4.size hy⟩
      have HG := Lib.hid hJ5.1
      have HJ5 := Lib.hid hJ5
      have g0 := hJ5.1.cell 0
      simp only [List.getElem?_cons_zero] at g0
      clear hP4 hp3 hb4 hP5 hC5 hF5 hJ5 k0 ht hmm hpl
      by_cases hjr : jr = 0
      · subst hjr
        rw [if_neg (by simp)] at HE
        rw [if_neg (by decide)] at HE
        obtain ⟨n2, hn2⟩ : ∃ n2, n2 = F2.length := ⟨_, rfl⟩
        rw [← hn2] at g0
        have HN2 := Lib.hid hn2
        clear hn2
        go_wp2_with (first
          | (go_at_call 24; refine HM.out.mono ?_; rintro e w6 ⟨rfl, hww⟩; have hw2 := hww.symm; subst hw2)
          | ((with_reducible refine (?_ : wpList _ _ _ (Oper.mk none (Op.store 54 _ _) _ _ _ _ :: _) _ _)); go_loud (refine wpList_store_blk rfl 54 (.tmp 32) (.tmp 31) rfl rfl g [.slice none 0 0, .int .i64 0] rfl rfl _ _ HG.out (by kernel_rfl) rfl (by simp [Value.oneCell']) ?_); intro w8 hG8 hg8))
        go_ret3
        have hl5 := HJ5.out.2.2.2
        refine ⟨A5, n2, c5, none, 0, by rw [HE.out] <;> rfl, ?_, .inr ?_, ?_, by rw [HE.out]; exact JoinAt.zero hG8 HJ5.out.2.1, .inl rfl, hCC.trans (chg_of_grown (S := Ours g A) hg8 (fun k e => .inl (by injection e with e; exact e.symm))) (fun i _ h => h)⟩
        · rw [HE.out, HN2.out]
          exact HJ5.out.2.2.1.kept hg8 (fun x e e2 => hl5 ⟨x, 0, none⟩ e (by injection e2))
        · rcases HFR with h1 | ⟨y, h1, hy⟩
          · exact .inl h1
          · exact .inr ⟨y, h1, hy⟩
        · intro a e h2
          rcases h2 with h2 | h2
          · exact hl5 a e h2
          · cases h2
      · rw [if_pos hjr] at HE
        have hd : ¬ (jr : Int) = 0 := by omega
        go_wp2_with ((with_reducible refine (?_ : wpList _ _ _ (Oper.mk none (Op.store 54 _ _) _ _ _ _ :: _) _ _)); go_loud (refine wpList_store_blk rfl 54 (.tmp 32) (.tmp 31) rfl rfl g [.slice none 0 0, .int .i64 0] rfl rfl _ _ HG.out (by kernel_rfl) rfl (by simp [Value.oneCell']) ?_); intro w8 hG8 hg8)
        go_ret3
        exact ⟨none, 0, 0, none, 0, by rw [HE.out] <;> rfl, by rw [HE.out]; exact Buf.nil _ _, .inl rfl, fun _ e => (by cases e), by rw [HE.out]; exact JoinAt.zero hG8 HJ5.out.2.1, .inl rfl, hCC.trans (chg_of_grown (S := Ours g A) hg8 (fun k e => .inl (by injection e with e; exact e.symm))) (fun i _ h => h)⟩
    · rw [ht] at HE
      go_upto_region 6 with (go_at_call 23; refine HJN.out.mono ?_; rintro e w5 ⟨A5, c5, rfl, hJ5, hF5, hC5⟩)
      obtain ⟨hP4, hp3, hb4⟩ := HH.out
      have hP5 := hP4.chg hC5 hp3
      have k0 : w5.cell? ⟨p, 0, none⟩ = some (.int .u8 (f.toNat : Int)) := hP5.cell 0
      have HM := Lib.hid (hasM_e p f w5 k0 _ ht)
      have hCC : Chg (Ours g A) w w5 := (chg_of_below hb4).trans hC5 (fun i _ h => h)
      have HFR : A5 = A ∨ ∃ y, A5 = some ⟨y, 0, none⟩ ∧ w.heap.size ≤ y := by
        rcases hF5 with h1 | ⟨y, h1, hy⟩
        · exact .inl h1
        · exact .inr ⟨y, h1, Nat.le_trans hb4.size hy⟩
      have HG := Lib.hid hJ5.1
      have HJ5 := Lib.hid hJ5
      have g0 := hJ5.1.cell 0
      simp only [List.getElem?_cons_zero] at g0
      clear hP4 hp3 hb4 hP5 hC5 hF5 hJ5 k0 ht hmm hpl
      by_cases hjr : jr = 0
      · subst hjr
        rw [if_neg (by simp)] at HE
        rw [if_pos trivial] at HE
        go_wp2_with (go_at_call 24; refine HM.out.mono ?_; rintro e w6 ⟨rfl, hww⟩; have hw2 := hww.symm; subst hw2)
        go_ret3
        exact ⟨none, 0, 0, A5, c5, by rw [HE.out] <;> rfl, by rw [HE.out]; exact Buf.nil _ _, .inl rfl, fun _ e => (by cases e), by rw [HE.out]; exact HJ5.out, .inr (by rcases HFR with h1 | ⟨y, h1, hy⟩; exact .inl h1; exact .inr ⟨y, h1, hy⟩), hCC⟩
      · rw [if_pos hjr] at HE
        have hd : ¬ (jr : Int) = 0 := by omega
        go_wp2_with ((with_reducible refine (?_ : wpList _ _ _ (Oper.mk none (Op.store 54 _ _) _ _ _ _ :: _) _ _)); go_loud (refine wpList_store_blk rfl 54 (.tmp 32) (.tmp 31) rfl rfl g [.slice none 0 0, .int .i64 0] rfl rfl _ _ HG.out (by kernel_rfl) rfl (by simp [Value.oneCell']) ?_); intro w8 hG8 hg8)
        go_ret3
        exact ⟨none, 0, 0, none, 0, by rw [HE.out] <;> rfl, by rw [HE.out]; exact Buf.nil _ _, .inl rfl, fun _ e => (by cases e), by rw [HE.out]; exact JoinAt.zero hG8 HJ5.out.2.1, .inl rfl, hCC.trans (chg_of_grown (S := Ours g A) hg8 (fun k e => .inl (by injection e with e; exact e.symm))) (fun i _ h => h)⟩
  · rw [if_pos hpr] at HE
    have hd : ¬ (pr : Int) = 0 := by omega
    have HG := Lib.hid hJ4.1
    have HJ5 := Lib.hid hJ4
    have g0 := hJ4.1.cell 0
    simp only [List.getElem?_cons_zero] at g0
    have hCC : Chg (Ours g A) w w4 := chg_of_below hb4
    clear hgn hJ4 hP4 hl3 hi3 hp3 hb4 hmm
    go_wp2_with ((with_reducible refine (?_ : wpList _ _ _ (Oper.mk none (Op.store 54 _ _) _ _ _ _ :: _) _ _)); go_loud (refine wpList_store_blk rfl 54 (.tmp 32) (.tmp 31) rfl rfl g [.slice none 0 0, .int .i64 0] rfl rfl _ _ HG.out (by kernel_rfl) rfl (by simp [Value.oneCell']) ?_); intro w8 hG8 hg8)
    go_ret3
    exact ⟨none, 0, 0, none, 0, by rw [HE.out] <;> rfl, by rw [HE.out]; exact Buf.nil _ _, .inl rfl, fun _ e => (by cases e), by rw [HE.out]; exact JoinAt.zero hG8 HJ5.out.2.1, .inl rfl, hCC.trans (chg_of_grown (S := Ours g A) hg8 (fun k e => .inl (by injection e with e; exact e.symm))) (fun i _ h => h)⟩
set_option maxRecDepth 100000 in
set_option maxHeartbeats 1000000 in
theorem waits_e (base g c C : Nat) (A : Option Addr) (F : List UInt8) (w : World) (hJ : JoinAt w base g A c F C) : Calls Try.prog 15 #[.pointer (some ⟨g, 0, none⟩)] w fun e w' => e = .returned (.int .i64 (F.length : Int)) ∧ w' = w := by
  have g0 := hJ.1.cell 0
  simp only [List.getElem?_cons_zero] at g0
  generalize F.length = n at *
  clear hJ
  go_enter Try.func15, Try.ntmps15
  go_wp2
  go_ret
  exact ⟨rfl, rfl⟩
set_option maxRecDepth 100000 in
set_option maxHeartbeats 1000000 in
theorem waits_nil (w : World) : Calls Try.prog 15 #[.pointer none] w fun e w' => e = .returned (.int .i64 0) ∧ w' = w := by
  go_enter Try.func15, Try.ntmps15
  go_wp2
  go_ret
  exact ⟨rfl, rfl⟩
set_option maxRecDepth 100000 in
set_option maxHeartbeats 1000000 in
theorem take_nil (v : Value) (w : World) : Calls Try.prog 14 #[.pointer none, v] w fun e w' => e = .returned (.tuple #[.slice none 0 0, .bool false, .int .i64 1]) ∧ w' = w := by
  go_enter Try.func14, Try.ntmps14
  go_wp2
  go_ret3
  exact ⟨rfl, rfl⟩
set_option maxRecDepth 100000 in
set_option maxHeartbeats 1000000 in
theorem new_e (w : World) : Calls Try.prog 13 #[] w fun e w' => e = .returned (.pointer (some ⟨w.heap.size, 0, none⟩)) ∧ JoinAt w' w.heap.size w.heap.size none 0 [] 0 ∧ Below w.heap.size w w' ∧ w'.heap.size = w.heap.size + 1 := by
  go_enter Try.func13, Try.ntmps13
  go_wp2
  go_ret
  exact ⟨rfl, JoinAt.zero (Blk.new_of w _ _ _ rfl) (Nat.le_refl _), (Below.refl _ _).alloc (Nat.le_refl _) _, by simp⟩
end Go.Proofs.Ytjachohgffnbiaa
