/-
  The contract of package wrap's said.
-/
import Derived.Test.YtbomckbekcaemaaDoorVc
namespace Go.Proofs.YtbomckbekcaemaaDoor
open Go.RowKit

theorem wpList_arrayAt {ops : Array Oper} {rest : List Oper} {o : Oper} {a : Act} {w : World} {Q : Exit → Act → World → Prop} (hgd : o.guard = none) (arr : TypeId) (x : Operand) (ho : o.op = .sliceToArrayPointer arr x)
    (A : Option Addr) (len c n : Nat) (e : TypeId) (hx : a.eval x = .slice A len c) (hu : Tryd.prog.underlying arr = some (.array n e)) (hl : ¬ len < n) (h : wpList Tryd.prog ops Q rest (a.put o.dst (.pointer A)) w) : wpList Tryd.prog ops Q (o :: rest) a w :=
  wpList_plain hgd fun K hK => by
    unfold Oper.wp execOp
    simp only [ho, Instr.arrayAt, hx, Sem.run_bind, Sem.run_pure, Result.andThen_ok, run_underlying hu, if_neg hl]
    exact hK _ _ h
theorem ix_next (x : UInt8) (q : Nat) (h : q = 1 + x.toNat) : (1 : Int) + (x.toNat : Int) = (q : Int) ∧ wrap64 (q : Int) = (q : Int) ∧ IntKind.i64.wrap (q : Int) = (q : Int) ∧ q - 1 = x.toNat := by
  have hx := x.toNat_lt
  generalize x.toNat = a at *
  subst h
  rw [IntKind.wrap_i64]
  unfold wrap64; omega
theorem buf_of_blk {w : World} {base g n : Nat} {t : TypeId} {xs : List UInt8} (h : Blk w g t (xs.map B8)) (hb : base ≤ g) (hn : xs.length = n) (hm : n ≤ 1000000) : Buf w base (some ⟨g, 0, none⟩) n n xs :=
  ⟨hn, .inr ⟨g, rfl, hb, h.lt, Nat.le_refl _, by unfold maxLen; omega, fun j hj => by rw [Nat.zero_add]; exact h.at8 j hj, fun j hj => ⟨by rw [h.at8 j (by omega)]; rfl, h.frozen j⟩⟩⟩
theorem show_e (As Ab A : Option Addr) (cs cb c ls lb n : Nat) (sec beg b : List UInt8) (w : World) (is : In w w.heap.size As cs sec) (ib : In w w.heap.size Ab cb beg) (i0 : In w w.heap.size A c b) (ht : TabsQ w)
    (hls : sec.length = ls) (hlb : beg.length = lb) (hn : b.length = n) (h1 : ls ≤ 1000000) (h2 : lb ≤ 1000000) (h3 : n ≤ 1000000) (m : Nat) (S : List UInt8) (hS : S = shownAs sec beg b) (hm : S.length = m) :
    Calls Tryd.prog 80 #[.slice As ls cs, .slice Ab lb cb, .slice A n c] w fun e w' => ∃ A' c', e = .returned (.slice A' m c') ∧ Buf w' w.heap.size A' m c' S ∧ Below w.heap.size w w' := by
  have hl := shownAs_length sec beg b
  subst hS
  by_cases h : n % 16 = 0
  · subst hls hlb hn hm
    rw [if_pos h] at hl
    have e : shownAs sec beg b = hDone true sec beg b (b.length / 16) := by unfold shownAs; rw [if_pos h]
    refine (show_any As Ab A cs cb c w.heap.size (b.length / 16) b.length sec beg b w (Nat.le_refl _) is ib i0 ht h1 h2 h3 (by omega) rfl).mono ?_
    rintro e' w' ⟨rfl, hB, hb⟩
    rw [← e] at hB
    exact ⟨_, _, by rw [hl], buf_of_blk hB (Nat.le_refl _) rfl (by rw [hl]; exact h3) |> (by rw [hl] at *; exact ·), hb⟩
  · rw [hn, if_neg h] at hl
    have hm0 : m = 0 := by rw [← hm, hl]
    subst hm0
    refine (show_bad As Ab A ls lb cs cb c n w h h3).mono ?_
    rintro e' w' ⟨rfl, hb⟩
    exact ⟨none, 0, rfl, by rw [List.eq_nil_of_length_eq_zero hl]; exact Buf.nil _ _, hb⟩
def SaidPost (S : Int × List UInt8 × UInt8 × UInt8) (w : World) (e : Ending) (w' : World) : Prop :=
  ∃ A n c, e = .returned (.tuple #[.int .i64 S.1, .slice A n c, .agg #[.int .u8 (S.2.2.1.toNat : Int), .int .u8 (S.2.2.2.toNat : Int)]]) ∧ S.2.1.length = n ∧ In w' w'.heap.size A c S.2.1 ∧ Below w.heap.size w w' ∧ (∀ x, A = some x → w.heap.size ≤ x.block)
set_option maxRecDepth 100000 in
set_option maxHeartbeats 1000000 in
theorem said_short (Q v sec : List UInt8) (A As : Option Addr) (c cs n ls : Nat) (w : World) (_hQ : Q.length = 16) (hn : v.length = n) (_hls : sec.length = ls) (_i0 : In w w.heap.size A c v) (_is : In w w.heap.size As cs sec) (_ht : TabsQ w) (h1 : n ≤ 1000000) (_h2 : ls ≤ 1000000) (hb : n < 8) :
    Calls Tryd.prog 60 #[.slice A n c, .agg (Q.map B8).toArray, .slice As ls cs] w (SaidPost (saidW v Q sec) w) := by
  have HZ := Lib.hid (show saidW v Q sec = (0, [], 0, 0) by unfold saidW; rw [if_pos (by omega)])
  generalize saidW v Q sec = E at *
  have hd : (n : Int) < 8 := by omega
  clear hn _hls _i0 _is _ht _hQ h1 _h2 hb
  go_enter Tryd.func60, Tryd.ntmps60
  go_upto_region 1 with (fail)
  have hQb := (Blk.new_of w 22 _ (Q.map B8) rfl).alloc (.cells #[.int .u8 0, .int .u8 0] 71)
  have hS := Blk.new2_of w (.cells (Q.map B8).toArray 22) 71 #[.int .u8 0, .int .u8 0] [.int .u8 ((0 : UInt8).toNat : Int), .int .u8 ((0 : UInt8).toNat : Int)] rfl
  have hb0 : Below w.heap.size w (w.alloc (.cells (Q.map B8).toArray 22)) := (Below.refl _ _).alloc (Nat.le_refl _) _
  have hbw := hb0.alloc hb0.size (.cells #[.int .u8 0, .int .u8 0] 71)
  obtain ⟨gq, hgq'⟩ : ∃ gq, gq = w.heap.size := ⟨_, rfl⟩
  obtain ⟨g8, hg8'⟩ : ∃ g8, g8 = w.heap.size + 1 := ⟨_, rfl⟩
  have HZ8 := Lib.hid (show w.heap.size ≤ g8 by omega)
  have HGQ := Lib.hid (show gq ≠ g8 by omega)
  rw [← hg8'] at hS ⊢
  rw [← hgq'] at hQb
  simp only [← hgq']
  have HBB := Lib.hid hbw
  have HB8 := Lib.hid hS
  have HQB := Lib.hid hQb
  clear hb0 hbw hgq' hg8' hS hQb
  generalize (w.alloc (.cells (Q.map B8).toArray 22)).alloc (.cells #[.int .u8 0, .int .u8 0] 71) = w1 at *
  clear HQB HGQ
  go_upto_region 2 with (fail)
  refine wp_region_noPanic ?_
  refine wp_region_held_drew (S := fun V => Blk V g8 71 [.int .u8 ((0 : UInt8).toNat : Int), .int .u8 ((0 : UInt8).toNat : Int)] ∧ Below w.heap.size w V) (by kernel_rfl) (by exact ⟨HB8.out.drew, below_drewN HBB.out 1⟩) (fun hHeld => ?_)
  refine' wpAnyH_take (i := 0) (oi := ⟨_, _, _, _, _, _⟩) rfl (by kernel_rfl) (by kernel_rfl) (by kernel_rfl) (fun _ _ _ h => h) (yieldsIf_load_mid (by rfl) 71 _ rfl g8 0 rfl ([.int .u8 ((0 : UInt8).toNat : Int), .int .u8 ((0 : UInt8).toNat : Int)]) _ (fun W h => rangeAt_of_blk h.1) Tryd.underlying71 rfl (inf2)) hHeld ?_
  try simp only [Act.put, List.setIfInBounds_toArray, List.set_cons_zero, List.set_cons_succ]
  refine wpAnyH_take (i := 1) (oi := ⟨_, _, _, _, _, _⟩) (v := ?_) rfl (by kernel_rfl) (by kernel_rfl) (by kernel_rfl) (fun _ _ _ h => h) (Or.inl ⟨by rfl, ?_⟩) hHeld ?_
  rotate_left 1
  · (intro W hSw; (try dsimp only at hSw); go_simp; try with_reducible rfl)
  try simp only [Act.put, List.setIfInBounds_toArray, List.set_cons_zero, List.set_cons_succ]
  refine wpAnyH_take (i := 2) (oi := ⟨_, _, _, _, _, _⟩) (v := ?_) rfl (by kernel_rfl) (by kernel_rfl) (by kernel_rfl) (fun _ _ _ h => h) (Or.inl ⟨by rfl, ?_⟩) hHeld ?_
  rotate_left 1
  · (intro W hSw; (try dsimp only at hSw); go_simp; try with_reducible rfl)
  try simp only [Act.put, List.setIfInBounds_toArray, List.set_cons_zero, List.set_cons_succ]
  refine wpAnyH_ready (rs := [3]) (by kernel_rfl) (by simp) ?_
  refine AllReadyH.cons (o := ⟨_, _, _, _, _, _⟩) rfl (fun K hK => ?_) AllReadyH.nil
  refine step_store_blk (by rfl) 71 (.tmp 8) (.tmp 18) rfl rfl g8 [.int .u8 ((0 : UInt8).toNat : Int), .int .u8 ((0 : UInt8).toNat : Int)] rfl rfl _ _ hHeld.1 inf2 rfl (by simp [Value.oneCell']) ?_
  intro w9 hQ9 hg9
  refine hK.out _ _ ⟨hQ9, below_new hHeld.2 hg9 HZ8.out hHeld.2.size⟩ (fun hHeld => ?_)
  clear hK K
  try simp only [Act.put, List.setIfInBounds_toArray, List.set_cons_zero, List.set_cons_succ]
  refine wpAnyH_done (by kernel_rfl) ?_ _
  refine NoPanic.normal ?_
  have f0 : w9.cell? ⟨g8, 0, none⟩ = some (.int .u8 ((0 : UInt8).toNat : Int)) := hHeld.1.cell 0
  have f1 : w9.cell? ⟨g8, 1, none⟩ = some (.int .u8 ((0 : UInt8).toNat : Int)) := hHeld.1.cell 1
  go_wp2
  refine bodyPost_ret (v := .tuple #[.int .i64 0, .slice none 0 0, .agg #[.int .u8 ((0 : UInt8).toNat : Int), .int .u8 ((0 : UInt8).toNat : Int)]]) (by simp [results, Tryd.results60, go_sem, f0, f1]) rfl ⟨none, 0, 0, by rw [HZ.out] <;> rfl, by rw [HZ.out]; rfl, by rw [HZ.out]; exact in_nil _ _ (by decide) _, hHeld.2, fun _ h => by cases h⟩
set_option maxRecDepth 100000 in
set_option maxHeartbeats 1000000 in
theorem said_long (Q v sec : List UInt8) (A As : Option Addr) (c cs n ls : Nat) (w : World) (_hQ : Q.length = 16) (hn : v.length = n) (_hls : sec.length = ls) (_i0 : In w w.heap.size A c v) (_is : In w w.heap.size As cs sec) (_ht : TabsQ w) (h1 : n ≤ 1000000) (_h2 : ls ≤ 1000000) (hb : 216 < n) :
    Calls Tryd.prog 60 #[.slice A n c, .agg (Q.map B8).toArray, .slice As ls cs] w (SaidPost (saidW v Q sec) w) := by
  have HZ := Lib.hid (show saidW v Q sec = (0, [], 0, 0) by unfold saidW; rw [if_pos (by omega)])
  generalize saidW v Q sec = E at *
  have hd : ¬ (n : Int) < 8 := by omega
  have hd2 : (216 : Int) < (n : Int) := by omega
  clear hn _hls _i0 _is _ht _hQ h1 _h2 hb
  go_enter Tryd.func60, Tryd.ntmps60
  go_upto_region 1 with (fail)
  have hQb := (Blk.new_of w 22 _ (Q.map B8) rfl).alloc (.cells #[.int .u8 0, .int .u8 0] 71)
  have hS := Blk.new2_of w (.cells (Q.map B8).toArray 22) 71 #[.int .u8 0, .int .u8 0] [.int .u8 ((0 : UInt8).toNat : Int), .int .u8 ((0 : UInt8).toNat : Int)] rfl
  have hb0 : Below w.heap.size w (w.alloc (.cells (Q.map B8).toArray 22)) := (Below.refl _ _).alloc (Nat.le_refl _) _
  have hbw := hb0.alloc hb0.size (.cells #[.int .u8 0, .int .u8 0] 71)
  obtain ⟨gq, hgq'⟩ : ∃ gq, gq = w.heap.size := ⟨_, rfl⟩
  obtain ⟨g8, hg8'⟩ : ∃ g8, g8 = w.heap.size + 1 := ⟨_, rfl⟩
  have HZ8 := Lib.hid (show w.heap.size ≤ g8 by omega)
  have HGQ := Lib.hid (show gq ≠ g8 by omega)
  rw [← hg8'] at hS ⊢
  rw [← hgq'] at hQb
  simp only [← hgq']
  have HBB := Lib.hid hbw
  have HB8 := Lib.hid hS
  have HQB := Lib.hid hQb
  clear hb0 hbw hgq' hg8' hS hQb
  generalize (w.alloc (.cells (Q.map B8).toArray 22)).alloc (.cells #[.int .u8 0, .int .u8 0] 71) = w1 at *
  clear HQB HGQ
  go_upto_region 2 with (fail)
  refine wp_region_noPanic ?_
  refine wp_region_held_drew (S := fun V => Blk V g8 71 [.int .u8 ((0 : UInt8).toNat : Int), .int .u8 ((0 : UInt8).toNat : Int)] ∧ Below w.heap.size w V) (by kernel_rfl) (by exact ⟨HB8.out.drew, below_drewN HBB.out 1⟩) (fun hHeld => ?_)
  refine' wpAnyH_take (i := 0) (oi := ⟨_, _, _, _, _, _⟩) rfl (by kernel_rfl) (by kernel_rfl) (by kernel_rfl) (fun _ _ _ h => h) (yieldsIf_load_mid (by rfl) 71 _ rfl g8 0 rfl ([.int .u8 ((0 : UInt8).toNat : Int), .int .u8 ((0 : UInt8).toNat : Int)]) _ (fun W h => rangeAt_of_blk h.1) Tryd.underlying71 rfl (inf2)) hHeld ?_
  try simp only [Act.put, List.setIfInBounds_toArray, List.set_cons_zero, List.set_cons_succ]
  refine wpAnyH_take (i := 1) (oi := ⟨_, _, _, _, _, _⟩) (v := ?_) rfl (by kernel_rfl) (by kernel_rfl) (by kernel_rfl) (fun _ _ _ h => h) (Or.inl ⟨by rfl, ?_⟩) hHeld ?_
  rotate_left 1
  · (intro W hSw; (try dsimp only at hSw); go_simp; try with_reducible rfl)
  try simp only [Act.put, List.setIfInBounds_toArray, List.set_cons_zero, List.set_cons_succ]
  refine wpAnyH_take (i := 2) (oi := ⟨_, _, _, _, _, _⟩) (v := ?_) rfl (by kernel_rfl) (by kernel_rfl) (by kernel_rfl) (fun _ _ _ h => h) (Or.inl ⟨by rfl, ?_⟩) hHeld ?_
  rotate_left 1
  · (intro W hSw; (try dsimp only at hSw); go_simp; try with_reducible rfl)
  try simp only [Act.put, List.setIfInBounds_toArray, List.set_cons_zero, List.set_cons_succ]
  refine wpAnyH_ready (rs := [3]) (by kernel_rfl) (by simp) ?_
  refine AllReadyH.cons (o := ⟨_, _, _, _, _, _⟩) rfl (fun K hK => ?_) AllReadyH.nil
  refine step_store_blk (by rfl) 71 (.tmp 8) (.tmp 18) rfl rfl g8 [.int .u8 ((0 : UInt8).toNat : Int), .int .u8 ((0 : UInt8).toNat : Int)] rfl rfl _ _ hHeld.1 inf2 rfl (by simp [Value.oneCell']) ?_
  intro w9 hQ9 hg9
  refine hK.out _ _ ⟨hQ9, below_new hHeld.2 hg9 HZ8.out hHeld.2.size⟩ (fun hHeld => ?_)
  clear hK K
  try simp only [Act.put, List.setIfInBounds_toArray, List.set_cons_zero, List.set_cons_succ]
  refine wpAnyH_done (by kernel_rfl) ?_ _
  refine NoPanic.normal ?_
  have f0 : w9.cell? ⟨g8, 0, none⟩ = some (.int .u8 ((0 : UInt8).toNat : Int)) := hHeld.1.cell 0
  have f1 : w9.cell? ⟨g8, 1, none⟩ = some (.int .u8 ((0 : UInt8).toNat : Int)) := hHeld.1.cell 1
  go_wp2
  refine bodyPost_ret (v := .tuple #[.int .i64 0, .slice none 0 0, .agg #[.int .u8 ((0 : UInt8).toNat : Int), .int .u8 ((0 : UInt8).toNat : Int)]]) (by simp [results, Tryd.results60, go_sem, f0, f1]) rfl ⟨none, 0, 0, by rw [HZ.out] <;> rfl, by rw [HZ.out]; rfl, by rw [HZ.out]; exact in_nil _ _ (by decide) _, hHeld.2, fun _ h => by cases h⟩
set_option maxRecDepth 100000 in
set_option maxHeartbeats 1000000 in
theorem said_ok (Q v sec : List UInt8) (A As : Option Addr) (c cs n ls : Nat) (w : World) (hQ : Q.length = 16) (hn : v.length = n) (hls : sec.length = ls) (i0 : In w w.heap.size A c v) (is : In w w.heap.size As cs sec) (ht : TabsQ w) (h1 : n ≤ 1000000) (h2 : ls ≤ 1000000) (hb1 : 8 ≤ n) (hb2 : n ≤ 216) (hc8 : ¬ c = 8) :
    Calls Tryd.prog 60 #[.slice A n c, .agg (Q.map B8).toArray, .slice As ls cs] w (SaidPost (saidW v Q sec) w) := by
  obtain ⟨gb, ob, hAe, hgb, hby⟩ := i0.2.2 (by omega)
  obtain ⟨x0, hx0⟩ : ∃ x, x = v.getD 6 0 := ⟨_, rfl⟩
  obtain ⟨x1, hx1⟩ : ∃ x, x = v.getD 7 0 := ⟨_, rfl⟩
  obtain ⟨k4, hk4⟩ : ∃ x, x = v.getD 4 0 := ⟨_, rfl⟩
  obtain ⟨S, hSh⟩ : ∃ S, S = shownAs sec (Q ++ [x0, x1]) (v.drop 8) := ⟨_, rfl⟩
  obtain ⟨m, hmS⟩ : ∃ m, m = S.length := ⟨_, rfl⟩
  have hZ : saidW v Q sec = if S.length ≤ (S.getD 0 0).toNat then (0, [], x0, x1) else ((k4.toNat : Int), (S.drop 1).take (S.getD 0 0).toNat, x0, x1) := by
    unfold saidW; rw [if_neg (by omega), ← hx0, ← hx1, ← hSh, ← hk4]
  have hm16 : m % 16 = 0 := by rw [hmS, hSh, shownAs_length, List.length_drop]; split <;> omega
  have HM16 := Lib.hid hm16
  clear hm16
  have hml : m ≤ 1000 := by rw [hmS, hSh, shownAs_length, List.length_drop]; split <;> omega
  subst hAe
  have hcc := i0.1
  have HC6 := Lib.hid (show w.cell? ⟨gb, ob + 6, none⟩ = some (.int .u8 (x0.toNat : Int)) by rw [hx0]; exact hby 6 (by omega))
  have HC7 := Lib.hid (show w.cell? ⟨gb, ob + 7, none⟩ = some (.int .u8 (x1.toNat : Int)) by rw [hx1]; exact hby 7 (by omega))
  have HC4 := Lib.hid (show w.cell? ⟨gb, ob + 4, none⟩ = some (.int .u8 (k4.toNat : Int)) by rw [hk4]; exact hby 4 (by omega))
  have hi8 : In w w.heap.size (some ⟨gb, ob + 8, none⟩) (c - 8) (v.drop 8) := by
    have := i0.sub (by omega) 8 (n - 8) (by omega)
    rwa [List.take_of_length_le (by rw [List.length_drop]; omega)] at this
  have HI8 := Lib.hid hi8
  have HL8 := Lib.hid (show (v.drop 8).length = n - 8 by rw [List.length_drop, hn])
  have HIS := Lib.hid is
  have HT := Lib.hid ht
  have HLS := Lib.hid hls
  have HQL := Lib.hid hQ
  have HZ := Lib.hid hZ
  have HSH := Lib.hid hSh
  have HMS := Lib.hid hmS.symm
  generalize saidW v Q sec = E at *
  have hn1 : ¬ (n : Int) < 8 := by omega
  have hn2 : ¬ (216 : Int) < (n : Int) := by omega
  have hc7 : (8 : Int) ≤ (c : Int) := by omega
  have hn7 : (8 : Int) ≤ (n : Int) := by omega
  have hnc : (n : Int) ≤ (c : Int) := by omega
  have HGB := Lib.hid hgb
  clear hi8 hx0 hx1 hk4 hSh hmS hZ hby hcc hn hls is ht hQ i0 hgb
  go_enter Tryd.func60, Tryd.ntmps60
  go_upto_region 1 with (fail)
  have hQb := (Blk.new_of w 22 _ (Q.map B8) rfl).alloc (.cells #[.int .u8 0, .int .u8 0] 71)
  have hS := Blk.new2_of w (.cells (Q.map B8).toArray 22) 71 #[.int .u8 0, .int .u8 0] [.int .u8 ((0 : UInt8).toNat : Int), .int .u8 ((0 : UInt8).toNat : Int)] rfl
  have hb0 : Below w.heap.size w (w.alloc (.cells (Q.map B8).toArray 22)) := (Below.refl _ _).alloc (Nat.le_refl _) _
  have hbw := hb0.alloc hb0.size (.cells #[.int .u8 0, .int .u8 0] 71)
  obtain ⟨gq, hgq'⟩ : ∃ gq, gq = w.heap.size := ⟨_, rfl⟩
  obtain ⟨g8, hg8'⟩ : ∃ g8, g8 = w.heap.size + 1 := ⟨_, rfl⟩
  have HZ8 := Lib.hid (show w.heap.size ≤ g8 by omega)
  have HGQ := Lib.hid (show gq ≠ g8 by omega)
  rw [← hg8'] at hS ⊢
  rw [← hgq'] at hQb
  simp only [← hgq']
  have HBB := Lib.hid hbw
  have HB8 := Lib.hid hS
  have HQB := Lib.hid hQb
  clear hb0 hbw hgq' hg8' hS hQb
  generalize (w.alloc (.cells (Q.map B8).toArray 22)).alloc (.cells #[.int .u8 0, .int .u8 0] 71) = w1 at *
  have HBQ := Lib.hid (show w.heap.size ≤ w1.heap.size from HBB.out.size)
  have h6 : w1.cell? ⟨gb, ob + 6, none⟩ = some (.int .u8 (x0.toNat : Int)) := (HBB.out.cell (p := ⟨gb, ob + 6, none⟩) HGB.out).trans HC6.out
  have h7 : w1.cell? ⟨gb, ob + 7, none⟩ = some (.int .u8 (x1.toNat : Int)) := (HBB.out.cell (p := ⟨gb, ob + 7, none⟩) HGB.out).trans HC7.out
  have HR6 := Lib.hid (show w1.rangeAt gb (ob + 6) [.int .u8 (x0.toNat : Int), .int .u8 (x1.toNat : Int)] from fun j u hj => by
    match j, hj with
    | 0, hj => simp at hj; subst hj; exact h6
    | 1, hj => simp at hj; subst hj; exact h7
    | j + 2, hj => simp at hj)
  clear h6 h7
  go_upto_region 4 with (first
    | ((with_reducible refine (?_ : wpList _ _ _ (Oper.mk (some 21) _ _ _ _ _ :: _) _ _)); go_loud (refine wpList_arrayAt rfl 71 (.tmp 20) rfl (some ⟨gb, ob + 6, none⟩) 2 _ 2 _ rfl Tryd.underlying71 (by decide) ?_))
    | ((with_reducible refine (?_ : wpList _ _ _ (Oper.mk (some 22) _ _ _ _ _ :: _) _ _)); go_loud (refine wpList_load_mid rfl 71 (.tmp 21) rfl gb (ob + 6) rfl _ _ HR6.out Tryd.underlying71 rfl inf2 ?_))
    | ((with_reducible refine (?_ : wpList _ _ _ (Oper.mk none _ _ _ _ _ :: _) _ _)); go_loud (refine wpList_store_blk rfl 71 (.tmp 8) (.tmp 22) rfl rfl g8 [.int .u8 (x0.toNat : Int), .int .u8 (x1.toNat : Int)] rfl rfl _ _ HB8.out inf2 rfl (by simp [Value.oneCell']) ?_); intro w2 hS2 hg2))
  have HBB2 := Lib.hid (below_new HBB.out hg2 HZ8.out HBB.out.size)
  have HQB2 := Lib.hid (HQB.out.grown hg2 (fun e => HGQ.out (by injection e)))
  have HS2 := Lib.hid hS2
  have hql := HQB2.out.lt
  have hsl := HS2.out.lt
  have HBG := Lib.hid (fun (W : World) => begin_e Q x0 x1 W HQL.out)
  have HSE := Lib.hid (fun (W : World) (A3 : Option Addr) (c3 : Nat) (h : Below w.heap.size w W) (h3 : In W W.heap.size A3 c3 (Q ++ [x0, x1])) => show_e As A3 (some ⟨gb, ob + 8, none⟩) cs c3 (c - 8) ls 18 (n - 8) sec (Q ++ [x0, x1]) (v.drop 8) W (HIS.out.up h) h3 (HI8.out.up h) (HT.out.below h) HLS.out (by rw [List.length_append, HQL.out]; rfl) HL8.out h2 (by omega) (by omega) m S HSH.out HMS.out)
  clear hS2 hg2 HB8 HQB HBB HR6 HBQ
  refine wp_region_noPanic ?_
  refine wp_region_held_drew (S := fun W => Below w2.heap.size w2 W) (by kernel_rfl) (by exact below_drewN (Below.refl _ _) 1) (fun hHeld => ?_)
  refine wpAnyH_take (i := 0) (oi := ⟨_, _, _, _, _, _⟩) (v := ?_) rfl (by kernel_rfl) (by kernel_rfl) (by kernel_rfl) (fun _ _ _ h => h) (Or.inl ⟨by rfl, ?_⟩) hHeld ?_
  rotate_left 1
  · (intro W hSw; (try dsimp only at hSw); go_simp; try with_reducible rfl)
  try simp only [Act.put, List.setIfInBounds_toArray, List.set_cons_zero, List.set_cons_succ]
  refine' wpAnyH_take (i := 1) (oi := ⟨_, _, _, _, _, _⟩) rfl (by kernel_rfl) (by kernel_rfl) (by kernel_rfl) (fun _ _ _ h => h) (yieldsIf_load_mid (by rfl) 22 _ rfl gq 0 rfl (Q.map B8) _ (fun W h => rangeAt_of_blk (HQB2.out.below h hql)) Tryd.underlying22 rfl (inf16.trans (by rw [List.length_map, HQL.out]))) hHeld ?_
  try simp only [Act.put, List.setIfInBounds_toArray, List.set_cons_zero, List.set_cons_succ]
  refine' wpAnyH_take (i := 2) (oi := ⟨_, _, _, _, _, _⟩) rfl (by kernel_rfl) (by kernel_rfl) (by kernel_rfl) (fun _ _ _ h => h) (yieldsIf_load_mid (by rfl) 71 _ rfl g8 0 rfl ([.int .u8 (x0.toNat : Int), .int .u8 (x1.toNat : Int)]) _ (fun W h => rangeAt_of_blk (HS2.out.below h hsl)) Tryd.underlying71 rfl (inf2)) hHeld ?_
  try simp only [Act.put, List.setIfInBounds_toArray, List.set_cons_zero, List.set_cons_succ]
  refine wpAnyH_take (i := 4) (oi := ⟨_, _, _, _, _, _⟩) (v := ?_) rfl (by kernel_rfl) (by kernel_rfl) (by kernel_rfl) (fun _ _ _ h => h) (Or.inl ⟨by rfl, ?_⟩) hHeld ?_
  rotate_left 1
  · (intro W hSw; (try dsimp only at hSw); go_simp; try with_reducible rfl)
  try simp only [Act.put, List.setIfInBounds_toArray, List.set_cons_zero, List.set_cons_succ]
  refine wpAnyH_take (i := 5) (oi := ⟨_, _, _, _, _, _⟩) (v := ?_) rfl (by kernel_rfl) (by kernel_rfl) (by kernel_rfl) (fun _ _ _ h => h) (Or.inl ⟨by rfl, ?_⟩) hHeld ?_
  rotate_left 1
  · (intro W hSw; (try dsimp only at hSw); go_simp; try with_reducible rfl)
  try simp only [Act.put, List.setIfInBounds_toArray, List.set_cons_zero, List.set_cons_succ]
  replace hHeld : Below w2.heap.size w2 w2.drew := hHeld
  refine wpAnyH_ready (rs := [3]) (by kernel_rfl) (by simp) ?_
  refine AllReadyH.cons (o := ⟨_, _, _, _, _, _⟩) rfl (fun K hK => ?_) AllReadyH.nil
  go_simp
  go_at_call 79
  refine (HBG.out _).mono ?_
  rintro e w3 ⟨A3, c3, rfl, hI3, hb3⟩
  try go_wp2_with fail
  refine hK.out _ _ (hHeld.trans (hb3.mono hHeld.size)) (fun hHeld => ?_)
  clear hK K hb3
  try simp only [Act.put, List.setIfInBounds_toArray, List.set_cons_zero, List.set_cons_succ]
  refine wpAnyH_ready (rs := [6]) (by kernel_rfl) (by simp) ?_
  refine AllReadyH.cons (o := ⟨_, _, _, _, _, _⟩) rfl (fun K hK => ?_) AllReadyH.nil
  go_simp
  go_at_call 80
  refine (HSE.out _ _ _ (HBB2.out.trans (hHeld.mono HBB2.out.size)) hI3).mono ?_
  rintro e w4 ⟨A4, c4, rfl, hB4, hb4⟩
  try go_wp2_with fail
  have HZ3 := Lib.hid (show g8 < w3.heap.size from Nat.lt_of_lt_of_le hsl hHeld.size)
  have HG3 := Lib.hid (show w.heap.size ≤ w3.heap.size from Nat.le_trans HBB2.out.size hHeld.size)
  refine hK.out _ _ (hHeld.trans (hb4.mono hHeld.size)) (fun hHeld => ?_)
  clear hK K hb4
  try simp only [Act.put, List.setIfInBounds_toArray, List.set_cons_zero, List.set_cons_succ]
  refine wpAnyH_take (i := 7) (oi := ⟨_, _, _, _, _, _⟩) (v := ?_) rfl (by kernel_rfl) (by kernel_rfl) (by kernel_rfl) (fun _ _ _ h => h) (Or.inl ⟨by rfl, ?_⟩) hHeld ?_
  rotate_left 1
  · (intro W hSw; (try dsimp only at hSw); go_simp; try with_reducible rfl)
  try simp only [Act.put, List.setIfInBounds_toArray, List.set_cons_zero, List.set_cons_succ]
  refine wpAnyH_done (by kernel_rfl) ?_ _
  refine NoPanic.normal ?_
  replace hHeld : Below w2.heap.size w2 w4 := hHeld
  have HBB := Lib.hid (HBB2.out.trans (hHeld.mono HBB2.out.size))
  have HB8 := Lib.hid (HS2.out.below hHeld hsl)
  have HB4 := Lib.hid hB4
  generalize w3.heap.size = g3 at *
  clear hHeld hql hsl hB4 hI3 HSE HBG HS2 HQB2 HBB2
  by_cases hm0 : m = 0
  · subst hm0
    have HZZ := Lib.hid (show E = (0, [], x0, x1) by rw [HZ.out, if_pos (by rw [HMS.out]; omega)])
    clear HB4
    go_upto_region 6 with (fail)
    refine wp_region_noPanic ?_
    refine wp_region_held_drew (S := fun V => Blk V g8 71 [.int .u8 (x0.toNat : Int), .int .u8 (x1.toNat : Int)] ∧ Below w.heap.size w V) (by kernel_rfl) (by exact ⟨HB8.out.drew, below_drewN HBB.out 1⟩) (fun hHeld => ?_)
    refine' wpAnyH_take (i := 0) (oi := ⟨_, _, _, _, _, _⟩) rfl (by kernel_rfl) (by kernel_rfl) (by kernel_rfl) (fun _ _ _ h => h) (yieldsIf_load_mid (by rfl) 71 _ rfl g8 0 rfl ([.int .u8 (x0.toNat : Int), .int .u8 (x1.toNat : Int)]) _ (fun W h => rangeAt_of_blk h.1) Tryd.underlying71 rfl (inf2)) hHeld ?_
    try simp only [Act.put, List.setIfInBounds_toArray, List.set_cons_zero, List.set_cons_succ]
    refine wpAnyH_take (i := 1) (oi := ⟨_, _, _, _, _, _⟩) (v := ?_) rfl (by kernel_rfl) (by kernel_rfl) (by kernel_rfl) (fun _ _ _ h => h) (Or.inl ⟨by rfl, ?_⟩) hHeld ?_
    rotate_left 1
    · (intro W hSw; (try dsimp only at hSw); go_simp; try with_reducible rfl)
    try simp only [Act.put, List.setIfInBounds_toArray, List.set_cons_zero, List.set_cons_succ]
    refine wpAnyH_take (i := 2) (oi := ⟨_, _, _, _, _, _⟩) (v := ?_) rfl (by kernel_rfl) (by kernel_rfl) (by kernel_rfl) (fun _ _ _ h => h) (Or.inl ⟨by rfl, ?_⟩) hHeld ?_
    rotate_left 1
    · (intro W hSw; (try dsimp only at hSw); go_simp; try with_reducible rfl)
    try simp only [Act.put, List.setIfInBounds_toArray, List.set_cons_zero, List.set_cons_succ]
    refine wpAnyH_ready (rs := [3]) (by kernel_rfl) (by simp) ?_
    refine AllReadyH.cons (o := ⟨_, _, _, _, _, _⟩) rfl (fun K hK => ?_) AllReadyH.nil
    refine step_store_blk (by rfl) 71 (.tmp 8) (.tmp 42) rfl rfl g8 [.int .u8 (x0.toNat : Int), .int .u8 (x1.toNat : Int)] rfl rfl _ _ hHeld.1 inf2 rfl (by simp [Value.oneCell']) ?_
    intro w9 hQ9 hg9
    refine hK.out _ _ ⟨hQ9, below_new hHeld.2 hg9 HZ8.out hHeld.2.size⟩ (fun hHeld => ?_)
    clear hK K
    try simp only [Act.put, List.setIfInBounds_toArray, List.set_cons_zero, List.set_cons_succ]
    refine wpAnyH_done (by kernel_rfl) ?_ _
    refine NoPanic.normal ?_
    have f0 : w9.cell? ⟨g8, 0, none⟩ = some (.int .u8 (x0.toNat : Int)) := hHeld.1.cell 0
    have f1 : w9.cell? ⟨g8, 1, none⟩ = some (.int .u8 (x1.toNat : Int)) := hHeld.1.cell 1
    go_wp2
    refine bodyPost_ret (v := .tuple #[.int .i64 0, .slice none 0 0, .agg #[.int .u8 (x0.toNat : Int), .int .u8 (x1.toNat : Int)]]) (by simp [results, Tryd.results60, go_sem, f0, f1]) rfl ⟨none, 0, 0, by rw [HZZ.out] <;> rfl, by rw [HZZ.out]; rfl, by rw [HZZ.out]; exact in_nil _ _ (by decide) _, hHeld.2, fun _ h => by cases h⟩
  · obtain ⟨gs, hA4, hgs, hgs2, hby⟩ := HB4.out.at (by omega)
    subst hA4
    obtain ⟨y, hy⟩ : ∃ y, y = S.getD 0 0 := ⟨_, rfl⟩
    have HY := Lib.hid hy
    have hcc : w4.cell? ⟨gs, 0, none⟩ = some (.int .u8 (y.toNat : Int)) := by rw [hy]; exact hby 0 (by rw [HMS.out]; omega)
    have hd0 : ((m : Int) == 0) = false := by simpa using hm0
    have hm1 : (1 : Int) ≤ (m : Int) := by omega
    have hm2 : (0 : Int) < (m : Int) := by omega
    obtain ⟨hy64, hyi⟩ := ix_byte y
    by_cases hle : m ≤ y.toNat
    · have hd1 : decide ((m : Int) ≤ (y.toNat : Int)) = true := by simpa using hle
      have hd2 : (m : Int) ≤ (y.toNat : Int) := by omega
      have HZZ := Lib.hid (show E = (0, [], x0, x1) by rw [HZ.out, ← HY.out, if_pos (by rw [HMS.out]; exact hle)])
      clear hby hy hle hgs hgs2
      go_upto_region 6 with (fail)
      refine wp_region_noPanic ?_
      refine wp_region_held_drew (S := fun V => Blk V g8 71 [.int .u8 (x0.toNat : Int), .int .u8 (x1.toNat : Int)] ∧ Below w.heap.size w V) (by kernel_rfl) (by exact ⟨HB8.out.drew, below_drewN HBB.out 1⟩) (fun hHeld => ?_)
      refine' wpAnyH_take (i := 0) (oi := ⟨_, _, _, _, _, _⟩) rfl (by kernel_rfl) (by kernel_rfl) (by kernel_rfl) (fun _ _ _ h => h) (yieldsIf_load_mid (by rfl) 71 _ rfl g8 0 rfl ([.int .u8 (x0.toNat : Int), .int .u8 (x1.toNat : Int)]) _ (fun W h => rangeAt_of_blk h.1) Tryd.underlying71 rfl (inf2)) hHeld ?_
      try simp only [Act.put, List.setIfInBounds_toArray, List.set_cons_zero, List.set_cons_succ]
      refine wpAnyH_take (i := 1) (oi := ⟨_, _, _, _, _, _⟩) (v := ?_) rfl (by kernel_rfl) (by kernel_rfl) (by kernel_rfl) (fun _ _ _ h => h) (Or.inl ⟨by rfl, ?_⟩) hHeld ?_
      rotate_left 1
      · (intro W hSw; (try dsimp only at hSw); go_simp; try with_reducible rfl)
      try simp only [Act.put, List.setIfInBounds_toArray, List.set_cons_zero, List.set_cons_succ]
      refine wpAnyH_take (i := 2) (oi := ⟨_, _, _, _, _, _⟩) (v := ?_) rfl (by kernel_rfl) (by kernel_rfl) (by kernel_rfl) (fun _ _ _ h => h) (Or.inl ⟨by rfl, ?_⟩) hHeld ?_
      rotate_left 1
      · (intro W hSw; (try dsimp only at hSw); go_simp; try with_reducible rfl)
      try simp only [Act.put, List.setIfInBounds_toArray, List.set_cons_zero, List.set_cons_succ]
      refine wpAnyH_ready (rs := [3]) (by kernel_rfl) (by simp) ?_
      refine AllReadyH.cons (o := ⟨_, _, _, _, _, _⟩) rfl (fun K hK => ?_) AllReadyH.nil
      refine step_store_blk (by rfl) 71 (.tmp 8) (.tmp 42) rfl rfl g8 [.int .u8 (x0.toNat : Int), .int .u8 (x1.toNat : Int)] rfl rfl _ _ hHeld.1 inf2 rfl (by simp [Value.oneCell']) ?_
      intro w9 hQ9 hg9
      refine hK.out _ _ ⟨hQ9, below_new hHeld.2 hg9 HZ8.out hHeld.2.size⟩ (fun hHeld => ?_)
      clear hK K
      try simp only [Act.put, List.setIfInBounds_toArray, List.set_cons_zero, List.set_cons_succ]
      refine wpAnyH_done (by kernel_rfl) ?_ _
      refine NoPanic.normal ?_
      have f0 : w9.cell? ⟨g8, 0, none⟩ = some (.int .u8 (x0.toNat : Int)) := hHeld.1.cell 0
      have f1 : w9.cell? ⟨g8, 1, none⟩ = some (.int .u8 (x1.toNat : Int)) := hHeld.1.cell 1
      go_wp2
      refine bodyPost_ret (v := .tuple #[.int .i64 0, .slice none 0 0, .agg #[.int .u8 (x0.toNat : Int), .int .u8 (x1.toNat : Int)]]) (by simp [results, Tryd.results60, go_sem, f0, f1]) rfl ⟨none, 0, 0, by rw [HZZ.out] <;> rfl, by rw [HZZ.out]; rfl, by rw [HZZ.out]; exact in_nil _ _ (by decide) _, hHeld.2, fun _ h => by cases h⟩
    · have hd1 : decide ((m : Int) ≤ (y.toNat : Int)) = false := by simpa using hle
      have hd2 : ¬ (m : Int) ≤ (y.toNat : Int) := by omega
      have HZZ := Lib.hid (show E = ((k4.toNat : Int), (S.drop 1).take y.toNat, x0, x1) by rw [HZ.out, ← HY.out, if_neg (by rw [HMS.out]; exact hle)])
      have HSC := Lib.hid (fun (W : World) (h : Buf W g3 (some ⟨gs, 0, none⟩) m c4 S) => (show W.cell? ⟨gs, 0, none⟩ = some (.int .u8 (y.toNat : Int)) by
        obtain ⟨x, hx, _, _, hb⟩ := h.at (by omega)
        cases hx
        rw [hy]; exact hb 0 (by rw [HMS.out]; omega)))
      have HGS := Lib.hid (Nat.le_trans HG3.out hgs)
      clear hby hy hgs hgs2
      obtain ⟨q, hq⟩ : ∃ q, q = 1 + y.toNat := ⟨_, rfl⟩
      obtain ⟨hq1, hq2, hq3, hq4⟩ := ix_next y q hq
      have hqm : q ≤ m := by omega
      have hmc := HB4.out.le.1
      have hq5 : (q : Int) ≤ (c4 : Int) := by omega
      have hq6 : (1 : Int) ≤ (q : Int) := by omega
      obtain ⟨hk64, hki⟩ := ix_byte k4
      have HC4W := Lib.hid (fun (W : World) (h : Below w.heap.size w W) => (show W.cell? ⟨gb, ob + 4, none⟩ = some (.int .u8 (k4.toNat : Int)) from (h.cell (p := ⟨gb, ob + 4, none⟩) HGB.out).trans HC4.out))
      have hn4 : (4 : Int) < (n : Int) := by omega
      have HQM := Lib.hid (And.intro hqm (And.intro hq hmc))
      clear hq hqm hle hmc
      by_cases hc1 : c4 = 1
      · exfalso; have := HQM.out; have := HM16.out; omega
      go_upto_region 7 with (fail)
      clear hcc
      have hm3 : 0 < m := Nat.pos_of_ne_zero hm0
      refine wp_region_noPanic ?_
      refine wp_region_held_drew (S := fun V => Blk V g8 71 [.int .u8 (x0.toNat : Int), .int .u8 (x1.toNat : Int)] ∧ Below w.heap.size w V ∧ Buf V g3 (some ⟨gs, 0, none⟩) m c4 S) (by kernel_rfl) (by exact ⟨HB8.out.drew, below_drewN HBB.out 1, HB4.out.drew⟩) (fun hHeld => ?_)
      refine wpAnyH_take (i := 0) (oi := ⟨_, _, _, _, _, _⟩) (v := ?_) rfl (by kernel_rfl) (by kernel_rfl) (by kernel_rfl) (fun _ _ _ h => h) (Or.inl ⟨by rfl, ?_⟩) hHeld ?_
      rotate_left 1
      · (intro W hSw; (try dsimp only at hSw); go_simp; try with_reducible rfl)
      try simp only [Act.put, List.setIfInBounds_toArray, List.set_cons_zero, List.set_cons_succ]
      refine wpAnyH_take (i := 1) (oi := ⟨_, _, _, _, _, _⟩) (v := ?_) rfl (by kernel_rfl) (by kernel_rfl) (by kernel_rfl) (fun _ _ _ h => h) (Or.inl ⟨by rfl, ?_⟩) hHeld ?_
      rotate_left 1
      · (intro W hSw; (try dsimp only at hSw); go_simp; try with_reducible rfl)
      try simp only [Act.put, List.setIfInBounds_toArray, List.set_cons_zero, List.set_cons_succ]
      refine wpAnyH_take (i := 2) (oi := ⟨_, _, _, _, _, _⟩) (v := ?_) rfl (by kernel_rfl) (by kernel_rfl) (by kernel_rfl) (fun _ _ _ h => h) (Or.inl ⟨by rfl, ?_⟩) hHeld ?_
      rotate_left 1
      · (intro W hSw; (try dsimp only at hSw); have hcc4 := HC4W.out W hSw.2.1; go_simp; try with_reducible rfl)
      try simp only [Act.put, List.setIfInBounds_toArray, List.set_cons_zero, List.set_cons_succ]
      refine wpAnyH_take (i := 3) (oi := ⟨_, _, _, _, _, _⟩) (v := ?_) rfl (by kernel_rfl) (by kernel_rfl) (by kernel_rfl) (fun _ _ _ h => h) (Or.inl ⟨by rfl, ?_⟩) hHeld ?_
      rotate_left 1
      · (intro W hSw; (try dsimp only at hSw); go_simp; try with_reducible rfl)
      try simp only [Act.put, List.setIfInBounds_toArray, List.set_cons_zero, List.set_cons_succ]
      refine wpAnyH_take (i := 4) (oi := ⟨_, _, _, _, _, _⟩) (v := ?_) rfl (by kernel_rfl) (by kernel_rfl) (by kernel_rfl) (fun _ _ _ h => h) (Or.inl ⟨by rfl, ?_⟩) hHeld ?_
      rotate_left 1
      · (intro W hSw; (try dsimp only at hSw); go_simp; try with_reducible rfl)
      try simp only [Act.put, List.setIfInBounds_toArray, List.set_cons_zero, List.set_cons_succ]
      refine wpAnyH_take (i := 5) (oi := ⟨_, _, _, _, _, _⟩) (v := ?_) rfl (by kernel_rfl) (by kernel_rfl) (by kernel_rfl) (fun _ _ _ h => h) (Or.inl ⟨by rfl, ?_⟩) hHeld ?_
      rotate_left 1
      · (intro W hSw; (try dsimp only at hSw); go_simp; try with_reducible rfl)
      try simp only [Act.put, List.setIfInBounds_toArray, List.set_cons_zero, List.set_cons_succ]
      refine wpAnyH_take (i := 6) (oi := ⟨_, _, _, _, _, _⟩) (v := ?_) rfl (by kernel_rfl) (by kernel_rfl) (by kernel_rfl) (fun _ _ _ h => h) (Or.inl ⟨by rfl, ?_⟩) hHeld ?_
      rotate_left 1
      · (intro W hSw; (try dsimp only at hSw); go_simp; try with_reducible rfl)
      try simp only [Act.put, List.setIfInBounds_toArray, List.set_cons_zero, List.set_cons_succ]
      refine wpAnyH_take (i := 7) (oi := ⟨_, _, _, _, _, _⟩) (v := ?_) rfl (by kernel_rfl) (by kernel_rfl) (by kernel_rfl) (fun _ _ _ h => h) (Or.inl ⟨by rfl, ?_⟩) hHeld ?_
      rotate_left 1
      · (intro W hSw; (try dsimp only at hSw); have hcc5 := HSC.out W hSw.2.2; go_simp; try with_reducible rfl)
      try simp only [Act.put, List.setIfInBounds_toArray, List.set_cons_zero, List.set_cons_succ]
      refine wpAnyH_take (i := 8) (oi := ⟨_, _, _, _, _, _⟩) (v := ?_) rfl (by kernel_rfl) (by kernel_rfl) (by kernel_rfl) (fun _ _ _ h => h) (Or.inl ⟨by rfl, ?_⟩) hHeld ?_
      rotate_left 1
      · (intro W hSw; (try dsimp only at hSw); go_simp; try with_reducible rfl)
      try simp only [Act.put, List.setIfInBounds_toArray, List.set_cons_zero, List.set_cons_succ]
      refine wpAnyH_take (i := 9) (oi := ⟨_, _, _, _, _, _⟩) (v := ?_) rfl (by kernel_rfl) (by kernel_rfl) (by kernel_rfl) (fun _ _ _ h => h) (Or.inl ⟨by rfl, ?_⟩) hHeld ?_
      rotate_left 1
      · (intro W hSw; (try dsimp only at hSw); go_simp; try with_reducible rfl)
      try simp only [Act.put, List.setIfInBounds_toArray, List.set_cons_zero, List.set_cons_succ]
      refine wpAnyH_take (i := 10) (oi := ⟨_, _, _, _, _, _⟩) (v := ?_) rfl (by kernel_rfl) (by kernel_rfl) (by kernel_rfl) (fun _ _ _ h => h) (Or.inl ⟨by rfl, ?_⟩) hHeld ?_
      rotate_left 1
      · (intro W hSw; (try dsimp only at hSw); go_simp; try with_reducible rfl)
      try simp only [Act.put, List.setIfInBounds_toArray, List.set_cons_zero, List.set_cons_succ]
      refine' wpAnyH_take (i := 11) (oi := ⟨_, _, _, _, _, _⟩) rfl (by kernel_rfl) (by kernel_rfl) (by kernel_rfl) (fun _ _ _ h => h) (yieldsIf_load_mid (by rfl) 71 _ rfl g8 0 rfl ([.int .u8 (x0.toNat : Int), .int .u8 (x1.toNat : Int)]) _ (fun W h => rangeAt_of_blk h.1) Tryd.underlying71 rfl (inf2)) hHeld ?_
      try simp only [Act.put, List.setIfInBounds_toArray, List.set_cons_zero, List.set_cons_succ]
      refine wpAnyH_take (i := 12) (oi := ⟨_, _, _, _, _, _⟩) (v := ?_) rfl (by kernel_rfl) (by kernel_rfl) (by kernel_rfl) (fun _ _ _ h => h) (Or.inl ⟨by rfl, ?_⟩) hHeld ?_
      rotate_left 1
      · (intro W hSw; (try dsimp only at hSw); go_simp; try with_reducible rfl)
      try simp only [Act.put, List.setIfInBounds_toArray, List.set_cons_zero, List.set_cons_succ]
      refine wpAnyH_take (i := 13) (oi := ⟨_, _, _, _, _, _⟩) (v := ?_) rfl (by kernel_rfl) (by kernel_rfl) (by kernel_rfl) (fun _ _ _ h => h) (Or.inl ⟨by rfl, ?_⟩) hHeld ?_
      rotate_left 1
      · (intro W hSw; (try dsimp only at hSw); go_simp; try with_reducible rfl)
      try simp only [Act.put, List.setIfInBounds_toArray, List.set_cons_zero, List.set_cons_succ]
      refine wpAnyH_ready (rs := [14]) (by kernel_rfl) (by simp) ?_
      refine AllReadyH.cons (o := ⟨_, _, _, _, _, _⟩) rfl (fun K hK => ?_) AllReadyH.nil
      refine step_store_blk (by rfl) 71 (.tmp 8) (.tmp 54) rfl rfl g8 [.int .u8 (x0.toNat : Int), .int .u8 (x1.toNat : Int)] rfl rfl _ _ hHeld.1 inf2 rfl (by simp [Value.oneCell']) ?_
      intro w9 hQ9 hg9
      refine hK.out _ _ ⟨hQ9, below_new hHeld.2.1 hg9 HZ8.out hHeld.2.1.size, hHeld.2.2.kept hg9 (fun x e e2 => by have := (hHeld.2.2.lt e).1; have := HZ3.out; injection e2; omega)⟩ (fun hHeld => ?_)
      clear hK K
      try simp only [Act.put, List.setIfInBounds_toArray, List.set_cons_zero, List.set_cons_succ]
      refine wpAnyH_done (by kernel_rfl) ?_ _
      refine NoPanic.normal ?_
      have hsub := (hHeld.2.2.toIn (Nat.le_refl _)).sub (by rw [HMS.out]; omega) 1 y.toNat (by rw [HMS.out]; have := HQM.out; omega)
      rw [Nat.zero_add] at hsub
      have f0 : w9.cell? ⟨g8, 0, none⟩ = some (.int .u8 (x0.toNat : Int)) := hHeld.1.cell 0
      have f1 : w9.cell? ⟨g8, 1, none⟩ = some (.int .u8 (x1.toNat : Int)) := hHeld.1.cell 1
      go_wp2
      refine bodyPost_ret (v := .tuple #[.int .i64 (k4.toNat : Int), .slice (some ⟨gs, 1, none⟩) y.toNat (c4 - 1), .agg #[.int .u8 (x0.toNat : Int), .int .u8 (x1.toNat : Int)]]) (by simp [results, Tryd.results60, go_sem, f0, f1]) rfl ⟨_, _, _, by rw [HZZ.out] <;> rfl, by rw [HZZ.out]; show ((S.drop 1).take y.toNat).length = _; rw [List.length_take, List.length_drop, HMS.out]; have := HQM.out; omega, by rw [HZZ.out]; exact hsub, hHeld.2.1, fun x h => by injection h with h; subst h; exact HGS.out⟩
set_option maxRecDepth 100000 in
set_option maxHeartbeats 1000000 in
theorem said_eq (Q v sec : List UInt8) (A As : Option Addr) (c cs n ls : Nat) (w : World) (hQ : Q.length = 16) (hn : v.length = n) (hls : sec.length = ls) (i0 : In w w.heap.size A c v) (is : In w w.heap.size As cs sec) (ht : TabsQ w) (h1 : n ≤ 1000000) (h2 : ls ≤ 1000000) (hb1 : 8 ≤ n) (hb2 : n ≤ 216) (hc8 : c = 8) :
    Calls Tryd.prog 60 #[.slice A n c, .agg (Q.map B8).toArray, .slice As ls cs] w (SaidPost (saidW v Q sec) w) := by
  obtain ⟨gb, ob, hAe, hgb, hby⟩ := i0.2.2 (by omega)
  obtain ⟨x0, hx0⟩ : ∃ x, x = v.getD 6 0 := ⟨_, rfl⟩
  obtain ⟨x1, hx1⟩ : ∃ x, x = v.getD 7 0 := ⟨_, rfl⟩
  obtain ⟨k4, hk4⟩ : ∃ x, x = v.getD 4 0 := ⟨_, rfl⟩
  obtain ⟨S, hSh⟩ : ∃ S, S = shownAs sec (Q ++ [x0, x1]) (v.drop 8) := ⟨_, rfl⟩
  obtain ⟨m, hmS⟩ : ∃ m, m = S.length := ⟨_, rfl⟩
  have hZ : saidW v Q sec = if S.length ≤ (S.getD 0 0).toNat then (0, [], x0, x1) else ((k4.toNat : Int), (S.drop 1).take (S.getD 0 0).toNat, x0, x1) := by
    unfold saidW; rw [if_neg (by omega), ← hx0, ← hx1, ← hSh, ← hk4]
  have hm16 : m % 16 = 0 := by rw [hmS, hSh, shownAs_length, List.length_drop]; split <;> omega
  have HM16 := Lib.hid hm16
  clear hm16
  have hml : m ≤ 1000 := by rw [hmS, hSh, shownAs_length, List.length_drop]; split <;> omega
  subst hAe
  have hcc := i0.1
  have HC6 := Lib.hid (show w.cell? ⟨gb, ob + 6, none⟩ = some (.int .u8 (x0.toNat : Int)) by rw [hx0]; exact hby 6 (by omega))
  have HC7 := Lib.hid (show w.cell? ⟨gb, ob + 7, none⟩ = some (.int .u8 (x1.toNat : Int)) by rw [hx1]; exact hby 7 (by omega))
  have HC4 := Lib.hid (show w.cell? ⟨gb, ob + 4, none⟩ = some (.int .u8 (k4.toNat : Int)) by rw [hk4]; exact hby 4 (by omega))
  have hi8 : In w w.heap.size (some ⟨gb, ob, none⟩) 0 (v.drop 8) := by
    rw [List.drop_of_length_le (by have := i0.1; omega)]
    exact in_nil _ _ (by decide) _
  have HI8 := Lib.hid hi8
  have HL8 := Lib.hid (show (v.drop 8).length = n - 8 by rw [List.length_drop, hn])
  have HIS := Lib.hid is
  have HT := Lib.hid ht
  have HLS := Lib.hid hls
  have HQL := Lib.hid hQ
  have HZ := Lib.hid hZ
  have HSH := Lib.hid hSh
  have HMS := Lib.hid hmS.symm
  generalize saidW v Q sec = E at *
  have hn1 : ¬ (n : Int) < 8 := by omega
  have hn2 : ¬ (216 : Int) < (n : Int) := by omega
  have hc7 : (8 : Int) ≤ (c : Int) := by omega
  have hn7 : (8 : Int) ≤ (n : Int) := by omega
  have hnc : (n : Int) ≤ (c : Int) := by omega
  have HGB := Lib.hid hgb
  clear hi8 hx0 hx1 hk4 hSh hmS hZ hby hcc hn hls is ht hQ i0 hgb
  go_enter Tryd.func60, Tryd.ntmps60
  go_upto_region 1 with (fail)
  have hQb := (Blk.new_of w 22 _ (Q.map B8) rfl).alloc (.cells #[.int .u8 0, .int .u8 0] 71)
  have hS := Blk.new2_of w (.cells (Q.map B8).toArray 22) 71 #[.int .u8 0, .int .u8 0] [.int .u8 ((0 : UInt8).toNat : Int), .int .u8 ((0 : UInt8).toNat : Int)] rfl
  have hb0 : Below w.heap.size w (w.alloc (.cells (Q.map B8).toArray 22)) := (Below.refl _ _).alloc (Nat.le_refl _) _
  have hbw := hb0.alloc hb0.size (.cells #[.int .u8 0, .int .u8 0] 71)
  obtain ⟨gq, hgq'⟩ : ∃ gq, gq = w.heap.size := ⟨_, rfl⟩
  obtain ⟨g8, hg8'⟩ : ∃ g8, g8 = w.heap.size + 1 := ⟨_, rfl⟩
  have HZ8 := Lib.hid (show w.heap.size ≤ g8 by omega)
  have HGQ := Lib.hid (show gq ≠ g8 by omega)
  rw [← hg8'] at hS ⊢
  rw [← hgq'] at hQb
  simp only [← hgq']
  have HBB := Lib.hid hbw
  have HB8 := Lib.hid hS
  have HQB := Lib.hid hQb
  clear hb0 hbw hgq' hg8' hS hQb
  generalize (w.alloc (.cells (Q.map B8).toArray 22)).alloc (.cells #[.int .u8 0, .int .u8 0] 71) = w1 at *
  have HBQ := Lib.hid (show w.heap.size ≤ w1.heap.size from HBB.out.size)
  have h6 : w1.cell? ⟨gb, ob + 6, none⟩ = some (.int .u8 (x0.toNat : Int)) := (HBB.out.cell (p := ⟨gb, ob + 6, none⟩) HGB.out).trans HC6.out
  have h7 : w1.cell? ⟨gb, ob + 7, none⟩ = some (.int .u8 (x1.toNat : Int)) := (HBB.out.cell (p := ⟨gb, ob + 7, none⟩) HGB.out).trans HC7.out
  have HR6 := Lib.hid (show w1.rangeAt gb (ob + 6) [.int .u8 (x0.toNat : Int), .int .u8 (x1.toNat : Int)] from fun j u hj => by
    match j, hj with
    | 0, hj => simp at hj; subst hj; exact h6
    | 1, hj => simp at hj; subst hj; exact h7
    | j + 2, hj => simp at hj)
  clear h6 h7
  go_upto_region 4 with (first
    | ((with_reducible refine (?_ : wpList _ _ _ (Oper.mk (some 21) _ _ _ _ _ :: _) _ _)); go_loud (refine wpList_arrayAt rfl 71 (.tmp 20) rfl (some ⟨gb, ob + 6, none⟩) 2 _ 2 _ rfl Tryd.underlying71 (by decide) ?_))
    | ((with_reducible refine (?_ : wpList _ _ _ (Oper.mk (some 22) _ _ _ _ _ :: _) _ _)); go_loud (refine wpList_load_mid rfl 71 (.tmp 21) rfl gb (ob + 6) rfl _ _ HR6.out Tryd.underlying71 rfl inf2 ?_))
    | ((with_reducible refine (?_ : wpList _ _ _ (Oper.mk none _ _ _ _ _ :: _) _ _)); go_loud (refine wpList_store_blk rfl 71 (.tmp 8) (.tmp 22) rfl rfl g8 [.int .u8 (x0.toNat : Int), .int .u8 (x1.toNat : Int)] rfl rfl _ _ HB8.out inf2 rfl (by simp [Value.oneCell']) ?_); intro w2 hS2 hg2))
  have HBB2 := Lib.hid (below_new HBB.out hg2 HZ8.out HBB.out.size)
  have HQB2 := Lib.hid (HQB.out.grown hg2 (fun e => HGQ.out (by injection e)))
  have HS2 := Lib.hid hS2
  have hql := HQB2.out.lt
  have hsl := HS2.out.lt
  have HBG := Lib.hid (fun (W : World) => begin_e Q x0 x1 W HQL.out)
  have HSE := Lib.hid (fun (W : World) (A3 : Option Addr) (c3 : Nat) (h : Below w.heap.size w W) (h3 : In W W.heap.size A3 c3 (Q ++ [x0, x1])) => show_e As A3 (some ⟨gb, ob, none⟩) cs c3 0 ls 18 (n - 8) sec (Q ++ [x0, x1]) (v.drop 8) W (HIS.out.up h) h3 (HI8.out.up h) (HT.out.below h) HLS.out (by rw [List.length_append, HQL.out]; rfl) HL8.out h2 (by omega) (by omega) m S HSH.out HMS.out)
  clear hS2 hg2 HB8 HQB HBB HR6 HBQ
  refine wp_region_noPanic ?_
  refine wp_region_held_drew (S := fun W => Below w2.heap.size w2 W) (by kernel_rfl) (by exact below_drewN (Below.refl _ _) 1) (fun hHeld => ?_)
  refine wpAnyH_take (i := 0) (oi := ⟨_, _, _, _, _, _⟩) (v := ?_) rfl (by kernel_rfl) (by kernel_rfl) (by kernel_rfl) (fun _ _ _ h => h) (Or.inl ⟨by rfl, ?_⟩) hHeld ?_
  rotate_left 1
  · (intro W hSw; (try dsimp only at hSw); go_simp; try with_reducible rfl)
  try simp only [Act.put, List.setIfInBounds_toArray, List.set_cons_zero, List.set_cons_succ]
  refine' wpAnyH_take (i := 1) (oi := ⟨_, _, _, _, _, _⟩) rfl (by kernel_rfl) (by kernel_rfl) (by kernel_rfl) (fun _ _ _ h => h) (yieldsIf_load_mid (by rfl) 22 _ rfl gq 0 rfl (Q.map B8) _ (fun W h => rangeAt_of_blk (HQB2.out.below h hql)) Tryd.underlying22 rfl (inf16.trans (by rw [List.length_map, HQL.out]))) hHeld ?_
  try simp only [Act.put, List.setIfInBounds_toArray, List.set_cons_zero, List.set_cons_succ]
  refine' wpAnyH_take (i := 2) (oi := ⟨_, _, _, _, _, _⟩) rfl (by kernel_rfl) (by kernel_rfl) (by kernel_rfl) (fun _ _ _ h => h) (yieldsIf_load_mid (by rfl) 71 _ rfl g8 0 rfl ([.int .u8 (x0.toNat : Int), .int .u8 (x1.toNat : Int)]) _ (fun W h => rangeAt_of_blk (HS2.out.below h hsl)) Tryd.underlying71 rfl (inf2)) hHeld ?_
  try simp only [Act.put, List.setIfInBounds_toArray, List.set_cons_zero, List.set_cons_succ]
  refine wpAnyH_take (i := 4) (oi := ⟨_, _, _, _, _, _⟩) (v := ?_) rfl (by kernel_rfl) (by kernel_rfl) (by kernel_rfl) (fun _ _ _ h => h) (Or.inl ⟨by rfl, ?_⟩) hHeld ?_
  rotate_left 1
  · (intro W hSw; (try dsimp only at hSw); go_simp; try with_reducible rfl)
  try simp only [Act.put, List.setIfInBounds_toArray, List.set_cons_zero, List.set_cons_succ]
  refine wpAnyH_take (i := 5) (oi := ⟨_, _, _, _, _, _⟩) (v := ?_) rfl (by kernel_rfl) (by kernel_rfl) (by kernel_rfl) (fun _ _ _ h => h) (Or.inl ⟨by rfl, ?_⟩) hHeld ?_
  rotate_left 1
  · (intro W hSw; (try dsimp only at hSw); go_simp; try with_reducible rfl)
  try simp only [Act.put, List.setIfInBounds_toArray, List.set_cons_zero, List.set_cons_succ]
  replace hHeld : Below w2.heap.size w2 w2.drew := hHeld
  refine wpAnyH_ready (rs := [3]) (by kernel_rfl) (by simp) ?_
  refine AllReadyH.cons (o := ⟨_, _, _, _, _, _⟩) rfl (fun K hK => ?_) AllReadyH.nil
  go_simp
  go_at_call 79
  refine (HBG.out _).mono ?_
  rintro e w3 ⟨A3, c3, rfl, hI3, hb3⟩
  try go_wp2_with fail
  refine hK.out _ _ (hHeld.trans (hb3.mono hHeld.size)) (fun hHeld => ?_)
  clear hK K hb3
  try simp only [Act.put, List.setIfInBounds_toArray, List.set_cons_zero, List.set_cons_succ]
  refine wpAnyH_ready (rs := [6]) (by kernel_rfl) (by simp) ?_
  refine AllReadyH.cons (o := ⟨_, _, _, _, _, _⟩) rfl (fun K hK => ?_) AllReadyH.nil
  go_simp
  go_at_call 80
  refine (HSE.out _ _ _ (HBB2.out.trans (hHeld.mono HBB2.out.size)) hI3).mono ?_
  rintro e w4 ⟨A4, c4, rfl, hB4, hb4⟩
  try go_wp2_with fail
  have HZ3 := Lib.hid (show g8 < w3.heap.size from Nat.lt_of_lt_of_le hsl hHeld.size)
  have HG3 := Lib.hid (show w.heap.size ≤ w3.heap.size from Nat.le_trans HBB2.out.size hHeld.size)
  refine hK.out _ _ (hHeld.trans (hb4.mono hHeld.size)) (fun hHeld => ?_)
  clear hK K hb4
  try simp only [Act.put, List.setIfInBounds_toArray, List.set_cons_zero, List.set_cons_succ]
  refine wpAnyH_take (i := 7) (oi := ⟨_, _, _, _, _, _⟩) (v := ?_) rfl (by kernel_rfl) (by kernel_rfl) (by kernel_rfl) (fun _ _ _ h => h) (Or.inl ⟨by rfl, ?_⟩) hHeld ?_
  rotate_left 1
  · (intro W hSw; (try dsimp only at hSw); go_simp; try with_reducible rfl)
  try simp only [Act.put, List.setIfInBounds_toArray, List.set_cons_zero, List.set_cons_succ]
  refine wpAnyH_done (by kernel_rfl) ?_ _
  refine NoPanic.normal ?_
  replace hHeld : Below w2.heap.size w2 w4 := hHeld
  have HBB := Lib.hid (HBB2.out.trans (hHeld.mono HBB2.out.size))
  have HB8 := Lib.hid (HS2.out.below hHeld hsl)
  have HB4 := Lib.hid hB4
  generalize w3.heap.size = g3 at *
  clear hHeld hql hsl hB4 hI3 HSE HBG HS2 HQB2 HBB2
  by_cases hm0 : m = 0
  · subst hm0
    have HZZ := Lib.hid (show E = (0, [], x0, x1) by rw [HZ.out, if_pos (by rw [HMS.out]; omega)])
    clear HB4
    go_upto_region 6 with (fail)
    refine wp_region_noPanic ?_
    refine wp_region_held_drew (S := fun V => Blk V g8 71 [.int .u8 (x0.toNat : Int), .int .u8 (x1.toNat : Int)] ∧ Below w.heap.size w V) (by kernel_rfl) (by exact ⟨HB8.out.drew, below_drewN HBB.out 1⟩) (fun hHeld => ?_)
    refine' wpAnyH_take (i := 0) (oi := ⟨_, _, _, _, _, _⟩) rfl (by kernel_rfl) (by kernel_rfl) (by kernel_rfl) (fun _ _ _ h => h) (yieldsIf_load_mid (by rfl) 71 _ rfl g8 0 rfl ([.int .u8 (x0.toNat : Int), .int .u8 (x1.toNat : Int)]) _ (fun W h => rangeAt_of_blk h.1) Tryd.underlying71 rfl (inf2)) hHeld ?_
    try simp only [Act.put, List.setIfInBounds_toArray, List.set_cons_zero, List.set_cons_succ]
    refine wpAnyH_take (i := 1) (oi := ⟨_, _, _, _, _, _⟩) (v := ?_) rfl (by kernel_rfl) (by kernel_rfl) (by kernel_rfl) (fun _ _ _ h => h) (Or.inl ⟨by rfl, ?_⟩) hHeld ?_
    rotate_left 1
    · (intro W hSw; (try dsimp only at hSw); go_simp; try with_reducible rfl)
    try simp only [Act.put, List.setIfInBounds_toArray, List.set_cons_zero, List.set_cons_succ]
    refine wpAnyH_take (i := 2) (oi := ⟨_, _, _, _, _, _⟩) (v := ?_) rfl (by kernel_rfl) (by kernel_rfl) (by kernel_rfl) (fun _ _ _ h => h) (Or.inl ⟨by rfl, ?_⟩) hHeld ?_
    rotate_left 1
    · (intro W hSw; (try dsimp only at hSw); go_simp; try with_reducible rfl)
    try simp only [Act.put, List.setIfInBounds_toArray, List.set_cons_zero, List.set_cons_succ]
    refine wpAnyH_ready (rs := [3]) (by kernel_rfl) (by simp) ?_
    refine AllReadyH.cons (o := ⟨_, _, _, _, _, _⟩) rfl (fun K hK => ?_) AllReadyH.nil
    refine step_store_blk (by rfl) 71 (.tmp 8) (.tmp 42) rfl rfl g8 [.int .u8 (x0.toNat : Int), .int .u8 (x1.toNat : Int)] rfl rfl _ _ hHeld.1 inf2 rfl (by simp [Value.oneCell']) ?_
    intro w9 hQ9 hg9
    refine hK.out _ _ ⟨hQ9, below_new hHeld.2 hg9 HZ8.out hHeld.2.size⟩ (fun hHeld => ?_)
    clear hK K
    try simp only [Act.put, List.setIfInBounds_toArray, List.set_cons_zero, List.set_cons_succ]
    refine wpAnyH_done (by kernel_rfl) ?_ _
    refine NoPanic.normal ?_
    have f0 : w9.cell? ⟨g8, 0, none⟩ = some (.int .u8 (x0.toNat : Int)) := hHeld.1.cell 0
    have f1 : w9.cell? ⟨g8, 1, none⟩ = some (.int .u8 (x1.toNat : Int)) := hHeld.1.cell 1
    go_wp2
    refine bodyPost_ret (v := .tuple #[.int .i64 0, .slice none 0 0, .agg #[.int .u8 (x0.toNat : Int), .int .u8 (x1.toNat : Int)]]) (by simp [results, Tryd.results60, go_sem, f0, f1]) rfl ⟨none, 0, 0, by rw [HZZ.out] <;> rfl, by rw [HZZ.out]; rfl, by rw [HZZ.out]; exact in_nil _ _ (by decide) _, hHeld.2, fun _ h => by cases h⟩
  · obtain ⟨gs, hA4, hgs, hgs2, hby⟩ := HB4.out.at (by omega)
    subst hA4
    obtain ⟨y, hy⟩ : ∃ y, y = S.getD 0 0 := ⟨_, rfl⟩
    have HY := Lib.hid hy
    have hcc : w4.cell? ⟨gs, 0, none⟩ = some (.int .u8 (y.toNat : Int)) := by rw [hy]; exact hby 0 (by rw [HMS.out]; omega)
    have hd0 : ((m : Int) == 0) = false := by simpa using hm0
    have hm1 : (1 : Int) ≤ (m : Int) := by omega
    have hm2 : (0 : Int) < (m : Int) := by omega
    obtain ⟨hy64, hyi⟩ := ix_byte y
    by_cases hle : m ≤ y.toNat
    · have hd1 : decide ((m : Int) ≤ (y.toNat : Int)) = true := by simpa using hle
      have hd2 : (m : Int) ≤ (y.toNat : Int) := by omega
      have HZZ := Lib.hid (show E = (0, [], x0, x1) by rw [HZ.out, ← HY.out, if_pos (by rw [HMS.out]; exact hle)])
      clear hby hy hle hgs hgs2
      go_upto_region 6 with (fail)
      refine wp_region_noPanic ?_
      refine wp_region_held_drew (S := fun V => Blk V g8 71 [.int .u8 (x0.toNat : Int), .int .u8 (x1.toNat : Int)] ∧ Below w.heap.size w V) (by kernel_rfl) (by exact ⟨HB8.out.drew, below_drewN HBB.out 1⟩) (fun hHeld => ?_)
      refine' wpAnyH_take (i := 0) (oi := ⟨_, _, _, _, _, _⟩) rfl (by kernel_rfl) (by kernel_rfl) (by kernel_rfl) (fun _ _ _ h => h) (yieldsIf_load_mid (by rfl) 71 _ rfl g8 0 rfl ([.int .u8 (x0.toNat : Int), .int .u8 (x1.toNat : Int)]) _ (fun W h => rangeAt_of_blk h.1) Tryd.underlying71 rfl (inf2)) hHeld ?_
      try simp only [Act.put, List.setIfInBounds_toArray, List.set_cons_zero, List.set_cons_succ]
      refine wpAnyH_take (i := 1) (oi := ⟨_, _, _, _, _, _⟩) (v := ?_) rfl (by kernel_rfl) (by kernel_rfl) (by kernel_rfl) (fun _ _ _ h => h) (Or.inl ⟨by rfl, ?_⟩) hHeld ?_
      rotate_left 1
      · (intro W hSw; (try dsimp only at hSw); go_simp; try with_reducible rfl)
      try simp only [Act.put, List.setIfInBounds_toArray, List.set_cons_zero, List.set_cons_succ]
      refine wpAnyH_take (i := 2) (oi := ⟨_, _, _, _, _, _⟩) (v := ?_) rfl (by kernel_rfl) (by kernel_rfl) (by kernel_rfl) (fun _ _ _ h => h) (Or.inl ⟨by rfl, ?_⟩) hHeld ?_
      rotate_left 1
      · (intro W hSw; (try dsimp only at hSw); go_simp; try with_reducible rfl)
      try simp only [Act.put, List.setIfInBounds_toArray, List.set_cons_zero, List.set_cons_succ]
      refine wpAnyH_ready (rs := [3]) (by kernel_rfl) (by simp) ?_
      refine AllReadyH.cons (o := ⟨_, _, _, _, _, _⟩) rfl (fun K hK => ?_) AllReadyH.nil
      refine step_store_blk (by rfl) 71 (.tmp 8) (.tmp 42) rfl rfl g8 [.int .u8 (x0.toNat : Int), .int .u8 (x1.toNat : Int)] rfl rfl _ _ hHeld.1 inf2 rfl (by simp [Value.oneCell']) ?_
      intro w9 hQ9 hg9
      refine hK.out _ _ ⟨hQ9, below_new hHeld.2 hg9 HZ8.out hHeld.2.size⟩ (fun hHeld => ?_)
      clear hK K
      try simp only [Act.put, List.setIfInBounds_toArray, List.set_cons_zero, List.set_cons_succ]
      refine wpAnyH_done (by kernel_rfl) ?_ _
      refine NoPanic.normal ?_
      have f0 : w9.cell? ⟨g8, 0, none⟩ = some (.int .u8 (x0.toNat : Int)) := hHeld.1.cell 0
      have f1 : w9.cell? ⟨g8, 1, none⟩ = some (.int .u8 (x1.toNat : Int)) := hHeld.1.cell 1
      go_wp2
      refine bodyPost_ret (v := .tuple #[.int .i64 0, .slice none 0 0, .agg #[.int .u8 (x0.toNat : Int), .int .u8 (x1.toNat : Int)]]) (by simp [results, Tryd.results60, go_sem, f0, f1]) rfl ⟨none, 0, 0, by rw [HZZ.out] <;> rfl, by rw [HZZ.out]; rfl, by rw [HZZ.out]; exact in_nil _ _ (by decide) _, hHeld.2, fun _ h => by cases h⟩
    · have hd1 : decide ((m : Int) ≤ (y.toNat : Int)) = false := by simpa using hle
      have hd2 : ¬ (m : Int) ≤ (y.toNat : Int) := by omega
      have HZZ := Lib.hid (show E = ((k4.toNat : Int), (S.drop 1).take y.toNat, x0, x1) by rw [HZ.out, ← HY.out, if_neg (by rw [HMS.out]; exact hle)])
      have HSC := Lib.hid (fun (W : World) (h : Buf W g3 (some ⟨gs, 0, none⟩) m c4 S) => (show W.cell? ⟨gs, 0, none⟩ = some (.int .u8 (y.toNat : Int)) by
        obtain ⟨x, hx, _, _, hb⟩ := h.at (by omega)
        cases hx
        rw [hy]; exact hb 0 (by rw [HMS.out]; omega)))
      have HGS := Lib.hid (Nat.le_trans HG3.out hgs)
      clear hby hy hgs hgs2
      obtain ⟨q, hq⟩ : ∃ q, q = 1 + y.toNat := ⟨_, rfl⟩
      obtain ⟨hq1, hq2, hq3, hq4⟩ := ix_next y q hq
      have hqm : q ≤ m := by omega
      have hmc := HB4.out.le.1
      have hq5 : (q : Int) ≤ (c4 : Int) := by omega
      have hq6 : (1 : Int) ≤ (q : Int) := by omega
      obtain ⟨hk64, hki⟩ := ix_byte k4
      have HC4W := Lib.hid (fun (W : World) (h : Below w.heap.size w W) => (show W.cell? ⟨gb, ob + 4, none⟩ = some (.int .u8 (k4.toNat : Int)) from (h.cell (p := ⟨gb, ob + 4, none⟩) HGB.out).trans HC4.out))
      have hn4 : (4 : Int) < (n : Int) := by omega
      have HQM := Lib.hid (And.intro hqm (And.intro hq hmc))
      clear hq hqm hle hmc
      by_cases hc1 : c4 = 1
      · exfalso; have := HQM.out; have := HM16.out; omega
      go_upto_region 7 with (fail)
      clear hcc
      have hm3 : 0 < m := Nat.pos_of_ne_zero hm0
      refine wp_region_noPanic ?_
      refine wp_region_held_drew (S := fun V => Blk V g8 71 [.int .u8 (x0.toNat : Int), .int .u8 (x1.toNat : Int)] ∧ Below w.heap.size w V ∧ Buf V g3 (some ⟨gs, 0, none⟩) m c4 S) (by kernel_rfl) (by exact ⟨HB8.out.drew, below_drewN HBB.out 1, HB4.out.drew⟩) (fun hHeld => ?_)
      refine wpAnyH_take (i := 0) (oi := ⟨_, _, _, _, _, _⟩) (v := ?_) rfl (by kernel_rfl) (by kernel_rfl) (by kernel_rfl) (fun _ _ _ h => h) (Or.inl ⟨by rfl, ?_⟩) hHeld ?_
      rotate_left 1
      · (intro W hSw; (try dsimp only at hSw); go_simp; try with_reducible rfl)
      try simp only [Act.put, List.setIfInBounds_toArray, List.set_cons_zero, List.set_cons_succ]
      refine wpAnyH_take (i := 1) (oi := ⟨_, _, _, _, _, _⟩) (v := ?_) rfl (by kernel_rfl) (by kernel_rfl) (by kernel_rfl) (fun _ _ _ h => h) (Or.inl ⟨by rfl, ?_⟩) hHeld ?_
      rotate_left 1
      · (intro W hSw; (try dsimp only at hSw); go_simp; try with_reducible rfl)
      try simp only [Act.put, List.setIfInBounds_toArray, List.set_cons_zero, List.set_cons_succ]
      refine wpAnyH_take (i := 2) (oi := ⟨_, _, _, _, _, _⟩) (v := ?_) rfl (by kernel_rfl) (by kernel_rfl) (by kernel_rfl) (fun _ _ _ h => h) (Or.inl ⟨by rfl, ?_⟩) hHeld ?_
      rotate_left 1
      · (intro W hSw; (try dsimp only at hSw); have hcc4 := HC4W.out W hSw.2.1; go_simp; try with_reducible rfl)
      try simp only [Act.put, List.setIfInBounds_toArray, List.set_cons_zero, List.set_cons_succ]
      refine wpAnyH_take (i := 3) (oi := ⟨_, _, _, _, _, _⟩) (v := ?_) rfl (by kernel_rfl) (by kernel_rfl) (by kernel_rfl) (fun _ _ _ h => h) (Or.inl ⟨by rfl, ?_⟩) hHeld ?_
      rotate_left 1
      · (intro W hSw; (try dsimp only at hSw); go_simp; try with_reducible rfl)
      try simp only [Act.put, List.setIfInBounds_toArray, List.set_cons_zero, List.set_cons_succ]
      refine wpAnyH_take (i := 4) (oi := ⟨_, _, _, _, _, _⟩) (v := ?_) rfl (by kernel_rfl) (by kernel_rfl) (by kernel_rfl) (fun _ _ _ h => h) (Or.inl ⟨by rfl, ?_⟩) hHeld ?_
      rotate_left 1
      · (intro W hSw; (try dsimp only at hSw); go_simp; try with_reducible rfl)
      try simp only [Act.put, List.setIfInBounds_toArray, List.set_cons_zero, List.set_cons_succ]
      refine wpAnyH_take (i := 5) (oi := ⟨_, _, _, _, _, _⟩) (v := ?_) rfl (by kernel_rfl) (by kernel_rfl) (by kernel_rfl) (fun _ _ _ h => h) (Or.inl ⟨by rfl, ?_⟩) hHeld ?_
      rotate_left 1
      · (intro W hSw; (try dsimp only at hSw); go_simp; try with_reducible rfl)
      try simp only [Act.put, List.setIfInBounds_toArray, List.set_cons_zero, List.set_cons_succ]
      refine wpAnyH_take (i := 6) (oi := ⟨_, _, _, _, _, _⟩) (v := ?_) rfl (by kernel_rfl) (by kernel_rfl) (by kernel_rfl) (fun _ _ _ h => h) (Or.inl ⟨by rfl, ?_⟩) hHeld ?_
      rotate_left 1
      · (intro W hSw; (try dsimp only at hSw); go_simp; try with_reducible rfl)
      try simp only [Act.put, List.setIfInBounds_toArray, List.set_cons_zero, List.set_cons_succ]
      refine wpAnyH_take (i := 7) (oi := ⟨_, _, _, _, _, _⟩) (v := ?_) rfl (by kernel_rfl) (by kernel_rfl) (by kernel_rfl) (fun _ _ _ h => h) (Or.inl ⟨by rfl, ?_⟩) hHeld ?_
      rotate_left 1
      · (intro W hSw; (try dsimp only at hSw); have hcc5 := HSC.out W hSw.2.2; go_simp; try with_reducible rfl)
      try simp only [Act.put, List.setIfInBounds_toArray, List.set_cons_zero, List.set_cons_succ]
      refine wpAnyH_take (i := 8) (oi := ⟨_, _, _, _, _, _⟩) (v := ?_) rfl (by kernel_rfl) (by kernel_rfl) (by kernel_rfl) (fun _ _ _ h => h) (Or.inl ⟨by rfl, ?_⟩) hHeld ?_
      rotate_left 1
      · (intro W hSw; (try dsimp only at hSw); go_simp; try with_reducible rfl)
      try simp only [Act.put, List.setIfInBounds_toArray, List.set_cons_zero, List.set_cons_succ]
      refine wpAnyH_take (i := 9) (oi := ⟨_, _, _, _, _, _⟩) (v := ?_) rfl (by kernel_rfl) (by kernel_rfl) (by kernel_rfl) (fun _ _ _ h => h) (Or.inl ⟨by rfl, ?_⟩) hHeld ?_
      rotate_left 1
      · (intro W hSw; (try dsimp only at hSw); go_simp; try with_reducible rfl)
      try simp only [Act.put, List.setIfInBounds_toArray, List.set_cons_zero, List.set_cons_succ]
      refine wpAnyH_take (i := 10) (oi := ⟨_, _, _, _, _, _⟩) (v := ?_) rfl (by kernel_rfl) (by kernel_rfl) (by kernel_rfl) (fun _ _ _ h => h) (Or.inl ⟨by rfl, ?_⟩) hHeld ?_
      rotate_left 1
      · (intro W hSw; (try dsimp only at hSw); go_simp; try with_reducible rfl)
      try simp only [Act.put, List.setIfInBounds_toArray, List.set_cons_zero, List.set_cons_succ]
      refine' wpAnyH_take (i := 11) (oi := ⟨_, _, _, _, _, _⟩) rfl (by kernel_rfl) (by kernel_rfl) (by kernel_rfl) (fun _ _ _ h => h) (yieldsIf_load_mid (by rfl) 71 _ rfl g8 0 rfl ([.int .u8 (x0.toNat : Int), .int .u8 (x1.toNat : Int)]) _ (fun W h => rangeAt_of_blk h.1) Tryd.underlying71 rfl (inf2)) hHeld ?_
      try simp only [Act.put, List.setIfInBounds_toArray, List.set_cons_zero, List.set_cons_succ]
      refine wpAnyH_take (i := 12) (oi := ⟨_, _, _, _, _, _⟩) (v := ?_) rfl (by kernel_rfl) (by kernel_rfl) (by kernel_rfl) (fun _ _ _ h => h) (Or.inl ⟨by rfl, ?_⟩) hHeld ?_
      rotate_left 1
      · (intro W hSw; (try dsimp only at hSw); go_simp; try with_reducible rfl)
      try simp only [Act.put, List.setIfInBounds_toArray, List.set_cons_zero, List.set_cons_succ]
      refine wpAnyH_take (i := 13) (oi := ⟨_, _, _, _, _, _⟩) (v := ?_) rfl (by kernel_rfl) (by kernel_rfl) (by kernel_rfl) (fun _ _ _ h => h) (Or.inl ⟨by rfl, ?_⟩) hHeld ?_
      rotate_left 1
      · (intro W hSw; (try dsimp only at hSw); go_simp; try with_reducible rfl)
      try simp only [Act.put, List.setIfInBounds_toArray, List.set_cons_zero, List.set_cons_succ]
      refine wpAnyH_ready (rs := [14]) (by kernel_rfl) (by simp) ?_
      refine AllReadyH.cons (o := ⟨_, _, _, _, _, _⟩) rfl (fun K hK => ?_) AllReadyH.nil
      refine step_store_blk (by rfl) 71 (.tmp 8) (.tmp 54) rfl rfl g8 [.int .u8 (x0.toNat : Int), .int .u8 (x1.toNat : Int)] rfl rfl _ _ hHeld.1 inf2 rfl (by simp [Value.oneCell']) ?_
      intro w9 hQ9 hg9
      refine hK.out _ _ ⟨hQ9, below_new hHeld.2.1 hg9 HZ8.out hHeld.2.1.size, hHeld.2.2.kept hg9 (fun x e e2 => by have := (hHeld.2.2.lt e).1; have := HZ3.out; injection e2; omega)⟩ (fun hHeld => ?_)
      clear hK K
      try simp only [Act.put, List.setIfInBounds_toArray, List.set_cons_zero, List.set_cons_succ]
      refine wpAnyH_done (by kernel_rfl) ?_ _
      refine NoPanic.normal ?_
      have hsub := (hHeld.2.2.toIn (Nat.le_refl _)).sub (by rw [HMS.out]; omega) 1 y.toNat (by rw [HMS.out]; have := HQM.out; omega)
      rw [Nat.zero_add] at hsub
      have f0 : w9.cell? ⟨g8, 0, none⟩ = some (.int .u8 (x0.toNat : Int)) := hHeld.1.cell 0
      have f1 : w9.cell? ⟨g8, 1, none⟩ = some (.int .u8 (x1.toNat : Int)) := hHeld.1.cell 1
      go_wp2
      refine bodyPost_ret (v := .tuple #[.int .i64 (k4.toNat : Int), .slice (some ⟨gs, 1, none⟩) y.toNat (c4 - 1), .agg #[.int .u8 (x0.toNat : Int), .int .u8 (x1.toNat : Int)]]) (by simp [results, Tryd.results60, go_sem, f0, f1]) rfl ⟨_, _, _, by rw [HZZ.out] <;> rfl, by rw [HZZ.out]; show ((S.drop 1).take y.toNat).length = _; rw [List.length_take, List.length_drop, HMS.out]; have := HQM.out; omega, by rw [HZZ.out]; exact hsub, hHeld.2.1, fun x h => by injection h with h; subst h; exact HGS.out⟩
end Go.Proofs.YtbomckbekcaemaaDoor
