/-
  Rows of strings of the call's own; the contract of the reference's Split of layer 17.
-/
import Derived.Test.YtjachohgffnbiaaPe
namespace Go.Proofs.Ytjachohgffnbiaa
open Go.RowKit

theorem infoStr : (Try.prog.info? 9).map (fun i => (i.zero, i.size, i.bytes)) = some (some (.string ⟨#[]⟩), 1, 16) := by kernel_rfl
/-- Strings of the call's own, behind a slice of its own. -/
def Strs (w : World) (base : Nat) (v : Value) (ps : List (List UInt8)) : Prop := w.ownsRow base 9 1 v ps.length (ps.map fun p => .string ⟨p.toArray⟩)
theorem Strs.nil (w : World) (base : Nat) : Strs w base (.slice none 0 0) [] := World.ownsRow_nil w base _ 1
theorem Strs.below {w w' : World} {base : Nat} {v : Value} {ps : List (List UInt8)} (h : Strs w base v ps) (hg : Below w.heap.size w w') : Strs w' base v ps :=
  World.ownsRow.kept h (grown_of_below hg none) (by
    cases e : v.ownBlock with
    | none => exact .inl rfl
    | some k => exact .inr (by simp))
theorem strs_one (w : World) (base : Nat) (y : List UInt8) (hb : base ≤ w.heap.size) : Strs (w.alloc (.cells #[.string ⟨y.toArray⟩] 9)) base (.slice (some ⟨w.heap.size, 0, none⟩) 1 1) [y] :=
  ⟨rfl, .inr ⟨w.heap.size, 1, #[.string ⟨y.toArray⟩], rfl, hb, heap_alloc_new w _, Nat.le_refl _, by decide, rfl, rfl⟩⟩
theorem Strs.row {w : World} {base : Nat} {v : Value} {ps : List (List UInt8)} (h : Strs w base v ps) (h0 : 0 < ps.length) : ∃ gp c, v = .slice (some ⟨gp, 0, none⟩) ps.length c ∧ ps.length ≤ c ∧ c ≤ 9223372036854775807 ∧ base ≤ gp ∧ gp < w.heap.size ∧
    ∀ j, j < ps.length → w.cell? ⟨gp, j, none⟩ = some (.string ⟨(ps.getD j []).toArray⟩) := by
  rcases h.2 with ⟨_, h1⟩ | ⟨g, cap, cur, rfl, hb, hg, hnc, hcm, hcs, ht⟩
  · omega
  · have hlt : g < w.heap.size := by
      rcases Nat.lt_or_ge g w.heap.size with hlt | hge
      · exact hlt
      · rw [Array.getElem?_eq_none hge] at hg; cases hg
    refine ⟨g, cap, rfl, hnc, by simpa [maxLen] using hcm, hb, hlt, fun j hj => ?_⟩
    rw [World.ownsRow.cellAt h j (by omega), List.getElem?_map, List.getElem?_eq_getElem hj, List.getD_eq_getElem?_getD, List.getElem?_eq_getElem hj]
    rfl
theorem wpList_append_str {ops : Array Oper} {rest : List Oper} {o : Oper} {a : Act} {w0 w : World} {Q : Exit → Act → World → Prop} (hgd : o.guard = none) (s x : Operand)
    (ho : o.op = .call { callee := .builtin .append, args := #[s, x], argTypes := #[29, 29] })
    (base : Nat) (v : Value) (ps : List (List UInt8)) (hs : a.eval s = v) (hv : Strs w0 base v ps) (hbl : Below w0.heap.size w0 w) (hbase : base ≤ w0.heap.size)
    (gx : Nat) (hx : a.eval x = .slice (some ⟨gx, 0, none⟩) 1 1) (y : List UInt8) (hc : w.cell? ⟨gx, 0, none⟩ = some (.string ⟨y.toArray⟩))
    (hn : ps.length ≤ 1000000)
    (h : ∀ v' w', Strs w' base v' (ps ++ [y]) → Below base w w' → wpList Try.prog ops Q rest (a.put o.dst v') w') : wpList Try.prog ops Q (o :: rest) a w := by
  obtain ⟨i, hi, hz, hsz, hby⟩ := info_parts infoStr
  have hown : Strs w base v ps := hv.below hbl
  have hlt : ∀ k, v.ownBlock = some k → base ≤ k ∧ k < w.heap.size := World.ownsRow.lt hown
  have hsize := hbl.size
  refine wpList_append_lies w hgd s x 29 ho base 9 i _ 1 16 Try.underlying29 hi hz hsz hby rfl (by decide) v ps.length _ hs hown ⟨gx, 0, none⟩ 1 1 [.string ⟨y.toArray⟩] hx rfl ?_ ?_ (by decide) (by simp only [maxLen]; omega) (by omega) (by omega) w.heap.size rfl ?_
  · intro j u hj
    match j, hj with
    | 0, hj => simp at hj; subst hj; simpa [Addr.add] using hc
    | j + 1, hj => simp at hj
  · intro u hu; simp at hu; subst hu; rfl
  · intro g cap w' hown' hg hgo hlt'
    refine h _ w' ?_ ⟨hg.os, hg.tape, hg.output, hg.size, fun k hk => hg.block k (by omega) (fun e => by have := (hlt k e.symm).1; omega)⟩
    unfold Strs
    rw [List.length_append, List.map_append]
    exact hown'
/-- How many bytes a string has. -/
def bLen : Value → Nat
  | .string s => s.data.size
  | _ => 0
theorem str_cons (x : UInt8) (X : List UInt8) : (⟨#[x]⟩ ++ ⟨X.toArray⟩ : ByteArray) = ⟨(x :: X).toArray⟩ := bytes_append [x] X
theorem extract_to (b : List UInt8) (m : Nat) : (⟨b.toArray⟩ : ByteArray).extract 0 m = ⟨(b.take m).toArray⟩ := by
  apply ByteArray.ext
  rw [ByteArray.data_extract]
  simp
theorem extract_from (b : List UInt8) (s m : Nat) (hm : b.length ≤ m) : (⟨b.toArray⟩ : ByteArray).extract s m = ⟨(b.drop s).toArray⟩ := by
  apply ByteArray.ext
  rw [ByteArray.data_extract]
  simp
  rw [List.take_of_length_le (by rw [List.length_drop]; omega)]
theorem str_four (x y z u : UInt8) (T : List UInt8) (hT : T = [x, y, z, u]) (W : World) : (convert 23 9 (.slice (some ⟨W.heap.size, 0, none⟩) 4 4)).run Try.prog (W.alloc (.cells #[.int .u8 (x.toNat : Int), .int .u8 (y.toNat : Int), .int .u8 (z.toNat : Int), .int .u8 (u.toNat : Int)] 5)) = .ok (.string ⟨T.toArray⟩) (W.alloc (.cells #[.int .u8 (x.toNat : Int), .int .u8 (y.toNat : Int), .int .u8 (z.toNat : Int), .int .u8 (u.toNat : Int)] 5)) := by
  subst hT
  exact conv_in rfl ((buf_lit W [x, y, z, u] 4 5 rfl (by decide)).toIn (Nat.le_refl _))
set_option maxRecDepth 100000 in
set_option maxHeartbeats 1000000 in
theorem rsplit_e (n : Nat) (b : List UInt8) (size : Int) (w : World) (hn : b.length = n) (hm : n < 900000) :
    Calls Try.prog 11 #[.string ⟨b.toArray⟩, .int .i64 size] w fun e w' => ∃ v, e = .returned (.tuple #[v, .int .i64 ((splitE b size).2 : Int)]) ∧ Strs w' w.heap.size v (splitE b size).1 ∧ Below w.heap.size w w' := by
  have hlen : (b.length : Int) = (n : Int) := by omega
  by_cases h1 : size < 16
  · have HZ := Lib.hid (show splitE b size = ([], 1) by unfold splitE; rw [if_pos (.inl h1)])
    clear hn
    go_enter Try.func11, Try.ntmps11
    go_wp2
    go_ret2
    exact ⟨_, by rw [HZ.out] <;> rfl, by rw [HZ.out]; exact Strs.nil _ _, Below.refl _ _⟩
  by_cases h2 : 4000 < size
  · have HZ := Lib.hid (show splitE b size = ([], 1) by unfold splitE; rw [if_pos (.inr h2)])
    clear hn
    go_enter Try.func11, Try.ntmps11
    go_wp2
    go_ret2
    exact ⟨_, by rw [HZ.out] <;> rfl, by rw [HZ.out]; exact Strs.nil _ _, Below.refl _ _⟩
  by_cases h3 : 32768 < n
  · have HZ := Lib.hid (show splitE b size = ([], 4) by unfold splitE; rw [if_neg (by omega), if_pos (by omega)])
    have hd : (32768 : Int) < (n : Int) := by omega
    clear h3 hn
    go_enter Try.func11, Try.ntmps11
    go_wp2
    go_ret2
    exact ⟨_, by rw [HZ.out] <;> rfl, by rw [HZ.out]; exact Strs.nil _ _, Below.refl _ _⟩
  obtain ⟨z, rfl⟩ : ∃ z : Nat, size = (z : Int) := ⟨size.toNat, by omega⟩
  obtain ⟨room, hroom⟩ : ∃ room, room = z - 1 := ⟨_, rfl⟩
  obtain ⟨n1, hn1⟩ : ∃ n1, n1 = n + 1 := ⟨_, rfl⟩
  have e0 : (n : Int) + 1 = (n1 : Int) := by omega
  have hd3 : ¬ (32768 : Int) < (n : Int) := by omega
  have HZ0 := Lib.hid (show splitE b (z : Int) = if b.length ≤ z - 1 then ([0 :: b], 0) else ((192 :: (be4 b.length ++ b.take (z - 5))) :: restE (z - 1) (b.drop (z - 5)), 0) by unfold splitE; rw [if_neg (by omega), if_neg (by omega), Int.toNat_natCast])
  rw [hn, ← hroom] at HZ0
  by_cases h4 : n ≤ room
  · have HZ := Lib.hid (HZ0.out.trans (if_pos h4))
    have hd4 : decide (n1 ≤ z) = true := by simp; omega
    have hap := str_cons 0 b
    have hov : ¬ 9223372036854775807 < 1 + b.length := by omega
    have HO := Lib.hid (strs_one w w.heap.size (0 :: b) (Nat.le_refl _))
    clear hn h3 hroom h4 hn1
    go_enter Try.func11, Try.ntmps11
    go_wp2
    go_ret2
    exact ⟨_, by rw [HZ.out] <;> rfl, by rw [HZ.out]; exact HO.out, (Below.refl _ _).alloc (Nat.le_refl _) _⟩
  · have HZ := Lib.hid (HZ0.out.trans (if_neg h4))
    obtain ⟨held, hheld⟩ : ∃ held, held = z - 5 := ⟨_, rfl⟩
    have e2 : (z : Int) - 5 = (held : Int) := by omega
    rw [← hheld] at HZ
    have hd4 : decide (n1 ≤ z) = false := by simp; omega
    have HRM := Lib.hid (show 1 ≤ room ∧ room < 4000 ∧ n ≤ 32768 ∧ held ≤ n ∧ room + 1 = z from ⟨by omega, by omega, by omega, by omega, by omega⟩)
    have HU1 := Lib.hid (ub_wrap ((n : Int) / 16777216))
    have HU2 := Lib.hid (ub_wrap ((n : Int) / 65536))
    have HU3 := Lib.hid (ub_wrap ((n : Int) / 256))
    have HU4 := Lib.hid (ub_wrap (n : Int))
    obtain ⟨T, hT⟩ : ∃ T, T = be4 n := ⟨_, rfl⟩
    have HT := Lib.hid (show T = [ub ((n : Int) / 16777216), ub ((n : Int) / 65536), ub ((n : Int) / 256), ub (n : Int)] from hT)
    rw [← hT] at HZ
    have hTl : T.length = 4 := by rw [hT]; rfl
    have hx1 := extract_to b held
    have hx2 := extract_from b held b.length (Nat.le_refl _)
    have hkl : (b.take held).length = held := by rw [List.length_take]; omega
    have hap1 := str_cons 192 T
    have hap2 := bytes_append (192 :: T) (b.take held)
    have hov1 : ¬ 9223372036854775807 < 1 + T.length := by omega
    have hov2 : ¬ 9223372036854775807 < T.length + 1 + min held b.length := by omega
    have hhn : (held : Int) ≤ (n : Int) := by omega
    have hh0 : (0 : Int) ≤ (held : Int) := by omega
    have hw9 : IntKind.i64.wrap (held : Int) = (held : Int) := by rw [IntKind.wrap_i64]; omega
    have HRL := Lib.hid (show (b.drop held).length = n - held by rw [List.length_drop, hn])
    have HHN := Lib.hid hn
    clear hn h3 hroom h4 hheld hn1 hT hkl hTl
    go_enter Try.func11, Try.ntmps11
    go_upto_region 8 with (fail)
    clear e0 hd3 hd4
    refine wp_region_noPanic ?_
    refine wp_region_held_drew (S := fun W => Below w.heap.size w W) (by kernel_rfl) (by exact below_drewN (Below.refl _ _) 1) (fun hHeld => ?_)
    refine wpAnyH_take (i := 0) (oi := ⟨_, _, _, _, _, _⟩) (v := ?_) rfl (by kernel_rfl) (by kernel_rfl) (by kernel_rfl) (fun _ _ _ h => h) (Or.inl ⟨by rfl, ?_⟩) hHeld ?_
    rotate_left 1
    · (intro W hSw; (try dsimp only at hSw); go_simp; try with_reducible rfl)
    try simp only [Act.put, List.setIfInBounds_toArray, List.set_cons_zero, List.set_cons_succ]
    refine wpAnyH_take (i := 1) (oi := ⟨_, _, _, _, _, _⟩) (v := ?_) rfl (by kernel_rfl) (by kernel_rfl) (by kernel_rfl) (fun _ _ _ h => h) (Or.inl ⟨by rfl, ?_⟩) hHeld ?_
    rotate_left 1
    · (intro W hSw; (try dsimp only at hSw); go_simp; try with_reducible rfl)
    try simp only [Act.put, List.setIfInBounds_toArray, List.set_cons_zero, List.set_cons_succ]
    refine wpAnyH_take (i := 2) (oi := ⟨_, _, _, _, _, _⟩) (v := ?_) rfl (by kernel_rfl) (by kernel_rfl) (by kernel_rfl) (fun _ _ _ h => h) (Or.inl ⟨by rfl, ?_⟩) hHeld ?_
    rotate_left 1
    · (intro W hSw; (try dsimp only at hSw); go_simp; try with_reducible rfl)
    try simp only [Act.put, List.setIfInBounds_toArray, List.set_cons_zero, List.set_cons_succ]
    refine wpAnyH_take (i := 3) (oi := ⟨_, _, _, _, _, _⟩) (v := ?_) rfl (by kernel_rfl) (by kernel_rfl) (by kernel_rfl) (fun _ _ _ h => h) (Or.inl ⟨by rfl, ?_⟩) hHeld ?_
    rotate_left 1
    · (intro W hSw; (try dsimp only at hSw); go_simp; try with_reducible rfl)
    try simp only [Act.put, List.setIfInBounds_toArray, List.set_cons_zero, List.set_cons_succ]
    refine wpAnyH_take (i := 4) (oi := ⟨_, _, _, _, _, _⟩) (v := ?_) rfl (by kernel_rfl) (by kernel_rfl) (by kernel_rfl) (fun _ _ _ h => h) (Or.inl ⟨by rfl, ?_⟩) hHeld ?_
    rotate_left 1
    · (intro W hSw; (try dsimp only at hSw); go_simp; try with_reducible rfl)
    try simp only [Act.put, List.setIfInBounds_toArray, List.set_cons_zero, List.set_cons_succ]
    refine wpAnyH_take (i := 5) (oi := ⟨_, _, _, _, _, _⟩) (v := ?_) rfl (by kernel_rfl) (by kernel_rfl) (by kernel_rfl) (fun _ _ _ h => h) (Or.inl ⟨by rfl, ?_⟩) hHeld ?_
    rotate_left 1
    · (intro W hSw; (try dsimp only at hSw); go_simp; try with_reducible rfl)
    try simp only [Act.put, List.setIfInBounds_toArray, List.set_cons_zero, List.set_cons_succ]
    refine wpAnyH_take (i := 6) (oi := ⟨_, _, _, _, _, _⟩) (v := ?_) rfl (by kernel_rfl) (by kernel_rfl) (by kernel_rfl) (fun _ _ _ h => h) (Or.inl ⟨by rfl, ?_⟩) hHeld ?_
    rotate_left 1
    · (intro W hSw; (try dsimp only at hSw); go_simp; try with_reducible rfl)
    try simp only [Act.put, List.setIfInBounds_toArray, List.set_cons_zero, List.set_cons_succ]
    refine wpAnyH_take (i := 7) (oi := ⟨_, _, _, _, _, _⟩) (v := ?_) rfl (by kernel_rfl) (by kernel_rfl) (by kernel_rfl) (fun _ _ _ h => h) (Or.inl ⟨by rfl, ?_⟩) hHeld ?_
    rotate_left 1
    · (intro W hSw; (try dsimp only at hSw); go_simp; try with_reducible rfl)
    try simp only [Act.put, List.setIfInBounds_toArray, List.set_cons_zero, List.set_cons_succ]
    refine wpAnyH_take (i := 8) (oi := ⟨_, _, _, _, _, _⟩) (v := ?_) rfl (by kernel_rfl) (by kernel_rfl) (by kernel_rfl) (fun _ _ _ h => h) (Or.inl ⟨by rfl, ?_⟩) hHeld ?_
    rotate_left 1
    · (intro W hSw; (try dsimp only at hSw); go_simp; try with_reducible rfl)
    try simp only [Act.put, List.setIfInBounds_toArray, List.set_cons_zero, List.set_cons_succ]
    refine wpAnyH_take (i := 9) (oi := ⟨_, _, _, _, _, _⟩) (v := ?_) rfl (by kernel_rfl) (by kernel_rfl) (by kernel_rfl) (fun _ _ _ h => h) (Or.inl ⟨by rfl, ?_⟩) hHeld ?_
    rotate_left 1
    · (intro W hSw; (try dsimp only at hSw); go_simp; try with_reducible rfl)
    try simp only [Act.put, List.setIfInBounds_toArray, List.set_cons_zero, List.set_cons_succ]
    refine wpAnyH_take (i := 10) (oi := ⟨_, _, _, _, _, _⟩) (v := ?_) rfl (by kernel_rfl) (by kernel_rfl) (by kernel_rfl) (fun _ _ _ h => h) (Or.inl ⟨by rfl, ?_⟩) hHeld ?_
    rotate_left 1
    · (intro W hSw; (try dsimp only at hSw); go_simp; try with_reducible rfl)
    try simp only [Act.put, List.setIfInBounds_toArray, List.set_cons_zero, List.set_cons_succ]
    refine wpAnyH_take (i := 14) (oi := ⟨_, _, _, _, _, _⟩) (v := ?_) rfl (by kernel_rfl) (by kernel_rfl) (by kernel_rfl) (fun _ _ _ h => h) (Or.inl ⟨by rfl, ?_⟩) hHeld ?_
    rotate_left 1
    · (intro W hSw; (try dsimp only at hSw); go_simp; try with_reducible rfl)
    try simp only [Act.put, List.setIfInBounds_toArray, List.set_cons_zero, List.set_cons_succ]
    refine wpAnyH_take (i := 15) (oi := ⟨_, _, _, _, _, _⟩) (v := ?_) rfl (by kernel_rfl) (by kernel_rfl) (by kernel_rfl) (fun _ _ _ h => h) (Or.inl ⟨by rfl, ?_⟩) hHeld ?_
    rotate_left 1
    · (intro W hSw; (try dsimp only at hSw); go_simp; try with_reducible rfl)
    try simp only [Act.put, List.setIfInBounds_toArray, List.set_cons_zero, List.set_cons_succ]
    refine wpAnyH_take (i := 16) (oi := ⟨_, _, _, _, _, _⟩) (v := ?_) rfl (by kernel_rfl) (by kernel_rfl) (by kernel_rfl) (fun _ _ _ h => h) (Or.inl ⟨by rfl, ?_⟩) hHeld ?_
    rotate_left 1
    · (intro W hSw; (try dsimp only at hSw); go_simp; try with_reducible rfl)
    try simp only [Act.put, List.setIfInBounds_toArray, List.set_cons_zero, List.set_cons_succ]
    refine wpAnyH_take (i := 17) (oi := ⟨_, _, _, _, _, _⟩) (v := ?_) rfl (by kernel_rfl) (by kernel_rfl) (by kernel_rfl) (fun _ _ _ h => h) (Or.inl ⟨by rfl, ?_⟩) hHeld ?_
    rotate_left 1
    · (intro W hSw; (try dsimp only at hSw); go_simp; try with_reducible rfl)
    try simp only [Act.put, List.setIfInBounds_toArray, List.set_cons_zero, List.set_cons_succ]
    replace hHeld : Below w.heap.size w w.drew := hHeld
    generalize w.drew = wd at *
    have hz := hHeld.size
    try simp only [HU1.out, HU2.out, HU3.out, HU4.out]
    refine wpAnyH_ready (rs := [11]) (by kernel_rfl) (by simp) ?_
    refine AllReadyH.cons (o := ⟨_, _, _, _, _, _⟩) rfl (fun K hK => ?_) AllReadyH.nil
    go_simp
    try simp only [HU1.out, HU2.out, HU3.out, HU4.out]
    have h4 := str_four _ _ _ _ T HT.out wd
    refine hK.out _ _ (hHeld.alloc hz _) (fun hHeld => ?_)
    clear hK K
    try simp only [Act.put, List.setIfInBounds_toArray, List.set_cons_zero, List.set_cons_succ]
    refine wpAnyH_ready (rs := [12]) (by kernel_rfl) (by simp) ?_
    refine AllReadyH.cons (o := ⟨_, _, _, _, _, _⟩) rfl (fun K hK => ?_) AllReadyH.nil
    go_simp
    refine hK.out _ _ hHeld (fun hHeld => ?_)
    clear hK K h4
    try simp only [Act.put, List.setIfInBounds_toArray, List.set_cons_zero, List.set_cons_succ]
    refine wpAnyH_take (i := 13) (oi := ⟨_, _, _, _, _, _⟩) (v := ?_) rfl (by kernel_rfl) (by kernel_rfl) (by kernel_rfl) (fun _ _ _ h => h) (Or.inl ⟨by rfl, ?_⟩) hHeld ?_
    rotate_left 1
    · (intro W hSw; (try dsimp only at hSw); go_simp; try with_reducible rfl)
    try simp only [Act.put, List.setIfInBounds_toArray, List.set_cons_zero, List.set_cons_succ]
    refine wpAnyH_take (i := 18) (oi := ⟨_, _, _, _, _, _⟩) (v := ?_) rfl (by kernel_rfl) (by kernel_rfl) (by kernel_rfl) (fun _ _ _ h => h) (Or.inl ⟨by rfl, ?_⟩) hHeld ?_
    rotate_left 1
    · (intro W hSw; (try dsimp only at hSw); go_simp; try with_reducible rfl)
    try simp only [Act.put, List.setIfInBounds_toArray, List.set_cons_zero, List.set_cons_succ]
    obtain ⟨wf, hwf⟩ : ∃ wf, wd.alloc (.cells #[.int .u8 ((ub ((n : Int) / 16777216)).toNat : Int), .int .u8 ((ub ((n : Int) / 65536)).toNat : Int), .int .u8 ((ub ((n : Int) / 256)).toNat : Int), .int .u8 ((ub (n : Int)).toNat : Int)] 5) = wf := ⟨_, rfl⟩
    rw [hwf] at hHeld ⊢
    clear hwf
    refine wpAnyH_ready (rs := [19]) (by kernel_rfl) (by simp) ?_
    refine AllReadyH.cons (o := ⟨_, _, _, _, _, _⟩) rfl (fun K hK => ?_) AllReadyH.nil
    go_simp
    refine hK.out _ _ (hHeld.alloc hHeld.size _) (fun hHeld2 => ?_)
    clear hK K
    try simp only [Act.put, List.setIfInBounds_toArray, List.set_cons_zero, List.set_cons_succ]
    refine wpAnyH_take (i := 20) (oi := ⟨_, _, _, _, _, _⟩) (v := ?_) rfl (by kernel_rfl) (by kernel_rfl) (by kernel_rfl) (fun _ _ _ h => h) (Or.inl ⟨by rfl, ?_⟩) hHeld2 ?_
    rotate_left 1
    · (intro W hSw; (try dsimp only at hSw); go_simp; try with_reducible rfl)
    try simp only [Act.put, List.setIfInBounds_toArray, List.set_cons_zero, List.set_cons_succ]
    refine wpAnyH_done (by kernel_rfl) ?_ _
    refine NoPanic.normal ?_
    have HST := Lib.hid (strs_one wf w.heap.size (192 :: (T ++ b.take held)) hHeld.size)
    replace hHeld2 : Below w.heap.size w (wf.alloc (.cells #[.string ⟨(192 :: (T ++ b.take held)).toArray⟩] 9)) := hHeld2
    have HB2 := Lib.hid hHeld2
    clear hap1 hap2 hov1 hov2 hx1 hHeld hHeld2 hz hw9
    generalize wf.alloc (.cells #[.string ⟨(192 :: (T ++ b.take held)).toArray⟩] 9) = w3 at *
    go_upto_region 10 with (fail)
    obtain ⟨n9, hn9⟩ : ∃ n9, n9 = n - held := ⟨_, rfl⟩
    rw [← hn9] at HRL
    have e3 : (z : Int) - 1 = (room : Int) := by have := HRM.out; omega
    have HP9 := Lib.hid (show n9 ≤ 32768 by have := HRM.out; omega)
    clear e2 hx2 hhn hh0 hlen hn9
    go_loopw [0, 7] (fun r v wr => ∃ (P : List (List UInt8)) (n' : Nat) (R : List UInt8), r = .string ⟨R.toArray⟩ ∧ Hid (R.length = n') ∧ Strs wr w.heap.size v P ∧ Hid (P ++ restE room R = (192 :: (T ++ b.take held)) :: restE room (b.drop held)) ∧ Below w.heap.size w wr ∧ P.length + n' ≤ 40000) (fun r _ _ => bLen r)
    case atStart => exact ⟨[192 :: (T ++ b.take held)], n9, b.drop held, rfl, HRL, HST.out, Lib.hid rfl, HB2.out, by have := HP9.out; simp; omega⟩
    case round =>
      obtain ⟨P, n', R, rfl, HRN, hP, HPR, hbw, hpn⟩ := hrel
      have hlr : (R.length : Int) = (n' : Int) := by rw [HRN.out]
      by_cases hlt : room < n'
      · have hd : decide (room < n') = true := by simpa using hlt
        have hx1 := extract_to R room
        have hx2 := extract_from R room R.length (Nat.le_refl _)
        have hap := str_cons 64 (R.take room)
        have hov : ¬ 9223372036854775807 < 1 + min room R.length := by omega
        have hr0 : (0 : Int) ≤ (room : Int) := by omega
        have hrn : (room : Int) ≤ (n' : Int) := by omega
        have HPP := Lib.hid hP
        have HPL := Lib.hid (show P.length ≤ 1000000 by omega)
        have HNX := Lib.hid (show restE room R = (64 :: R.take room) :: restE room (R.drop room) from restE_more (by have := HRM.out; omega) (by rw [HRN.out]; exact hlt))
        have HXX := Lib.hid (And.intro hpn (And.intro hlt hbw))
        clear hP hlt hpn hbw
        go_wp2_with ((with_reducible refine (?_ : wpList _ _ _ (Oper.mk (some 63) _ _ _ _ _ :: _) _ _)); go_loud (refine wpList_append_str rfl (.tmp 56) (.tmp 62) rfl w.heap.size _ P rfl HPP.out ((Below.refl wr.heap.size wr).alloc (Nat.le_refl _) (.cells #[.string ⟨(64 :: R.take room).toArray⟩] 9)) (HXX.out.2.2).size wr.heap.size rfl (64 :: R.take room) ((Blk.new_of wr 9 #[.string ⟨(64 :: R.take room).toArray⟩] _ rfl).cell 0) HPL.out ?_); intro v6 w6 hR6 hb6)
        have hbz : Below w.heap.size wr w6 := (((Below.refl wr.heap.size wr).alloc (Nat.le_refl _) (.cells #[.string ⟨(64 :: R.take room).toArray⟩] 9)).mono HXX.out.2.2.size).trans hb6
        have hbwz := HXX.out.2.2.trans hbz
        have HLR := Lib.hid (show (R.drop room).length = n' - room by rw [List.length_drop, HRN.out])
        have HPZ := Lib.hid (show (P ++ [64 :: R.take room]) ++ restE room (R.drop room) = (192 :: (T ++ b.take held)) :: restE room (b.drop held) by rw [List.append_assoc]; show P ++ ((64 :: R.take room) :: restE room (R.drop room)) = _; rw [← HNX.out]; exact HPR.out)
        have HPN := Lib.hid (show (P ++ [64 :: R.take room]).length + (n' - room) ≤ 40000 by have := HXX.out; have := HRM.out; rw [List.length_append, List.length_singleton]; omega)
        have HMS := Lib.hid (show (R.drop room).length < R.length by rw [HLR.out, HRN.out]; have := HXX.out; have := HRM.out; omega)
        go_roundw
        case rel => exact ⟨P ++ [64 :: R.take room], _, R.drop room, rfl, HLR, hR6, HPZ, hbwz, HPN.out⟩
        case measure => simpa [bLen] using HMS.out
      · have hd : decide (room < n') = false := by simpa using hlt
        have hap := str_cons 0 R
        have hov : ¬ 9223372036854775807 < 1 + R.length := by have := HRN.out; omega
        have HPP := Lib.hid hP
        have HPL := Lib.hid (show P.length ≤ 1000000 by omega)
        have HNX := Lib.hid (show restE room R = [0 :: R] from restE_last (by rw [HRN.out]; exact hlt))
        have HBW := Lib.hid hbw
        clear hP hlt hpn hbw
        go_wp2_with ((with_reducible refine (?_ : wpList _ _ _ (Oper.mk (some 72) _ _ _ _ _ :: _) _ _)); go_loud (refine wpList_append_str rfl (.tmp 68) (.tmp 71) rfl w.heap.size _ P rfl HPP.out ((Below.refl wr.heap.size wr).alloc (Nat.le_refl _) (.cells #[.string ⟨(0 :: R).toArray⟩] 9)) HBW.out.size wr.heap.size rfl (0 :: R) ((Blk.new_of wr 9 #[.string ⟨(0 :: R).toArray⟩] _ rfl).cell 0) HPL.out ?_); intro v6 w6 hR6 hb6)
        go_ret2
        have hbz : Below w.heap.size wr w6 := (((Below.refl wr.heap.size wr).alloc (Nat.le_refl _) (.cells #[.string ⟨(0 :: R).toArray⟩] 9)).mono HBW.out.size).trans hb6
        refine ⟨_, by rw [HZ.out] <;> rfl, ?_, HBW.out.trans hbz⟩
        rw [HZ.out]
        have := HPR.out
        rw [HNX.out] at this
        show Strs w6 w.heap.size v6 ((192 :: (T ++ b.take held)) :: restE room (b.drop held))
        rw [← this]
        exact hR6
end Go.Proofs.Ytjachohgffnbiaa
