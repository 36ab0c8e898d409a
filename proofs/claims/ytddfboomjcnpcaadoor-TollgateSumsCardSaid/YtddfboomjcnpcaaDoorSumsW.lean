/-
  The walk of the statement TollgateSums.
-/
import Derived.Test.YtddfboomjcnpcaaDoorFew
import Derived.Test.YtddfboomjcnpcaaDoorLabelAll
import Derived.Test.YtddfboomjcnpcaaDoorLabelsW
import Derived.Test.YtddfboomjcnpcaaDoorCopy
namespace Go.Proofs.YtddfboomjcnpcaaDoor
open Go.RowKit

theorem in_weaken {w : World} {B B' c : Nat} {A : Option Addr} {xs : List UInt8} (h : In w B A c xs) (hB : B ≤ B') : In w B' A c xs :=
  ⟨h.1, h.2.1, fun h0 => by
    obtain ⟨gb, ob, e, hb, hby⟩ := h.2.2 h0
    exact ⟨gb, ob, e, by omega, hby⟩⟩

set_option maxRecDepth 100000 in
set_option maxHeartbeats 600000 in
theorem stands_any (w : World) (ht : Tabs w) :
    Calls Tryd.prog 41 #[] w fun e w' => e = .returned (.bool true) ∧ Below w.heap.size w w' := by
  have kc := fun (w : World) (C : Array Value) (n c : Nat) => Lib.run_convert_bytes_const (P := Tryd.prog) w 27 5 C n c Tryd.underlying27 Tryd.underlying5
  have ht0 := ht.lt0
  have ht1 := ht.lt1
  go_enter Tryd.func41, Tryd.ntmps41
  go_wp2_with fail
  clear kc
  have hb0 : ∀ X : Obj, Below w.heap.size w (w.alloc X) := fun X => (Below.refl _ _).alloc (Nat.le_refl _) _
  have hB := Blk.new_of w 5 #[.int .u8 97, .int .u8 98, .int .u8 99] (([97, 98, 99] : List UInt8).map B8) rfl
  have hin : In (w.alloc (.cells #[.int .u8 97, .int .u8 98, .int .u8 99] 5 (3, 4))) (w.heap.size + 1) (some ⟨w.heap.size, 0, none⟩) 3 [97, 98, 99] := ⟨by decide, by decide, fun _ => ⟨w.heap.size, 0, rfl, Nat.lt_succ_self _, fun i hi => by
    refine (cell_of_row _ w.heap.size (0 + i) _ _ _ (heap_alloc_new w _)).trans ?_
    obtain rfl | rfl | rfl : i = 0 ∨ i = 1 ∨ i = 2 := by have : i < 3 := hi; omega
    · rfl
    · rfl
    · rfl⟩⟩
  refine (of_one (b := [97, 98, 99]) (B := w.heap.size + 1) rfl (by decide) (ht.below ((hb0 _).alloc (by simp) _)) (cell2 _ _ _ _) (hin.below ((Below.refl _ _).alloc (by simp) _)) (by simp)).mono ?_
  rintro e w1 ⟨rfl, hb1⟩
  have hb2 : Below w.heap.size w w1 := ((hb0 _).alloc (by simp) _).trans (hb1.mono (by simp; omega))
  clear hb1 hin hB hb0
  obtain ⟨X, hX⟩ : ∃ X, X = sha [97, 98, 99] := ⟨_, rfl⟩
  rw [← hX]
  have hl : X.length = 32 := by rw [hX]; exact sha_length _
  have x0 : X.getD 0 0 = 186 := by rw [hX, sha_abc]; rfl
  have x31 : X.getD 31 0 = 173 := by rw [hX, sha_abc]; rfl
  have HL := Lib.hid hl
  have X0 := Lib.hid x0
  have X31 := Lib.hid x31
  clear hX hl x0 x31
  go_wp2_with (refine wpList_store_blk rfl 29 (.tmp 1) (.tmp 5) rfl rfl w1.heap.size _ rfl rfl 29 ((List.replicate 32 (0 : UInt8)).map B8) (Blk.new_of w1 _ _ _ (by rfl)) (info32.trans (by rw [List.length_map, HL.out])) (by rw [List.length_map, List.length_map, HL.out]; rfl) (one8 _) ?_; intro w2 hs2 hg2; have c0 := hs2.at8 0 (by rw [HL.out]; decide); rw [X0.out] at c0; have c31 := hs2.at8 31 (by rw [HL.out]; decide); rw [X31.out] at c31)
  go_ret
  exact ⟨rfl, below_new (hb2.alloc hb2.size _) hg2 hb2.size (by have := hb2.size; simp; omega)⟩

set_option maxRecDepth 100000 in
set_option maxHeartbeats 4000000 in
theorem sums_walk (A : Option Addr) (c : Nat) (ps : List (List UInt8)) (lab : List UInt8) (w : World) (hA : PIn w w.heap.size A c ps) (ht : Tabs w) :
    Calls Tryd.prog 12 #[.slice A ps.length c, .string ⟨lab.toArray⟩] w fun e w' => e = .returned (.bool true) ∧ Below w.heap.size w w' := by
  have ms : min (lab.length : Int) 100 = ((lab.take 100).length : Int) := by rw [List.length_take]; omega
  have ls2 : (lab.take 100).length ≤ 100 := by rw [List.length_take]; omega
  have ls3 : (lab.take 100).length ≤ lab.length := by rw [List.length_take]; omega
  obtain ⟨lb, hlb⟩ : ∃ lb, lb = lab.take 100 := ⟨_, rfl⟩
  have hex : (⟨lab.toArray⟩ : ByteArray).extract 0 lb.length = ⟨lb.toArray⟩ := by
    rw [extract_str, hlb]; simp [List.take_eq_take_iff]
  rw [← hlb] at ms ls2 ls3
  clear hlb
  have hq1 := few_length 6 60 ps
  have hq2 := few_flatten_le 6 60 ps
  obtain ⟨qs, hq⟩ : ∃ qs, few 6 60 ps = qs := ⟨_, rfl⟩
  rw [hq] at hq1 hq2
  have HQ := Lib.hid hq
  clear hq
  go_enter Tryd.func12, Tryd.ntmps12
  go_wp2_with fail
  refine (few_here (m := 6) (e := 60) hA (by decide) (by decide) HQ.out).mono ?_
  rintro r w1 ⟨A1, c1, rfl, hr1, hp1, hb1⟩
  clear hr1 hA
  go_wp2_with fail
  refine (new_any _).mono ?_
  rintro e w2 ⟨rfl, hs2, hb2⟩
  have hs := HeldN.new hs2
  have hp2 := hp1.below hb2
  have hb02 := hb1.trans (hb2.mono hb1.size)
  have hgs := hb1.size
  have hlt2 := hs.lt
  generalize w1.heap.size = gs at *
  clear hs2 hp1 hb1 hb2 ms ls3 hex
  go_wp2
  have ht0 := ht.lt0
  have ht1 := ht.lt1
  go_loopw [7, 8] (fun al i wr => ∃ k : Nat, k ≤ qs.length ∧ i = .int .i64 (k : Int) ∧ al = .string ⟨(qs.take k).flatten.toArray⟩ ∧ HeldN wr gs 67 (qs.take k).flatten ∧ PIn wr gs A1 c1 qs ∧ Below w.heap.size w wr) (fun _ i _ => qs.length - (intOf i).toNat)
  case atStart => exact ⟨0, by omega, rfl, rfl, hs, hp2, hb02⟩
  case round =>
    clear hs hp2 hb02 hlt2
    obtain ⟨k, hk, rfl, rfl, hs, hp, hb⟩ := hrel
    have hlw := hs.lt
    by_cases hlt : k < qs.length
    · have hd1 : decide ((k : Int) < (qs.length : Int)) = true := by simp; omega
      have hk0 : (0 : Int) ≤ (k : Int) := by omega
      have hkl : (k : Int) < (qs.length : Int) := by omega
      obtain ⟨hpc, hpm, hpe⟩ := id hp
      obtain ⟨gp, op, rfl, hgp, hj⟩ := hpe (by omega)
      obtain ⟨Aj, cj, hc, hi⟩ := hj k hlt
      have HF := Lib.hid (flatten_snoc qs k hlt)
      have hle := flatten_le qs (k + 1)
      rw [HF.out, List.length_append] at hle
      obtain ⟨y, hy⟩ : ∃ y, y = qs.getD k [] := ⟨_, rfl⟩
      rw [← hy] at hc hi HF hle
      clear hy hj hpe
      generalize (qs.take k).flatten = M at *
      have hyl : y.length ≤ 360 := by omega
      have hMl : M.length ≤ 360 := by omega
      have hMy : M.length + y.length ≤ 360 := by omega
      have hbs := hb.size
      obtain ⟨hyc, hyd, _⟩ := id hi
      go_wp2_with fail
      refine (Put_any gs 1 _ M [y] _ (by simp only [List.flatten_cons, List.flatten_nil, List.append_nil]; omega) (by simp) (by omega) (parts1 27 hi (by omega) (Nat.le_refl _)) (hs.alloc _) ((ht.below hb).below ((Below.refl _ _).alloc (Nat.le_refl _) _)) (by omega) (by omega)).mono ?_
      rintro e w4 ⟨rfl, hg4, hh4⟩
      have hs4 := HeldN.of_held hh4
      simp only [List.flatten_cons, List.flatten_nil, List.append_nil] at hs4
      have hbg : Below gs wr w4 := below_new ((Below.refl gs wr).alloc (by omega) _) hg4 (Nat.le_refl _) (by simp; omega)
      have hb4 := below_new (hb.alloc hb.size _) hg4 hgs (by simp; omega)
      have hp4 := hp.below hbg
      have hi4 := hi.below hbg
      have hc4 := (hbg.cell (p := ⟨gp, op + k, none⟩) hgp).trans hc
      have hl4 := hs4.lt
      clear hh4 hg4 hs hp hi hc hb hbg hlw
      have hcl1 : ¬ 9223372036854775807 < M.length + y.length := by omega
      have hsy4 := hi4.src (g := gs) (Nat.le_refl _)
      have hiU : In w4 w4.heap.size Aj cj y := in_weaken hi4 (Nat.le_of_lt hl4)
      have hnil : In w4 w4.heap.size none 0 [] := ⟨Nat.le_refl _, by omega, fun h => absurd h (by simp)⟩
      have hx : Calls Tryd.prog 38 #[.slice none 0 0, .slice Aj y.length cj] w4 fun e w' => e = .returned (.agg ((hmac [] y).map B8).toArray) ∧ Below w4.heap.size w4 w' := extract_any none Aj 0 cj w4.heap.size [] y w4 (Nat.le_refl _) hnil hiU (by decide) (by omega) (ht.below hb4)
      obtain ⟨kx, hkx⟩ : ∃ kx, kx = hmac [] y := ⟨_, rfl⟩
      have hkl2 : kx.length = 32 := by rw [hkx]; exact hmac_length _ _
      rw [← hkx] at hx
      have HX := Lib.hid hx
      have HKX := Lib.hid hkx
      have HKL := Lib.hid hkl2
      clear hkx hkl2 hnil hx
      go_wp2_with ((with_reducible refine (?_ : wpList _ _ _ (Oper.mk (some 39) _ _ _ _ _ :: _) _ _)); go_loud (refine wpList_string_of rfl (.tmp 38) rfl y Aj cj gs rfl hsy4 ?_))
      refine HX.out.mono ?_
      rintro e w5 ⟨rfl, hb45⟩
      have hs5 := hs4.below hb45
      have hiU5 := hiU.up hb45
      have hc5 := (hb45.cell (p := ⟨gp, op + k, none⟩) (by show gp < _; omega)).trans hc4
      have hp5 := hp4.below (hb45.mono (Nat.le_of_lt hl4))
      have hb5 := hb4.trans (hb45.mono hb4.size)
      have hl5 := hs5.lt
      have hz45 := hb45.size
      clear hb45 hs4 hiU hc4 hp4 hb4 hsy4 hi4
      go_wp2_with ((with_reducible refine (?_ : wpList _ _ _ (Oper.mk none (.store 29 (.tmp 9) _) _ _ _ _ :: _) _ _)); go_loud (refine wpList_store_blk rfl 29 (.tmp 9) (.tmp 45) rfl rfl w5.heap.size _ rfl rfl 29 _ (Blk.new_of w5 29 _ ((List.replicate 32 (0 : UInt8)).map B8) (by rfl)) (info32.trans (by rw [List.length_map, HKL.out])) (by rw [List.length_map, List.length_map, HKL.out]; rfl) (one8 _) ?_); intro w6 hK6 hg6)
      have hb56 : Below w5.heap.size w5 w6 := below_new ((Below.refl _ _).alloc (Nat.le_refl _) _) hg6 (Nat.le_refl _) (by simp)
      have hs6 := hs5.below hb56
      have hiU6 := hiU5.up hb56
      have hc6 := (hb56.cell (p := ⟨gp, op + k, none⟩) (by show gp < _; omega)).trans hc5
      have hp6 := hp5.below (hb56.mono (Nat.le_of_lt hl5))
      have hb6 := hb5.trans (hb56.mono hb5.size)
      have hl6 := hs6.lt
      have hz56 := hb56.size
      clear hb56 hs5 hiU5 hc5 hp5 hb5 hg6
      have hMl2 : (M ++ y).length < 549755813888 := by rw [List.length_append]; omega
      have hsm := fun (W : World) (h : Below w6.heap.size w6 W) => Sum_held gs (M ++ y) W hMl2 (hs6.below h) ((ht.below hb6).below h)
      obtain ⟨sm, hsmd⟩ : ∃ sm, sm = sha (M ++ y) := ⟨_, rfl⟩
      have hsl : sm.length = 32 := by rw [hsmd]; exact sha_length _
      rw [← hsmd] at hsm
      have hdv := fun (W : World) (h : Below w6.heap.size w6 W) => derive_any kx lb sm W HKL.out hsl (by omega) ((ht.below hb6).below h)
      obtain ⟨d, hd⟩ : ∃ d, d = expand kx (labelInfo lb sm 32) 32 := ⟨_, rfl⟩
      have hdl : d.length = 32 := by rw [hd]; exact expand_length _ _ _
      rw [← hd] at hdv
      have hrl := fun (W : World) => refLabel_any 32 kx lb sm W (by rw [HKL.out]; decide) (by decide) (by omega) (by rw [hsl]; decide)
      rw [← hd] at hrl
      have hrs := fun (W : World) => refSum_any (M ++ y) W hMl2
      rw [← hsmd] at hrs
      have hrm : ∀ W : World, Calls Tryd.prog 42 #[.string ⟨#[]⟩, .string ⟨y.toArray⟩] W fun e w' => e = .returned (.string ⟨(hmac [] y).toArray⟩) ∧ Below W.heap.size W w' := fun (W : World) => refMac_any [] y W (by decide) (by omega)
      rw [← HKX.out] at hrm
      have HSM := Lib.hid hsm
      have HDV := Lib.hid hdv
      have HRL := Lib.hid hrl
      have HRS := Lib.hid hrs
      have HRM := Lib.hid hrm
      have HDL := Lib.hid hdl
      have hlk := hK6.lt
      have HR := Lib.hid (fun (W : World) (h : Below w6.heap.size w6 W) => rangeAt_of_blk (hK6.below h hlk))
      have hu := Tryd.underlying29
      have hi32 : (Tryd.prog.info? 29).map (·.size) = some (kx.map B8).length := info32.trans (by rw [List.length_map, HKL.out])
      clear hsm hsmd hsl hdv hd hdl hrl hrs hrm HX hMl2
      go_wp2_with fail
      apply wp_region_once_tail (m := 6) (D := [[], [], [], [2], [0, 1, 2, 3], [], [0, 1, 2, 3, 4, 5]]) (J := [[], [], [], [2], [0, 1, 3], []]) (Je := [4, 5]) (Rs := [Is _, Is _, Is _, Is _, Is _, fun v V => ∃ g, v = .pointer (some ⟨g, 0, none⟩) ∧ w6.heap.size ≤ g ∧ Blk V g 29 ((List.replicate 32 (0 : UInt8)).map B8)])
      · kernel_rfl
      · kernel_rfl
      · kernel_rfl
      · kernel_rfl
      · kernel_rfl
      · kernel_rfl
      · intro u
        simp only [List.take_succ_cons, List.take_zero, List.map_cons, List.map_nil, fillU, List.setIfInBounds_toArray, List.set_cons_zero, List.set_cons_succ, Nat.zero_add, Nat.reduceAdd]
        exact rfl
      · simp only [List.take_succ_cons, List.take_zero]
        refine ⟨fun u W hb hd K hK => ?_, ?_⟩
        · clear hd
          rw [if_pos (by rfl)]
          refine wp_load_mid 29 (.tmp 9) rfl (w5.heap.size) 0 rfl (kx.map B8) _ (HR.out W hb) hu rfl hi32 ?_
          exact hK _ _ _ rfl (Below.refl _ _) IsOut
        refine ⟨fun u W hb hd K hK => ?_, ?_⟩
        · clear hd
          go_simp
          apply hK
          · simp only [Act.put, List.setIfInBounds_toArray, List.set_cons_zero, List.set_cons_succ]
            exact rfl
          · exact Below.refl _ _
          · exact IsOut
        refine ⟨fun u W hb hd K hK => ?_, ?_⟩
        · clear hd
          go_simp
          apply hK
          · simp only [Act.put, List.setIfInBounds_toArray, List.set_cons_zero, List.set_cons_succ]
            exact rfl
          · exact Below.refl _ _
          · exact IsOut
        refine ⟨fun u W hb hd K hK => ?_, ?_⟩
        · simp only [Facts, nthR, Is, and_true] at hd
          simp only [hd] at hK ⊢
          clear hd
          go_simp
          refine (HSM.out W hb).mono ?_
          rintro e wy ⟨rfl, hby⟩
          exact hK _ _ _ rfl hby IsOut
        refine ⟨fun u W hb hd K hK => ?_, ?_⟩
        · simp only [Facts, nthR, Is, and_true] at hd
          simp only [hd] at hK ⊢
          clear hd
          go_simp
          refine (HDV.out W hb).mono ?_
          rintro e wy ⟨rfl, hby⟩
          exact hK _ _ _ rfl hby IsOut
        refine ⟨fun u W hb hd K hK => ?_, ?_⟩
        · clear hd
          go_simp
          apply hK
          · simp only [Act.put, List.setIfInBounds_toArray, List.set_cons_zero, List.set_cons_succ]
            exact rfl
          · exact (Below.refl _ _).alloc (Nat.le_refl _) _
          · exact ⟨_, rfl, hb.size, Blk.new_of _ _ _ _ (by rfl)⟩
        exact trivial
      · exact (.is (.is (.is (.is (.is (.cons (fun v V V' ⟨g, h1, h2, h3⟩ hb => ⟨g, h1, h2, h3.below hb h3.lt⟩) .nil))))))
      · intro u W hb hd
        simp only [List.drop_succ_cons, List.drop_zero]
        simp only [Facts, nthR, Is, and_true] at hd
        obtain ⟨hd4, g, hd5, hgl, hG⟩ := hd
        simp only [hd4, hd5]
        clear hd4 hd5
        refine wpList_store_blk rfl 29 (.tmp 10) (.tmp 50) rfl rfl g _ rfl rfl 29 _ hG (info32.trans (by rw [List.length_map, HDL.out])) (by rw [List.length_map, List.length_map, HDL.out]; rfl) (one8 _) ?_
        intro w7 hD7 hg7
        have hb67 : Below w6.heap.size w6 w7 := below_new hb hg7 hgl hb.size
        have hs7 := hs6.below hb67
        have hiU7 := hiU6.up hb67
        have hc7 := (hb67.cell (p := ⟨gp, op + k, none⟩) (by show gp < _; omega)).trans hc6
        have hp7 := hp6.below (hb67.mono (Nat.le_of_lt hl6))
        have hb7 := hb6.trans (hb67.mono hb6.size)
        have hl7 := hs7.lt
        have hz67 := hb67.size
        have hsy7 := hiU7.src (Nat.le_refl _)
        clear hb67 hs6 hiU6 hc6 hp6 hb6 hg7 hG hb hu hi32
        go_wp2_with ((with_reducible refine (?_ : wpList _ _ _ (Oper.mk (some 56) _ _ _ _ _ :: _) _ _)); go_loud (refine wpList_string_of rfl (.tmp 55) rfl y Aj cj w7.heap.size rfl hsy7 ?_))
        refine (HRM.out _).mono ?_
        rintro e w8 ⟨rfl, hb8⟩
        go_wp2_with fail
        rw [bytes_append]
        refine (HRS.out _).mono ?_
        rintro e w9 ⟨rfl, hb9⟩
        go_wp2_with fail
        refine (HRL.out _).mono ?_
        rintro e wx ⟨rfl, hbx⟩
        have hbA := (hb8.trans (hb9.mono hb8.size)).trans (hbx.mono (hb8.trans (hb9.mono hb8.size)).size)
        have hsA := hs7.below hbA
        have hpA := hp7.below (hbA.mono (Nat.le_of_lt hl7))
        have hDA := hD7.below hbA hD7.lt
        have hbB := hb7.trans (hbA.mono hb7.size)
        have iD := (blk_in hDA HDL.out (by omega)).src (Nat.le_refl _)
        clear hb8 hb9 hbx hbA hs7 hp7 hD7 hb7 hsy7 hiU7 hc7
        go_wp2_with ((with_reducible refine (?_ : wpList _ _ _ (Oper.mk (some 65) _ _ _ _ _ :: _) _ _)); go_loud (refine wpList_string_of rfl (.tmp 64) rfl d (some ⟨g, 0, none⟩) 32 wx.heap.size (by rw [HDL.out]; rfl) iD ?_))
        go_roundw
        case rel => exact ⟨k + 1, by omega, by go_num, by rw [HF.out], by rw [HF.out]; exact hsA, hpA, hbB⟩
        case measure => simp [intOf]; omega
    · have hd1 : decide ((k : Int) < (qs.length : Int)) = false := by simp; omega
      go_wp2_with fail
      refine (stands_any _ (ht.below hb)).mono ?_
      rintro e w3 ⟨rfl, hb3⟩
      have hfin := hb.trans (hb3.mono hb.size)
      clear hb hb3
      go_wp2
      go_ret
      exact ⟨rfl, hfin⟩
end Go.Proofs.YtddfboomjcnpcaaDoor
